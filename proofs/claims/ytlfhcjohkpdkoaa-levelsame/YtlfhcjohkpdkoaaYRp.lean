/- slices.Repeat of one number. -/
import Derived.Test.YtlfhcjohkpdkoaaYWd
import Derived.Test.YtlfhcjohkpdkoaaCRp
namespace Go.Proofs.Ytlfhcjohkpdkoaa
open Go.ChangeShapes Go.WideShapes Go.ChangeAt Go.RowKit Go.Joins Y
set_option linter.unusedSimpArgs false
set_option linter.unusedVariables false
set_option maxRecDepth 100000
set_option maxHeartbeats 40000000
def m64S : Say
  | [.int .u64 x, .int .u64 y] => some ((0 ≤ x ∧ x ≤ 4294967295) ∧ (0 ≤ y ∧ y ≤ 4294967295), .tup [.int .u64 0, .int .u64 (x * y)], none)
  | _ => none
theorem m64_ok : FOk Try.prog 90 m64S := by
  intro xs p r own h hp
  unfold m64S at h
  split at h
  · rename_i x y
    simp only [Option.some.injEq, Prod.mk.injEq] at h
    obtain ⟨rfl, rfl, rfl⟩ := h
    refine take_ok (by decide) (fun_is Try.func90 (by kernel_rfl) (by kernel_rfl)) fun A w vs hvs => ?_
    obtain ⟨u, v, rfl, hu, hv⟩ := args2 hvs
    rw [hu.int_inv, hv.int_inv]
    obtain ⟨⟨p1, p2⟩, p3, p4⟩ := hp
    obtain ⟨X, rfl⟩ := Int.eq_ofNat_of_zero_le p1
    obtain ⟨Y, rfl⟩ := Int.eq_ofNat_of_zero_le p3
    have hm : X * Y ≤ 4294967295 * 4294967295 := Nat.mul_le_mul (by omega) (by omega)
    have h1 : hiN (X * Y) = 0 := hiN_of_word (by unfold Word; omega)
    have h2 : loN (X * Y) = X * Y := loN_of_word (by unfold Word; omega)
    rw [← Int.natCast_mul]
    refine (mul64_any X Y w (by unfold Word; omega) (by unfold Word; omega)).mono fun e w' ⟨he, hw⟩ => ⟨hw ▸ Below.refl _ _, _, he, fun E => ?_⟩
    rw [h1, h2]
    exact isT_2 (isT1_i _ _) (isT1_i _ _)
  · cases h
def gBm : List (Nat × Say) := [(90, m64S)]
theorem gBm_ok : GamOk Try.prog (gamY gBm) := gam_ok (gam_cons m64_ok gam_nil)
def bmulS : Say
  | [.int .u64 x, .int .u64 y] => some ((0 ≤ x ∧ x ≤ 4294967295) ∧ (0 ≤ y ∧ y ≤ 4294967295), .tup [.int .u64 0, .int .u64 (x * y)], none)
  | _ => none
theorem bmul_ok : FOk Try.prog 68 bmulS := by
  intro xs p r own h hp
  unfold bmulS at h
  split at h
  case h_2 => cases h
  rename_i x y
  simp only [Option.some.injEq, Prod.mk.injEq] at h
  obtain ⟨rfl, rfl, rfl⟩ := h
  refine fun_ok gBm_ok lawy_mixed y68_eq none ?_ (Nat.le_of_ble_eq_true rfl)
  obtain ⟨h1, h2⟩ := hp
  simp (config := { maxSteps := 9000000 }) only [↓vyD, vyU, binS, SV.go1, SV.go0, mkRow, intsOf, boolsOf, strsOf, chunks, Row.rep, Row.cat, Row.sub, Row.put, Row.len, Row.get, Row.size, Row.flat, bnds, own0, own1, labsL, labsR, SV.labs, argsOf, entFr, SO.ev, St.of, keepSt, getAll, lookN, hasN, SV.cells, SV.one, SV.res1, SV.res0, SV.resP, SV.ok1, SV.ok0, SV.okN, SV.solid, SV.solid1, SV.solid0, SV.flat0, SV.nm, SV.nm1, SV.nm0, SV.noPtr1, SV.noPtr0, Cel.isFresh, fillP, setAt, partV, eqCells, cellEq, gamY, listsOk, tupOf, takeOwn, SV.ret1, resAll, resL, resV, Nat.reduceEqDiff, ↓reduceIte, Nat.reduceAdd, Nat.reduceMul, Nat.reduceLeDiff, Nat.reduceLT, reduceCtorEq, labOk, Int.reduceBEq, Int.reduceBNe, Int.reduceToNat, Int.reduceLE, Int.reduceLT, Int.reduceEq, Nat.reduceDiv, Nat.reduceMod, Nat.reduceSub, Nat.reduceBEq, fitR, fitR1, fitR0, fitRL1, fitRL, y68, gBm, m64S, h1, h2]
/-- n numbers, the first m of them a, the others 0. -/
def rpL (n : Nat) (a : Int) (m : Nat) : List Int := List.replicate m a ++ List.replicate (n - m) 0
theorem rpL_len {n : Nat} {a : Int} {m : Nat} (h : m ≤ n) : (rpL n a m).length = n := by simp [rpL]; omega
theorem rpL_take {n : Nat} {a : Int} {m c : Nat} (h : c ≤ m) : (rpL n a m).take c = List.replicate c a := by
  rw [rpL, List.take_append_of_le_length (by simpa using h), List.take_replicate, Nat.min_eq_left h]
theorem rpL_cpy {n : Nat} {a : Int} {m c : Nat} (h : m + c ≤ n) : cpyL (rpL n a m) m (List.replicate c a) = rpL n a (m + c) := by
  rw [cpyL, rpL_take (Nat.le_refl _), List.length_replicate, rpL, List.drop_append, List.length_replicate, List.drop_of_length_le (by simp), List.nil_append, List.drop_replicate, rpL, List.replicate_append_replicate, show n - m - (m + c - m) = n - (m + c) by omega]
def gRp : List (Nat × Say) := [(68, bmulS)]
theorem gRp_ok : GamOk Try.prog (gamY gRp) := gam_ok (gam_cons bmul_ok gam_nil)
def repS : Say
  | [x_l, .int .i64 n] => (match asI x_l with | some l => some (l.length = 1 ∧ 1 ≤ n ∧ n ≤ 1000, .rw (.ints .i64 (List.replicate n.toNat (l.getD 0 0))), none) | _ => none)
  | _ => none
theorem rep_ok : FOk Try.prog 33 repS := by
  intro xs p r own h hp
  unfold repS at h
  split at h
  case h_2 => cases h
  rename_i x_l n
  split at h
  case h_2 => cases h
  rename_i l h_l
  simp only [Option.some.injEq, Prod.mk.injEq] at h
  obtain ⟨rfl, rfl, rfl⟩ := h
  refine fun_fit (ys := [.rw (.ints .i64 l), .int .i64 n]) ?_ ⟨asI_fit h_l, fit_refl1 _ (by simp), trivial⟩
  clear h_l
  refine fun_ok gRp_ok lawy_mixed y33_eq none ?_ (Nat.le_of_ble_eq_true rfl)
  obtain ⟨h1, h2, h3⟩ := hp
  match l, h1 with
  | [a], _ =>
  obtain ⟨N, rfl⟩ := Int.eq_ofNat_of_zero_le (show 0 ≤ n by omega)
  have n0 : ¬ (N : Int) < 0 := by omega
  have u1 : IntKind.u64.wrap (N : Int) = (N : Int) := u64_wrap (by unfold U64; omega)
  have u2 : (1 : Int) * (N : Int) = (N : Int) := Int.one_mul _
  have u3 : (0 : Int) ≤ (N : Int) ∧ (N : Int) ≤ 4294967295 := by omega
  have u4 : ¬ (9223372036854775807 : Int) < (N : Int) := by omega
  have u5 := i64_wrap (show I64 (N : Int) by unfold I64; omega)
  have u6 : (0 : Int) ≤ (N : Int) := by omega
  have u7 : (N : Int) * 8 ≤ 140737488355328 := by omega
  have u0 : IntKind.u64.wrap 1 = 1 := by decide
  have u8 : [a].take N = [a] := List.take_of_length_le (by simp; omega)
  have u9 : cpyL (List.replicate N 0) 0 [a] = rpL N a 1 := by
    cases N with
    | zero => omega
    | succ N => simp [cpyL, rpL]
  have hres : ([a] : List Int).getD 0 0 = a := rfl
  rw [hres]
  simp (config := { maxSteps := 9000000 }) only [↓vyD, vyU, binS, SV.go1, SV.go0, mkRow, intsOf, boolsOf, strsOf, chunks, Row.rep, Row.cat, Row.sub, Row.put, Row.len, Row.get, Row.size, Row.flat, bnds, own0, own1, labsL, labsR, SV.labs, argsOf, entFr, SO.ev, St.of, keepSt, getAll, lookN, hasN, SV.cells, SV.one, SV.res1, SV.res0, SV.resP, SV.ok1, SV.ok0, SV.okN, SV.solid, SV.solid1, SV.solid0, SV.flat0, SV.nm, SV.nm1, SV.nm0, SV.noPtr1, SV.noPtr0, Cel.isFresh, fillP, setAt, partV, eqCells, cellEq, gamY, listsOk, tupOf, takeOwn, SV.ret1, resAll, resL, resV, Nat.reduceEqDiff, ↓reduceIte, Nat.reduceAdd, Nat.reduceMul, Nat.reduceLeDiff, Nat.reduceLT, reduceCtorEq, labOk, Int.reduceBEq, Int.reduceBNe, Int.reduceToNat, Int.reduceLE, Int.reduceLT, Int.reduceEq, Nat.reduceDiv, Nat.reduceMod, Nat.reduceSub, Nat.reduceBEq, fitR, fitR1, fitR0, fitRL1, fitRL, y33, gRp, bmulS, ↓o_part, ↓o_cpy, c_dsl, c_dprt, c_sprt, c_srw, c_snn, c_ssl, n0, u0, List.length_replicate, Int.toNat_natCast, u1, u2, u3, u4, u5, u6, u7, u8, u9, gt_iff_lt, Int.le_refl]
  refine ⟨by omega, ?_⟩
  refine loopG_intro (ι := Nat) (fun m => [(7, .sl 6002 0), (8, .int .i64 m)]) (fun m => [(6002, .row 0 3 (.ints .i64 (rpL N a m)))]) (fun m => 1 ≤ m ∧ m ≤ N) (fun m => N - m) ⟨1, by omega, ?_, ?_, ?_⟩ fun m ⟨hm1, hm⟩ => ?_
  · simp (config := { maxSteps := 9000000 }) only [↓vyD, vyU, binS, SV.go1, SV.go0, mkRow, intsOf, boolsOf, strsOf, chunks, Row.rep, Row.cat, Row.sub, Row.put, Row.len, Row.get, Row.size, Row.flat, bnds, own0, own1, labsL, labsR, SV.labs, argsOf, entFr, SO.ev, St.of, keepSt, getAll, lookN, hasN, SV.cells, SV.one, SV.res1, SV.res0, SV.resP, SV.ok1, SV.ok0, SV.okN, SV.solid, SV.solid1, SV.solid0, SV.flat0, SV.nm, SV.nm1, SV.nm0, SV.noPtr1, SV.noPtr0, Cel.isFresh, fillP, setAt, partV, eqCells, cellEq, gamY, listsOk, tupOf, takeOwn, SV.ret1, resAll, resL, resV, Nat.reduceEqDiff, ↓reduceIte, Nat.reduceAdd, Nat.reduceMul, Nat.reduceLeDiff, Nat.reduceLT, reduceCtorEq, labOk, Int.reduceBEq, Int.reduceBNe, Int.reduceToNat, Int.reduceLE, Int.reduceLT, Int.reduceEq, Nat.reduceDiv, Nat.reduceMod, Nat.reduceSub, Nat.reduceBEq, fitR, fitR1, fitR0, fitRL1, fitRL, ↓o_part, ↓o_cpy, c_dsl, c_dprt, c_sprt, c_srw, c_snn, c_ssl]
  · simp (config := { maxSteps := 9000000 }) only [↓vyD, vyU, binS, SV.go1, SV.go0, mkRow, intsOf, boolsOf, strsOf, chunks, Row.rep, Row.cat, Row.sub, Row.put, Row.len, Row.get, Row.size, Row.flat, bnds, own0, own1, labsL, labsR, SV.labs, argsOf, entFr, SO.ev, St.of, keepSt, getAll, lookN, hasN, SV.cells, SV.one, SV.res1, SV.res0, SV.resP, SV.ok1, SV.ok0, SV.okN, SV.solid, SV.solid1, SV.solid0, SV.flat0, SV.nm, SV.nm1, SV.nm0, SV.noPtr1, SV.noPtr0, Cel.isFresh, fillP, setAt, partV, eqCells, cellEq, gamY, listsOk, tupOf, takeOwn, SV.ret1, resAll, resL, resV, Nat.reduceEqDiff, ↓reduceIte, Nat.reduceAdd, Nat.reduceMul, Nat.reduceLeDiff, Nat.reduceLT, reduceCtorEq, labOk, Int.reduceBEq, Int.reduceBNe, Int.reduceToNat, Int.reduceLE, Int.reduceLT, Int.reduceEq, Nat.reduceDiv, Nat.reduceMod, Nat.reduceSub, Nat.reduceBEq, fitR, fitR1, fitR0, fitRL1, fitRL, ↓o_part, ↓o_cpy, c_dsl, c_dprt, c_sprt, c_srw, c_snn, c_ssl, Int.natCast_one]
  · simp (config := { maxSteps := 9000000 }) only [↓vyD, vyU, binS, SV.go1, SV.go0, mkRow, intsOf, boolsOf, strsOf, chunks, Row.rep, Row.cat, Row.sub, Row.put, Row.len, Row.get, Row.size, Row.flat, bnds, own0, own1, labsL, labsR, SV.labs, argsOf, entFr, SO.ev, St.of, keepSt, getAll, lookN, hasN, SV.cells, SV.one, SV.res1, SV.res0, SV.resP, SV.ok1, SV.ok0, SV.okN, SV.solid, SV.solid1, SV.solid0, SV.flat0, SV.nm, SV.nm1, SV.nm0, SV.noPtr1, SV.noPtr0, Cel.isFresh, fillP, setAt, partV, eqCells, cellEq, gamY, listsOk, tupOf, takeOwn, SV.ret1, resAll, resL, resV, Nat.reduceEqDiff, ↓reduceIte, Nat.reduceAdd, Nat.reduceMul, Nat.reduceLeDiff, Nat.reduceLT, reduceCtorEq, labOk, Int.reduceBEq, Int.reduceBNe, Int.reduceToNat, Int.reduceLE, Int.reduceLT, Int.reduceEq, Nat.reduceDiv, Nat.reduceMod, Nat.reduceSub, Nat.reduceBEq, fitR, fitR1, fitR0, fitRL1, fitRL, ↓o_part, ↓o_cpy, c_dsl, c_dprt, c_sprt, c_srw, c_snn, c_ssl]
  have r1 := rpL_len (a := a) hm
  by_cases hlt : (m : Int) < (N : Int)
  · have m0 : (0 : Int) ≤ (m : Int) := by omega
    have m1 : (m : Int) ≤ (N : Int) := by omega
    have m2 : 0 < N := by omega
    have m3 : ((N : Int) - (m : Int)).toNat = N - m := by omega
    have m4 : (m : Int) - 0 = (m : Int) := by omega
    have m5 : m + (N - m) ≤ N := by omega
    have m6 : 0 + m ≤ N := by omega
    have m7 : List.take m (rpL N a m) = List.replicate m a := rpL_take (Nat.le_refl _)
    obtain ⟨c, hc⟩ : ∃ c, min (N - m) m = c := ⟨_, rfl⟩
    have m8 := rpL_cpy (n := N) (a := a) (m := m) (c := c) (by omega)
    have m9 := i64_wrap (show I64 ((m : Int) + (c : Int)) by unfold I64; omega)
    simp (config := { maxSteps := 9000000 }) only [↓vyD, vyU, binS, SV.go1, SV.go0, mkRow, intsOf, boolsOf, strsOf, chunks, Row.rep, Row.cat, Row.sub, Row.put, Row.len, Row.get, Row.size, Row.flat, bnds, own0, own1, labsL, labsR, SV.labs, argsOf, entFr, SO.ev, St.of, keepSt, getAll, lookN, hasN, SV.cells, SV.one, SV.res1, SV.res0, SV.resP, SV.ok1, SV.ok0, SV.okN, SV.solid, SV.solid1, SV.solid0, SV.flat0, SV.nm, SV.nm1, SV.nm0, SV.noPtr1, SV.noPtr0, Cel.isFresh, fillP, setAt, partV, eqCells, cellEq, gamY, listsOk, tupOf, takeOwn, SV.ret1, resAll, resL, resV, Nat.reduceEqDiff, ↓reduceIte, Nat.reduceAdd, Nat.reduceMul, Nat.reduceLeDiff, Nat.reduceLT, reduceCtorEq, labOk, Int.reduceBEq, Int.reduceBNe, Int.reduceToNat, Int.reduceLE, Int.reduceLT, Int.reduceEq, Nat.reduceDiv, Nat.reduceMod, Nat.reduceSub, Nat.reduceBEq, fitR, fitR1, fitR0, fitRL1, fitRL, ↓o_part, ↓o_cpy, c_dsl, c_dprt, c_sprt, c_srw, c_snn, c_ssl, hlt, r1, m0, m1, m2, m3, m4, m5, m6, m7, hc, m8, m9, Int.toNat_natCast, Int.toNat_zero, List.drop_zero, List.length_replicate, List.take_replicate, Int.le_refl]
    exact ⟨m + c, ⟨by omega, by omega⟩, by simp, rfl⟩
  · have : m = N := by omega
    subst this
    have e : rpL m a m = List.replicate m a := by simp [rpL]
    simp (config := { maxSteps := 9000000 }) only [↓vyD, vyU, binS, SV.go1, SV.go0, mkRow, intsOf, boolsOf, strsOf, chunks, Row.rep, Row.cat, Row.sub, Row.put, Row.len, Row.get, Row.size, Row.flat, bnds, own0, own1, labsL, labsR, SV.labs, argsOf, entFr, SO.ev, St.of, keepSt, getAll, lookN, hasN, SV.cells, SV.one, SV.res1, SV.res0, SV.resP, SV.ok1, SV.ok0, SV.okN, SV.solid, SV.solid1, SV.solid0, SV.flat0, SV.nm, SV.nm1, SV.nm0, SV.noPtr1, SV.noPtr0, Cel.isFresh, fillP, setAt, partV, eqCells, cellEq, gamY, listsOk, tupOf, takeOwn, SV.ret1, resAll, resL, resV, Nat.reduceEqDiff, ↓reduceIte, Nat.reduceAdd, Nat.reduceMul, Nat.reduceLeDiff, Nat.reduceLT, reduceCtorEq, labOk, Int.reduceBEq, Int.reduceBNe, Int.reduceToNat, Int.reduceLE, Int.reduceLT, Int.reduceEq, Nat.reduceDiv, Nat.reduceMod, Nat.reduceSub, Nat.reduceBEq, fitR, fitR1, fitR0, fitRL1, fitRL, ↓o_part, ↓o_cpy, c_dsl, c_dprt, c_sprt, c_srw, c_snn, c_ssl, Int.lt_irrefl, r1, e, List.length_replicate, Int.toNat_natCast]
end Go.Proofs.Ytlfhcjohkpdkoaa
