/- What hist.Put, hist.Between do. -/
import Derived.Test.YtidafhjdpklgbaaYHi
import Derived.Test.YtidafhjdpklgbaaYWd
import Derived.Test.YtidafhjdpklgbaaYR4
namespace Go.Proofs.Ytidafhjdpklgbaa
open Go.ChangeShapes Go.WideShapes Go.ChangeAt Go.RowKit Go.Joins Y
set_option linter.unusedSimpArgs false
set_option linter.unusedVariables false
set_option maxRecDepth 100000
set_option maxHeartbeats 40000000
def len64S : Say
  | [.int .u64 n] => some (U64 n, .int .i64 (bitLen n.toNat : Nat), none)
  | _ => none
theorem len64_ok : FOk Try.prog 83 len64S := by
  intro xs p r own h hp
  unfold len64S at h
  split at h
  · rename_i n
    simp only [Option.some.injEq, Prod.mk.injEq] at h
    obtain ⟨rfl, rfl, rfl⟩ := h
    refine take_ok (by decide) (fun_is Try.func83 (by kernel_rfl) (by kernel_rfl)) fun A w vs hvs => ?_
    obtain ⟨u, rfl, hu⟩ := args1 hvs
    rw [hu.int_inv]
    obtain ⟨N, rfl⟩ := Int.eq_ofNat_of_zero_le hp.1
    have hw : Word N := by unfold Word; have := hp.2; omega
    exact (len64_w N w hw).mono fun e w' ⟨he, hb⟩ => ⟨by rw [← hb]; exact Below.refl _ _, _, he, fun E => Is.int _ _⟩
  · cases h
def gBl : List (Nat × Say) := [(83, len64S)]
theorem gBl_ok : GamOk Try.prog (gamY gBl) := gam_ok (gam_cons len64_ok gam_nil)
def blenS : Say
  | [.int .u64 n] => some (U64 n, .int .i64 (bitLen n.toNat : Nat), none)
  | _ => none
theorem blen_ok : FOk Try.prog 49 blenS := by
  intro xs p r own h hp
  unfold blenS at h
  split at h
  case h_2 => cases h
  rename_i n
  simp only [Option.some.injEq, Prod.mk.injEq] at h
  obtain ⟨rfl, rfl, rfl⟩ := h
  refine fun_ok gBl_ok lawy_mixed y49_eq none ?_ (Nat.le_of_ble_eq_true rfl)
  simp (config := { maxSteps := 9000000 }) only [↓vyD, vyU, binS, SV.go1, SV.go0, mkRow, intsOf, boolsOf, strsOf, chunks, Row.rep, Row.cat, Row.sub, Row.put, Row.len, Row.get, Row.size, Row.flat, bnds, own0, own1, labsL, labsR, SV.labs, argsOf, entFr, SO.ev, St.of, keepSt, getAll, lookN, hasN, SV.cells, SV.one, SV.res1, SV.res0, SV.resP, SV.ok1, SV.ok0, SV.okN, SV.solid, SV.solid1, SV.solid0, SV.flat0, SV.nm, SV.nm1, SV.nm0, SV.noPtr1, SV.noPtr0, Cel.isFresh, fillP, setAt, partV, eqCells, cellEq, gamY, listsOk, tupOf, takeOwn, SV.ret1, resAll, resL, resV, Nat.reduceEqDiff, ↓reduceIte, Nat.reduceAdd, Nat.reduceMul, Nat.reduceLeDiff, Nat.reduceLT, reduceCtorEq, labOk, Int.reduceBEq, Int.reduceBNe, Int.reduceToNat, Int.reduceLE, Int.reduceLT, Int.reduceEq, Nat.reduceDiv, Nat.reduceMod, Nat.reduceSub, Nat.reduceBEq, fitR, fitR1, fitR0, fitRL1, fitRL, y49, gBl, len64S, hp]
def putHE (l : List Int) (n : Int) : Int := if hE l = 0 then (if listE [n] = 0 then (if l.getD (bitLen n.toNat) 0 = 1073741824 then 2 else 0) else listE [n]) else hE l
def putHL (l : List Int) (n : Int) : List Int := if putHE l n = 0 then l.set (bitLen n.toNat) (l.getD (bitLen n.toNat) 0 + 1) else zL
theorem putHL_len {l : List Int} {n : Int} (h : l.length = 26) : (putHL l n).length = 26 := by
  unfold putHL; split
  · rw [List.length_set]; exact h
  · exact zL_len
theorem len_25 {n : Int} (h : 0 ≤ n ∧ n ≤ 16777216) : bitLen n.toNat ≤ 25 := (bitLen_lt_iff _ 25).2 (by omega)
def gPt : List (Nat × Say) := [(19, hchkS), (48, listS), (49, blenS)]
theorem gPt_ok : GamOk Try.prog (gamY gPt) := gam_ok (gam_cons hchk_ok (gam_cons list_ok (gam_cons blen_ok gam_nil)))
def hputS : Say
  | [.agg x_l, .int .i64 n] => (match asH x_l with | some l => some (True, .tup [.agg (hC (putHL l n)), .int .i64 (putHE l n)], none) | _ => none)
  | _ => none
theorem hput_ok : FOk Try.prog 15 hputS := by
  intro xs p r own h hp
  unfold hputS at h
  split at h
  case h_2 => cases h
  rename_i x_l n
  split at h
  case h_2 => cases h
  rename_i l h_l
  simp only [Option.some.injEq, Prod.mk.injEq] at h
  obtain ⟨rfl, rfl, rfl⟩ := h
  refine fun_fit (ys := [.agg (hC l), .int .i64 n]) ?_ ⟨asH_fit h_l, fit_refl1 _ (by simp), trivial⟩
  have len_l := asH_len h_l
  clear h_l
  refine fun_ok gPt_ok lawy_mixed y15_eq none ?_ (Nat.le_of_ble_eq_true rfl)
  have hpl := putHL_len (n := n) len_l
  by_cases h1 : hE l = 0
  · have h1' : (hE l != 0) = false := by simp [h1]
    by_cases h2 : listE [n] = 0
    · have h2' : (listE [n] != 0) = false := by simp [h2]
      have hn : 0 ≤ n ∧ n ≤ 16777216 := by
        have := (listE_0.1 h2).2 n (by simp)
        exact this
      have u1 : IntKind.u64.wrap n = n := u64_wrap (by unfold U64; omega)
      have u2 : U64 n := by unfold U64; omega
      have hk := len_25 hn
      generalize hK : bitLen n.toNat = k at *
      have hk1 : k < l.length := by omega
      have hG := hC_get hk1
      have c0 : (0 : Int) ≤ (k : Int) := by omega
      have c1 : (k : Int) < 26 := by omega
      have c2 : k + 1 ≤ 26 := by omega
      by_cases h3 : l.getD k 0 = 1073741824
      · have h3' : (l.getD k 0 == 1073741824) = true := by simpa using h3
        have hP : putHE l n = 2 := by unfold putHE; rw [if_pos h1, if_pos h2, hK, if_pos h3]
        have hL : putHL l n = zL := by unfold putHL; rw [if_neg (by omega)]
        simp (config := { maxSteps := 9000000 }) only [↓vyD, vyU, binS, SV.go1, SV.go0, mkRow, intsOf, boolsOf, strsOf, chunks, Row.rep, Row.cat, Row.sub, Row.put, Row.len, Row.get, Row.size, Row.flat, bnds, own0, own1, labsL, labsR, SV.labs, argsOf, entFr, SO.ev, St.of, keepSt, getAll, lookN, hasN, SV.cells, SV.one, SV.res1, SV.res0, SV.resP, SV.ok1, SV.ok0, SV.okN, SV.solid, SV.solid1, SV.solid0, SV.flat0, SV.nm, SV.nm1, SV.nm0, SV.noPtr1, SV.noPtr0, Cel.isFresh, fillP, setAt, partV, eqCells, cellEq, gamY, listsOk, tupOf, takeOwn, SV.ret1, resAll, resL, resV, Nat.reduceEqDiff, ↓reduceIte, Nat.reduceAdd, Nat.reduceMul, Nat.reduceLeDiff, Nat.reduceLT, reduceCtorEq, labOk, Int.reduceBEq, Int.reduceBNe, Int.reduceToNat, Int.reduceLE, Int.reduceLT, Int.reduceEq, Nat.reduceDiv, Nat.reduceMod, Nat.reduceSub, Nat.reduceBEq, fitR, fitR1, fitR0, fitRL1, fitRL, y15, gPt, hchkS, listS, blenS, asI, hC_len, hC_take, hC_one, hC_ok, hC_solid, hC_np, hC_res, hC_go, hC_nm, hC_labs, hC_own, hC_set, hC_over, hC_fitR, hC_fitL, hZ, zL_len, asH_hC, len_l, h1', h2', u1, u2, hK, hG, c0, c1, c2, Int.toNat_natCast, Nat.mul_one, Nat.zero_add, h3', hP, hL]
      · have h3' : (l.getD k 0 == 1073741824) = false := by simpa using h3
        have hP : putHE l n = 0 := by unfold putHE; rw [if_pos h1, if_pos h2, hK, if_neg h3]
        have hL : putHL l n = l.set k (l.getD k 0 + 1) := by unfold putHL; rw [if_pos hP, hK]
        have hv := (hE_0 len_l).1 h1 k (by omega)
        have w1 := i64_wrap (show I64 (l.getD k 0 + 1) by unfold I64; omega)
        have hsl : (l.set k (l.getD k 0 + 1)).length = 26 := by rw [List.length_set]; exact len_l
        simp (config := { maxSteps := 9000000 }) only [↓vyD, vyU, binS, SV.go1, SV.go0, mkRow, intsOf, boolsOf, strsOf, chunks, Row.rep, Row.cat, Row.sub, Row.put, Row.len, Row.get, Row.size, Row.flat, bnds, own0, own1, labsL, labsR, SV.labs, argsOf, entFr, SO.ev, St.of, keepSt, getAll, lookN, hasN, SV.cells, SV.one, SV.res1, SV.res0, SV.resP, SV.ok1, SV.ok0, SV.okN, SV.solid, SV.solid1, SV.solid0, SV.flat0, SV.nm, SV.nm1, SV.nm0, SV.noPtr1, SV.noPtr0, Cel.isFresh, fillP, setAt, partV, eqCells, cellEq, gamY, listsOk, tupOf, takeOwn, SV.ret1, resAll, resL, resV, Nat.reduceEqDiff, ↓reduceIte, Nat.reduceAdd, Nat.reduceMul, Nat.reduceLeDiff, Nat.reduceLT, reduceCtorEq, labOk, Int.reduceBEq, Int.reduceBNe, Int.reduceToNat, Int.reduceLE, Int.reduceLT, Int.reduceEq, Nat.reduceDiv, Nat.reduceMod, Nat.reduceSub, Nat.reduceBEq, fitR, fitR1, fitR0, fitRL1, fitRL, y15, gPt, hchkS, listS, blenS, asI, hC_len, hC_take, hC_one, hC_ok, hC_solid, hC_np, hC_res, hC_go, hC_nm, hC_labs, hC_own, hC_set, hC_over, hC_fitR, hC_fitL, hZ, zL_len, asH_hC, len_l, h1', h2', u1, u2, hK, hG, c0, c1, c2, Int.toNat_natCast, Nat.mul_one, Nat.zero_add, h3', hP, hL, w1, hsl]
    · have h2' : (listE [n] != 0) = true := by simpa using h2
      have hP : putHE l n = listE [n] := by unfold putHE; rw [if_pos h1, if_neg h2]
      have hL : putHL l n = zL := by unfold putHL; rw [if_neg (by omega)]
      simp (config := { maxSteps := 9000000 }) only [↓vyD, vyU, binS, SV.go1, SV.go0, mkRow, intsOf, boolsOf, strsOf, chunks, Row.rep, Row.cat, Row.sub, Row.put, Row.len, Row.get, Row.size, Row.flat, bnds, own0, own1, labsL, labsR, SV.labs, argsOf, entFr, SO.ev, St.of, keepSt, getAll, lookN, hasN, SV.cells, SV.one, SV.res1, SV.res0, SV.resP, SV.ok1, SV.ok0, SV.okN, SV.solid, SV.solid1, SV.solid0, SV.flat0, SV.nm, SV.nm1, SV.nm0, SV.noPtr1, SV.noPtr0, Cel.isFresh, fillP, setAt, partV, eqCells, cellEq, gamY, listsOk, tupOf, takeOwn, SV.ret1, resAll, resL, resV, Nat.reduceEqDiff, ↓reduceIte, Nat.reduceAdd, Nat.reduceMul, Nat.reduceLeDiff, Nat.reduceLT, reduceCtorEq, labOk, Int.reduceBEq, Int.reduceBNe, Int.reduceToNat, Int.reduceLE, Int.reduceLT, Int.reduceEq, Nat.reduceDiv, Nat.reduceMod, Nat.reduceSub, Nat.reduceBEq, fitR, fitR1, fitR0, fitRL1, fitRL, y15, gPt, hchkS, listS, blenS, asI, hC_len, hC_take, hC_one, hC_ok, hC_solid, hC_np, hC_res, hC_go, hC_nm, hC_labs, hC_own, hC_set, hC_over, hC_fitR, hC_fitL, hZ, zL_len, asH_hC, len_l, h1', h2', hP, hL]
  · have h1' : (hE l != 0) = true := by simpa using h1
    have hP : putHE l n = hE l := by unfold putHE; rw [if_neg h1]
    have hL : putHL l n = zL := by unfold putHL; rw [if_neg (by omega)]
    simp (config := { maxSteps := 9000000 }) only [↓vyD, vyU, binS, SV.go1, SV.go0, mkRow, intsOf, boolsOf, strsOf, chunks, Row.rep, Row.cat, Row.sub, Row.put, Row.len, Row.get, Row.size, Row.flat, bnds, own0, own1, labsL, labsR, SV.labs, argsOf, entFr, SO.ev, St.of, keepSt, getAll, lookN, hasN, SV.cells, SV.one, SV.res1, SV.res0, SV.resP, SV.ok1, SV.ok0, SV.okN, SV.solid, SV.solid1, SV.solid0, SV.flat0, SV.nm, SV.nm1, SV.nm0, SV.noPtr1, SV.noPtr0, Cel.isFresh, fillP, setAt, partV, eqCells, cellEq, gamY, listsOk, tupOf, takeOwn, SV.ret1, resAll, resL, resV, Nat.reduceEqDiff, ↓reduceIte, Nat.reduceAdd, Nat.reduceMul, Nat.reduceLeDiff, Nat.reduceLT, reduceCtorEq, labOk, Int.reduceBEq, Int.reduceBNe, Int.reduceToNat, Int.reduceLE, Int.reduceLT, Int.reduceEq, Nat.reduceDiv, Nat.reduceMod, Nat.reduceSub, Nat.reduceBEq, fitR, fitR1, fitR0, fitRL1, fitRL, y15, gPt, hchkS, listS, blenS, asI, hC_len, hC_take, hC_one, hC_ok, hC_solid, hC_np, hC_res, hC_go, hC_nm, hC_labs, hC_own, hC_set, hC_over, hC_fitR, hC_fitL, hZ, zL_len, asH_hC, len_l, h1', hP, hL]
theorem lenK_le {l : List Int} {k : Int} (hk : k ≤ sumK l 26) : ∀ f i, i + (f + 1) = 26 → lenK l k (f + 1) i ≤ 25
  | 0, i, h => by
    have hi : i = 25 := by omega
    subst hi
    have e9 : sumK l (25 + 1) = sumK l 26 := rfl
    rw [lenK, if_neg (by omega)]
    omega
  | f + 1, i, h => by
    rw [lenK]
    split
    · exact lenK_le hk f (i + 1) (by omega)
    · omega
def endL (k : Nat) : Int := if k = 0 then 0 else 2 ^ (k - 1)
def endH (k : Nat) : Int := if k = 0 then 0 else if (2 : Int) ^ k - 1 < 16777216 then 2 ^ k - 1 else 16777216
theorem ends_in : ∀ k : Nat, k ≤ 25 → vcFun (gamY []) y52 [.int .i64 k] none fun v o => fitR v (.tup [.int .i64 (endL k), .int .i64 (endH k)]) ∧ o = none := fun k hk => by
  by_cases h0 : k = 0
  · subst h0
    have e1 : endL 0 = 0 := rfl
    have e2 : endH 0 = 0 := rfl
    have z0 : (((0 : Nat) : Int) == 0) = true := rfl
    simp (config := { maxSteps := 9000000 }) only [↓vyD, vyU, binS, SV.go1, SV.go0, mkRow, intsOf, boolsOf, strsOf, chunks, Row.rep, Row.cat, Row.sub, Row.put, Row.len, Row.get, Row.size, Row.flat, bnds, own0, own1, labsL, labsR, SV.labs, argsOf, entFr, SO.ev, St.of, keepSt, getAll, lookN, hasN, SV.cells, SV.one, SV.res1, SV.res0, SV.resP, SV.ok1, SV.ok0, SV.okN, SV.solid, SV.solid1, SV.solid0, SV.flat0, SV.nm, SV.nm1, SV.nm0, SV.noPtr1, SV.noPtr0, Cel.isFresh, fillP, setAt, partV, eqCells, cellEq, gamY, listsOk, tupOf, takeOwn, SV.ret1, resAll, resL, resV, Nat.reduceEqDiff, ↓reduceIte, Nat.reduceAdd, Nat.reduceMul, Nat.reduceLeDiff, Nat.reduceLT, reduceCtorEq, labOk, Int.reduceBEq, Int.reduceBNe, Int.reduceToNat, Int.reduceLE, Int.reduceLT, Int.reduceEq, Nat.reduceDiv, Nat.reduceMod, Nat.reduceSub, Nat.reduceBEq, fitR, fitR1, fitR0, fitRL1, fitRL, y52, e1, e2, z0]
  · have h0' : ((k : Int) == 0) = false := beq_eq_false_iff_ne.2 (by omega)
    have b1 := i64_wrap (show I64 ((k : Int) - 1) by unfold I64; omega)
    have c0 : (0 : Int) ≤ (k : Int) - 1 := by omega
    have c1 : (0 : Int) ≤ (k : Int) := by omega
    have c2 : ((k : Int) - 1).toNat = k - 1 := by omega
    have m1 : min (k - 1) 64 = k - 1 := by omega
    have m2 : min k 64 = k := by omega
    have p1 : (2 : Int) ^ k = 2 * 2 ^ (k - 1) := by
      obtain ⟨j, rfl⟩ : ∃ j, k = j + 1 := ⟨k - 1, by omega⟩
      rw [Int.pow_succ, Nat.add_sub_cancel, Int.mul_comm]
    have p2 : (0 : Int) < 2 ^ (k - 1) := Int.pow_pos (by omega)
    have p3 : (2 : Int) ^ (k - 1) ≤ 2 ^ 24 := by
      have := Nat.pow_le_pow_right (show 0 < 2 by omega) (show k - 1 ≤ 24 by omega)
      exact_mod_cast this
    have w1 := i64_wrap (show I64 ((2 : Int) ^ (k - 1)) by unfold I64; omega)
    have w2 := i64_wrap (show I64 ((2 : Int) ^ k) by unfold I64; omega)
    have w3 := i64_wrap (show I64 ((2 : Int) ^ k - 1) by unfold I64; omega)
    have e1 : endL k = 2 ^ (k - 1) := if_neg h0
    have e2 : endH k = if (2 : Int) ^ k - 1 < 16777216 then 2 ^ k - 1 else 16777216 := if_neg h0
    rw [e1, e2]
    have hm : (if (16777216 : Int) < 2 ^ k - 1 then (16777216 : Int) else 2 ^ k - 1) = if (2 : Int) ^ k - 1 < 16777216 then 2 ^ k - 1 else 16777216 := by split <;> split <;> omega
    simp (config := { maxSteps := 9000000 }) only [↓vyD, vyU, binS, SV.go1, SV.go0, mkRow, intsOf, boolsOf, strsOf, chunks, Row.rep, Row.cat, Row.sub, Row.put, Row.len, Row.get, Row.size, Row.flat, bnds, own0, own1, labsL, labsR, SV.labs, argsOf, entFr, SO.ev, St.of, keepSt, getAll, lookN, hasN, SV.cells, SV.one, SV.res1, SV.res0, SV.resP, SV.ok1, SV.ok0, SV.okN, SV.solid, SV.solid1, SV.solid0, SV.flat0, SV.nm, SV.nm1, SV.nm0, SV.noPtr1, SV.noPtr0, Cel.isFresh, fillP, setAt, partV, eqCells, cellEq, gamY, listsOk, tupOf, takeOwn, SV.ret1, resAll, resL, resV, Nat.reduceEqDiff, ↓reduceIte, Nat.reduceAdd, Nat.reduceMul, Nat.reduceLeDiff, Nat.reduceLT, reduceCtorEq, labOk, Int.reduceBEq, Int.reduceBNe, Int.reduceToNat, Int.reduceLE, Int.reduceLT, Int.reduceEq, Nat.reduceDiv, Nat.reduceMod, Nat.reduceSub, Nat.reduceBEq, fitR, fitR1, fitR0, fitRL1, fitRL, y52, h0', b1, c0, c1, c2, m1, m2, Int.toNat_natCast, Int.one_mul, IntKind.bits, w1, w2, w3, hm]
def endsS : Say
  | [.int .i64 k] => some (0 ≤ k ∧ k ≤ 25, .tup [.int .i64 (endL k.toNat), .int .i64 (endH k.toNat)], none)
  | _ => none
theorem ends_ok : FOk Try.prog 52 endsS := by
  intro xs p r own h hp
  unfold endsS at h
  split at h
  case h_2 => cases h
  rename_i k
  simp only [Option.some.injEq, Prod.mk.injEq] at h
  obtain ⟨rfl, rfl, rfl⟩ := h
  refine fun_ok (gam_ok gam_nil) lawy_mixed y52_eq none ?_ (Nat.le_of_ble_eq_true rfl)
  obtain ⟨K, rfl⟩ := Int.eq_ofNat_of_zero_le hp.1
  exact ends_in K (by omega)
def hqupS : Say
  | [.int .i64 a, .int .i64 b] => some (0 ≤ a ∧ a ≤ 4611686018427387904 ∧ 1 ≤ b ∧ b ≤ 1000, .int .i64 ((a + b - 1) / b), none)
  | _ => none
theorem hqup_ok : FOk Try.prog 51 hqupS := by
  intro xs p r own h hp
  unfold hqupS at h
  split at h
  case h_2 => cases h
  rename_i a b
  simp only [Option.some.injEq, Prod.mk.injEq] at h
  obtain ⟨rfl, rfl, rfl⟩ := h
  refine fun_ok (gam_ok gam_nil) lawy_mixed y51_eq none ?_ (Nat.le_of_ble_eq_true rfl)
  obtain ⟨h1, h2, h3, h4⟩ := hp
  have c1 := i64_wrap (show I64 (a + b) by unfold I64; omega)
  have c2 := i64_wrap (show I64 (a + b - 1) by unfold I64; omega)
  have h0 : ¬ b = 0 := by omega
  have e1 : (a + b - 1).tdiv b = (a + b - 1) / b := Int.tdiv_eq_ediv_of_nonneg (by omega)
  have q1 : (a + b - 1) / b ≤ a + b - 1 := Int.ediv_le_self _ (by omega)
  have q2 : 0 ≤ (a + b - 1) / b := Int.ediv_nonneg (by omega) (by omega)
  have c3 := i64_wrap (show I64 ((a + b - 1) / b) by unfold I64; omega)
  simp (config := { maxSteps := 9000000 }) only [↓vyD, vyU, binS, SV.go1, SV.go0, mkRow, intsOf, boolsOf, strsOf, chunks, Row.rep, Row.cat, Row.sub, Row.put, Row.len, Row.get, Row.size, Row.flat, bnds, own0, own1, labsL, labsR, SV.labs, argsOf, entFr, SO.ev, St.of, keepSt, getAll, lookN, hasN, SV.cells, SV.one, SV.res1, SV.res0, SV.resP, SV.ok1, SV.ok0, SV.okN, SV.solid, SV.solid1, SV.solid0, SV.flat0, SV.nm, SV.nm1, SV.nm0, SV.noPtr1, SV.noPtr0, Cel.isFresh, fillP, setAt, partV, eqCells, cellEq, gamY, listsOk, tupOf, takeOwn, SV.ret1, resAll, resL, resV, Nat.reduceEqDiff, ↓reduceIte, Nat.reduceAdd, Nat.reduceMul, Nat.reduceLeDiff, Nat.reduceLT, reduceCtorEq, labOk, Int.reduceBEq, Int.reduceBNe, Int.reduceToNat, Int.reduceLE, Int.reduceLT, Int.reduceEq, Nat.reduceDiv, Nat.reduceMod, Nat.reduceSub, Nat.reduceBEq, fitR, fitR1, fitR0, fitRL1, fitRL, y51, c1, c2, e1, c3, h0, ne_eq, not_false_eq_true]
def partE (num den : Int) : Int := if den < 1 ∨ 1000 < den ∨ num < 0 ∨ den < num then 1 else 0
theorem rank1_E (num den : Int) : rankE [0] num den = partE num den := by
  unfold rankE partE
  rw [if_pos (by decide)]
  rfl
def bet0 (l : List Int) (num den : Int) : Int := if hE l = 0 then (if partE num den = 0 then (if sumK l 26 = 0 then 4 else 0) else partE num den) else hE l
def betK (l : List Int) (num den : Int) : Int := if 1 < (sumK l 26 * num + den - 1) / den then (sumK l 26 * num + den - 1) / den else 1
def betN (l : List Int) (num den : Int) : Nat := lenK l (betK l num den) 26 0
def betL (l : List Int) (num den : Int) : Int := if bet0 l num den = 0 then endL (betN l num den) else 0
def betH (l : List Int) (num den : Int) : Int := if bet0 l num den = 0 then endH (betN l num den) else 0
def gBw : List (Nat × Say) := [(19, hchkS), (32, rrankS), (50, totalS), (51, hqupS), (53, lenAtS), (52, endsS)]
theorem gBw_ok : GamOk Try.prog (gamY gBw) := gam_ok (gam_cons hchk_ok (gam_cons rrank_ok (gam_cons total_ok (gam_cons hqup_ok (gam_cons lenAt_ok (gam_cons ends_ok gam_nil))))))
def betweenS : Say
  | [.agg x_l, .int .i64 num, .int .i64 den] => (match asH x_l with | some l => some (True, .tup [.int .i64 (betL l num den), .int .i64 (betH l num den), .int .i64 (bet0 l num den)], none) | _ => none)
  | _ => none
theorem between_ok : FOk Try.prog 17 betweenS := by
  intro xs p r own h hp
  unfold betweenS at h
  split at h
  case h_2 => cases h
  rename_i x_l num den
  split at h
  case h_2 => cases h
  rename_i l h_l
  simp only [Option.some.injEq, Prod.mk.injEq] at h
  obtain ⟨rfl, rfl, rfl⟩ := h
  refine fun_fit (ys := [.agg (hC l), .int .i64 num, .int .i64 den]) ?_ ⟨asH_fit h_l, fit_refl1 _ (by simp), fit_refl1 _ (by simp), trivial⟩
  have len_l := asH_len h_l
  clear h_l
  refine fun_ok gBw_ok lawy_mixed y17_eq none ?_ (Nat.le_of_ble_eq_true rfl)
  have hr := rank1_E num den
  by_cases h1 : hE l = 0
  · have h1' : (hE l != 0) = false := by simp [h1]
    by_cases h2 : partE num den = 0
    · have h2' : (partE num den != 0) = false := by simp [h2]
      have hpp : 1 ≤ den ∧ den ≤ 1000 ∧ 0 ≤ num ∧ num ≤ den := by
        unfold partE at h2
        split at h2
        · cases h2
        · omega
      obtain ⟨d1, d2, d3, d4⟩ := hpp
      have hb := sumK_bd len_l h1 26 (by omega)
      by_cases h3 : sumK l 26 = 0
      · have h3' : (sumK l 26 == 0) = true := by simpa using h3
        have hB : bet0 l num den = 4 := by unfold bet0; rw [if_pos h1, if_pos h2, if_pos h3]
        have hL : betL l num den = 0 := if_neg (by omega)
        have hH : betH l num den = 0 := if_neg (by omega)
        simp (config := { maxSteps := 9000000 }) only [↓vyD, vyU, binS, SV.go1, SV.go0, mkRow, intsOf, boolsOf, strsOf, chunks, Row.rep, Row.cat, Row.sub, Row.put, Row.len, Row.get, Row.size, Row.flat, bnds, own0, own1, labsL, labsR, SV.labs, argsOf, entFr, SO.ev, St.of, keepSt, getAll, lookN, hasN, SV.cells, SV.one, SV.res1, SV.res0, SV.resP, SV.ok1, SV.ok0, SV.okN, SV.solid, SV.solid1, SV.solid0, SV.flat0, SV.nm, SV.nm1, SV.nm0, SV.noPtr1, SV.noPtr0, Cel.isFresh, fillP, setAt, partV, eqCells, cellEq, gamY, listsOk, tupOf, takeOwn, SV.ret1, resAll, resL, resV, Nat.reduceEqDiff, ↓reduceIte, Nat.reduceAdd, Nat.reduceMul, Nat.reduceLeDiff, Nat.reduceLT, reduceCtorEq, labOk, Int.reduceBEq, Int.reduceBNe, Int.reduceToNat, Int.reduceLE, Int.reduceLT, Int.reduceEq, Nat.reduceDiv, Nat.reduceMod, Nat.reduceSub, Nat.reduceBEq, fitR, fitR1, fitR0, fitRL1, fitRL, y17, gBw, hchkS, rrankS, totalS, hqupS, lenAtS, endsS, asI, hC_len, hC_take, hC_one, hC_ok, hC_solid, hC_np, hC_res, hC_go, hC_nm, hC_labs, hC_own, hC_set, hC_over, hC_fitR, hC_fitL, hZ, zL_len, asH_hC, len_l, h1, h1', hr, h2', h3', hB, hL, hH]
      · have h3' : (sumK l 26 == 0) = false := by simpa using h3
        have hB : bet0 l num den = 0 := by unfold bet0; rw [if_pos h1, if_pos h2, if_neg h3]
        have hL : betL l num den = endL (betN l num den) := if_pos hB
        have hH : betH l num den = endH (betN l num den) := if_pos hB
        have hK : betK l num den = if 1 < (sumK l 26 * num + den - 1) / den then (sumK l 26 * num + den - 1) / den else 1 := rfl
        have hN : betN l num den = lenK l (betK l num den) 26 0 := rfl
        generalize hS : sumK l 26 = S at *
        have hm := mul_bd (x := S) (y := num) (X := 27917287424) (Y := 1000) (by omega) (by omega) d3 (by omega)
        have hm2 : S * num ≤ S * den := Int.mul_le_mul_of_nonneg_left d4 hb.1
        have hle : (S * num + den - 1) / den ≤ S := by
          apply Int.le_of_lt_add_one
          apply Int.ediv_lt_of_lt_mul (by omega)
          rw [Int.add_mul]; omega
        have hK1 : 1 ≤ betK l num den ∧ betK l num den ≤ S := by rw [hK]; split <;> omega
        have hNl := lenK_le (l := l) (k := betK l num den) (by rw [hS]; exact hK1.2) 25 0 (by omega)
        rw [← hN] at hNl
        have w1 := i64_wrap (show I64 (S * num) by unfold I64; omega)
        have q1 : 0 ≤ S * num ∧ S * num ≤ 4611686018427387904 := by omega
        have q2 : (0 : Int) ≤ (betN l num den : Int) ∧ (betN l num den : Int) ≤ 25 := by omega
        simp (config := { maxSteps := 9000000 }) only [↓vyD, vyU, binS, SV.go1, SV.go0, mkRow, intsOf, boolsOf, strsOf, chunks, Row.rep, Row.cat, Row.sub, Row.put, Row.len, Row.get, Row.size, Row.flat, bnds, own0, own1, labsL, labsR, SV.labs, argsOf, entFr, SO.ev, St.of, keepSt, getAll, lookN, hasN, SV.cells, SV.one, SV.res1, SV.res0, SV.resP, SV.ok1, SV.ok0, SV.okN, SV.solid, SV.solid1, SV.solid0, SV.flat0, SV.nm, SV.nm1, SV.nm0, SV.noPtr1, SV.noPtr0, Cel.isFresh, fillP, setAt, partV, eqCells, cellEq, gamY, listsOk, tupOf, takeOwn, SV.ret1, resAll, resL, resV, Nat.reduceEqDiff, ↓reduceIte, Nat.reduceAdd, Nat.reduceMul, Nat.reduceLeDiff, Nat.reduceLT, reduceCtorEq, labOk, Int.reduceBEq, Int.reduceBNe, Int.reduceToNat, Int.reduceLE, Int.reduceLT, Int.reduceEq, Nat.reduceDiv, Nat.reduceMod, Nat.reduceSub, Nat.reduceBEq, fitR, fitR1, fitR0, fitRL1, fitRL, y17, gBw, hchkS, rrankS, totalS, hqupS, lenAtS, endsS, asI, hC_len, hC_take, hC_one, hC_ok, hC_solid, hC_np, hC_res, hC_go, hC_nm, hC_labs, hC_own, hC_set, hC_over, hC_fitR, hC_fitL, hZ, zL_len, asH_hC, len_l, h1, h1', hr, h2', h3', hB, hL, hH, hS, w1, q1, d1, d2, gt_iff_lt, ← hK, hK1, ← hN, q2, Int.toNat_natCast]
    · have h2' : (partE num den != 0) = true := by simpa using h2
      have hB : bet0 l num den = partE num den := by unfold bet0; rw [if_pos h1, if_neg h2]
      have hL : betL l num den = 0 := if_neg (by omega)
      have hH : betH l num den = 0 := if_neg (by omega)
      simp (config := { maxSteps := 9000000 }) only [↓vyD, vyU, binS, SV.go1, SV.go0, mkRow, intsOf, boolsOf, strsOf, chunks, Row.rep, Row.cat, Row.sub, Row.put, Row.len, Row.get, Row.size, Row.flat, bnds, own0, own1, labsL, labsR, SV.labs, argsOf, entFr, SO.ev, St.of, keepSt, getAll, lookN, hasN, SV.cells, SV.one, SV.res1, SV.res0, SV.resP, SV.ok1, SV.ok0, SV.okN, SV.solid, SV.solid1, SV.solid0, SV.flat0, SV.nm, SV.nm1, SV.nm0, SV.noPtr1, SV.noPtr0, Cel.isFresh, fillP, setAt, partV, eqCells, cellEq, gamY, listsOk, tupOf, takeOwn, SV.ret1, resAll, resL, resV, Nat.reduceEqDiff, ↓reduceIte, Nat.reduceAdd, Nat.reduceMul, Nat.reduceLeDiff, Nat.reduceLT, reduceCtorEq, labOk, Int.reduceBEq, Int.reduceBNe, Int.reduceToNat, Int.reduceLE, Int.reduceLT, Int.reduceEq, Nat.reduceDiv, Nat.reduceMod, Nat.reduceSub, Nat.reduceBEq, fitR, fitR1, fitR0, fitRL1, fitRL, y17, gBw, hchkS, rrankS, totalS, hqupS, lenAtS, endsS, asI, hC_len, hC_take, hC_one, hC_ok, hC_solid, hC_np, hC_res, hC_go, hC_nm, hC_labs, hC_own, hC_set, hC_over, hC_fitR, hC_fitL, hZ, zL_len, asH_hC, len_l, h1', hr, h2', hB, hL, hH]
  · have h1' : (hE l != 0) = true := by simpa using h1
    have hB : bet0 l num den = hE l := by unfold bet0; rw [if_neg h1]
    have hL : betL l num den = 0 := if_neg (by omega)
    have hH : betH l num den = 0 := if_neg (by omega)
    simp (config := { maxSteps := 9000000 }) only [↓vyD, vyU, binS, SV.go1, SV.go0, mkRow, intsOf, boolsOf, strsOf, chunks, Row.rep, Row.cat, Row.sub, Row.put, Row.len, Row.get, Row.size, Row.flat, bnds, own0, own1, labsL, labsR, SV.labs, argsOf, entFr, SO.ev, St.of, keepSt, getAll, lookN, hasN, SV.cells, SV.one, SV.res1, SV.res0, SV.resP, SV.ok1, SV.ok0, SV.okN, SV.solid, SV.solid1, SV.solid0, SV.flat0, SV.nm, SV.nm1, SV.nm0, SV.noPtr1, SV.noPtr0, Cel.isFresh, fillP, setAt, partV, eqCells, cellEq, gamY, listsOk, tupOf, takeOwn, SV.ret1, resAll, resL, resV, Nat.reduceEqDiff, ↓reduceIte, Nat.reduceAdd, Nat.reduceMul, Nat.reduceLeDiff, Nat.reduceLT, reduceCtorEq, labOk, Int.reduceBEq, Int.reduceBNe, Int.reduceToNat, Int.reduceLE, Int.reduceLT, Int.reduceEq, Nat.reduceDiv, Nat.reduceMod, Nat.reduceSub, Nat.reduceBEq, fitR, fitR1, fitR0, fitRL1, fitRL, y17, gBw, hchkS, rrankS, totalS, hqupS, lenAtS, endsS, asI, hC_len, hC_take, hC_one, hC_ok, hC_solid, hC_np, hC_res, hC_go, hC_nm, hC_labs, hC_own, hC_set, hC_over, hC_fitR, hC_fitL, hZ, zL_len, asH_hC, len_l, h1', hB, hL, hH]
end Go.Proofs.Ytidafhjdpklgbaa
