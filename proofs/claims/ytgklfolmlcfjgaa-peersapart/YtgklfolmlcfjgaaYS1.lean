/- What the functions of win and stat do, and the statements' helpers. -/
import Derived.Test.YtgklfolmlcfjgaaYF
import Derived.Test.YtgklfolmlcfjgaaCS3
namespace Go.Proofs.Ytgklfolmlcfjgaa
open Go.RowKit Y
set_option linter.unusedSimpArgs false
set_option linter.unusedVariables false
set_option maxRecDepth 100000
set_option maxHeartbeats 4000000
def withinN (k n : Int) : Int := (k % 18446744073709551616) % n
def withinS : Say
  | [.int .i64 k, .int .i64 n] => some (0 < n ∧ I64 n, .int .i64 (withinN k n), none)
  | _ => none
def cloS : Say
  | [.int .i64 n, .fz [.int .i64 lo], .fz [.int .i64 hi]] => some (True, .bool (decide (lo ≤ n ∧ n ≤ hi)), none)
  | _ => none
theorem clo_ok : FOk Try.prog 89 cloS := by
  intro xs p r own h hp
  unfold cloS at h
  split at h
  · rename_i n lo hi
    simp only [Option.some.injEq, Prod.mk.injEq] at h
    obtain ⟨rfl, rfl, rfl⟩ := h
    refine fun_ok (gam_ok gam_nil) lawy_mixed y89_eq none ?_ (Nat.le_of_ble_eq_true rfl)
    simp (config := { maxSteps := 9000000 }) only [↓vyD, vyU, binS, SV.go1, SV.go0, mkRow, intsOf, boolsOf, strsOf, chunks, Row.rep, Row.cat, Row.sub, Row.put, Row.len, Row.get, Row.size, Row.flat, bnds, own0, own1, labsL, labsR, SV.labs, argsOf, entFr, SO.ev, St.of, keepSt, getAll, lookN, hasN, SV.cells, SV.one, SV.res1, SV.res0, SV.resP, SV.ok1, SV.ok0, SV.okN, SV.solid, SV.solid1, SV.solid0, SV.flat0, SV.nm, SV.nm1, SV.nm0, SV.noPtr1, SV.noPtr0, Cel.isFresh, fillP, setAt, partV, eqCells, cellEq, gamY, listsOk, tupOf, takeOwn, SV.ret1, resAll, resL, resV, Nat.reduceEqDiff, ↓reduceIte, Nat.reduceAdd, Nat.reduceMul, Nat.reduceLeDiff, Nat.reduceLT, reduceCtorEq, labOk, Int.reduceBEq, Int.reduceBNe, Int.reduceToNat, Int.reduceLE, Int.reduceLT, Int.reduceEq, Nat.reduceDiv, Nat.reduceMod, Nat.reduceSub, Nat.reduceBEq, y89, fitR, fitR1, fitR0]
    split <;> simp_all <;> omega
  · cases h
def wwS : Say
  | [.int .i64 lo, .int .i64 hi] => some (True, .clo 89 [.fz [.int .i64 lo], .fz [.int .i64 hi]], none)
  | _ => none
theorem ww_ok : FOk Try.prog 62 wwS := by
  intro xs p r own h hp
  unfold wwS at h
  split at h
  · rename_i lo hi
    simp only [Option.some.injEq, Prod.mk.injEq] at h
    obtain ⟨rfl, rfl, rfl⟩ := h
    refine fun_ok (gam_ok gam_nil) lawy_mixed y62_eq none ?_ (Nat.le_of_ble_eq_true rfl)
    simp (config := { maxSteps := 9000000 }) only [↓vyD, vyU, binS, SV.go1, SV.go0, mkRow, intsOf, boolsOf, strsOf, chunks, Row.rep, Row.cat, Row.sub, Row.put, Row.len, Row.get, Row.size, Row.flat, bnds, own0, own1, labsL, labsR, SV.labs, argsOf, entFr, SO.ev, St.of, keepSt, getAll, lookN, hasN, SV.cells, SV.one, SV.res1, SV.res0, SV.resP, SV.ok1, SV.ok0, SV.okN, SV.solid, SV.solid1, SV.solid0, SV.flat0, SV.nm, SV.nm1, SV.nm0, SV.noPtr1, SV.noPtr0, Cel.isFresh, fillP, setAt, partV, eqCells, cellEq, gamY, listsOk, tupOf, takeOwn, SV.ret1, resAll, resL, resV, Nat.reduceEqDiff, ↓reduceIte, Nat.reduceAdd, Nat.reduceMul, Nat.reduceLeDiff, Nat.reduceLT, reduceCtorEq, labOk, Int.reduceBEq, Int.reduceBNe, Int.reduceToNat, Int.reduceLE, Int.reduceLT, Int.reduceEq, Nat.reduceDiv, Nat.reduceMod, Nat.reduceSub, Nat.reduceBEq, y62, fitR, fitR1, fitR0]
  · cases h
theorem withinN_lt (k : Int) {n : Int} (h : 0 < n) : 0 ≤ withinN k n ∧ withinN k n < n :=
  ⟨Int.emod_nonneg _ (by omega), Int.emod_lt_of_pos _ h⟩
theorem take_snoc {l : List Int} {i : Nat} (h : i < l.length) : l.take (i + 1) = l.take i ++ [l.getD i 0] := by
  rw [List.take_add_one, List.getElem?_eq_getElem h, List.getD_eq_getElem?_getD, List.getElem?_eq_getElem h]; rfl
theorem take_all {p : Int → Bool} {l : List Int} {i : Nat} (h : i < l.length) : (l.take (i + 1)).all p = ((l.take i).all p && p (l.getD i 0)) := by
  rw [take_snoc h, List.all_append, List.all_cons, List.all_nil, Bool.and_true]
theorem getD_mem {l : List Int} {i : Nat} (h : i < l.length) : l.getD i 0 ∈ l := by
  rw [List.getD_eq_getElem?_getD, List.getElem?_eq_getElem h]; exact List.getElem_mem h
theorem all_false_of {p : Int → Bool} {l : List Int} {i : Nat} (h : i < l.length) (hp : p (l.getD i 0) = false) : l.all p = false := by
  rw [List.all_eq_false]
  exact ⟨_, getD_mem h, by rw [hp]; simp⟩
theorem take_sum {f : Int → Int} {l : List Int} {i : Nat} (h : i < l.length) : ((l.take (i + 1)).map f).sum = ((l.take i).map f).sum + f (l.getD i 0) := by
  rw [take_snoc h, List.map_append, List.sum_append, List.map_cons, List.map_nil, List.sum_cons, List.sum_nil, Int.add_zero]
/-- A value; a list of values. -/
def valB (n : Int) : Bool := decide (0 ≤ n ∧ n ≤ 16777216)
def listE (l : List Int) : Int := if 64 < l.length then 2 else if l.all valB then 0 else 1
def listS : Say
  | [x] => (asI x).map fun l => (True, .int .i64 (listE l), none)
  | _ => none
def g1 : List (Nat × Say) := [(62, wwS), (89, cloS)]
theorem g1_ok : GamOk Try.prog (gamY g1) := gam_ok (gam_cons ww_ok (gam_cons clo_ok gam_nil))
theorem list_ok : FOk Try.prog 63 listS := by
  intro xs p r own h hp
  unfold listS at h
  split at h
  · rename_i x
    obtain ⟨l, hx, h⟩ := Option.map_eq_some_iff.1 h
    simp only [Prod.mk.injEq] at h
    obtain ⟨rfl, rfl, rfl⟩ := h
    refine fun_fit (ys := [.rw (.ints .i64 l)]) ?_ ⟨asI_fit hx, trivial⟩
    refine fun_ok g1_ok lawy_mixed y63_eq none ?_ (Nat.le_of_ble_eq_true rfl)
    simp (config := { maxSteps := 9000000 }) only [↓vyD, vyU, binS, SV.go1, SV.go0, mkRow, intsOf, boolsOf, strsOf, chunks, Row.rep, Row.cat, Row.sub, Row.put, Row.len, Row.get, Row.size, Row.flat, bnds, own0, own1, labsL, labsR, SV.labs, argsOf, entFr, SO.ev, St.of, keepSt, getAll, lookN, hasN, SV.cells, SV.one, SV.res1, SV.res0, SV.resP, SV.ok1, SV.ok0, SV.okN, SV.solid, SV.solid1, SV.solid0, SV.flat0, SV.nm, SV.nm1, SV.nm0, SV.noPtr1, SV.noPtr0, Cel.isFresh, fillP, setAt, partV, eqCells, cellEq, gamY, listsOk, tupOf, takeOwn, SV.ret1, resAll, resL, resV, Nat.reduceEqDiff, ↓reduceIte, Nat.reduceAdd, Nat.reduceMul, Nat.reduceLeDiff, Nat.reduceLT, reduceCtorEq, labOk, Int.reduceBEq, Int.reduceBNe, Int.reduceToNat, Int.reduceLE, Int.reduceLT, Int.reduceEq, Nat.reduceDiv, Nat.reduceMod, Nat.reduceSub, Nat.reduceBEq, y63, fitR, fitR1, fitR0, g1, wwS, cloS]
    split
    · rename_i hlt
      have : 64 < l.length := by omega
      simp [listE, this]
    · rename_i hlt
      have h64 : ¬ 64 < l.length := by omega
      refine loopG_intro (ι := Nat) (fun i => [(0, .rw (.ints .i64 l)), (2, .int .i64 0), (3, .clo 89 [.fz [.int .i64 0], .fz [.int .i64 16777216]]), (10, .rw (.ints .i64 l)), (11, .int .i64 l.length), (12, .int .i64 i)]) (fun _ => []) (fun i => i ≤ l.length ∧ (l.take i).all valB = true) (fun i => l.length - i) ⟨0, ⟨by omega, by simp⟩, ?_, ?_, ?_⟩ fun i ⟨hi, hall⟩ => ?_
      · simp (config := { maxSteps := 9000000 }) only [↓vyD, vyU, binS, SV.go1, SV.go0, mkRow, intsOf, boolsOf, strsOf, chunks, Row.rep, Row.cat, Row.sub, Row.put, Row.len, Row.get, Row.size, Row.flat, bnds, own0, own1, labsL, labsR, SV.labs, argsOf, entFr, SO.ev, St.of, keepSt, getAll, lookN, hasN, SV.cells, SV.one, SV.res1, SV.res0, SV.resP, SV.ok1, SV.ok0, SV.okN, SV.solid, SV.solid1, SV.solid0, SV.flat0, SV.nm, SV.nm1, SV.nm0, SV.noPtr1, SV.noPtr0, Cel.isFresh, fillP, setAt, partV, eqCells, cellEq, gamY, listsOk, tupOf, takeOwn, SV.ret1, resAll, resL, resV, Nat.reduceEqDiff, ↓reduceIte, Nat.reduceAdd, Nat.reduceMul, Nat.reduceLeDiff, Nat.reduceLT, reduceCtorEq, labOk, Int.reduceBEq, Int.reduceBNe, Int.reduceToNat, Int.reduceLE, Int.reduceLT, Int.reduceEq, Nat.reduceDiv, Nat.reduceMod, Nat.reduceSub, Nat.reduceBEq, fitR]
      · simp (config := { maxSteps := 9000000 }) only [↓vyD, vyU, binS, SV.go1, SV.go0, mkRow, intsOf, boolsOf, strsOf, chunks, Row.rep, Row.cat, Row.sub, Row.put, Row.len, Row.get, Row.size, Row.flat, bnds, own0, own1, labsL, labsR, SV.labs, argsOf, entFr, SO.ev, St.of, keepSt, getAll, lookN, hasN, SV.cells, SV.one, SV.res1, SV.res0, SV.resP, SV.ok1, SV.ok0, SV.okN, SV.solid, SV.solid1, SV.solid0, SV.flat0, SV.nm, SV.nm1, SV.nm0, SV.noPtr1, SV.noPtr0, Cel.isFresh, fillP, setAt, partV, eqCells, cellEq, gamY, listsOk, tupOf, takeOwn, SV.ret1, resAll, resL, resV, Nat.reduceEqDiff, ↓reduceIte, Nat.reduceAdd, Nat.reduceMul, Nat.reduceLeDiff, Nat.reduceLT, reduceCtorEq, labOk, Int.reduceBEq, Int.reduceBNe, Int.reduceToNat, Int.reduceLE, Int.reduceLT, Int.reduceEq, Nat.reduceDiv, Nat.reduceMod, Nat.reduceSub, Nat.reduceBEq, fitR]
      · simp (config := { maxSteps := 9000000 }) only [↓vyD, vyU, binS, SV.go1, SV.go0, mkRow, intsOf, boolsOf, strsOf, chunks, Row.rep, Row.cat, Row.sub, Row.put, Row.len, Row.get, Row.size, Row.flat, bnds, own0, own1, labsL, labsR, SV.labs, argsOf, entFr, SO.ev, St.of, keepSt, getAll, lookN, hasN, SV.cells, SV.one, SV.res1, SV.res0, SV.resP, SV.ok1, SV.ok0, SV.okN, SV.solid, SV.solid1, SV.solid0, SV.flat0, SV.nm, SV.nm1, SV.nm0, SV.noPtr1, SV.noPtr0, Cel.isFresh, fillP, setAt, partV, eqCells, cellEq, gamY, listsOk, tupOf, takeOwn, SV.ret1, resAll, resL, resV, Nat.reduceEqDiff, ↓reduceIte, Nat.reduceAdd, Nat.reduceMul, Nat.reduceLeDiff, Nat.reduceLT, reduceCtorEq, labOk, Int.reduceBEq, Int.reduceBNe, Int.reduceToNat, Int.reduceLE, Int.reduceLT, Int.reduceEq, Nat.reduceDiv, Nat.reduceMod, Nat.reduceSub, Nat.reduceBEq, fitR]
      · simp (config := { maxSteps := 9000000 }) only [↓vyD, vyU, binS, SV.go1, SV.go0, mkRow, intsOf, boolsOf, strsOf, chunks, Row.rep, Row.cat, Row.sub, Row.put, Row.len, Row.get, Row.size, Row.flat, bnds, own0, own1, labsL, labsR, SV.labs, argsOf, entFr, SO.ev, St.of, keepSt, getAll, lookN, hasN, SV.cells, SV.one, SV.res1, SV.res0, SV.resP, SV.ok1, SV.ok0, SV.okN, SV.solid, SV.solid1, SV.solid0, SV.flat0, SV.nm, SV.nm1, SV.nm0, SV.noPtr1, SV.noPtr0, Cel.isFresh, fillP, setAt, partV, eqCells, cellEq, gamY, listsOk, tupOf, takeOwn, SV.ret1, resAll, resL, resV, Nat.reduceEqDiff, ↓reduceIte, Nat.reduceAdd, Nat.reduceMul, Nat.reduceLeDiff, Nat.reduceLT, reduceCtorEq, labOk, Int.reduceBEq, Int.reduceBNe, Int.reduceToNat, Int.reduceLE, Int.reduceLT, Int.reduceEq, Nat.reduceDiv, Nat.reduceMod, Nat.reduceSub, Nat.reduceBEq, fitR, wwS, cloS]
        simp only [Int.toNat_natCast]
        split
        · rename_i hlt'
          have hi' : i < l.length := by omega
          refine ⟨⟨by omega, by omega⟩, ?_⟩
          split
          · rename_i hv
            have hv' : valB (l.getD i 0) = false := by simp only [Bool.not_eq_true', decide_eq_false_iff_not] at hv; simp only [valB, decide_eq_false_iff_not]; exact hv
            have : l.all valB = false := all_false_of hi' hv'
            simp [listE, h64, this]
          · rename_i hv
            have hv' : valB (l.getD i 0) = true := by simp only [Bool.not_eq_true', decide_eq_false_iff_not, Classical.not_not] at hv; simp only [valB, decide_eq_true_eq]; exact hv
            refine ⟨i + 1, ⟨⟨by omega, by rw [take_all hi', hall, hv']; rfl⟩, by omega⟩, ?_⟩
            rw [i64_wrap (by unfold I64; omega)]
            simp
        · have : i = l.length := by omega
          subst this
          rw [List.take_length] at hall
          simp [listE, h64, hall]
  · cases h

/-! stat -/
def sv3 (a b c : Int) : SV := .agg [.int .i64 a, .int .i64 b, .int .i64 c]
def singleS : Say
  | [.int .i64 n] => some (I64 (n * n), sv3 1 n (n * n), none)
  | _ => none
theorem single_ok : FOk Try.prog 71 singleS := by
  intro xs p r own h hp
  unfold singleS at h
  split at h
  · rename_i n
    simp only [Option.some.injEq, Prod.mk.injEq] at h
    obtain ⟨rfl, rfl, rfl⟩ := h
    refine fun_ok (gam_ok gam_nil) lawy_mixed y71_eq none ?_ (Nat.le_of_ble_eq_true rfl)
    simp (config := { maxSteps := 9000000 }) only [↓vyD, vyU, binS, SV.go1, SV.go0, mkRow, intsOf, boolsOf, strsOf, chunks, Row.rep, Row.cat, Row.sub, Row.put, Row.len, Row.get, Row.size, Row.flat, bnds, own0, own1, labsL, labsR, SV.labs, argsOf, entFr, SO.ev, St.of, keepSt, getAll, lookN, hasN, SV.cells, SV.one, SV.res1, SV.res0, SV.resP, SV.ok1, SV.ok0, SV.okN, SV.solid, SV.solid1, SV.solid0, SV.flat0, SV.nm, SV.nm1, SV.nm0, SV.noPtr1, SV.noPtr0, Cel.isFresh, fillP, setAt, partV, eqCells, cellEq, gamY, listsOk, tupOf, takeOwn, SV.ret1, resAll, resL, resV, Nat.reduceEqDiff, ↓reduceIte, Nat.reduceAdd, Nat.reduceMul, Nat.reduceLeDiff, Nat.reduceLT, reduceCtorEq, labOk, Int.reduceBEq, Int.reduceBNe, Int.reduceToNat, Int.reduceLE, Int.reduceLT, Int.reduceEq, Nat.reduceDiv, Nat.reduceMod, Nat.reduceSub, Nat.reduceBEq, y71, fitR, fitR1, fitR0, fitRL, sv3, i64_wrap hp]
  · cases h
def plusS : Say
  | [.agg [.int .i64 a, .int .i64 b, .int .i64 c], .agg [.int .i64 a', .int .i64 b', .int .i64 c']] => some (I64 (a + a') ∧ I64 (b + b') ∧ I64 (c + c'), sv3 (a + a') (b + b') (c + c'), none)
  | _ => none
theorem plus_ok : FOk Try.prog 70 plusS := by
  intro xs p r own h hp
  unfold plusS at h
  split at h
  · rename_i a b c a' b' c'
    simp only [Option.some.injEq, Prod.mk.injEq] at h
    obtain ⟨rfl, rfl, rfl⟩ := h
    refine fun_ok (gam_ok gam_nil) lawy_mixed y70_eq none ?_ (Nat.le_of_ble_eq_true rfl)
    simp (config := { maxSteps := 9000000 }) only [↓vyD, vyU, binS, SV.go1, SV.go0, mkRow, intsOf, boolsOf, strsOf, chunks, Row.rep, Row.cat, Row.sub, Row.put, Row.len, Row.get, Row.size, Row.flat, bnds, own0, own1, labsL, labsR, SV.labs, argsOf, entFr, SO.ev, St.of, keepSt, getAll, lookN, hasN, SV.cells, SV.one, SV.res1, SV.res0, SV.resP, SV.ok1, SV.ok0, SV.okN, SV.solid, SV.solid1, SV.solid0, SV.flat0, SV.nm, SV.nm1, SV.nm0, SV.noPtr1, SV.noPtr0, Cel.isFresh, fillP, setAt, partV, eqCells, cellEq, gamY, listsOk, tupOf, takeOwn, SV.ret1, resAll, resL, resV, Nat.reduceEqDiff, ↓reduceIte, Nat.reduceAdd, Nat.reduceMul, Nat.reduceLeDiff, Nat.reduceLT, reduceCtorEq, labOk, Int.reduceBEq, Int.reduceBNe, Int.reduceToNat, Int.reduceLE, Int.reduceLT, Int.reduceEq, Nat.reduceDiv, Nat.reduceMod, Nat.reduceSub, Nat.reduceBEq, y70, fitR, fitR1, fitR0, fitRL, sv3, i64_wrap hp.1, i64_wrap hp.2.1, i64_wrap hp.2.2]
  · cases h
def spreadS : Say
  | [.agg [.int .i64 a, .int .i64 b, .int .i64 c]] => some (I64 (a * c) ∧ I64 (b * b) ∧ I64 (a * c - b * b), .int .i64 (a * c - b * b), none)
  | _ => none
theorem spread_ok : FOk Try.prog 112 spreadS := by
  intro xs p r own h hp
  unfold spreadS at h
  split at h
  · rename_i a b c
    simp only [Option.some.injEq, Prod.mk.injEq] at h
    obtain ⟨rfl, rfl, rfl⟩ := h
    refine fun_ok (gam_ok gam_nil) lawy_mixed y112_eq none ?_ (Nat.le_of_ble_eq_true rfl)
    simp (config := { maxSteps := 9000000 }) only [↓vyD, vyU, binS, SV.go1, SV.go0, mkRow, intsOf, boolsOf, strsOf, chunks, Row.rep, Row.cat, Row.sub, Row.put, Row.len, Row.get, Row.size, Row.flat, bnds, own0, own1, labsL, labsR, SV.labs, argsOf, entFr, SO.ev, St.of, keepSt, getAll, lookN, hasN, SV.cells, SV.one, SV.res1, SV.res0, SV.resP, SV.ok1, SV.ok0, SV.okN, SV.solid, SV.solid1, SV.solid0, SV.flat0, SV.nm, SV.nm1, SV.nm0, SV.noPtr1, SV.noPtr0, Cel.isFresh, fillP, setAt, partV, eqCells, cellEq, gamY, listsOk, tupOf, takeOwn, SV.ret1, resAll, resL, resV, Nat.reduceEqDiff, ↓reduceIte, Nat.reduceAdd, Nat.reduceMul, Nat.reduceLeDiff, Nat.reduceLT, reduceCtorEq, labOk, Int.reduceBEq, Int.reduceBNe, Int.reduceToNat, Int.reduceLE, Int.reduceLT, Int.reduceEq, Nat.reduceDiv, Nat.reduceMod, Nat.reduceSub, Nat.reduceBEq, y112, fitR, fitR1, fitR0, i64_wrap hp.1, i64_wrap hp.2.1, i64_wrap hp.2.2]
  · cases h
/-- May they be sums? -/
def checkE (a b c : Int) : Int :=
  if a < 0 ∨ 64 < a then 1 else if b < 0 ∨ a * 16777216 < b then 1 else if c < b ∨ b * 16777216 < c then 1 else if a * c - b * b < 0 then 9 else 0
def checkS : Say
  | [.agg [.int .i64 a, .int .i64 b, .int .i64 c]] => some (True, .int .i64 (checkE a b c), none)
  | _ => none
theorem mul_bd {x y X Y : Int} (h0 : 0 ≤ x) (h1 : x ≤ X) (h2 : 0 ≤ y) (h3 : y ≤ Y) : 0 ≤ x * y ∧ x * y ≤ X * Y :=
  ⟨Int.mul_nonneg h0 h2, Int.mul_le_mul h1 h3 h2 (by omega)⟩
theorem check_bd {a b c : Int} (h1 : 0 ≤ a) (h2 : a ≤ 64) (h3 : 0 ≤ b) (h4 : b ≤ a * 16777216) (h5 : b ≤ c) (h6 : c ≤ b * 16777216) : b ≤ 1073741824 ∧ c ≤ 18014398509481984 ∧ 0 ≤ a * c ∧ a * c ≤ 1152921504606846976 ∧ 0 ≤ b * b ∧ b * b ≤ 1152921504606846976 := by
  have hb : b ≤ 1073741824 := by omega
  have hc : c ≤ 18014398509481984 := by omega
  have e1 := mul_bd h1 h2 (show 0 ≤ c by omega) hc
  have e2 := mul_bd h3 hb h3 hb
  exact ⟨hb, hc, e1.1, by omega, e2.1, by omega⟩
theorem check_ok : FOk Try.prog 111 checkS := by
  intro xs p r own h hp
  unfold checkS at h
  split at h
  · rename_i a b c
    simp only [Option.some.injEq, Prod.mk.injEq] at h
    obtain ⟨rfl, rfl, rfl⟩ := h
    refine fun_ok (Γ := gamY [(112, spreadS)]) (gam_ok (gam_cons spread_ok gam_nil)) lawy_mixed y111_eq none ?_ (Nat.le_of_ble_eq_true rfl)
    simp (config := { maxSteps := 9000000 }) only [↓vyD, vyU, binS, SV.go1, SV.go0, mkRow, intsOf, boolsOf, strsOf, chunks, Row.rep, Row.cat, Row.sub, Row.put, Row.len, Row.get, Row.size, Row.flat, bnds, own0, own1, labsL, labsR, SV.labs, argsOf, entFr, SO.ev, St.of, keepSt, getAll, lookN, hasN, SV.cells, SV.one, SV.res1, SV.res0, SV.resP, SV.ok1, SV.ok0, SV.okN, SV.solid, SV.solid1, SV.solid0, SV.flat0, SV.nm, SV.nm1, SV.nm0, SV.noPtr1, SV.noPtr0, Cel.isFresh, fillP, setAt, partV, eqCells, cellEq, gamY, listsOk, tupOf, takeOwn, SV.ret1, resAll, resL, resV, Nat.reduceEqDiff, ↓reduceIte, Nat.reduceAdd, Nat.reduceMul, Nat.reduceLeDiff, Nat.reduceLT, reduceCtorEq, labOk, Int.reduceBEq, Int.reduceBNe, Int.reduceToNat, Int.reduceLE, Int.reduceLT, Int.reduceEq, Nat.reduceDiv, Nat.reduceMod, Nat.reduceSub, Nat.reduceBEq, y111, fitR, fitR1, fitR0, spreadS]
    have ite_eq : ∀ {v : Int}, checkE a b c = v → v = checkE a b c := fun h => h.symm
    by_cases c1 : a < 0
    · simp only [c1, not_true_eq_false, if_false]; exact ite_eq (by simp [checkE, c1])
    by_cases c2 : 64 < a
    · simp only [c1, c2, not_false_eq_true, if_true]; exact ite_eq (by simp [checkE, c2])
    have w1 : IntKind.i64.wrap (a * 16777216) = a * 16777216 := i64_wrap (by unfold I64; omega)
    by_cases c3 : b < 0
    · simp only [c1, c2, c3, not_false_eq_true, not_true_eq_false, if_true, if_false]; exact ite_eq (by simp [checkE, c1, c2, c3])
    by_cases c4 : a * 16777216 < b
    · simp only [c1, c2, c3, c4, w1, not_false_eq_true, not_true_eq_false, if_true, if_false]; exact ite_eq (by simp [checkE, c1, c2, c3, c4])
    have w2 : IntKind.i64.wrap (b * 16777216) = b * 16777216 := i64_wrap (by unfold I64; omega)
    by_cases c5 : c < b
    · simp only [c1, c2, c3, c4, c5, w1, w2, not_false_eq_true, not_true_eq_false, if_true, if_false]; exact ite_eq (by simp [checkE, c1, c2, c3, c4, c5])
    by_cases c6 : b * 16777216 < c
    · simp only [c1, c2, c3, c4, c5, c6, w1, w2, not_false_eq_true, not_true_eq_false, if_true, if_false]; exact ite_eq (by simp [checkE, c1, c2, c3, c4, c5, c6])
    obtain ⟨q1, q2, q3, q4, q5, q6⟩ := check_bd (show 0 ≤ a by omega) (by omega) (show 0 ≤ b by omega) (by omega) (show b ≤ c by omega) (by omega)
    simp only [c1, c2, c3, c4, c5, c6, w1, w2, not_false_eq_true, if_true, if_false]
    refine ⟨⟨by unfold I64; omega, by unfold I64; omega, by unfold I64; omega⟩, ?_⟩
    by_cases c7 : a * c - b * b < 0
    · simp only [c7, if_true]; exact ite_eq (by simp only [checkE, c1, c2, c3, c4, c5, c6, c7, or_self, if_false, if_true])
    · simp only [c7, if_false]; exact ite_eq (by simp only [checkE, c1, c2, c3, c4, c5, c6, c7, or_self, if_false])
  · cases h
end Go.Proofs.Ytgklfolmlcfjgaa
