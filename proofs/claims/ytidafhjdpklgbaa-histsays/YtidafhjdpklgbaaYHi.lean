/- What the functions of hist do. -/
import Derived.Test.YtidafhjdpklgbaaYHs
import Derived.Test.YtidafhjdpklgbaaYS5
import Derived.Test.YtidafhjdpklgbaaCS5
namespace Go.Proofs.Ytidafhjdpklgbaa
open Go.ChangeShapes Go.WideShapes Go.ChangeAt Go.RowKit Go.Joins Y
set_option linter.unusedSimpArgs false
set_option linter.unusedVariables false
set_option maxRecDepth 100000
set_option maxHeartbeats 40000000
def cntB (n : Int) : Bool := decide (0 ≤ n ∧ n ≤ 1073741824)
def hE (l : List Int) : Int := if l.all cntB then 0 else 1
def hchkS : Say
  | [.agg x_l] => (match asH x_l with | some l => some (True, .int .i64 (hE l), none) | _ => none)
  | _ => none
theorem hchk_ok : FOk Try.prog 19 hchkS := by
  intro xs p r own h hp
  unfold hchkS at h
  split at h
  case h_2 => cases h
  rename_i x_l
  split at h
  case h_2 => cases h
  rename_i l h_l
  simp only [Option.some.injEq, Prod.mk.injEq] at h
  obtain ⟨rfl, rfl, rfl⟩ := h
  refine fun_fit (ys := [.agg (hC l)]) ?_ ⟨asH_fit h_l, trivial⟩
  have len_l := asH_len h_l
  clear h_l
  refine fun_ok (gam_ok gam_nil) lawy_mixed y19_eq none ?_ (Nat.le_of_ble_eq_true rfl)
  simp (config := { maxSteps := 9000000 }) only [↓vyD, vyU, binS, SV.go1, SV.go0, mkRow, intsOf, boolsOf, strsOf, chunks, Row.rep, Row.cat, Row.sub, Row.put, Row.len, Row.get, Row.size, Row.flat, bnds, own0, own1, labsL, labsR, SV.labs, argsOf, entFr, SO.ev, St.of, keepSt, getAll, lookN, hasN, SV.cells, SV.one, SV.res1, SV.res0, SV.resP, SV.ok1, SV.ok0, SV.okN, SV.solid, SV.solid1, SV.solid0, SV.flat0, SV.nm, SV.nm1, SV.nm0, SV.noPtr1, SV.noPtr0, Cel.isFresh, fillP, setAt, partV, eqCells, cellEq, gamY, listsOk, tupOf, takeOwn, SV.ret1, resAll, resL, resV, Nat.reduceEqDiff, ↓reduceIte, Nat.reduceAdd, Nat.reduceMul, Nat.reduceLeDiff, Nat.reduceLT, reduceCtorEq, labOk, Int.reduceBEq, Int.reduceBNe, Int.reduceToNat, Int.reduceLE, Int.reduceLT, Int.reduceEq, Nat.reduceDiv, Nat.reduceMod, Nat.reduceSub, Nat.reduceBEq, fitR, fitR1, fitR0, fitRL1, fitRL, y19, hC_len, hC_take, hC_one, hC_ok, hC_solid, hC_np, hC_res, hC_go, hC_nm, hC_labs, hC_own, hC_set, hC_over, hC_fitR, hC_fitL, hZ, zL_len, asH_hC, len_l]
  refine loopG_intro (ι := Nat) (fun i => [(6, .agg (hC l)), (7, .int .i64 i)]) (fun _ => []) (fun i => i ≤ l.length ∧ (l.take i).all cntB = true) (fun i => l.length - i) ⟨0, ⟨by omega, by simp⟩, ?_, ?_, ?_⟩ fun i ⟨hi, hall⟩ => ?_
  · simp (config := { maxSteps := 9000000 }) only [↓vyD, vyU, binS, SV.go1, SV.go0, mkRow, intsOf, boolsOf, strsOf, chunks, Row.rep, Row.cat, Row.sub, Row.put, Row.len, Row.get, Row.size, Row.flat, bnds, own0, own1, labsL, labsR, SV.labs, argsOf, entFr, SO.ev, St.of, keepSt, getAll, lookN, hasN, SV.cells, SV.one, SV.res1, SV.res0, SV.resP, SV.ok1, SV.ok0, SV.okN, SV.solid, SV.solid1, SV.solid0, SV.flat0, SV.nm, SV.nm1, SV.nm0, SV.noPtr1, SV.noPtr0, Cel.isFresh, fillP, setAt, partV, eqCells, cellEq, gamY, listsOk, tupOf, takeOwn, SV.ret1, resAll, resL, resV, Nat.reduceEqDiff, ↓reduceIte, Nat.reduceAdd, Nat.reduceMul, Nat.reduceLeDiff, Nat.reduceLT, reduceCtorEq, labOk, Int.reduceBEq, Int.reduceBNe, Int.reduceToNat, Int.reduceLE, Int.reduceLT, Int.reduceEq, Nat.reduceDiv, Nat.reduceMod, Nat.reduceSub, Nat.reduceBEq, fitR, fitR1, fitR0, fitRL1, fitRL, hC_len, hC_take, hC_one, hC_ok, hC_solid, hC_np, hC_res, hC_go, hC_nm, hC_labs, hC_own, hC_set, hC_over, hC_fitR, hC_fitL, hZ, zL_len, asH_hC, len_l]
  · simp (config := { maxSteps := 9000000 }) only [↓vyD, vyU, binS, SV.go1, SV.go0, mkRow, intsOf, boolsOf, strsOf, chunks, Row.rep, Row.cat, Row.sub, Row.put, Row.len, Row.get, Row.size, Row.flat, bnds, own0, own1, labsL, labsR, SV.labs, argsOf, entFr, SO.ev, St.of, keepSt, getAll, lookN, hasN, SV.cells, SV.one, SV.res1, SV.res0, SV.resP, SV.ok1, SV.ok0, SV.okN, SV.solid, SV.solid1, SV.solid0, SV.flat0, SV.nm, SV.nm1, SV.nm0, SV.noPtr1, SV.noPtr0, Cel.isFresh, fillP, setAt, partV, eqCells, cellEq, gamY, listsOk, tupOf, takeOwn, SV.ret1, resAll, resL, resV, Nat.reduceEqDiff, ↓reduceIte, Nat.reduceAdd, Nat.reduceMul, Nat.reduceLeDiff, Nat.reduceLT, reduceCtorEq, labOk, Int.reduceBEq, Int.reduceBNe, Int.reduceToNat, Int.reduceLE, Int.reduceLT, Int.reduceEq, Nat.reduceDiv, Nat.reduceMod, Nat.reduceSub, Nat.reduceBEq, fitR, fitR1, fitR0, fitRL1, fitRL, hC_len, hC_take, hC_one, hC_ok, hC_solid, hC_np, hC_res, hC_go, hC_nm, hC_labs, hC_own, hC_set, hC_over, hC_fitR, hC_fitL, hZ, zL_len, asH_hC, len_l, Int.natCast_zero, Int.ofNat_zero]
  · simp (config := { maxSteps := 9000000 }) only [↓vyD, vyU, binS, SV.go1, SV.go0, mkRow, intsOf, boolsOf, strsOf, chunks, Row.rep, Row.cat, Row.sub, Row.put, Row.len, Row.get, Row.size, Row.flat, bnds, own0, own1, labsL, labsR, SV.labs, argsOf, entFr, SO.ev, St.of, keepSt, getAll, lookN, hasN, SV.cells, SV.one, SV.res1, SV.res0, SV.resP, SV.ok1, SV.ok0, SV.okN, SV.solid, SV.solid1, SV.solid0, SV.flat0, SV.nm, SV.nm1, SV.nm0, SV.noPtr1, SV.noPtr0, Cel.isFresh, fillP, setAt, partV, eqCells, cellEq, gamY, listsOk, tupOf, takeOwn, SV.ret1, resAll, resL, resV, Nat.reduceEqDiff, ↓reduceIte, Nat.reduceAdd, Nat.reduceMul, Nat.reduceLeDiff, Nat.reduceLT, reduceCtorEq, labOk, Int.reduceBEq, Int.reduceBNe, Int.reduceToNat, Int.reduceLE, Int.reduceLT, Int.reduceEq, Nat.reduceDiv, Nat.reduceMod, Nat.reduceSub, Nat.reduceBEq, fitR, fitR1, fitR0, fitRL1, fitRL, hC_len, hC_take, hC_one, hC_ok, hC_solid, hC_np, hC_res, hC_go, hC_nm, hC_labs, hC_own, hC_set, hC_over, hC_fitR, hC_fitL, hZ, zL_len, asH_hC, len_l]
  by_cases hlt : (i : Int) < 26
  · have hlt' : i < l.length := by omega
    have c0 : (0 : Int) ≤ (i : Int) := by omega
    have b1 := i64_wrap (show I64 ((i : Int) + 1) by unfold I64; omega)
    have hG := hC_get hlt'
    by_cases h1 : l.getD i 0 < 0
    · have hb : cntB (l.getD i 0) = false := decide_eq_false (by omega)
      have hE1 : hE l = 1 := by unfold hE; rw [all_false_of hlt' hb]; rfl
      simp (config := { maxSteps := 9000000 }) only [↓vyD, vyU, binS, SV.go1, SV.go0, mkRow, intsOf, boolsOf, strsOf, chunks, Row.rep, Row.cat, Row.sub, Row.put, Row.len, Row.get, Row.size, Row.flat, bnds, own0, own1, labsL, labsR, SV.labs, argsOf, entFr, SO.ev, St.of, keepSt, getAll, lookN, hasN, SV.cells, SV.one, SV.res1, SV.res0, SV.resP, SV.ok1, SV.ok0, SV.okN, SV.solid, SV.solid1, SV.solid0, SV.flat0, SV.nm, SV.nm1, SV.nm0, SV.noPtr1, SV.noPtr0, Cel.isFresh, fillP, setAt, partV, eqCells, cellEq, gamY, listsOk, tupOf, takeOwn, SV.ret1, resAll, resL, resV, Nat.reduceEqDiff, ↓reduceIte, Nat.reduceAdd, Nat.reduceMul, Nat.reduceLeDiff, Nat.reduceLT, reduceCtorEq, labOk, Int.reduceBEq, Int.reduceBNe, Int.reduceToNat, Int.reduceLE, Int.reduceLT, Int.reduceEq, Nat.reduceDiv, Nat.reduceMod, Nat.reduceSub, Nat.reduceBEq, fitR, fitR1, fitR0, fitRL1, fitRL, hC_len, hC_take, hC_one, hC_ok, hC_solid, hC_np, hC_res, hC_go, hC_nm, hC_labs, hC_own, hC_set, hC_over, hC_fitR, hC_fitL, hZ, zL_len, asH_hC, len_l, hlt, c0, hG, Int.toNat_natCast, Nat.mul_one, h1, hE1]
    · by_cases h2 : 1073741824 < l.getD i 0
      · have hb : cntB (l.getD i 0) = false := decide_eq_false (by omega)
        have hE1 : hE l = 1 := by unfold hE; rw [all_false_of hlt' hb]; rfl
        simp (config := { maxSteps := 9000000 }) only [↓vyD, vyU, binS, SV.go1, SV.go0, mkRow, intsOf, boolsOf, strsOf, chunks, Row.rep, Row.cat, Row.sub, Row.put, Row.len, Row.get, Row.size, Row.flat, bnds, own0, own1, labsL, labsR, SV.labs, argsOf, entFr, SO.ev, St.of, keepSt, getAll, lookN, hasN, SV.cells, SV.one, SV.res1, SV.res0, SV.resP, SV.ok1, SV.ok0, SV.okN, SV.solid, SV.solid1, SV.solid0, SV.flat0, SV.nm, SV.nm1, SV.nm0, SV.noPtr1, SV.noPtr0, Cel.isFresh, fillP, setAt, partV, eqCells, cellEq, gamY, listsOk, tupOf, takeOwn, SV.ret1, resAll, resL, resV, Nat.reduceEqDiff, ↓reduceIte, Nat.reduceAdd, Nat.reduceMul, Nat.reduceLeDiff, Nat.reduceLT, reduceCtorEq, labOk, Int.reduceBEq, Int.reduceBNe, Int.reduceToNat, Int.reduceLE, Int.reduceLT, Int.reduceEq, Nat.reduceDiv, Nat.reduceMod, Nat.reduceSub, Nat.reduceBEq, fitR, fitR1, fitR0, fitRL1, fitRL, hC_len, hC_take, hC_one, hC_ok, hC_solid, hC_np, hC_res, hC_go, hC_nm, hC_labs, hC_own, hC_set, hC_over, hC_fitR, hC_fitL, hZ, zL_len, asH_hC, len_l, hlt, c0, hG, Int.toNat_natCast, Nat.mul_one, h1, h2, hE1]
      · have hb : cntB (l.getD i 0) = true := decide_eq_true (by omega)
        simp (config := { maxSteps := 9000000 }) only [↓vyD, vyU, binS, SV.go1, SV.go0, mkRow, intsOf, boolsOf, strsOf, chunks, Row.rep, Row.cat, Row.sub, Row.put, Row.len, Row.get, Row.size, Row.flat, bnds, own0, own1, labsL, labsR, SV.labs, argsOf, entFr, SO.ev, St.of, keepSt, getAll, lookN, hasN, SV.cells, SV.one, SV.res1, SV.res0, SV.resP, SV.ok1, SV.ok0, SV.okN, SV.solid, SV.solid1, SV.solid0, SV.flat0, SV.nm, SV.nm1, SV.nm0, SV.noPtr1, SV.noPtr0, Cel.isFresh, fillP, setAt, partV, eqCells, cellEq, gamY, listsOk, tupOf, takeOwn, SV.ret1, resAll, resL, resV, Nat.reduceEqDiff, ↓reduceIte, Nat.reduceAdd, Nat.reduceMul, Nat.reduceLeDiff, Nat.reduceLT, reduceCtorEq, labOk, Int.reduceBEq, Int.reduceBNe, Int.reduceToNat, Int.reduceLE, Int.reduceLT, Int.reduceEq, Nat.reduceDiv, Nat.reduceMod, Nat.reduceSub, Nat.reduceBEq, fitR, fitR1, fitR0, fitRL1, fitRL, hC_len, hC_take, hC_one, hC_ok, hC_solid, hC_np, hC_res, hC_go, hC_nm, hC_labs, hC_own, hC_set, hC_over, hC_fitR, hC_fitL, hZ, zL_len, asH_hC, len_l, hlt, c0, hG, Int.toNat_natCast, Nat.mul_one, h1, h2, b1]
        exact ⟨i + 1, ⟨⟨by omega, by rw [take_all hlt', hall, hb]; rfl⟩, by omega⟩, by simp⟩
  · have hiS : i = l.length := by omega
    rw [hiS, List.take_length] at hall
    have hE0 : hE l = 0 := by unfold hE; rw [hall]; rfl
    simp (config := { maxSteps := 9000000 }) only [↓vyD, vyU, binS, SV.go1, SV.go0, mkRow, intsOf, boolsOf, strsOf, chunks, Row.rep, Row.cat, Row.sub, Row.put, Row.len, Row.get, Row.size, Row.flat, bnds, own0, own1, labsL, labsR, SV.labs, argsOf, entFr, SO.ev, St.of, keepSt, getAll, lookN, hasN, SV.cells, SV.one, SV.res1, SV.res0, SV.resP, SV.ok1, SV.ok0, SV.okN, SV.solid, SV.solid1, SV.solid0, SV.flat0, SV.nm, SV.nm1, SV.nm0, SV.noPtr1, SV.noPtr0, Cel.isFresh, fillP, setAt, partV, eqCells, cellEq, gamY, listsOk, tupOf, takeOwn, SV.ret1, resAll, resL, resV, Nat.reduceEqDiff, ↓reduceIte, Nat.reduceAdd, Nat.reduceMul, Nat.reduceLeDiff, Nat.reduceLT, reduceCtorEq, labOk, Int.reduceBEq, Int.reduceBNe, Int.reduceToNat, Int.reduceLE, Int.reduceLT, Int.reduceEq, Nat.reduceDiv, Nat.reduceMod, Nat.reduceSub, Nat.reduceBEq, fitR, fitR1, fitR0, fitRL1, fitRL, hC_len, hC_take, hC_one, hC_ok, hC_solid, hC_np, hC_res, hC_go, hC_nm, hC_labs, hC_own, hC_set, hC_over, hC_fitR, hC_fitL, hZ, zL_len, asH_hC, hlt, hE0]
theorem hE_0 {l : List Int} (hl : l.length = 26) : hE l = 0 ↔ ∀ i, i < 26 → 0 ≤ l.getD i 0 ∧ l.getD i 0 ≤ 1073741824 := by
  unfold hE
  constructor
  · intro h i hi
    have hall : l.all cntB = true := by
      cases hc : l.all cntB with
      | true => rfl
      | false => rw [hc] at h; simp at h
    have := (List.all_eq_true.1 hall) _ (getD_mem (l := l) (i := i) (by omega))
    exact of_decide_eq_true this
  · intro h
    have : l.all cntB = true := by
      rw [List.all_eq_true]
      intro x hx
      obtain ⟨j, hj, rfl⟩ := List.getElem_of_mem hx
      have := h j (by omega)
      rw [List.getD_eq_getElem?_getD, List.getElem?_eq_getElem hj] at this
      exact decide_eq_true this
    rw [this]; rfl
def sumK (l : List Int) (i : Nat) : Int := ((l.take i).map fun x => x).sum
theorem sumK_succ {l : List Int} {i : Nat} (h : i < l.length) : sumK l (i + 1) = sumK l i + l.getD i 0 := take_sum (f := fun x => x) h
theorem sumK_bd {l : List Int} (hl : l.length = 26) (hv : hE l = 0) : ∀ i, i ≤ 26 → 0 ≤ sumK l i ∧ sumK l i ≤ 1073741824 * (i : Int)
  | 0, _ => by simp [sumK]
  | i + 1, hi => by
    have h1 := sumK_bd hl hv i (by omega)
    have h2 := (hE_0 hl).1 hv i (by omega)
    rw [sumK_succ (by omega)]
    omega
def totalS : Say
  | [.agg x_l] => (match asH x_l with | some l => some (hE l = 0, .int .i64 (sumK l 26), none) | _ => none)
  | _ => none
theorem total_ok : FOk Try.prog 50 totalS := by
  intro xs p r own h hp
  unfold totalS at h
  split at h
  case h_2 => cases h
  rename_i x_l
  split at h
  case h_2 => cases h
  rename_i l h_l
  simp only [Option.some.injEq, Prod.mk.injEq] at h
  obtain ⟨rfl, rfl, rfl⟩ := h
  refine fun_fit (ys := [.agg (hC l)]) ?_ ⟨asH_fit h_l, trivial⟩
  have len_l := asH_len h_l
  clear h_l
  refine fun_ok (gam_ok gam_nil) lawy_mixed y50_eq none ?_ (Nat.le_of_ble_eq_true rfl)
  have hb := sumK_bd len_l hp
  simp (config := { maxSteps := 9000000 }) only [↓vyD, vyU, binS, SV.go1, SV.go0, mkRow, intsOf, boolsOf, strsOf, chunks, Row.rep, Row.cat, Row.sub, Row.put, Row.len, Row.get, Row.size, Row.flat, bnds, own0, own1, labsL, labsR, SV.labs, argsOf, entFr, SO.ev, St.of, keepSt, getAll, lookN, hasN, SV.cells, SV.one, SV.res1, SV.res0, SV.resP, SV.ok1, SV.ok0, SV.okN, SV.solid, SV.solid1, SV.solid0, SV.flat0, SV.nm, SV.nm1, SV.nm0, SV.noPtr1, SV.noPtr0, Cel.isFresh, fillP, setAt, partV, eqCells, cellEq, gamY, listsOk, tupOf, takeOwn, SV.ret1, resAll, resL, resV, Nat.reduceEqDiff, ↓reduceIte, Nat.reduceAdd, Nat.reduceMul, Nat.reduceLeDiff, Nat.reduceLT, reduceCtorEq, labOk, Int.reduceBEq, Int.reduceBNe, Int.reduceToNat, Int.reduceLE, Int.reduceLT, Int.reduceEq, Nat.reduceDiv, Nat.reduceMod, Nat.reduceSub, Nat.reduceBEq, fitR, fitR1, fitR0, fitRL1, fitRL, y50, hC_len, hC_take, hC_one, hC_ok, hC_solid, hC_np, hC_res, hC_go, hC_nm, hC_labs, hC_own, hC_set, hC_over, hC_fitR, hC_fitL, hZ, zL_len, asH_hC, len_l]
  refine loopG_intro (ι := Nat) (fun i => [(3, .int .i64 (sumK l i)), (7, .agg (hC l)), (8, .int .i64 i)]) (fun _ => []) (fun i => i ≤ 26) (fun i => 26 - i) ⟨0, by omega, ?_, ?_, ?_⟩ fun i hi => ?_
  · simp (config := { maxSteps := 9000000 }) only [↓vyD, vyU, binS, SV.go1, SV.go0, mkRow, intsOf, boolsOf, strsOf, chunks, Row.rep, Row.cat, Row.sub, Row.put, Row.len, Row.get, Row.size, Row.flat, bnds, own0, own1, labsL, labsR, SV.labs, argsOf, entFr, SO.ev, St.of, keepSt, getAll, lookN, hasN, SV.cells, SV.one, SV.res1, SV.res0, SV.resP, SV.ok1, SV.ok0, SV.okN, SV.solid, SV.solid1, SV.solid0, SV.flat0, SV.nm, SV.nm1, SV.nm0, SV.noPtr1, SV.noPtr0, Cel.isFresh, fillP, setAt, partV, eqCells, cellEq, gamY, listsOk, tupOf, takeOwn, SV.ret1, resAll, resL, resV, Nat.reduceEqDiff, ↓reduceIte, Nat.reduceAdd, Nat.reduceMul, Nat.reduceLeDiff, Nat.reduceLT, reduceCtorEq, labOk, Int.reduceBEq, Int.reduceBNe, Int.reduceToNat, Int.reduceLE, Int.reduceLT, Int.reduceEq, Nat.reduceDiv, Nat.reduceMod, Nat.reduceSub, Nat.reduceBEq, fitR, fitR1, fitR0, fitRL1, fitRL, hC_len, hC_take, hC_one, hC_ok, hC_solid, hC_np, hC_res, hC_go, hC_nm, hC_labs, hC_own, hC_set, hC_over, hC_fitR, hC_fitL, hZ, zL_len, asH_hC, len_l]
  · simp (config := { maxSteps := 9000000 }) only [↓vyD, vyU, binS, SV.go1, SV.go0, mkRow, intsOf, boolsOf, strsOf, chunks, Row.rep, Row.cat, Row.sub, Row.put, Row.len, Row.get, Row.size, Row.flat, bnds, own0, own1, labsL, labsR, SV.labs, argsOf, entFr, SO.ev, St.of, keepSt, getAll, lookN, hasN, SV.cells, SV.one, SV.res1, SV.res0, SV.resP, SV.ok1, SV.ok0, SV.okN, SV.solid, SV.solid1, SV.solid0, SV.flat0, SV.nm, SV.nm1, SV.nm0, SV.noPtr1, SV.noPtr0, Cel.isFresh, fillP, setAt, partV, eqCells, cellEq, gamY, listsOk, tupOf, takeOwn, SV.ret1, resAll, resL, resV, Nat.reduceEqDiff, ↓reduceIte, Nat.reduceAdd, Nat.reduceMul, Nat.reduceLeDiff, Nat.reduceLT, reduceCtorEq, labOk, Int.reduceBEq, Int.reduceBNe, Int.reduceToNat, Int.reduceLE, Int.reduceLT, Int.reduceEq, Nat.reduceDiv, Nat.reduceMod, Nat.reduceSub, Nat.reduceBEq, fitR, fitR1, fitR0, fitRL1, fitRL, hC_len, hC_take, hC_one, hC_ok, hC_solid, hC_np, hC_res, hC_go, hC_nm, hC_labs, hC_own, hC_set, hC_over, hC_fitR, hC_fitL, hZ, zL_len, asH_hC, len_l, Int.natCast_zero, Int.ofNat_zero, sumK, List.take_zero, List.map_nil, List.sum_nil]
  · simp (config := { maxSteps := 9000000 }) only [↓vyD, vyU, binS, SV.go1, SV.go0, mkRow, intsOf, boolsOf, strsOf, chunks, Row.rep, Row.cat, Row.sub, Row.put, Row.len, Row.get, Row.size, Row.flat, bnds, own0, own1, labsL, labsR, SV.labs, argsOf, entFr, SO.ev, St.of, keepSt, getAll, lookN, hasN, SV.cells, SV.one, SV.res1, SV.res0, SV.resP, SV.ok1, SV.ok0, SV.okN, SV.solid, SV.solid1, SV.solid0, SV.flat0, SV.nm, SV.nm1, SV.nm0, SV.noPtr1, SV.noPtr0, Cel.isFresh, fillP, setAt, partV, eqCells, cellEq, gamY, listsOk, tupOf, takeOwn, SV.ret1, resAll, resL, resV, Nat.reduceEqDiff, ↓reduceIte, Nat.reduceAdd, Nat.reduceMul, Nat.reduceLeDiff, Nat.reduceLT, reduceCtorEq, labOk, Int.reduceBEq, Int.reduceBNe, Int.reduceToNat, Int.reduceLE, Int.reduceLT, Int.reduceEq, Nat.reduceDiv, Nat.reduceMod, Nat.reduceSub, Nat.reduceBEq, fitR, fitR1, fitR0, fitRL1, fitRL, hC_len, hC_take, hC_one, hC_ok, hC_solid, hC_np, hC_res, hC_go, hC_nm, hC_labs, hC_own, hC_set, hC_over, hC_fitR, hC_fitL, hZ, zL_len, asH_hC, len_l]
  have hbi := hb i hi
  by_cases hlt : (i : Int) < 26
  · have hlt' : i < l.length := by omega
    have c0 : (0 : Int) ≤ (i : Int) := by omega
    have b1 := i64_wrap (show I64 ((i : Int) + 1) by unfold I64; omega)
    have hG := hC_get hlt'
    have hv := (hE_0 len_l).1 hp i (by omega)
    have hS := sumK_succ hlt'
    have w1 := i64_wrap (show I64 (sumK l i + l.getD i 0) by unfold I64; omega)
    simp (config := { maxSteps := 9000000 }) only [↓vyD, vyU, binS, SV.go1, SV.go0, mkRow, intsOf, boolsOf, strsOf, chunks, Row.rep, Row.cat, Row.sub, Row.put, Row.len, Row.get, Row.size, Row.flat, bnds, own0, own1, labsL, labsR, SV.labs, argsOf, entFr, SO.ev, St.of, keepSt, getAll, lookN, hasN, SV.cells, SV.one, SV.res1, SV.res0, SV.resP, SV.ok1, SV.ok0, SV.okN, SV.solid, SV.solid1, SV.solid0, SV.flat0, SV.nm, SV.nm1, SV.nm0, SV.noPtr1, SV.noPtr0, Cel.isFresh, fillP, setAt, partV, eqCells, cellEq, gamY, listsOk, tupOf, takeOwn, SV.ret1, resAll, resL, resV, Nat.reduceEqDiff, ↓reduceIte, Nat.reduceAdd, Nat.reduceMul, Nat.reduceLeDiff, Nat.reduceLT, reduceCtorEq, labOk, Int.reduceBEq, Int.reduceBNe, Int.reduceToNat, Int.reduceLE, Int.reduceLT, Int.reduceEq, Nat.reduceDiv, Nat.reduceMod, Nat.reduceSub, Nat.reduceBEq, fitR, fitR1, fitR0, fitRL1, fitRL, hC_len, hC_take, hC_one, hC_ok, hC_solid, hC_np, hC_res, hC_go, hC_nm, hC_labs, hC_own, hC_set, hC_over, hC_fitR, hC_fitL, hZ, zL_len, asH_hC, len_l, hlt, c0, hG, Int.toNat_natCast, Nat.mul_one, b1, w1]
    exact ⟨i + 1, ⟨by omega, by omega⟩, hS.symm, by simp⟩
  · have hiS : i = 26 := by omega
    subst hiS
    simp (config := { maxSteps := 9000000 }) only [↓vyD, vyU, binS, SV.go1, SV.go0, mkRow, intsOf, boolsOf, strsOf, chunks, Row.rep, Row.cat, Row.sub, Row.put, Row.len, Row.get, Row.size, Row.flat, bnds, own0, own1, labsL, labsR, SV.labs, argsOf, entFr, SO.ev, St.of, keepSt, getAll, lookN, hasN, SV.cells, SV.one, SV.res1, SV.res0, SV.resP, SV.ok1, SV.ok0, SV.okN, SV.solid, SV.solid1, SV.solid0, SV.flat0, SV.nm, SV.nm1, SV.nm0, SV.noPtr1, SV.noPtr0, Cel.isFresh, fillP, setAt, partV, eqCells, cellEq, gamY, listsOk, tupOf, takeOwn, SV.ret1, resAll, resL, resV, Nat.reduceEqDiff, ↓reduceIte, Nat.reduceAdd, Nat.reduceMul, Nat.reduceLeDiff, Nat.reduceLT, reduceCtorEq, labOk, Int.reduceBEq, Int.reduceBNe, Int.reduceToNat, Int.reduceLE, Int.reduceLT, Int.reduceEq, Nat.reduceDiv, Nat.reduceMod, Nat.reduceSub, Nat.reduceBEq, fitR, fitR1, fitR0, fitRL1, fitRL, hC_len, hC_take, hC_one, hC_ok, hC_solid, hC_np, hC_res, hC_go, hC_nm, hC_labs, hC_own, hC_set, hC_over, hC_fitR, hC_fitL, hZ, zL_len, asH_hC, hlt]
/-- The bit length of the k-th. -/
def lenK (l : List Int) (k : Int) : Nat → Nat → Nat
  | 0, i => i
  | f + 1, i => if sumK l (i + 1) < k then lenK l k f (i + 1) else i
def lenAtS : Say
  | [.agg x_l, .int .i64 k] => (match asH x_l with | some l => some (hE l = 0 ∧ 1 ≤ k ∧ k ≤ sumK l 26, .int .i64 (lenK l k 26 0 : Nat), none) | _ => none)
  | _ => none
theorem lenAt_ok : FOk Try.prog 53 lenAtS := by
  intro xs p r own h hp
  unfold lenAtS at h
  split at h
  case h_2 => cases h
  rename_i x_l k
  split at h
  case h_2 => cases h
  rename_i l h_l
  simp only [Option.some.injEq, Prod.mk.injEq] at h
  obtain ⟨rfl, rfl, rfl⟩ := h
  refine fun_fit (ys := [.agg (hC l), .int .i64 k]) ?_ ⟨asH_fit h_l, fit_refl1 _ (by simp), trivial⟩
  have len_l := asH_len h_l
  clear h_l
  refine fun_ok (gam_ok gam_nil) lawy_mixed y53_eq none ?_ (Nat.le_of_ble_eq_true rfl)
  obtain ⟨hv, hk1, hk2⟩ := hp
  have hb := sumK_bd len_l hv
  have h0 : (0 : Nat) < l.length := by omega
  have hG0 := hC_get h0
  have s1 : l.getD 0 0 = sumK l 1 := by
    have h9 : sumK l 1 = sumK l 0 + l.getD 0 0 := sumK_succ h0
    have e0 : sumK l 0 = 0 := by simp [sumK]
    omega
  rw [s1] at hG0
  simp (config := { maxSteps := 9000000 }) only [↓vyD, vyU, binS, SV.go1, SV.go0, mkRow, intsOf, boolsOf, strsOf, chunks, Row.rep, Row.cat, Row.sub, Row.put, Row.len, Row.get, Row.size, Row.flat, bnds, own0, own1, labsL, labsR, SV.labs, argsOf, entFr, SO.ev, St.of, keepSt, getAll, lookN, hasN, SV.cells, SV.one, SV.res1, SV.res0, SV.resP, SV.ok1, SV.ok0, SV.okN, SV.solid, SV.solid1, SV.solid0, SV.flat0, SV.nm, SV.nm1, SV.nm0, SV.noPtr1, SV.noPtr0, Cel.isFresh, fillP, setAt, partV, eqCells, cellEq, gamY, listsOk, tupOf, takeOwn, SV.ret1, resAll, resL, resV, Nat.reduceEqDiff, ↓reduceIte, Nat.reduceAdd, Nat.reduceMul, Nat.reduceLeDiff, Nat.reduceLT, reduceCtorEq, labOk, Int.reduceBEq, Int.reduceBNe, Int.reduceToNat, Int.reduceLE, Int.reduceLT, Int.reduceEq, Nat.reduceDiv, Nat.reduceMod, Nat.reduceSub, Nat.reduceBEq, fitR, fitR1, fitR0, fitRL1, fitRL, y53, hC_len, hC_take, hC_one, hC_ok, hC_solid, hC_np, hC_res, hC_go, hC_nm, hC_labs, hC_own, hC_set, hC_over, hC_fitR, hC_fitL, hZ, zL_len, asH_hC, len_l, hG0, Int.toNat_natCast, Nat.mul_one, Int.toNat_zero, Nat.zero_mul]
  refine loopG_intro (ι := Nat) (fun i => [(1, .int .i64 k), (2, .ptr 0 0), (5, .int .i64 i), (6, .int .i64 (sumK l (i + 1)))]) (fun _ => [(0, .var 24 (hC l))]) (fun i => i < 26 ∧ lenK l k (26 - i) i = lenK l k 26 0) (fun i => 26 - i) ⟨0, ⟨by omega, rfl⟩, ?_, ?_, ?_⟩ fun i ⟨hi, hr⟩ => ?_
  · simp (config := { maxSteps := 9000000 }) only [↓vyD, vyU, binS, SV.go1, SV.go0, mkRow, intsOf, boolsOf, strsOf, chunks, Row.rep, Row.cat, Row.sub, Row.put, Row.len, Row.get, Row.size, Row.flat, bnds, own0, own1, labsL, labsR, SV.labs, argsOf, entFr, SO.ev, St.of, keepSt, getAll, lookN, hasN, SV.cells, SV.one, SV.res1, SV.res0, SV.resP, SV.ok1, SV.ok0, SV.okN, SV.solid, SV.solid1, SV.solid0, SV.flat0, SV.nm, SV.nm1, SV.nm0, SV.noPtr1, SV.noPtr0, Cel.isFresh, fillP, setAt, partV, eqCells, cellEq, gamY, listsOk, tupOf, takeOwn, SV.ret1, resAll, resL, resV, Nat.reduceEqDiff, ↓reduceIte, Nat.reduceAdd, Nat.reduceMul, Nat.reduceLeDiff, Nat.reduceLT, reduceCtorEq, labOk, Int.reduceBEq, Int.reduceBNe, Int.reduceToNat, Int.reduceLE, Int.reduceLT, Int.reduceEq, Nat.reduceDiv, Nat.reduceMod, Nat.reduceSub, Nat.reduceBEq, fitR, fitR1, fitR0, fitRL1, fitRL, hC_len, hC_take, hC_one, hC_ok, hC_solid, hC_np, hC_res, hC_go, hC_nm, hC_labs, hC_own, hC_set, hC_over, hC_fitR, hC_fitL, hZ, zL_len, asH_hC, len_l]
  · simp (config := { maxSteps := 9000000 }) only [↓vyD, vyU, binS, SV.go1, SV.go0, mkRow, intsOf, boolsOf, strsOf, chunks, Row.rep, Row.cat, Row.sub, Row.put, Row.len, Row.get, Row.size, Row.flat, bnds, own0, own1, labsL, labsR, SV.labs, argsOf, entFr, SO.ev, St.of, keepSt, getAll, lookN, hasN, SV.cells, SV.one, SV.res1, SV.res0, SV.resP, SV.ok1, SV.ok0, SV.okN, SV.solid, SV.solid1, SV.solid0, SV.flat0, SV.nm, SV.nm1, SV.nm0, SV.noPtr1, SV.noPtr0, Cel.isFresh, fillP, setAt, partV, eqCells, cellEq, gamY, listsOk, tupOf, takeOwn, SV.ret1, resAll, resL, resV, Nat.reduceEqDiff, ↓reduceIte, Nat.reduceAdd, Nat.reduceMul, Nat.reduceLeDiff, Nat.reduceLT, reduceCtorEq, labOk, Int.reduceBEq, Int.reduceBNe, Int.reduceToNat, Int.reduceLE, Int.reduceLT, Int.reduceEq, Nat.reduceDiv, Nat.reduceMod, Nat.reduceSub, Nat.reduceBEq, fitR, fitR1, fitR0, fitRL1, fitRL, hC_len, hC_take, hC_one, hC_ok, hC_solid, hC_np, hC_res, hC_go, hC_nm, hC_labs, hC_own, hC_set, hC_over, hC_fitR, hC_fitL, hZ, zL_len, asH_hC, len_l, Int.natCast_zero, Int.ofNat_zero]
  · simp (config := { maxSteps := 9000000 }) only [↓vyD, vyU, binS, SV.go1, SV.go0, mkRow, intsOf, boolsOf, strsOf, chunks, Row.rep, Row.cat, Row.sub, Row.put, Row.len, Row.get, Row.size, Row.flat, bnds, own0, own1, labsL, labsR, SV.labs, argsOf, entFr, SO.ev, St.of, keepSt, getAll, lookN, hasN, SV.cells, SV.one, SV.res1, SV.res0, SV.resP, SV.ok1, SV.ok0, SV.okN, SV.solid, SV.solid1, SV.solid0, SV.flat0, SV.nm, SV.nm1, SV.nm0, SV.noPtr1, SV.noPtr0, Cel.isFresh, fillP, setAt, partV, eqCells, cellEq, gamY, listsOk, tupOf, takeOwn, SV.ret1, resAll, resL, resV, Nat.reduceEqDiff, ↓reduceIte, Nat.reduceAdd, Nat.reduceMul, Nat.reduceLeDiff, Nat.reduceLT, reduceCtorEq, labOk, Int.reduceBEq, Int.reduceBNe, Int.reduceToNat, Int.reduceLE, Int.reduceLT, Int.reduceEq, Nat.reduceDiv, Nat.reduceMod, Nat.reduceSub, Nat.reduceBEq, fitR, fitR1, fitR0, fitRL1, fitRL, hC_len, hC_take, hC_one, hC_ok, hC_solid, hC_np, hC_res, hC_go, hC_nm, hC_labs, hC_own, hC_set, hC_over, hC_fitR, hC_fitL, hZ, zL_len, asH_hC, len_l]
  have hs : lenK l k (26 - i) i = if sumK l (i + 1) < k then lenK l k (26 - (i + 1)) (i + 1) else i := by
    rw [show 26 - i = (26 - (i + 1)) + 1 by omega, lenK]
  by_cases hlt : sumK l (i + 1) < k
  · have hi2 : i + 1 < 26 := by
      by_cases h : i + 1 = 26
      · rw [h] at hlt; omega
      · omega
    have hi3 : i + 1 < l.length := by omega
    have hG := hC_get hi3
    have c0 : (0 : Int) ≤ (i : Int) + 1 := by omega
    have c1 : (i : Int) + 1 < 26 := by omega
    have c2 : ((i : Int) + 1).toNat = i + 1 := by omega
    have b1 := i64_wrap (show I64 ((i : Int) + 1) by unfold I64; omega)
    have hS := sumK_succ hi3
    have hbb := hb (i + 1 + 1) (by omega)
    have w1 := i64_wrap (show I64 (sumK l (i + 1) + l.getD (i + 1) 0) by rw [← hS]; unfold I64; omega)
    rw [if_pos hlt, hr] at hs
    simp (config := { maxSteps := 9000000 }) only [↓vyD, vyU, binS, SV.go1, SV.go0, mkRow, intsOf, boolsOf, strsOf, chunks, Row.rep, Row.cat, Row.sub, Row.put, Row.len, Row.get, Row.size, Row.flat, bnds, own0, own1, labsL, labsR, SV.labs, argsOf, entFr, SO.ev, St.of, keepSt, getAll, lookN, hasN, SV.cells, SV.one, SV.res1, SV.res0, SV.resP, SV.ok1, SV.ok0, SV.okN, SV.solid, SV.solid1, SV.solid0, SV.flat0, SV.nm, SV.nm1, SV.nm0, SV.noPtr1, SV.noPtr0, Cel.isFresh, fillP, setAt, partV, eqCells, cellEq, gamY, listsOk, tupOf, takeOwn, SV.ret1, resAll, resL, resV, Nat.reduceEqDiff, ↓reduceIte, Nat.reduceAdd, Nat.reduceMul, Nat.reduceLeDiff, Nat.reduceLT, reduceCtorEq, labOk, Int.reduceBEq, Int.reduceBNe, Int.reduceToNat, Int.reduceLE, Int.reduceLT, Int.reduceEq, Nat.reduceDiv, Nat.reduceMod, Nat.reduceSub, Nat.reduceBEq, fitR, fitR1, fitR0, fitRL1, fitRL, hC_len, hC_take, hC_one, hC_ok, hC_solid, hC_np, hC_res, hC_go, hC_nm, hC_labs, hC_own, hC_set, hC_over, hC_fitR, hC_fitL, hZ, zL_len, asH_hC, len_l, hlt, c0, c1, c2, hG, Nat.mul_one, Nat.zero_add, b1, w1]
    exact ⟨i + 1, ⟨⟨hi2, hs.symm⟩, by omega⟩, by simp, hS.symm⟩
  · rw [if_neg hlt, hr] at hs
    simp (config := { maxSteps := 9000000 }) only [↓vyD, vyU, binS, SV.go1, SV.go0, mkRow, intsOf, boolsOf, strsOf, chunks, Row.rep, Row.cat, Row.sub, Row.put, Row.len, Row.get, Row.size, Row.flat, bnds, own0, own1, labsL, labsR, SV.labs, argsOf, entFr, SO.ev, St.of, keepSt, getAll, lookN, hasN, SV.cells, SV.one, SV.res1, SV.res0, SV.resP, SV.ok1, SV.ok0, SV.okN, SV.solid, SV.solid1, SV.solid0, SV.flat0, SV.nm, SV.nm1, SV.nm0, SV.noPtr1, SV.noPtr0, Cel.isFresh, fillP, setAt, partV, eqCells, cellEq, gamY, listsOk, tupOf, takeOwn, SV.ret1, resAll, resL, resV, Nat.reduceEqDiff, ↓reduceIte, Nat.reduceAdd, Nat.reduceMul, Nat.reduceLeDiff, Nat.reduceLT, reduceCtorEq, labOk, Int.reduceBEq, Int.reduceBNe, Int.reduceToNat, Int.reduceLE, Int.reduceLT, Int.reduceEq, Nat.reduceDiv, Nat.reduceMod, Nat.reduceSub, Nat.reduceBEq, fitR, fitR1, fitR0, fitRL1, fitRL, hC_len, hC_take, hC_one, hC_ok, hC_solid, hC_np, hC_res, hC_go, hC_nm, hC_labs, hC_own, hC_set, hC_over, hC_fitR, hC_fitL, hZ, zL_len, asH_hC, hlt, hs]
end Go.Proofs.Ytidafhjdpklgbaa
