/- The helpers of the statements on predictions: lists that rise, windows. -/
import Derived.Test.YtnaloeoiobcifaaYHe
import Derived.Test.YtnaloeoiobcifaaYK3
namespace Go.Proofs.Ytnaloeoiobcifaa
open Go.ChangeShapes Go.WideShapes Go.ChangeAt Go.RowKit Go.Joins Y
set_option linter.unusedSimpArgs false
set_option linter.unusedVariables false
set_option maxRecDepth 100000
set_option maxHeartbeats 40000000
def cumL (m : List Int) (i : Nat) : Int := ((m.take i).map fun x => 1 + withinN x 9).sum
def risL (m : List Int) : List Int := (List.range m.length).map fun i => cumL m (i + 1)
theorem cumL_succ {m : List Int} {i : Nat} (h : i < m.length) : cumL m (i + 1) = cumL m i + (1 + withinN (m.getD i 0) 9) := take_sum (f := fun x => 1 + withinN x 9) h
theorem cumL_bd (m : List Int) : ∀ i, i ≤ m.length → 0 ≤ cumL m i ∧ cumL m i ≤ 9 * (i : Int)
  | 0, _ => by simp [cumL]
  | i + 1, h => by
    have ih := cumL_bd m i (by omega)
    have hw := withinN_lt (m.getD i 0) (n := 9) (by omega)
    rw [cumL_succ (by omega)]
    omega
theorem rngD {f : Nat → Int} {n i : Nat} (h : i < n) : ((List.range n).map f).getD i 0 = f i := by
  rw [List.getD_eq_getElem?_getD, List.getElem?_map, List.getElem?_range h]; rfl
theorem rngS (f : Nat → Int) (i : Nat) : (List.range (i + 1)).map f = (List.range i).map f ++ [f i] := by
  rw [List.range_succ, List.map_append]; rfl
theorem risL_len (m : List Int) : (risL m).length = m.length := by simp [risL]
theorem risL_seq {m : List Int} (h : m.length ≤ 64) : seqP (risL m) := fun j hj => by
  rw [risL_len] at hj
  have h1 := cumL_bd m (j + 1) (by omega)
  have h2 := cumL_succ (m := m) (i := j) hj
  have hw := withinN_lt (m.getD j 0) (n := 9) (by omega)
  have e1 : (risL m).getD j 0 = cumL m (j + 1) := rngD hj
  rw [e1]
  refine ⟨?_, by omega⟩
  unfold prevL
  split
  · rename_i h0
    subst h0
    have := cumL_bd m 0 (by omega)
    omega
  · have e2 : (risL m).getD (j - 1) 0 = cumL m (j - 1 + 1) := rngD (by omega)
    rw [e2, show j - 1 + 1 = j by omega]
    omega
theorem risL_bd {m : List Int} (h : m.length ≤ 64) : ∀ j, j < m.length → 1 ≤ (risL m).getD j 0 ∧ (risL m).getD j 0 ≤ 576 := fun j hj => by
  have h1 := (seqP_pos (risL_seq h) j (by rw [risL_len]; exact hj)).1
  have h2 := cumL_bd m (j + 1) (by omega)
  have e1 : (risL m).getD j 0 = cumL m (j + 1) := rngD hj
  omega
def gRi : List (Nat × Say) := [(46, withinS)]
theorem gRi_ok : GamOk Try.prog (gamY gRi) := gam_ok (gam_cons within_ok gam_nil)
def risingS : Say
  | [x_l] => (match asI x_l with | some l => some (True, .sl 0 0, some (3, .ints .i64 (risL (l.take 64)))) | _ => none)
  | _ => none
theorem rising_ok : FOk Try.prog 54 risingS := by
  intro xs p r own h hp
  unfold risingS at h
  split at h
  case h_2 => cases h
  rename_i x_l
  split at h
  case h_2 => cases h
  rename_i l h_l
  simp only [Option.some.injEq, Prod.mk.injEq] at h
  obtain ⟨rfl, rfl, rfl⟩ := h
  refine fun_fit (ys := [.rw (.ints .i64 l)]) ?_ ⟨asI_fit h_l, trivial⟩
  clear h_l
  refine fun_ok gRi_ok lawy_mixed y54_eq (some 0) ?_ (Nat.le_of_ble_eq_true rfl)
  have et : List.take (if 64 < (l.length : Int) then (64 : Int) else (l.length : Int)).toNat l = l.take 64 := by
    split
    · rfl
    · rw [List.take_of_length_le (by omega), List.take_of_length_le (by omega)]
  have et2 : (0 : Int) ≤ (if 64 < (l.length : Int) then (64 : Int) else (l.length : Int)) := by split <;> omega
  have et3 : (if 64 < (l.length : Int) then (64 : Int) else (l.length : Int)) ≤ (l.length : Int) := by split <;> omega
  have h64 : (l.take 64).length ≤ 64 := by simp; omega
  generalize hm : l.take 64 = m at *
  simp (config := { maxSteps := 9000000 }) only [↓vyD, vyU, binS, SV.go1, SV.go0, mkRow, intsOf, boolsOf, strsOf, chunks, Row.rep, Row.cat, Row.sub, Row.put, Row.len, Row.get, Row.size, Row.flat, bnds, own0, own1, labsL, labsR, SV.labs, argsOf, entFr, SO.ev, St.of, keepSt, getAll, lookN, hasN, SV.cells, SV.one, SV.res1, SV.res0, SV.resP, SV.ok1, SV.ok0, SV.okN, SV.solid, SV.solid1, SV.solid0, SV.flat0, SV.nm, SV.nm1, SV.nm0, SV.noPtr1, SV.noPtr0, Cel.isFresh, fillP, setAt, partV, eqCells, cellEq, gamY, listsOk, tupOf, takeOwn, SV.ret1, resAll, resL, resV, Nat.reduceEqDiff, ↓reduceIte, Nat.reduceAdd, Nat.reduceMul, Nat.reduceLeDiff, Nat.reduceLT, reduceCtorEq, labOk, Int.reduceBEq, Int.reduceBNe, Int.reduceToNat, Int.reduceLE, Int.reduceLT, Int.reduceEq, Nat.reduceDiv, Nat.reduceMod, Nat.reduceSub, Nat.reduceBEq, fitR, fitR1, fitR0, fitRL1, fitRL, y54, gRi, withinS, gt_iff_lt, et, et2, et3]
  refine loopG_intro (ι := Nat) (fun i => [(3, .sl 1000 i), (4, .int .i64 (cumL m i)), (11, .rw (.ints .i64 m)), (12, .int .i64 m.length), (13, .int .i64 i)])
      (fun i => [(1000, .row i 3 (.ints .i64 ((List.range i).map fun i => cumL m (i + 1))))]) (fun i => i ≤ m.length) (fun i => m.length - i) ⟨0, by omega, ?_, ?_, ?_⟩ fun i hi => ?_
  · simp (config := { maxSteps := 9000000 }) only [↓vyD, vyU, binS, SV.go1, SV.go0, mkRow, intsOf, boolsOf, strsOf, chunks, Row.rep, Row.cat, Row.sub, Row.put, Row.len, Row.get, Row.size, Row.flat, bnds, own0, own1, labsL, labsR, SV.labs, argsOf, entFr, SO.ev, St.of, keepSt, getAll, lookN, hasN, SV.cells, SV.one, SV.res1, SV.res0, SV.resP, SV.ok1, SV.ok0, SV.okN, SV.solid, SV.solid1, SV.solid0, SV.flat0, SV.nm, SV.nm1, SV.nm0, SV.noPtr1, SV.noPtr0, Cel.isFresh, fillP, setAt, partV, eqCells, cellEq, gamY, listsOk, tupOf, takeOwn, SV.ret1, resAll, resL, resV, Nat.reduceEqDiff, ↓reduceIte, Nat.reduceAdd, Nat.reduceMul, Nat.reduceLeDiff, Nat.reduceLT, reduceCtorEq, labOk, Int.reduceBEq, Int.reduceBNe, Int.reduceToNat, Int.reduceLE, Int.reduceLT, Int.reduceEq, Nat.reduceDiv, Nat.reduceMod, Nat.reduceSub, Nat.reduceBEq, fitR, fitR1, fitR0, fitRL1, fitRL, et]
  · simp (config := { maxSteps := 9000000 }) only [↓vyD, vyU, binS, SV.go1, SV.go0, mkRow, intsOf, boolsOf, strsOf, chunks, Row.rep, Row.cat, Row.sub, Row.put, Row.len, Row.get, Row.size, Row.flat, bnds, own0, own1, labsL, labsR, SV.labs, argsOf, entFr, SO.ev, St.of, keepSt, getAll, lookN, hasN, SV.cells, SV.one, SV.res1, SV.res0, SV.resP, SV.ok1, SV.ok0, SV.okN, SV.solid, SV.solid1, SV.solid0, SV.flat0, SV.nm, SV.nm1, SV.nm0, SV.noPtr1, SV.noPtr0, Cel.isFresh, fillP, setAt, partV, eqCells, cellEq, gamY, listsOk, tupOf, takeOwn, SV.ret1, resAll, resL, resV, Nat.reduceEqDiff, ↓reduceIte, Nat.reduceAdd, Nat.reduceMul, Nat.reduceLeDiff, Nat.reduceLT, reduceCtorEq, labOk, Int.reduceBEq, Int.reduceBNe, Int.reduceToNat, Int.reduceLE, Int.reduceLT, Int.reduceEq, Nat.reduceDiv, Nat.reduceMod, Nat.reduceSub, Nat.reduceBEq, fitR, fitR1, fitR0, fitRL1, fitRL, et, cumL, List.take_zero, List.map_nil, List.sum_nil]
  · simp (config := { maxSteps := 9000000 }) only [↓vyD, vyU, binS, SV.go1, SV.go0, mkRow, intsOf, boolsOf, strsOf, chunks, Row.rep, Row.cat, Row.sub, Row.put, Row.len, Row.get, Row.size, Row.flat, bnds, own0, own1, labsL, labsR, SV.labs, argsOf, entFr, SO.ev, St.of, keepSt, getAll, lookN, hasN, SV.cells, SV.one, SV.res1, SV.res0, SV.resP, SV.ok1, SV.ok0, SV.okN, SV.solid, SV.solid1, SV.solid0, SV.flat0, SV.nm, SV.nm1, SV.nm0, SV.noPtr1, SV.noPtr0, Cel.isFresh, fillP, setAt, partV, eqCells, cellEq, gamY, listsOk, tupOf, takeOwn, SV.ret1, resAll, resL, resV, Nat.reduceEqDiff, ↓reduceIte, Nat.reduceAdd, Nat.reduceMul, Nat.reduceLeDiff, Nat.reduceLT, reduceCtorEq, labOk, Int.reduceBEq, Int.reduceBNe, Int.reduceToNat, Int.reduceLE, Int.reduceLT, Int.reduceEq, Nat.reduceDiv, Nat.reduceMod, Nat.reduceSub, Nat.reduceBEq, fitR, fitR1, fitR0, fitRL1, fitRL, et, List.range_zero, List.map_nil]
  · by_cases hlt : (i : Int) < (m.length : Int)
    · have hlt' : i < m.length := by omega
      have hbd := cumL_bd m i hi
      have hw := withinN_lt (m.getD i 0) (n := 9) (by omega)
      have b1 := i64_wrap (show I64 ((i : Int) + 1) by unfold I64; omega)
      have b2 : I64 9 := by unfold I64; omega
      have b3 := i64_wrap (show I64 (1 + withinN (m.getD i 0) 9) by unfold I64; omega)
      have b4 := i64_wrap (show I64 (cumL m i + (1 + withinN (m.getD i 0) 9)) by unfold I64; omega)
      have c0 : (0 : Int) ≤ (i : Int) := by omega
      have e1 := cumL_succ hlt'
      have e2 := rngS (fun i => cumL m (i + 1)) i
      rw [e1] at e2
      simp (config := { maxSteps := 9000000 }) only [↓vyD, vyU, binS, SV.go1, SV.go0, mkRow, intsOf, boolsOf, strsOf, chunks, Row.rep, Row.cat, Row.sub, Row.put, Row.len, Row.get, Row.size, Row.flat, bnds, own0, own1, labsL, labsR, SV.labs, argsOf, entFr, SO.ev, St.of, keepSt, getAll, lookN, hasN, SV.cells, SV.one, SV.res1, SV.res0, SV.resP, SV.ok1, SV.ok0, SV.okN, SV.solid, SV.solid1, SV.solid0, SV.flat0, SV.nm, SV.nm1, SV.nm0, SV.noPtr1, SV.noPtr0, Cel.isFresh, fillP, setAt, partV, eqCells, cellEq, gamY, listsOk, tupOf, takeOwn, SV.ret1, resAll, resL, resV, Nat.reduceEqDiff, ↓reduceIte, Nat.reduceAdd, Nat.reduceMul, Nat.reduceLeDiff, Nat.reduceLT, reduceCtorEq, labOk, Int.reduceBEq, Int.reduceBNe, Int.reduceToNat, Int.reduceLE, Int.reduceLT, Int.reduceEq, Nat.reduceDiv, Nat.reduceMod, Nat.reduceSub, Nat.reduceBEq, fitR, fitR1, fitR0, fitRL1, fitRL, gRi, withinS, hlt, hlt', Int.toNat_natCast, c0, b1, b2, b3, b4, List.length_map, List.length_range]
      exact ⟨by omega, i + 1, ⟨by omega, by omega⟩, ⟨rfl, e1.symm, by simp⟩, rfl, e2.symm⟩
    · have : i = m.length := by omega
      subst this
      simp (config := { maxSteps := 9000000 }) only [↓vyD, vyU, binS, SV.go1, SV.go0, mkRow, intsOf, boolsOf, strsOf, chunks, Row.rep, Row.cat, Row.sub, Row.put, Row.len, Row.get, Row.size, Row.flat, bnds, own0, own1, labsL, labsR, SV.labs, argsOf, entFr, SO.ev, St.of, keepSt, getAll, lookN, hasN, SV.cells, SV.one, SV.res1, SV.res0, SV.resP, SV.ok1, SV.ok0, SV.okN, SV.solid, SV.solid1, SV.solid0, SV.flat0, SV.nm, SV.nm1, SV.nm0, SV.noPtr1, SV.noPtr0, Cel.isFresh, fillP, setAt, partV, eqCells, cellEq, gamY, listsOk, tupOf, takeOwn, SV.ret1, resAll, resL, resV, Nat.reduceEqDiff, ↓reduceIte, Nat.reduceAdd, Nat.reduceMul, Nat.reduceLeDiff, Nat.reduceLT, reduceCtorEq, labOk, Int.reduceBEq, Int.reduceBNe, Int.reduceToNat, Int.reduceLE, Int.reduceLT, Int.reduceEq, Nat.reduceDiv, Nat.reduceMod, Nat.reduceSub, Nat.reduceBEq, fitR, fitR1, fitR0, fitRL1, fitRL, gRi, withinS, hlt, List.contains_nil, risL]
def winL (l : List Int) : List Int := (1 :: valsL l).drop ((1 :: valsL l).length - 64)
theorem valsL_len (l : List Int) : (valsL l).length ≤ 64 := (listE_0.1 (valsL_ok l)).1
theorem winL_ok (l : List Int) : 1 ≤ (winL l).length ∧ (winL l).length ≤ 64 ∧ winE 64 (winL l) = 0 := by
  have h1 : (winL l).length = (valsL l).length + 1 - ((valsL l).length + 1 - 64) := by simp [winL]
  have h2 := valsL_len l
  refine ⟨by omega, by omega, winE_0.2 ⟨by omega, by omega, listE_0.2 ⟨by omega, fun x hx => ?_⟩⟩⟩
  have := List.mem_of_mem_drop hx
  rcases List.mem_cons.1 this with rfl | h
  · omega
  · exact (listE_0.1 (valsL_ok l)).2 x h
def gWn : List (Nat × Say) := [(45, valuesS)]
theorem gWn_ok : GamOk Try.prog (gamY gWn) := gam_ok (gam_cons values_ok gam_nil)
def windowS : Say
  | [x_l] => (match asI x_l with | some l => some (True, .agg [.int .i64 64, .rw (.ints .i64 (winL l))], none) | _ => none)
  | _ => none
theorem window_ok : FOk Try.prog 55 windowS := by
  intro xs p r own h hp
  unfold windowS at h
  split at h
  case h_2 => cases h
  rename_i x_l
  split at h
  case h_2 => cases h
  rename_i l h_l
  simp only [Option.some.injEq, Prod.mk.injEq] at h
  obtain ⟨rfl, rfl, rfl⟩ := h
  refine fun_fit (ys := [.rw (.ints .i64 l)]) ?_ ⟨asI_fit h_l, trivial⟩
  clear h_l
  refine fun_ok gWn_ok lawy_mixed y55_eq none ?_ (Nat.le_of_ble_eq_true rfl)
  have h2 := valsL_len l
  have hL : winL l = (1 :: valsL l).drop ((1 :: valsL l).length - 64) := rfl
  rw [hL]
  generalize hm : valsL l = m at *
  have b1 := i64_wrap (show I64 ((m.length : Int) + 1 - 64) by unfold I64; omega)
  have hml : ((1 : Int) :: m).length = m.length + 1 := rfl
  rw [hml]
  have e1 : (if 0 < (m.length : Int) + 1 - 64 then (m.length : Int) + 1 - 64 else 0).toNat = m.length + 1 - 64 := by split <;> omega
  have e2 : (0 : Int) ≤ (if 0 < (m.length : Int) + 1 - 64 then (m.length : Int) + 1 - 64 else 0) := by split <;> omega
  have e3 : (if 0 < (m.length : Int) + 1 - 64 then (m.length : Int) + 1 - 64 else 0) ≤ (m.length : Int) + 1 := by split <;> omega
  have e4 : List.take (m.length + 1) ((1 : Int) :: m) = 1 :: m := List.take_of_length_le (by simp)
  simp (config := { maxSteps := 9000000 }) only [↓vyD, vyU, binS, SV.go1, SV.go0, mkRow, intsOf, boolsOf, strsOf, chunks, Row.rep, Row.cat, Row.sub, Row.put, Row.len, Row.get, Row.size, Row.flat, bnds, own0, own1, labsL, labsR, SV.labs, argsOf, entFr, SO.ev, St.of, keepSt, getAll, lookN, hasN, SV.cells, SV.one, SV.res1, SV.res0, SV.resP, SV.ok1, SV.ok0, SV.okN, SV.solid, SV.solid1, SV.solid0, SV.flat0, SV.nm, SV.nm1, SV.nm0, SV.noPtr1, SV.noPtr0, Cel.isFresh, fillP, setAt, partV, eqCells, cellEq, gamY, listsOk, tupOf, takeOwn, SV.ret1, resAll, resL, resV, Nat.reduceEqDiff, ↓reduceIte, Nat.reduceAdd, Nat.reduceMul, Nat.reduceLeDiff, Nat.reduceLT, reduceCtorEq, labOk, Int.reduceBEq, Int.reduceBNe, Int.reduceToNat, Int.reduceLE, Int.reduceLT, Int.reduceEq, Nat.reduceDiv, Nat.reduceMod, Nat.reduceSub, Nat.reduceBEq, fitR, fitR1, fitR0, fitRL1, fitRL, y55, gWn, valuesS, asI, hm, gt_iff_lt, List.singleton_append, List.length_cons, Int.natCast_add, Int.natCast_one, b1, e1, e2, e3, e4, Int.le_refl]
  refine ⟨by omega, ?_⟩
  rw [show ((m.length : Int) + 1).toNat = m.length + 1 by omega, e4]
end Go.Proofs.Ytnaloeoiobcifaa
