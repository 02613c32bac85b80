/- The statements' transcripts. -/
import Derived.Test.YtlfhcjohkpdkoaaYMk
import Derived.Test.YtlfhcjohkpdkoaaYS1
namespace Go.Proofs.Ytlfhcjohkpdkoaa
open Go.ChangeShapes Go.WideShapes Go.ChangeAt Go.RowKit Go.Joins Y
set_option linter.unusedSimpArgs false
set_option linter.unusedVariables false
set_option maxRecDepth 100000
set_option maxHeartbeats 40000000
/-- The time behind i turns. -/
def tmT (m : List Int) (i : Nat) : Int := ((m.take i).map fun x => withinN x 30).sum
/-- The first n turns. -/
def tuT (m : List Int) (n : Nat) : List (Int × Bool) := (List.range n).map fun j => (tmT m (j + 1), decide (j % 2 = 0))
def tuR (l : List Int) : List (Int × Bool) := tuT (l.take 64) (l.take 64).length
def tuS (l : List Int) : Int := tmT (l.take 64) (l.take 64).length
theorem tmT_next {m : List Int} {i : Nat} (h : i < m.length) : tmT m (i + 1) = tmT m i + withinN (m.getD i 0) 30 := by
  rw [tmT, tmT, take_snoc h, List.map_append, List.sum_append]; simp
theorem tmT_mono {m : List Int} : ∀ {i : Nat}, i ≤ m.length → (0 ≤ tmT m i ∧ tmT m i ≤ 29 * i)
  | 0, _ => by simp [tmT]
  | i + 1, h => by
    have h1 := tmT_mono (m := m) (i := i) (by omega)
    have h2 := withinN_lt (m.getD i 0) (n := 30) (by omega)
    rw [tmT_next (by omega)]
    omega
theorem tmT_le {m : List Int} {i : Nat} : ∀ {j : Nat}, i ≤ j → j ≤ m.length → tmT m i ≤ tmT m j
  | 0, h, _ => by have : i = 0 := by omega
                  subst this; omega
  | j + 1, h, hj => by
    by_cases e : i = j + 1
    · subst e; omega
    · have h1 := tmT_le (m := m) (i := i) (j := j) (by omega) (by omega)
      have h2 := withinN_lt (m.getD j 0) (n := 30) (by omega)
      rw [tmT_next (by omega)]
      omega
theorem tuT_len (m : List Int) (n : Nat) : (tuT m n).length = n := by simp [tuT]
theorem tuT_get {m : List Int} {n j : Nat} (h : j < n) : (tuT m n).getD j (0, false) = (tmT m (j + 1), decide (j % 2 = 0)) := by
  simp only [tuT, List.getD_eq_getElem?_getD, List.getElem?_map, List.getElem?_range h, Option.map_some, Option.getD_some]
theorem tuT_next (m : List Int) (n : Nat) : tuT m (n + 1) = tuT m n ++ [(tmT m (n + 1), decide (n % 2 = 0))] := by
  simp [tuT, List.range_succ]
theorem tuR_len (l : List Int) : (tuR l).length = (l.take 64).length ∧ (tuR l).length ≤ 64 := by
  refine ⟨tuT_len _ _, ?_⟩
  rw [tuR, tuT_len, List.length_take]; omega
theorem tuS_bd (l : List Int) : 0 ≤ tuS l ∧ tuS l ≤ 1920 := by
  have h1 := tmT_mono (m := l.take 64) (Nat.le_refl _)
  have h2 := (tuR_len l)
  rw [h2.1] at h2
  unfold tuS
  omega
theorem tuR_facts (l : List Int) : (∀ j, j < (tuR l).length → ((tuR l).getD j (0, false)).2 = decide (j % 2 = 0)) ∧ (∀ j, j < (tuR l).length → 0 ≤ ((tuR l).getD j (0, false)).1 ∧ ((tuR l).getD j (0, false)).1 ≤ tuS l) ∧ (∀ j, j + 1 < (tuR l).length → ((tuR l).getD j (0, false)).1 ≤ ((tuR l).getD (j + 1) (0, false)).1) := by
  have hl := (tuR_len l).1
  refine ⟨fun j hj => ?_, fun j hj => ?_, fun j hj => ?_⟩
  · rw [tuR, tuT_get (by omega)]
  · rw [tuR, tuT_get (by omega)]
    exact ⟨(tmT_mono (by omega)).1, tmT_le (by omega) (Nat.le_refl _)⟩
  · rw [tuR, tuT_get (by omega), tuT_get (by omega)]
    exact tmT_le (by omega) (by omega)
theorem tuR_ok {l : List Int} {en : Int} (h1 : tuS l ≤ en) (h2 : en ≤ 1073741824) : tE (tuR l) en = 0 := by
  obtain ⟨a, b, c⟩ := tuR_facts l
  have := tuS_bd l
  exact tE_of (tuR_len l).2 (by omega) a (fun j hj => by have := b j hj; omega) c
def gTu : List (Nat × Say) := [(27, withinS)]
theorem gTu_ok : GamOk Try.prog (gamY gTu) := gam_ok (gam_cons within_ok gam_nil)
def turnsS : Say
  | [x_l] => (match asI x_l with | some l => some (True, .tup [.rw (.recs 2 (mapT (tuR l))), .int .i64 (tuS l)], none) | _ => none)
  | _ => none
theorem turns_ok : FOk Try.prog 26 turnsS := by
  intro xs p r own h hp
  unfold turnsS at h
  split at h
  case h_2 => cases h
  rename_i x_l
  split at h
  case h_2 => cases h
  rename_i l h_l
  simp only [Option.some.injEq, Prod.mk.injEq] at h
  obtain ⟨rfl, rfl, rfl⟩ := h
  refine fun_fit (ys := [.rw (.ints .i64 l)]) ?_ ⟨asI_fit h_l, trivial⟩
  clear h_l
  refine fun_ok gTu_ok lawy_mixed y26_eq none ?_ (Nat.le_of_ble_eq_true rfl)
  have et : List.take (if 64 < (l.length : Int) then (64 : Int) else (l.length : Int)).toNat l = l.take 64 := by
    split
    · rfl
    · rw [List.take_of_length_le (by omega), List.take_of_length_le (by omega)]
  have et2 : (0 : Int) ≤ (if 64 < (l.length : Int) then (64 : Int) else (l.length : Int)) := by split <;> omega
  have et3 : (if 64 < (l.length : Int) then (64 : Int) else (l.length : Int)) ≤ (l.length : Int) := by split <;> omega
  have h64 : (l.take 64).length ≤ 64 := by simp; omega
  have hR : tuR l = tuT (l.take 64) (l.take 64).length := rfl
  have hS : tuS l = tmT (l.take 64) (l.take 64).length := rfl
  rw [hR, hS]
  generalize hm : l.take 64 = m at *
  clear hR hS
  simp (config := { maxSteps := 9000000 }) only [↓vyD, vyU, binS, SV.go1, SV.go0, mkRow, intsOf, boolsOf, strsOf, chunks, Row.rep, Row.cat, Row.sub, Row.put, Row.len, Row.get, Row.size, Row.flat, bnds, own0, own1, labsL, labsR, SV.labs, argsOf, entFr, SO.ev, St.of, keepSt, getAll, lookN, hasN, SV.cells, SV.one, SV.res1, SV.res0, SV.resP, SV.ok1, SV.ok0, SV.okN, SV.solid, SV.solid1, SV.solid0, SV.flat0, SV.nm, SV.nm1, SV.nm0, SV.noPtr1, SV.noPtr0, Cel.isFresh, fillP, setAt, partV, eqCells, cellEq, gamY, listsOk, tupOf, takeOwn, SV.ret1, resAll, resL, resV, Nat.reduceEqDiff, ↓reduceIte, Nat.reduceAdd, Nat.reduceMul, Nat.reduceLeDiff, Nat.reduceLT, reduceCtorEq, labOk, Int.reduceBEq, Int.reduceBNe, Int.reduceToNat, Int.reduceLE, Int.reduceLT, Int.reduceEq, Nat.reduceDiv, Nat.reduceMod, Nat.reduceSub, Nat.reduceBEq, fitR, fitR1, fitR0, fitRL1, fitRL, y26, gTu, withinS, asI, gt_iff_lt, et, et2, et3]
  refine loopG_intro (ι := Nat) (fun i => [(4, .sl 1000 i), (5, .int .i64 (tmT m i)), (12, .rw (.ints .i64 m)), (13, .int .i64 m.length), (14, .int .i64 i)])
      (fun i => [(1000, .row i 33 (.recs 2 (mapT (tuT m i))))]) (fun i => i ≤ m.length) (fun i => m.length - i) ⟨0, by omega, ?_, ?_, ?_⟩ fun i hi => ?_
  · simp (config := { maxSteps := 9000000 }) only [↓vyD, vyU, binS, SV.go1, SV.go0, mkRow, intsOf, boolsOf, strsOf, chunks, Row.rep, Row.cat, Row.sub, Row.put, Row.len, Row.get, Row.size, Row.flat, bnds, own0, own1, labsL, labsR, SV.labs, argsOf, entFr, SO.ev, St.of, keepSt, getAll, lookN, hasN, SV.cells, SV.one, SV.res1, SV.res0, SV.resP, SV.ok1, SV.ok0, SV.okN, SV.solid, SV.solid1, SV.solid0, SV.flat0, SV.nm, SV.nm1, SV.nm0, SV.noPtr1, SV.noPtr0, Cel.isFresh, fillP, setAt, partV, eqCells, cellEq, gamY, listsOk, tupOf, takeOwn, SV.ret1, resAll, resL, resV, Nat.reduceEqDiff, ↓reduceIte, Nat.reduceAdd, Nat.reduceMul, Nat.reduceLeDiff, Nat.reduceLT, reduceCtorEq, labOk, Int.reduceBEq, Int.reduceBNe, Int.reduceToNat, Int.reduceLE, Int.reduceLT, Int.reduceEq, Nat.reduceDiv, Nat.reduceMod, Nat.reduceSub, Nat.reduceBEq, fitR, fitR1, fitR0, fitRL1, fitRL, et, mapT_labs, List.all_nil]
  · simp (config := { maxSteps := 9000000 }) only [↓vyD, vyU, binS, SV.go1, SV.go0, mkRow, intsOf, boolsOf, strsOf, chunks, Row.rep, Row.cat, Row.sub, Row.put, Row.len, Row.get, Row.size, Row.flat, bnds, own0, own1, labsL, labsR, SV.labs, argsOf, entFr, SO.ev, St.of, keepSt, getAll, lookN, hasN, SV.cells, SV.one, SV.res1, SV.res0, SV.resP, SV.ok1, SV.ok0, SV.okN, SV.solid, SV.solid1, SV.solid0, SV.flat0, SV.nm, SV.nm1, SV.nm0, SV.noPtr1, SV.noPtr0, Cel.isFresh, fillP, setAt, partV, eqCells, cellEq, gamY, listsOk, tupOf, takeOwn, SV.ret1, resAll, resL, resV, Nat.reduceEqDiff, ↓reduceIte, Nat.reduceAdd, Nat.reduceMul, Nat.reduceLeDiff, Nat.reduceLT, reduceCtorEq, labOk, Int.reduceBEq, Int.reduceBNe, Int.reduceToNat, Int.reduceLE, Int.reduceLT, Int.reduceEq, Nat.reduceDiv, Nat.reduceMod, Nat.reduceSub, Nat.reduceBEq, fitR, fitR1, fitR0, fitRL1, fitRL, et, Int.natCast_zero, Int.ofNat_zero, tmT, List.take_zero, List.map_nil, List.sum_nil]
  · simp (config := { maxSteps := 9000000 }) only [↓vyD, vyU, binS, SV.go1, SV.go0, mkRow, intsOf, boolsOf, strsOf, chunks, Row.rep, Row.cat, Row.sub, Row.put, Row.len, Row.get, Row.size, Row.flat, bnds, own0, own1, labsL, labsR, SV.labs, argsOf, entFr, SO.ev, St.of, keepSt, getAll, lookN, hasN, SV.cells, SV.one, SV.res1, SV.res0, SV.resP, SV.ok1, SV.ok0, SV.okN, SV.solid, SV.solid1, SV.solid0, SV.flat0, SV.nm, SV.nm1, SV.nm0, SV.noPtr1, SV.noPtr0, Cel.isFresh, fillP, setAt, partV, eqCells, cellEq, gamY, listsOk, tupOf, takeOwn, SV.ret1, resAll, resL, resV, Nat.reduceEqDiff, ↓reduceIte, Nat.reduceAdd, Nat.reduceMul, Nat.reduceLeDiff, Nat.reduceLT, reduceCtorEq, labOk, Int.reduceBEq, Int.reduceBNe, Int.reduceToNat, Int.reduceLE, Int.reduceLT, Int.reduceEq, Nat.reduceDiv, Nat.reduceMod, Nat.reduceSub, Nat.reduceBEq, fitR, fitR1, fitR0, fitRL1, fitRL, et, tuT, List.range_zero, List.map_nil, mapT_nil]
  have hlen := tuT_len m i
  have hi0 : (0 : Int) ≤ (i : Int) := by omega
  by_cases hlt : (i : Int) < (m.length : Int)
  · have hlt' : i < m.length := by omega
    have b1 := i64_wrap (show I64 ((i : Int) + 1) by unfold I64; omega)
    have b2 : I64 30 := by unfold I64; omega
    have q1 := tmT_mono (m := m) hi
    have q2 := withinN_lt (m.getD i 0) (n := 30) (by omega)
    have q3 := tmT_next hlt'
    have q4 := tuT_next m i
    have b3 := i64_wrap (show I64 (tmT m i + withinN (m.getD i 0) 30) by unfold I64; omega)
    have e1 : (i : Int).tmod 2 = ((i % 2 : Nat) : Int) := by rw [Int.tmod_eq_emod_of_nonneg (by omega)]; omega
    have e2 := i64_wrap (show I64 (((i % 2 : Nat) : Int)) by unfold I64; omega)
    have e3 : (((i % 2 : Nat) : Int) == 0) = decide (i % 2 = 0) := by
      by_cases h : i % 2 = 0
      · rw [decide_eq_true h, h]; rfl
      · rw [decide_eq_false h, beq_eq_false_iff_ne]; omega
    generalize hW : withinN (m.getD i 0) 30 = w at *
    generalize hD : decide (i % 2 = 0) = d at *
    generalize hI : ((i % 2 : Nat) : Int) = k at *
    simp (config := { maxSteps := 9000000 }) only [↓vyD, vyU, binS, SV.go1, SV.go0, mkRow, intsOf, boolsOf, strsOf, chunks, Row.rep, Row.cat, Row.sub, Row.put, Row.len, Row.get, Row.size, Row.flat, bnds, own0, own1, labsL, labsR, SV.labs, argsOf, entFr, SO.ev, St.of, keepSt, getAll, lookN, hasN, SV.cells, SV.one, SV.res1, SV.res0, SV.resP, SV.ok1, SV.ok0, SV.okN, SV.solid, SV.solid1, SV.solid0, SV.flat0, SV.nm, SV.nm1, SV.nm0, SV.noPtr1, SV.noPtr0, Cel.isFresh, fillP, setAt, partV, eqCells, cellEq, gamY, listsOk, tupOf, takeOwn, SV.ret1, resAll, resL, resV, Nat.reduceEqDiff, ↓reduceIte, Nat.reduceAdd, Nat.reduceMul, Nat.reduceLeDiff, Nat.reduceLT, reduceCtorEq, labOk, Int.reduceBEq, Int.reduceBNe, Int.reduceToNat, Int.reduceLE, Int.reduceLT, Int.reduceEq, Nat.reduceDiv, Nat.reduceMod, Nat.reduceSub, Nat.reduceBEq, fitR, fitR1, fitR0, fitRL1, fitRL, gTu, withinS, hlt, hi0, b1, b2, b3, e1, e2, e3, hW, mapT_len, hlen, mapT_labs, List.all_nil, mapT_app, Int.toNat_natCast]
    exact ⟨by decide, by omega, i + 1, ⟨by omega, by omega⟩, ⟨rfl, by omega, by simp⟩, rfl, by rw [q4, q3]⟩
  · have : i = m.length := by omega
    subst this
    simp (config := { maxSteps := 9000000 }) only [↓vyD, vyU, binS, SV.go1, SV.go0, mkRow, intsOf, boolsOf, strsOf, chunks, Row.rep, Row.cat, Row.sub, Row.put, Row.len, Row.get, Row.size, Row.flat, bnds, own0, own1, labsL, labsR, SV.labs, argsOf, entFr, SO.ev, St.of, keepSt, getAll, lookN, hasN, SV.cells, SV.one, SV.res1, SV.res0, SV.resP, SV.ok1, SV.ok0, SV.okN, SV.solid, SV.solid1, SV.solid0, SV.flat0, SV.nm, SV.nm1, SV.nm0, SV.noPtr1, SV.noPtr0, Cel.isFresh, fillP, setAt, partV, eqCells, cellEq, gamY, listsOk, tupOf, takeOwn, SV.ret1, resAll, resL, resV, Nat.reduceEqDiff, ↓reduceIte, Nat.reduceAdd, Nat.reduceMul, Nat.reduceLeDiff, Nat.reduceLT, reduceCtorEq, labOk, Int.reduceBEq, Int.reduceBNe, Int.reduceToNat, Int.reduceLE, Int.reduceLT, Int.reduceEq, Nat.reduceDiv, Nat.reduceMod, Nat.reduceSub, Nat.reduceBEq, fitR, fitR1, fitR0, fitRL1, fitRL, gTu, withinS, Int.lt_irrefl, mapT_labs, List.all_nil, mapT_len, hlen, List.contains_nil]
end Go.Proofs.Ytlfhcjohkpdkoaa
