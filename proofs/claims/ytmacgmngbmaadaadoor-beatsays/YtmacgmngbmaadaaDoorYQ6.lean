/- What the document's answers for heartbeats do (hwref). -/
import Derived.Test.YtmacgmngbmaadaaDoorYB6
import Derived.Test.YtmacgmngbmaadaaDoorCQ6
namespace Go.Proofs.YtmacgmngbmaadaaDoor
open Go.ChangeShapes Go.WideShapes Go.ChangeAt Go.RowKit Go.Joins Y
set_option linter.unusedSimpArgs false
set_option linter.unusedVariables false
set_option maxRecDepth 100000
set_option maxHeartbeats 40000000
def rwithS : Say
  | [.int .i64 x, .int .i64 a, .int .i64 b] => some (True, .bool (decide (a ≤ x ∧ x ≤ b)), none)
  | _ => none
theorem rwith_ok : FOk Tryd.prog 32 rwithS := by
  intro xs p r own h hp
  unfold rwithS at h
  split at h
  case h_2 => cases h
  rename_i x a b
  simp only [Option.some.injEq, Prod.mk.injEq] at h
  obtain ⟨rfl, rfl, rfl⟩ := h
  refine fun_ok (gam_ok gam_nil) lawy_mixed y32_eq none ?_ (Nat.le_of_ble_eq_true rfl)
  by_cases h1 : a ≤ x
  · by_cases h2 : x ≤ b
    · simp (config := { maxSteps := 9000000 }) only [↓vyD, vyU, binS, SV.go1, SV.go0, mkRow, intsOf, boolsOf, strsOf, chunks, Row.rep, Row.cat, Row.sub, Row.put, Row.len, Row.get, Row.size, Row.flat, bnds, own0, own1, labsL, labsR, SV.labs, argsOf, entFr, SO.ev, St.of, keepSt, getAll, lookN, hasN, SV.cells, SV.one, SV.res1, SV.res0, SV.resP, SV.ok1, SV.ok0, SV.okN, SV.solid, SV.solid1, SV.solid0, SV.flat0, SV.nm, SV.nm1, SV.nm0, SV.noPtr1, SV.noPtr0, Cel.isFresh, fillP, setAt, partV, eqCells, cellEq, gamY, listsOk, tupOf, takeOwn, SV.ret1, resAll, resL, resV, Nat.reduceEqDiff, ↓reduceIte, Nat.reduceAdd, Nat.reduceMul, Nat.reduceLeDiff, Nat.reduceLT, reduceCtorEq, labOk, Int.reduceBEq, Int.reduceBNe, Int.reduceToNat, Int.reduceLE, Int.reduceLT, Int.reduceEq, Nat.reduceDiv, Nat.reduceMod, Nat.reduceSub, Nat.reduceBEq, fitR, fitR1, fitR0, fitRL1, fitRL, y32, h1, h2]
    · simp (config := { maxSteps := 9000000 }) only [↓vyD, vyU, binS, SV.go1, SV.go0, mkRow, intsOf, boolsOf, strsOf, chunks, Row.rep, Row.cat, Row.sub, Row.put, Row.len, Row.get, Row.size, Row.flat, bnds, own0, own1, labsL, labsR, SV.labs, argsOf, entFr, SO.ev, St.of, keepSt, getAll, lookN, hasN, SV.cells, SV.one, SV.res1, SV.res0, SV.resP, SV.ok1, SV.ok0, SV.okN, SV.solid, SV.solid1, SV.solid0, SV.flat0, SV.nm, SV.nm1, SV.nm0, SV.noPtr1, SV.noPtr0, Cel.isFresh, fillP, setAt, partV, eqCells, cellEq, gamY, listsOk, tupOf, takeOwn, SV.ret1, resAll, resL, resV, Nat.reduceEqDiff, ↓reduceIte, Nat.reduceAdd, Nat.reduceMul, Nat.reduceLeDiff, Nat.reduceLT, reduceCtorEq, labOk, Int.reduceBEq, Int.reduceBNe, Int.reduceToNat, Int.reduceLE, Int.reduceLT, Int.reduceEq, Nat.reduceDiv, Nat.reduceMod, Nat.reduceSub, Nat.reduceBEq, fitR, fitR1, fitR0, fitRL1, fitRL, y32, h1, h2, and_false]
  · simp (config := { maxSteps := 9000000 }) only [↓vyD, vyU, binS, SV.go1, SV.go0, mkRow, intsOf, boolsOf, strsOf, chunks, Row.rep, Row.cat, Row.sub, Row.put, Row.len, Row.get, Row.size, Row.flat, bnds, own0, own1, labsL, labsR, SV.labs, argsOf, entFr, SO.ev, St.of, keepSt, getAll, lookN, hasN, SV.cells, SV.one, SV.res1, SV.res0, SV.resP, SV.ok1, SV.ok0, SV.okN, SV.solid, SV.solid1, SV.solid0, SV.flat0, SV.nm, SV.nm1, SV.nm0, SV.noPtr1, SV.noPtr0, Cel.isFresh, fillP, setAt, partV, eqCells, cellEq, gamY, listsOk, tupOf, takeOwn, SV.ret1, resAll, resL, resV, Nat.reduceEqDiff, ↓reduceIte, Nat.reduceAdd, Nat.reduceMul, Nat.reduceLeDiff, Nat.reduceLT, reduceCtorEq, labOk, Int.reduceBEq, Int.reduceBNe, Int.reduceToNat, Int.reduceLE, Int.reduceLT, Int.reduceEq, Nat.reduceDiv, Nat.reduceMod, Nat.reduceSub, Nat.reduceBEq, fitR, fitR1, fitR0, fitRL1, fitRL, y32, h1, false_and]
def badI (c : Int) : Bool := decide (c < 97 ∨ 122 < c)
def idfS : Say
  | [.int .u8 c] => some (True, .bool (badI c), none)
  | _ => none
theorem idf_ok : FOk Tryd.prog 35 idfS := by
  intro xs p r own h hp
  unfold idfS at h
  split at h
  case h_2 => cases h
  rename_i c
  simp only [Option.some.injEq, Prod.mk.injEq] at h
  obtain ⟨rfl, rfl, rfl⟩ := h
  refine fun_ok (gam_ok gam_nil) lawy_mixed y35_eq none ?_ (Nat.le_of_ble_eq_true rfl)
  unfold badI
  by_cases h1 : c < 97
  · simp (config := { maxSteps := 9000000 }) only [↓vyD, vyU, binS, SV.go1, SV.go0, mkRow, intsOf, boolsOf, strsOf, chunks, Row.rep, Row.cat, Row.sub, Row.put, Row.len, Row.get, Row.size, Row.flat, bnds, own0, own1, labsL, labsR, SV.labs, argsOf, entFr, SO.ev, St.of, keepSt, getAll, lookN, hasN, SV.cells, SV.one, SV.res1, SV.res0, SV.resP, SV.ok1, SV.ok0, SV.okN, SV.solid, SV.solid1, SV.solid0, SV.flat0, SV.nm, SV.nm1, SV.nm0, SV.noPtr1, SV.noPtr0, Cel.isFresh, fillP, setAt, partV, eqCells, cellEq, gamY, listsOk, tupOf, takeOwn, SV.ret1, resAll, resL, resV, Nat.reduceEqDiff, ↓reduceIte, Nat.reduceAdd, Nat.reduceMul, Nat.reduceLeDiff, Nat.reduceLT, reduceCtorEq, labOk, Int.reduceBEq, Int.reduceBNe, Int.reduceToNat, Int.reduceLE, Int.reduceLT, Int.reduceEq, Nat.reduceDiv, Nat.reduceMod, Nat.reduceSub, Nat.reduceBEq, fitR, fitR1, fitR0, fitRL1, fitRL, y35, h1, true_or]
  · by_cases h2 : 122 < c
    · simp (config := { maxSteps := 9000000 }) only [↓vyD, vyU, binS, SV.go1, SV.go0, mkRow, intsOf, boolsOf, strsOf, chunks, Row.rep, Row.cat, Row.sub, Row.put, Row.len, Row.get, Row.size, Row.flat, bnds, own0, own1, labsL, labsR, SV.labs, argsOf, entFr, SO.ev, St.of, keepSt, getAll, lookN, hasN, SV.cells, SV.one, SV.res1, SV.res0, SV.resP, SV.ok1, SV.ok0, SV.okN, SV.solid, SV.solid1, SV.solid0, SV.flat0, SV.nm, SV.nm1, SV.nm0, SV.noPtr1, SV.noPtr0, Cel.isFresh, fillP, setAt, partV, eqCells, cellEq, gamY, listsOk, tupOf, takeOwn, SV.ret1, resAll, resL, resV, Nat.reduceEqDiff, ↓reduceIte, Nat.reduceAdd, Nat.reduceMul, Nat.reduceLeDiff, Nat.reduceLT, reduceCtorEq, labOk, Int.reduceBEq, Int.reduceBNe, Int.reduceToNat, Int.reduceLE, Int.reduceLT, Int.reduceEq, Nat.reduceDiv, Nat.reduceMod, Nat.reduceSub, Nat.reduceBEq, fitR, fitR1, fitR0, fitRL1, fitRL, y35, h1, h2, or_true]
    · simp (config := { maxSteps := 9000000 }) only [↓vyD, vyU, binS, SV.go1, SV.go0, mkRow, intsOf, boolsOf, strsOf, chunks, Row.rep, Row.cat, Row.sub, Row.put, Row.len, Row.get, Row.size, Row.flat, bnds, own0, own1, labsL, labsR, SV.labs, argsOf, entFr, SO.ev, St.of, keepSt, getAll, lookN, hasN, SV.cells, SV.one, SV.res1, SV.res0, SV.resP, SV.ok1, SV.ok0, SV.okN, SV.solid, SV.solid1, SV.solid0, SV.flat0, SV.nm, SV.nm1, SV.nm0, SV.noPtr1, SV.noPtr0, Cel.isFresh, fillP, setAt, partV, eqCells, cellEq, gamY, listsOk, tupOf, takeOwn, SV.ret1, resAll, resL, resV, Nat.reduceEqDiff, ↓reduceIte, Nat.reduceAdd, Nat.reduceMul, Nat.reduceLeDiff, Nat.reduceLT, reduceCtorEq, labOk, Int.reduceBEq, Int.reduceBNe, Int.reduceToNat, Int.reduceLE, Int.reduceLT, Int.reduceEq, Nat.reduceDiv, Nat.reduceMod, Nat.reduceSub, Nat.reduceBEq, fitR, fitR1, fitR0, fitRL1, fitRL, y35, h1, h2, or_self]
def ixF : List Int → Nat → Int
  | [], _ => -1
  | c :: l, k => if badI c = true then (k : Int) else ixF l (k + 1)
theorem ixF_at : ∀ (l : List Int) (k i : Nat), i < l.length → (∀ j, j < i → badI (l.getD j 0) = false) → badI (l.getD i 0) = true → ixF l k = ((k + i : Nat) : Int)
  | [], _, _, h, _, _ => by simp at h
  | c :: l, k, 0, _, _, h => by
    simp only [List.getD_cons_zero] at h
    rw [ixF, if_pos h]; rfl
  | c :: l, k, i + 1, h, h1, h2 => by
    have h0 := h1 0 (by omega)
    simp only [List.getD_cons_zero] at h0
    rw [ixF, if_neg (by rw [h0]; decide), ixF_at l (k + 1) i (by simpa using h) (fun j hj => by have := h1 (j + 1) (by omega); simpa using this) (by simpa using h2)]
    congr 1; omega
theorem ixF_none : ∀ (l : List Int) (k : Nat), (∀ j, j < l.length → badI (l.getD j 0) = false) → ixF l k = -1
  | [], _, _ => rfl
  | c :: l, k, h => by
    have h0 := h 0 (by simp)
    simp only [List.getD_cons_zero] at h0
    rw [ixF, if_neg (by rw [h0]; decide), ixF_none l (k + 1) fun j hj => by have := h (j + 1) (by simpa using hj); simpa using this]
def gX : List (Nat × Say) := [(35, idfS)]
theorem gX_ok : GamOk Tryd.prog (gamY gX) := gam_ok (gam_cons idf_ok gam_nil)
def ixS : Say
  | [.rw (.ints .u8 l), .clo f []] => if f = 35 then some (l.length ≤ 140737488355328, .int .i64 (ixF l 0), none) else none
  | _ => none
theorem ix_ok : FOk Tryd.prog 40 ixS := by
  intro xs p r own h hp
  unfold ixS at h
  split at h
  case h_2 => cases h
  rename_i l f
  split at h
  case isFalse => cases h
  rename_i hf
  subst hf
  simp only [Option.some.injEq, Prod.mk.injEq] at h
  obtain ⟨rfl, rfl, rfl⟩ := h
  refine fun_ok gX_ok lawy_mixed y40_eq none ?_ (Nat.le_of_ble_eq_true rfl)
  simp (config := { maxSteps := 9000000 }) only [↓vyD, vyU, binS, SV.go1, SV.go0, mkRow, intsOf, boolsOf, strsOf, chunks, Row.rep, Row.cat, Row.sub, Row.put, Row.len, Row.get, Row.size, Row.flat, bnds, own0, own1, labsL, labsR, SV.labs, argsOf, entFr, SO.ev, St.of, keepSt, getAll, lookN, hasN, SV.cells, SV.one, SV.res1, SV.res0, SV.resP, SV.ok1, SV.ok0, SV.okN, SV.solid, SV.solid1, SV.solid0, SV.flat0, SV.nm, SV.nm1, SV.nm0, SV.noPtr1, SV.noPtr0, Cel.isFresh, fillP, setAt, partV, eqCells, cellEq, gamY, listsOk, tupOf, takeOwn, SV.ret1, resAll, resL, resV, Nat.reduceEqDiff, ↓reduceIte, Nat.reduceAdd, Nat.reduceMul, Nat.reduceLeDiff, Nat.reduceLT, reduceCtorEq, labOk, Int.reduceBEq, Int.reduceBNe, Int.reduceToNat, Int.reduceLE, Int.reduceLT, Int.reduceEq, Nat.reduceDiv, Nat.reduceMod, Nat.reduceSub, Nat.reduceBEq, fitR, fitR1, fitR0, fitRL1, fitRL, y40, gX, idfS]
  refine loopG_intro (ι := Nat) (fun i => [(0, .rw (.ints .u8 l)), (1, .clo 35 []), (7, .int .i64 l.length), (8, .int .i64 i)]) (fun _ => []) (fun i => i ≤ l.length ∧ ∀ j, j < i → badI (l.getD j 0) = false) (fun i => l.length - i) ⟨0, by simp, ?_, ?_, ?_⟩ fun i hi => ?_
  · simp (config := { maxSteps := 9000000 }) only [↓vyD, vyU, binS, SV.go1, SV.go0, mkRow, intsOf, boolsOf, strsOf, chunks, Row.rep, Row.cat, Row.sub, Row.put, Row.len, Row.get, Row.size, Row.flat, bnds, own0, own1, labsL, labsR, SV.labs, argsOf, entFr, SO.ev, St.of, keepSt, getAll, lookN, hasN, SV.cells, SV.one, SV.res1, SV.res0, SV.resP, SV.ok1, SV.ok0, SV.okN, SV.solid, SV.solid1, SV.solid0, SV.flat0, SV.nm, SV.nm1, SV.nm0, SV.noPtr1, SV.noPtr0, Cel.isFresh, fillP, setAt, partV, eqCells, cellEq, gamY, listsOk, tupOf, takeOwn, SV.ret1, resAll, resL, resV, Nat.reduceEqDiff, ↓reduceIte, Nat.reduceAdd, Nat.reduceMul, Nat.reduceLeDiff, Nat.reduceLT, reduceCtorEq, labOk, Int.reduceBEq, Int.reduceBNe, Int.reduceToNat, Int.reduceLE, Int.reduceLT, Int.reduceEq, Nat.reduceDiv, Nat.reduceMod, Nat.reduceSub, Nat.reduceBEq, fitR, fitR1, fitR0, fitRL1, fitRL, hp]
  · simp (config := { maxSteps := 9000000 }) only [↓vyD, vyU, binS, SV.go1, SV.go0, mkRow, intsOf, boolsOf, strsOf, chunks, Row.rep, Row.cat, Row.sub, Row.put, Row.len, Row.get, Row.size, Row.flat, bnds, own0, own1, labsL, labsR, SV.labs, argsOf, entFr, SO.ev, St.of, keepSt, getAll, lookN, hasN, SV.cells, SV.one, SV.res1, SV.res0, SV.resP, SV.ok1, SV.ok0, SV.okN, SV.solid, SV.solid1, SV.solid0, SV.flat0, SV.nm, SV.nm1, SV.nm0, SV.noPtr1, SV.noPtr0, Cel.isFresh, fillP, setAt, partV, eqCells, cellEq, gamY, listsOk, tupOf, takeOwn, SV.ret1, resAll, resL, resV, Nat.reduceEqDiff, ↓reduceIte, Nat.reduceAdd, Nat.reduceMul, Nat.reduceLeDiff, Nat.reduceLT, reduceCtorEq, labOk, Int.reduceBEq, Int.reduceBNe, Int.reduceToNat, Int.reduceLE, Int.reduceLT, Int.reduceEq, Nat.reduceDiv, Nat.reduceMod, Nat.reduceSub, Nat.reduceBEq, fitR, fitR1, fitR0, fitRL1, fitRL, hp]
  · simp (config := { maxSteps := 9000000 }) only [↓vyD, vyU, binS, SV.go1, SV.go0, mkRow, intsOf, boolsOf, strsOf, chunks, Row.rep, Row.cat, Row.sub, Row.put, Row.len, Row.get, Row.size, Row.flat, bnds, own0, own1, labsL, labsR, SV.labs, argsOf, entFr, SO.ev, St.of, keepSt, getAll, lookN, hasN, SV.cells, SV.one, SV.res1, SV.res0, SV.resP, SV.ok1, SV.ok0, SV.okN, SV.solid, SV.solid1, SV.solid0, SV.flat0, SV.nm, SV.nm1, SV.nm0, SV.noPtr1, SV.noPtr0, Cel.isFresh, fillP, setAt, partV, eqCells, cellEq, gamY, listsOk, tupOf, takeOwn, SV.ret1, resAll, resL, resV, Nat.reduceEqDiff, ↓reduceIte, Nat.reduceAdd, Nat.reduceMul, Nat.reduceLeDiff, Nat.reduceLT, reduceCtorEq, labOk, Int.reduceBEq, Int.reduceBNe, Int.reduceToNat, Int.reduceLE, Int.reduceLT, Int.reduceEq, Nat.reduceDiv, Nat.reduceMod, Nat.reduceSub, Nat.reduceBEq, fitR, fitR1, fitR0, fitRL1, fitRL, hp]
  · obtain ⟨hi, hall⟩ := hi
    by_cases hlt : (i : Int) < (l.length : Int)
    · have hlt' : i < l.length := by omega
      have w1 := i64_wrap (show I64 ((i : Int) + 1) by unfold I64; omega)
      have c0 : (0 : Int) ≤ (i : Int) := by omega
      cases hb : badI (l.getD i 0) with
      | true =>
        have e := ixF_at l 0 i hlt' hall hb
        rw [Nat.zero_add] at e
        simp (config := { maxSteps := 9000000 }) only [↓vyD, vyU, binS, SV.go1, SV.go0, mkRow, intsOf, boolsOf, strsOf, chunks, Row.rep, Row.cat, Row.sub, Row.put, Row.len, Row.get, Row.size, Row.flat, bnds, own0, own1, labsL, labsR, SV.labs, argsOf, entFr, SO.ev, St.of, keepSt, getAll, lookN, hasN, SV.cells, SV.one, SV.res1, SV.res0, SV.resP, SV.ok1, SV.ok0, SV.okN, SV.solid, SV.solid1, SV.solid0, SV.flat0, SV.nm, SV.nm1, SV.nm0, SV.noPtr1, SV.noPtr0, Cel.isFresh, fillP, setAt, partV, eqCells, cellEq, gamY, listsOk, tupOf, takeOwn, SV.ret1, resAll, resL, resV, Nat.reduceEqDiff, ↓reduceIte, Nat.reduceAdd, Nat.reduceMul, Nat.reduceLeDiff, Nat.reduceLT, reduceCtorEq, labOk, Int.reduceBEq, Int.reduceBNe, Int.reduceToNat, Int.reduceLE, Int.reduceLT, Int.reduceEq, Nat.reduceDiv, Nat.reduceMod, Nat.reduceSub, Nat.reduceBEq, fitR, fitR1, fitR0, fitRL1, fitRL, hlt, gX, idfS, Int.toNat_natCast, w1, c0, hb, e]
      | false =>
        simp (config := { maxSteps := 9000000 }) only [↓vyD, vyU, binS, SV.go1, SV.go0, mkRow, intsOf, boolsOf, strsOf, chunks, Row.rep, Row.cat, Row.sub, Row.put, Row.len, Row.get, Row.size, Row.flat, bnds, own0, own1, labsL, labsR, SV.labs, argsOf, entFr, SO.ev, St.of, keepSt, getAll, lookN, hasN, SV.cells, SV.one, SV.res1, SV.res0, SV.resP, SV.ok1, SV.ok0, SV.okN, SV.solid, SV.solid1, SV.solid0, SV.flat0, SV.nm, SV.nm1, SV.nm0, SV.noPtr1, SV.noPtr0, Cel.isFresh, fillP, setAt, partV, eqCells, cellEq, gamY, listsOk, tupOf, takeOwn, SV.ret1, resAll, resL, resV, Nat.reduceEqDiff, ↓reduceIte, Nat.reduceAdd, Nat.reduceMul, Nat.reduceLeDiff, Nat.reduceLT, reduceCtorEq, labOk, Int.reduceBEq, Int.reduceBNe, Int.reduceToNat, Int.reduceLE, Int.reduceLT, Int.reduceEq, Nat.reduceDiv, Nat.reduceMod, Nat.reduceSub, Nat.reduceBEq, fitR, fitR1, fitR0, fitRL1, fitRL, hlt, gX, idfS, Int.toNat_natCast, w1, c0, hb]
        refine ⟨i + 1, ⟨⟨by omega, fun j hj => ?_⟩, by omega⟩, by simp⟩
        by_cases hj' : j = i
        · subst hj'; exact hb
        · exact hall j (by omega)
    · have hiS : i = l.length := by omega
      subst hiS
      have e := ixF_none l 0 hall
      simp (config := { maxSteps := 9000000 }) only [↓vyD, vyU, binS, SV.go1, SV.go0, mkRow, intsOf, boolsOf, strsOf, chunks, Row.rep, Row.cat, Row.sub, Row.put, Row.len, Row.get, Row.size, Row.flat, bnds, own0, own1, labsL, labsR, SV.labs, argsOf, entFr, SO.ev, St.of, keepSt, getAll, lookN, hasN, SV.cells, SV.one, SV.res1, SV.res0, SV.resP, SV.ok1, SV.ok0, SV.okN, SV.solid, SV.solid1, SV.solid0, SV.flat0, SV.nm, SV.nm1, SV.nm0, SV.noPtr1, SV.noPtr0, Cel.isFresh, fillP, setAt, partV, eqCells, cellEq, gamY, listsOk, tupOf, takeOwn, SV.ret1, resAll, resL, resV, Nat.reduceEqDiff, ↓reduceIte, Nat.reduceAdd, Nat.reduceMul, Nat.reduceLeDiff, Nat.reduceLT, reduceCtorEq, labOk, Int.reduceBEq, Int.reduceBNe, Int.reduceToNat, Int.reduceLE, Int.reduceLT, Int.reduceEq, Nat.reduceDiv, Nat.reduceMod, Nat.reduceSub, Nat.reduceBEq, fitR, fitR1, fitR0, fitRL1, fitRL, hlt, e]
def gY : List (Nat × Say) := [(40, ixS)]
theorem gY_ok : GamOk Tryd.prog (gamY gY) := gam_ok (gam_cons ix_ok gam_nil)
def cfS : Say
  | [.rw (.ints .u8 l), .clo f []] => if f = 35 then some (l.length ≤ 140737488355328, .bool (decide (0 ≤ ixF l 0)), none) else none
  | _ => none
theorem cf_ok : FOk Tryd.prog 34 cfS := by
  intro xs p r own h hp
  unfold cfS at h
  split at h
  case h_2 => cases h
  rename_i l f
  split at h
  case isFalse => cases h
  rename_i hf
  subst hf
  simp only [Option.some.injEq, Prod.mk.injEq] at h
  obtain ⟨rfl, rfl, rfl⟩ := h
  refine fun_ok gY_ok lawy_mixed y34_eq none ?_ (Nat.le_of_ble_eq_true rfl)
  simp (config := { maxSteps := 9000000 }) only [↓vyD, vyU, binS, SV.go1, SV.go0, mkRow, intsOf, boolsOf, strsOf, chunks, Row.rep, Row.cat, Row.sub, Row.put, Row.len, Row.get, Row.size, Row.flat, bnds, own0, own1, labsL, labsR, SV.labs, argsOf, entFr, SO.ev, St.of, keepSt, getAll, lookN, hasN, SV.cells, SV.one, SV.res1, SV.res0, SV.resP, SV.ok1, SV.ok0, SV.okN, SV.solid, SV.solid1, SV.solid0, SV.flat0, SV.nm, SV.nm1, SV.nm0, SV.noPtr1, SV.noPtr0, Cel.isFresh, fillP, setAt, partV, eqCells, cellEq, gamY, listsOk, tupOf, takeOwn, SV.ret1, resAll, resL, resV, Nat.reduceEqDiff, ↓reduceIte, Nat.reduceAdd, Nat.reduceMul, Nat.reduceLeDiff, Nat.reduceLT, reduceCtorEq, labOk, Int.reduceBEq, Int.reduceBNe, Int.reduceToNat, Int.reduceLE, Int.reduceLT, Int.reduceEq, Nat.reduceDiv, Nat.reduceMod, Nat.reduceSub, Nat.reduceBEq, fitR, fitR1, fitR0, fitRL1, fitRL, y34, gY, ixS, hp]
theorem badI_let (c : UInt8) : badI (c.toNat : Int) = !letB c := by
  unfold badI letB
  rw [← decide_not]
  congr 1
  rw [eq_iff_iff]
  omega
theorem ixF_all : ∀ (l : List UInt8) (k : Nat), 0 ≤ ixF (bI l) k ↔ l.all letB = false
  | [], k => by simp [bI, ixF]
  | c :: l, k => by
    have ih := ixF_all l (k + 1)
    simp only [bI, List.map_cons, ixF, List.all_cons] at ih ⊢
    rw [badI_let]
    cases letB c with
    | true => simp only [Bool.not_true, Bool.false_eq_true, if_false, Bool.true_and]; exact ih
    | false => simp
def gZ : List (Nat × Say) := [(32, rwithS), (34, cfS)]
theorem gZ_ok : GamOk Tryd.prog (gamY gZ) := gam_ok (gam_cons rwith_ok (gam_cons cf_ok gam_nil))
def ridS : Say
  | [.str l] => some (l.length ≤ 140737488355328, .bool (isIdB l), none)
  | _ => none
theorem rid_ok : FOk Tryd.prog 17 ridS := by
  intro xs p r own h hp
  unfold ridS at h
  split at h
  case h_2 => cases h
  rename_i l
  simp only [Option.some.injEq, Prod.mk.injEq] at h
  obtain ⟨rfl, rfl, rfl⟩ := h
  refine fun_ok gZ_ok lawy_mixed y17_eq none ?_ (Nat.le_of_ble_eq_true rfl)
  have hall := ixF_all l 0
  by_cases h : 1 ≤ (l.length : Int) ∧ (l.length : Int) ≤ 8
  · have hd : (decide (1 ≤ l.length ∧ l.length ≤ 8)) = true := by simp; omega
    have hf : isIdB l = l.all letB := by unfold isIdB; rw [hd, Bool.true_and]
    cases ha : l.all letB with
    | true =>
      rw [ha] at hall hf
      have e : ¬ 0 ≤ ixF (bI l) 0 := by rw [hall]; simp
      simp (config := { maxSteps := 9000000 }) only [↓vyD, vyU, binS, SV.go1, SV.go0, mkRow, intsOf, boolsOf, strsOf, chunks, Row.rep, Row.cat, Row.sub, Row.put, Row.len, Row.get, Row.size, Row.flat, bnds, own0, own1, labsL, labsR, SV.labs, argsOf, entFr, SO.ev, St.of, keepSt, getAll, lookN, hasN, SV.cells, SV.one, SV.res1, SV.res0, SV.resP, SV.ok1, SV.ok0, SV.okN, SV.solid, SV.solid1, SV.solid0, SV.flat0, SV.nm, SV.nm1, SV.nm0, SV.noPtr1, SV.noPtr0, Cel.isFresh, fillP, setAt, partV, eqCells, cellEq, gamY, listsOk, tupOf, takeOwn, SV.ret1, resAll, resL, resV, Nat.reduceEqDiff, ↓reduceIte, Nat.reduceAdd, Nat.reduceMul, Nat.reduceLeDiff, Nat.reduceLT, reduceCtorEq, labOk, Int.reduceBEq, Int.reduceBNe, Int.reduceToNat, Int.reduceLE, Int.reduceLT, Int.reduceEq, Nat.reduceDiv, Nat.reduceMod, Nat.reduceSub, Nat.reduceBEq, fitR, fitR1, fitR0, fitRL1, fitRL, y17, gZ, rwithS, cfS, h, hp, bI_eq, bI_len, e, hf]
    | false =>
      rw [ha] at hall hf
      have e : 0 ≤ ixF (bI l) 0 := hall.2 rfl
      simp (config := { maxSteps := 9000000 }) only [↓vyD, vyU, binS, SV.go1, SV.go0, mkRow, intsOf, boolsOf, strsOf, chunks, Row.rep, Row.cat, Row.sub, Row.put, Row.len, Row.get, Row.size, Row.flat, bnds, own0, own1, labsL, labsR, SV.labs, argsOf, entFr, SO.ev, St.of, keepSt, getAll, lookN, hasN, SV.cells, SV.one, SV.res1, SV.res0, SV.resP, SV.ok1, SV.ok0, SV.okN, SV.solid, SV.solid1, SV.solid0, SV.flat0, SV.nm, SV.nm1, SV.nm0, SV.noPtr1, SV.noPtr0, Cel.isFresh, fillP, setAt, partV, eqCells, cellEq, gamY, listsOk, tupOf, takeOwn, SV.ret1, resAll, resL, resV, Nat.reduceEqDiff, ↓reduceIte, Nat.reduceAdd, Nat.reduceMul, Nat.reduceLeDiff, Nat.reduceLT, reduceCtorEq, labOk, Int.reduceBEq, Int.reduceBNe, Int.reduceToNat, Int.reduceLE, Int.reduceLT, Int.reduceEq, Nat.reduceDiv, Nat.reduceMod, Nat.reduceSub, Nat.reduceBEq, fitR, fitR1, fitR0, fitRL1, fitRL, y17, gZ, rwithS, cfS, h, hp, bI_eq, bI_len, e, hf]
  · have hf : isIdB l = false := by
      unfold isIdB
      rw [decide_eq_false (by omega), Bool.false_and]
    simp (config := { maxSteps := 9000000 }) only [↓vyD, vyU, binS, SV.go1, SV.go0, mkRow, intsOf, boolsOf, strsOf, chunks, Row.rep, Row.cat, Row.sub, Row.put, Row.len, Row.get, Row.size, Row.flat, bnds, own0, own1, labsL, labsR, SV.labs, argsOf, entFr, SO.ev, St.of, keepSt, getAll, lookN, hasN, SV.cells, SV.one, SV.res1, SV.res0, SV.resP, SV.ok1, SV.ok0, SV.okN, SV.solid, SV.solid1, SV.solid0, SV.flat0, SV.nm, SV.nm1, SV.nm0, SV.noPtr1, SV.noPtr0, Cel.isFresh, fillP, setAt, partV, eqCells, cellEq, gamY, listsOk, tupOf, takeOwn, SV.ret1, resAll, resL, resV, Nat.reduceEqDiff, ↓reduceIte, Nat.reduceAdd, Nat.reduceMul, Nat.reduceLeDiff, Nat.reduceLT, reduceCtorEq, labOk, Int.reduceBEq, Int.reduceBNe, Int.reduceToNat, Int.reduceLE, Int.reduceLT, Int.reduceEq, Nat.reduceDiv, Nat.reduceMod, Nat.reduceSub, Nat.reduceBEq, fitR, fitR1, fitR0, fitRL1, fitRL, y17, gZ, rwithS, cfS, h, hf]
def gW : List (Nat × Say) := [(17, ridS), (32, rwithS)]
theorem gW_ok : GamOk Tryd.prog (gamY gW) := gam_ok (gam_cons rid_ok (gam_cons rwith_ok gam_nil))
def rbeatS : Say
  | [.agg [.str l, .int .i64 a, .int .i64 b]] => some (l.length ≤ 140737488355328, .int .i64 (chkE l a b), none)
  | _ => none
theorem rbeat_ok : FOk Tryd.prog 15 rbeatS := by
  intro xs p r own h hp
  unfold rbeatS at h
  split at h
  case h_2 => cases h
  rename_i l a b
  simp only [Option.some.injEq, Prod.mk.injEq] at h
  obtain ⟨rfl, rfl, rfl⟩ := h
  refine fun_ok gW_ok lawy_mixed y15_eq none ?_ (Nat.le_of_ble_eq_true rfl)
  by_cases hid : isIdB l = true
  · by_cases h1 : 0 ≤ a ∧ a ≤ 2147483647
    · by_cases h2 : 1 ≤ b ∧ b ≤ 2147483647
      · have hE : chkE l a b = 0 := chkE_0.2 ⟨hid, by omega⟩
        simp (config := { maxSteps := 9000000 }) only [↓vyD, vyU, binS, SV.go1, SV.go0, mkRow, intsOf, boolsOf, strsOf, chunks, Row.rep, Row.cat, Row.sub, Row.put, Row.len, Row.get, Row.size, Row.flat, bnds, own0, own1, labsL, labsR, SV.labs, argsOf, entFr, SO.ev, St.of, keepSt, getAll, lookN, hasN, SV.cells, SV.one, SV.res1, SV.res0, SV.resP, SV.ok1, SV.ok0, SV.okN, SV.solid, SV.solid1, SV.solid0, SV.flat0, SV.nm, SV.nm1, SV.nm0, SV.noPtr1, SV.noPtr0, Cel.isFresh, fillP, setAt, partV, eqCells, cellEq, gamY, listsOk, tupOf, takeOwn, SV.ret1, resAll, resL, resV, Nat.reduceEqDiff, ↓reduceIte, Nat.reduceAdd, Nat.reduceMul, Nat.reduceLeDiff, Nat.reduceLT, reduceCtorEq, labOk, Int.reduceBEq, Int.reduceBNe, Int.reduceToNat, Int.reduceLE, Int.reduceLT, Int.reduceEq, Nat.reduceDiv, Nat.reduceMod, Nat.reduceSub, Nat.reduceBEq, fitR, fitR1, fitR0, fitRL1, fitRL, y15, gW, ridS, rwithS, hp, hid, h1, h2, hE]
      · have hE : chkE l a b = 1 := by unfold chkE; rw [if_pos hid, if_neg (by omega)]
        simp (config := { maxSteps := 9000000 }) only [↓vyD, vyU, binS, SV.go1, SV.go0, mkRow, intsOf, boolsOf, strsOf, chunks, Row.rep, Row.cat, Row.sub, Row.put, Row.len, Row.get, Row.size, Row.flat, bnds, own0, own1, labsL, labsR, SV.labs, argsOf, entFr, SO.ev, St.of, keepSt, getAll, lookN, hasN, SV.cells, SV.one, SV.res1, SV.res0, SV.resP, SV.ok1, SV.ok0, SV.okN, SV.solid, SV.solid1, SV.solid0, SV.flat0, SV.nm, SV.nm1, SV.nm0, SV.noPtr1, SV.noPtr0, Cel.isFresh, fillP, setAt, partV, eqCells, cellEq, gamY, listsOk, tupOf, takeOwn, SV.ret1, resAll, resL, resV, Nat.reduceEqDiff, ↓reduceIte, Nat.reduceAdd, Nat.reduceMul, Nat.reduceLeDiff, Nat.reduceLT, reduceCtorEq, labOk, Int.reduceBEq, Int.reduceBNe, Int.reduceToNat, Int.reduceLE, Int.reduceLT, Int.reduceEq, Nat.reduceDiv, Nat.reduceMod, Nat.reduceSub, Nat.reduceBEq, fitR, fitR1, fitR0, fitRL1, fitRL, y15, gW, ridS, rwithS, hp, hid, h1, h2, hE]
    · have hE : chkE l a b = 1 := by unfold chkE; rw [if_pos hid, if_neg (by omega)]
      simp (config := { maxSteps := 9000000 }) only [↓vyD, vyU, binS, SV.go1, SV.go0, mkRow, intsOf, boolsOf, strsOf, chunks, Row.rep, Row.cat, Row.sub, Row.put, Row.len, Row.get, Row.size, Row.flat, bnds, own0, own1, labsL, labsR, SV.labs, argsOf, entFr, SO.ev, St.of, keepSt, getAll, lookN, hasN, SV.cells, SV.one, SV.res1, SV.res0, SV.resP, SV.ok1, SV.ok0, SV.okN, SV.solid, SV.solid1, SV.solid0, SV.flat0, SV.nm, SV.nm1, SV.nm0, SV.noPtr1, SV.noPtr0, Cel.isFresh, fillP, setAt, partV, eqCells, cellEq, gamY, listsOk, tupOf, takeOwn, SV.ret1, resAll, resL, resV, Nat.reduceEqDiff, ↓reduceIte, Nat.reduceAdd, Nat.reduceMul, Nat.reduceLeDiff, Nat.reduceLT, reduceCtorEq, labOk, Int.reduceBEq, Int.reduceBNe, Int.reduceToNat, Int.reduceLE, Int.reduceLT, Int.reduceEq, Nat.reduceDiv, Nat.reduceMod, Nat.reduceSub, Nat.reduceBEq, fitR, fitR1, fitR0, fitRL1, fitRL, y15, gW, ridS, rwithS, hp, hid, h1, hE]
  · have hE : chkE l a b = 3 := if_neg hid
    have hid' : isIdB l = false := by simpa using hid
    simp (config := { maxSteps := 9000000 }) only [↓vyD, vyU, binS, SV.go1, SV.go0, mkRow, intsOf, boolsOf, strsOf, chunks, Row.rep, Row.cat, Row.sub, Row.put, Row.len, Row.get, Row.size, Row.flat, bnds, own0, own1, labsL, labsR, SV.labs, argsOf, entFr, SO.ev, St.of, keepSt, getAll, lookN, hasN, SV.cells, SV.one, SV.res1, SV.res0, SV.resP, SV.ok1, SV.ok0, SV.okN, SV.solid, SV.solid1, SV.solid0, SV.flat0, SV.nm, SV.nm1, SV.nm0, SV.noPtr1, SV.noPtr0, Cel.isFresh, fillP, setAt, partV, eqCells, cellEq, gamY, listsOk, tupOf, takeOwn, SV.ret1, resAll, resL, resV, Nat.reduceEqDiff, ↓reduceIte, Nat.reduceAdd, Nat.reduceMul, Nat.reduceLeDiff, Nat.reduceLT, reduceCtorEq, labOk, Int.reduceBEq, Int.reduceBNe, Int.reduceToNat, Int.reduceLE, Int.reduceLT, Int.reduceEq, Nat.reduceDiv, Nat.reduceMod, Nat.reduceSub, Nat.reduceBEq, fitR, fitR1, fitR0, fitRL1, fitRL, y15, gW, ridS, rwithS, hp, hid', hE]
/-- The lowest k bytes. -/
def byN (n : Nat) : Nat → List UInt8
  | 0 => []
  | k + 1 => byN (n / 256) k ++ [UInt8.ofNat n]
theorem byN_len : ∀ (k n : Nat), (byN n k).length = k
  | 0, _ => rfl
  | k + 1, n => by simp [byN, byN_len k]
theorem byN_4 (n : Nat) : byN n 4 = word4 n := by
  simp only [byN, word4, List.nil_append, List.cons_append, Nat.div_div_eq_div_mul]
def rbyS (k : Nat) : Say
  | [.int .i64 n, .int .i64 m] => if m = (k : Int) then some (0 ≤ n ∧ n ≤ 9223372036854775807, .str (byN n.toNat k), none) else none
  | _ => none
theorem rby_ok : ∀ k : Nat, k ≤ 8 → FOk Tryd.prog 36 (rbyS k)
  | 0, _ => by
    intro xs p r own h hp
    unfold rbyS at h
    split at h
    case h_2 => cases h
    rename_i n m
    split at h
    case isFalse => cases h
    rename_i hm
    subst hm
    simp only [Option.some.injEq, Prod.mk.injEq] at h
    obtain ⟨rfl, rfl, rfl⟩ := h
    refine fun_ok (gam_ok gam_nil) lawy_mixed y36_eq none ?_ (Nat.le_of_ble_eq_true rfl)
    have e : ((0 : Nat) : Int) = 0 := rfl
    simp (config := { maxSteps := 9000000 }) only [↓vyD, vyU, binS, SV.go1, SV.go0, mkRow, intsOf, boolsOf, strsOf, chunks, Row.rep, Row.cat, Row.sub, Row.put, Row.len, Row.get, Row.size, Row.flat, bnds, own0, own1, labsL, labsR, SV.labs, argsOf, entFr, SO.ev, St.of, keepSt, getAll, lookN, hasN, SV.cells, SV.one, SV.res1, SV.res0, SV.resP, SV.ok1, SV.ok0, SV.okN, SV.solid, SV.solid1, SV.solid0, SV.flat0, SV.nm, SV.nm1, SV.nm0, SV.noPtr1, SV.noPtr0, Cel.isFresh, fillP, setAt, partV, eqCells, cellEq, gamY, listsOk, tupOf, takeOwn, SV.ret1, resAll, resL, resV, Nat.reduceEqDiff, ↓reduceIte, Nat.reduceAdd, Nat.reduceMul, Nat.reduceLeDiff, Nat.reduceLT, reduceCtorEq, labOk, Int.reduceBEq, Int.reduceBNe, Int.reduceToNat, Int.reduceLE, Int.reduceLT, Int.reduceEq, Nat.reduceDiv, Nat.reduceMod, Nat.reduceSub, Nat.reduceBEq, fitR, fitR1, fitR0, fitRL1, fitRL, y36, byN]
  | k + 1, hk => by
    intro xs p r own h hp
    unfold rbyS at h
    split at h
    case h_2 => cases h
    rename_i n m
    split at h
    case isFalse => cases h
    rename_i hm
    subst hm
    simp only [Option.some.injEq, Prod.mk.injEq] at h
    obtain ⟨rfl, rfl, rfl⟩ := h
    refine fun_ok (Γ := gamY [(36, rbyS k)]) (gam_ok (gam_cons (rby_ok k (by omega)) gam_nil)) lawy_mixed y36_eq none ?_ (Nat.le_of_ble_eq_true rfl)
    obtain ⟨h1, h2⟩ := hp
    obtain ⟨N, rfl⟩ := Int.eq_ofNat_of_zero_le h1
    have t0 : ((((k + 1 : Nat)) : Int) == 0) = false := by simp; omega
    have e1 : (N : Int).tdiv 256 = ((N / 256 : Nat) : Int) := by rw [Int.tdiv_eq_ediv_of_nonneg (by omega)]; omega
    have e2 := wrap_i64n (n := N / 256) (by omega)
    have e3 : (N : Int).tmod 256 = ((N % 256 : Nat) : Int) := by rw [Int.tmod_eq_emod_of_nonneg (by omega)]; omega
    have e4 := wrap_u8n (N % 256)
    have e5 : UInt8.ofNat (N % 256) = UInt8.ofNat N := by
      apply UInt8.toNat_inj.1
      rw [UInt8.toNat_ofNat', UInt8.toNat_ofNat']; omega
    rw [e5] at e4
    have e6 : IntKind.i64.wrap ((((k + 1 : Nat)) : Int) - 1) = (k : Int) := by
      rw [show (((k + 1 : Nat)) : Int) - 1 = (k : Int) by omega]; exact i64_wrap (by unfold I64; omega)
    have c1 : (0 : Int) ≤ ((N / 256 : Nat) : Int) ∧ ((N / 256 : Nat) : Int) ≤ 9223372036854775807 := by omega
    have e7 : UInt8.ofNat (UInt8.ofNat N).toNat = UInt8.ofNat N := UInt8.ofNat_toNat
    have hl := byN_len k (N / 256)
    have c2 : (byN (N / 256) k).length + 1 ≤ 9223372036854775807 := by omega
    have hq : byN N (k + 1) = byN (N / 256) k ++ [UInt8.ofNat N] := rfl
    generalize hKK : (((k + 1 : Nat)) : Int) = KK at *
    simp (config := { maxSteps := 9000000 }) only [↓vyD, vyU, binS, SV.go1, SV.go0, mkRow, intsOf, boolsOf, strsOf, chunks, Row.rep, Row.cat, Row.sub, Row.put, Row.len, Row.get, Row.size, Row.flat, bnds, own0, own1, labsL, labsR, SV.labs, argsOf, entFr, SO.ev, St.of, keepSt, getAll, lookN, hasN, SV.cells, SV.one, SV.res1, SV.res0, SV.resP, SV.ok1, SV.ok0, SV.okN, SV.solid, SV.solid1, SV.solid0, SV.flat0, SV.nm, SV.nm1, SV.nm0, SV.noPtr1, SV.noPtr0, Cel.isFresh, fillP, setAt, partV, eqCells, cellEq, gamY, listsOk, tupOf, takeOwn, SV.ret1, resAll, resL, resV, Nat.reduceEqDiff, ↓reduceIte, Nat.reduceAdd, Nat.reduceMul, Nat.reduceLeDiff, Nat.reduceLT, reduceCtorEq, labOk, Int.reduceBEq, Int.reduceBNe, Int.reduceToNat, Int.reduceLE, Int.reduceLT, Int.reduceEq, Nat.reduceDiv, Nat.reduceMod, Nat.reduceSub, Nat.reduceBEq, fitR, fitR1, fitR0, fitRL1, fitRL, y36, rbyS, t0, e1, e2, e3, e4, e6, e7, c1, c2, hq, Int.toNat_natCast, ne_eq, not_false_eq_true]
def rbytesS : Say
  | [.int .i64 n, .int .i64 m] => some (0 ≤ n ∧ n ≤ 9223372036854775807 ∧ 0 ≤ m ∧ m ≤ 8, .str (byN n.toNat m.toNat), none)
  | _ => none
theorem rbytes_ok : FOk Tryd.prog 36 rbytesS := by
  intro xs p r own h hp
  unfold rbytesS at h
  split at h
  case h_2 => cases h
  rename_i n m
  simp only [Option.some.injEq, Prod.mk.injEq] at h
  obtain ⟨rfl, rfl, rfl⟩ := h
  obtain ⟨h1, h2, h3, h4⟩ := hp
  exact rby_ok m.toNat (by omega) [.int .i64 n, .int .i64 m] (0 ≤ n ∧ n ≤ 9223372036854775807) _ _ (by simp only [rbyS]; rw [if_pos (by omega)]) ⟨h1, h2⟩
def gV : List (Nat × Say) := [(36, rbytesS), (12, rcrcS)]
theorem gV_ok : GamOk Tryd.prog (gamY gV) := gam_ok (gam_cons rbytes_ok (gam_cons rcrc_ok gam_nil))
def rcodeS : Say
  | [.agg [.str l, .int .i64 a, .int .i64 b]] => some (chkE l a b = 0, .str (codeL l a.toNat b.toNat), none)
  | _ => none
theorem rcode_ok : FOk Tryd.prog 19 rcodeS := by
  intro xs p r own h hp
  unfold rcodeS at h
  split at h
  case h_2 => cases h
  rename_i l a b
  simp only [Option.some.injEq, Prod.mk.injEq] at h
  obtain ⟨rfl, rfl, rfl⟩ := h
  refine fun_ok gV_ok lawy_mixed y19_eq none ?_ (Nat.le_of_ble_eq_true rfl)
  obtain ⟨hid, h1, h2, h3, h4⟩ := chkE_0.1 hp
  have hl := isIdB_len hid
  obtain ⟨A, rfl⟩ := Int.eq_ofNat_of_zero_le h1
  obtain ⟨B, rfl⟩ := Int.eq_ofNat_of_zero_le (show 0 ≤ b by omega)
  simp only [Int.toNat_natCast]
  have b1 : byN l.length 1 = [UInt8.ofNat l.length] := rfl
  have hb : [72] ++ [UInt8.ofNat l.length] ++ l ++ word4 A ++ word4 B = bodyL l A B := by simp [bodyL]
  have hb' : (72 :: UInt8.ofNat l.length :: (l ++ word4 A ++ word4 B)) = bodyL l A B := rfl
  have hc : bodyL l A B ++ word4 (crcN (bodyL l A B)) = codeL l A B := rfl
  have lb := bodyL_len l A B
  have hx := crcN_lt (bodyL l A B)
  have c1 : (0 : Int) ≤ (l.length : Int) ∧ (l.length : Int) ≤ 9223372036854775807 := by omega
  have c2 : (0 : Int) ≤ (A : Int) ∧ (A : Int) ≤ 9223372036854775807 := by omega
  have c3 : (0 : Int) ≤ (B : Int) ∧ (B : Int) ≤ 9223372036854775807 := by omega
  have c4 : (0 : Int) ≤ (crcN (bodyL l A B) : Int) ∧ (crcN (bodyL l A B) : Int) ≤ 9223372036854775807 := by omega
  have c5 : (bodyL l A B).length ≤ 140737488355328 := by omega
  have c6 : 2 + l.length ≤ 9223372036854775807 := by omega
  simp (config := { maxSteps := 9000000 }) only [↓vyD, vyU, binS, SV.go1, SV.go0, mkRow, intsOf, boolsOf, strsOf, chunks, Row.rep, Row.cat, Row.sub, Row.put, Row.len, Row.get, Row.size, Row.flat, bnds, own0, own1, labsL, labsR, SV.labs, argsOf, entFr, SO.ev, St.of, keepSt, getAll, lookN, hasN, SV.cells, SV.one, SV.res1, SV.res0, SV.resP, SV.ok1, SV.ok0, SV.okN, SV.solid, SV.solid1, SV.solid0, SV.flat0, SV.nm, SV.nm1, SV.nm0, SV.noPtr1, SV.noPtr0, Cel.isFresh, fillP, setAt, partV, eqCells, cellEq, gamY, listsOk, tupOf, takeOwn, SV.ret1, resAll, resL, resV, Nat.reduceEqDiff, ↓reduceIte, Nat.reduceAdd, Nat.reduceMul, Nat.reduceLeDiff, Nat.reduceLT, reduceCtorEq, labOk, Int.reduceBEq, Int.reduceBNe, Int.reduceToNat, Int.reduceLE, Int.reduceLT, Int.reduceEq, Nat.reduceDiv, Nat.reduceMod, Nat.reduceSub, Nat.reduceBEq, fitR, fitR1, fitR0, fitRL1, fitRL, y19, gV, rbytesS, rcrcS, Int.toNat_natCast, b1, byN_4, hb', c1, c2, c3, c4, c5, hc, word4_len]
  exact ⟨by omega, by omega, by omega, by omega, by omega⟩
/-- A text of four bytes, read byte by byte. -/
def vN (l : List UInt8) : Nat := l.foldl (fun n b => 256 * n + b.toNat) 0
theorem vN_snoc (l : List UInt8) (b : UInt8) : vN (l ++ [b]) = 256 * vN l + b.toNat := by simp [vN]
theorem vN_take {l : List UInt8} {i : Nat} (h : i < l.length) : vN (l.take (i + 1)) = 256 * vN (l.take i) + (l.getD i 0).toNat := by
  rw [← vN_snoc]
  congr 1
  rw [List.take_succ_eq_append_getElem h]
  simp [List.getD, h]
theorem vN_lt (l : List UInt8) : ∀ i, i ≤ l.length → vN (l.take i) < 256 ^ i
  | 0, _ => by simp [vN]
  | i + 1, h => by
    have ih := vN_lt l i (by omega)
    have hb := u8_lt (l.getD i 0)
    rw [vN_take (by omega), Nat.pow_succ]
    omega
theorem vN_4 (l : List UInt8) (h : l.length = 4) : vN l = valAt l 0 := by
  match l, h with
  | [a, b, c, d], _ =>
    simp only [vN, valAt, List.foldl_cons, List.foldl_nil, List.getD_cons_zero, List.getD_cons_succ]
    omega
def rvalueS : Say
  | [.str l] => some (l.length = 4, .int .i64 (valAt l 0 : Nat), none)
  | _ => none
theorem rvalue_ok : FOk Tryd.prog 37 rvalueS := by
  intro xs p r own h hp
  unfold rvalueS at h
  split at h
  case h_2 => cases h
  rename_i l
  simp only [Option.some.injEq, Prod.mk.injEq] at h
  obtain ⟨rfl, rfl, rfl⟩ := h
  refine fun_ok (gam_ok gam_nil) lawy_mixed y37_eq none ?_ (Nat.le_of_ble_eq_true rfl)
  have h4 := vN_4 l hp
  rw [← h4]
  simp (config := { maxSteps := 9000000 }) only [↓vyD, vyU, binS, SV.go1, SV.go0, mkRow, intsOf, boolsOf, strsOf, chunks, Row.rep, Row.cat, Row.sub, Row.put, Row.len, Row.get, Row.size, Row.flat, bnds, own0, own1, labsL, labsR, SV.labs, argsOf, entFr, SO.ev, St.of, keepSt, getAll, lookN, hasN, SV.cells, SV.one, SV.res1, SV.res0, SV.resP, SV.ok1, SV.ok0, SV.okN, SV.solid, SV.solid1, SV.solid0, SV.flat0, SV.nm, SV.nm1, SV.nm0, SV.noPtr1, SV.noPtr0, Cel.isFresh, fillP, setAt, partV, eqCells, cellEq, gamY, listsOk, tupOf, takeOwn, SV.ret1, resAll, resL, resV, Nat.reduceEqDiff, ↓reduceIte, Nat.reduceAdd, Nat.reduceMul, Nat.reduceLeDiff, Nat.reduceLT, reduceCtorEq, labOk, Int.reduceBEq, Int.reduceBNe, Int.reduceToNat, Int.reduceLE, Int.reduceLT, Int.reduceEq, Nat.reduceDiv, Nat.reduceMod, Nat.reduceSub, Nat.reduceBEq, fitR, fitR1, fitR0, fitRL1, fitRL, y37, hp]
  refine loopG_intro (ι := Nat) (fun i => [(0, .str l), (3, .int .i64 (vN (l.take i) : Nat)), (6, .int .i64 4), (7, .int .i64 i)]) (fun _ => []) (fun i => i ≤ 4) (fun i => 4 - i) ⟨0, by omega, ?_, ?_, ?_⟩ fun i hi => ?_
  · simp (config := { maxSteps := 9000000 }) only [↓vyD, vyU, binS, SV.go1, SV.go0, mkRow, intsOf, boolsOf, strsOf, chunks, Row.rep, Row.cat, Row.sub, Row.put, Row.len, Row.get, Row.size, Row.flat, bnds, own0, own1, labsL, labsR, SV.labs, argsOf, entFr, SO.ev, St.of, keepSt, getAll, lookN, hasN, SV.cells, SV.one, SV.res1, SV.res0, SV.resP, SV.ok1, SV.ok0, SV.okN, SV.solid, SV.solid1, SV.solid0, SV.flat0, SV.nm, SV.nm1, SV.nm0, SV.noPtr1, SV.noPtr0, Cel.isFresh, fillP, setAt, partV, eqCells, cellEq, gamY, listsOk, tupOf, takeOwn, SV.ret1, resAll, resL, resV, Nat.reduceEqDiff, ↓reduceIte, Nat.reduceAdd, Nat.reduceMul, Nat.reduceLeDiff, Nat.reduceLT, reduceCtorEq, labOk, Int.reduceBEq, Int.reduceBNe, Int.reduceToNat, Int.reduceLE, Int.reduceLT, Int.reduceEq, Nat.reduceDiv, Nat.reduceMod, Nat.reduceSub, Nat.reduceBEq, fitR, fitR1, fitR0, fitRL1, fitRL, hp]
  · simp (config := { maxSteps := 9000000 }) only [↓vyD, vyU, binS, SV.go1, SV.go0, mkRow, intsOf, boolsOf, strsOf, chunks, Row.rep, Row.cat, Row.sub, Row.put, Row.len, Row.get, Row.size, Row.flat, bnds, own0, own1, labsL, labsR, SV.labs, argsOf, entFr, SO.ev, St.of, keepSt, getAll, lookN, hasN, SV.cells, SV.one, SV.res1, SV.res0, SV.resP, SV.ok1, SV.ok0, SV.okN, SV.solid, SV.solid1, SV.solid0, SV.flat0, SV.nm, SV.nm1, SV.nm0, SV.noPtr1, SV.noPtr0, Cel.isFresh, fillP, setAt, partV, eqCells, cellEq, gamY, listsOk, tupOf, takeOwn, SV.ret1, resAll, resL, resV, Nat.reduceEqDiff, ↓reduceIte, Nat.reduceAdd, Nat.reduceMul, Nat.reduceLeDiff, Nat.reduceLT, reduceCtorEq, labOk, Int.reduceBEq, Int.reduceBNe, Int.reduceToNat, Int.reduceLE, Int.reduceLT, Int.reduceEq, Nat.reduceDiv, Nat.reduceMod, Nat.reduceSub, Nat.reduceBEq, fitR, fitR1, fitR0, fitRL1, fitRL, hp, vN, List.foldl_nil]
  · simp (config := { maxSteps := 9000000 }) only [↓vyD, vyU, binS, SV.go1, SV.go0, mkRow, intsOf, boolsOf, strsOf, chunks, Row.rep, Row.cat, Row.sub, Row.put, Row.len, Row.get, Row.size, Row.flat, bnds, own0, own1, labsL, labsR, SV.labs, argsOf, entFr, SO.ev, St.of, keepSt, getAll, lookN, hasN, SV.cells, SV.one, SV.res1, SV.res0, SV.resP, SV.ok1, SV.ok0, SV.okN, SV.solid, SV.solid1, SV.solid0, SV.flat0, SV.nm, SV.nm1, SV.nm0, SV.noPtr1, SV.noPtr0, Cel.isFresh, fillP, setAt, partV, eqCells, cellEq, gamY, listsOk, tupOf, takeOwn, SV.ret1, resAll, resL, resV, Nat.reduceEqDiff, ↓reduceIte, Nat.reduceAdd, Nat.reduceMul, Nat.reduceLeDiff, Nat.reduceLT, reduceCtorEq, labOk, Int.reduceBEq, Int.reduceBNe, Int.reduceToNat, Int.reduceLE, Int.reduceLT, Int.reduceEq, Nat.reduceDiv, Nat.reduceMod, Nat.reduceSub, Nat.reduceBEq, fitR, fitR1, fitR0, fitRL1, fitRL, hp]
  · have hv := vN_lt l i (by omega)
    have hv2 : vN (l.take i) < 4294967296 := Nat.lt_of_lt_of_le hv (by
      have := Nat.pow_le_pow_right (n := 256) (by omega) hi
      omega)
    by_cases hlt : (i : Int) < 4
    · have hlt' : i < l.length := by omega
      have hb := u8_lt (l.getD i 0)
      have w1 := i64_wrap (show I64 ((i : Int) + 1) by unfold I64; omega)
      have w2 := wrap_i64n (n := (l.getD i 0).toNat) (by omega)
      have tk := vN_take hlt'
      have c0 : (0 : Int) ≤ (i : Int) := by omega
      have w3 := i64_wrap (show I64 (256 * (vN (l.take i) : Int)) by unfold I64; omega)
      have w4 : IntKind.i64.wrap (256 * (vN (l.take i) : Int) + ((l.getD i 0).toNat : Int)) = ((vN (l.take (i + 1)) : Nat) : Int) := by
        rw [i64_wrap (by unfold I64; omega), tk]; omega
      simp (config := { maxSteps := 9000000 }) only [↓vyD, vyU, binS, SV.go1, SV.go0, mkRow, intsOf, boolsOf, strsOf, chunks, Row.rep, Row.cat, Row.sub, Row.put, Row.len, Row.get, Row.size, Row.flat, bnds, own0, own1, labsL, labsR, SV.labs, argsOf, entFr, SO.ev, St.of, keepSt, getAll, lookN, hasN, SV.cells, SV.one, SV.res1, SV.res0, SV.resP, SV.ok1, SV.ok0, SV.okN, SV.solid, SV.solid1, SV.solid0, SV.flat0, SV.nm, SV.nm1, SV.nm0, SV.noPtr1, SV.noPtr0, Cel.isFresh, fillP, setAt, partV, eqCells, cellEq, gamY, listsOk, tupOf, takeOwn, SV.ret1, resAll, resL, resV, Nat.reduceEqDiff, ↓reduceIte, Nat.reduceAdd, Nat.reduceMul, Nat.reduceLeDiff, Nat.reduceLT, reduceCtorEq, labOk, Int.reduceBEq, Int.reduceBNe, Int.reduceToNat, Int.reduceLE, Int.reduceLT, Int.reduceEq, Nat.reduceDiv, Nat.reduceMod, Nat.reduceSub, Nat.reduceBEq, fitR, fitR1, fitR0, fitRL1, fitRL, hlt, hp, Int.toNat_natCast, w1, w2, w3, w4, c0]
      exact ⟨i + 1, ⟨by omega, by omega⟩, by simp⟩
    · have hiS : i = l.length := by omega
      subst hiS
      simp (config := { maxSteps := 9000000 }) only [↓vyD, vyU, binS, SV.go1, SV.go0, mkRow, intsOf, boolsOf, strsOf, chunks, Row.rep, Row.cat, Row.sub, Row.put, Row.len, Row.get, Row.size, Row.flat, bnds, own0, own1, labsL, labsR, SV.labs, argsOf, entFr, SO.ev, St.of, keepSt, getAll, lookN, hasN, SV.cells, SV.one, SV.res1, SV.res0, SV.resP, SV.ok1, SV.ok0, SV.okN, SV.solid, SV.solid1, SV.solid0, SV.flat0, SV.nm, SV.nm1, SV.nm0, SV.noPtr1, SV.noPtr0, Cel.isFresh, fillP, setAt, partV, eqCells, cellEq, gamY, listsOk, tupOf, takeOwn, SV.ret1, resAll, resL, resV, Nat.reduceEqDiff, ↓reduceIte, Nat.reduceAdd, Nat.reduceMul, Nat.reduceLeDiff, Nat.reduceLT, reduceCtorEq, labOk, Int.reduceBEq, Int.reduceBNe, Int.reduceToNat, Int.reduceLE, Int.reduceLT, Int.reduceEq, Nat.reduceDiv, Nat.reduceMod, Nat.reduceSub, Nat.reduceBEq, fitR, fitR1, fitR0, fitRL1, fitRL, hlt, List.take_length]
theorem valAt_drop (l : List UInt8) (i : Nat) : valAt (l.drop i) 0 = valAt l i := by
  simp only [valAt, List.getD, List.getElem?_drop, Nat.add_zero, Nat.zero_add]
theorem valAt_take (l : List UInt8) (m i : Nat) (h : i + 4 ≤ m) : valAt (l.take m) i = valAt l i := by
  simp only [valAt, List.getD, List.getElem?_take, if_pos (show i < m by omega), if_pos (show i + 1 < m by omega), if_pos (show i + 2 < m by omega), if_pos (show i + 3 < m by omega)]
def gU : List (Nat × Say) := [(12, rcrcS), (37, rvalueS), (15, rbeatS), (19, rcodeS)]
theorem gU_ok : GamOk Tryd.prog (gamY gU) := gam_ok (gam_cons rcrc_ok (gam_cons rvalue_ok (gam_cons rbeat_ok (gam_cons rcode_ok gam_nil))))
theorem rdec_in (s B E I : List UInt8) (N K D9 : Int) (A C : List UInt8) (a c : Nat) (rI : List UInt8) (rA rC : Int) (hp : s.length ≤ 140737488355328) (q0 : ((((s.getD 0 0).toNat : Nat) : Int) != 72) = false) (q1 : ((((s.getD 1 0).toNat : Nat) : Int) == 0) = false) (q2 : ¬ (8 : Int) < (((s.getD 1 0).toNat : Nat) : Int))
    (w0 : IntKind.i64.wrap (((s.getD 1 0).toNat : Nat) : Int) = (((s.getD 1 0).toNat : Nat) : Int)) (hN : (s.length : Int) = N) (n1 : 15 ≤ N ∧ N ≤ 22) (hK : 2 + (((s.getD 1 0).toNat : Nat) : Int) = K) (k1 : K + 12 = N)
    (hB : s.take (K + 8).toNat = B) (hE : s.drop (K + 8).toNat = E) (hI : (s.take K.toNat).drop 2 = I) (hA : (s.take (K + 4).toNat).drop K.toNat = A) (hC : (s.take (K + 8).toNat).drop (K + 4).toNat = C) (cB : B.length ≤ 140737488355328) (cE : E.length = 4) (cA : A.length = 4) (cC : C.length = 4) (cI : I.length ≤ 140737488355328)
    (hvA : valAt A 0 = a) (hvC : valAt C 0 = c) (hres : (crcN B ≠ valAt E 0 ∧ D9 = 9 ∧ rI = [] ∧ rA = 0 ∧ rC = 0) ∨ (crcN B = valAt E 0 ∧ chkE I a c ≠ 0 ∧ D9 = 3 ∧ rI = [] ∧ rA = 0 ∧ rC = 0) ∨ (crcN B = valAt E 0 ∧ chkE I a c = 0 ∧ codeL I a c = s ∧ D9 = 0 ∧ rI = I ∧ rA = a ∧ rC = c)) :
    vcFun (gamY gU) y20 [.str s] none fun v o => fitR v (.tup [.agg [.str rI, .int .i64 rA, .int .i64 rC], .int .i64 D9]) ∧ o = none := by
  rw [hB] at hC
  have t1 : ¬ N < 2 := by omega
  have t2 : (0 : Int) < N := by omega
  have t3 : (1 : Int) < N := by omega
  have wK : IntKind.i64.wrap K = K := i64_wrap (by unfold I64; omega)
  have wK12 : IntKind.i64.wrap (K + 12) = N := by rw [k1]; exact i64_wrap (by unfold I64; omega)
  have wK8 : IntKind.i64.wrap (K + 8) = K + 8 := i64_wrap (by unfold I64; omega)
  have wK4 : IntKind.i64.wrap (K + 4) = K + 4 := i64_wrap (by unfold I64; omega)
  have b1 : (0 : Int) ≤ K + 8 ∧ K + 8 ≤ N := by omega
  have b2 : (2 : Int) ≤ K ∧ K ≤ N := by omega
  have b3 : (0 : Int) ≤ K ∧ K ≤ K + 4 ∧ K + 4 ≤ N := by omega
  have b4 : (0 : Int) ≤ K + 4 ∧ K + 4 ≤ K + 8 := by omega
  have hts : s.take N.toNat = s := by rw [← hN, Int.toNat_natCast, List.take_length]
  rcases hres with ⟨h1, rfl, rfl, rfl, rfl⟩ | ⟨h1, h2, rfl, rfl, rfl, rfl⟩ | ⟨h1, h2, h3, rfl, rfl, rfl, rfl⟩
  · have e1 : ((crcN B : Int) != (valAt E 0 : Int)) = true := by simpa [Int.natCast_inj] using h1
    simp (config := { maxSteps := 9000000 }) only [↓vyD, vyU, binS, SV.go1, SV.go0, mkRow, intsOf, boolsOf, strsOf, chunks, Row.rep, Row.cat, Row.sub, Row.put, Row.len, Row.get, Row.size, Row.flat, bnds, own0, own1, labsL, labsR, SV.labs, argsOf, entFr, SO.ev, St.of, keepSt, getAll, lookN, hasN, SV.cells, SV.one, SV.res1, SV.res0, SV.resP, SV.ok1, SV.ok0, SV.okN, SV.solid, SV.solid1, SV.solid0, SV.flat0, SV.nm, SV.nm1, SV.nm0, SV.noPtr1, SV.noPtr0, Cel.isFresh, fillP, setAt, partV, eqCells, cellEq, gamY, listsOk, tupOf, takeOwn, SV.ret1, resAll, resL, resV, Nat.reduceEqDiff, ↓reduceIte, Nat.reduceAdd, Nat.reduceMul, Nat.reduceLeDiff, Nat.reduceLT, reduceCtorEq, labOk, Int.reduceBEq, Int.reduceBNe, Int.reduceToNat, Int.reduceLE, Int.reduceLT, Int.reduceEq, Nat.reduceDiv, Nat.reduceMod, Nat.reduceSub, Nat.reduceBEq, fitR, fitR1, fitR0, fitRL1, fitRL, y20, gU, rcrcS, rvalueS, rbeatS, rcodeS, hN, t1, t2, t3, q0, q1, q2, w0, hK, wK, wK12, wK8, wK4, b1, b2, b3, b4, hB, hts, hE, cB, cE, e1, Int.le_refl]
  · have e1 : ((crcN B : Int) != (valAt E 0 : Int)) = false := by rw [h1]; simp
    have e2 : (chkE I (a : Int) (c : Int) != 0) = true := by simpa using h2
    simp (config := { maxSteps := 9000000 }) only [↓vyD, vyU, binS, SV.go1, SV.go0, mkRow, intsOf, boolsOf, strsOf, chunks, Row.rep, Row.cat, Row.sub, Row.put, Row.len, Row.get, Row.size, Row.flat, bnds, own0, own1, labsL, labsR, SV.labs, argsOf, entFr, SO.ev, St.of, keepSt, getAll, lookN, hasN, SV.cells, SV.one, SV.res1, SV.res0, SV.resP, SV.ok1, SV.ok0, SV.okN, SV.solid, SV.solid1, SV.solid0, SV.flat0, SV.nm, SV.nm1, SV.nm0, SV.noPtr1, SV.noPtr0, Cel.isFresh, fillP, setAt, partV, eqCells, cellEq, gamY, listsOk, tupOf, takeOwn, SV.ret1, resAll, resL, resV, Nat.reduceEqDiff, ↓reduceIte, Nat.reduceAdd, Nat.reduceMul, Nat.reduceLeDiff, Nat.reduceLT, reduceCtorEq, labOk, Int.reduceBEq, Int.reduceBNe, Int.reduceToNat, Int.reduceLE, Int.reduceLT, Int.reduceEq, Nat.reduceDiv, Nat.reduceMod, Nat.reduceSub, Nat.reduceBEq, fitR, fitR1, fitR0, fitRL1, fitRL, y20, gU, rcrcS, rvalueS, rbeatS, rcodeS, hN, t1, t2, t3, q0, q1, q2, w0, hK, wK, wK12, wK8, wK4, b1, b2, b3, b4, hC, hB, hts, hE, hI, hA, cB, cE, cA, cC, cI, hvA, hvC, e1, e2, Int.le_refl]
  · have e1 : ((crcN B : Int) != (valAt E 0 : Int)) = false := by rw [h1]; simp
    simp (config := { maxSteps := 9000000 }) only [↓vyD, vyU, binS, SV.go1, SV.go0, mkRow, intsOf, boolsOf, strsOf, chunks, Row.rep, Row.cat, Row.sub, Row.put, Row.len, Row.get, Row.size, Row.flat, bnds, own0, own1, labsL, labsR, SV.labs, argsOf, entFr, SO.ev, St.of, keepSt, getAll, lookN, hasN, SV.cells, SV.one, SV.res1, SV.res0, SV.resP, SV.ok1, SV.ok0, SV.okN, SV.solid, SV.solid1, SV.solid0, SV.flat0, SV.nm, SV.nm1, SV.nm0, SV.noPtr1, SV.noPtr0, Cel.isFresh, fillP, setAt, partV, eqCells, cellEq, gamY, listsOk, tupOf, takeOwn, SV.ret1, resAll, resL, resV, Nat.reduceEqDiff, ↓reduceIte, Nat.reduceAdd, Nat.reduceMul, Nat.reduceLeDiff, Nat.reduceLT, reduceCtorEq, labOk, Int.reduceBEq, Int.reduceBNe, Int.reduceToNat, Int.reduceLE, Int.reduceLT, Int.reduceEq, Nat.reduceDiv, Nat.reduceMod, Nat.reduceSub, Nat.reduceBEq, fitR, fitR1, fitR0, fitRL1, fitRL, y20, gU, rcrcS, rvalueS, rbeatS, rcodeS, hN, t1, t2, t3, q0, q1, q2, w0, hK, wK, wK12, wK8, wK4, b1, b2, b3, b4, hC, hB, hts, hE, hI, hA, cB, cE, cA, cC, cI, hvA, hvC, e1, h2, h3, Int.toNat_natCast, Int.le_refl]
def rdecS : Say
  | [.str s] => some (s.length ≤ 140737488355328, .tup [.agg [.str (dId s), .int .i64 (dInc s), .int .i64 (dSeq s)], .int .i64 (decE s)], none)
  | _ => none
theorem rdec_ok : FOk Tryd.prog 20 rdecS := by
  intro xs p r own h hp
  unfold rdecS at h
  split at h
  case h_2 => cases h
  rename_i s
  simp only [Option.some.injEq, Prod.mk.injEq] at h
  obtain ⟨rfl, rfl, rfl⟩ := h
  refine fun_ok gU_ok lawy_mixed y20_eq none ?_ (Nat.le_of_ble_eq_true rfl)
  have b0 := u8_lt (s.getD 0 0)
  have b1 := u8_lt (s.getD 1 0)
  have h72 : s.getD 0 0 = 72 ↔ (s.getD 0 0).toNat = 72 := by rw [← UInt8.toNat_inj]; rfl
  by_cases hfr : frE s = 0
  · obtain ⟨l1, l2, l3, l4, l5⟩ := frE_0.1 hfr
    have hlen : 15 ≤ s.length ∧ s.length ≤ 22 := by omega
    have hk : (2 + (((s.getD 1 0).toNat : Nat) : Int)).toNat = s.length - 12 := by omega
    have hk8 : (2 + (((s.getD 1 0).toNat : Nat) : Int) + 8).toNat = s.length - 4 := by omega
    have hk4 : (2 + (((s.getD 1 0).toNat : Nat) : Int) + 4).toNat = s.length - 8 := by omega
    have eI : (s.take (s.length - 12)).drop 2 = idD s := by unfold idD bodyD; rw [List.take_take, Nat.min_eq_left (by omega)]
    have eA : valAt ((s.take (s.length - 8)).drop (s.length - 12)) 0 = incD s := by rw [valAt_drop, valAt_take _ _ _ (by omega)]; unfold incD bodyD; rw [valAt_take _ _ _ (by omega)]
    have eC : valAt ((s.take (s.length - 4)).drop (s.length - 8)) 0 = seqD s := by rw [valAt_drop]; rfl
    refine rdec_in s (bodyD s) (endD s) (idD s) _ (2 + (((s.getD 1 0).toNat : Nat) : Int)) (decE s) ((s.take (s.length - 8)).drop (s.length - 12)) ((s.take (s.length - 4)).drop (s.length - 8)) (incD s) (seqD s) (dId s) (dInc s) (dSeq s) hp (by rw [h72.1 l2]; rfl) (by rw [beq_eq_false_iff_ne]; omega) (by omega) (i64_wrap (by unfold I64; omega)) rfl (by omega) rfl (by omega)
      (by rw [hk8]; rfl) (by rw [hk8]; rfl) (by rw [hk]; exact eI) (by rw [hk4, hk]) (by rw [hk8, hk4]) (by simp [bodyD]; omega) (by simp [endD]; omega) (by rw [List.length_drop, List.length_take]; omega) (by rw [List.length_drop, List.length_take]; omega) (by simp [idD, bodyD]; omega) eA eC ?_
    by_cases hsum : crcN (bodyD s) = valAt (endD s) 0
    · by_cases hck : chkE (idD s) (incD s) (seqD s) = 0
      · have hE : decE s = 0 := decE_0.2 ⟨hfr, hsum, hck⟩
        exact .inr (.inr ⟨hsum, hck, code_dec hE, hE, if_pos hE, if_pos hE, if_pos hE⟩)
      · have hE : decE s = 3 := by rw [decE, if_pos hfr, if_pos hsum, if_neg hck]
        have hne : ¬ decE s = 0 := by rw [hE]; decide
        exact .inr (.inl ⟨hsum, hck, hE, if_neg hne, if_neg hne, if_neg hne⟩)
    · have hE : decE s = 9 := by rw [decE, if_pos hfr, if_neg hsum]
      have hne : ¬ decE s = 0 := by rw [hE]; decide
      exact .inl ⟨hsum, hE, if_neg hne, if_neg hne, if_neg hne⟩
  · have hE : decE s = frE s := if_neg hfr
    have hne : ¬ decE s = 0 := by rw [hE]; exact hfr
    have r1 : dId s = [] := if_neg hne
    have r2 : dInc s = 0 := if_neg hne
    have r3 : dSeq s = 0 := if_neg hne
    rw [hE]
    by_cases h2 : s.length < 2
    · have hF : frE s = 8 := if_pos h2
      have t1 : (s.length : Int) < 2 := by omega
      simp (config := { maxSteps := 9000000 }) only [↓vyD, vyU, binS, SV.go1, SV.go0, mkRow, intsOf, boolsOf, strsOf, chunks, Row.rep, Row.cat, Row.sub, Row.put, Row.len, Row.get, Row.size, Row.flat, bnds, own0, own1, labsL, labsR, SV.labs, argsOf, entFr, SO.ev, St.of, keepSt, getAll, lookN, hasN, SV.cells, SV.one, SV.res1, SV.res0, SV.resP, SV.ok1, SV.ok0, SV.okN, SV.solid, SV.solid1, SV.solid0, SV.flat0, SV.nm, SV.nm1, SV.nm0, SV.noPtr1, SV.noPtr0, Cel.isFresh, fillP, setAt, partV, eqCells, cellEq, gamY, listsOk, tupOf, takeOwn, SV.ret1, resAll, resL, resV, Nat.reduceEqDiff, ↓reduceIte, Nat.reduceAdd, Nat.reduceMul, Nat.reduceLeDiff, Nat.reduceLT, reduceCtorEq, labOk, Int.reduceBEq, Int.reduceBNe, Int.reduceToNat, Int.reduceLE, Int.reduceLT, Int.reduceEq, Nat.reduceDiv, Nat.reduceMod, Nat.reduceSub, Nat.reduceBEq, fitR, fitR1, fitR0, fitRL1, fitRL, y20, t1, hF, r1, r2, r3]
    · have t1 : ¬ (s.length : Int) < 2 := by omega
      have c0 : (0 : Int) < (s.length : Int) := by omega
      have c1 : (1 : Int) < (s.length : Int) := by omega
      have hfr' : frE s = if (s.getD 0 0).toNat = 72 ∧ 1 ≤ (s.getD 1 0).toNat ∧ (s.getD 1 0).toNat ≤ 8 then (if s.length < 14 + (s.getD 1 0).toNat then 8 else if 14 + (s.getD 1 0).toNat < s.length then 3 else 0) else 3 := by
        unfold frE
        rw [if_neg h2]
        simp only [h72]
      clear h72
      generalize hA : (s.getD 0 0).toNat = A at *
      generalize hB : (s.getD 1 0).toNat = B at *
      have v1 := wrap_i64n (n := B) (by omega)
      have w1 := i64_wrap (show I64 (2 + (B : Int)) by unfold I64; omega)
      have w2 := i64_wrap (show I64 (2 + (B : Int) + 12) by unfold I64; omega)
      by_cases q : A = 72
      · have q0 : ((A : Int) != 72) = false := by simp; omega
        by_cases qb : B = 0
        · have q1 : ((B : Int) == 0) = true := by simp; omega
          have hF : frE s = 3 := by rw [hfr', if_neg (by omega)]
          simp (config := { maxSteps := 9000000 }) only [↓vyD, vyU, binS, SV.go1, SV.go0, mkRow, intsOf, boolsOf, strsOf, chunks, Row.rep, Row.cat, Row.sub, Row.put, Row.len, Row.get, Row.size, Row.flat, bnds, own0, own1, labsL, labsR, SV.labs, argsOf, entFr, SO.ev, St.of, keepSt, getAll, lookN, hasN, SV.cells, SV.one, SV.res1, SV.res0, SV.resP, SV.ok1, SV.ok0, SV.okN, SV.solid, SV.solid1, SV.solid0, SV.flat0, SV.nm, SV.nm1, SV.nm0, SV.noPtr1, SV.noPtr0, Cel.isFresh, fillP, setAt, partV, eqCells, cellEq, gamY, listsOk, tupOf, takeOwn, SV.ret1, resAll, resL, resV, Nat.reduceEqDiff, ↓reduceIte, Nat.reduceAdd, Nat.reduceMul, Nat.reduceLeDiff, Nat.reduceLT, reduceCtorEq, labOk, Int.reduceBEq, Int.reduceBNe, Int.reduceToNat, Int.reduceLE, Int.reduceLT, Int.reduceEq, Nat.reduceDiv, Nat.reduceMod, Nat.reduceSub, Nat.reduceBEq, fitR, fitR1, fitR0, fitRL1, fitRL, y20, t1, c0, c1, hA, hB, q0, q1, hF, r1, r2, r3]
        · have q1 : ((B : Int) == 0) = false := by simp; omega
          by_cases q8 : (8 : Int) < (B : Int)
          · have hF : frE s = 3 := by rw [hfr', if_neg (by omega)]
            simp (config := { maxSteps := 9000000 }) only [↓vyD, vyU, binS, SV.go1, SV.go0, mkRow, intsOf, boolsOf, strsOf, chunks, Row.rep, Row.cat, Row.sub, Row.put, Row.len, Row.get, Row.size, Row.flat, bnds, own0, own1, labsL, labsR, SV.labs, argsOf, entFr, SO.ev, St.of, keepSt, getAll, lookN, hasN, SV.cells, SV.one, SV.res1, SV.res0, SV.resP, SV.ok1, SV.ok0, SV.okN, SV.solid, SV.solid1, SV.solid0, SV.flat0, SV.nm, SV.nm1, SV.nm0, SV.noPtr1, SV.noPtr0, Cel.isFresh, fillP, setAt, partV, eqCells, cellEq, gamY, listsOk, tupOf, takeOwn, SV.ret1, resAll, resL, resV, Nat.reduceEqDiff, ↓reduceIte, Nat.reduceAdd, Nat.reduceMul, Nat.reduceLeDiff, Nat.reduceLT, reduceCtorEq, labOk, Int.reduceBEq, Int.reduceBNe, Int.reduceToNat, Int.reduceLE, Int.reduceLT, Int.reduceEq, Nat.reduceDiv, Nat.reduceMod, Nat.reduceSub, Nat.reduceBEq, fitR, fitR1, fitR0, fitRL1, fitRL, y20, t1, c0, c1, hA, hB, q0, q1, q8, hF, r1, r2, r3]
          · rw [if_pos (by omega)] at hfr'
            by_cases h3 : s.length < 14 + B
            · have hF : frE s = 8 := by rw [hfr', if_pos h3]
              have n1 : ((s.length : Int) != 2 + (B : Int) + 12) = true := by simp; omega
              have t2 : (s.length : Int) < 2 + (B : Int) + 12 := by omega
              simp (config := { maxSteps := 9000000 }) only [↓vyD, vyU, binS, SV.go1, SV.go0, mkRow, intsOf, boolsOf, strsOf, chunks, Row.rep, Row.cat, Row.sub, Row.put, Row.len, Row.get, Row.size, Row.flat, bnds, own0, own1, labsL, labsR, SV.labs, argsOf, entFr, SO.ev, St.of, keepSt, getAll, lookN, hasN, SV.cells, SV.one, SV.res1, SV.res0, SV.resP, SV.ok1, SV.ok0, SV.okN, SV.solid, SV.solid1, SV.solid0, SV.flat0, SV.nm, SV.nm1, SV.nm0, SV.noPtr1, SV.noPtr0, Cel.isFresh, fillP, setAt, partV, eqCells, cellEq, gamY, listsOk, tupOf, takeOwn, SV.ret1, resAll, resL, resV, Nat.reduceEqDiff, ↓reduceIte, Nat.reduceAdd, Nat.reduceMul, Nat.reduceLeDiff, Nat.reduceLT, reduceCtorEq, labOk, Int.reduceBEq, Int.reduceBNe, Int.reduceToNat, Int.reduceLE, Int.reduceLT, Int.reduceEq, Nat.reduceDiv, Nat.reduceMod, Nat.reduceSub, Nat.reduceBEq, fitR, fitR1, fitR0, fitRL1, fitRL, y20, t1, c0, c1, hA, hB, q0, q1, q8, v1, w1, w2, n1, t2, hF, r1, r2, r3]
            · by_cases h4 : 14 + B < s.length
              · have hF : frE s = 3 := by rw [hfr', if_neg h3, if_pos h4]
                have n1 : ((s.length : Int) != 2 + (B : Int) + 12) = true := by simp; omega
                have t2 : ¬ (s.length : Int) < 2 + (B : Int) + 12 := by omega
                simp (config := { maxSteps := 9000000 }) only [↓vyD, vyU, binS, SV.go1, SV.go0, mkRow, intsOf, boolsOf, strsOf, chunks, Row.rep, Row.cat, Row.sub, Row.put, Row.len, Row.get, Row.size, Row.flat, bnds, own0, own1, labsL, labsR, SV.labs, argsOf, entFr, SO.ev, St.of, keepSt, getAll, lookN, hasN, SV.cells, SV.one, SV.res1, SV.res0, SV.resP, SV.ok1, SV.ok0, SV.okN, SV.solid, SV.solid1, SV.solid0, SV.flat0, SV.nm, SV.nm1, SV.nm0, SV.noPtr1, SV.noPtr0, Cel.isFresh, fillP, setAt, partV, eqCells, cellEq, gamY, listsOk, tupOf, takeOwn, SV.ret1, resAll, resL, resV, Nat.reduceEqDiff, ↓reduceIte, Nat.reduceAdd, Nat.reduceMul, Nat.reduceLeDiff, Nat.reduceLT, reduceCtorEq, labOk, Int.reduceBEq, Int.reduceBNe, Int.reduceToNat, Int.reduceLE, Int.reduceLT, Int.reduceEq, Nat.reduceDiv, Nat.reduceMod, Nat.reduceSub, Nat.reduceBEq, fitR, fitR1, fitR0, fitRL1, fitRL, y20, t1, c0, c1, hA, hB, q0, q1, q8, v1, w1, w2, n1, t2, hF, r1, r2, r3]
              · exact absurd (by rw [hfr', if_neg h3, if_neg h4]) hfr
      · have q0 : ((A : Int) != 72) = true := by simp; omega
        have hF : frE s = 3 := by rw [hfr', if_neg (by omega)]
        simp (config := { maxSteps := 9000000 }) only [↓vyD, vyU, binS, SV.go1, SV.go0, mkRow, intsOf, boolsOf, strsOf, chunks, Row.rep, Row.cat, Row.sub, Row.put, Row.len, Row.get, Row.size, Row.flat, bnds, own0, own1, labsL, labsR, SV.labs, argsOf, entFr, SO.ev, St.of, keepSt, getAll, lookN, hasN, SV.cells, SV.one, SV.res1, SV.res0, SV.resP, SV.ok1, SV.ok0, SV.okN, SV.solid, SV.solid1, SV.solid0, SV.flat0, SV.nm, SV.nm1, SV.nm0, SV.noPtr1, SV.noPtr0, Cel.isFresh, fillP, setAt, partV, eqCells, cellEq, gamY, listsOk, tupOf, takeOwn, SV.ret1, resAll, resL, resV, Nat.reduceEqDiff, ↓reduceIte, Nat.reduceAdd, Nat.reduceMul, Nat.reduceLeDiff, Nat.reduceLT, reduceCtorEq, labOk, Int.reduceBEq, Int.reduceBNe, Int.reduceToNat, Int.reduceLE, Int.reduceLT, Int.reduceEq, Nat.reduceDiv, Nat.reduceMod, Nat.reduceSub, Nat.reduceBEq, fitR, fitR1, fitR0, fitRL1, fitRL, y20, t1, c0, c1, hA, hB, q0, hF, r1, r2, r3]
end Go.Proofs.YtmacgmngbmaadaaDoor
