/- What the document's answers for names and for heartbeats' fields do (hwref). -/
import Derived.Test.YtgklfolmlcfjgaaYD6
import Derived.Test.YtgklfolmlcfjgaaCQ6
import Derived.Test.YtgklfolmlcfjgaaCWi
namespace Go.Proofs.Ytgklfolmlcfjgaa
open Go.ChangeShapes Go.WideShapes Go.ChangeAt Go.RowKit Go.Joins Y
set_option linter.unusedSimpArgs false
set_option linter.unusedVariables false
set_option maxRecDepth 100000
set_option maxHeartbeats 40000000
def rwithS : Say
  | [.int .i64 x, .int .i64 a, .int .i64 b] => some (True, .bool (decide (a ≤ x ∧ x ≤ b)), none)
  | _ => none
theorem rwith_ok : FOk Try.prog 52 rwithS := by
  intro xs p r own h hp
  unfold rwithS at h
  split at h
  case h_2 => cases h
  rename_i x a b
  simp only [Option.some.injEq, Prod.mk.injEq] at h
  obtain ⟨rfl, rfl, rfl⟩ := h
  refine fun_ok (gam_ok gam_nil) lawy_mixed y52_eq none ?_ (Nat.le_of_ble_eq_true rfl)
  by_cases h1 : a ≤ x
  · by_cases h2 : x ≤ b
    · simp (config := { maxSteps := 9000000 }) only [↓vyD, vyU, binS, SV.go1, SV.go0, mkRow, intsOf, boolsOf, strsOf, chunks, Row.rep, Row.cat, Row.sub, Row.put, Row.len, Row.get, Row.size, Row.flat, bnds, own0, own1, labsL, labsR, SV.labs, argsOf, entFr, SO.ev, St.of, keepSt, getAll, lookN, hasN, SV.cells, SV.one, SV.res1, SV.res0, SV.resP, SV.ok1, SV.ok0, SV.okN, SV.solid, SV.solid1, SV.solid0, SV.flat0, SV.nm, SV.nm1, SV.nm0, SV.noPtr1, SV.noPtr0, Cel.isFresh, fillP, setAt, partV, eqCells, cellEq, gamY, listsOk, tupOf, takeOwn, SV.ret1, resAll, resL, resV, Nat.reduceEqDiff, ↓reduceIte, Nat.reduceAdd, Nat.reduceMul, Nat.reduceLeDiff, Nat.reduceLT, reduceCtorEq, labOk, Int.reduceBEq, Int.reduceBNe, Int.reduceToNat, Int.reduceLE, Int.reduceLT, Int.reduceEq, Nat.reduceDiv, Nat.reduceMod, Nat.reduceSub, Nat.reduceBEq, fitR, fitR1, fitR0, fitRL1, fitRL, y52, h1, h2]
    · simp (config := { maxSteps := 9000000 }) only [↓vyD, vyU, binS, SV.go1, SV.go0, mkRow, intsOf, boolsOf, strsOf, chunks, Row.rep, Row.cat, Row.sub, Row.put, Row.len, Row.get, Row.size, Row.flat, bnds, own0, own1, labsL, labsR, SV.labs, argsOf, entFr, SO.ev, St.of, keepSt, getAll, lookN, hasN, SV.cells, SV.one, SV.res1, SV.res0, SV.resP, SV.ok1, SV.ok0, SV.okN, SV.solid, SV.solid1, SV.solid0, SV.flat0, SV.nm, SV.nm1, SV.nm0, SV.noPtr1, SV.noPtr0, Cel.isFresh, fillP, setAt, partV, eqCells, cellEq, gamY, listsOk, tupOf, takeOwn, SV.ret1, resAll, resL, resV, Nat.reduceEqDiff, ↓reduceIte, Nat.reduceAdd, Nat.reduceMul, Nat.reduceLeDiff, Nat.reduceLT, reduceCtorEq, labOk, Int.reduceBEq, Int.reduceBNe, Int.reduceToNat, Int.reduceLE, Int.reduceLT, Int.reduceEq, Nat.reduceDiv, Nat.reduceMod, Nat.reduceSub, Nat.reduceBEq, fitR, fitR1, fitR0, fitRL1, fitRL, y52, h1, h2, and_false]
  · simp (config := { maxSteps := 9000000 }) only [↓vyD, vyU, binS, SV.go1, SV.go0, mkRow, intsOf, boolsOf, strsOf, chunks, Row.rep, Row.cat, Row.sub, Row.put, Row.len, Row.get, Row.size, Row.flat, bnds, own0, own1, labsL, labsR, SV.labs, argsOf, entFr, SO.ev, St.of, keepSt, getAll, lookN, hasN, SV.cells, SV.one, SV.res1, SV.res0, SV.resP, SV.ok1, SV.ok0, SV.okN, SV.solid, SV.solid1, SV.solid0, SV.flat0, SV.nm, SV.nm1, SV.nm0, SV.noPtr1, SV.noPtr0, Cel.isFresh, fillP, setAt, partV, eqCells, cellEq, gamY, listsOk, tupOf, takeOwn, SV.ret1, resAll, resL, resV, Nat.reduceEqDiff, ↓reduceIte, Nat.reduceAdd, Nat.reduceMul, Nat.reduceLeDiff, Nat.reduceLT, reduceCtorEq, labOk, Int.reduceBEq, Int.reduceBNe, Int.reduceToNat, Int.reduceLE, Int.reduceLT, Int.reduceEq, Nat.reduceDiv, Nat.reduceMod, Nat.reduceSub, Nat.reduceBEq, fitR, fitR1, fitR0, fitRL1, fitRL, y52, h1, false_and]
def badI (c : Int) : Bool := decide (c < 97 ∨ 122 < c)
def idfS : Say
  | [.int .u8 c] => some (True, .bool (badI c), none)
  | _ => none
theorem idf_ok : FOk Try.prog 85 idfS := by
  intro xs p r own h hp
  unfold idfS at h
  split at h
  case h_2 => cases h
  rename_i c
  simp only [Option.some.injEq, Prod.mk.injEq] at h
  obtain ⟨rfl, rfl, rfl⟩ := h
  refine fun_ok (gam_ok gam_nil) lawy_mixed y85_eq none ?_ (Nat.le_of_ble_eq_true rfl)
  unfold badI
  by_cases h1 : c < 97
  · simp (config := { maxSteps := 9000000 }) only [↓vyD, vyU, binS, SV.go1, SV.go0, mkRow, intsOf, boolsOf, strsOf, chunks, Row.rep, Row.cat, Row.sub, Row.put, Row.len, Row.get, Row.size, Row.flat, bnds, own0, own1, labsL, labsR, SV.labs, argsOf, entFr, SO.ev, St.of, keepSt, getAll, lookN, hasN, SV.cells, SV.one, SV.res1, SV.res0, SV.resP, SV.ok1, SV.ok0, SV.okN, SV.solid, SV.solid1, SV.solid0, SV.flat0, SV.nm, SV.nm1, SV.nm0, SV.noPtr1, SV.noPtr0, Cel.isFresh, fillP, setAt, partV, eqCells, cellEq, gamY, listsOk, tupOf, takeOwn, SV.ret1, resAll, resL, resV, Nat.reduceEqDiff, ↓reduceIte, Nat.reduceAdd, Nat.reduceMul, Nat.reduceLeDiff, Nat.reduceLT, reduceCtorEq, labOk, Int.reduceBEq, Int.reduceBNe, Int.reduceToNat, Int.reduceLE, Int.reduceLT, Int.reduceEq, Nat.reduceDiv, Nat.reduceMod, Nat.reduceSub, Nat.reduceBEq, fitR, fitR1, fitR0, fitRL1, fitRL, y85, h1, true_or]
  · by_cases h2 : 122 < c
    · simp (config := { maxSteps := 9000000 }) only [↓vyD, vyU, binS, SV.go1, SV.go0, mkRow, intsOf, boolsOf, strsOf, chunks, Row.rep, Row.cat, Row.sub, Row.put, Row.len, Row.get, Row.size, Row.flat, bnds, own0, own1, labsL, labsR, SV.labs, argsOf, entFr, SO.ev, St.of, keepSt, getAll, lookN, hasN, SV.cells, SV.one, SV.res1, SV.res0, SV.resP, SV.ok1, SV.ok0, SV.okN, SV.solid, SV.solid1, SV.solid0, SV.flat0, SV.nm, SV.nm1, SV.nm0, SV.noPtr1, SV.noPtr0, Cel.isFresh, fillP, setAt, partV, eqCells, cellEq, gamY, listsOk, tupOf, takeOwn, SV.ret1, resAll, resL, resV, Nat.reduceEqDiff, ↓reduceIte, Nat.reduceAdd, Nat.reduceMul, Nat.reduceLeDiff, Nat.reduceLT, reduceCtorEq, labOk, Int.reduceBEq, Int.reduceBNe, Int.reduceToNat, Int.reduceLE, Int.reduceLT, Int.reduceEq, Nat.reduceDiv, Nat.reduceMod, Nat.reduceSub, Nat.reduceBEq, fitR, fitR1, fitR0, fitRL1, fitRL, y85, h1, h2, or_true]
    · simp (config := { maxSteps := 9000000 }) only [↓vyD, vyU, binS, SV.go1, SV.go0, mkRow, intsOf, boolsOf, strsOf, chunks, Row.rep, Row.cat, Row.sub, Row.put, Row.len, Row.get, Row.size, Row.flat, bnds, own0, own1, labsL, labsR, SV.labs, argsOf, entFr, SO.ev, St.of, keepSt, getAll, lookN, hasN, SV.cells, SV.one, SV.res1, SV.res0, SV.resP, SV.ok1, SV.ok0, SV.okN, SV.solid, SV.solid1, SV.solid0, SV.flat0, SV.nm, SV.nm1, SV.nm0, SV.noPtr1, SV.noPtr0, Cel.isFresh, fillP, setAt, partV, eqCells, cellEq, gamY, listsOk, tupOf, takeOwn, SV.ret1, resAll, resL, resV, Nat.reduceEqDiff, ↓reduceIte, Nat.reduceAdd, Nat.reduceMul, Nat.reduceLeDiff, Nat.reduceLT, reduceCtorEq, labOk, Int.reduceBEq, Int.reduceBNe, Int.reduceToNat, Int.reduceLE, Int.reduceLT, Int.reduceEq, Nat.reduceDiv, Nat.reduceMod, Nat.reduceSub, Nat.reduceBEq, fitR, fitR1, fitR0, fitRL1, fitRL, y85, h1, h2, or_self]
def ixF : List Int → Nat → Int
  | [], _ => -1
  | c :: l, k => if badI c = true then (k : Int) else ixF l (k + 1)
theorem ixF_at : ∀ (l : List Int) (k i : Nat), i < l.length → (∀ j, j < i → badI (l.getD j 0) = false) → badI (l.getD i 0) = true → ixF l k = ((k + i : Nat) : Int)
  | [], _, _, h, _, _ => by simp at h
  | c :: l, k, 0, _, _, h => by
    simp only [List.getD_cons_zero] at h
    rw [ixF, if_pos h]; rfl
  | c :: l, k, i + 1, h, h1, h2 => by
    have h0 := h1 0 (by omega)
    simp only [List.getD_cons_zero] at h0
    rw [ixF, if_neg (by rw [h0]; decide), ixF_at l (k + 1) i (by simpa using h) (fun j hj => by have := h1 (j + 1) (by omega); simpa using this) (by simpa using h2)]
    congr 1; omega
theorem ixF_none : ∀ (l : List Int) (k : Nat), (∀ j, j < l.length → badI (l.getD j 0) = false) → ixF l k = -1
  | [], _, _ => rfl
  | c :: l, k, h => by
    have h0 := h 0 (by simp)
    simp only [List.getD_cons_zero] at h0
    rw [ixF, if_neg (by rw [h0]; decide), ixF_none l (k + 1) fun j hj => by have := h (j + 1) (by simpa using hj); simpa using this]
def gQx : List (Nat × Say) := [(85, idfS)]
theorem gQx_ok : GamOk Try.prog (gamY gQx) := gam_ok (gam_cons idf_ok gam_nil)
def ixS : Say
  | [.rw (.ints .u8 l), .clo f []] => if f = 85 then some (l.length ≤ 140737488355328, .int .i64 (ixF l 0), none) else none
  | _ => none
theorem ix_ok : FOk Try.prog 104 ixS := by
  intro xs p r own h hp
  unfold ixS at h
  split at h
  case h_2 => cases h
  rename_i l f
  split at h
  case isFalse => cases h
  rename_i hf
  subst hf
  simp only [Option.some.injEq, Prod.mk.injEq] at h
  obtain ⟨rfl, rfl, rfl⟩ := h
  refine fun_ok gQx_ok lawy_mixed y104_eq none ?_ (Nat.le_of_ble_eq_true rfl)
  simp (config := { maxSteps := 9000000 }) only [↓vyD, vyU, binS, SV.go1, SV.go0, mkRow, intsOf, boolsOf, strsOf, chunks, Row.rep, Row.cat, Row.sub, Row.put, Row.len, Row.get, Row.size, Row.flat, bnds, own0, own1, labsL, labsR, SV.labs, argsOf, entFr, SO.ev, St.of, keepSt, getAll, lookN, hasN, SV.cells, SV.one, SV.res1, SV.res0, SV.resP, SV.ok1, SV.ok0, SV.okN, SV.solid, SV.solid1, SV.solid0, SV.flat0, SV.nm, SV.nm1, SV.nm0, SV.noPtr1, SV.noPtr0, Cel.isFresh, fillP, setAt, partV, eqCells, cellEq, gamY, listsOk, tupOf, takeOwn, SV.ret1, resAll, resL, resV, Nat.reduceEqDiff, ↓reduceIte, Nat.reduceAdd, Nat.reduceMul, Nat.reduceLeDiff, Nat.reduceLT, reduceCtorEq, labOk, Int.reduceBEq, Int.reduceBNe, Int.reduceToNat, Int.reduceLE, Int.reduceLT, Int.reduceEq, Nat.reduceDiv, Nat.reduceMod, Nat.reduceSub, Nat.reduceBEq, fitR, fitR1, fitR0, fitRL1, fitRL, y104, gQx, idfS]
  refine loopG_intro (ι := Nat) (fun i => [(0, .rw (.ints .u8 l)), (1, .clo 85 []), (7, .int .i64 l.length), (8, .int .i64 i)]) (fun _ => []) (fun i => i ≤ l.length ∧ ∀ j, j < i → badI (l.getD j 0) = false) (fun i => l.length - i) ⟨0, by simp, ?_, ?_, ?_⟩ fun i hi => ?_
  · simp (config := { maxSteps := 9000000 }) only [↓vyD, vyU, binS, SV.go1, SV.go0, mkRow, intsOf, boolsOf, strsOf, chunks, Row.rep, Row.cat, Row.sub, Row.put, Row.len, Row.get, Row.size, Row.flat, bnds, own0, own1, labsL, labsR, SV.labs, argsOf, entFr, SO.ev, St.of, keepSt, getAll, lookN, hasN, SV.cells, SV.one, SV.res1, SV.res0, SV.resP, SV.ok1, SV.ok0, SV.okN, SV.solid, SV.solid1, SV.solid0, SV.flat0, SV.nm, SV.nm1, SV.nm0, SV.noPtr1, SV.noPtr0, Cel.isFresh, fillP, setAt, partV, eqCells, cellEq, gamY, listsOk, tupOf, takeOwn, SV.ret1, resAll, resL, resV, Nat.reduceEqDiff, ↓reduceIte, Nat.reduceAdd, Nat.reduceMul, Nat.reduceLeDiff, Nat.reduceLT, reduceCtorEq, labOk, Int.reduceBEq, Int.reduceBNe, Int.reduceToNat, Int.reduceLE, Int.reduceLT, Int.reduceEq, Nat.reduceDiv, Nat.reduceMod, Nat.reduceSub, Nat.reduceBEq, fitR, fitR1, fitR0, fitRL1, fitRL, hp]
  · simp (config := { maxSteps := 9000000 }) only [↓vyD, vyU, binS, SV.go1, SV.go0, mkRow, intsOf, boolsOf, strsOf, chunks, Row.rep, Row.cat, Row.sub, Row.put, Row.len, Row.get, Row.size, Row.flat, bnds, own0, own1, labsL, labsR, SV.labs, argsOf, entFr, SO.ev, St.of, keepSt, getAll, lookN, hasN, SV.cells, SV.one, SV.res1, SV.res0, SV.resP, SV.ok1, SV.ok0, SV.okN, SV.solid, SV.solid1, SV.solid0, SV.flat0, SV.nm, SV.nm1, SV.nm0, SV.noPtr1, SV.noPtr0, Cel.isFresh, fillP, setAt, partV, eqCells, cellEq, gamY, listsOk, tupOf, takeOwn, SV.ret1, resAll, resL, resV, Nat.reduceEqDiff, ↓reduceIte, Nat.reduceAdd, Nat.reduceMul, Nat.reduceLeDiff, Nat.reduceLT, reduceCtorEq, labOk, Int.reduceBEq, Int.reduceBNe, Int.reduceToNat, Int.reduceLE, Int.reduceLT, Int.reduceEq, Nat.reduceDiv, Nat.reduceMod, Nat.reduceSub, Nat.reduceBEq, fitR, fitR1, fitR0, fitRL1, fitRL, hp]
  · simp (config := { maxSteps := 9000000 }) only [↓vyD, vyU, binS, SV.go1, SV.go0, mkRow, intsOf, boolsOf, strsOf, chunks, Row.rep, Row.cat, Row.sub, Row.put, Row.len, Row.get, Row.size, Row.flat, bnds, own0, own1, labsL, labsR, SV.labs, argsOf, entFr, SO.ev, St.of, keepSt, getAll, lookN, hasN, SV.cells, SV.one, SV.res1, SV.res0, SV.resP, SV.ok1, SV.ok0, SV.okN, SV.solid, SV.solid1, SV.solid0, SV.flat0, SV.nm, SV.nm1, SV.nm0, SV.noPtr1, SV.noPtr0, Cel.isFresh, fillP, setAt, partV, eqCells, cellEq, gamY, listsOk, tupOf, takeOwn, SV.ret1, resAll, resL, resV, Nat.reduceEqDiff, ↓reduceIte, Nat.reduceAdd, Nat.reduceMul, Nat.reduceLeDiff, Nat.reduceLT, reduceCtorEq, labOk, Int.reduceBEq, Int.reduceBNe, Int.reduceToNat, Int.reduceLE, Int.reduceLT, Int.reduceEq, Nat.reduceDiv, Nat.reduceMod, Nat.reduceSub, Nat.reduceBEq, fitR, fitR1, fitR0, fitRL1, fitRL, hp]
  · obtain ⟨hi, hall⟩ := hi
    by_cases hlt : (i : Int) < (l.length : Int)
    · have hlt' : i < l.length := by omega
      have w1 := i64_wrap (show I64 ((i : Int) + 1) by unfold I64; omega)
      have c0 : (0 : Int) ≤ (i : Int) := by omega
      cases hb : badI (l.getD i 0) with
      | true =>
        have e := ixF_at l 0 i hlt' hall hb
        rw [Nat.zero_add] at e
        simp (config := { maxSteps := 9000000 }) only [↓vyD, vyU, binS, SV.go1, SV.go0, mkRow, intsOf, boolsOf, strsOf, chunks, Row.rep, Row.cat, Row.sub, Row.put, Row.len, Row.get, Row.size, Row.flat, bnds, own0, own1, labsL, labsR, SV.labs, argsOf, entFr, SO.ev, St.of, keepSt, getAll, lookN, hasN, SV.cells, SV.one, SV.res1, SV.res0, SV.resP, SV.ok1, SV.ok0, SV.okN, SV.solid, SV.solid1, SV.solid0, SV.flat0, SV.nm, SV.nm1, SV.nm0, SV.noPtr1, SV.noPtr0, Cel.isFresh, fillP, setAt, partV, eqCells, cellEq, gamY, listsOk, tupOf, takeOwn, SV.ret1, resAll, resL, resV, Nat.reduceEqDiff, ↓reduceIte, Nat.reduceAdd, Nat.reduceMul, Nat.reduceLeDiff, Nat.reduceLT, reduceCtorEq, labOk, Int.reduceBEq, Int.reduceBNe, Int.reduceToNat, Int.reduceLE, Int.reduceLT, Int.reduceEq, Nat.reduceDiv, Nat.reduceMod, Nat.reduceSub, Nat.reduceBEq, fitR, fitR1, fitR0, fitRL1, fitRL, hlt, gQx, idfS, Int.toNat_natCast, w1, c0, hb, e]
      | false =>
        simp (config := { maxSteps := 9000000 }) only [↓vyD, vyU, binS, SV.go1, SV.go0, mkRow, intsOf, boolsOf, strsOf, chunks, Row.rep, Row.cat, Row.sub, Row.put, Row.len, Row.get, Row.size, Row.flat, bnds, own0, own1, labsL, labsR, SV.labs, argsOf, entFr, SO.ev, St.of, keepSt, getAll, lookN, hasN, SV.cells, SV.one, SV.res1, SV.res0, SV.resP, SV.ok1, SV.ok0, SV.okN, SV.solid, SV.solid1, SV.solid0, SV.flat0, SV.nm, SV.nm1, SV.nm0, SV.noPtr1, SV.noPtr0, Cel.isFresh, fillP, setAt, partV, eqCells, cellEq, gamY, listsOk, tupOf, takeOwn, SV.ret1, resAll, resL, resV, Nat.reduceEqDiff, ↓reduceIte, Nat.reduceAdd, Nat.reduceMul, Nat.reduceLeDiff, Nat.reduceLT, reduceCtorEq, labOk, Int.reduceBEq, Int.reduceBNe, Int.reduceToNat, Int.reduceLE, Int.reduceLT, Int.reduceEq, Nat.reduceDiv, Nat.reduceMod, Nat.reduceSub, Nat.reduceBEq, fitR, fitR1, fitR0, fitRL1, fitRL, hlt, gQx, idfS, Int.toNat_natCast, w1, c0, hb]
        refine ⟨i + 1, ⟨⟨by omega, fun j hj => ?_⟩, by omega⟩, by simp⟩
        by_cases hj' : j = i
        · subst hj'; exact hb
        · exact hall j (by omega)
    · have hiS : i = l.length := by omega
      subst hiS
      have e := ixF_none l 0 hall
      simp (config := { maxSteps := 9000000 }) only [↓vyD, vyU, binS, SV.go1, SV.go0, mkRow, intsOf, boolsOf, strsOf, chunks, Row.rep, Row.cat, Row.sub, Row.put, Row.len, Row.get, Row.size, Row.flat, bnds, own0, own1, labsL, labsR, SV.labs, argsOf, entFr, SO.ev, St.of, keepSt, getAll, lookN, hasN, SV.cells, SV.one, SV.res1, SV.res0, SV.resP, SV.ok1, SV.ok0, SV.okN, SV.solid, SV.solid1, SV.solid0, SV.flat0, SV.nm, SV.nm1, SV.nm0, SV.noPtr1, SV.noPtr0, Cel.isFresh, fillP, setAt, partV, eqCells, cellEq, gamY, listsOk, tupOf, takeOwn, SV.ret1, resAll, resL, resV, Nat.reduceEqDiff, ↓reduceIte, Nat.reduceAdd, Nat.reduceMul, Nat.reduceLeDiff, Nat.reduceLT, reduceCtorEq, labOk, Int.reduceBEq, Int.reduceBNe, Int.reduceToNat, Int.reduceLE, Int.reduceLT, Int.reduceEq, Nat.reduceDiv, Nat.reduceMod, Nat.reduceSub, Nat.reduceBEq, fitR, fitR1, fitR0, fitRL1, fitRL, hlt, e]
def gY : List (Nat × Say) := [(104, ixS)]
theorem gY_ok : GamOk Try.prog (gamY gY) := gam_ok (gam_cons ix_ok gam_nil)
def cfS : Say
  | [.rw (.ints .u8 l), .clo f []] => if f = 85 then some (l.length ≤ 140737488355328, .bool (decide (0 ≤ ixF l 0)), none) else none
  | _ => none
theorem cf_ok : FOk Try.prog 84 cfS := by
  intro xs p r own h hp
  unfold cfS at h
  split at h
  case h_2 => cases h
  rename_i l f
  split at h
  case isFalse => cases h
  rename_i hf
  subst hf
  simp only [Option.some.injEq, Prod.mk.injEq] at h
  obtain ⟨rfl, rfl, rfl⟩ := h
  refine fun_ok gY_ok lawy_mixed y84_eq none ?_ (Nat.le_of_ble_eq_true rfl)
  simp (config := { maxSteps := 9000000 }) only [↓vyD, vyU, binS, SV.go1, SV.go0, mkRow, intsOf, boolsOf, strsOf, chunks, Row.rep, Row.cat, Row.sub, Row.put, Row.len, Row.get, Row.size, Row.flat, bnds, own0, own1, labsL, labsR, SV.labs, argsOf, entFr, SO.ev, St.of, keepSt, getAll, lookN, hasN, SV.cells, SV.one, SV.res1, SV.res0, SV.resP, SV.ok1, SV.ok0, SV.okN, SV.solid, SV.solid1, SV.solid0, SV.flat0, SV.nm, SV.nm1, SV.nm0, SV.noPtr1, SV.noPtr0, Cel.isFresh, fillP, setAt, partV, eqCells, cellEq, gamY, listsOk, tupOf, takeOwn, SV.ret1, resAll, resL, resV, Nat.reduceEqDiff, ↓reduceIte, Nat.reduceAdd, Nat.reduceMul, Nat.reduceLeDiff, Nat.reduceLT, reduceCtorEq, labOk, Int.reduceBEq, Int.reduceBNe, Int.reduceToNat, Int.reduceLE, Int.reduceLT, Int.reduceEq, Nat.reduceDiv, Nat.reduceMod, Nat.reduceSub, Nat.reduceBEq, fitR, fitR1, fitR0, fitRL1, fitRL, y84, gY, ixS, hp]
theorem badI_let (c : UInt8) : badI (c.toNat : Int) = !letB c := by
  unfold badI letB
  rw [← decide_not]
  congr 1
  rw [eq_iff_iff]
  omega
theorem ixF_all : ∀ (l : List UInt8) (k : Nat), 0 ≤ ixF (bI l) k ↔ l.all letB = false
  | [], k => by simp [bI, ixF]
  | c :: l, k => by
    have ih := ixF_all l (k + 1)
    simp only [bI, List.map_cons, ixF, List.all_cons] at ih ⊢
    rw [badI_let]
    cases letB c with
    | true => simp only [Bool.not_true, Bool.false_eq_true, if_false, Bool.true_and]; exact ih
    | false => simp
def gQz : List (Nat × Say) := [(52, rwithS), (84, cfS)]
theorem gQz_ok : GamOk Try.prog (gamY gQz) := gam_ok (gam_cons rwith_ok (gam_cons cf_ok gam_nil))
def ridS : Say
  | [.str l] => some (l.length ≤ 140737488355328, .bool (isIdB l), none)
  | _ => none
theorem rid_ok : FOk Try.prog 47 ridS := by
  intro xs p r own h hp
  unfold ridS at h
  split at h
  case h_2 => cases h
  rename_i l
  simp only [Option.some.injEq, Prod.mk.injEq] at h
  obtain ⟨rfl, rfl, rfl⟩ := h
  refine fun_ok gQz_ok lawy_mixed y47_eq none ?_ (Nat.le_of_ble_eq_true rfl)
  have hall := ixF_all l 0
  by_cases h : 1 ≤ (l.length : Int) ∧ (l.length : Int) ≤ 8
  · have hd : (decide (1 ≤ l.length ∧ l.length ≤ 8)) = true := by simp; omega
    have hf : isIdB l = l.all letB := by unfold isIdB; rw [hd, Bool.true_and]
    cases ha : l.all letB with
    | true =>
      rw [ha] at hall hf
      have e : ¬ 0 ≤ ixF (bI l) 0 := by rw [hall]; simp
      simp (config := { maxSteps := 9000000 }) only [↓vyD, vyU, binS, SV.go1, SV.go0, mkRow, intsOf, boolsOf, strsOf, chunks, Row.rep, Row.cat, Row.sub, Row.put, Row.len, Row.get, Row.size, Row.flat, bnds, own0, own1, labsL, labsR, SV.labs, argsOf, entFr, SO.ev, St.of, keepSt, getAll, lookN, hasN, SV.cells, SV.one, SV.res1, SV.res0, SV.resP, SV.ok1, SV.ok0, SV.okN, SV.solid, SV.solid1, SV.solid0, SV.flat0, SV.nm, SV.nm1, SV.nm0, SV.noPtr1, SV.noPtr0, Cel.isFresh, fillP, setAt, partV, eqCells, cellEq, gamY, listsOk, tupOf, takeOwn, SV.ret1, resAll, resL, resV, Nat.reduceEqDiff, ↓reduceIte, Nat.reduceAdd, Nat.reduceMul, Nat.reduceLeDiff, Nat.reduceLT, reduceCtorEq, labOk, Int.reduceBEq, Int.reduceBNe, Int.reduceToNat, Int.reduceLE, Int.reduceLT, Int.reduceEq, Nat.reduceDiv, Nat.reduceMod, Nat.reduceSub, Nat.reduceBEq, fitR, fitR1, fitR0, fitRL1, fitRL, y47, gQz, rwithS, cfS, h, hp, bI_eq, bI_len, e, hf]
    | false =>
      rw [ha] at hall hf
      have e : 0 ≤ ixF (bI l) 0 := hall.2 rfl
      simp (config := { maxSteps := 9000000 }) only [↓vyD, vyU, binS, SV.go1, SV.go0, mkRow, intsOf, boolsOf, strsOf, chunks, Row.rep, Row.cat, Row.sub, Row.put, Row.len, Row.get, Row.size, Row.flat, bnds, own0, own1, labsL, labsR, SV.labs, argsOf, entFr, SO.ev, St.of, keepSt, getAll, lookN, hasN, SV.cells, SV.one, SV.res1, SV.res0, SV.resP, SV.ok1, SV.ok0, SV.okN, SV.solid, SV.solid1, SV.solid0, SV.flat0, SV.nm, SV.nm1, SV.nm0, SV.noPtr1, SV.noPtr0, Cel.isFresh, fillP, setAt, partV, eqCells, cellEq, gamY, listsOk, tupOf, takeOwn, SV.ret1, resAll, resL, resV, Nat.reduceEqDiff, ↓reduceIte, Nat.reduceAdd, Nat.reduceMul, Nat.reduceLeDiff, Nat.reduceLT, reduceCtorEq, labOk, Int.reduceBEq, Int.reduceBNe, Int.reduceToNat, Int.reduceLE, Int.reduceLT, Int.reduceEq, Nat.reduceDiv, Nat.reduceMod, Nat.reduceSub, Nat.reduceBEq, fitR, fitR1, fitR0, fitRL1, fitRL, y47, gQz, rwithS, cfS, h, hp, bI_eq, bI_len, e, hf]
  · have hf : isIdB l = false := by
      unfold isIdB
      rw [decide_eq_false (by omega), Bool.false_and]
    simp (config := { maxSteps := 9000000 }) only [↓vyD, vyU, binS, SV.go1, SV.go0, mkRow, intsOf, boolsOf, strsOf, chunks, Row.rep, Row.cat, Row.sub, Row.put, Row.len, Row.get, Row.size, Row.flat, bnds, own0, own1, labsL, labsR, SV.labs, argsOf, entFr, SO.ev, St.of, keepSt, getAll, lookN, hasN, SV.cells, SV.one, SV.res1, SV.res0, SV.resP, SV.ok1, SV.ok0, SV.okN, SV.solid, SV.solid1, SV.solid0, SV.flat0, SV.nm, SV.nm1, SV.nm0, SV.noPtr1, SV.noPtr0, Cel.isFresh, fillP, setAt, partV, eqCells, cellEq, gamY, listsOk, tupOf, takeOwn, SV.ret1, resAll, resL, resV, Nat.reduceEqDiff, ↓reduceIte, Nat.reduceAdd, Nat.reduceMul, Nat.reduceLeDiff, Nat.reduceLT, reduceCtorEq, labOk, Int.reduceBEq, Int.reduceBNe, Int.reduceToNat, Int.reduceLE, Int.reduceLT, Int.reduceEq, Nat.reduceDiv, Nat.reduceMod, Nat.reduceSub, Nat.reduceBEq, fitR, fitR1, fitR0, fitRL1, fitRL, y47, gQz, rwithS, cfS, h, hf]
def gQw : List (Nat × Say) := [(47, ridS), (52, rwithS)]
theorem gQw_ok : GamOk Try.prog (gamY gQw) := gam_ok (gam_cons rid_ok (gam_cons rwith_ok gam_nil))
def rbeatS : Say
  | [.agg [.str l, .int .i64 a, .int .i64 b]] => some (l.length ≤ 140737488355328, .int .i64 (chkE l a b), none)
  | _ => none
theorem rbeat_ok : FOk Try.prog 58 rbeatS := by
  intro xs p r own h hp
  unfold rbeatS at h
  split at h
  case h_2 => cases h
  rename_i l a b
  simp only [Option.some.injEq, Prod.mk.injEq] at h
  obtain ⟨rfl, rfl, rfl⟩ := h
  refine fun_ok gQw_ok lawy_mixed y58_eq none ?_ (Nat.le_of_ble_eq_true rfl)
  by_cases hid : isIdB l = true
  · by_cases h1 : 0 ≤ a ∧ a ≤ 2147483647
    · by_cases h2 : 1 ≤ b ∧ b ≤ 2147483647
      · have hE : chkE l a b = 0 := chkE_0.2 ⟨hid, by omega⟩
        simp (config := { maxSteps := 9000000 }) only [↓vyD, vyU, binS, SV.go1, SV.go0, mkRow, intsOf, boolsOf, strsOf, chunks, Row.rep, Row.cat, Row.sub, Row.put, Row.len, Row.get, Row.size, Row.flat, bnds, own0, own1, labsL, labsR, SV.labs, argsOf, entFr, SO.ev, St.of, keepSt, getAll, lookN, hasN, SV.cells, SV.one, SV.res1, SV.res0, SV.resP, SV.ok1, SV.ok0, SV.okN, SV.solid, SV.solid1, SV.solid0, SV.flat0, SV.nm, SV.nm1, SV.nm0, SV.noPtr1, SV.noPtr0, Cel.isFresh, fillP, setAt, partV, eqCells, cellEq, gamY, listsOk, tupOf, takeOwn, SV.ret1, resAll, resL, resV, Nat.reduceEqDiff, ↓reduceIte, Nat.reduceAdd, Nat.reduceMul, Nat.reduceLeDiff, Nat.reduceLT, reduceCtorEq, labOk, Int.reduceBEq, Int.reduceBNe, Int.reduceToNat, Int.reduceLE, Int.reduceLT, Int.reduceEq, Nat.reduceDiv, Nat.reduceMod, Nat.reduceSub, Nat.reduceBEq, fitR, fitR1, fitR0, fitRL1, fitRL, y58, gQw, ridS, rwithS, hp, hid, h1, h2, hE]
      · have hE : chkE l a b = 1 := by unfold chkE; rw [if_pos hid, if_neg (by omega)]
        simp (config := { maxSteps := 9000000 }) only [↓vyD, vyU, binS, SV.go1, SV.go0, mkRow, intsOf, boolsOf, strsOf, chunks, Row.rep, Row.cat, Row.sub, Row.put, Row.len, Row.get, Row.size, Row.flat, bnds, own0, own1, labsL, labsR, SV.labs, argsOf, entFr, SO.ev, St.of, keepSt, getAll, lookN, hasN, SV.cells, SV.one, SV.res1, SV.res0, SV.resP, SV.ok1, SV.ok0, SV.okN, SV.solid, SV.solid1, SV.solid0, SV.flat0, SV.nm, SV.nm1, SV.nm0, SV.noPtr1, SV.noPtr0, Cel.isFresh, fillP, setAt, partV, eqCells, cellEq, gamY, listsOk, tupOf, takeOwn, SV.ret1, resAll, resL, resV, Nat.reduceEqDiff, ↓reduceIte, Nat.reduceAdd, Nat.reduceMul, Nat.reduceLeDiff, Nat.reduceLT, reduceCtorEq, labOk, Int.reduceBEq, Int.reduceBNe, Int.reduceToNat, Int.reduceLE, Int.reduceLT, Int.reduceEq, Nat.reduceDiv, Nat.reduceMod, Nat.reduceSub, Nat.reduceBEq, fitR, fitR1, fitR0, fitRL1, fitRL, y58, gQw, ridS, rwithS, hp, hid, h1, h2, hE]
    · have hE : chkE l a b = 1 := by unfold chkE; rw [if_pos hid, if_neg (by omega)]
      simp (config := { maxSteps := 9000000 }) only [↓vyD, vyU, binS, SV.go1, SV.go0, mkRow, intsOf, boolsOf, strsOf, chunks, Row.rep, Row.cat, Row.sub, Row.put, Row.len, Row.get, Row.size, Row.flat, bnds, own0, own1, labsL, labsR, SV.labs, argsOf, entFr, SO.ev, St.of, keepSt, getAll, lookN, hasN, SV.cells, SV.one, SV.res1, SV.res0, SV.resP, SV.ok1, SV.ok0, SV.okN, SV.solid, SV.solid1, SV.solid0, SV.flat0, SV.nm, SV.nm1, SV.nm0, SV.noPtr1, SV.noPtr0, Cel.isFresh, fillP, setAt, partV, eqCells, cellEq, gamY, listsOk, tupOf, takeOwn, SV.ret1, resAll, resL, resV, Nat.reduceEqDiff, ↓reduceIte, Nat.reduceAdd, Nat.reduceMul, Nat.reduceLeDiff, Nat.reduceLT, reduceCtorEq, labOk, Int.reduceBEq, Int.reduceBNe, Int.reduceToNat, Int.reduceLE, Int.reduceLT, Int.reduceEq, Nat.reduceDiv, Nat.reduceMod, Nat.reduceSub, Nat.reduceBEq, fitR, fitR1, fitR0, fitRL1, fitRL, y58, gQw, ridS, rwithS, hp, hid, h1, hE]
  · have hE : chkE l a b = 3 := if_neg hid
    have hid' : isIdB l = false := by simpa using hid
    simp (config := { maxSteps := 9000000 }) only [↓vyD, vyU, binS, SV.go1, SV.go0, mkRow, intsOf, boolsOf, strsOf, chunks, Row.rep, Row.cat, Row.sub, Row.put, Row.len, Row.get, Row.size, Row.flat, bnds, own0, own1, labsL, labsR, SV.labs, argsOf, entFr, SO.ev, St.of, keepSt, getAll, lookN, hasN, SV.cells, SV.one, SV.res1, SV.res0, SV.resP, SV.ok1, SV.ok0, SV.okN, SV.solid, SV.solid1, SV.solid0, SV.flat0, SV.nm, SV.nm1, SV.nm0, SV.noPtr1, SV.noPtr0, Cel.isFresh, fillP, setAt, partV, eqCells, cellEq, gamY, listsOk, tupOf, takeOwn, SV.ret1, resAll, resL, resV, Nat.reduceEqDiff, ↓reduceIte, Nat.reduceAdd, Nat.reduceMul, Nat.reduceLeDiff, Nat.reduceLT, reduceCtorEq, labOk, Int.reduceBEq, Int.reduceBNe, Int.reduceToNat, Int.reduceLE, Int.reduceLT, Int.reduceEq, Nat.reduceDiv, Nat.reduceMod, Nat.reduceSub, Nat.reduceBEq, fitR, fitR1, fitR0, fitRL1, fitRL, y58, gQw, ridS, rwithS, hp, hid', hE]
end Go.Proofs.Ytgklfolmlcfjgaa
