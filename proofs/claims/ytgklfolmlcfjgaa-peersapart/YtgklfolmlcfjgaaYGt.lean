/- What the functions of gate do, and the document's answers on gates (hwref). -/
import Derived.Test.YtgklfolmlcfjgaaYG
import Derived.Test.YtgklfolmlcfjgaaCS7
namespace Go.Proofs.Ytgklfolmlcfjgaa
open Go.ChangeShapes Go.WideShapes Go.ChangeAt Go.RowKit Go.Joins Y
set_option linter.unusedSimpArgs false
set_option linter.unusedVariables false
set_option maxRecDepth 100000
set_option maxHeartbeats 40000000
def numB (n : Int) : Bool := decide (0 ≤ n ∧ n < 2147483648)
def isNumS : Say
  | [.int .i64 n] => some (True, .bool (numB n), none)
  | _ => none
theorem isNum_ok : FOk Try.prog 105 isNumS := by
  intro xs p r own h hp
  unfold isNumS at h
  split at h
  case h_2 => cases h
  rename_i n
  simp only [Option.some.injEq, Prod.mk.injEq] at h
  obtain ⟨rfl, rfl, rfl⟩ := h
  refine fun_ok (gam_ok gam_nil) lawy_mixed y105_eq none ?_ (Nat.le_of_ble_eq_true rfl)
  unfold numB
  by_cases h1 : 0 ≤ n
  · by_cases h2 : n < 2147483648
    · simp (config := { maxSteps := 9000000 }) only [↓vyD, vyU, binS, SV.go1, SV.go0, mkRow, intsOf, boolsOf, strsOf, chunks, Row.rep, Row.cat, Row.sub, Row.put, Row.len, Row.get, Row.size, Row.flat, bnds, own0, own1, labsL, labsR, SV.labs, argsOf, entFr, SO.ev, St.of, keepSt, getAll, lookN, hasN, SV.cells, SV.one, SV.res1, SV.res0, SV.resP, SV.ok1, SV.ok0, SV.okN, SV.solid, SV.solid1, SV.solid0, SV.flat0, SV.nm, SV.nm1, SV.nm0, SV.noPtr1, SV.noPtr0, Cel.isFresh, fillP, setAt, partV, eqCells, cellEq, gamY, listsOk, tupOf, takeOwn, SV.ret1, resAll, resL, resV, Nat.reduceEqDiff, ↓reduceIte, Nat.reduceAdd, Nat.reduceMul, Nat.reduceLeDiff, Nat.reduceLT, reduceCtorEq, labOk, Int.reduceBEq, Int.reduceBNe, Int.reduceToNat, Int.reduceLE, Int.reduceLT, Int.reduceEq, Nat.reduceDiv, Nat.reduceMod, Nat.reduceSub, Nat.reduceBEq, fitR, fitR1, fitR0, fitRL1, fitRL, y105, h1, h2]
    · simp (config := { maxSteps := 9000000 }) only [↓vyD, vyU, binS, SV.go1, SV.go0, mkRow, intsOf, boolsOf, strsOf, chunks, Row.rep, Row.cat, Row.sub, Row.put, Row.len, Row.get, Row.size, Row.flat, bnds, own0, own1, labsL, labsR, SV.labs, argsOf, entFr, SO.ev, St.of, keepSt, getAll, lookN, hasN, SV.cells, SV.one, SV.res1, SV.res0, SV.resP, SV.ok1, SV.ok0, SV.okN, SV.solid, SV.solid1, SV.solid0, SV.flat0, SV.nm, SV.nm1, SV.nm0, SV.noPtr1, SV.noPtr0, Cel.isFresh, fillP, setAt, partV, eqCells, cellEq, gamY, listsOk, tupOf, takeOwn, SV.ret1, resAll, resL, resV, Nat.reduceEqDiff, ↓reduceIte, Nat.reduceAdd, Nat.reduceMul, Nat.reduceLeDiff, Nat.reduceLT, reduceCtorEq, labOk, Int.reduceBEq, Int.reduceBNe, Int.reduceToNat, Int.reduceLE, Int.reduceLT, Int.reduceEq, Nat.reduceDiv, Nat.reduceMod, Nat.reduceSub, Nat.reduceBEq, fitR, fitR1, fitR0, fitRL1, fitRL, y105, h1, h2, and_false]
  · simp (config := { maxSteps := 9000000 }) only [↓vyD, vyU, binS, SV.go1, SV.go0, mkRow, intsOf, boolsOf, strsOf, chunks, Row.rep, Row.cat, Row.sub, Row.put, Row.len, Row.get, Row.size, Row.flat, bnds, own0, own1, labsL, labsR, SV.labs, argsOf, entFr, SO.ev, St.of, keepSt, getAll, lookN, hasN, SV.cells, SV.one, SV.res1, SV.res0, SV.resP, SV.ok1, SV.ok0, SV.okN, SV.solid, SV.solid1, SV.solid0, SV.flat0, SV.nm, SV.nm1, SV.nm0, SV.noPtr1, SV.noPtr0, Cel.isFresh, fillP, setAt, partV, eqCells, cellEq, gamY, listsOk, tupOf, takeOwn, SV.ret1, resAll, resL, resV, Nat.reduceEqDiff, ↓reduceIte, Nat.reduceAdd, Nat.reduceMul, Nat.reduceLeDiff, Nat.reduceLT, reduceCtorEq, labOk, Int.reduceBEq, Int.reduceBNe, Int.reduceToNat, Int.reduceLE, Int.reduceLT, Int.reduceEq, Nat.reduceDiv, Nat.reduceMod, Nat.reduceSub, Nat.reduceBEq, fitR, fitR1, fitR0, fitRL1, fitRL, y105, h1, false_and]
def newB (a b i s : Int) : Bool := decide (a < i ∨ (i = a ∧ b < s))
def isNewS : Say
  | [.agg [.int .i64 a, .int .i64 b, .int .i64 c], .int .i64 i, .int .i64 s] => some (True, .bool (newB a b i s), none)
  | _ => none
theorem isNew_ok : FOk Try.prog 106 isNewS := by
  intro xs p r own h hp
  unfold isNewS at h
  split at h
  case h_2 => cases h
  rename_i a b c i s
  simp only [Option.some.injEq, Prod.mk.injEq] at h
  obtain ⟨rfl, rfl, rfl⟩ := h
  refine fun_ok (gam_ok gam_nil) lawy_mixed y106_eq none ?_ (Nat.le_of_ble_eq_true rfl)
  unfold newB
  by_cases h1 : a < i
  · simp (config := { maxSteps := 9000000 }) only [↓vyD, vyU, binS, SV.go1, SV.go0, mkRow, intsOf, boolsOf, strsOf, chunks, Row.rep, Row.cat, Row.sub, Row.put, Row.len, Row.get, Row.size, Row.flat, bnds, own0, own1, labsL, labsR, SV.labs, argsOf, entFr, SO.ev, St.of, keepSt, getAll, lookN, hasN, SV.cells, SV.one, SV.res1, SV.res0, SV.resP, SV.ok1, SV.ok0, SV.okN, SV.solid, SV.solid1, SV.solid0, SV.flat0, SV.nm, SV.nm1, SV.nm0, SV.noPtr1, SV.noPtr0, Cel.isFresh, fillP, setAt, partV, eqCells, cellEq, gamY, listsOk, tupOf, takeOwn, SV.ret1, resAll, resL, resV, Nat.reduceEqDiff, ↓reduceIte, Nat.reduceAdd, Nat.reduceMul, Nat.reduceLeDiff, Nat.reduceLT, reduceCtorEq, labOk, Int.reduceBEq, Int.reduceBNe, Int.reduceToNat, Int.reduceLE, Int.reduceLT, Int.reduceEq, Nat.reduceDiv, Nat.reduceMod, Nat.reduceSub, Nat.reduceBEq, fitR, fitR1, fitR0, fitRL1, fitRL, y106, h1, true_or]
  · by_cases h2 : i = a
    · have h2' : (i == a) = true := by simpa using h2
      by_cases h3 : b < s
      · simp (config := { maxSteps := 9000000 }) only [↓vyD, vyU, binS, SV.go1, SV.go0, mkRow, intsOf, boolsOf, strsOf, chunks, Row.rep, Row.cat, Row.sub, Row.put, Row.len, Row.get, Row.size, Row.flat, bnds, own0, own1, labsL, labsR, SV.labs, argsOf, entFr, SO.ev, St.of, keepSt, getAll, lookN, hasN, SV.cells, SV.one, SV.res1, SV.res0, SV.resP, SV.ok1, SV.ok0, SV.okN, SV.solid, SV.solid1, SV.solid0, SV.flat0, SV.nm, SV.nm1, SV.nm0, SV.noPtr1, SV.noPtr0, Cel.isFresh, fillP, setAt, partV, eqCells, cellEq, gamY, listsOk, tupOf, takeOwn, SV.ret1, resAll, resL, resV, Nat.reduceEqDiff, ↓reduceIte, Nat.reduceAdd, Nat.reduceMul, Nat.reduceLeDiff, Nat.reduceLT, reduceCtorEq, labOk, Int.reduceBEq, Int.reduceBNe, Int.reduceToNat, Int.reduceLE, Int.reduceLT, Int.reduceEq, Nat.reduceDiv, Nat.reduceMod, Nat.reduceSub, Nat.reduceBEq, fitR, fitR1, fitR0, fitRL1, fitRL, y106, h1, h2', h2, h3, and_true, or_true]
        simp
      · simp (config := { maxSteps := 9000000 }) only [↓vyD, vyU, binS, SV.go1, SV.go0, mkRow, intsOf, boolsOf, strsOf, chunks, Row.rep, Row.cat, Row.sub, Row.put, Row.len, Row.get, Row.size, Row.flat, bnds, own0, own1, labsL, labsR, SV.labs, argsOf, entFr, SO.ev, St.of, keepSt, getAll, lookN, hasN, SV.cells, SV.one, SV.res1, SV.res0, SV.resP, SV.ok1, SV.ok0, SV.okN, SV.solid, SV.solid1, SV.solid0, SV.flat0, SV.nm, SV.nm1, SV.nm0, SV.noPtr1, SV.noPtr0, Cel.isFresh, fillP, setAt, partV, eqCells, cellEq, gamY, listsOk, tupOf, takeOwn, SV.ret1, resAll, resL, resV, Nat.reduceEqDiff, ↓reduceIte, Nat.reduceAdd, Nat.reduceMul, Nat.reduceLeDiff, Nat.reduceLT, reduceCtorEq, labOk, Int.reduceBEq, Int.reduceBNe, Int.reduceToNat, Int.reduceLE, Int.reduceLT, Int.reduceEq, Nat.reduceDiv, Nat.reduceMod, Nat.reduceSub, Nat.reduceBEq, fitR, fitR1, fitR0, fitRL1, fitRL, y106, h1, h2', h3, and_false, or_false]
    · have h2' : (i == a) = false := by simpa using h2
      simp (config := { maxSteps := 9000000 }) only [↓vyD, vyU, binS, SV.go1, SV.go0, mkRow, intsOf, boolsOf, strsOf, chunks, Row.rep, Row.cat, Row.sub, Row.put, Row.len, Row.get, Row.size, Row.flat, bnds, own0, own1, labsL, labsR, SV.labs, argsOf, entFr, SO.ev, St.of, keepSt, getAll, lookN, hasN, SV.cells, SV.one, SV.res1, SV.res0, SV.resP, SV.ok1, SV.ok0, SV.okN, SV.solid, SV.solid1, SV.solid0, SV.flat0, SV.nm, SV.nm1, SV.nm0, SV.noPtr1, SV.noPtr0, Cel.isFresh, fillP, setAt, partV, eqCells, cellEq, gamY, listsOk, tupOf, takeOwn, SV.ret1, resAll, resL, resV, Nat.reduceEqDiff, ↓reduceIte, Nat.reduceAdd, Nat.reduceMul, Nat.reduceLeDiff, Nat.reduceLT, reduceCtorEq, labOk, Int.reduceBEq, Int.reduceBNe, Int.reduceToNat, Int.reduceLE, Int.reduceLT, Int.reduceEq, Nat.reduceDiv, Nat.reduceMod, Nat.reduceSub, Nat.reduceBEq, fitR, fitR1, fitR0, fitRL1, fitRL, y106, h1, h2', h2, false_and, or_false]
def gateE (a b c : Int) : Int := if (0 ≤ a ∧ a < 2147483648) ∧ (0 ≤ b ∧ b < 2147483648) ∧ (0 ≤ c ∧ c ≤ 1073741824) ∧ (b = 0 → a = 0) then 0 else 1
theorem gateE_0 {a b c : Int} : gateE a b c = 0 ↔ (0 ≤ a ∧ a < 2147483648) ∧ (0 ≤ b ∧ b < 2147483648) ∧ (0 ≤ c ∧ c ≤ 1073741824) ∧ (b = 0 → a = 0) := by
  unfold gateE
  split <;> simp_all
theorem gateE_1 {a b c : Int} (h : ¬ ((0 ≤ a ∧ a < 2147483648) ∧ (0 ≤ b ∧ b < 2147483648) ∧ (0 ≤ c ∧ c ≤ 1073741824) ∧ (b = 0 → a = 0))) : gateE a b c = 1 := if_neg h
theorem gateE_01 (a b c : Int) : gateE a b c = 0 ∨ gateE a b c = 1 := by unfold gateE; split <;> simp
theorem numB_t {n : Int} : numB n = true ↔ 0 ≤ n ∧ n < 2147483648 := by simp [numB]
theorem numB_f {n : Int} : numB n = false ↔ ¬ (0 ≤ n ∧ n < 2147483648) := by simp [numB]
def gCk : List (Nat × Say) := [(105, isNumS)]
theorem gCk_ok : GamOk Try.prog (gamY gCk) := gam_ok (gam_cons isNum_ok gam_nil)
def gchkS : Say
  | [.agg [.int .i64 a, .int .i64 b, .int .i64 c]] => some (True, .int .i64 (gateE a b c), none)
  | _ => none
theorem gchk_ok : FOk Try.prog 87 gchkS := by
  intro xs p r own h hp
  unfold gchkS at h
  split at h
  case h_2 => cases h
  rename_i a b c
  simp only [Option.some.injEq, Prod.mk.injEq] at h
  obtain ⟨rfl, rfl, rfl⟩ := h
  refine fun_ok gCk_ok lawy_mixed y87_eq none ?_ (Nat.le_of_ble_eq_true rfl)
  cases h1 : numB a with
  | false =>
    have hE : gateE a b c = 1 := gateE_1 fun h => numB_f.1 h1 h.1
    simp (config := { maxSteps := 9000000 }) only [↓vyD, vyU, binS, SV.go1, SV.go0, mkRow, intsOf, boolsOf, strsOf, chunks, Row.rep, Row.cat, Row.sub, Row.put, Row.len, Row.get, Row.size, Row.flat, bnds, own0, own1, labsL, labsR, SV.labs, argsOf, entFr, SO.ev, St.of, keepSt, getAll, lookN, hasN, SV.cells, SV.one, SV.res1, SV.res0, SV.resP, SV.ok1, SV.ok0, SV.okN, SV.solid, SV.solid1, SV.solid0, SV.flat0, SV.nm, SV.nm1, SV.nm0, SV.noPtr1, SV.noPtr0, Cel.isFresh, fillP, setAt, partV, eqCells, cellEq, gamY, listsOk, tupOf, takeOwn, SV.ret1, resAll, resL, resV, Nat.reduceEqDiff, ↓reduceIte, Nat.reduceAdd, Nat.reduceMul, Nat.reduceLeDiff, Nat.reduceLT, reduceCtorEq, labOk, Int.reduceBEq, Int.reduceBNe, Int.reduceToNat, Int.reduceLE, Int.reduceLT, Int.reduceEq, Nat.reduceDiv, Nat.reduceMod, Nat.reduceSub, Nat.reduceBEq, fitR, fitR1, fitR0, fitRL1, fitRL, y87, gCk, isNumS, h1, hE]
  | true =>
    have k1 := numB_t.1 h1
    cases h2 : numB b with
    | false =>
      have hE : gateE a b c = 1 := gateE_1 fun h => numB_f.1 h2 h.2.1
      simp (config := { maxSteps := 9000000 }) only [↓vyD, vyU, binS, SV.go1, SV.go0, mkRow, intsOf, boolsOf, strsOf, chunks, Row.rep, Row.cat, Row.sub, Row.put, Row.len, Row.get, Row.size, Row.flat, bnds, own0, own1, labsL, labsR, SV.labs, argsOf, entFr, SO.ev, St.of, keepSt, getAll, lookN, hasN, SV.cells, SV.one, SV.res1, SV.res0, SV.resP, SV.ok1, SV.ok0, SV.okN, SV.solid, SV.solid1, SV.solid0, SV.flat0, SV.nm, SV.nm1, SV.nm0, SV.noPtr1, SV.noPtr0, Cel.isFresh, fillP, setAt, partV, eqCells, cellEq, gamY, listsOk, tupOf, takeOwn, SV.ret1, resAll, resL, resV, Nat.reduceEqDiff, ↓reduceIte, Nat.reduceAdd, Nat.reduceMul, Nat.reduceLeDiff, Nat.reduceLT, reduceCtorEq, labOk, Int.reduceBEq, Int.reduceBNe, Int.reduceToNat, Int.reduceLE, Int.reduceLT, Int.reduceEq, Nat.reduceDiv, Nat.reduceMod, Nat.reduceSub, Nat.reduceBEq, fitR, fitR1, fitR0, fitRL1, fitRL, y87, gCk, isNumS, h1, h2, hE]
    | true =>
      have k2 := numB_t.1 h2
      by_cases h3 : c < 0
      · have hE : gateE a b c = 1 := gateE_1 fun h => by omega
        simp (config := { maxSteps := 9000000 }) only [↓vyD, vyU, binS, SV.go1, SV.go0, mkRow, intsOf, boolsOf, strsOf, chunks, Row.rep, Row.cat, Row.sub, Row.put, Row.len, Row.get, Row.size, Row.flat, bnds, own0, own1, labsL, labsR, SV.labs, argsOf, entFr, SO.ev, St.of, keepSt, getAll, lookN, hasN, SV.cells, SV.one, SV.res1, SV.res0, SV.resP, SV.ok1, SV.ok0, SV.okN, SV.solid, SV.solid1, SV.solid0, SV.flat0, SV.nm, SV.nm1, SV.nm0, SV.noPtr1, SV.noPtr0, Cel.isFresh, fillP, setAt, partV, eqCells, cellEq, gamY, listsOk, tupOf, takeOwn, SV.ret1, resAll, resL, resV, Nat.reduceEqDiff, ↓reduceIte, Nat.reduceAdd, Nat.reduceMul, Nat.reduceLeDiff, Nat.reduceLT, reduceCtorEq, labOk, Int.reduceBEq, Int.reduceBNe, Int.reduceToNat, Int.reduceLE, Int.reduceLT, Int.reduceEq, Nat.reduceDiv, Nat.reduceMod, Nat.reduceSub, Nat.reduceBEq, fitR, fitR1, fitR0, fitRL1, fitRL, y87, gCk, isNumS, h1, h2, h3, hE]
      · by_cases h4 : 1073741824 < c
        · have hE : gateE a b c = 1 := gateE_1 fun h => by omega
          simp (config := { maxSteps := 9000000 }) only [↓vyD, vyU, binS, SV.go1, SV.go0, mkRow, intsOf, boolsOf, strsOf, chunks, Row.rep, Row.cat, Row.sub, Row.put, Row.len, Row.get, Row.size, Row.flat, bnds, own0, own1, labsL, labsR, SV.labs, argsOf, entFr, SO.ev, St.of, keepSt, getAll, lookN, hasN, SV.cells, SV.one, SV.res1, SV.res0, SV.resP, SV.ok1, SV.ok0, SV.okN, SV.solid, SV.solid1, SV.solid0, SV.flat0, SV.nm, SV.nm1, SV.nm0, SV.noPtr1, SV.noPtr0, Cel.isFresh, fillP, setAt, partV, eqCells, cellEq, gamY, listsOk, tupOf, takeOwn, SV.ret1, resAll, resL, resV, Nat.reduceEqDiff, ↓reduceIte, Nat.reduceAdd, Nat.reduceMul, Nat.reduceLeDiff, Nat.reduceLT, reduceCtorEq, labOk, Int.reduceBEq, Int.reduceBNe, Int.reduceToNat, Int.reduceLE, Int.reduceLT, Int.reduceEq, Nat.reduceDiv, Nat.reduceMod, Nat.reduceSub, Nat.reduceBEq, fitR, fitR1, fitR0, fitRL1, fitRL, y87, gCk, isNumS, h1, h2, h3, h4, hE]
        · by_cases h5 : b = 0
          · have h5' : (b == 0) = true := by simpa using h5
            by_cases h6 : a = 0
            · have h6' : (a != 0) = false := by simpa using h6
              have hE : gateE a b c = 0 := gateE_0.2 ⟨k1, k2, by omega, fun _ => h6⟩
              simp (config := { maxSteps := 9000000 }) only [↓vyD, vyU, binS, SV.go1, SV.go0, mkRow, intsOf, boolsOf, strsOf, chunks, Row.rep, Row.cat, Row.sub, Row.put, Row.len, Row.get, Row.size, Row.flat, bnds, own0, own1, labsL, labsR, SV.labs, argsOf, entFr, SO.ev, St.of, keepSt, getAll, lookN, hasN, SV.cells, SV.one, SV.res1, SV.res0, SV.resP, SV.ok1, SV.ok0, SV.okN, SV.solid, SV.solid1, SV.solid0, SV.flat0, SV.nm, SV.nm1, SV.nm0, SV.noPtr1, SV.noPtr0, Cel.isFresh, fillP, setAt, partV, eqCells, cellEq, gamY, listsOk, tupOf, takeOwn, SV.ret1, resAll, resL, resV, Nat.reduceEqDiff, ↓reduceIte, Nat.reduceAdd, Nat.reduceMul, Nat.reduceLeDiff, Nat.reduceLT, reduceCtorEq, labOk, Int.reduceBEq, Int.reduceBNe, Int.reduceToNat, Int.reduceLE, Int.reduceLT, Int.reduceEq, Nat.reduceDiv, Nat.reduceMod, Nat.reduceSub, Nat.reduceBEq, fitR, fitR1, fitR0, fitRL1, fitRL, y87, gCk, isNumS, h1, h2, h3, h4, h5', h6', hE]
            · have h6' : (a != 0) = true := by simpa using h6
              have hE : gateE a b c = 1 := gateE_1 fun h => h6 (h.2.2.2 h5)
              simp (config := { maxSteps := 9000000 }) only [↓vyD, vyU, binS, SV.go1, SV.go0, mkRow, intsOf, boolsOf, strsOf, chunks, Row.rep, Row.cat, Row.sub, Row.put, Row.len, Row.get, Row.size, Row.flat, bnds, own0, own1, labsL, labsR, SV.labs, argsOf, entFr, SO.ev, St.of, keepSt, getAll, lookN, hasN, SV.cells, SV.one, SV.res1, SV.res0, SV.resP, SV.ok1, SV.ok0, SV.okN, SV.solid, SV.solid1, SV.solid0, SV.flat0, SV.nm, SV.nm1, SV.nm0, SV.noPtr1, SV.noPtr0, Cel.isFresh, fillP, setAt, partV, eqCells, cellEq, gamY, listsOk, tupOf, takeOwn, SV.ret1, resAll, resL, resV, Nat.reduceEqDiff, ↓reduceIte, Nat.reduceAdd, Nat.reduceMul, Nat.reduceLeDiff, Nat.reduceLT, reduceCtorEq, labOk, Int.reduceBEq, Int.reduceBNe, Int.reduceToNat, Int.reduceLE, Int.reduceLT, Int.reduceEq, Nat.reduceDiv, Nat.reduceMod, Nat.reduceSub, Nat.reduceBEq, fitR, fitR1, fitR0, fitRL1, fitRL, y87, gCk, isNumS, h1, h2, h3, h4, h5', h6', hE]
          · have h5' : (b == 0) = false := by simpa using h5
            have hE : gateE a b c = 0 := gateE_0.2 ⟨k1, k2, by omega, fun h => absurd h h5⟩
            simp (config := { maxSteps := 9000000 }) only [↓vyD, vyU, binS, SV.go1, SV.go0, mkRow, intsOf, boolsOf, strsOf, chunks, Row.rep, Row.cat, Row.sub, Row.put, Row.len, Row.get, Row.size, Row.flat, bnds, own0, own1, labsL, labsR, SV.labs, argsOf, entFr, SO.ev, St.of, keepSt, getAll, lookN, hasN, SV.cells, SV.one, SV.res1, SV.res0, SV.resP, SV.ok1, SV.ok0, SV.okN, SV.solid, SV.solid1, SV.solid0, SV.flat0, SV.nm, SV.nm1, SV.nm0, SV.noPtr1, SV.noPtr0, Cel.isFresh, fillP, setAt, partV, eqCells, cellEq, gamY, listsOk, tupOf, takeOwn, SV.ret1, resAll, resL, resV, Nat.reduceEqDiff, ↓reduceIte, Nat.reduceAdd, Nat.reduceMul, Nat.reduceLeDiff, Nat.reduceLT, reduceCtorEq, labOk, Int.reduceBEq, Int.reduceBNe, Int.reduceToNat, Int.reduceLE, Int.reduceLT, Int.reduceEq, Nat.reduceDiv, Nat.reduceMod, Nat.reduceSub, Nat.reduceBEq, fitR, fitR1, fitR0, fitRL1, fitRL, y87, gCk, isNumS, h1, h2, h3, h4, h5', hE]
def takE (a b c i s : Int) : Int := if gateE a b c = 0 ∧ (0 ≤ i ∧ i < 2147483648) ∧ (1 ≤ s ∧ s < 2147483648) then 0 else 1
def takA (a b c i s : Int) : Int := if takE a b c i s = 0 then (if newB a b i s = true then i else a) else 0
def takS (a b c i s : Int) : Int := if takE a b c i s = 0 then (if newB a b i s = true then s else b) else 0
def takD (a b c i s : Int) : Int := if takE a b c i s = 0 then (if newB a b i s = true then c else if c = 1073741824 then c else c + 1) else 0
def takB (a b c i s : Int) : Bool := decide (takE a b c i s = 0) && newB a b i s
theorem takE_0 {a b c i s : Int} : takE a b c i s = 0 ↔ gateE a b c = 0 ∧ (0 ≤ i ∧ i < 2147483648) ∧ (1 ≤ s ∧ s < 2147483648) := by
  unfold takE
  split <;> simp_all
theorem tak_1 {a b c i s : Int} (h : ¬ (gateE a b c = 0 ∧ (0 ≤ i ∧ i < 2147483648) ∧ (1 ≤ s ∧ s < 2147483648))) : takE a b c i s = 1 ∧ takA a b c i s = 0 ∧ takS a b c i s = 0 ∧ takD a b c i s = 0 ∧ takB a b c i s = false := by
  have h1 : takE a b c i s = 1 := if_neg h
  simp [h1, takA, takS, takD, takB]
theorem tak_t {a b c i s : Int} (h : gateE a b c = 0 ∧ (0 ≤ i ∧ i < 2147483648) ∧ (1 ≤ s ∧ s < 2147483648)) (hn : newB a b i s = true) : takE a b c i s = 0 ∧ takA a b c i s = i ∧ takS a b c i s = s ∧ takD a b c i s = c ∧ takB a b c i s = true := by
  have h1 : takE a b c i s = 0 := if_pos h
  simp [h1, takA, takS, takD, takB, hn]
theorem tak_f {a b c i s : Int} (h : gateE a b c = 0 ∧ (0 ≤ i ∧ i < 2147483648) ∧ (1 ≤ s ∧ s < 2147483648)) (hn : newB a b i s = false) : takE a b c i s = 0 ∧ takA a b c i s = a ∧ takS a b c i s = b ∧ takD a b c i s = (if c = 1073741824 then c else c + 1) ∧ takB a b c i s = false := by
  have h1 : takE a b c i s = 0 := if_pos h
  simp [h1, takA, takS, takD, takB, hn]
def gTk : List (Nat × Say) := [(87, gchkS), (105, isNumS), (106, isNewS)]
theorem gTk_ok : GamOk Try.prog (gamY gTk) := gam_ok (gam_cons gchk_ok (gam_cons isNum_ok (gam_cons isNew_ok gam_nil)))
def takeS : Say
  | [.agg [.int .i64 a, .int .i64 b, .int .i64 c], .int .i64 i, .int .i64 s] => some (True, .tup [.agg [.int .i64 (takA a b c i s), .int .i64 (takS a b c i s), .int .i64 (takD a b c i s)], .bool (takB a b c i s), .int .i64 (takE a b c i s)], none)
  | _ => none
theorem take_ok : FOk Try.prog 88 takeS := by
  intro xs p r own h hp
  unfold takeS at h
  split at h
  case h_2 => cases h
  rename_i a b c i s
  simp only [Option.some.injEq, Prod.mk.injEq] at h
  obtain ⟨rfl, rfl, rfl⟩ := h
  refine fun_ok gTk_ok lawy_mixed y88_eq none ?_ (Nat.le_of_ble_eq_true rfl)
  by_cases hg : gateE a b c = 0
  · obtain ⟨g1, g2, g3, g4⟩ := gateE_0.1 hg
    cases h1 : numB i with
    | false =>
      obtain ⟨e1, e2, e3, e4, e5⟩ := tak_1 (a := a) (b := b) (c := c) (i := i) (s := s) fun h => numB_f.1 h1 h.2.1
      simp (config := { maxSteps := 9000000 }) only [↓vyD, vyU, binS, SV.go1, SV.go0, mkRow, intsOf, boolsOf, strsOf, chunks, Row.rep, Row.cat, Row.sub, Row.put, Row.len, Row.get, Row.size, Row.flat, bnds, own0, own1, labsL, labsR, SV.labs, argsOf, entFr, SO.ev, St.of, keepSt, getAll, lookN, hasN, SV.cells, SV.one, SV.res1, SV.res0, SV.resP, SV.ok1, SV.ok0, SV.okN, SV.solid, SV.solid1, SV.solid0, SV.flat0, SV.nm, SV.nm1, SV.nm0, SV.noPtr1, SV.noPtr0, Cel.isFresh, fillP, setAt, partV, eqCells, cellEq, gamY, listsOk, tupOf, takeOwn, SV.ret1, resAll, resL, resV, Nat.reduceEqDiff, ↓reduceIte, Nat.reduceAdd, Nat.reduceMul, Nat.reduceLeDiff, Nat.reduceLT, reduceCtorEq, labOk, Int.reduceBEq, Int.reduceBNe, Int.reduceToNat, Int.reduceLE, Int.reduceLT, Int.reduceEq, Nat.reduceDiv, Nat.reduceMod, Nat.reduceSub, Nat.reduceBEq, fitR, fitR1, fitR0, fitRL1, fitRL, y88, gTk, gchkS, isNumS, isNewS, hg, h1, e1, e2, e3, e4, e5]
    | true =>
      have k1 := numB_t.1 h1
      cases h2 : numB s with
      | false =>
        have h2' := numB_f.1 h2
        obtain ⟨e1, e2, e3, e4, e5⟩ := tak_1 (a := a) (b := b) (c := c) (i := i) (s := s) fun h => h2' (by omega)
        simp (config := { maxSteps := 9000000 }) only [↓vyD, vyU, binS, SV.go1, SV.go0, mkRow, intsOf, boolsOf, strsOf, chunks, Row.rep, Row.cat, Row.sub, Row.put, Row.len, Row.get, Row.size, Row.flat, bnds, own0, own1, labsL, labsR, SV.labs, argsOf, entFr, SO.ev, St.of, keepSt, getAll, lookN, hasN, SV.cells, SV.one, SV.res1, SV.res0, SV.resP, SV.ok1, SV.ok0, SV.okN, SV.solid, SV.solid1, SV.solid0, SV.flat0, SV.nm, SV.nm1, SV.nm0, SV.noPtr1, SV.noPtr0, Cel.isFresh, fillP, setAt, partV, eqCells, cellEq, gamY, listsOk, tupOf, takeOwn, SV.ret1, resAll, resL, resV, Nat.reduceEqDiff, ↓reduceIte, Nat.reduceAdd, Nat.reduceMul, Nat.reduceLeDiff, Nat.reduceLT, reduceCtorEq, labOk, Int.reduceBEq, Int.reduceBNe, Int.reduceToNat, Int.reduceLE, Int.reduceLT, Int.reduceEq, Nat.reduceDiv, Nat.reduceMod, Nat.reduceSub, Nat.reduceBEq, fitR, fitR1, fitR0, fitRL1, fitRL, y88, gTk, gchkS, isNumS, isNewS, hg, h1, h2, e1, e2, e3, e4, e5]
      | true =>
        have k2 := numB_t.1 h2
        by_cases h3 : s = 0
        · have h3' : (s == 0) = true := by simpa using h3
          obtain ⟨e1, e2, e3, e4, e5⟩ := tak_1 (a := a) (b := b) (c := c) (i := i) (s := s) fun h => by omega
          simp (config := { maxSteps := 9000000 }) only [↓vyD, vyU, binS, SV.go1, SV.go0, mkRow, intsOf, boolsOf, strsOf, chunks, Row.rep, Row.cat, Row.sub, Row.put, Row.len, Row.get, Row.size, Row.flat, bnds, own0, own1, labsL, labsR, SV.labs, argsOf, entFr, SO.ev, St.of, keepSt, getAll, lookN, hasN, SV.cells, SV.one, SV.res1, SV.res0, SV.resP, SV.ok1, SV.ok0, SV.okN, SV.solid, SV.solid1, SV.solid0, SV.flat0, SV.nm, SV.nm1, SV.nm0, SV.noPtr1, SV.noPtr0, Cel.isFresh, fillP, setAt, partV, eqCells, cellEq, gamY, listsOk, tupOf, takeOwn, SV.ret1, resAll, resL, resV, Nat.reduceEqDiff, ↓reduceIte, Nat.reduceAdd, Nat.reduceMul, Nat.reduceLeDiff, Nat.reduceLT, reduceCtorEq, labOk, Int.reduceBEq, Int.reduceBNe, Int.reduceToNat, Int.reduceLE, Int.reduceLT, Int.reduceEq, Nat.reduceDiv, Nat.reduceMod, Nat.reduceSub, Nat.reduceBEq, fitR, fitR1, fitR0, fitRL1, fitRL, y88, gTk, gchkS, isNumS, isNewS, hg, h1, h2, h3', e1, e2, e3, e4, e5]
        · have h3' : (s == 0) = false := by simpa using h3
          cases h4 : newB a b i s with
          | true =>
            obtain ⟨e1, e2, e3, e4, e5⟩ := tak_t (a := a) (b := b) (c := c) (i := i) (s := s) ⟨hg, k1, by omega⟩ h4
            simp (config := { maxSteps := 9000000 }) only [↓vyD, vyU, binS, SV.go1, SV.go0, mkRow, intsOf, boolsOf, strsOf, chunks, Row.rep, Row.cat, Row.sub, Row.put, Row.len, Row.get, Row.size, Row.flat, bnds, own0, own1, labsL, labsR, SV.labs, argsOf, entFr, SO.ev, St.of, keepSt, getAll, lookN, hasN, SV.cells, SV.one, SV.res1, SV.res0, SV.resP, SV.ok1, SV.ok0, SV.okN, SV.solid, SV.solid1, SV.solid0, SV.flat0, SV.nm, SV.nm1, SV.nm0, SV.noPtr1, SV.noPtr0, Cel.isFresh, fillP, setAt, partV, eqCells, cellEq, gamY, listsOk, tupOf, takeOwn, SV.ret1, resAll, resL, resV, Nat.reduceEqDiff, ↓reduceIte, Nat.reduceAdd, Nat.reduceMul, Nat.reduceLeDiff, Nat.reduceLT, reduceCtorEq, labOk, Int.reduceBEq, Int.reduceBNe, Int.reduceToNat, Int.reduceLE, Int.reduceLT, Int.reduceEq, Nat.reduceDiv, Nat.reduceMod, Nat.reduceSub, Nat.reduceBEq, fitR, fitR1, fitR0, fitRL1, fitRL, y88, gTk, gchkS, isNumS, isNewS, hg, h1, h2, h3', h4, e1, e2, e3, e4, e5]
          | false =>
            obtain ⟨e1, e2, e3, e4, e5⟩ := tak_f (a := a) (b := b) (c := c) (i := i) (s := s) ⟨hg, k1, by omega⟩ h4
            have w1 := i64_wrap (show I64 (c + 1) by unfold I64; omega)
            have m1 : (if (1073741824 : Int) < c + 1 then (1073741824 : Int) else c + 1) = if c = 1073741824 then c else c + 1 := by split <;> split <;> omega
            simp (config := { maxSteps := 9000000 }) only [↓vyD, vyU, binS, SV.go1, SV.go0, mkRow, intsOf, boolsOf, strsOf, chunks, Row.rep, Row.cat, Row.sub, Row.put, Row.len, Row.get, Row.size, Row.flat, bnds, own0, own1, labsL, labsR, SV.labs, argsOf, entFr, SO.ev, St.of, keepSt, getAll, lookN, hasN, SV.cells, SV.one, SV.res1, SV.res0, SV.resP, SV.ok1, SV.ok0, SV.okN, SV.solid, SV.solid1, SV.solid0, SV.flat0, SV.nm, SV.nm1, SV.nm0, SV.noPtr1, SV.noPtr0, Cel.isFresh, fillP, setAt, partV, eqCells, cellEq, gamY, listsOk, tupOf, takeOwn, SV.ret1, resAll, resL, resV, Nat.reduceEqDiff, ↓reduceIte, Nat.reduceAdd, Nat.reduceMul, Nat.reduceLeDiff, Nat.reduceLT, reduceCtorEq, labOk, Int.reduceBEq, Int.reduceBNe, Int.reduceToNat, Int.reduceLE, Int.reduceLT, Int.reduceEq, Nat.reduceDiv, Nat.reduceMod, Nat.reduceSub, Nat.reduceBEq, fitR, fitR1, fitR0, fitRL1, fitRL, y88, gTk, gchkS, isNumS, isNewS, hg, h1, h2, h3', h4, w1, m1, e1, e2, e3, e4, e5]
  · have hE : gateE a b c = 1 := by rcases gateE_01 a b c with h | h <;> simp_all
    obtain ⟨e1, e2, e3, e4, e5⟩ := tak_1 (a := a) (b := b) (c := c) (i := i) (s := s) fun h => hg h.1
    simp (config := { maxSteps := 9000000 }) only [↓vyD, vyU, binS, SV.go1, SV.go0, mkRow, intsOf, boolsOf, strsOf, chunks, Row.rep, Row.cat, Row.sub, Row.put, Row.len, Row.get, Row.size, Row.flat, bnds, own0, own1, labsL, labsR, SV.labs, argsOf, entFr, SO.ev, St.of, keepSt, getAll, lookN, hasN, SV.cells, SV.one, SV.res1, SV.res0, SV.resP, SV.ok1, SV.ok0, SV.okN, SV.solid, SV.solid1, SV.solid0, SV.flat0, SV.nm, SV.nm1, SV.nm0, SV.noPtr1, SV.noPtr0, Cel.isFresh, fillP, setAt, partV, eqCells, cellEq, gamY, listsOk, tupOf, takeOwn, SV.ret1, resAll, resL, resV, Nat.reduceEqDiff, ↓reduceIte, Nat.reduceAdd, Nat.reduceMul, Nat.reduceLeDiff, Nat.reduceLT, reduceCtorEq, labOk, Int.reduceBEq, Int.reduceBNe, Int.reduceToNat, Int.reduceLE, Int.reduceLT, Int.reduceEq, Nat.reduceDiv, Nat.reduceMod, Nat.reduceSub, Nat.reduceBEq, fitR, fitR1, fitR0, fitRL1, fitRL, y88, gTk, gchkS, isNumS, isNewS, hE, e1, e2, e3, e4, e5]
end Go.Proofs.Ytgklfolmlcfjgaa
