/- What slices.Index, Contains and IsSorted do; the statements' first word on rank. -/
import Derived.Test.YtnaloeoiobcifaaYM4
namespace Go.Proofs.Ytnaloeoiobcifaa
open Go.ChangeShapes Go.WideShapes Go.ChangeAt Go.RowKit Go.Joins Y
set_option linter.unusedSimpArgs false
set_option linter.unusedVariables false
set_option maxRecDepth 100000
set_option maxHeartbeats 40000000
def nanS : Say
  | [.int .i64 a] => some (True, .bool false, none)
  | _ => none
theorem nan_ok : FOk Try.prog 119 nanS := by
  intro xs p r own h hp
  unfold nanS at h
  split at h
  case h_2 => cases h
  rename_i a
  simp only [Option.some.injEq, Prod.mk.injEq] at h
  obtain ⟨rfl, rfl, rfl⟩ := h
  refine fun_ok (gam_ok gam_nil) lawy_mixed y119_eq none ?_ (Nat.le_of_ble_eq_true rfl)
  simp (config := { maxSteps := 9000000 }) only [↓vyD, vyU, binS, SV.go1, SV.go0, mkRow, intsOf, boolsOf, strsOf, chunks, Row.rep, Row.cat, Row.sub, Row.put, Row.len, Row.get, Row.size, Row.flat, bnds, own0, own1, labsL, labsR, SV.labs, argsOf, entFr, SO.ev, St.of, keepSt, getAll, lookN, hasN, SV.cells, SV.one, SV.res1, SV.res0, SV.resP, SV.ok1, SV.ok0, SV.okN, SV.solid, SV.solid1, SV.solid0, SV.flat0, SV.nm, SV.nm1, SV.nm0, SV.noPtr1, SV.noPtr0, Cel.isFresh, fillP, setAt, partV, eqCells, cellEq, gamY, listsOk, tupOf, takeOwn, SV.ret1, resAll, resL, resV, Nat.reduceEqDiff, ↓reduceIte, Nat.reduceAdd, Nat.reduceMul, Nat.reduceLeDiff, Nat.reduceLT, reduceCtorEq, labOk, Int.reduceBEq, Int.reduceBNe, Int.reduceToNat, Int.reduceLE, Int.reduceLT, Int.reduceEq, Nat.reduceDiv, Nat.reduceMod, Nat.reduceSub, Nat.reduceBEq, fitR, fitR1, fitR0, fitRL1, fitRL, y119]
def gN : List (Nat × Say) := [(119, nanS)]
theorem gN_ok : GamOk Try.prog (gamY gN) := gam_ok (gam_cons nan_ok gam_nil)
def less1S : Say
  | [.int .i64 a, .int .i64 b] => some (True, .bool (decide (a < b)), none)
  | _ => none
theorem less1_ok : FOk Try.prog 103 less1S := by
  intro xs p r own h hp
  unfold less1S at h
  split at h
  case h_2 => cases h
  rename_i a b
  simp only [Option.some.injEq, Prod.mk.injEq] at h
  obtain ⟨rfl, rfl, rfl⟩ := h
  refine fun_ok gN_ok lawy_mixed y103_eq none ?_ (Nat.le_of_ble_eq_true rfl)
  simp (config := { maxSteps := 9000000 }) only [↓vyD, vyU, binS, SV.go1, SV.go0, mkRow, intsOf, boolsOf, strsOf, chunks, Row.rep, Row.cat, Row.sub, Row.put, Row.len, Row.get, Row.size, Row.flat, bnds, own0, own1, labsL, labsR, SV.labs, argsOf, entFr, SO.ev, St.of, keepSt, getAll, lookN, hasN, SV.cells, SV.one, SV.res1, SV.res0, SV.resP, SV.ok1, SV.ok0, SV.okN, SV.solid, SV.solid1, SV.solid0, SV.flat0, SV.nm, SV.nm1, SV.nm0, SV.noPtr1, SV.noPtr0, Cel.isFresh, fillP, setAt, partV, eqCells, cellEq, gamY, listsOk, tupOf, takeOwn, SV.ret1, resAll, resL, resV, Nat.reduceEqDiff, ↓reduceIte, Nat.reduceAdd, Nat.reduceMul, Nat.reduceLeDiff, Nat.reduceLT, reduceCtorEq, labOk, Int.reduceBEq, Int.reduceBNe, Int.reduceToNat, Int.reduceLE, Int.reduceLT, Int.reduceEq, Nat.reduceDiv, Nat.reduceMod, Nat.reduceSub, Nat.reduceBEq, fitR, fitR1, fitR0, fitRL1, fitRL, y103, gN, nanS]
def gIs : List (Nat × Say) := [(103, less1S)]
theorem gIs_ok : GamOk Try.prog (gamY gIs) := gam_ok (gam_cons less1_ok gam_nil)
/-- The first place of x, or -1. -/
def idxI (l : List Int) (x : Int) : Int := if l.contains x then (l.idxOf x : Int) else -1
def gCt : List (Nat × Say) := []
theorem gCt_ok : GamOk Try.prog (gamY gCt) := gam_ok gam_nil
def gBg : List (Nat × Say) := [(19, equalS)]
theorem gBg_ok : GamOk Try.prog (gamY gBg) := gam_ok (gam_cons equal_ok gam_nil)
end Go.Proofs.Ytnaloeoiobcifaa
