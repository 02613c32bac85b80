/- What the functions of stat do, and the statements' helpers: spreads, means, values. -/
import Derived.Test.YtgklfolmlcfjgaaYS2
namespace Go.Proofs.Ytgklfolmlcfjgaa
open Go.RowKit Y
set_option linter.unusedSimpArgs false
set_option linter.unusedVariables false
set_option maxRecDepth 100000
set_option maxHeartbeats 4000000
theorem checkE_0 {a b c : Int} : checkE a b c = 0 ↔ (0 ≤ a ∧ a ≤ 64) ∧ (0 ≤ b ∧ b ≤ a * 16777216) ∧ (b ≤ c ∧ c ≤ b * 16777216) ∧ 0 ≤ a * c - b * b := by
  unfold checkE
  by_cases c1 : a < 0 ∨ 64 < a
  · rw [if_pos c1]; omega
  · rw [if_neg c1]
    by_cases c2 : b < 0 ∨ a * 16777216 < b
    · rw [if_pos c2]; omega
    · rw [if_neg c2]
      by_cases c3 : c < b ∨ b * 16777216 < c
      · rw [if_pos c3]; omega
      · rw [if_neg c3]
        by_cases c4 : a * c - b * b < 0
        · rw [if_pos c4]; omega
        · rw [if_neg c4]; omega
def g3 : List (Nat × Say) := [(111, checkS), (112, spreadS)]
theorem g3_ok : GamOk Try.prog (gamY g3) := gam_ok (gam_cons check_ok (gam_cons spread_ok gam_nil))
def spreadXS : Say
  | [.agg [.int .i64 a, .int .i64 b, .int .i64 c]] => some (True, .tup [.int .i64 (if checkE a b c = 0 then a * c - b * b else 0), .int .i64 (checkE a b c)], none)
  | _ => none
theorem spreadX_ok : FOk Try.prog 96 spreadXS := by
  intro xs p r own h hp
  unfold spreadXS at h
  split at h
  · rename_i a b c
    simp only [Option.some.injEq, Prod.mk.injEq] at h
    obtain ⟨rfl, rfl, rfl⟩ := h
    refine fun_ok g3_ok lawy_mixed y96_eq none ?_ (Nat.le_of_ble_eq_true rfl)
    by_cases he : checkE a b c = 0
    · obtain ⟨⟨h1, h2⟩, ⟨h3, h4⟩, ⟨h5, h6⟩, h7⟩ := checkE_0.1 he
      obtain ⟨q1, q2, q3, q4, q5, q6⟩ := check_bd h1 h2 h3 h4 h5 h6
      have b1 : I64 (a * c) := by unfold I64; omega
      have b2 : I64 (b * b) := by unfold I64; omega
      have b3 : I64 (a * c - b * b) := by unfold I64; omega
      simp (config := { maxSteps := 9000000 }) only [↓vyD, vyU, binS, SV.go1, SV.go0, mkRow, intsOf, boolsOf, strsOf, chunks, Row.rep, Row.cat, Row.sub, Row.put, Row.len, Row.get, Row.size, Row.flat, bnds, own0, own1, labsL, labsR, SV.labs, argsOf, entFr, SO.ev, St.of, keepSt, getAll, lookN, hasN, SV.cells, SV.one, SV.res1, SV.res0, SV.resP, SV.ok1, SV.ok0, SV.okN, SV.solid, SV.solid1, SV.solid0, SV.flat0, SV.nm, SV.nm1, SV.nm0, SV.noPtr1, SV.noPtr0, Cel.isFresh, fillP, setAt, partV, eqCells, cellEq, gamY, listsOk, tupOf, takeOwn, SV.ret1, resAll, resL, resV, Nat.reduceEqDiff, ↓reduceIte, Nat.reduceAdd, Nat.reduceMul, Nat.reduceLeDiff, Nat.reduceLT, reduceCtorEq, labOk, Int.reduceBEq, Int.reduceBNe, Int.reduceToNat, Int.reduceLE, Int.reduceLT, Int.reduceEq, Nat.reduceDiv, Nat.reduceMod, Nat.reduceSub, Nat.reduceBEq, y96, fitR, fitR1, fitR0, fitRL1, fitRL, g3, checkS, spreadS, he, b1, b2, b3]
    · have he' : (checkE a b c != 0) = true := by simpa using he
      simp (config := { maxSteps := 9000000 }) only [↓vyD, vyU, binS, SV.go1, SV.go0, mkRow, intsOf, boolsOf, strsOf, chunks, Row.rep, Row.cat, Row.sub, Row.put, Row.len, Row.get, Row.size, Row.flat, bnds, own0, own1, labsL, labsR, SV.labs, argsOf, entFr, SO.ev, St.of, keepSt, getAll, lookN, hasN, SV.cells, SV.one, SV.res1, SV.res0, SV.resP, SV.ok1, SV.ok0, SV.okN, SV.solid, SV.solid1, SV.solid0, SV.flat0, SV.nm, SV.nm1, SV.nm0, SV.noPtr1, SV.noPtr0, Cel.isFresh, fillP, setAt, partV, eqCells, cellEq, gamY, listsOk, tupOf, takeOwn, SV.ret1, resAll, resL, resV, Nat.reduceEqDiff, ↓reduceIte, Nat.reduceAdd, Nat.reduceMul, Nat.reduceLeDiff, Nat.reduceLT, reduceCtorEq, labOk, Int.reduceBEq, Int.reduceBNe, Int.reduceToNat, Int.reduceLE, Int.reduceLT, Int.reduceEq, Nat.reduceDiv, Nat.reduceMod, Nat.reduceSub, Nat.reduceBEq, y96, fitR, fitR1, fitR0, fitRL1, fitRL, g3, checkS, spreadS, he', he]
  · cases h
end Go.Proofs.Ytgklfolmlcfjgaa
