/- What stat.Join does. -/
import Derived.Test.YtnaloeoiobcifaaYS3
import Derived.Test.YtnaloeoiobcifaaYM3
namespace Go.Proofs.Ytnaloeoiobcifaa
open Go.RowKit Y
set_option linter.unusedSimpArgs false
set_option linter.unusedVariables false
set_option maxRecDepth 100000
set_option maxHeartbeats 4000000
def joinE (a b c a' b' c' : Int) : Int := if checkE a b c = 0 then (if checkE a' b' c' = 0 then (if 64 < a + a' then 2 else 0) else checkE a' b' c') else checkE a b c
def joinV (a b c a' b' c' : Int) : SV := if joinE a b c a' b' c' = 0 then sv3 (a + a') (b + b') (c + c') else sv3 0 0 0
def joinS : Say
  | [.agg [.int .i64 a, .int .i64 b, .int .i64 c], .agg [.int .i64 a', .int .i64 b', .int .i64 c']] => some (True, .tup [joinV a b c a' b' c', .int .i64 (joinE a b c a' b' c')], none)
  | _ => none
theorem join_ok : FOk Try.prog 47 joinS := by
  intro xs p r own h hp
  unfold joinS at h
  split at h
  · rename_i a b c a' b' c'
    simp only [Option.some.injEq, Prod.mk.injEq] at h
    obtain ⟨rfl, rfl, rfl⟩ := h
    refine fun_ok (Γ := gamY [(69, checkS), (89, plusS)]) (gam_ok (gam_cons check_ok (gam_cons plus_ok gam_nil))) lawy_mixed y47_eq none ?_ (Nat.le_of_ble_eq_true rfl)
    by_cases he : checkE a b c = 0
    · obtain ⟨⟨h1, h2⟩, ⟨h3, h4⟩, ⟨h5, h6⟩, h7⟩ := checkE_0.1 he
      by_cases he' : checkE a' b' c' = 0
      · obtain ⟨⟨k1, k2⟩, ⟨k3, k4⟩, ⟨k5, k6⟩, k7⟩ := checkE_0.1 he'
        have b1 : I64 (a + a') := by unfold I64; omega
        have b2 : I64 (b + b') := by unfold I64; omega
        have b3 : I64 (c + c') := by unfold I64; omega
        by_cases h64 : 64 < a + a'
        · have hj : joinE a b c a' b' c' = 2 := by simp [joinE, he, he', h64]
          simp only [joinV, hj]
          simp (config := { maxSteps := 9000000 }) only [↓vyD, vyU, binS, SV.go1, SV.go0, mkRow, intsOf, boolsOf, strsOf, chunks, Row.rep, Row.cat, Row.sub, Row.put, Row.len, Row.get, Row.size, Row.flat, bnds, own0, own1, labsL, labsR, SV.labs, argsOf, entFr, SO.ev, St.of, keepSt, getAll, lookN, hasN, SV.cells, SV.one, SV.res1, SV.res0, SV.resP, SV.ok1, SV.ok0, SV.okN, SV.solid, SV.solid1, SV.solid0, SV.flat0, SV.nm, SV.nm1, SV.nm0, SV.noPtr1, SV.noPtr0, Cel.isFresh, fillP, setAt, partV, eqCells, cellEq, gamY, listsOk, tupOf, takeOwn, SV.ret1, resAll, resL, resV, Nat.reduceEqDiff, ↓reduceIte, Nat.reduceAdd, Nat.reduceMul, Nat.reduceLeDiff, Nat.reduceLT, reduceCtorEq, labOk, Int.reduceBEq, Int.reduceBNe, Int.reduceToNat, Int.reduceLE, Int.reduceLT, Int.reduceEq, Nat.reduceDiv, Nat.reduceMod, Nat.reduceSub, Nat.reduceBEq, y47, fitR, fitR1, fitR0, fitRL1, fitRL, checkS, plusS, he, he', i64_wrap b1, h64, sv3, b1, b2, b3]
        · have hj : joinE a b c a' b' c' = 0 := by simp [joinE, he, he', h64]
          simp only [joinV, hj]
          simp (config := { maxSteps := 9000000 }) only [↓vyD, vyU, binS, SV.go1, SV.go0, mkRow, intsOf, boolsOf, strsOf, chunks, Row.rep, Row.cat, Row.sub, Row.put, Row.len, Row.get, Row.size, Row.flat, bnds, own0, own1, labsL, labsR, SV.labs, argsOf, entFr, SO.ev, St.of, keepSt, getAll, lookN, hasN, SV.cells, SV.one, SV.res1, SV.res0, SV.resP, SV.ok1, SV.ok0, SV.okN, SV.solid, SV.solid1, SV.solid0, SV.flat0, SV.nm, SV.nm1, SV.nm0, SV.noPtr1, SV.noPtr0, Cel.isFresh, fillP, setAt, partV, eqCells, cellEq, gamY, listsOk, tupOf, takeOwn, SV.ret1, resAll, resL, resV, Nat.reduceEqDiff, ↓reduceIte, Nat.reduceAdd, Nat.reduceMul, Nat.reduceLeDiff, Nat.reduceLT, reduceCtorEq, labOk, Int.reduceBEq, Int.reduceBNe, Int.reduceToNat, Int.reduceLE, Int.reduceLT, Int.reduceEq, Nat.reduceDiv, Nat.reduceMod, Nat.reduceSub, Nat.reduceBEq, y47, fitR, fitR1, fitR0, fitRL1, fitRL, checkS, plusS, he, he', i64_wrap b1, h64, sv3, b1, b2, b3]
      · have hj : joinE a b c a' b' c' = checkE a' b' c' := by simp [joinE, he, he']
        have hne : (checkE a' b' c' != 0) = true := by simpa using he'
        simp only [joinV, hj, he', if_false]
        simp (config := { maxSteps := 9000000 }) only [↓vyD, vyU, binS, SV.go1, SV.go0, mkRow, intsOf, boolsOf, strsOf, chunks, Row.rep, Row.cat, Row.sub, Row.put, Row.len, Row.get, Row.size, Row.flat, bnds, own0, own1, labsL, labsR, SV.labs, argsOf, entFr, SO.ev, St.of, keepSt, getAll, lookN, hasN, SV.cells, SV.one, SV.res1, SV.res0, SV.resP, SV.ok1, SV.ok0, SV.okN, SV.solid, SV.solid1, SV.solid0, SV.flat0, SV.nm, SV.nm1, SV.nm0, SV.noPtr1, SV.noPtr0, Cel.isFresh, fillP, setAt, partV, eqCells, cellEq, gamY, listsOk, tupOf, takeOwn, SV.ret1, resAll, resL, resV, Nat.reduceEqDiff, ↓reduceIte, Nat.reduceAdd, Nat.reduceMul, Nat.reduceLeDiff, Nat.reduceLT, reduceCtorEq, labOk, Int.reduceBEq, Int.reduceBNe, Int.reduceToNat, Int.reduceLE, Int.reduceLT, Int.reduceEq, Nat.reduceDiv, Nat.reduceMod, Nat.reduceSub, Nat.reduceBEq, y47, fitR, fitR1, fitR0, fitRL1, fitRL, checkS, plusS, he, hne, sv3]
    · have hj : joinE a b c a' b' c' = checkE a b c := by simp [joinE, he]
      have hne : (checkE a b c != 0) = true := by simpa using he
      simp only [joinV, hj, he, if_false]
      simp (config := { maxSteps := 9000000 }) only [↓vyD, vyU, binS, SV.go1, SV.go0, mkRow, intsOf, boolsOf, strsOf, chunks, Row.rep, Row.cat, Row.sub, Row.put, Row.len, Row.get, Row.size, Row.flat, bnds, own0, own1, labsL, labsR, SV.labs, argsOf, entFr, SO.ev, St.of, keepSt, getAll, lookN, hasN, SV.cells, SV.one, SV.res1, SV.res0, SV.resP, SV.ok1, SV.ok0, SV.okN, SV.solid, SV.solid1, SV.solid0, SV.flat0, SV.nm, SV.nm1, SV.nm0, SV.noPtr1, SV.noPtr0, Cel.isFresh, fillP, setAt, partV, eqCells, cellEq, gamY, listsOk, tupOf, takeOwn, SV.ret1, resAll, resL, resV, Nat.reduceEqDiff, ↓reduceIte, Nat.reduceAdd, Nat.reduceMul, Nat.reduceLeDiff, Nat.reduceLT, reduceCtorEq, labOk, Int.reduceBEq, Int.reduceBNe, Int.reduceToNat, Int.reduceLE, Int.reduceLT, Int.reduceEq, Nat.reduceDiv, Nat.reduceMod, Nat.reduceSub, Nat.reduceBEq, y47, fitR, fitR1, fitR0, fitRL1, fitRL, checkS, plusS, hne, sv3]
  · cases h
theorem sumL_append (l r : List Int) : sumL (l ++ r) = sumL l + sumL r := by simp [sumL]
theorem sqL_append (l r : List Int) : sqL (l ++ r) = sqL l + sqL r := by simp [sqL]
end Go.Proofs.Ytnaloeoiobcifaa
