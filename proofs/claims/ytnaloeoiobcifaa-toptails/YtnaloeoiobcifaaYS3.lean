/- What the functions of stat do, and the statements' helpers: spreads, means, values. -/
import Derived.Test.YtnaloeoiobcifaaYS2
namespace Go.Proofs.Ytnaloeoiobcifaa
open Go.RowKit Y
set_option linter.unusedSimpArgs false
set_option linter.unusedVariables false
set_option maxRecDepth 100000
set_option maxHeartbeats 4000000
theorem checkE_0 {a b c : Int} : checkE a b c = 0 ↔ (0 ≤ a ∧ a ≤ 64) ∧ (0 ≤ b ∧ b ≤ a * 16777216) ∧ (b ≤ c ∧ c ≤ b * 16777216) ∧ 0 ≤ a * c - b * b := by
  unfold checkE
  by_cases c1 : a < 0 ∨ 64 < a
  · rw [if_pos c1]; omega
  · rw [if_neg c1]
    by_cases c2 : b < 0 ∨ a * 16777216 < b
    · rw [if_pos c2]; omega
    · rw [if_neg c2]
      by_cases c3 : c < b ∨ b * 16777216 < c
      · rw [if_pos c3]; omega
      · rw [if_neg c3]
        by_cases c4 : a * c - b * b < 0
        · rw [if_pos c4]; omega
        · rw [if_neg c4]; omega
def g3 : List (Nat × Say) := [(69, checkS), (106, spreadS)]
theorem g3_ok : GamOk Try.prog (gamY g3) := gam_ok (gam_cons check_ok (gam_cons spread_ok gam_nil))
def spreadXS : Say
  | [.agg [.int .i64 a, .int .i64 b, .int .i64 c]] => some (True, .tup [.int .i64 (if checkE a b c = 0 then a * c - b * b else 0), .int .i64 (checkE a b c)], none)
  | _ => none
theorem spreadX_ok : FOk Try.prog 70 spreadXS := by
  intro xs p r own h hp
  unfold spreadXS at h
  split at h
  · rename_i a b c
    simp only [Option.some.injEq, Prod.mk.injEq] at h
    obtain ⟨rfl, rfl, rfl⟩ := h
    refine fun_ok g3_ok lawy_mixed y70_eq none ?_ (Nat.le_of_ble_eq_true rfl)
    by_cases he : checkE a b c = 0
    · obtain ⟨⟨h1, h2⟩, ⟨h3, h4⟩, ⟨h5, h6⟩, h7⟩ := checkE_0.1 he
      obtain ⟨q1, q2, q3, q4, q5, q6⟩ := check_bd h1 h2 h3 h4 h5 h6
      have b1 : I64 (a * c) := by unfold I64; omega
      have b2 : I64 (b * b) := by unfold I64; omega
      have b3 : I64 (a * c - b * b) := by unfold I64; omega
      simp (config := { maxSteps := 9000000 }) only [↓vyD, vyU, binS, SV.go1, SV.go0, mkRow, intsOf, boolsOf, strsOf, chunks, Row.rep, Row.cat, Row.sub, Row.put, Row.len, Row.get, Row.size, Row.flat, bnds, own0, own1, labsL, labsR, SV.labs, argsOf, entFr, SO.ev, St.of, keepSt, getAll, lookN, hasN, SV.cells, SV.one, SV.res1, SV.res0, SV.resP, SV.ok1, SV.ok0, SV.okN, SV.solid, SV.solid1, SV.solid0, SV.flat0, SV.nm, SV.nm1, SV.nm0, SV.noPtr1, SV.noPtr0, Cel.isFresh, fillP, setAt, partV, eqCells, cellEq, gamY, listsOk, tupOf, takeOwn, SV.ret1, resAll, resL, resV, Nat.reduceEqDiff, ↓reduceIte, Nat.reduceAdd, Nat.reduceMul, Nat.reduceLeDiff, Nat.reduceLT, reduceCtorEq, labOk, Int.reduceBEq, Int.reduceBNe, Int.reduceToNat, Int.reduceLE, Int.reduceLT, Int.reduceEq, Nat.reduceDiv, Nat.reduceMod, Nat.reduceSub, Nat.reduceBEq, y70, fitR, fitR1, fitR0, fitRL1, fitRL, g3, checkS, spreadS, he, b1, b2, b3]
    · have he' : (checkE a b c != 0) = true := by simpa using he
      simp (config := { maxSteps := 9000000 }) only [↓vyD, vyU, binS, SV.go1, SV.go0, mkRow, intsOf, boolsOf, strsOf, chunks, Row.rep, Row.cat, Row.sub, Row.put, Row.len, Row.get, Row.size, Row.flat, bnds, own0, own1, labsL, labsR, SV.labs, argsOf, entFr, SO.ev, St.of, keepSt, getAll, lookN, hasN, SV.cells, SV.one, SV.res1, SV.res0, SV.resP, SV.ok1, SV.ok0, SV.okN, SV.solid, SV.solid1, SV.solid0, SV.flat0, SV.nm, SV.nm1, SV.nm0, SV.noPtr1, SV.noPtr0, Cel.isFresh, fillP, setAt, partV, eqCells, cellEq, gamY, listsOk, tupOf, takeOwn, SV.ret1, resAll, resL, resV, Nat.reduceEqDiff, ↓reduceIte, Nat.reduceAdd, Nat.reduceMul, Nat.reduceLeDiff, Nat.reduceLT, reduceCtorEq, labOk, Int.reduceBEq, Int.reduceBNe, Int.reduceToNat, Int.reduceLE, Int.reduceLT, Int.reduceEq, Nat.reduceDiv, Nat.reduceMod, Nat.reduceSub, Nat.reduceBEq, y70, fitR, fitR1, fitR0, fitRL1, fitRL, g3, checkS, spreadS, he', he]
  · cases h
def meanE (a b c : Int) : Int := if checkE a b c = 0 then (if a = 0 then 4 else 0) else checkE a b c
def meanV (a b c : Int) : Int := if checkE a b c = 0 then (if a = 0 then 0 else b / a) else 0
def meanS : Say
  | [.agg [.int .i64 a, .int .i64 b, .int .i64 c]] => some (True, .tup [.int .i64 (meanV a b c), .int .i64 (meanE a b c)], none)
  | _ => none
theorem mean_ok : FOk Try.prog 60 meanS := by
  intro xs p r own h hp
  unfold meanS at h
  split at h
  · rename_i a b c
    simp only [Option.some.injEq, Prod.mk.injEq] at h
    obtain ⟨rfl, rfl, rfl⟩ := h
    refine fun_ok g3_ok lawy_mixed y60_eq none ?_ (Nat.le_of_ble_eq_true rfl)
    by_cases he : checkE a b c = 0
    · obtain ⟨⟨h1, h2⟩, ⟨h3, h4⟩, ⟨h5, h6⟩, h7⟩ := checkE_0.1 he
      by_cases h0 : a = 0
      · subst h0
        simp (config := { maxSteps := 9000000 }) only [↓vyD, vyU, binS, SV.go1, SV.go0, mkRow, intsOf, boolsOf, strsOf, chunks, Row.rep, Row.cat, Row.sub, Row.put, Row.len, Row.get, Row.size, Row.flat, bnds, own0, own1, labsL, labsR, SV.labs, argsOf, entFr, SO.ev, St.of, keepSt, getAll, lookN, hasN, SV.cells, SV.one, SV.res1, SV.res0, SV.resP, SV.ok1, SV.ok0, SV.okN, SV.solid, SV.solid1, SV.solid0, SV.flat0, SV.nm, SV.nm1, SV.nm0, SV.noPtr1, SV.noPtr0, Cel.isFresh, fillP, setAt, partV, eqCells, cellEq, gamY, listsOk, tupOf, takeOwn, SV.ret1, resAll, resL, resV, Nat.reduceEqDiff, ↓reduceIte, Nat.reduceAdd, Nat.reduceMul, Nat.reduceLeDiff, Nat.reduceLT, reduceCtorEq, labOk, Int.reduceBEq, Int.reduceBNe, Int.reduceToNat, Int.reduceLE, Int.reduceLT, Int.reduceEq, Nat.reduceDiv, Nat.reduceMod, Nat.reduceSub, Nat.reduceBEq, y60, fitR, fitR1, fitR0, fitRL1, fitRL, g3, checkS, spreadS, he, meanV, meanE]
      · have h0' : (a == 0) = false := by simpa using h0
        have e1 : b.tdiv a = b / a := Int.tdiv_eq_ediv_of_nonneg h3
        have e2 : b / a ≤ b := Int.ediv_le_self _ h3
        have e3 : 0 ≤ b / a := Int.ediv_nonneg h3 h1
        have e4 : IntKind.i64.wrap (b / a) = b / a := i64_wrap (by unfold I64; omega)
        simp (config := { maxSteps := 9000000 }) only [↓vyD, vyU, binS, SV.go1, SV.go0, mkRow, intsOf, boolsOf, strsOf, chunks, Row.rep, Row.cat, Row.sub, Row.put, Row.len, Row.get, Row.size, Row.flat, bnds, own0, own1, labsL, labsR, SV.labs, argsOf, entFr, SO.ev, St.of, keepSt, getAll, lookN, hasN, SV.cells, SV.one, SV.res1, SV.res0, SV.resP, SV.ok1, SV.ok0, SV.okN, SV.solid, SV.solid1, SV.solid0, SV.flat0, SV.nm, SV.nm1, SV.nm0, SV.noPtr1, SV.noPtr0, Cel.isFresh, fillP, setAt, partV, eqCells, cellEq, gamY, listsOk, tupOf, takeOwn, SV.ret1, resAll, resL, resV, Nat.reduceEqDiff, ↓reduceIte, Nat.reduceAdd, Nat.reduceMul, Nat.reduceLeDiff, Nat.reduceLT, reduceCtorEq, labOk, Int.reduceBEq, Int.reduceBNe, Int.reduceToNat, Int.reduceLE, Int.reduceLT, Int.reduceEq, Nat.reduceDiv, Nat.reduceMod, Nat.reduceSub, Nat.reduceBEq, y60, fitR, fitR1, fitR0, fitRL1, fitRL, g3, checkS, spreadS, he, meanV, meanE, h0', h0, e1, e4, ne_eq, not_false_eq_true]
    · have he' : (checkE a b c != 0) = true := by simpa using he
      simp (config := { maxSteps := 9000000 }) only [↓vyD, vyU, binS, SV.go1, SV.go0, mkRow, intsOf, boolsOf, strsOf, chunks, Row.rep, Row.cat, Row.sub, Row.put, Row.len, Row.get, Row.size, Row.flat, bnds, own0, own1, labsL, labsR, SV.labs, argsOf, entFr, SO.ev, St.of, keepSt, getAll, lookN, hasN, SV.cells, SV.one, SV.res1, SV.res0, SV.resP, SV.ok1, SV.ok0, SV.okN, SV.solid, SV.solid1, SV.solid0, SV.flat0, SV.nm, SV.nm1, SV.nm0, SV.noPtr1, SV.noPtr0, Cel.isFresh, fillP, setAt, partV, eqCells, cellEq, gamY, listsOk, tupOf, takeOwn, SV.ret1, resAll, resL, resV, Nat.reduceEqDiff, ↓reduceIte, Nat.reduceAdd, Nat.reduceMul, Nat.reduceLeDiff, Nat.reduceLT, reduceCtorEq, labOk, Int.reduceBEq, Int.reduceBNe, Int.reduceToNat, Int.reduceLE, Int.reduceLT, Int.reduceEq, Nat.reduceDiv, Nat.reduceMod, Nat.reduceSub, Nat.reduceBEq, y60, fitR, fitR1, fitR0, fitRL1, fitRL, g3, checkS, spreadS, he', he, meanV, meanE]
  · cases h
def sumsS : Say
  | [x] => (asI x).map fun l => (True, ofV l, none)
  | _ => none
theorem sums_ok : FOk Try.prog 48 sumsS := by
  intro xs p r own h hp
  unfold sumsS at h
  split at h
  · rename_i x
    obtain ⟨l, hx, h⟩ := Option.map_eq_some_iff.1 h
    simp only [Prod.mk.injEq] at h
    obtain ⟨rfl, rfl, rfl⟩ := h
    refine fun_fit (ys := [.rw (.ints .i64 l)]) ?_ ⟨asI_fit hx, trivial⟩
    refine fun_ok (Γ := gamY [(49, ofS)]) (gam_ok (gam_cons of_ok gam_nil)) lawy_mixed y48_eq none ?_ (Nat.le_of_ble_eq_true rfl)
    by_cases he : listE l = 0
    · simp only [ofV, he, if_true, sv3]
      simp (config := { maxSteps := 9000000 }) only [↓vyD, vyU, binS, SV.go1, SV.go0, mkRow, intsOf, boolsOf, strsOf, chunks, Row.rep, Row.cat, Row.sub, Row.put, Row.len, Row.get, Row.size, Row.flat, bnds, own0, own1, labsL, labsR, SV.labs, argsOf, entFr, SO.ev, St.of, keepSt, getAll, lookN, hasN, SV.cells, SV.one, SV.res1, SV.res0, SV.resP, SV.ok1, SV.ok0, SV.okN, SV.solid, SV.solid1, SV.solid0, SV.flat0, SV.nm, SV.nm1, SV.nm0, SV.noPtr1, SV.noPtr0, Cel.isFresh, fillP, setAt, partV, eqCells, cellEq, gamY, listsOk, tupOf, takeOwn, SV.ret1, resAll, resL, resV, Nat.reduceEqDiff, ↓reduceIte, Nat.reduceAdd, Nat.reduceMul, Nat.reduceLeDiff, Nat.reduceLT, reduceCtorEq, labOk, Int.reduceBEq, Int.reduceBNe, Int.reduceToNat, Int.reduceLE, Int.reduceLT, Int.reduceEq, Nat.reduceDiv, Nat.reduceMod, Nat.reduceSub, Nat.reduceBEq, y48, fitR, fitR1, fitR0, fitRL1, fitRL, ofS, asI, ofV, he, sv3]
    · simp only [ofV, he, if_false, sv3]
      simp (config := { maxSteps := 9000000 }) only [↓vyD, vyU, binS, SV.go1, SV.go0, mkRow, intsOf, boolsOf, strsOf, chunks, Row.rep, Row.cat, Row.sub, Row.put, Row.len, Row.get, Row.size, Row.flat, bnds, own0, own1, labsL, labsR, SV.labs, argsOf, entFr, SO.ev, St.of, keepSt, getAll, lookN, hasN, SV.cells, SV.one, SV.res1, SV.res0, SV.resP, SV.ok1, SV.ok0, SV.okN, SV.solid, SV.solid1, SV.solid0, SV.flat0, SV.nm, SV.nm1, SV.nm0, SV.noPtr1, SV.noPtr0, Cel.isFresh, fillP, setAt, partV, eqCells, cellEq, gamY, listsOk, tupOf, takeOwn, SV.ret1, resAll, resL, resV, Nat.reduceEqDiff, ↓reduceIte, Nat.reduceAdd, Nat.reduceMul, Nat.reduceLeDiff, Nat.reduceLT, reduceCtorEq, labOk, Int.reduceBEq, Int.reduceBNe, Int.reduceToNat, Int.reduceLE, Int.reduceLT, Int.reduceEq, Nat.reduceDiv, Nat.reduceMod, Nat.reduceSub, Nat.reduceBEq, y48, fitR, fitR1, fitR0, fitRL1, fitRL, ofS, asI, ofV, he, sv3]
  · cases h
def begunS : Say
  | [] => some (True, .bool true, none)
  | _ => none
def g4 : List (Nat × Say) := [(49, ofS), (70, spreadXS)]
theorem begun_ok : FOk Try.prog 44 begunS := by
  intro xs p r own h hp
  unfold begunS at h
  split at h
  · simp only [Option.some.injEq, Prod.mk.injEq] at h
    obtain ⟨rfl, rfl, rfl⟩ := h
    refine fun_ok (Γ := gamY g4) (gam_ok (gam_cons of_ok (gam_cons spreadX_ok gam_nil))) lawy_mixed y44_eq none ?_ (Nat.le_of_ble_eq_true rfl)
    have k1 : listE [1, 3] = 0 := by decide
    have k2 : ofV [1, 3] = sv3 2 4 10 := by simp [ofV, k1, sumL, sqL]
    have k3 : checkE 2 4 10 = 0 := by decide
    simp (config := { maxSteps := 9000000 }) only [↓vyD, vyU, binS, SV.go1, SV.go0, mkRow, intsOf, boolsOf, strsOf, chunks, Row.rep, Row.cat, Row.sub, Row.put, Row.len, Row.get, Row.size, Row.flat, bnds, own0, own1, labsL, labsR, SV.labs, argsOf, entFr, SO.ev, St.of, keepSt, getAll, lookN, hasN, SV.cells, SV.one, SV.res1, SV.res0, SV.resP, SV.ok1, SV.ok0, SV.okN, SV.solid, SV.solid1, SV.solid0, SV.flat0, SV.nm, SV.nm1, SV.nm0, SV.noPtr1, SV.noPtr0, Cel.isFresh, fillP, setAt, partV, eqCells, cellEq, gamY, listsOk, tupOf, takeOwn, SV.ret1, resAll, resL, resV, Nat.reduceEqDiff, ↓reduceIte, Nat.reduceAdd, Nat.reduceMul, Nat.reduceLeDiff, Nat.reduceLT, reduceCtorEq, labOk, Int.reduceBEq, Int.reduceBNe, Int.reduceToNat, Int.reduceLE, Int.reduceLT, Int.reduceEq, Nat.reduceDiv, Nat.reduceMod, Nat.reduceSub, Nat.reduceBEq, y44, fitR, fitR1, fitR0, g4, ofS, spreadXS, asI, k1, k2, k3, sv3, Int.reduceMul, Int.reduceSub]
  · cases h
def valsL (l : List Int) : List Int := (l.take 64).map fun x => withinN x 16777217
def valuesS : Say
  | [x] => (asI x).map fun l => (True, .rw (.ints .i64 (valsL l)), none)
  | _ => none
theorem values_ok : FOk Try.prog 45 valuesS := by
  intro xs p r own h hp
  unfold valuesS at h
  split at h
  · rename_i x
    obtain ⟨l, hx, h⟩ := Option.map_eq_some_iff.1 h
    simp only [Prod.mk.injEq] at h
    obtain ⟨rfl, rfl, rfl⟩ := h
    refine fun_fit (ys := [.rw (.ints .i64 l)]) ?_ ⟨asI_fit hx, trivial⟩
    refine fun_ok (Γ := gamY [(46, withinS)]) (gam_ok (gam_cons within_ok gam_nil)) lawy_mixed y45_eq none ?_ (Nat.le_of_ble_eq_true rfl)
    simp (config := { maxSteps := 9000000 }) only [↓vyD, vyU, binS, SV.go1, SV.go0, mkRow, intsOf, boolsOf, strsOf, chunks, Row.rep, Row.cat, Row.sub, Row.put, Row.len, Row.get, Row.size, Row.flat, bnds, own0, own1, labsL, labsR, SV.labs, argsOf, entFr, SO.ev, St.of, keepSt, getAll, lookN, hasN, SV.cells, SV.one, SV.res1, SV.res0, SV.resP, SV.ok1, SV.ok0, SV.okN, SV.solid, SV.solid1, SV.solid0, SV.flat0, SV.nm, SV.nm1, SV.nm0, SV.noPtr1, SV.noPtr0, Cel.isFresh, fillP, setAt, partV, eqCells, cellEq, gamY, listsOk, tupOf, takeOwn, SV.ret1, resAll, resL, resV, Nat.reduceEqDiff, ↓reduceIte, Nat.reduceAdd, Nat.reduceMul, Nat.reduceLeDiff, Nat.reduceLT, reduceCtorEq, labOk, Int.reduceBEq, Int.reduceBNe, Int.reduceToNat, Int.reduceLE, Int.reduceLT, Int.reduceEq, Nat.reduceDiv, Nat.reduceMod, Nat.reduceSub, Nat.reduceBEq, y45, fitR, fitR1, fitR0, withinS]
    have et : List.take (if 64 < (l.length : Int) then (64 : Int) else (l.length : Int)).toNat l = l.take 64 := by
      split
      · rfl
      · rename_i hh
        rw [List.take_of_length_le (by omega), List.take_of_length_le (by omega)]
    rw [et]
    refine ⟨⟨by split <;> omega, by split <;> omega⟩, ?_⟩
    generalize hm : l.take 64 = m
    have h64 : m.length ≤ 64 := by rw [← hm]; simp; omega
    have hvl : valsL l = m.map fun x => withinN x 16777217 := by rw [← hm]; rfl
    rw [hvl]
    refine loopG_intro (ι := Nat) (fun i => [(3, .sl 1000 i), (10, .rw (.ints .i64 m)), (11, .int .i64 m.length), (12, .int .i64 i)])
        (fun i => [(1000, .row i 3 (.ints .i64 ((m.take i).map fun x => withinN x 16777217)))]) (fun i => i ≤ m.length) (fun i => m.length - i) ⟨0, by omega, ?_, ?_, ?_⟩ fun i hi => ?_
    · simp (config := { maxSteps := 9000000 }) only [↓vyD, vyU, binS, SV.go1, SV.go0, mkRow, intsOf, boolsOf, strsOf, chunks, Row.rep, Row.cat, Row.sub, Row.put, Row.len, Row.get, Row.size, Row.flat, bnds, own0, own1, labsL, labsR, SV.labs, argsOf, entFr, SO.ev, St.of, keepSt, getAll, lookN, hasN, SV.cells, SV.one, SV.res1, SV.res0, SV.resP, SV.ok1, SV.ok0, SV.okN, SV.solid, SV.solid1, SV.solid0, SV.flat0, SV.nm, SV.nm1, SV.nm0, SV.noPtr1, SV.noPtr0, Cel.isFresh, fillP, setAt, partV, eqCells, cellEq, gamY, listsOk, tupOf, takeOwn, SV.ret1, resAll, resL, resV, Nat.reduceEqDiff, ↓reduceIte, Nat.reduceAdd, Nat.reduceMul, Nat.reduceLeDiff, Nat.reduceLT, reduceCtorEq, labOk, Int.reduceBEq, Int.reduceBNe, Int.reduceToNat, Int.reduceLE, Int.reduceLT, Int.reduceEq, Nat.reduceDiv, Nat.reduceMod, Nat.reduceSub, Nat.reduceBEq, fitR]
    · simp (config := { maxSteps := 9000000 }) only [↓vyD, vyU, binS, SV.go1, SV.go0, mkRow, intsOf, boolsOf, strsOf, chunks, Row.rep, Row.cat, Row.sub, Row.put, Row.len, Row.get, Row.size, Row.flat, bnds, own0, own1, labsL, labsR, SV.labs, argsOf, entFr, SO.ev, St.of, keepSt, getAll, lookN, hasN, SV.cells, SV.one, SV.res1, SV.res0, SV.resP, SV.ok1, SV.ok0, SV.okN, SV.solid, SV.solid1, SV.solid0, SV.flat0, SV.nm, SV.nm1, SV.nm0, SV.noPtr1, SV.noPtr0, Cel.isFresh, fillP, setAt, partV, eqCells, cellEq, gamY, listsOk, tupOf, takeOwn, SV.ret1, resAll, resL, resV, Nat.reduceEqDiff, ↓reduceIte, Nat.reduceAdd, Nat.reduceMul, Nat.reduceLeDiff, Nat.reduceLT, reduceCtorEq, labOk, Int.reduceBEq, Int.reduceBNe, Int.reduceToNat, Int.reduceLE, Int.reduceLT, Int.reduceEq, Nat.reduceDiv, Nat.reduceMod, Nat.reduceSub, Nat.reduceBEq, fitR]
    · simp (config := { maxSteps := 9000000 }) only [↓vyD, vyU, binS, SV.go1, SV.go0, mkRow, intsOf, boolsOf, strsOf, chunks, Row.rep, Row.cat, Row.sub, Row.put, Row.len, Row.get, Row.size, Row.flat, bnds, own0, own1, labsL, labsR, SV.labs, argsOf, entFr, SO.ev, St.of, keepSt, getAll, lookN, hasN, SV.cells, SV.one, SV.res1, SV.res0, SV.resP, SV.ok1, SV.ok0, SV.okN, SV.solid, SV.solid1, SV.solid0, SV.flat0, SV.nm, SV.nm1, SV.nm0, SV.noPtr1, SV.noPtr0, Cel.isFresh, fillP, setAt, partV, eqCells, cellEq, gamY, listsOk, tupOf, takeOwn, SV.ret1, resAll, resL, resV, Nat.reduceEqDiff, ↓reduceIte, Nat.reduceAdd, Nat.reduceMul, Nat.reduceLeDiff, Nat.reduceLT, reduceCtorEq, labOk, Int.reduceBEq, Int.reduceBNe, Int.reduceToNat, Int.reduceLE, Int.reduceLT, Int.reduceEq, Nat.reduceDiv, Nat.reduceMod, Nat.reduceSub, Nat.reduceBEq, fitR]
    · have hlen : ((m.take i).map fun x => withinN x 16777217).length = i := by simp; omega
      by_cases hlt : (i : Int) < (m.length : Int)
      · have hlt' : i < m.length := by omega
        have b1 : I64 ((i : Int) + 1) := by unfold I64; omega
        have b2 : I64 16777217 := by unfold I64; omega
        have e1 : (m.take (i + 1)).map (fun x => withinN x 16777217) = (m.take i).map (fun x => withinN x 16777217) ++ [withinN (m.getD i 0) 16777217] := by
          rw [take_snoc hlt', List.map_append]; rfl
        simp (config := { maxSteps := 9000000 }) only [↓vyD, vyU, binS, SV.go1, SV.go0, mkRow, intsOf, boolsOf, strsOf, chunks, Row.rep, Row.cat, Row.sub, Row.put, Row.len, Row.get, Row.size, Row.flat, bnds, own0, own1, labsL, labsR, SV.labs, argsOf, entFr, SO.ev, St.of, keepSt, getAll, lookN, hasN, SV.cells, SV.one, SV.res1, SV.res0, SV.resP, SV.ok1, SV.ok0, SV.okN, SV.solid, SV.solid1, SV.solid0, SV.flat0, SV.nm, SV.nm1, SV.nm0, SV.noPtr1, SV.noPtr0, Cel.isFresh, fillP, setAt, partV, eqCells, cellEq, gamY, listsOk, tupOf, takeOwn, SV.ret1, resAll, resL, resV, Nat.reduceEqDiff, ↓reduceIte, Nat.reduceAdd, Nat.reduceMul, Nat.reduceLeDiff, Nat.reduceLT, reduceCtorEq, labOk, Int.reduceBEq, Int.reduceBNe, Int.reduceToNat, Int.reduceLE, Int.reduceLT, Int.reduceEq, Nat.reduceDiv, Nat.reduceMod, Nat.reduceSub, Nat.reduceBEq, fitR, hlt, withinS, Int.toNat_natCast, i64_wrap b1, b2]
        simp only [hlen]
        exact ⟨by omega, by omega, i + 1, ⟨by omega, by omega⟩, ⟨rfl, by simp⟩, rfl, e1.symm⟩
      · have : i = m.length := by omega
        subst this
        simp (config := { maxSteps := 9000000 }) only [↓vyD, vyU, binS, SV.go1, SV.go0, mkRow, intsOf, boolsOf, strsOf, chunks, Row.rep, Row.cat, Row.sub, Row.put, Row.len, Row.get, Row.size, Row.flat, bnds, own0, own1, labsL, labsR, SV.labs, argsOf, entFr, SO.ev, St.of, keepSt, getAll, lookN, hasN, SV.cells, SV.one, SV.res1, SV.res0, SV.resP, SV.ok1, SV.ok0, SV.okN, SV.solid, SV.solid1, SV.solid0, SV.flat0, SV.nm, SV.nm1, SV.nm0, SV.noPtr1, SV.noPtr0, Cel.isFresh, fillP, setAt, partV, eqCells, cellEq, gamY, listsOk, tupOf, takeOwn, SV.ret1, resAll, resL, resV, Nat.reduceEqDiff, ↓reduceIte, Nat.reduceAdd, Nat.reduceMul, Nat.reduceLeDiff, Nat.reduceLT, reduceCtorEq, labOk, Int.reduceBEq, Int.reduceBNe, Int.reduceToNat, Int.reduceLE, Int.reduceLT, Int.reduceEq, Nat.reduceDiv, Nat.reduceMod, Nat.reduceSub, Nat.reduceBEq, fitR, hlt, fitR1, fitR0, fitRL, fitRL1, List.take_length]
  · cases h
end Go.Proofs.Ytnaloeoiobcifaa
