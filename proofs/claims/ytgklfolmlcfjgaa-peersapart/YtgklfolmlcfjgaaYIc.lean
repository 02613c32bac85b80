/- Identifiers, valid heartbeats, strings.Clone: what the program's functions do. -/
import Derived.Test.YtgklfolmlcfjgaaYA
import Derived.Test.YtgklfolmlcfjgaaYD6
import Derived.Test.YtgklfolmlcfjgaaYShClone
import Derived.Test.YtgklfolmlcfjgaaCB6
namespace Go.Proofs.Ytgklfolmlcfjgaa
open Go.ChangeShapes Go.WideShapes Go.ChangeAt Go.RowKit Go.Joins Y
set_option linter.unusedSimpArgs false
set_option linter.unusedVariables false
set_option maxRecDepth 100000
set_option maxHeartbeats 40000000
def isLenS : Say
  | [.int .i64 n] => some (True, .bool (decide (1 ≤ n ∧ n ≤ 8)), none)
  | _ => none
theorem isLen_ok : FOk Try.prog 79 isLenS := by
  intro xs p r own h hp
  unfold isLenS at h
  split at h
  case h_2 => cases h
  rename_i n
  simp only [Option.some.injEq, Prod.mk.injEq] at h
  obtain ⟨rfl, rfl, rfl⟩ := h
  refine fun_ok (gam_ok gam_nil) lawy_mixed y79_eq none ?_ (Nat.le_of_ble_eq_true rfl)
  by_cases h1 : 1 ≤ n
  · by_cases h2 : n ≤ 8
    · simp (config := { maxSteps := 9000000 }) only [↓vyD, vyU, binS, SV.go1, SV.go0, mkRow, intsOf, boolsOf, strsOf, chunks, Row.rep, Row.cat, Row.sub, Row.put, Row.len, Row.get, Row.size, Row.flat, bnds, own0, own1, labsL, labsR, SV.labs, argsOf, entFr, SO.ev, St.of, keepSt, getAll, lookN, hasN, SV.cells, SV.one, SV.res1, SV.res0, SV.resP, SV.ok1, SV.ok0, SV.okN, SV.solid, SV.solid1, SV.solid0, SV.flat0, SV.nm, SV.nm1, SV.nm0, SV.noPtr1, SV.noPtr0, Cel.isFresh, fillP, setAt, partV, eqCells, cellEq, gamY, listsOk, tupOf, takeOwn, SV.ret1, resAll, resL, resV, Nat.reduceEqDiff, ↓reduceIte, Nat.reduceAdd, Nat.reduceMul, Nat.reduceLeDiff, Nat.reduceLT, reduceCtorEq, labOk, Int.reduceBEq, Int.reduceBNe, Int.reduceToNat, Int.reduceLE, Int.reduceLT, Int.reduceEq, Nat.reduceDiv, Nat.reduceMod, Nat.reduceSub, Nat.reduceBEq, fitR, fitR1, fitR0, fitRL1, fitRL, y79, h1, h2]
    · simp (config := { maxSteps := 9000000 }) only [↓vyD, vyU, binS, SV.go1, SV.go0, mkRow, intsOf, boolsOf, strsOf, chunks, Row.rep, Row.cat, Row.sub, Row.put, Row.len, Row.get, Row.size, Row.flat, bnds, own0, own1, labsL, labsR, SV.labs, argsOf, entFr, SO.ev, St.of, keepSt, getAll, lookN, hasN, SV.cells, SV.one, SV.res1, SV.res0, SV.resP, SV.ok1, SV.ok0, SV.okN, SV.solid, SV.solid1, SV.solid0, SV.flat0, SV.nm, SV.nm1, SV.nm0, SV.noPtr1, SV.noPtr0, Cel.isFresh, fillP, setAt, partV, eqCells, cellEq, gamY, listsOk, tupOf, takeOwn, SV.ret1, resAll, resL, resV, Nat.reduceEqDiff, ↓reduceIte, Nat.reduceAdd, Nat.reduceMul, Nat.reduceLeDiff, Nat.reduceLT, reduceCtorEq, labOk, Int.reduceBEq, Int.reduceBNe, Int.reduceToNat, Int.reduceLE, Int.reduceLT, Int.reduceEq, Nat.reduceDiv, Nat.reduceMod, Nat.reduceSub, Nat.reduceBEq, fitR, fitR1, fitR0, fitRL1, fitRL, y79, h1, h2, and_false]
  · simp (config := { maxSteps := 9000000 }) only [↓vyD, vyU, binS, SV.go1, SV.go0, mkRow, intsOf, boolsOf, strsOf, chunks, Row.rep, Row.cat, Row.sub, Row.put, Row.len, Row.get, Row.size, Row.flat, bnds, own0, own1, labsL, labsR, SV.labs, argsOf, entFr, SO.ev, St.of, keepSt, getAll, lookN, hasN, SV.cells, SV.one, SV.res1, SV.res0, SV.resP, SV.ok1, SV.ok0, SV.okN, SV.solid, SV.solid1, SV.solid0, SV.flat0, SV.nm, SV.nm1, SV.nm0, SV.noPtr1, SV.noPtr0, Cel.isFresh, fillP, setAt, partV, eqCells, cellEq, gamY, listsOk, tupOf, takeOwn, SV.ret1, resAll, resL, resV, Nat.reduceEqDiff, ↓reduceIte, Nat.reduceAdd, Nat.reduceMul, Nat.reduceLeDiff, Nat.reduceLT, reduceCtorEq, labOk, Int.reduceBEq, Int.reduceBNe, Int.reduceToNat, Int.reduceLE, Int.reduceLT, Int.reduceEq, Nat.reduceDiv, Nat.reduceMod, Nat.reduceSub, Nat.reduceBEq, fitR, fitR1, fitR0, fitRL1, fitRL, y79, h1, false_and]
theorem all_take_succ {p : UInt8 → Bool} {l : List UInt8} {i : Nat} (h : (l.take i).all p = true) (hi : i < l.length) (hp : p (l.getD i 0) = true) : (l.take (i + 1)).all p = true := by
  rw [List.take_succ_eq_append_getElem hi, List.all_append, h]
  have : l.getD i 0 = l[i] := by simp [List.getD, hi]
  rw [this] at hp
  simp [hp]
theorem all_false {p : UInt8 → Bool} {l : List UInt8} {i : Nat} (hi : i < l.length) (hp : p (l.getD i 0) = false) : l.all p = false := by
  have h1 : l.getD i 0 = l[i] := by simp [List.getD, hi]
  rw [h1] at hp
  rw [Bool.eq_false_iff]
  intro h
  have := (List.all_eq_true.1 h) l[i] (List.getElem_mem hi)
  rw [hp] at this; cases this
theorem letB_t {c : UInt8} (h1 : ¬ (c.toNat : Int) < 97) (h2 : ¬ (122 : Int) < (c.toNat : Int)) : letB c = true := by unfold letB; simp; omega
theorem letB_f {c : UInt8} (h : (c.toNat : Int) < 97 ∨ (122 : Int) < (c.toNat : Int)) : letB c = false := by unfold letB; simp; omega
def gI : List (Nat × Say) := [(79, isLenS)]
theorem gI_ok : GamOk Try.prog (gamY gI) := gam_ok (gam_cons isLen_ok gam_nil)
def idSS : Say
  | [.str l] => some (l.length ≤ 140737488355328, .bool (isIdB l), none)
  | _ => none
theorem idS_ok : FOk Try.prog 40 idSS := by
  intro xs p r own h hp
  unfold idSS at h
  split at h
  case h_2 => cases h
  rename_i l
  simp only [Option.some.injEq, Prod.mk.injEq] at h
  obtain ⟨rfl, rfl, rfl⟩ := h
  refine fun_ok gI_ok lawy_mixed y40_eq none ?_ (Nat.le_of_ble_eq_true rfl)
  by_cases h : 1 ≤ (l.length : Int) ∧ (l.length : Int) ≤ 8
  · have hl : (decide (1 ≤ l.length ∧ l.length ≤ 8)) = true := by simp; omega
    simp (config := { maxSteps := 9000000 }) only [↓vyD, vyU, binS, SV.go1, SV.go0, mkRow, intsOf, boolsOf, strsOf, chunks, Row.rep, Row.cat, Row.sub, Row.put, Row.len, Row.get, Row.size, Row.flat, bnds, own0, own1, labsL, labsR, SV.labs, argsOf, entFr, SO.ev, St.of, keepSt, getAll, lookN, hasN, SV.cells, SV.one, SV.res1, SV.res0, SV.resP, SV.ok1, SV.ok0, SV.okN, SV.solid, SV.solid1, SV.solid0, SV.flat0, SV.nm, SV.nm1, SV.nm0, SV.noPtr1, SV.noPtr0, Cel.isFresh, fillP, setAt, partV, eqCells, cellEq, gamY, listsOk, tupOf, takeOwn, SV.ret1, resAll, resL, resV, Nat.reduceEqDiff, ↓reduceIte, Nat.reduceAdd, Nat.reduceMul, Nat.reduceLeDiff, Nat.reduceLT, reduceCtorEq, labOk, Int.reduceBEq, Int.reduceBNe, Int.reduceToNat, Int.reduceLE, Int.reduceLT, Int.reduceEq, Nat.reduceDiv, Nat.reduceMod, Nat.reduceSub, Nat.reduceBEq, fitR, fitR1, fitR0, fitRL1, fitRL, y40, gI, isLenS, h]
    refine loopG_intro (ι := Nat) (fun i => [(0, .str l), (9, .int .i64 l.length), (10, .int .i64 i)]) (fun _ => []) (fun i => i ≤ l.length ∧ (l.take i).all letB = true) (fun i => l.length - i) ⟨0, by simp, ?_, ?_, ?_⟩ fun i hi => ?_
    · simp (config := { maxSteps := 9000000 }) only [↓vyD, vyU, binS, SV.go1, SV.go0, mkRow, intsOf, boolsOf, strsOf, chunks, Row.rep, Row.cat, Row.sub, Row.put, Row.len, Row.get, Row.size, Row.flat, bnds, own0, own1, labsL, labsR, SV.labs, argsOf, entFr, SO.ev, St.of, keepSt, getAll, lookN, hasN, SV.cells, SV.one, SV.res1, SV.res0, SV.resP, SV.ok1, SV.ok0, SV.okN, SV.solid, SV.solid1, SV.solid0, SV.flat0, SV.nm, SV.nm1, SV.nm0, SV.noPtr1, SV.noPtr0, Cel.isFresh, fillP, setAt, partV, eqCells, cellEq, gamY, listsOk, tupOf, takeOwn, SV.ret1, resAll, resL, resV, Nat.reduceEqDiff, ↓reduceIte, Nat.reduceAdd, Nat.reduceMul, Nat.reduceLeDiff, Nat.reduceLT, reduceCtorEq, labOk, Int.reduceBEq, Int.reduceBNe, Int.reduceToNat, Int.reduceLE, Int.reduceLT, Int.reduceEq, Nat.reduceDiv, Nat.reduceMod, Nat.reduceSub, Nat.reduceBEq, fitR, fitR1, fitR0, fitRL1, fitRL, h]
    · simp (config := { maxSteps := 9000000 }) only [↓vyD, vyU, binS, SV.go1, SV.go0, mkRow, intsOf, boolsOf, strsOf, chunks, Row.rep, Row.cat, Row.sub, Row.put, Row.len, Row.get, Row.size, Row.flat, bnds, own0, own1, labsL, labsR, SV.labs, argsOf, entFr, SO.ev, St.of, keepSt, getAll, lookN, hasN, SV.cells, SV.one, SV.res1, SV.res0, SV.resP, SV.ok1, SV.ok0, SV.okN, SV.solid, SV.solid1, SV.solid0, SV.flat0, SV.nm, SV.nm1, SV.nm0, SV.noPtr1, SV.noPtr0, Cel.isFresh, fillP, setAt, partV, eqCells, cellEq, gamY, listsOk, tupOf, takeOwn, SV.ret1, resAll, resL, resV, Nat.reduceEqDiff, ↓reduceIte, Nat.reduceAdd, Nat.reduceMul, Nat.reduceLeDiff, Nat.reduceLT, reduceCtorEq, labOk, Int.reduceBEq, Int.reduceBNe, Int.reduceToNat, Int.reduceLE, Int.reduceLT, Int.reduceEq, Nat.reduceDiv, Nat.reduceMod, Nat.reduceSub, Nat.reduceBEq, fitR, fitR1, fitR0, fitRL1, fitRL, h]
    · simp (config := { maxSteps := 9000000 }) only [↓vyD, vyU, binS, SV.go1, SV.go0, mkRow, intsOf, boolsOf, strsOf, chunks, Row.rep, Row.cat, Row.sub, Row.put, Row.len, Row.get, Row.size, Row.flat, bnds, own0, own1, labsL, labsR, SV.labs, argsOf, entFr, SO.ev, St.of, keepSt, getAll, lookN, hasN, SV.cells, SV.one, SV.res1, SV.res0, SV.resP, SV.ok1, SV.ok0, SV.okN, SV.solid, SV.solid1, SV.solid0, SV.flat0, SV.nm, SV.nm1, SV.nm0, SV.noPtr1, SV.noPtr0, Cel.isFresh, fillP, setAt, partV, eqCells, cellEq, gamY, listsOk, tupOf, takeOwn, SV.ret1, resAll, resL, resV, Nat.reduceEqDiff, ↓reduceIte, Nat.reduceAdd, Nat.reduceMul, Nat.reduceLeDiff, Nat.reduceLT, reduceCtorEq, labOk, Int.reduceBEq, Int.reduceBNe, Int.reduceToNat, Int.reduceLE, Int.reduceLT, Int.reduceEq, Nat.reduceDiv, Nat.reduceMod, Nat.reduceSub, Nat.reduceBEq, fitR, fitR1, fitR0, fitRL1, fitRL, h]
    · obtain ⟨hi, hall⟩ := hi
      by_cases hlt : (i : Int) < (l.length : Int)
      · have hlt' : i < l.length := by omega
        have w1 := i64_wrap (show I64 ((i : Int) + 1) by unfold I64; omega)
        have c0 : (0 : Int) ≤ (i : Int) := by omega
        by_cases h1 : ((l.getD i 0).toNat : Int) < 97
        · have hf : isIdB l = false := by unfold isIdB; rw [all_false hlt' (letB_f (.inl h1)), Bool.and_false]
          simp (config := { maxSteps := 9000000 }) only [↓vyD, vyU, binS, SV.go1, SV.go0, mkRow, intsOf, boolsOf, strsOf, chunks, Row.rep, Row.cat, Row.sub, Row.put, Row.len, Row.get, Row.size, Row.flat, bnds, own0, own1, labsL, labsR, SV.labs, argsOf, entFr, SO.ev, St.of, keepSt, getAll, lookN, hasN, SV.cells, SV.one, SV.res1, SV.res0, SV.resP, SV.ok1, SV.ok0, SV.okN, SV.solid, SV.solid1, SV.solid0, SV.flat0, SV.nm, SV.nm1, SV.nm0, SV.noPtr1, SV.noPtr0, Cel.isFresh, fillP, setAt, partV, eqCells, cellEq, gamY, listsOk, tupOf, takeOwn, SV.ret1, resAll, resL, resV, Nat.reduceEqDiff, ↓reduceIte, Nat.reduceAdd, Nat.reduceMul, Nat.reduceLeDiff, Nat.reduceLT, reduceCtorEq, labOk, Int.reduceBEq, Int.reduceBNe, Int.reduceToNat, Int.reduceLE, Int.reduceLT, Int.reduceEq, Nat.reduceDiv, Nat.reduceMod, Nat.reduceSub, Nat.reduceBEq, fitR, fitR1, fitR0, fitRL1, fitRL, hlt, Int.toNat_natCast, w1, c0, h1, hf, not_true_eq_false]
        · by_cases h2 : (122 : Int) < ((l.getD i 0).toNat : Int)
          · have hf : isIdB l = false := by unfold isIdB; rw [all_false hlt' (letB_f (.inr h2)), Bool.and_false]
            simp (config := { maxSteps := 9000000 }) only [↓vyD, vyU, binS, SV.go1, SV.go0, mkRow, intsOf, boolsOf, strsOf, chunks, Row.rep, Row.cat, Row.sub, Row.put, Row.len, Row.get, Row.size, Row.flat, bnds, own0, own1, labsL, labsR, SV.labs, argsOf, entFr, SO.ev, St.of, keepSt, getAll, lookN, hasN, SV.cells, SV.one, SV.res1, SV.res0, SV.resP, SV.ok1, SV.ok0, SV.okN, SV.solid, SV.solid1, SV.solid0, SV.flat0, SV.nm, SV.nm1, SV.nm0, SV.noPtr1, SV.noPtr0, Cel.isFresh, fillP, setAt, partV, eqCells, cellEq, gamY, listsOk, tupOf, takeOwn, SV.ret1, resAll, resL, resV, Nat.reduceEqDiff, ↓reduceIte, Nat.reduceAdd, Nat.reduceMul, Nat.reduceLeDiff, Nat.reduceLT, reduceCtorEq, labOk, Int.reduceBEq, Int.reduceBNe, Int.reduceToNat, Int.reduceLE, Int.reduceLT, Int.reduceEq, Nat.reduceDiv, Nat.reduceMod, Nat.reduceSub, Nat.reduceBEq, fitR, fitR1, fitR0, fitRL1, fitRL, hlt, Int.toNat_natCast, w1, c0, h1, h2, hf, not_false_eq_true]
          · simp (config := { maxSteps := 9000000 }) only [↓vyD, vyU, binS, SV.go1, SV.go0, mkRow, intsOf, boolsOf, strsOf, chunks, Row.rep, Row.cat, Row.sub, Row.put, Row.len, Row.get, Row.size, Row.flat, bnds, own0, own1, labsL, labsR, SV.labs, argsOf, entFr, SO.ev, St.of, keepSt, getAll, lookN, hasN, SV.cells, SV.one, SV.res1, SV.res0, SV.resP, SV.ok1, SV.ok0, SV.okN, SV.solid, SV.solid1, SV.solid0, SV.flat0, SV.nm, SV.nm1, SV.nm0, SV.noPtr1, SV.noPtr0, Cel.isFresh, fillP, setAt, partV, eqCells, cellEq, gamY, listsOk, tupOf, takeOwn, SV.ret1, resAll, resL, resV, Nat.reduceEqDiff, ↓reduceIte, Nat.reduceAdd, Nat.reduceMul, Nat.reduceLeDiff, Nat.reduceLT, reduceCtorEq, labOk, Int.reduceBEq, Int.reduceBNe, Int.reduceToNat, Int.reduceLE, Int.reduceLT, Int.reduceEq, Nat.reduceDiv, Nat.reduceMod, Nat.reduceSub, Nat.reduceBEq, fitR, fitR1, fitR0, fitRL1, fitRL, hlt, Int.toNat_natCast, w1, c0, h1, h2]
            exact ⟨i + 1, ⟨⟨by omega, all_take_succ hall hlt' (letB_t h1 h2)⟩, by omega⟩, by simp⟩
      · have hiS : i = l.length := by omega
        subst hiS
        rw [List.take_length] at hall
        have hf : isIdB l = true := by unfold isIdB; rw [hl, hall]; rfl
        simp (config := { maxSteps := 9000000 }) only [↓vyD, vyU, binS, SV.go1, SV.go0, mkRow, intsOf, boolsOf, strsOf, chunks, Row.rep, Row.cat, Row.sub, Row.put, Row.len, Row.get, Row.size, Row.flat, bnds, own0, own1, labsL, labsR, SV.labs, argsOf, entFr, SO.ev, St.of, keepSt, getAll, lookN, hasN, SV.cells, SV.one, SV.res1, SV.res0, SV.resP, SV.ok1, SV.ok0, SV.okN, SV.solid, SV.solid1, SV.solid0, SV.flat0, SV.nm, SV.nm1, SV.nm0, SV.noPtr1, SV.noPtr0, Cel.isFresh, fillP, setAt, partV, eqCells, cellEq, gamY, listsOk, tupOf, takeOwn, SV.ret1, resAll, resL, resV, Nat.reduceEqDiff, ↓reduceIte, Nat.reduceAdd, Nat.reduceMul, Nat.reduceLeDiff, Nat.reduceLT, reduceCtorEq, labOk, Int.reduceBEq, Int.reduceBNe, Int.reduceToNat, Int.reduceLE, Int.reduceLT, Int.reduceEq, Nat.reduceDiv, Nat.reduceMod, Nat.reduceSub, Nat.reduceBEq, fitR, fitR1, fitR0, fitRL1, fitRL, hlt, hf]
  · have hf : isIdB l = false := by
      unfold isIdB
      rw [decide_eq_false (by omega), Bool.false_and]
    simp (config := { maxSteps := 9000000 }) only [↓vyD, vyU, binS, SV.go1, SV.go0, mkRow, intsOf, boolsOf, strsOf, chunks, Row.rep, Row.cat, Row.sub, Row.put, Row.len, Row.get, Row.size, Row.flat, bnds, own0, own1, labsL, labsR, SV.labs, argsOf, entFr, SO.ev, St.of, keepSt, getAll, lookN, hasN, SV.cells, SV.one, SV.res1, SV.res0, SV.resP, SV.ok1, SV.ok0, SV.okN, SV.solid, SV.solid1, SV.solid0, SV.flat0, SV.nm, SV.nm1, SV.nm0, SV.noPtr1, SV.noPtr0, Cel.isFresh, fillP, setAt, partV, eqCells, cellEq, gamY, listsOk, tupOf, takeOwn, SV.ret1, resAll, resL, resV, Nat.reduceEqDiff, ↓reduceIte, Nat.reduceAdd, Nat.reduceMul, Nat.reduceLeDiff, Nat.reduceLT, reduceCtorEq, labOk, Int.reduceBEq, Int.reduceBNe, Int.reduceToNat, Int.reduceLE, Int.reduceLT, Int.reduceEq, Nat.reduceDiv, Nat.reduceMod, Nat.reduceSub, Nat.reduceBEq, fitR, fitR1, fitR0, fitRL1, fitRL, y40, gI, isLenS, h, hf]
def gC : List (Nat × Say) := [(40, idSS)]
theorem gC_ok : GamOk Try.prog (gamY gC) := gam_ok (gam_cons idS_ok gam_nil)
def chkS : Say
  | [.agg [.str l, .int .i64 a, .int .i64 b]] => some (l.length ≤ 140737488355328, .int .i64 (chkE l a b), none)
  | _ => none
theorem chk_ok : FOk Try.prog 56 chkS := by
  intro xs p r own h hp
  unfold chkS at h
  split at h
  case h_2 => cases h
  rename_i l a b
  simp only [Option.some.injEq, Prod.mk.injEq] at h
  obtain ⟨rfl, rfl, rfl⟩ := h
  refine fun_ok gC_ok lawy_mixed y56_eq none ?_ (Nat.le_of_ble_eq_true rfl)
  by_cases hid : isIdB l = true
  · by_cases h : 0 ≤ a ∧ a < 2147483648 ∧ 1 ≤ b ∧ b < 2147483648
    · have hE : chkE l a b = 0 := chkE_0.2 ⟨hid, h⟩
      obtain ⟨h1, h2, h3, h4⟩ := h
      have t1 : ¬ a < 0 := by omega
      have t2 : ¬ 2147483648 ≤ a := by omega
      have t3 : ¬ b < 1 := by omega
      have t4 : ¬ 2147483648 ≤ b := by omega
      simp (config := { maxSteps := 9000000 }) only [↓vyD, vyU, binS, SV.go1, SV.go0, mkRow, intsOf, boolsOf, strsOf, chunks, Row.rep, Row.cat, Row.sub, Row.put, Row.len, Row.get, Row.size, Row.flat, bnds, own0, own1, labsL, labsR, SV.labs, argsOf, entFr, SO.ev, St.of, keepSt, getAll, lookN, hasN, SV.cells, SV.one, SV.res1, SV.res0, SV.resP, SV.ok1, SV.ok0, SV.okN, SV.solid, SV.solid1, SV.solid0, SV.flat0, SV.nm, SV.nm1, SV.nm0, SV.noPtr1, SV.noPtr0, Cel.isFresh, fillP, setAt, partV, eqCells, cellEq, gamY, listsOk, tupOf, takeOwn, SV.ret1, resAll, resL, resV, Nat.reduceEqDiff, ↓reduceIte, Nat.reduceAdd, Nat.reduceMul, Nat.reduceLeDiff, Nat.reduceLT, reduceCtorEq, labOk, Int.reduceBEq, Int.reduceBNe, Int.reduceToNat, Int.reduceLE, Int.reduceLT, Int.reduceEq, Nat.reduceDiv, Nat.reduceMod, Nat.reduceSub, Nat.reduceBEq, fitR, fitR1, fitR0, fitRL1, fitRL, y56, gC, idSS, hp, hid, t1, t2, t3, t4, hE]
    · have hE : chkE l a b = 1 := by unfold chkE; rw [if_pos hid, if_neg h]
      by_cases t1 : a < 0
      · simp (config := { maxSteps := 9000000 }) only [↓vyD, vyU, binS, SV.go1, SV.go0, mkRow, intsOf, boolsOf, strsOf, chunks, Row.rep, Row.cat, Row.sub, Row.put, Row.len, Row.get, Row.size, Row.flat, bnds, own0, own1, labsL, labsR, SV.labs, argsOf, entFr, SO.ev, St.of, keepSt, getAll, lookN, hasN, SV.cells, SV.one, SV.res1, SV.res0, SV.resP, SV.ok1, SV.ok0, SV.okN, SV.solid, SV.solid1, SV.solid0, SV.flat0, SV.nm, SV.nm1, SV.nm0, SV.noPtr1, SV.noPtr0, Cel.isFresh, fillP, setAt, partV, eqCells, cellEq, gamY, listsOk, tupOf, takeOwn, SV.ret1, resAll, resL, resV, Nat.reduceEqDiff, ↓reduceIte, Nat.reduceAdd, Nat.reduceMul, Nat.reduceLeDiff, Nat.reduceLT, reduceCtorEq, labOk, Int.reduceBEq, Int.reduceBNe, Int.reduceToNat, Int.reduceLE, Int.reduceLT, Int.reduceEq, Nat.reduceDiv, Nat.reduceMod, Nat.reduceSub, Nat.reduceBEq, fitR, fitR1, fitR0, fitRL1, fitRL, y56, gC, idSS, hp, hid, t1, hE]
      by_cases t2 : 2147483648 ≤ a
      · simp (config := { maxSteps := 9000000 }) only [↓vyD, vyU, binS, SV.go1, SV.go0, mkRow, intsOf, boolsOf, strsOf, chunks, Row.rep, Row.cat, Row.sub, Row.put, Row.len, Row.get, Row.size, Row.flat, bnds, own0, own1, labsL, labsR, SV.labs, argsOf, entFr, SO.ev, St.of, keepSt, getAll, lookN, hasN, SV.cells, SV.one, SV.res1, SV.res0, SV.resP, SV.ok1, SV.ok0, SV.okN, SV.solid, SV.solid1, SV.solid0, SV.flat0, SV.nm, SV.nm1, SV.nm0, SV.noPtr1, SV.noPtr0, Cel.isFresh, fillP, setAt, partV, eqCells, cellEq, gamY, listsOk, tupOf, takeOwn, SV.ret1, resAll, resL, resV, Nat.reduceEqDiff, ↓reduceIte, Nat.reduceAdd, Nat.reduceMul, Nat.reduceLeDiff, Nat.reduceLT, reduceCtorEq, labOk, Int.reduceBEq, Int.reduceBNe, Int.reduceToNat, Int.reduceLE, Int.reduceLT, Int.reduceEq, Nat.reduceDiv, Nat.reduceMod, Nat.reduceSub, Nat.reduceBEq, fitR, fitR1, fitR0, fitRL1, fitRL, y56, gC, idSS, hp, hid, t1, t2, hE]
      by_cases t3 : b < 1
      · simp (config := { maxSteps := 9000000 }) only [↓vyD, vyU, binS, SV.go1, SV.go0, mkRow, intsOf, boolsOf, strsOf, chunks, Row.rep, Row.cat, Row.sub, Row.put, Row.len, Row.get, Row.size, Row.flat, bnds, own0, own1, labsL, labsR, SV.labs, argsOf, entFr, SO.ev, St.of, keepSt, getAll, lookN, hasN, SV.cells, SV.one, SV.res1, SV.res0, SV.resP, SV.ok1, SV.ok0, SV.okN, SV.solid, SV.solid1, SV.solid0, SV.flat0, SV.nm, SV.nm1, SV.nm0, SV.noPtr1, SV.noPtr0, Cel.isFresh, fillP, setAt, partV, eqCells, cellEq, gamY, listsOk, tupOf, takeOwn, SV.ret1, resAll, resL, resV, Nat.reduceEqDiff, ↓reduceIte, Nat.reduceAdd, Nat.reduceMul, Nat.reduceLeDiff, Nat.reduceLT, reduceCtorEq, labOk, Int.reduceBEq, Int.reduceBNe, Int.reduceToNat, Int.reduceLE, Int.reduceLT, Int.reduceEq, Nat.reduceDiv, Nat.reduceMod, Nat.reduceSub, Nat.reduceBEq, fitR, fitR1, fitR0, fitRL1, fitRL, y56, gC, idSS, hp, hid, t1, t2, t3, hE]
      have t4 : 2147483648 ≤ b := by omega
      simp (config := { maxSteps := 9000000 }) only [↓vyD, vyU, binS, SV.go1, SV.go0, mkRow, intsOf, boolsOf, strsOf, chunks, Row.rep, Row.cat, Row.sub, Row.put, Row.len, Row.get, Row.size, Row.flat, bnds, own0, own1, labsL, labsR, SV.labs, argsOf, entFr, SO.ev, St.of, keepSt, getAll, lookN, hasN, SV.cells, SV.one, SV.res1, SV.res0, SV.resP, SV.ok1, SV.ok0, SV.okN, SV.solid, SV.solid1, SV.solid0, SV.flat0, SV.nm, SV.nm1, SV.nm0, SV.noPtr1, SV.noPtr0, Cel.isFresh, fillP, setAt, partV, eqCells, cellEq, gamY, listsOk, tupOf, takeOwn, SV.ret1, resAll, resL, resV, Nat.reduceEqDiff, ↓reduceIte, Nat.reduceAdd, Nat.reduceMul, Nat.reduceLeDiff, Nat.reduceLT, reduceCtorEq, labOk, Int.reduceBEq, Int.reduceBNe, Int.reduceToNat, Int.reduceLE, Int.reduceLT, Int.reduceEq, Nat.reduceDiv, Nat.reduceMod, Nat.reduceSub, Nat.reduceBEq, fitR, fitR1, fitR0, fitRL1, fitRL, y56, gC, idSS, hp, hid, t1, t2, t3, t4, hE]
  · have hE : chkE l a b = 3 := if_neg hid
    have hid' : isIdB l = false := by simpa using hid
    simp (config := { maxSteps := 9000000 }) only [↓vyD, vyU, binS, SV.go1, SV.go0, mkRow, intsOf, boolsOf, strsOf, chunks, Row.rep, Row.cat, Row.sub, Row.put, Row.len, Row.get, Row.size, Row.flat, bnds, own0, own1, labsL, labsR, SV.labs, argsOf, entFr, SO.ev, St.of, keepSt, getAll, lookN, hasN, SV.cells, SV.one, SV.res1, SV.res0, SV.resP, SV.ok1, SV.ok0, SV.okN, SV.solid, SV.solid1, SV.solid0, SV.flat0, SV.nm, SV.nm1, SV.nm0, SV.noPtr1, SV.noPtr0, Cel.isFresh, fillP, setAt, partV, eqCells, cellEq, gamY, listsOk, tupOf, takeOwn, SV.ret1, resAll, resL, resV, Nat.reduceEqDiff, ↓reduceIte, Nat.reduceAdd, Nat.reduceMul, Nat.reduceLeDiff, Nat.reduceLT, reduceCtorEq, labOk, Int.reduceBEq, Int.reduceBNe, Int.reduceToNat, Int.reduceLE, Int.reduceLT, Int.reduceEq, Nat.reduceDiv, Nat.reduceMod, Nat.reduceSub, Nat.reduceBEq, fitR, fitR1, fitR0, fitRL1, fitRL, y56, gC, idSS, hp, hid', hE]
def slcloneS : Say
  | [.str l] => some (l.length ≤ 140737488355328, .str l, none)
  | _ => none
theorem slclone_ok : FOk Try.prog 103 slcloneS := by
  intro xs p r own h hp
  unfold slcloneS at h
  split at h
  case h_2 => cases h
  rename_i l
  simp only [Option.some.injEq, Prod.mk.injEq] at h
  obtain ⟨rfl, rfl, rfl⟩ := h
  refine .of (by decide) ⟨⟨_, Try.func103, of_decide_eq_true (by kernel_rfl), by kernel_rfl⟩, fun A w vs hlow hvs => ?_⟩
  obtain ⟨v, us, rfl, hv, hn⟩ := hvs.cons_inv
  obtain rfl := hn.nil_inv
  rw [hv.str_inv]
  have hsz : (⟨l.toArray⟩ : ByteArray).size = l.length := by simp [ByteArray.size]
  refine (Try.stringslite_Clone ⟨l.toArray⟩ w (by rw [hsz]; omega)).mono fun e w' ⟨he, hb⟩ => ⟨hb, _, he, none, rfl, ?_⟩
  exact Is.str l
def gK : List (Nat × Say) := [(103, slcloneS)]
theorem gK_ok : GamOk Try.prog (gamY gK) := gam_ok (gam_cons slclone_ok gam_nil)
def scloneS : Say
  | [.str l] => some (l.length ≤ 140737488355328, .str l, none)
  | _ => none
theorem sclone_ok : FOk Try.prog 82 scloneS := by
  intro xs p r own h hp
  unfold scloneS at h
  split at h
  case h_2 => cases h
  rename_i l
  simp only [Option.some.injEq, Prod.mk.injEq] at h
  obtain ⟨rfl, rfl, rfl⟩ := h
  refine fun_ok gK_ok lawy_mixed y82_eq none ?_ (Nat.le_of_ble_eq_true rfl)
  simp (config := { maxSteps := 9000000 }) only [↓vyD, vyU, binS, SV.go1, SV.go0, mkRow, intsOf, boolsOf, strsOf, chunks, Row.rep, Row.cat, Row.sub, Row.put, Row.len, Row.get, Row.size, Row.flat, bnds, own0, own1, labsL, labsR, SV.labs, argsOf, entFr, SO.ev, St.of, keepSt, getAll, lookN, hasN, SV.cells, SV.one, SV.res1, SV.res0, SV.resP, SV.ok1, SV.ok0, SV.okN, SV.solid, SV.solid1, SV.solid0, SV.flat0, SV.nm, SV.nm1, SV.nm0, SV.noPtr1, SV.noPtr0, Cel.isFresh, fillP, setAt, partV, eqCells, cellEq, gamY, listsOk, tupOf, takeOwn, SV.ret1, resAll, resL, resV, Nat.reduceEqDiff, ↓reduceIte, Nat.reduceAdd, Nat.reduceMul, Nat.reduceLeDiff, Nat.reduceLT, reduceCtorEq, labOk, Int.reduceBEq, Int.reduceBNe, Int.reduceToNat, Int.reduceLE, Int.reduceLT, Int.reduceEq, Nat.reduceDiv, Nat.reduceMod, Nat.reduceSub, Nat.reduceBEq, fitR, fitR1, fitR0, fitRL1, fitRL, y82, gK, slcloneS, hp]
end Go.Proofs.Ytgklfolmlcfjgaa
