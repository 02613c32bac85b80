/- What the functions of beat do. -/
import Derived.Test.YtmacgmngbmaadaaDoorYA
import Derived.Test.YtmacgmngbmaadaaDoorYX6
import Derived.Test.YtmacgmngbmaadaaDoorYD6
import Derived.Test.YtmacgmngbmaadaaDoorYShClone
import Derived.Test.YtmacgmngbmaadaaDoorCB6
namespace Go.Proofs.YtmacgmngbmaadaaDoor
open Go.ChangeShapes Go.WideShapes Go.ChangeAt Go.RowKit Go.Joins Y
set_option linter.unusedSimpArgs false
set_option linter.unusedVariables false
set_option maxRecDepth 100000
set_option maxHeartbeats 40000000
def isLenS : Say
  | [.int .i64 n] => some (True, .bool (decide (1 ≤ n ∧ n ≤ 8)), none)
  | _ => none
theorem isLen_ok : FOk Tryd.prog 33 isLenS := by
  intro xs p r own h hp
  unfold isLenS at h
  split at h
  case h_2 => cases h
  rename_i n
  simp only [Option.some.injEq, Prod.mk.injEq] at h
  obtain ⟨rfl, rfl, rfl⟩ := h
  refine fun_ok (gam_ok gam_nil) lawy_mixed y33_eq none ?_ (Nat.le_of_ble_eq_true rfl)
  by_cases h1 : 1 ≤ n
  · by_cases h2 : n ≤ 8
    · simp (config := { maxSteps := 9000000 }) only [↓vyD, vyU, binS, SV.go1, SV.go0, mkRow, intsOf, boolsOf, strsOf, chunks, Row.rep, Row.cat, Row.sub, Row.put, Row.len, Row.get, Row.size, Row.flat, bnds, own0, own1, labsL, labsR, SV.labs, argsOf, entFr, SO.ev, St.of, keepSt, getAll, lookN, hasN, SV.cells, SV.one, SV.res1, SV.res0, SV.resP, SV.ok1, SV.ok0, SV.okN, SV.solid, SV.solid1, SV.solid0, SV.flat0, SV.nm, SV.nm1, SV.nm0, SV.noPtr1, SV.noPtr0, Cel.isFresh, fillP, setAt, partV, eqCells, cellEq, gamY, listsOk, tupOf, takeOwn, SV.ret1, resAll, resL, resV, Nat.reduceEqDiff, ↓reduceIte, Nat.reduceAdd, Nat.reduceMul, Nat.reduceLeDiff, Nat.reduceLT, reduceCtorEq, labOk, Int.reduceBEq, Int.reduceBNe, Int.reduceToNat, Int.reduceLE, Int.reduceLT, Int.reduceEq, Nat.reduceDiv, Nat.reduceMod, Nat.reduceSub, Nat.reduceBEq, fitR, fitR1, fitR0, fitRL1, fitRL, y33, h1, h2]
    · simp (config := { maxSteps := 9000000 }) only [↓vyD, vyU, binS, SV.go1, SV.go0, mkRow, intsOf, boolsOf, strsOf, chunks, Row.rep, Row.cat, Row.sub, Row.put, Row.len, Row.get, Row.size, Row.flat, bnds, own0, own1, labsL, labsR, SV.labs, argsOf, entFr, SO.ev, St.of, keepSt, getAll, lookN, hasN, SV.cells, SV.one, SV.res1, SV.res0, SV.resP, SV.ok1, SV.ok0, SV.okN, SV.solid, SV.solid1, SV.solid0, SV.flat0, SV.nm, SV.nm1, SV.nm0, SV.noPtr1, SV.noPtr0, Cel.isFresh, fillP, setAt, partV, eqCells, cellEq, gamY, listsOk, tupOf, takeOwn, SV.ret1, resAll, resL, resV, Nat.reduceEqDiff, ↓reduceIte, Nat.reduceAdd, Nat.reduceMul, Nat.reduceLeDiff, Nat.reduceLT, reduceCtorEq, labOk, Int.reduceBEq, Int.reduceBNe, Int.reduceToNat, Int.reduceLE, Int.reduceLT, Int.reduceEq, Nat.reduceDiv, Nat.reduceMod, Nat.reduceSub, Nat.reduceBEq, fitR, fitR1, fitR0, fitRL1, fitRL, y33, h1, h2, and_false]
  · simp (config := { maxSteps := 9000000 }) only [↓vyD, vyU, binS, SV.go1, SV.go0, mkRow, intsOf, boolsOf, strsOf, chunks, Row.rep, Row.cat, Row.sub, Row.put, Row.len, Row.get, Row.size, Row.flat, bnds, own0, own1, labsL, labsR, SV.labs, argsOf, entFr, SO.ev, St.of, keepSt, getAll, lookN, hasN, SV.cells, SV.one, SV.res1, SV.res0, SV.resP, SV.ok1, SV.ok0, SV.okN, SV.solid, SV.solid1, SV.solid0, SV.flat0, SV.nm, SV.nm1, SV.nm0, SV.noPtr1, SV.noPtr0, Cel.isFresh, fillP, setAt, partV, eqCells, cellEq, gamY, listsOk, tupOf, takeOwn, SV.ret1, resAll, resL, resV, Nat.reduceEqDiff, ↓reduceIte, Nat.reduceAdd, Nat.reduceMul, Nat.reduceLeDiff, Nat.reduceLT, reduceCtorEq, labOk, Int.reduceBEq, Int.reduceBNe, Int.reduceToNat, Int.reduceLE, Int.reduceLT, Int.reduceEq, Nat.reduceDiv, Nat.reduceMod, Nat.reduceSub, Nat.reduceBEq, fitR, fitR1, fitR0, fitRL1, fitRL, y33, h1, false_and]
theorem all_take_succ {p : UInt8 → Bool} {l : List UInt8} {i : Nat} (h : (l.take i).all p = true) (hi : i < l.length) (hp : p (l.getD i 0) = true) : (l.take (i + 1)).all p = true := by
  rw [List.take_succ_eq_append_getElem hi, List.all_append, h]
  have : l.getD i 0 = l[i] := by simp [List.getD, hi]
  rw [this] at hp
  simp [hp]
theorem all_false {p : UInt8 → Bool} {l : List UInt8} {i : Nat} (hi : i < l.length) (hp : p (l.getD i 0) = false) : l.all p = false := by
  have h1 : l.getD i 0 = l[i] := by simp [List.getD, hi]
  rw [h1] at hp
  rw [Bool.eq_false_iff]
  intro h
  have := (List.all_eq_true.1 h) l[i] (List.getElem_mem hi)
  rw [hp] at this; cases this
theorem letB_t {c : UInt8} (h1 : ¬ (c.toNat : Int) < 97) (h2 : ¬ (122 : Int) < (c.toNat : Int)) : letB c = true := by unfold letB; simp; omega
theorem letB_f {c : UInt8} (h : (c.toNat : Int) < 97 ∨ (122 : Int) < (c.toNat : Int)) : letB c = false := by unfold letB; simp; omega
def gI : List (Nat × Say) := [(33, isLenS)]
theorem gI_ok : GamOk Tryd.prog (gamY gI) := gam_ok (gam_cons isLen_ok gam_nil)
def idSS : Say
  | [.str l] => some (l.length ≤ 140737488355328, .bool (isIdB l), none)
  | _ => none
theorem idS_ok : FOk Tryd.prog 16 idSS := by
  intro xs p r own h hp
  unfold idSS at h
  split at h
  case h_2 => cases h
  rename_i l
  simp only [Option.some.injEq, Prod.mk.injEq] at h
  obtain ⟨rfl, rfl, rfl⟩ := h
  refine fun_ok gI_ok lawy_mixed y16_eq none ?_ (Nat.le_of_ble_eq_true rfl)
  by_cases h : 1 ≤ (l.length : Int) ∧ (l.length : Int) ≤ 8
  · have hl : (decide (1 ≤ l.length ∧ l.length ≤ 8)) = true := by simp; omega
    simp (config := { maxSteps := 9000000 }) only [↓vyD, vyU, binS, SV.go1, SV.go0, mkRow, intsOf, boolsOf, strsOf, chunks, Row.rep, Row.cat, Row.sub, Row.put, Row.len, Row.get, Row.size, Row.flat, bnds, own0, own1, labsL, labsR, SV.labs, argsOf, entFr, SO.ev, St.of, keepSt, getAll, lookN, hasN, SV.cells, SV.one, SV.res1, SV.res0, SV.resP, SV.ok1, SV.ok0, SV.okN, SV.solid, SV.solid1, SV.solid0, SV.flat0, SV.nm, SV.nm1, SV.nm0, SV.noPtr1, SV.noPtr0, Cel.isFresh, fillP, setAt, partV, eqCells, cellEq, gamY, listsOk, tupOf, takeOwn, SV.ret1, resAll, resL, resV, Nat.reduceEqDiff, ↓reduceIte, Nat.reduceAdd, Nat.reduceMul, Nat.reduceLeDiff, Nat.reduceLT, reduceCtorEq, labOk, Int.reduceBEq, Int.reduceBNe, Int.reduceToNat, Int.reduceLE, Int.reduceLT, Int.reduceEq, Nat.reduceDiv, Nat.reduceMod, Nat.reduceSub, Nat.reduceBEq, fitR, fitR1, fitR0, fitRL1, fitRL, y16, gI, isLenS, h]
    refine loopG_intro (ι := Nat) (fun i => [(0, .str l), (9, .int .i64 l.length), (10, .int .i64 i)]) (fun _ => []) (fun i => i ≤ l.length ∧ (l.take i).all letB = true) (fun i => l.length - i) ⟨0, by simp, ?_, ?_, ?_⟩ fun i hi => ?_
    · simp (config := { maxSteps := 9000000 }) only [↓vyD, vyU, binS, SV.go1, SV.go0, mkRow, intsOf, boolsOf, strsOf, chunks, Row.rep, Row.cat, Row.sub, Row.put, Row.len, Row.get, Row.size, Row.flat, bnds, own0, own1, labsL, labsR, SV.labs, argsOf, entFr, SO.ev, St.of, keepSt, getAll, lookN, hasN, SV.cells, SV.one, SV.res1, SV.res0, SV.resP, SV.ok1, SV.ok0, SV.okN, SV.solid, SV.solid1, SV.solid0, SV.flat0, SV.nm, SV.nm1, SV.nm0, SV.noPtr1, SV.noPtr0, Cel.isFresh, fillP, setAt, partV, eqCells, cellEq, gamY, listsOk, tupOf, takeOwn, SV.ret1, resAll, resL, resV, Nat.reduceEqDiff, ↓reduceIte, Nat.reduceAdd, Nat.reduceMul, Nat.reduceLeDiff, Nat.reduceLT, reduceCtorEq, labOk, Int.reduceBEq, Int.reduceBNe, Int.reduceToNat, Int.reduceLE, Int.reduceLT, Int.reduceEq, Nat.reduceDiv, Nat.reduceMod, Nat.reduceSub, Nat.reduceBEq, fitR, fitR1, fitR0, fitRL1, fitRL, h]
    · simp (config := { maxSteps := 9000000 }) only [↓vyD, vyU, binS, SV.go1, SV.go0, mkRow, intsOf, boolsOf, strsOf, chunks, Row.rep, Row.cat, Row.sub, Row.put, Row.len, Row.get, Row.size, Row.flat, bnds, own0, own1, labsL, labsR, SV.labs, argsOf, entFr, SO.ev, St.of, keepSt, getAll, lookN, hasN, SV.cells, SV.one, SV.res1, SV.res0, SV.resP, SV.ok1, SV.ok0, SV.okN, SV.solid, SV.solid1, SV.solid0, SV.flat0, SV.nm, SV.nm1, SV.nm0, SV.noPtr1, SV.noPtr0, Cel.isFresh, fillP, setAt, partV, eqCells, cellEq, gamY, listsOk, tupOf, takeOwn, SV.ret1, resAll, resL, resV, Nat.reduceEqDiff, ↓reduceIte, Nat.reduceAdd, Nat.reduceMul, Nat.reduceLeDiff, Nat.reduceLT, reduceCtorEq, labOk, Int.reduceBEq, Int.reduceBNe, Int.reduceToNat, Int.reduceLE, Int.reduceLT, Int.reduceEq, Nat.reduceDiv, Nat.reduceMod, Nat.reduceSub, Nat.reduceBEq, fitR, fitR1, fitR0, fitRL1, fitRL, h]
    · simp (config := { maxSteps := 9000000 }) only [↓vyD, vyU, binS, SV.go1, SV.go0, mkRow, intsOf, boolsOf, strsOf, chunks, Row.rep, Row.cat, Row.sub, Row.put, Row.len, Row.get, Row.size, Row.flat, bnds, own0, own1, labsL, labsR, SV.labs, argsOf, entFr, SO.ev, St.of, keepSt, getAll, lookN, hasN, SV.cells, SV.one, SV.res1, SV.res0, SV.resP, SV.ok1, SV.ok0, SV.okN, SV.solid, SV.solid1, SV.solid0, SV.flat0, SV.nm, SV.nm1, SV.nm0, SV.noPtr1, SV.noPtr0, Cel.isFresh, fillP, setAt, partV, eqCells, cellEq, gamY, listsOk, tupOf, takeOwn, SV.ret1, resAll, resL, resV, Nat.reduceEqDiff, ↓reduceIte, Nat.reduceAdd, Nat.reduceMul, Nat.reduceLeDiff, Nat.reduceLT, reduceCtorEq, labOk, Int.reduceBEq, Int.reduceBNe, Int.reduceToNat, Int.reduceLE, Int.reduceLT, Int.reduceEq, Nat.reduceDiv, Nat.reduceMod, Nat.reduceSub, Nat.reduceBEq, fitR, fitR1, fitR0, fitRL1, fitRL, h]
    · obtain ⟨hi, hall⟩ := hi
      by_cases hlt : (i : Int) < (l.length : Int)
      · have hlt' : i < l.length := by omega
        have w1 := i64_wrap (show I64 ((i : Int) + 1) by unfold I64; omega)
        have c0 : (0 : Int) ≤ (i : Int) := by omega
        by_cases h1 : ((l.getD i 0).toNat : Int) < 97
        · have hf : isIdB l = false := by unfold isIdB; rw [all_false hlt' (letB_f (.inl h1)), Bool.and_false]
          simp (config := { maxSteps := 9000000 }) only [↓vyD, vyU, binS, SV.go1, SV.go0, mkRow, intsOf, boolsOf, strsOf, chunks, Row.rep, Row.cat, Row.sub, Row.put, Row.len, Row.get, Row.size, Row.flat, bnds, own0, own1, labsL, labsR, SV.labs, argsOf, entFr, SO.ev, St.of, keepSt, getAll, lookN, hasN, SV.cells, SV.one, SV.res1, SV.res0, SV.resP, SV.ok1, SV.ok0, SV.okN, SV.solid, SV.solid1, SV.solid0, SV.flat0, SV.nm, SV.nm1, SV.nm0, SV.noPtr1, SV.noPtr0, Cel.isFresh, fillP, setAt, partV, eqCells, cellEq, gamY, listsOk, tupOf, takeOwn, SV.ret1, resAll, resL, resV, Nat.reduceEqDiff, ↓reduceIte, Nat.reduceAdd, Nat.reduceMul, Nat.reduceLeDiff, Nat.reduceLT, reduceCtorEq, labOk, Int.reduceBEq, Int.reduceBNe, Int.reduceToNat, Int.reduceLE, Int.reduceLT, Int.reduceEq, Nat.reduceDiv, Nat.reduceMod, Nat.reduceSub, Nat.reduceBEq, fitR, fitR1, fitR0, fitRL1, fitRL, hlt, Int.toNat_natCast, w1, c0, h1, hf, not_true_eq_false]
        · by_cases h2 : (122 : Int) < ((l.getD i 0).toNat : Int)
          · have hf : isIdB l = false := by unfold isIdB; rw [all_false hlt' (letB_f (.inr h2)), Bool.and_false]
            simp (config := { maxSteps := 9000000 }) only [↓vyD, vyU, binS, SV.go1, SV.go0, mkRow, intsOf, boolsOf, strsOf, chunks, Row.rep, Row.cat, Row.sub, Row.put, Row.len, Row.get, Row.size, Row.flat, bnds, own0, own1, labsL, labsR, SV.labs, argsOf, entFr, SO.ev, St.of, keepSt, getAll, lookN, hasN, SV.cells, SV.one, SV.res1, SV.res0, SV.resP, SV.ok1, SV.ok0, SV.okN, SV.solid, SV.solid1, SV.solid0, SV.flat0, SV.nm, SV.nm1, SV.nm0, SV.noPtr1, SV.noPtr0, Cel.isFresh, fillP, setAt, partV, eqCells, cellEq, gamY, listsOk, tupOf, takeOwn, SV.ret1, resAll, resL, resV, Nat.reduceEqDiff, ↓reduceIte, Nat.reduceAdd, Nat.reduceMul, Nat.reduceLeDiff, Nat.reduceLT, reduceCtorEq, labOk, Int.reduceBEq, Int.reduceBNe, Int.reduceToNat, Int.reduceLE, Int.reduceLT, Int.reduceEq, Nat.reduceDiv, Nat.reduceMod, Nat.reduceSub, Nat.reduceBEq, fitR, fitR1, fitR0, fitRL1, fitRL, hlt, Int.toNat_natCast, w1, c0, h1, h2, hf, not_false_eq_true]
          · simp (config := { maxSteps := 9000000 }) only [↓vyD, vyU, binS, SV.go1, SV.go0, mkRow, intsOf, boolsOf, strsOf, chunks, Row.rep, Row.cat, Row.sub, Row.put, Row.len, Row.get, Row.size, Row.flat, bnds, own0, own1, labsL, labsR, SV.labs, argsOf, entFr, SO.ev, St.of, keepSt, getAll, lookN, hasN, SV.cells, SV.one, SV.res1, SV.res0, SV.resP, SV.ok1, SV.ok0, SV.okN, SV.solid, SV.solid1, SV.solid0, SV.flat0, SV.nm, SV.nm1, SV.nm0, SV.noPtr1, SV.noPtr0, Cel.isFresh, fillP, setAt, partV, eqCells, cellEq, gamY, listsOk, tupOf, takeOwn, SV.ret1, resAll, resL, resV, Nat.reduceEqDiff, ↓reduceIte, Nat.reduceAdd, Nat.reduceMul, Nat.reduceLeDiff, Nat.reduceLT, reduceCtorEq, labOk, Int.reduceBEq, Int.reduceBNe, Int.reduceToNat, Int.reduceLE, Int.reduceLT, Int.reduceEq, Nat.reduceDiv, Nat.reduceMod, Nat.reduceSub, Nat.reduceBEq, fitR, fitR1, fitR0, fitRL1, fitRL, hlt, Int.toNat_natCast, w1, c0, h1, h2]
            exact ⟨i + 1, ⟨⟨by omega, all_take_succ hall hlt' (letB_t h1 h2)⟩, by omega⟩, by simp⟩
      · have hiS : i = l.length := by omega
        subst hiS
        rw [List.take_length] at hall
        have hf : isIdB l = true := by unfold isIdB; rw [hl, hall]; rfl
        simp (config := { maxSteps := 9000000 }) only [↓vyD, vyU, binS, SV.go1, SV.go0, mkRow, intsOf, boolsOf, strsOf, chunks, Row.rep, Row.cat, Row.sub, Row.put, Row.len, Row.get, Row.size, Row.flat, bnds, own0, own1, labsL, labsR, SV.labs, argsOf, entFr, SO.ev, St.of, keepSt, getAll, lookN, hasN, SV.cells, SV.one, SV.res1, SV.res0, SV.resP, SV.ok1, SV.ok0, SV.okN, SV.solid, SV.solid1, SV.solid0, SV.flat0, SV.nm, SV.nm1, SV.nm0, SV.noPtr1, SV.noPtr0, Cel.isFresh, fillP, setAt, partV, eqCells, cellEq, gamY, listsOk, tupOf, takeOwn, SV.ret1, resAll, resL, resV, Nat.reduceEqDiff, ↓reduceIte, Nat.reduceAdd, Nat.reduceMul, Nat.reduceLeDiff, Nat.reduceLT, reduceCtorEq, labOk, Int.reduceBEq, Int.reduceBNe, Int.reduceToNat, Int.reduceLE, Int.reduceLT, Int.reduceEq, Nat.reduceDiv, Nat.reduceMod, Nat.reduceSub, Nat.reduceBEq, fitR, fitR1, fitR0, fitRL1, fitRL, hlt, hf]
  · have hf : isIdB l = false := by
      unfold isIdB
      rw [decide_eq_false (by omega), Bool.false_and]
    simp (config := { maxSteps := 9000000 }) only [↓vyD, vyU, binS, SV.go1, SV.go0, mkRow, intsOf, boolsOf, strsOf, chunks, Row.rep, Row.cat, Row.sub, Row.put, Row.len, Row.get, Row.size, Row.flat, bnds, own0, own1, labsL, labsR, SV.labs, argsOf, entFr, SO.ev, St.of, keepSt, getAll, lookN, hasN, SV.cells, SV.one, SV.res1, SV.res0, SV.resP, SV.ok1, SV.ok0, SV.okN, SV.solid, SV.solid1, SV.solid0, SV.flat0, SV.nm, SV.nm1, SV.nm0, SV.noPtr1, SV.noPtr0, Cel.isFresh, fillP, setAt, partV, eqCells, cellEq, gamY, listsOk, tupOf, takeOwn, SV.ret1, resAll, resL, resV, Nat.reduceEqDiff, ↓reduceIte, Nat.reduceAdd, Nat.reduceMul, Nat.reduceLeDiff, Nat.reduceLT, reduceCtorEq, labOk, Int.reduceBEq, Int.reduceBNe, Int.reduceToNat, Int.reduceLE, Int.reduceLT, Int.reduceEq, Nat.reduceDiv, Nat.reduceMod, Nat.reduceSub, Nat.reduceBEq, fitR, fitR1, fitR0, fitRL1, fitRL, y16, gI, isLenS, h, hf]
def gC : List (Nat × Say) := [(16, idSS)]
theorem gC_ok : GamOk Tryd.prog (gamY gC) := gam_ok (gam_cons idS_ok gam_nil)
def chkS : Say
  | [.agg [.str l, .int .i64 a, .int .i64 b]] => some (l.length ≤ 140737488355328, .int .i64 (chkE l a b), none)
  | _ => none
theorem chk_ok : FOk Tryd.prog 18 chkS := by
  intro xs p r own h hp
  unfold chkS at h
  split at h
  case h_2 => cases h
  rename_i l a b
  simp only [Option.some.injEq, Prod.mk.injEq] at h
  obtain ⟨rfl, rfl, rfl⟩ := h
  refine fun_ok gC_ok lawy_mixed y18_eq none ?_ (Nat.le_of_ble_eq_true rfl)
  by_cases hid : isIdB l = true
  · by_cases h : 0 ≤ a ∧ a < 2147483648 ∧ 1 ≤ b ∧ b < 2147483648
    · have hE : chkE l a b = 0 := chkE_0.2 ⟨hid, h⟩
      obtain ⟨h1, h2, h3, h4⟩ := h
      have t1 : ¬ a < 0 := by omega
      have t2 : ¬ 2147483648 ≤ a := by omega
      have t3 : ¬ b < 1 := by omega
      have t4 : ¬ 2147483648 ≤ b := by omega
      simp (config := { maxSteps := 9000000 }) only [↓vyD, vyU, binS, SV.go1, SV.go0, mkRow, intsOf, boolsOf, strsOf, chunks, Row.rep, Row.cat, Row.sub, Row.put, Row.len, Row.get, Row.size, Row.flat, bnds, own0, own1, labsL, labsR, SV.labs, argsOf, entFr, SO.ev, St.of, keepSt, getAll, lookN, hasN, SV.cells, SV.one, SV.res1, SV.res0, SV.resP, SV.ok1, SV.ok0, SV.okN, SV.solid, SV.solid1, SV.solid0, SV.flat0, SV.nm, SV.nm1, SV.nm0, SV.noPtr1, SV.noPtr0, Cel.isFresh, fillP, setAt, partV, eqCells, cellEq, gamY, listsOk, tupOf, takeOwn, SV.ret1, resAll, resL, resV, Nat.reduceEqDiff, ↓reduceIte, Nat.reduceAdd, Nat.reduceMul, Nat.reduceLeDiff, Nat.reduceLT, reduceCtorEq, labOk, Int.reduceBEq, Int.reduceBNe, Int.reduceToNat, Int.reduceLE, Int.reduceLT, Int.reduceEq, Nat.reduceDiv, Nat.reduceMod, Nat.reduceSub, Nat.reduceBEq, fitR, fitR1, fitR0, fitRL1, fitRL, y18, gC, idSS, hp, hid, t1, t2, t3, t4, hE]
    · have hE : chkE l a b = 1 := by unfold chkE; rw [if_pos hid, if_neg h]
      by_cases t1 : a < 0
      · simp (config := { maxSteps := 9000000 }) only [↓vyD, vyU, binS, SV.go1, SV.go0, mkRow, intsOf, boolsOf, strsOf, chunks, Row.rep, Row.cat, Row.sub, Row.put, Row.len, Row.get, Row.size, Row.flat, bnds, own0, own1, labsL, labsR, SV.labs, argsOf, entFr, SO.ev, St.of, keepSt, getAll, lookN, hasN, SV.cells, SV.one, SV.res1, SV.res0, SV.resP, SV.ok1, SV.ok0, SV.okN, SV.solid, SV.solid1, SV.solid0, SV.flat0, SV.nm, SV.nm1, SV.nm0, SV.noPtr1, SV.noPtr0, Cel.isFresh, fillP, setAt, partV, eqCells, cellEq, gamY, listsOk, tupOf, takeOwn, SV.ret1, resAll, resL, resV, Nat.reduceEqDiff, ↓reduceIte, Nat.reduceAdd, Nat.reduceMul, Nat.reduceLeDiff, Nat.reduceLT, reduceCtorEq, labOk, Int.reduceBEq, Int.reduceBNe, Int.reduceToNat, Int.reduceLE, Int.reduceLT, Int.reduceEq, Nat.reduceDiv, Nat.reduceMod, Nat.reduceSub, Nat.reduceBEq, fitR, fitR1, fitR0, fitRL1, fitRL, y18, gC, idSS, hp, hid, t1, hE]
      by_cases t2 : 2147483648 ≤ a
      · simp (config := { maxSteps := 9000000 }) only [↓vyD, vyU, binS, SV.go1, SV.go0, mkRow, intsOf, boolsOf, strsOf, chunks, Row.rep, Row.cat, Row.sub, Row.put, Row.len, Row.get, Row.size, Row.flat, bnds, own0, own1, labsL, labsR, SV.labs, argsOf, entFr, SO.ev, St.of, keepSt, getAll, lookN, hasN, SV.cells, SV.one, SV.res1, SV.res0, SV.resP, SV.ok1, SV.ok0, SV.okN, SV.solid, SV.solid1, SV.solid0, SV.flat0, SV.nm, SV.nm1, SV.nm0, SV.noPtr1, SV.noPtr0, Cel.isFresh, fillP, setAt, partV, eqCells, cellEq, gamY, listsOk, tupOf, takeOwn, SV.ret1, resAll, resL, resV, Nat.reduceEqDiff, ↓reduceIte, Nat.reduceAdd, Nat.reduceMul, Nat.reduceLeDiff, Nat.reduceLT, reduceCtorEq, labOk, Int.reduceBEq, Int.reduceBNe, Int.reduceToNat, Int.reduceLE, Int.reduceLT, Int.reduceEq, Nat.reduceDiv, Nat.reduceMod, Nat.reduceSub, Nat.reduceBEq, fitR, fitR1, fitR0, fitRL1, fitRL, y18, gC, idSS, hp, hid, t1, t2, hE]
      by_cases t3 : b < 1
      · simp (config := { maxSteps := 9000000 }) only [↓vyD, vyU, binS, SV.go1, SV.go0, mkRow, intsOf, boolsOf, strsOf, chunks, Row.rep, Row.cat, Row.sub, Row.put, Row.len, Row.get, Row.size, Row.flat, bnds, own0, own1, labsL, labsR, SV.labs, argsOf, entFr, SO.ev, St.of, keepSt, getAll, lookN, hasN, SV.cells, SV.one, SV.res1, SV.res0, SV.resP, SV.ok1, SV.ok0, SV.okN, SV.solid, SV.solid1, SV.solid0, SV.flat0, SV.nm, SV.nm1, SV.nm0, SV.noPtr1, SV.noPtr0, Cel.isFresh, fillP, setAt, partV, eqCells, cellEq, gamY, listsOk, tupOf, takeOwn, SV.ret1, resAll, resL, resV, Nat.reduceEqDiff, ↓reduceIte, Nat.reduceAdd, Nat.reduceMul, Nat.reduceLeDiff, Nat.reduceLT, reduceCtorEq, labOk, Int.reduceBEq, Int.reduceBNe, Int.reduceToNat, Int.reduceLE, Int.reduceLT, Int.reduceEq, Nat.reduceDiv, Nat.reduceMod, Nat.reduceSub, Nat.reduceBEq, fitR, fitR1, fitR0, fitRL1, fitRL, y18, gC, idSS, hp, hid, t1, t2, t3, hE]
      have t4 : 2147483648 ≤ b := by omega
      simp (config := { maxSteps := 9000000 }) only [↓vyD, vyU, binS, SV.go1, SV.go0, mkRow, intsOf, boolsOf, strsOf, chunks, Row.rep, Row.cat, Row.sub, Row.put, Row.len, Row.get, Row.size, Row.flat, bnds, own0, own1, labsL, labsR, SV.labs, argsOf, entFr, SO.ev, St.of, keepSt, getAll, lookN, hasN, SV.cells, SV.one, SV.res1, SV.res0, SV.resP, SV.ok1, SV.ok0, SV.okN, SV.solid, SV.solid1, SV.solid0, SV.flat0, SV.nm, SV.nm1, SV.nm0, SV.noPtr1, SV.noPtr0, Cel.isFresh, fillP, setAt, partV, eqCells, cellEq, gamY, listsOk, tupOf, takeOwn, SV.ret1, resAll, resL, resV, Nat.reduceEqDiff, ↓reduceIte, Nat.reduceAdd, Nat.reduceMul, Nat.reduceLeDiff, Nat.reduceLT, reduceCtorEq, labOk, Int.reduceBEq, Int.reduceBNe, Int.reduceToNat, Int.reduceLE, Int.reduceLT, Int.reduceEq, Nat.reduceDiv, Nat.reduceMod, Nat.reduceSub, Nat.reduceBEq, fitR, fitR1, fitR0, fitRL1, fitRL, y18, gC, idSS, hp, hid, t1, t2, t3, t4, hE]
  · have hE : chkE l a b = 3 := if_neg hid
    have hid' : isIdB l = false := by simpa using hid
    simp (config := { maxSteps := 9000000 }) only [↓vyD, vyU, binS, SV.go1, SV.go0, mkRow, intsOf, boolsOf, strsOf, chunks, Row.rep, Row.cat, Row.sub, Row.put, Row.len, Row.get, Row.size, Row.flat, bnds, own0, own1, labsL, labsR, SV.labs, argsOf, entFr, SO.ev, St.of, keepSt, getAll, lookN, hasN, SV.cells, SV.one, SV.res1, SV.res0, SV.resP, SV.ok1, SV.ok0, SV.okN, SV.solid, SV.solid1, SV.solid0, SV.flat0, SV.nm, SV.nm1, SV.nm0, SV.noPtr1, SV.noPtr0, Cel.isFresh, fillP, setAt, partV, eqCells, cellEq, gamY, listsOk, tupOf, takeOwn, SV.ret1, resAll, resL, resV, Nat.reduceEqDiff, ↓reduceIte, Nat.reduceAdd, Nat.reduceMul, Nat.reduceLeDiff, Nat.reduceLT, reduceCtorEq, labOk, Int.reduceBEq, Int.reduceBNe, Int.reduceToNat, Int.reduceLE, Int.reduceLT, Int.reduceEq, Nat.reduceDiv, Nat.reduceMod, Nat.reduceSub, Nat.reduceBEq, fitR, fitR1, fitR0, fitRL1, fitRL, y18, gC, idSS, hp, hid', hE]
theorem wrap_u8n (n : Nat) : IntKind.u8.wrap (n : Int) = (((UInt8.ofNat n).toNat : Nat) : Int) := by
  rw [IntKind.wrap_u8, UInt8.toNat_ofNat']; omega
def apwS : Say
  | [.rw (.ints .u8 l), .int .i64 n] => some (0 ≤ n ∧ l.length + 4 ≤ 140737488355328, .sl 0 0, some (5, .ints .u8 (l ++ bI (word4 n.toNat))))
  | _ => none
theorem apw_ok : FOk Tryd.prog 1000027 apwS := by
  intro xs p r own h hp
  unfold apwS at h
  split at h
  case h_2 => cases h
  rename_i l n
  simp only [Option.some.injEq, Prod.mk.injEq] at h
  obtain ⟨rfl, rfl, rfl⟩ := h
  refine ⟨fun h => absurd h (by decide), (fun _ h => by cases h), fun _ e r1 he => ?_⟩
  simp only [Option.some.injEq, Prod.mk.injEq] at he
  obtain ⟨rfl, rfl⟩ := he
  refine ⟨_, _, rfl, ?_⟩
  show ApOk Tryd.prog 27 _ _ _ _
  refine fun_soundA (gam_ok gam_nil) lawy_mixed y27_eq (by decide) trivial trivial rfl rfl rfl ?_ (Nat.le_of_ble_eq_true rfl)
  obtain ⟨h1, h2⟩ := hp
  obtain ⟨N, rfl⟩ := Int.eq_ofNat_of_zero_le h1
  have e : ∀ (k : Nat) (q : Nat), k ≤ 64 → 2 ^ k = q → (N : Int).fdiv (2 ^ min k IntKind.i64.bits) = ((N / q : Nat) : Int) := fun k q hk hq => by
    rw [show min k IntKind.i64.bits = k by show min k 64 = k; omega, Int.fdiv_eq_ediv_of_nonneg _ (Int.le_of_lt (Int.pow_pos (by omega))), ← hq]
    simp
  have e1 := e 24 16777216 (by omega) rfl
  have e2 := e 16 65536 (by omega) rfl
  have e3 := e 8 256 (by omega) rfl
  have u1 := wrap_u8n (N / 16777216)
  have u2 := wrap_u8n (N / 65536)
  have u3 := wrap_u8n (N / 256)
  have u4 := wrap_u8n N
  have hw : bI (word4 N) = [((UInt8.ofNat (N / 16777216)).toNat : Int), ((UInt8.ofNat (N / 65536)).toNat : Int), ((UInt8.ofNat (N / 256)).toNat : Int), ((UInt8.ofNat N).toNat : Int)] := rfl
  have c1 : (l.length + 4) * 1 ≤ 140737488355328 := by omega
  have nl : (List.contains ([] : List Nat) 999999) = false := rfl
  simp (config := { maxSteps := 9000000 }) only [↓vyD, vyU, binS, SV.go1, SV.go0, mkRow, intsOf, boolsOf, strsOf, chunks, Row.rep, Row.cat, Row.sub, Row.put, Row.len, Row.get, Row.size, Row.flat, bnds, own0, own1, labsL, labsR, SV.labs, argsOf, entFr, SO.ev, St.of, keepSt, getAll, lookN, hasN, SV.cells, SV.one, SV.res1, SV.res0, SV.resP, SV.ok1, SV.ok0, SV.okN, SV.solid, SV.solid1, SV.solid0, SV.flat0, SV.nm, SV.nm1, SV.nm0, SV.noPtr1, SV.noPtr0, Cel.isFresh, fillP, setAt, partV, eqCells, cellEq, gamY, listsOk, tupOf, takeOwn, SV.ret1, resAll, resL, resV, Nat.reduceEqDiff, ↓reduceIte, Nat.reduceAdd, Nat.reduceMul, Nat.reduceLeDiff, Nat.reduceLT, reduceCtorEq, labOk, Int.reduceBEq, Int.reduceBNe, Int.reduceToNat, Int.reduceLE, Int.reduceLT, Int.reduceEq, Nat.reduceDiv, Nat.reduceMod, Nat.reduceSub, Nat.reduceBEq, fitR, fitR1, fitR0, fitRL1, fitRL, y27, entA, argL, e1, e2, e3, u1, u2, u3, u4, Int.toNat_natCast, hw, c1, nl]
def gS : List (Nat × Say) := [(11, crcOfS)]
theorem gS_ok : GamOk Tryd.prog (gamY gS) := gam_ok (gam_cons crcOf_ok gam_nil)
def sumSS : Say
  | [.str l] => some (l.length ≤ 140737488355328, .int .i64 (crcI l), none)
  | _ => none
theorem sumS_ok : FOk Tryd.prog 28 sumSS := by
  intro xs p r own h hp
  unfold sumSS at h
  split at h
  case h_2 => cases h
  rename_i l
  simp only [Option.some.injEq, Prod.mk.injEq] at h
  obtain ⟨rfl, rfl, rfl⟩ := h
  refine fun_ok gS_ok lawy_mixed y28_eq none ?_ (Nat.le_of_ble_eq_true rfl)
  simp (config := { maxSteps := 9000000 }) only [↓vyD, vyU, binS, SV.go1, SV.go0, mkRow, intsOf, boolsOf, strsOf, chunks, Row.rep, Row.cat, Row.sub, Row.put, Row.len, Row.get, Row.size, Row.flat, bnds, own0, own1, labsL, labsR, SV.labs, argsOf, entFr, SO.ev, St.of, keepSt, getAll, lookN, hasN, SV.cells, SV.one, SV.res1, SV.res0, SV.resP, SV.ok1, SV.ok0, SV.okN, SV.solid, SV.solid1, SV.solid0, SV.flat0, SV.nm, SV.nm1, SV.nm0, SV.noPtr1, SV.noPtr0, Cel.isFresh, fillP, setAt, partV, eqCells, cellEq, gamY, listsOk, tupOf, takeOwn, SV.ret1, resAll, resL, resV, Nat.reduceEqDiff, ↓reduceIte, Nat.reduceAdd, Nat.reduceMul, Nat.reduceLeDiff, Nat.reduceLT, reduceCtorEq, labOk, Int.reduceBEq, Int.reduceBNe, Int.reduceToNat, Int.reduceLE, Int.reduceLT, Int.reduceEq, Nat.reduceDiv, Nat.reduceMod, Nat.reduceSub, Nat.reduceBEq, fitR, fitR1, fitR0, fitRL1, fitRL, y28, gS, crcOfS, hp]
def encL (l : List UInt8) (a b : Int) : List UInt8 := if chkE l a b = 0 then codeL l a.toNat b.toNat else []
def gE : List (Nat × Say) := [(18, chkS), (1000027, apwS), (28, sumSS)]
theorem gE_ok : GamOk Tryd.prog (gamY gE) := gam_ok (gam_cons chk_ok (gam_cons apw_ok (gam_cons sumS_ok gam_nil)))
def encS : Say
  | [.agg [.str l, .int .i64 a, .int .i64 b]] => some (l.length ≤ 140737488355328, .tup [.str (encL l a b), .int .i64 (chkE l a b)], none)
  | _ => none
theorem enc_ok : FOk Tryd.prog 13 encS := by
  intro xs p r own h hp
  unfold encS at h
  split at h
  case h_2 => cases h
  rename_i l a b
  simp only [Option.some.injEq, Prod.mk.injEq] at h
  obtain ⟨rfl, rfl, rfl⟩ := h
  refine fun_ok gE_ok lawy_mixed y13_eq none ?_ (Nat.le_of_ble_eq_true rfl)
  by_cases h : chkE l a b = 0
  · obtain ⟨hid, h1, h2, h3, h4⟩ := chkE_0.1 h
    have hl := isIdB_len hid
    obtain ⟨A, rfl⟩ := Int.eq_ofNat_of_zero_le h1
    obtain ⟨B, rfl⟩ := Int.eq_ofNat_of_zero_le (show 0 ≤ b by omega)
    have hS : encL l A B = codeL l A B := if_pos h
    have u1 : IntKind.u8.wrap (l.length : Int) = (((UInt8.ofNat l.length).toNat : Nat) : Int) := wrap_u8n _
    have lb := bodyL_len l A B
    have f1 : crcI (bodyL l A B) = (crcN (bodyL l A B) : Int) := if_pos (by omega)
    have c1 : 2 + l.length ≤ 140737488355328 := by omega
    have c2 : (bodyL l A B).length ≤ 140737488355328 := by omega
    have n1 : (0 : Int) ≤ (A : Int) := by omega
    have n2 : (0 : Int) ≤ (B : Int) := by omega
    have n3 : (0 : Int) ≤ (crcN (bodyL l A B) : Int) := by omega
    have m1 : bI l ++ bI (word4 A) ++ bI (word4 B) = bI (l ++ word4 A ++ word4 B) := by simp [bI]
    have m2 : UInt8.ofNat (UInt8.ofNat l.length).toNat = UInt8.ofNat l.length := UInt8.ofNat_toNat
    have m3 : (UInt8.ofNat 72 :: UInt8.ofNat l.length :: (l ++ word4 A ++ word4 B)) = bodyL l A B := rfl
    simp (config := { maxSteps := 9000000 }) only [↓vyD, vyU, binS, SV.go1, SV.go0, mkRow, intsOf, boolsOf, strsOf, chunks, Row.rep, Row.cat, Row.sub, Row.put, Row.len, Row.get, Row.size, Row.flat, bnds, own0, own1, labsL, labsR, SV.labs, argsOf, entFr, SO.ev, St.of, keepSt, getAll, lookN, hasN, SV.cells, SV.one, SV.res1, SV.res0, SV.resP, SV.ok1, SV.ok0, SV.okN, SV.solid, SV.solid1, SV.solid0, SV.flat0, SV.nm, SV.nm1, SV.nm0, SV.noPtr1, SV.noPtr0, Cel.isFresh, fillP, setAt, partV, eqCells, cellEq, gamY, listsOk, tupOf, takeOwn, SV.ret1, resAll, resL, resV, Nat.reduceEqDiff, ↓reduceIte, Nat.reduceAdd, Nat.reduceMul, Nat.reduceLeDiff, Nat.reduceLT, reduceCtorEq, labOk, Int.reduceBEq, Int.reduceBNe, Int.reduceToNat, Int.reduceLE, Int.reduceLT, Int.reduceEq, Nat.reduceDiv, Nat.reduceMod, Nat.reduceSub, Nat.reduceBEq, fitR, fitR1, fitR0, fitRL1, fitRL, y13, gE, chkS, apwS, sumSS, hp, h, hS, u1, bI_eq, Int.toNat_natCast, n1, n2, c1, bI_len]
    rw [m1, bI_str, m2, m3, f1, Int.toNat_natCast, ← bI_append, bI_str]
    simp only [word4_len, List.length_append]
    refine ⟨by omega, by omega, by omega, ⟨n3, by omega⟩, ?_⟩
    unfold codeL bodyL
    simp
  · have hS : encL l a b = [] := if_neg h
    have t1 : (chkE l a b != 0) = true := by simpa using h
    simp (config := { maxSteps := 9000000 }) only [↓vyD, vyU, binS, SV.go1, SV.go0, mkRow, intsOf, boolsOf, strsOf, chunks, Row.rep, Row.cat, Row.sub, Row.put, Row.len, Row.get, Row.size, Row.flat, bnds, own0, own1, labsL, labsR, SV.labs, argsOf, entFr, SO.ev, St.of, keepSt, getAll, lookN, hasN, SV.cells, SV.one, SV.res1, SV.res0, SV.resP, SV.ok1, SV.ok0, SV.okN, SV.solid, SV.solid1, SV.solid0, SV.flat0, SV.nm, SV.nm1, SV.nm0, SV.noPtr1, SV.noPtr0, Cel.isFresh, fillP, setAt, partV, eqCells, cellEq, gamY, listsOk, tupOf, takeOwn, SV.ret1, resAll, resL, resV, Nat.reduceEqDiff, ↓reduceIte, Nat.reduceAdd, Nat.reduceMul, Nat.reduceLeDiff, Nat.reduceLT, reduceCtorEq, labOk, Int.reduceBEq, Int.reduceBNe, Int.reduceToNat, Int.reduceLE, Int.reduceLT, Int.reduceEq, Nat.reduceDiv, Nat.reduceMod, Nat.reduceSub, Nat.reduceBEq, fitR, fitR1, fitR0, fitRL1, fitRL, y13, gE, chkS, apwS, sumSS, hp, t1, hS]
theorem or_i64 {a b : Nat} (ha : a < 4294967296) (hb : b < 4294967296) : bits .or .i64 (a : Int) (b : Int) = ((a ||| b : Nat) : Int) := by
  have hx := Nat.or_lt_two_pow (n := 32) (x := a) (y := b) ha hb
  simp only [bits, ofInt_nat]
  rw [show IntKind.bits .i64 = 64 from rfl]
  rw [BitVec.toNat_or, BitVec.toNat_ofNat, BitVec.toNat_ofNat, Nat.mod_eq_of_lt (by omega), Nat.mod_eq_of_lt (by omega)]
  exact wrap_i64n (by omega)
theorem or_add (a b k q : Nat) (hq : 2 ^ k = q) (hb : b < q) : a * q ||| b = a * q + b := by
  subst hq
  rw [Nat.mul_comm, ← Nat.two_pow_add_eq_or_of_lt hb]
def wordS : Say
  | [.str l, .int .i64 i] => some (0 ≤ i ∧ i + 4 ≤ (l.length : Int) ∧ l.length ≤ 140737488355328, .int .i64 (valAt l i.toNat : Nat), none)
  | _ => none
theorem word_ok : FOk Tryd.prog 30 wordS := by
  intro xs p r own h hp
  unfold wordS at h
  split at h
  case h_2 => cases h
  rename_i l i
  simp only [Option.some.injEq, Prod.mk.injEq] at h
  obtain ⟨rfl, rfl, rfl⟩ := h
  refine fun_ok (gam_ok gam_nil) lawy_mixed y30_eq none ?_ (Nat.le_of_ble_eq_true rfl)
  obtain ⟨h1, h2, h3⟩ := hp
  obtain ⟨N, rfl⟩ := Int.eq_ofNat_of_zero_le h1
  simp only [Int.toNat_natCast]
  have w1 := i64_wrap (show I64 ((N : Int) + 1) by unfold I64; omega)
  have w2 := i64_wrap (show I64 ((N : Int) + 2) by unfold I64; omega)
  have w3 := i64_wrap (show I64 ((N : Int) + 3) by unfold I64; omega)
  have i1 : ((N : Int) + 1).toNat = N + 1 := by omega
  have i2 : ((N : Int) + 2).toNat = N + 2 := by omega
  have i3 : ((N : Int) + 3).toNat = N + 3 := by omega
  have c0 : (0 : Int) ≤ (N : Int) ∧ (N : Int) < (l.length : Int) := by omega
  have c1 : (0 : Int) ≤ (N : Int) + 1 ∧ (N : Int) + 1 < (l.length : Int) := by omega
  have c2 : (0 : Int) ≤ (N : Int) + 2 ∧ (N : Int) + 2 < (l.length : Int) := by omega
  have c3 : (0 : Int) ≤ (N : Int) + 3 ∧ (N : Int) + 3 < (l.length : Int) := by omega
  have hv : valAt l N = (l.getD N 0).toNat * 16777216 + (l.getD (N + 1) 0).toNat * 65536 + (l.getD (N + 2) 0).toNat * 256 + (l.getD (N + 3) 0).toNat := rfl
  have b0 := u8_lt (l.getD N 0)
  have b1 := u8_lt (l.getD (N + 1) 0)
  have b2 := u8_lt (l.getD (N + 2) 0)
  have b3 := u8_lt (l.getD (N + 3) 0)
  generalize hA : (l.getD N 0).toNat = A at *
  generalize hB : (l.getD (N + 1) 0).toNat = B at *
  generalize hC : (l.getD (N + 2) 0).toNat = C at *
  generalize hD : (l.getD (N + 3) 0).toNat = D at *
  have v0 := wrap_i64n (n := A) (by omega)
  have v1 := wrap_i64n (n := B) (by omega)
  have v2 := wrap_i64n (n := C) (by omega)
  have v3 := wrap_i64n (n := D) (by omega)
  obtain ⟨x, hx⟩ : ∃ x : Nat, x = A * 16777216 := ⟨_, rfl⟩
  obtain ⟨y, hy⟩ : ∃ x : Nat, x = B * 65536 := ⟨_, rfl⟩
  obtain ⟨z, hz⟩ : ∃ x : Nat, x = C * 256 := ⟨_, rfl⟩
  obtain ⟨p1, hp1⟩ : ∃ p : Nat, p = x + y := ⟨_, rfl⟩
  obtain ⟨p2, hp2⟩ : ∃ p : Nat, p = p1 + z := ⟨_, rfl⟩
  obtain ⟨p3, hp3⟩ : ∃ p : Nat, p = p2 + D := ⟨_, rfl⟩
  have hv' : valAt l N = p3 := by rw [hv]; omega
  have s0 : IntKind.i64.wrap ((A : Int) * 2 ^ min 24 IntKind.i64.bits) = (x : Int) := by
    rw [show (2 : Int) ^ min 24 IntKind.i64.bits = 16777216 from rfl, hx]
    have := wrap_i64n (n := A * 16777216) (by omega)
    simpa using this
  have s1 : IntKind.i64.wrap ((B : Int) * 2 ^ min 16 IntKind.i64.bits) = (y : Int) := by
    rw [show (2 : Int) ^ min 16 IntKind.i64.bits = 65536 from rfl, hy]
    have := wrap_i64n (n := B * 65536) (by omega)
    simpa using this
  have s2 : IntKind.i64.wrap ((C : Int) * 2 ^ min 8 IntKind.i64.bits) = (z : Int) := by
    rw [show (2 : Int) ^ min 8 IntKind.i64.bits = 256 from rfl, hz]
    have := wrap_i64n (n := C * 256) (by omega)
    simpa using this
  have o1 : bits .or .i64 (x : Int) (y : Int) = (p1 : Int) := by
    rw [or_i64 (by omega) (by omega), hx, or_add A y 24 16777216 rfl (by omega), ← hx, ← hp1]
  have o2 : bits .or .i64 (p1 : Int) (z : Int) = (p2 : Int) := by
    rw [or_i64 (by omega) (by omega), show p1 = (A * 256 + B) * 65536 by omega, or_add _ z 16 65536 rfl (by omega), show (A * 256 + B) * 65536 = p1 by omega, ← hp2]
  have o3 : bits .or .i64 (p2 : Int) (D : Int) = (p3 : Int) := by
    rw [or_i64 (by omega) (by omega), show p2 = (A * 65536 + B * 256 + C) * 256 by omega, or_add _ D 8 256 rfl (by omega), show (A * 65536 + B * 256 + C) * 256 = p2 by omega, ← hp3]
  clear hp1 hp2 hp3 hx hy hz
  simp (config := { maxSteps := 9000000 }) only [↓vyD, vyU, binS, SV.go1, SV.go0, mkRow, intsOf, boolsOf, strsOf, chunks, Row.rep, Row.cat, Row.sub, Row.put, Row.len, Row.get, Row.size, Row.flat, bnds, own0, own1, labsL, labsR, SV.labs, argsOf, entFr, SO.ev, St.of, keepSt, getAll, lookN, hasN, SV.cells, SV.one, SV.res1, SV.res0, SV.resP, SV.ok1, SV.ok0, SV.okN, SV.solid, SV.solid1, SV.solid0, SV.flat0, SV.nm, SV.nm1, SV.nm0, SV.noPtr1, SV.noPtr0, Cel.isFresh, fillP, setAt, partV, eqCells, cellEq, gamY, listsOk, tupOf, takeOwn, SV.ret1, resAll, resL, resV, Nat.reduceEqDiff, ↓reduceIte, Nat.reduceAdd, Nat.reduceMul, Nat.reduceLeDiff, Nat.reduceLT, reduceCtorEq, labOk, Int.reduceBEq, Int.reduceBNe, Int.reduceToNat, Int.reduceLE, Int.reduceLT, Int.reduceEq, Nat.reduceDiv, Nat.reduceMod, Nat.reduceSub, Nat.reduceBEq, fitR, fitR1, fitR0, fitRL1, fitRL, y30, w1, w2, w3, Int.toNat_natCast, i1, i2, i3, c0, c1, c2, c3, hA, hB, hC, hD, v0, v1, v2, v3, s0, s1, s2, o1, o2, o3, hv']
def frameS : Say
  | [.str l] => some (l.length ≤ 140737488355328, .int .i64 (frE l), none)
  | _ => none
theorem frame_ok : FOk Tryd.prog 29 frameS := by
  intro xs p r own h hp
  unfold frameS at h
  split at h
  case h_2 => cases h
  rename_i l
  simp only [Option.some.injEq, Prod.mk.injEq] at h
  obtain ⟨rfl, rfl, rfl⟩ := h
  refine fun_ok gI_ok lawy_mixed y29_eq none ?_ (Nat.le_of_ble_eq_true rfl)
  by_cases h2 : l.length < 2
  · have hE : frE l = 8 := if_pos h2
    have t1 : (l.length : Int) < 2 := by omega
    simp (config := { maxSteps := 9000000 }) only [↓vyD, vyU, binS, SV.go1, SV.go0, mkRow, intsOf, boolsOf, strsOf, chunks, Row.rep, Row.cat, Row.sub, Row.put, Row.len, Row.get, Row.size, Row.flat, bnds, own0, own1, labsL, labsR, SV.labs, argsOf, entFr, SO.ev, St.of, keepSt, getAll, lookN, hasN, SV.cells, SV.one, SV.res1, SV.res0, SV.resP, SV.ok1, SV.ok0, SV.okN, SV.solid, SV.solid1, SV.solid0, SV.flat0, SV.nm, SV.nm1, SV.nm0, SV.noPtr1, SV.noPtr0, Cel.isFresh, fillP, setAt, partV, eqCells, cellEq, gamY, listsOk, tupOf, takeOwn, SV.ret1, resAll, resL, resV, Nat.reduceEqDiff, ↓reduceIte, Nat.reduceAdd, Nat.reduceMul, Nat.reduceLeDiff, Nat.reduceLT, reduceCtorEq, labOk, Int.reduceBEq, Int.reduceBNe, Int.reduceToNat, Int.reduceLE, Int.reduceLT, Int.reduceEq, Nat.reduceDiv, Nat.reduceMod, Nat.reduceSub, Nat.reduceBEq, fitR, fitR1, fitR0, fitRL1, fitRL, y29, t1, hE]
  · have t1 : ¬ (l.length : Int) < 2 := by omega
    have c0 : (0 : Int) < (l.length : Int) := by omega
    have c1 : (1 : Int) < (l.length : Int) := by omega
    have b0 := u8_lt (l.getD 0 0)
    have b1 := u8_lt (l.getD 1 0)
    have h72 : l.getD 0 0 = 72 ↔ (l.getD 0 0).toNat = 72 := by rw [← UInt8.toNat_inj]; rfl
    have hfr : frE l = if (l.getD 0 0).toNat = 72 ∧ 1 ≤ (l.getD 1 0).toNat ∧ (l.getD 1 0).toNat ≤ 8 then (if l.length < 14 + (l.getD 1 0).toNat then 8 else if 14 + (l.getD 1 0).toNat < l.length then 3 else 0) else 3 := by
      unfold frE
      rw [if_neg h2]
      simp only [h72]
    generalize hA : (l.getD 0 0).toNat = A at *
    generalize hB : (l.getD 1 0).toNat = B at *
    have v1 := wrap_i64n (n := B) (by omega)
    have w1 := i64_wrap (show I64 (2 + (B : Int)) by unfold I64; omega)
    have w2 := i64_wrap (show I64 (2 + (B : Int) + 12) by unfold I64; omega)
    by_cases hc : A = 72 ∧ 1 ≤ B ∧ B ≤ 8
    · rw [if_pos hc] at hfr
      have q1 : ((A : Int) != 72) = false := by simp; omega
      have q2 : (1 : Int) ≤ (B : Int) ∧ (B : Int) ≤ 8 := by omega
      by_cases h3 : l.length < 14 + B
      · have hE : frE l = 8 := by rw [hfr, if_pos h3]
        have t2 : (l.length : Int) < 2 + (B : Int) + 12 := by omega
        simp (config := { maxSteps := 9000000 }) only [↓vyD, vyU, binS, SV.go1, SV.go0, mkRow, intsOf, boolsOf, strsOf, chunks, Row.rep, Row.cat, Row.sub, Row.put, Row.len, Row.get, Row.size, Row.flat, bnds, own0, own1, labsL, labsR, SV.labs, argsOf, entFr, SO.ev, St.of, keepSt, getAll, lookN, hasN, SV.cells, SV.one, SV.res1, SV.res0, SV.resP, SV.ok1, SV.ok0, SV.okN, SV.solid, SV.solid1, SV.solid0, SV.flat0, SV.nm, SV.nm1, SV.nm0, SV.noPtr1, SV.noPtr0, Cel.isFresh, fillP, setAt, partV, eqCells, cellEq, gamY, listsOk, tupOf, takeOwn, SV.ret1, resAll, resL, resV, Nat.reduceEqDiff, ↓reduceIte, Nat.reduceAdd, Nat.reduceMul, Nat.reduceLeDiff, Nat.reduceLT, reduceCtorEq, labOk, Int.reduceBEq, Int.reduceBNe, Int.reduceToNat, Int.reduceLE, Int.reduceLT, Int.reduceEq, Nat.reduceDiv, Nat.reduceMod, Nat.reduceSub, Nat.reduceBEq, fitR, fitR1, fitR0, fitRL1, fitRL, y29, gI, isLenS, t1, c0, c1, hA, hB, v1, w1, w2, q1, q2, t2, hE, Int.reduceLE]
      · have t2 : ¬ (l.length : Int) < 2 + (B : Int) + 12 := by omega
        by_cases h4 : 14 + B < l.length
        · have hE : frE l = 3 := by rw [hfr, if_neg h3, if_pos h4]
          have t3 : 2 + (B : Int) + 12 < (l.length : Int) := by omega
          simp (config := { maxSteps := 9000000 }) only [↓vyD, vyU, binS, SV.go1, SV.go0, mkRow, intsOf, boolsOf, strsOf, chunks, Row.rep, Row.cat, Row.sub, Row.put, Row.len, Row.get, Row.size, Row.flat, bnds, own0, own1, labsL, labsR, SV.labs, argsOf, entFr, SO.ev, St.of, keepSt, getAll, lookN, hasN, SV.cells, SV.one, SV.res1, SV.res0, SV.resP, SV.ok1, SV.ok0, SV.okN, SV.solid, SV.solid1, SV.solid0, SV.flat0, SV.nm, SV.nm1, SV.nm0, SV.noPtr1, SV.noPtr0, Cel.isFresh, fillP, setAt, partV, eqCells, cellEq, gamY, listsOk, tupOf, takeOwn, SV.ret1, resAll, resL, resV, Nat.reduceEqDiff, ↓reduceIte, Nat.reduceAdd, Nat.reduceMul, Nat.reduceLeDiff, Nat.reduceLT, reduceCtorEq, labOk, Int.reduceBEq, Int.reduceBNe, Int.reduceToNat, Int.reduceLE, Int.reduceLT, Int.reduceEq, Nat.reduceDiv, Nat.reduceMod, Nat.reduceSub, Nat.reduceBEq, fitR, fitR1, fitR0, fitRL1, fitRL, y29, gI, isLenS, t1, c0, c1, hA, hB, v1, w1, w2, q1, q2, t2, t3, hE]
        · have hE : frE l = 0 := by rw [hfr, if_neg h3, if_neg h4]
          have t3 : ¬ 2 + (B : Int) + 12 < (l.length : Int) := by omega
          simp (config := { maxSteps := 9000000 }) only [↓vyD, vyU, binS, SV.go1, SV.go0, mkRow, intsOf, boolsOf, strsOf, chunks, Row.rep, Row.cat, Row.sub, Row.put, Row.len, Row.get, Row.size, Row.flat, bnds, own0, own1, labsL, labsR, SV.labs, argsOf, entFr, SO.ev, St.of, keepSt, getAll, lookN, hasN, SV.cells, SV.one, SV.res1, SV.res0, SV.resP, SV.ok1, SV.ok0, SV.okN, SV.solid, SV.solid1, SV.solid0, SV.flat0, SV.nm, SV.nm1, SV.nm0, SV.noPtr1, SV.noPtr0, Cel.isFresh, fillP, setAt, partV, eqCells, cellEq, gamY, listsOk, tupOf, takeOwn, SV.ret1, resAll, resL, resV, Nat.reduceEqDiff, ↓reduceIte, Nat.reduceAdd, Nat.reduceMul, Nat.reduceLeDiff, Nat.reduceLT, reduceCtorEq, labOk, Int.reduceBEq, Int.reduceBNe, Int.reduceToNat, Int.reduceLE, Int.reduceLT, Int.reduceEq, Nat.reduceDiv, Nat.reduceMod, Nat.reduceSub, Nat.reduceBEq, fitR, fitR1, fitR0, fitRL1, fitRL, y29, gI, isLenS, t1, c0, c1, hA, hB, v1, w1, w2, q1, q2, t2, t3, hE]
    · have hE : frE l = 3 := by rw [hfr, if_neg hc]
      by_cases q : A = 72
      · have q1 : ((A : Int) != 72) = false := by simp; omega
        have q2 : ¬ ((1 : Int) ≤ (B : Int) ∧ (B : Int) ≤ 8) := by omega
        simp (config := { maxSteps := 9000000 }) only [↓vyD, vyU, binS, SV.go1, SV.go0, mkRow, intsOf, boolsOf, strsOf, chunks, Row.rep, Row.cat, Row.sub, Row.put, Row.len, Row.get, Row.size, Row.flat, bnds, own0, own1, labsL, labsR, SV.labs, argsOf, entFr, SO.ev, St.of, keepSt, getAll, lookN, hasN, SV.cells, SV.one, SV.res1, SV.res0, SV.resP, SV.ok1, SV.ok0, SV.okN, SV.solid, SV.solid1, SV.solid0, SV.flat0, SV.nm, SV.nm1, SV.nm0, SV.noPtr1, SV.noPtr0, Cel.isFresh, fillP, setAt, partV, eqCells, cellEq, gamY, listsOk, tupOf, takeOwn, SV.ret1, resAll, resL, resV, Nat.reduceEqDiff, ↓reduceIte, Nat.reduceAdd, Nat.reduceMul, Nat.reduceLeDiff, Nat.reduceLT, reduceCtorEq, labOk, Int.reduceBEq, Int.reduceBNe, Int.reduceToNat, Int.reduceLE, Int.reduceLT, Int.reduceEq, Nat.reduceDiv, Nat.reduceMod, Nat.reduceSub, Nat.reduceBEq, fitR, fitR1, fitR0, fitRL1, fitRL, y29, gI, isLenS, t1, c0, c1, hA, hB, v1, w1, w2, q1, q2, hE]
      · have q1 : ((A : Int) != 72) = true := by simp; omega
        simp (config := { maxSteps := 9000000 }) only [↓vyD, vyU, binS, SV.go1, SV.go0, mkRow, intsOf, boolsOf, strsOf, chunks, Row.rep, Row.cat, Row.sub, Row.put, Row.len, Row.get, Row.size, Row.flat, bnds, own0, own1, labsL, labsR, SV.labs, argsOf, entFr, SO.ev, St.of, keepSt, getAll, lookN, hasN, SV.cells, SV.one, SV.res1, SV.res0, SV.resP, SV.ok1, SV.ok0, SV.okN, SV.solid, SV.solid1, SV.solid0, SV.flat0, SV.nm, SV.nm1, SV.nm0, SV.noPtr1, SV.noPtr0, Cel.isFresh, fillP, setAt, partV, eqCells, cellEq, gamY, listsOk, tupOf, takeOwn, SV.ret1, resAll, resL, resV, Nat.reduceEqDiff, ↓reduceIte, Nat.reduceAdd, Nat.reduceMul, Nat.reduceLeDiff, Nat.reduceLT, reduceCtorEq, labOk, Int.reduceBEq, Int.reduceBNe, Int.reduceToNat, Int.reduceLE, Int.reduceLT, Int.reduceEq, Nat.reduceDiv, Nat.reduceMod, Nat.reduceSub, Nat.reduceBEq, fitR, fitR1, fitR0, fitRL1, fitRL, y29, gI, isLenS, t1, c0, c1, hA, hB, v1, w1, w2, q1, hE]
def slcloneS : Say
  | [.str l] => some (l.length ≤ 140737488355328, .str l, none)
  | _ => none
theorem slclone_ok : FOk Tryd.prog 39 slcloneS := by
  intro xs p r own h hp
  unfold slcloneS at h
  split at h
  case h_2 => cases h
  rename_i l
  simp only [Option.some.injEq, Prod.mk.injEq] at h
  obtain ⟨rfl, rfl, rfl⟩ := h
  refine .of (by decide) ⟨⟨_, Tryd.func39, of_decide_eq_true (by kernel_rfl), by kernel_rfl⟩, fun A w vs hlow hvs => ?_⟩
  obtain ⟨v, us, rfl, hv, hn⟩ := hvs.cons_inv
  obtain rfl := hn.nil_inv
  rw [hv.str_inv]
  have hsz : (⟨l.toArray⟩ : ByteArray).size = l.length := by simp [ByteArray.size]
  refine (Tryd.stringslite_Clone ⟨l.toArray⟩ w (by rw [hsz]; omega)).mono fun e w' ⟨he, hb⟩ => ⟨hb, _, he, none, rfl, ?_⟩
  exact Is.str l
def gK : List (Nat × Say) := [(39, slcloneS)]
theorem gK_ok : GamOk Tryd.prog (gamY gK) := gam_ok (gam_cons slclone_ok gam_nil)
def cloneS : Say
  | [.str l] => some (l.length ≤ 140737488355328, .str l, none)
  | _ => none
theorem clone_ok : FOk Tryd.prog 31 cloneS := by
  intro xs p r own h hp
  unfold cloneS at h
  split at h
  case h_2 => cases h
  rename_i l
  simp only [Option.some.injEq, Prod.mk.injEq] at h
  obtain ⟨rfl, rfl, rfl⟩ := h
  refine fun_ok gK_ok lawy_mixed y31_eq none ?_ (Nat.le_of_ble_eq_true rfl)
  simp (config := { maxSteps := 9000000 }) only [↓vyD, vyU, binS, SV.go1, SV.go0, mkRow, intsOf, boolsOf, strsOf, chunks, Row.rep, Row.cat, Row.sub, Row.put, Row.len, Row.get, Row.size, Row.flat, bnds, own0, own1, labsL, labsR, SV.labs, argsOf, entFr, SO.ev, St.of, keepSt, getAll, lookN, hasN, SV.cells, SV.one, SV.res1, SV.res0, SV.resP, SV.ok1, SV.ok0, SV.okN, SV.solid, SV.solid1, SV.solid0, SV.flat0, SV.nm, SV.nm1, SV.nm0, SV.noPtr1, SV.noPtr0, Cel.isFresh, fillP, setAt, partV, eqCells, cellEq, gamY, listsOk, tupOf, takeOwn, SV.ret1, resAll, resL, resV, Nat.reduceEqDiff, ↓reduceIte, Nat.reduceAdd, Nat.reduceMul, Nat.reduceLeDiff, Nat.reduceLT, reduceCtorEq, labOk, Int.reduceBEq, Int.reduceBNe, Int.reduceToNat, Int.reduceLE, Int.reduceLT, Int.reduceEq, Nat.reduceDiv, Nat.reduceMod, Nat.reduceSub, Nat.reduceBEq, fitR, fitR1, fitR0, fitRL1, fitRL, y31, gK, slcloneS, hp]
def dId (s : List UInt8) : List UInt8 := if decE s = 0 then idD s else []
def dInc (s : List UInt8) : Int := if decE s = 0 then (incD s : Int) else 0
def dSeq (s : List UInt8) : Int := if decE s = 0 then (seqD s : Int) else 0
def gD : List (Nat × Say) := [(29, frameS), (28, sumSS), (30, wordS), (31, cloneS), (18, chkS)]
theorem gD_ok : GamOk Tryd.prog (gamY gD) := gam_ok (gam_cons frame_ok (gam_cons sumS_ok (gam_cons word_ok (gam_cons clone_ok (gam_cons chk_ok gam_nil)))))
def decS : Say
  | [.str s] => some (s.length ≤ 140737488355328, .tup [.agg [.str (dId s), .int .i64 (dInc s), .int .i64 (dSeq s)], .int .i64 (decE s)], none)
  | _ => none
theorem dec_ok : FOk Tryd.prog 14 decS := by
  intro xs p r own h hp
  unfold decS at h
  split at h
  case h_2 => cases h
  rename_i s
  simp only [Option.some.injEq, Prod.mk.injEq] at h
  obtain ⟨rfl, rfl, rfl⟩ := h
  refine fun_ok gD_ok lawy_mixed y14_eq none ?_ (Nat.le_of_ble_eq_true rfl)
  by_cases hfr : frE s = 0
  · obtain ⟨l1, l2, l3, l4, l5⟩ := frE_0.1 hfr
    have hlen : 15 ≤ s.length ∧ s.length ≤ 22 := by omega
    have lb : (bodyD s).length = s.length - 4 := by simp [bodyD]
    have le : (endD s).length = 4 := by simp [endD]; omega
    have lid : (idD s).length = s.length - 14 := by simp [idD, lb]; omega
    have w1 := i64_wrap (show I64 ((s.length : Int) - 4) by unfold I64; omega)
    have e1 : s.take ((s.length : Int) - 4).toNat = bodyD s := by unfold bodyD; congr 1; omega
    have e2 : s.drop ((s.length : Int) - 4).toNat = endD s := by unfold endD; congr 1; omega
    have w2 := i64_wrap (show I64 (((bodyD s).length : Int) - 8) by unfold I64; omega)
    have e3 : (((bodyD s).length : Int) - 8).toNat = s.length - 12 := by omega
    have w3 := i64_wrap (show I64 (((bodyD s).length : Int) - 8 + 4) by unfold I64; omega)
    have e4 : (((bodyD s).length : Int) - 8 + 4).toNat = s.length - 8 := by omega
    have e5 : ((bodyD s).take (s.length - 12)).drop 2 = idD s := rfl
    have e6 : valAt (bodyD s) (s.length - 12) = incD s := rfl
    have e7 : valAt (bodyD s) (s.length - 8) = seqD s := rfl
    have f1 : crcI (bodyD s) = (crcN (bodyD s) : Int) := if_pos (by omega)
    have c1 : (bodyD s).length ≤ 140737488355328 := by omega
    have c2 : (0 : Int) ≤ (s.length : Int) - 4 ∧ (s.length : Int) - 4 ≤ (s.length : Int) := by omega
    have c3 : (0 : Int) + 4 ≤ ((endD s).length : Int) := by omega
    have c4 : (endD s).length ≤ 140737488355328 := by omega
    have c5 : (2 : Int) ≤ ((bodyD s).length : Int) - 8 ∧ ((bodyD s).length : Int) - 8 ≤ ((bodyD s).length : Int) := by omega
    have c6 : (idD s).length ≤ 140737488355328 := by omega
    have c7 : (0 : Int) ≤ ((bodyD s).length : Int) - 8 ∧ ((bodyD s).length : Int) - 8 + 4 ≤ ((bodyD s).length : Int) := by omega
    have c8 : (0 : Int) ≤ ((bodyD s).length : Int) - 8 + 4 ∧ ((bodyD s).length : Int) - 8 + 4 + 4 ≤ ((bodyD s).length : Int) := by omega
    have hts : s.take (s.length : Int).toNat = s := by rw [Int.toNat_natCast, List.take_length]
    by_cases hsum : crcN (bodyD s) = valAt (endD s) 0
    · have q1 : ((crcN (bodyD s) : Int) != (valAt (endD s) 0 : Int)) = false := by rw [hsum]; simp
      by_cases hck : chkE (idD s) (incD s) (seqD s) = 0
      · have hE : decE s = 0 := decE_0.2 ⟨hfr, hsum, hck⟩
        have r1 : dId s = idD s := if_pos hE
        have r2 : dInc s = (incD s : Int) := if_pos hE
        have r3 : dSeq s = (seqD s : Int) := if_pos hE
        simp (config := { maxSteps := 9000000 }) only [↓vyD, vyU, binS, SV.go1, SV.go0, mkRow, intsOf, boolsOf, strsOf, chunks, Row.rep, Row.cat, Row.sub, Row.put, Row.len, Row.get, Row.size, Row.flat, bnds, own0, own1, labsL, labsR, SV.labs, argsOf, entFr, SO.ev, St.of, keepSt, getAll, lookN, hasN, SV.cells, SV.one, SV.res1, SV.res0, SV.resP, SV.ok1, SV.ok0, SV.okN, SV.solid, SV.solid1, SV.solid0, SV.flat0, SV.nm, SV.nm1, SV.nm0, SV.noPtr1, SV.noPtr0, Cel.isFresh, fillP, setAt, partV, eqCells, cellEq, gamY, listsOk, tupOf, takeOwn, SV.ret1, resAll, resL, resV, Nat.reduceEqDiff, ↓reduceIte, Nat.reduceAdd, Nat.reduceMul, Nat.reduceLeDiff, Nat.reduceLT, reduceCtorEq, labOk, Int.reduceBEq, Int.reduceBNe, Int.reduceToNat, Int.reduceLE, Int.reduceLT, Int.reduceEq, Nat.reduceDiv, Nat.reduceMod, Nat.reduceSub, Nat.reduceBEq, fitR, fitR1, fitR0, fitRL1, fitRL, y14, gD, frameS, sumSS, wordS, cloneS, chkS, hp, hfr, hts, w1, e1, e2, w2, e3, w3, e4, e5, e6, e7, f1, c1, c2, c3, c4, c5, c6, c7, c8, q1, hck, hE, r1, r2, r3, Int.le_refl]
      · have hE : decE s = 3 := by rw [decE, if_pos hfr, if_pos hsum, if_neg hck]
        have hne : ¬ decE s = 0 := by rw [hE]; decide
        have r1 : dId s = [] := if_neg hne
        have r2 : dInc s = 0 := if_neg hne
        have r3 : dSeq s = 0 := if_neg hne
        have q2 : (chkE (idD s) (incD s) (seqD s) != 0) = true := by simpa using hck
        simp (config := { maxSteps := 9000000 }) only [↓vyD, vyU, binS, SV.go1, SV.go0, mkRow, intsOf, boolsOf, strsOf, chunks, Row.rep, Row.cat, Row.sub, Row.put, Row.len, Row.get, Row.size, Row.flat, bnds, own0, own1, labsL, labsR, SV.labs, argsOf, entFr, SO.ev, St.of, keepSt, getAll, lookN, hasN, SV.cells, SV.one, SV.res1, SV.res0, SV.resP, SV.ok1, SV.ok0, SV.okN, SV.solid, SV.solid1, SV.solid0, SV.flat0, SV.nm, SV.nm1, SV.nm0, SV.noPtr1, SV.noPtr0, Cel.isFresh, fillP, setAt, partV, eqCells, cellEq, gamY, listsOk, tupOf, takeOwn, SV.ret1, resAll, resL, resV, Nat.reduceEqDiff, ↓reduceIte, Nat.reduceAdd, Nat.reduceMul, Nat.reduceLeDiff, Nat.reduceLT, reduceCtorEq, labOk, Int.reduceBEq, Int.reduceBNe, Int.reduceToNat, Int.reduceLE, Int.reduceLT, Int.reduceEq, Nat.reduceDiv, Nat.reduceMod, Nat.reduceSub, Nat.reduceBEq, fitR, fitR1, fitR0, fitRL1, fitRL, y14, gD, frameS, sumSS, wordS, cloneS, chkS, hp, hfr, hts, w1, e1, e2, w2, e3, w3, e4, e5, e6, e7, f1, c1, c2, c3, c4, c5, c6, c7, c8, q1, q2, hE, r1, r2, r3, Int.le_refl]
    · have q1 : ((crcN (bodyD s) : Int) != (valAt (endD s) 0 : Int)) = true := by simpa [Int.natCast_inj] using hsum
      have hE : decE s = 9 := by rw [decE, if_pos hfr, if_neg hsum]
      have hne : ¬ decE s = 0 := by rw [hE]; decide
      have r1 : dId s = [] := if_neg hne
      have r2 : dInc s = 0 := if_neg hne
      have r3 : dSeq s = 0 := if_neg hne
      simp (config := { maxSteps := 9000000 }) only [↓vyD, vyU, binS, SV.go1, SV.go0, mkRow, intsOf, boolsOf, strsOf, chunks, Row.rep, Row.cat, Row.sub, Row.put, Row.len, Row.get, Row.size, Row.flat, bnds, own0, own1, labsL, labsR, SV.labs, argsOf, entFr, SO.ev, St.of, keepSt, getAll, lookN, hasN, SV.cells, SV.one, SV.res1, SV.res0, SV.resP, SV.ok1, SV.ok0, SV.okN, SV.solid, SV.solid1, SV.solid0, SV.flat0, SV.nm, SV.nm1, SV.nm0, SV.noPtr1, SV.noPtr0, Cel.isFresh, fillP, setAt, partV, eqCells, cellEq, gamY, listsOk, tupOf, takeOwn, SV.ret1, resAll, resL, resV, Nat.reduceEqDiff, ↓reduceIte, Nat.reduceAdd, Nat.reduceMul, Nat.reduceLeDiff, Nat.reduceLT, reduceCtorEq, labOk, Int.reduceBEq, Int.reduceBNe, Int.reduceToNat, Int.reduceLE, Int.reduceLT, Int.reduceEq, Nat.reduceDiv, Nat.reduceMod, Nat.reduceSub, Nat.reduceBEq, fitR, fitR1, fitR0, fitRL1, fitRL, y14, gD, frameS, sumSS, wordS, cloneS, chkS, hp, hfr, hts, w1, e1, e2, f1, c1, c2, c3, c4, q1, hE, r1, r2, r3, Int.le_refl]
  · have hE : decE s = frE s := if_neg hfr
    have hne : ¬ decE s = 0 := by rw [hE]; exact hfr
    have r1 : dId s = [] := if_neg hne
    have r2 : dInc s = 0 := if_neg hne
    have r3 : dSeq s = 0 := if_neg hne
    have q1 : (frE s != 0) = true := by simpa using hfr
    simp (config := { maxSteps := 9000000 }) only [↓vyD, vyU, binS, SV.go1, SV.go0, mkRow, intsOf, boolsOf, strsOf, chunks, Row.rep, Row.cat, Row.sub, Row.put, Row.len, Row.get, Row.size, Row.flat, bnds, own0, own1, labsL, labsR, SV.labs, argsOf, entFr, SO.ev, St.of, keepSt, getAll, lookN, hasN, SV.cells, SV.one, SV.res1, SV.res0, SV.resP, SV.ok1, SV.ok0, SV.okN, SV.solid, SV.solid1, SV.solid0, SV.flat0, SV.nm, SV.nm1, SV.nm0, SV.noPtr1, SV.noPtr0, Cel.isFresh, fillP, setAt, partV, eqCells, cellEq, gamY, listsOk, tupOf, takeOwn, SV.ret1, resAll, resL, resV, Nat.reduceEqDiff, ↓reduceIte, Nat.reduceAdd, Nat.reduceMul, Nat.reduceLeDiff, Nat.reduceLT, reduceCtorEq, labOk, Int.reduceBEq, Int.reduceBNe, Int.reduceToNat, Int.reduceLE, Int.reduceLT, Int.reduceEq, Nat.reduceDiv, Nat.reduceMod, Nat.reduceSub, Nat.reduceBEq, fitR, fitR1, fitR0, fitRL1, fitRL, y14, gD, frameS, sumSS, wordS, cloneS, chkS, hp, q1, hE, r1, r2, r3]
def gB : List (Nat × Say) := [(13, encS)]
theorem gB_ok : GamOk Tryd.prog (gamY gB) := gam_ok (gam_cons enc_ok gam_nil)
def begunS : Say
  | [] => some (True, .bool true, none)
  | _ => none
theorem begun_ok : FOk Tryd.prog 24 begunS := by
  intro xs p r own h hp
  unfold begunS at h
  split at h
  case h_2 => cases h
  simp only [Option.some.injEq, Prod.mk.injEq] at h
  obtain ⟨rfl, rfl, rfl⟩ := h
  refine fun_ok gB_ok lawy_mixed y24_eq none ?_ (Nat.le_of_ble_eq_true rfl)
  have h : chkE [97, 98] 1 2 = 0 := by decide
  have hS : encL [97, 98] 1 2 = codeL [97, 98] 1 2 := if_pos h
  have hl : (codeL [97, 98] 1 2).length = 16 := codeL_len _ _ _
  have ht : (codeL [97, 98] 1 2).take 4 = [72, 2, 97, 98] := rfl
  generalize codeL [97, 98] 1 2 = c at *
  have k1 : (2 : Nat) ≤ 140737488355328 := by decide
  have q1 : ((([72, 2, 97, 98] : List UInt8)) == [72, 2, 97, 98]) = true := by decide
  simp (config := { maxSteps := 9000000 }) only [↓vyD, vyU, binS, SV.go1, SV.go0, mkRow, intsOf, boolsOf, strsOf, chunks, Row.rep, Row.cat, Row.sub, Row.put, Row.len, Row.get, Row.size, Row.flat, bnds, own0, own1, labsL, labsR, SV.labs, argsOf, entFr, SO.ev, St.of, keepSt, getAll, lookN, hasN, SV.cells, SV.one, SV.res1, SV.res0, SV.resP, SV.ok1, SV.ok0, SV.okN, SV.solid, SV.solid1, SV.solid0, SV.flat0, SV.nm, SV.nm1, SV.nm0, SV.noPtr1, SV.noPtr0, Cel.isFresh, fillP, setAt, partV, eqCells, cellEq, gamY, listsOk, tupOf, takeOwn, SV.ret1, resAll, resL, resV, Nat.reduceEqDiff, ↓reduceIte, Nat.reduceAdd, Nat.reduceMul, Nat.reduceLeDiff, Nat.reduceLT, reduceCtorEq, labOk, Int.reduceBEq, Int.reduceBNe, Int.reduceToNat, Int.reduceLE, Int.reduceLT, Int.reduceEq, Nat.reduceDiv, Nat.reduceMod, Nat.reduceSub, Nat.reduceBEq, fitR, fitR1, fitR0, fitRL1, fitRL, y24, gB, encS, h, hS, hl, ht, k1, q1]
end Go.Proofs.YtmacgmngbmaadaaDoor
