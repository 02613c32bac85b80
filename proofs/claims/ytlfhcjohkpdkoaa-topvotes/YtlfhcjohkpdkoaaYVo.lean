/- What the functions of vote do; the statements' levels. -/
import Derived.Test.YtlfhcjohkpdkoaaYR4
import Derived.Test.YtlfhcjohkpdkoaaCVo
namespace Go.Proofs.Ytlfhcjohkpdkoaa
open Go.ChangeShapes Go.WideShapes Go.ChangeAt Go.RowKit Go.Joins Y
set_option linter.unusedSimpArgs false
set_option linter.unusedVariables false
set_option maxRecDepth 100000
set_option maxHeartbeats 40000000
/-- How many are from a to b. -/
def inN (a b : Int) (l : List Int) : Nat := l.countP fun n => decide (a ≤ n ∧ n ≤ b)
theorem inN_take {l : List Int} {i : Nat} (h : i < l.length) (a b : Int) : inN a b (l.take (i + 1)) = inN a b (l.take i) + if a ≤ l.getD i 0 ∧ l.getD i 0 ≤ b then 1 else 0 := by
  rw [take_snoc h, inN, inN, List.countP_append]
  by_cases hh : a ≤ l.getD i 0 ∧ l.getD i 0 ≤ b
  · rw [if_pos hh]; simp only [List.countP_cons, List.countP_nil, hh, and_self, decide_true, if_true]
  · rw [if_neg hh]; simp only [List.countP_cons, List.countP_nil, hh, decide_false, Bool.false_eq_true, if_false]
theorem inN_le (a b : Int) (l : List Int) : inN a b l ≤ l.length := List.countP_le_length
theorem inN_all {a b : Int} {l : List Int} : inN a b l = l.length ↔ ∀ x ∈ l, a ≤ x ∧ x ≤ b := by
  simp only [inN, List.countP_eq_length, decide_eq_true_eq]
def wiS : Say
  | [.int .i64 a, .int .i64 b] => some (True, .clo 87 [.fz [.int .i64 a], .fz [.int .i64 b]], none)
  | _ => none
theorem wi_ok : FOk Try.prog 59 wiS := by
  intro xs p r own h hp
  unfold wiS at h
  split at h
  case h_2 => cases h
  rename_i a b
  simp only [Option.some.injEq, Prod.mk.injEq] at h
  obtain ⟨rfl, rfl, rfl⟩ := h
  refine fun_ok (gam_ok gam_nil) lawy_mixed y59_eq none ?_ (Nat.le_of_ble_eq_true rfl)
  simp (config := { maxSteps := 9000000 }) only [↓vyD, vyU, binS, SV.go1, SV.go0, mkRow, intsOf, boolsOf, strsOf, chunks, Row.rep, Row.cat, Row.sub, Row.put, Row.len, Row.get, Row.size, Row.flat, bnds, own0, own1, labsL, labsR, SV.labs, argsOf, entFr, SO.ev, St.of, keepSt, getAll, lookN, hasN, SV.cells, SV.one, SV.res1, SV.res0, SV.resP, SV.ok1, SV.ok0, SV.okN, SV.solid, SV.solid1, SV.solid0, SV.flat0, SV.nm, SV.nm1, SV.nm0, SV.noPtr1, SV.noPtr0, Cel.isFresh, fillP, setAt, partV, eqCells, cellEq, gamY, listsOk, tupOf, takeOwn, SV.ret1, resAll, resL, resV, Nat.reduceEqDiff, ↓reduceIte, Nat.reduceAdd, Nat.reduceMul, Nat.reduceLeDiff, Nat.reduceLT, reduceCtorEq, labOk, Int.reduceBEq, Int.reduceBNe, Int.reduceToNat, Int.reduceLE, Int.reduceLT, Int.reduceEq, Nat.reduceDiv, Nat.reduceMod, Nat.reduceSub, Nat.reduceBEq, fitR, fitR1, fitR0, fitRL1, fitRL, y59]
def wi1S : Say
  | [.int .i64 n, .fz [.int .i64 a], .fz [.int .i64 b]] => some (True, .bool (decide (a ≤ n ∧ n ≤ b)), none)
  | _ => none
theorem wi1_ok : FOk Try.prog 87 wi1S := by
  intro xs p r own h hp
  unfold wi1S at h
  split at h
  case h_2 => cases h
  rename_i n a b
  simp only [Option.some.injEq, Prod.mk.injEq] at h
  obtain ⟨rfl, rfl, rfl⟩ := h
  refine fun_ok (gam_ok gam_nil) lawy_mixed y87_eq none ?_ (Nat.le_of_ble_eq_true rfl)
  by_cases h1 : a ≤ n
  · by_cases h2 : n ≤ b
    · have e : decide (a ≤ n ∧ n ≤ b) = true := by simp [h1, h2]
      rw [e]
      simp (config := { maxSteps := 9000000 }) only [↓vyD, vyU, binS, SV.go1, SV.go0, mkRow, intsOf, boolsOf, strsOf, chunks, Row.rep, Row.cat, Row.sub, Row.put, Row.len, Row.get, Row.size, Row.flat, bnds, own0, own1, labsL, labsR, SV.labs, argsOf, entFr, SO.ev, St.of, keepSt, getAll, lookN, hasN, SV.cells, SV.one, SV.res1, SV.res0, SV.resP, SV.ok1, SV.ok0, SV.okN, SV.solid, SV.solid1, SV.solid0, SV.flat0, SV.nm, SV.nm1, SV.nm0, SV.noPtr1, SV.noPtr0, Cel.isFresh, fillP, setAt, partV, eqCells, cellEq, gamY, listsOk, tupOf, takeOwn, SV.ret1, resAll, resL, resV, Nat.reduceEqDiff, ↓reduceIte, Nat.reduceAdd, Nat.reduceMul, Nat.reduceLeDiff, Nat.reduceLT, reduceCtorEq, labOk, Int.reduceBEq, Int.reduceBNe, Int.reduceToNat, Int.reduceLE, Int.reduceLT, Int.reduceEq, Nat.reduceDiv, Nat.reduceMod, Nat.reduceSub, Nat.reduceBEq, fitR, fitR1, fitR0, fitRL1, fitRL, y87, h1, h2, ge_iff_le]
    · have e : decide (a ≤ n ∧ n ≤ b) = false := by simp [h2]
      rw [e]
      simp (config := { maxSteps := 9000000 }) only [↓vyD, vyU, binS, SV.go1, SV.go0, mkRow, intsOf, boolsOf, strsOf, chunks, Row.rep, Row.cat, Row.sub, Row.put, Row.len, Row.get, Row.size, Row.flat, bnds, own0, own1, labsL, labsR, SV.labs, argsOf, entFr, SO.ev, St.of, keepSt, getAll, lookN, hasN, SV.cells, SV.one, SV.res1, SV.res0, SV.resP, SV.ok1, SV.ok0, SV.okN, SV.solid, SV.solid1, SV.solid0, SV.flat0, SV.nm, SV.nm1, SV.nm0, SV.noPtr1, SV.noPtr0, Cel.isFresh, fillP, setAt, partV, eqCells, cellEq, gamY, listsOk, tupOf, takeOwn, SV.ret1, resAll, resL, resV, Nat.reduceEqDiff, ↓reduceIte, Nat.reduceAdd, Nat.reduceMul, Nat.reduceLeDiff, Nat.reduceLT, reduceCtorEq, labOk, Int.reduceBEq, Int.reduceBNe, Int.reduceToNat, Int.reduceLE, Int.reduceLT, Int.reduceEq, Nat.reduceDiv, Nat.reduceMod, Nat.reduceSub, Nat.reduceBEq, fitR, fitR1, fitR0, fitRL1, fitRL, y87, h1, h2, ge_iff_le]
  · have e : decide (a ≤ n ∧ n ≤ b) = false := by simp [h1]
    rw [e]
    simp (config := { maxSteps := 9000000 }) only [↓vyD, vyU, binS, SV.go1, SV.go0, mkRow, intsOf, boolsOf, strsOf, chunks, Row.rep, Row.cat, Row.sub, Row.put, Row.len, Row.get, Row.size, Row.flat, bnds, own0, own1, labsL, labsR, SV.labs, argsOf, entFr, SO.ev, St.of, keepSt, getAll, lookN, hasN, SV.cells, SV.one, SV.res1, SV.res0, SV.resP, SV.ok1, SV.ok0, SV.okN, SV.solid, SV.solid1, SV.solid0, SV.flat0, SV.nm, SV.nm1, SV.nm0, SV.noPtr1, SV.noPtr0, Cel.isFresh, fillP, setAt, partV, eqCells, cellEq, gamY, listsOk, tupOf, takeOwn, SV.ret1, resAll, resL, resV, Nat.reduceEqDiff, ↓reduceIte, Nat.reduceAdd, Nat.reduceMul, Nat.reduceLeDiff, Nat.reduceLT, reduceCtorEq, labOk, Int.reduceBEq, Int.reduceBNe, Int.reduceToNat, Int.reduceLE, Int.reduceLT, Int.reduceEq, Nat.reduceDiv, Nat.reduceMod, Nat.reduceSub, Nat.reduceBEq, fitR, fitR1, fitR0, fitRL1, fitRL, y87, h1, ge_iff_le]
def gCo : List (Nat × Say) := [(87, wi1S)]
theorem gCo_ok : GamOk Try.prog (gamY gCo) := gam_ok (gam_cons wi1_ok gam_nil)
def vcntS : Say
  | [x, .clo f [.fz [.int .i64 a], .fz [.int .i64 b]]] => if f = 87 then (match asI x with | some l => some (l.length ≤ 4294967296, .int .i64 (inN a b l : Nat), none) | none => none) else none
  | _ => none
theorem vcnt_in (l : List Int) (a b : Int) (h64 : l.length ≤ 4294967296) : vcFun (gamY gCo) y60 [.rw (.ints .i64 l), .clo 87 [.fz [.int .i64 a], .fz [.int .i64 b]]] none fun v o => fitR v (.int .i64 ((inN a b l : Nat) : Int)) ∧ o = none := by
  simp (config := { maxSteps := 9000000 }) only [↓vyD, vyU, binS, SV.go1, SV.go0, mkRow, intsOf, boolsOf, strsOf, chunks, Row.rep, Row.cat, Row.sub, Row.put, Row.len, Row.get, Row.size, Row.flat, bnds, own0, own1, labsL, labsR, SV.labs, argsOf, entFr, SO.ev, St.of, keepSt, getAll, lookN, hasN, SV.cells, SV.one, SV.res1, SV.res0, SV.resP, SV.ok1, SV.ok0, SV.okN, SV.solid, SV.solid1, SV.solid0, SV.flat0, SV.nm, SV.nm1, SV.nm0, SV.noPtr1, SV.noPtr0, Cel.isFresh, fillP, setAt, partV, eqCells, cellEq, gamY, listsOk, tupOf, takeOwn, SV.ret1, resAll, resL, resV, Nat.reduceEqDiff, ↓reduceIte, Nat.reduceAdd, Nat.reduceMul, Nat.reduceLeDiff, Nat.reduceLT, reduceCtorEq, labOk, Int.reduceBEq, Int.reduceBNe, Int.reduceToNat, Int.reduceLE, Int.reduceLT, Int.reduceEq, Nat.reduceDiv, Nat.reduceMod, Nat.reduceSub, Nat.reduceBEq, fitR, fitR1, fitR0, fitRL1, fitRL, y60, gCo, wi1S]
  refine loopG_intro (ι := Nat) (fun i => [(1, .clo 87 [.fz [.int .i64 a], .fz [.int .i64 b]]), (5, .int .i64 (inN a b (l.take i) : Nat)), (8, .rw (.ints .i64 l)), (9, .int .i64 l.length), (10, .int .i64 i)]) (fun _ => [])
    (fun i => i ≤ l.length) (fun i => l.length - i) ⟨0, by omega, ?_, ?_, ?_⟩ fun i hi => ?_
  · simp (config := { maxSteps := 9000000 }) only [↓vyD, vyU, binS, SV.go1, SV.go0, mkRow, intsOf, boolsOf, strsOf, chunks, Row.rep, Row.cat, Row.sub, Row.put, Row.len, Row.get, Row.size, Row.flat, bnds, own0, own1, labsL, labsR, SV.labs, argsOf, entFr, SO.ev, St.of, keepSt, getAll, lookN, hasN, SV.cells, SV.one, SV.res1, SV.res0, SV.resP, SV.ok1, SV.ok0, SV.okN, SV.solid, SV.solid1, SV.solid0, SV.flat0, SV.nm, SV.nm1, SV.nm0, SV.noPtr1, SV.noPtr0, Cel.isFresh, fillP, setAt, partV, eqCells, cellEq, gamY, listsOk, tupOf, takeOwn, SV.ret1, resAll, resL, resV, Nat.reduceEqDiff, ↓reduceIte, Nat.reduceAdd, Nat.reduceMul, Nat.reduceLeDiff, Nat.reduceLT, reduceCtorEq, labOk, Int.reduceBEq, Int.reduceBNe, Int.reduceToNat, Int.reduceLE, Int.reduceLT, Int.reduceEq, Nat.reduceDiv, Nat.reduceMod, Nat.reduceSub, Nat.reduceBEq, fitR, fitR1, fitR0, fitRL1, fitRL, gCo, wi1S]
  · have z : inN a b [] = 0 := rfl
    simp (config := { maxSteps := 9000000 }) only [↓vyD, vyU, binS, SV.go1, SV.go0, mkRow, intsOf, boolsOf, strsOf, chunks, Row.rep, Row.cat, Row.sub, Row.put, Row.len, Row.get, Row.size, Row.flat, bnds, own0, own1, labsL, labsR, SV.labs, argsOf, entFr, SO.ev, St.of, keepSt, getAll, lookN, hasN, SV.cells, SV.one, SV.res1, SV.res0, SV.resP, SV.ok1, SV.ok0, SV.okN, SV.solid, SV.solid1, SV.solid0, SV.flat0, SV.nm, SV.nm1, SV.nm0, SV.noPtr1, SV.noPtr0, Cel.isFresh, fillP, setAt, partV, eqCells, cellEq, gamY, listsOk, tupOf, takeOwn, SV.ret1, resAll, resL, resV, Nat.reduceEqDiff, ↓reduceIte, Nat.reduceAdd, Nat.reduceMul, Nat.reduceLeDiff, Nat.reduceLT, reduceCtorEq, labOk, Int.reduceBEq, Int.reduceBNe, Int.reduceToNat, Int.reduceLE, Int.reduceLT, Int.reduceEq, Nat.reduceDiv, Nat.reduceMod, Nat.reduceSub, Nat.reduceBEq, fitR, fitR1, fitR0, fitRL1, fitRL, gCo, wi1S, z, Int.natCast_zero, Int.ofNat_zero]
  · simp (config := { maxSteps := 9000000 }) only [↓vyD, vyU, binS, SV.go1, SV.go0, mkRow, intsOf, boolsOf, strsOf, chunks, Row.rep, Row.cat, Row.sub, Row.put, Row.len, Row.get, Row.size, Row.flat, bnds, own0, own1, labsL, labsR, SV.labs, argsOf, entFr, SO.ev, St.of, keepSt, getAll, lookN, hasN, SV.cells, SV.one, SV.res1, SV.res0, SV.resP, SV.ok1, SV.ok0, SV.okN, SV.solid, SV.solid1, SV.solid0, SV.flat0, SV.nm, SV.nm1, SV.nm0, SV.noPtr1, SV.noPtr0, Cel.isFresh, fillP, setAt, partV, eqCells, cellEq, gamY, listsOk, tupOf, takeOwn, SV.ret1, resAll, resL, resV, Nat.reduceEqDiff, ↓reduceIte, Nat.reduceAdd, Nat.reduceMul, Nat.reduceLeDiff, Nat.reduceLT, reduceCtorEq, labOk, Int.reduceBEq, Int.reduceBNe, Int.reduceToNat, Int.reduceLE, Int.reduceLT, Int.reduceEq, Nat.reduceDiv, Nat.reduceMod, Nat.reduceSub, Nat.reduceBEq, fitR, fitR1, fitR0, fitRL1, fitRL, gCo, wi1S]
  by_cases hlt : (i : Int) < (l.length : Int)
  · have hlt' : i < l.length := by omega
    have b1 := i64_wrap (show I64 ((i : Int) + 1) by unfold I64; omega)
    have hn := inN_le a b (l.take i)
    have hk : (l.take i).length ≤ i := List.length_take_le ..
    have b2 := i64_wrap (show I64 ((inN a b (l.take i) : Nat) + 1 : Int) by unfold I64; omega)
    have ht := inN_take hlt' a b
    generalize hX : l.getD i 0 = x at *
    by_cases hx : a ≤ x ∧ x ≤ b
    · rw [if_pos hx] at ht
      have ht' : ((inN a b (l.take (i + 1)) : Nat) : Int) = (inN a b (l.take i) : Nat) + 1 := by omega
      simp (config := { maxSteps := 9000000 }) only [↓vyD, vyU, binS, SV.go1, SV.go0, mkRow, intsOf, boolsOf, strsOf, chunks, Row.rep, Row.cat, Row.sub, Row.put, Row.len, Row.get, Row.size, Row.flat, bnds, own0, own1, labsL, labsR, SV.labs, argsOf, entFr, SO.ev, St.of, keepSt, getAll, lookN, hasN, SV.cells, SV.one, SV.res1, SV.res0, SV.resP, SV.ok1, SV.ok0, SV.okN, SV.solid, SV.solid1, SV.solid0, SV.flat0, SV.nm, SV.nm1, SV.nm0, SV.noPtr1, SV.noPtr0, Cel.isFresh, fillP, setAt, partV, eqCells, cellEq, gamY, listsOk, tupOf, takeOwn, SV.ret1, resAll, resL, resV, Nat.reduceEqDiff, ↓reduceIte, Nat.reduceAdd, Nat.reduceMul, Nat.reduceLeDiff, Nat.reduceLT, reduceCtorEq, labOk, Int.reduceBEq, Int.reduceBNe, Int.reduceToNat, Int.reduceLE, Int.reduceLT, Int.reduceEq, Nat.reduceDiv, Nat.reduceMod, Nat.reduceSub, Nat.reduceBEq, fitR, fitR1, fitR0, fitRL1, fitRL, gCo, wi1S, hlt, hX, hx, b1, b2, Int.toNat_natCast]
      exact ⟨by omega, i + 1, ⟨by omega, by omega⟩, by simp [ht'], by simp⟩
    · rw [if_neg hx] at ht
      have ht' : inN a b (l.take (i + 1)) = inN a b (l.take i) := by omega
      have e : decide (a ≤ x ∧ x ≤ b) = false := decide_eq_false hx
      simp (config := { maxSteps := 9000000 }) only [↓vyD, vyU, binS, SV.go1, SV.go0, mkRow, intsOf, boolsOf, strsOf, chunks, Row.rep, Row.cat, Row.sub, Row.put, Row.len, Row.get, Row.size, Row.flat, bnds, own0, own1, labsL, labsR, SV.labs, argsOf, entFr, SO.ev, St.of, keepSt, getAll, lookN, hasN, SV.cells, SV.one, SV.res1, SV.res0, SV.resP, SV.ok1, SV.ok0, SV.okN, SV.solid, SV.solid1, SV.solid0, SV.flat0, SV.nm, SV.nm1, SV.nm0, SV.noPtr1, SV.noPtr0, Cel.isFresh, fillP, setAt, partV, eqCells, cellEq, gamY, listsOk, tupOf, takeOwn, SV.ret1, resAll, resL, resV, Nat.reduceEqDiff, ↓reduceIte, Nat.reduceAdd, Nat.reduceMul, Nat.reduceLeDiff, Nat.reduceLT, reduceCtorEq, labOk, Int.reduceBEq, Int.reduceBNe, Int.reduceToNat, Int.reduceLE, Int.reduceLT, Int.reduceEq, Nat.reduceDiv, Nat.reduceMod, Nat.reduceSub, Nat.reduceBEq, fitR, fitR1, fitR0, fitRL1, fitRL, gCo, wi1S, hlt, hX, e, b1, Int.toNat_natCast]
      exact ⟨by omega, i + 1, ⟨by omega, by omega⟩, by simp [ht'], by simp⟩
  · have : i = l.length := by omega
    subst this
    simp (config := { maxSteps := 9000000 }) only [↓vyD, vyU, binS, SV.go1, SV.go0, mkRow, intsOf, boolsOf, strsOf, chunks, Row.rep, Row.cat, Row.sub, Row.put, Row.len, Row.get, Row.size, Row.flat, bnds, own0, own1, labsL, labsR, SV.labs, argsOf, entFr, SO.ev, St.of, keepSt, getAll, lookN, hasN, SV.cells, SV.one, SV.res1, SV.res0, SV.resP, SV.ok1, SV.ok0, SV.okN, SV.solid, SV.solid1, SV.solid0, SV.flat0, SV.nm, SV.nm1, SV.nm0, SV.noPtr1, SV.noPtr0, Cel.isFresh, fillP, setAt, partV, eqCells, cellEq, gamY, listsOk, tupOf, takeOwn, SV.ret1, resAll, resL, resV, Nat.reduceEqDiff, ↓reduceIte, Nat.reduceAdd, Nat.reduceMul, Nat.reduceLeDiff, Nat.reduceLT, reduceCtorEq, labOk, Int.reduceBEq, Int.reduceBNe, Int.reduceToNat, Int.reduceLE, Int.reduceLT, Int.reduceEq, Nat.reduceDiv, Nat.reduceMod, Nat.reduceSub, Nat.reduceBEq, fitR, fitR1, fitR0, fitRL1, fitRL, gCo, wi1S, Int.lt_irrefl, List.take_length]
theorem vcnt_ok : FOk Try.prog 60 vcntS := by
  intro xs p r own h hp
  unfold vcntS at h
  split at h
  case h_2 => cases h
  rename_i x f a b
  split at h
  case isFalse => cases h
  rename_i hf
  subst hf
  split at h
  case h_2 => cases h
  rename_i l hx
  simp only [Option.some.injEq, Prod.mk.injEq] at h
  obtain ⟨rfl, rfl, rfl⟩ := h
  refine fun_fit (ys := [.rw (.ints .i64 l), .clo 87 [.fz [.int .i64 a], .fz [.int .i64 b]]]) ?_ ⟨asI_fit hx, fit_refl1 _ (by simp), trivial⟩
  exact fun_ok gCo_ok lawy_mixed y60_eq none (vcnt_in l a b hp) (Nat.le_of_ble_eq_true rfl)
/-- P47's errors. -/
def vE (l : List Int) (k : Int) : Int := if 64 < l.length then 2 else if inN 0 127 l < l.length ∨ ¬ (1 ≤ k ∧ k ≤ 64) then 1 else 0
theorem vE_0 {l : List Int} {k : Int} : vE l k = 0 ↔ l.length ≤ 64 ∧ (∀ x ∈ l, 0 ≤ x ∧ x ≤ 127) ∧ 1 ≤ k ∧ k ≤ 64 := by
  have h1 := inN_le 0 127 l
  rw [← inN_all, vE]
  by_cases h : 64 < l.length
  · rw [if_pos h]; omega
  · rw [if_neg h]
    by_cases h2 : inN 0 127 l < l.length ∨ ¬ (1 ≤ k ∧ k ≤ 64)
    · rw [if_pos h2]; omega
    · rw [if_neg h2]; omega
def gVc : List (Nat × Say) := [(59, wiS), (87, wi1S), (60, vcntS)]
theorem gVc_ok : GamOk Try.prog (gamY gVc) := gam_ok (gam_cons wi_ok (gam_cons wi1_ok (gam_cons vcnt_ok gam_nil)))
def vchkS : Say
  | [x_l, .int .i64 k] => (match asI x_l with | some l => some (True, .int .i64 (vE l k), none) | _ => none)
  | _ => none
theorem vchk_ok : FOk Try.prog 58 vchkS := by
  intro xs p r own h hp
  unfold vchkS at h
  split at h
  case h_2 => cases h
  rename_i x_l k
  split at h
  case h_2 => cases h
  rename_i l h_l
  simp only [Option.some.injEq, Prod.mk.injEq] at h
  obtain ⟨rfl, rfl, rfl⟩ := h
  refine fun_fit (ys := [.rw (.ints .i64 l), .int .i64 k]) ?_ ⟨asI_fit h_l, fit_refl1 _ (by simp), trivial⟩
  clear h_l
  refine fun_ok gVc_ok lawy_mixed y58_eq none ?_ (Nat.le_of_ble_eq_true rfl)
  by_cases h1 : 64 < l.length
  · have hE : vE l k = 2 := if_pos h1
    have h1' : (64 : Int) < (l.length : Int) := by omega
    simp (config := { maxSteps := 9000000 }) only [↓vyD, vyU, binS, SV.go1, SV.go0, mkRow, intsOf, boolsOf, strsOf, chunks, Row.rep, Row.cat, Row.sub, Row.put, Row.len, Row.get, Row.size, Row.flat, bnds, own0, own1, labsL, labsR, SV.labs, argsOf, entFr, SO.ev, St.of, keepSt, getAll, lookN, hasN, SV.cells, SV.one, SV.res1, SV.res0, SV.resP, SV.ok1, SV.ok0, SV.okN, SV.solid, SV.solid1, SV.solid0, SV.flat0, SV.nm, SV.nm1, SV.nm0, SV.noPtr1, SV.noPtr0, Cel.isFresh, fillP, setAt, partV, eqCells, cellEq, gamY, listsOk, tupOf, takeOwn, SV.ret1, resAll, resL, resV, Nat.reduceEqDiff, ↓reduceIte, Nat.reduceAdd, Nat.reduceMul, Nat.reduceLeDiff, Nat.reduceLT, reduceCtorEq, labOk, Int.reduceBEq, Int.reduceBNe, Int.reduceToNat, Int.reduceLE, Int.reduceLT, Int.reduceEq, Nat.reduceDiv, Nat.reduceMod, Nat.reduceSub, Nat.reduceBEq, fitR, fitR1, fitR0, fitRL1, fitRL, y58, gVc, wiS, wi1S, vcntS, asI, hE, h1', gt_iff_lt]
  · have h1' : ¬ (64 : Int) < (l.length : Int) := by omega
    have hl : l.length ≤ 4294967296 := by omega
    by_cases h2 : inN 0 127 l < l.length
    · have hE : vE l k = 1 := by rw [vE, if_neg h1, if_pos (.inl h2)]
      have h2' : ((inN 0 127 l : Nat) : Int) < (l.length : Int) := by omega
      simp (config := { maxSteps := 9000000 }) only [↓vyD, vyU, binS, SV.go1, SV.go0, mkRow, intsOf, boolsOf, strsOf, chunks, Row.rep, Row.cat, Row.sub, Row.put, Row.len, Row.get, Row.size, Row.flat, bnds, own0, own1, labsL, labsR, SV.labs, argsOf, entFr, SO.ev, St.of, keepSt, getAll, lookN, hasN, SV.cells, SV.one, SV.res1, SV.res0, SV.resP, SV.ok1, SV.ok0, SV.okN, SV.solid, SV.solid1, SV.solid0, SV.flat0, SV.nm, SV.nm1, SV.nm0, SV.noPtr1, SV.noPtr0, Cel.isFresh, fillP, setAt, partV, eqCells, cellEq, gamY, listsOk, tupOf, takeOwn, SV.ret1, resAll, resL, resV, Nat.reduceEqDiff, ↓reduceIte, Nat.reduceAdd, Nat.reduceMul, Nat.reduceLeDiff, Nat.reduceLT, reduceCtorEq, labOk, Int.reduceBEq, Int.reduceBNe, Int.reduceToNat, Int.reduceLE, Int.reduceLT, Int.reduceEq, Nat.reduceDiv, Nat.reduceMod, Nat.reduceSub, Nat.reduceBEq, fitR, fitR1, fitR0, fitRL1, fitRL, y58, gVc, wiS, wi1S, vcntS, asI, hE, h1', hl, h2', gt_iff_lt]
    · have h2' : ¬ ((inN 0 127 l : Nat) : Int) < (l.length : Int) := by omega
      by_cases h3 : 1 ≤ k ∧ k ≤ 64
      · have hE : vE l k = 0 := by rw [vE, if_neg h1, if_neg (by omega)]
        simp (config := { maxSteps := 9000000 }) only [↓vyD, vyU, binS, SV.go1, SV.go0, mkRow, intsOf, boolsOf, strsOf, chunks, Row.rep, Row.cat, Row.sub, Row.put, Row.len, Row.get, Row.size, Row.flat, bnds, own0, own1, labsL, labsR, SV.labs, argsOf, entFr, SO.ev, St.of, keepSt, getAll, lookN, hasN, SV.cells, SV.one, SV.res1, SV.res0, SV.resP, SV.ok1, SV.ok0, SV.okN, SV.solid, SV.solid1, SV.solid0, SV.flat0, SV.nm, SV.nm1, SV.nm0, SV.noPtr1, SV.noPtr0, Cel.isFresh, fillP, setAt, partV, eqCells, cellEq, gamY, listsOk, tupOf, takeOwn, SV.ret1, resAll, resL, resV, Nat.reduceEqDiff, ↓reduceIte, Nat.reduceAdd, Nat.reduceMul, Nat.reduceLeDiff, Nat.reduceLT, reduceCtorEq, labOk, Int.reduceBEq, Int.reduceBNe, Int.reduceToNat, Int.reduceLE, Int.reduceLT, Int.reduceEq, Nat.reduceDiv, Nat.reduceMod, Nat.reduceSub, Nat.reduceBEq, fitR, fitR1, fitR0, fitRL1, fitRL, y58, gVc, wiS, wi1S, vcntS, asI, hE, h1', hl, h2', h3, gt_iff_lt]
      · have hE : vE l k = 1 := by rw [vE, if_neg h1, if_pos (.inr h3)]
        have e : decide (1 ≤ k ∧ k ≤ 64) = false := decide_eq_false h3
        simp (config := { maxSteps := 9000000 }) only [↓vyD, vyU, binS, SV.go1, SV.go0, mkRow, intsOf, boolsOf, strsOf, chunks, Row.rep, Row.cat, Row.sub, Row.put, Row.len, Row.get, Row.size, Row.flat, bnds, own0, own1, labsL, labsR, SV.labs, argsOf, entFr, SO.ev, St.of, keepSt, getAll, lookN, hasN, SV.cells, SV.one, SV.res1, SV.res0, SV.resP, SV.ok1, SV.ok0, SV.okN, SV.solid, SV.solid1, SV.solid0, SV.flat0, SV.nm, SV.nm1, SV.nm0, SV.noPtr1, SV.noPtr0, Cel.isFresh, fillP, setAt, partV, eqCells, cellEq, gamY, listsOk, tupOf, takeOwn, SV.ret1, resAll, resL, resV, Nat.reduceEqDiff, ↓reduceIte, Nat.reduceAdd, Nat.reduceMul, Nat.reduceLeDiff, Nat.reduceLT, reduceCtorEq, labOk, Int.reduceBEq, Int.reduceBNe, Int.reduceToNat, Int.reduceLE, Int.reduceLT, Int.reduceEq, Nat.reduceDiv, Nat.reduceMod, Nat.reduceSub, Nat.reduceBEq, fitR, fitR1, fitR0, fitRL1, fitRL, y58, gVc, wiS, wi1S, vcntS, asI, hE, h1', hl, h2', e, gt_iff_lt]
def soE (l : List Int) (k th : Int) : Int := if vE l k = 0 then (if 1 ≤ th ∧ th ≤ 60 then 0 else 1) else vE l k
def soB (l : List Int) (k th : Int) : Bool := if soE l k th = 0 then decide (k ≤ (inN th 127 l : Nat)) else false
def gVs : List (Nat × Say) := [(58, vchkS), (59, wiS), (87, wi1S), (60, vcntS)]
theorem gVs_ok : GamOk Try.prog (gamY gVs) := gam_ok (gam_cons vchk_ok (gam_cons wi_ok (gam_cons wi1_ok (gam_cons vcnt_ok gam_nil))))
def vsomeS : Say
  | [x_l, .int .i64 k, .int .i64 th] => (match asI x_l with | some l => some (True, .tup [.bool (soB l k th), .int .i64 (soE l k th)], none) | _ => none)
  | _ => none
theorem vsome_ok : FOk Try.prog 22 vsomeS := by
  intro xs p r own h hp
  unfold vsomeS at h
  split at h
  case h_2 => cases h
  rename_i x_l k th
  split at h
  case h_2 => cases h
  rename_i l h_l
  simp only [Option.some.injEq, Prod.mk.injEq] at h
  obtain ⟨rfl, rfl, rfl⟩ := h
  refine fun_fit (ys := [.rw (.ints .i64 l), .int .i64 k, .int .i64 th]) ?_ ⟨asI_fit h_l, fit_refl1 _ (by simp), fit_refl1 _ (by simp), trivial⟩
  clear h_l
  refine fun_ok gVs_ok lawy_mixed y22_eq none ?_ (Nat.le_of_ble_eq_true rfl)
  by_cases h : vE l k = 0
  · have hl : l.length ≤ 4294967296 := by have := (vE_0.1 h).1; omega
    by_cases h3 : 1 ≤ th ∧ th ≤ 60
    · have hE : soE l k th = 0 := by rw [soE, if_pos h, if_pos h3]
      have hB : soB l k th = decide (k ≤ (inN th 127 l : Nat)) := if_pos hE
      simp (config := { maxSteps := 9000000 }) only [↓vyD, vyU, binS, SV.go1, SV.go0, mkRow, intsOf, boolsOf, strsOf, chunks, Row.rep, Row.cat, Row.sub, Row.put, Row.len, Row.get, Row.size, Row.flat, bnds, own0, own1, labsL, labsR, SV.labs, argsOf, entFr, SO.ev, St.of, keepSt, getAll, lookN, hasN, SV.cells, SV.one, SV.res1, SV.res0, SV.resP, SV.ok1, SV.ok0, SV.okN, SV.solid, SV.solid1, SV.solid0, SV.flat0, SV.nm, SV.nm1, SV.nm0, SV.noPtr1, SV.noPtr0, Cel.isFresh, fillP, setAt, partV, eqCells, cellEq, gamY, listsOk, tupOf, takeOwn, SV.ret1, resAll, resL, resV, Nat.reduceEqDiff, ↓reduceIte, Nat.reduceAdd, Nat.reduceMul, Nat.reduceLeDiff, Nat.reduceLT, reduceCtorEq, labOk, Int.reduceBEq, Int.reduceBNe, Int.reduceToNat, Int.reduceLE, Int.reduceLT, Int.reduceEq, Nat.reduceDiv, Nat.reduceMod, Nat.reduceSub, Nat.reduceBEq, fitR, fitR1, fitR0, fitRL1, fitRL, y22, gVs, vchkS, wiS, wi1S, vcntS, asI, hE, hB, h, hl, h3, ge_iff_le]
    · have hE : soE l k th = 1 := by rw [soE, if_pos h, if_neg h3]
      have hB : soB l k th = false := if_neg (by omega)
      have e : decide (1 ≤ th ∧ th ≤ 60) = false := decide_eq_false h3
      simp (config := { maxSteps := 9000000 }) only [↓vyD, vyU, binS, SV.go1, SV.go0, mkRow, intsOf, boolsOf, strsOf, chunks, Row.rep, Row.cat, Row.sub, Row.put, Row.len, Row.get, Row.size, Row.flat, bnds, own0, own1, labsL, labsR, SV.labs, argsOf, entFr, SO.ev, St.of, keepSt, getAll, lookN, hasN, SV.cells, SV.one, SV.res1, SV.res0, SV.resP, SV.ok1, SV.ok0, SV.okN, SV.solid, SV.solid1, SV.solid0, SV.flat0, SV.nm, SV.nm1, SV.nm0, SV.noPtr1, SV.noPtr0, Cel.isFresh, fillP, setAt, partV, eqCells, cellEq, gamY, listsOk, tupOf, takeOwn, SV.ret1, resAll, resL, resV, Nat.reduceEqDiff, ↓reduceIte, Nat.reduceAdd, Nat.reduceMul, Nat.reduceLeDiff, Nat.reduceLT, reduceCtorEq, labOk, Int.reduceBEq, Int.reduceBNe, Int.reduceToNat, Int.reduceLE, Int.reduceLT, Int.reduceEq, Nat.reduceDiv, Nat.reduceMod, Nat.reduceSub, Nat.reduceBEq, fitR, fitR1, fitR0, fitRL1, fitRL, y22, gVs, vchkS, wiS, wi1S, vcntS, asI, hE, hB, h, hl, e, ge_iff_le]
  · have hE : soE l k th = vE l k := if_neg h
    have hB : soB l k th = false := if_neg (by omega)
    have h' : (vE l k != 0) = true := by simpa using h
    simp (config := { maxSteps := 9000000 }) only [↓vyD, vyU, binS, SV.go1, SV.go0, mkRow, intsOf, boolsOf, strsOf, chunks, Row.rep, Row.cat, Row.sub, Row.put, Row.len, Row.get, Row.size, Row.flat, bnds, own0, own1, labsL, labsR, SV.labs, argsOf, entFr, SO.ev, St.of, keepSt, getAll, lookN, hasN, SV.cells, SV.one, SV.res1, SV.res0, SV.resP, SV.ok1, SV.ok0, SV.okN, SV.solid, SV.solid1, SV.solid0, SV.flat0, SV.nm, SV.nm1, SV.nm0, SV.noPtr1, SV.noPtr0, Cel.isFresh, fillP, setAt, partV, eqCells, cellEq, gamY, listsOk, tupOf, takeOwn, SV.ret1, resAll, resL, resV, Nat.reduceEqDiff, ↓reduceIte, Nat.reduceAdd, Nat.reduceMul, Nat.reduceLeDiff, Nat.reduceLT, reduceCtorEq, labOk, Int.reduceBEq, Int.reduceBNe, Int.reduceToNat, Int.reduceLE, Int.reduceLT, Int.reduceEq, Nat.reduceDiv, Nat.reduceMod, Nat.reduceSub, Nat.reduceBEq, fitR, fitR1, fitR0, fitRL1, fitRL, y22, gVs, vchkS, wiS, wi1S, vcntS, asI, hE, hB, h', ge_iff_le]
def vlE (l : List Int) (k : Int) : Int := if vE l k = 0 then (if (l.length : Int) < k then 4 else 0) else vE l k
def vlV (l : List Int) (k : Int) : Int := if vlE l k = 0 then (sortL l).getD ((l.length : Int) - k).toNat 0 else 0
theorem vlE_0 {l : List Int} {k : Int} : vlE l k = 0 ↔ vE l k = 0 ∧ k ≤ l.length := by
  unfold vlE
  by_cases h : vE l k = 0
  · rw [if_pos h]; split <;> omega
  · rw [if_neg h]; omega
theorem lev_listE {l : List Int} {k : Int} (h : vE l k = 0) : listE l = 0 := by
  obtain ⟨h1, h2, _⟩ := vE_0.1 h
  exact listE_0.2 ⟨h1, fun x hx => by have := h2 x hx; omega⟩
def gVl : List (Nat × Say) := [(58, vchkS), (44, rsortS)]
theorem gVl_ok : GamOk Try.prog (gamY gVl) := gam_ok (gam_cons vchk_ok (gam_cons rsort_ok gam_nil))
def vlevelS : Say
  | [x_l, .int .i64 k] => (match asI x_l with | some l => some (True, .tup [.int .i64 (vlV l k), .int .i64 (vlE l k)], none) | _ => none)
  | _ => none
theorem vlevel_ok : FOk Try.prog 23 vlevelS := by
  intro xs p r own h hp
  unfold vlevelS at h
  split at h
  case h_2 => cases h
  rename_i x_l k
  split at h
  case h_2 => cases h
  rename_i l h_l
  simp only [Option.some.injEq, Prod.mk.injEq] at h
  obtain ⟨rfl, rfl, rfl⟩ := h
  refine fun_fit (ys := [.rw (.ints .i64 l), .int .i64 k]) ?_ ⟨asI_fit h_l, fit_refl1 _ (by simp), trivial⟩
  clear h_l
  refine fun_ok gVl_ok lawy_mixed y23_eq none ?_ (Nat.le_of_ble_eq_true rfl)
  by_cases h : vE l k = 0
  · have hl := lev_listE h
    obtain ⟨b1, b2, b3, b4⟩ := vE_0.1 h
    by_cases h3 : (l.length : Int) < k
    · have hE : vlE l k = 4 := by rw [vlE, if_pos h, if_pos h3]
      have hV : vlV l k = 0 := if_neg (by omega)
      simp (config := { maxSteps := 9000000 }) only [↓vyD, vyU, binS, SV.go1, SV.go0, mkRow, intsOf, boolsOf, strsOf, chunks, Row.rep, Row.cat, Row.sub, Row.put, Row.len, Row.get, Row.size, Row.flat, bnds, own0, own1, labsL, labsR, SV.labs, argsOf, entFr, SO.ev, St.of, keepSt, getAll, lookN, hasN, SV.cells, SV.one, SV.res1, SV.res0, SV.resP, SV.ok1, SV.ok0, SV.okN, SV.solid, SV.solid1, SV.solid0, SV.flat0, SV.nm, SV.nm1, SV.nm0, SV.noPtr1, SV.noPtr0, Cel.isFresh, fillP, setAt, partV, eqCells, cellEq, gamY, listsOk, tupOf, takeOwn, SV.ret1, resAll, resL, resV, Nat.reduceEqDiff, ↓reduceIte, Nat.reduceAdd, Nat.reduceMul, Nat.reduceLeDiff, Nat.reduceLT, reduceCtorEq, labOk, Int.reduceBEq, Int.reduceBNe, Int.reduceToNat, Int.reduceLE, Int.reduceLT, Int.reduceEq, Nat.reduceDiv, Nat.reduceMod, Nat.reduceSub, Nat.reduceBEq, fitR, fitR1, fitR0, fitRL1, fitRL, y23, gVl, vchkS, rsortS, asI, hE, hV, h, h3, gt_iff_lt]
    · have hE : vlE l k = 0 := by rw [vlE, if_pos h, if_neg h3]
      have hV : vlV l k = (sortL l).getD ((l.length : Int) - k).toNat 0 := if_pos hE
      have e1 := i64_wrap (show I64 ((l.length : Int) - k) by unfold I64; omega)
      have e2 := sortL_len l
      have e3 : (0 : Int) ≤ (l.length : Int) - k := by omega
      have e4 : (l.length : Int) - k < (l.length : Int) := by omega
      simp (config := { maxSteps := 9000000 }) only [↓vyD, vyU, binS, SV.go1, SV.go0, mkRow, intsOf, boolsOf, strsOf, chunks, Row.rep, Row.cat, Row.sub, Row.put, Row.len, Row.get, Row.size, Row.flat, bnds, own0, own1, labsL, labsR, SV.labs, argsOf, entFr, SO.ev, St.of, keepSt, getAll, lookN, hasN, SV.cells, SV.one, SV.res1, SV.res0, SV.resP, SV.ok1, SV.ok0, SV.okN, SV.solid, SV.solid1, SV.solid0, SV.flat0, SV.nm, SV.nm1, SV.nm0, SV.noPtr1, SV.noPtr0, Cel.isFresh, fillP, setAt, partV, eqCells, cellEq, gamY, listsOk, tupOf, takeOwn, SV.ret1, resAll, resL, resV, Nat.reduceEqDiff, ↓reduceIte, Nat.reduceAdd, Nat.reduceMul, Nat.reduceLeDiff, Nat.reduceLT, reduceCtorEq, labOk, Int.reduceBEq, Int.reduceBNe, Int.reduceToNat, Int.reduceLE, Int.reduceLT, Int.reduceEq, Nat.reduceDiv, Nat.reduceMod, Nat.reduceSub, Nat.reduceBEq, fitR, fitR1, fitR0, fitRL1, fitRL, y23, gVl, vchkS, rsortS, asI, hE, hV, h, h3, hl, e1, e2, e3, e4, gt_iff_lt]
  · have hE : vlE l k = vE l k := if_neg h
    have hV : vlV l k = 0 := if_neg (by omega)
    have h' : (vE l k != 0) = true := by simpa using h
    simp (config := { maxSteps := 9000000 }) only [↓vyD, vyU, binS, SV.go1, SV.go0, mkRow, intsOf, boolsOf, strsOf, chunks, Row.rep, Row.cat, Row.sub, Row.put, Row.len, Row.get, Row.size, Row.flat, bnds, own0, own1, labsL, labsR, SV.labs, argsOf, entFr, SO.ev, St.of, keepSt, getAll, lookN, hasN, SV.cells, SV.one, SV.res1, SV.res0, SV.resP, SV.ok1, SV.ok0, SV.okN, SV.solid, SV.solid1, SV.solid0, SV.flat0, SV.nm, SV.nm1, SV.nm0, SV.noPtr1, SV.noPtr0, Cel.isFresh, fillP, setAt, partV, eqCells, cellEq, gamY, listsOk, tupOf, takeOwn, SV.ret1, resAll, resL, resV, Nat.reduceEqDiff, ↓reduceIte, Nat.reduceAdd, Nat.reduceMul, Nat.reduceLeDiff, Nat.reduceLT, reduceCtorEq, labOk, Int.reduceBEq, Int.reduceBNe, Int.reduceToNat, Int.reduceLE, Int.reduceLT, Int.reduceEq, Nat.reduceDiv, Nat.reduceMod, Nat.reduceSub, Nat.reduceBEq, fitR, fitR1, fitR0, fitRL1, fitRL, y23, gVl, vchkS, rsortS, asI, hE, hV, h', gt_iff_lt]
end Go.Proofs.Ytlfhcjohkpdkoaa
