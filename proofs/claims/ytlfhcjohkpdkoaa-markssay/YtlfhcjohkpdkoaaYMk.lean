/- What the functions of marks do. -/
import Derived.Test.YtlfhcjohkpdkoaaYMt
import Derived.Test.YtlfhcjohkpdkoaaCVo
namespace Go.Proofs.Ytlfhcjohkpdkoaa
open Go.ChangeShapes Go.WideShapes Go.ChangeAt Go.RowKit Go.Joins Y
set_option linter.unusedSimpArgs false
set_option linter.unusedVariables false
set_option maxRecDepth 100000
set_option maxHeartbeats 40000000
/-- The turn ahead of place i. -/
def pv (l : List (Int × Bool)) : Nat → Int × Bool
  | 0 => (0, false)
  | i + 1 => l.getD i (0, false)
/-- The first fault among the n turns from place i on. -/
def wE (l : List (Int × Bool)) (en : Int) : Nat → Nat → Int
  | 0, _ => 0
  | n + 1, i => if (l.getD i (0, false)).1 < (pv l i).1 ∨ en < (l.getD i (0, false)).1 then 1 else if (l.getD i (0, false)).2 = (pv l i).2 then 3 else wE l en n (i + 1)
/-- P44's errors. -/
def tE (l : List (Int × Bool)) (en : Int) : Int := if 64 < l.length then 2 else if 0 ≤ en ∧ en ≤ 1073741824 then wE l en l.length 0 else 1
theorem wE_0 {l : List (Int × Bool)} {en : Int} : ∀ {n i : Nat}, wE l en n i = 0 → ∀ j, i ≤ j → j < i + n → (pv l j).1 ≤ (l.getD j (0, false)).1 ∧ (l.getD j (0, false)).1 ≤ en ∧ (l.getD j (0, false)).2 = !(pv l j).2
  | 0, i, _, j, h1, h2 => by omega
  | n + 1, i, h, j, h1, h2 => by
    rw [wE] at h
    by_cases c1 : (l.getD i (0, false)).1 < (pv l i).1 ∨ en < (l.getD i (0, false)).1
    · rw [if_pos c1] at h; cases h
    · rw [if_neg c1] at h
      by_cases c2 : (l.getD i (0, false)).2 = (pv l i).2
      · rw [if_pos c2] at h; cases h
      · rw [if_neg c2] at h
        by_cases hj : j = i
        · subst hj
          refine ⟨by omega, by omega, ?_⟩
          cases ha : (l.getD j (0, false)).2 <;> cases hb : (pv l j).2 <;> simp_all
        · exact wE_0 h j (by omega) (by omega)
theorem tE_0 {l : List (Int × Bool)} {en : Int} (h : tE l en = 0) : l.length ≤ 64 ∧ (0 ≤ en ∧ en ≤ 1073741824) ∧ ∀ j, j < l.length → (pv l j).1 ≤ (l.getD j (0, false)).1 ∧ (l.getD j (0, false)).1 ≤ en ∧ (l.getD j (0, false)).2 = !(pv l j).2 := by
  unfold tE at h
  by_cases h1 : 64 < l.length
  · rw [if_pos h1] at h; cases h
  · rw [if_neg h1] at h
    by_cases h2 : 0 ≤ en ∧ en ≤ 1073741824
    · rw [if_pos h2] at h
      exact ⟨by omega, h2, fun j hj => wE_0 h j (by omega) (by omega)⟩
    · rw [if_neg h2] at h; cases h
theorem t_ge {l : List (Int × Bool)} {en : Int} (h : tE l en = 0) : ∀ j, j < l.length → 0 ≤ (l.getD j (0, false)).1 ∧ (l.getD j (0, false)).1 ≤ en ∧ (l.getD j (0, false)).2 = decide (j % 2 = 0)
  | 0, hj => by
    obtain ⟨_, _, k⟩ := tE_0 h
    have := k 0 hj
    simp only [pv] at this
    exact ⟨this.1, this.2.1, by rw [this.2.2]; rfl⟩
  | j + 1, hj => by
    obtain ⟨_, _, k⟩ := tE_0 h
    have h1 := k (j + 1) hj
    have h2 := t_ge h j (by omega)
    simp only [pv] at h1
    refine ⟨by omega, by omega, ?_⟩
    rw [h1.2.2, h2.2.2]
    by_cases hm : j % 2 = 0
    · rw [decide_eq_true hm, decide_eq_false (by omega)]; rfl
    · rw [decide_eq_false hm, decide_eq_true (by omega)]; rfl
def mchkS : Say
  | [x_l, .int .i64 en] => (match asT x_l with | some l => some (True, .int .i64 (tE l en), none) | _ => none)
  | _ => none
theorem mchk_ok : FOk Try.prog 20 mchkS := by
  intro xs p r own h hp
  unfold mchkS at h
  split at h
  case h_2 => cases h
  rename_i x_l en
  split at h
  case h_2 => cases h
  rename_i l h_l
  simp only [Option.some.injEq, Prod.mk.injEq] at h
  obtain ⟨rfl, rfl, rfl⟩ := h
  refine fun_fit (ys := [.rw (.recs 2 (mapT l)), .int .i64 en]) ?_ ⟨asT_fit h_l, fit_refl1 _ (by simp), trivial⟩
  clear h_l
  refine fun_ok (gam_ok gam_nil) lawy_mixed y20_eq none ?_ (Nat.le_of_ble_eq_true rfl)
  by_cases h1 : 64 < l.length
  · have hE : tE l en = 2 := if_pos h1
    have h1' : (64 : Int) < (l.length : Int) := by omega
    simp (config := { maxSteps := 9000000 }) only [↓vyD, vyU, binS, SV.go1, SV.go0, mkRow, intsOf, boolsOf, strsOf, chunks, Row.rep, Row.cat, Row.sub, Row.put, Row.len, Row.get, Row.size, Row.flat, bnds, own0, own1, labsL, labsR, SV.labs, argsOf, entFr, SO.ev, St.of, keepSt, getAll, lookN, hasN, SV.cells, SV.one, SV.res1, SV.res0, SV.resP, SV.ok1, SV.ok0, SV.okN, SV.solid, SV.solid1, SV.solid0, SV.flat0, SV.nm, SV.nm1, SV.nm0, SV.noPtr1, SV.noPtr0, Cel.isFresh, fillP, setAt, partV, eqCells, cellEq, gamY, listsOk, tupOf, takeOwn, SV.ret1, resAll, resL, resV, Nat.reduceEqDiff, ↓reduceIte, Nat.reduceAdd, Nat.reduceMul, Nat.reduceLeDiff, Nat.reduceLT, reduceCtorEq, labOk, Int.reduceBEq, Int.reduceBNe, Int.reduceToNat, Int.reduceLE, Int.reduceLT, Int.reduceEq, Nat.reduceDiv, Nat.reduceMod, Nat.reduceSub, Nat.reduceBEq, fitR, fitR1, fitR0, fitRL1, fitRL, y20, asT_rw, mapT_len, mapT_labs, List.all_nil, hE, h1', gt_iff_lt]
  have h1' : ¬ (64 : Int) < (l.length : Int) := by omega
  by_cases h2 : en < 0
  · have hE : tE l en = 1 := by rw [tE, if_neg h1, if_neg (by omega)]
    simp (config := { maxSteps := 9000000 }) only [↓vyD, vyU, binS, SV.go1, SV.go0, mkRow, intsOf, boolsOf, strsOf, chunks, Row.rep, Row.cat, Row.sub, Row.put, Row.len, Row.get, Row.size, Row.flat, bnds, own0, own1, labsL, labsR, SV.labs, argsOf, entFr, SO.ev, St.of, keepSt, getAll, lookN, hasN, SV.cells, SV.one, SV.res1, SV.res0, SV.resP, SV.ok1, SV.ok0, SV.okN, SV.solid, SV.solid1, SV.solid0, SV.flat0, SV.nm, SV.nm1, SV.nm0, SV.noPtr1, SV.noPtr0, Cel.isFresh, fillP, setAt, partV, eqCells, cellEq, gamY, listsOk, tupOf, takeOwn, SV.ret1, resAll, resL, resV, Nat.reduceEqDiff, ↓reduceIte, Nat.reduceAdd, Nat.reduceMul, Nat.reduceLeDiff, Nat.reduceLT, reduceCtorEq, labOk, Int.reduceBEq, Int.reduceBNe, Int.reduceToNat, Int.reduceLE, Int.reduceLT, Int.reduceEq, Nat.reduceDiv, Nat.reduceMod, Nat.reduceSub, Nat.reduceBEq, fitR, fitR1, fitR0, fitRL1, fitRL, y20, asT_rw, mapT_len, mapT_labs, List.all_nil, hE, h1', h2, gt_iff_lt]
  by_cases h3 : 1073741824 < en
  · have hE : tE l en = 1 := by rw [tE, if_neg h1, if_neg (by omega)]
    simp (config := { maxSteps := 9000000 }) only [↓vyD, vyU, binS, SV.go1, SV.go0, mkRow, intsOf, boolsOf, strsOf, chunks, Row.rep, Row.cat, Row.sub, Row.put, Row.len, Row.get, Row.size, Row.flat, bnds, own0, own1, labsL, labsR, SV.labs, argsOf, entFr, SO.ev, St.of, keepSt, getAll, lookN, hasN, SV.cells, SV.one, SV.res1, SV.res0, SV.resP, SV.ok1, SV.ok0, SV.okN, SV.solid, SV.solid1, SV.solid0, SV.flat0, SV.nm, SV.nm1, SV.nm0, SV.noPtr1, SV.noPtr0, Cel.isFresh, fillP, setAt, partV, eqCells, cellEq, gamY, listsOk, tupOf, takeOwn, SV.ret1, resAll, resL, resV, Nat.reduceEqDiff, ↓reduceIte, Nat.reduceAdd, Nat.reduceMul, Nat.reduceLeDiff, Nat.reduceLT, reduceCtorEq, labOk, Int.reduceBEq, Int.reduceBNe, Int.reduceToNat, Int.reduceLE, Int.reduceLT, Int.reduceEq, Nat.reduceDiv, Nat.reduceMod, Nat.reduceSub, Nat.reduceBEq, fitR, fitR1, fitR0, fitRL1, fitRL, y20, asT_rw, mapT_len, mapT_labs, List.all_nil, hE, h1', h2, h3, gt_iff_lt]
  have hE : tE l en = wE l en l.length 0 := by rw [tE, if_neg h1, if_pos (by omega)]
  simp (config := { maxSteps := 9000000 }) only [↓vyD, vyU, binS, SV.go1, SV.go0, mkRow, intsOf, boolsOf, strsOf, chunks, Row.rep, Row.cat, Row.sub, Row.put, Row.len, Row.get, Row.size, Row.flat, bnds, own0, own1, labsL, labsR, SV.labs, argsOf, entFr, SO.ev, St.of, keepSt, getAll, lookN, hasN, SV.cells, SV.one, SV.res1, SV.res0, SV.resP, SV.ok1, SV.ok0, SV.okN, SV.solid, SV.solid1, SV.solid0, SV.flat0, SV.nm, SV.nm1, SV.nm0, SV.noPtr1, SV.noPtr0, Cel.isFresh, fillP, setAt, partV, eqCells, cellEq, gamY, listsOk, tupOf, takeOwn, SV.ret1, resAll, resL, resV, Nat.reduceEqDiff, ↓reduceIte, Nat.reduceAdd, Nat.reduceMul, Nat.reduceLeDiff, Nat.reduceLT, reduceCtorEq, labOk, Int.reduceBEq, Int.reduceBNe, Int.reduceToNat, Int.reduceLE, Int.reduceLT, Int.reduceEq, Nat.reduceDiv, Nat.reduceMod, Nat.reduceSub, Nat.reduceBEq, fitR, fitR1, fitR0, fitRL1, fitRL, y20, asT_rw, mapT_len, mapT_labs, List.all_nil, hE, h1', h2, h3, gt_iff_lt]
  refine loopG_intro (ι := Nat) (fun i => [(1, .int .i64 en), (5, .ptr 5001 0), (18, .rw (.recs 2 (mapT l))), (19, .int .i64 l.length), (20, .int .i64 i)]) (fun i => [(5001, .var 33 [.int .i64 (pv l i).1, .bool (pv l i).2])])
    (fun i => i ≤ l.length ∧ wE l en (l.length - i) i = wE l en l.length 0) (fun i => l.length - i) ⟨0, ⟨by omega, rfl⟩, ?_, ?_, ?_⟩ fun i ⟨hi, hw⟩ => ?_
  · simp (config := { maxSteps := 9000000 }) only [↓vyD, vyU, binS, SV.go1, SV.go0, mkRow, intsOf, boolsOf, strsOf, chunks, Row.rep, Row.cat, Row.sub, Row.put, Row.len, Row.get, Row.size, Row.flat, bnds, own0, own1, labsL, labsR, SV.labs, argsOf, entFr, SO.ev, St.of, keepSt, getAll, lookN, hasN, SV.cells, SV.one, SV.res1, SV.res0, SV.resP, SV.ok1, SV.ok0, SV.okN, SV.solid, SV.solid1, SV.solid0, SV.flat0, SV.nm, SV.nm1, SV.nm0, SV.noPtr1, SV.noPtr0, Cel.isFresh, fillP, setAt, partV, eqCells, cellEq, gamY, listsOk, tupOf, takeOwn, SV.ret1, resAll, resL, resV, Nat.reduceEqDiff, ↓reduceIte, Nat.reduceAdd, Nat.reduceMul, Nat.reduceLeDiff, Nat.reduceLT, reduceCtorEq, labOk, Int.reduceBEq, Int.reduceBNe, Int.reduceToNat, Int.reduceLE, Int.reduceLT, Int.reduceEq, Nat.reduceDiv, Nat.reduceMod, Nat.reduceSub, Nat.reduceBEq, fitR, fitR1, fitR0, fitRL1, fitRL, mapT_len, mapT_labs, List.all_nil]
  · simp (config := { maxSteps := 9000000 }) only [↓vyD, vyU, binS, SV.go1, SV.go0, mkRow, intsOf, boolsOf, strsOf, chunks, Row.rep, Row.cat, Row.sub, Row.put, Row.len, Row.get, Row.size, Row.flat, bnds, own0, own1, labsL, labsR, SV.labs, argsOf, entFr, SO.ev, St.of, keepSt, getAll, lookN, hasN, SV.cells, SV.one, SV.res1, SV.res0, SV.resP, SV.ok1, SV.ok0, SV.okN, SV.solid, SV.solid1, SV.solid0, SV.flat0, SV.nm, SV.nm1, SV.nm0, SV.noPtr1, SV.noPtr0, Cel.isFresh, fillP, setAt, partV, eqCells, cellEq, gamY, listsOk, tupOf, takeOwn, SV.ret1, resAll, resL, resV, Nat.reduceEqDiff, ↓reduceIte, Nat.reduceAdd, Nat.reduceMul, Nat.reduceLeDiff, Nat.reduceLT, reduceCtorEq, labOk, Int.reduceBEq, Int.reduceBNe, Int.reduceToNat, Int.reduceLE, Int.reduceLT, Int.reduceEq, Nat.reduceDiv, Nat.reduceMod, Nat.reduceSub, Nat.reduceBEq, fitR, fitR1, fitR0, fitRL1, fitRL, mapT_len, mapT_labs, List.all_nil, Int.natCast_zero, Int.ofNat_zero]
  · simp (config := { maxSteps := 9000000 }) only [↓vyD, vyU, binS, SV.go1, SV.go0, mkRow, intsOf, boolsOf, strsOf, chunks, Row.rep, Row.cat, Row.sub, Row.put, Row.len, Row.get, Row.size, Row.flat, bnds, own0, own1, labsL, labsR, SV.labs, argsOf, entFr, SO.ev, St.of, keepSt, getAll, lookN, hasN, SV.cells, SV.one, SV.res1, SV.res0, SV.resP, SV.ok1, SV.ok0, SV.okN, SV.solid, SV.solid1, SV.solid0, SV.flat0, SV.nm, SV.nm1, SV.nm0, SV.noPtr1, SV.noPtr0, Cel.isFresh, fillP, setAt, partV, eqCells, cellEq, gamY, listsOk, tupOf, takeOwn, SV.ret1, resAll, resL, resV, Nat.reduceEqDiff, ↓reduceIte, Nat.reduceAdd, Nat.reduceMul, Nat.reduceLeDiff, Nat.reduceLT, reduceCtorEq, labOk, Int.reduceBEq, Int.reduceBNe, Int.reduceToNat, Int.reduceLE, Int.reduceLT, Int.reduceEq, Nat.reduceDiv, Nat.reduceMod, Nat.reduceSub, Nat.reduceBEq, fitR, fitR1, fitR0, fitRL1, fitRL, mapT_len, mapT_labs, List.all_nil, pv]
  rw [← hw]
  by_cases hlt : (i : Int) < (l.length : Int)
  · have hlt' : i < l.length := by omega
    have b1 := i64_wrap (show I64 ((i : Int) + 1) by unfold I64; omega)
    have hg := mapT_get hlt'
    have hp : pv l (i + 1) = l.getD i (0, false) := rfl
    have hs : l.length - i = (l.length - (i + 1)) + 1 := by omega
    have hi0 : (0 : Int) ≤ (i : Int) := by omega
    rw [hs, wE] at hw ⊢
    generalize hX : l.getD i (0, false) = x at *
    generalize hY : pv l i = y at *
    obtain ⟨x1, x2⟩ := x
    obtain ⟨y1, y2⟩ := y
    simp only at hw hg ⊢
    by_cases c1 : x1 < y1
    · rw [if_pos (.inl c1)]
      simp (config := { maxSteps := 9000000 }) only [↓vyD, vyU, binS, SV.go1, SV.go0, mkRow, intsOf, boolsOf, strsOf, chunks, Row.rep, Row.cat, Row.sub, Row.put, Row.len, Row.get, Row.size, Row.flat, bnds, own0, own1, labsL, labsR, SV.labs, argsOf, entFr, SO.ev, St.of, keepSt, getAll, lookN, hasN, SV.cells, SV.one, SV.res1, SV.res0, SV.resP, SV.ok1, SV.ok0, SV.okN, SV.solid, SV.solid1, SV.solid0, SV.flat0, SV.nm, SV.nm1, SV.nm0, SV.noPtr1, SV.noPtr0, Cel.isFresh, fillP, setAt, partV, eqCells, cellEq, gamY, listsOk, tupOf, takeOwn, SV.ret1, resAll, resL, resV, Nat.reduceEqDiff, ↓reduceIte, Nat.reduceAdd, Nat.reduceMul, Nat.reduceLeDiff, Nat.reduceLT, reduceCtorEq, labOk, Int.reduceBEq, Int.reduceBNe, Int.reduceToNat, Int.reduceLE, Int.reduceLT, Int.reduceEq, Nat.reduceDiv, Nat.reduceMod, Nat.reduceSub, Nat.reduceBEq, fitR, fitR1, fitR0, fitRL1, fitRL, mapT_len, mapT_labs, List.all_nil, hlt, hi0, hg, c1, Int.toNat_natCast]
    · by_cases c2 : en < x1
      · rw [if_pos (.inr c2)]
        simp (config := { maxSteps := 9000000 }) only [↓vyD, vyU, binS, SV.go1, SV.go0, mkRow, intsOf, boolsOf, strsOf, chunks, Row.rep, Row.cat, Row.sub, Row.put, Row.len, Row.get, Row.size, Row.flat, bnds, own0, own1, labsL, labsR, SV.labs, argsOf, entFr, SO.ev, St.of, keepSt, getAll, lookN, hasN, SV.cells, SV.one, SV.res1, SV.res0, SV.resP, SV.ok1, SV.ok0, SV.okN, SV.solid, SV.solid1, SV.solid0, SV.flat0, SV.nm, SV.nm1, SV.nm0, SV.noPtr1, SV.noPtr0, Cel.isFresh, fillP, setAt, partV, eqCells, cellEq, gamY, listsOk, tupOf, takeOwn, SV.ret1, resAll, resL, resV, Nat.reduceEqDiff, ↓reduceIte, Nat.reduceAdd, Nat.reduceMul, Nat.reduceLeDiff, Nat.reduceLT, reduceCtorEq, labOk, Int.reduceBEq, Int.reduceBNe, Int.reduceToNat, Int.reduceLE, Int.reduceLT, Int.reduceEq, Nat.reduceDiv, Nat.reduceMod, Nat.reduceSub, Nat.reduceBEq, fitR, fitR1, fitR0, fitRL1, fitRL, mapT_len, mapT_labs, List.all_nil, hlt, hi0, hg, c1, c2, Int.toNat_natCast, gt_iff_lt]
      · rw [if_neg (by omega)] at hw ⊢
        by_cases c3 : x2 = y2
        · rw [if_pos c3]
          have c3' : (x2 == y2) = true := by simp [c3]
          simp (config := { maxSteps := 9000000 }) only [↓vyD, vyU, binS, SV.go1, SV.go0, mkRow, intsOf, boolsOf, strsOf, chunks, Row.rep, Row.cat, Row.sub, Row.put, Row.len, Row.get, Row.size, Row.flat, bnds, own0, own1, labsL, labsR, SV.labs, argsOf, entFr, SO.ev, St.of, keepSt, getAll, lookN, hasN, SV.cells, SV.one, SV.res1, SV.res0, SV.resP, SV.ok1, SV.ok0, SV.okN, SV.solid, SV.solid1, SV.solid0, SV.flat0, SV.nm, SV.nm1, SV.nm0, SV.noPtr1, SV.noPtr0, Cel.isFresh, fillP, setAt, partV, eqCells, cellEq, gamY, listsOk, tupOf, takeOwn, SV.ret1, resAll, resL, resV, Nat.reduceEqDiff, ↓reduceIte, Nat.reduceAdd, Nat.reduceMul, Nat.reduceLeDiff, Nat.reduceLT, reduceCtorEq, labOk, Int.reduceBEq, Int.reduceBNe, Int.reduceToNat, Int.reduceLE, Int.reduceLT, Int.reduceEq, Nat.reduceDiv, Nat.reduceMod, Nat.reduceSub, Nat.reduceBEq, fitR, fitR1, fitR0, fitRL1, fitRL, mapT_len, mapT_labs, List.all_nil, hlt, hi0, hg, c1, c2, c3', Int.toNat_natCast, gt_iff_lt]
        · rw [if_neg c3] at hw ⊢
          have c3' : (x2 == y2) = false := by simp [c3]
          simp (config := { maxSteps := 9000000 }) only [↓vyD, vyU, binS, SV.go1, SV.go0, mkRow, intsOf, boolsOf, strsOf, chunks, Row.rep, Row.cat, Row.sub, Row.put, Row.len, Row.get, Row.size, Row.flat, bnds, own0, own1, labsL, labsR, SV.labs, argsOf, entFr, SO.ev, St.of, keepSt, getAll, lookN, hasN, SV.cells, SV.one, SV.res1, SV.res0, SV.resP, SV.ok1, SV.ok0, SV.okN, SV.solid, SV.solid1, SV.solid0, SV.flat0, SV.nm, SV.nm1, SV.nm0, SV.noPtr1, SV.noPtr0, Cel.isFresh, fillP, setAt, partV, eqCells, cellEq, gamY, listsOk, tupOf, takeOwn, SV.ret1, resAll, resL, resV, Nat.reduceEqDiff, ↓reduceIte, Nat.reduceAdd, Nat.reduceMul, Nat.reduceLeDiff, Nat.reduceLT, reduceCtorEq, labOk, Int.reduceBEq, Int.reduceBNe, Int.reduceToNat, Int.reduceLE, Int.reduceLT, Int.reduceEq, Nat.reduceDiv, Nat.reduceMod, Nat.reduceSub, Nat.reduceBEq, fitR, fitR1, fitR0, fitRL1, fitRL, mapT_len, mapT_labs, List.all_nil, hlt, hi0, hg, c1, c2, c3', b1, Int.toNat_natCast, gt_iff_lt]
          exact ⟨i + 1, ⟨⟨by omega, rfl⟩, by omega⟩, by simp, by simp [hp]⟩
  · have : i = l.length := by omega
    subst this
    have z : wE l en (l.length - l.length) l.length = 0 := by rw [Nat.sub_self]; rfl
    simp (config := { maxSteps := 9000000 }) only [↓vyD, vyU, binS, SV.go1, SV.go0, mkRow, intsOf, boolsOf, strsOf, chunks, Row.rep, Row.cat, Row.sub, Row.put, Row.len, Row.get, Row.size, Row.flat, bnds, own0, own1, labsL, labsR, SV.labs, argsOf, entFr, SO.ev, St.of, keepSt, getAll, lookN, hasN, SV.cells, SV.one, SV.res1, SV.res0, SV.resP, SV.ok1, SV.ok0, SV.okN, SV.solid, SV.solid1, SV.solid0, SV.flat0, SV.nm, SV.nm1, SV.nm0, SV.noPtr1, SV.noPtr0, Cel.isFresh, fillP, setAt, partV, eqCells, cellEq, gamY, listsOk, tupOf, takeOwn, SV.ret1, resAll, resL, resV, Nat.reduceEqDiff, ↓reduceIte, Nat.reduceAdd, Nat.reduceMul, Nat.reduceLeDiff, Nat.reduceLT, reduceCtorEq, labOk, Int.reduceBEq, Int.reduceBNe, Int.reduceToNat, Int.reduceLE, Int.reduceLT, Int.reduceEq, Nat.reduceDiv, Nat.reduceMod, Nat.reduceSub, Nat.reduceBEq, fitR, fitR1, fitR0, fitRL1, fitRL, mapT_len, mapT_labs, List.all_nil, Int.lt_irrefl, z]
/-- The end of the time behind turn i. -/
def nxT (l : List (Int × Bool)) (en : Int) (i : Nat) : Int := if i + 1 < l.length then (l.getD (i + 1) (0, false)).1 else en
def timM (l : List (Int × Bool)) : Nat → Nat
  | 0 => 0
  | i + 1 => timM l i + if (l.getD i (0, false)).2 then 1 else 0
def badM (l : List (Int × Bool)) (en : Int) : Nat → Int
  | 0 => 0
  | i + 1 => badM l en i + if (l.getD i (0, false)).2 then nxT l en i - (l.getD i (0, false)).1 else 0
theorem tE_of {l : List (Int × Bool)} {en : Int} (h64 : l.length ≤ 64) (he : 0 ≤ en ∧ en ≤ 1073741824) (hs : ∀ j, j < l.length → (l.getD j (0, false)).2 = decide (j % 2 = 0)) (hb : ∀ j, j < l.length → 0 ≤ (l.getD j (0, false)).1 ∧ (l.getD j (0, false)).1 ≤ en) (hm : ∀ j, j + 1 < l.length → (l.getD j (0, false)).1 ≤ (l.getD (j + 1) (0, false)).1) : tE l en = 0 := by
  have hw : ∀ n i, i + n ≤ l.length → wE l en n i = 0 := by
    intro n
    induction n with
    | zero => intro i _; rfl
    | succ n ih =>
      intro i hi
      rw [wE]
      have h1 := hb i (by omega)
      have h2 : (pv l i).1 ≤ (l.getD i (0, false)).1 := by
        cases i with
        | zero => exact h1.1
        | succ i => exact hm i (by omega)
      have h3 : ¬ (l.getD i (0, false)).2 = (pv l i).2 := by
        rw [hs i (by omega)]
        cases i with
        | zero => simp [pv]
        | succ i =>
          simp only [pv]
          rw [hs i (by omega)]
          simp only [decide_eq_decide]
          omega
      rw [if_neg (by omega), if_neg h3]
      exact ih (i + 1) (by omega)
  rw [tE, if_neg (by omega), if_pos he]
  exact hw _ _ (by omega)
/-- Where turn i begins; behind the last one: the end. -/
def begT (l : List (Int × Bool)) (en : Int) (i : Nat) : Int := if i < l.length then (l.getD i (0, false)).1 else en
theorem nx_beg (l : List (Int × Bool)) (en : Int) (i : Nat) : nxT l en i = begT l en (i + 1) := rfl
theorem beg_bd {l : List (Int × Bool)} {en : Int} (h : tE l en = 0) {i : Nat} (hi : i < l.length) : 0 ≤ begT l en i ∧ begT l en i ≤ begT l en (i + 1) ∧ begT l en (i + 1) ≤ en := by
  obtain ⟨_, h2, h3⟩ := tE_0 h
  have h4 := t_ge h i hi
  unfold begT
  rw [if_pos hi]
  by_cases h5 : i + 1 < l.length
  · rw [if_pos h5]
    have := h3 (i + 1) h5
    simp only [pv] at this
    omega
  · rw [if_neg h5]; omega
theorem bad_bd {l : List (Int × Bool)} {en : Int} (h : tE l en = 0) : ∀ i, i ≤ l.length → 0 ≤ badM l en i ∧ badM l en i ≤ begT l en i
  | 0, hi => by
    obtain ⟨_, h2, h3⟩ := tE_0 h
    simp only [badM]
    refine ⟨by omega, ?_⟩
    unfold begT
    split
    · rename_i h0; exact (t_ge h 0 h0).1
    · omega
  | i + 1, hi => by
    have h1 := bad_bd h i (by omega)
    have h2 := beg_bd h (show i < l.length by omega)
    have h3 : begT l en i = (l.getD i (0, false)).1 := if_pos (by omega)
    rw [badM, nx_beg]
    split <;> omega
theorem tim_le (l : List (Int × Bool)) : ∀ i, timM l i ≤ i
  | 0 => Nat.le_refl _
  | i + 1 => by have := tim_le l i; rw [timM]; split <;> omega
theorem tim_eq {l : List (Int × Bool)} {en : Int} (h : tE l en = 0) : ∀ i, i ≤ l.length → timM l i = (i + 1) / 2
  | 0, _ => rfl
  | i + 1, hi => by
    have h1 := tim_eq h i (by omega)
    have h2 := (t_ge h i (by omega)).2.2
    rw [timM, h1, h2]
    by_cases hm : i % 2 = 0
    · rw [if_pos (by simpa using hm)]; omega
    · rw [if_neg (by simpa using hm)]; omega
def mk3 (a b c : Int) : SV := .agg [.int .i64 a, .int .i64 b, .int .i64 c]
def moV (l : List (Int × Bool)) (en : Int) : SV := if tE l en = 0 then mk3 (timM l l.length) (badM l en l.length) (en - badM l en l.length) else mk3 0 0 0
/-- The first turn from place i on that comes behind t. -/
def bkT (l : List (Int × Bool)) (t : Int) : Nat → Nat → Nat
  | 0, i => i
  | n + 1, i => if t < (l.getD i (0, false)).1 then i else bkT l t n (i + 1)
def atE (l : List (Int × Bool)) (en t : Int) : Int := if tE l en = 0 then (if 0 ≤ t ∧ t ≤ en then 0 else 1) else tE l en
def atB (l : List (Int × Bool)) (en t : Int) : Bool := if atE l en t = 0 then (pv l (bkT l t l.length 0)).2 else false
theorem bkT_is {l : List (Int × Bool)} {t : Int} : ∀ {f i r : Nat}, i ≤ r → r ≤ i + f → (∀ j, i ≤ j → j < r → (l.getD j (0, false)).1 ≤ t) → (r < i + f → t < (l.getD r (0, false)).1) → bkT l t f i = r
  | 0, i, r, h1, h2, _, _ => by rw [bkT]; omega
  | f + 1, i, r, h1, h2, h3, h4 => by
    rw [bkT]
    by_cases hi : i = r
    · subst hi
      rw [if_pos (h4 (by omega))]
    · rw [if_neg (by have := h3 i (by omega) (by omega); omega)]
      exact bkT_is (by omega) (by omega) (fun j a b => h3 j (by omega) b) (fun h => h4 (by omega))
theorem bkT_spec {l : List (Int × Bool)} {t : Int} : ∀ (f i : Nat), i ≤ bkT l t f i ∧ bkT l t f i ≤ i + f ∧ (∀ j, i ≤ j → j < bkT l t f i → (l.getD j (0, false)).1 ≤ t) ∧ (bkT l t f i < i + f → t < (l.getD (bkT l t f i) (0, false)).1)
  | 0, i => by simp only [bkT]; exact ⟨by omega, by omega, by omega, by omega⟩
  | f + 1, i => by
    rw [bkT]
    by_cases hp : t < (l.getD i (0, false)).1
    · rw [if_pos hp]; exact ⟨by omega, by omega, by omega, fun _ => hp⟩
    · rw [if_neg hp]
      obtain ⟨a, b, c, d⟩ := bkT_spec (l := l) (t := t) f (i + 1)
      refine ⟨by omega, by omega, fun j h1 h2 => ?_, fun h => d (by omega)⟩
      by_cases hj : j = i
      · subst hj; omega
      · exact c j (by omega) h2
def mnextS : Say
  | [x_l, .int .i64 i, .int .i64 en] => (match asT x_l with | some l => some (0 ≤ i ∧ i < l.length ∧ l.length ≤ 64, .int .i64 (nxT l en i.toNat), none) | _ => none)
  | _ => none
theorem mnext_ok : FOk Try.prog 55 mnextS := by
  intro xs p r own h hp
  unfold mnextS at h
  split at h
  case h_2 => cases h
  rename_i x_l i en
  split at h
  case h_2 => cases h
  rename_i l h_l
  simp only [Option.some.injEq, Prod.mk.injEq] at h
  obtain ⟨rfl, rfl, rfl⟩ := h
  refine fun_fit (ys := [.rw (.recs 2 (mapT l)), .int .i64 i, .int .i64 en]) ?_ ⟨asT_fit h_l, fit_refl1 _ (by simp), fit_refl1 _ (by simp), trivial⟩
  clear h_l
  refine fun_ok (gam_ok gam_nil) lawy_mixed y55_eq none ?_ (Nat.le_of_ble_eq_true rfl)
  obtain ⟨n, rfl⟩ := Int.eq_ofNat_of_zero_le hp.1
  have h64 := hp.2.2
  have b1 := i64_wrap (show I64 ((n : Int) + 1) by unfold I64; omega)
  have hn0 : (0 : Int) ≤ (n : Int) + 1 := by omega
  have hn1 : ((n : Int) + 1).toNat = n + 1 := by omega
  by_cases h : (n : Int) + 1 < l.length
  · have hg := mapT_get (l := l) (show n + 1 < l.length by omega)
    have hv : nxT l en n = (l.getD (n + 1) (0, false)).1 := if_pos (by omega)
    simp (config := { maxSteps := 9000000 }) only [↓vyD, vyU, binS, SV.go1, SV.go0, mkRow, intsOf, boolsOf, strsOf, chunks, Row.rep, Row.cat, Row.sub, Row.put, Row.len, Row.get, Row.size, Row.flat, bnds, own0, own1, labsL, labsR, SV.labs, argsOf, entFr, SO.ev, St.of, keepSt, getAll, lookN, hasN, SV.cells, SV.one, SV.res1, SV.res0, SV.resP, SV.ok1, SV.ok0, SV.okN, SV.solid, SV.solid1, SV.solid0, SV.flat0, SV.nm, SV.nm1, SV.nm0, SV.noPtr1, SV.noPtr0, Cel.isFresh, fillP, setAt, partV, eqCells, cellEq, gamY, listsOk, tupOf, takeOwn, SV.ret1, resAll, resL, resV, Nat.reduceEqDiff, ↓reduceIte, Nat.reduceAdd, Nat.reduceMul, Nat.reduceLeDiff, Nat.reduceLT, reduceCtorEq, labOk, Int.reduceBEq, Int.reduceBNe, Int.reduceToNat, Int.reduceLE, Int.reduceLT, Int.reduceEq, Nat.reduceDiv, Nat.reduceMod, Nat.reduceSub, Nat.reduceBEq, fitR, fitR1, fitR0, fitRL1, fitRL, y55, mapT_len, mapT_labs, List.all_nil, asT_rw, b1, h, hn0, hn1, hg, hv, Int.toNat_natCast]
  · have hv : nxT l en n = en := if_neg (by omega)
    simp (config := { maxSteps := 9000000 }) only [↓vyD, vyU, binS, SV.go1, SV.go0, mkRow, intsOf, boolsOf, strsOf, chunks, Row.rep, Row.cat, Row.sub, Row.put, Row.len, Row.get, Row.size, Row.flat, bnds, own0, own1, labsL, labsR, SV.labs, argsOf, entFr, SO.ev, St.of, keepSt, getAll, lookN, hasN, SV.cells, SV.one, SV.res1, SV.res0, SV.resP, SV.ok1, SV.ok0, SV.okN, SV.solid, SV.solid1, SV.solid0, SV.flat0, SV.nm, SV.nm1, SV.nm0, SV.noPtr1, SV.noPtr0, Cel.isFresh, fillP, setAt, partV, eqCells, cellEq, gamY, listsOk, tupOf, takeOwn, SV.ret1, resAll, resL, resV, Nat.reduceEqDiff, ↓reduceIte, Nat.reduceAdd, Nat.reduceMul, Nat.reduceLeDiff, Nat.reduceLT, reduceCtorEq, labOk, Int.reduceBEq, Int.reduceBNe, Int.reduceToNat, Int.reduceLE, Int.reduceLT, Int.reduceEq, Nat.reduceDiv, Nat.reduceMod, Nat.reduceSub, Nat.reduceBEq, fitR, fitR1, fitR0, fitRL1, fitRL, y55, mapT_len, mapT_labs, List.all_nil, asT_rw, b1, h, hv, Int.toNat_natCast]
def gMo : List (Nat × Say) := [(20, mchkS), (55, mnextS)]
theorem gMo_ok : GamOk Try.prog (gamY gMo) := gam_ok (gam_cons mchk_ok (gam_cons mnext_ok gam_nil))
def mofS : Say
  | [x_l, .int .i64 en] => (match asT x_l with | some l => some (True, .tup [moV l en, .int .i64 (tE l en)], none) | _ => none)
  | _ => none
theorem mof_ok : FOk Try.prog 17 mofS := by
  intro xs p r own h hp
  unfold mofS at h
  split at h
  case h_2 => cases h
  rename_i x_l en
  split at h
  case h_2 => cases h
  rename_i l h_l
  simp only [Option.some.injEq, Prod.mk.injEq] at h
  obtain ⟨rfl, rfl, rfl⟩ := h
  refine fun_fit (ys := [.rw (.recs 2 (mapT l)), .int .i64 en]) ?_ ⟨asT_fit h_l, fit_refl1 _ (by simp), trivial⟩
  clear h_l
  refine fun_ok gMo_ok lawy_mixed y17_eq none ?_ (Nat.le_of_ble_eq_true rfl)
  by_cases h : tE l en = 0
  · have hV : moV l en = mk3 (timM l l.length) (badM l en l.length) (en - badM l en l.length) := if_pos h
    rw [hV, h]
    obtain ⟨h64, he, _⟩ := tE_0 h
    simp (config := { maxSteps := 9000000 }) only [↓vyD, vyU, binS, SV.go1, SV.go0, mkRow, intsOf, boolsOf, strsOf, chunks, Row.rep, Row.cat, Row.sub, Row.put, Row.len, Row.get, Row.size, Row.flat, bnds, own0, own1, labsL, labsR, SV.labs, argsOf, entFr, SO.ev, St.of, keepSt, getAll, lookN, hasN, SV.cells, SV.one, SV.res1, SV.res0, SV.resP, SV.ok1, SV.ok0, SV.okN, SV.solid, SV.solid1, SV.solid0, SV.flat0, SV.nm, SV.nm1, SV.nm0, SV.noPtr1, SV.noPtr0, Cel.isFresh, fillP, setAt, partV, eqCells, cellEq, gamY, listsOk, tupOf, takeOwn, SV.ret1, resAll, resL, resV, Nat.reduceEqDiff, ↓reduceIte, Nat.reduceAdd, Nat.reduceMul, Nat.reduceLeDiff, Nat.reduceLT, reduceCtorEq, labOk, Int.reduceBEq, Int.reduceBNe, Int.reduceToNat, Int.reduceLE, Int.reduceLT, Int.reduceEq, Nat.reduceDiv, Nat.reduceMod, Nat.reduceSub, Nat.reduceBEq, fitR, fitR1, fitR0, fitRL1, fitRL, y17, gMo, mchkS, mnextS, mapT_len, mapT_labs, List.all_nil, asT_rw, h, mk3]
    refine loopG_intro (ι := Nat) (fun i => [(0, .rw (.recs 2 (mapT l))), (1, .int .i64 en), (4, .ptr 0 0), (7, .ptr 4002 0), (20, .rw (.recs 2 (mapT l))), (21, .int .i64 l.length), (22, .int .i64 i)])
      (fun i => [(0, .var 24 [.int .i64 0, .int .i64 0, .int .i64 0]), (4002, .var 24 [.int .i64 (timM l i : Nat), .int .i64 (badM l en i), .int .i64 (en - badM l en i)])])
      (fun i => i ≤ l.length) (fun i => l.length - i) ⟨0, by omega, ?_, ?_, ?_⟩ fun i hi => ?_
    · simp (config := { maxSteps := 9000000 }) only [↓vyD, vyU, binS, SV.go1, SV.go0, mkRow, intsOf, boolsOf, strsOf, chunks, Row.rep, Row.cat, Row.sub, Row.put, Row.len, Row.get, Row.size, Row.flat, bnds, own0, own1, labsL, labsR, SV.labs, argsOf, entFr, SO.ev, St.of, keepSt, getAll, lookN, hasN, SV.cells, SV.one, SV.res1, SV.res0, SV.resP, SV.ok1, SV.ok0, SV.okN, SV.solid, SV.solid1, SV.solid0, SV.flat0, SV.nm, SV.nm1, SV.nm0, SV.noPtr1, SV.noPtr0, Cel.isFresh, fillP, setAt, partV, eqCells, cellEq, gamY, listsOk, tupOf, takeOwn, SV.ret1, resAll, resL, resV, Nat.reduceEqDiff, ↓reduceIte, Nat.reduceAdd, Nat.reduceMul, Nat.reduceLeDiff, Nat.reduceLT, reduceCtorEq, labOk, Int.reduceBEq, Int.reduceBNe, Int.reduceToNat, Int.reduceLE, Int.reduceLT, Int.reduceEq, Nat.reduceDiv, Nat.reduceMod, Nat.reduceSub, Nat.reduceBEq, fitR, fitR1, fitR0, fitRL1, fitRL, mapT_len, mapT_labs, List.all_nil, asT_rw]
    · simp (config := { maxSteps := 9000000 }) only [↓vyD, vyU, binS, SV.go1, SV.go0, mkRow, intsOf, boolsOf, strsOf, chunks, Row.rep, Row.cat, Row.sub, Row.put, Row.len, Row.get, Row.size, Row.flat, bnds, own0, own1, labsL, labsR, SV.labs, argsOf, entFr, SO.ev, St.of, keepSt, getAll, lookN, hasN, SV.cells, SV.one, SV.res1, SV.res0, SV.resP, SV.ok1, SV.ok0, SV.okN, SV.solid, SV.solid1, SV.solid0, SV.flat0, SV.nm, SV.nm1, SV.nm0, SV.noPtr1, SV.noPtr0, Cel.isFresh, fillP, setAt, partV, eqCells, cellEq, gamY, listsOk, tupOf, takeOwn, SV.ret1, resAll, resL, resV, Nat.reduceEqDiff, ↓reduceIte, Nat.reduceAdd, Nat.reduceMul, Nat.reduceLeDiff, Nat.reduceLT, reduceCtorEq, labOk, Int.reduceBEq, Int.reduceBNe, Int.reduceToNat, Int.reduceLE, Int.reduceLT, Int.reduceEq, Nat.reduceDiv, Nat.reduceMod, Nat.reduceSub, Nat.reduceBEq, fitR, fitR1, fitR0, fitRL1, fitRL, mapT_len, mapT_labs, List.all_nil, asT_rw, Int.natCast_zero, Int.ofNat_zero]
    · simp (config := { maxSteps := 9000000 }) only [↓vyD, vyU, binS, SV.go1, SV.go0, mkRow, intsOf, boolsOf, strsOf, chunks, Row.rep, Row.cat, Row.sub, Row.put, Row.len, Row.get, Row.size, Row.flat, bnds, own0, own1, labsL, labsR, SV.labs, argsOf, entFr, SO.ev, St.of, keepSt, getAll, lookN, hasN, SV.cells, SV.one, SV.res1, SV.res0, SV.resP, SV.ok1, SV.ok0, SV.okN, SV.solid, SV.solid1, SV.solid0, SV.flat0, SV.nm, SV.nm1, SV.nm0, SV.noPtr1, SV.noPtr0, Cel.isFresh, fillP, setAt, partV, eqCells, cellEq, gamY, listsOk, tupOf, takeOwn, SV.ret1, resAll, resL, resV, Nat.reduceEqDiff, ↓reduceIte, Nat.reduceAdd, Nat.reduceMul, Nat.reduceLeDiff, Nat.reduceLT, reduceCtorEq, labOk, Int.reduceBEq, Int.reduceBNe, Int.reduceToNat, Int.reduceLE, Int.reduceLT, Int.reduceEq, Nat.reduceDiv, Nat.reduceMod, Nat.reduceSub, Nat.reduceBEq, fitR, fitR1, fitR0, fitRL1, fitRL, mapT_len, mapT_labs, List.all_nil, asT_rw, timM, badM, Int.natCast_zero, Int.ofNat_zero, Int.sub_zero]
    by_cases hlt : (i : Int) < (l.length : Int)
    · have hlt' : i < l.length := by omega
      have b1 := i64_wrap (show I64 ((i : Int) + 1) by unfold I64; omega)
      have hg := mapT_get hlt'
      have hi0 : (0 : Int) ≤ (i : Int) := by omega
      have q1 := bad_bd h i hi
      have q2 := bad_bd h (i + 1) hlt'
      have q3 := beg_bd h hlt'
      have q4 := tim_le l i
      have eb : badM l en (i + 1) = badM l en i + if (l.getD i (0, false)).2 then nxT l en i - (l.getD i (0, false)).1 else 0 := rfl
      have et : timM l (i + 1) = timM l i + if (l.getD i (0, false)).2 then 1 else 0 := rfl
      have q5 : begT l en i = (l.getD i (0, false)).1 := if_pos hlt'
      rw [← nx_beg] at q2 q3
      generalize hX : l.getD i (0, false) = x at *
      obtain ⟨x1, x2⟩ := x
      simp only at eb et hg q5
      generalize hN : nxT l en i = N at *
      have b2 := i64_wrap (show I64 (N - x1) by unfold I64; omega)
      have b3 := i64_wrap (show I64 ((timM l i : Nat) + 1 : Int) by unfold I64; omega)
      have b4 := i64_wrap (show I64 (badM l en i + (N - x1)) by unfold I64; omega)
      have b5 := i64_wrap (show I64 (en - badM l en i - (N - x1)) by unfold I64; omega)
      cases x2 with
      | true =>
        simp only [if_true] at eb et
        simp (config := { maxSteps := 9000000 }) only [↓vyD, vyU, binS, SV.go1, SV.go0, mkRow, intsOf, boolsOf, strsOf, chunks, Row.rep, Row.cat, Row.sub, Row.put, Row.len, Row.get, Row.size, Row.flat, bnds, own0, own1, labsL, labsR, SV.labs, argsOf, entFr, SO.ev, St.of, keepSt, getAll, lookN, hasN, SV.cells, SV.one, SV.res1, SV.res0, SV.resP, SV.ok1, SV.ok0, SV.okN, SV.solid, SV.solid1, SV.solid0, SV.flat0, SV.nm, SV.nm1, SV.nm0, SV.noPtr1, SV.noPtr0, Cel.isFresh, fillP, setAt, partV, eqCells, cellEq, gamY, listsOk, tupOf, takeOwn, SV.ret1, resAll, resL, resV, Nat.reduceEqDiff, ↓reduceIte, Nat.reduceAdd, Nat.reduceMul, Nat.reduceLeDiff, Nat.reduceLT, reduceCtorEq, labOk, Int.reduceBEq, Int.reduceBNe, Int.reduceToNat, Int.reduceLE, Int.reduceLT, Int.reduceEq, Nat.reduceDiv, Nat.reduceMod, Nat.reduceSub, Nat.reduceBEq, fitR, fitR1, fitR0, fitRL1, fitRL, mapT_len, mapT_labs, List.all_nil, asT_rw, gMo, mchkS, mnextS, hlt, hi0, hg, b1, b2, b3, b4, b5, hN, h64, Int.toNat_natCast]
        exact ⟨i + 1, ⟨by omega, by omega⟩, by simp, by omega, by omega, by omega⟩
      | false =>
        simp only [Bool.false_eq_true, if_false] at eb et
        simp (config := { maxSteps := 9000000 }) only [↓vyD, vyU, binS, SV.go1, SV.go0, mkRow, intsOf, boolsOf, strsOf, chunks, Row.rep, Row.cat, Row.sub, Row.put, Row.len, Row.get, Row.size, Row.flat, bnds, own0, own1, labsL, labsR, SV.labs, argsOf, entFr, SO.ev, St.of, keepSt, getAll, lookN, hasN, SV.cells, SV.one, SV.res1, SV.res0, SV.resP, SV.ok1, SV.ok0, SV.okN, SV.solid, SV.solid1, SV.solid0, SV.flat0, SV.nm, SV.nm1, SV.nm0, SV.noPtr1, SV.noPtr0, Cel.isFresh, fillP, setAt, partV, eqCells, cellEq, gamY, listsOk, tupOf, takeOwn, SV.ret1, resAll, resL, resV, Nat.reduceEqDiff, ↓reduceIte, Nat.reduceAdd, Nat.reduceMul, Nat.reduceLeDiff, Nat.reduceLT, reduceCtorEq, labOk, Int.reduceBEq, Int.reduceBNe, Int.reduceToNat, Int.reduceLE, Int.reduceLT, Int.reduceEq, Nat.reduceDiv, Nat.reduceMod, Nat.reduceSub, Nat.reduceBEq, fitR, fitR1, fitR0, fitRL1, fitRL, mapT_len, mapT_labs, List.all_nil, asT_rw, gMo, mchkS, mnextS, hlt, hi0, hg, b1, Int.toNat_natCast]
        exact ⟨i + 1, ⟨by omega, by omega⟩, by simp, by omega, by omega, by omega⟩
    · have : i = l.length := by omega
      subst this
      simp (config := { maxSteps := 9000000 }) only [↓vyD, vyU, binS, SV.go1, SV.go0, mkRow, intsOf, boolsOf, strsOf, chunks, Row.rep, Row.cat, Row.sub, Row.put, Row.len, Row.get, Row.size, Row.flat, bnds, own0, own1, labsL, labsR, SV.labs, argsOf, entFr, SO.ev, St.of, keepSt, getAll, lookN, hasN, SV.cells, SV.one, SV.res1, SV.res0, SV.resP, SV.ok1, SV.ok0, SV.okN, SV.solid, SV.solid1, SV.solid0, SV.flat0, SV.nm, SV.nm1, SV.nm0, SV.noPtr1, SV.noPtr0, Cel.isFresh, fillP, setAt, partV, eqCells, cellEq, gamY, listsOk, tupOf, takeOwn, SV.ret1, resAll, resL, resV, Nat.reduceEqDiff, ↓reduceIte, Nat.reduceAdd, Nat.reduceMul, Nat.reduceLeDiff, Nat.reduceLT, reduceCtorEq, labOk, Int.reduceBEq, Int.reduceBNe, Int.reduceToNat, Int.reduceLE, Int.reduceLT, Int.reduceEq, Nat.reduceDiv, Nat.reduceMod, Nat.reduceSub, Nat.reduceBEq, fitR, fitR1, fitR0, fitRL1, fitRL, mapT_len, mapT_labs, List.all_nil, asT_rw, Int.lt_irrefl]
  · have hV : moV l en = mk3 0 0 0 := if_neg h
    have h' : (tE l en != 0) = true := by simpa using h
    simp (config := { maxSteps := 9000000 }) only [↓vyD, vyU, binS, SV.go1, SV.go0, mkRow, intsOf, boolsOf, strsOf, chunks, Row.rep, Row.cat, Row.sub, Row.put, Row.len, Row.get, Row.size, Row.flat, bnds, own0, own1, labsL, labsR, SV.labs, argsOf, entFr, SO.ev, St.of, keepSt, getAll, lookN, hasN, SV.cells, SV.one, SV.res1, SV.res0, SV.resP, SV.ok1, SV.ok0, SV.okN, SV.solid, SV.solid1, SV.solid0, SV.flat0, SV.nm, SV.nm1, SV.nm0, SV.noPtr1, SV.noPtr0, Cel.isFresh, fillP, setAt, partV, eqCells, cellEq, gamY, listsOk, tupOf, takeOwn, SV.ret1, resAll, resL, resV, Nat.reduceEqDiff, ↓reduceIte, Nat.reduceAdd, Nat.reduceMul, Nat.reduceLeDiff, Nat.reduceLT, reduceCtorEq, labOk, Int.reduceBEq, Int.reduceBNe, Int.reduceToNat, Int.reduceLE, Int.reduceLT, Int.reduceEq, Nat.reduceDiv, Nat.reduceMod, Nat.reduceSub, Nat.reduceBEq, fitR, fitR1, fitR0, fitRL1, fitRL, y17, gMo, mchkS, mnextS, mapT_len, mapT_labs, List.all_nil, asT_rw, h', hV, mk3]
def gMa : List (Nat × Say) := [(20, mchkS)]
theorem gMa_ok : GamOk Try.prog (gamY gMa) := gam_ok (gam_cons mchk_ok gam_nil)
def matS : Say
  | [x_l, .int .i64 en, .int .i64 t] => (match asT x_l with | some l => some (True, .tup [.bool (atB l en t), .int .i64 (atE l en t)], none) | _ => none)
  | _ => none
theorem mat_ok : FOk Try.prog 18 matS := by
  intro xs p r own h hp
  unfold matS at h
  split at h
  case h_2 => cases h
  rename_i x_l en t
  split at h
  case h_2 => cases h
  rename_i l h_l
  simp only [Option.some.injEq, Prod.mk.injEq] at h
  obtain ⟨rfl, rfl, rfl⟩ := h
  refine fun_fit (ys := [.rw (.recs 2 (mapT l)), .int .i64 en, .int .i64 t]) ?_ ⟨asT_fit h_l, fit_refl1 _ (by simp), fit_refl1 _ (by simp), trivial⟩
  clear h_l
  refine fun_ok gMa_ok lawy_mixed y18_eq none ?_ (Nat.le_of_ble_eq_true rfl)
  by_cases h : tE l en = 0
  · obtain ⟨h64, he, _⟩ := tE_0 h
    by_cases t1 : t < 0
    · have hE : atE l en t = 1 := by rw [atE, if_pos h, if_neg (by omega)]
      have hB : atB l en t = false := if_neg (by omega)
      simp (config := { maxSteps := 9000000 }) only [↓vyD, vyU, binS, SV.go1, SV.go0, mkRow, intsOf, boolsOf, strsOf, chunks, Row.rep, Row.cat, Row.sub, Row.put, Row.len, Row.get, Row.size, Row.flat, bnds, own0, own1, labsL, labsR, SV.labs, argsOf, entFr, SO.ev, St.of, keepSt, getAll, lookN, hasN, SV.cells, SV.one, SV.res1, SV.res0, SV.resP, SV.ok1, SV.ok0, SV.okN, SV.solid, SV.solid1, SV.solid0, SV.flat0, SV.nm, SV.nm1, SV.nm0, SV.noPtr1, SV.noPtr0, Cel.isFresh, fillP, setAt, partV, eqCells, cellEq, gamY, listsOk, tupOf, takeOwn, SV.ret1, resAll, resL, resV, Nat.reduceEqDiff, ↓reduceIte, Nat.reduceAdd, Nat.reduceMul, Nat.reduceLeDiff, Nat.reduceLT, reduceCtorEq, labOk, Int.reduceBEq, Int.reduceBNe, Int.reduceToNat, Int.reduceLE, Int.reduceLT, Int.reduceEq, Nat.reduceDiv, Nat.reduceMod, Nat.reduceSub, Nat.reduceBEq, fitR, fitR1, fitR0, fitRL1, fitRL, y18, gMa, mchkS, mapT_len, mapT_labs, List.all_nil, asT_rw, h, hE, hB, t1]
    by_cases t2 : en < t
    · have hE : atE l en t = 1 := by rw [atE, if_pos h, if_neg (by omega)]
      have hB : atB l en t = false := if_neg (by omega)
      simp (config := { maxSteps := 9000000 }) only [↓vyD, vyU, binS, SV.go1, SV.go0, mkRow, intsOf, boolsOf, strsOf, chunks, Row.rep, Row.cat, Row.sub, Row.put, Row.len, Row.get, Row.size, Row.flat, bnds, own0, own1, labsL, labsR, SV.labs, argsOf, entFr, SO.ev, St.of, keepSt, getAll, lookN, hasN, SV.cells, SV.one, SV.res1, SV.res0, SV.resP, SV.ok1, SV.ok0, SV.okN, SV.solid, SV.solid1, SV.solid0, SV.flat0, SV.nm, SV.nm1, SV.nm0, SV.noPtr1, SV.noPtr0, Cel.isFresh, fillP, setAt, partV, eqCells, cellEq, gamY, listsOk, tupOf, takeOwn, SV.ret1, resAll, resL, resV, Nat.reduceEqDiff, ↓reduceIte, Nat.reduceAdd, Nat.reduceMul, Nat.reduceLeDiff, Nat.reduceLT, reduceCtorEq, labOk, Int.reduceBEq, Int.reduceBNe, Int.reduceToNat, Int.reduceLE, Int.reduceLT, Int.reduceEq, Nat.reduceDiv, Nat.reduceMod, Nat.reduceSub, Nat.reduceBEq, fitR, fitR1, fitR0, fitRL1, fitRL, y18, gMa, mchkS, mapT_len, mapT_labs, List.all_nil, asT_rw, h, hE, hB, t1, t2, gt_iff_lt]
    have hE : atE l en t = 0 := by rw [atE, if_pos h, if_pos (by omega)]
    have hB : atB l en t = (pv l (bkT l t l.length 0)).2 := if_pos hE
    rw [hE, hB]
    simp (config := { maxSteps := 9000000 }) only [↓vyD, vyU, binS, SV.go1, SV.go0, mkRow, intsOf, boolsOf, strsOf, chunks, Row.rep, Row.cat, Row.sub, Row.put, Row.len, Row.get, Row.size, Row.flat, bnds, own0, own1, labsL, labsR, SV.labs, argsOf, entFr, SO.ev, St.of, keepSt, getAll, lookN, hasN, SV.cells, SV.one, SV.res1, SV.res0, SV.resP, SV.ok1, SV.ok0, SV.okN, SV.solid, SV.solid1, SV.solid0, SV.flat0, SV.nm, SV.nm1, SV.nm0, SV.noPtr1, SV.noPtr0, Cel.isFresh, fillP, setAt, partV, eqCells, cellEq, gamY, listsOk, tupOf, takeOwn, SV.ret1, resAll, resL, resV, Nat.reduceEqDiff, ↓reduceIte, Nat.reduceAdd, Nat.reduceMul, Nat.reduceLeDiff, Nat.reduceLT, reduceCtorEq, labOk, Int.reduceBEq, Int.reduceBNe, Int.reduceToNat, Int.reduceLE, Int.reduceLT, Int.reduceEq, Nat.reduceDiv, Nat.reduceMod, Nat.reduceSub, Nat.reduceBEq, fitR, fitR1, fitR0, fitRL1, fitRL, y18, gMa, mchkS, mapT_len, mapT_labs, List.all_nil, asT_rw, h, t1, t2, gt_iff_lt]
    refine loopG_intro (ι := Nat) (fun i => [(2, .int .i64 t), (9, .bool (pv l i).2), (25, .rw (.recs 2 (mapT l))), (26, .int .i64 l.length), (27, .int .i64 i)]) (fun _ => [])
      (fun i => i ≤ l.length ∧ bkT l t (l.length - i) i = bkT l t l.length 0) (fun i => l.length - i) ⟨0, ⟨by omega, rfl⟩, ?_, ?_, ?_⟩ fun i ⟨hi, hw⟩ => ?_
    · simp (config := { maxSteps := 9000000 }) only [↓vyD, vyU, binS, SV.go1, SV.go0, mkRow, intsOf, boolsOf, strsOf, chunks, Row.rep, Row.cat, Row.sub, Row.put, Row.len, Row.get, Row.size, Row.flat, bnds, own0, own1, labsL, labsR, SV.labs, argsOf, entFr, SO.ev, St.of, keepSt, getAll, lookN, hasN, SV.cells, SV.one, SV.res1, SV.res0, SV.resP, SV.ok1, SV.ok0, SV.okN, SV.solid, SV.solid1, SV.solid0, SV.flat0, SV.nm, SV.nm1, SV.nm0, SV.noPtr1, SV.noPtr0, Cel.isFresh, fillP, setAt, partV, eqCells, cellEq, gamY, listsOk, tupOf, takeOwn, SV.ret1, resAll, resL, resV, Nat.reduceEqDiff, ↓reduceIte, Nat.reduceAdd, Nat.reduceMul, Nat.reduceLeDiff, Nat.reduceLT, reduceCtorEq, labOk, Int.reduceBEq, Int.reduceBNe, Int.reduceToNat, Int.reduceLE, Int.reduceLT, Int.reduceEq, Nat.reduceDiv, Nat.reduceMod, Nat.reduceSub, Nat.reduceBEq, fitR, fitR1, fitR0, fitRL1, fitRL, mapT_len, mapT_labs, List.all_nil, asT_rw]
    · simp (config := { maxSteps := 9000000 }) only [↓vyD, vyU, binS, SV.go1, SV.go0, mkRow, intsOf, boolsOf, strsOf, chunks, Row.rep, Row.cat, Row.sub, Row.put, Row.len, Row.get, Row.size, Row.flat, bnds, own0, own1, labsL, labsR, SV.labs, argsOf, entFr, SO.ev, St.of, keepSt, getAll, lookN, hasN, SV.cells, SV.one, SV.res1, SV.res0, SV.resP, SV.ok1, SV.ok0, SV.okN, SV.solid, SV.solid1, SV.solid0, SV.flat0, SV.nm, SV.nm1, SV.nm0, SV.noPtr1, SV.noPtr0, Cel.isFresh, fillP, setAt, partV, eqCells, cellEq, gamY, listsOk, tupOf, takeOwn, SV.ret1, resAll, resL, resV, Nat.reduceEqDiff, ↓reduceIte, Nat.reduceAdd, Nat.reduceMul, Nat.reduceLeDiff, Nat.reduceLT, reduceCtorEq, labOk, Int.reduceBEq, Int.reduceBNe, Int.reduceToNat, Int.reduceLE, Int.reduceLT, Int.reduceEq, Nat.reduceDiv, Nat.reduceMod, Nat.reduceSub, Nat.reduceBEq, fitR, fitR1, fitR0, fitRL1, fitRL, mapT_len, mapT_labs, List.all_nil, asT_rw, pv, Int.natCast_zero, Int.ofNat_zero]
    · simp (config := { maxSteps := 9000000 }) only [↓vyD, vyU, binS, SV.go1, SV.go0, mkRow, intsOf, boolsOf, strsOf, chunks, Row.rep, Row.cat, Row.sub, Row.put, Row.len, Row.get, Row.size, Row.flat, bnds, own0, own1, labsL, labsR, SV.labs, argsOf, entFr, SO.ev, St.of, keepSt, getAll, lookN, hasN, SV.cells, SV.one, SV.res1, SV.res0, SV.resP, SV.ok1, SV.ok0, SV.okN, SV.solid, SV.solid1, SV.solid0, SV.flat0, SV.nm, SV.nm1, SV.nm0, SV.noPtr1, SV.noPtr0, Cel.isFresh, fillP, setAt, partV, eqCells, cellEq, gamY, listsOk, tupOf, takeOwn, SV.ret1, resAll, resL, resV, Nat.reduceEqDiff, ↓reduceIte, Nat.reduceAdd, Nat.reduceMul, Nat.reduceLeDiff, Nat.reduceLT, reduceCtorEq, labOk, Int.reduceBEq, Int.reduceBNe, Int.reduceToNat, Int.reduceLE, Int.reduceLT, Int.reduceEq, Nat.reduceDiv, Nat.reduceMod, Nat.reduceSub, Nat.reduceBEq, fitR, fitR1, fitR0, fitRL1, fitRL, mapT_len, mapT_labs, List.all_nil, asT_rw]
    rw [← hw]
    by_cases hlt : (i : Int) < (l.length : Int)
    · have hlt' : i < l.length := by omega
      have b1 := i64_wrap (show I64 ((i : Int) + 1) by unfold I64; omega)
      have hg := mapT_get hlt'
      have hi0 : (0 : Int) ≤ (i : Int) := by omega
      have hp : pv l (i + 1) = l.getD i (0, false) := rfl
      have hs : l.length - i = (l.length - (i + 1)) + 1 := by omega
      rw [hs, bkT]
      generalize hX : l.getD i (0, false) = x at *
      obtain ⟨x1, x2⟩ := x
      simp only at hg ⊢
      by_cases c1 : t < x1
      · rw [if_pos c1]
        simp (config := { maxSteps := 9000000 }) only [↓vyD, vyU, binS, SV.go1, SV.go0, mkRow, intsOf, boolsOf, strsOf, chunks, Row.rep, Row.cat, Row.sub, Row.put, Row.len, Row.get, Row.size, Row.flat, bnds, own0, own1, labsL, labsR, SV.labs, argsOf, entFr, SO.ev, St.of, keepSt, getAll, lookN, hasN, SV.cells, SV.one, SV.res1, SV.res0, SV.resP, SV.ok1, SV.ok0, SV.okN, SV.solid, SV.solid1, SV.solid0, SV.flat0, SV.nm, SV.nm1, SV.nm0, SV.noPtr1, SV.noPtr0, Cel.isFresh, fillP, setAt, partV, eqCells, cellEq, gamY, listsOk, tupOf, takeOwn, SV.ret1, resAll, resL, resV, Nat.reduceEqDiff, ↓reduceIte, Nat.reduceAdd, Nat.reduceMul, Nat.reduceLeDiff, Nat.reduceLT, reduceCtorEq, labOk, Int.reduceBEq, Int.reduceBNe, Int.reduceToNat, Int.reduceLE, Int.reduceLT, Int.reduceEq, Nat.reduceDiv, Nat.reduceMod, Nat.reduceSub, Nat.reduceBEq, fitR, fitR1, fitR0, fitRL1, fitRL, mapT_len, mapT_labs, List.all_nil, asT_rw, gMa, mchkS, hlt, hi0, hg, c1, Int.toNat_natCast, gt_iff_lt]
      · rw [if_neg c1]
        simp (config := { maxSteps := 9000000 }) only [↓vyD, vyU, binS, SV.go1, SV.go0, mkRow, intsOf, boolsOf, strsOf, chunks, Row.rep, Row.cat, Row.sub, Row.put, Row.len, Row.get, Row.size, Row.flat, bnds, own0, own1, labsL, labsR, SV.labs, argsOf, entFr, SO.ev, St.of, keepSt, getAll, lookN, hasN, SV.cells, SV.one, SV.res1, SV.res0, SV.resP, SV.ok1, SV.ok0, SV.okN, SV.solid, SV.solid1, SV.solid0, SV.flat0, SV.nm, SV.nm1, SV.nm0, SV.noPtr1, SV.noPtr0, Cel.isFresh, fillP, setAt, partV, eqCells, cellEq, gamY, listsOk, tupOf, takeOwn, SV.ret1, resAll, resL, resV, Nat.reduceEqDiff, ↓reduceIte, Nat.reduceAdd, Nat.reduceMul, Nat.reduceLeDiff, Nat.reduceLT, reduceCtorEq, labOk, Int.reduceBEq, Int.reduceBNe, Int.reduceToNat, Int.reduceLE, Int.reduceLT, Int.reduceEq, Nat.reduceDiv, Nat.reduceMod, Nat.reduceSub, Nat.reduceBEq, fitR, fitR1, fitR0, fitRL1, fitRL, mapT_len, mapT_labs, List.all_nil, asT_rw, gMa, mchkS, hlt, hi0, hg, c1, b1, Int.toNat_natCast, gt_iff_lt]
        exact ⟨i + 1, ⟨⟨by omega, rfl⟩, by omega⟩, by simp [hp], by simp⟩
    · have : i = l.length := by omega
      subst this
      have z : bkT l t (l.length - l.length) l.length = l.length := by rw [Nat.sub_self]; rfl
      simp (config := { maxSteps := 9000000 }) only [↓vyD, vyU, binS, SV.go1, SV.go0, mkRow, intsOf, boolsOf, strsOf, chunks, Row.rep, Row.cat, Row.sub, Row.put, Row.len, Row.get, Row.size, Row.flat, bnds, own0, own1, labsL, labsR, SV.labs, argsOf, entFr, SO.ev, St.of, keepSt, getAll, lookN, hasN, SV.cells, SV.one, SV.res1, SV.res0, SV.resP, SV.ok1, SV.ok0, SV.okN, SV.solid, SV.solid1, SV.solid0, SV.flat0, SV.nm, SV.nm1, SV.nm0, SV.noPtr1, SV.noPtr0, Cel.isFresh, fillP, setAt, partV, eqCells, cellEq, gamY, listsOk, tupOf, takeOwn, SV.ret1, resAll, resL, resV, Nat.reduceEqDiff, ↓reduceIte, Nat.reduceAdd, Nat.reduceMul, Nat.reduceLeDiff, Nat.reduceLT, reduceCtorEq, labOk, Int.reduceBEq, Int.reduceBNe, Int.reduceToNat, Int.reduceLE, Int.reduceLT, Int.reduceEq, Nat.reduceDiv, Nat.reduceMod, Nat.reduceSub, Nat.reduceBEq, fitR, fitR1, fitR0, fitRL1, fitRL, mapT_len, mapT_labs, List.all_nil, asT_rw, Int.lt_irrefl, z]
  · have hE : atE l en t = tE l en := if_neg h
    have hB : atB l en t = false := if_neg (by omega)
    have h' : (tE l en != 0) = true := by simpa using h
    simp (config := { maxSteps := 9000000 }) only [↓vyD, vyU, binS, SV.go1, SV.go0, mkRow, intsOf, boolsOf, strsOf, chunks, Row.rep, Row.cat, Row.sub, Row.put, Row.len, Row.get, Row.size, Row.flat, bnds, own0, own1, labsL, labsR, SV.labs, argsOf, entFr, SO.ev, St.of, keepSt, getAll, lookN, hasN, SV.cells, SV.one, SV.res1, SV.res0, SV.resP, SV.ok1, SV.ok0, SV.okN, SV.solid, SV.solid1, SV.solid0, SV.flat0, SV.nm, SV.nm1, SV.nm0, SV.noPtr1, SV.noPtr0, Cel.isFresh, fillP, setAt, partV, eqCells, cellEq, gamY, listsOk, tupOf, takeOwn, SV.ret1, resAll, resL, resV, Nat.reduceEqDiff, ↓reduceIte, Nat.reduceAdd, Nat.reduceMul, Nat.reduceLeDiff, Nat.reduceLT, reduceCtorEq, labOk, Int.reduceBEq, Int.reduceBNe, Int.reduceToNat, Int.reduceLE, Int.reduceLT, Int.reduceEq, Nat.reduceDiv, Nat.reduceMod, Nat.reduceSub, Nat.reduceBEq, fitR, fitR1, fitR0, fitRL1, fitRL, y18, gMa, mchkS, mapT_len, mapT_labs, List.all_nil, asT_rw, h', hE, hB]
end Go.Proofs.Ytlfhcjohkpdkoaa
