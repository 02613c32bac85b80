/- The document's answers on peers (hwref). -/
import Derived.Test.YtgklfolmlcfjgaaYGr
import Derived.Test.YtgklfolmlcfjgaaYW5
import Derived.Test.YtgklfolmlcfjgaaYSp
import Derived.Test.YtgklfolmlcfjgaaCTi
namespace Go.Proofs.Ytgklfolmlcfjgaa
open Go.ChangeShapes Go.WideShapes Go.ChangeAt Go.RowKit Go.Joins Y
set_option linter.unusedSimpArgs false
set_option linter.unusedVariables false
set_option maxRecDepth 100000
set_option maxHeartbeats 40000000
/-- The name ahead of place i. -/
def pvI (l : List Pr) : Nat → List UInt8
  | 0 => []
  | i + 1 => (l.getD i default).id
/-- A peer's own errors, behind one of that name. -/
def p1E (last : List UInt8) (p : Pr) : Int := if isIdB p.id = true then (if gateE p.inc p.seq p.drops = 0 then (if winE p.cap p.vals = 0 then (if 0 ≤ p.last ∧ p.last ≤ 1073741824 then (if (Op.bytesLess p.id last || p.id == last) = true then 3 else 0) else 1) else winE p.cap p.vals) else gateE p.inc p.seq p.drops) else 3
def psW (l : List Pr) : Nat → Nat → Int
  | 0, _ => 0
  | n + 1, i => if p1E (pvI l i) (l.getD i default) = 0 then psW l n (i + 1) else p1E (pvI l i) (l.getD i default)
/-- P49's errors. -/
def psE (l : List Pr) : Int := if 6 < l.length then 2 else psW l l.length 0
theorem psW_0 {l : List Pr} : ∀ {n i : Nat}, psW l n i = 0 → ∀ j, i ≤ j → j < i + n → p1E (pvI l j) (l.getD j default) = 0
  | 0, i, _, j, h1, h2 => by omega
  | n + 1, i, h, j, h1, h2 => by
    rw [psW] at h
    by_cases c : p1E (pvI l i) (l.getD i default) = 0
    · rw [if_pos c] at h
      by_cases e : j = i
      · subst e; exact c
      · exact psW_0 h j (by omega) (by omega)
    · rw [if_neg c] at h; exact absurd h c
theorem psE_0 {l : List Pr} (h : psE l = 0) : l.length ≤ 6 ∧ ∀ j, j < l.length → p1E (pvI l j) (l.getD j default) = 0 := by
  unfold psE at h
  by_cases c : 6 < l.length
  · rw [if_pos c] at h; cases h
  · rw [if_neg c] at h
    exact ⟨by omega, fun j hj => psW_0 h j (by omega) (by omega)⟩
def gTi2 : List (Nat × Say) := [(52, rwithinS)]
theorem gTi2_ok : GamOk Try.prog (gamY gTi2) := gam_ok (gam_cons rwithin_ok gam_nil)
def ptimeS : Say
  | [.int .i64 n] => some (True, .bool (decide (0 ≤ n ∧ n ≤ 1073741824)), none)
  | _ => none
theorem ptime_ok : FOk Try.prog 50 ptimeS := by
  intro xs p r own h hp
  unfold ptimeS at h
  split at h
  case h_2 => cases h
  rename_i n
  simp only [Option.some.injEq, Prod.mk.injEq] at h
  obtain ⟨rfl, rfl, rfl⟩ := h
  refine fun_ok gTi2_ok lawy_mixed y50_eq none ?_ (Nat.le_of_ble_eq_true rfl)
  simp (config := { maxSteps := 9000000 }) only [↓vyD, vyU, binS, SV.go1, SV.go0, mkRow, intsOf, boolsOf, strsOf, chunks, Row.rep, Row.cat, Row.sub, Row.put, Row.len, Row.get, Row.size, Row.flat, bnds, own0, own1, labsL, labsR, SV.labs, argsOf, entFr, SO.ev, St.of, keepSt, getAll, lookN, hasN, SV.cells, SV.one, SV.res1, SV.res0, SV.resP, SV.ok1, SV.ok0, SV.okN, SV.solid, SV.solid1, SV.solid0, SV.flat0, SV.nm, SV.nm1, SV.nm0, SV.noPtr1, SV.noPtr0, Cel.isFresh, fillP, setAt, partV, eqCells, cellEq, gamY, listsOk, tupOf, takeOwn, SV.ret1, resAll, resL, resV, Nat.reduceEqDiff, ↓reduceIte, Nat.reduceAdd, Nat.reduceMul, Nat.reduceLeDiff, Nat.reduceLT, reduceCtorEq, labOk, Int.reduceBEq, Int.reduceBNe, Int.reduceToNat, Int.reduceLE, Int.reduceLT, Int.reduceEq, Nat.reduceDiv, Nat.reduceMod, Nat.reduceSub, Nat.reduceBEq, fitR, fitR1, fitR0, fitRL1, fitRL, y50, gTi2, rwithinS]
def gPe : List (Nat × Say) := [(47, ridS), (48, rgateS), (49, rwinS), (50, ptimeS)]
theorem gPe_ok : GamOk Try.prog (gamY gPe) := gam_ok (gam_cons rid_ok (gam_cons rgate_ok (gam_cons rwin_ok (gam_cons ptime_ok gam_nil))))
def rpeersS : Say
  | [x_l] => (match asP x_l with | some l => some (∀ p ∈ l, p.id.length ≤ 140737488355328, .int .i64 (psE l), none) | _ => none)
  | _ => none
theorem rpeers_ok : FOk Try.prog 12 rpeersS := by
  intro xs p r own h hp
  unfold rpeersS at h
  split at h
  case h_2 => cases h
  rename_i x_l
  split at h
  case h_2 => cases h
  rename_i l h_l
  simp only [Option.some.injEq, Prod.mk.injEq] at h
  obtain ⟨rfl, rfl, rfl⟩ := h
  refine fun_fit (ys := [.rw (.recs 7 (mapP l))]) ?_ ⟨asP_fit h_l, trivial⟩
  clear h_l
  refine fun_ok gPe_ok lawy_mixed y12_eq none ?_ (Nat.le_of_ble_eq_true rfl)
  by_cases h1 : 6 < l.length
  · have hE : psE l = 2 := if_pos h1
    have h1' : (6 : Int) < (l.length : Int) := by omega
    simp (config := { maxSteps := 9000000 }) only [↓vyD, vyU, binS, SV.go1, SV.go0, mkRow, intsOf, boolsOf, strsOf, chunks, Row.rep, Row.cat, Row.sub, Row.put, Row.len, Row.get, Row.size, Row.flat, bnds, own0, own1, labsL, labsR, SV.labs, argsOf, entFr, SO.ev, St.of, keepSt, getAll, lookN, hasN, SV.cells, SV.one, SV.res1, SV.res0, SV.resP, SV.ok1, SV.ok0, SV.okN, SV.solid, SV.solid1, SV.solid0, SV.flat0, SV.nm, SV.nm1, SV.nm0, SV.noPtr1, SV.noPtr0, Cel.isFresh, fillP, setAt, partV, eqCells, cellEq, gamY, listsOk, tupOf, takeOwn, SV.ret1, resAll, resL, resV, Nat.reduceEqDiff, ↓reduceIte, Nat.reduceAdd, Nat.reduceMul, Nat.reduceLeDiff, Nat.reduceLT, reduceCtorEq, labOk, Int.reduceBEq, Int.reduceBNe, Int.reduceToNat, Int.reduceLE, Int.reduceLT, Int.reduceEq, Nat.reduceDiv, Nat.reduceMod, Nat.reduceSub, Nat.reduceBEq, fitR, fitR1, fitR0, fitRL1, fitRL, y12, gPe, ridS, rgateS, rwinS, ptimeS, mapP_len, mapP_labs, List.all_nil, asP_rw, prC, hE, h1', gt_iff_lt]
  have h1' : ¬ (6 : Int) < (l.length : Int) := by omega
  have hE : psE l = psW l l.length 0 := if_neg h1
  simp (config := { maxSteps := 9000000 }) only [↓vyD, vyU, binS, SV.go1, SV.go0, mkRow, intsOf, boolsOf, strsOf, chunks, Row.rep, Row.cat, Row.sub, Row.put, Row.len, Row.get, Row.size, Row.flat, bnds, own0, own1, labsL, labsR, SV.labs, argsOf, entFr, SO.ev, St.of, keepSt, getAll, lookN, hasN, SV.cells, SV.one, SV.res1, SV.res0, SV.resP, SV.ok1, SV.ok0, SV.okN, SV.solid, SV.solid1, SV.solid0, SV.flat0, SV.nm, SV.nm1, SV.nm0, SV.noPtr1, SV.noPtr0, Cel.isFresh, fillP, setAt, partV, eqCells, cellEq, gamY, listsOk, tupOf, takeOwn, SV.ret1, resAll, resL, resV, Nat.reduceEqDiff, ↓reduceIte, Nat.reduceAdd, Nat.reduceMul, Nat.reduceLeDiff, Nat.reduceLT, reduceCtorEq, labOk, Int.reduceBEq, Int.reduceBNe, Int.reduceToNat, Int.reduceLE, Int.reduceLT, Int.reduceEq, Nat.reduceDiv, Nat.reduceMod, Nat.reduceSub, Nat.reduceBEq, fitR, fitR1, fitR0, fitRL1, fitRL, y12, gPe, ridS, rgateS, rwinS, ptimeS, mapP_len, mapP_labs, List.all_nil, asP_rw, prC, hE, h1', gt_iff_lt]
  refine loopG_intro (ι := Nat) (fun i => [(3, .str (pvI l i)), (11, .rw (.recs 7 (mapP l))), (12, .int .i64 l.length), (13, .int .i64 i)]) (fun _ => [])
    (fun i => i ≤ l.length ∧ psW l (l.length - i) i = psW l l.length 0) (fun i => l.length - i) ⟨0, ⟨by omega, rfl⟩, ?_, ?_, ?_⟩ fun i ⟨hi, hw⟩ => ?_
  · simp (config := { maxSteps := 9000000 }) only [↓vyD, vyU, binS, SV.go1, SV.go0, mkRow, intsOf, boolsOf, strsOf, chunks, Row.rep, Row.cat, Row.sub, Row.put, Row.len, Row.get, Row.size, Row.flat, bnds, own0, own1, labsL, labsR, SV.labs, argsOf, entFr, SO.ev, St.of, keepSt, getAll, lookN, hasN, SV.cells, SV.one, SV.res1, SV.res0, SV.resP, SV.ok1, SV.ok0, SV.okN, SV.solid, SV.solid1, SV.solid0, SV.flat0, SV.nm, SV.nm1, SV.nm0, SV.noPtr1, SV.noPtr0, Cel.isFresh, fillP, setAt, partV, eqCells, cellEq, gamY, listsOk, tupOf, takeOwn, SV.ret1, resAll, resL, resV, Nat.reduceEqDiff, ↓reduceIte, Nat.reduceAdd, Nat.reduceMul, Nat.reduceLeDiff, Nat.reduceLT, reduceCtorEq, labOk, Int.reduceBEq, Int.reduceBNe, Int.reduceToNat, Int.reduceLE, Int.reduceLT, Int.reduceEq, Nat.reduceDiv, Nat.reduceMod, Nat.reduceSub, Nat.reduceBEq, fitR, fitR1, fitR0, fitRL1, fitRL, mapP_len, mapP_labs, List.all_nil, asP_rw, prC]
  · simp (config := { maxSteps := 9000000 }) only [↓vyD, vyU, binS, SV.go1, SV.go0, mkRow, intsOf, boolsOf, strsOf, chunks, Row.rep, Row.cat, Row.sub, Row.put, Row.len, Row.get, Row.size, Row.flat, bnds, own0, own1, labsL, labsR, SV.labs, argsOf, entFr, SO.ev, St.of, keepSt, getAll, lookN, hasN, SV.cells, SV.one, SV.res1, SV.res0, SV.resP, SV.ok1, SV.ok0, SV.okN, SV.solid, SV.solid1, SV.solid0, SV.flat0, SV.nm, SV.nm1, SV.nm0, SV.noPtr1, SV.noPtr0, Cel.isFresh, fillP, setAt, partV, eqCells, cellEq, gamY, listsOk, tupOf, takeOwn, SV.ret1, resAll, resL, resV, Nat.reduceEqDiff, ↓reduceIte, Nat.reduceAdd, Nat.reduceMul, Nat.reduceLeDiff, Nat.reduceLT, reduceCtorEq, labOk, Int.reduceBEq, Int.reduceBNe, Int.reduceToNat, Int.reduceLE, Int.reduceLT, Int.reduceEq, Nat.reduceDiv, Nat.reduceMod, Nat.reduceSub, Nat.reduceBEq, fitR, fitR1, fitR0, fitRL1, fitRL, mapP_len, mapP_labs, List.all_nil, asP_rw, prC, pvI, Int.natCast_zero, Int.ofNat_zero]
  · simp (config := { maxSteps := 9000000 }) only [↓vyD, vyU, binS, SV.go1, SV.go0, mkRow, intsOf, boolsOf, strsOf, chunks, Row.rep, Row.cat, Row.sub, Row.put, Row.len, Row.get, Row.size, Row.flat, bnds, own0, own1, labsL, labsR, SV.labs, argsOf, entFr, SO.ev, St.of, keepSt, getAll, lookN, hasN, SV.cells, SV.one, SV.res1, SV.res0, SV.resP, SV.ok1, SV.ok0, SV.okN, SV.solid, SV.solid1, SV.solid0, SV.flat0, SV.nm, SV.nm1, SV.nm0, SV.noPtr1, SV.noPtr0, Cel.isFresh, fillP, setAt, partV, eqCells, cellEq, gamY, listsOk, tupOf, takeOwn, SV.ret1, resAll, resL, resV, Nat.reduceEqDiff, ↓reduceIte, Nat.reduceAdd, Nat.reduceMul, Nat.reduceLeDiff, Nat.reduceLT, reduceCtorEq, labOk, Int.reduceBEq, Int.reduceBNe, Int.reduceToNat, Int.reduceLE, Int.reduceLT, Int.reduceEq, Nat.reduceDiv, Nat.reduceMod, Nat.reduceSub, Nat.reduceBEq, fitR, fitR1, fitR0, fitRL1, fitRL, mapP_len, mapP_labs, List.all_nil, asP_rw, prC]
  rw [← hw]
  by_cases hlt : (i : Int) < (l.length : Int)
  · have hlt' : i < l.length := by omega
    have hi0 : (0 : Int) ≤ (i : Int) := by omega
    have b1 := i64_wrap (show I64 ((i : Int) + 1) by unfold I64; omega)
    have hg := mapP_get hlt'
    have hid : (l.getD i default).id.length ≤ 140737488355328 := hp _ (by rw [List.getD_eq_getElem?_getD, List.getElem?_eq_getElem hlt']; exact List.getElem_mem hlt')
    have hpv : pvI l (i + 1) = (l.getD i default).id := rfl
    have hs : l.length - i = (l.length - (i + 1)) + 1 := by omega
    rw [hs, psW]
    generalize hX : l.getD i default = p at *
    generalize pvI l i = last at *
    obtain ⟨a, b, c, d, e, v, g⟩ := p
    simp only at hid hpv
    unfold p1E
    simp only
    by_cases c1 : isIdB a = true
    case neg =>
      rw [if_neg c1, if_neg (show ¬ (3 : Int) = 0 by decide)]
      have c1' : isIdB a = false := by simpa using c1
      simp (config := { maxSteps := 9000000 }) only [↓vyD, vyU, binS, SV.go1, SV.go0, mkRow, intsOf, boolsOf, strsOf, chunks, Row.rep, Row.cat, Row.sub, Row.put, Row.len, Row.get, Row.size, Row.flat, bnds, own0, own1, labsL, labsR, SV.labs, argsOf, entFr, SO.ev, St.of, keepSt, getAll, lookN, hasN, SV.cells, SV.one, SV.res1, SV.res0, SV.resP, SV.ok1, SV.ok0, SV.okN, SV.solid, SV.solid1, SV.solid0, SV.flat0, SV.nm, SV.nm1, SV.nm0, SV.noPtr1, SV.noPtr0, Cel.isFresh, fillP, setAt, partV, eqCells, cellEq, gamY, listsOk, tupOf, takeOwn, SV.ret1, resAll, resL, resV, Nat.reduceEqDiff, ↓reduceIte, Nat.reduceAdd, Nat.reduceMul, Nat.reduceLeDiff, Nat.reduceLT, reduceCtorEq, labOk, Int.reduceBEq, Int.reduceBNe, Int.reduceToNat, Int.reduceLE, Int.reduceLT, Int.reduceEq, Nat.reduceDiv, Nat.reduceMod, Nat.reduceSub, Nat.reduceBEq, fitR, fitR1, fitR0, fitRL1, fitRL, gPe, ridS, rgateS, rwinS, ptimeS, mapP_len, mapP_labs, List.all_nil, asP_rw, prC, hlt, hi0, hg, hid, c1', Int.toNat_natCast]
    rw [if_pos c1]
    by_cases c2 : gateE b c d = 0
    case neg =>
      rw [if_neg c2, if_neg c2]
      have c2' : (gateE b c d != 0) = true := by simpa using c2
      simp (config := { maxSteps := 9000000 }) only [↓vyD, vyU, binS, SV.go1, SV.go0, mkRow, intsOf, boolsOf, strsOf, chunks, Row.rep, Row.cat, Row.sub, Row.put, Row.len, Row.get, Row.size, Row.flat, bnds, own0, own1, labsL, labsR, SV.labs, argsOf, entFr, SO.ev, St.of, keepSt, getAll, lookN, hasN, SV.cells, SV.one, SV.res1, SV.res0, SV.resP, SV.ok1, SV.ok0, SV.okN, SV.solid, SV.solid1, SV.solid0, SV.flat0, SV.nm, SV.nm1, SV.nm0, SV.noPtr1, SV.noPtr0, Cel.isFresh, fillP, setAt, partV, eqCells, cellEq, gamY, listsOk, tupOf, takeOwn, SV.ret1, resAll, resL, resV, Nat.reduceEqDiff, ↓reduceIte, Nat.reduceAdd, Nat.reduceMul, Nat.reduceLeDiff, Nat.reduceLT, reduceCtorEq, labOk, Int.reduceBEq, Int.reduceBNe, Int.reduceToNat, Int.reduceLE, Int.reduceLT, Int.reduceEq, Nat.reduceDiv, Nat.reduceMod, Nat.reduceSub, Nat.reduceBEq, fitR, fitR1, fitR0, fitRL1, fitRL, gPe, ridS, rgateS, rwinS, ptimeS, mapP_len, mapP_labs, List.all_nil, asP_rw, prC, hlt, hi0, hg, hid, c1, c2', Int.toNat_natCast]
    rw [if_pos c2]
    by_cases c3 : winE e v = 0
    case neg =>
      rw [if_neg c3, if_neg c3]
      have c3' : (winE e v != 0) = true := by simpa using c3
      simp (config := { maxSteps := 9000000 }) only [↓vyD, vyU, binS, SV.go1, SV.go0, mkRow, intsOf, boolsOf, strsOf, chunks, Row.rep, Row.cat, Row.sub, Row.put, Row.len, Row.get, Row.size, Row.flat, bnds, own0, own1, labsL, labsR, SV.labs, argsOf, entFr, SO.ev, St.of, keepSt, getAll, lookN, hasN, SV.cells, SV.one, SV.res1, SV.res0, SV.resP, SV.ok1, SV.ok0, SV.okN, SV.solid, SV.solid1, SV.solid0, SV.flat0, SV.nm, SV.nm1, SV.nm0, SV.noPtr1, SV.noPtr0, Cel.isFresh, fillP, setAt, partV, eqCells, cellEq, gamY, listsOk, tupOf, takeOwn, SV.ret1, resAll, resL, resV, Nat.reduceEqDiff, ↓reduceIte, Nat.reduceAdd, Nat.reduceMul, Nat.reduceLeDiff, Nat.reduceLT, reduceCtorEq, labOk, Int.reduceBEq, Int.reduceBNe, Int.reduceToNat, Int.reduceLE, Int.reduceLT, Int.reduceEq, Nat.reduceDiv, Nat.reduceMod, Nat.reduceSub, Nat.reduceBEq, fitR, fitR1, fitR0, fitRL1, fitRL, gPe, ridS, rgateS, rwinS, ptimeS, mapP_len, mapP_labs, List.all_nil, asP_rw, prC, asI, hlt, hi0, hg, hid, c1, c2, c3', Int.toNat_natCast]
    rw [if_pos c3]
    by_cases c4 : 0 ≤ g ∧ g ≤ 1073741824
    case neg =>
      rw [if_neg c4, if_neg (show ¬ (1 : Int) = 0 by decide)]
      have c4' : decide (0 ≤ g ∧ g ≤ 1073741824) = false := decide_eq_false c4
      simp (config := { maxSteps := 9000000 }) only [↓vyD, vyU, binS, SV.go1, SV.go0, mkRow, intsOf, boolsOf, strsOf, chunks, Row.rep, Row.cat, Row.sub, Row.put, Row.len, Row.get, Row.size, Row.flat, bnds, own0, own1, labsL, labsR, SV.labs, argsOf, entFr, SO.ev, St.of, keepSt, getAll, lookN, hasN, SV.cells, SV.one, SV.res1, SV.res0, SV.resP, SV.ok1, SV.ok0, SV.okN, SV.solid, SV.solid1, SV.solid0, SV.flat0, SV.nm, SV.nm1, SV.nm0, SV.noPtr1, SV.noPtr0, Cel.isFresh, fillP, setAt, partV, eqCells, cellEq, gamY, listsOk, tupOf, takeOwn, SV.ret1, resAll, resL, resV, Nat.reduceEqDiff, ↓reduceIte, Nat.reduceAdd, Nat.reduceMul, Nat.reduceLeDiff, Nat.reduceLT, reduceCtorEq, labOk, Int.reduceBEq, Int.reduceBNe, Int.reduceToNat, Int.reduceLE, Int.reduceLT, Int.reduceEq, Nat.reduceDiv, Nat.reduceMod, Nat.reduceSub, Nat.reduceBEq, fitR, fitR1, fitR0, fitRL1, fitRL, gPe, ridS, rgateS, rwinS, ptimeS, mapP_len, mapP_labs, List.all_nil, asP_rw, prC, asI, hlt, hi0, hg, hid, c1, c2, c3, c4', Int.toNat_natCast]
    rw [if_pos c4]
    have c4' : decide (0 ≤ g ∧ g ≤ 1073741824) = true := decide_eq_true c4
    cases c5 : (Op.bytesLess a last || a == last) with
    | true =>
      rw [if_pos (show true = true from rfl), if_neg (show ¬ (3 : Int) = 0 by decide)]
      simp (config := { maxSteps := 9000000 }) only [↓vyD, vyU, binS, SV.go1, SV.go0, mkRow, intsOf, boolsOf, strsOf, chunks, Row.rep, Row.cat, Row.sub, Row.put, Row.len, Row.get, Row.size, Row.flat, bnds, own0, own1, labsL, labsR, SV.labs, argsOf, entFr, SO.ev, St.of, keepSt, getAll, lookN, hasN, SV.cells, SV.one, SV.res1, SV.res0, SV.resP, SV.ok1, SV.ok0, SV.okN, SV.solid, SV.solid1, SV.solid0, SV.flat0, SV.nm, SV.nm1, SV.nm0, SV.noPtr1, SV.noPtr0, Cel.isFresh, fillP, setAt, partV, eqCells, cellEq, gamY, listsOk, tupOf, takeOwn, SV.ret1, resAll, resL, resV, Nat.reduceEqDiff, ↓reduceIte, Nat.reduceAdd, Nat.reduceMul, Nat.reduceLeDiff, Nat.reduceLT, reduceCtorEq, labOk, Int.reduceBEq, Int.reduceBNe, Int.reduceToNat, Int.reduceLE, Int.reduceLT, Int.reduceEq, Nat.reduceDiv, Nat.reduceMod, Nat.reduceSub, Nat.reduceBEq, fitR, fitR1, fitR0, fitRL1, fitRL, gPe, ridS, rgateS, rwinS, ptimeS, mapP_len, mapP_labs, List.all_nil, asP_rw, prC, asI, hlt, hi0, hg, hid, c1, c2, c3, c4', c5, Int.toNat_natCast]
    | false =>
      rw [if_neg (show ¬ false = true by decide), if_pos (show (0 : Int) = 0 from rfl)]
      simp (config := { maxSteps := 9000000 }) only [↓vyD, vyU, binS, SV.go1, SV.go0, mkRow, intsOf, boolsOf, strsOf, chunks, Row.rep, Row.cat, Row.sub, Row.put, Row.len, Row.get, Row.size, Row.flat, bnds, own0, own1, labsL, labsR, SV.labs, argsOf, entFr, SO.ev, St.of, keepSt, getAll, lookN, hasN, SV.cells, SV.one, SV.res1, SV.res0, SV.resP, SV.ok1, SV.ok0, SV.okN, SV.solid, SV.solid1, SV.solid0, SV.flat0, SV.nm, SV.nm1, SV.nm0, SV.noPtr1, SV.noPtr0, Cel.isFresh, fillP, setAt, partV, eqCells, cellEq, gamY, listsOk, tupOf, takeOwn, SV.ret1, resAll, resL, resV, Nat.reduceEqDiff, ↓reduceIte, Nat.reduceAdd, Nat.reduceMul, Nat.reduceLeDiff, Nat.reduceLT, reduceCtorEq, labOk, Int.reduceBEq, Int.reduceBNe, Int.reduceToNat, Int.reduceLE, Int.reduceLT, Int.reduceEq, Nat.reduceDiv, Nat.reduceMod, Nat.reduceSub, Nat.reduceBEq, fitR, fitR1, fitR0, fitRL1, fitRL, gPe, ridS, rgateS, rwinS, ptimeS, mapP_len, mapP_labs, List.all_nil, asP_rw, prC, asI, hlt, hi0, hg, hid, c1, c2, c3, c4', c5, b1, Int.toNat_natCast]
      exact ⟨i + 1, ⟨⟨by omega, rfl⟩, by omega⟩, hpv.symm, by simp⟩
  · have : i = l.length := by omega
    subst this
    have z : psW l (l.length - l.length) l.length = 0 := by rw [Nat.sub_self]; rfl
    simp (config := { maxSteps := 9000000 }) only [↓vyD, vyU, binS, SV.go1, SV.go0, mkRow, intsOf, boolsOf, strsOf, chunks, Row.rep, Row.cat, Row.sub, Row.put, Row.len, Row.get, Row.size, Row.flat, bnds, own0, own1, labsL, labsR, SV.labs, argsOf, entFr, SO.ev, St.of, keepSt, getAll, lookN, hasN, SV.cells, SV.one, SV.res1, SV.res0, SV.resP, SV.ok1, SV.ok0, SV.okN, SV.solid, SV.solid1, SV.solid0, SV.flat0, SV.nm, SV.nm1, SV.nm0, SV.noPtr1, SV.noPtr0, Cel.isFresh, fillP, setAt, partV, eqCells, cellEq, gamY, listsOk, tupOf, takeOwn, SV.ret1, resAll, resL, resV, Nat.reduceEqDiff, ↓reduceIte, Nat.reduceAdd, Nat.reduceMul, Nat.reduceLeDiff, Nat.reduceLT, reduceCtorEq, labOk, Int.reduceBEq, Int.reduceBNe, Int.reduceToNat, Int.reduceLE, Int.reduceLT, Int.reduceEq, Nat.reduceDiv, Nat.reduceMod, Nat.reduceSub, Nat.reduceBEq, fitR, fitR1, fitR0, fitRL1, fitRL, mapP_len, mapP_labs, List.all_nil, asP_rw, prC, Int.lt_irrefl, z]
/-- The first place, of n from i on, of that name. -/
def fdN (l : List Pr) (id : List UInt8) : Nat → Nat → Int
  | 0, _ => -1
  | n + 1, i => if (l.getD i default).id = id then i else fdN l id n (i + 1)
def rfindS : Say
  | [x_l, .str id] => (match asP x_l with | some l => some (l.length ≤ 1000, .int .i64 (fdN l id l.length 0), none) | _ => none)
  | _ => none
theorem rfind_ok : FOk Try.prog 54 rfindS := by
  intro xs p r own h hp
  unfold rfindS at h
  split at h
  case h_2 => cases h
  rename_i x_l id
  split at h
  case h_2 => cases h
  rename_i l h_l
  simp only [Option.some.injEq, Prod.mk.injEq] at h
  obtain ⟨rfl, rfl, rfl⟩ := h
  refine fun_fit (ys := [.rw (.recs 7 (mapP l)), .str id]) ?_ ⟨asP_fit h_l, fit_refl1 _ (by simp), trivial⟩
  clear h_l
  refine fun_ok (gam_ok gam_nil) lawy_mixed y54_eq none ?_ (Nat.le_of_ble_eq_true rfl)
  simp (config := { maxSteps := 9000000 }) only [↓vyD, vyU, binS, SV.go1, SV.go0, mkRow, intsOf, boolsOf, strsOf, chunks, Row.rep, Row.cat, Row.sub, Row.put, Row.len, Row.get, Row.size, Row.flat, bnds, own0, own1, labsL, labsR, SV.labs, argsOf, entFr, SO.ev, St.of, keepSt, getAll, lookN, hasN, SV.cells, SV.one, SV.res1, SV.res0, SV.resP, SV.ok1, SV.ok0, SV.okN, SV.solid, SV.solid1, SV.solid0, SV.flat0, SV.nm, SV.nm1, SV.nm0, SV.noPtr1, SV.noPtr0, Cel.isFresh, fillP, setAt, partV, eqCells, cellEq, gamY, listsOk, tupOf, takeOwn, SV.ret1, resAll, resL, resV, Nat.reduceEqDiff, ↓reduceIte, Nat.reduceAdd, Nat.reduceMul, Nat.reduceLeDiff, Nat.reduceLT, reduceCtorEq, labOk, Int.reduceBEq, Int.reduceBNe, Int.reduceToNat, Int.reduceLE, Int.reduceLT, Int.reduceEq, Nat.reduceDiv, Nat.reduceMod, Nat.reduceSub, Nat.reduceBEq, fitR, fitR1, fitR0, fitRL1, fitRL, y54, mapP_len, mapP_labs, List.all_nil, asP_rw, prC]
  refine loopG_intro (ι := Nat) (fun i => [(1, .str id), (7, .rw (.recs 7 (mapP l))), (8, .int .i64 l.length), (9, .int .i64 i)]) (fun _ => [])
    (fun i => i ≤ l.length ∧ fdN l id (l.length - i) i = fdN l id l.length 0) (fun i => l.length - i) ⟨0, ⟨by omega, rfl⟩, ?_, ?_, ?_⟩ fun i ⟨hi, hw⟩ => ?_
  · simp (config := { maxSteps := 9000000 }) only [↓vyD, vyU, binS, SV.go1, SV.go0, mkRow, intsOf, boolsOf, strsOf, chunks, Row.rep, Row.cat, Row.sub, Row.put, Row.len, Row.get, Row.size, Row.flat, bnds, own0, own1, labsL, labsR, SV.labs, argsOf, entFr, SO.ev, St.of, keepSt, getAll, lookN, hasN, SV.cells, SV.one, SV.res1, SV.res0, SV.resP, SV.ok1, SV.ok0, SV.okN, SV.solid, SV.solid1, SV.solid0, SV.flat0, SV.nm, SV.nm1, SV.nm0, SV.noPtr1, SV.noPtr0, Cel.isFresh, fillP, setAt, partV, eqCells, cellEq, gamY, listsOk, tupOf, takeOwn, SV.ret1, resAll, resL, resV, Nat.reduceEqDiff, ↓reduceIte, Nat.reduceAdd, Nat.reduceMul, Nat.reduceLeDiff, Nat.reduceLT, reduceCtorEq, labOk, Int.reduceBEq, Int.reduceBNe, Int.reduceToNat, Int.reduceLE, Int.reduceLT, Int.reduceEq, Nat.reduceDiv, Nat.reduceMod, Nat.reduceSub, Nat.reduceBEq, fitR, fitR1, fitR0, fitRL1, fitRL, mapP_len, mapP_labs, List.all_nil, asP_rw, prC]
  · simp (config := { maxSteps := 9000000 }) only [↓vyD, vyU, binS, SV.go1, SV.go0, mkRow, intsOf, boolsOf, strsOf, chunks, Row.rep, Row.cat, Row.sub, Row.put, Row.len, Row.get, Row.size, Row.flat, bnds, own0, own1, labsL, labsR, SV.labs, argsOf, entFr, SO.ev, St.of, keepSt, getAll, lookN, hasN, SV.cells, SV.one, SV.res1, SV.res0, SV.resP, SV.ok1, SV.ok0, SV.okN, SV.solid, SV.solid1, SV.solid0, SV.flat0, SV.nm, SV.nm1, SV.nm0, SV.noPtr1, SV.noPtr0, Cel.isFresh, fillP, setAt, partV, eqCells, cellEq, gamY, listsOk, tupOf, takeOwn, SV.ret1, resAll, resL, resV, Nat.reduceEqDiff, ↓reduceIte, Nat.reduceAdd, Nat.reduceMul, Nat.reduceLeDiff, Nat.reduceLT, reduceCtorEq, labOk, Int.reduceBEq, Int.reduceBNe, Int.reduceToNat, Int.reduceLE, Int.reduceLT, Int.reduceEq, Nat.reduceDiv, Nat.reduceMod, Nat.reduceSub, Nat.reduceBEq, fitR, fitR1, fitR0, fitRL1, fitRL, mapP_len, mapP_labs, List.all_nil, asP_rw, prC, Int.natCast_zero, Int.ofNat_zero]
  · simp (config := { maxSteps := 9000000 }) only [↓vyD, vyU, binS, SV.go1, SV.go0, mkRow, intsOf, boolsOf, strsOf, chunks, Row.rep, Row.cat, Row.sub, Row.put, Row.len, Row.get, Row.size, Row.flat, bnds, own0, own1, labsL, labsR, SV.labs, argsOf, entFr, SO.ev, St.of, keepSt, getAll, lookN, hasN, SV.cells, SV.one, SV.res1, SV.res0, SV.resP, SV.ok1, SV.ok0, SV.okN, SV.solid, SV.solid1, SV.solid0, SV.flat0, SV.nm, SV.nm1, SV.nm0, SV.noPtr1, SV.noPtr0, Cel.isFresh, fillP, setAt, partV, eqCells, cellEq, gamY, listsOk, tupOf, takeOwn, SV.ret1, resAll, resL, resV, Nat.reduceEqDiff, ↓reduceIte, Nat.reduceAdd, Nat.reduceMul, Nat.reduceLeDiff, Nat.reduceLT, reduceCtorEq, labOk, Int.reduceBEq, Int.reduceBNe, Int.reduceToNat, Int.reduceLE, Int.reduceLT, Int.reduceEq, Nat.reduceDiv, Nat.reduceMod, Nat.reduceSub, Nat.reduceBEq, fitR, fitR1, fitR0, fitRL1, fitRL, mapP_len, mapP_labs, List.all_nil, asP_rw, prC]
  rw [← hw]
  by_cases hlt : (i : Int) < (l.length : Int)
  · have hlt' : i < l.length := by omega
    have hi0 : (0 : Int) ≤ (i : Int) := by omega
    have b1 := i64_wrap (show I64 ((i : Int) + 1) by unfold I64; omega)
    have hg := mapP_get hlt'
    have hs : l.length - i = (l.length - (i + 1)) + 1 := by omega
    rw [hs, fdN]
    generalize hX : l.getD i default = p at *
    obtain ⟨a, b, c, d, e, v, g⟩ := p
    simp only
    by_cases c1 : a = id
    · rw [if_pos c1]
      have c1' : (a == id) = true := by simpa using c1
      simp (config := { maxSteps := 9000000 }) only [↓vyD, vyU, binS, SV.go1, SV.go0, mkRow, intsOf, boolsOf, strsOf, chunks, Row.rep, Row.cat, Row.sub, Row.put, Row.len, Row.get, Row.size, Row.flat, bnds, own0, own1, labsL, labsR, SV.labs, argsOf, entFr, SO.ev, St.of, keepSt, getAll, lookN, hasN, SV.cells, SV.one, SV.res1, SV.res0, SV.resP, SV.ok1, SV.ok0, SV.okN, SV.solid, SV.solid1, SV.solid0, SV.flat0, SV.nm, SV.nm1, SV.nm0, SV.noPtr1, SV.noPtr0, Cel.isFresh, fillP, setAt, partV, eqCells, cellEq, gamY, listsOk, tupOf, takeOwn, SV.ret1, resAll, resL, resV, Nat.reduceEqDiff, ↓reduceIte, Nat.reduceAdd, Nat.reduceMul, Nat.reduceLeDiff, Nat.reduceLT, reduceCtorEq, labOk, Int.reduceBEq, Int.reduceBNe, Int.reduceToNat, Int.reduceLE, Int.reduceLT, Int.reduceEq, Nat.reduceDiv, Nat.reduceMod, Nat.reduceSub, Nat.reduceBEq, fitR, fitR1, fitR0, fitRL1, fitRL, mapP_len, mapP_labs, List.all_nil, asP_rw, prC, hlt, hi0, hg, c1', Int.toNat_natCast]
    · rw [if_neg c1]
      have c1' : (a == id) = false := by simpa using c1
      simp (config := { maxSteps := 9000000 }) only [↓vyD, vyU, binS, SV.go1, SV.go0, mkRow, intsOf, boolsOf, strsOf, chunks, Row.rep, Row.cat, Row.sub, Row.put, Row.len, Row.get, Row.size, Row.flat, bnds, own0, own1, labsL, labsR, SV.labs, argsOf, entFr, SO.ev, St.of, keepSt, getAll, lookN, hasN, SV.cells, SV.one, SV.res1, SV.res0, SV.resP, SV.ok1, SV.ok0, SV.okN, SV.solid, SV.solid1, SV.solid0, SV.flat0, SV.nm, SV.nm1, SV.nm0, SV.noPtr1, SV.noPtr0, Cel.isFresh, fillP, setAt, partV, eqCells, cellEq, gamY, listsOk, tupOf, takeOwn, SV.ret1, resAll, resL, resV, Nat.reduceEqDiff, ↓reduceIte, Nat.reduceAdd, Nat.reduceMul, Nat.reduceLeDiff, Nat.reduceLT, reduceCtorEq, labOk, Int.reduceBEq, Int.reduceBNe, Int.reduceToNat, Int.reduceLE, Int.reduceLT, Int.reduceEq, Nat.reduceDiv, Nat.reduceMod, Nat.reduceSub, Nat.reduceBEq, fitR, fitR1, fitR0, fitRL1, fitRL, mapP_len, mapP_labs, List.all_nil, asP_rw, prC, hlt, hi0, hg, c1', b1, Int.toNat_natCast]
      exact ⟨i + 1, ⟨⟨by omega, rfl⟩, by omega⟩, by simp⟩
  · have : i = l.length := by omega
    subst this
    have z : fdN l id (l.length - l.length) l.length = -1 := by rw [Nat.sub_self]; rfl
    simp (config := { maxSteps := 9000000 }) only [↓vyD, vyU, binS, SV.go1, SV.go0, mkRow, intsOf, boolsOf, strsOf, chunks, Row.rep, Row.cat, Row.sub, Row.put, Row.len, Row.get, Row.size, Row.flat, bnds, own0, own1, labsL, labsR, SV.labs, argsOf, entFr, SO.ev, St.of, keepSt, getAll, lookN, hasN, SV.cells, SV.one, SV.res1, SV.res0, SV.resP, SV.ok1, SV.ok0, SV.okN, SV.solid, SV.solid1, SV.solid0, SV.flat0, SV.nm, SV.nm1, SV.nm0, SV.noPtr1, SV.noPtr0, Cel.isFresh, fillP, setAt, partV, eqCells, cellEq, gamY, listsOk, tupOf, takeOwn, SV.ret1, resAll, resL, resV, Nat.reduceEqDiff, ↓reduceIte, Nat.reduceAdd, Nat.reduceMul, Nat.reduceLeDiff, Nat.reduceLT, reduceCtorEq, labOk, Int.reduceBEq, Int.reduceBNe, Int.reduceToNat, Int.reduceLE, Int.reduceLT, Int.reduceEq, Nat.reduceDiv, Nat.reduceMod, Nat.reduceSub, Nat.reduceBEq, fitR, fitR1, fitR0, fitRL1, fitRL, mapP_len, mapP_labs, List.all_nil, asP_rw, prC, Int.lt_irrefl, z]
/-- Are two the same? -/
def gSpr : List (Nat × Say) := [(21, sameS)]
theorem gSpr_ok : GamOk Try.prog (gamY gSpr) := gam_ok (gam_cons same_ok gam_nil)
def smpS : Say
  | [.agg [.str a, .int .i64 b, .int .i64 c, .int .i64 d, .int .i64 e, .rw (.ints .i64 f), .int .i64 g], .agg [.str A, .int .i64 B, .int .i64 C, .int .i64 D, .int .i64 E, .rw (.ints .i64 F), .int .i64 G]] => some (f.length ≤ 4294967296, .bool (decide ((⟨a, b, c, d, e, f, g⟩ : Pr) = ⟨A, B, C, D, E, F, G⟩)), none)
  | _ => none
theorem smp_ok : FOk Try.prog 20 smpS := by
  intro xs p r own h hp
  unfold smpS at h
  split at h
  case h_2 => cases h
  rename_i a b c d e f g A B C D E F G
  simp only [Option.some.injEq, Prod.mk.injEq] at h
  obtain ⟨rfl, rfl, rfl⟩ := h
  refine fun_ok gSpr_ok lawy_mixed y20_eq none ?_ (Nat.le_of_ble_eq_true rfl)
  by_cases h1 : a = A
  case neg =>
    have h1' : (a == A) = false := by simpa using h1
    have hr : decide ((⟨a, b, c, d, e, f, g⟩ : Pr) = ⟨A, B, C, D, E, F, G⟩) = false := decide_eq_false fun h => h1 (congrArg Pr.id h)
    rw [hr]
    simp (config := { maxSteps := 9000000 }) only [↓vyD, vyU, binS, SV.go1, SV.go0, mkRow, intsOf, boolsOf, strsOf, chunks, Row.rep, Row.cat, Row.sub, Row.put, Row.len, Row.get, Row.size, Row.flat, bnds, own0, own1, labsL, labsR, SV.labs, argsOf, entFr, SO.ev, St.of, keepSt, getAll, lookN, hasN, SV.cells, SV.one, SV.res1, SV.res0, SV.resP, SV.ok1, SV.ok0, SV.okN, SV.solid, SV.solid1, SV.solid0, SV.flat0, SV.nm, SV.nm1, SV.nm0, SV.noPtr1, SV.noPtr0, Cel.isFresh, fillP, setAt, partV, eqCells, cellEq, gamY, listsOk, tupOf, takeOwn, SV.ret1, resAll, resL, resV, Nat.reduceEqDiff, ↓reduceIte, Nat.reduceAdd, Nat.reduceMul, Nat.reduceLeDiff, Nat.reduceLT, reduceCtorEq, labOk, Int.reduceBEq, Int.reduceBNe, Int.reduceToNat, Int.reduceLE, Int.reduceLT, Int.reduceEq, Nat.reduceDiv, Nat.reduceMod, Nat.reduceSub, Nat.reduceBEq, fitR, fitR1, fitR0, fitRL1, fitRL, y20, gSpr, sameS, asI, h1']
  subst h1
  have h1' : (a == a) = true := by simp
  by_cases h2 : b = B ∧ c = C ∧ d = D
  case neg =>
    have h2' : ((b == B) && ((c == C) && (d == D))) = false := by
      cases hh : ((b == B) && ((c == C) && (d == D))) with
      | false => rfl
      | true =>
        simp only [Bool.and_eq_true, beq_iff_eq] at hh
        exact absurd hh h2
    have hr : decide ((⟨a, b, c, d, e, f, g⟩ : Pr) = ⟨a, B, C, D, E, F, G⟩) = false := decide_eq_false fun h => h2 ⟨congrArg Pr.inc h, congrArg Pr.seq h, congrArg Pr.drops h⟩
    rw [hr]
    simp (config := { maxSteps := 9000000 }) only [↓vyD, vyU, binS, SV.go1, SV.go0, mkRow, intsOf, boolsOf, strsOf, chunks, Row.rep, Row.cat, Row.sub, Row.put, Row.len, Row.get, Row.size, Row.flat, bnds, own0, own1, labsL, labsR, SV.labs, argsOf, entFr, SO.ev, St.of, keepSt, getAll, lookN, hasN, SV.cells, SV.one, SV.res1, SV.res0, SV.resP, SV.ok1, SV.ok0, SV.okN, SV.solid, SV.solid1, SV.solid0, SV.flat0, SV.nm, SV.nm1, SV.nm0, SV.noPtr1, SV.noPtr0, Cel.isFresh, fillP, setAt, partV, eqCells, cellEq, gamY, listsOk, tupOf, takeOwn, SV.ret1, resAll, resL, resV, Nat.reduceEqDiff, ↓reduceIte, Nat.reduceAdd, Nat.reduceMul, Nat.reduceLeDiff, Nat.reduceLT, reduceCtorEq, labOk, Int.reduceBEq, Int.reduceBNe, Int.reduceToNat, Int.reduceLE, Int.reduceLT, Int.reduceEq, Nat.reduceDiv, Nat.reduceMod, Nat.reduceSub, Nat.reduceBEq, fitR, fitR1, fitR0, fitRL1, fitRL, y20, gSpr, sameS, asI, h1', h2', Bool.and_true]
  obtain ⟨rfl, rfl, rfl⟩ := h2
  by_cases h3 : e = E ∧ f = F
  case neg =>
    have h3' : decide (e = E ∧ f = F) = false := decide_eq_false h3
    have hr : decide ((⟨a, b, c, d, e, f, g⟩ : Pr) = ⟨a, b, c, d, E, F, G⟩) = false := decide_eq_false fun h => h3 ⟨congrArg Pr.cap h, congrArg Pr.vals h⟩
    rw [hr]
    simp (config := { maxSteps := 9000000 }) only [↓vyD, vyU, binS, SV.go1, SV.go0, mkRow, intsOf, boolsOf, strsOf, chunks, Row.rep, Row.cat, Row.sub, Row.put, Row.len, Row.get, Row.size, Row.flat, bnds, own0, own1, labsL, labsR, SV.labs, argsOf, entFr, SO.ev, St.of, keepSt, getAll, lookN, hasN, SV.cells, SV.one, SV.res1, SV.res0, SV.resP, SV.ok1, SV.ok0, SV.okN, SV.solid, SV.solid1, SV.solid0, SV.flat0, SV.nm, SV.nm1, SV.nm0, SV.noPtr1, SV.noPtr0, Cel.isFresh, fillP, setAt, partV, eqCells, cellEq, gamY, listsOk, tupOf, takeOwn, SV.ret1, resAll, resL, resV, Nat.reduceEqDiff, ↓reduceIte, Nat.reduceAdd, Nat.reduceMul, Nat.reduceLeDiff, Nat.reduceLT, reduceCtorEq, labOk, Int.reduceBEq, Int.reduceBNe, Int.reduceToNat, Int.reduceLE, Int.reduceLT, Int.reduceEq, Nat.reduceDiv, Nat.reduceMod, Nat.reduceSub, Nat.reduceBEq, fitR, fitR1, fitR0, fitRL1, fitRL, y20, gSpr, sameS, asI, h1', hp, h3', Bool.and_true]
  obtain ⟨rfl, rfl⟩ := h3
  have h3' : decide (e = e ∧ f = f) = true := by simp
  have hr : decide ((⟨a, b, c, d, e, f, g⟩ : Pr) = ⟨a, b, c, d, e, f, G⟩) = (g == G) := by
    by_cases h : g = G
    · subst h; simp
    · rw [decide_eq_false (fun hh => h (congrArg Pr.last hh))]; exact (beq_eq_false_iff_ne.2 h).symm
  rw [hr]
  simp (config := { maxSteps := 9000000 }) only [↓vyD, vyU, binS, SV.go1, SV.go0, mkRow, intsOf, boolsOf, strsOf, chunks, Row.rep, Row.cat, Row.sub, Row.put, Row.len, Row.get, Row.size, Row.flat, bnds, own0, own1, labsL, labsR, SV.labs, argsOf, entFr, SO.ev, St.of, keepSt, getAll, lookN, hasN, SV.cells, SV.one, SV.res1, SV.res0, SV.resP, SV.ok1, SV.ok0, SV.okN, SV.solid, SV.solid1, SV.solid0, SV.flat0, SV.nm, SV.nm1, SV.nm0, SV.noPtr1, SV.noPtr0, Cel.isFresh, fillP, setAt, partV, eqCells, cellEq, gamY, listsOk, tupOf, takeOwn, SV.ret1, resAll, resL, resV, Nat.reduceEqDiff, ↓reduceIte, Nat.reduceAdd, Nat.reduceMul, Nat.reduceLeDiff, Nat.reduceLT, reduceCtorEq, labOk, Int.reduceBEq, Int.reduceBNe, Int.reduceToNat, Int.reduceLE, Int.reduceLT, Int.reduceEq, Nat.reduceDiv, Nat.reduceMod, Nat.reduceSub, Nat.reduceBEq, fitR, fitR1, fitR0, fitRL1, fitRL, y20, gSpr, sameS, asI, h1', hp, h3', Bool.and_true]
def gEq : List (Nat × Say) := [(20, smpS)]
theorem gEq_ok : GamOk Try.prog (gamY gEq) := gam_ok (gam_cons smp_ok gam_nil)
def peqS : Say
  | [x, y, .clo f []] => if f = 20 then (match asP x, asP y with | some l, some m => some (l.length ≤ 1000 ∧ (∀ p ∈ l, p.vals.length ≤ 4294967296), .bool (decide (l = m)), none) | _, _ => none) else none
  | _ => none
theorem peq_loop {l m : List Pr} {i : Nat} (h1 : i < l.length) (h2 : i < m.length) (h : l.take i = m.take i) : l.take (i + 1) = m.take (i + 1) ↔ l.getD i default = m.getD i default := by
  have e1 : l.take (i + 1) = l.take i ++ [l.getD i default] := by rw [List.take_add_one, List.getElem?_eq_getElem h1, List.getD_eq_getElem?_getD, List.getElem?_eq_getElem h1]; rfl
  have e2 : m.take (i + 1) = m.take i ++ [m.getD i default] := by rw [List.take_add_one, List.getElem?_eq_getElem h2, List.getD_eq_getElem?_getD, List.getElem?_eq_getElem h2]; rfl
  rw [e1, e2, h]
  constructor
  · intro hh
    have := List.append_cancel_left hh
    simpa using this
  · intro hh; rw [hh]
theorem peq_in (l m : List Pr) (hp : l.length ≤ 1000 ∧ ∀ p ∈ l, p.vals.length ≤ 4294967296) : vcFun (gamY gEq) y55 [.rw (.recs 7 (mapP l)), .rw (.recs 7 (mapP m)), .clo 20 []] none fun v o => fitR v (.bool (decide (l = m))) ∧ o = none := by
  by_cases hlm : (l.length : Int) = (m.length : Int)
  case neg =>
    have h' : ((l.length : Int) != (m.length : Int)) = true := by simpa using hlm
    have hr : decide (l = m) = false := decide_eq_false fun h => hlm (by rw [h])
    rw [hr]
    simp (config := { maxSteps := 9000000 }) only [↓vyD, vyU, binS, SV.go1, SV.go0, mkRow, intsOf, boolsOf, strsOf, chunks, Row.rep, Row.cat, Row.sub, Row.put, Row.len, Row.get, Row.size, Row.flat, bnds, own0, own1, labsL, labsR, SV.labs, argsOf, entFr, SO.ev, St.of, keepSt, getAll, lookN, hasN, SV.cells, SV.one, SV.res1, SV.res0, SV.resP, SV.ok1, SV.ok0, SV.okN, SV.solid, SV.solid1, SV.solid0, SV.flat0, SV.nm, SV.nm1, SV.nm0, SV.noPtr1, SV.noPtr0, Cel.isFresh, fillP, setAt, partV, eqCells, cellEq, gamY, listsOk, tupOf, takeOwn, SV.ret1, resAll, resL, resV, Nat.reduceEqDiff, ↓reduceIte, Nat.reduceAdd, Nat.reduceMul, Nat.reduceLeDiff, Nat.reduceLT, reduceCtorEq, labOk, Int.reduceBEq, Int.reduceBNe, Int.reduceToNat, Int.reduceLE, Int.reduceLT, Int.reduceEq, Nat.reduceDiv, Nat.reduceMod, Nat.reduceSub, Nat.reduceBEq, fitR, fitR1, fitR0, fitRL1, fitRL, y55, gEq, smpS, mapP_len, mapP_labs, List.all_nil, asP_rw, prC, h']
  have h' : ((l.length : Int) != (m.length : Int)) = false := by simpa using hlm
  have hlm' : l.length = m.length := by omega
  simp (config := { maxSteps := 9000000 }) only [↓vyD, vyU, binS, SV.go1, SV.go0, mkRow, intsOf, boolsOf, strsOf, chunks, Row.rep, Row.cat, Row.sub, Row.put, Row.len, Row.get, Row.size, Row.flat, bnds, own0, own1, labsL, labsR, SV.labs, argsOf, entFr, SO.ev, St.of, keepSt, getAll, lookN, hasN, SV.cells, SV.one, SV.res1, SV.res0, SV.resP, SV.ok1, SV.ok0, SV.okN, SV.solid, SV.solid1, SV.solid0, SV.flat0, SV.nm, SV.nm1, SV.nm0, SV.noPtr1, SV.noPtr0, Cel.isFresh, fillP, setAt, partV, eqCells, cellEq, gamY, listsOk, tupOf, takeOwn, SV.ret1, resAll, resL, resV, Nat.reduceEqDiff, ↓reduceIte, Nat.reduceAdd, Nat.reduceMul, Nat.reduceLeDiff, Nat.reduceLT, reduceCtorEq, labOk, Int.reduceBEq, Int.reduceBNe, Int.reduceToNat, Int.reduceLE, Int.reduceLT, Int.reduceEq, Nat.reduceDiv, Nat.reduceMod, Nat.reduceSub, Nat.reduceBEq, fitR, fitR1, fitR0, fitRL1, fitRL, y55, gEq, smpS, mapP_len, mapP_labs, List.all_nil, asP_rw, prC, h']
  refine loopG_intro (ι := Nat) (fun i => [(1, .rw (.recs 7 (mapP m))), (2, .clo 20 []), (15, .rw (.recs 7 (mapP l))), (16, .int .i64 l.length), (17, .int .i64 i)]) (fun _ => [])
    (fun i => i ≤ l.length ∧ l.take i = m.take i) (fun i => l.length - i) ⟨0, ⟨by omega, rfl⟩, ?_, ?_, ?_⟩ fun i ⟨hi, hw⟩ => ?_
  · simp (config := { maxSteps := 9000000 }) only [↓vyD, vyU, binS, SV.go1, SV.go0, mkRow, intsOf, boolsOf, strsOf, chunks, Row.rep, Row.cat, Row.sub, Row.put, Row.len, Row.get, Row.size, Row.flat, bnds, own0, own1, labsL, labsR, SV.labs, argsOf, entFr, SO.ev, St.of, keepSt, getAll, lookN, hasN, SV.cells, SV.one, SV.res1, SV.res0, SV.resP, SV.ok1, SV.ok0, SV.okN, SV.solid, SV.solid1, SV.solid0, SV.flat0, SV.nm, SV.nm1, SV.nm0, SV.noPtr1, SV.noPtr0, Cel.isFresh, fillP, setAt, partV, eqCells, cellEq, gamY, listsOk, tupOf, takeOwn, SV.ret1, resAll, resL, resV, Nat.reduceEqDiff, ↓reduceIte, Nat.reduceAdd, Nat.reduceMul, Nat.reduceLeDiff, Nat.reduceLT, reduceCtorEq, labOk, Int.reduceBEq, Int.reduceBNe, Int.reduceToNat, Int.reduceLE, Int.reduceLT, Int.reduceEq, Nat.reduceDiv, Nat.reduceMod, Nat.reduceSub, Nat.reduceBEq, fitR, fitR1, fitR0, fitRL1, fitRL, mapP_len, mapP_labs, List.all_nil, asP_rw, prC]
  · simp (config := { maxSteps := 9000000 }) only [↓vyD, vyU, binS, SV.go1, SV.go0, mkRow, intsOf, boolsOf, strsOf, chunks, Row.rep, Row.cat, Row.sub, Row.put, Row.len, Row.get, Row.size, Row.flat, bnds, own0, own1, labsL, labsR, SV.labs, argsOf, entFr, SO.ev, St.of, keepSt, getAll, lookN, hasN, SV.cells, SV.one, SV.res1, SV.res0, SV.resP, SV.ok1, SV.ok0, SV.okN, SV.solid, SV.solid1, SV.solid0, SV.flat0, SV.nm, SV.nm1, SV.nm0, SV.noPtr1, SV.noPtr0, Cel.isFresh, fillP, setAt, partV, eqCells, cellEq, gamY, listsOk, tupOf, takeOwn, SV.ret1, resAll, resL, resV, Nat.reduceEqDiff, ↓reduceIte, Nat.reduceAdd, Nat.reduceMul, Nat.reduceLeDiff, Nat.reduceLT, reduceCtorEq, labOk, Int.reduceBEq, Int.reduceBNe, Int.reduceToNat, Int.reduceLE, Int.reduceLT, Int.reduceEq, Nat.reduceDiv, Nat.reduceMod, Nat.reduceSub, Nat.reduceBEq, fitR, fitR1, fitR0, fitRL1, fitRL, mapP_len, mapP_labs, List.all_nil, asP_rw, prC, Int.natCast_zero, Int.ofNat_zero]
  · simp (config := { maxSteps := 9000000 }) only [↓vyD, vyU, binS, SV.go1, SV.go0, mkRow, intsOf, boolsOf, strsOf, chunks, Row.rep, Row.cat, Row.sub, Row.put, Row.len, Row.get, Row.size, Row.flat, bnds, own0, own1, labsL, labsR, SV.labs, argsOf, entFr, SO.ev, St.of, keepSt, getAll, lookN, hasN, SV.cells, SV.one, SV.res1, SV.res0, SV.resP, SV.ok1, SV.ok0, SV.okN, SV.solid, SV.solid1, SV.solid0, SV.flat0, SV.nm, SV.nm1, SV.nm0, SV.noPtr1, SV.noPtr0, Cel.isFresh, fillP, setAt, partV, eqCells, cellEq, gamY, listsOk, tupOf, takeOwn, SV.ret1, resAll, resL, resV, Nat.reduceEqDiff, ↓reduceIte, Nat.reduceAdd, Nat.reduceMul, Nat.reduceLeDiff, Nat.reduceLT, reduceCtorEq, labOk, Int.reduceBEq, Int.reduceBNe, Int.reduceToNat, Int.reduceLE, Int.reduceLT, Int.reduceEq, Nat.reduceDiv, Nat.reduceMod, Nat.reduceSub, Nat.reduceBEq, fitR, fitR1, fitR0, fitRL1, fitRL, mapP_len, mapP_labs, List.all_nil, asP_rw, prC]
  by_cases hlt : (i : Int) < (l.length : Int)
  · have hlt' : i < l.length := by omega
    have hlt2 : i < m.length := by omega
    have hlt3 : (i : Int) < (m.length : Int) := by omega
    have hi0 : (0 : Int) ≤ (i : Int) := by omega
    have b1 := i64_wrap (show I64 ((i : Int) + 1) by unfold I64; omega)
    have hg := mapP_get hlt'
    have hg2 := mapP_get hlt2
    have hq := peq_loop hlt' hlt2 hw
    have hv : (l.getD i default).vals.length ≤ 4294967296 := hp.2 _ (by rw [List.getD_eq_getElem?_getD, List.getElem?_eq_getElem hlt']; exact List.getElem_mem hlt')
    have hne : ¬ l.getD i default = m.getD i default → l ≠ m := fun h he => h (by rw [he])
    generalize hX : l.getD i default = p at *
    generalize hY : m.getD i default = q at *
    obtain ⟨a, b, c, d, e, f, g⟩ := p
    obtain ⟨A, B, C, D, E, F, G⟩ := q
    simp only at hv
    by_cases hpq : (⟨a, b, c, d, e, f, g⟩ : Pr) = ⟨A, B, C, D, E, F, G⟩
    · have hd : decide ((⟨a, b, c, d, e, f, g⟩ : Pr) = ⟨A, B, C, D, E, F, G⟩) = true := decide_eq_true hpq
      simp (config := { maxSteps := 9000000 }) only [↓vyD, vyU, binS, SV.go1, SV.go0, mkRow, intsOf, boolsOf, strsOf, chunks, Row.rep, Row.cat, Row.sub, Row.put, Row.len, Row.get, Row.size, Row.flat, bnds, own0, own1, labsL, labsR, SV.labs, argsOf, entFr, SO.ev, St.of, keepSt, getAll, lookN, hasN, SV.cells, SV.one, SV.res1, SV.res0, SV.resP, SV.ok1, SV.ok0, SV.okN, SV.solid, SV.solid1, SV.solid0, SV.flat0, SV.nm, SV.nm1, SV.nm0, SV.noPtr1, SV.noPtr0, Cel.isFresh, fillP, setAt, partV, eqCells, cellEq, gamY, listsOk, tupOf, takeOwn, SV.ret1, resAll, resL, resV, Nat.reduceEqDiff, ↓reduceIte, Nat.reduceAdd, Nat.reduceMul, Nat.reduceLeDiff, Nat.reduceLT, reduceCtorEq, labOk, Int.reduceBEq, Int.reduceBNe, Int.reduceToNat, Int.reduceLE, Int.reduceLT, Int.reduceEq, Nat.reduceDiv, Nat.reduceMod, Nat.reduceSub, Nat.reduceBEq, fitR, fitR1, fitR0, fitRL1, fitRL, gEq, smpS, mapP_len, mapP_labs, List.all_nil, asP_rw, prC, hlt, hlt3, hi0, hg, hg2, hv, hd, b1, Int.toNat_natCast]
      exact ⟨i + 1, ⟨⟨by omega, hq.2 hpq⟩, by omega⟩, by simp⟩
    · have hd : decide ((⟨a, b, c, d, e, f, g⟩ : Pr) = ⟨A, B, C, D, E, F, G⟩) = false := decide_eq_false hpq
      have hr : decide (l = m) = false := decide_eq_false (hne hpq)
      rw [hr]
      simp (config := { maxSteps := 9000000 }) only [↓vyD, vyU, binS, SV.go1, SV.go0, mkRow, intsOf, boolsOf, strsOf, chunks, Row.rep, Row.cat, Row.sub, Row.put, Row.len, Row.get, Row.size, Row.flat, bnds, own0, own1, labsL, labsR, SV.labs, argsOf, entFr, SO.ev, St.of, keepSt, getAll, lookN, hasN, SV.cells, SV.one, SV.res1, SV.res0, SV.resP, SV.ok1, SV.ok0, SV.okN, SV.solid, SV.solid1, SV.solid0, SV.flat0, SV.nm, SV.nm1, SV.nm0, SV.noPtr1, SV.noPtr0, Cel.isFresh, fillP, setAt, partV, eqCells, cellEq, gamY, listsOk, tupOf, takeOwn, SV.ret1, resAll, resL, resV, Nat.reduceEqDiff, ↓reduceIte, Nat.reduceAdd, Nat.reduceMul, Nat.reduceLeDiff, Nat.reduceLT, reduceCtorEq, labOk, Int.reduceBEq, Int.reduceBNe, Int.reduceToNat, Int.reduceLE, Int.reduceLT, Int.reduceEq, Nat.reduceDiv, Nat.reduceMod, Nat.reduceSub, Nat.reduceBEq, fitR, fitR1, fitR0, fitRL1, fitRL, gEq, smpS, mapP_len, mapP_labs, List.all_nil, asP_rw, prC, hlt, hlt3, hi0, hg, hg2, hv, hd, Int.toNat_natCast]
  · have : i = l.length := by omega
    subst this
    have hr : decide (l = m) = true := by
      rw [List.take_length, hlm', List.take_length] at hw
      exact decide_eq_true hw
    rw [hr]
    simp (config := { maxSteps := 9000000 }) only [↓vyD, vyU, binS, SV.go1, SV.go0, mkRow, intsOf, boolsOf, strsOf, chunks, Row.rep, Row.cat, Row.sub, Row.put, Row.len, Row.get, Row.size, Row.flat, bnds, own0, own1, labsL, labsR, SV.labs, argsOf, entFr, SO.ev, St.of, keepSt, getAll, lookN, hasN, SV.cells, SV.one, SV.res1, SV.res0, SV.resP, SV.ok1, SV.ok0, SV.okN, SV.solid, SV.solid1, SV.solid0, SV.flat0, SV.nm, SV.nm1, SV.nm0, SV.noPtr1, SV.noPtr0, Cel.isFresh, fillP, setAt, partV, eqCells, cellEq, gamY, listsOk, tupOf, takeOwn, SV.ret1, resAll, resL, resV, Nat.reduceEqDiff, ↓reduceIte, Nat.reduceAdd, Nat.reduceMul, Nat.reduceLeDiff, Nat.reduceLT, reduceCtorEq, labOk, Int.reduceBEq, Int.reduceBNe, Int.reduceToNat, Int.reduceLE, Int.reduceLT, Int.reduceEq, Nat.reduceDiv, Nat.reduceMod, Nat.reduceSub, Nat.reduceBEq, fitR, fitR1, fitR0, fitRL1, fitRL, mapP_len, mapP_labs, List.all_nil, asP_rw, prC, Int.lt_irrefl]
theorem peq_ok : FOk Try.prog 55 peqS := by
  intro xs p r own h hp
  unfold peqS at h
  split at h
  case h_2 => cases h
  rename_i x y f
  split at h
  case isFalse => cases h
  rename_i hf
  subst hf
  split at h
  case h_2 => cases h
  rename_i l m hx hy
  simp only [Option.some.injEq, Prod.mk.injEq] at h
  obtain ⟨rfl, rfl, rfl⟩ := h
  refine fun_fit (ys := [.rw (.recs 7 (mapP l)), .rw (.recs 7 (mapP m)), .clo 20 []]) ?_ ⟨asP_fit hx, asP_fit hy, fit_refl1 _ (by simp), trivial⟩
  exact fun_ok gEq_ok lawy_mixed y55_eq none (peq_in l m hp) (Nat.le_of_ble_eq_true rfl)
def gSm2 : List (Nat × Say) := [(55, peqS)]
theorem gSm2_ok : GamOk Try.prog (gamY gSm2) := gam_ok (gam_cons peq_ok gam_nil)
def smpsS : Say
  | [x_l, x_m] => (match asP x_l, asP x_m with | some l, some m => some (l.length ≤ 1000 ∧ (∀ p ∈ l, p.vals.length ≤ 4294967296), .bool (decide (l = m)), none) | _, _ => none)
  | _ => none
theorem smps_ok : FOk Try.prog 16 smpsS := by
  intro xs p r own h hp
  unfold smpsS at h
  split at h
  case h_2 => cases h
  rename_i x_l x_m
  split at h
  case h_2 => cases h
  rename_i l m h_l h_m
  simp only [Option.some.injEq, Prod.mk.injEq] at h
  obtain ⟨rfl, rfl, rfl⟩ := h
  refine fun_fit (ys := [.rw (.recs 7 (mapP l)), .rw (.recs 7 (mapP m))]) ?_ ⟨asP_fit h_l, asP_fit h_m, trivial⟩
  clear h_l h_m
  refine fun_ok gSm2_ok lawy_mixed y16_eq none ?_ (Nat.le_of_ble_eq_true rfl)
  simp (config := { maxSteps := 9000000 }) only [↓vyD, vyU, binS, SV.go1, SV.go0, mkRow, intsOf, boolsOf, strsOf, chunks, Row.rep, Row.cat, Row.sub, Row.put, Row.len, Row.get, Row.size, Row.flat, bnds, own0, own1, labsL, labsR, SV.labs, argsOf, entFr, SO.ev, St.of, keepSt, getAll, lookN, hasN, SV.cells, SV.one, SV.res1, SV.res0, SV.resP, SV.ok1, SV.ok0, SV.okN, SV.solid, SV.solid1, SV.solid0, SV.flat0, SV.nm, SV.nm1, SV.nm0, SV.noPtr1, SV.noPtr0, Cel.isFresh, fillP, setAt, partV, eqCells, cellEq, gamY, listsOk, tupOf, takeOwn, SV.ret1, resAll, resL, resV, Nat.reduceEqDiff, ↓reduceIte, Nat.reduceAdd, Nat.reduceMul, Nat.reduceLeDiff, Nat.reduceLT, reduceCtorEq, labOk, Int.reduceBEq, Int.reduceBNe, Int.reduceToNat, Int.reduceLE, Int.reduceLT, Int.reduceEq, Nat.reduceDiv, Nat.reduceMod, Nat.reduceSub, Nat.reduceBEq, fitR, fitR1, fitR0, fitRL1, fitRL, y16, gSm2, peqS, mapP_len, mapP_labs, List.all_nil, asP_rw, prC, hp.1]
  exact hp.2
/-- The place of a name: the first one, of n from i on, that is no less. -/
def atP (l : List Pr) (id : List UInt8) : Nat → Nat → Nat
  | 0, i => i
  | n + 1, i => if Op.bytesLess (l.getD i default).id id = true then atP l id n (i + 1) else i
theorem atP_le (l : List Pr) (id : List UInt8) : ∀ n i, i ≤ atP l id n i ∧ atP l id n i ≤ i + n
  | 0, i => by simp [atP]
  | n + 1, i => by
    rw [atP]
    have := atP_le l id n (i + 1)
    split <;> omega
/-- P50's errors behind those of Check. -/
def adE (l : List Pr) (id : List UInt8) (size first now : Int) : Int := if isIdB id = true then (if 1 ≤ size ∧ size ≤ 64 then (if valB first = true then (if 0 ≤ now ∧ now ≤ 1073741824 then (if 0 ≤ fdN l id l.length 0 then 5 else if 5 < l.length then 10 else 0) else 1) else 1) else 1) else 3
def adL (l : List Pr) (id : List UInt8) (size first now : Int) : List Pr := l.take (atP l id l.length 0) ++ [⟨id, 0, 0, 0, size, [first], now⟩] ++ l.drop (atP l id l.length 0)
def adR (l : List Pr) (id : List UInt8) (size first now : Int) : List Pr := if adE l id size first now = 0 then adL l id size first now else []
def gAd : List (Nat × Say) := [(47, ridS), (52, rwithinS), (53, rvalS), (50, ptimeS), (54, rfindS), (46, pcatS)]
theorem gAd_ok : GamOk Try.prog (gamY gAd) := gam_ok (gam_cons rid_ok (gam_cons rwithin_ok (gam_cons rval_ok (gam_cons ptime_ok (gam_cons rfind_ok (gam_cons pcat_ok gam_nil))))))
def raddS : Say
  | [x_l, .str id, .int .i64 size, .int .i64 first, .int .i64 now] => (match asP x_l with | some l => some (l.length ≤ 6 ∧ id.length ≤ 140737488355328, .tup [.rw (.recs 7 (mapP (adR l id size first now))), .int .i64 (adE l id size first now)], none) | _ => none)
  | _ => none
theorem radd_ok : FOk Try.prog 14 raddS := by
  intro xs p r own h hp
  unfold raddS at h
  split at h
  case h_2 => cases h
  rename_i x_l id size first now
  split at h
  case h_2 => cases h
  rename_i l h_l
  simp only [Option.some.injEq, Prod.mk.injEq] at h
  obtain ⟨rfl, rfl, rfl⟩ := h
  refine fun_fit (ys := [.rw (.recs 7 (mapP l)), .str id, .int .i64 size, .int .i64 first, .int .i64 now]) ?_ ⟨asP_fit h_l, fit_refl1 _ (by simp), fit_refl1 _ (by simp), fit_refl1 _ (by simp), fit_refl1 _ (by simp), trivial⟩
  clear h_l
  refine fun_ok gAd_ok lawy_mixed y14_eq none ?_ (Nat.le_of_ble_eq_true rfl)
  obtain ⟨hl, hid⟩ := hp
  have hl2 : l.length ≤ 1000 := by omega
  by_cases c1 : isIdB id = true
  case neg =>
    have hE : adE l id size first now = 3 := if_neg c1
    have hR : adR l id size first now = [] := if_neg (by omega)
    have c1' : isIdB id = false := by simpa using c1
    simp (config := { maxSteps := 9000000 }) only [↓vyD, vyU, binS, SV.go1, SV.go0, mkRow, intsOf, boolsOf, strsOf, chunks, Row.rep, Row.cat, Row.sub, Row.put, Row.len, Row.get, Row.size, Row.flat, bnds, own0, own1, labsL, labsR, SV.labs, argsOf, entFr, SO.ev, St.of, keepSt, getAll, lookN, hasN, SV.cells, SV.one, SV.res1, SV.res0, SV.resP, SV.ok1, SV.ok0, SV.okN, SV.solid, SV.solid1, SV.solid0, SV.flat0, SV.nm, SV.nm1, SV.nm0, SV.noPtr1, SV.noPtr0, Cel.isFresh, fillP, setAt, partV, eqCells, cellEq, gamY, listsOk, tupOf, takeOwn, SV.ret1, resAll, resL, resV, Nat.reduceEqDiff, ↓reduceIte, Nat.reduceAdd, Nat.reduceMul, Nat.reduceLeDiff, Nat.reduceLT, reduceCtorEq, labOk, Int.reduceBEq, Int.reduceBNe, Int.reduceToNat, Int.reduceLE, Int.reduceLT, Int.reduceEq, Nat.reduceDiv, Nat.reduceMod, Nat.reduceSub, Nat.reduceBEq, fitR, fitR1, fitR0, fitRL1, fitRL, y14, gAd, ridS, rwithinS, rvalS, ptimeS, rfindS, pcatS, mapP_len, mapP_labs, List.all_nil, asP_rw, prC, hE, hR, hid, c1', mapP_nil, labsLL, eq_self]
  by_cases c2 : 1 ≤ size ∧ size ≤ 64
  case neg =>
    have hE : adE l id size first now = 1 := by rw [adE, if_pos c1, if_neg c2]
    have hR : adR l id size first now = [] := if_neg (by omega)
    have c2' : decide (1 ≤ size ∧ size ≤ 64) = false := decide_eq_false c2
    simp (config := { maxSteps := 9000000 }) only [↓vyD, vyU, binS, SV.go1, SV.go0, mkRow, intsOf, boolsOf, strsOf, chunks, Row.rep, Row.cat, Row.sub, Row.put, Row.len, Row.get, Row.size, Row.flat, bnds, own0, own1, labsL, labsR, SV.labs, argsOf, entFr, SO.ev, St.of, keepSt, getAll, lookN, hasN, SV.cells, SV.one, SV.res1, SV.res0, SV.resP, SV.ok1, SV.ok0, SV.okN, SV.solid, SV.solid1, SV.solid0, SV.flat0, SV.nm, SV.nm1, SV.nm0, SV.noPtr1, SV.noPtr0, Cel.isFresh, fillP, setAt, partV, eqCells, cellEq, gamY, listsOk, tupOf, takeOwn, SV.ret1, resAll, resL, resV, Nat.reduceEqDiff, ↓reduceIte, Nat.reduceAdd, Nat.reduceMul, Nat.reduceLeDiff, Nat.reduceLT, reduceCtorEq, labOk, Int.reduceBEq, Int.reduceBNe, Int.reduceToNat, Int.reduceLE, Int.reduceLT, Int.reduceEq, Nat.reduceDiv, Nat.reduceMod, Nat.reduceSub, Nat.reduceBEq, fitR, fitR1, fitR0, fitRL1, fitRL, y14, gAd, ridS, rwithinS, rvalS, ptimeS, rfindS, pcatS, mapP_len, mapP_labs, List.all_nil, asP_rw, prC, hE, hR, hid, c1, c2', mapP_nil, labsLL, eq_self]
  have c2' : decide (1 ≤ size ∧ size ≤ 64) = true := decide_eq_true c2
  by_cases c3 : valB first = true
  case neg =>
    have hE : adE l id size first now = 1 := by rw [adE, if_pos c1, if_pos c2, if_neg c3]
    have hR : adR l id size first now = [] := if_neg (by omega)
    have c3' : valB first = false := by simpa using c3
    simp (config := { maxSteps := 9000000 }) only [↓vyD, vyU, binS, SV.go1, SV.go0, mkRow, intsOf, boolsOf, strsOf, chunks, Row.rep, Row.cat, Row.sub, Row.put, Row.len, Row.get, Row.size, Row.flat, bnds, own0, own1, labsL, labsR, SV.labs, argsOf, entFr, SO.ev, St.of, keepSt, getAll, lookN, hasN, SV.cells, SV.one, SV.res1, SV.res0, SV.resP, SV.ok1, SV.ok0, SV.okN, SV.solid, SV.solid1, SV.solid0, SV.flat0, SV.nm, SV.nm1, SV.nm0, SV.noPtr1, SV.noPtr0, Cel.isFresh, fillP, setAt, partV, eqCells, cellEq, gamY, listsOk, tupOf, takeOwn, SV.ret1, resAll, resL, resV, Nat.reduceEqDiff, ↓reduceIte, Nat.reduceAdd, Nat.reduceMul, Nat.reduceLeDiff, Nat.reduceLT, reduceCtorEq, labOk, Int.reduceBEq, Int.reduceBNe, Int.reduceToNat, Int.reduceLE, Int.reduceLT, Int.reduceEq, Nat.reduceDiv, Nat.reduceMod, Nat.reduceSub, Nat.reduceBEq, fitR, fitR1, fitR0, fitRL1, fitRL, y14, gAd, ridS, rwithinS, rvalS, ptimeS, rfindS, pcatS, mapP_len, mapP_labs, List.all_nil, asP_rw, prC, hE, hR, hid, c1, c2', c3', mapP_nil, labsLL, eq_self]
  by_cases c4 : 0 ≤ now ∧ now ≤ 1073741824
  case neg =>
    have hE : adE l id size first now = 1 := by rw [adE, if_pos c1, if_pos c2, if_pos c3, if_neg c4]
    have hR : adR l id size first now = [] := if_neg (by omega)
    have c4' : decide (0 ≤ now ∧ now ≤ 1073741824) = false := decide_eq_false c4
    simp (config := { maxSteps := 9000000 }) only [↓vyD, vyU, binS, SV.go1, SV.go0, mkRow, intsOf, boolsOf, strsOf, chunks, Row.rep, Row.cat, Row.sub, Row.put, Row.len, Row.get, Row.size, Row.flat, bnds, own0, own1, labsL, labsR, SV.labs, argsOf, entFr, SO.ev, St.of, keepSt, getAll, lookN, hasN, SV.cells, SV.one, SV.res1, SV.res0, SV.resP, SV.ok1, SV.ok0, SV.okN, SV.solid, SV.solid1, SV.solid0, SV.flat0, SV.nm, SV.nm1, SV.nm0, SV.noPtr1, SV.noPtr0, Cel.isFresh, fillP, setAt, partV, eqCells, cellEq, gamY, listsOk, tupOf, takeOwn, SV.ret1, resAll, resL, resV, Nat.reduceEqDiff, ↓reduceIte, Nat.reduceAdd, Nat.reduceMul, Nat.reduceLeDiff, Nat.reduceLT, reduceCtorEq, labOk, Int.reduceBEq, Int.reduceBNe, Int.reduceToNat, Int.reduceLE, Int.reduceLT, Int.reduceEq, Nat.reduceDiv, Nat.reduceMod, Nat.reduceSub, Nat.reduceBEq, fitR, fitR1, fitR0, fitRL1, fitRL, y14, gAd, ridS, rwithinS, rvalS, ptimeS, rfindS, pcatS, mapP_len, mapP_labs, List.all_nil, asP_rw, prC, hE, hR, hid, c1, c2', c3, c4', mapP_nil, labsLL, eq_self]
  have c4' : decide (0 ≤ now ∧ now ≤ 1073741824) = true := decide_eq_true c4
  by_cases c5 : 0 ≤ fdN l id l.length 0
  · have hE : adE l id size first now = 5 := by rw [adE, if_pos c1, if_pos c2, if_pos c3, if_pos c4, if_pos c5]
    have hR : adR l id size first now = [] := if_neg (by omega)
    simp (config := { maxSteps := 9000000 }) only [↓vyD, vyU, binS, SV.go1, SV.go0, mkRow, intsOf, boolsOf, strsOf, chunks, Row.rep, Row.cat, Row.sub, Row.put, Row.len, Row.get, Row.size, Row.flat, bnds, own0, own1, labsL, labsR, SV.labs, argsOf, entFr, SO.ev, St.of, keepSt, getAll, lookN, hasN, SV.cells, SV.one, SV.res1, SV.res0, SV.resP, SV.ok1, SV.ok0, SV.okN, SV.solid, SV.solid1, SV.solid0, SV.flat0, SV.nm, SV.nm1, SV.nm0, SV.noPtr1, SV.noPtr0, Cel.isFresh, fillP, setAt, partV, eqCells, cellEq, gamY, listsOk, tupOf, takeOwn, SV.ret1, resAll, resL, resV, Nat.reduceEqDiff, ↓reduceIte, Nat.reduceAdd, Nat.reduceMul, Nat.reduceLeDiff, Nat.reduceLT, reduceCtorEq, labOk, Int.reduceBEq, Int.reduceBNe, Int.reduceToNat, Int.reduceLE, Int.reduceLT, Int.reduceEq, Nat.reduceDiv, Nat.reduceMod, Nat.reduceSub, Nat.reduceBEq, fitR, fitR1, fitR0, fitRL1, fitRL, y14, gAd, ridS, rwithinS, rvalS, ptimeS, rfindS, pcatS, mapP_len, mapP_labs, List.all_nil, asP_rw, prC, hE, hR, hid, hl2, c1, c2', c3, c4', c5, mapP_nil, labsLL, eq_self, ge_iff_le]
  by_cases c6 : 5 < l.length
  · have hE : adE l id size first now = 10 := by rw [adE, if_pos c1, if_pos c2, if_pos c3, if_pos c4, if_neg c5, if_pos c6]
    have hR : adR l id size first now = [] := if_neg (by omega)
    have c6' : (5 : Int) < (l.length : Int) := by omega
    simp (config := { maxSteps := 9000000 }) only [↓vyD, vyU, binS, SV.go1, SV.go0, mkRow, intsOf, boolsOf, strsOf, chunks, Row.rep, Row.cat, Row.sub, Row.put, Row.len, Row.get, Row.size, Row.flat, bnds, own0, own1, labsL, labsR, SV.labs, argsOf, entFr, SO.ev, St.of, keepSt, getAll, lookN, hasN, SV.cells, SV.one, SV.res1, SV.res0, SV.resP, SV.ok1, SV.ok0, SV.okN, SV.solid, SV.solid1, SV.solid0, SV.flat0, SV.nm, SV.nm1, SV.nm0, SV.noPtr1, SV.noPtr0, Cel.isFresh, fillP, setAt, partV, eqCells, cellEq, gamY, listsOk, tupOf, takeOwn, SV.ret1, resAll, resL, resV, Nat.reduceEqDiff, ↓reduceIte, Nat.reduceAdd, Nat.reduceMul, Nat.reduceLeDiff, Nat.reduceLT, reduceCtorEq, labOk, Int.reduceBEq, Int.reduceBNe, Int.reduceToNat, Int.reduceLE, Int.reduceLT, Int.reduceEq, Nat.reduceDiv, Nat.reduceMod, Nat.reduceSub, Nat.reduceBEq, fitR, fitR1, fitR0, fitRL1, fitRL, y14, gAd, ridS, rwithinS, rvalS, ptimeS, rfindS, pcatS, mapP_len, mapP_labs, List.all_nil, asP_rw, prC, hE, hR, hid, hl2, c1, c2', c3, c4', c5, c6', mapP_nil, labsLL, eq_self, ge_iff_le, gt_iff_lt]
  have hE : adE l id size first now = 0 := by rw [adE, if_pos c1, if_pos c2, if_pos c3, if_pos c4, if_neg c5, if_neg c6]
  have hR : adR l id size first now = adL l id size first now := if_pos hE
  have c6' : ¬ (5 : Int) < (l.length : Int) := by omega
  rw [hE, hR]
  simp (config := { maxSteps := 9000000 }) only [↓vyD, vyU, binS, SV.go1, SV.go0, mkRow, intsOf, boolsOf, strsOf, chunks, Row.rep, Row.cat, Row.sub, Row.put, Row.len, Row.get, Row.size, Row.flat, bnds, own0, own1, labsL, labsR, SV.labs, argsOf, entFr, SO.ev, St.of, keepSt, getAll, lookN, hasN, SV.cells, SV.one, SV.res1, SV.res0, SV.resP, SV.ok1, SV.ok0, SV.okN, SV.solid, SV.solid1, SV.solid0, SV.flat0, SV.nm, SV.nm1, SV.nm0, SV.noPtr1, SV.noPtr0, Cel.isFresh, fillP, setAt, partV, eqCells, cellEq, gamY, listsOk, tupOf, takeOwn, SV.ret1, resAll, resL, resV, Nat.reduceEqDiff, ↓reduceIte, Nat.reduceAdd, Nat.reduceMul, Nat.reduceLeDiff, Nat.reduceLT, reduceCtorEq, labOk, Int.reduceBEq, Int.reduceBNe, Int.reduceToNat, Int.reduceLE, Int.reduceLT, Int.reduceEq, Nat.reduceDiv, Nat.reduceMod, Nat.reduceSub, Nat.reduceBEq, fitR, fitR1, fitR0, fitRL1, fitRL, y14, gAd, ridS, rwithinS, rvalS, ptimeS, rfindS, pcatS, mapP_len, mapP_labs, List.all_nil, asP_rw, prC, hid, hl2, c1, c2', c3, c4', c5, c6', mapP_nil, labsLL, eq_self, ge_iff_le, gt_iff_lt]
  refine loopG_intro (ι := Nat) (fun i => [(0, .rw (.recs 7 (mapP l))), (1, .str id), (2, .int .i64 size), (3, .int .i64 first), (4, .int .i64 now), (12, .int .i64 i)]) (fun _ => [])
    (fun i => i ≤ l.length ∧ atP l id (l.length - i) i = atP l id l.length 0) (fun i => l.length - i) ⟨0, ⟨by omega, rfl⟩, ?_, ?_, ?_⟩ fun i ⟨hi, hw⟩ => ?_
  · simp (config := { maxSteps := 9000000 }) only [↓vyD, vyU, binS, SV.go1, SV.go0, mkRow, intsOf, boolsOf, strsOf, chunks, Row.rep, Row.cat, Row.sub, Row.put, Row.len, Row.get, Row.size, Row.flat, bnds, own0, own1, labsL, labsR, SV.labs, argsOf, entFr, SO.ev, St.of, keepSt, getAll, lookN, hasN, SV.cells, SV.one, SV.res1, SV.res0, SV.resP, SV.ok1, SV.ok0, SV.okN, SV.solid, SV.solid1, SV.solid0, SV.flat0, SV.nm, SV.nm1, SV.nm0, SV.noPtr1, SV.noPtr0, Cel.isFresh, fillP, setAt, partV, eqCells, cellEq, gamY, listsOk, tupOf, takeOwn, SV.ret1, resAll, resL, resV, Nat.reduceEqDiff, ↓reduceIte, Nat.reduceAdd, Nat.reduceMul, Nat.reduceLeDiff, Nat.reduceLT, reduceCtorEq, labOk, Int.reduceBEq, Int.reduceBNe, Int.reduceToNat, Int.reduceLE, Int.reduceLT, Int.reduceEq, Nat.reduceDiv, Nat.reduceMod, Nat.reduceSub, Nat.reduceBEq, fitR, fitR1, fitR0, fitRL1, fitRL, mapP_len, mapP_labs, List.all_nil, asP_rw, prC]
  · simp (config := { maxSteps := 9000000 }) only [↓vyD, vyU, binS, SV.go1, SV.go0, mkRow, intsOf, boolsOf, strsOf, chunks, Row.rep, Row.cat, Row.sub, Row.put, Row.len, Row.get, Row.size, Row.flat, bnds, own0, own1, labsL, labsR, SV.labs, argsOf, entFr, SO.ev, St.of, keepSt, getAll, lookN, hasN, SV.cells, SV.one, SV.res1, SV.res0, SV.resP, SV.ok1, SV.ok0, SV.okN, SV.solid, SV.solid1, SV.solid0, SV.flat0, SV.nm, SV.nm1, SV.nm0, SV.noPtr1, SV.noPtr0, Cel.isFresh, fillP, setAt, partV, eqCells, cellEq, gamY, listsOk, tupOf, takeOwn, SV.ret1, resAll, resL, resV, Nat.reduceEqDiff, ↓reduceIte, Nat.reduceAdd, Nat.reduceMul, Nat.reduceLeDiff, Nat.reduceLT, reduceCtorEq, labOk, Int.reduceBEq, Int.reduceBNe, Int.reduceToNat, Int.reduceLE, Int.reduceLT, Int.reduceEq, Nat.reduceDiv, Nat.reduceMod, Nat.reduceSub, Nat.reduceBEq, fitR, fitR1, fitR0, fitRL1, fitRL, mapP_len, mapP_labs, List.all_nil, asP_rw, prC, Int.natCast_zero, Int.ofNat_zero]
  · simp (config := { maxSteps := 9000000 }) only [↓vyD, vyU, binS, SV.go1, SV.go0, mkRow, intsOf, boolsOf, strsOf, chunks, Row.rep, Row.cat, Row.sub, Row.put, Row.len, Row.get, Row.size, Row.flat, bnds, own0, own1, labsL, labsR, SV.labs, argsOf, entFr, SO.ev, St.of, keepSt, getAll, lookN, hasN, SV.cells, SV.one, SV.res1, SV.res0, SV.resP, SV.ok1, SV.ok0, SV.okN, SV.solid, SV.solid1, SV.solid0, SV.flat0, SV.nm, SV.nm1, SV.nm0, SV.noPtr1, SV.noPtr0, Cel.isFresh, fillP, setAt, partV, eqCells, cellEq, gamY, listsOk, tupOf, takeOwn, SV.ret1, resAll, resL, resV, Nat.reduceEqDiff, ↓reduceIte, Nat.reduceAdd, Nat.reduceMul, Nat.reduceLeDiff, Nat.reduceLT, reduceCtorEq, labOk, Int.reduceBEq, Int.reduceBNe, Int.reduceToNat, Int.reduceLE, Int.reduceLT, Int.reduceEq, Nat.reduceDiv, Nat.reduceMod, Nat.reduceSub, Nat.reduceBEq, fitR, fitR1, fitR0, fitRL1, fitRL, mapP_len, mapP_labs, List.all_nil, asP_rw, prC]
  have hL : adL l id size first now = l.take (atP l id l.length 0) ++ [⟨id, 0, 0, 0, size, [first], now⟩] ++ l.drop (atP l id l.length 0) := rfl
  rw [hL]
  have hi0 : (0 : Int) ≤ (i : Int) := by omega
  have hi1 : (i : Int) ≤ (l.length : Int) := by omega
  have e0 : List.take l.length (mapP l) = mapP l := List.take_of_length_le (by rw [mapP_len]; omega)
  have e1 : (l.take i).length + 1 + (l.drop i).length ≤ 1000 := by rw [List.length_take, List.length_drop]; omega
  have fin : ∀ a : Nat, a = i → l.take a = l.take i ∧ l.drop a = l.drop i := fun a h => by rw [h]; exact ⟨rfl, rfl⟩
  by_cases hlt : (i : Int) < (l.length : Int)
  · have hlt' : i < l.length := by omega
    have b1 := i64_wrap (show I64 ((i : Int) + 1) by unfold I64; omega)
    have hg := mapP_get hlt'
    have hs : l.length - i = (l.length - (i + 1)) + 1 := by omega
    rw [hs, atP] at hw
    generalize hX : l.getD i default = p at *
    obtain ⟨a, b, c, d, e, v, g⟩ := p
    simp only at hw
    cases hb : Op.bytesLess a id with
    | true =>
      rw [hb, if_pos rfl] at hw
      simp (config := { maxSteps := 9000000 }) only [↓vyD, vyU, binS, SV.go1, SV.go0, mkRow, intsOf, boolsOf, strsOf, chunks, Row.rep, Row.cat, Row.sub, Row.put, Row.len, Row.get, Row.size, Row.flat, bnds, own0, own1, labsL, labsR, SV.labs, argsOf, entFr, SO.ev, St.of, keepSt, getAll, lookN, hasN, SV.cells, SV.one, SV.res1, SV.res0, SV.resP, SV.ok1, SV.ok0, SV.okN, SV.solid, SV.solid1, SV.solid0, SV.flat0, SV.nm, SV.nm1, SV.nm0, SV.noPtr1, SV.noPtr0, Cel.isFresh, fillP, setAt, partV, eqCells, cellEq, gamY, listsOk, tupOf, takeOwn, SV.ret1, resAll, resL, resV, Nat.reduceEqDiff, ↓reduceIte, Nat.reduceAdd, Nat.reduceMul, Nat.reduceLeDiff, Nat.reduceLT, reduceCtorEq, labOk, Int.reduceBEq, Int.reduceBNe, Int.reduceToNat, Int.reduceLE, Int.reduceLT, Int.reduceEq, Nat.reduceDiv, Nat.reduceMod, Nat.reduceSub, Nat.reduceBEq, fitR, fitR1, fitR0, fitRL1, fitRL, gAd, ridS, rwithinS, rvalS, ptimeS, rfindS, pcatS, mapP_len, mapP_labs, List.all_nil, asP_rw, prC, hlt, hlt', hi0, hg, hb, b1, Int.toNat_natCast]
      exact ⟨i + 1, ⟨⟨by omega, hw⟩, by omega⟩, by simp⟩
    | false =>
      rw [hb, if_neg (show ¬ false = true by decide)] at hw
      obtain ⟨f1, f2⟩ := fin _ hw.symm
      rw [f1, f2]
      generalize hD : l.take i = D at *
      generalize hE2 : l.drop i = E2 at *
      simp (config := { maxSteps := 9000000 }) only [↓vyD, vyU, binS, SV.go1, SV.go0, mkRow, intsOf, boolsOf, strsOf, chunks, Row.rep, Row.cat, Row.sub, Row.put, Row.len, Row.get, Row.size, Row.flat, bnds, own0, own1, labsL, labsR, SV.labs, argsOf, entFr, SO.ev, St.of, keepSt, getAll, lookN, hasN, SV.cells, SV.one, SV.res1, SV.res0, SV.resP, SV.ok1, SV.ok0, SV.okN, SV.solid, SV.solid1, SV.solid0, SV.flat0, SV.nm, SV.nm1, SV.nm0, SV.noPtr1, SV.noPtr0, Cel.isFresh, fillP, setAt, partV, eqCells, cellEq, gamY, listsOk, tupOf, takeOwn, SV.ret1, resAll, resL, resV, Nat.reduceEqDiff, ↓reduceIte, Nat.reduceAdd, Nat.reduceMul, Nat.reduceLeDiff, Nat.reduceLT, reduceCtorEq, labOk, Int.reduceBEq, Int.reduceBNe, Int.reduceToNat, Int.reduceLE, Int.reduceLT, Int.reduceEq, Nat.reduceDiv, Nat.reduceMod, Nat.reduceSub, Nat.reduceBEq, fitR, fitR1, fitR0, fitRL1, fitRL, gAd, ridS, rwithinS, rvalS, ptimeS, rfindS, pcatS, mapP_len, mapP_labs, List.all_nil, asP_rw, prC, hlt, hlt', hi0, hi1, hg, hb, e0, e1, mapP_take, mapP_drop, hD, hE2, toPs_mapP, toPs, toPr, labsLL, labsL, SV.labs, labsR, List.append_nil, List.isEmpty_nil, List.length_cons, List.length_nil, eq_self, Int.toNat_natCast, Int.le_refl]
      split <;> trivial
  · have hil : i = l.length := by omega
    have z : atP l id (l.length - i) i = i := by rw [hil, Nat.sub_self]; rfl
    rw [z] at hw
    obtain ⟨f1, f2⟩ := fin _ hw.symm
    rw [f1, f2]
    generalize hD : l.take i = D at *
    generalize hE2 : l.drop i = E2 at *
    simp (config := { maxSteps := 9000000 }) only [↓vyD, vyU, binS, SV.go1, SV.go0, mkRow, intsOf, boolsOf, strsOf, chunks, Row.rep, Row.cat, Row.sub, Row.put, Row.len, Row.get, Row.size, Row.flat, bnds, own0, own1, labsL, labsR, SV.labs, argsOf, entFr, SO.ev, St.of, keepSt, getAll, lookN, hasN, SV.cells, SV.one, SV.res1, SV.res0, SV.resP, SV.ok1, SV.ok0, SV.okN, SV.solid, SV.solid1, SV.solid0, SV.flat0, SV.nm, SV.nm1, SV.nm0, SV.noPtr1, SV.noPtr0, Cel.isFresh, fillP, setAt, partV, eqCells, cellEq, gamY, listsOk, tupOf, takeOwn, SV.ret1, resAll, resL, resV, Nat.reduceEqDiff, ↓reduceIte, Nat.reduceAdd, Nat.reduceMul, Nat.reduceLeDiff, Nat.reduceLT, reduceCtorEq, labOk, Int.reduceBEq, Int.reduceBNe, Int.reduceToNat, Int.reduceLE, Int.reduceLT, Int.reduceEq, Nat.reduceDiv, Nat.reduceMod, Nat.reduceSub, Nat.reduceBEq, fitR, fitR1, fitR0, fitRL1, fitRL, gAd, ridS, rwithinS, rvalS, ptimeS, rfindS, pcatS, mapP_len, mapP_labs, List.all_nil, asP_rw, prC, hlt, hi0, hi1, e0, e1, mapP_take, mapP_drop, hD, hE2, toPs_mapP, toPs, toPr, labsLL, labsL, SV.labs, labsR, List.append_nil, List.isEmpty_nil, List.length_cons, List.length_nil, eq_self, Int.toNat_natCast, Int.le_refl]
    split <;> trivial
end Go.Proofs.Ytgklfolmlcfjgaa
