/- What win.Check and win.Push do, and the document's answers on windows. -/
import Derived.Test.YtgklfolmlcfjgaaYS5
import Derived.Test.YtgklfolmlcfjgaaYR5
namespace Go.Proofs.Ytgklfolmlcfjgaa
open Go.ChangeShapes Go.WideShapes Go.ChangeAt Go.RowKit Go.Joins Y
set_option linter.unusedSimpArgs false
set_option linter.unusedVariables false
set_option maxRecDepth 100000
set_option maxHeartbeats 40000000
def winE (c : Int) (l : List Int) : Int := if 1 ≤ c ∧ c ≤ 64 then (if c < l.length then 2 else listE l) else 1
theorem winE_0 {c : Int} {l : List Int} : winE c l = 0 ↔ (1 ≤ c ∧ c ≤ 64) ∧ l.length ≤ c ∧ listE l = 0 := by
  unfold winE
  by_cases h : 1 ≤ c ∧ c ≤ 64
  · rw [if_pos h]; split <;> omega
  · rw [if_neg h]; omega
def gW : List (Nat × Say) := [(62, wwS), (89, cloS), (63, listS)]
theorem gW_ok : GamOk Try.prog (gamY gW) := gam_ok (gam_cons ww_ok (gam_cons clo_ok (gam_cons list_ok gam_nil)))
def wcheckS : Say
  | [.agg [.int .i64 c, x_l]] => (match asI x_l with | some l => some (True, .int .i64 (winE c l), none) | _ => none)
  | _ => none
theorem wcheck_ok : FOk Try.prog 61 wcheckS := by
  intro xs p r own h hp
  unfold wcheckS at h
  split at h
  case h_2 => cases h
  rename_i c x_l
  split at h
  case h_2 => cases h
  rename_i l h_l
  simp only [Option.some.injEq, Prod.mk.injEq] at h
  obtain ⟨rfl, rfl, rfl⟩ := h
  refine fun_fit (ys := [.agg [.int .i64 c, .rw (.ints .i64 l)]]) ?_ ⟨⟨rfl, asI_fit0 h_l, trivial⟩, trivial⟩
  clear h_l
  refine fun_ok gW_ok lawy_mixed y61_eq none ?_ (Nat.le_of_ble_eq_true rfl)
  by_cases h1 : 1 ≤ c ∧ c ≤ 64
  · by_cases h2 : c < l.length
    · have hE : winE c l = 2 := by rw [winE, if_pos h1, if_pos h2]
      rw [hE]
      simp (config := { maxSteps := 9000000 }) only [↓vyD, vyU, binS, SV.go1, SV.go0, mkRow, intsOf, boolsOf, strsOf, chunks, Row.rep, Row.cat, Row.sub, Row.put, Row.len, Row.get, Row.size, Row.flat, bnds, own0, own1, labsL, labsR, SV.labs, argsOf, entFr, SO.ev, St.of, keepSt, getAll, lookN, hasN, SV.cells, SV.one, SV.res1, SV.res0, SV.resP, SV.ok1, SV.ok0, SV.okN, SV.solid, SV.solid1, SV.solid0, SV.flat0, SV.nm, SV.nm1, SV.nm0, SV.noPtr1, SV.noPtr0, Cel.isFresh, fillP, setAt, partV, eqCells, cellEq, gamY, listsOk, tupOf, takeOwn, SV.ret1, resAll, resL, resV, Nat.reduceEqDiff, ↓reduceIte, Nat.reduceAdd, Nat.reduceMul, Nat.reduceLeDiff, Nat.reduceLT, reduceCtorEq, labOk, Int.reduceBEq, Int.reduceBNe, Int.reduceToNat, Int.reduceLE, Int.reduceLT, Int.reduceEq, Nat.reduceDiv, Nat.reduceMod, Nat.reduceSub, Nat.reduceBEq, fitR, fitR1, fitR0, fitRL1, fitRL, y61, gW, wwS, cloS, listS, asI, h1, h2]
    · have hE : winE c l = listE l := by rw [winE, if_pos h1, if_neg h2]
      rw [hE]
      simp (config := { maxSteps := 9000000 }) only [↓vyD, vyU, binS, SV.go1, SV.go0, mkRow, intsOf, boolsOf, strsOf, chunks, Row.rep, Row.cat, Row.sub, Row.put, Row.len, Row.get, Row.size, Row.flat, bnds, own0, own1, labsL, labsR, SV.labs, argsOf, entFr, SO.ev, St.of, keepSt, getAll, lookN, hasN, SV.cells, SV.one, SV.res1, SV.res0, SV.resP, SV.ok1, SV.ok0, SV.okN, SV.solid, SV.solid1, SV.solid0, SV.flat0, SV.nm, SV.nm1, SV.nm0, SV.noPtr1, SV.noPtr0, Cel.isFresh, fillP, setAt, partV, eqCells, cellEq, gamY, listsOk, tupOf, takeOwn, SV.ret1, resAll, resL, resV, Nat.reduceEqDiff, ↓reduceIte, Nat.reduceAdd, Nat.reduceMul, Nat.reduceLeDiff, Nat.reduceLT, reduceCtorEq, labOk, Int.reduceBEq, Int.reduceBNe, Int.reduceToNat, Int.reduceLE, Int.reduceLT, Int.reduceEq, Nat.reduceDiv, Nat.reduceMod, Nat.reduceSub, Nat.reduceBEq, fitR, fitR1, fitR0, fitRL1, fitRL, y61, gW, wwS, cloS, listS, asI, h1, h2]
  · have hE : winE c l = 1 := by rw [winE, if_neg h1]
    rw [hE]
    simp (config := { maxSteps := 9000000 }) only [↓vyD, vyU, binS, SV.go1, SV.go0, mkRow, intsOf, boolsOf, strsOf, chunks, Row.rep, Row.cat, Row.sub, Row.put, Row.len, Row.get, Row.size, Row.flat, bnds, own0, own1, labsL, labsR, SV.labs, argsOf, entFr, SO.ev, St.of, keepSt, getAll, lookN, hasN, SV.cells, SV.one, SV.res1, SV.res0, SV.resP, SV.ok1, SV.ok0, SV.okN, SV.solid, SV.solid1, SV.solid0, SV.flat0, SV.nm, SV.nm1, SV.nm0, SV.noPtr1, SV.noPtr0, Cel.isFresh, fillP, setAt, partV, eqCells, cellEq, gamY, listsOk, tupOf, takeOwn, SV.ret1, resAll, resL, resV, Nat.reduceEqDiff, ↓reduceIte, Nat.reduceAdd, Nat.reduceMul, Nat.reduceLeDiff, Nat.reduceLT, reduceCtorEq, labOk, Int.reduceBEq, Int.reduceBNe, Int.reduceToNat, Int.reduceLE, Int.reduceLT, Int.reduceEq, Nat.reduceDiv, Nat.reduceMod, Nat.reduceSub, Nat.reduceBEq, fitR, fitR1, fitR0, fitRL1, fitRL, y61, gW, wwS, cloS, listS, asI, h1]
def pushE (c : Int) (l : List Int) (n : Int) : Int := if winE c l = 0 then (if 0 ≤ n ∧ n ≤ 16777216 then 0 else 1) else winE c l
def pushL (c : Int) (l : List Int) (n : Int) : List Int := if pushE c l n = 0 then (if (l.length : Int) = c then l.drop 1 else l) ++ [n] else []
def pushC (c : Int) (l : List Int) (n : Int) : Int := if pushE c l n = 0 then c else 0
theorem pushE_0 {c : Int} {l : List Int} {n : Int} : pushE c l n = 0 ↔ winE c l = 0 ∧ 0 ≤ n ∧ n ≤ 16777216 := by
  unfold pushE
  by_cases h : winE c l = 0
  · rw [if_pos h]; split <;> omega
  · rw [if_neg h]; omega
def gP : List (Nat × Say) := [(62, wwS), (89, cloS), (61, wcheckS)]
theorem gP_ok : GamOk Try.prog (gamY gP) := gam_ok (gam_cons ww_ok (gam_cons clo_ok (gam_cons wcheck_ok gam_nil)))
def wpushS : Say
  | [.agg [.int .i64 c, x_l], .int .i64 n] => (match asI x_l with | some l => some (True, .tup [.agg [.int .i64 (pushC c l n), .rw (.ints .i64 (pushL c l n))], .int .i64 (pushE c l n)], none) | _ => none)
  | _ => none
theorem wpush_ok : FOk Try.prog 24 wpushS := by
  intro xs p r own h hp
  unfold wpushS at h
  split at h
  case h_2 => cases h
  rename_i c x_l n
  split at h
  case h_2 => cases h
  rename_i l h_l
  simp only [Option.some.injEq, Prod.mk.injEq] at h
  obtain ⟨rfl, rfl, rfl⟩ := h
  refine fun_fit (ys := [.agg [.int .i64 c, .rw (.ints .i64 l)], .int .i64 n]) ?_ ⟨⟨rfl, asI_fit0 h_l, trivial⟩, fit_refl1 _ (by simp), trivial⟩
  clear h_l
  refine fun_ok gP_ok lawy_mixed y24_eq none ?_ (Nat.le_of_ble_eq_true rfl)
  by_cases hw : winE c l = 0
  · obtain ⟨h1, h2, h3⟩ := winE_0.1 hw
    obtain ⟨h64, hv⟩ := listE_0.1 h3
    by_cases hn : 0 ≤ n ∧ n ≤ 16777216
    · have hE : pushE c l n = 0 := pushE_0.2 ⟨hw, hn⟩
      have hC : pushC c l n = c := by rw [pushC, if_pos hE]
      by_cases hf : (l.length : Int) = c
      · have hL : pushL c l n = l.drop 1 ++ [n] := by rw [pushL, if_pos hE, if_pos hf]
        have hf' : ((l.length : Int) == c) = true := by simpa using hf
        have g1 : (1 : Int) ≤ l.length := by omega
        have g2 : (l.drop 1).length = l.length - 1 := by simp
        have b1 := i64_wrap (show I64 (((l.drop 1).length : Int) + 1) by unfold I64; omega)
        rw [hE, hC, hL]
        simp (config := { maxSteps := 9000000 }) only [↓vyD, vyU, binS, SV.go1, SV.go0, mkRow, intsOf, boolsOf, strsOf, chunks, Row.rep, Row.cat, Row.sub, Row.put, Row.len, Row.get, Row.size, Row.flat, bnds, own0, own1, labsL, labsR, SV.labs, argsOf, entFr, SO.ev, St.of, keepSt, getAll, lookN, hasN, SV.cells, SV.one, SV.res1, SV.res0, SV.resP, SV.ok1, SV.ok0, SV.okN, SV.solid, SV.solid1, SV.solid0, SV.flat0, SV.nm, SV.nm1, SV.nm0, SV.noPtr1, SV.noPtr0, Cel.isFresh, fillP, setAt, partV, eqCells, cellEq, gamY, listsOk, tupOf, takeOwn, SV.ret1, resAll, resL, resV, Nat.reduceEqDiff, ↓reduceIte, Nat.reduceAdd, Nat.reduceMul, Nat.reduceLeDiff, Nat.reduceLT, reduceCtorEq, labOk, Int.reduceBEq, Int.reduceBNe, Int.reduceToNat, Int.reduceLE, Int.reduceLT, Int.reduceEq, Nat.reduceDiv, Nat.reduceMod, Nat.reduceSub, Nat.reduceBEq, fitR, fitR1, fitR0, fitRL1, fitRL, y24, gP, wwS, cloS, wcheckS, asI, hw, hn, hf', g1, b1, List.take_length, Int.toNat_natCast, Int.le_refl, decide_true]
        omega
      · have hL : pushL c l n = l ++ [n] := by rw [pushL, if_pos hE, if_neg hf]
        have hf' : ((l.length : Int) == c) = false := by simpa using hf
        have b1 := i64_wrap (show I64 ((l.length : Int) + 1) by unfold I64; omega)
        rw [hE, hC, hL]
        simp (config := { maxSteps := 9000000 }) only [↓vyD, vyU, binS, SV.go1, SV.go0, mkRow, intsOf, boolsOf, strsOf, chunks, Row.rep, Row.cat, Row.sub, Row.put, Row.len, Row.get, Row.size, Row.flat, bnds, own0, own1, labsL, labsR, SV.labs, argsOf, entFr, SO.ev, St.of, keepSt, getAll, lookN, hasN, SV.cells, SV.one, SV.res1, SV.res0, SV.resP, SV.ok1, SV.ok0, SV.okN, SV.solid, SV.solid1, SV.solid0, SV.flat0, SV.nm, SV.nm1, SV.nm0, SV.noPtr1, SV.noPtr0, Cel.isFresh, fillP, setAt, partV, eqCells, cellEq, gamY, listsOk, tupOf, takeOwn, SV.ret1, resAll, resL, resV, Nat.reduceEqDiff, ↓reduceIte, Nat.reduceAdd, Nat.reduceMul, Nat.reduceLeDiff, Nat.reduceLT, reduceCtorEq, labOk, Int.reduceBEq, Int.reduceBNe, Int.reduceToNat, Int.reduceLE, Int.reduceLT, Int.reduceEq, Nat.reduceDiv, Nat.reduceMod, Nat.reduceSub, Nat.reduceBEq, fitR, fitR1, fitR0, fitRL1, fitRL, y24, gP, wwS, cloS, wcheckS, asI, hw, hn, hf', b1, Int.le_refl, decide_true]
        omega
    · have hE : pushE c l n = 1 := by rw [pushE, if_pos hw, if_neg hn]
      have hC : pushC c l n = 0 := by rw [pushC, if_neg (by omega)]
      have hL : pushL c l n = [] := by rw [pushL, if_neg (by omega)]
      rw [hE, hC, hL]
      simp (config := { maxSteps := 9000000 }) only [↓vyD, vyU, binS, SV.go1, SV.go0, mkRow, intsOf, boolsOf, strsOf, chunks, Row.rep, Row.cat, Row.sub, Row.put, Row.len, Row.get, Row.size, Row.flat, bnds, own0, own1, labsL, labsR, SV.labs, argsOf, entFr, SO.ev, St.of, keepSt, getAll, lookN, hasN, SV.cells, SV.one, SV.res1, SV.res0, SV.resP, SV.ok1, SV.ok0, SV.okN, SV.solid, SV.solid1, SV.solid0, SV.flat0, SV.nm, SV.nm1, SV.nm0, SV.noPtr1, SV.noPtr0, Cel.isFresh, fillP, setAt, partV, eqCells, cellEq, gamY, listsOk, tupOf, takeOwn, SV.ret1, resAll, resL, resV, Nat.reduceEqDiff, ↓reduceIte, Nat.reduceAdd, Nat.reduceMul, Nat.reduceLeDiff, Nat.reduceLT, reduceCtorEq, labOk, Int.reduceBEq, Int.reduceBNe, Int.reduceToNat, Int.reduceLE, Int.reduceLT, Int.reduceEq, Nat.reduceDiv, Nat.reduceMod, Nat.reduceSub, Nat.reduceBEq, fitR, fitR1, fitR0, fitRL1, fitRL, y24, gP, wwS, cloS, wcheckS, asI, hw, hn]
  · have hE : pushE c l n = winE c l := by rw [pushE, if_neg hw]
    have hC : pushC c l n = 0 := by rw [pushC, if_neg (by omega)]
    have hL : pushL c l n = [] := by rw [pushL, if_neg (by omega)]
    have hw' : (winE c l != 0) = true := by simpa using hw
    rw [hE, hC, hL]
    simp (config := { maxSteps := 9000000 }) only [↓vyD, vyU, binS, SV.go1, SV.go0, mkRow, intsOf, boolsOf, strsOf, chunks, Row.rep, Row.cat, Row.sub, Row.put, Row.len, Row.get, Row.size, Row.flat, bnds, own0, own1, labsL, labsR, SV.labs, argsOf, entFr, SO.ev, St.of, keepSt, getAll, lookN, hasN, SV.cells, SV.one, SV.res1, SV.res0, SV.resP, SV.ok1, SV.ok0, SV.okN, SV.solid, SV.solid1, SV.solid0, SV.flat0, SV.nm, SV.nm1, SV.nm0, SV.noPtr1, SV.noPtr0, Cel.isFresh, fillP, setAt, partV, eqCells, cellEq, gamY, listsOk, tupOf, takeOwn, SV.ret1, resAll, resL, resV, Nat.reduceEqDiff, ↓reduceIte, Nat.reduceAdd, Nat.reduceMul, Nat.reduceLeDiff, Nat.reduceLT, reduceCtorEq, labOk, Int.reduceBEq, Int.reduceBNe, Int.reduceToNat, Int.reduceLE, Int.reduceLT, Int.reduceEq, Nat.reduceDiv, Nat.reduceMod, Nat.reduceSub, Nat.reduceBEq, fitR, fitR1, fitR0, fitRL1, fitRL, y24, gP, wwS, cloS, wcheckS, asI, hw']
def gRw : List (Nat × Say) := [(52, rwithinS), (86, rlistS)]
theorem gRw_ok : GamOk Try.prog (gamY gRw) := gam_ok (gam_cons rwithin_ok (gam_cons rlist_ok gam_nil))
def rwinS : Say
  | [.agg [.int .i64 c, x_l]] => (match asI x_l with | some l => some (True, .int .i64 (winE c l), none) | _ => none)
  | _ => none
theorem rwin_ok : FOk Try.prog 49 rwinS := by
  intro xs p r own h hp
  unfold rwinS at h
  split at h
  case h_2 => cases h
  rename_i c x_l
  split at h
  case h_2 => cases h
  rename_i l h_l
  simp only [Option.some.injEq, Prod.mk.injEq] at h
  obtain ⟨rfl, rfl, rfl⟩ := h
  refine fun_fit (ys := [.agg [.int .i64 c, .rw (.ints .i64 l)]]) ?_ ⟨⟨rfl, asI_fit0 h_l, trivial⟩, trivial⟩
  clear h_l
  refine fun_ok gRw_ok lawy_mixed y49_eq none ?_ (Nat.le_of_ble_eq_true rfl)
  by_cases h1 : 1 ≤ c ∧ c ≤ 64
  · by_cases h2 : c < l.length
    · have hE : winE c l = 2 := by rw [winE, if_pos h1, if_pos h2]
      rw [hE]
      simp (config := { maxSteps := 9000000 }) only [↓vyD, vyU, binS, SV.go1, SV.go0, mkRow, intsOf, boolsOf, strsOf, chunks, Row.rep, Row.cat, Row.sub, Row.put, Row.len, Row.get, Row.size, Row.flat, bnds, own0, own1, labsL, labsR, SV.labs, argsOf, entFr, SO.ev, St.of, keepSt, getAll, lookN, hasN, SV.cells, SV.one, SV.res1, SV.res0, SV.resP, SV.ok1, SV.ok0, SV.okN, SV.solid, SV.solid1, SV.solid0, SV.flat0, SV.nm, SV.nm1, SV.nm0, SV.noPtr1, SV.noPtr0, Cel.isFresh, fillP, setAt, partV, eqCells, cellEq, gamY, listsOk, tupOf, takeOwn, SV.ret1, resAll, resL, resV, Nat.reduceEqDiff, ↓reduceIte, Nat.reduceAdd, Nat.reduceMul, Nat.reduceLeDiff, Nat.reduceLT, reduceCtorEq, labOk, Int.reduceBEq, Int.reduceBNe, Int.reduceToNat, Int.reduceLE, Int.reduceLT, Int.reduceEq, Nat.reduceDiv, Nat.reduceMod, Nat.reduceSub, Nat.reduceBEq, fitR, fitR1, fitR0, fitRL1, fitRL, y49, gRw, rwithinS, rlistS, asI, h1, h2, decide_true]
    · have hE : winE c l = listE l := by rw [winE, if_pos h1, if_neg h2]
      rw [hE]
      simp (config := { maxSteps := 9000000 }) only [↓vyD, vyU, binS, SV.go1, SV.go0, mkRow, intsOf, boolsOf, strsOf, chunks, Row.rep, Row.cat, Row.sub, Row.put, Row.len, Row.get, Row.size, Row.flat, bnds, own0, own1, labsL, labsR, SV.labs, argsOf, entFr, SO.ev, St.of, keepSt, getAll, lookN, hasN, SV.cells, SV.one, SV.res1, SV.res0, SV.resP, SV.ok1, SV.ok0, SV.okN, SV.solid, SV.solid1, SV.solid0, SV.flat0, SV.nm, SV.nm1, SV.nm0, SV.noPtr1, SV.noPtr0, Cel.isFresh, fillP, setAt, partV, eqCells, cellEq, gamY, listsOk, tupOf, takeOwn, SV.ret1, resAll, resL, resV, Nat.reduceEqDiff, ↓reduceIte, Nat.reduceAdd, Nat.reduceMul, Nat.reduceLeDiff, Nat.reduceLT, reduceCtorEq, labOk, Int.reduceBEq, Int.reduceBNe, Int.reduceToNat, Int.reduceLE, Int.reduceLT, Int.reduceEq, Nat.reduceDiv, Nat.reduceMod, Nat.reduceSub, Nat.reduceBEq, fitR, fitR1, fitR0, fitRL1, fitRL, y49, gRw, rwithinS, rlistS, asI, h1, h2, decide_true]
  · have hE : winE c l = 1 := by rw [winE, if_neg h1]
    rw [hE]
    simp (config := { maxSteps := 9000000 }) only [↓vyD, vyU, binS, SV.go1, SV.go0, mkRow, intsOf, boolsOf, strsOf, chunks, Row.rep, Row.cat, Row.sub, Row.put, Row.len, Row.get, Row.size, Row.flat, bnds, own0, own1, labsL, labsR, SV.labs, argsOf, entFr, SO.ev, St.of, keepSt, getAll, lookN, hasN, SV.cells, SV.one, SV.res1, SV.res0, SV.resP, SV.ok1, SV.ok0, SV.okN, SV.solid, SV.solid1, SV.solid0, SV.flat0, SV.nm, SV.nm1, SV.nm0, SV.noPtr1, SV.noPtr0, Cel.isFresh, fillP, setAt, partV, eqCells, cellEq, gamY, listsOk, tupOf, takeOwn, SV.ret1, resAll, resL, resV, Nat.reduceEqDiff, ↓reduceIte, Nat.reduceAdd, Nat.reduceMul, Nat.reduceLeDiff, Nat.reduceLT, reduceCtorEq, labOk, Int.reduceBEq, Int.reduceBNe, Int.reduceToNat, Int.reduceLE, Int.reduceLT, Int.reduceEq, Nat.reduceDiv, Nat.reduceMod, Nat.reduceSub, Nat.reduceBEq, fitR, fitR1, fitR0, fitRL1, fitRL, y49, gRw, rwithinS, rlistS, asI, h1]
def gSm : List (Nat × Say) := [(34, equalS)]
theorem gSm_ok : GamOk Try.prog (gamY gSm) := gam_ok (gam_cons equal_ok gam_nil)
def sameS : Say
  | [.agg [.int .i64 c, x_l], .agg [.int .i64 d, x_m]] => (match asI x_l, asI x_m with | some l, some m => some (l.length ≤ 4294967296, .bool (decide (c = d ∧ l = m)), none) | _, _ => none)
  | _ => none
theorem same_ok : FOk Try.prog 21 sameS := by
  intro xs p r own h hp
  unfold sameS at h
  split at h
  case h_2 => cases h
  rename_i c x_l d x_m
  split at h
  case h_2 => cases h
  rename_i l m h_l h_m
  simp only [Option.some.injEq, Prod.mk.injEq] at h
  obtain ⟨rfl, rfl, rfl⟩ := h
  refine fun_fit (ys := [.agg [.int .i64 c, .rw (.ints .i64 l)], .agg [.int .i64 d, .rw (.ints .i64 m)]]) ?_ ⟨⟨rfl, asI_fit0 h_l, trivial⟩, ⟨rfl, asI_fit0 h_m, trivial⟩, trivial⟩
  clear h_l h_m
  refine fun_ok gSm_ok lawy_mixed y21_eq none ?_ (Nat.le_of_ble_eq_true rfl)
  by_cases hc : c = d
  · have hc' : (c == d) = true := by simpa using hc
    by_cases hlm : l = m
    · simp (config := { maxSteps := 9000000 }) only [↓vyD, vyU, binS, SV.go1, SV.go0, mkRow, intsOf, boolsOf, strsOf, chunks, Row.rep, Row.cat, Row.sub, Row.put, Row.len, Row.get, Row.size, Row.flat, bnds, own0, own1, labsL, labsR, SV.labs, argsOf, entFr, SO.ev, St.of, keepSt, getAll, lookN, hasN, SV.cells, SV.one, SV.res1, SV.res0, SV.resP, SV.ok1, SV.ok0, SV.okN, SV.solid, SV.solid1, SV.solid0, SV.flat0, SV.nm, SV.nm1, SV.nm0, SV.noPtr1, SV.noPtr0, Cel.isFresh, fillP, setAt, partV, eqCells, cellEq, gamY, listsOk, tupOf, takeOwn, SV.ret1, resAll, resL, resV, Nat.reduceEqDiff, ↓reduceIte, Nat.reduceAdd, Nat.reduceMul, Nat.reduceLeDiff, Nat.reduceLT, reduceCtorEq, labOk, Int.reduceBEq, Int.reduceBNe, Int.reduceToNat, Int.reduceLE, Int.reduceLT, Int.reduceEq, Nat.reduceDiv, Nat.reduceMod, Nat.reduceSub, Nat.reduceBEq, fitR, fitR1, fitR0, fitRL1, fitRL, y21, gSm, equalS, asI, hc, hp, hlm, BEq.rfl]
      subst hlm
      exact hp
    · simp (config := { maxSteps := 9000000 }) only [↓vyD, vyU, binS, SV.go1, SV.go0, mkRow, intsOf, boolsOf, strsOf, chunks, Row.rep, Row.cat, Row.sub, Row.put, Row.len, Row.get, Row.size, Row.flat, bnds, own0, own1, labsL, labsR, SV.labs, argsOf, entFr, SO.ev, St.of, keepSt, getAll, lookN, hasN, SV.cells, SV.one, SV.res1, SV.res0, SV.resP, SV.ok1, SV.ok0, SV.okN, SV.solid, SV.solid1, SV.solid0, SV.flat0, SV.nm, SV.nm1, SV.nm0, SV.noPtr1, SV.noPtr0, Cel.isFresh, fillP, setAt, partV, eqCells, cellEq, gamY, listsOk, tupOf, takeOwn, SV.ret1, resAll, resL, resV, Nat.reduceEqDiff, ↓reduceIte, Nat.reduceAdd, Nat.reduceMul, Nat.reduceLeDiff, Nat.reduceLT, reduceCtorEq, labOk, Int.reduceBEq, Int.reduceBNe, Int.reduceToNat, Int.reduceLE, Int.reduceLT, Int.reduceEq, Nat.reduceDiv, Nat.reduceMod, Nat.reduceSub, Nat.reduceBEq, fitR, fitR1, fitR0, fitRL1, fitRL, y21, gSm, equalS, asI, hc, hp, hlm, BEq.rfl]
  · have hc' : (c == d) = false := by simpa using hc
    simp (config := { maxSteps := 9000000 }) only [↓vyD, vyU, binS, SV.go1, SV.go0, mkRow, intsOf, boolsOf, strsOf, chunks, Row.rep, Row.cat, Row.sub, Row.put, Row.len, Row.get, Row.size, Row.flat, bnds, own0, own1, labsL, labsR, SV.labs, argsOf, entFr, SO.ev, St.of, keepSt, getAll, lookN, hasN, SV.cells, SV.one, SV.res1, SV.res0, SV.resP, SV.ok1, SV.ok0, SV.okN, SV.solid, SV.solid1, SV.solid0, SV.flat0, SV.nm, SV.nm1, SV.nm0, SV.noPtr1, SV.noPtr0, Cel.isFresh, fillP, setAt, partV, eqCells, cellEq, gamY, listsOk, tupOf, takeOwn, SV.ret1, resAll, resL, resV, Nat.reduceEqDiff, ↓reduceIte, Nat.reduceAdd, Nat.reduceMul, Nat.reduceLeDiff, Nat.reduceLT, reduceCtorEq, labOk, Int.reduceBEq, Int.reduceBNe, Int.reduceToNat, Int.reduceLE, Int.reduceLT, Int.reduceEq, Nat.reduceDiv, Nat.reduceMod, Nat.reduceSub, Nat.reduceBEq, fitR, fitR1, fitR0, fitRL1, fitRL, y21, gSm, equalS, asI, hc', hc, false_and]
end Go.Proofs.Ytgklfolmlcfjgaa
