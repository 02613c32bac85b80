/- What the functions of level do. -/
import Derived.Test.YtidafhjdpklgbaaYLv
import Derived.Test.YtidafhjdpklgbaaYRt
import Derived.Test.YtidafhjdpklgbaaYW5
import Derived.Test.YtidafhjdpklgbaaYK3
import Derived.Test.YtidafhjdpklgbaaCS9
namespace Go.Proofs.Ytidafhjdpklgbaa
open Go.ChangeShapes Go.WideShapes Go.ChangeAt Go.RowKit Go.Joins Y
set_option linter.unusedSimpArgs false
set_option linter.unusedVariables false
set_option maxRecDepth 100000
set_option maxHeartbeats 40000000
def gLa : List (Nat × Say) := [(40, pMulS), (38, wAddS), (47, halvS)]
theorem gLa_ok : GamOk Try.prog (gamY gLa) := gam_ok (gam_cons pMul_ok (gam_cons wAdd_ok (gam_cons halv_ok gam_nil)))
theorem lvA_in (n s c t : Int) (D C : Nat) (hn : 0 ≤ n * t ∧ n * t ≤ 68719476736) (hs : 0 ≤ s ∧ s ≤ 1073741824) (hD : n * t - s = D) (hD0 : 0 < D) (hc : c = C) (hC : 1 ≤ C ∧ C ≤ 1152921504606846976) : vcFun (gamY gLa) y56 [.agg [.int .i64 n, .int .i64 s, .int .i64 c], .int .i64 t] none fun v o => fitR v (.int .i64 ((halvN (D * D + C) C : Nat) : Int)) ∧ o = none := by
  subst hc
  have x1 := i64_wrap (show I64 (n * t) by unfold I64; omega)
  have x2 := i64_wrap (show I64 (D : Int) by unfold I64; omega)
  have n1 : ¬ (D : Int) ≤ 0 := by omega
  have e3 : IntKind.u64.wrap (D : Int) = D := u64_wrap (by unfold U64; omega)
  have e4 : IntKind.u64.wrap (C : Int) = C := u64_wrap (by unfold U64; omega)
  have w1 : Word D := by unfold Word; omega
  have w2 : Word C := by unfold Word; omega
  have hDD : D * D ≤ 68719476736 * 68719476736 := Nat.mul_le_mul (by omega) (by omega)
  have f1 : Fits (D * D) := fits_lt.2 (by omega)
  have f3 : Fits (D * D + C) := fits_lt.2 (by omega)
  have f4 : Fits C := fits_lt.2 (by omega)
  have a1 : wAddN (D * D) C = D * D + C := if_pos (by omega)
  generalize hX : D * D = X at *
  generalize hH : halvN (X + C) C = H at *
  simp (config := { maxSteps := 9000000 }) only [↓vyD, vyU, binS, SV.go1, SV.go0, mkRow, intsOf, boolsOf, strsOf, chunks, Row.rep, Row.cat, Row.sub, Row.put, Row.len, Row.get, Row.size, Row.flat, bnds, own0, own1, labsL, labsR, SV.labs, argsOf, entFr, SO.ev, St.of, keepSt, getAll, lookN, hasN, SV.cells, SV.one, SV.res1, SV.res0, SV.resP, SV.ok1, SV.ok0, SV.okN, SV.solid, SV.solid1, SV.solid0, SV.flat0, SV.nm, SV.nm1, SV.nm0, SV.noPtr1, SV.noPtr0, Cel.isFresh, fillP, setAt, partV, eqCells, cellEq, gamY, listsOk, tupOf, takeOwn, SV.ret1, resAll, resL, resV, Nat.reduceEqDiff, ↓reduceIte, Nat.reduceAdd, Nat.reduceMul, Nat.reduceLeDiff, Nat.reduceLT, reduceCtorEq, labOk, Int.reduceBEq, Int.reduceBNe, Int.reduceToNat, Int.reduceLE, Int.reduceLT, Int.reduceEq, Nat.reduceDiv, Nat.reduceMod, Nat.reduceSub, Nat.reduceBEq, fitR, fitR1, fitR0, fitRL1, fitRL, wd, wN_hl, OkW_hl, eq_hl, eq_h0, wN_0, OkW_0, cmpN_le0, cmpN_gt0, cmpN_lt0, cmpN_ge0, Int.toNat_natCast, y56, gLa, pMulS, wAddS, halvS, x1, x2, hD, n1, e3, e4, w1, w2, hX, f1, f3, f4, a1, hH]
def lvAS : Say
  | [.agg [.int .i64 n, .int .i64 s, .int .i64 c], .int .i64 t] => some ((0 ≤ n ∧ n ≤ 64) ∧ (0 ≤ s ∧ s ≤ 1073741824) ∧ (1 ≤ c ∧ c ≤ 1152921504606846976) ∧ (0 ≤ t ∧ t ≤ 1073741824), .int .i64 (lvN n s c t : Nat), none)
  | _ => none
theorem lvA_ok : FOk Try.prog 56 lvAS := by
  intro xs p r own h hp
  unfold lvAS at h
  split at h
  case h_2 => cases h
  rename_i n s c t
  simp only [Option.some.injEq, Prod.mk.injEq] at h
  obtain ⟨rfl, rfl, rfl⟩ := h
  refine fun_ok gLa_ok lawy_mixed y56_eq none ?_ (Nat.le_of_ble_eq_true rfl)
  obtain ⟨⟨h1, h2⟩, hs, ⟨h5, h6⟩, h7, h8⟩ := hp
  have hn := mul_bd h1 h2 h7 h8
  by_cases hd : n * t - s ≤ 0
  · have hV : lvN n s c t = 0 := if_pos hd
    have x1 := i64_wrap (show I64 (n * t) by unfold I64; omega)
    have x2 := i64_wrap (show I64 (n * t - s) by unfold I64; omega)
    simp (config := { maxSteps := 9000000 }) only [↓vyD, vyU, binS, SV.go1, SV.go0, mkRow, intsOf, boolsOf, strsOf, chunks, Row.rep, Row.cat, Row.sub, Row.put, Row.len, Row.get, Row.size, Row.flat, bnds, own0, own1, labsL, labsR, SV.labs, argsOf, entFr, SO.ev, St.of, keepSt, getAll, lookN, hasN, SV.cells, SV.one, SV.res1, SV.res0, SV.resP, SV.ok1, SV.ok0, SV.okN, SV.solid, SV.solid1, SV.solid0, SV.flat0, SV.nm, SV.nm1, SV.nm0, SV.noPtr1, SV.noPtr0, Cel.isFresh, fillP, setAt, partV, eqCells, cellEq, gamY, listsOk, tupOf, takeOwn, SV.ret1, resAll, resL, resV, Nat.reduceEqDiff, ↓reduceIte, Nat.reduceAdd, Nat.reduceMul, Nat.reduceLeDiff, Nat.reduceLT, reduceCtorEq, labOk, Int.reduceBEq, Int.reduceBNe, Int.reduceToNat, Int.reduceLE, Int.reduceLT, Int.reduceEq, Nat.reduceDiv, Nat.reduceMod, Nat.reduceSub, Nat.reduceBEq, fitR, fitR1, fitR0, fitRL1, fitRL, wd, wN_hl, OkW_hl, eq_hl, eq_h0, wN_0, OkW_0, cmpN_le0, cmpN_gt0, cmpN_lt0, cmpN_ge0, Int.toNat_natCast, y56, gLa, pMulS, wAddS, halvS, x1, x2, hd, hV, Int.natCast_zero, Int.ofNat_zero]
  · obtain ⟨D, hD⟩ := Int.eq_ofNat_of_zero_le (show 0 ≤ n * t - s by omega)
    obtain ⟨C, hC⟩ := Int.eq_ofNat_of_zero_le (show 0 ≤ c by omega)
    have hV : lvN n s c t = halvN (D * D + C) C := by unfold lvN; rw [if_neg hd, hD, hC]; rfl
    rw [hV]
    exact lvA_in n s c t D C (by omega) hs hD (by omega) hC (by omega)
/-- The scale: the greater of the spread and the square of the least deviation's sum. -/
def scL (l : List Int) (m : Int) : Int := if (l.length : Int) * m * (l.length * m) > l.length * sqL l - sumL l * sumL l then (l.length : Int) * m * (l.length * m) else l.length * sqL l - sumL l * sumL l
theorem sc_bd {l : List Int} {m : Int} (hl : listE l = 0) (h0 : l.length ≠ 0) (hm : 1 ≤ m ∧ m ≤ 16777216) : (1 ≤ (l.length : Int) * m ∧ (l.length : Int) * m ≤ 1073741824) ∧ (1 ≤ (l.length : Int) * m * (l.length * m) ∧ (l.length : Int) * m * (l.length * m) ≤ 1152921504606846976) ∧ (0 ≤ l.length * sqL l - sumL l * sumL l ∧ l.length * sqL l - sumL l * sumL l ≤ 1152921504606846976) ∧ 1 ≤ scL l m ∧ scL l m ≤ 1152921504606846976 := by
  obtain ⟨h64, hv⟩ := listE_0.1 hl
  have h1 := mul_bd (x := (l.length : Int)) (y := m) (X := 64) (Y := 16777216) (by omega) (by omega) (by omega) hm.2
  have h2 : 1 ≤ (l.length : Int) * m := by
    have := Int.mul_pos (show (0 : Int) < l.length by omega) (show 0 < m by omega)
    omega
  have h3 := mul_bd (x := (l.length : Int) * m) (y := (l.length : Int) * m) (X := 1073741824) (Y := 1073741824) (by omega) (by omega) (by omega) (by omega)
  have h4 : 1 ≤ (l.length : Int) * m * (l.length * m) := by
    have := Int.mul_pos (show (0 : Int) < l.length * m by omega) (show (0 : Int) < l.length * m by omega)
    omega
  have h5 := pairL_bd h64 hv
  rw [← lagrange] at h5
  refine ⟨by omega, by omega, h5, ?_⟩
  unfold scL
  split <;> omega
def lkE (c : Int) (l : List Int) (m : Int) : Int := if winE c l = 0 then (if 1 ≤ m ∧ m ≤ 16777216 then (if l.length = 0 then 4 else 0) else 1) else winE c l
theorem lkE_0 {c : Int} {l : List Int} {m : Int} : lkE c l m = 0 ↔ winE c l = 0 ∧ (1 ≤ m ∧ m ≤ 16777216) ∧ l.length ≠ 0 := by
  unfold lkE
  by_cases h : winE c l = 0
  · rw [if_pos h]
    by_cases h1 : 1 ≤ m ∧ m ≤ 16777216
    · rw [if_pos h1]
      by_cases h2 : l.length = 0
      · rw [if_pos h2]; simp [h2]
      · rw [if_neg h2]; simp [h, h1, h2]
    · rw [if_neg h1]; simp [h1]
  · rw [if_neg h]; simp [h]
def msV (c : Int) (l : List Int) (m : Int) : SV := if lkE c l m = 0 then sv3 l.length (sumL l) (scL l m) else sv3 0 0 0
def gMe : List (Nat × Say) := [(84, wcheckS), (70, ofS), (37, spreadXS)]
theorem gMe_ok : GamOk Try.prog (gamY gMe) := gam_ok (gam_cons wcheck_ok (gam_cons of_ok (gam_cons spreadX_ok gam_nil)))
def measS : Say
  | [.agg [.int .i64 c, x_l], .int .i64 m] => (match asI x_l with | some l => some (True, .tup [msV c l m, .int .i64 (lkE c l m)], none) | _ => none)
  | _ => none
theorem meas_ok : FOk Try.prog 55 measS := by
  intro xs p r own h hp
  unfold measS at h
  split at h
  case h_2 => cases h
  rename_i c x_l m
  split at h
  case h_2 => cases h
  rename_i l h_l
  simp only [Option.some.injEq, Prod.mk.injEq] at h
  obtain ⟨rfl, rfl, rfl⟩ := h
  refine fun_fit (ys := [.agg [.int .i64 c, .rw (.ints .i64 l)], .int .i64 m]) ?_ ⟨⟨rfl, asI_fit0 h_l, trivial⟩, fit_refl1 _ (by simp), trivial⟩
  clear h_l
  refine fun_ok gMe_ok lawy_mixed y55_eq none ?_ (Nat.le_of_ble_eq_true rfl)
  by_cases hw : winE c l = 0
  · by_cases h1 : m < 1
    · have hE : lkE c l m = 1 := by rw [lkE, if_pos hw, if_neg (by omega)]
      have hV : msV c l m = sv3 0 0 0 := by rw [msV, if_neg (by omega)]
      rw [hE, hV]
      simp (config := { maxSteps := 9000000 }) only [↓vyD, vyU, binS, SV.go1, SV.go0, mkRow, intsOf, boolsOf, strsOf, chunks, Row.rep, Row.cat, Row.sub, Row.put, Row.len, Row.get, Row.size, Row.flat, bnds, own0, own1, labsL, labsR, SV.labs, argsOf, entFr, SO.ev, St.of, keepSt, getAll, lookN, hasN, SV.cells, SV.one, SV.res1, SV.res0, SV.resP, SV.ok1, SV.ok0, SV.okN, SV.solid, SV.solid1, SV.solid0, SV.flat0, SV.nm, SV.nm1, SV.nm0, SV.noPtr1, SV.noPtr0, Cel.isFresh, fillP, setAt, partV, eqCells, cellEq, gamY, listsOk, tupOf, takeOwn, SV.ret1, resAll, resL, resV, Nat.reduceEqDiff, ↓reduceIte, Nat.reduceAdd, Nat.reduceMul, Nat.reduceLeDiff, Nat.reduceLT, reduceCtorEq, labOk, Int.reduceBEq, Int.reduceBNe, Int.reduceToNat, Int.reduceLE, Int.reduceLT, Int.reduceEq, Nat.reduceDiv, Nat.reduceMod, Nat.reduceSub, Nat.reduceBEq, fitR, fitR1, fitR0, fitRL1, fitRL, y55, gMe, wcheckS, ofS, spreadXS, asI, hw, h1, sv3]
    by_cases h2 : 16777216 < m
    · have hE : lkE c l m = 1 := by rw [lkE, if_pos hw, if_neg (by omega)]
      have hV : msV c l m = sv3 0 0 0 := by rw [msV, if_neg (by omega)]
      rw [hE, hV]
      simp (config := { maxSteps := 9000000 }) only [↓vyD, vyU, binS, SV.go1, SV.go0, mkRow, intsOf, boolsOf, strsOf, chunks, Row.rep, Row.cat, Row.sub, Row.put, Row.len, Row.get, Row.size, Row.flat, bnds, own0, own1, labsL, labsR, SV.labs, argsOf, entFr, SO.ev, St.of, keepSt, getAll, lookN, hasN, SV.cells, SV.one, SV.res1, SV.res0, SV.resP, SV.ok1, SV.ok0, SV.okN, SV.solid, SV.solid1, SV.solid0, SV.flat0, SV.nm, SV.nm1, SV.nm0, SV.noPtr1, SV.noPtr0, Cel.isFresh, fillP, setAt, partV, eqCells, cellEq, gamY, listsOk, tupOf, takeOwn, SV.ret1, resAll, resL, resV, Nat.reduceEqDiff, ↓reduceIte, Nat.reduceAdd, Nat.reduceMul, Nat.reduceLeDiff, Nat.reduceLT, reduceCtorEq, labOk, Int.reduceBEq, Int.reduceBNe, Int.reduceToNat, Int.reduceLE, Int.reduceLT, Int.reduceEq, Nat.reduceDiv, Nat.reduceMod, Nat.reduceSub, Nat.reduceBEq, fitR, fitR1, fitR0, fitRL1, fitRL, y55, gMe, wcheckS, ofS, spreadXS, asI, hw, h1, h2, sv3]
    by_cases h3 : l.length = 0
    · have hE : lkE c l m = 4 := by rw [lkE, if_pos hw, if_pos (by omega), if_pos h3]
      have hV : msV c l m = sv3 0 0 0 := by rw [msV, if_neg (by omega)]
      rw [hE, hV]
      have h3' : ((l.length : Int) == 0) = true := by simp [h3]
      simp (config := { maxSteps := 9000000 }) only [↓vyD, vyU, binS, SV.go1, SV.go0, mkRow, intsOf, boolsOf, strsOf, chunks, Row.rep, Row.cat, Row.sub, Row.put, Row.len, Row.get, Row.size, Row.flat, bnds, own0, own1, labsL, labsR, SV.labs, argsOf, entFr, SO.ev, St.of, keepSt, getAll, lookN, hasN, SV.cells, SV.one, SV.res1, SV.res0, SV.resP, SV.ok1, SV.ok0, SV.okN, SV.solid, SV.solid1, SV.solid0, SV.flat0, SV.nm, SV.nm1, SV.nm0, SV.noPtr1, SV.noPtr0, Cel.isFresh, fillP, setAt, partV, eqCells, cellEq, gamY, listsOk, tupOf, takeOwn, SV.ret1, resAll, resL, resV, Nat.reduceEqDiff, ↓reduceIte, Nat.reduceAdd, Nat.reduceMul, Nat.reduceLeDiff, Nat.reduceLT, reduceCtorEq, labOk, Int.reduceBEq, Int.reduceBNe, Int.reduceToNat, Int.reduceLE, Int.reduceLT, Int.reduceEq, Nat.reduceDiv, Nat.reduceMod, Nat.reduceSub, Nat.reduceBEq, fitR, fitR1, fitR0, fitRL1, fitRL, y55, gMe, wcheckS, ofS, spreadXS, asI, hw, h1, h2, h3', sv3]
    · have hE : lkE c l m = 0 := lkE_0.2 ⟨hw, by omega, h3⟩
      have hV : msV c l m = sv3 l.length (sumL l) (scL l m) := by rw [msV, if_pos hE]
      rw [hE, hV]
      have hl := (winE_0.1 hw).2.2
      have h3' : ((l.length : Int) == 0) = false := beq_eq_false_iff_ne.2 (by omega)
      obtain ⟨b1, b2, b3, b4⟩ := sc_bd hl h3 (m := m) (by omega)
      have hk := check_of hl
      have ho := ofV_0 hl
      have w1 := i64_wrap (show I64 ((l.length : Int) * m) by unfold I64; omega)
      have w2 := i64_wrap (show I64 ((l.length : Int) * m * (l.length * m)) by unfold I64; omega)
      have hs : (if (l.length : Int) * m * (l.length * m) > l.length * sqL l - sumL l * sumL l then (l.length : Int) * m * (l.length * m) else l.length * sqL l - sumL l * sumL l) = scL l m := rfl
      simp (config := { maxSteps := 9000000 }) only [↓vyD, vyU, binS, SV.go1, SV.go0, mkRow, intsOf, boolsOf, strsOf, chunks, Row.rep, Row.cat, Row.sub, Row.put, Row.len, Row.get, Row.size, Row.flat, bnds, own0, own1, labsL, labsR, SV.labs, argsOf, entFr, SO.ev, St.of, keepSt, getAll, lookN, hasN, SV.cells, SV.one, SV.res1, SV.res0, SV.resP, SV.ok1, SV.ok0, SV.okN, SV.solid, SV.solid1, SV.solid0, SV.flat0, SV.nm, SV.nm1, SV.nm0, SV.noPtr1, SV.noPtr0, Cel.isFresh, fillP, setAt, partV, eqCells, cellEq, gamY, listsOk, tupOf, takeOwn, SV.ret1, resAll, resL, resV, Nat.reduceEqDiff, ↓reduceIte, Nat.reduceAdd, Nat.reduceMul, Nat.reduceLeDiff, Nat.reduceLT, reduceCtorEq, labOk, Int.reduceBEq, Int.reduceBNe, Int.reduceToNat, Int.reduceLE, Int.reduceLT, Int.reduceEq, Nat.reduceDiv, Nat.reduceMod, Nat.reduceSub, Nat.reduceBEq, fitR, fitR1, fitR0, fitRL1, fitRL, y55, gMe, wcheckS, ofS, spreadXS, asI, hw, h1, h2, h3', sv3, hl, hk, ho, w1, w2, gt_iff_lt]
      exact hs
  · have hE : lkE c l m = winE c l := by rw [lkE, if_neg hw]
    have hV : msV c l m = sv3 0 0 0 := by rw [msV, if_neg (by omega)]
    rw [hE, hV]
    have hw' : (winE c l != 0) = true := by simpa using hw
    simp (config := { maxSteps := 9000000 }) only [↓vyD, vyU, binS, SV.go1, SV.go0, mkRow, intsOf, boolsOf, strsOf, chunks, Row.rep, Row.cat, Row.sub, Row.put, Row.len, Row.get, Row.size, Row.flat, bnds, own0, own1, labsL, labsR, SV.labs, argsOf, entFr, SO.ev, St.of, keepSt, getAll, lookN, hasN, SV.cells, SV.one, SV.res1, SV.res0, SV.resP, SV.ok1, SV.ok0, SV.okN, SV.solid, SV.solid1, SV.solid0, SV.flat0, SV.nm, SV.nm1, SV.nm0, SV.noPtr1, SV.noPtr0, Cel.isFresh, fillP, setAt, partV, eqCells, cellEq, gamY, listsOk, tupOf, takeOwn, SV.ret1, resAll, resL, resV, Nat.reduceEqDiff, ↓reduceIte, Nat.reduceAdd, Nat.reduceMul, Nat.reduceLeDiff, Nat.reduceLT, reduceCtorEq, labOk, Int.reduceBEq, Int.reduceBNe, Int.reduceToNat, Int.reduceLE, Int.reduceLT, Int.reduceEq, Nat.reduceDiv, Nat.reduceMod, Nat.reduceSub, Nat.reduceBEq, fitR, fitR1, fitR0, fitRL1, fitRL, y55, gMe, wcheckS, ofS, spreadXS, asI, hw', sv3]
def ofE (c : Int) (l : List Int) (m t : Int) : Int := if lkE c l m = 0 then (if 0 ≤ t ∧ t ≤ 1073741824 then 0 else 1) else lkE c l m
def ofN (c : Int) (l : List Int) (m t : Int) : Nat := if ofE c l m t = 0 then lvN l.length (sumL l) (scL l m) t else 0
theorem ofE_0 {c : Int} {l : List Int} {m t : Int} : ofE c l m t = 0 ↔ lkE c l m = 0 ∧ 0 ≤ t ∧ t ≤ 1073741824 := by
  unfold ofE
  by_cases h : lkE c l m = 0
  · rw [if_pos h]; split <;> omega
  · rw [if_neg h]; omega
theorem lv_cond {c : Int} {l : List Int} {m : Int} (h : lkE c l m = 0) : (0 ≤ (l.length : Int) ∧ (l.length : Int) ≤ 64) ∧ (0 ≤ sumL l ∧ sumL l ≤ 1073741824) ∧ 1 ≤ scL l m ∧ scL l m ≤ 1152921504606846976 := by
  obtain ⟨h1, h2, h3⟩ := lkE_0.1 h
  have hl := (winE_0.1 h1).2.2
  obtain ⟨b1, b2, b3, b4⟩ := sc_bd hl h3 h2
  obtain ⟨q1, q2, q3, q4⟩ := checkE_0.1 (check_of hl)
  exact ⟨by omega, by omega, b4⟩
def gOf : List (Nat × Say) := [(55, measS), (56, lvAS)]
theorem gOf_ok : GamOk Try.prog (gamY gOf) := gam_ok (gam_cons meas_ok (gam_cons lvA_ok gam_nil))
def lofS : Say
  | [.agg [.int .i64 c, x_l], .int .i64 m, .int .i64 t] => (match asI x_l with | some l => some (True, .tup [.int .i64 (ofN c l m t : Nat), .int .i64 (ofE c l m t)], none) | _ => none)
  | _ => none
theorem lof_ok : FOk Try.prog 24 lofS := by
  intro xs p r own h hp
  unfold lofS at h
  split at h
  case h_2 => cases h
  rename_i c x_l m t
  split at h
  case h_2 => cases h
  rename_i l h_l
  simp only [Option.some.injEq, Prod.mk.injEq] at h
  obtain ⟨rfl, rfl, rfl⟩ := h
  refine fun_fit (ys := [.agg [.int .i64 c, .rw (.ints .i64 l)], .int .i64 m, .int .i64 t]) ?_ ⟨⟨rfl, asI_fit0 h_l, trivial⟩, fit_refl1 _ (by simp), fit_refl1 _ (by simp), trivial⟩
  clear h_l
  refine fun_ok gOf_ok lawy_mixed y24_eq none ?_ (Nat.le_of_ble_eq_true rfl)
  by_cases h : lkE c l m = 0
  · have hV : msV c l m = sv3 l.length (sumL l) (scL l m) := by rw [msV, if_pos h]
    obtain ⟨c1, c2, c3⟩ := lv_cond h
    by_cases t1 : t < 0
    · have hE : ofE c l m t = 1 := by rw [ofE, if_pos h, if_neg (by omega)]
      have hN : ofN c l m t = 0 := if_neg (by omega)
      simp (config := { maxSteps := 9000000 }) only [↓vyD, vyU, binS, SV.go1, SV.go0, mkRow, intsOf, boolsOf, strsOf, chunks, Row.rep, Row.cat, Row.sub, Row.put, Row.len, Row.get, Row.size, Row.flat, bnds, own0, own1, labsL, labsR, SV.labs, argsOf, entFr, SO.ev, St.of, keepSt, getAll, lookN, hasN, SV.cells, SV.one, SV.res1, SV.res0, SV.resP, SV.ok1, SV.ok0, SV.okN, SV.solid, SV.solid1, SV.solid0, SV.flat0, SV.nm, SV.nm1, SV.nm0, SV.noPtr1, SV.noPtr0, Cel.isFresh, fillP, setAt, partV, eqCells, cellEq, gamY, listsOk, tupOf, takeOwn, SV.ret1, resAll, resL, resV, Nat.reduceEqDiff, ↓reduceIte, Nat.reduceAdd, Nat.reduceMul, Nat.reduceLeDiff, Nat.reduceLT, reduceCtorEq, labOk, Int.reduceBEq, Int.reduceBNe, Int.reduceToNat, Int.reduceLE, Int.reduceLT, Int.reduceEq, Nat.reduceDiv, Nat.reduceMod, Nat.reduceSub, Nat.reduceBEq, fitR, fitR1, fitR0, fitRL1, fitRL, y24, gOf, measS, lvAS, asI, h, hV, hE, hN, t1, sv3, Int.natCast_zero, Int.ofNat_zero]
    by_cases t2 : 1073741824 < t
    · have hE : ofE c l m t = 1 := by rw [ofE, if_pos h, if_neg (by omega)]
      have hN : ofN c l m t = 0 := if_neg (by omega)
      simp (config := { maxSteps := 9000000 }) only [↓vyD, vyU, binS, SV.go1, SV.go0, mkRow, intsOf, boolsOf, strsOf, chunks, Row.rep, Row.cat, Row.sub, Row.put, Row.len, Row.get, Row.size, Row.flat, bnds, own0, own1, labsL, labsR, SV.labs, argsOf, entFr, SO.ev, St.of, keepSt, getAll, lookN, hasN, SV.cells, SV.one, SV.res1, SV.res0, SV.resP, SV.ok1, SV.ok0, SV.okN, SV.solid, SV.solid1, SV.solid0, SV.flat0, SV.nm, SV.nm1, SV.nm0, SV.noPtr1, SV.noPtr0, Cel.isFresh, fillP, setAt, partV, eqCells, cellEq, gamY, listsOk, tupOf, takeOwn, SV.ret1, resAll, resL, resV, Nat.reduceEqDiff, ↓reduceIte, Nat.reduceAdd, Nat.reduceMul, Nat.reduceLeDiff, Nat.reduceLT, reduceCtorEq, labOk, Int.reduceBEq, Int.reduceBNe, Int.reduceToNat, Int.reduceLE, Int.reduceLT, Int.reduceEq, Nat.reduceDiv, Nat.reduceMod, Nat.reduceSub, Nat.reduceBEq, fitR, fitR1, fitR0, fitRL1, fitRL, y24, gOf, measS, lvAS, asI, h, hV, hE, hN, t1, t2, sv3, Int.natCast_zero, Int.ofNat_zero]
    · have hE : ofE c l m t = 0 := ofE_0.2 ⟨h, by omega⟩
      have hN : ofN c l m t = lvN l.length (sumL l) (scL l m) t := if_pos hE
      have t3 : 0 ≤ t ∧ t ≤ 1073741824 := by omega
      generalize hS : sumL l = S at *
      generalize hC : scL l m = C at *
      simp (config := { maxSteps := 9000000 }) only [↓vyD, vyU, binS, SV.go1, SV.go0, mkRow, intsOf, boolsOf, strsOf, chunks, Row.rep, Row.cat, Row.sub, Row.put, Row.len, Row.get, Row.size, Row.flat, bnds, own0, own1, labsL, labsR, SV.labs, argsOf, entFr, SO.ev, St.of, keepSt, getAll, lookN, hasN, SV.cells, SV.one, SV.res1, SV.res0, SV.resP, SV.ok1, SV.ok0, SV.okN, SV.solid, SV.solid1, SV.solid0, SV.flat0, SV.nm, SV.nm1, SV.nm0, SV.noPtr1, SV.noPtr0, Cel.isFresh, fillP, setAt, partV, eqCells, cellEq, gamY, listsOk, tupOf, takeOwn, SV.ret1, resAll, resL, resV, Nat.reduceEqDiff, ↓reduceIte, Nat.reduceAdd, Nat.reduceMul, Nat.reduceLeDiff, Nat.reduceLT, reduceCtorEq, labOk, Int.reduceBEq, Int.reduceBNe, Int.reduceToNat, Int.reduceLE, Int.reduceLT, Int.reduceEq, Nat.reduceDiv, Nat.reduceMod, Nat.reduceSub, Nat.reduceBEq, fitR, fitR1, fitR0, fitRL1, fitRL, y24, gOf, measS, lvAS, asI, h, hV, hE, hN, t1, t2, t3, sv3, c1, c2, c3]
  · have hV : msV c l m = sv3 0 0 0 := by rw [msV, if_neg h]
    have hE : ofE c l m t = lkE c l m := by rw [ofE, if_neg h]
    have hN : ofN c l m t = 0 := if_neg (by omega)
    have h' : (lkE c l m != 0) = true := by simpa using h
    simp (config := { maxSteps := 9000000 }) only [↓vyD, vyU, binS, SV.go1, SV.go0, mkRow, intsOf, boolsOf, strsOf, chunks, Row.rep, Row.cat, Row.sub, Row.put, Row.len, Row.get, Row.size, Row.flat, bnds, own0, own1, labsL, labsR, SV.labs, argsOf, entFr, SO.ev, St.of, keepSt, getAll, lookN, hasN, SV.cells, SV.one, SV.res1, SV.res0, SV.resP, SV.ok1, SV.ok0, SV.okN, SV.solid, SV.solid1, SV.solid0, SV.flat0, SV.nm, SV.nm1, SV.nm0, SV.noPtr1, SV.noPtr0, Cel.isFresh, fillP, setAt, partV, eqCells, cellEq, gamY, listsOk, tupOf, takeOwn, SV.ret1, resAll, resL, resV, Nat.reduceEqDiff, ↓reduceIte, Nat.reduceAdd, Nat.reduceMul, Nat.reduceLeDiff, Nat.reduceLT, reduceCtorEq, labOk, Int.reduceBEq, Int.reduceBNe, Int.reduceToNat, Int.reduceLE, Int.reduceLT, Int.reduceEq, Nat.reduceDiv, Nat.reduceMod, Nat.reduceSub, Nat.reduceBEq, fitR, fitR1, fitR0, fitRL1, fitRL, y24, gOf, measS, lvAS, asI, h', hV, hE, hN, sv3, Int.natCast_zero, Int.ofNat_zero]
end Go.Proofs.Ytidafhjdpklgbaa
