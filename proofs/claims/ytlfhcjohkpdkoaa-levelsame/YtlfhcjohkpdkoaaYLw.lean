/- Levels: arithmetic; what the functions of level do; the statements' helpers on levels. -/
import Derived.Test.YtlfhcjohkpdkoaaYM5
import Derived.Test.YtlfhcjohkpdkoaaYRt
import Derived.Test.YtlfhcjohkpdkoaaYW5
import Derived.Test.YtlfhcjohkpdkoaaYK3
import Derived.Test.YtlfhcjohkpdkoaaCS9
namespace Go.Proofs.Ytlfhcjohkpdkoaa
open Go.ChangeShapes Go.WideShapes Go.ChangeAt Go.RowKit Go.Joins Y
set_option linter.unusedSimpArgs false
set_option linter.unusedVariables false
set_option maxRecDepth 100000
set_option maxHeartbeats 40000000
theorem halv_ge {a b k : Nat} (hb : b ≠ 0) (hba : b ≤ a) : k ≤ halvN a b ↔ b * 2 ^ k ≤ a := by
  obtain ⟨g1, g2⟩ := halvN_spec hb hba
  constructor
  · intro h
    exact Nat.le_trans (Nat.mul_le_mul_left b (Nat.pow_le_pow_right (by omega) h)) g1
  · intro h
    refine Nat.le_of_not_lt fun hh => ?_
    have := Nat.mul_le_mul_left b (Nat.pow_le_pow_right (show 0 < 2 by omega) (show halvN a b + 1 ≤ k by omega))
    omega
/-- The level of n intervals whose sum is s, on the scale c, after t ticks. -/
def lvN (n s c t : Int) : Nat := if n * t - s ≤ 0 then 0 else halvN ((n * t - s).toNat * (n * t - s).toNat + c.toNat) c.toNat
theorem lv_ge {n s c t : Int} {k : Nat} (hc : 0 < c) (hk : 1 ≤ k) : k ≤ lvN n s c t ↔ 0 < n * t - s ∧ c * 2 ^ k ≤ (n * t - s) * (n * t - s) + c := by
  unfold lvN
  by_cases hd : n * t - s ≤ 0
  · rw [if_pos hd]; omega
  · rw [if_neg hd]
    obtain ⟨D, hD⟩ := Int.eq_ofNat_of_zero_le (show 0 ≤ n * t - s by omega)
    obtain ⟨C, rfl⟩ := Int.eq_ofNat_of_zero_le (show 0 ≤ c by omega)
    rw [hD] at hd ⊢
    simp only [Int.toNat_natCast]
    rw [halv_ge (by omega) (by omega)]
    have e : ((C : Int) * 2 ^ k ≤ (D : Int) * D + C) ↔ C * 2 ^ k ≤ D * D + C := by
      rw [← Int.ofNat_le]; push_cast; rfl
    rw [e]
    omega
theorem lv_0 {n s c t : Int} (h : n * t ≤ s) : lvN n s c t = 0 := by unfold lvN; rw [if_pos (by omega)]
theorem lv_le_of {n s c t n' s' c' t' : Int} (hc : 0 < c) (hc' : 0 < c') (h : ∀ k : Nat, 0 < n * t - s → c * 2 ^ k ≤ (n * t - s) * (n * t - s) + c → 0 < n' * t' - s' ∧ c' * 2 ^ k ≤ (n' * t' - s') * (n' * t' - s') + c') : lvN n s c t ≤ lvN n' s' c' t' := by
  by_cases h0 : lvN n s c t = 0
  · omega
  · have h1 := (lv_ge (n := n) (s := s) (c := c) (t := t) hc (Nat.pos_of_ne_zero h0)).1 (Nat.le_refl _)
    exact (lv_ge hc' (Nat.pos_of_ne_zero h0)).2 (h _ h1.1 h1.2)
theorem pow_pos2 (k : Nat) : (1 : Int) ≤ 2 ^ k := by have : (0 : Int) < 2 ^ k := Int.pow_pos (by omega); omega
/-- The level never falls. -/
theorem lv_mono {n s c t u : Int} (hn : 0 ≤ n) (hc : 0 < c) (h : t ≤ u) : lvN n s c t ≤ lvN n s c u := by
  have h1 := Int.mul_le_mul_of_nonneg_left h hn
  exact lv_le_of hc hc fun k hd hk => ⟨by omega, by
    have := Int.mul_le_mul (show n * t - s ≤ n * u - s by omega) (show n * t - s ≤ n * u - s by omega) (by omega) (by omega)
    omega⟩
/-- A greater scale: no greater level. -/
theorem lv_scale {n s c d t : Int} (hc : 0 < c) (h : c ≤ d) : lvN n s d t ≤ lvN n s c t :=
  lv_le_of (by omega) hc fun k hd hk => ⟨hd, by
    have h1 := pow_pos2 k
    have h2 := Int.mul_le_mul_of_nonneg_right h (show 0 ≤ (2 : Int) ^ k - 1 by omega)
    rw [Int.mul_sub, Int.mul_sub] at h2
    omega⟩
/-- All of it m times as great: the same level. -/
theorem lv_times {n s c t n' s' c' t' m : Int} (hc : 0 < c) (hm : 0 < m) (h1 : n' * t' - s' = m * (n * t - s)) (h2 : c' = m * m * c) : lvN n' s' c' t' = lvN n s c t := by
  have hmm : 0 < m * m := Int.mul_pos hm hm
  have hc' : 0 < c' := by rw [h2]; exact Int.mul_pos hmm hc
  have e : ∀ k : Nat, c' * 2 ^ k ≤ (n' * t' - s') * (n' * t' - s') + c' ↔ c * 2 ^ k ≤ (n * t - s) * (n * t - s) + c := fun k => by
    rw [h1, h2]
    have e1 : m * m * c * 2 ^ k = m * m * (c * 2 ^ k) := by rw [Int.mul_assoc]
    have e2 : m * (n * t - s) * (m * (n * t - s)) + m * m * c = m * m * ((n * t - s) * (n * t - s) + c) := by grind
    rw [e1, e2]
    constructor
    · intro h; exact Int.le_of_mul_le_mul_left h hmm
    · intro h; exact Int.mul_le_mul_of_nonneg_left h (by omega)
  have p : 0 < n' * t' - s' ↔ 0 < n * t - s := by
    rw [h1]
    constructor
    · intro h
      refine Int.lt_of_not_ge fun hh => ?_
      have := Int.mul_le_mul_of_nonneg_left (show n * t - s ≤ 0 from hh) (show 0 ≤ m by omega)
      rw [Int.mul_zero] at this
      omega
    · intro h; exact Int.mul_pos hm h
  refine Nat.le_antisymm (lv_le_of hc' hc fun k a b => ⟨p.1 a, (e k).1 b⟩) (lv_le_of hc hc' fun k a b => ⟨p.2 a, (e k).2 b⟩)
theorem lv_60 {n s c t : Int} {k : Nat} (hc : 0 < c) (hk : c * 2 ^ k > (n * t - s) * (n * t - s) + c) (h1 : 1 ≤ k) : lvN n s c t < k := by
  refine Nat.lt_of_not_le fun hh => ?_
  have := ((lv_ge hc h1).1 hh).2
  omega
def gLa : List (Nat × Say) := [(92, pMulS), (86, wAddS), (38, halvS)]
theorem gLa_ok : GamOk Try.prog (gamY gLa) := gam_ok (gam_cons pMul_ok (gam_cons wAdd_ok (gam_cons halv_ok gam_nil)))
theorem lvA_in (n s c t : Int) (D C : Nat) (hn : 0 ≤ n * t ∧ n * t ≤ 68719476736) (hs : 0 ≤ s ∧ s ≤ 1073741824) (hD : n * t - s = D) (hD0 : 0 < D) (hc : c = C) (hC : 1 ≤ C ∧ C ≤ 1152921504606846976) : vcFun (gamY gLa) y70 [.agg [.int .i64 n, .int .i64 s, .int .i64 c], .int .i64 t] none fun v o => fitR v (.int .i64 ((halvN (D * D + C) C : Nat) : Int)) ∧ o = none := by
  subst hc
  have x1 := i64_wrap (show I64 (n * t) by unfold I64; omega)
  have x2 := i64_wrap (show I64 (D : Int) by unfold I64; omega)
  have n1 : ¬ (D : Int) ≤ 0 := by omega
  have e3 : IntKind.u64.wrap (D : Int) = D := u64_wrap (by unfold U64; omega)
  have e4 : IntKind.u64.wrap (C : Int) = C := u64_wrap (by unfold U64; omega)
  have w1 : Word D := by unfold Word; omega
  have w2 : Word C := by unfold Word; omega
  have hDD : D * D ≤ 68719476736 * 68719476736 := Nat.mul_le_mul (by omega) (by omega)
  have f1 : Fits (D * D) := fits_lt.2 (by omega)
  have f3 : Fits (D * D + C) := fits_lt.2 (by omega)
  have f4 : Fits C := fits_lt.2 (by omega)
  have a1 : wAddN (D * D) C = D * D + C := if_pos (by omega)
  generalize hX : D * D = X at *
  generalize hH : halvN (X + C) C = H at *
  simp (config := { maxSteps := 9000000 }) only [↓vyD, vyU, binS, SV.go1, SV.go0, mkRow, intsOf, boolsOf, strsOf, chunks, Row.rep, Row.cat, Row.sub, Row.put, Row.len, Row.get, Row.size, Row.flat, bnds, own0, own1, labsL, labsR, SV.labs, argsOf, entFr, SO.ev, St.of, keepSt, getAll, lookN, hasN, SV.cells, SV.one, SV.res1, SV.res0, SV.resP, SV.ok1, SV.ok0, SV.okN, SV.solid, SV.solid1, SV.solid0, SV.flat0, SV.nm, SV.nm1, SV.nm0, SV.noPtr1, SV.noPtr0, Cel.isFresh, fillP, setAt, partV, eqCells, cellEq, gamY, listsOk, tupOf, takeOwn, SV.ret1, resAll, resL, resV, Nat.reduceEqDiff, ↓reduceIte, Nat.reduceAdd, Nat.reduceMul, Nat.reduceLeDiff, Nat.reduceLT, reduceCtorEq, labOk, Int.reduceBEq, Int.reduceBNe, Int.reduceToNat, Int.reduceLE, Int.reduceLT, Int.reduceEq, Nat.reduceDiv, Nat.reduceMod, Nat.reduceSub, Nat.reduceBEq, fitR, fitR1, fitR0, fitRL1, fitRL, wd, wN_hl, OkW_hl, eq_hl, eq_h0, wN_0, OkW_0, cmpN_le0, cmpN_gt0, cmpN_lt0, cmpN_ge0, Int.toNat_natCast, y70, gLa, pMulS, wAddS, halvS, x1, x2, hD, n1, e3, e4, w1, w2, hX, f1, f3, f4, a1, hH]
def lvAS : Say
  | [.agg [.int .i64 n, .int .i64 s, .int .i64 c], .int .i64 t] => some ((0 ≤ n ∧ n ≤ 64) ∧ (0 ≤ s ∧ s ≤ 1073741824) ∧ (1 ≤ c ∧ c ≤ 1152921504606846976) ∧ (0 ≤ t ∧ t ≤ 1073741824), .int .i64 (lvN n s c t : Nat), none)
  | _ => none
theorem lvA_ok : FOk Try.prog 70 lvAS := by
  intro xs p r own h hp
  unfold lvAS at h
  split at h
  case h_2 => cases h
  rename_i n s c t
  simp only [Option.some.injEq, Prod.mk.injEq] at h
  obtain ⟨rfl, rfl, rfl⟩ := h
  refine fun_ok gLa_ok lawy_mixed y70_eq none ?_ (Nat.le_of_ble_eq_true rfl)
  obtain ⟨⟨h1, h2⟩, hs, ⟨h5, h6⟩, h7, h8⟩ := hp
  have hn := mul_bd h1 h2 h7 h8
  by_cases hd : n * t - s ≤ 0
  · have hV : lvN n s c t = 0 := if_pos hd
    have x1 := i64_wrap (show I64 (n * t) by unfold I64; omega)
    have x2 := i64_wrap (show I64 (n * t - s) by unfold I64; omega)
    simp (config := { maxSteps := 9000000 }) only [↓vyD, vyU, binS, SV.go1, SV.go0, mkRow, intsOf, boolsOf, strsOf, chunks, Row.rep, Row.cat, Row.sub, Row.put, Row.len, Row.get, Row.size, Row.flat, bnds, own0, own1, labsL, labsR, SV.labs, argsOf, entFr, SO.ev, St.of, keepSt, getAll, lookN, hasN, SV.cells, SV.one, SV.res1, SV.res0, SV.resP, SV.ok1, SV.ok0, SV.okN, SV.solid, SV.solid1, SV.solid0, SV.flat0, SV.nm, SV.nm1, SV.nm0, SV.noPtr1, SV.noPtr0, Cel.isFresh, fillP, setAt, partV, eqCells, cellEq, gamY, listsOk, tupOf, takeOwn, SV.ret1, resAll, resL, resV, Nat.reduceEqDiff, ↓reduceIte, Nat.reduceAdd, Nat.reduceMul, Nat.reduceLeDiff, Nat.reduceLT, reduceCtorEq, labOk, Int.reduceBEq, Int.reduceBNe, Int.reduceToNat, Int.reduceLE, Int.reduceLT, Int.reduceEq, Nat.reduceDiv, Nat.reduceMod, Nat.reduceSub, Nat.reduceBEq, fitR, fitR1, fitR0, fitRL1, fitRL, wd, wN_hl, OkW_hl, eq_hl, eq_h0, wN_0, OkW_0, cmpN_le0, cmpN_gt0, cmpN_lt0, cmpN_ge0, Int.toNat_natCast, y70, gLa, pMulS, wAddS, halvS, x1, x2, hd, hV, Int.natCast_zero, Int.ofNat_zero]
  · obtain ⟨D, hD⟩ := Int.eq_ofNat_of_zero_le (show 0 ≤ n * t - s by omega)
    obtain ⟨C, hC⟩ := Int.eq_ofNat_of_zero_le (show 0 ≤ c by omega)
    have hV : lvN n s c t = halvN (D * D + C) C := by unfold lvN; rw [if_neg hd, hD, hC]; rfl
    rw [hV]
    exact lvA_in n s c t D C (by omega) hs hD (by omega) hC (by omega)
/-- The scale: the greater of the spread and the square of the least deviation's sum. -/
def scL (l : List Int) (m : Int) : Int := if (l.length : Int) * m * (l.length * m) > l.length * sqL l - sumL l * sumL l then (l.length : Int) * m * (l.length * m) else l.length * sqL l - sumL l * sumL l
theorem sc_bd {l : List Int} {m : Int} (hl : listE l = 0) (h0 : l.length ≠ 0) (hm : 1 ≤ m ∧ m ≤ 16777216) : (1 ≤ (l.length : Int) * m ∧ (l.length : Int) * m ≤ 1073741824) ∧ (1 ≤ (l.length : Int) * m * (l.length * m) ∧ (l.length : Int) * m * (l.length * m) ≤ 1152921504606846976) ∧ (0 ≤ l.length * sqL l - sumL l * sumL l ∧ l.length * sqL l - sumL l * sumL l ≤ 1152921504606846976) ∧ 1 ≤ scL l m ∧ scL l m ≤ 1152921504606846976 := by
  obtain ⟨h64, hv⟩ := listE_0.1 hl
  have h1 := mul_bd (x := (l.length : Int)) (y := m) (X := 64) (Y := 16777216) (by omega) (by omega) (by omega) hm.2
  have h2 : 1 ≤ (l.length : Int) * m := by
    have := Int.mul_pos (show (0 : Int) < l.length by omega) (show 0 < m by omega)
    omega
  have h3 := mul_bd (x := (l.length : Int) * m) (y := (l.length : Int) * m) (X := 1073741824) (Y := 1073741824) (by omega) (by omega) (by omega) (by omega)
  have h4 : 1 ≤ (l.length : Int) * m * (l.length * m) := by
    have := Int.mul_pos (show (0 : Int) < l.length * m by omega) (show (0 : Int) < l.length * m by omega)
    omega
  have h5 := pairL_bd h64 hv
  rw [← lagrange] at h5
  refine ⟨by omega, by omega, h5, ?_⟩
  unfold scL
  split <;> omega
def lkE (c : Int) (l : List Int) (m : Int) : Int := if winE c l = 0 then (if 1 ≤ m ∧ m ≤ 16777216 then (if l.length = 0 then 4 else 0) else 1) else winE c l
theorem lkE_0 {c : Int} {l : List Int} {m : Int} : lkE c l m = 0 ↔ winE c l = 0 ∧ (1 ≤ m ∧ m ≤ 16777216) ∧ l.length ≠ 0 := by
  unfold lkE
  by_cases h : winE c l = 0
  · rw [if_pos h]
    by_cases h1 : 1 ≤ m ∧ m ≤ 16777216
    · rw [if_pos h1]
      by_cases h2 : l.length = 0
      · rw [if_pos h2]; simp [h2]
      · rw [if_neg h2]; simp [h, h1, h2]
    · rw [if_neg h1]; simp [h1]
  · rw [if_neg h]; simp [h]
def msV (c : Int) (l : List Int) (m : Int) : SV := if lkE c l m = 0 then sv3 l.length (sumL l) (scL l m) else sv3 0 0 0
def gMe : List (Nat × Say) := [(74, wcheckS), (49, ofS), (91, spreadXS)]
theorem gMe_ok : GamOk Try.prog (gamY gMe) := gam_ok (gam_cons wcheck_ok (gam_cons of_ok (gam_cons spreadX_ok gam_nil)))
def measS : Say
  | [.agg [.int .i64 c, x_l], .int .i64 m] => (match asI x_l with | some l => some (True, .tup [msV c l m, .int .i64 (lkE c l m)], none) | _ => none)
  | _ => none
theorem meas_ok : FOk Try.prog 69 measS := by
  intro xs p r own h hp
  unfold measS at h
  split at h
  case h_2 => cases h
  rename_i c x_l m
  split at h
  case h_2 => cases h
  rename_i l h_l
  simp only [Option.some.injEq, Prod.mk.injEq] at h
  obtain ⟨rfl, rfl, rfl⟩ := h
  refine fun_fit (ys := [.agg [.int .i64 c, .rw (.ints .i64 l)], .int .i64 m]) ?_ ⟨⟨rfl, asI_fit0 h_l, trivial⟩, fit_refl1 _ (by simp), trivial⟩
  clear h_l
  refine fun_ok gMe_ok lawy_mixed y69_eq none ?_ (Nat.le_of_ble_eq_true rfl)
  by_cases hw : winE c l = 0
  · by_cases h1 : m < 1
    · have hE : lkE c l m = 1 := by rw [lkE, if_pos hw, if_neg (by omega)]
      have hV : msV c l m = sv3 0 0 0 := by rw [msV, if_neg (by omega)]
      rw [hE, hV]
      simp (config := { maxSteps := 9000000 }) only [↓vyD, vyU, binS, SV.go1, SV.go0, mkRow, intsOf, boolsOf, strsOf, chunks, Row.rep, Row.cat, Row.sub, Row.put, Row.len, Row.get, Row.size, Row.flat, bnds, own0, own1, labsL, labsR, SV.labs, argsOf, entFr, SO.ev, St.of, keepSt, getAll, lookN, hasN, SV.cells, SV.one, SV.res1, SV.res0, SV.resP, SV.ok1, SV.ok0, SV.okN, SV.solid, SV.solid1, SV.solid0, SV.flat0, SV.nm, SV.nm1, SV.nm0, SV.noPtr1, SV.noPtr0, Cel.isFresh, fillP, setAt, partV, eqCells, cellEq, gamY, listsOk, tupOf, takeOwn, SV.ret1, resAll, resL, resV, Nat.reduceEqDiff, ↓reduceIte, Nat.reduceAdd, Nat.reduceMul, Nat.reduceLeDiff, Nat.reduceLT, reduceCtorEq, labOk, Int.reduceBEq, Int.reduceBNe, Int.reduceToNat, Int.reduceLE, Int.reduceLT, Int.reduceEq, Nat.reduceDiv, Nat.reduceMod, Nat.reduceSub, Nat.reduceBEq, fitR, fitR1, fitR0, fitRL1, fitRL, y69, gMe, wcheckS, ofS, spreadXS, asI, hw, h1, sv3]
    by_cases h2 : 16777216 < m
    · have hE : lkE c l m = 1 := by rw [lkE, if_pos hw, if_neg (by omega)]
      have hV : msV c l m = sv3 0 0 0 := by rw [msV, if_neg (by omega)]
      rw [hE, hV]
      simp (config := { maxSteps := 9000000 }) only [↓vyD, vyU, binS, SV.go1, SV.go0, mkRow, intsOf, boolsOf, strsOf, chunks, Row.rep, Row.cat, Row.sub, Row.put, Row.len, Row.get, Row.size, Row.flat, bnds, own0, own1, labsL, labsR, SV.labs, argsOf, entFr, SO.ev, St.of, keepSt, getAll, lookN, hasN, SV.cells, SV.one, SV.res1, SV.res0, SV.resP, SV.ok1, SV.ok0, SV.okN, SV.solid, SV.solid1, SV.solid0, SV.flat0, SV.nm, SV.nm1, SV.nm0, SV.noPtr1, SV.noPtr0, Cel.isFresh, fillP, setAt, partV, eqCells, cellEq, gamY, listsOk, tupOf, takeOwn, SV.ret1, resAll, resL, resV, Nat.reduceEqDiff, ↓reduceIte, Nat.reduceAdd, Nat.reduceMul, Nat.reduceLeDiff, Nat.reduceLT, reduceCtorEq, labOk, Int.reduceBEq, Int.reduceBNe, Int.reduceToNat, Int.reduceLE, Int.reduceLT, Int.reduceEq, Nat.reduceDiv, Nat.reduceMod, Nat.reduceSub, Nat.reduceBEq, fitR, fitR1, fitR0, fitRL1, fitRL, y69, gMe, wcheckS, ofS, spreadXS, asI, hw, h1, h2, sv3]
    by_cases h3 : l.length = 0
    · have hE : lkE c l m = 4 := by rw [lkE, if_pos hw, if_pos (by omega), if_pos h3]
      have hV : msV c l m = sv3 0 0 0 := by rw [msV, if_neg (by omega)]
      rw [hE, hV]
      have h3' : ((l.length : Int) == 0) = true := by simp [h3]
      simp (config := { maxSteps := 9000000 }) only [↓vyD, vyU, binS, SV.go1, SV.go0, mkRow, intsOf, boolsOf, strsOf, chunks, Row.rep, Row.cat, Row.sub, Row.put, Row.len, Row.get, Row.size, Row.flat, bnds, own0, own1, labsL, labsR, SV.labs, argsOf, entFr, SO.ev, St.of, keepSt, getAll, lookN, hasN, SV.cells, SV.one, SV.res1, SV.res0, SV.resP, SV.ok1, SV.ok0, SV.okN, SV.solid, SV.solid1, SV.solid0, SV.flat0, SV.nm, SV.nm1, SV.nm0, SV.noPtr1, SV.noPtr0, Cel.isFresh, fillP, setAt, partV, eqCells, cellEq, gamY, listsOk, tupOf, takeOwn, SV.ret1, resAll, resL, resV, Nat.reduceEqDiff, ↓reduceIte, Nat.reduceAdd, Nat.reduceMul, Nat.reduceLeDiff, Nat.reduceLT, reduceCtorEq, labOk, Int.reduceBEq, Int.reduceBNe, Int.reduceToNat, Int.reduceLE, Int.reduceLT, Int.reduceEq, Nat.reduceDiv, Nat.reduceMod, Nat.reduceSub, Nat.reduceBEq, fitR, fitR1, fitR0, fitRL1, fitRL, y69, gMe, wcheckS, ofS, spreadXS, asI, hw, h1, h2, h3', sv3]
    · have hE : lkE c l m = 0 := lkE_0.2 ⟨hw, by omega, h3⟩
      have hV : msV c l m = sv3 l.length (sumL l) (scL l m) := by rw [msV, if_pos hE]
      rw [hE, hV]
      have hl := (winE_0.1 hw).2.2
      have h3' : ((l.length : Int) == 0) = false := beq_eq_false_iff_ne.2 (by omega)
      obtain ⟨b1, b2, b3, b4⟩ := sc_bd hl h3 (m := m) (by omega)
      have hk := check_of hl
      have ho := ofV_0 hl
      have w1 := i64_wrap (show I64 ((l.length : Int) * m) by unfold I64; omega)
      have w2 := i64_wrap (show I64 ((l.length : Int) * m * (l.length * m)) by unfold I64; omega)
      have hs : (if (l.length : Int) * m * (l.length * m) > l.length * sqL l - sumL l * sumL l then (l.length : Int) * m * (l.length * m) else l.length * sqL l - sumL l * sumL l) = scL l m := rfl
      simp (config := { maxSteps := 9000000 }) only [↓vyD, vyU, binS, SV.go1, SV.go0, mkRow, intsOf, boolsOf, strsOf, chunks, Row.rep, Row.cat, Row.sub, Row.put, Row.len, Row.get, Row.size, Row.flat, bnds, own0, own1, labsL, labsR, SV.labs, argsOf, entFr, SO.ev, St.of, keepSt, getAll, lookN, hasN, SV.cells, SV.one, SV.res1, SV.res0, SV.resP, SV.ok1, SV.ok0, SV.okN, SV.solid, SV.solid1, SV.solid0, SV.flat0, SV.nm, SV.nm1, SV.nm0, SV.noPtr1, SV.noPtr0, Cel.isFresh, fillP, setAt, partV, eqCells, cellEq, gamY, listsOk, tupOf, takeOwn, SV.ret1, resAll, resL, resV, Nat.reduceEqDiff, ↓reduceIte, Nat.reduceAdd, Nat.reduceMul, Nat.reduceLeDiff, Nat.reduceLT, reduceCtorEq, labOk, Int.reduceBEq, Int.reduceBNe, Int.reduceToNat, Int.reduceLE, Int.reduceLT, Int.reduceEq, Nat.reduceDiv, Nat.reduceMod, Nat.reduceSub, Nat.reduceBEq, fitR, fitR1, fitR0, fitRL1, fitRL, y69, gMe, wcheckS, ofS, spreadXS, asI, hw, h1, h2, h3', sv3, hl, hk, ho, w1, w2, gt_iff_lt]
      exact hs
  · have hE : lkE c l m = winE c l := by rw [lkE, if_neg hw]
    have hV : msV c l m = sv3 0 0 0 := by rw [msV, if_neg (by omega)]
    rw [hE, hV]
    have hw' : (winE c l != 0) = true := by simpa using hw
    simp (config := { maxSteps := 9000000 }) only [↓vyD, vyU, binS, SV.go1, SV.go0, mkRow, intsOf, boolsOf, strsOf, chunks, Row.rep, Row.cat, Row.sub, Row.put, Row.len, Row.get, Row.size, Row.flat, bnds, own0, own1, labsL, labsR, SV.labs, argsOf, entFr, SO.ev, St.of, keepSt, getAll, lookN, hasN, SV.cells, SV.one, SV.res1, SV.res0, SV.resP, SV.ok1, SV.ok0, SV.okN, SV.solid, SV.solid1, SV.solid0, SV.flat0, SV.nm, SV.nm1, SV.nm0, SV.noPtr1, SV.noPtr0, Cel.isFresh, fillP, setAt, partV, eqCells, cellEq, gamY, listsOk, tupOf, takeOwn, SV.ret1, resAll, resL, resV, Nat.reduceEqDiff, ↓reduceIte, Nat.reduceAdd, Nat.reduceMul, Nat.reduceLeDiff, Nat.reduceLT, reduceCtorEq, labOk, Int.reduceBEq, Int.reduceBNe, Int.reduceToNat, Int.reduceLE, Int.reduceLT, Int.reduceEq, Nat.reduceDiv, Nat.reduceMod, Nat.reduceSub, Nat.reduceBEq, fitR, fitR1, fitR0, fitRL1, fitRL, y69, gMe, wcheckS, ofS, spreadXS, asI, hw', sv3]
def olE (c : Int) (l : List Int) (m t : Int) : Int := if lkE c l m = 0 then (if 0 ≤ t ∧ t ≤ 1073741824 then 0 else 1) else lkE c l m
def olN (c : Int) (l : List Int) (m t : Int) : Nat := if olE c l m t = 0 then lvN l.length (sumL l) (scL l m) t else 0
theorem olE_0 {c : Int} {l : List Int} {m t : Int} : olE c l m t = 0 ↔ lkE c l m = 0 ∧ 0 ≤ t ∧ t ≤ 1073741824 := by
  unfold olE
  by_cases h : lkE c l m = 0
  · rw [if_pos h]; split <;> omega
  · rw [if_neg h]; omega
theorem lv_cond {c : Int} {l : List Int} {m : Int} (h : lkE c l m = 0) : (0 ≤ (l.length : Int) ∧ (l.length : Int) ≤ 64) ∧ (0 ≤ sumL l ∧ sumL l ≤ 1073741824) ∧ 1 ≤ scL l m ∧ scL l m ≤ 1152921504606846976 := by
  obtain ⟨h1, h2, h3⟩ := lkE_0.1 h
  have hl := (winE_0.1 h1).2.2
  obtain ⟨b1, b2, b3, b4⟩ := sc_bd hl h3 h2
  obtain ⟨q1, q2, q3, q4⟩ := checkE_0.1 (check_of hl)
  exact ⟨by omega, by omega, b4⟩
def gOf : List (Nat × Say) := [(69, measS), (70, lvAS)]
theorem gOf_ok : GamOk Try.prog (gamY gOf) := gam_ok (gam_cons meas_ok (gam_cons lvA_ok gam_nil))
def lofS : Say
  | [.agg [.int .i64 c, x_l], .int .i64 m, .int .i64 t] => (match asI x_l with | some l => some (True, .tup [.int .i64 (olN c l m t : Nat), .int .i64 (olE c l m t)], none) | _ => none)
  | _ => none
theorem lof_ok : FOk Try.prog 37 lofS := by
  intro xs p r own h hp
  unfold lofS at h
  split at h
  case h_2 => cases h
  rename_i c x_l m t
  split at h
  case h_2 => cases h
  rename_i l h_l
  simp only [Option.some.injEq, Prod.mk.injEq] at h
  obtain ⟨rfl, rfl, rfl⟩ := h
  refine fun_fit (ys := [.agg [.int .i64 c, .rw (.ints .i64 l)], .int .i64 m, .int .i64 t]) ?_ ⟨⟨rfl, asI_fit0 h_l, trivial⟩, fit_refl1 _ (by simp), fit_refl1 _ (by simp), trivial⟩
  clear h_l
  refine fun_ok gOf_ok lawy_mixed y37_eq none ?_ (Nat.le_of_ble_eq_true rfl)
  by_cases h : lkE c l m = 0
  · have hV : msV c l m = sv3 l.length (sumL l) (scL l m) := by rw [msV, if_pos h]
    obtain ⟨c1, c2, c3⟩ := lv_cond h
    by_cases t1 : t < 0
    · have hE : olE c l m t = 1 := by rw [olE, if_pos h, if_neg (by omega)]
      have hN : olN c l m t = 0 := if_neg (by omega)
      simp (config := { maxSteps := 9000000 }) only [↓vyD, vyU, binS, SV.go1, SV.go0, mkRow, intsOf, boolsOf, strsOf, chunks, Row.rep, Row.cat, Row.sub, Row.put, Row.len, Row.get, Row.size, Row.flat, bnds, own0, own1, labsL, labsR, SV.labs, argsOf, entFr, SO.ev, St.of, keepSt, getAll, lookN, hasN, SV.cells, SV.one, SV.res1, SV.res0, SV.resP, SV.ok1, SV.ok0, SV.okN, SV.solid, SV.solid1, SV.solid0, SV.flat0, SV.nm, SV.nm1, SV.nm0, SV.noPtr1, SV.noPtr0, Cel.isFresh, fillP, setAt, partV, eqCells, cellEq, gamY, listsOk, tupOf, takeOwn, SV.ret1, resAll, resL, resV, Nat.reduceEqDiff, ↓reduceIte, Nat.reduceAdd, Nat.reduceMul, Nat.reduceLeDiff, Nat.reduceLT, reduceCtorEq, labOk, Int.reduceBEq, Int.reduceBNe, Int.reduceToNat, Int.reduceLE, Int.reduceLT, Int.reduceEq, Nat.reduceDiv, Nat.reduceMod, Nat.reduceSub, Nat.reduceBEq, fitR, fitR1, fitR0, fitRL1, fitRL, y37, gOf, measS, lvAS, asI, h, hV, hE, hN, t1, sv3, Int.natCast_zero, Int.ofNat_zero]
    by_cases t2 : 1073741824 < t
    · have hE : olE c l m t = 1 := by rw [olE, if_pos h, if_neg (by omega)]
      have hN : olN c l m t = 0 := if_neg (by omega)
      simp (config := { maxSteps := 9000000 }) only [↓vyD, vyU, binS, SV.go1, SV.go0, mkRow, intsOf, boolsOf, strsOf, chunks, Row.rep, Row.cat, Row.sub, Row.put, Row.len, Row.get, Row.size, Row.flat, bnds, own0, own1, labsL, labsR, SV.labs, argsOf, entFr, SO.ev, St.of, keepSt, getAll, lookN, hasN, SV.cells, SV.one, SV.res1, SV.res0, SV.resP, SV.ok1, SV.ok0, SV.okN, SV.solid, SV.solid1, SV.solid0, SV.flat0, SV.nm, SV.nm1, SV.nm0, SV.noPtr1, SV.noPtr0, Cel.isFresh, fillP, setAt, partV, eqCells, cellEq, gamY, listsOk, tupOf, takeOwn, SV.ret1, resAll, resL, resV, Nat.reduceEqDiff, ↓reduceIte, Nat.reduceAdd, Nat.reduceMul, Nat.reduceLeDiff, Nat.reduceLT, reduceCtorEq, labOk, Int.reduceBEq, Int.reduceBNe, Int.reduceToNat, Int.reduceLE, Int.reduceLT, Int.reduceEq, Nat.reduceDiv, Nat.reduceMod, Nat.reduceSub, Nat.reduceBEq, fitR, fitR1, fitR0, fitRL1, fitRL, y37, gOf, measS, lvAS, asI, h, hV, hE, hN, t1, t2, sv3, Int.natCast_zero, Int.ofNat_zero]
    · have hE : olE c l m t = 0 := olE_0.2 ⟨h, by omega⟩
      have hN : olN c l m t = lvN l.length (sumL l) (scL l m) t := if_pos hE
      have t3 : 0 ≤ t ∧ t ≤ 1073741824 := by omega
      generalize hS : sumL l = S at *
      generalize hC : scL l m = C at *
      simp (config := { maxSteps := 9000000 }) only [↓vyD, vyU, binS, SV.go1, SV.go0, mkRow, intsOf, boolsOf, strsOf, chunks, Row.rep, Row.cat, Row.sub, Row.put, Row.len, Row.get, Row.size, Row.flat, bnds, own0, own1, labsL, labsR, SV.labs, argsOf, entFr, SO.ev, St.of, keepSt, getAll, lookN, hasN, SV.cells, SV.one, SV.res1, SV.res0, SV.resP, SV.ok1, SV.ok0, SV.okN, SV.solid, SV.solid1, SV.solid0, SV.flat0, SV.nm, SV.nm1, SV.nm0, SV.noPtr1, SV.noPtr0, Cel.isFresh, fillP, setAt, partV, eqCells, cellEq, gamY, listsOk, tupOf, takeOwn, SV.ret1, resAll, resL, resV, Nat.reduceEqDiff, ↓reduceIte, Nat.reduceAdd, Nat.reduceMul, Nat.reduceLeDiff, Nat.reduceLT, reduceCtorEq, labOk, Int.reduceBEq, Int.reduceBNe, Int.reduceToNat, Int.reduceLE, Int.reduceLT, Int.reduceEq, Nat.reduceDiv, Nat.reduceMod, Nat.reduceSub, Nat.reduceBEq, fitR, fitR1, fitR0, fitRL1, fitRL, y37, gOf, measS, lvAS, asI, h, hV, hE, hN, t1, t2, t3, sv3, c1, c2, c3]
  · have hV : msV c l m = sv3 0 0 0 := by rw [msV, if_neg h]
    have hE : olE c l m t = lkE c l m := by rw [olE, if_neg h]
    have hN : olN c l m t = 0 := if_neg (by omega)
    have h' : (lkE c l m != 0) = true := by simpa using h
    simp (config := { maxSteps := 9000000 }) only [↓vyD, vyU, binS, SV.go1, SV.go0, mkRow, intsOf, boolsOf, strsOf, chunks, Row.rep, Row.cat, Row.sub, Row.put, Row.len, Row.get, Row.size, Row.flat, bnds, own0, own1, labsL, labsR, SV.labs, argsOf, entFr, SO.ev, St.of, keepSt, getAll, lookN, hasN, SV.cells, SV.one, SV.res1, SV.res0, SV.resP, SV.ok1, SV.ok0, SV.okN, SV.solid, SV.solid1, SV.solid0, SV.flat0, SV.nm, SV.nm1, SV.nm0, SV.noPtr1, SV.noPtr0, Cel.isFresh, fillP, setAt, partV, eqCells, cellEq, gamY, listsOk, tupOf, takeOwn, SV.ret1, resAll, resL, resV, Nat.reduceEqDiff, ↓reduceIte, Nat.reduceAdd, Nat.reduceMul, Nat.reduceLeDiff, Nat.reduceLT, reduceCtorEq, labOk, Int.reduceBEq, Int.reduceBNe, Int.reduceToNat, Int.reduceLE, Int.reduceLT, Int.reduceEq, Nat.reduceDiv, Nat.reduceMod, Nat.reduceSub, Nat.reduceBEq, fitR, fitR1, fitR0, fitRL1, fitRL, y37, gOf, measS, lvAS, asI, h', hV, hE, hN, sv3, Int.natCast_zero, Int.ofNat_zero]
/-- The first of n places where p holds, from i on; else n. -/
def frst (p : Nat → Bool) : Nat → Nat → Nat
  | 0, i => i
  | f + 1, i => if p i then i else frst p f (i + 1)
theorem frst_is {p : Nat → Bool} : ∀ {f i r : Nat}, i ≤ r → r ≤ i + f → (∀ j, i ≤ j → j < r → p j = false) → (r < i + f → p r = true) → frst p f i = r
  | 0, i, r, h1, h2, _, _ => by rw [frst]; omega
  | f + 1, i, r, h1, h2, h3, h4 => by
    rw [frst]
    by_cases hi : i = r
    · subst hi
      rw [if_pos (h4 (by omega))]
    · rw [if_neg (by rw [h3 i (by omega) (by omega)]; simp)]
      exact frst_is (by omega) (by omega) (fun j a b => h3 j (by omega) b) (fun h => h4 (by omega))
theorem frst_spec {p : Nat → Bool} : ∀ (f i : Nat), i ≤ frst p f i ∧ frst p f i ≤ i + f ∧ (∀ j, i ≤ j → j < frst p f i → p j = false) ∧ (frst p f i < i + f → p (frst p f i) = true)
  | 0, i => by simp only [frst]; exact ⟨by omega, by omega, by omega, by omega⟩
  | f + 1, i => by
    rw [frst]
    by_cases hp : p i = true
    · rw [if_pos hp]; exact ⟨by omega, by omega, by omega, fun _ => hp⟩
    · rw [if_neg hp]
      obtain ⟨a, b, c, d⟩ := frst_spec (p := p) f (i + 1)
      refine ⟨by omega, by omega, fun j h1 h2 => ?_, fun h => d (by omega)⟩
      by_cases hj : j = i
      · subst hj; simpa using hp
      · exact c j (by omega) h2
/-- Has it come to q? -/
def lvP (n s c q : Int) (t : Nat) : Bool := decide (q ≤ (lvN n s c t : Nat))
/-- The first silence, up to 2^30, with that level. -/
def srL (n s c q : Int) : Nat := frst (lvP n s c q) 1073741825 0
theorem lvP_up {n s c q : Int} (hn : 0 ≤ n) (hc : 0 < c) {i j : Nat} (h : i ≤ j) (hp : lvP n s c q i = true) : lvP n s c q j = true := by
  have := lv_mono (n := n) (s := s) (c := c) (t := (i : Int)) (u := (j : Int)) hn hc (by omega)
  unfold lvP at *
  rw [decide_eq_true_eq] at *
  omega
def CondL (n s c : Int) : Prop := (0 ≤ n ∧ n ≤ 64) ∧ (0 ≤ s ∧ s ≤ 1073741824) ∧ (1 ≤ c ∧ c ≤ 1152921504606846976)
def whE (c : Int) (l : List Int) (m q : Int) : Int := if lkE c l m = 0 then (if 1 ≤ q ∧ q ≤ 60 then (if srL l.length (sumL l) (scL l m) q ≤ 1073741824 then 0 else 2) else 1) else lkE c l m
def whN (c : Int) (l : List Int) (m q : Int) : Nat := if whE c l m q = 0 then srL l.length (sumL l) (scL l m) q else 0
theorem whE_0 {c : Int} {l : List Int} {m q : Int} : whE c l m q = 0 ↔ lkE c l m = 0 ∧ (1 ≤ q ∧ q ≤ 60) ∧ srL l.length (sumL l) (scL l m) q ≤ 1073741824 := by
  unfold whE
  by_cases h : lkE c l m = 0
  · rw [if_pos h]
    by_cases h1 : 1 ≤ q ∧ q ≤ 60
    · rw [if_pos h1]; split <;> simp_all
    · rw [if_neg h1]; simp [h1]
  · rw [if_neg h]; simp [h]
theorem of_begun : olE 1 [2] 1 5 = 0 ∧ olN 1 [2] 1 5 = 3 := by
  have h1 : olE 1 [2] 1 5 = 0 := by decide
  refine ⟨h1, ?_⟩
  have h2 : scL [2] 1 = 1 := by decide
  have h3 : sumL [2] = 2 := by decide
  unfold olN
  rw [if_pos h1, h2, h3]
  have a1 := (lv_ge (n := 1) (s := 2) (c := 1) (t := 5) (k := 3) (by omega) (by omega)).2 ⟨by omega, by decide⟩
  have a2 := lv_60 (n := 1) (s := 2) (c := 1) (t := 5) (k := 4) (by omega) (by decide) (by omega)
  have e : (([2] : List Int).length : Int) = 1 := rfl
  rw [e]
  omega
def gLb : List (Nat × Say) := [(37, lofS)]
theorem gLb_ok : GamOk Try.prog (gamY gLb) := gam_ok (gam_cons lof_ok gam_nil)
def lbegunS : Say
  | [] => some (True, .bool true, none)
  | _ => none
theorem lbegun_ok : FOk Try.prog 36 lbegunS := by
  intro xs p r own h hp
  unfold lbegunS at h
  split at h
  case h_2 => cases h
  simp only [Option.some.injEq, Prod.mk.injEq] at h
  obtain ⟨rfl, rfl, rfl⟩ := h
  refine fun_ok gLb_ok lawy_mixed y36_eq none ?_ (Nat.le_of_ble_eq_true rfl)
  obtain ⟨h1, h2⟩ := of_begun
  simp (config := { maxSteps := 9000000 }) only [↓vyD, vyU, binS, SV.go1, SV.go0, mkRow, intsOf, boolsOf, strsOf, chunks, Row.rep, Row.cat, Row.sub, Row.put, Row.len, Row.get, Row.size, Row.flat, bnds, own0, own1, labsL, labsR, SV.labs, argsOf, entFr, SO.ev, St.of, keepSt, getAll, lookN, hasN, SV.cells, SV.one, SV.res1, SV.res0, SV.resP, SV.ok1, SV.ok0, SV.okN, SV.solid, SV.solid1, SV.solid0, SV.flat0, SV.nm, SV.nm1, SV.nm0, SV.noPtr1, SV.noPtr0, Cel.isFresh, fillP, setAt, partV, eqCells, cellEq, gamY, listsOk, tupOf, takeOwn, SV.ret1, resAll, resL, resV, Nat.reduceEqDiff, ↓reduceIte, Nat.reduceAdd, Nat.reduceMul, Nat.reduceLeDiff, Nat.reduceLT, reduceCtorEq, labOk, Int.reduceBEq, Int.reduceBNe, Int.reduceToNat, Int.reduceLE, Int.reduceLT, Int.reduceEq, Nat.reduceDiv, Nat.reduceMod, Nat.reduceSub, Nat.reduceBEq, fitR, fitR1, fitR0, fitRL1, fitRL, y36, gLb, lofS, asI, h1, h2]
end Go.Proofs.Ytlfhcjohkpdkoaa
