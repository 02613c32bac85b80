/- What the document's answers (hwref) do with lists of bits. -/
import Derived.Test.YtidafhjdpklgbaaDoorYBm
import Derived.Test.YtidafhjdpklgbaaDoorCBt
namespace Go.Proofs.YtidafhjdpklgbaaDoor
open Go.ChangeShapes Go.WideShapes Go.ChangeAt Go.RowKit Go.Joins Y
set_option linter.unusedSimpArgs false
set_option linter.unusedVariables false
set_option maxRecDepth 100000
set_option maxHeartbeats 40000000
def bitsS : Say
  | [.agg [.int .u64 x1, .int .u64 y1]] => some (OkW x1 y1, .rw (.bools (bitsL (wN x1 y1))), none)
  | _ => none
theorem bits_ok : FOk Tryd.prog 13 bitsS := by
  intro xs p r own h hp
  unfold bitsS at h
  split at h
  case h_2 => cases h
  rename_i x1 y1
  simp only [Option.some.injEq, Prod.mk.injEq] at h
  obtain ⟨rfl, rfl, rfl⟩ := h
  refine fun_ok (gam_ok gam_nil) lawy_mixed y13_eq none ?_ (Nat.le_of_ble_eq_true rfl)
  obtain ⟨ha, e1, e2⟩ := isW_wN hp
  generalize wN x1 y1 = a at *
  subst e1 e2
  have hb := bitLen_fits ha
  simp (config := { maxSteps := 9000000 }) only [↓vyD, vyU, binS, SV.go1, SV.go0, mkRow, intsOf, boolsOf, strsOf, chunks, Row.rep, Row.cat, Row.sub, Row.put, Row.len, Row.get, Row.size, Row.flat, bnds, own0, own1, labsL, labsR, SV.labs, argsOf, entFr, SO.ev, St.of, keepSt, getAll, lookN, hasN, SV.cells, SV.one, SV.res1, SV.res0, SV.resP, SV.ok1, SV.ok0, SV.okN, SV.solid, SV.solid1, SV.solid0, SV.flat0, SV.nm, SV.nm1, SV.nm0, SV.noPtr1, SV.noPtr0, Cel.isFresh, fillP, setAt, partV, eqCells, cellEq, gamY, listsOk, tupOf, takeOwn, SV.ret1, resAll, resL, resV, Nat.reduceEqDiff, ↓reduceIte, Nat.reduceAdd, Nat.reduceMul, Nat.reduceLeDiff, Nat.reduceLT, reduceCtorEq, labOk, Int.reduceBEq, Int.reduceBNe, Int.reduceToNat, Int.reduceLE, Int.reduceLT, Int.reduceEq, Nat.reduceDiv, Nat.reduceMod, Nat.reduceSub, Nat.reduceBEq, fitR, fitR1, fitR0, fitRL1, fitRL, wd, wN_hl, OkW_hl, eq_hl, eq_h0, wN_0, OkW_0, cmpN_le0, cmpN_gt0, cmpN_lt0, cmpN_ge0, Int.toNat_natCast, y13, ha]
  refine loopG_intro (ι := Nat) (fun i => [(1, .ptr 0 0), (3, .sl 1000 i)]) (fun i => [(0, .var 24 [.int .u64 (hiN (a / 2 ^ i)), .int .u64 (loN (a / 2 ^ i))]), (1000, .row i 4 (.bools (ofN i a)))])
    (fun i => i ≤ bitLen a) (fun i => bitLen a - i) ⟨0, by omega, ?_, ?_, ?_⟩ fun i hi => ?_
  · simp (config := { maxSteps := 9000000 }) only [↓vyD, vyU, binS, SV.go1, SV.go0, mkRow, intsOf, boolsOf, strsOf, chunks, Row.rep, Row.cat, Row.sub, Row.put, Row.len, Row.get, Row.size, Row.flat, bnds, own0, own1, labsL, labsR, SV.labs, argsOf, entFr, SO.ev, St.of, keepSt, getAll, lookN, hasN, SV.cells, SV.one, SV.res1, SV.res0, SV.resP, SV.ok1, SV.ok0, SV.okN, SV.solid, SV.solid1, SV.solid0, SV.flat0, SV.nm, SV.nm1, SV.nm0, SV.noPtr1, SV.noPtr0, Cel.isFresh, fillP, setAt, partV, eqCells, cellEq, gamY, listsOk, tupOf, takeOwn, SV.ret1, resAll, resL, resV, Nat.reduceEqDiff, ↓reduceIte, Nat.reduceAdd, Nat.reduceMul, Nat.reduceLeDiff, Nat.reduceLT, reduceCtorEq, labOk, Int.reduceBEq, Int.reduceBNe, Int.reduceToNat, Int.reduceLE, Int.reduceLT, Int.reduceEq, Nat.reduceDiv, Nat.reduceMod, Nat.reduceSub, Nat.reduceBEq, fitR, fitR1, fitR0, fitRL1, fitRL, wd, wN_hl, OkW_hl, eq_hl, eq_h0, wN_0, OkW_0, cmpN_le0, cmpN_gt0, cmpN_lt0, cmpN_ge0, Int.toNat_natCast, ha]
  · simp (config := { maxSteps := 9000000 }) only [↓vyD, vyU, binS, SV.go1, SV.go0, mkRow, intsOf, boolsOf, strsOf, chunks, Row.rep, Row.cat, Row.sub, Row.put, Row.len, Row.get, Row.size, Row.flat, bnds, own0, own1, labsL, labsR, SV.labs, argsOf, entFr, SO.ev, St.of, keepSt, getAll, lookN, hasN, SV.cells, SV.one, SV.res1, SV.res0, SV.resP, SV.ok1, SV.ok0, SV.okN, SV.solid, SV.solid1, SV.solid0, SV.flat0, SV.nm, SV.nm1, SV.nm0, SV.noPtr1, SV.noPtr0, Cel.isFresh, fillP, setAt, partV, eqCells, cellEq, gamY, listsOk, tupOf, takeOwn, SV.ret1, resAll, resL, resV, Nat.reduceEqDiff, ↓reduceIte, Nat.reduceAdd, Nat.reduceMul, Nat.reduceLeDiff, Nat.reduceLT, reduceCtorEq, labOk, Int.reduceBEq, Int.reduceBNe, Int.reduceToNat, Int.reduceLE, Int.reduceLT, Int.reduceEq, Nat.reduceDiv, Nat.reduceMod, Nat.reduceSub, Nat.reduceBEq, fitR, fitR1, fitR0, fitRL1, fitRL, wd, wN_hl, OkW_hl, eq_hl, eq_h0, wN_0, OkW_0, cmpN_le0, cmpN_gt0, cmpN_lt0, cmpN_ge0, Int.toNat_natCast, ha]
  · simp (config := { maxSteps := 9000000 }) only [↓vyD, vyU, binS, SV.go1, SV.go0, mkRow, intsOf, boolsOf, strsOf, chunks, Row.rep, Row.cat, Row.sub, Row.put, Row.len, Row.get, Row.size, Row.flat, bnds, own0, own1, labsL, labsR, SV.labs, argsOf, entFr, SO.ev, St.of, keepSt, getAll, lookN, hasN, SV.cells, SV.one, SV.res1, SV.res0, SV.resP, SV.ok1, SV.ok0, SV.okN, SV.solid, SV.solid1, SV.solid0, SV.flat0, SV.nm, SV.nm1, SV.nm0, SV.noPtr1, SV.noPtr0, Cel.isFresh, fillP, setAt, partV, eqCells, cellEq, gamY, listsOk, tupOf, takeOwn, SV.ret1, resAll, resL, resV, Nat.reduceEqDiff, ↓reduceIte, Nat.reduceAdd, Nat.reduceMul, Nat.reduceLeDiff, Nat.reduceLT, reduceCtorEq, labOk, Int.reduceBEq, Int.reduceBNe, Int.reduceToNat, Int.reduceLE, Int.reduceLT, Int.reduceEq, Nat.reduceDiv, Nat.reduceMod, Nat.reduceSub, Nat.reduceBEq, fitR, fitR1, fitR0, fitRL1, fitRL, wd, wN_hl, OkW_hl, eq_hl, eq_h0, wN_0, OkW_0, cmpN_le0, cmpN_gt0, cmpN_lt0, cmpN_ge0, Int.toNat_natCast, ha, Nat.pow_zero, Nat.div_one, ofN_0]
  · have hF : Fits (a / 2 ^ i) := fits_mono ha (Nat.div_le_self ..)
    by_cases h0 : a / 2 ^ i = 0
    · have hiE := div_eq h0 hi
      have hres : ofN i a = bitsL a := by rw [hiE]; rfl
      simp (config := { maxSteps := 9000000 }) only [↓vyD, vyU, binS, SV.go1, SV.go0, mkRow, intsOf, boolsOf, strsOf, chunks, Row.rep, Row.cat, Row.sub, Row.put, Row.len, Row.get, Row.size, Row.flat, bnds, own0, own1, labsL, labsR, SV.labs, argsOf, entFr, SO.ev, St.of, keepSt, getAll, lookN, hasN, SV.cells, SV.one, SV.res1, SV.res0, SV.resP, SV.ok1, SV.ok0, SV.okN, SV.solid, SV.solid1, SV.solid0, SV.flat0, SV.nm, SV.nm1, SV.nm0, SV.noPtr1, SV.noPtr0, Cel.isFresh, fillP, setAt, partV, eqCells, cellEq, gamY, listsOk, tupOf, takeOwn, SV.ret1, resAll, resL, resV, Nat.reduceEqDiff, ↓reduceIte, Nat.reduceAdd, Nat.reduceMul, Nat.reduceLeDiff, Nat.reduceLT, reduceCtorEq, labOk, Int.reduceBEq, Int.reduceBNe, Int.reduceToNat, Int.reduceLE, Int.reduceLT, Int.reduceEq, Nat.reduceDiv, Nat.reduceMod, Nat.reduceSub, Nat.reduceBEq, fitR, fitR1, fitR0, fitRL1, fitRL, wd, wN_hl, OkW_hl, eq_hl, eq_h0, wN_0, OkW_0, cmpN_le0, cmpN_gt0, cmpN_lt0, cmpN_ge0, Int.toNat_natCast, h0, hres]
    · have hlt := div_ne h0
      have hs : a / 2 ^ (i + 1) = a / 2 ^ i / 2 := by rw [Nat.pow_succ, ← Nat.div_div_eq_div_mul]
      have hsn := ofN_succ i a
      generalize hx : a / 2 ^ i = x at *
      have l0 := loN_lt x
      have l1 := hiN_lt hF
      have r1 : ((loN x : Nat) : Int).tmod 2 = ((x % 2 : Nat) : Int) := by rw [← lo_mod, Int.tmod_eq_emod_of_nonneg (by omega)]; omega
      have r2 : (((x % 2 : Nat) : Int) == 1) = decide (x % 2 = 1) := by rw [Bool.eq_iff_iff]; simp; omega
      have r3 : IntKind.u64.wrap (((loN x : Nat) : Int).tdiv 2) = ((loN x / 2 : Nat) : Int) := by
        rw [Int.tdiv_eq_ediv_of_nonneg (by omega)]; exact u64_wrap (n := ((loN x / 2 : Nat) : Int)) (by unfold U64; omega)
      have r4 : ((hiN x : Nat) : Int).tmod 2 = ((hiN x % 2 : Nat) : Int) := by rw [Int.tmod_eq_emod_of_nonneg (by omega)]; omega
      have r5 : IntKind.u64.wrap (((hiN x % 2 : Nat) : Int) * 2 ^ min 63 IntKind.u64.bits) = ((hiN x % 2 * 9223372036854775808 : Nat) : Int) := by
        rw [show (2 : Int) ^ min 63 IntKind.u64.bits = 9223372036854775808 from rfl]
        rw [u64_wrap (by unfold U64; omega)]; omega
      have r6 : IntKind.u64.wrap (((loN x / 2 : Nat) : Int) + ((hiN x % 2 * 9223372036854775808 : Nat) : Int)) = ((loN (x / 2) : Nat) : Int) := by
        rw [half_lo, u64_wrap (by unfold U64; omega)]; omega
      have r7 : IntKind.u64.wrap (((hiN x : Nat) : Int).tdiv 2) = ((hiN (x / 2) : Nat) : Int) := by
        rw [half_hi, Int.tdiv_eq_ediv_of_nonneg (by omega)]; exact u64_wrap (n := ((hiN x / 2 : Nat) : Int)) (by unfold U64; omega)
      have r8 : ofN i a ++ [decide (x % 2 = 1)] = ofN (i + 1) a := hsn.symm
      have len := ofN_len i a
      have d0 : decide (x = 0) = false := decide_eq_false h0
      have z1 : (1 : Int) ≤ 63 := by omega
      simp (config := { maxSteps := 9000000 }) only [↓vyD, vyU, binS, SV.go1, SV.go0, mkRow, intsOf, boolsOf, strsOf, chunks, Row.rep, Row.cat, Row.sub, Row.put, Row.len, Row.get, Row.size, Row.flat, bnds, own0, own1, labsL, labsR, SV.labs, argsOf, entFr, SO.ev, St.of, keepSt, getAll, lookN, hasN, SV.cells, SV.one, SV.res1, SV.res0, SV.resP, SV.ok1, SV.ok0, SV.okN, SV.solid, SV.solid1, SV.solid0, SV.flat0, SV.nm, SV.nm1, SV.nm0, SV.noPtr1, SV.noPtr0, Cel.isFresh, fillP, setAt, partV, eqCells, cellEq, gamY, listsOk, tupOf, takeOwn, SV.ret1, resAll, resL, resV, Nat.reduceEqDiff, ↓reduceIte, Nat.reduceAdd, Nat.reduceMul, Nat.reduceLeDiff, Nat.reduceLT, reduceCtorEq, labOk, Int.reduceBEq, Int.reduceBNe, Int.reduceToNat, Int.reduceLE, Int.reduceLT, Int.reduceEq, Nat.reduceDiv, Nat.reduceMod, Nat.reduceSub, Nat.reduceBEq, fitR, fitR1, fitR0, fitRL1, fitRL, wd, wN_hl, OkW_hl, eq_hl, eq_h0, wN_0, OkW_0, cmpN_le0, cmpN_gt0, cmpN_lt0, cmpN_ge0, Int.toNat_natCast, h0, r1, r2, r3, r4, r5, r6, r7, r8, len]
      exact ⟨by omega, by omega, by omega, by omega, by omega, i + 1, ⟨by omega, by omega⟩, rfl, ⟨by rw [hs], by rw [hs]⟩, rfl, rfl⟩
def bitS : Say
  | [x_l, .int .i64 i] => (match asB x_l with | some l => some (0 ≤ i, .int .i64 ((valL l / 2 ^ i.toNat % 2 : Nat) : Int), none) | _ => none)
  | _ => none
theorem bit_ok : FOk Tryd.prog 18 bitS := by
  intro xs p r own h hp
  unfold bitS at h
  split at h
  case h_2 => cases h
  rename_i x_l i
  split at h
  case h_2 => cases h
  rename_i l h_l
  simp only [Option.some.injEq, Prod.mk.injEq] at h
  obtain ⟨rfl, rfl, rfl⟩ := h
  refine fun_fit (ys := [.rw (.bools l), .int .i64 i]) ?_ ⟨asB_fit h_l, fit_refl1 _ (by simp), trivial⟩
  clear h_l
  refine fun_ok (gam_ok gam_nil) lawy_mixed y18_eq none ?_ (Nat.le_of_ble_eq_true rfl)
  obtain ⟨k, rfl⟩ := Int.eq_ofNat_of_zero_le hp
  have hv := valL_bit l k
  rw [Int.toNat_natCast, ← hv]
  by_cases hlt : (k : Int) < (l.length : Int)
  · cases hb : l.getD k false with
    | true => simp (config := { maxSteps := 9000000 }) only [↓vyD, vyU, binS, SV.go1, SV.go0, mkRow, intsOf, boolsOf, strsOf, chunks, Row.rep, Row.cat, Row.sub, Row.put, Row.len, Row.get, Row.size, Row.flat, bnds, own0, own1, labsL, labsR, SV.labs, argsOf, entFr, SO.ev, St.of, keepSt, getAll, lookN, hasN, SV.cells, SV.one, SV.res1, SV.res0, SV.resP, SV.ok1, SV.ok0, SV.okN, SV.solid, SV.solid1, SV.solid0, SV.flat0, SV.nm, SV.nm1, SV.nm0, SV.noPtr1, SV.noPtr0, Cel.isFresh, fillP, setAt, partV, eqCells, cellEq, gamY, listsOk, tupOf, takeOwn, SV.ret1, resAll, resL, resV, Nat.reduceEqDiff, ↓reduceIte, Nat.reduceAdd, Nat.reduceMul, Nat.reduceLeDiff, Nat.reduceLT, reduceCtorEq, labOk, Int.reduceBEq, Int.reduceBNe, Int.reduceToNat, Int.reduceLE, Int.reduceLT, Int.reduceEq, Nat.reduceDiv, Nat.reduceMod, Nat.reduceSub, Nat.reduceBEq, fitR, fitR1, fitR0, fitRL1, fitRL, y18, hp, hlt, Int.toNat_natCast, hb]
    | false => simp (config := { maxSteps := 9000000 }) only [↓vyD, vyU, binS, SV.go1, SV.go0, mkRow, intsOf, boolsOf, strsOf, chunks, Row.rep, Row.cat, Row.sub, Row.put, Row.len, Row.get, Row.size, Row.flat, bnds, own0, own1, labsL, labsR, SV.labs, argsOf, entFr, SO.ev, St.of, keepSt, getAll, lookN, hasN, SV.cells, SV.one, SV.res1, SV.res0, SV.resP, SV.ok1, SV.ok0, SV.okN, SV.solid, SV.solid1, SV.solid0, SV.flat0, SV.nm, SV.nm1, SV.nm0, SV.noPtr1, SV.noPtr0, Cel.isFresh, fillP, setAt, partV, eqCells, cellEq, gamY, listsOk, tupOf, takeOwn, SV.ret1, resAll, resL, resV, Nat.reduceEqDiff, ↓reduceIte, Nat.reduceAdd, Nat.reduceMul, Nat.reduceLeDiff, Nat.reduceLT, reduceCtorEq, labOk, Int.reduceBEq, Int.reduceBNe, Int.reduceToNat, Int.reduceLE, Int.reduceLT, Int.reduceEq, Nat.reduceDiv, Nat.reduceMod, Nat.reduceSub, Nat.reduceBEq, fitR, fitR1, fitR0, fitRL1, fitRL, y18, hp, hlt, Int.toNat_natCast, hb]
  · have hb : l.getD k false = false := by rw [List.getD_eq_getElem?_getD, List.getElem?_eq_none (by omega)]; rfl
    simp (config := { maxSteps := 9000000 }) only [↓vyD, vyU, binS, SV.go1, SV.go0, mkRow, intsOf, boolsOf, strsOf, chunks, Row.rep, Row.cat, Row.sub, Row.put, Row.len, Row.get, Row.size, Row.flat, bnds, own0, own1, labsL, labsR, SV.labs, argsOf, entFr, SO.ev, St.of, keepSt, getAll, lookN, hasN, SV.cells, SV.one, SV.res1, SV.res0, SV.resP, SV.ok1, SV.ok0, SV.okN, SV.solid, SV.solid1, SV.solid0, SV.flat0, SV.nm, SV.nm1, SV.nm0, SV.noPtr1, SV.noPtr0, Cel.isFresh, fillP, setAt, partV, eqCells, cellEq, gamY, listsOk, tupOf, takeOwn, SV.ret1, resAll, resL, resV, Nat.reduceEqDiff, ↓reduceIte, Nat.reduceAdd, Nat.reduceMul, Nat.reduceLeDiff, Nat.reduceLT, reduceCtorEq, labOk, Int.reduceBEq, Int.reduceBNe, Int.reduceToNat, Int.reduceLE, Int.reduceLT, Int.reduceEq, Nat.reduceDiv, Nat.reduceMod, Nat.reduceSub, Nat.reduceBEq, fitR, fitR1, fitR0, fitRL1, fitRL, y18, hp, hlt, hb]
def gBt : List (Nat × Say) := [(18, bitS)]
theorem gBt_ok : GamOk Tryd.prog (gamY gBt) := gam_ok (gam_cons bit_ok gam_nil)
def bplusS : Say
  | [x_a, x_b] => (match asB x_a, asB x_b with | some a, some b => some (a.length ≤ 4294967296 ∧ b.length ≤ 4294967296, .rw (.bools (plusL a b)), none) | _, _ => none)
  | _ => none
theorem bplus_ok : FOk Tryd.prog 11 bplusS := by
  intro xs p r own h hp
  unfold bplusS at h
  split at h
  case h_2 => cases h
  rename_i x_a x_b
  split at h
  case h_2 => cases h
  rename_i a b h_a h_b
  simp only [Option.some.injEq, Prod.mk.injEq] at h
  obtain ⟨rfl, rfl, rfl⟩ := h
  refine fun_fit (ys := [.rw (.bools a), .rw (.bools b)]) ?_ ⟨asB_fit h_a, asB_fit h_b, trivial⟩
  clear h_a h_b
  refine fun_ok gBt_ok lawy_mixed y11_eq none ?_ (Nat.le_of_ble_eq_true rfl)
  obtain ⟨h1, h2⟩ := hp
  obtain ⟨M, hM⟩ : ∃ M, max a.length b.length = M := ⟨_, rfl⟩
  have hmx : (if (a.length : Int) < (b.length : Int) then (b.length : Int) else (a.length : Int)) = (M : Int) := by
    rw [← hM]; split <;> omega
  have hA : valL a < 2 ^ M := Nat.lt_of_lt_of_le (valL_lt a) (Nat.pow_le_pow_right (by omega) (by omega))
  have hB : valL b < 2 ^ M := Nat.lt_of_lt_of_le (valL_lt b) (Nat.pow_le_pow_right (by omega) (by omega))
  have htop : ∀ i, M ≤ i → carN (valL a) (valL b) i = (valL a + valL b) / 2 ^ i := fun i hi => carN_top a b (by omega)
  have hK : plusL a b = ofN (if valL a + valL b < 2 ^ M then M else M + 1) (valL a + valL b) := by rw [← hM]; rfl
  rw [hK]
  simp (config := { maxSteps := 9000000 }) only [↓vyD, vyU, binS, SV.go1, SV.go0, mkRow, intsOf, boolsOf, strsOf, chunks, Row.rep, Row.cat, Row.sub, Row.put, Row.len, Row.get, Row.size, Row.flat, bnds, own0, own1, labsL, labsR, SV.labs, argsOf, entFr, SO.ev, St.of, keepSt, getAll, lookN, hasN, SV.cells, SV.one, SV.res1, SV.res0, SV.resP, SV.ok1, SV.ok0, SV.okN, SV.solid, SV.solid1, SV.solid0, SV.flat0, SV.nm, SV.nm1, SV.nm0, SV.noPtr1, SV.noPtr0, Cel.isFresh, fillP, setAt, partV, eqCells, cellEq, gamY, listsOk, tupOf, takeOwn, SV.ret1, resAll, resL, resV, Nat.reduceEqDiff, ↓reduceIte, Nat.reduceAdd, Nat.reduceMul, Nat.reduceLeDiff, Nat.reduceLT, reduceCtorEq, labOk, Int.reduceBEq, Int.reduceBNe, Int.reduceToNat, Int.reduceLE, Int.reduceLT, Int.reduceEq, Nat.reduceDiv, Nat.reduceMod, Nat.reduceSub, Nat.reduceBEq, fitR, fitR1, fitR0, fitRL1, fitRL, y11, gBt, bitS, asB]
  refine loopG_intro (ι := Nat) (fun i => [(0, .rw (.bools a)), (1, .rw (.bools b)), (5, .sl 1000 i), (6, .int .i64 (carN (valL a) (valL b) i)), (7, .int .i64 i)]) (fun i => [(1000, .row i 4 (.bools (ofN i (valL a + valL b))))])
    (fun i => i ≤ M ∨ (i = M + 1 ∧ 2 ^ M ≤ valL a + valL b)) (fun i => M + 1 - i) ⟨0, by omega, ?_, ?_, ?_⟩ fun i hi => ?_
  · simp (config := { maxSteps := 9000000 }) only [↓vyD, vyU, binS, SV.go1, SV.go0, mkRow, intsOf, boolsOf, strsOf, chunks, Row.rep, Row.cat, Row.sub, Row.put, Row.len, Row.get, Row.size, Row.flat, bnds, own0, own1, labsL, labsR, SV.labs, argsOf, entFr, SO.ev, St.of, keepSt, getAll, lookN, hasN, SV.cells, SV.one, SV.res1, SV.res0, SV.resP, SV.ok1, SV.ok0, SV.okN, SV.solid, SV.solid1, SV.solid0, SV.flat0, SV.nm, SV.nm1, SV.nm0, SV.noPtr1, SV.noPtr0, Cel.isFresh, fillP, setAt, partV, eqCells, cellEq, gamY, listsOk, tupOf, takeOwn, SV.ret1, resAll, resL, resV, Nat.reduceEqDiff, ↓reduceIte, Nat.reduceAdd, Nat.reduceMul, Nat.reduceLeDiff, Nat.reduceLT, reduceCtorEq, labOk, Int.reduceBEq, Int.reduceBNe, Int.reduceToNat, Int.reduceLE, Int.reduceLT, Int.reduceEq, Nat.reduceDiv, Nat.reduceMod, Nat.reduceSub, Nat.reduceBEq, fitR, fitR1, fitR0, fitRL1, fitRL, h1]
  · simp (config := { maxSteps := 9000000 }) only [↓vyD, vyU, binS, SV.go1, SV.go0, mkRow, intsOf, boolsOf, strsOf, chunks, Row.rep, Row.cat, Row.sub, Row.put, Row.len, Row.get, Row.size, Row.flat, bnds, own0, own1, labsL, labsR, SV.labs, argsOf, entFr, SO.ev, St.of, keepSt, getAll, lookN, hasN, SV.cells, SV.one, SV.res1, SV.res0, SV.resP, SV.ok1, SV.ok0, SV.okN, SV.solid, SV.solid1, SV.solid0, SV.flat0, SV.nm, SV.nm1, SV.nm0, SV.noPtr1, SV.noPtr0, Cel.isFresh, fillP, setAt, partV, eqCells, cellEq, gamY, listsOk, tupOf, takeOwn, SV.ret1, resAll, resL, resV, Nat.reduceEqDiff, ↓reduceIte, Nat.reduceAdd, Nat.reduceMul, Nat.reduceLeDiff, Nat.reduceLT, reduceCtorEq, labOk, Int.reduceBEq, Int.reduceBNe, Int.reduceToNat, Int.reduceLE, Int.reduceLT, Int.reduceEq, Nat.reduceDiv, Nat.reduceMod, Nat.reduceSub, Nat.reduceBEq, fitR, fitR1, fitR0, fitRL1, fitRL, h1, carN_0]
  · simp (config := { maxSteps := 9000000 }) only [↓vyD, vyU, binS, SV.go1, SV.go0, mkRow, intsOf, boolsOf, strsOf, chunks, Row.rep, Row.cat, Row.sub, Row.put, Row.len, Row.get, Row.size, Row.flat, bnds, own0, own1, labsL, labsR, SV.labs, argsOf, entFr, SO.ev, St.of, keepSt, getAll, lookN, hasN, SV.cells, SV.one, SV.res1, SV.res0, SV.resP, SV.ok1, SV.ok0, SV.okN, SV.solid, SV.solid1, SV.solid0, SV.flat0, SV.nm, SV.nm1, SV.nm0, SV.noPtr1, SV.noPtr0, Cel.isFresh, fillP, setAt, partV, eqCells, cellEq, gamY, listsOk, tupOf, takeOwn, SV.ret1, resAll, resL, resV, Nat.reduceEqDiff, ↓reduceIte, Nat.reduceAdd, Nat.reduceMul, Nat.reduceLeDiff, Nat.reduceLT, reduceCtorEq, labOk, Int.reduceBEq, Int.reduceBNe, Int.reduceToNat, Int.reduceLE, Int.reduceLT, Int.reduceEq, Nat.reduceDiv, Nat.reduceMod, Nat.reduceSub, Nat.reduceBEq, fitR, fitR1, fitR0, fitRL1, fitRL, h1, ofN_0]
  · have hc := carN_le (valL a) (valL b) i
    have len := ofN_len i (valL a + valL b)
    have hbit := carN_bit (valL a) (valL b) i
    have hnx := carN_succ (valL a) (valL b) i
    have hsn := ofN_succ i (valL a + valL b)
    have htop' := htop i
    have hsum2 : (valL a + valL b) / 2 ^ (M + 1) = 0 := Nat.div_eq_of_lt (by rw [Nat.pow_succ]; omega)
    have d1 := Nat.mod_lt (valL a / 2 ^ i) (show 0 < 2 by omega)
    have d2 := Nat.mod_lt (valL b / 2 ^ i) (show 0 < 2 by omega)
    generalize hp1 : valL a / 2 ^ i % 2 = p at *
    generalize hq1 : valL b / 2 ^ i % 2 = q at *
    generalize hc1 : carN (valL a) (valL b) i = c at *
    generalize hn2 : (valL a + valL b) / 2 ^ i % 2 = n2 at *
    have w1 := i64_wrap (show I64 ((p : Int) + (q : Int)) by unfold I64; omega)
    have w2 := i64_wrap (show I64 ((p : Int) + (q : Int) + (c : Int)) by unfold I64; omega)
    have w3 := i64_wrap (show I64 ((i : Int) + 1) by unfold I64; omega)
    have r1 : ((p : Int) + q + c).tmod 2 = ((n2 : Nat) : Int) := by rw [Int.tmod_eq_emod_of_nonneg (by omega)]; omega
    have r2 : ((n2 : Int) == 1) = decide (n2 = 1) := by rw [Bool.eq_iff_iff]; simp; omega
    have r3 : IntKind.i64.wrap (((p : Int) + q + c).tdiv 2) = ((carN (valL a) (valL b) (i + 1) : Nat) : Int) := by
      rw [Int.tdiv_eq_ediv_of_nonneg (by omega), i64_wrap (by unfold I64; omega), hnx]; omega
    have r8 := hsn.symm
    by_cases hlt : (i : Int) < (M : Int)
    · simp (config := { maxSteps := 9000000 }) only [↓vyD, vyU, binS, SV.go1, SV.go0, mkRow, intsOf, boolsOf, strsOf, chunks, Row.rep, Row.cat, Row.sub, Row.put, Row.len, Row.get, Row.size, Row.flat, bnds, own0, own1, labsL, labsR, SV.labs, argsOf, entFr, SO.ev, St.of, keepSt, getAll, lookN, hasN, SV.cells, SV.one, SV.res1, SV.res0, SV.resP, SV.ok1, SV.ok0, SV.okN, SV.solid, SV.solid1, SV.solid0, SV.flat0, SV.nm, SV.nm1, SV.nm0, SV.noPtr1, SV.noPtr0, Cel.isFresh, fillP, setAt, partV, eqCells, cellEq, gamY, listsOk, tupOf, takeOwn, SV.ret1, resAll, resL, resV, Nat.reduceEqDiff, ↓reduceIte, Nat.reduceAdd, Nat.reduceMul, Nat.reduceLeDiff, Nat.reduceLT, reduceCtorEq, labOk, Int.reduceBEq, Int.reduceBNe, Int.reduceToNat, Int.reduceLE, Int.reduceLT, Int.reduceEq, Nat.reduceDiv, Nat.reduceMod, Nat.reduceSub, Nat.reduceBEq, fitR, fitR1, fitR0, fitRL1, fitRL, gBt, bitS, asB, hmx, hlt, Int.toNat_natCast, hp1, hq1, w1, w2, w3, r1, r2, r3, r8, len]
      exact ⟨by omega, by omega, by omega, by omega, by omega, i + 1, ⟨by omega, by omega⟩, ⟨rfl, rfl, by omega⟩, rfl, rfl⟩
    · by_cases hcc : 0 < (c : Int)
      · have hiM : i = M := by
          rcases hi with hi | ⟨hi, _⟩
          · omega
          · rw [hi, hsum2] at htop'
            have := htop' (by omega)
            omega
        simp (config := { maxSteps := 9000000 }) only [↓vyD, vyU, binS, SV.go1, SV.go0, mkRow, intsOf, boolsOf, strsOf, chunks, Row.rep, Row.cat, Row.sub, Row.put, Row.len, Row.get, Row.size, Row.flat, bnds, own0, own1, labsL, labsR, SV.labs, argsOf, entFr, SO.ev, St.of, keepSt, getAll, lookN, hasN, SV.cells, SV.one, SV.res1, SV.res0, SV.resP, SV.ok1, SV.ok0, SV.okN, SV.solid, SV.solid1, SV.solid0, SV.flat0, SV.nm, SV.nm1, SV.nm0, SV.noPtr1, SV.noPtr0, Cel.isFresh, fillP, setAt, partV, eqCells, cellEq, gamY, listsOk, tupOf, takeOwn, SV.ret1, resAll, resL, resV, Nat.reduceEqDiff, ↓reduceIte, Nat.reduceAdd, Nat.reduceMul, Nat.reduceLeDiff, Nat.reduceLT, reduceCtorEq, labOk, Int.reduceBEq, Int.reduceBNe, Int.reduceToNat, Int.reduceLE, Int.reduceLT, Int.reduceEq, Nat.reduceDiv, Nat.reduceMod, Nat.reduceSub, Nat.reduceBEq, fitR, fitR1, fitR0, fitRL1, fitRL, gBt, bitS, asB, hmx, hlt, hcc, Int.toNat_natCast, hp1, hq1, w1, w2, w3, r1, r2, r3, r8, len]
        have hbig : 2 ^ M ≤ valL a + valL b := by
          refine Nat.le_of_not_lt fun hh => ?_
          have h3 := htop' (by omega)
          rw [hiM, Nat.div_eq_of_lt hh] at h3
          omega
        exact ⟨by omega, by omega, by omega, by omega, by omega, i + 1, ⟨.inr ⟨by omega, hbig⟩, by omega⟩, ⟨rfl, rfl, by omega⟩, rfl, rfl⟩
      · have hk : (if valL a + valL b < 2 ^ M then M else M + 1) = i := by
          rcases hi with hi | ⟨hi, h⟩
          · have hiM : i = M := by omega
            rw [hiM] at htop'
            have h3 := htop' (by omega)
            have h4 : valL a + valL b < 2 ^ M := by
              refine Nat.lt_of_not_le fun hh => ?_
              have := Nat.div_pos hh (Nat.two_pow_pos M)
              omega
            rw [if_pos h4]; omega
          · rw [if_neg (by omega)]; omega
        simp (config := { maxSteps := 9000000 }) only [↓vyD, vyU, binS, SV.go1, SV.go0, mkRow, intsOf, boolsOf, strsOf, chunks, Row.rep, Row.cat, Row.sub, Row.put, Row.len, Row.get, Row.size, Row.flat, bnds, own0, own1, labsL, labsR, SV.labs, argsOf, entFr, SO.ev, St.of, keepSt, getAll, lookN, hasN, SV.cells, SV.one, SV.res1, SV.res0, SV.resP, SV.ok1, SV.ok0, SV.okN, SV.solid, SV.solid1, SV.solid0, SV.flat0, SV.nm, SV.nm1, SV.nm0, SV.noPtr1, SV.noPtr0, Cel.isFresh, fillP, setAt, partV, eqCells, cellEq, gamY, listsOk, tupOf, takeOwn, SV.ret1, resAll, resL, resV, Nat.reduceEqDiff, ↓reduceIte, Nat.reduceAdd, Nat.reduceMul, Nat.reduceLeDiff, Nat.reduceLT, reduceCtorEq, labOk, Int.reduceBEq, Int.reduceBNe, Int.reduceToNat, Int.reduceLE, Int.reduceLT, Int.reduceEq, Nat.reduceDiv, Nat.reduceMod, Nat.reduceSub, Nat.reduceBEq, fitR, fitR1, fitR0, fitRL1, fitRL, gBt, bitS, asB, hmx, hlt, hcc, hk]
theorem and_1 {n : Int} (h1 : -2 ≤ n) (h2 : n ≤ 1) : bits .and .i64 n 1 = n % 2 := by
  have : n = -2 ∨ n = -1 ∨ n = 0 ∨ n = 1 := by omega
  rcases this with rfl | rfl | rfl | rfl <;> decide
def movedS : Say
  | [x_a, .int .i64 n] => (match asB x_a with | some a => some (a.length ≤ 4294967296 ∧ 0 ≤ n ∧ n ≤ 4294967296, .rw (.bools (movedL a n.toNat)), none) | _ => none)
  | _ => none
theorem moved_ok : FOk Tryd.prog 28 movedS := by
  intro xs p r own h hp
  unfold movedS at h
  split at h
  case h_2 => cases h
  rename_i x_a n
  split at h
  case h_2 => cases h
  rename_i a h_a
  simp only [Option.some.injEq, Prod.mk.injEq] at h
  obtain ⟨rfl, rfl, rfl⟩ := h
  refine fun_fit (ys := [.rw (.bools a), .int .i64 n]) ?_ ⟨asB_fit h_a, fit_refl1 _ (by simp), trivial⟩
  clear h_a
  refine fun_ok (gam_ok gam_nil) lawy_mixed y28_eq none ?_ (Nat.le_of_ble_eq_true rfl)
  obtain ⟨h1, h2, h3⟩ := hp
  have c1 : n * 1 ≤ 140737488355328 := by omega
  have c2 : (n.toNat + a.length) * 1 ≤ 140737488355328 := by omega
  simp (config := { maxSteps := 9000000 }) only [↓vyD, vyU, binS, SV.go1, SV.go0, mkRow, intsOf, boolsOf, strsOf, chunks, Row.rep, Row.cat, Row.sub, Row.put, Row.len, Row.get, Row.size, Row.flat, bnds, own0, own1, labsL, labsR, SV.labs, argsOf, entFr, SO.ev, St.of, keepSt, getAll, lookN, hasN, SV.cells, SV.one, SV.res1, SV.res0, SV.resP, SV.ok1, SV.ok0, SV.okN, SV.solid, SV.solid1, SV.solid0, SV.flat0, SV.nm, SV.nm1, SV.nm0, SV.noPtr1, SV.noPtr0, Cel.isFresh, fillP, setAt, partV, eqCells, cellEq, gamY, listsOk, tupOf, takeOwn, SV.ret1, resAll, resL, resV, Nat.reduceEqDiff, ↓reduceIte, Nat.reduceAdd, Nat.reduceMul, Nat.reduceLeDiff, Nat.reduceLT, reduceCtorEq, labOk, Int.reduceBEq, Int.reduceBNe, Int.reduceToNat, Int.reduceLE, Int.reduceLT, Int.reduceEq, Nat.reduceDiv, Nat.reduceMod, Nat.reduceSub, Nat.reduceBEq, fitR, fitR1, fitR0, fitRL1, fitRL, y28, movedL, h2, c1, c2, Int.le_refl, List.length_replicate]
end Go.Proofs.YtidafhjdpklgbaaDoor
