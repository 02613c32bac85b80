/- hwref.Root and hwref.Halvings. -/
import Derived.Test.YtidafhjdpklgbaaYBp
import Derived.Test.YtidafhjdpklgbaaR0
import Derived.Test.YtidafhjdpklgbaaCBr
namespace Go.Proofs.Ytidafhjdpklgbaa
open Go.ChangeShapes Go.WideShapes Go.ChangeAt Go.RowKit Go.Joins Y
set_option linter.unusedSimpArgs false
set_option linter.unusedVariables false
set_option maxRecDepth 100000
set_option maxHeartbeats 40000000
def gBr : List (Nat × Say) := [(62, bitsS), (66, bprodS), (88, orderS), (87, movedS)]
theorem gBr_ok : GamOk Try.prog (gamY gBr) := gam_ok (gam_cons bits_ok (gam_cons bprod_ok (gam_cons order_ok (gam_cons moved_ok gam_nil))))
theorem moved_one (l : List Bool) (k : Nat) : movedL (movedL l k) 1 = movedL l (k + 1) := by
  simp [movedL, List.replicate_succ]
theorem halv_is {a b k : Nat} (hb : b ≠ 0) (h1 : b * 2 ^ k ≤ a) (h2 : a < b * 2 ^ (k + 1)) : halvN a b = k := by
  have hba : b ≤ a := Nat.le_trans (Nat.le_mul_of_pos_right b (Nat.two_pow_pos k)) h1
  obtain ⟨g1, g2⟩ := halvN_spec hb hba
  generalize halvN a b = h at *
  rcases Nat.lt_trichotomy h k with hh | hh | hh
  · have := Nat.mul_le_mul_left b (Nat.pow_le_pow_right (show 0 < 2 by omega) (show h + 1 ≤ k by omega))
    omega
  · exact hh
  · have := Nat.mul_le_mul_left b (Nat.pow_le_pow_right (show 0 < 2 by omega) (show k + 1 ≤ h by omega))
    omega
def rhalvV (a b : Nat) : Int := if b = 0 ∨ a < b then -1 else halvN a b
def rhalvS : Say
  | [.agg [.int .u64 x1, .int .u64 y1], .agg [.int .u64 x2, .int .u64 y2]] => some (OkW x1 y1 ∧ OkW x2 y2, .int .i64 (rhalvV (wN x1 y1) (wN x2 y2)), none)
  | _ => none
theorem rhalv_ok : FOk Try.prog 67 rhalvS := by
  intro xs p r own h hp
  unfold rhalvS at h
  split at h
  case h_2 => cases h
  rename_i x1 y1 x2 y2
  simp only [Option.some.injEq, Prod.mk.injEq] at h
  obtain ⟨rfl, rfl, rfl⟩ := h
  refine fun_ok gBr_ok lawy_mixed y67_eq none ?_ (Nat.le_of_ble_eq_true rfl)
  obtain ⟨ha, e1, e2⟩ := isW_wN hp.1
  obtain ⟨hb, e3, e4⟩ := isW_wN hp.2
  generalize wN x1 y1 = a at *
  generalize wN x2 y2 = b at *
  subst e1 e2 e3 e4
  have la : (bitsL a).length ≤ 4294967296 := by rw [bitsL_len]; have := bitLen_fits ha; omega
  have va := bitsL_val a
  have vb := bitsL_val b
  have lb := bitsL_len b
  have fb := bitLen_fits hb
  have ha' := fits_lt.1 ha
  generalize hA : bitsL a = A at *
  generalize hB : bitsL b = B at *
  simp (config := { maxSteps := 9000000 }) only [↓vyD, vyU, binS, SV.go1, SV.go0, mkRow, intsOf, boolsOf, strsOf, chunks, Row.rep, Row.cat, Row.sub, Row.put, Row.len, Row.get, Row.size, Row.flat, bnds, own0, own1, labsL, labsR, SV.labs, argsOf, entFr, SO.ev, St.of, keepSt, getAll, lookN, hasN, SV.cells, SV.one, SV.res1, SV.res0, SV.resP, SV.ok1, SV.ok0, SV.okN, SV.solid, SV.solid1, SV.solid0, SV.flat0, SV.nm, SV.nm1, SV.nm0, SV.noPtr1, SV.noPtr0, Cel.isFresh, fillP, setAt, partV, eqCells, cellEq, gamY, listsOk, tupOf, takeOwn, SV.ret1, resAll, resL, resV, Nat.reduceEqDiff, ↓reduceIte, Nat.reduceAdd, Nat.reduceMul, Nat.reduceLeDiff, Nat.reduceLT, reduceCtorEq, labOk, Int.reduceBEq, Int.reduceBNe, Int.reduceToNat, Int.reduceLE, Int.reduceLT, Int.reduceEq, Nat.reduceDiv, Nat.reduceMod, Nat.reduceSub, Nat.reduceBEq, fitR, fitR1, fitR0, fitRL1, fitRL, wd, wN_hl, OkW_hl, eq_hl, eq_h0, wN_0, OkW_0, cmpN_le0, cmpN_gt0, cmpN_lt0, cmpN_ge0, Int.toNat_natCast, y67, gBr, bitsS, bprodS, orderS, movedS, asB, ha, hb, hB]
  refine loopG_intro (ι := Nat) (fun k => [(2, .ptr 0 0), (5, .int .i64 ((k : Int) - 1)), (6, .rw (.bools (movedL B k)))]) (fun _ => [(0, .var 59 [.int .u64 (hiN a), .int .u64 (loN a)])])
    (fun k => k ≤ 129 ∧ (k ≠ 0 → b ≠ 0 ∧ b * 2 ^ (k - 1) ≤ a)) (fun k => 130 - k) ⟨0, ⟨by omega, by omega⟩, ?_, ?_, ?_⟩ fun k ⟨hk, hin⟩ => ?_
  · simp (config := { maxSteps := 9000000 }) only [↓vyD, vyU, binS, SV.go1, SV.go0, mkRow, intsOf, boolsOf, strsOf, chunks, Row.rep, Row.cat, Row.sub, Row.put, Row.len, Row.get, Row.size, Row.flat, bnds, own0, own1, labsL, labsR, SV.labs, argsOf, entFr, SO.ev, St.of, keepSt, getAll, lookN, hasN, SV.cells, SV.one, SV.res1, SV.res0, SV.resP, SV.ok1, SV.ok0, SV.okN, SV.solid, SV.solid1, SV.solid0, SV.flat0, SV.nm, SV.nm1, SV.nm0, SV.noPtr1, SV.noPtr0, Cel.isFresh, fillP, setAt, partV, eqCells, cellEq, gamY, listsOk, tupOf, takeOwn, SV.ret1, resAll, resL, resV, Nat.reduceEqDiff, ↓reduceIte, Nat.reduceAdd, Nat.reduceMul, Nat.reduceLeDiff, Nat.reduceLT, reduceCtorEq, labOk, Int.reduceBEq, Int.reduceBNe, Int.reduceToNat, Int.reduceLE, Int.reduceLT, Int.reduceEq, Nat.reduceDiv, Nat.reduceMod, Nat.reduceSub, Nat.reduceBEq, fitR, fitR1, fitR0, fitRL1, fitRL, wd, wN_hl, OkW_hl, eq_hl, eq_h0, wN_0, OkW_0, cmpN_le0, cmpN_gt0, cmpN_lt0, cmpN_ge0, Int.toNat_natCast, ha]
  · simp (config := { maxSteps := 9000000 }) only [↓vyD, vyU, binS, SV.go1, SV.go0, mkRow, intsOf, boolsOf, strsOf, chunks, Row.rep, Row.cat, Row.sub, Row.put, Row.len, Row.get, Row.size, Row.flat, bnds, own0, own1, labsL, labsR, SV.labs, argsOf, entFr, SO.ev, St.of, keepSt, getAll, lookN, hasN, SV.cells, SV.one, SV.res1, SV.res0, SV.resP, SV.ok1, SV.ok0, SV.okN, SV.solid, SV.solid1, SV.solid0, SV.flat0, SV.nm, SV.nm1, SV.nm0, SV.noPtr1, SV.noPtr0, Cel.isFresh, fillP, setAt, partV, eqCells, cellEq, gamY, listsOk, tupOf, takeOwn, SV.ret1, resAll, resL, resV, Nat.reduceEqDiff, ↓reduceIte, Nat.reduceAdd, Nat.reduceMul, Nat.reduceLeDiff, Nat.reduceLT, reduceCtorEq, labOk, Int.reduceBEq, Int.reduceBNe, Int.reduceToNat, Int.reduceLE, Int.reduceLT, Int.reduceEq, Nat.reduceDiv, Nat.reduceMod, Nat.reduceSub, Nat.reduceBEq, fitR, fitR1, fitR0, fitRL1, fitRL, wd, wN_hl, OkW_hl, eq_hl, eq_h0, wN_0, OkW_0, cmpN_le0, cmpN_gt0, cmpN_lt0, cmpN_ge0, Int.toNat_natCast, ha, movedL, List.replicate_zero]
    simp
  · simp (config := { maxSteps := 9000000 }) only [↓vyD, vyU, binS, SV.go1, SV.go0, mkRow, intsOf, boolsOf, strsOf, chunks, Row.rep, Row.cat, Row.sub, Row.put, Row.len, Row.get, Row.size, Row.flat, bnds, own0, own1, labsL, labsR, SV.labs, argsOf, entFr, SO.ev, St.of, keepSt, getAll, lookN, hasN, SV.cells, SV.one, SV.res1, SV.res0, SV.resP, SV.ok1, SV.ok0, SV.okN, SV.solid, SV.solid1, SV.solid0, SV.flat0, SV.nm, SV.nm1, SV.nm0, SV.noPtr1, SV.noPtr0, Cel.isFresh, fillP, setAt, partV, eqCells, cellEq, gamY, listsOk, tupOf, takeOwn, SV.ret1, resAll, resL, resV, Nat.reduceEqDiff, ↓reduceIte, Nat.reduceAdd, Nat.reduceMul, Nat.reduceLeDiff, Nat.reduceLT, reduceCtorEq, labOk, Int.reduceBEq, Int.reduceBNe, Int.reduceToNat, Int.reduceLE, Int.reduceLT, Int.reduceEq, Nat.reduceDiv, Nat.reduceMod, Nat.reduceSub, Nat.reduceBEq, fitR, fitR1, fitR0, fitRL1, fitRL, wd, wN_hl, OkW_hl, eq_hl, eq_h0, wN_0, OkW_0, cmpN_le0, cmpN_gt0, cmpN_lt0, cmpN_ge0, Int.toNat_natCast, ha]
  · have lm := movedL_len B k
    have vm := movedL_val B k
    rw [vb] at vm
    by_cases hb0 : b = 0
    · have hk0 : k = 0 := by
        refine Classical.byContradiction fun h => (hin h).1 hb0
      have hz : bitLen b = 0 := by rw [hb0]; rfl
      have hl : ¬ (0 : Int) < (k : Int) + (B.length : Int) := by omega
      have hres : (k : Int) - 1 = rhalvV a b := by rw [rhalvV, if_pos (.inl hb0)]; omega
      simp (config := { maxSteps := 9000000 }) only [↓vyD, vyU, binS, SV.go1, SV.go0, mkRow, intsOf, boolsOf, strsOf, chunks, Row.rep, Row.cat, Row.sub, Row.put, Row.len, Row.get, Row.size, Row.flat, bnds, own0, own1, labsL, labsR, SV.labs, argsOf, entFr, SO.ev, St.of, keepSt, getAll, lookN, hasN, SV.cells, SV.one, SV.res1, SV.res0, SV.resP, SV.ok1, SV.ok0, SV.okN, SV.solid, SV.solid1, SV.solid0, SV.flat0, SV.nm, SV.nm1, SV.nm0, SV.noPtr1, SV.noPtr0, Cel.isFresh, fillP, setAt, partV, eqCells, cellEq, gamY, listsOk, tupOf, takeOwn, SV.ret1, resAll, resL, resV, Nat.reduceEqDiff, ↓reduceIte, Nat.reduceAdd, Nat.reduceMul, Nat.reduceLeDiff, Nat.reduceLT, reduceCtorEq, labOk, Int.reduceBEq, Int.reduceBNe, Int.reduceToNat, Int.reduceLE, Int.reduceLT, Int.reduceEq, Nat.reduceDiv, Nat.reduceMod, Nat.reduceSub, Nat.reduceBEq, fitR, fitR1, fitR0, fitRL1, fitRL, wd, wN_hl, OkW_hl, eq_hl, eq_h0, wN_0, OkW_0, cmpN_le0, cmpN_gt0, cmpN_lt0, cmpN_ge0, Int.toNat_natCast, gBr, bitsS, bprodS, orderS, movedS, asB, lm, hl, hres]
    · have hpos : bitLen b ≠ 0 := fun h => hb0 (Nat.eq_zero_of_le_zero (Nat.le_of_lt_succ ((bitLen_lt_iff b 0).1 (by omega))))
      have hl : (0 : Int) < (k : Int) + (B.length : Int) := by omega
      have lk : k + B.length ≤ 4294967296 := by omega
      by_cases hle : b * 2 ^ k ≤ a
      · have hk128 : k < 128 := by
          refine Nat.lt_of_not_le fun h => ?_
          have h1 := Nat.pow_le_pow_right (show 0 < 2 by omega) h
          have h2 : 2 ^ k ≤ b * 2 ^ k := Nat.le_mul_of_pos_left _ (Nat.pos_of_ne_zero hb0)
          omega
        have w1 : IntKind.i64.wrap ((k : Int) - 1 + 1) = (k : Int) := by rw [i64_wrap (by unfold I64; omega)]; omega
        have mo := moved_one B k
        simp (config := { maxSteps := 9000000 }) only [↓vyD, vyU, binS, SV.go1, SV.go0, mkRow, intsOf, boolsOf, strsOf, chunks, Row.rep, Row.cat, Row.sub, Row.put, Row.len, Row.get, Row.size, Row.flat, bnds, own0, own1, labsL, labsR, SV.labs, argsOf, entFr, SO.ev, St.of, keepSt, getAll, lookN, hasN, SV.cells, SV.one, SV.res1, SV.res0, SV.resP, SV.ok1, SV.ok0, SV.okN, SV.solid, SV.solid1, SV.solid0, SV.flat0, SV.nm, SV.nm1, SV.nm0, SV.noPtr1, SV.noPtr0, Cel.isFresh, fillP, setAt, partV, eqCells, cellEq, gamY, listsOk, tupOf, takeOwn, SV.ret1, resAll, resL, resV, Nat.reduceEqDiff, ↓reduceIte, Nat.reduceAdd, Nat.reduceMul, Nat.reduceLeDiff, Nat.reduceLT, reduceCtorEq, labOk, Int.reduceBEq, Int.reduceBNe, Int.reduceToNat, Int.reduceLE, Int.reduceLT, Int.reduceEq, Nat.reduceDiv, Nat.reduceMod, Nat.reduceSub, Nat.reduceBEq, fitR, fitR1, fitR0, fitRL1, fitRL, wd, wN_hl, OkW_hl, eq_hl, eq_h0, wN_0, OkW_0, cmpN_le0, cmpN_gt0, cmpN_lt0, cmpN_ge0, Int.toNat_natCast, gBr, bitsS, bprodS, orderS, movedS, asB, ha, hA, va, la, lm, hl, lk, vm, hle, w1, mo]
        exact ⟨k + 1, ⟨⟨by omega, fun _ => ⟨hb0, by simpa using hle⟩⟩, by omega⟩, by omega, rfl⟩
      · have hres : (k : Int) - 1 = rhalvV a b := by
          by_cases h0 : k = 0
          · subst h0
            rw [rhalvV, if_pos (.inr (by simpa using hle))]; rfl
          · obtain ⟨_, h5⟩ := hin h0
            have hba : b ≤ a := Nat.le_trans (Nat.le_mul_of_pos_right b (Nat.two_pow_pos (k - 1))) h5
            have h6 := halv_is hb0 h5 (by rw [show k - 1 + 1 = k by omega]; omega)
            rw [rhalvV, if_neg (by omega), h6]; omega
        simp (config := { maxSteps := 9000000 }) only [↓vyD, vyU, binS, SV.go1, SV.go0, mkRow, intsOf, boolsOf, strsOf, chunks, Row.rep, Row.cat, Row.sub, Row.put, Row.len, Row.get, Row.size, Row.flat, bnds, own0, own1, labsL, labsR, SV.labs, argsOf, entFr, SO.ev, St.of, keepSt, getAll, lookN, hasN, SV.cells, SV.one, SV.res1, SV.res0, SV.resP, SV.ok1, SV.ok0, SV.okN, SV.solid, SV.solid1, SV.solid0, SV.flat0, SV.nm, SV.nm1, SV.nm0, SV.noPtr1, SV.noPtr0, Cel.isFresh, fillP, setAt, partV, eqCells, cellEq, gamY, listsOk, tupOf, takeOwn, SV.ret1, resAll, resL, resV, Nat.reduceEqDiff, ↓reduceIte, Nat.reduceAdd, Nat.reduceMul, Nat.reduceLeDiff, Nat.reduceLT, reduceCtorEq, labOk, Int.reduceBEq, Int.reduceBNe, Int.reduceToNat, Int.reduceLE, Int.reduceLT, Int.reduceEq, Nat.reduceDiv, Nat.reduceMod, Nat.reduceSub, Nat.reduceBEq, fitR, fitR1, fitR0, fitRL1, fitRL, wd, wN_hl, OkW_hl, eq_hl, eq_h0, wN_0, OkW_0, cmpN_le0, cmpN_gt0, cmpN_lt0, cmpN_ge0, Int.toNat_natCast, gBr, bitsS, bprodS, orderS, movedS, asB, ha, hA, va, la, lm, hl, lk, vm, hle, hres]
end Go.Proofs.Ytidafhjdpklgbaa
