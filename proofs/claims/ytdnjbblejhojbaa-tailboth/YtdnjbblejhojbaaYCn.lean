/- What tail.Cantelli does. -/
import Derived.Test.YtdnjbblejhojbaaYWd
import Derived.Test.YtdnjbblejhojbaaYT5
namespace Go.Proofs.Ytdnjbblejhojbaa
open Go.ChangeShapes Go.WideShapes Go.ChangeAt Go.RowKit Go.Joins Y
set_option linter.unusedSimpArgs false
set_option linter.unusedVariables false
set_option maxRecDepth 100000
set_option maxHeartbeats 40000000
def gC1 : List (Nat × Say) := [(62, pMulS), (97, wAddS), (106, pDivS)]
theorem gC1_ok : GamOk Try.prog (gamY gC1) := gam_ok (gam_cons pMul_ok (gam_cons wAdd_ok (gam_cons pDiv_ok gam_nil)))
def cant1S : Say
  | [.int .u64 n, .int .u64 g, .int .u64 d] => some ((0 ≤ n ∧ n ≤ 64) ∧ (0 ≤ g ∧ g ≤ 1152921504606846976) ∧ (0 < d ∧ d ≤ 1099511627776), .int .i64 (n * g / (d * d + g)), none)
  | _ => none
theorem cant1_ok : FOk Try.prog 82 cant1S := by
  intro xs p r own h hp
  unfold cant1S at h
  split at h
  case h_2 => cases h
  rename_i n g d
  simp only [Option.some.injEq, Prod.mk.injEq] at h
  obtain ⟨rfl, rfl, rfl⟩ := h
  refine fun_ok gC1_ok lawy_mixed y82_eq none ?_ (Nat.le_of_ble_eq_true rfl)
  obtain ⟨⟨h1, h2⟩, ⟨h3, h4⟩, h5, h6⟩ := hp
  obtain ⟨N, rfl⟩ := Int.eq_ofNat_of_zero_le h1
  obtain ⟨G, rfl⟩ := Int.eq_ofNat_of_zero_le h3
  obtain ⟨D, rfl⟩ := Int.eq_ofNat_of_zero_le (show 0 ≤ d by omega)
  have w1 : Word N := by unfold Word; omega
  have w2 : Word G := by unfold Word; omega
  have w3 : Word D := by unfold Word; omega
  have hDD : D * D ≤ 1099511627776 * 1099511627776 := Nat.mul_le_mul (by omega) (by omega)
  have hD0 : 0 < D * D := Nat.mul_pos (by omega) (by omega)
  have hNG : N * G ≤ 64 * 1152921504606846976 := Nat.mul_le_mul (by omega) (by omega)
  have f1 : Fits (D * D) := fits_lt.2 (by omega)
  have f2 : Fits (N * G) := fits_lt.2 (by omega)
  have f3 : Fits (D * D + G) := fits_lt.2 (by omega)
  have a1 : wAddN (D * D) G = D * D + G := if_pos (by omega)
  have d1 : wDivQ (N * G) (D * D + G) = N * G / (D * D + G) := wDivQ_pos (by omega)
  have hq : N * G / (D * D + G) ≤ N := Nat.div_le_of_le_mul (by rw [Nat.mul_comm]; exact Nat.mul_le_mul_right _ (by omega))
  have l1 : loN (N * G / (D * D + G)) = N * G / (D * D + G) := loN_of_word (by unfold Word; omega)
  have e1 : ((N : Int) * G / (D * D + G)) = ((N * G / (D * D + G) : Nat) : Int) := by simp
  have e2 : IntKind.i64.wrap ((N * G / (D * D + G) : Nat) : Int) = ((N * G / (D * D + G) : Nat) : Int) := i64_wrap (by unfold I64; omega)
  rw [e1]
  simp (config := { maxSteps := 9000000 }) only [↓vyD, vyU, binS, SV.go1, SV.go0, mkRow, intsOf, boolsOf, strsOf, chunks, Row.rep, Row.cat, Row.sub, Row.put, Row.len, Row.get, Row.size, Row.flat, bnds, own0, own1, labsL, labsR, SV.labs, argsOf, entFr, SO.ev, St.of, keepSt, getAll, lookN, hasN, SV.cells, SV.one, SV.res1, SV.res0, SV.resP, SV.ok1, SV.ok0, SV.okN, SV.solid, SV.solid1, SV.solid0, SV.flat0, SV.nm, SV.nm1, SV.nm0, SV.noPtr1, SV.noPtr0, Cel.isFresh, fillP, setAt, partV, eqCells, cellEq, gamY, listsOk, tupOf, takeOwn, SV.ret1, resAll, resL, resV, Nat.reduceEqDiff, ↓reduceIte, Nat.reduceAdd, Nat.reduceMul, Nat.reduceLeDiff, reduceCtorEq, labOk, Int.reduceBEq, Int.reduceBNe, Int.reduceToNat, Int.reduceLE, Int.reduceLT, Int.reduceEq, Nat.reduceDiv, Nat.reduceMod, Nat.reduceSub, Nat.reduceBEq, fitR, fitR1, fitR0, fitRL1, fitRL, wd, wN_hl, OkW_hl, eq_hl, eq_h0, wN_0, OkW_0, cmpN_le0, cmpN_gt0, cmpN_lt0, cmpN_ge0, Int.toNat_natCast, y82, gC1, pMulS, wAddS, pDivS, w1, w2, w3, f1, f2, f3, a1, d1, l1, e2]
def canE (a b c t : Int) : Int := if checkE a b c = 0 then (if t < 0 ∨ 1073741824 < t then 1 else 0) else checkE a b c
def canV (a b c t : Int) : Int := if canE a b c t = 0 then (if a * t - b ≤ 0 then a else a * (a * c - b * b) / ((a * t - b) * (a * t - b) + (a * c - b * b))) else 0
theorem canE_0 {a b c t : Int} : canE a b c t = 0 ↔ checkE a b c = 0 ∧ 0 ≤ t ∧ t ≤ 1073741824 := by
  unfold canE
  by_cases h : checkE a b c = 0
  · rw [if_pos h]; split <;> omega
  · rw [if_neg h]; omega
def gC2 : List (Nat × Say) := [(58, spreadXS), (82, cant1S)]
theorem gC2_ok : GamOk Try.prog (gamY gC2) := gam_ok (gam_cons spreadX_ok (gam_cons cant1_ok gam_nil))
def cantS : Say
  | [.agg [.int .i64 a, .int .i64 b, .int .i64 c], .int .i64 t] => some (True, .tup [.int .i64 (canV a b c t), .int .i64 (canE a b c t)], none)
  | _ => none
theorem cant_ok : FOk Try.prog 39 cantS := by
  intro xs p r own h hp
  unfold cantS at h
  split at h
  case h_2 => cases h
  rename_i a b c t
  simp only [Option.some.injEq, Prod.mk.injEq] at h
  obtain ⟨rfl, rfl, rfl⟩ := h
  refine fun_ok gC2_ok lawy_mixed y39_eq none ?_ (Nat.le_of_ble_eq_true rfl)
  by_cases he : checkE a b c = 0
  · by_cases ht : 0 ≤ t ∧ t ≤ 1073741824
    · have hE : canE a b c t = 0 := canE_0.2 ⟨he, ht.1, ht.2⟩
      obtain ⟨⟨h1, h2⟩, ⟨h3, h4⟩, ⟨h5, h6⟩, h7⟩ := checkE_0.1 he
      obtain ⟨q1, q2, q3, q4, q5, q6⟩ := check_bd h1 h2 h3 h4 h5 h6
      have m1 := mul_bd h1 h2 ht.1 ht.2
      have e1 : IntKind.i64.wrap (a * t) = a * t := i64_wrap (by unfold I64; omega)
      have e2 : IntKind.i64.wrap (a * t - b) = a * t - b := i64_wrap (by unfold I64; omega)
      have t1 : ¬ t < 0 := by omega
      have t2 : ¬ 1073741824 < t := by omega
      by_cases hd : a * t - b ≤ 0
      · have hV : canV a b c t = a := by rw [canV, if_pos hE, if_pos hd]
        simp (config := { maxSteps := 9000000 }) only [↓vyD, vyU, binS, SV.go1, SV.go0, mkRow, intsOf, boolsOf, strsOf, chunks, Row.rep, Row.cat, Row.sub, Row.put, Row.len, Row.get, Row.size, Row.flat, bnds, own0, own1, labsL, labsR, SV.labs, argsOf, entFr, SO.ev, St.of, keepSt, getAll, lookN, hasN, SV.cells, SV.one, SV.res1, SV.res0, SV.resP, SV.ok1, SV.ok0, SV.okN, SV.solid, SV.solid1, SV.solid0, SV.flat0, SV.nm, SV.nm1, SV.nm0, SV.noPtr1, SV.noPtr0, Cel.isFresh, fillP, setAt, partV, eqCells, cellEq, gamY, listsOk, tupOf, takeOwn, SV.ret1, resAll, resL, resV, Nat.reduceEqDiff, ↓reduceIte, Nat.reduceAdd, Nat.reduceMul, Nat.reduceLeDiff, reduceCtorEq, labOk, Int.reduceBEq, Int.reduceBNe, Int.reduceToNat, Int.reduceLE, Int.reduceLT, Int.reduceEq, Nat.reduceDiv, Nat.reduceMod, Nat.reduceSub, Nat.reduceBEq, fitR, fitR1, fitR0, fitRL1, fitRL, y39, gC2, spreadXS, cant1S, he, hE, hV, t1, t2, e1, e2, hd]
      · have hV : canV a b c t = a * (a * c - b * b) / ((a * t - b) * (a * t - b) + (a * c - b * b)) := by rw [canV, if_pos hE, if_neg hd]
        have e3 : IntKind.u64.wrap a = a := u64_wrap (by unfold U64; omega)
        have e4 : IntKind.u64.wrap (a * c - b * b) = a * c - b * b := u64_wrap (by unfold U64; omega)
        have e5 : IntKind.u64.wrap (a * t - b) = a * t - b := u64_wrap (by unfold U64; omega)
        have g1 : a * c - b * b ≤ 1152921504606846976 := by omega
        have g2 : 0 < a * t - b := by omega
        have g3 : a * t - b ≤ 1099511627776 := by omega
        simp (config := { maxSteps := 9000000 }) only [↓vyD, vyU, binS, SV.go1, SV.go0, mkRow, intsOf, boolsOf, strsOf, chunks, Row.rep, Row.cat, Row.sub, Row.put, Row.len, Row.get, Row.size, Row.flat, bnds, own0, own1, labsL, labsR, SV.labs, argsOf, entFr, SO.ev, St.of, keepSt, getAll, lookN, hasN, SV.cells, SV.one, SV.res1, SV.res0, SV.resP, SV.ok1, SV.ok0, SV.okN, SV.solid, SV.solid1, SV.solid0, SV.flat0, SV.nm, SV.nm1, SV.nm0, SV.noPtr1, SV.noPtr0, Cel.isFresh, fillP, setAt, partV, eqCells, cellEq, gamY, listsOk, tupOf, takeOwn, SV.ret1, resAll, resL, resV, Nat.reduceEqDiff, ↓reduceIte, Nat.reduceAdd, Nat.reduceMul, Nat.reduceLeDiff, reduceCtorEq, labOk, Int.reduceBEq, Int.reduceBNe, Int.reduceToNat, Int.reduceLE, Int.reduceLT, Int.reduceEq, Nat.reduceDiv, Nat.reduceMod, Nat.reduceSub, Nat.reduceBEq, fitR, fitR1, fitR0, fitRL1, fitRL, y39, gC2, spreadXS, cant1S, he, hE, hV, t1, t2, e1, e2, e3, e4, e5, hd, h1, h2, h7, g1, g2, g3]
    · have hE : canE a b c t = 1 := by rw [canE, if_pos he, if_pos (by omega)]
      have hV : canV a b c t = 0 := by rw [canV, if_neg (by omega)]
      by_cases t1 : t < 0
      · simp (config := { maxSteps := 9000000 }) only [↓vyD, vyU, binS, SV.go1, SV.go0, mkRow, intsOf, boolsOf, strsOf, chunks, Row.rep, Row.cat, Row.sub, Row.put, Row.len, Row.get, Row.size, Row.flat, bnds, own0, own1, labsL, labsR, SV.labs, argsOf, entFr, SO.ev, St.of, keepSt, getAll, lookN, hasN, SV.cells, SV.one, SV.res1, SV.res0, SV.resP, SV.ok1, SV.ok0, SV.okN, SV.solid, SV.solid1, SV.solid0, SV.flat0, SV.nm, SV.nm1, SV.nm0, SV.noPtr1, SV.noPtr0, Cel.isFresh, fillP, setAt, partV, eqCells, cellEq, gamY, listsOk, tupOf, takeOwn, SV.ret1, resAll, resL, resV, Nat.reduceEqDiff, ↓reduceIte, Nat.reduceAdd, Nat.reduceMul, Nat.reduceLeDiff, reduceCtorEq, labOk, Int.reduceBEq, Int.reduceBNe, Int.reduceToNat, Int.reduceLE, Int.reduceLT, Int.reduceEq, Nat.reduceDiv, Nat.reduceMod, Nat.reduceSub, Nat.reduceBEq, fitR, fitR1, fitR0, fitRL1, fitRL, y39, gC2, spreadXS, cant1S, he, hE, hV, t1]
      · have t2 : 1073741824 < t := by omega
        simp (config := { maxSteps := 9000000 }) only [↓vyD, vyU, binS, SV.go1, SV.go0, mkRow, intsOf, boolsOf, strsOf, chunks, Row.rep, Row.cat, Row.sub, Row.put, Row.len, Row.get, Row.size, Row.flat, bnds, own0, own1, labsL, labsR, SV.labs, argsOf, entFr, SO.ev, St.of, keepSt, getAll, lookN, hasN, SV.cells, SV.one, SV.res1, SV.res0, SV.resP, SV.ok1, SV.ok0, SV.okN, SV.solid, SV.solid1, SV.solid0, SV.flat0, SV.nm, SV.nm1, SV.nm0, SV.noPtr1, SV.noPtr0, Cel.isFresh, fillP, setAt, partV, eqCells, cellEq, gamY, listsOk, tupOf, takeOwn, SV.ret1, resAll, resL, resV, Nat.reduceEqDiff, ↓reduceIte, Nat.reduceAdd, Nat.reduceMul, Nat.reduceLeDiff, reduceCtorEq, labOk, Int.reduceBEq, Int.reduceBNe, Int.reduceToNat, Int.reduceLE, Int.reduceLT, Int.reduceEq, Nat.reduceDiv, Nat.reduceMod, Nat.reduceSub, Nat.reduceBEq, fitR, fitR1, fitR0, fitRL1, fitRL, y39, gC2, spreadXS, cant1S, he, hE, hV, t1, t2]
  · have hE : canE a b c t = checkE a b c := by rw [canE, if_neg he]
    have hV : canV a b c t = 0 := by rw [canV, if_neg (by omega)]
    have he' : (checkE a b c != 0) = true := by simpa using he
    simp (config := { maxSteps := 9000000 }) only [↓vyD, vyU, binS, SV.go1, SV.go0, mkRow, intsOf, boolsOf, strsOf, chunks, Row.rep, Row.cat, Row.sub, Row.put, Row.len, Row.get, Row.size, Row.flat, bnds, own0, own1, labsL, labsR, SV.labs, argsOf, entFr, SO.ev, St.of, keepSt, getAll, lookN, hasN, SV.cells, SV.one, SV.res1, SV.res0, SV.resP, SV.ok1, SV.ok0, SV.okN, SV.solid, SV.solid1, SV.solid0, SV.flat0, SV.nm, SV.nm1, SV.nm0, SV.noPtr1, SV.noPtr0, Cel.isFresh, fillP, setAt, partV, eqCells, cellEq, gamY, listsOk, tupOf, takeOwn, SV.ret1, resAll, resL, resV, Nat.reduceEqDiff, ↓reduceIte, Nat.reduceAdd, Nat.reduceMul, Nat.reduceLeDiff, reduceCtorEq, labOk, Int.reduceBEq, Int.reduceBNe, Int.reduceToNat, Int.reduceLE, Int.reduceLT, Int.reduceEq, Nat.reduceDiv, Nat.reduceMod, Nat.reduceSub, Nat.reduceBEq, fitR, fitR1, fitR0, fitRL1, fitRL, y39, gC2, spreadXS, cant1S, he', hE, hV]
end Go.Proofs.Ytdnjbblejhojbaa
