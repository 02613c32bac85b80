/- What the functions of root do. -/
import Derived.Test.YtlfhcjohkpdkoaaYWd
import Derived.Test.YtlfhcjohkpdkoaaR0
import Derived.Test.YtlfhcjohkpdkoaaCRt
namespace Go.Proofs.Ytlfhcjohkpdkoaa
open Go.ChangeShapes Go.WideShapes Go.ChangeAt Go.RowKit Go.Joins Y
set_option linter.unusedSimpArgs false
set_option linter.unusedVariables false
set_option maxRecDepth 100000
set_option maxHeartbeats 40000000
def gWr : List (Nat × Say) := [(86, wAddS), (71, wCmpS), (72, wLenS), (73, wShlS), (92, pMulS)]
theorem gWr_ok : GamOk Try.prog (gamY gWr) := gam_ok (gam_cons wAdd_ok (gam_cons wCmp_ok (gam_cons wLen_ok (gam_cons wShl_ok (gam_cons pMul_ok gam_nil)))))
theorem halv_in (a b : Nat) (ha : Fits a) (hb : Fits b) : vcFun (gamY gWr) y38 [.agg [.int .u64 (hiN a), .int .u64 (loN a)], .agg [.int .u64 (hiN b), .int .u64 (loN b)]] none fun v o => fitR v (.tup [.int .i64 (halvN a b), .int .i64 (halvE a b)]) ∧ o = none := by
  by_cases b0 : b = 0
  · subst b0
    have p1 : halvN a 0 = 0 := if_pos (.inl rfl)
    have p2 : halvE a 0 = 6 := if_pos rfl
    simp (config := { maxSteps := 9000000 }) only [↓vyD, vyU, binS, SV.go1, SV.go0, mkRow, intsOf, boolsOf, strsOf, chunks, Row.rep, Row.cat, Row.sub, Row.put, Row.len, Row.get, Row.size, Row.flat, bnds, own0, own1, labsL, labsR, SV.labs, argsOf, entFr, SO.ev, St.of, keepSt, getAll, lookN, hasN, SV.cells, SV.one, SV.res1, SV.res0, SV.resP, SV.ok1, SV.ok0, SV.okN, SV.solid, SV.solid1, SV.solid0, SV.flat0, SV.nm, SV.nm1, SV.nm0, SV.noPtr1, SV.noPtr0, Cel.isFresh, fillP, setAt, partV, eqCells, cellEq, gamY, listsOk, tupOf, takeOwn, SV.ret1, resAll, resL, resV, Nat.reduceEqDiff, ↓reduceIte, Nat.reduceAdd, Nat.reduceMul, Nat.reduceLeDiff, Nat.reduceLT, reduceCtorEq, labOk, Int.reduceBEq, Int.reduceBNe, Int.reduceToNat, Int.reduceLE, Int.reduceLT, Int.reduceEq, Nat.reduceDiv, Nat.reduceMod, Nat.reduceSub, Nat.reduceBEq, fitR, fitR1, fitR0, fitRL1, fitRL, wd, wN_hl, OkW_hl, eq_hl, eq_h0, wN_0, OkW_0, cmpN_le0, cmpN_gt0, cmpN_lt0, cmpN_ge0, Int.toNat_natCast, y38, gWr, wAddS, wCmpS, wLenS, wShlS, pMulS, ha, hb, p1, p2]
  · by_cases hlt : a < b
    · have p1 : halvN a b = 0 := if_pos (.inr hlt)
      have p2 : halvE a b = 4 := (if_neg b0).trans (if_pos hlt)
      simp (config := { maxSteps := 9000000 }) only [↓vyD, vyU, binS, SV.go1, SV.go0, mkRow, intsOf, boolsOf, strsOf, chunks, Row.rep, Row.cat, Row.sub, Row.put, Row.len, Row.get, Row.size, Row.flat, bnds, own0, own1, labsL, labsR, SV.labs, argsOf, entFr, SO.ev, St.of, keepSt, getAll, lookN, hasN, SV.cells, SV.one, SV.res1, SV.res0, SV.resP, SV.ok1, SV.ok0, SV.okN, SV.solid, SV.solid1, SV.solid0, SV.flat0, SV.nm, SV.nm1, SV.nm0, SV.noPtr1, SV.noPtr0, Cel.isFresh, fillP, setAt, partV, eqCells, cellEq, gamY, listsOk, tupOf, takeOwn, SV.ret1, resAll, resL, resV, Nat.reduceEqDiff, ↓reduceIte, Nat.reduceAdd, Nat.reduceMul, Nat.reduceLeDiff, Nat.reduceLT, reduceCtorEq, labOk, Int.reduceBEq, Int.reduceBNe, Int.reduceToNat, Int.reduceLE, Int.reduceLT, Int.reduceEq, Nat.reduceDiv, Nat.reduceMod, Nat.reduceSub, Nat.reduceBEq, fitR, fitR1, fitR0, fitRL1, fitRL, wd, wN_hl, OkW_hl, eq_hl, eq_h0, wN_0, OkW_0, cmpN_le0, cmpN_gt0, cmpN_lt0, cmpN_ge0, Int.toNat_natCast, y38, gWr, wAddS, wCmpS, wLenS, wShlS, pMulS, ha, hb, b0, hlt, p1, p2]
    · have p2 : halvE a b = 0 := (if_neg b0).trans (if_neg hlt)
      have l1 := bitLen_mono (Nat.le_of_not_lt hlt)
      have l2 := bitLen_fits ha
      have l3 : 0 < bitLen b := Nat.pos_of_ne_zero fun h => b0 (Nat.eq_zero_of_le_zero (Nat.le_of_lt_succ ((bitLen_lt_iff b 0).1 (by omega))))
      obtain ⟨k, hk⟩ : ∃ k, bitLen a - bitLen b = k := ⟨_, rfl⟩
      have w1 : IntKind.i64.wrap ((bitLen a : Int) - (bitLen b : Int)) = (k : Int) := by rw [i64_wrap (by unfold I64; omega)]; omega
      have hfit : b * 2 ^ k < 340282366920938463463374607431768211456 := by
        have := (fits_shl (n := k) b0).2 (by omega)
        exact fits_lt.1 this
      have s1 : wShlN b (k : Int) = b * 2 ^ k := if_pos ⟨by omega, by omega, by simpa using hfit⟩
      have s2 : wShlE b (k : Int) = 0 := (if_pos ⟨by omega, by omega⟩).trans (if_pos (by simpa using hfit))
      have fk : Fits (b * 2 ^ k) := fits_lt.2 hfit
      by_cases hle : b * 2 ^ k ≤ a
      · have p1 : halvN a b = k := by unfold halvN; rw [hk, if_neg (by omega), if_pos hle]
        have hg : ¬ a < b * 2 ^ k := by omega
        simp (config := { maxSteps := 9000000 }) only [↓vyD, vyU, binS, SV.go1, SV.go0, mkRow, intsOf, boolsOf, strsOf, chunks, Row.rep, Row.cat, Row.sub, Row.put, Row.len, Row.get, Row.size, Row.flat, bnds, own0, own1, labsL, labsR, SV.labs, argsOf, entFr, SO.ev, St.of, keepSt, getAll, lookN, hasN, SV.cells, SV.one, SV.res1, SV.res0, SV.resP, SV.ok1, SV.ok0, SV.okN, SV.solid, SV.solid1, SV.solid0, SV.flat0, SV.nm, SV.nm1, SV.nm0, SV.noPtr1, SV.noPtr0, Cel.isFresh, fillP, setAt, partV, eqCells, cellEq, gamY, listsOk, tupOf, takeOwn, SV.ret1, resAll, resL, resV, Nat.reduceEqDiff, ↓reduceIte, Nat.reduceAdd, Nat.reduceMul, Nat.reduceLeDiff, Nat.reduceLT, reduceCtorEq, labOk, Int.reduceBEq, Int.reduceBNe, Int.reduceToNat, Int.reduceLE, Int.reduceLT, Int.reduceEq, Nat.reduceDiv, Nat.reduceMod, Nat.reduceSub, Nat.reduceBEq, fitR, fitR1, fitR0, fitRL1, fitRL, wd, wN_hl, OkW_hl, eq_hl, eq_h0, wN_0, OkW_0, cmpN_le0, cmpN_gt0, cmpN_lt0, cmpN_ge0, Int.toNat_natCast, y38, gWr, wAddS, wCmpS, wLenS, wShlS, pMulS, ha, hb, b0, hlt, hg, w1, s1, s2, fk, p1, p2]
      · have hk0 : 0 < k := Nat.pos_of_ne_zero fun h => by subst h; simp at hle; omega
        have p1 : halvN a b = k - 1 := by unfold halvN; rw [hk, if_neg (by omega), if_neg hle]
        have w2 : IntKind.i64.wrap ((k : Int) - 1) = ((k - 1 : Nat) : Int) := by rw [i64_wrap (by unfold I64; omega)]; omega
        have hg : a < b * 2 ^ k := by omega
        simp (config := { maxSteps := 9000000 }) only [↓vyD, vyU, binS, SV.go1, SV.go0, mkRow, intsOf, boolsOf, strsOf, chunks, Row.rep, Row.cat, Row.sub, Row.put, Row.len, Row.get, Row.size, Row.flat, bnds, own0, own1, labsL, labsR, SV.labs, argsOf, entFr, SO.ev, St.of, keepSt, getAll, lookN, hasN, SV.cells, SV.one, SV.res1, SV.res0, SV.resP, SV.ok1, SV.ok0, SV.okN, SV.solid, SV.solid1, SV.solid0, SV.flat0, SV.nm, SV.nm1, SV.nm0, SV.noPtr1, SV.noPtr0, Cel.isFresh, fillP, setAt, partV, eqCells, cellEq, gamY, listsOk, tupOf, takeOwn, SV.ret1, resAll, resL, resV, Nat.reduceEqDiff, ↓reduceIte, Nat.reduceAdd, Nat.reduceMul, Nat.reduceLeDiff, Nat.reduceLT, reduceCtorEq, labOk, Int.reduceBEq, Int.reduceBNe, Int.reduceToNat, Int.reduceLE, Int.reduceLT, Int.reduceEq, Nat.reduceDiv, Nat.reduceMod, Nat.reduceSub, Nat.reduceBEq, fitR, fitR1, fitR0, fitRL1, fitRL, wd, wN_hl, OkW_hl, eq_hl, eq_h0, wN_0, OkW_0, cmpN_le0, cmpN_gt0, cmpN_lt0, cmpN_ge0, Int.toNat_natCast, y38, gWr, wAddS, wCmpS, wLenS, wShlS, pMulS, ha, hb, b0, hlt, hg, w1, w2, s1, s2, fk, p1, p2]
def halvS : Say
  | [.agg [.int .u64 x1, .int .u64 y1], .agg [.int .u64 x2, .int .u64 y2]] => some (OkW x1 y1 ∧ OkW x2 y2, .tup [.int .i64 (halvN (wN x1 y1) (wN x2 y2)), .int .i64 (halvE (wN x1 y1) (wN x2 y2))], none)
  | _ => none
theorem halv_ok : FOk Try.prog 38 halvS := by
  intro xs p r own h hp
  unfold halvS at h
  split at h
  case h_2 => cases h
  rename_i x1 y1 x2 y2
  simp only [Option.some.injEq, Prod.mk.injEq] at h
  obtain ⟨rfl, rfl, rfl⟩ := h
  refine fun_ok gWr_ok lawy_mixed y38_eq none ?_ (Nat.le_of_ble_eq_true rfl)
  obtain ⟨ha, e1, e2⟩ := isW_wN hp.1
  obtain ⟨hb, e3, e4⟩ := isW_wN hp.2
  generalize wN x1 y1 = a at *
  generalize wN x2 y2 = b at *
  subst e1 e2 e3 e4
  exact halv_in a b ha hb
end Go.Proofs.Ytlfhcjohkpdkoaa
