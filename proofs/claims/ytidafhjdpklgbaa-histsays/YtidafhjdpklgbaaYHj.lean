/- What hist.Join does; quantile bounds of histograms; histograms compared. -/
import Derived.Test.YtidafhjdpklgbaaYHq
namespace Go.Proofs.Ytidafhjdpklgbaa
open Go.ChangeShapes Go.WideShapes Go.ChangeAt Go.RowKit Go.Joins Y
set_option linter.unusedSimpArgs false
set_option linter.unusedVariables false
set_option maxRecDepth 100000
set_option maxHeartbeats 40000000
theorem lenK_ge (l : List Int) (k : Int) : ∀ f i, i ≤ lenK l k f i
  | 0, i => Nat.le_refl _
  | f + 1, i => by
    rw [lenK]
    split
    · have := lenK_ge l k f (i + 1); omega
    · exact Nat.le_refl _
theorem lenK_mono {l : List Int} {k k' : Int} (h : k ≤ k') : ∀ f i, lenK l k f i ≤ lenK l k' f i
  | 0, i => Nat.le_refl _
  | f + 1, i => by
    rw [lenK, lenK]
    by_cases h1 : sumK l (i + 1) < k
    · rw [if_pos h1, if_pos (by omega)]
      exact lenK_mono h f (i + 1)
    · rw [if_neg h1]
      split
      · have := lenK_ge l k' f (i + 1); omega
      · exact Nat.le_refl _
theorem pow2_le {a b : Nat} (h : a ≤ b) : (2 : Int) ^ a ≤ 2 ^ b := by
  have := Nat.pow_le_pow_right (show 0 < 2 by omega) h
  exact_mod_cast this
theorem pow2_pos (a : Nat) : (1 : Int) ≤ 2 ^ a := by have : (0 : Int) < 2 ^ a := Int.pow_pos (by omega); omega
theorem pow2_pred {k : Nat} (h : k ≠ 0) : (2 : Int) ^ k = 2 * 2 ^ (k - 1) := by
  obtain ⟨j, rfl⟩ : ∃ j, k = j + 1 := ⟨k - 1, by omega⟩
  rw [Int.pow_succ, Nat.add_sub_cancel, Int.mul_comm]
theorem endL_mono {a b : Nat} (h : a ≤ b) : endL a ≤ endL b := by
  unfold endL
  by_cases h1 : a = 0
  · rw [if_pos h1]; split
    · omega
    · have := pow2_pos (b - 1); omega
  · rw [if_neg h1, if_neg (by omega)]
    exact pow2_le (by omega)
theorem endH_mono {a b : Nat} (h : a ≤ b) : endH a ≤ endH b := by
  unfold endH
  by_cases h1 : a = 0
  · rw [if_pos h1]; split
    · omega
    · have := pow2_pos b; split <;> omega
  · rw [if_neg h1, if_neg (show ¬ b = 0 by omega)]
    have := pow2_le h
    split <;> split <;> omega
theorem end_le {k : Nat} (h : k ≤ 25) : endL k ≤ endH k ∧ endH k ≤ 2 * endL k := by
  unfold endL endH
  by_cases h1 : k = 0
  · rw [if_pos h1, if_pos h1]; omega
  · rw [if_neg h1, if_neg h1]
    have e := pow2_pred h1
    have h2 := pow2_pos (k - 1)
    have h3 : (2 : Int) ^ (k - 1) ≤ 2 ^ 24 := pow2_le (by omega)
    rw [e]
    split <;> omega
def addK (a b : List Int) : Nat → List Int
  | 0 => a
  | i + 1 => (addK a b i).set i ((addK a b i).getD i 0 + b.getD i 0)
theorem addK_len (a b : List Int) : ∀ i, (addK a b i).length = a.length
  | 0 => rfl
  | i + 1 => by rw [addK, List.length_set, addK_len a b i]
theorem addK_at {a : List Int} (b : List Int) (ha : a.length = 26) : ∀ i, i ≤ 26 → ∀ j, (addK a b i).getD j 0 = if j < i then a.getD j 0 + b.getD j 0 else a.getD j 0
  | 0, _, j => by simp [addK]
  | i + 1, hi, j => by
    have ih := addK_at b ha i (by omega)
    rw [addK, set_at (by rw [addK_len]; omega), ih i, ih j]
    by_cases h : i = j
    · subst h; simp
    · rw [if_neg h]
      by_cases h2 : j < i
      · rw [if_pos h2, if_pos (by omega)]
      · rw [if_neg h2, if_neg (by omega)]
theorem addK_0 (a b : List Int) : addK a b 0 = a := rfl
theorem addK_s (a b : List Int) (i : Nat) : addK a b (i + 1) = (addK a b i).set i ((addK a b i).getD i 0 + b.getD i 0) := rfl
attribute [irreducible] addK
theorem sum_double {l : List Int} (hl : l.length = 26) : ∀ i, i ≤ 26 → sumK (addK l l 26) i = 2 * sumK l i
  | 0, _ => by simp [sumK]
  | i + 1, hi => by
    rw [sumK_succ (by rw [addK_len]; omega), sumK_succ (by omega), sum_double hl i (by omega), addK_at l hl 26 (by omega) i, if_pos (by omega)]
    omega
theorem lenK_double {l : List Int} (hl : l.length = 26) (S : Int) : ∀ f i, i + f ≤ 26 → lenK (addK l l 26) (2 * S) f i = lenK l S f i
  | 0, i, _ => by rw [lenK, lenK]
  | f + 1, i, h => by
    rw [lenK, lenK, sum_double hl (i + 1) (by omega), lenK_double hl S f (i + 1) (by omega)]
    by_cases h1 : sumK l (i + 1) < S
    · rw [if_pos h1, if_pos (by omega)]
    · rw [if_neg h1, if_neg (by omega)]
theorem eq_of_at {a b : List Int} (ha : a.length = 26) (hb : b.length = 26) (h : ∀ j, a.getD j 0 = b.getD j 0) : a = b := by
  refine List.ext_getElem (by omega) fun i h1 h2 => ?_
  have := h i
  rw [List.getD_eq_getElem?_getD, List.getD_eq_getElem?_getD, List.getElem?_eq_getElem h1, List.getElem?_eq_getElem h2] at this
  exact this
theorem eqH_in {a b : List Int} (ha : a.length = 26) (hb : b.length = 26) : ∀ m k, k + m = 26 → eqCells (hC a) (hC b) ((List.range' k m).map fun j => (j, 0)) = some (decide (a.drop k = b.drop k))
  | 0, k, h => by
    rw [List.drop_of_length_le (by omega), List.drop_of_length_le (by omega)]
    simp [eqCells]
  | m + 1, k, h => by
    have ih := eqH_in ha hb m (k + 1) (by omega)
    have h1 : k < a.length := by omega
    have h2 : k < b.length := by omega
    simp only [List.range'_succ, List.map_cons, eqCells, hC_get h1, hC_get h2, ih]
    rw [List.drop_eq_getElem_cons h1, List.drop_eq_getElem_cons h2, List.getD_eq_getElem?_getD, List.getD_eq_getElem?_getD, List.getElem?_eq_getElem h1, List.getElem?_eq_getElem h2]
    simp only [Option.getD_some, cellEq, if_true]
    congr 1
    rw [Bool.eq_iff_iff]
    simp only [decide_eq_true_eq, List.cons.injEq, Bool.and_eq_true, beq_iff_eq]
/-- Two histograms: are they the same? -/
theorem eqH {a b : List Int} (ha : a.length = 26) (hb : b.length = 26) : eqCells (hC a) (hC b) [(0, 0), (1, 0), (2, 0), (3, 0), (4, 0), (5, 0), (6, 0), (7, 0), (8, 0), (9, 0), (10, 0), (11, 0), (12, 0), (13, 0), (14, 0), (15, 0), (16, 0), (17, 0), (18, 0), (19, 0), (20, 0), (21, 0), (22, 0), (23, 0), (24, 0), (25, 0)] = some (decide (a = b)) := by
  have h := eqH_in ha hb 26 0 (by omega)
  rw [List.drop_zero, List.drop_zero] at h
  exact h
def joinHE (a b : List Int) : Int := if hE a = 0 then (if hE b = 0 then (if hE (addK a b 26) = 0 then 0 else 2) else hE b) else hE a
def joinHL (a b : List Int) : List Int := if joinHE a b = 0 then addK a b 26 else zL
theorem joinHL_len {a b : List Int} (ha : a.length = 26) : (joinHL a b).length = 26 := by
  unfold joinHL; split
  · rw [addK_len]; exact ha
  · exact zL_len
def gJn : List (Nat × Say) := [(19, hchkS)]
theorem gJn_ok : GamOk Try.prog (gamY gJn) := gam_ok (gam_cons hchk_ok gam_nil)
def hjoinS : Say
  | [.agg x_a, .agg x_b] => (match asH x_a, asH x_b with | some a, some b => some (True, .tup [.agg (hC (joinHL a b)), .int .i64 (joinHE a b)], none) | _, _ => none)
  | _ => none
theorem hjoin_ok : FOk Try.prog 16 hjoinS := by
  intro xs p r own h hp
  unfold hjoinS at h
  split at h
  case h_2 => cases h
  rename_i x_a x_b
  split at h
  case h_2 => cases h
  rename_i a b h_a h_b
  simp only [Option.some.injEq, Prod.mk.injEq] at h
  obtain ⟨rfl, rfl, rfl⟩ := h
  refine fun_fit (ys := [.agg (hC a), .agg (hC b)]) ?_ ⟨asH_fit h_a, asH_fit h_b, trivial⟩
  have len_a := asH_len h_a
  have len_b := asH_len h_b
  clear h_a h_b
  refine fun_ok gJn_ok lawy_mixed y16_eq none ?_ (Nat.le_of_ble_eq_true rfl)
  have hjl := joinHL_len (b := b) len_a
  by_cases h1 : hE a = 0
  · have h1' : (hE a != 0) = false := by simp [h1]
    by_cases h2 : hE b = 0
    · have h2' : (hE b != 0) = false := by simp [h2]
      have hkl : ∀ i, (addK a b i).length = 26 := fun i => by rw [addK_len]; exact len_a
      have k26 := hkl 26
      simp (config := { maxSteps := 9000000 }) only [↓vyD, vyU, binS, SV.go1, SV.go0, mkRow, intsOf, boolsOf, strsOf, chunks, Row.rep, Row.cat, Row.sub, Row.put, Row.len, Row.get, Row.size, Row.flat, bnds, own0, own1, labsL, labsR, SV.labs, argsOf, entFr, SO.ev, St.of, keepSt, getAll, lookN, hasN, SV.cells, SV.one, SV.res1, SV.res0, SV.resP, SV.ok1, SV.ok0, SV.okN, SV.solid, SV.solid1, SV.solid0, SV.flat0, SV.nm, SV.nm1, SV.nm0, SV.noPtr1, SV.noPtr0, Cel.isFresh, fillP, setAt, partV, eqCells, cellEq, gamY, listsOk, tupOf, takeOwn, SV.ret1, resAll, resL, resV, Nat.reduceEqDiff, ↓reduceIte, Nat.reduceAdd, Nat.reduceMul, Nat.reduceLeDiff, Nat.reduceLT, reduceCtorEq, labOk, Int.reduceBEq, Int.reduceBNe, Int.reduceToNat, Int.reduceLE, Int.reduceLT, Int.reduceEq, Nat.reduceDiv, Nat.reduceMod, Nat.reduceSub, Nat.reduceBEq, fitR, fitR1, fitR0, fitRL1, fitRL, y16, gJn, hchkS, hC_len, hC_take, hC_one, hC_ok, hC_solid, hC_np, hC_res, hC_go, hC_nm, hC_labs, hC_own, hC_set, hC_over, hC_fitR, hC_fitL, hZ, zL_len, asH_hC, len_a, len_b, h1', h2']
      refine loopG_intro (ι := Nat) (fun i => [(2, .ptr 0 0), (4, .ptr 2 0), (23, .agg (hC b)), (24, .int .i64 i)]) (fun i => [(0, .var 24 (hC (addK a b i))), (2, .var 24 (hC zL))]) (fun i => i ≤ 26) (fun i => 26 - i) ⟨0, by omega, ?_, ?_, ?_⟩ fun i hi => ?_
      · simp (config := { maxSteps := 9000000 }) only [↓vyD, vyU, binS, SV.go1, SV.go0, mkRow, intsOf, boolsOf, strsOf, chunks, Row.rep, Row.cat, Row.sub, Row.put, Row.len, Row.get, Row.size, Row.flat, bnds, own0, own1, labsL, labsR, SV.labs, argsOf, entFr, SO.ev, St.of, keepSt, getAll, lookN, hasN, SV.cells, SV.one, SV.res1, SV.res0, SV.resP, SV.ok1, SV.ok0, SV.okN, SV.solid, SV.solid1, SV.solid0, SV.flat0, SV.nm, SV.nm1, SV.nm0, SV.noPtr1, SV.noPtr0, Cel.isFresh, fillP, setAt, partV, eqCells, cellEq, gamY, listsOk, tupOf, takeOwn, SV.ret1, resAll, resL, resV, Nat.reduceEqDiff, ↓reduceIte, Nat.reduceAdd, Nat.reduceMul, Nat.reduceLeDiff, Nat.reduceLT, reduceCtorEq, labOk, Int.reduceBEq, Int.reduceBNe, Int.reduceToNat, Int.reduceLE, Int.reduceLT, Int.reduceEq, Nat.reduceDiv, Nat.reduceMod, Nat.reduceSub, Nat.reduceBEq, fitR, fitR1, fitR0, fitRL1, fitRL, hC_len, hC_take, hC_one, hC_ok, hC_solid, hC_np, hC_res, hC_go, hC_nm, hC_labs, hC_own, hC_set, hC_over, hC_fitR, hC_fitL, hZ, zL_len, asH_hC, len_a]
      · simp (config := { maxSteps := 9000000 }) only [↓vyD, vyU, binS, SV.go1, SV.go0, mkRow, intsOf, boolsOf, strsOf, chunks, Row.rep, Row.cat, Row.sub, Row.put, Row.len, Row.get, Row.size, Row.flat, bnds, own0, own1, labsL, labsR, SV.labs, argsOf, entFr, SO.ev, St.of, keepSt, getAll, lookN, hasN, SV.cells, SV.one, SV.res1, SV.res0, SV.resP, SV.ok1, SV.ok0, SV.okN, SV.solid, SV.solid1, SV.solid0, SV.flat0, SV.nm, SV.nm1, SV.nm0, SV.noPtr1, SV.noPtr0, Cel.isFresh, fillP, setAt, partV, eqCells, cellEq, gamY, listsOk, tupOf, takeOwn, SV.ret1, resAll, resL, resV, Nat.reduceEqDiff, ↓reduceIte, Nat.reduceAdd, Nat.reduceMul, Nat.reduceLeDiff, Nat.reduceLT, reduceCtorEq, labOk, Int.reduceBEq, Int.reduceBNe, Int.reduceToNat, Int.reduceLE, Int.reduceLT, Int.reduceEq, Nat.reduceDiv, Nat.reduceMod, Nat.reduceSub, Nat.reduceBEq, fitR, fitR1, fitR0, fitRL1, fitRL, hC_len, hC_take, hC_one, hC_ok, hC_solid, hC_np, hC_res, hC_go, hC_nm, hC_labs, hC_own, hC_set, hC_over, hC_fitR, hC_fitL, hZ, zL_len, asH_hC, len_a, Int.natCast_zero, Int.ofNat_zero]
      · simp (config := { maxSteps := 9000000 }) only [↓vyD, vyU, binS, SV.go1, SV.go0, mkRow, intsOf, boolsOf, strsOf, chunks, Row.rep, Row.cat, Row.sub, Row.put, Row.len, Row.get, Row.size, Row.flat, bnds, own0, own1, labsL, labsR, SV.labs, argsOf, entFr, SO.ev, St.of, keepSt, getAll, lookN, hasN, SV.cells, SV.one, SV.res1, SV.res0, SV.resP, SV.ok1, SV.ok0, SV.okN, SV.solid, SV.solid1, SV.solid0, SV.flat0, SV.nm, SV.nm1, SV.nm0, SV.noPtr1, SV.noPtr0, Cel.isFresh, fillP, setAt, partV, eqCells, cellEq, gamY, listsOk, tupOf, takeOwn, SV.ret1, resAll, resL, resV, Nat.reduceEqDiff, ↓reduceIte, Nat.reduceAdd, Nat.reduceMul, Nat.reduceLeDiff, Nat.reduceLT, reduceCtorEq, labOk, Int.reduceBEq, Int.reduceBNe, Int.reduceToNat, Int.reduceLE, Int.reduceLT, Int.reduceEq, Nat.reduceDiv, Nat.reduceMod, Nat.reduceSub, Nat.reduceBEq, fitR, fitR1, fitR0, fitRL1, fitRL, hC_len, hC_take, hC_one, hC_ok, hC_solid, hC_np, hC_res, hC_go, hC_nm, hC_labs, hC_own, hC_set, hC_over, hC_fitR, hC_fitL, hZ, zL_len, asH_hC, len_a, addK_0]
      have ki := hkl i
      by_cases hlt : (i : Int) < 26
      · have hb' : i < b.length := by omega
        have ha' : i < (addK a b i).length := by omega
        have c0 : (0 : Int) ≤ (i : Int) := by omega
        have b1 := i64_wrap (show I64 ((i : Int) + 1) by unfold I64; omega)
        have hG := hC_get hb'
        have hA := hC_get ha'
        have v1 := (hE_0 len_a).1 h1 i (by omega)
        have v2 := (hE_0 len_b).1 h2 i (by omega)
        have hat := addK_at b len_a i (by omega) i
        rw [if_neg (by omega)] at hat
        have w1 := i64_wrap (show I64 ((addK a b i).getD i 0 + b.getD i 0) by rw [hat]; unfold I64; omega)
        have hset : addK a b (i + 1) = (addK a b i).set i ((addK a b i).getD i 0 + b.getD i 0) := addK_s a b i
        have ksl : ((addK a b i).set i ((addK a b i).getD i 0 + b.getD i 0)).length = 26 := by rw [List.length_set]; exact ki
        have c2 : i + 1 ≤ 26 := by omega
        simp (config := { maxSteps := 9000000 }) only [↓vyD, vyU, binS, SV.go1, SV.go0, mkRow, intsOf, boolsOf, strsOf, chunks, Row.rep, Row.cat, Row.sub, Row.put, Row.len, Row.get, Row.size, Row.flat, bnds, own0, own1, labsL, labsR, SV.labs, argsOf, entFr, SO.ev, St.of, keepSt, getAll, lookN, hasN, SV.cells, SV.one, SV.res1, SV.res0, SV.resP, SV.ok1, SV.ok0, SV.okN, SV.solid, SV.solid1, SV.solid0, SV.flat0, SV.nm, SV.nm1, SV.nm0, SV.noPtr1, SV.noPtr0, Cel.isFresh, fillP, setAt, partV, eqCells, cellEq, gamY, listsOk, tupOf, takeOwn, SV.ret1, resAll, resL, resV, Nat.reduceEqDiff, ↓reduceIte, Nat.reduceAdd, Nat.reduceMul, Nat.reduceLeDiff, Nat.reduceLT, reduceCtorEq, labOk, Int.reduceBEq, Int.reduceBNe, Int.reduceToNat, Int.reduceLE, Int.reduceLT, Int.reduceEq, Nat.reduceDiv, Nat.reduceMod, Nat.reduceSub, Nat.reduceBEq, fitR, fitR1, fitR0, fitRL1, fitRL, hC_len, hC_take, hC_one, hC_ok, hC_solid, hC_np, hC_res, hC_go, hC_nm, hC_labs, hC_own, hC_set, hC_over, hC_fitR, hC_fitL, hZ, zL_len, asH_hC, len_b, ki, ksl, hlt, c0, c2, hG, hA, Int.toNat_natCast, Nat.mul_one, Nat.zero_add, b1, w1]
        exact ⟨i + 1, ⟨by omega, by omega⟩, by simp, by rw [hset, hC_fitL]; trivial⟩
      · have hiS : i = 26 := by omega
        subst hiS
        by_cases h3 : hE (addK a b 26) = 0
        · have h3' : (hE (addK a b 26) != 0) = false := by simp [h3]
          have hP : joinHE a b = 0 := by unfold joinHE; rw [if_pos h1, if_pos h2, if_pos h3]
          have hL : joinHL a b = addK a b 26 := if_pos hP
          simp (config := { maxSteps := 9000000 }) only [↓vyD, vyU, binS, SV.go1, SV.go0, mkRow, intsOf, boolsOf, strsOf, chunks, Row.rep, Row.cat, Row.sub, Row.put, Row.len, Row.get, Row.size, Row.flat, bnds, own0, own1, labsL, labsR, SV.labs, argsOf, entFr, SO.ev, St.of, keepSt, getAll, lookN, hasN, SV.cells, SV.one, SV.res1, SV.res0, SV.resP, SV.ok1, SV.ok0, SV.okN, SV.solid, SV.solid1, SV.solid0, SV.flat0, SV.nm, SV.nm1, SV.nm0, SV.noPtr1, SV.noPtr0, Cel.isFresh, fillP, setAt, partV, eqCells, cellEq, gamY, listsOk, tupOf, takeOwn, SV.ret1, resAll, resL, resV, Nat.reduceEqDiff, ↓reduceIte, Nat.reduceAdd, Nat.reduceMul, Nat.reduceLeDiff, Nat.reduceLT, reduceCtorEq, labOk, Int.reduceBEq, Int.reduceBNe, Int.reduceToNat, Int.reduceLE, Int.reduceLT, Int.reduceEq, Nat.reduceDiv, Nat.reduceMod, Nat.reduceSub, Nat.reduceBEq, fitR, fitR1, fitR0, fitRL1, fitRL, gJn, hchkS, hC_len, hC_take, hC_one, hC_ok, hC_solid, hC_np, hC_res, hC_go, hC_nm, hC_labs, hC_own, hC_set, hC_over, hC_fitR, hC_fitL, hZ, zL_len, asH_hC, k26, hlt, h3', hP, hL]
        · have h3' : (hE (addK a b 26) != 0) = true := by simpa using h3
          have hP : joinHE a b = 2 := by unfold joinHE; rw [if_pos h1, if_pos h2, if_neg h3]
          have hL : joinHL a b = zL := if_neg (by omega)
          simp (config := { maxSteps := 9000000 }) only [↓vyD, vyU, binS, SV.go1, SV.go0, mkRow, intsOf, boolsOf, strsOf, chunks, Row.rep, Row.cat, Row.sub, Row.put, Row.len, Row.get, Row.size, Row.flat, bnds, own0, own1, labsL, labsR, SV.labs, argsOf, entFr, SO.ev, St.of, keepSt, getAll, lookN, hasN, SV.cells, SV.one, SV.res1, SV.res0, SV.resP, SV.ok1, SV.ok0, SV.okN, SV.solid, SV.solid1, SV.solid0, SV.flat0, SV.nm, SV.nm1, SV.nm0, SV.noPtr1, SV.noPtr0, Cel.isFresh, fillP, setAt, partV, eqCells, cellEq, gamY, listsOk, tupOf, takeOwn, SV.ret1, resAll, resL, resV, Nat.reduceEqDiff, ↓reduceIte, Nat.reduceAdd, Nat.reduceMul, Nat.reduceLeDiff, Nat.reduceLT, reduceCtorEq, labOk, Int.reduceBEq, Int.reduceBNe, Int.reduceToNat, Int.reduceLE, Int.reduceLT, Int.reduceEq, Nat.reduceDiv, Nat.reduceMod, Nat.reduceSub, Nat.reduceBEq, fitR, fitR1, fitR0, fitRL1, fitRL, gJn, hchkS, hC_len, hC_take, hC_one, hC_ok, hC_solid, hC_np, hC_res, hC_go, hC_nm, hC_labs, hC_own, hC_set, hC_over, hC_fitR, hC_fitL, hZ, zL_len, asH_hC, k26, hlt, h3', hP, hL]
    · have h2' : (hE b != 0) = true := by simpa using h2
      have hP : joinHE a b = hE b := by unfold joinHE; rw [if_pos h1, if_neg h2]
      have hL : joinHL a b = zL := if_neg (by omega)
      simp (config := { maxSteps := 9000000 }) only [↓vyD, vyU, binS, SV.go1, SV.go0, mkRow, intsOf, boolsOf, strsOf, chunks, Row.rep, Row.cat, Row.sub, Row.put, Row.len, Row.get, Row.size, Row.flat, bnds, own0, own1, labsL, labsR, SV.labs, argsOf, entFr, SO.ev, St.of, keepSt, getAll, lookN, hasN, SV.cells, SV.one, SV.res1, SV.res0, SV.resP, SV.ok1, SV.ok0, SV.okN, SV.solid, SV.solid1, SV.solid0, SV.flat0, SV.nm, SV.nm1, SV.nm0, SV.noPtr1, SV.noPtr0, Cel.isFresh, fillP, setAt, partV, eqCells, cellEq, gamY, listsOk, tupOf, takeOwn, SV.ret1, resAll, resL, resV, Nat.reduceEqDiff, ↓reduceIte, Nat.reduceAdd, Nat.reduceMul, Nat.reduceLeDiff, Nat.reduceLT, reduceCtorEq, labOk, Int.reduceBEq, Int.reduceBNe, Int.reduceToNat, Int.reduceLE, Int.reduceLT, Int.reduceEq, Nat.reduceDiv, Nat.reduceMod, Nat.reduceSub, Nat.reduceBEq, fitR, fitR1, fitR0, fitRL1, fitRL, y16, gJn, hchkS, hC_len, hC_take, hC_one, hC_ok, hC_solid, hC_np, hC_res, hC_go, hC_nm, hC_labs, hC_own, hC_set, hC_over, hC_fitR, hC_fitL, hZ, zL_len, asH_hC, len_a, len_b, h1', h2', hP, hL]
  · have h1' : (hE a != 0) = true := by simpa using h1
    have hP : joinHE a b = hE a := by unfold joinHE; rw [if_neg h1]
    have hL : joinHL a b = zL := if_neg (by omega)
    simp (config := { maxSteps := 9000000 }) only [↓vyD, vyU, binS, SV.go1, SV.go0, mkRow, intsOf, boolsOf, strsOf, chunks, Row.rep, Row.cat, Row.sub, Row.put, Row.len, Row.get, Row.size, Row.flat, bnds, own0, own1, labsL, labsR, SV.labs, argsOf, entFr, SO.ev, St.of, keepSt, getAll, lookN, hasN, SV.cells, SV.one, SV.res1, SV.res0, SV.resP, SV.ok1, SV.ok0, SV.okN, SV.solid, SV.solid1, SV.solid0, SV.flat0, SV.nm, SV.nm1, SV.nm0, SV.noPtr1, SV.noPtr0, Cel.isFresh, fillP, setAt, partV, eqCells, cellEq, gamY, listsOk, tupOf, takeOwn, SV.ret1, resAll, resL, resV, Nat.reduceEqDiff, ↓reduceIte, Nat.reduceAdd, Nat.reduceMul, Nat.reduceLeDiff, Nat.reduceLT, reduceCtorEq, labOk, Int.reduceBEq, Int.reduceBNe, Int.reduceToNat, Int.reduceLE, Int.reduceLT, Int.reduceEq, Nat.reduceDiv, Nat.reduceMod, Nat.reduceSub, Nat.reduceBEq, fitR, fitR1, fitR0, fitRL1, fitRL, y16, gJn, hchkS, hC_len, hC_take, hC_one, hC_ok, hC_solid, hC_np, hC_res, hC_go, hC_nm, hC_labs, hC_own, hC_set, hC_over, hC_fitR, hC_fitL, hZ, zL_len, asH_hC, len_a, h1', hP, hL]
end Go.Proofs.Ytidafhjdpklgbaa
