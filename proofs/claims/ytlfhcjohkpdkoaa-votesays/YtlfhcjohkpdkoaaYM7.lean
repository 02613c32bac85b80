/- Places of parts; lists that rise; counts. -/
import Derived.Test.YtlfhcjohkpdkoaaYR6
import Derived.Test.YtlfhcjohkpdkoaaYM6
namespace Go.Proofs.Ytlfhcjohkpdkoaa
open Go.ChangeShapes Go.WideShapes Go.ChangeAt Go.RowKit Go.Joins Y
set_option linter.unusedSimpArgs false
set_option linter.unusedVariables false
set_option maxRecDepth 100000
set_option maxHeartbeats 40000000
theorem place_lo {n num den : Int} (hd : 1 ≤ den) : n * num ≤ placeN n num den * den ∧ (placeN n num den = 1 ∨ (placeN n num den - 1) * den < n * num) := by
  have h1 := Int.ediv_mul_le (n * num + den - 1) (show den ≠ 0 by omega)
  have h2 := Int.lt_ediv_add_one_mul_self (n * num + den - 1) (show 0 < den by omega)
  unfold placeN
  generalize (n * num + den - 1) / den = q at *
  rw [Int.add_mul, Int.one_mul] at h2
  split
  · rw [Int.sub_mul, Int.one_mul]
    exact ⟨by omega, .inr (by omega)⟩
  · have h3 := Int.mul_le_mul_of_nonneg_right (show q ≤ 1 by omega) (show 0 ≤ den by omega)
    exact ⟨by omega, .inl rfl⟩
theorem place_mono {n num num' den : Int} (hn : 0 ≤ n) (hd : 1 ≤ den) (h : num ≤ num') : placeN n num den ≤ placeN n num' den := by
  have h1 := Int.mul_le_mul_of_nonneg_left h hn
  have h2 := Int.ediv_le_ediv (show 0 < den by omega) (show n * num + den - 1 ≤ n * num' + den - 1 by omega)
  unfold placeN
  split <;> split <;> omega
theorem place_0 {n den : Int} (hd : 1 ≤ den) : placeN n 0 den = 1 := by
  have : (n * 0 + den - 1) / den = 0 := Int.ediv_eq_zero_of_lt (by omega) (by omega)
  unfold placeN
  rw [this]; rfl
theorem place_1 {n den : Int} (hn : 1 ≤ n) (hd : 1 ≤ den) : placeN n den den = n := by
  have : (n * den + den - 1) / den = n := by
    rw [show n * den + den - 1 = (den - 1) + n * den by omega, Int.add_mul_ediv_right _ _ (by omega), Int.ediv_eq_zero_of_lt (by omega) (by omega), Int.zero_add]
  unfold placeN
  rw [this]; split <;> omega
theorem sortL_0 {l : List Int} (h : 0 < l.length) : (sortL l).getD 0 0 = minL l := by
  have hne : l ≠ [] := fun h0 => by rw [h0] at h; simp at h
  obtain ⟨i1, i2⟩ := minL_spec hne
  have h1 := i2 _ (sortL_mem_at (l := l) (j := 0) h)
  obtain ⟨j, hj, e⟩ := List.getElem_of_mem (sortL_mem.2 i1)
  have h2 := sortL_mono (l := l) (i := 0) (j := j) (by omega) (by rw [sortL_len] at hj; exact hj)
  rw [List.getD_eq_getElem?_getD (i := j), List.getElem?_eq_getElem hj, Option.getD_some, e] at h2
  omega
theorem sortL_last {l : List Int} (h : 0 < l.length) : (sortL l).getD (l.length - 1) 0 = maxL l := by
  have hne : l ≠ [] := fun h0 => by rw [h0] at h; simp at h
  obtain ⟨i1, i2⟩ := maxL_spec hne
  have h1 := i2 _ (sortL_mem_at (l := l) (j := l.length - 1) (by omega))
  obtain ⟨j, hj, e⟩ := List.getElem_of_mem (sortL_mem.2 i1)
  rw [sortL_len] at hj
  have h2 := sortL_mono (l := l) (i := j) (j := l.length - 1) (by omega) (by omega)
  rw [List.getD_eq_getElem?_getD (i := j), List.getElem?_eq_getElem (by rw [sortL_len]; exact hj), Option.getD_some, e] at h2
  omega
theorem rise_adj {l : List Int} (h : ∀ j, 0 < j → j < l.length → l.getD (j - 1) 0 ≤ l.getD j 0) : l.Pairwise (· ≤ ·) := by
  rw [List.pairwise_iff_getElem]
  intro i j hi hj hij
  have : ∀ d, (hd : i + d < l.length) → l[i] ≤ l[i + d] := by
    intro d
    induction d with
    | zero => intro _; exact Int.le_refl _
    | succ d ih =>
      intro hd
      have h1 := ih (by omega)
      have h2 := h (i + d + 1) (by omega) (by omega)
      simp only [Nat.add_sub_cancel, List.getD_eq_getElem?_getD, List.getElem?_eq_getElem (show i + d < l.length by omega), List.getElem?_eq_getElem (show i + d + 1 < l.length by omega), Option.getD_some] at h2
      exact Int.le_trans h1 h2
  have := this (j - i) (by omega)
  simpa [show i + (j - i) = j by omega] using this
theorem adj_rise {l : List Int} (h : l.Pairwise (· ≤ ·)) {j : Nat} (h0 : 0 < j) (hj : j < l.length) : l.getD (j - 1) 0 ≤ l.getD j 0 := by
  have := List.pairwise_iff_getElem.1 h (j - 1) j (by omega) hj (by omega)
  simpa [List.getD_eq_getElem?_getD, hj, show j - 1 < l.length by omega] using this
def gIt : List (Nat × Say) := [(99, less1S)]
theorem gIt_ok : GamOk Try.prog (gamY gIt) := gam_ok (gam_cons less1_ok gam_nil)
def issortedS : Say
  | [x_l] => (match asI x_l with | some l => some (l.length ≤ 4294967296, .bool (decide (l.Pairwise (· ≤ ·))), none) | _ => none)
  | _ => none
theorem issorted_ok : FOk Try.prog 98 issortedS := by
  intro xs p r own h hp
  unfold issortedS at h
  split at h
  case h_2 => cases h
  rename_i x_l
  split at h
  case h_2 => cases h
  rename_i l h_l
  simp only [Option.some.injEq, Prod.mk.injEq] at h
  obtain ⟨rfl, rfl, rfl⟩ := h
  refine fun_fit (ys := [.rw (.ints .i64 l)]) ?_ ⟨asI_fit h_l, trivial⟩
  clear h_l
  refine fun_ok gIt_ok lawy_mixed y98_eq none ?_ (Nat.le_of_ble_eq_true rfl)
  have c0 := i64_wrap (show I64 ((l.length : Int) - 1) by unfold I64; omega)
  simp (config := { maxSteps := 9000000 }) only [↓vyD, vyU, binS, SV.go1, SV.go0, mkRow, intsOf, boolsOf, strsOf, chunks, Row.rep, Row.cat, Row.sub, Row.put, Row.len, Row.get, Row.size, Row.flat, bnds, own0, own1, labsL, labsR, SV.labs, argsOf, entFr, SO.ev, St.of, keepSt, getAll, lookN, hasN, SV.cells, SV.one, SV.res1, SV.res0, SV.resP, SV.ok1, SV.ok0, SV.okN, SV.solid, SV.solid1, SV.solid0, SV.flat0, SV.nm, SV.nm1, SV.nm0, SV.noPtr1, SV.noPtr0, Cel.isFresh, fillP, setAt, partV, eqCells, cellEq, gamY, listsOk, tupOf, takeOwn, SV.ret1, resAll, resL, resV, Nat.reduceEqDiff, ↓reduceIte, Nat.reduceAdd, Nat.reduceMul, Nat.reduceLeDiff, Nat.reduceLT, reduceCtorEq, labOk, Int.reduceBEq, Int.reduceBNe, Int.reduceToNat, Int.reduceLE, Int.reduceLT, Int.reduceEq, Nat.reduceDiv, Nat.reduceMod, Nat.reduceSub, Nat.reduceBEq, fitR, fitR1, fitR0, fitRL1, fitRL, y98, c0]
  refine loopG_intro (ι := Int) (fun i => [(0, .rw (.ints .i64 l)), (3, .int .i64 i)]) (fun _ => []) (fun i => -1 ≤ i ∧ i < l.length ∧ ∀ j : Nat, i < j → 0 < j → j < l.length → l.getD (j - 1) 0 ≤ l.getD j 0) (fun i => i.toNat) ⟨(l.length : Int) - 1, ⟨by omega, by omega, fun j h1 h2 h3 => by omega⟩, ?_, ?_, ?_⟩ fun i ⟨h1, h2, h3⟩ => ?_
  · simp (config := { maxSteps := 9000000 }) only [↓vyD, vyU, binS, SV.go1, SV.go0, mkRow, intsOf, boolsOf, strsOf, chunks, Row.rep, Row.cat, Row.sub, Row.put, Row.len, Row.get, Row.size, Row.flat, bnds, own0, own1, labsL, labsR, SV.labs, argsOf, entFr, SO.ev, St.of, keepSt, getAll, lookN, hasN, SV.cells, SV.one, SV.res1, SV.res0, SV.resP, SV.ok1, SV.ok0, SV.okN, SV.solid, SV.solid1, SV.solid0, SV.flat0, SV.nm, SV.nm1, SV.nm0, SV.noPtr1, SV.noPtr0, Cel.isFresh, fillP, setAt, partV, eqCells, cellEq, gamY, listsOk, tupOf, takeOwn, SV.ret1, resAll, resL, resV, Nat.reduceEqDiff, ↓reduceIte, Nat.reduceAdd, Nat.reduceMul, Nat.reduceLeDiff, Nat.reduceLT, reduceCtorEq, labOk, Int.reduceBEq, Int.reduceBNe, Int.reduceToNat, Int.reduceLE, Int.reduceLT, Int.reduceEq, Nat.reduceDiv, Nat.reduceMod, Nat.reduceSub, Nat.reduceBEq, fitR, fitR1, fitR0, fitRL1, fitRL, c0]
  · simp (config := { maxSteps := 9000000 }) only [↓vyD, vyU, binS, SV.go1, SV.go0, mkRow, intsOf, boolsOf, strsOf, chunks, Row.rep, Row.cat, Row.sub, Row.put, Row.len, Row.get, Row.size, Row.flat, bnds, own0, own1, labsL, labsR, SV.labs, argsOf, entFr, SO.ev, St.of, keepSt, getAll, lookN, hasN, SV.cells, SV.one, SV.res1, SV.res0, SV.resP, SV.ok1, SV.ok0, SV.okN, SV.solid, SV.solid1, SV.solid0, SV.flat0, SV.nm, SV.nm1, SV.nm0, SV.noPtr1, SV.noPtr0, Cel.isFresh, fillP, setAt, partV, eqCells, cellEq, gamY, listsOk, tupOf, takeOwn, SV.ret1, resAll, resL, resV, Nat.reduceEqDiff, ↓reduceIte, Nat.reduceAdd, Nat.reduceMul, Nat.reduceLeDiff, Nat.reduceLT, reduceCtorEq, labOk, Int.reduceBEq, Int.reduceBNe, Int.reduceToNat, Int.reduceLE, Int.reduceLT, Int.reduceEq, Nat.reduceDiv, Nat.reduceMod, Nat.reduceSub, Nat.reduceBEq, fitR, fitR1, fitR0, fitRL1, fitRL, c0]
  · simp (config := { maxSteps := 9000000 }) only [↓vyD, vyU, binS, SV.go1, SV.go0, mkRow, intsOf, boolsOf, strsOf, chunks, Row.rep, Row.cat, Row.sub, Row.put, Row.len, Row.get, Row.size, Row.flat, bnds, own0, own1, labsL, labsR, SV.labs, argsOf, entFr, SO.ev, St.of, keepSt, getAll, lookN, hasN, SV.cells, SV.one, SV.res1, SV.res0, SV.resP, SV.ok1, SV.ok0, SV.okN, SV.solid, SV.solid1, SV.solid0, SV.flat0, SV.nm, SV.nm1, SV.nm0, SV.noPtr1, SV.noPtr0, Cel.isFresh, fillP, setAt, partV, eqCells, cellEq, gamY, listsOk, tupOf, takeOwn, SV.ret1, resAll, resL, resV, Nat.reduceEqDiff, ↓reduceIte, Nat.reduceAdd, Nat.reduceMul, Nat.reduceLeDiff, Nat.reduceLT, reduceCtorEq, labOk, Int.reduceBEq, Int.reduceBNe, Int.reduceToNat, Int.reduceLE, Int.reduceLT, Int.reduceEq, Nat.reduceDiv, Nat.reduceMod, Nat.reduceSub, Nat.reduceBEq, fitR, fitR1, fitR0, fitRL1, fitRL, c0]
  · by_cases hlt : 0 < i
    · have c1 := i64_wrap (show I64 (i - 1) by unfold I64; omega)
      have g1 : 0 ≤ i := by omega
      have g2 : 0 ≤ i - 1 := by omega
      have g3 : i - 1 < (l.length : Int) := by omega
      have g4 : i.toNat < l.length := by omega
      have g5 : (i - 1).toNat < l.length := by omega
      have e5 : (i - 1).toNat = i.toNat - 1 := by omega
      by_cases hx : l.getD i.toNat 0 < l.getD (i - 1).toNat 0
      · have hn : decide (l.Pairwise (· ≤ ·)) = false := decide_eq_false fun hh => by
          have := adj_rise hh (j := i.toNat) (by omega) g4
          rw [e5] at hx; omega
        rw [hn]
        simp (config := { maxSteps := 9000000 }) only [↓vyD, vyU, binS, SV.go1, SV.go0, mkRow, intsOf, boolsOf, strsOf, chunks, Row.rep, Row.cat, Row.sub, Row.put, Row.len, Row.get, Row.size, Row.flat, bnds, own0, own1, labsL, labsR, SV.labs, argsOf, entFr, SO.ev, St.of, keepSt, getAll, lookN, hasN, SV.cells, SV.one, SV.res1, SV.res0, SV.resP, SV.ok1, SV.ok0, SV.okN, SV.solid, SV.solid1, SV.solid0, SV.flat0, SV.nm, SV.nm1, SV.nm0, SV.noPtr1, SV.noPtr0, Cel.isFresh, fillP, setAt, partV, eqCells, cellEq, gamY, listsOk, tupOf, takeOwn, SV.ret1, resAll, resL, resV, Nat.reduceEqDiff, ↓reduceIte, Nat.reduceAdd, Nat.reduceMul, Nat.reduceLeDiff, Nat.reduceLT, reduceCtorEq, labOk, Int.reduceBEq, Int.reduceBNe, Int.reduceToNat, Int.reduceLE, Int.reduceLT, Int.reduceEq, Nat.reduceDiv, Nat.reduceMod, Nat.reduceSub, Nat.reduceBEq, fitR, fitR1, fitR0, fitRL1, fitRL, gIt, less1S, hlt, c1, g1, g2, g3, h2, g4, g5, hx]
      · simp (config := { maxSteps := 9000000 }) only [↓vyD, vyU, binS, SV.go1, SV.go0, mkRow, intsOf, boolsOf, strsOf, chunks, Row.rep, Row.cat, Row.sub, Row.put, Row.len, Row.get, Row.size, Row.flat, bnds, own0, own1, labsL, labsR, SV.labs, argsOf, entFr, SO.ev, St.of, keepSt, getAll, lookN, hasN, SV.cells, SV.one, SV.res1, SV.res0, SV.resP, SV.ok1, SV.ok0, SV.okN, SV.solid, SV.solid1, SV.solid0, SV.flat0, SV.nm, SV.nm1, SV.nm0, SV.noPtr1, SV.noPtr0, Cel.isFresh, fillP, setAt, partV, eqCells, cellEq, gamY, listsOk, tupOf, takeOwn, SV.ret1, resAll, resL, resV, Nat.reduceEqDiff, ↓reduceIte, Nat.reduceAdd, Nat.reduceMul, Nat.reduceLeDiff, Nat.reduceLT, reduceCtorEq, labOk, Int.reduceBEq, Int.reduceBNe, Int.reduceToNat, Int.reduceLE, Int.reduceLT, Int.reduceEq, Nat.reduceDiv, Nat.reduceMod, Nat.reduceSub, Nat.reduceBEq, fitR, fitR1, fitR0, fitRL1, fitRL, gIt, less1S, hlt, c1, g1, g2, g3, h2, g4, g5, hx]
        refine ⟨i - 1, ⟨⟨by omega, by omega, fun j q1 q2 q3 => ?_⟩, by omega⟩, rfl⟩
        by_cases hj : (j : Int) = i
        · have : j = i.toNat := by omega
          subst this
          rw [e5] at hx; omega
        · exact h3 j (by omega) q2 q3
    · have hn : decide (l.Pairwise (· ≤ ·)) = true := decide_eq_true (rise_adj fun j q1 q2 => h3 j (by omega) q1 q2)
      rw [hn]
      simp (config := { maxSteps := 9000000 }) only [↓vyD, vyU, binS, SV.go1, SV.go0, mkRow, intsOf, boolsOf, strsOf, chunks, Row.rep, Row.cat, Row.sub, Row.put, Row.len, Row.get, Row.size, Row.flat, bnds, own0, own1, labsL, labsR, SV.labs, argsOf, entFr, SO.ev, St.of, keepSt, getAll, lookN, hasN, SV.cells, SV.one, SV.res1, SV.res0, SV.resP, SV.ok1, SV.ok0, SV.okN, SV.solid, SV.solid1, SV.solid0, SV.flat0, SV.nm, SV.nm1, SV.nm0, SV.noPtr1, SV.noPtr0, Cel.isFresh, fillP, setAt, partV, eqCells, cellEq, gamY, listsOk, tupOf, takeOwn, SV.ret1, resAll, resL, resV, Nat.reduceEqDiff, ↓reduceIte, Nat.reduceAdd, Nat.reduceMul, Nat.reduceLeDiff, Nat.reduceLT, reduceCtorEq, labOk, Int.reduceBEq, Int.reduceBNe, Int.reduceToNat, Int.reduceLE, Int.reduceLT, Int.reduceEq, Nat.reduceDiv, Nat.reduceMod, Nat.reduceSub, Nat.reduceBEq, fitR, fitR1, fitR0, fitRL1, fitRL, hlt]
end Go.Proofs.Ytlfhcjohkpdkoaa
