/- hwref's Sorted, Place and Part. -/
import Derived.Test.YtlfhcjohkpdkoaaYM4
namespace Go.Proofs.Ytlfhcjohkpdkoaa
open Go.ChangeShapes Go.WideShapes Go.ChangeAt Go.RowKit Go.Joins Y
set_option linter.unusedSimpArgs false
set_option linter.unusedVariables false
set_option maxRecDepth 100000
set_option maxHeartbeats 40000000
/-! Sorted by counting: an element's place is the number of those before it. -/
def befP (x : Int) (i : Nat) (p : Int × Nat) : Bool := decide (p.1 < x ∨ p.1 = x ∧ p.2 < i)
def posL (l : List Int) (i : Nat) : Nat := l.zipIdx.countP (befP (l.getD i 0) i)
def leP (p q : Int × Nat) : Bool := decide (p.1 < q.1 ∨ p.1 = q.1 ∧ p.2 ≤ q.2)
def mL (l : List Int) : List (Int × Nat) := l.zipIdx.mergeSort leP
theorem mL_len (l : List Int) : (mL l).length = l.length := by rw [mL, List.length_mergeSort, List.length_zipIdx]
theorem mL_perm (l : List Int) : (mL l).Perm l.zipIdx := List.mergeSort_perm _ _
theorem zip_nodup (l : List Int) : (l.zipIdx.map Prod.snd).Nodup := by
  rw [List.zipIdx_map_snd]
  exact List.nodup_range'
theorem mL_strict (l : List Int) : (mL l).Pairwise fun p q => befP q.1 q.2 p = true := by
  have h := List.pairwise_mergeSort (le := leP) (fun a b c h1 h2 => by simp [leP] at h1 h2 ⊢; omega) (fun a b => by simp [leP]; omega) l.zipIdx
  have hn : ((mL l).map Prod.snd).Nodup := ((mL_perm l).map Prod.snd).nodup_iff.2 (zip_nodup l)
  have hn' : (mL l).Pairwise fun p q => p.2 ≠ q.2 := by
    rw [List.Nodup, List.pairwise_map] at hn
    exact hn
  refine (List.Pairwise.and h hn').imp fun {p q} hh => ?_
  obtain ⟨h1, h2⟩ := hh
  simp only [leP, decide_eq_true_eq] at h1
  simp only [befP, decide_eq_true_eq]
  omega
theorem mL_fst (l : List Int) : (mL l).map Prod.fst = sortL l := by
  have h1 : ((mL l).map Prod.fst).Perm (sortL l) := by
    have := (mL_perm l).map Prod.fst
    rw [List.zipIdx_map_fst] at this
    exact this.trans (sortL_perm l).symm
  have h2 : ((mL l).map Prod.fst).Pairwise (· ≤ ·) := by
    rw [List.pairwise_map]
    refine (mL_strict l).imp fun {p q} hh => ?_
    simp only [befP, decide_eq_true_eq] at hh
    omega
  exact List.Perm.eq_of_pairwise (le := (· ≤ ·)) (fun a b _ _ h3 h4 => by omega) h2 (sortL_sorted l) h1
theorem count_at {m : List (Int × Nat)} (h : m.Pairwise fun p q => befP q.1 q.2 p = true) {j : Nat} {p : Int × Nat} (hj : m[j]? = some p) : m.countP (befP p.1 p.2) = j := by
  obtain ⟨hlt, rfl⟩ := List.getElem?_eq_some_iff.1 hj
  have e : m = m.take j ++ m[j] :: m.drop (j + 1) := by rw [← List.drop_eq_getElem_cons hlt, List.take_append_drop]
  have hp : (m.take j ++ m[j] :: m.drop (j + 1)).Pairwise fun p q => befP q.1 q.2 p = true := e ▸ h
  obtain ⟨-, h2, h3⟩ := List.pairwise_append.1 hp
  have h4 := (List.pairwise_cons.1 h2).1
  rw [show m.countP (befP m[j].1 m[j].2) = (m.take j ++ m[j] :: m.drop (j + 1)).countP (befP m[j].1 m[j].2) from congrArg _ e, List.countP_append, List.countP_cons]
  have c1 : (m.take j).countP (befP m[j].1 m[j].2) = j := by
    rw [List.countP_eq_length.2 fun a ha => h3 a ha _ (List.mem_cons_self ..), List.length_take]; omega
  have c2 : (m.drop (j + 1)).countP (befP m[j].1 m[j].2) = 0 := by
    rw [List.countP_eq_zero]
    intro a ha
    have := h4 a ha
    simp only [befP, decide_eq_true_eq] at this ⊢
    omega
  have c3 : befP m[j].1 m[j].2 m[j] = false := by simp [befP]
  rw [c1, c2, c3]
  simp
theorem mL_at {l : List Int} {j : Nat} {p : Int × Nat} (hj : (mL l)[j]? = some p) : p.2 < l.length ∧ l.getD p.2 0 = p.1 ∧ posL l p.2 = j ∧ (sortL l).getD j 0 = p.1 := by
  have hm : p ∈ l.zipIdx := (mL_perm l).mem_iff.1 (List.mem_of_getElem? hj)
  have h1 : l[p.2]? = some p.1 := by
    have := List.mem_zipIdx_iff_getElem?.1 (show (p.1, p.2) ∈ l.zipIdx from hm)
    simpa using this
  have h2 : l.getD p.2 0 = p.1 := by rw [List.getD_eq_getElem?_getD, h1]; rfl
  refine ⟨(List.getElem?_eq_some_iff.1 h1).1, h2, ?_, ?_⟩
  · rw [posL, h2, ← (mL_perm l).countP_eq, count_at (mL_strict l) hj]
  · rw [← mL_fst, List.getD_eq_getElem?_getD, List.getElem?_map, hj]; rfl
theorem posL_at {l : List Int} {i : Nat} (hi : i < l.length) : (mL l)[posL l i]? = some (l.getD i 0, i) := by
  have h0 : l[i]? = some (l.getD i 0) := by rw [List.getD_eq_getElem?_getD, List.getElem?_eq_getElem hi]; rfl
  have hm : (l.getD i 0, i) ∈ mL l := (mL_perm l).mem_iff.2 (List.mem_zipIdx_iff_getElem?.2 (by simpa using h0))
  obtain ⟨j, hj⟩ := List.getElem?_of_mem hm
  have := (mL_at hj).2.2.1
  rw [show posL l i = j from this]
  exact hj
theorem posL_lt {l : List Int} {i : Nat} (hi : i < l.length) : posL l i < l.length := by
  have := (List.getElem?_eq_some_iff.1 (posL_at hi)).1
  rwa [mL_len] at this
/-- What is laid down after i rounds. -/
def outK (l : List Int) (i : Nat) : List Int := (List.range l.length).map fun j => if ((mL l).getD j (0, 0)).2 < i then (sortL l).getD j 0 else 0
theorem outK_len (l : List Int) (i : Nat) : (outK l i).length = l.length := by simp [outK]
theorem outK_0 (l : List Int) : outK l 0 = List.replicate l.length 0 := by
  simp [outK, List.map_const']
theorem outK_step {l : List Int} {i : Nat} (hi : i < l.length) : (outK l i).set (posL l i) (l.getD i 0) = outK l (i + 1) := by
  apply List.ext_getElem?
  intro j
  by_cases hj : j < l.length
  · rw [List.getElem?_set, outK_len]
    have hm : (mL l)[j]? = some ((mL l).getD j (0, 0)) := by
      rw [List.getD_eq_getElem?_getD, List.getElem?_eq_getElem (by rw [mL_len]; exact hj)]; rfl
    by_cases hp : posL l i = j
    · rw [if_pos hp, if_pos (posL_lt hi)]
      have h1 := posL_at hi
      rw [hp, hm] at h1
      have h2 := mL_at hm
      simp only [outK, List.getElem?_map, List.getElem?_range hj, Option.map_some]
      rw [Option.some.injEq] at h1
      rw [if_pos (by rw [h1]; exact Nat.lt_succ_self _), h2.2.2.2, h1]
    · rw [if_neg hp]
      have h2 := mL_at hm
      have h3 : ((mL l).getD j (0, 0)).2 ≠ i := fun e => hp (by rw [← e]; exact h2.2.2.1)
      simp only [outK, List.getElem?_map, List.getElem?_range hj, Option.map_some]
      congr 1
      by_cases h4 : ((mL l).getD j (0, 0)).2 < i
      · rw [if_pos h4, if_pos (by omega)]
      · rw [if_neg h4, if_neg (by omega)]
  · rw [List.getElem?_eq_none (by rw [List.length_set, outK_len]; omega), List.getElem?_eq_none (by rw [outK_len]; omega)]
theorem outK_end (l : List Int) : outK l l.length = sortL l := by
  apply List.ext_getElem?
  intro j
  by_cases hj : j < l.length
  · have hm : (mL l)[j]? = some ((mL l).getD j (0, 0)) := by
      rw [List.getD_eq_getElem?_getD, List.getElem?_eq_getElem (by rw [mL_len]; exact hj)]; rfl
    simp only [outK, List.getElem?_map, List.getElem?_range hj, Option.map_some]
    rw [if_pos (mL_at hm).1, List.getD_eq_getElem?_getD, List.getElem?_eq_getElem (by rw [sortL_len]; exact hj)]; rfl
  · rw [List.getElem?_eq_none (by rw [outK_len]; omega), List.getElem?_eq_none (by rw [sortL_len]; omega)]
/-- The number so far. -/
def posK (l : List Int) (i k : Nat) : Nat := (l.zipIdx.take k).countP (befP (l.getD i 0) i)
theorem posK_0 (l : List Int) (i : Nat) : posK l i 0 = 0 := by simp [posK]
theorem posK_end (l : List Int) (i : Nat) : posK l i l.length = posL l i := by
  rw [posK, posL, List.take_of_length_le (by rw [List.length_zipIdx]; exact Nat.le_refl _)]
theorem posK_le (l : List Int) (i k : Nat) : posK l i k ≤ k := by
  have := List.countP_le_length (p := befP (l.getD i 0) i) (l := l.zipIdx.take k)
  rw [List.length_take] at this
  unfold posK; omega
theorem posK_step {l : List Int} {i k : Nat} (hk : k < l.length) : posK l i (k + 1) = posK l i k + if l.getD k 0 < l.getD i 0 ∨ l.getD k 0 = l.getD i 0 ∧ k < i then 1 else 0 := by
  have h : l.zipIdx[k]? = some (l.getD k 0, k) := by
    rw [List.getElem?_zipIdx, List.getD_eq_getElem?_getD, List.getElem?_eq_getElem hk]; simp
  rw [posK, List.take_add_one, h, List.countP_append, posK]
  simp [List.countP_cons, befP]
def rsortedS : Say
  | [x_l] => (match asI x_l with | some l => some (l.length ≤ 64, .sl 0 0, some (3, .ints .i64 (sortL l))) | _ => none)
  | _ => none
theorem rsorted_ok : FOk Try.prog 25 rsortedS := by
  intro xs p r own h hp
  unfold rsortedS at h
  split at h
  case h_2 => cases h
  rename_i x_l
  split at h
  case h_2 => cases h
  rename_i l h_l
  simp only [Option.some.injEq, Prod.mk.injEq] at h
  obtain ⟨rfl, rfl, rfl⟩ := h
  refine fun_fit (ys := [.rw (.ints .i64 l)]) ?_ ⟨asI_fit h_l, trivial⟩
  clear h_l
  refine fun_ok (gam_ok gam_nil) lawy_mixed y25_eq (some 0) ?_ (Nat.le_of_ble_eq_true rfl)
  have m1 : (0 : Int) ≤ (l.length : Int) := by omega
  have m2 : l.length * 8 ≤ 140737488355328 := by omega
  simp (config := { maxSteps := 9000000 }) only [↓vyD, vyU, binS, SV.go1, SV.go0, mkRow, intsOf, boolsOf, strsOf, chunks, Row.rep, Row.cat, Row.sub, Row.put, Row.len, Row.get, Row.size, Row.flat, bnds, own0, own1, labsL, labsR, SV.labs, argsOf, entFr, SO.ev, St.of, keepSt, getAll, lookN, hasN, SV.cells, SV.one, SV.res1, SV.res0, SV.resP, SV.ok1, SV.ok0, SV.okN, SV.solid, SV.solid1, SV.solid0, SV.flat0, SV.nm, SV.nm1, SV.nm0, SV.noPtr1, SV.noPtr0, Cel.isFresh, fillP, setAt, partV, eqCells, cellEq, gamY, listsOk, tupOf, takeOwn, SV.ret1, resAll, resL, resV, Nat.reduceEqDiff, ↓reduceIte, Nat.reduceAdd, Nat.reduceMul, Nat.reduceLeDiff, Nat.reduceLT, reduceCtorEq, labOk, Int.reduceBEq, Int.reduceBNe, Int.reduceToNat, Int.reduceLE, Int.reduceLT, Int.reduceEq, Nat.reduceDiv, Nat.reduceMod, Nat.reduceSub, Nat.reduceBEq, fitR, fitR1, fitR0, fitRL1, fitRL, y25, m1, m2, Int.le_refl, Int.toNat_natCast]
  refine ⟨by omega, ?_⟩
  refine loopG_intro (ι := Nat) (fun i => [(0, .rw (.ints .i64 l)), (3, .sl 1002 0), (12, .rw (.ints .i64 l)), (13, .int .i64 l.length), (14, .int .i64 i)]) (fun i => [(1002, .row 0 3 (.ints .i64 (outK l i)))]) (fun i => i ≤ l.length) (fun i => l.length - i) ⟨0, by omega, ?_, ?_, ?_⟩ fun i hi => ?_
  · simp (config := { maxSteps := 9000000 }) only [↓vyD, vyU, binS, SV.go1, SV.go0, mkRow, intsOf, boolsOf, strsOf, chunks, Row.rep, Row.cat, Row.sub, Row.put, Row.len, Row.get, Row.size, Row.flat, bnds, own0, own1, labsL, labsR, SV.labs, argsOf, entFr, SO.ev, St.of, keepSt, getAll, lookN, hasN, SV.cells, SV.one, SV.res1, SV.res0, SV.resP, SV.ok1, SV.ok0, SV.okN, SV.solid, SV.solid1, SV.solid0, SV.flat0, SV.nm, SV.nm1, SV.nm0, SV.noPtr1, SV.noPtr0, Cel.isFresh, fillP, setAt, partV, eqCells, cellEq, gamY, listsOk, tupOf, takeOwn, SV.ret1, resAll, resL, resV, Nat.reduceEqDiff, ↓reduceIte, Nat.reduceAdd, Nat.reduceMul, Nat.reduceLeDiff, Nat.reduceLT, reduceCtorEq, labOk, Int.reduceBEq, Int.reduceBNe, Int.reduceToNat, Int.reduceLE, Int.reduceLT, Int.reduceEq, Nat.reduceDiv, Nat.reduceMod, Nat.reduceSub, Nat.reduceBEq, fitR, fitR1, fitR0, fitRL1, fitRL, m1]
  · simp (config := { maxSteps := 9000000 }) only [↓vyD, vyU, binS, SV.go1, SV.go0, mkRow, intsOf, boolsOf, strsOf, chunks, Row.rep, Row.cat, Row.sub, Row.put, Row.len, Row.get, Row.size, Row.flat, bnds, own0, own1, labsL, labsR, SV.labs, argsOf, entFr, SO.ev, St.of, keepSt, getAll, lookN, hasN, SV.cells, SV.one, SV.res1, SV.res0, SV.resP, SV.ok1, SV.ok0, SV.okN, SV.solid, SV.solid1, SV.solid0, SV.flat0, SV.nm, SV.nm1, SV.nm0, SV.noPtr1, SV.noPtr0, Cel.isFresh, fillP, setAt, partV, eqCells, cellEq, gamY, listsOk, tupOf, takeOwn, SV.ret1, resAll, resL, resV, Nat.reduceEqDiff, ↓reduceIte, Nat.reduceAdd, Nat.reduceMul, Nat.reduceLeDiff, Nat.reduceLT, reduceCtorEq, labOk, Int.reduceBEq, Int.reduceBNe, Int.reduceToNat, Int.reduceLE, Int.reduceLT, Int.reduceEq, Nat.reduceDiv, Nat.reduceMod, Nat.reduceSub, Nat.reduceBEq, fitR, fitR1, fitR0, fitRL1, fitRL, m1]
  · simp (config := { maxSteps := 9000000 }) only [↓vyD, vyU, binS, SV.go1, SV.go0, mkRow, intsOf, boolsOf, strsOf, chunks, Row.rep, Row.cat, Row.sub, Row.put, Row.len, Row.get, Row.size, Row.flat, bnds, own0, own1, labsL, labsR, SV.labs, argsOf, entFr, SO.ev, St.of, keepSt, getAll, lookN, hasN, SV.cells, SV.one, SV.res1, SV.res0, SV.resP, SV.ok1, SV.ok0, SV.okN, SV.solid, SV.solid1, SV.solid0, SV.flat0, SV.nm, SV.nm1, SV.nm0, SV.noPtr1, SV.noPtr0, Cel.isFresh, fillP, setAt, partV, eqCells, cellEq, gamY, listsOk, tupOf, takeOwn, SV.ret1, resAll, resL, resV, Nat.reduceEqDiff, ↓reduceIte, Nat.reduceAdd, Nat.reduceMul, Nat.reduceLeDiff, Nat.reduceLT, reduceCtorEq, labOk, Int.reduceBEq, Int.reduceBNe, Int.reduceToNat, Int.reduceLE, Int.reduceLT, Int.reduceEq, Nat.reduceDiv, Nat.reduceMod, Nat.reduceSub, Nat.reduceBEq, fitR, fitR1, fitR0, fitRL1, fitRL, m1, outK_0]
  by_cases hlt : (i : Int) < (l.length : Int)
  · have hlt' : i < l.length := by omega
    have b1 := i64_wrap (show I64 ((i : Int) + 1) by unfold I64; omega)
    have c0 : (0 : Int) ≤ (i : Int) := by omega
    have ol := outK_len l i
    simp (config := { maxSteps := 9000000 }) only [↓vyD, vyU, binS, SV.go1, SV.go0, mkRow, intsOf, boolsOf, strsOf, chunks, Row.rep, Row.cat, Row.sub, Row.put, Row.len, Row.get, Row.size, Row.flat, bnds, own0, own1, labsL, labsR, SV.labs, argsOf, entFr, SO.ev, St.of, keepSt, getAll, lookN, hasN, SV.cells, SV.one, SV.res1, SV.res0, SV.resP, SV.ok1, SV.ok0, SV.okN, SV.solid, SV.solid1, SV.solid0, SV.flat0, SV.nm, SV.nm1, SV.nm0, SV.noPtr1, SV.noPtr0, Cel.isFresh, fillP, setAt, partV, eqCells, cellEq, gamY, listsOk, tupOf, takeOwn, SV.ret1, resAll, resL, resV, Nat.reduceEqDiff, ↓reduceIte, Nat.reduceAdd, Nat.reduceMul, Nat.reduceLeDiff, Nat.reduceLT, reduceCtorEq, labOk, Int.reduceBEq, Int.reduceBNe, Int.reduceToNat, Int.reduceLE, Int.reduceLT, Int.reduceEq, Nat.reduceDiv, Nat.reduceMod, Nat.reduceSub, Nat.reduceBEq, fitR, fitR1, fitR0, fitRL1, fitRL, hlt, c0, Int.toNat_natCast]
    refine loopG_intro (ι := Nat) (fun k => [(0, .rw (.ints .i64 l)), (3, .sl 1002 0), (4, .int .i64 i), (5, .int .i64 (l.getD i 0)), (6, .int .i64 (posK l i k)), (12, .rw (.ints .i64 l)), (13, .int .i64 l.length), (14, .int .i64 i), (19, .rw (.ints .i64 l)), (20, .int .i64 l.length), (21, .int .i64 k)]) (fun _ => [(1002, .row 0 3 (.ints .i64 (outK l i)))]) (fun k => k ≤ l.length) (fun k => l.length - k) ⟨0, by omega, ?_, ?_, ?_⟩ fun k hk => ?_
    · simp (config := { maxSteps := 9000000 }) only [↓vyD, vyU, binS, SV.go1, SV.go0, mkRow, intsOf, boolsOf, strsOf, chunks, Row.rep, Row.cat, Row.sub, Row.put, Row.len, Row.get, Row.size, Row.flat, bnds, own0, own1, labsL, labsR, SV.labs, argsOf, entFr, SO.ev, St.of, keepSt, getAll, lookN, hasN, SV.cells, SV.one, SV.res1, SV.res0, SV.resP, SV.ok1, SV.ok0, SV.okN, SV.solid, SV.solid1, SV.solid0, SV.flat0, SV.nm, SV.nm1, SV.nm0, SV.noPtr1, SV.noPtr0, Cel.isFresh, fillP, setAt, partV, eqCells, cellEq, gamY, listsOk, tupOf, takeOwn, SV.ret1, resAll, resL, resV, Nat.reduceEqDiff, ↓reduceIte, Nat.reduceAdd, Nat.reduceMul, Nat.reduceLeDiff, Nat.reduceLT, reduceCtorEq, labOk, Int.reduceBEq, Int.reduceBNe, Int.reduceToNat, Int.reduceLE, Int.reduceLT, Int.reduceEq, Nat.reduceDiv, Nat.reduceMod, Nat.reduceSub, Nat.reduceBEq, fitR, fitR1, fitR0, fitRL1, fitRL, m1]
    · simp (config := { maxSteps := 9000000 }) only [↓vyD, vyU, binS, SV.go1, SV.go0, mkRow, intsOf, boolsOf, strsOf, chunks, Row.rep, Row.cat, Row.sub, Row.put, Row.len, Row.get, Row.size, Row.flat, bnds, own0, own1, labsL, labsR, SV.labs, argsOf, entFr, SO.ev, St.of, keepSt, getAll, lookN, hasN, SV.cells, SV.one, SV.res1, SV.res0, SV.resP, SV.ok1, SV.ok0, SV.okN, SV.solid, SV.solid1, SV.solid0, SV.flat0, SV.nm, SV.nm1, SV.nm0, SV.noPtr1, SV.noPtr0, Cel.isFresh, fillP, setAt, partV, eqCells, cellEq, gamY, listsOk, tupOf, takeOwn, SV.ret1, resAll, resL, resV, Nat.reduceEqDiff, ↓reduceIte, Nat.reduceAdd, Nat.reduceMul, Nat.reduceLeDiff, Nat.reduceLT, reduceCtorEq, labOk, Int.reduceBEq, Int.reduceBNe, Int.reduceToNat, Int.reduceLE, Int.reduceLT, Int.reduceEq, Nat.reduceDiv, Nat.reduceMod, Nat.reduceSub, Nat.reduceBEq, fitR, fitR1, fitR0, fitRL1, fitRL, m1, posK_0]
    · simp (config := { maxSteps := 9000000 }) only [↓vyD, vyU, binS, SV.go1, SV.go0, mkRow, intsOf, boolsOf, strsOf, chunks, Row.rep, Row.cat, Row.sub, Row.put, Row.len, Row.get, Row.size, Row.flat, bnds, own0, own1, labsL, labsR, SV.labs, argsOf, entFr, SO.ev, St.of, keepSt, getAll, lookN, hasN, SV.cells, SV.one, SV.res1, SV.res0, SV.resP, SV.ok1, SV.ok0, SV.okN, SV.solid, SV.solid1, SV.solid0, SV.flat0, SV.nm, SV.nm1, SV.nm0, SV.noPtr1, SV.noPtr0, Cel.isFresh, fillP, setAt, partV, eqCells, cellEq, gamY, listsOk, tupOf, takeOwn, SV.ret1, resAll, resL, resV, Nat.reduceEqDiff, ↓reduceIte, Nat.reduceAdd, Nat.reduceMul, Nat.reduceLeDiff, Nat.reduceLT, reduceCtorEq, labOk, Int.reduceBEq, Int.reduceBNe, Int.reduceToNat, Int.reduceLE, Int.reduceLT, Int.reduceEq, Nat.reduceDiv, Nat.reduceMod, Nat.reduceSub, Nat.reduceBEq, fitR, fitR1, fitR0, fitRL1, fitRL, m1]
    have q1 := posK_le l i k
    by_cases hkl : (k : Int) < (l.length : Int)
    · have hkl' : k < l.length := by omega
      have b2 := i64_wrap (show I64 ((k : Int) + 1) by unfold I64; omega)
      have b3 := i64_wrap (show I64 ((posK l i k : Int) + 1) by unfold I64; omega)
      have k0 : (0 : Int) ≤ (k : Int) := by omega
      have st := posK_step (l := l) (i := i) hkl'
      by_cases t1 : l.getD k 0 < l.getD i 0
      · rw [if_pos (Or.inl t1)] at st
        simp (config := { maxSteps := 9000000 }) only [↓vyD, vyU, binS, SV.go1, SV.go0, mkRow, intsOf, boolsOf, strsOf, chunks, Row.rep, Row.cat, Row.sub, Row.put, Row.len, Row.get, Row.size, Row.flat, bnds, own0, own1, labsL, labsR, SV.labs, argsOf, entFr, SO.ev, St.of, keepSt, getAll, lookN, hasN, SV.cells, SV.one, SV.res1, SV.res0, SV.resP, SV.ok1, SV.ok0, SV.okN, SV.solid, SV.solid1, SV.solid0, SV.flat0, SV.nm, SV.nm1, SV.nm0, SV.noPtr1, SV.noPtr0, Cel.isFresh, fillP, setAt, partV, eqCells, cellEq, gamY, listsOk, tupOf, takeOwn, SV.ret1, resAll, resL, resV, Nat.reduceEqDiff, ↓reduceIte, Nat.reduceAdd, Nat.reduceMul, Nat.reduceLeDiff, Nat.reduceLT, reduceCtorEq, labOk, Int.reduceBEq, Int.reduceBNe, Int.reduceToNat, Int.reduceLE, Int.reduceLT, Int.reduceEq, Nat.reduceDiv, Nat.reduceMod, Nat.reduceSub, Nat.reduceBEq, fitR, fitR1, fitR0, fitRL1, fitRL, hkl, k0, Int.toNat_natCast, t1, b2, b3]
        exact ⟨k + 1, ⟨by omega, by omega⟩, by omega, by simp⟩
      · by_cases t2 : l.getD k 0 = l.getD i 0
        · have t2' : (l.getD k 0 == l.getD i 0) = true := by simpa using t2
          by_cases t3 : (k : Int) < (i : Int)
          · rw [if_pos (Or.inr ⟨t2, by omega⟩)] at st
            simp (config := { maxSteps := 9000000 }) only [↓vyD, vyU, binS, SV.go1, SV.go0, mkRow, intsOf, boolsOf, strsOf, chunks, Row.rep, Row.cat, Row.sub, Row.put, Row.len, Row.get, Row.size, Row.flat, bnds, own0, own1, labsL, labsR, SV.labs, argsOf, entFr, SO.ev, St.of, keepSt, getAll, lookN, hasN, SV.cells, SV.one, SV.res1, SV.res0, SV.resP, SV.ok1, SV.ok0, SV.okN, SV.solid, SV.solid1, SV.solid0, SV.flat0, SV.nm, SV.nm1, SV.nm0, SV.noPtr1, SV.noPtr0, Cel.isFresh, fillP, setAt, partV, eqCells, cellEq, gamY, listsOk, tupOf, takeOwn, SV.ret1, resAll, resL, resV, Nat.reduceEqDiff, ↓reduceIte, Nat.reduceAdd, Nat.reduceMul, Nat.reduceLeDiff, Nat.reduceLT, reduceCtorEq, labOk, Int.reduceBEq, Int.reduceBNe, Int.reduceToNat, Int.reduceLE, Int.reduceLT, Int.reduceEq, Nat.reduceDiv, Nat.reduceMod, Nat.reduceSub, Nat.reduceBEq, fitR, fitR1, fitR0, fitRL1, fitRL, hkl, k0, Int.toNat_natCast, t1, t2', t3, b2, b3]
            exact ⟨k + 1, ⟨by omega, by omega⟩, by omega, by simp⟩
          · rw [if_neg (by omega)] at st
            simp (config := { maxSteps := 9000000 }) only [↓vyD, vyU, binS, SV.go1, SV.go0, mkRow, intsOf, boolsOf, strsOf, chunks, Row.rep, Row.cat, Row.sub, Row.put, Row.len, Row.get, Row.size, Row.flat, bnds, own0, own1, labsL, labsR, SV.labs, argsOf, entFr, SO.ev, St.of, keepSt, getAll, lookN, hasN, SV.cells, SV.one, SV.res1, SV.res0, SV.resP, SV.ok1, SV.ok0, SV.okN, SV.solid, SV.solid1, SV.solid0, SV.flat0, SV.nm, SV.nm1, SV.nm0, SV.noPtr1, SV.noPtr0, Cel.isFresh, fillP, setAt, partV, eqCells, cellEq, gamY, listsOk, tupOf, takeOwn, SV.ret1, resAll, resL, resV, Nat.reduceEqDiff, ↓reduceIte, Nat.reduceAdd, Nat.reduceMul, Nat.reduceLeDiff, Nat.reduceLT, reduceCtorEq, labOk, Int.reduceBEq, Int.reduceBNe, Int.reduceToNat, Int.reduceLE, Int.reduceLT, Int.reduceEq, Nat.reduceDiv, Nat.reduceMod, Nat.reduceSub, Nat.reduceBEq, fitR, fitR1, fitR0, fitRL1, fitRL, hkl, k0, Int.toNat_natCast, t1, t2', t3, b2, b3]
            exact ⟨k + 1, ⟨by omega, by omega⟩, by omega, by simp⟩
        · have t2' : (l.getD k 0 == l.getD i 0) = false := by simpa using t2
          rw [if_neg (by omega)] at st
          simp (config := { maxSteps := 9000000 }) only [↓vyD, vyU, binS, SV.go1, SV.go0, mkRow, intsOf, boolsOf, strsOf, chunks, Row.rep, Row.cat, Row.sub, Row.put, Row.len, Row.get, Row.size, Row.flat, bnds, own0, own1, labsL, labsR, SV.labs, argsOf, entFr, SO.ev, St.of, keepSt, getAll, lookN, hasN, SV.cells, SV.one, SV.res1, SV.res0, SV.resP, SV.ok1, SV.ok0, SV.okN, SV.solid, SV.solid1, SV.solid0, SV.flat0, SV.nm, SV.nm1, SV.nm0, SV.noPtr1, SV.noPtr0, Cel.isFresh, fillP, setAt, partV, eqCells, cellEq, gamY, listsOk, tupOf, takeOwn, SV.ret1, resAll, resL, resV, Nat.reduceEqDiff, ↓reduceIte, Nat.reduceAdd, Nat.reduceMul, Nat.reduceLeDiff, Nat.reduceLT, reduceCtorEq, labOk, Int.reduceBEq, Int.reduceBNe, Int.reduceToNat, Int.reduceLE, Int.reduceLT, Int.reduceEq, Nat.reduceDiv, Nat.reduceMod, Nat.reduceSub, Nat.reduceBEq, fitR, fitR1, fitR0, fitRL1, fitRL, hkl, k0, Int.toNat_natCast, t1, t2', b2, b3]
          exact ⟨k + 1, ⟨by omega, by omega⟩, by omega, by simp⟩
    · have hke : k = l.length := by omega
      subst hke
      have pe := posK_end l i
      have pl := posL_lt hlt'
      have p0 : (0 : Int) ≤ (posL l i : Int) := by omega
      have p1 : (posL l i : Int) < (l.length : Int) := by omega
      have os := outK_step hlt'
      simp (config := { maxSteps := 9000000 }) only [↓vyD, vyU, binS, SV.go1, SV.go0, mkRow, intsOf, boolsOf, strsOf, chunks, Row.rep, Row.cat, Row.sub, Row.put, Row.len, Row.get, Row.size, Row.flat, bnds, own0, own1, labsL, labsR, SV.labs, argsOf, entFr, SO.ev, St.of, keepSt, getAll, lookN, hasN, SV.cells, SV.one, SV.res1, SV.res0, SV.resP, SV.ok1, SV.ok0, SV.okN, SV.solid, SV.solid1, SV.solid0, SV.flat0, SV.nm, SV.nm1, SV.nm0, SV.noPtr1, SV.noPtr0, Cel.isFresh, fillP, setAt, partV, eqCells, cellEq, gamY, listsOk, tupOf, takeOwn, SV.ret1, resAll, resL, resV, Nat.reduceEqDiff, ↓reduceIte, Nat.reduceAdd, Nat.reduceMul, Nat.reduceLeDiff, Nat.reduceLT, reduceCtorEq, labOk, Int.reduceBEq, Int.reduceBNe, Int.reduceToNat, Int.reduceLE, Int.reduceLT, Int.reduceEq, Nat.reduceDiv, Nat.reduceMod, Nat.reduceSub, Nat.reduceBEq, fitR, fitR1, fitR0, fitRL1, fitRL, hkl, pe, ol, p0, p1, pl, Int.toNat_natCast, os, b1]
      exact ⟨i + 1, ⟨by omega, by omega⟩, by simp⟩
  · have : i = l.length := by omega
    subst this
    simp (config := { maxSteps := 9000000 }) only [↓vyD, vyU, binS, SV.go1, SV.go0, mkRow, intsOf, boolsOf, strsOf, chunks, Row.rep, Row.cat, Row.sub, Row.put, Row.len, Row.get, Row.size, Row.flat, bnds, own0, own1, labsL, labsR, SV.labs, argsOf, entFr, SO.ev, St.of, keepSt, getAll, lookN, hasN, SV.cells, SV.one, SV.res1, SV.res0, SV.resP, SV.ok1, SV.ok0, SV.okN, SV.solid, SV.solid1, SV.solid0, SV.flat0, SV.nm, SV.nm1, SV.nm0, SV.noPtr1, SV.noPtr0, Cel.isFresh, fillP, setAt, partV, eqCells, cellEq, gamY, listsOk, tupOf, takeOwn, SV.ret1, resAll, resL, resV, Nat.reduceEqDiff, ↓reduceIte, Nat.reduceAdd, Nat.reduceMul, Nat.reduceLeDiff, Nat.reduceLT, reduceCtorEq, labOk, Int.reduceBEq, Int.reduceBNe, Int.reduceToNat, Int.reduceLE, Int.reduceLT, Int.reduceEq, Nat.reduceDiv, Nat.reduceMod, Nat.reduceSub, Nat.reduceBEq, fitR, fitR1, fitR0, fitRL1, fitRL, hlt, outK_end, List.contains_nil]
theorem place_lo2 {n num den : Int} (hd : 1 ≤ den) : n * num ≤ placeN n num den * den ∧ (placeN n num den = 1 ∨ (placeN n num den - 1) * den < n * num) := by
  have h1 := Int.ediv_mul_le (n * num + den - 1) (show den ≠ 0 by omega)
  have h2 := Int.lt_ediv_add_one_mul_self (n * num + den - 1) (show 0 < den by omega)
  unfold placeN
  generalize (n * num + den - 1) / den = q at *
  rw [Int.add_mul, Int.one_mul] at h2
  split
  · rw [Int.sub_mul, Int.one_mul]
    exact ⟨by omega, .inr (by omega)⟩
  · have h3 := Int.mul_le_mul_of_nonneg_right (show q ≤ 1 by omega) (show 0 ≤ den by omega)
    exact ⟨by omega, .inl rfl⟩
def gRp : List (Nat × Say) := [(57, rwithinS)]
theorem gRp_ok : GamOk Try.prog (gamY gRp) := gam_ok (gam_cons rwithin_ok gam_nil)
end Go.Proofs.Ytlfhcjohkpdkoaa
