/- The order of values: how many stand ahead of a place; the one in the midst is nearest. -/
import Derived.Test.YtlfhcjohkpdkoaaYR4
namespace Go.Proofs.Ytlfhcjohkpdkoaa
open Go.ChangeShapes Go.WideShapes Go.ChangeAt Go.RowKit Go.Joins Y
set_option linter.unusedSimpArgs false
set_option linter.unusedVariables false
set_option maxRecDepth 100000
set_option maxHeartbeats 40000000
theorem sorted_counts {s : List Int} (hs : s.Pairwise (· ≤ ·)) {j : Nat} (hj : j < s.length) : j + 1 ≤ s.countP (fun x => decide (x ≤ s.getD j 0)) ∧ s.countP (fun x => decide (x < s.getD j 0)) ≤ j := by
  have hg : s.getD j 0 = s[j] := by simp [List.getD_eq_getElem?_getD, hj]
  rw [hg]
  have hp := List.pairwise_iff_getElem.1 hs
  constructor
  · have h1 : (s.take (j + 1)).countP (fun x => decide (x ≤ s[j])) = (s.take (j + 1)).length := List.countP_eq_length.2 fun x hx => by
      obtain ⟨i, hi, rfl⟩ := List.getElem_of_mem hx
      rw [List.length_take] at hi
      rw [List.getElem_take]
      by_cases h : i = j
      · subst h; simp
      · simpa using hp i j (by omega) hj (by omega)
    have h2 : s.countP (fun x => decide (x ≤ s[j])) = (s.take (j + 1)).countP (fun x => decide (x ≤ s[j])) + (s.drop (j + 1)).countP (fun x => decide (x ≤ s[j])) := by
      rw [← List.countP_append, List.take_append_drop]
    rw [List.length_take] at h1
    omega
  · have h1 : (s.drop j).countP (fun x => decide (x < s[j])) = 0 := List.countP_eq_zero.2 fun x hx => by
      obtain ⟨i, hi, rfl⟩ := List.getElem_of_mem hx
      rw [List.length_drop] at hi
      rw [List.getElem_drop]
      by_cases h : i = 0
      · subst h; simp
      · have := hp j (j + i) hj (by omega) (by omega)
        simp; omega
    have h2 : s.countP (fun x => decide (x < s[j])) = (s.take j).countP (fun x => decide (x < s[j])) + (s.drop j).countP (fun x => decide (x < s[j])) := by
      rw [← List.countP_append, List.take_append_drop]
    have h3 : (s.take j).countP (fun x => decide (x < s[j])) ≤ (s.take j).length := List.countP_le_length
    rw [List.length_take] at h3
    omega
/-- The same of the list itself. -/
theorem rank_counts {l : List Int} {j : Nat} (hj : j < l.length) : j + 1 ≤ l.countP (fun x => decide (x ≤ (sortL l).getD j 0)) ∧ l.countP (fun x => decide (x < (sortL l).getD j 0)) ≤ j := by
  have h := sorted_counts (sortL_sorted l) (j := j) (by rw [sortL_len]; exact hj)
  rw [(sortL_perm l).countP_eq, (sortL_perm l).countP_eq] at h
  exact h
theorem cnt_split (p : Int → Bool) (l : List Int) : l.countP p + l.countP (fun x => !p x) = l.length := by
  induction l with
  | nil => rfl
  | cons x l ih => rw [List.countP_cons, List.countP_cons, List.length_cons]; cases p x <;> simp <;> omega
/-- What is no less than half of all on each side. -/
theorem near_core {p K m : Int} (hK : 0 ≤ K) : ∀ l : List Int, (p - K * m) * (2 * (l.countP fun x => decide (x ≤ m)) - l.length) ≤ (l.map fun x => distI p (K * x)).sum - K * distL l m ∨ p < K * m
  | [] => by simp [distL]
  | x :: l => by
    rcases near_core (p := p) (m := m) hK l with h | h
    · by_cases hpm : p < K * m
      · exact .inr hpm
      left
      rw [List.countP_cons, List.length_cons, List.map_cons, List.sum_cons]
      have hd : distL (x :: l) m = distI m x + distL l m := by simp [distL]
      rw [hd]
      by_cases hx : x ≤ m
      · have e1 : K * distI m x = K * m - K * x := by
          have : distI m x = m - x := by unfold distI; split <;> omega
          rw [this, Int.mul_sub]
        have h1 := Int.mul_le_mul_of_nonneg_left hx hK
        have e2 : distI p (K * x) = p - K * x := by unfold distI; split <;> omega
        simp only [hx, decide_true, if_true, Int.natCast_add, Int.natCast_one, Int.mul_add]
        rw [e1, e2]
        grind
      · have e1 : K * distI m x = K * x - K * m := by
          have : distI m x = x - m := by unfold distI; split <;> omega
          rw [this, Int.mul_sub]
        have h1 := Int.mul_le_mul_of_nonneg_left (show m ≤ x by omega) hK
        have e2 : K * x - p ≤ distI p (K * x) := by unfold distI; split <;> omega
        simp only [hx, decide_false, Bool.false_eq_true, if_false, Int.natCast_add, Int.natCast_one, Int.mul_add, Int.natCast_zero, Int.add_zero]
        rw [e1]
        grind
    · exact .inr h
theorem near_core' {p K m : Int} (hK : 0 ≤ K) : ∀ l : List Int, (K * m - p) * (l.length - 2 * (l.countP fun x => decide (x < m))) ≤ (l.map fun x => distI p (K * x)).sum - K * distL l m ∨ K * m < p
  | [] => by simp [distL]
  | x :: l => by
    rcases near_core' (p := p) (m := m) hK l with h | h
    · by_cases hpm : K * m < p
      · exact .inr hpm
      left
      rw [List.countP_cons, List.length_cons, List.map_cons, List.sum_cons]
      have hd : distL (x :: l) m = distI m x + distL l m := by simp [distL]
      rw [hd]
      by_cases hx : x < m
      · have e1 : K * distI m x = K * m - K * x := by
          have : distI m x = m - x := by unfold distI; split <;> omega
          rw [this, Int.mul_sub]
        have e2 : p - K * x ≤ distI p (K * x) := by unfold distI; split <;> omega
        simp only [hx, decide_true, if_true, Int.natCast_add, Int.natCast_one, Int.mul_add]
        rw [e1]
        grind
      · have e1 : K * distI m x = K * x - K * m := by
          have : distI m x = x - m := by unfold distI; split <;> omega
          rw [this, Int.mul_sub]
        have e2 : K * x - p ≤ distI p (K * x) := by unfold distI; split <;> omega
        simp only [hx, decide_false, Bool.false_eq_true, if_false, Int.natCast_add, Int.natCast_one, Int.mul_add, Int.natCast_zero, Int.add_zero]
        rw [e1]
        grind
    · exact .inr h
/-- Laplace. -/
theorem laplace {l : List Int} {m p K : Int} (hK : 0 ≤ K) (h1 : l.length ≤ 2 * l.countP fun x => decide (x ≤ m)) (h2 : 2 * (l.countP fun x => decide (x < m)) ≤ l.length) : K * distL l m ≤ (l.map fun x => distI p (K * x)).sum := by
  by_cases h : p < K * m
  · rcases near_core' (p := p) (m := m) hK l with h3 | h3
    · have := Int.mul_nonneg (show 0 ≤ K * m - p by omega) (show (0 : Int) ≤ l.length - 2 * (l.countP fun x => decide (x < m)) by omega)
      omega
    · omega
  · rcases near_core (p := p) (m := m) hK l with h3 | h3
    · have := Int.mul_nonneg (show 0 ≤ p - K * m by omega) (show (0 : Int) ≤ 2 * (l.countP fun x => decide (x ≤ m)) - l.length by omega)
      omega
    · omega
theorem dist_sum (m : Int) : ∀ l : List Int, l.length * m - sumL l ≤ distL l m ∧ sumL l - l.length * m ≤ distL l m
  | [] => by simp [distL, sumL]
  | x :: l => by
    have h := dist_sum m l
    have h1 : m - x ≤ distI m x ∧ x - m ≤ distI m x := by unfold distI; split <;> omega
    have hd : distL (x :: l) m = distI m x + distL l m := by simp [distL]
    rw [hd, sumL_cons, List.length_cons, Int.natCast_add, Int.natCast_one, Int.add_mul, Int.one_mul]
    omega
/-- Hotelling, Solomons. -/
theorem hotelling {l : List Int} {m : Int} (hl : 0 < l.length) (h1 : l.length ≤ 2 * l.countP fun x => decide (x ≤ m)) (h2 : 2 * (l.countP fun x => decide (x < m)) ≤ l.length) : (l.length * m - sumL l) * (l.length * m - sumL l) ≤ l.length * sqL l - sumL l * sumL l := by
  have a1 := laplace (l := l) (m := m) (p := sumL l) (K := l.length) (by omega) h1 h2
  have a2 := dist_sum m l
  have a3 := pairL_nonneg (l.map fun x => distI (sumL l) (l.length * x))
  rw [← lagrange] at a3
  have e1 : sumL (l.map fun x => distI (sumL l) (l.length * x)) = (l.map fun x => distI (sumL l) (l.length * x)).sum := congrArg List.sum (List.map_id' _)
  have e2 : sqL (l.map fun x => distI (sumL l) (l.length * x)) = l.length * (l.length * sqL l - sumL l * sumL l) := by
    have : sqL (l.map fun x => distI (sumL l) (l.length * x)) = (l.map fun x => (l.length * x - sumL l) * (l.length * x - sumL l)).sum := by
      simp only [sqL, List.map_map]
      congr 1
      apply List.map_congr_left
      intro x _
      simp only [Function.comp]
      unfold distI
      split
      · rfl
      · grind
    rw [this, sum_lin (fun x => (l.length * x - sumL l) * (l.length * x - sumL l)) (l.length * l.length) (-(2 * l.length * sumL l)) (sumL l * sumL l) (fun x => by grind)]
    grind
  rw [e1, e2, List.length_map] at a3
  have hk : (0 : Int) < l.length := by omega
  generalize (l.map fun x => distI (sumL l) (l.length * x)).sum = A at *
  generalize hD : distL l m = D at *
  generalize hG : (l.length : Int) * sqL l - sumL l * sumL l = G at *
  generalize hd : (l.length : Int) * m - sumL l = d at *
  generalize (l.length : Int) = K at *
  have hD0 : 0 ≤ D := by omega
  have hKD : 0 ≤ K * D := Int.mul_nonneg (by omega) hD0
  have b1 := Int.mul_le_mul a1 a1 hKD (by omega)
  have b2 : d * d ≤ D * D := by
    rcases Int.le_total 0 d with h | h
    · exact Int.mul_le_mul a2.1 a2.1 h (by omega)
    · have h3 : -d ≤ D := by omega
      have := Int.mul_le_mul h3 h3 (by omega) hD0
      have e : -d * -d = d * d := by grind
      omega
  have b3 : K * K * (D * D) ≤ K * K * G := by grind
  have b4 : D * D ≤ G := Int.le_of_mul_le_mul_left b3 (Int.mul_pos hk hk)
  omega
/-- In the midst. -/
theorem mid_counts {l : List Int} (hl : 0 < l.length) : l.length ≤ 2 * l.countP (fun x => decide (x ≤ (sortL l).getD (placeN l.length 1 2 - 1).toNat 0)) ∧ 2 * l.countP (fun x => decide (x < (sortL l).getD (placeN l.length 1 2 - 1).toNat 0)) ≤ l.length := by
  obtain ⟨p1, p2⟩ := place_bd (n := (l.length : Int)) (num := 1) (den := 2) (by omega) (by omega) (by omega) (by omega)
  obtain ⟨h1, h2⟩ := rank_counts (l := l) (j := (placeN l.length 1 2 - 1).toNat) (by omega)
  have h3 : l.length ≤ 2 * placeN l.length 1 2 ∧ 2 * placeN l.length 1 2 ≤ l.length + 2 := by
    unfold placeN
    split <;> omega
  omega
theorem sortL_eq {l s : List Int} (hp : s.Perm l) (hs : s.Pairwise (· ≤ ·)) : sortL l = s :=
  List.Perm.eq_of_pairwise (le := fun a b : Int => a ≤ b) (fun a b _ _ h1 h2 => by omega) (sortL_sorted l) hs ((sortL_perm l).trans hp.symm)
theorem sortL_sort (l : List Int) : sortL (sortL l) = sortL l := sortL_eq (List.Perm.refl _) (sortL_sorted l)
theorem sortL_of_perm {l m : List Int} (h : l.Perm m) : sortL l = sortL m := sortL_eq ((sortL_perm m).trans h.symm) (sortL_sorted m)
theorem sortL_mem_at {l : List Int} {j : Nat} (hj : j < l.length) : (sortL l).getD j 0 ∈ l := sortL_mem.1 (getD_mem (by rw [sortL_len]; exact hj))
theorem sortL_mono {l : List Int} {i j : Nat} (hij : i ≤ j) (hj : j < l.length) : (sortL l).getD i 0 ≤ (sortL l).getD j 0 := by
  have hj' : j < (sortL l).length := by rw [sortL_len]; exact hj
  have hi' : i < (sortL l).length := by omega
  have hp := List.pairwise_iff_getElem.1 (sortL_sorted l)
  simp only [List.getD_eq_getElem?_getD, List.getElem?_eq_getElem hi', List.getElem?_eq_getElem hj', Option.getD_some]
  by_cases h : i = j
  · subst h; exact Int.le_refl _
  · exact hp i j hi' hj' (by omega)
theorem sortL_moved (l : List Int) (b : Int) : sortL (l.map fun x => x + b) = (sortL l).map fun x => x + b :=
  sortL_eq ((sortL_perm l).map _) (List.pairwise_map.2 ((sortL_sorted l).imp fun h => by omega))
end Go.Proofs.Ytlfhcjohkpdkoaa
