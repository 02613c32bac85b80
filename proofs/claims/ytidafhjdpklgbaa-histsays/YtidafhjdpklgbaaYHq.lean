/- Histograms of lists of values: their cells are counts of bit lengths. -/
import Derived.Test.YtidafhjdpklgbaaYHp
namespace Go.Proofs.Ytidafhjdpklgbaa
open Go.ChangeShapes Go.WideShapes Go.ChangeAt Go.RowKit Go.Joins Y
set_option linter.unusedSimpArgs false
set_option linter.unusedVariables false
set_option maxRecDepth 100000
set_option maxHeartbeats 40000000
def bl (x : Int) : Nat := bitLen x.toNat
def hisK (s : List Int) : Nat → List Int
  | 0 => zL
  | i + 1 => putHL (hisK s i) (s.getD i 0)
theorem putE_ok {l : List Int} {n : Int} (h1 : hE l = 0) (h2 : 0 ≤ n ∧ n ≤ 16777216) (h3 : l.getD (bl n) 0 < 1073741824) : putHE l n = 0 := by
  have : listE [n] = 0 := listE_0.2 ⟨by simp, fun x hx => by rw [List.mem_singleton] at hx; subst hx; exact h2⟩
  have h3' : ¬ l.getD (bitLen n.toNat) 0 = 1073741824 := by unfold bl at h3; omega
  unfold putHE; rw [if_pos h1, if_pos this, if_neg h3']
theorem set_at {l : List Int} {k j : Nat} (hk : k < l.length) (x : Int) : (l.set k x).getD j 0 = if k = j then x else l.getD j 0 := by
  rw [List.getD_eq_getElem?_getD, List.getElem?_set]
  by_cases h : k = j
  · subst h; simp [hk]
  · simp [h, List.getD_eq_getElem?_getD]
theorem his_at {s : List Int} (hv : ∀ x ∈ s, 0 ≤ x ∧ x ≤ 16777216) (hs : s.length ≤ 1000) : ∀ i, i ≤ s.length → (hisK s i).length = 26 ∧ (∀ j, (hisK s i).getD j 0 = ((s.take i).countP fun x => bl x == j : Nat))
  | 0, _ => ⟨zL_len, fun j => by
    have : zL.getD j 0 = 0 := by
      unfold zL
      rw [List.getD_eq_getElem?_getD, List.getElem?_replicate]
      split <;> rfl
    rw [hisK, this]; simp⟩
  | i + 1, hi => by
    obtain ⟨h1, h2⟩ := his_at hv hs i (by omega)
    have hx := hv _ (getD_mem (l := s) (i := i) (by omega))
    have hc : ∀ j, (hisK s i).getD j 0 ≤ 1000 := fun j => by
      rw [h2]
      have := List.countP_le_length (p := fun x => bl x == j) (l := s.take i)
      rw [List.length_take] at this
      omega
    have hE0 : hE (hisK s i) = 0 := (hE_0 h1).2 fun j hj => by
      have := hc j
      rw [h2] at this ⊢
      omega
    have hp := putE_ok (l := hisK s i) (n := s.getD i 0) hE0 hx (by have := hc (bl (s.getD i 0)); omega)
    have hk : bl (s.getD i 0) < (hisK s i).length := by have := len_25 hx; unfold bl; omega
    have hL : hisK s (i + 1) = (hisK s i).set (bl (s.getD i 0)) ((hisK s i).getD (bl (s.getD i 0)) 0 + 1) := by
      rw [hisK, putHL, if_pos hp]; rfl
    refine ⟨putHL_len h1, fun j => ?_⟩
    rw [hL, set_at hk, take_snoc (show i < s.length by omega), List.countP_append, List.countP_singleton, h2, h2]
    by_cases hj : bl (s.getD i 0) = j
    · subst hj; simp
    · have : (bl (s.getD i 0) == j) = false := by simpa using hj
      rw [if_neg hj, this]; simp
theorem his_ok {s : List Int} (hv : ∀ x ∈ s, 0 ≤ x ∧ x ≤ 16777216) (hs : s.length ≤ 1000) {i : Nat} (hi : i ≤ s.length) : hE (hisK s i) = 0 := by
  obtain ⟨h1, h2⟩ := his_at hv hs i hi
  refine (hE_0 h1).2 fun j hj => ?_
  rw [h2]
  have := List.countP_le_length (p := fun x => bl x == j) (l := s.take i)
  rw [List.length_take] at this
  omega
theorem his_put {s : List Int} (hv : ∀ x ∈ s, 0 ≤ x ∧ x ≤ 16777216) (hs : s.length ≤ 1000) {i : Nat} (hi : i < s.length) : putHE (hisK s i) (s.getD i 0) = 0 := by
  obtain ⟨h1, h2⟩ := his_at hv hs i (by omega)
  refine putE_ok (his_ok hv hs (by omega)) (hv _ (getD_mem hi)) ?_
  rw [h2]
  have := List.countP_le_length (p := fun x => bl x == bl (s.getD i 0)) (l := s.take i)
  rw [List.length_take] at this
  omega
theorem cnt_step (s : List Int) (j : Nat) : s.countP (fun x => decide (bl x < j + 1)) = s.countP (fun x => decide (bl x < j)) + s.countP (fun x => bl x == j) := by
  induction s with
  | nil => rfl
  | cons x s ih =>
    simp only [List.countP_cons, ih]
    by_cases h1 : bl x < j
    · have : ¬ bl x = j := by omega
      simp [h1, this, show bl x < j + 1 by omega]; omega
    · by_cases h2 : bl x = j
      · simp [h2]; omega
      · simp [h1, h2, show ¬ bl x < j + 1 by omega]
/-- The sum of the first j cells: how many have fewer than j bits. -/
theorem his_sum {s : List Int} (hv : ∀ x ∈ s, 0 ≤ x ∧ x ≤ 16777216) (hs : s.length ≤ 1000) : ∀ j, j ≤ 26 → sumK (hisK s s.length) j = (s.countP fun x => decide (bl x < j) : Nat)
  | 0, _ => by simp [sumK]
  | j + 1, hj => by
    obtain ⟨h1, h2⟩ := his_at hv hs s.length (Nat.le_refl _)
    rw [sumK_succ (by omega), his_sum hv hs j (by omega), h2, List.take_length, cnt_step]
    omega
theorem bl_lt {x : Int} (h : 0 ≤ x) (j : Nat) : bl x < j + 1 ↔ x < 2 ^ j := by
  have h1 := bitLen_lt_iff x.toNat j
  have h2 : x.toNat < 2 ^ j ↔ x < 2 ^ j := by
    rw [← Int.ofNat_lt]
    rw [Int.toNat_of_nonneg h]
    push_cast
    rfl
  unfold bl
  omega
/-- Among values that rise, the one at place i is below c just if more than i are. -/
theorem kth_lt {c : Int} : ∀ {t : List Int} {i : Nat}, t.Pairwise (· ≤ ·) → i < t.length → (t.getD i 0 < c ↔ i < t.countP fun x => decide (x < c))
  | [], i, _, h => by simp at h
  | y :: t, i, hs, h => by
    have hs' := List.pairwise_cons.1 hs
    by_cases hy : y < c
    · simp only [List.countP_cons, hy, decide_true, if_true]
      cases i with
      | zero => simp [hy]
      | succ i =>
        have := kth_lt (c := c) (i := i) hs'.2 (by simpa using h)
        simp only [List.getD_cons_succ, this]
        omega
    · have h0 : (y :: t).countP (fun x => decide (x < c)) = 0 := List.countP_eq_zero.2 fun x hx => by
        rcases List.mem_cons.1 hx with rfl | hx
        · simpa using hy
        · have := hs'.1 x hx
          simp; omega
      rw [h0]
      have hge : y ≤ (y :: t).getD i 0 := by
        cases i with
        | zero => simp
        | succ i => exact hs'.1 _ (getD_mem (l := t) (by simpa using h))
      constructor
      · intro hh; omega
      · intro hh; omega
theorem lenK_spec {l : List Int} {k : Int} (hk : k ≤ sumK l 26) : ∀ f i, i + (f + 1) = 26 → (i = 0 ∨ sumK l i < k) → k ≤ sumK l (lenK l k (f + 1) i + 1) ∧ (lenK l k (f + 1) i = 0 ∨ sumK l (lenK l k (f + 1) i) < k)
  | f, i, h, hi => by
    rw [lenK]
    by_cases hlt : sumK l (i + 1) < k
    · rw [if_pos hlt]
      cases f with
      | zero =>
        have e : i + 1 = 26 := by omega
        rw [e] at hlt; omega
      | succ f => exact lenK_spec hk f (i + 1) (by omega) (.inr hlt)
    · rw [if_neg hlt]
      exact ⟨by omega, hi⟩
/-- The bounds hold the value at that place. -/
theorem bet_holds {s : List Int} (hv : ∀ x ∈ s, 0 ≤ x ∧ x ≤ 16777216) (hs : s.length ≤ 1000) {k : Nat} (hk : 1 ≤ k ∧ k ≤ s.length) :
    endL (lenK (hisK s s.length) k 26 0) ≤ (sortL s).getD (k - 1) 0 ∧ (sortL s).getD (k - 1) 0 ≤ endH (lenK (hisK s s.length) k 26 0) := by
  have hsum := his_sum hv hs
  have hall : s.countP (fun x => decide (bl x < 26)) = s.length := by
    rw [List.countP_eq_length]
    intro x hx
    have := len_25 (hv x hx)
    unfold bl
    simp; omega
  have h26 : (k : Int) ≤ sumK (hisK s s.length) 26 := by rw [hsum 26 (by omega), hall]; omega
  have hle := lenK_le h26 25 0 (by omega)
  obtain ⟨p1, p2⟩ := lenK_spec h26 25 0 (by omega) (.inl rfl)
  generalize lenK (hisK s s.length) k 26 0 = r at *
  have hlen := sortL_len s
  have hmem := hv _ (sortL_mem.1 (getD_mem (l := sortL s) (i := k - 1) (by omega)))
  have hcnt : ∀ j, (sortL s).countP (fun x => decide (x < 2 ^ j)) = s.countP (fun x => decide (bl x < j + 1)) := fun j => by
    rw [(sortL_perm s).countP_eq]
    apply List.countP_congr
    intro x hx
    have := bl_lt (hv x hx).1 j
    simp only [decide_eq_true_eq]
    exact this.symm
  have hK : ∀ j, (sortL s).getD (k - 1) 0 < 2 ^ j ↔ k - 1 < s.countP (fun x => decide (bl x < j + 1)) := fun j => by
    rw [kth_lt (sortL_sorted s) (by omega), hcnt]
  rw [hsum (r + 1) (by omega)] at p1
  have q1 := (hK r).2 (by omega)
  constructor
  · unfold endL
    split
    · exact hmem.1
    · rename_i h0
      have p2' := p2.resolve_left h0
      rw [hsum r (by omega)] at p2'
      have h7 := hK (r - 1)
      rw [show r - 1 + 1 = r by omega] at h7
      have h8 : ¬ (sortL s).getD (k - 1) 0 < 2 ^ (r - 1) := fun h => by have := h7.1 h; omega
      omega
  · unfold endH
    split
    · rename_i h0
      subst h0
      rw [Int.pow_zero] at q1; omega
    · split <;> omega
end Go.Proofs.Ytidafhjdpklgbaa
