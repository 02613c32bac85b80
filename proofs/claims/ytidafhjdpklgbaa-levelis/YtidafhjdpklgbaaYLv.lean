/- Levels: arithmetic, of no program. -/
import Derived.Test.YtidafhjdpklgbaaYM9
import Derived.Test.YtidafhjdpklgbaaR0
namespace Go.Proofs.Ytidafhjdpklgbaa
open Go.ChangeShapes Go.WideShapes Go.ChangeAt Go.RowKit Go.Joins Y
set_option linter.unusedSimpArgs false
set_option linter.unusedVariables false
set_option maxRecDepth 100000
set_option maxHeartbeats 40000000
theorem halv_ge {a b k : Nat} (hb : b ≠ 0) (hba : b ≤ a) : k ≤ halvN a b ↔ b * 2 ^ k ≤ a := by
  obtain ⟨g1, g2⟩ := halvN_spec hb hba
  constructor
  · intro h
    exact Nat.le_trans (Nat.mul_le_mul_left b (Nat.pow_le_pow_right (by omega) h)) g1
  · intro h
    refine Nat.le_of_not_lt fun hh => ?_
    have := Nat.mul_le_mul_left b (Nat.pow_le_pow_right (show 0 < 2 by omega) (show halvN a b + 1 ≤ k by omega))
    omega
/-- The level of n intervals whose sum is s, on the scale c, after t ticks. -/
def lvN (n s c t : Int) : Nat := if n * t - s ≤ 0 then 0 else halvN ((n * t - s).toNat * (n * t - s).toNat + c.toNat) c.toNat
theorem lv_ge {n s c t : Int} {k : Nat} (hc : 0 < c) (hk : 1 ≤ k) : k ≤ lvN n s c t ↔ 0 < n * t - s ∧ c * 2 ^ k ≤ (n * t - s) * (n * t - s) + c := by
  unfold lvN
  by_cases hd : n * t - s ≤ 0
  · rw [if_pos hd]; omega
  · rw [if_neg hd]
    obtain ⟨D, hD⟩ := Int.eq_ofNat_of_zero_le (show 0 ≤ n * t - s by omega)
    obtain ⟨C, rfl⟩ := Int.eq_ofNat_of_zero_le (show 0 ≤ c by omega)
    rw [hD] at hd ⊢
    simp only [Int.toNat_natCast]
    rw [halv_ge (by omega) (by omega)]
    have e : ((C : Int) * 2 ^ k ≤ (D : Int) * D + C) ↔ C * 2 ^ k ≤ D * D + C := by
      rw [← Int.ofNat_le]; push_cast; rfl
    rw [e]
    omega
theorem lv_0 {n s c t : Int} (h : n * t ≤ s) : lvN n s c t = 0 := by unfold lvN; rw [if_pos (by omega)]
theorem lv_le_of {n s c t n' s' c' t' : Int} (hc : 0 < c) (hc' : 0 < c') (h : ∀ k : Nat, 0 < n * t - s → c * 2 ^ k ≤ (n * t - s) * (n * t - s) + c → 0 < n' * t' - s' ∧ c' * 2 ^ k ≤ (n' * t' - s') * (n' * t' - s') + c') : lvN n s c t ≤ lvN n' s' c' t' := by
  by_cases h0 : lvN n s c t = 0
  · omega
  · have h1 := (lv_ge (n := n) (s := s) (c := c) (t := t) hc (Nat.pos_of_ne_zero h0)).1 (Nat.le_refl _)
    exact (lv_ge hc' (Nat.pos_of_ne_zero h0)).2 (h _ h1.1 h1.2)
theorem pow_pos2 (k : Nat) : (1 : Int) ≤ 2 ^ k := by have : (0 : Int) < 2 ^ k := Int.pow_pos (by omega); omega
/-- The level never falls. -/
theorem lv_mono {n s c t u : Int} (hn : 0 ≤ n) (hc : 0 < c) (h : t ≤ u) : lvN n s c t ≤ lvN n s c u := by
  have h1 := Int.mul_le_mul_of_nonneg_left h hn
  exact lv_le_of hc hc fun k hd hk => ⟨by omega, by
    have := Int.mul_le_mul (show n * t - s ≤ n * u - s by omega) (show n * t - s ≤ n * u - s by omega) (by omega) (by omega)
    omega⟩
/-- A greater scale: no greater level. -/
theorem lv_scale {n s c d t : Int} (hc : 0 < c) (h : c ≤ d) : lvN n s d t ≤ lvN n s c t :=
  lv_le_of (by omega) hc fun k hd hk => ⟨hd, by
    have h1 := pow_pos2 k
    have h2 := Int.mul_le_mul_of_nonneg_right h (show 0 ≤ (2 : Int) ^ k - 1 by omega)
    rw [Int.mul_sub, Int.mul_sub] at h2
    omega⟩
/-- All of it m times as great: the same level. -/
theorem lv_times {n s c t n' s' c' t' m : Int} (hc : 0 < c) (hm : 0 < m) (h1 : n' * t' - s' = m * (n * t - s)) (h2 : c' = m * m * c) : lvN n' s' c' t' = lvN n s c t := by
  have hmm : 0 < m * m := Int.mul_pos hm hm
  have hc' : 0 < c' := by rw [h2]; exact Int.mul_pos hmm hc
  have e : ∀ k : Nat, c' * 2 ^ k ≤ (n' * t' - s') * (n' * t' - s') + c' ↔ c * 2 ^ k ≤ (n * t - s) * (n * t - s) + c := fun k => by
    rw [h1, h2]
    have e1 : m * m * c * 2 ^ k = m * m * (c * 2 ^ k) := by rw [Int.mul_assoc]
    have e2 : m * (n * t - s) * (m * (n * t - s)) + m * m * c = m * m * ((n * t - s) * (n * t - s) + c) := by grind
    rw [e1, e2]
    constructor
    · intro h; exact Int.le_of_mul_le_mul_left h hmm
    · intro h; exact Int.mul_le_mul_of_nonneg_left h (by omega)
  have p : 0 < n' * t' - s' ↔ 0 < n * t - s := by
    rw [h1]
    constructor
    · intro h
      refine Int.lt_of_not_ge fun hh => ?_
      have := Int.mul_le_mul_of_nonneg_left (show n * t - s ≤ 0 from hh) (show 0 ≤ m by omega)
      rw [Int.mul_zero] at this
      omega
    · intro h; exact Int.mul_pos hm h
  refine Nat.le_antisymm (lv_le_of hc' hc fun k a b => ⟨p.1 a, (e k).1 b⟩) (lv_le_of hc hc' fun k a b => ⟨p.2 a, (e k).2 b⟩)
theorem lv_60 {n s c t : Int} {k : Nat} (hc : 0 < c) (hk : c * 2 ^ k > (n * t - s) * (n * t - s) + c) (h1 : 1 ≤ k) : lvN n s c t < k := by
  refine Nat.lt_of_not_le fun hh => ?_
  have := ((lv_ge hc h1).1 hh).2
  omega
/-- Cantelli: how many are as great as the silence. -/
theorem lv_cantelli {l : List Int} {c t : Int} (hc : 0 < c) (hG : l.length * sqL l - sumL l * sumL l ≤ c) : cntL l t * 2 ^ lvN l.length (sumL l) c t ≤ l.length := by
  have hcnt := cnt_le l t
  by_cases h0 : lvN l.length (sumL l) c t = 0
  · rw [h0]; simpa using hcnt
  · obtain ⟨hd, hk⟩ := (lv_ge (n := l.length) (s := sumL l) (c := c) (t := t) hc (Nat.pos_of_ne_zero h0)).1 (Nat.le_refl _)
    generalize lvN l.length (sumL l) c t = k at *
    have h := cantelli_le hd
    generalize hGG : l.length * sqL l - sumL l * sumL l = G at *
    generalize hDD : l.length * t - sumL l = D at *
    have hL : (cntL l t : Int) ≤ l.length := by omega
    generalize hC : cntL l t = C at *
    generalize hN : l.length = N at *
    have h1 : (C : Int) * (c - G) ≤ N * (c - G) := Int.mul_le_mul_of_nonneg_right hL (by omega)
    have h2 : (C : Int) * (c * 2 ^ k) ≤ C * (D * D + c) := Int.mul_le_mul_of_nonneg_left hk (by omega)
    have h3 : (C : Int) * (D * D + c) ≤ N * c := by
      have e1 : (C : Int) * (D * D + c) = C * (D * D + G) + C * (c - G) := by grind
      have e2 : (N : Int) * c = N * G + N * (c - G) := by grind
      omega
    have h4 : c * ((C : Int) * 2 ^ k) ≤ c * N := by
      have e1 : c * ((C : Int) * 2 ^ k) = C * (c * 2 ^ k) := by grind
      have e2 : c * (N : Int) = N * c := Int.mul_comm ..
      rw [e1, e2]; omega
    have h5 := Int.le_of_mul_le_mul_left h4 hc
    have e : ((C * 2 ^ k : Nat) : Int) = (C : Int) * 2 ^ k := by push_cast; rfl
    omega
end Go.Proofs.Ytidafhjdpklgbaa
