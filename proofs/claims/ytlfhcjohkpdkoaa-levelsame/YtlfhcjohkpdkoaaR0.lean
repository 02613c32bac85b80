/- Plain arithmetic for package root: the root, bit by bit; powers; halvings. -/
import Derived.Test.YtlfhcjohkpdkoaaPlain
namespace Go.Proofs.Ytlfhcjohkpdkoaa
/-- The bits from k - 1 down: each stays if the square does not exceed a. -/
def rootB (a : Nat) : Nat → Nat → Nat
  | 0, r => r
  | k + 1, r => if (r + 2 ^ k) * (r + 2 ^ k) ≤ a then rootB a k (r + 2 ^ k) else rootB a k r
def rootN (a : Nat) : Nat := rootB a 64 0
theorem rootB_spec (a : Nat) : ∀ (k r : Nat), r * r ≤ a → a < (r + 2 ^ k) * (r + 2 ^ k) → rootB a k r * rootB a k r ≤ a ∧ a < (rootB a k r + 1) * (rootB a k r + 1) ∧ rootB a k r < r + 2 ^ k
  | 0, r, h1, h2 => ⟨h1, h2, by simp [rootB]⟩
  | k + 1, r, h1, h2 => by
    have e : 2 ^ (k + 1) = 2 ^ k + 2 ^ k := by rw [Nat.pow_succ]; omega
    have hpos := Nat.two_pow_pos k
    simp only [rootB]
    split
    · rename_i h
      obtain ⟨i1, i2, i3⟩ := rootB_spec a k (r + 2 ^ k) h (by rw [Nat.add_assoc, ← e]; exact h2)
      exact ⟨i1, i2, by omega⟩
    · rename_i h
      obtain ⟨i1, i2, i3⟩ := rootB_spec a k r h1 (by omega)
      exact ⟨i1, i2, by omega⟩
theorem rootN_spec {a : Nat} (h : Fits a) : rootN a * rootN a ≤ a ∧ a < (rootN a + 1) * (rootN a + 1) ∧ Word (rootN a) := by
  unfold Fits at h
  obtain ⟨i1, i2, i3⟩ := rootB_spec a 64 0 (by omega) (by omega)
  exact ⟨i1, i2, by unfold Word rootN; omega⟩
theorem rootN_unique {a r : Nat} (h : Fits a) (h1 : r * r ≤ a) (h2 : a < (r + 1) * (r + 1)) : rootN a = r := by
  obtain ⟨i1, i2, _⟩ := rootN_spec h
  refine Nat.le_antisymm ?_ ?_
  · refine Nat.le_of_lt_succ (Nat.lt_of_not_le fun hn => ?_)
    have : (r + 1) * (r + 1) ≤ rootN a * rootN a := Nat.mul_le_mul hn hn
    omega
  · refine Nat.le_of_lt_succ (Nat.lt_of_not_le fun hn => ?_)
    have : (rootN a + 1) * (rootN a + 1) ≤ r * r := Nat.mul_le_mul hn hn
    omega
/-- The bit that is tried when k are left. -/
def bitOf : Nat → Nat
  | 0 => 0
  | k + 1 => 2 ^ k
theorem bitOf_lt {k : Nat} (h : k ≤ 64) : bitOf k < 18446744073709551616 := by
  cases k with
  | zero => simp [bitOf]
  | succ k =>
    have : 2 ^ k < 2 ^ 64 := Nat.pow_lt_pow_right (by omega) (by omega)
    simpa [bitOf] using this
theorem bitOf_half (k : Nat) : 2 ^ k / 2 = bitOf k := by
  cases k with
  | zero => rfl
  | succ k => rw [Nat.pow_succ, Nat.mul_div_cancel _ (by omega)]; rfl
theorem or_bit {r k : Nat} (h : 2 ^ (k + 1) ∣ r) : r ||| 2 ^ k = r + 2 ^ k := by
  obtain ⟨q, rfl⟩ := h
  exact (Nat.two_pow_add_eq_or_of_lt (Nat.pow_lt_pow_right (by omega) (by omega)) q).symm
/-- a to the power n, where n is from 0 to 127 and the power has no more than 128 bits; else 0; and the error. -/
def powN (a : Nat) (n : Int) : Nat := if 0 ≤ n ∧ n ≤ 127 ∧ a ^ n.toNat < 340282366920938463463374607431768211456 then a ^ n.toNat else 0
def powE (a : Nat) (n : Int) : Int := if 0 ≤ n ∧ n ≤ 127 then (if a ^ n.toNat < 340282366920938463463374607431768211456 then 0 else 2) else 1
/-- The greatest k with b * 2^k ≤ a, where b is not 0 and not above a; else 0; and the error. -/
def halvN (a b : Nat) : Nat := if b = 0 ∨ a < b then 0 else if b * 2 ^ (bitLen a - bitLen b) ≤ a then bitLen a - bitLen b else bitLen a - bitLen b - 1
def halvE (a b : Nat) : Int := if b = 0 then 6 else if a < b then 4 else 0
theorem halvN_spec {a b : Nat} (hb : b ≠ 0) (h : b ≤ a) : b * 2 ^ halvN a b ≤ a ∧ a < b * 2 ^ (halvN a b + 1) := by
  have ha : a ≠ 0 := by omega
  have l1 := bitLen_mono h
  have h1 := (bitLen_lt_iff a (bitLen a)).1 (Nat.le_refl _)
  have h2 : 2 ^ (bitLen a - 1) ≤ a := Nat.le_of_not_lt fun hh => by
    have := (bitLen_lt_iff a (bitLen a - 1)).2 hh
    have h0 : bitLen a ≠ 0 := fun h0 => by rw [h0] at h1; simp at h1; omega
    omega
  have h3 := (bitLen_lt_iff b (bitLen b)).1 (Nat.le_refl _)
  have hb0 : bitLen b ≠ 0 := fun h0 => by rw [h0] at h3; simp at h3; omega
  have h4 : 2 ^ (bitLen b - 1) ≤ b := Nat.le_of_not_lt fun hh => by
    have := (bitLen_lt_iff b (bitLen b - 1)).2 hh
    omega
  unfold halvN
  rw [if_neg (by omega)]
  obtain ⟨k, hk⟩ : ∃ k, bitLen a = bitLen b + k := ⟨bitLen a - bitLen b, by omega⟩
  have hk' : bitLen a - bitLen b = k := by omega
  rw [hk'] at *
  split
  · rename_i hle
    refine ⟨hle, Nat.lt_of_lt_of_le h1 ?_⟩
    rw [hk, show bitLen b + k = (bitLen b - 1) + (k + 1) by omega, Nat.pow_add]
    exact Nat.mul_le_mul_right _ h4
  · rename_i hle
    have hk0 : k ≠ 0 := fun h0 => by subst h0; simp at hle; omega
    refine ⟨Nat.le_trans ?_ h2, ?_⟩
    · rw [hk, show bitLen b + k - 1 = bitLen b + (k - 1) by omega, Nat.pow_add]
      exact Nat.mul_le_mul_right _ (Nat.le_of_lt h3)
    · rw [show k - 1 + 1 = k by omega]; omega
end Go.Proofs.Ytlfhcjohkpdkoaa
