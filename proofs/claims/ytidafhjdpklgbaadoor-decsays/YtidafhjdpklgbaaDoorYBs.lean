/- Tight lists of bits: the highest bit is set. -/
import Derived.Test.YtidafhjdpklgbaaDoorYBp
namespace Go.Proofs.YtidafhjdpklgbaaDoor
open Go.ChangeShapes Go.WideShapes Go.ChangeAt Go.RowKit Go.Joins Y
set_option linter.unusedSimpArgs false
set_option linter.unusedVariables false
set_option maxRecDepth 100000
set_option maxHeartbeats 40000000
def Tight (l : List Bool) : Prop := l.length = 0 ∨ 2 ^ (l.length - 1) ≤ valL l
theorem tight_bits (n : Nat) : Tight (bitsL n) := by
  unfold Tight
  rw [bitsL_len, bitsL_val]
  by_cases h : bitLen n = 0
  · exact .inl h
  · refine .inr (Nat.le_of_not_lt fun hh => ?_)
    have := (bitLen_lt_iff n (bitLen n - 1)).2 hh
    omega
theorem tight_plus {a b : List Bool} (hb : Tight b) (h : a.length ≤ b.length) (h0 : b.length ≠ 0) : Tight (plusL a b) := by
  unfold Tight
  rw [plusL_val, plusL, ofN_len, plusK, Nat.max_eq_right h]
  rcases hb with hb | hb
  · exact absurd hb h0
  · refine .inr ?_
    split
    · omega
    · rename_i hh; simpa using Nat.le_of_not_lt hh
theorem tight_moved {b : List Bool} (hb : Tight b) (h0 : b.length ≠ 0) (i : Nat) : Tight (movedL b i) := by
  unfold Tight
  rw [movedL_len, movedL_val]
  rcases hb with hb | hb
  · exact absurd hb h0
  · refine .inr ?_
    rw [show i + b.length - 1 = (b.length - 1) + i by omega, Nat.pow_add]
    exact Nat.mul_le_mul_right _ hb
/-- A tight list is no longer than its number wants. -/
theorem tight_len {l : List Bool} (h : Tight l) {k : Nat} (hk : valL l < 2 ^ k) : l.length ≤ k := by
  rcases h with h | h
  · omega
  · refine Nat.le_of_not_lt fun hh => ?_
    have := Nat.pow_le_pow_right (show 0 < 2 by omega) (show k ≤ l.length - 1 by omega)
    omega
theorem tight_prodS {a b : List Bool} (hb : Tight b) (h0 : b.length ≠ 0) : ∀ i : Nat, i ≤ a.length → Tight (prodS a b i)
  | 0, _ => .inl rfl
  | i + 1, hi => by
    have h := tight_prodS (a := a) hb h0 i (by omega)
    simp only [prodS]
    split
    · refine tight_plus (tight_moved hb h0 i) ?_ (by rw [movedL_len]; omega)
      rw [movedL_len]
      refine tight_len h ?_
      rw [prodS_val a b i (by omega), Nat.pow_add]
      have h1 := valL_lt (a.take i)
      rw [List.length_take, Nat.min_eq_left (by omega)] at h1
      have h2 := valL_lt b
      exact Nat.mul_lt_mul'' h1 h2
    · exact h
theorem tight_prod {a b : List Bool} (hb : Tight b) (h0 : b.length ≠ 0) : Tight (prodL a b) := tight_prodS hb h0 _ (Nat.le_refl _)
/-- The list of the power, step by step. -/
def powL (b : List Bool) : Nat → List Bool
  | 0 => [true]
  | k + 1 => prodL (powL b k) b
theorem powL_val (b : List Bool) : ∀ k : Nat, valL (powL b k) = valL b ^ k
  | 0 => rfl
  | k + 1 => by rw [powL, prodL_val, powL_val b k, Nat.pow_succ]
theorem powL_tight {b : List Bool} (hb : Tight b) (h0 : b.length ≠ 0) : ∀ k : Nat, Tight (powL b k)
  | 0 => .inr (by simp [powL, valL])
  | _ + 1 => tight_prod hb h0
end Go.Proofs.YtidafhjdpklgbaaDoor
