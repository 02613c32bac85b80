/- Plain arithmetic of long division by half words (Knuth's step). -/
import Derived.Test.YtidafhjdpklgbaaDoorPlain
namespace Go.Proofs.YtidafhjdpklgbaaDoor
/-- One digit of the quotient, guessed: q is no less than it, and what is left of u is r. -/
structure Guess (u d y1 y0 q r : Nat) : Prop where
  eq : q * y1 + r = u
  ge : (u * 4294967296 + d) / (y1 * 4294967296 + y0) ≤ q
  le : q ≤ 4294967297
theorem num_eq {u d y1 y0 q r : Nat} (h : q * y1 + r = u) : u * 4294967296 + d + q * y0 = q * (y1 * 4294967296 + y0) + (r * 4294967296 + d) := by
  subst h; grind
theorem num_lt {U d Z P R : Nat} (e : U + d + Z = P + (R + d)) (h : R + d < Z) : U + d < P := by omega
theorem num_le {U d Z P R : Nat} (e : U + d + Z = P + (R + d)) (h : Z ≤ R + d) : P ≤ U + d := by omega
theorem one_le {t q : Nat} (h : t < q) : 1 ≤ q := by omega
theorem guess_first {u d y1 y0 : Nat} (hu : u < y1 * 4294967296 + y0) (hd : d < 4294967296) (h0 : y0 < 4294967296) (h1 : 2147483648 ≤ y1) : Guess u d y1 y0 (u / y1) (u % y1) := by
  have hy : 0 < y1 := by omega
  refine ⟨Nat.div_add_mod' u y1, ?_, ?_⟩
  · rw [Nat.le_div_iff_mul_le hy]
    have h := Nat.div_mul_le_self (u * 4294967296 + d) (y1 * 4294967296 + y0)
    generalize (u * 4294967296 + d) / (y1 * 4294967296 + y0) = q at *
    rw [Nat.mul_add, ← Nat.mul_assoc] at h
    generalize q * y1 = p at *
    generalize q * y0 = z at *
    omega
  · have h : u < (4294967296 + 2) * y1 := by omega
    have := (Nat.div_lt_iff_lt_mul hy).2 h
    omega
theorem guess_rest {u d y1 y0 q r : Nat} (g : Guess u d y1 y0 q r) (hu : u < y1 * 4294967296 + y0) (hd : d < 4294967296) (h : 4294967296 ≤ q ∨ r * 4294967296 + d < q * y0) : 1 ≤ q ∧ Guess u d y1 y0 (q - 1) (r + y1) := by
  have hy : 0 < y1 * 4294967296 + y0 := by omega
  have key : (u * 4294967296 + d) / (y1 * 4294967296 + y0) < q := by
    rw [Nat.div_lt_iff_lt_mul hy]
    rcases h with h | h
    · have : 4294967296 * (y1 * 4294967296 + y0) ≤ q * (y1 * 4294967296 + y0) := Nat.mul_le_mul_right _ h
      omega
    · exact num_lt (num_eq (d := d) (y0 := y0) g.eq) h
  have h1 : 1 ≤ q := one_le key
  refine ⟨h1, ?_, Nat.le_sub_one_of_lt key, by have := g.le; omega⟩
  have e := g.eq
  obtain ⟨p, rfl⟩ : ∃ p, q = p + 1 := ⟨q - 1, by omega⟩
  rw [Nat.add_sub_cancel, ← e, Nat.add_mul]; omega
theorem guess_done {u d y1 y0 q r : Nat} (g : Guess u d y1 y0 q r) (hy : 0 < y1 * 4294967296 + y0) (h : q * y0 ≤ r * 4294967296 + d) : q = (u * 4294967296 + d) / (y1 * 4294967296 + y0) := by
  have h1 : q ≤ (u * 4294967296 + d) / (y1 * 4294967296 + y0) := by
    rw [Nat.le_div_iff_mul_le hy]
    exact num_le (num_eq (d := d) (y0 := y0) g.eq) h
  exact Nat.le_antisymm h1 g.ge
theorem guess_broke {u d y1 y0 q r : Nat} (g : Guess u d y1 y0 q r) (hy : 0 < y1 * 4294967296 + y0) (h0 : y0 < 4294967296) (hq : q ≤ 4294967296) (hr : 4294967296 ≤ r) : q = (u * 4294967296 + d) / (y1 * 4294967296 + y0) := by
  refine guess_done g hy ?_
  have h1 : q * y0 ≤ 4294967296 * y0 := Nat.mul_le_mul_right _ hq
  generalize q * y0 = Z at *
  omega
theorem digit_lt {u d y : Nat} (hu : u < y) (hd : d < 4294967296) : (u * 4294967296 + d) / y < 4294967296 := by
  rw [Nat.div_lt_iff_lt_mul (by omega)]; omega
/-- Both digits together, and what is left. -/
theorem two_digits (n e y : Nat) (hy : 0 < y) : n / y * 4294967296 + (n % y * 4294967296 + e) / y = (n * 4294967296 + e) / y ∧ (n % y * 4294967296 + e) % y = (n * 4294967296 + e) % y := by
  have e1 := Nat.div_add_mod n y
  have key : n * 4294967296 + e = (n % y * 4294967296 + e) + y * (n / y * 4294967296) := by
    conv => lhs; rw [← e1]
    grind
  rw [key, Nat.add_mul_div_left _ _ hy, Nat.add_mul_mod_self_left]
  exact ⟨Nat.add_comm _ _, rfl⟩
/-- The shift by which the divisor is brought to its full width. -/
theorem lead {y : Nat} (h0 : y ≠ 0) (h : Word y) : 9223372036854775808 ≤ y * 2 ^ (64 - bitLen y) ∧ y * 2 ^ (64 - bitLen y) < 18446744073709551616 := by
  have hs := bitLen_spec y
  have hl := bitLen_word h
  have h1 := hs.2 h0
  have hp : 0 < bitLen y := by
    refine Nat.lt_of_not_le fun hn => ?_
    have := (bitLen_lt_iff y 0).1 hn
    simp at this; omega
  have hq : 0 < 2 ^ (64 - bitLen y) := Nat.two_pow_pos _
  constructor
  · have := Nat.mul_le_mul_right (2 ^ (64 - bitLen y)) h1
    rw [← Nat.pow_add, show bitLen y - 1 + (64 - bitLen y) = 63 by omega] at this
    exact this
  · have := Nat.mul_lt_mul_of_pos_right hs.1 hq
    rw [← Nat.pow_add, show bitLen y + (64 - bitLen y) = 64 by omega] at this
    exact this
end Go.Proofs.YtidafhjdpklgbaaDoor
