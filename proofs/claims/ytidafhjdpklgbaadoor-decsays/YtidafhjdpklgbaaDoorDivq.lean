/- Plain arithmetic of a quotient guessed from the leading word of the divisor. -/
import Derived.Test.YtidafhjdpklgbaaDoorPlain
import Derived.Test.YtidafhjdpklgbaaDoorDivp
namespace Go.Proofs.YtidafhjdpklgbaaDoor
theorem two_pow_le {a b : Nat} (h : a ≤ b) : 2 ^ a ≤ 2 ^ b := Nat.pow_le_pow_right (by omega) h
/-- The divisor's leading word, moved back, is no more than the divisor, and less than one unit of it below. -/
theorem lead_le {b z Bh Bl : Nat} (hz : z ≤ 63) (e : b * 2 ^ z = Bh * 18446744073709551616 + Bl) (hl : Bl < 18446744073709551616) : Bh * 2 ^ (64 - z) ≤ b ∧ b + 1 ≤ Bh * 2 ^ (64 - z) + 2 ^ (64 - z) := by
  have hp : 0 < 2 ^ z := Nat.two_pow_pos z
  have hpq : 2 ^ (64 - z) * 2 ^ z = 18446744073709551616 := by rw [← Nat.pow_add, show 64 - z + z = 64 by omega]
  constructor
  · refine Nat.le_of_mul_le_mul_right ?_ hp
    rw [Nat.mul_assoc, hpq, e]; omega
  · refine Nat.lt_of_mul_lt_mul_right (a := 2 ^ z) ?_
    rw [Nat.add_mul, Nat.mul_assoc, hpq, e]; omega
theorem guess_pow {z : Nat} (hz : z ≤ 63) : 36893488147419103232 ≤ 2 ^ (127 - z) + 2 ^ (z + 1) := by
  by_cases h : z = 63
  · subst h; decide
  · have := two_pow_le (show 65 ≤ 127 - z by omega)
    have h2 : (2 : Nat) ^ 65 = 36893488147419103232 := by decide
    rw [h2] at this
    exact Nat.le_trans this (Nat.le_add_right _ _)
theorem guess_near {a b z Bh D : Nat} (hz : z ≤ 63) (fa : a < 340282366920938463463374607431768211456) (hD : D = Bh * 2 ^ (64 - z)) (h1 : D ≤ b) (h2 : b + 1 ≤ D + 2 ^ (64 - z)) (hB : 9223372036854775808 ≤ Bh) :
    a / b ≤ a / D ∧ a / D ≤ a / b + 1 ∧ a / b < 2 ^ (z + 1) := by
  have hq : 0 < 2 ^ (64 - z) := Nat.two_pow_pos _
  have hDl : 2 ^ (127 - z) ≤ D := by
    rw [hD, show (127 - z) = 63 + (64 - z) by omega, Nat.pow_add]
    exact Nat.mul_le_mul_right _ hB
  have hD0 : 0 < D := Nat.lt_of_lt_of_le (Nat.two_pow_pos _) hDl
  have hb0 : 0 < b := by omega
  have hlt : a / b < 2 ^ (z + 1) := by
    rw [Nat.div_lt_iff_lt_mul hb0]
    refine Nat.lt_of_lt_of_le fa ?_
    have : 2 ^ (z + 1) * 2 ^ (127 - z) ≤ 2 ^ (z + 1) * b := Nat.mul_le_mul_left _ (by omega)
    rw [← Nat.pow_add, show z + 1 + (127 - z) = 128 by omega] at this
    exact this
  refine ⟨Nat.div_le_div_left h1 hD0, ?_, hlt⟩
  refine Nat.le_of_lt_succ ?_
  rw [Nat.div_lt_iff_lt_mul hD0]
  have hm := Nat.lt_mul_div_succ a hb0
  generalize a / b = q at *
  have hprod : (q + 1) * (b - D) ≤ 2 ^ (z + 1) * (2 ^ (64 - z) - 1) := Nat.mul_le_mul (by omega) (by omega)
  have he : 2 ^ (z + 1) * (2 ^ (64 - z) - 1) + 2 ^ (z + 1) = 36893488147419103232 := by
    rw [← Nat.mul_succ, Nat.succ_eq_add_one, Nat.sub_add_cancel hq, ← Nat.pow_add, show z + 1 + (64 - z) = 65 by omega]
  have hg := guess_pow hz
  have e3 : b * (q + 1) = (q + 1) * (b - D) + (q + 1) * D := by
    rw [← Nat.mul_add, Nat.sub_add_cancel h1, Nat.mul_comm]
  have e4 : (q + 1 + 1) * D = (q + 1) * D + D := by rw [Nat.add_mul, Nat.one_mul]
  show a < (q + 1 + 1) * D
  rw [e4]
  rw [e3] at hm
  generalize (q + 1) * (b - D) = x at *
  generalize (q + 1) * D = y at *
  generalize 2 ^ (z + 1) * (2 ^ (64 - z) - 1) = t at *
  generalize 2 ^ (z + 1) = v at *
  generalize 2 ^ (127 - z) = u at *
  omega
/-- Division by one word: the two words of the quotient, and the rest. -/
theorem word_div {a b : Nat} (fa : Fits a) (hb : 0 < b) : hiN (a / b) = hiN a / b ∧ loN (a / b) = (hiN a % b * 18446744073709551616 + loN a) / b ∧ a % b = (hiN a % b * 18446744073709551616 + loN a) % b ∧ hiN a % b < b := by
  have hw := words a
  have hh := hiN_lt fa
  have hl := loN_lt a
  have hm : hiN a % b < b := Nat.mod_lt _ hb
  have e1 := Nat.div_add_mod (hiN a) b
  have key : a = (hiN a % b * 18446744073709551616 + loN a) + b * (hiN a / b * 18446744073709551616) := by
    conv => lhs; rw [← hw, ← e1]
    grind
  have hq : (hiN a % b * 18446744073709551616 + loN a) / b < 18446744073709551616 := by
    rw [Nat.div_lt_iff_lt_mul hb]; omega
  have hd : a / b = (hiN a % b * 18446744073709551616 + loN a) / b + hiN a / b * 18446744073709551616 := by
    conv => lhs; rw [key]
    exact Nat.add_mul_div_left _ _ hb
  have hr : a % b = (hiN a % b * 18446744073709551616 + loN a) % b := by
    conv => lhs; rw [key]
    exact Nat.add_mul_mod_self_left _ _ _
  refine ⟨?_, ?_, hr, hm⟩
  · rw [hd]
    generalize hiN a / b = u at *
    generalize (hiN a % b * 18446744073709551616 + loN a) / b = v at *
    unfold hiN; omega
  · rw [hd]
    generalize hiN a / b = u at *
    generalize (hiN a % b * 18446744073709551616 + loN a) / b = v at *
    unfold loN; omega
end Go.Proofs.YtidafhjdpklgbaaDoor
