/- Plain arithmetic of products of 128-bit numbers, word by word. -/
import Derived.Test.YtlfhcjohkpdkoaaPlain
namespace Go.Proofs.Ytlfhcjohkpdkoaa
theorem mul_words (a b : Nat) : a * b = hiN a * hiN b * 340282366920938463463374607431768211456 + (hiN a * loN b + loN a * hiN b) * 18446744073709551616 + loN a * loN b := by
  have ea := (words a).symm
  have eb := (words b).symm
  generalize hiN a = h at *; generalize loN a = l at *; generalize hiN b = k at *; generalize loN b = m at *
  subst ea eb
  grind
theorem prod_lt {x y : Nat} (hx : Word x) (hy : Word y) : x * y < 340282366920938463463374607431768211456 := by
  unfold Word at *
  exact Nat.mul_lt_mul_of_lt_of_le hx (Nat.le_of_lt hy) (by omega)
theorem prod_fits {x y : Nat} (hx : Word x) (hy : Word y) : Fits (x * y) := by unfold Fits; exact prod_lt hx hy
/-- The product fits: the two middle products are words, one of them is 0. -/
theorem times_fits {a b : Nat} (h : Fits (a * b)) : Word (hiN a * loN b) ∧ Word (loN a * hiN b) ∧ Word (hiN a * loN b + loN a * hiN b) ∧ (hiN a = 0 ∨ hiN b = 0) ∧ loN a * loN b + (hiN a * loN b + loN a * hiN b) * 18446744073709551616 = a * b := by
  have e := mul_words a b
  unfold Fits at h
  unfold Word
  have z : hiN a * hiN b = 0 := by
    generalize hiN a * hiN b = p at *
    omega
  refine ⟨?_, ?_, ?_, Nat.mul_eq_zero.1 z, ?_⟩
  all_goals
    generalize hiN a * hiN b = p at *
    generalize hiN a * loN b = q at *
    generalize loN a * hiN b = r at *
    generalize loN a * loN b = s at *
    omega
/-- It does not fit, though not both upper words are there and the middle products are words: then the last sum does not. -/
theorem times_not {a b : Nat} (h : ¬ Fits (a * b)) (z : hiN a = 0 ∨ hiN b = 0) : ¬ Fits (loN a * loN b + (hiN a * loN b + loN a * hiN b) * 18446744073709551616) := by
  have e := mul_words a b
  have z' : hiN a * hiN b = 0 := Nat.mul_eq_zero.2 z
  unfold Fits at *
  rw [z'] at e
  omega
theorem mid_word {a b : Nat} (z : hiN a = 0 ∨ hiN b = 0) (hl : Word (hiN a * loN b)) (hr : Word (loN a * hiN b)) : Word (hiN a * loN b + loN a * hiN b) := by
  rcases z with z | z
  · rw [z, Nat.zero_mul, Nat.zero_add]; exact hr
  · rw [z, Nat.mul_zero, Nat.add_zero]; exact hl
theorem isW_hi {x : Nat} (h : Word x) : IsW (x * 18446744073709551616) x 0 := by
  unfold Word at h
  exact ⟨by unfold Fits; omega, by unfold hiN; omega, by unfold loN; omega⟩
theorem hi_zero_iff {x : Nat} : hiN x = 0 ↔ Word x := ⟨word_of_hi, hiN_of_word⟩
/-- What Times answers: the product's words and OK, or ErrLarge. -/
def timesH (a b : Nat) : Nat := if a * b < 340282366920938463463374607431768211456 then hiN (a * b) else 0
def timesL (a b : Nat) : Nat := if a * b < 340282366920938463463374607431768211456 then loN (a * b) else 0
def timesE (a b : Nat) : Int := if a * b < 340282366920938463463374607431768211456 then 0 else 2
theorem times_yes {a b : Nat} (h : Fits (a * b)) : timesH a b = hiN (a * b) ∧ timesL a b = loN (a * b) ∧ timesE a b = 0 := by
  unfold Fits at h; unfold timesH timesL timesE; rw [if_pos h, if_pos h, if_pos h]; exact ⟨rfl, rfl, rfl⟩
theorem times_no {a b : Nat} (h : ¬ Fits (a * b)) : timesH a b = 0 ∧ timesL a b = 0 ∧ timesE a b = 2 := by
  unfold Fits at h; unfold timesH timesL timesE; rw [if_neg h, if_neg h, if_neg h]; exact ⟨rfl, rfl, rfl⟩
end Go.Proofs.Ytlfhcjohkpdkoaa
