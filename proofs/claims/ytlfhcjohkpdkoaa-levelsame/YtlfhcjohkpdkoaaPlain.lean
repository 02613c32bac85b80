/- Plain arithmetic of 128-bit numbers, of no program: the two words of a number, sums, differences, shifts, products. Nothing is assumed. -/
import Derived.Laws.MathBits
namespace Go.Proofs.Ytlfhcjohkpdkoaa

/-- The upper and the lower word of a number. -/
def hiN (n : Nat) : Nat := n / 18446744073709551616
def loN (n : Nat) : Nat := n % 18446744073709551616
/-- The number has at most 128 bits (at most 64). -/
def Fits (n : Nat) : Prop := n < 340282366920938463463374607431768211456
def Word (n : Nat) : Prop := n < 18446744073709551616
/-- The words h and l are those of the number a. -/
def IsW (a : Nat) (h l : Int) : Prop := Fits a ∧ h = hiN a ∧ l = loN a

theorem isW_self {a : Nat} (h : Fits a) : IsW a (hiN a) (loN a) := ⟨h, rfl, rfl⟩
theorem IsW.fits {a : Nat} {h l : Int} (k : IsW a h l) : Fits a := k.1
theorem loN_lt (a : Nat) : loN a < 18446744073709551616 := Nat.mod_lt _ (by decide)
theorem hiN_lt {a : Nat} (h : Fits a) : hiN a < 18446744073709551616 := by unfold Fits at h; unfold hiN; omega
theorem hiN_word {a : Nat} (h : Fits a) : Word (hiN a) := hiN_lt h
theorem loN_word (a : Nat) : Word (loN a) := loN_lt a
theorem words (a : Nat) : hiN a * 18446744073709551616 + loN a = a := by unfold hiN loN; omega
theorem isW_mk (h l : Nat) (hh : h < 18446744073709551616) (hl : l < 18446744073709551616) : IsW (h * 18446744073709551616 + l) h l := by
  exact ⟨by unfold Fits; omega, by unfold hiN; omega, by unfold loN; omega⟩
theorem fits_word {a : Nat} (h : Word a) : Fits a := by unfold Word at h; unfold Fits; omega
theorem hiN_of_word {a : Nat} (h : Word a) : hiN a = 0 := by unfold Word at h; unfold hiN; omega
theorem loN_of_word {a : Nat} (h : Word a) : loN a = a := by unfold Word at h; unfold loN; omega
theorem isW_word {a : Nat} (h : Word a) : IsW a 0 a := ⟨fits_word h, by rw [hiN_of_word h]; rfl, by rw [loN_of_word h]⟩
theorem word_of_hi {a : Nat} (h : hiN a = 0) : Word a := by unfold hiN at h; unfold Word; omega
theorem eq_of_words {a b : Nat} (h : hiN a = hiN b) (l : loN a = loN b) : a = b := by unfold hiN at h; unfold loN at l; omega
theorem fits_mono {a b : Nat} (h : Fits b) (k : a ≤ b) : Fits a := by unfold Fits at *; omega
theorem word_mono {a b : Nat} (h : Word b) (k : a ≤ b) : Word a := by unfold Word at *; omega

/- Sums, word by word -/
def sum64 (x y c : Nat) : Nat := (x + y + c) % 18446744073709551616
def car64 (x y c : Nat) : Nat := (x + y + c) / 18446744073709551616
theorem car_le {x y c : Nat} (hx : Word x) (hy : Word y) (hc : c ≤ 1) : car64 x y c ≤ 1 := by unfold Word at *; unfold car64; omega
theorem add_lo (a b : Nat) : sum64 (loN a) (loN b) 0 = loN (a + b) := by unfold sum64 loN; omega
theorem add_hi {a b : Nat} (h : Fits (a + b)) : sum64 (hiN a) (hiN b) (car64 (loN a) (loN b) 0) = hiN (a + b) := by
  unfold Fits at h; unfold sum64 car64 loN hiN; omega
theorem add_car0 {a b : Nat} (h : Fits (a + b)) : car64 (hiN a) (hiN b) (car64 (loN a) (loN b) 0) = 0 := by
  unfold Fits at h; unfold car64 loN hiN; omega
theorem add_car1 {a b : Nat} (ha : Fits a) (hb : Fits b) (h : ¬ Fits (a + b)) : car64 (hiN a) (hiN b) (car64 (loN a) (loN b) 0) = 1 := by
  unfold Fits at h ha hb; unfold car64 loN hiN; omega

/- Differences -/
def dif64 (x y b : Nat) : Nat := (x + 18446744073709551616 - y - b) % 18446744073709551616
def bor64 (x y b : Nat) : Nat := if x < y + b then 1 else 0
theorem bor_le (x y b : Nat) : bor64 x y b ≤ 1 := by unfold bor64; split <;> omega
theorem sub_lo {a b : Nat} (h : b ≤ a) : dif64 (loN a) (loN b) 0 = loN (a - b) := by unfold dif64 loN; omega
theorem sub_hi {a b : Nat} (fa : Fits a) (h : b ≤ a) : dif64 (hiN a) (hiN b) (bor64 (loN a) (loN b) 0) = hiN (a - b) := by
  unfold Fits at fa; unfold dif64 bor64 loN hiN; split <;> omega
theorem sub_bor0 {a b : Nat} (h : b ≤ a) : bor64 (hiN a) (hiN b) (bor64 (loN a) (loN b) 0) = 0 := by
  unfold bor64 loN hiN; split <;> split <;> omega
theorem sub_bor1 {a b : Nat} (h : a < b) : bor64 (hiN a) (hiN b) (bor64 (loN a) (loN b) 0) = 1 := by
  unfold bor64 loN hiN; split <;> split <;> omega

/- The order -/
def cmpN (a b : Nat) : Int := if a < b then -1 else if b < a then 1 else 0
theorem cmpN_words (a b : Nat) : cmpN a b = if hiN a = hiN b then cmpN (loN a) (loN b) else cmpN (hiN a) (hiN b) := by
  unfold cmpN hiN loN; repeat' split <;> omega
theorem cmpN_lt {a b : Nat} (h : a < b) : cmpN a b = -1 := by unfold cmpN; rw [if_pos h]
theorem cmpN_gt {a b : Nat} (h : b < a) : cmpN a b = 1 := by unfold cmpN; rw [if_neg (by omega), if_pos h]
theorem cmpN_eq (a : Nat) : cmpN a a = 0 := by unfold cmpN; rw [if_neg (by omega), if_neg (by omega)]
theorem cmpN_range (a b : Nat) : -1 ≤ cmpN a b ∧ cmpN a b ≤ 1 := by unfold cmpN; repeat' split <;> omega
theorem cmpN_neg (a b : Nat) : cmpN b a = - cmpN a b := by unfold cmpN; repeat' split <;> omega
theorem cmpN_lt_iff (a b : Nat) : cmpN a b < 0 ↔ a < b := by unfold cmpN; repeat' split <;> omega
theorem cmpN_eq_iff (a b : Nat) : cmpN a b = 0 ↔ a = b := by unfold cmpN; repeat' split <;> omega
theorem cmpN_gt_iff (a b : Nat) : 0 < cmpN a b ↔ b < a := by unfold cmpN; repeat' split <;> omega
theorem cmpN_add (a b c : Nat) : cmpN (a + c) (b + c) = cmpN a b := by unfold cmpN; repeat' split <;> omega

/- The bit length -/
theorem bitLen_zero : bitLen 0 = 0 := rfl
theorem bitLen_lt_iff (n k : Nat) : bitLen n ≤ k ↔ n < 2 ^ k := by
  have h := bitLen_spec n
  constructor
  · intro hk; exact Nat.lt_of_lt_of_le h.1 (Nat.pow_le_pow_right (by omega) hk)
  · intro hn
    by_cases h0 : n = 0
    · subst h0; rw [bitLen_zero]; omega
    · have h2 := Nat.lt_of_le_of_lt (h.2 h0) hn
      have := (Nat.pow_lt_pow_iff_right (by omega : 1 < 2)).1 h2
      omega
theorem bitLen_mono {a b : Nat} (h : a ≤ b) : bitLen a ≤ bitLen b := (bitLen_lt_iff a _).2 (Nat.lt_of_le_of_lt h (bitLen_spec b).1)
theorem bitLen_hi {a : Nat} (h : hiN a ≠ 0) : bitLen a = 64 + bitLen (hiN a) := bitLen_shift a 64 h
theorem bitLen_word {a : Nat} (h : Word a) : bitLen a ≤ 64 := (bitLen_lt_iff a 64).2 h
theorem bitLen_fits {a : Nat} (h : Fits a) : bitLen a ≤ 128 := (bitLen_lt_iff a 128).2 h
theorem bitLen_mul_pow {a : Nat} (n : Nat) (h : a ≠ 0) : bitLen (a * 2 ^ n) = bitLen a + n := by
  have hp : 0 < 2 ^ n := Nat.two_pow_pos n
  have e : a * 2 ^ n / 2 ^ n = a := Nat.mul_div_cancel a hp
  rw [bitLen_shift (a * 2 ^ n) n (by rw [e]; exact h), e]; omega
theorem fits_shl {a n : Nat} (h : a ≠ 0) : Fits (a * 2 ^ n) ↔ bitLen a + n ≤ 128 := by
  rw [← bitLen_mul_pow n h]; exact (bitLen_lt_iff _ 128).symm
attribute [irreducible] hiN loN Fits Word sum64 car64 dif64 bor64 cmpN
end Go.Proofs.Ytlfhcjohkpdkoaa
