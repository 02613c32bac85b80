/- The contract of prod.Div (divByWord, lowGuess, divByWide): quotient and remainder of every two numbers, or ErrZero. -/
import Derived.Test.YtidafhjdpklgbaaH1
import Derived.Test.YtidafhjdpklgbaaD1
import Derived.Test.YtidafhjdpklgbaaDivq
namespace Go.Proofs.Ytidafhjdpklgbaa
open Go.RowKit
theorem near1 {q G : Nat} (_h : q ≤ G) (k : G ≤ q + 1) : G - 1 ≤ q := by omega
theorem near2 {q G : Nat} (h : q ≤ G) : q ≤ G - 1 + 1 := by omega
theorem near3 {G : Nat} (h : G < 18446744073709551616) : Word (G - 1 + 1) := by unfold Word; omega
theorem back_mul {a b g : Nat} (h : g ≤ a / b) : b * g ≤ a := Nat.le_trans (Nat.mul_le_mul_left b h) (Nat.mul_div_le a b)
theorem next_mul {a b g : Nat} (hb : 0 < b) (h : a / b ≤ g + 1) (hr : b ≤ a - b * g) : a / b = g + 1 := by
  refine Nat.le_antisymm h ?_
  rw [Nat.le_div_iff_mul_le hb, Nat.add_mul, Nat.one_mul, Nat.mul_comm g]
  omega
theorem same_mul {a b g : Nat} (hb : 0 < b) (h : g ≤ a / b) (hr : a - b * g < b) : a / b = g := by
  refine Nat.le_antisymm (Nat.le_of_lt_succ ?_) h
  rw [Nat.div_lt_iff_lt_mul hb, Nat.succ_mul, Nat.mul_comm g]
  omega
theorem mod_eq {a b g : Nat} (h : a / b = g) : a % b = a - b * g := by
  have := Nat.div_add_mod a b
  rw [h] at this
  omega
end Go.Proofs.Ytidafhjdpklgbaa
