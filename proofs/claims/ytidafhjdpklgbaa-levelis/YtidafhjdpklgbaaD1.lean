/- The contract of math/bits.Div64 (and LeadingZeros64): quotient and remainder of a number of two words by a word. -/
import Derived.Test.YtidafhjdpklgbaaW2
import Derived.Test.YtidafhjdpklgbaaDivp
import Derived.Deep.DeepCutAuto
import Derived.Deep.CutBlock
import Derived.Test.YtidafhjdpklgbaaP1
namespace Go.Proofs.Ytidafhjdpklgbaa
open Go.RowKit
theorem quo_wrap {U y1 : Nat} (hU : U < 18446744073709551616) : IntKind.u64.wrap ((U : Int) / (y1 : Int)) = ((U / y1 : Nat) : Int) := by
  have h := Nat.div_le_self U y1
  rw [← Int.natCast_ediv]
  generalize U / y1 = q at *
  exact IntWalk.u64_in _ (by omega)
theorem rest_wrap {U y1 : Nat} (hU : U < 18446744073709551616) : IntKind.u64.wrap ((U : Int) - IntKind.u64.wrap (((U / y1 : Nat) : Int) * (y1 : Int))) = ((U % y1 : Nat) : Int) := by
  have h := Nat.div_add_mod' U y1
  have h2 : U % y1 ≤ U := Nat.mod_le _ _
  rw [← Int.natCast_mul]
  generalize U / y1 * y1 = p at *
  rw [IntKind.wrap_u64, IntKind.wrap_u64]
  omega
theorem left_wrap {U d q Y r : Nat} (h : q * Y + r = U * 4294967296 + d) (hr : r < 18446744073709551616) :
    IntKind.u64.wrap (IntKind.u64.wrap (IntKind.u64.wrap ((U : Int) * 4294967296) + (d : Int)) - IntKind.u64.wrap ((q : Int) * (Y : Int))) = (r : Int) := by
  rw [← Int.natCast_mul q Y]
  generalize q * Y = p at *
  simp only [IntKind.wrap_u64]
  omega
/-- A guess, of integers that are no less than 0. -/
def GI (u d y1 y0 q r : Int) : Prop := 0 ≤ q ∧ 0 ≤ r ∧ Guess u.toNat d.toNat y1.toNat y0.toNat q.toNat r.toNat
theorem GI.le {u d y1 y0 q r : Int} (g : GI u d y1 y0 q r) : q ≤ 4294967297 := by
  have := g.2.2.le
  have := g.1
  omega
theorem GI.rest {u d y1 y0 q r : Int} (g : GI u d y1 y0 q r) (hY : 0 ≤ y1) (hu : u.toNat < y1.toNat * 4294967296 + y0.toNat) (hd : d.toNat < 4294967296) (h : 4294967296 ≤ q.toNat ∨ r.toNat * 4294967296 + d.toNat < q.toNat * y0.toNat) : 1 ≤ q ∧ GI u d y1 y0 (q - 1) (r + y1) := by
  have h2 := guess_rest g.2.2 hu hd h
  have h3 := g.1
  have h4 := g.2.1
  have h1 := h2.1
  refine ⟨by omega, by omega, by omega, ?_⟩
  rw [show (q - 1).toNat = q.toNat - 1 by omega, show (r + y1).toNat = r.toNat + y1.toNat by omega]
  exact h2.2
theorem toNat_mul_cast {q y : Int} (hq : 0 ≤ q) (hy : 0 ≤ y) : ((q.toNat * y.toNat : Nat) : Int) = q * y := by
  rw [Int.natCast_mul, Int.toNat_of_nonneg hq, Int.toNat_of_nonneg hy]
/-- What is asked of a digit. -/
def Digit (u d y1 y0 q : Int) : Prop := q.toNat = (u.toNat * 4294967296 + d.toNat) / (y1.toNat * 4294967296 + y0.toNat) ∧ 0 ≤ q
theorem Digit.eq {u d y1 y0 q q' : Int} (h : Digit u d y1 y0 q) (h' : Digit u d y1 y0 q') : q = q' := by
  have h1 := h.1.trans h'.1.symm
  have h2 := h.2
  have h3 := h'.2
  omega
theorem GI.done {u d y1 y0 q r : Int} (g : GI u d y1 y0 q r) (h1 : 0 < y1) (h0 : 0 ≤ y0) (hd : 0 ≤ d) (h : q * y0 ≤ 4294967296 * r + d) : Digit u d y1 y0 q := by
  refine ⟨guess_done g.2.2 (by omega) ?_, g.1⟩
  have e := toNat_mul_cast g.1 h0
  have h2 := g.2.1
  rw [← e] at h
  generalize q.toNat * y0.toNat = p at *
  omega
theorem GI.broke {u d y1 y0 q r : Int} (g : GI u d y1 y0 q r) (h1 : 0 < y1) (h0 : y0 < 4294967296) (hq : q ≤ 4294967296) (hr : 4294967296 ≤ r) : Digit u d y1 y0 q := by
  have h2 := g.1
  exact ⟨guess_broke g.2.2 (by omega) (by omega) (by omega) (by omega), h2⟩
theorem GI.more {q y0 r d : Int} (hq : 0 ≤ q) (hy : 0 ≤ y0) (hr : 0 ≤ r) (hd : 0 ≤ d) (h : 4294967296 * r + d < q * y0) : r.toNat * 4294967296 + d.toNat < q.toNat * y0.toNat := by
  have e := toNat_mul_cast hq hy
  rw [← e] at h
  generalize q.toNat * y0.toNat = p at *
  omega
theorem half_prod {q y0 : Int} (hq : 0 ≤ q) (hq' : q < 4294967296) (hy : 0 ≤ y0) (hy' : y0 < 4294967296) : IntKind.u64.wrap (q * y0) = q * y0 := by
  have h1 := Int.mul_nonneg hq hy
  have h2 : q * y0 ≤ 4294967295 * 4294967295 := Int.mul_le_mul (by omega) (by omega) hy (by omega)
  exact IntWalk.u64_in _ (by omega)
theorem digit_of (u d Y : Nat) : Digit (u : Int) (d : Int) ((Y / 4294967296 : Nat) : Int) ((Y % 4294967296 : Nat) : Int) (((u * 4294967296 + d) / Y : Nat) : Int) := by
  refine ⟨?_, Int.natCast_nonneg _⟩
  simp only [Int.toNat_natCast]
  rw [Nat.div_add_mod' Y 4294967296]
theorem gi_first {u d Y : Nat} (hu : u < Y) (hd : d < 4294967296) (hY : 9223372036854775808 ≤ Y) : GI (u : Int) (d : Int) ((Y / 4294967296 : Nat) : Int) ((Y % 4294967296 : Nat) : Int) ((u / (Y / 4294967296) : Nat) : Int) ((u % (Y / 4294967296) : Nat) : Int) := by
  refine ⟨Int.natCast_nonneg _, Int.natCast_nonneg _, ?_⟩
  simp only [Int.toNat_natCast]
  exact guess_first (by rw [Nat.div_add_mod' Y 4294967296]; exact hu) hd (Nat.mod_lt _ (by omega)) (by omega)
theorem lt_parts {u Y : Nat} (hu : u < Y) : ((u : Nat) : Int).toNat < ((Y / 4294967296 : Nat) : Int).toNat * 4294967296 + ((Y % 4294967296 : Nat) : Int).toNat := by
  simp only [Int.toNat_natCast]
  rw [Nat.div_add_mod' Y 4294967296]; exact hu
theorem low_half (V : Nat) (h : V < 18446744073709551616) : bits .and .u64 (V : Int) 4294967295 = ((V % 4294967296 : Nat) : Int) := by
  rw [and_low32 _ (by omega) (by omega), Int.natCast_emod]; rfl
end Go.Proofs.Ytidafhjdpklgbaa
