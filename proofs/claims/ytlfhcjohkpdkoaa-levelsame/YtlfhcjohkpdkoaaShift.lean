/- Plain arithmetic of shifts of 128-bit numbers. -/
import Derived.Test.YtlfhcjohkpdkoaaPlain
import Derived.Laws.Bits64
import Derived.Laws.Bits64b
namespace Go.Proofs.Ytlfhcjohkpdkoaa

theorem or_add (x y p : Nat) (k : Nat) (hp : p = 2 ^ k) (hy : y < p) (hx : x * p + y < 18446744073709551616) :
    bits .or .u64 ((x * p : Nat) : Int) (y : Int) = ((x * p + y : Nat) : Int) := by
  rw [bits_or_u64_nat (x * p) y (by omega) (by omega), hp, Nat.mul_comm x, Nat.two_pow_add_eq_or_of_lt (by omega) x]
theorem or_add' (x y p : Nat) (k : Nat) (hp : p = 2 ^ k) (hy : y < p) (hx : x * p + y < 18446744073709551616) :
    bits .or .u64 (y : Int) ((x * p : Nat) : Int) = ((x * p + y : Nat) : Int) := by
  rw [bits_or_u64_nat y (x * p) (by omega) (by omega), Nat.or_comm, hp, Nat.mul_comm x, Nat.two_pow_add_eq_or_of_lt (by omega) x]

theorem wrap_cast (x : Nat) : IntKind.u64.wrap (x : Int) = ((x % 18446744073709551616 : Nat) : Int) := by rw [IntKind.wrap_u64]; rfl
theorem cast_mul_pow (x n : Nat) : ((x : Int) * 2 ^ n) = ((x * 2 ^ n : Nat) : Int) := by rw [Int.natCast_mul, Int.natCast_pow]; rfl
theorem cast_div_pow (x n : Nat) : ((x : Int) / 2 ^ n) = ((x / 2 ^ n : Nat) : Int) := by rw [Int.natCast_ediv, Int.natCast_pow]; rfl
theorem pow_split {n : Nat} (h : n ≤ 64) : 2 ^ n * 2 ^ (64 - n) = 18446744073709551616 := by
  rw [← Nat.pow_add, show n + (64 - n) = 64 by omega]

theorem shl_lo (a n : Nat) : IntKind.u64.wrap ((loN a : Int) * 2 ^ n) = (loN (a * 2 ^ n) : Int) := by
  rw [cast_mul_pow, wrap_cast]; unfold loN; rw [Nat.mod_mul_mod]
theorem hi_shl (a n : Nat) (hn : n ≤ 64) : hiN (a * 2 ^ n) = hiN a * 2 ^ n + loN a / 2 ^ (64 - n) := by
  have hpq := pow_split hn
  have hp : 0 < 2 ^ n := Nat.two_pow_pos n
  have hq : 0 < 2 ^ (64 - n) := Nat.two_pow_pos _
  have e : a = hiN a * 2 ^ n * 2 ^ (64 - n) + loN a := by rw [Nat.mul_assoc, hpq]; exact (words a).symm
  generalize hiN a = h at *; generalize loN a = l at *
  unfold hiN
  rw [← hpq, Nat.mul_comm (2 ^ n), Nat.mul_div_mul_right _ _ hp]
  conv => lhs; rw [e]
  rw [Nat.add_comm, Nat.add_mul_div_right _ _ hq, Nat.add_comm]
theorem shl_hi {a n : Nat} (hn : n ≤ 64) (h : Fits (a * 2 ^ n)) : bits .or .u64 (IntKind.u64.wrap ((hiN a : Int) * 2 ^ n)) ((loN a : Int) / 2 ^ (64 - n)) = (hiN (a * 2 ^ n) : Int) := by
  have hh := hiN_lt h
  have hl := loN_lt a
  have hpq := pow_split hn
  rw [hi_shl a n hn] at hh ⊢
  rw [cast_mul_pow, cast_div_pow, wrap_cast, Nat.mod_eq_of_lt (Nat.lt_of_le_of_lt (Nat.le_add_right _ _) hh)]
  refine or_add _ _ _ n rfl ?_ hh
  rw [Nat.div_lt_iff_lt_mul (Nat.two_pow_pos _), hpq]; exact hl
theorem shl_big_hi {a n : Nat} (h64 : 64 ≤ n) (h : Fits (a * 2 ^ n)) : IntKind.u64.wrap ((loN a : Int) * 2 ^ (n - 64)) = (hiN (a * 2 ^ n) : Int) ∧ loN (a * 2 ^ n) = 0 := by
  have e : a * 2 ^ n = a * 2 ^ (n - 64) * 18446744073709551616 := by
    rw [Nat.mul_assoc]; congr 1; rw [show (18446744073709551616 : Nat) = 2 ^ 64 by rfl, ← Nat.pow_add]; congr 1; omega
  have hf : a * 2 ^ (n - 64) < 18446744073709551616 := by unfold Fits at h; omega
  have hp : 0 < 2 ^ (n - 64) := Nat.two_pow_pos _
  have ha : a ≤ a * 2 ^ (n - 64) := Nat.le_mul_of_pos_right _ hp
  have hl : loN a = a := by unfold loN; omega
  rw [cast_mul_pow, wrap_cast, hl, e]
  unfold hiN loN
  constructor
  · congr 1; omega
  · omega
theorem shr_big_lo {a n : Nat} (fa : Fits a) (h64 : 64 ≤ n) : ((hiN a : Int) / 2 ^ (n - 64)) = (loN (a / 2 ^ n) : Int) ∧ hiN (a / 2 ^ n) = 0 := by
  have e : a / 2 ^ n = hiN a / 2 ^ (n - 64) := by
    unfold hiN; rw [Nat.div_div_eq_div_mul]; congr 1; rw [show (18446744073709551616 : Nat) = 2 ^ 64 by rfl, ← Nat.pow_add]; congr 1; omega
  have hh := hiN_lt fa
  have hd : hiN a / 2 ^ (n - 64) ≤ hiN a := Nat.div_le_self _ _
  rw [cast_div_pow, ← e] at *
  rw [loN_of_word (by unfold Word; omega), hiN_of_word (by unfold Word; omega)]
  exact ⟨rfl, rfl⟩
theorem shr_hi (a n : Nat) : ((hiN a : Int) / 2 ^ n) = (hiN (a / 2 ^ n) : Int) := by
  rw [cast_div_pow]; unfold hiN; rw [Nat.div_div_eq_div_mul, Nat.div_div_eq_div_mul, Nat.mul_comm]
theorem shr_lo {a n : Nat} (hn : n ≤ 64) : bits .or .u64 ((loN a : Int) / 2 ^ n) (IntKind.u64.wrap ((hiN a : Int) * 2 ^ (64 - n))) = (loN (a / 2 ^ n) : Int) := by
  have hpq := pow_split hn
  have hp : 0 < 2 ^ n := Nat.two_pow_pos n
  have hq : 0 < 2 ^ (64 - n) := Nat.two_pow_pos _
  have hl := loN_lt a
  have e : a = loN a + hiN a * 2 ^ (64 - n) * 2 ^ n := by rw [Nat.mul_assoc, Nat.mul_comm (2 ^ (64 - n)), hpq]; have := words a; omega
  have hd : a / 2 ^ n = loN a / 2 ^ n + hiN a * 2 ^ (64 - n) := by
    conv => lhs; rw [e]
    exact Nat.add_mul_div_right _ _ hp
  have hlq : loN a / 2 ^ n < 2 ^ (64 - n) := by rw [Nat.div_lt_iff_lt_mul hp, Nat.mul_comm, hpq]; exact hl
  have hm : hiN a * 2 ^ (64 - n) % 18446744073709551616 = hiN a % 2 ^ n * 2 ^ (64 - n) := by rw [← hpq, Nat.mul_mod_mul_right]
  have hlt : hiN a % 2 ^ n * 2 ^ (64 - n) + loN a / 2 ^ n < 18446744073709551616 := by
    have h1 : hiN a % 2 ^ n < 2 ^ n := Nat.mod_lt _ hp
    have h2 : (hiN a % 2 ^ n + 1) * 2 ^ (64 - n) ≤ 2 ^ n * 2 ^ (64 - n) := Nat.mul_le_mul_right _ (by omega)
    rw [hpq, Nat.add_mul] at h2; omega
  rw [cast_mul_pow, cast_div_pow, wrap_cast, hm, or_add' _ _ _ (64 - n) rfl hlq hlt]
  congr 1
  conv => rhs; unfold loN
  rw [hd, Nat.add_mod, hm]
  have hx : loN a / 2 ^ n ≤ loN a := Nat.div_le_self _ _
  generalize loN a / 2 ^ n = u at *
  generalize hiN a % 2 ^ n * 2 ^ (64 - n) = v at *
  omega
end Go.Proofs.Ytlfhcjohkpdkoaa
