/- Lists of bits, of no program. -/
import Derived.Test.YtidafhjdpklgbaaDoorYWd
namespace Go.Proofs.YtidafhjdpklgbaaDoor
open Go.ChangeShapes Go.WideShapes Go.ChangeAt Go.RowKit Go.Joins Y
set_option linter.unusedSimpArgs false
set_option linter.unusedVariables false
set_option maxRecDepth 100000
set_option maxHeartbeats 40000000
def valL : List Bool → Nat
  | [] => 0
  | b :: l => (if b = true then 1 else 0) + 2 * valL l
theorem valL_lt : ∀ l : List Bool, valL l < 2 ^ l.length
  | [] => by simp [valL]
  | b :: l => by
    have h := valL_lt l
    rw [valL, List.length_cons, Nat.pow_succ]
    split <;> omega
theorem valL_snoc (b : Bool) : ∀ l : List Bool, valL (l ++ [b]) = valL l + (if b = true then 1 else 0) * 2 ^ l.length
  | [] => by simp [valL]
  | c :: l => by
    rw [List.cons_append, valL, valL_snoc b l, valL, List.length_cons, Nat.pow_succ]
    cases b <;> simp <;> omega
theorem valL_bit : ∀ (l : List Bool) (i : Nat), (if l.getD i false = true then 1 else 0) = valL l / 2 ^ i % 2
  | [], i => by simp [valL]
  | b :: l, 0 => by cases b <;> simp [valL] <;> omega
  | b :: l, i + 1 => by
    have h := valL_bit l i
    rw [List.getD_cons_succ, h, valL, Nat.pow_succ', ← Nat.div_div_eq_div_mul]
    rw [show ((if b = true then 1 else 0) + 2 * valL l) / 2 = valL l by split <;> omega]
/-- The lowest k bits of n. -/
def ofN (k n : Nat) : List Bool := (List.range k).map fun i => decide (n / 2 ^ i % 2 = 1)
theorem ofN_0 (n : Nat) : ofN 0 n = [] := rfl
theorem ofN_succ (k n : Nat) : ofN (k + 1) n = ofN k n ++ [decide (n / 2 ^ k % 2 = 1)] := by simp [ofN, List.range_succ]
theorem ofN_len (k n : Nat) : (ofN k n).length = k := by simp [ofN]
theorem ofN_val (n : Nat) : ∀ k : Nat, valL (ofN k n) = n % 2 ^ k
  | 0 => by simp [ofN, valL, Nat.mod_one]
  | k + 1 => by
    rw [ofN_succ, valL_snoc, ofN_val n k, ofN_len, Nat.mod_pow_succ]
    rcases Nat.mod_two_eq_zero_or_one (n / 2 ^ k) with h | h <;> simp [h]
def bitsL (n : Nat) : List Bool := ofN (bitLen n) n
theorem bitsL_val (n : Nat) : valL (bitsL n) = n := by
  rw [bitsL, ofN_val]; exact Nat.mod_eq_of_lt ((bitLen_lt_iff n _).1 (Nat.le_refl _))
theorem bitsL_len (n : Nat) : (bitsL n).length = bitLen n := ofN_len ..
theorem div_ne {n i : Nat} (h : n / 2 ^ i ≠ 0) : i < bitLen n := by
  refine Nat.lt_of_not_le fun hh => h ?_
  exact Nat.div_eq_of_lt ((bitLen_lt_iff n i).1 hh)
theorem div_eq {n i : Nat} (h : n / 2 ^ i = 0) (hi : i ≤ bitLen n) : i = bitLen n := by
  refine Nat.le_antisymm hi ((bitLen_lt_iff n i).2 ?_)
  rcases Nat.div_eq_zero_iff.1 h with h | h
  · have := Nat.two_pow_pos i; omega
  · exact h
theorem half_lo (x : Nat) : loN (x / 2) = loN x / 2 + hiN x % 2 * 9223372036854775808 := by unfold hiN loN; omega
theorem half_hi (x : Nat) : hiN (x / 2) = hiN x / 2 := by unfold hiN; omega
theorem lo_mod (x : Nat) : loN x % 2 = x % 2 := by unfold loN; omega
/-- The sum, bit by bit: the carry. -/
def carN (x y i : Nat) : Nat := (x % 2 ^ i + y % 2 ^ i) / 2 ^ i
theorem carN_le (x y i : Nat) : carN x y i ≤ 1 := by
  have hp := Nat.two_pow_pos i
  have h1 := Nat.mod_lt x hp
  have h2 := Nat.mod_lt y hp
  have : carN x y i < 2 := by
    unfold carN
    rw [Nat.div_lt_iff_lt_mul hp]; omega
  omega
theorem add_div (x y i : Nat) : (x + y) / 2 ^ i = x / 2 ^ i + y / 2 ^ i + carN x y i := by
  unfold carN
  have hp := Nat.two_pow_pos i
  generalize 2 ^ i = p at *
  have h1 := Nat.div_add_mod x p
  have h2 := Nat.div_add_mod y p
  have e : x + y = (x % p + y % p) + p * (x / p + y / p) := by rw [Nat.mul_add]; omega
  rw [e, Nat.add_mul_div_left _ _ hp]; omega
theorem carN_succ (x y i : Nat) : carN x y (i + 1) = (x / 2 ^ i % 2 + y / 2 ^ i % 2 + carN x y i) / 2 := by
  unfold carN
  have hp := Nat.two_pow_pos i
  rw [Nat.pow_succ]
  generalize 2 ^ i = p at *
  rw [Nat.mod_mul, Nat.mod_mul, show x % p + p * (x / p % 2) + (y % p + p * (y / p % 2)) = (x % p + y % p) + p * (x / p % 2 + y / p % 2) by rw [Nat.mul_add]; omega, ← Nat.div_div_eq_div_mul, Nat.add_mul_div_left _ _ hp]
  congr 1; omega
theorem carN_bit (x y i : Nat) : (x / 2 ^ i % 2 + y / 2 ^ i % 2 + carN x y i) % 2 = (x + y) / 2 ^ i % 2 := by
  rw [add_div]; omega
/-- The places of a sum. -/
def plusK (a b : List Bool) : Nat := if valL a + valL b < 2 ^ max a.length b.length then max a.length b.length else max a.length b.length + 1
def plusL (a b : List Bool) : List Bool := ofN (plusK a b) (valL a + valL b)
theorem plusL_val (a b : List Bool) : valL (plusL a b) = valL a + valL b := by
  rw [plusL, ofN_val]
  refine Nat.mod_eq_of_lt ?_
  have h1 : valL a < 2 ^ max a.length b.length := Nat.lt_of_lt_of_le (valL_lt a) (Nat.pow_le_pow_right (by omega) (Nat.le_max_left ..))
  have h2 : valL b < 2 ^ max a.length b.length := Nat.lt_of_lt_of_le (valL_lt b) (Nat.pow_le_pow_right (by omega) (Nat.le_max_right ..))
  unfold plusK
  split
  · assumption
  · rw [Nat.pow_succ]; omega
theorem carN_top (a b : List Bool) {i : Nat} (h : max a.length b.length ≤ i) : carN (valL a) (valL b) i = (valL a + valL b) / 2 ^ i := by
  have h1 : valL a < 2 ^ i := Nat.lt_of_lt_of_le (valL_lt a) (Nat.pow_le_pow_right (by omega) (by omega))
  have h2 : valL b < 2 ^ i := Nat.lt_of_lt_of_le (valL_lt b) (Nat.pow_le_pow_right (by omega) (by omega))
  unfold carN
  rw [Nat.mod_eq_of_lt h1, Nat.mod_eq_of_lt h2]
/-- The difference: what is borrowed. -/
def borN (x y i : Nat) : Int := if x % 2 ^ i < y % 2 ^ i then 1 else 0
theorem borN_0 (x y : Nat) : borN x y 0 = 0 := by simp [borN, Nat.mod_one]
theorem borN_bd (x y i : Nat) : 0 ≤ borN x y i ∧ borN x y i ≤ 1 := by unfold borN; split <;> omega
theorem borN_succ (x y i : Nat) : borN x y (i + 1) = if ((x / 2 ^ i % 2 : Nat) : Int) - (y / 2 ^ i % 2 : Nat) - borN x y i < 0 then 1 else 0 := by
  unfold borN
  have hp := Nat.two_pow_pos i
  rw [Nat.pow_succ]
  generalize 2 ^ i = p at *
  rw [Nat.mod_mul, Nat.mod_mul]
  have h1 := Nat.mod_lt x hp
  have h2 := Nat.mod_lt y hp
  rcases Nat.mod_two_eq_zero_or_one (x / p) with a | a <;> rcases Nat.mod_two_eq_zero_or_one (y / p) with b | b <;> rw [a, b] <;> simp only [Nat.mul_zero, Nat.mul_one, Nat.add_zero] <;> (repeat' split) <;> omega
theorem borN_bit {x y : Nat} (h : y ≤ x) (i : Nat) : (((x / 2 ^ i % 2 : Nat) : Int) - (y / 2 ^ i % 2 : Nat) - borN x y i) % 2 = (((x - y) / 2 ^ i % 2 : Nat) : Int) := by
  have hp := Nat.two_pow_pos i
  unfold borN
  generalize 2 ^ i = p at *
  have h1 := Nat.mod_lt x hp
  have h2 := Nat.mod_lt y hp
  have e1 := Nat.div_add_mod x p
  have e2 := Nat.div_add_mod y p
  by_cases hlt : x % p < y % p
  · have hq : y / p < x / p := by
      refine Nat.lt_of_not_le fun hh => ?_
      have := Nat.mul_le_mul_left p hh
      omega
    obtain ⟨k, hk⟩ : ∃ k, x / p = y / p + 1 + k := ⟨x / p - y / p - 1, by omega⟩
    have e3 : x - y = (x % p + p - y % p) + p * k := by
      rw [hk] at e1
      have : p * (y / p + 1 + k) = p * (y / p) + p + p * k := by rw [Nat.mul_add, Nat.mul_add, Nat.mul_one]
      omega
    have e4 : (x - y) / p = k := by rw [e3, Nat.add_mul_div_left _ _ hp, Nat.div_eq_of_lt (by omega), Nat.zero_add]
    rw [if_pos hlt, e4]; omega
  · have hq : y / p ≤ x / p := Nat.div_le_div_right h
    obtain ⟨k, hk⟩ : ∃ k, x / p = y / p + k := ⟨x / p - y / p, by omega⟩
    have e3 : x - y = (x % p - y % p) + p * k := by
      rw [hk] at e1
      have : p * (y / p + k) = p * (y / p) + p * k := by rw [Nat.mul_add]
      omega
    have e4 : (x - y) / p = k := by rw [e3, Nat.add_mul_div_left _ _ hp, Nat.div_eq_of_lt (by omega), Nat.zero_add]
    rw [if_neg hlt, e4]; omega
/-- The order, from above. -/
theorem top_step (x i : Nat) : x / 2 ^ i = 2 * (x / 2 ^ (i + 1)) + x / 2 ^ i % 2 := by
  rw [Nat.pow_succ, ← Nat.div_div_eq_div_mul]; omega
theorem top_lt {x y i : Nat} (h : x / 2 ^ i < y / 2 ^ i) : x < y := Nat.lt_of_not_le fun hh => by
  have := Nat.div_le_div_right (c := 2 ^ i) hh; omega
def movedL (a : List Bool) (n : Nat) : List Bool := List.replicate n false ++ a
theorem movedL_val (a : List Bool) : ∀ n : Nat, valL (movedL a n) = valL a * 2 ^ n
  | 0 => by simp [movedL]
  | n + 1 => by
    have h := movedL_val a n
    unfold movedL at h ⊢
    rw [List.replicate_succ, List.cons_append, valL, h, Nat.pow_succ]
    simp; rw [Nat.mul_comm 2, Nat.mul_assoc]
theorem carN_0 (x y : Nat) : carN x y 0 = 0 := by simp [carN, Nat.mod_one]
end Go.Proofs.YtidafhjdpklgbaaDoor
