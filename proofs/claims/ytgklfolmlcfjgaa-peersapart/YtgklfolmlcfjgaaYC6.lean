/- The checksum's register, in plain numbers: one bit, four bits, a byte; it is linear. Nothing here is of any one program. -/
import Derived.Test.YtgklfolmlcfjgaaYG
namespace Go.Proofs.Ytgklfolmlcfjgaa
open Go.RowKit Y
set_option linter.unusedVariables false
set_option linter.unusedSimpArgs false
set_option maxRecDepth 100000
/-- One bit out. -/
def st (r : Nat) : Nat := r / 2 ^^^ (if r % 2 = 1 then 3988292384 else 0)
theorem xor_half (a b : Nat) : (a ^^^ b) / 2 = a / 2 ^^^ b / 2 := by
  apply Nat.eq_of_testBit_eq
  intro i
  simp [Nat.testBit_div_two]
theorem xor_odd (a b : Nat) : ((a ^^^ b) % 2 = 1) ↔ ¬ ((a % 2 = 1) ↔ (b % 2 = 1)) := by
  have h := Nat.testBit_xor a b 0
  simp only [Nat.testBit_zero] at h
  have h1 : decide ((a ^^^ b) % 2 = 1) = true ↔ (decide (a % 2 = 1) ^^ decide (b % 2 = 1)) = true := by rw [h]
  simp only [decide_eq_true_eq] at h1
  rw [h1]
  by_cases ha : a % 2 = 1 <;> by_cases hb : b % 2 = 1 <;> simp [ha, hb]
theorem xor4 (a b c d : Nat) : (a ^^^ b) ^^^ (c ^^^ d) = (a ^^^ c) ^^^ (b ^^^ d) := by
  apply Nat.eq_of_testBit_eq
  intro i
  simp only [Nat.testBit_xor]
  cases a.testBit i <;> cases b.testBit i <;> cases c.testBit i <;> cases d.testBit i <;> rfl
theorem st_xor (a b : Nat) : st (a ^^^ b) = st a ^^^ st b := by
  unfold st
  rw [xor_half, xor4]
  congr 1
  have h := xor_odd a b
  by_cases ha : a % 2 = 1 <;> by_cases hb : b % 2 = 1 <;> simp [ha, hb] at h <;> simp [ha, hb, h]
theorem st_lt {r : Nat} (h : r < 4294967296) : st r < 4294967296 := by
  unfold st
  have := Nat.xor_lt_two_pow (n := 32) (x := r / 2) (y := if r % 2 = 1 then 3988292384 else 0) (by omega) (by split <;> omega)
  simpa using this
theorem st_zero : st 0 = 0 := by decide
theorem st_double (n : Nat) : st (2 * n) = n := by
  unfold st
  rw [if_neg (by omega), Nat.xor_zero]; omega
def st4 (r : Nat) : Nat := st (st (st (st r)))
theorem st4_xor (a b : Nat) : st4 (a ^^^ b) = st4 a ^^^ st4 b := by simp only [st4, st_xor]
theorem st4_lt {r : Nat} (h : r < 4294967296) : st4 r < 4294967296 := st_lt (st_lt (st_lt (st_lt h)))
theorem st4_16 (n : Nat) : st4 (16 * n) = n := by
  unfold st4
  rw [show 16 * n = 2 * (2 * (2 * (2 * n))) by omega, st_double, st_double, st_double, st_double]
def tabN : List Nat := [0, 498536548, 997073096, 651767980, 1994146192, 1802195444, 1303535960, 1342533948, 3988292384, 4027552580, 3604390888, 3412177804, 2607071920, 2262029012, 2685067896, 3183342108]
theorem tab_eq : ∀ x, x < 16 → st4 x = tabN.getD x 0 := by decide
theorem split16 (r : Nat) : r = (16 * (r / 16)) ^^^ (r % 16) := by
  apply Nat.eq_of_testBit_eq
  intro i
  have h1 : (16 * (r / 16)).testBit i = (decide (4 ≤ i) && r.testBit i) := by
    rw [show 16 * (r / 16) = (r / 2 ^ 4) <<< 4 by rw [Nat.shiftLeft_eq]; omega]
    rw [Nat.testBit_shiftLeft]
    by_cases hi : 4 ≤ i
    · rw [Nat.testBit_div_two_pow, show i - 4 + 4 = i by omega]
    · simp [hi]
  have h2 : (r % 16).testBit i = (decide (i < 4) && r.testBit i) := by
    rw [show (16 : Nat) = 2 ^ 4 from rfl, Nat.testBit_mod_two_pow]
  rw [Nat.testBit_xor, h1, h2]
  by_cases hi : 4 ≤ i
  · simp [hi, show ¬ i < 4 by omega]
  · simp [hi, show i < 4 by omega]
theorem st4_tab (r : Nat) : st4 r = r / 16 ^^^ tabN.getD (r % 16) 0 := by
  conv => lhs; rw [split16 r, st4_xor, st4_16, tab_eq _ (Nat.mod_lt _ (by omega))]
theorem tab_lt (x : Nat) (h : x < 16) : tabN.getD x 0 < 4294967296 := by
  rw [← tab_eq x h]; exact st4_lt (by omega)
/-- A byte in. -/
def by8 (r : Nat) (b : UInt8) : Nat := st4 (st4 (r ^^^ b.toNat))
theorem u8_lt (b : UInt8) : b.toNat < 256 := by have := b.toNat_lt; omega
theorem xb_lt {r : Nat} (h : r < 4294967296) (b : UInt8) : r ^^^ b.toNat < 4294967296 := by
  have := Nat.xor_lt_two_pow (n := 32) (x := r) (y := b.toNat) (by omega) (by have := u8_lt b; omega)
  simpa using this
theorem by8_lt {r : Nat} (h : r < 4294967296) (b : UInt8) : by8 r b < 4294967296 := st4_lt (st4_lt (xb_lt h b))
def crcR : Nat → List UInt8 → Nat
  | r, [] => r
  | r, b :: l => crcR (by8 r b) l
theorem crcR_lt : ∀ {r : Nat} (l : List UInt8), r < 4294967296 → crcR r l < 4294967296
  | r, [], h => h
  | r, b :: l, h => crcR_lt l (by8_lt h b)
theorem crcR_snoc : ∀ (r : Nat) (l : List UInt8) (b : UInt8), crcR r (l ++ [b]) = by8 (crcR r l) b
  | r, [], b => rfl
  | r, c :: l, b => crcR_snoc (by8 r c) l b
theorem crcR_append : ∀ (r : Nat) (l m : List UInt8), crcR r (l ++ m) = crcR (crcR r l) m
  | r, [], m => rfl
  | r, c :: l, m => crcR_append (by8 r c) l m
theorem crcR_take (r : Nat) (l : List UInt8) (i : Nat) (h : i < l.length) : crcR r (l.take (i + 1)) = by8 (crcR r (l.take i)) (l.getD i 0) := by
  rw [← crcR_snoc]
  congr 1
  rw [List.take_succ_eq_append_getElem h]
  simp [List.getD, h]
/-- The checksum. -/
def crcN (l : List UInt8) : Nat := crcR 4294967295 l ^^^ 4294967295
theorem crcN_lt (l : List UInt8) : crcN l < 4294967296 := by
  have := Nat.xor_lt_two_pow (n := 32) (x := crcR 4294967295 l) (y := 4294967295) (crcR_lt l (by omega)) (by omega)
  simpa [crcN] using this
/-! The bits of words. -/
theorem wrap_u32 {n : Nat} (h : n < 4294967296) : IntKind.u32.wrap (n : Int) = n := by rw [IntKind.wrap_u32]; omega
theorem wrap_i64n {n : Nat} (h : n < 9223372036854775808) : IntKind.i64.wrap (n : Int) = n := i64_wrap (by unfold I64; omega)
theorem ofInt_nat (w n : Nat) : (BitVec.ofInt w (n : Int)) = BitVec.ofNat w n := by simp
theorem xor_u32 {a b : Nat} (ha : a < 4294967296) (hb : b < 4294967296) : bits .xor .u32 (a : Int) (b : Int) = ((a ^^^ b : Nat) : Int) := by
  have hx := Nat.xor_lt_two_pow (n := 32) (x := a) (y := b) ha hb
  simp only [bits, ofInt_nat]
  rw [show IntKind.bits .u32 = 32 from rfl]
  rw [BitVec.toNat_xor, BitVec.toNat_ofNat, BitVec.toNat_ofNat, Nat.mod_eq_of_lt ha, Nat.mod_eq_of_lt hb]
  exact wrap_u32 hx
theorem xor_i64 {a b : Nat} (ha : a < 4294967296) (hb : b < 4294967296) : bits .xor .i64 (a : Int) (b : Int) = ((a ^^^ b : Nat) : Int) := by
  have hx := Nat.xor_lt_two_pow (n := 32) (x := a) (y := b) ha hb
  simp only [bits, ofInt_nat]
  rw [show IntKind.bits .i64 = 64 from rfl]
  rw [BitVec.toNat_xor, BitVec.toNat_ofNat, BitVec.toNat_ofNat, Nat.mod_eq_of_lt (by omega), Nat.mod_eq_of_lt (by omega)]
  exact wrap_i64n (by omega)
theorem and_u32_15 {a : Nat} (ha : a < 4294967296) : bits .and .u32 (a : Int) 15 = ((a % 16 : Nat) : Int) := by
  have e : BitVec.ofInt 32 (15 : Int) = BitVec.ofNat 32 15 := rfl
  simp only [bits, ofInt_nat]
  rw [show IntKind.bits .u32 = 32 from rfl, e, BitVec.toNat_and, BitVec.toNat_ofNat, BitVec.toNat_ofNat, Nat.mod_eq_of_lt ha, Nat.mod_eq_of_lt (by omega : 15 < 2 ^ 32)]
  rw [show (15 : Nat) = 2 ^ 4 - 1 from rfl, Nat.and_two_pow_sub_one_eq_mod]
  exact wrap_u32 (by omega)
theorem and_i64_1 {a : Nat} (ha : a < 4294967296) : bits .and .i64 (a : Int) 1 = ((a % 2 : Nat) : Int) := by
  have e : BitVec.ofInt 64 (1 : Int) = BitVec.ofNat 64 1 := rfl
  simp only [bits, ofInt_nat]
  rw [show IntKind.bits .i64 = 64 from rfl, e, BitVec.toNat_and, BitVec.toNat_ofNat, BitVec.toNat_ofNat, Nat.mod_eq_of_lt (by omega), Nat.mod_eq_of_lt (by omega : 1 < 2 ^ 64)]
  rw [show (1 : Nat) = 2 ^ 1 - 1 from rfl, Nat.and_two_pow_sub_one_eq_mod]
  exact wrap_i64n (by omega)
end Go.Proofs.Ytgklfolmlcfjgaa
