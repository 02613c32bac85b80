/- The checksum of a text as one great number; bursts; texts added bit by bit. Nothing here is of any one program. -/
import Derived.Test.YtgklfolmlcfjgaaYC6
namespace Go.Proofs.Ytgklfolmlcfjgaa
open Go.RowKit Y
set_option linter.unusedVariables false
set_option linter.unusedSimpArgs false
set_option maxRecDepth 100000
def stn : Nat → Nat → Nat
  | 0, r => r
  | k + 1, r => stn k (st r)
theorem stn_xor : ∀ (k a b : Nat), stn k (a ^^^ b) = stn k a ^^^ stn k b
  | 0, a, b => rfl
  | k + 1, a, b => by rw [stn, stn, stn, st_xor, stn_xor k]
theorem stn_add : ∀ (k m r : Nat), stn (k + m) r = stn m (stn k r)
  | 0, m, r => by rw [Nat.zero_add]; rfl
  | k + 1, m, r => by rw [show k + 1 + m = (k + m) + 1 by omega, stn, stn_add k m]; rfl
theorem stn_pow : ∀ (k n : Nat), stn k (2 ^ k * n) = n
  | 0, n => by simp [stn]
  | k + 1, n => by rw [stn, show 2 ^ (k + 1) * n = 2 * (2 ^ k * n) by rw [Nat.pow_succ]; rw [Nat.mul_comm (2 ^ k) 2, Nat.mul_assoc], st_double]; exact stn_pow k n
theorem st_eq_zero {r : Nat} (h : r < 4294967296) (h0 : st r = 0) : r = 0 := by
  unfold st at h0
  have hx : r / 2 = (if r % 2 = 1 then 3988292384 else 0) := by
    have h1 := congrArg (· ^^^ (if r % 2 = 1 then 3988292384 else 0)) h0
    simpa [Nat.xor_assoc] using h1
  split at hx <;> omega
theorem stn_ne_zero : ∀ (k : Nat) {r : Nat}, r < 4294967296 → r ≠ 0 → stn k r ≠ 0
  | 0, r, h, h0 => h0
  | k + 1, r, h, h0 => stn_ne_zero k (st_lt h) fun hh => h0 (st_eq_zero h hh)
theorem by8_stn (r : Nat) (b : UInt8) : by8 r b = stn 8 (r ^^^ b.toNat) := rfl
/-- The text as a number, its first byte the lowest. -/
def numL : List UInt8 → Nat
  | [] => 0
  | b :: l => 2 ^ 8 * numL l + b.toNat
theorem numL_bit (b : UInt8) (l : List UInt8) (i : Nat) : (numL (b :: l)).testBit i = if i < 8 then b.toNat.testBit i else (numL l).testBit (i - 8) := by
  rw [numL, Nat.testBit_two_pow_mul_add _ (by have := u8_lt b; omega)]
theorem numL_cons (b : UInt8) (l : List UInt8) : numL (b :: l) = b.toNat ^^^ (2 ^ 8 * numL l) := by
  apply Nat.eq_of_testBit_eq
  intro i
  rw [numL_bit, Nat.testBit_xor]
  by_cases h : i < 8
  · rw [if_pos h, Nat.testBit_two_pow_mul]
    simp [show ¬ 8 ≤ i by omega]
  · rw [if_neg h, Nat.testBit_two_pow_mul]
    have hb : b.toNat.testBit i = false := Nat.testBit_lt_two_pow (Nat.lt_of_lt_of_le (u8_lt b) (by
      have := Nat.pow_le_pow_right (n := 2) (by omega) (show 8 ≤ i by omega); omega))
    simp [hb, show 8 ≤ i by omega]
theorem crcR_num : ∀ (l : List UInt8) (r : Nat), crcR r l = stn (8 * l.length) (r ^^^ numL l)
  | [], r => by simp [crcR, numL, stn]
  | b :: l, r => by
    rw [crcR, crcR_num l, List.length_cons, show 8 * (l.length + 1) = 8 + 8 * l.length by omega, stn_add, numL_cons]
    congr 1
    rw [← Nat.xor_assoc, stn_xor, stn_pow, by8_stn]
/-- Bit j of a text turned. -/
def flip (l : List UInt8) (j : Nat) : List UInt8 := l.set (j / 8) (l.getD (j / 8) 0 ^^^ UInt8.ofNat (2 ^ (j % 8)))
theorem flip_len (l : List UInt8) (j : Nat) : (flip l j).length = l.length := by simp [flip]
theorem pow8_lt (j : Nat) : 2 ^ (j % 8) < 256 := by
  have := Nat.pow_lt_pow_right (a := 2) (by omega) (show j % 8 < 8 by omega)
  omega
theorem u8_pow (j : Nat) : (UInt8.ofNat (2 ^ (j % 8))).toNat = 2 ^ (j % 8) := by
  rw [UInt8.toNat_ofNat']
  exact Nat.mod_eq_of_lt (pow8_lt j)
theorem numL_flip : ∀ (l : List UInt8) (j : Nat), j < 8 * l.length → numL (flip l j) = numL l ^^^ 2 ^ j
  | [], j, h => by simp at h
  | b :: l, j, h => by
    by_cases hj : j < 8
    · have e1 : j / 8 = 0 := by omega
      have e2 : j % 8 = j := by omega
      rw [flip, e1, e2]
      simp only [List.set_cons_zero, List.getD_cons_zero]
      have hp : (UInt8.ofNat (2 ^ j)).toNat = 2 ^ j := by have := u8_pow j; rwa [e2] at this
      rw [numL_cons, numL_cons, UInt8.toNat_xor, hp]
      rw [Nat.xor_assoc, Nat.xor_comm (2 ^ j), ← Nat.xor_assoc]
    · have e1 : j / 8 = (j - 8) / 8 + 1 := by omega
      have e2 : j % 8 = (j - 8) % 8 := by omega
      have ih := numL_flip l (j - 8) (by simp at h; omega)
      rw [flip, e1, e2]
      simp only [List.set_cons_succ, List.getD_cons_succ]
      have hf : l.set ((j - 8) / 8) (l.getD ((j - 8) / 8) 0 ^^^ UInt8.ofNat (2 ^ ((j - 8) % 8))) = flip l (j - 8) := rfl
      rw [hf, numL_cons, numL_cons, ih, Nat.xor_assoc]
      congr 1
      apply Nat.eq_of_testBit_eq
      intro i
      rw [Nat.testBit_xor, Nat.testBit_two_pow_mul, Nat.testBit_two_pow_mul, Nat.testBit_xor, Nat.testBit_two_pow, Nat.testBit_two_pow]
      by_cases hi : 8 ≤ i
      · simp [hi]
        by_cases hh : j = i
        · simp [hh]
        · simp [hh, show ¬ j - 8 = i - 8 by omega]
      · simp [hi, show ¬ j = i by omega]
/-- Some of 32 bits side by side turned. -/
def burstK (s : List UInt8) (p t : Nat) : Nat → List UInt8
  | 0 => s
  | k + 1 => if t.testBit k then flip (burstK s p t k) (p + k) else burstK s p t k
theorem burstK_len (s : List UInt8) (p t : Nat) : ∀ k, (burstK s p t k).length = s.length
  | 0 => rfl
  | k + 1 => by
    rw [burstK]
    split
    · rw [flip_len]; exact burstK_len s p t k
    · exact burstK_len s p t k
theorem numL_burst (s : List UInt8) (p t : Nat) : ∀ k, p + k ≤ 8 * s.length → numL (burstK s p t k) = numL s ^^^ (2 ^ p * (t % 2 ^ k))
  | 0, h => by simp [burstK, Nat.mod_one]
  | k + 1, h => by
    have ih := numL_burst s p t k (by omega)
    rw [burstK]
    have key : (2 ^ p * (t % 2 ^ (k + 1))) = (2 ^ p * (t % 2 ^ k)) ^^^ (if t.testBit k then 2 ^ (p + k) else 0) := by
      apply Nat.eq_of_testBit_eq
      intro i
      rw [Nat.testBit_xor, Nat.testBit_two_pow_mul, Nat.testBit_two_pow_mul, Nat.testBit_mod_two_pow, Nat.testBit_mod_two_pow]
      have hb : (if t.testBit k = true then 2 ^ (p + k) else 0).testBit i = (t.testBit k && decide (p + k = i)) := by
        split
        · rename_i h1; rw [Nat.testBit_two_pow, h1]; simp
        · rename_i h1; simp [h1]
      rw [hb]
      by_cases hi : p ≤ i
      · by_cases h1 : i = p + k
        · subst h1
          simp [show p + k - p = k by omega]
        · have h2 : decide (p + k = i) = false := by simp; omega
          rw [h2]
          by_cases h3 : i - p < k
          · simp [hi, h3, show i - p < k + 1 by omega]
          · simp [hi, h3, show ¬ i - p < k + 1 by omega]
      · simp [hi, show ¬ p + k = i by omega]
    rw [key]
    by_cases ht : t.testBit k = true
    · rw [if_pos ht, if_pos ht, numL_flip _ _ (by rw [burstK_len]; omega), ih, Nat.xor_assoc]
    · rw [if_neg ht, if_neg ht, ih, Nat.xor_zero]
theorem crcR_burst (r : Nat) (s : List UInt8) {p t : Nat} (hp : p + 32 ≤ 8 * s.length) (ht : t < 4294967296) (h0 : t ≠ 0) : crcR r (burstK s p t 32) ≠ crcR r s := by
  rw [crcR_num, crcR_num, burstK_len, numL_burst s p t 32 hp, Nat.mod_eq_of_lt (by omega), ← Nat.xor_assoc, stn_xor]
  intro h
  have h1 := congrArg (stn (8 * s.length) (r ^^^ numL s) ^^^ ·) h
  simp only [← Nat.xor_assoc, Nat.xor_self, Nat.zero_xor] at h1
  rw [show 8 * s.length = p + (8 * s.length - p) by omega, stn_add, stn_pow] at h1
  exact stn_ne_zero _ ht h0 h1
theorem xor_cancel {a b m : Nat} (h : a ^^^ m = b ^^^ m) : a = b := by
  have h1 := congrArg (· ^^^ m) h
  simpa [Nat.xor_assoc] using h1
theorem crcN_burst (s : List UInt8) {p t : Nat} (hp : p + 32 ≤ 8 * s.length) (ht : t < 4294967296) (h0 : t ≠ 0) : crcN (burstK s p t 32) ≠ crcN s := fun h => crcR_burst 4294967295 s hp ht h0 (xor_cancel h)
/-- Three texts added. -/
def xor3 : List UInt8 → List UInt8 → List UInt8 → List UInt8
  | a :: s, b :: t, c :: u => (a ^^^ b ^^^ c) :: xor3 s t u
  | _, _, _ => []
theorem xor3_len : ∀ (s t u : List UInt8), s.length ≤ t.length → s.length ≤ u.length → (xor3 s t u).length = s.length
  | [], _, _, _, _ => by simp [xor3]
  | a :: s, [], _, h, _ => by simp at h
  | a :: s, b :: t, [], _, h => by simp at h
  | a :: s, b :: t, c :: u, h1, h2 => by simp [xor3, xor3_len s t u (by simpa using h1) (by simpa using h2)]
theorem xor3_take : ∀ (s t u : List UInt8) (i : Nat), i < s.length → s.length ≤ t.length → s.length ≤ u.length → xor3 (s.take (i + 1)) (t.take (i + 1)) (u.take (i + 1)) = xor3 (s.take i) (t.take i) (u.take i) ++ [s.getD i 0 ^^^ t.getD i 0 ^^^ u.getD i 0]
  | [], _, _, i, h, _, _ => by simp at h
  | a :: s, [], _, i, _, h, _ => by simp at h
  | a :: s, b :: t, [], i, _, _, h => by simp at h
  | a :: s, b :: t, c :: u, 0, _, _, _ => by simp [xor3]
  | a :: s, b :: t, c :: u, i + 1, h, h1, h2 => by
    have ih := xor3_take s t u i (by simpa using h) (by simpa using h1) (by simpa using h2)
    simp only [List.take_succ_cons, xor3, List.cons_append, List.getD_cons_succ]
    rw [ih]
theorem xor6 (a b c d e f : Nat) : a ^^^ b ^^^ c ^^^ (d ^^^ e ^^^ f) = (a ^^^ d) ^^^ (b ^^^ e) ^^^ (c ^^^ f) := by
  apply Nat.eq_of_testBit_eq
  intro i
  simp only [Nat.testBit_xor]
  cases a.testBit i <;> cases b.testBit i <;> cases c.testBit i <;> cases d.testBit i <;> cases e.testBit i <;> cases f.testBit i <;> rfl
theorem crcR_xor3 : ∀ (s t u : List UInt8) (r1 r2 r3 : Nat), s.length = t.length → s.length = u.length → crcR (r1 ^^^ r2 ^^^ r3) (xor3 s t u) = crcR r1 s ^^^ crcR r2 t ^^^ crcR r3 u
  | [], t, u, r1, r2, r3, h1, h2 => by
    have e1 : t = [] := List.eq_nil_of_length_eq_zero (by simpa using h1.symm)
    have e2 : u = [] := List.eq_nil_of_length_eq_zero (by simpa using h2.symm)
    subst e1 e2
    simp [xor3, crcR]
  | a :: s, [], _, _, _, _, h, _ => by simp at h
  | a :: s, b :: t, [], _, _, _, _, h => by simp at h
  | a :: s, b :: t, c :: u, r1, r2, r3, h1, h2 => by
    rw [xor3, crcR, crcR, crcR, crcR]
    rw [← crcR_xor3 s t u _ _ _ (by simpa using h1) (by simpa using h2)]
    congr 1
    simp only [by8, UInt8.toNat_xor, xor6, st4_xor]
theorem crcN_xor3 (s t u : List UInt8) (h1 : s.length = t.length) (h2 : s.length = u.length) : crcN s ^^^ crcN t ^^^ crcN u = crcN (xor3 s t u) := by
  have h := crcR_xor3 s t u 4294967295 4294967295 4294967295 h1 h2
  rw [show (4294967295 ^^^ 4294967295 ^^^ 4294967295 : Nat) = 4294967295 by decide] at h
  unfold crcN
  rw [h, ← xor6]
  rw [show (4294967295 ^^^ 4294967295 ^^^ 4294967295 : Nat) = 4294967295 by decide]
/-! Bytes. -/
theorem xor_u8 {a b : Nat} (ha : a < 256) (hb : b < 256) : bits .xor .u8 (a : Int) (b : Int) = ((a ^^^ b : Nat) : Int) := by
  have hx := Nat.xor_lt_two_pow (n := 8) (x := a) (y := b) ha hb
  simp only [bits, ofInt_nat]
  rw [show IntKind.bits .u8 = 8 from rfl]
  rw [BitVec.toNat_xor, BitVec.toNat_ofNat, BitVec.toNat_ofNat, Nat.mod_eq_of_lt ha, Nat.mod_eq_of_lt hb]
  rw [IntKind.wrap_u8]; omega
theorem xor3_u8 (a b c : UInt8) : bits .xor .u8 (bits .xor .u8 (a.toNat : Int) (b.toNat : Int)) (c.toNat : Int) = (((a ^^^ b ^^^ c).toNat : Nat) : Int) := by
  rw [xor_u8 (u8_lt a) (u8_lt b), ← UInt8.toNat_xor, xor_u8 (u8_lt _) (u8_lt c), ← UInt8.toNat_xor]
/-- Bytes there and back. -/
def bI (l : List UInt8) : List Int := l.map fun b => (b.toNat : Int)
theorem bI_eq (l : List UInt8) : (l.map fun b => (b.toNat : Int)) = bI l := rfl
theorem bI_len (l : List UInt8) : (bI l).length = l.length := by simp [bI]
theorem bI_str (l : List UInt8) : (bI l).map (fun n => UInt8.ofNat n.toNat) = l := by
  simp only [bI, List.map_map, Function.comp_def, Int.toNat_natCast]
  induction l with
  | nil => rfl
  | cons b l ih => rw [List.map_cons, ih, UInt8.ofNat_toNat]
theorem bI_append (l m : List UInt8) : bI (l ++ m) = bI l ++ bI m := by simp [bI]
theorem bI_getD (l : List UInt8) (i : Nat) : (bI l).getD i 0 = ((l.getD i 0).toNat : Int) := by
  simp only [bI, List.getD, List.getElem?_map]
  cases l[i]? <;> rfl
theorem bI_set (l : List UInt8) (i : Nat) (b : UInt8) : (bI l).set i (b.toNat : Int) = bI (l.set i b) := by simp [bI, List.map_set]
end Go.Proofs.Ytgklfolmlcfjgaa
