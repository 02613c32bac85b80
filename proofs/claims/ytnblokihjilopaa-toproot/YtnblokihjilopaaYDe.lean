/- Numerals: how long they are, how they are ordered. -/
import Derived.Test.YtnblokihjilopaaYDd
namespace Go.Proofs.Ytnblokihjilopaa
open Go.RowKit Y
set_option linter.unusedVariables false
set_option linter.unusedSimpArgs false
set_option maxRecDepth 100000
theorem valD_from : ∀ (l : List UInt8) (a : Nat), l.foldl (fun n c => 10 * n + (c.toNat - 48)) a = a * 10 ^ l.length + valD l
  | [], a => by simp [valD]
  | c :: l, a => by
    have h1 := valD_from l (10 * a + (c.toNat - 48))
    have h2 := valD_from l (c.toNat - 48)
    have h3 : valD (c :: l) = l.foldl (fun n c => 10 * n + (c.toNat - 48)) (c.toNat - 48) := by simp [valD]
    rw [List.foldl_cons, h1, h3, h2, List.length_cons, Nat.pow_succ, Nat.add_mul, ← Nat.add_assoc]
    congr 2
    rw [Nat.mul_comm 10 a, Nat.mul_assoc, Nat.mul_comm 10]
theorem valD_cons (c : UInt8) (l : List UInt8) : valD (c :: l) = (c.toNat - 48) * 10 ^ l.length + valD l := by
  have h2 := valD_from l (c.toNat - 48)
  have h3 : valD (c :: l) = l.foldl (fun n c => 10 * n + (c.toNat - 48)) (c.toNat - 48) := by simp [valD]
  rw [h3, h2]
theorem valD_lt : ∀ (l : List UInt8), l.all digB = true → valD l < 10 ^ l.length
  | [], _ => by simp [valD]
  | c :: l, h => by
    simp only [List.all_cons, Bool.and_eq_true] at h
    have hc : 48 ≤ c.toNat ∧ c.toNat ≤ 57 := by have := h.1; unfold digB at this; simpa using this
    have ih := valD_lt l h.2
    rw [valD_cons, List.length_cons, Nat.pow_succ]
    have : (c.toNat - 48) * 10 ^ l.length ≤ 9 * 10 ^ l.length := Nat.mul_le_mul_right _ (by omega)
    omega
theorem less_of : ∀ (l m : List UInt8), l.all digB = true → m.all digB = true → l.length = m.length → valD l < valD m → Op.bytesLess l m = true
  | [], [], _, _, _, h => by simp [valD] at h
  | [], _ :: _, _, _, h, _ => by simp at h
  | _ :: _, [], _, _, h, _ => by simp at h
  | c :: l, d :: m, hl, hm, hlen, h => by
    simp only [List.all_cons, Bool.and_eq_true] at hl hm
    have hc : 48 ≤ c.toNat ∧ c.toNat ≤ 57 := by have := hl.1; unfold digB at this; simpa using this
    have hd : 48 ≤ d.toNat ∧ d.toNat ≤ 57 := by have := hm.1; unfold digB at this; simpa using this
    have hlen' : l.length = m.length := by simpa using hlen
    rw [valD_cons, valD_cons, hlen'] at h
    have b1 := valD_lt l hl.2
    have b2 := valD_lt m hm.2
    rw [hlen'] at b1
    by_cases h1 : c.toNat < d.toNat
    · have : c < d := UInt8.lt_iff_toNat_lt.2 h1
      simp [Op.bytesLess, this]
    · by_cases h2 : c.toNat = d.toNat
      · have e : c = d := UInt8.toNat_inj.1 h2
        subst e
        have ih := less_of l m hl.2 hm.2 hlen' (by omega)
        simp [Op.bytesLess, ih]
      · exfalso
        have h3 : (d.toNat - 48 + 1) * 10 ^ m.length ≤ (c.toNat - 48) * 10 ^ m.length := Nat.mul_le_mul_right _ (by omega)
        rw [Nat.add_mul, Nat.one_mul] at h3
        omega
theorem digR_bd : ∀ n : Nat, 0 < n → 10 ^ ((digR n).length - 1) ≤ n ∧ n < 10 ^ (digR n).length := by
  intro n
  induction n using Nat.strongRecOn with
  | _ n ih =>
    intro h0
    by_cases h1 : n < 10
    · rw [digR_lt h1]; simp; omega
    · have hh := ih (n / 10) (by omega) (by omega)
      have hp := digR_pos (n / 10)
      rw [digR_ge h1, List.length_cons, Nat.add_sub_cancel]
      obtain ⟨k, hk⟩ : ∃ k, (digR (n / 10)).length = k + 1 := ⟨(digR (n / 10)).length - 1, by omega⟩
      rw [hk, Nat.add_sub_cancel] at hh
      rw [hk, Nat.pow_succ 10 (k + 1), Nat.pow_succ]
      rw [Nat.pow_succ] at hh
      omega
theorem decS_len (n : Nat) : (decS n).length = (digR n).length := by simp [decS]
theorem decS_all (n : Nat) : (decS n).all digB = true := by unfold decS; rw [List.all_reverse]; exact digR_all n
/-- More digits are more; of as many, those that come later. -/
theorem decS_order {a b : Nat} (h : a < b) : (decS a).length < (decS b).length ∨ ((decS a).length = (decS b).length ∧ Op.bytesLess (decS a) (decS b) = true) := by
  rcases Nat.lt_trichotomy (decS a).length (decS b).length with h1 | h1 | h1
  · exact .inl h1
  · exact .inr ⟨h1, less_of _ _ (decS_all a) (decS_all b) h1 (by rw [valD_decS, valD_decS]; exact h)⟩
  · exfalso
    rw [decS_len, decS_len] at h1
    rcases Nat.eq_zero_or_pos a with h0 | h0
    · subst h0
      have h2 : (digR 0).length = 1 := by rw [digR_lt (show 0 < 10 by omega)]; rfl
      have := digR_pos b
      omega
    · have ha := (digR_bd a h0).1
      have hb := (digR_bd b (by omega)).2
      have := Nat.pow_le_pow_right (n := 10) (by omega) (show (digR b).length ≤ (digR a).length - 1 by omega)
      omega
theorem parN_decS {n : Nat} (h : Fits n) : parN (decS n) = n ∧ parE (decS n) = 0 := by
  unfold Fits at h
  have hv := valD_decS n
  have hd := isDec_decS n
  constructor
  · unfold parN; rw [hv, if_pos ⟨hd, h⟩]
  · unfold parE; rw [hv, if_pos hd, if_pos h]
theorem known_max : decS (wN 1 0) = [49, 56, 52, 52, 54, 55, 52, 52, 48, 55, 51, 55, 48, 57, 53, 53, 49, 54, 49, 54] := by
  have h := isDec_back (s := [49, 56, 52, 52, 54, 55, 52, 52, 48, 55, 51, 55, 48, 57, 53, 53, 49, 54, 49, 54]) (by decide)
  have hv : valD [49, 56, 52, 52, 54, 55, 52, 52, 48, 55, 51, 55, 48, 57, 53, 53, 49, 54, 49, 54] = wN 1 0 := by decide
  rw [hv] at h
  exact h
theorem known_0 : decS 0 = [48] := isDec_back (s := [48]) (by decide)
theorem known_10 : decS 10 = [49, 48] := isDec_back (s := [49, 48]) (by decide)
end Go.Proofs.Ytnblokihjilopaa
