/- Heartbeats as texts: what is written, what is read; the one undoes the other. Nothing here is of any one program. -/
import Derived.Test.YtgklfolmlcfjgaaYC7
namespace Go.Proofs.Ytgklfolmlcfjgaa
open Go.RowKit Y
set_option linter.unusedVariables false
set_option linter.unusedSimpArgs false
set_option maxRecDepth 100000
def letB (c : UInt8) : Bool := decide (97 ≤ c.toNat ∧ c.toNat ≤ 122)
def isIdB (l : List UInt8) : Bool := decide (1 ≤ l.length ∧ l.length ≤ 8) && l.all letB
def chkE (l : List UInt8) (a b : Int) : Int := if isIdB l = true then (if 0 ≤ a ∧ a < 2147483648 ∧ 1 ≤ b ∧ b < 2147483648 then 0 else 1) else 3
theorem chkE_0 {l : List UInt8} {a b : Int} : chkE l a b = 0 ↔ isIdB l = true ∧ 0 ≤ a ∧ a < 2147483648 ∧ 1 ≤ b ∧ b < 2147483648 := by
  unfold chkE
  split
  · split <;> simp_all
  · simp_all
theorem isIdB_len {l : List UInt8} (h : isIdB l = true) : 1 ≤ l.length ∧ l.length ≤ 8 := by
  unfold isIdB at h
  simp only [Bool.and_eq_true, decide_eq_true_eq] at h
  exact h.1
/-- Four bytes of a number, the highest first; and back. -/
def word4 (n : Nat) : List UInt8 := [UInt8.ofNat (n / 16777216), UInt8.ofNat (n / 65536), UInt8.ofNat (n / 256), UInt8.ofNat n]
def valAt (l : List UInt8) (i : Nat) : Nat := (l.getD i 0).toNat * 16777216 + (l.getD (i + 1) 0).toNat * 65536 + (l.getD (i + 2) 0).toNat * 256 + (l.getD (i + 3) 0).toNat
theorem word4_len (n : Nat) : (word4 n).length = 4 := rfl
theorem valAt_lt (l : List UInt8) (i : Nat) : valAt l i < 4294967296 := by
  have h1 := u8_lt (l.getD i 0)
  have h2 := u8_lt (l.getD (i + 1) 0)
  have h3 := u8_lt (l.getD (i + 2) 0)
  have h4 := u8_lt (l.getD (i + 3) 0)
  unfold valAt; omega
theorem valAt_word4 (n : Nat) (h : n < 4294967296) : valAt (word4 n) 0 = n := by
  simp only [valAt, word4, List.getD_cons_zero, List.getD_cons_succ, UInt8.toNat_ofNat']
  omega
theorem valAt_append_right (l m : List UInt8) (i : Nat) : valAt (l ++ m) (l.length + i) = valAt m i := by
  have h : ∀ k, (l ++ m).getD (l.length + k) 0 = m.getD k 0 := fun k => by
    simp only [List.getD]
    rw [List.getElem?_append_right (by omega)]
    congr 2; omega
  simp only [valAt, Nat.add_assoc, h]
theorem valAt_append_left (l m : List UInt8) (i : Nat) (hi : i + 4 ≤ l.length) : valAt (l ++ m) i = valAt l i := by
  have h : ∀ k, k < l.length → (l ++ m).getD k 0 = l.getD k 0 := fun k hk => by
    simp only [List.getD]
    rw [List.getElem?_append_left hk]
  simp only [valAt, h i (by omega), h (i + 1) (by omega), h (i + 2) (by omega), h (i + 3) (by omega)]
theorem word4_valAt (l : List UInt8) (i : Nat) (h : i + 4 ≤ l.length) : word4 (valAt l i) = (l.drop i).take 4 := by
  have e : (l.drop i).take 4 = [l.getD i 0, l.getD (i + 1) 0, l.getD (i + 2) 0, l.getD (i + 3) 0] := by
    apply List.ext_getElem?
    intro j
    rw [List.getElem?_take]
    by_cases hj : j < 4
    · rw [if_pos hj, List.getElem?_drop]
      have hl : i + j < l.length := by omega
      rw [List.getElem?_eq_getElem hl]
      have : j = 0 ∨ j = 1 ∨ j = 2 ∨ j = 3 := by omega
      rcases this with rfl | rfl | rfl | rfl
      · have hl0 : i < l.length := by omega
        simp [List.getD, hl0]
      all_goals simp [List.getD, hl]
    · rw [if_neg hj]
      match j, hj with
      | j + 4, _ => rfl
  rw [e]
  have h1 := u8_lt (l.getD i 0)
  have h2 := u8_lt (l.getD (i + 1) 0)
  have h3 := u8_lt (l.getD (i + 2) 0)
  have h4 := u8_lt (l.getD (i + 3) 0)
  have key : ∀ (n : Nat) (c : UInt8), n % 256 = c.toNat → UInt8.ofNat n = c := fun n c hh => by
    apply UInt8.toNat_inj.1
    rw [UInt8.toNat_ofNat']
    exact hh
  simp only [word4, valAt]
  rw [key _ (l.getD i 0) (by omega), key _ (l.getD (i + 1) 0) (by omega), key _ (l.getD (i + 2) 0) (by omega), key _ (l.getD (i + 3) 0) (by omega)]
/-- What is written. -/
def bodyL (l : List UInt8) (a b : Nat) : List UInt8 := 72 :: UInt8.ofNat l.length :: (l ++ word4 a ++ word4 b)
def codeL (l : List UInt8) (a b : Nat) : List UInt8 := bodyL l a b ++ word4 (crcN (bodyL l a b))
theorem bodyL_len (l : List UInt8) (a b : Nat) : (bodyL l a b).length = l.length + 10 := by simp [bodyL, word4_len]
theorem codeL_len (l : List UInt8) (a b : Nat) : (codeL l a b).length = l.length + 14 := by simp [codeL, bodyL_len, word4_len]
/-- What is read. -/
def frE (s : List UInt8) : Int :=
  if s.length < 2 then 8
  else if s.getD 0 0 = 72 ∧ 1 ≤ (s.getD 1 0).toNat ∧ (s.getD 1 0).toNat ≤ 8 then (if s.length < 14 + (s.getD 1 0).toNat then 8 else if 14 + (s.getD 1 0).toNat < s.length then 3 else 0)
  else 3
def bodyD (s : List UInt8) : List UInt8 := s.take (s.length - 4)
def endD (s : List UInt8) : List UInt8 := s.drop (s.length - 4)
def idD (s : List UInt8) : List UInt8 := ((bodyD s).take (s.length - 12)).drop 2
def incD (s : List UInt8) : Nat := valAt (bodyD s) (s.length - 12)
def seqD (s : List UInt8) : Nat := valAt (bodyD s) (s.length - 8)
def decE (s : List UInt8) : Int := if frE s = 0 then (if crcN (bodyD s) = valAt (endD s) 0 then (if chkE (idD s) (incD s) (seqD s) = 0 then 0 else 3) else 9) else frE s
theorem frE_0 {s : List UInt8} : frE s = 0 ↔ (2 ≤ s.length ∧ s.getD 0 0 = 72 ∧ 1 ≤ (s.getD 1 0).toNat ∧ (s.getD 1 0).toNat ≤ 8 ∧ s.length = 14 + (s.getD 1 0).toNat) := by
  unfold frE
  constructor
  · intro h
    split at h
    · cases h
    split at h
    · split at h
      · cases h
      · split at h
        · cases h
        · rename_i h1 h2 h3 h4
          exact ⟨by omega, h2.1, h2.2.1, h2.2.2, by omega⟩
    · cases h
  · rintro ⟨h1, h2, h3, h4, h5⟩
    rw [if_neg (by omega), if_pos ⟨h2, h3, h4⟩, if_neg (by omega), if_neg (by omega)]
theorem decE_0 {s : List UInt8} : decE s = 0 ↔ frE s = 0 ∧ crcN (bodyD s) = valAt (endD s) 0 ∧ chkE (idD s) (incD s) (seqD s) = 0 := by
  unfold decE
  constructor
  · intro h
    split at h
    · split at h
      · split at h
        · exact ⟨by assumption, by assumption, by assumption⟩
        · cases h
      · cases h
    · exact absurd h (by assumption)
  · rintro ⟨h1, h2, h3⟩
    rw [if_pos h1, if_pos h2, if_pos h3]
/-- What is read is written as it was. -/
theorem code_dec {s : List UInt8} (h : decE s = 0) : codeL (idD s) (incD s) (seqD s) = s := by
  obtain ⟨h1, h2, h3⟩ := decE_0.1 h
  obtain ⟨l1, l2, l3, l4, l5⟩ := frE_0.1 h1
  have hb : (bodyD s).length = s.length - 4 := by simp [bodyD]
  have hbody : bodyL (idD s) (incD s) (seqD s) = bodyD s := by
    have hid : (idD s).length = s.length - 14 := by simp [idD, hb]; omega
    have e1 : word4 (incD s) = ((bodyD s).drop (s.length - 12)).take 4 := word4_valAt _ _ (by omega)
    have e2 : word4 (seqD s) = (bodyD s).drop (s.length - 8) := by
      have := word4_valAt (bodyD s) (s.length - 8) (by omega)
      unfold seqD
      rw [this, List.take_of_length_le (by simp [hb]; omega)]
    have e3 : (bodyD s).take (s.length - 12) = 72 :: UInt8.ofNat (idD s).length :: idD s := by
      have hl : ((bodyD s).take (s.length - 12)).length = s.length - 12 := by simp [hb]; omega
      have g0 : (bodyD s).getD 0 0 = 72 := by
        rw [← l2]; simp only [bodyD, List.getD, List.getElem?_take, if_pos (show 0 < s.length - 4 by omega)]
      have g1 : (bodyD s).getD 1 0 = UInt8.ofNat (idD s).length := by
        have : (bodyD s).getD 1 0 = s.getD 1 0 := by simp only [bodyD, List.getD, List.getElem?_take, if_pos (show 1 < s.length - 4 by omega)]
        rw [this, hid, show s.length - 14 = (s.getD 1 0).toNat by omega, UInt8.ofNat_toNat]
      match hq : bodyD s, hb, g0, g1 with
      | x :: y :: r, hb, g0, g1 =>
        simp only [List.getD_cons_zero, List.getD_cons_succ] at g0 g1
        have hk : s.length - 12 = (s.length - 14) + 2 := by omega
        have hi : idD s = r.take (s.length - 14) := by
          unfold idD
          rw [hq, hk]
          rfl
        rw [hk, List.take_succ_cons, List.take_succ_cons, g0, g1, hi]
      | [x], hb, _, _ => simp at hb; omega
      | [], hb, _, _ => simp at hb; omega
    unfold bodyL
    rw [e1, e2]
    have e4 : (72 :: UInt8.ofNat (idD s).length :: (idD s ++ ((bodyD s).drop (s.length - 12)).take 4 ++ (bodyD s).drop (s.length - 8))) = (72 :: UInt8.ofNat (idD s).length :: idD s) ++ (((bodyD s).drop (s.length - 12)).take 4 ++ (bodyD s).drop (s.length - 8)) := by simp
    rw [e4, ← e3]
    have e5 : ((bodyD s).drop (s.length - 12)).take 4 ++ (bodyD s).drop (s.length - 8) = (bodyD s).drop (s.length - 12) := by
      have := List.take_append_drop 4 ((bodyD s).drop (s.length - 12))
      rw [List.drop_drop] at this
      rw [show s.length - 8 = s.length - 12 + 4 by omega]
      exact this
    rw [e5, List.take_append_drop]
  unfold codeL
  rw [hbody, h2]
  have e6 : word4 (valAt (endD s) 0) = endD s := by
    rw [word4_valAt _ _ (by simp [endD]; omega), List.drop_zero, List.take_of_length_le (by simp [endD]; omega)]
  rw [e6]
  exact List.take_append_drop _ _
/-- What is written is read as it was. -/
theorem codeL_0 (l : List UInt8) (a b : Nat) : (codeL l a b).getD 0 0 = 72 := rfl
theorem codeL_1 (l : List UInt8) (a b : Nat) (h : l.length ≤ 8) : ((codeL l a b).getD 1 0).toNat = l.length := by
  show (UInt8.ofNat l.length).toNat = l.length
  rw [UInt8.toNat_ofNat']; omega
theorem frE_code (l : List UInt8) (a b : Nat) (h : isIdB l = true) : frE (codeL l a b) = 0 := by
  have hl := isIdB_len h
  rw [frE_0, codeL_1 _ _ _ hl.2, codeL_len]
  exact ⟨by omega, rfl, hl.1, hl.2, by omega⟩
theorem bodyD_code (l : List UInt8) (a b : Nat) : bodyD (codeL l a b) = bodyL l a b := by
  unfold bodyD
  rw [codeL_len]
  unfold codeL
  rw [List.take_append_of_le_length (by rw [bodyL_len]; omega), List.take_of_length_le (by rw [bodyL_len]; omega)]
theorem endD_code (l : List UInt8) (a b : Nat) : endD (codeL l a b) = word4 (crcN (bodyL l a b)) := by
  unfold endD
  rw [codeL_len]
  unfold codeL
  rw [show l.length + 14 - 4 = (bodyL l a b).length by rw [bodyL_len]; omega, List.drop_left]
theorem idD_code (l : List UInt8) (a b : Nat) : idD (codeL l a b) = l := by
  unfold idD
  rw [bodyD_code, codeL_len, show l.length + 14 - 12 = l.length + 2 by omega]
  unfold bodyL
  simp [List.append_assoc]
theorem incD_code (l : List UInt8) (a b : Nat) (ha : a < 4294967296) : incD (codeL l a b) = a := by
  unfold incD
  rw [bodyD_code, codeL_len]
  have e : bodyL l a b = (72 :: UInt8.ofNat l.length :: l) ++ (word4 a ++ word4 b) := by simp [bodyL]
  rw [e, show l.length + 14 - 12 = (72 :: UInt8.ofNat l.length :: l).length + 0 by simp, valAt_append_right, valAt_append_left _ _ _ (by rw [word4_len]; omega), valAt_word4 a ha]
theorem seqD_code (l : List UInt8) (a b : Nat) (hb : b < 4294967296) : seqD (codeL l a b) = b := by
  unfold seqD
  rw [bodyD_code, codeL_len]
  have e : bodyL l a b = ((72 :: UInt8.ofNat l.length :: l) ++ word4 a) ++ word4 b := by simp [bodyL]
  rw [e, show l.length + 14 - 8 = ((72 :: UInt8.ofNat l.length :: l) ++ word4 a).length + 0 by simp [word4_len], valAt_append_right, valAt_word4 b hb]
theorem decE_code (l : List UInt8) (a b : Nat) (h : chkE l a b = 0) : decE (codeL l a b) = 0 := by
  have hh := chkE_0.1 h
  rw [decE_0, bodyD_code, endD_code, idD_code, incD_code _ _ _ (by omega), seqD_code _ _ _ (by omega)]
  exact ⟨frE_code _ _ _ hh.1, (valAt_word4 _ (crcN_lt _)).symm, h⟩
theorem code_inj {l l' : List UInt8} {a b a' b' : Nat} (ha : a < 4294967296) (hb : b < 4294967296) (ha' : a' < 4294967296) (hb' : b' < 4294967296) (h : codeL l a b = codeL l' a' b') : l = l' ∧ a = a' ∧ b = b' := by
  have h1 := congrArg idD h
  have h2 := congrArg incD h
  have h3 := congrArg seqD h
  rw [idD_code, idD_code] at h1
  rw [incD_code _ _ _ ha, incD_code _ _ _ ha'] at h2
  rw [seqD_code _ _ _ hb, seqD_code _ _ _ hb'] at h3
  exact ⟨h1, h2, h3⟩
/-- Cut off; with more behind it. -/
theorem decE_cut (l : List UInt8) (a b k : Nat) (h : isIdB l = true) (hk : k < l.length + 14) : decE ((codeL l a b).take k) = 8 := by
  have hl := isIdB_len h
  have hlen : ((codeL l a b).take k).length = k := by simp [codeL_len]; omega
  have h8 : frE ((codeL l a b).take k) = 8 := by
    unfold frE
    rw [hlen]
    by_cases h2 : k < 2
    · rw [if_pos h2]
    · have g0 : ((codeL l a b).take k).getD 0 0 = 72 := by
        simp only [List.getD, List.getElem?_take, if_pos (show 0 < k by omega)]; rfl
      have g1 : (((codeL l a b).take k).getD 1 0).toNat = l.length := by
        have := codeL_1 l a b hl.2
        simp only [List.getD, List.getElem?_take, if_pos (show 1 < k by omega)] at this ⊢
        exact this
      rw [if_neg h2, g0, g1, if_pos ⟨rfl, hl.1, hl.2⟩, if_pos (by omega)]
  rw [decE, h8, if_neg (by decide)]
theorem decE_more (l : List UInt8) (a b : Nat) (m : List UInt8) (h : isIdB l = true) (hm : m ≠ []) : decE (codeL l a b ++ m) = 3 := by
  have hl := isIdB_len h
  have hlen : 0 < m.length := List.length_pos_iff.2 hm
  have h3 : frE (codeL l a b ++ m) = 3 := by
    unfold frE
    have hL : (codeL l a b ++ m).length = l.length + 14 + m.length := by rw [List.length_append, codeL_len]
    have g0 : (codeL l a b ++ m).getD 0 0 = 72 := rfl
    have g1 : ((codeL l a b ++ m).getD 1 0).toNat = l.length := codeL_1 l a b hl.2
    rw [hL, g0, g1, if_neg (by omega), if_pos ⟨rfl, hl.1, hl.2⟩, if_neg (by omega), if_pos (by omega)]
  rw [decE, h3, if_neg (by decide)]
/-- Some bits turned. -/
theorem decE_burst (l : List UInt8) (a b p t : Nat) (h : isIdB l = true) (hp : p + 32 ≤ 8 * (l.length + 8)) (ht : t < 4294967296) (h0 : t ≠ 0) :
    decE ((codeL l a b).take 2 ++ burstK (((codeL l a b).take (l.length + 10)).drop 2) p t 32 ++ (codeL l a b).drop (l.length + 10)) = 9 := by
  have hl := isIdB_len h
  have hB : (codeL l a b).take (l.length + 10) = bodyL l a b := by
    have := bodyD_code l a b
    unfold bodyD at this
    rwa [codeL_len] at this
  have hE : (codeL l a b).drop (l.length + 10) = word4 (crcN (bodyL l a b)) := by
    have := endD_code l a b
    unfold endD at this
    rwa [codeL_len] at this
  have hT : (codeL l a b).take 2 = (bodyL l a b).take 2 := by rw [← hB, List.take_take, Nat.min_eq_left (by omega)]
  rw [hB, hE, hT]
  generalize hm : (bodyL l a b).drop 2 = m
  have hml : m.length = l.length + 8 := by rw [← hm]; simp [bodyL_len]
  have h2 : (bodyL l a b).take 2 = [72, UInt8.ofNat l.length] := rfl
  have hbod : bodyL l a b = [72, UInt8.ofNat l.length] ++ m := by rw [← h2, ← hm, List.take_append_drop]
  rw [h2]
  have hbl := burstK_len m p t 32
  have hS : ([72, UInt8.ofNat l.length] ++ burstK m p t 32 ++ word4 (crcN (bodyL l a b))).length = l.length + 14 := by simp [hbl, hml, word4_len]
  have hfr : frE ([72, UInt8.ofNat l.length] ++ burstK m p t 32 ++ word4 (crcN (bodyL l a b))) = 0 := by
    rw [frE_0, hS]
    have g1 : (([72, UInt8.ofNat l.length] ++ burstK m p t 32 ++ word4 (crcN (bodyL l a b))).getD 1 0).toNat = l.length := by
      show (UInt8.ofNat l.length).toNat = l.length
      rw [UInt8.toNat_ofNat']; omega
    rw [g1]
    exact ⟨by omega, rfl, hl.1, hl.2, by omega⟩
  have hbd : bodyD ([72, UInt8.ofNat l.length] ++ burstK m p t 32 ++ word4 (crcN (bodyL l a b))) = [72, UInt8.ofNat l.length] ++ burstK m p t 32 := by
    unfold bodyD
    rw [hS]
    rw [List.take_append_of_le_length (by simp [hbl, hml])]
    exact List.take_of_length_le (by simp [hbl, hml])
  have hed : endD ([72, UInt8.ofNat l.length] ++ burstK m p t 32 ++ word4 (crcN (bodyL l a b))) = word4 (crcN (bodyL l a b)) := by
    unfold endD
    rw [hS, show l.length + 14 - 4 = ([72, UInt8.ofNat l.length] ++ burstK m p t 32).length by simp [hbl, hml], List.drop_left]
  rw [decE, if_pos hfr, hbd, hed, valAt_word4 _ (crcN_lt _), if_neg]
  rw [hbod]
  unfold crcN
  rw [crcR_append, crcR_append]
  intro hh
  exact crcR_burst _ m (by omega) ht h0 (xor_cancel hh)
end Go.Proofs.Ytgklfolmlcfjgaa
