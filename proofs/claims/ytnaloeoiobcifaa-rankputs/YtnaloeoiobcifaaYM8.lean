/- What is put among values that rise, and cut again. -/
import Derived.Test.YtnaloeoiobcifaaYR7
namespace Go.Proofs.Ytnaloeoiobcifaa
open Go.ChangeShapes Go.WideShapes Go.ChangeAt Go.RowKit Go.Joins Y
set_option linter.unusedSimpArgs false
set_option linter.unusedVariables false
set_option maxRecDepth 100000
set_option maxHeartbeats 40000000
theorem lowN_cons (y : Int) (l : List Int) (n : Int) : lowN (y :: l) n = lowN l n + if y < n then 1 else 0 := by
  simp [lowN, List.countP_cons]
theorem ins_lt {y n : Int} (h : y < n) (l : List Int) : insL (y :: l) n = y :: insL l n := by
  simp [insL, lowN_cons, h]
theorem ins_ge {y n : Int} {l : List Int} (hs : (y :: l).Pairwise (· ≤ ·)) (h : n ≤ y) : insL (y :: l) n = n :: y :: l := by
  have h0 : lowN (y :: l) n = 0 := List.countP_eq_zero.2 fun z hz => by
    rcases List.mem_cons.1 hz with rfl | hz
    · simp; omega
    · have := (List.pairwise_cons.1 hs).1 z hz
      simp; omega
  simp [insL, h0]
theorem ins_perm (l : List Int) (n : Int) : (insL l n).Perm (n :: l) := by
  have h := List.perm_middle (a := n) (l₁ := l.take (lowN l n)) (l₂ := l.drop (lowN l n))
  rw [List.take_append_drop] at h
  exact h
theorem ins_sorted {n : Int} : ∀ {l : List Int}, l.Pairwise (· ≤ ·) → (insL l n).Pairwise (· ≤ ·)
  | [], _ => by simp [insL]
  | y :: l, hs => by
    by_cases h : y < n
    · rw [ins_lt h]
      refine List.pairwise_cons.2 ⟨fun z hz => ?_, ins_sorted (List.pairwise_cons.1 hs).2⟩
      rcases List.mem_cons.1 ((ins_perm l n).mem_iff.1 hz) with rfl | hz
      · omega
      · exact (List.pairwise_cons.1 hs).1 z hz
    · rw [ins_ge hs (by omega)]
      refine List.pairwise_cons.2 ⟨fun z hz => ?_, hs⟩
      rcases List.mem_cons.1 hz with rfl | hz
      · omega
      · have := (List.pairwise_cons.1 hs).1 z hz; omega
theorem ins_len (l : List Int) (n : Int) : (insL l n).length = l.length + 1 := by
  have := (ins_perm l n).length_eq
  simpa using this
theorem ins_sortL {l : List Int} (hs : l.Pairwise (· ≤ ·)) (n : Int) : insL l n = sortL (n :: l) := (sortL_eq (ins_perm l n) (ins_sorted hs)).symm
theorem cut_ins (l : List Int) (n : Int) : cutL (insL l n) n = l := by
  have h1 : lowN (insL l n) n = lowN l n := by
    unfold lowN
    rw [(ins_perm l n).countP_eq]
    simp
  have h2 := lowN_le l n
  have h3 : (l.take (lowN l n)).length = lowN l n := by simp; omega
  unfold cutL
  rw [h1]
  unfold insL
  rw [List.take_append_of_le_length (by omega), List.drop_append, h3]
  rw [List.take_of_length_le (by omega), List.drop_eq_nil_of_le (by omega)]
  simp
theorem ins_listE {l : List Int} {n : Int} (hl : listE l = 0) (h : l.length ≤ 63) (hn : 0 ≤ n ∧ n ≤ 16777216) : listE (insL l n) = 0 := by
  obtain ⟨_, hv⟩ := listE_0.1 hl
  refine listE_0.2 ⟨by rw [ins_len]; omega, fun x hx => ?_⟩
  rcases List.mem_cons.1 ((ins_perm l n).mem_iff.1 hx) with rfl | hx
  · exact hn
  · exact hv x hx
end Go.Proofs.Ytnaloeoiobcifaa
