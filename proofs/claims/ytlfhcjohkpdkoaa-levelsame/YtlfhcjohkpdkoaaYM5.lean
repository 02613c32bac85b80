/- The least and the greatest of a list; bounds of the spread. -/
import Derived.Test.YtlfhcjohkpdkoaaYS5
namespace Go.Proofs.Ytlfhcjohkpdkoaa
open Go.ChangeShapes Go.WideShapes Go.ChangeAt Go.RowKit Go.Joins Y
set_option linter.unusedSimpArgs false
set_option linter.unusedVariables false
set_option maxRecDepth 100000
set_option maxHeartbeats 40000000
theorem foldl_min : ∀ (l : List Int) (a : Int), (l.foldl (fun a b => if b < a then b else a) a = a ∨ l.foldl (fun a b => if b < a then b else a) a ∈ l) ∧ l.foldl (fun a b => if b < a then b else a) a ≤ a ∧ ∀ x ∈ l, l.foldl (fun a b => if b < a then b else a) a ≤ x
  | [], a => by simp
  | y :: l, a => by
    obtain ⟨h1, h2, h3⟩ := foldl_min l (if y < a then y else a)
    simp only [List.foldl_cons]
    have hle : (if y < a then y else a) ≤ y ∧ (if y < a then y else a) ≤ a ∧ ((if y < a then y else a) = y ∨ (if y < a then y else a) = a) := by split <;> omega
    refine ⟨?_, by omega, fun x hx => ?_⟩
    · rcases h1 with h1 | h1
      · rcases hle.2.2 with h | h
        · right; rw [h1, h]; exact List.mem_cons_self ..
        · left; rw [h1, h]
      · right; exact List.mem_cons_of_mem _ h1
    · rcases List.mem_cons.1 hx with rfl | hx
      · omega
      · exact h3 x hx
theorem foldl_max : ∀ (l : List Int) (a : Int), (l.foldl (fun a b => if b > a then b else a) a = a ∨ l.foldl (fun a b => if b > a then b else a) a ∈ l) ∧ a ≤ l.foldl (fun a b => if b > a then b else a) a ∧ ∀ x ∈ l, x ≤ l.foldl (fun a b => if b > a then b else a) a
  | [], a => by simp
  | y :: l, a => by
    obtain ⟨h1, h2, h3⟩ := foldl_max l (if y > a then y else a)
    simp only [List.foldl_cons]
    have hle : y ≤ (if y > a then y else a) ∧ a ≤ (if y > a then y else a) ∧ ((if y > a then y else a) = y ∨ (if y > a then y else a) = a) := by split <;> omega
    refine ⟨?_, by omega, fun x hx => ?_⟩
    · rcases h1 with h1 | h1
      · rcases hle.2.2 with h | h
        · right; rw [h1, h]; exact List.mem_cons_self ..
        · left; rw [h1, h]
      · right; exact List.mem_cons_of_mem _ h1
    · rcases List.mem_cons.1 hx with rfl | hx
      · omega
      · exact h3 x hx
theorem minL_spec {l : List Int} (h : l ≠ []) : minL l ∈ l ∧ ∀ x ∈ l, minL l ≤ x := by
  cases l with
  | nil => exact absurd rfl h
  | cons y l =>
    obtain ⟨h1, h2, h3⟩ := foldl_min l y
    refine ⟨?_, fun x hx => ?_⟩
    · rcases h1 with h1 | h1
      · rw [minL, h1]; exact List.mem_cons_self ..
      · exact List.mem_cons_of_mem _ h1
    · rcases List.mem_cons.1 hx with rfl | hx
      · exact h2
      · exact h3 x hx
theorem maxL_spec {l : List Int} (h : l ≠ []) : maxL l ∈ l ∧ ∀ x ∈ l, x ≤ maxL l := by
  cases l with
  | nil => exact absurd rfl h
  | cons y l =>
    obtain ⟨h1, h2, h3⟩ := foldl_max l y
    refine ⟨?_, fun x hx => ?_⟩
    · rcases h1 with h1 | h1
      · rw [maxL, h1]; exact List.mem_cons_self ..
      · exact List.mem_cons_of_mem _ h1
    · rcases List.mem_cons.1 hx with rfl | hx
      · exact h2
      · exact h3 x hx
theorem sum_nonneg {f : Int → Int} : ∀ {l : List Int}, (∀ x ∈ l, 0 ≤ f x) → 0 ≤ (l.map f).sum
  | [], _ => by simp
  | x :: l, h => by
    have h1 := h x (List.mem_cons_self ..)
    have h2 := sum_nonneg (l := l) fun y hy => h y (List.mem_cons_of_mem _ hy)
    simp only [List.map_cons, List.sum_cons]; omega
theorem sum_mem {f : Int → Int} : ∀ {l : List Int} {x : Int}, (∀ x ∈ l, 0 ≤ f x) → x ∈ l → f x ≤ (l.map f).sum
  | [], x, _, hx => by cases hx
  | y :: l, x, h, hx => by
    have h1 := h y (List.mem_cons_self ..)
    have h2 := sum_nonneg (f := f) (l := l) fun z hz => h z (List.mem_cons_of_mem _ hz)
    simp only [List.map_cons, List.sum_cons]
    rcases List.mem_cons.1 hx with rfl | hx
    · omega
    · have := sum_mem (f := f) (fun z hz => h z (List.mem_cons_of_mem _ hz)) hx; omega
/-- Two members that are not the same. -/
theorem sum_two {f : Int → Int} : ∀ {l : List Int} {x y : Int}, (∀ x ∈ l, 0 ≤ f x) → x ∈ l → y ∈ l → x ≠ y → f x + f y ≤ (l.map f).sum
  | [], x, _, _, hx, _, _ => by cases hx
  | z :: l, x, y, h, hx, hy, hne => by
    have h1 := h z (List.mem_cons_self ..)
    have hl : ∀ z ∈ l, 0 ≤ f z := fun z hz => h z (List.mem_cons_of_mem _ hz)
    simp only [List.map_cons, List.sum_cons]
    rcases List.mem_cons.1 hx with rfl | hx'
    · rcases List.mem_cons.1 hy with rfl | hy'
      · exact absurd rfl hne
      · have := sum_mem hl hy'; omega
    · rcases List.mem_cons.1 hy with rfl | hy'
      · have := sum_mem hl hx'; omega
      · have := sum_two hl hx' hy' hne; omega
theorem sum_lin (f : Int → Int) (a b c : Int) (hf : ∀ x, f x = a * (x * x) + b * x + c) : ∀ l : List Int, (l.map f).sum = a * sqL l + b * sumL l + c * l.length
  | [] => by simp [sqL, sumL]
  | x :: l => by
    have := sum_lin f a b c hf l
    simp only [List.map_cons, List.sum_cons, this, hf, sqL_cons, sumL_cons, List.length_cons, Int.natCast_add, Int.natCast_one]
    grind
/-- Bhatia, Davis. -/
theorem bhatia {l : List Int} {lo hi : Int} (h : ∀ x ∈ l, lo ≤ x ∧ x ≤ hi) : l.length * sqL l - sumL l * sumL l ≤ (l.length * hi - sumL l) * (sumL l - l.length * lo) := by
  have h1 := sum_nonneg (f := fun x => (hi - x) * (x - lo)) fun x hx => Int.mul_nonneg (by have := h x hx; omega) (by have := h x hx; omega)
  rw [sum_lin (fun x => (hi - x) * (x - lo)) (-1) (hi + lo) (-(hi * lo)) (fun x => by grind)] at h1
  have h2 := Int.mul_nonneg (show (0 : Int) ≤ l.length by omega) h1
  grind
theorem popoviciu {l : List Int} {lo hi : Int} (h : ∀ x ∈ l, lo ≤ x ∧ x ≤ hi) : 4 * (l.length * sqL l - sumL l * sumL l) ≤ l.length * l.length * (hi - lo) * (hi - lo) := by
  have h1 := bhatia h
  have h2 := sq_nonneg ((l.length * hi - sumL l) - (sumL l - l.length * lo))
  grind
theorem nagy {l : List Int} {lo hi : Int} (hlo : lo ∈ l) (hhi : hi ∈ l) : l.length * (hi - lo) * (hi - lo) ≤ 2 * (l.length * sqL l - sumL l * sumL l) := by
  by_cases he : hi = lo
  · subst he
    have := pairL_nonneg l
    rw [← lagrange] at this
    simp; omega
  · have h1 := sum_two (f := fun x => (l.length * x - sumL l) * (l.length * x - sumL l)) (fun x _ => sq_nonneg _) hhi hlo he
    rw [sum_lin (fun x => (l.length * x - sumL l) * (l.length * x - sumL l)) (l.length * l.length) (-(2 * l.length * sumL l)) (sumL l * sumL l) (fun x => by grind)] at h1
    have h2 := sq_nonneg ((l.length * hi - sumL l) + (l.length * lo - sumL l))
    have hk : (0 : Int) < l.length := by
      have := List.length_pos_of_mem hlo
      omega
    refine Int.le_of_mul_le_mul_left (a := (l.length : Int)) ?_ hk
    grind
end Go.Proofs.Ytlfhcjohkpdkoaa
