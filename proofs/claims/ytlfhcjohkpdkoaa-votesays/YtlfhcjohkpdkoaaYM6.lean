/- Lists that are turned, moved, stretched. -/
import Derived.Test.YtlfhcjohkpdkoaaYM5
namespace Go.Proofs.Ytlfhcjohkpdkoaa
open Go.ChangeShapes Go.WideShapes Go.ChangeAt Go.RowKit Go.Joins Y
set_option linter.unusedSimpArgs false
set_option linter.unusedVariables false
set_option maxRecDepth 100000
set_option maxHeartbeats 40000000
theorem map_take {α : Type} {f : Int → α} {l : List Int} {i : Nat} (h : i < l.length) : (l.take (i + 1)).map f = (l.take i).map f ++ [f (l.getD i 0)] := by
  rw [take_snoc h, List.map_append]; rfl
/-- Turned by T places. -/
def turnL (l : List Int) (T : Nat) : List Int := (List.range l.length).map fun i => l.getD ((i + T) % l.length) 0
theorem turnL_len (l : List Int) (T : Nat) : (turnL l T).length = l.length := by simp [turnL]
theorem turnL_eq {l : List Int} {T : Nat} (h : T < l.length) : turnL l T = l.drop T ++ l.take T := by
  apply List.ext_getElem
  · simp [turnL]; omega
  · intro i h1 h2
    simp only [turnL, List.length_map, List.length_range] at h1
    simp only [turnL, List.getElem_map, List.getElem_range]
    rw [List.getElem_append]
    by_cases hi : i + T < l.length
    · have : i < (l.drop T).length := by simp; omega
      rw [dif_pos this, List.getElem_drop, Nat.mod_eq_of_lt hi, List.getD_eq_getElem?_getD, List.getElem?_eq_getElem hi]
      simp [Nat.add_comm]
    · have h3 : ¬ i < (l.drop T).length := by simp; omega
      have h4 : (i + T) % l.length = i + T - l.length := by
        rw [Nat.mod_eq_sub_mod (by omega), Nat.mod_eq_of_lt (by omega)]
      have h5 : i + T - l.length < l.length := by omega
      rw [dif_neg h3, List.getElem_take, h4, List.getD_eq_getElem?_getD, List.getElem?_eq_getElem h5]
      simp only [Option.getD_some]
      congr 1
      simp; omega
theorem turnL_take {l : List Int} {T i : Nat} (h : i < l.length) : (turnL l T).take (i + 1) = (turnL l T).take i ++ [l.getD ((i + T) % l.length) 0] := by
  have h' : i < (turnL l T).length := by rw [turnL_len]; exact h
  rw [take_snoc h']
  congr 2
  simp [turnL, List.getD_eq_getElem?_getD, h]
theorem turnL_sum {l : List Int} {T : Nat} (h : T < l.length) : sumL (turnL l T) = sumL l ∧ sqL (turnL l T) = sqL l := by
  have e : ∀ f : Int → Int, ((turnL l T).map f).sum = (l.map f).sum := fun f => by
    have := congrArg (fun m => (m.map f).sum) (List.take_append_drop T l)
    rw [turnL_eq h]
    simp only [List.map_append, List.sum_append] at this ⊢
    omega
  exact ⟨e _, e _⟩
theorem moved_sum (b : Int) : ∀ l : List Int, sumL (l.map fun x => x + b) = sumL l + l.length * b ∧ sqL (l.map fun x => x + b) = sqL l + 2 * b * sumL l + l.length * (b * b)
  | [] => by simp [sumL, sqL]
  | x :: l => by
    obtain ⟨h1, h2⟩ := moved_sum b l
    rw [List.map_cons, sumL_cons, sqL_cons, sumL_cons, sqL_cons, h1, h2, List.length_cons, Int.natCast_add, Int.natCast_one]
    constructor <;> grind
theorem times_sum (b : Int) : ∀ l : List Int, sumL (l.map fun x => x * b) = sumL l * b ∧ sqL (l.map fun x => x * b) = sqL l * (b * b)
  | [] => by simp [sumL, sqL]
  | x :: l => by
    obtain ⟨h1, h2⟩ := times_sum b l
    rw [List.map_cons, sumL_cons, sqL_cons, sumL_cons, sqL_cons, h1, h2]
    constructor <;> grind
end Go.Proofs.Ytlfhcjohkpdkoaa
