/- How many are far: Markov, Chebyshev; sums of distances. -/
import Derived.Test.YtlfhcjohkpdkoaaYT4
namespace Go.Proofs.Ytlfhcjohkpdkoaa
open Go.ChangeShapes Go.WideShapes Go.ChangeAt Go.RowKit Go.Joins Y
set_option linter.unusedSimpArgs false
set_option linter.unusedVariables false
set_option maxRecDepth 100000
set_option maxHeartbeats 40000000
/-- Values, as the statements make them. -/
theorem vals_all (l : List Int) : listE (valsL l) = 0 ∧ ofV (valsL l) = sv3 (valsL l).length (sumL (valsL l)) (sqL (valsL l)) ∧ checkE (valsL l).length (sumL (valsL l)) (sqL (valsL l)) = 0 ∧ (valsL l).length ≤ 64 ∧ ∀ x ∈ valsL l, 0 ≤ x ∧ x ≤ 16777216 :=
  ⟨valsL_ok l, ofV_0 (valsL_ok l), check_of (valsL_ok l), (listE_0.1 (valsL_ok l)).1, (listE_0.1 (valsL_ok l)).2⟩
theorem cnt_gen {p : Int → Bool} {f : Int → Int} {B : Int} : ∀ {l : List Int}, (∀ x ∈ l, 0 ≤ f x ∧ (p x = true → B ≤ f x)) → (l.countP p : Int) * B ≤ (l.map f).sum
  | [], _ => by simp
  | x :: l, h => by
    have h1 := h x (List.mem_cons_self ..)
    have h2 := cnt_gen (p := p) (f := f) (B := B) (l := l) fun y hy => h y (List.mem_cons_of_mem _ hy)
    rw [List.countP_cons, List.map_cons, List.sum_cons]
    cases hp : p x with
    | true =>
      have := h1.2 hp
      simp only [if_true, Int.natCast_add, Int.natCast_one, Int.add_mul, Int.one_mul]
      omega
    | false => simp; omega
theorem markov_le {l : List Int} {t : Int} (h : ∀ x ∈ l, 0 ≤ x) (ht : 1 ≤ t) : (cntL l t : Int) ≤ sumL l / t := by
  rw [Int.le_ediv_iff_mul_le (by omega)]
  exact cnt_gen (f := fun x => x) fun x hx => ⟨h x hx, fun hp => by simpa using hp⟩
theorem cnt_anti (l : List Int) {t u : Int} (h : t ≤ u) : cntL l u ≤ cntL l t := by
  unfold cntL
  exact List.countP_mono_left fun x _ hx => by simp at hx ⊢; omega
theorem div_anti {S t u : Int} (hS : 0 ≤ S) (ht : 1 ≤ t) (h : t ≤ u) : S / u ≤ S / t := by
  rw [Int.le_ediv_iff_mul_le (by omega)]
  have h1 := Int.ediv_mul_le S (show u ≠ 0 by omega)
  have h2 := Int.ediv_nonneg hS (show 0 ≤ u by omega)
  have h3 := Int.mul_le_mul_of_nonneg_left h h2
  omega
def chebP (K S D x : Int) : Bool := decide (K * D ≤ (if 0 - (K * x - S) > K * x - S then 0 - (K * x - S) else K * x - S))
theorem cheb_le {l : List Int} {D : Int} (hD : 1 ≤ D) (hl : 0 < l.length) : (l.countP (chebP l.length (sumL l) D) : Int) ≤ (l.length * sqL l - sumL l * sumL l) / l.length / (D * D) := by
  have hk : (0 : Int) < l.length := by omega
  have hDD : 0 < D * D := Int.mul_pos (by omega) (by omega)
  rw [Int.le_ediv_iff_mul_le hDD, Int.le_ediv_iff_mul_le hk]
  have h := cnt_gen (p := chebP l.length (sumL l) D) (f := fun x => (l.length * x - sumL l) * (l.length * x - sumL l)) (B := (l.length * D) * (l.length * D)) (l := l) fun x hx => ⟨sq_nonneg _, fun hp => by
    have hKD : 0 ≤ l.length * D := Int.mul_nonneg (by omega) (by omega)
    simp only [chebP, decide_eq_true_eq] at hp
    split at hp
    · have h1 := Int.mul_le_mul hp hp hKD (by omega)
      have e : (0 - (l.length * x - sumL l)) * (0 - (l.length * x - sumL l)) = (l.length * x - sumL l) * (l.length * x - sumL l) := by grind
      omega
    · exact Int.mul_le_mul hp hp hKD (by omega)⟩
  rw [sum_lin (fun x => (l.length * x - sumL l) * (l.length * x - sumL l)) (l.length * l.length) (-(2 * l.length * sumL l)) (sumL l * sumL l) (fun x => by grind)] at h
  refine Int.le_of_mul_le_mul_left (a := (l.length : Int)) ?_ hk
  grind
theorem cheb_take {p : Int → Bool} {l : List Int} {i : Nat} (h : i < l.length) : (l.take (i + 1)).countP p = (l.take i).countP p + if p (l.getD i 0) = true then 1 else 0 := by
  rw [take_snoc h, List.countP_append]
  simp [List.countP_cons]
theorem dist_tri (a b v : Int) : distI a b ≤ distI a v + distI b v := by unfold distI; split <;> split <;> split <;> omega
theorem distL_tri (a b : Int) : ∀ l : List Int, l.length * distI a b ≤ distL l a + distL l b
  | [] => by simp [distL]
  | v :: l => by
    have h := distL_tri a b l
    have h1 := dist_tri a b v
    simp only [distL, List.map_cons, List.sum_cons, List.length_cons, Int.natCast_add, Int.natCast_one, Int.add_mul, Int.one_mul] at h ⊢
    omega
theorem distL_next (a : Int) : ∀ l : List Int, distL l (a + 1) - distL l a ≤ l.length ∧ distL l a - distL l (a + 1) ≤ l.length
  | [] => by simp [distL]
  | v :: l => by
    have h := distL_next a l
    have h1 : distI (a + 1) v - distI a v ≤ 1 ∧ distI a v - distI (a + 1) v ≤ 1 := by unfold distI; split <;> split <;> omega
    simp only [distL, List.map_cons, List.sum_cons, List.length_cons, Int.natCast_add, Int.natCast_one] at h ⊢
    omega
end Go.Proofs.Ytlfhcjohkpdkoaa
