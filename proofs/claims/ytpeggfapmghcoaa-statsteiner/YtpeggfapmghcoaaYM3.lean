/- Sums of lists of whole numbers: what is plain of them. -/
import Derived.Test.YtpeggfapmghcoaaYS2
namespace Go.Proofs.Ytpeggfapmghcoaa
def farL (l : List Int) (c : Int) : Int := (l.map fun x => (x - c) * (x - c)).sum
theorem sumL_cons (x : Int) (l : List Int) : sumL (x :: l) = x + sumL l := by simp [sumL]
theorem sqL_cons (x : Int) (l : List Int) : sqL (x :: l) = x * x + sqL l := by simp [sqL]
theorem farL_cons (x : Int) (l : List Int) (c : Int) : farL (x :: l) c = (x - c) * (x - c) + farL l c := by simp [farL]
theorem farL_eq (c : Int) : ∀ l : List Int, farL l c = sqL l - 2 * c * sumL l + l.length * (c * c)
  | [] => by simp [farL, sqL, sumL]
  | x :: l => by
    rw [farL_cons, farL_eq c l, sumL_cons, sqL_cons, List.length_cons, Int.natCast_add, Int.natCast_one]
    grind
theorem sq_nonneg (x : Int) : 0 ≤ x * x := by
  rcases Int.le_total 0 x with h | h
  · exact Int.mul_nonneg h h
  · exact Int.mul_nonneg_of_nonpos_of_nonpos h h
theorem farL_nonneg (c : Int) : ∀ l : List Int, 0 ≤ farL l c
  | [] => by simp [farL]
  | x :: l => by
    rw [farL_cons]
    have := farL_nonneg c l
    have := sq_nonneg (x - c)
    omega
/-- The sum of the squares of all differences. -/
def pairL : List Int → Int
  | [] => 0
  | x :: l => farL l x + pairL l
theorem lagrange : ∀ l : List Int, l.length * sqL l - sumL l * sumL l = pairL l
  | [] => by simp [sqL, sumL, pairL]
  | x :: l => by
    rw [pairL, ← lagrange l, farL_eq, sumL_cons, sqL_cons, List.length_cons, Int.natCast_add, Int.natCast_one]
    grind
theorem pairL_nonneg : ∀ l : List Int, 0 ≤ pairL l
  | [] => by simp [pairL]
  | x :: l => by
    rw [pairL]
    have := pairL_nonneg l
    have := farL_nonneg x l
    omega
theorem sum_le_sum {f g : Int → Int} : ∀ {l : List Int}, (∀ x ∈ l, f x ≤ g x) → (l.map f).sum ≤ (l.map g).sum
  | [], _ => by simp
  | x :: l, h => by
    have h1 := h x (List.mem_cons_self ..)
    have h2 := sum_le_sum (l := l) fun y hy => h y (List.mem_cons_of_mem _ hy)
    simp only [List.map_cons, List.sum_cons]
    omega
theorem sum_mul (l : List Int) (k : Int) : (l.map fun x => x * k).sum = sumL l * k := by
  induction l with
  | nil => simp [sumL]
  | cons x l ih => simp only [List.map_cons, List.sum_cons, ih, sumL_cons, Int.add_mul]
/-- Sums of values may be sums. -/
theorem check_of {l : List Int} (h : listE l = 0) : checkE l.length (sumL l) (sqL l) = 0 := by
  obtain ⟨h64, hv⟩ := listE_0.1 h
  have hs := sum_bd (f := fun x => x) (B := 16777216) hv
  have hq1 : sumL l ≤ sqL l := sum_le_sum fun x hx => by
    have := hv x hx
    have h2 := mul_bd (x := x) (y := x - 1) (X := 16777216) (Y := 16777216) this.1 this.2
    by_cases h0 : x = 0
    · subst h0; simp
    · have h3 := (h2 (by omega) (by omega)).1
      rw [Int.mul_sub, Int.mul_one] at h3
      omega
  have hq2 : sqL l ≤ sumL l * 16777216 := by
    rw [← sum_mul]
    exact sum_le_sum fun x hx => by
      have := hv x hx
      exact Int.mul_le_mul_of_nonneg_left this.2 this.1
  have hp := pairL_nonneg l
  rw [← lagrange] at hp
  have hs' : 0 ≤ sumL l ∧ sumL l ≤ l.length * 16777216 := hs
  unfold checkE
  rw [if_neg (by omega), if_neg (by omega), if_neg (by omega), if_neg (by omega)]
end Go.Proofs.Ytpeggfapmghcoaa
