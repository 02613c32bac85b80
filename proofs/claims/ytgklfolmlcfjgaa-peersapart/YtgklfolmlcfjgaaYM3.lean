/- Sums of lists of whole numbers: what is plain of them. -/
import Derived.Test.YtgklfolmlcfjgaaYS2
namespace Go.Proofs.Ytgklfolmlcfjgaa
def farL (l : List Int) (c : Int) : Int := (l.map fun x => (x - c) * (x - c)).sum
theorem sumL_cons (x : Int) (l : List Int) : sumL (x :: l) = x + sumL l := by simp [sumL]
theorem sqL_cons (x : Int) (l : List Int) : sqL (x :: l) = x * x + sqL l := by simp [sqL]
theorem farL_cons (x : Int) (l : List Int) (c : Int) : farL (x :: l) c = (x - c) * (x - c) + farL l c := by simp [farL]
theorem farL_eq (c : Int) : ∀ l : List Int, farL l c = sqL l - 2 * c * sumL l + l.length * (c * c)
  | [] => by simp [farL, sqL, sumL]
  | x :: l => by
    rw [farL_cons, farL_eq c l, sumL_cons, sqL_cons, List.length_cons, Int.natCast_add, Int.natCast_one]
    grind
theorem sq_nonneg (x : Int) : 0 ≤ x * x := by
  rcases Int.le_total 0 x with h | h
  · exact Int.mul_nonneg h h
  · exact Int.mul_nonneg_of_nonpos_of_nonpos h h
theorem farL_nonneg (c : Int) : ∀ l : List Int, 0 ≤ farL l c
  | [] => by simp [farL]
  | x :: l => by
    rw [farL_cons]
    have := farL_nonneg c l
    have := sq_nonneg (x - c)
    omega
/-- The sum of the squares of all differences. -/
def pairL : List Int → Int
  | [] => 0
  | x :: l => farL l x + pairL l
theorem lagrange : ∀ l : List Int, l.length * sqL l - sumL l * sumL l = pairL l
  | [] => by simp [sqL, sumL, pairL]
  | x :: l => by
    rw [pairL, ← lagrange l, farL_eq, sumL_cons, sqL_cons, List.length_cons, Int.natCast_add, Int.natCast_one]
    grind
theorem pairL_nonneg : ∀ l : List Int, 0 ≤ pairL l
  | [] => by simp [pairL]
  | x :: l => by
    rw [pairL]
    have := pairL_nonneg l
    have := farL_nonneg x l
    omega
theorem sum_le_sum {f g : Int → Int} : ∀ {l : List Int}, (∀ x ∈ l, f x ≤ g x) → (l.map f).sum ≤ (l.map g).sum
  | [], _ => by simp
  | x :: l, h => by
    have h1 := h x (List.mem_cons_self ..)
    have h2 := sum_le_sum (l := l) fun y hy => h y (List.mem_cons_of_mem _ hy)
    simp only [List.map_cons, List.sum_cons]
    omega
theorem sum_mul (l : List Int) (k : Int) : (l.map fun x => x * k).sum = sumL l * k := by
  induction l with
  | nil => simp [sumL]
  | cons x l ih => simp only [List.map_cons, List.sum_cons, ih, sumL_cons, Int.add_mul]
/-- Sums of values may be sums. -/
theorem check_of {l : List Int} (h : listE l = 0) : checkE l.length (sumL l) (sqL l) = 0 := by
  obtain ⟨h64, hv⟩ := listE_0.1 h
  have hs := sum_bd (f := fun x => x) (B := 16777216) hv
  have hq1 : sumL l ≤ sqL l := sum_le_sum fun x hx => by
    have := hv x hx
    have h2 := mul_bd (x := x) (y := x - 1) (X := 16777216) (Y := 16777216) this.1 this.2
    by_cases h0 : x = 0
    · subst h0; simp
    · have h3 := (h2 (by omega) (by omega)).1
      rw [Int.mul_sub, Int.mul_one] at h3
      omega
  have hq2 : sqL l ≤ sumL l * 16777216 := by
    rw [← sum_mul]
    exact sum_le_sum fun x hx => by
      have := hv x hx
      exact Int.mul_le_mul_of_nonneg_left this.2 this.1
  have hp := pairL_nonneg l
  rw [← lagrange] at hp
  have hs' : 0 ≤ sumL l ∧ sumL l ≤ l.length * 16777216 := hs
  unfold checkE
  rw [if_neg (by omega), if_neg (by omega), if_neg (by omega), if_neg (by omega)]
theorem farL_snoc (l : List Int) (x c : Int) : farL (l ++ [x]) c = farL l c + (x - c) * (x - c) := by simp [farL]
theorem pairL_snoc (x : Int) : ∀ l : List Int, pairL (l ++ [x]) = pairL l + farL l x
  | [] => by simp [pairL, farL]
  | y :: l => by
    rw [List.cons_append, pairL, pairL, farL_snoc, pairL_snoc x l, farL_cons]
    grind
theorem pairL_take {l : List Int} {i : Nat} (h : i < l.length) : pairL (l.take (i + 1)) = pairL (l.take i) + farL (l.take i) (l.getD i 0) := by
  rw [take_snoc h, pairL_snoc]
theorem farL_take {l : List Int} {i : Nat} (h : i < l.length) (c : Int) : farL (l.take (i + 1)) c = farL (l.take i) c + (l.getD i 0 - c) * (l.getD i 0 - c) := by
  rw [take_snoc h, farL_snoc]
theorem getD_take {l : List Int} {i k : Nat} (h : k < i) : (l.take i).getD k 0 = l.getD k 0 := by
  rw [List.getD_eq_getElem?_getD, List.getD_eq_getElem?_getD, List.getElem?_take, if_pos h]
/-- Values: how far they are from one. -/
theorem farL_bd {l : List Int} (hv : ∀ x ∈ l, 0 ≤ x ∧ x ≤ 16777216) {d : Int} (hd : 0 ≤ d ∧ d ≤ 16777216) : 0 ≤ farL l d ∧ farL l d ≤ l.length * 281474976710656 :=
  sum_bd (f := fun x => (x - d) * (x - d)) (B := 281474976710656) fun x hx => by
    have hx' := hv x hx
    refine ⟨sq_nonneg _, ?_⟩
    rcases Int.le_total 0 (x - d) with h | h
    · have := mul_bd h (show x - d ≤ 16777216 by omega) h (show x - d ≤ 16777216 by omega); omega
    · have := mul_bd (show 0 ≤ d - x by omega) (show d - x ≤ 16777216 by omega) (show 0 ≤ d - x by omega) (show d - x ≤ 16777216 by omega)
      have e : (x - d) * (x - d) = (d - x) * (d - x) := by grind
      omega
theorem pairL_bd {l : List Int} (h64 : l.length ≤ 64) (hv : ∀ x ∈ l, 0 ≤ x ∧ x ≤ 16777216) : 0 ≤ pairL l ∧ pairL l ≤ 1152921504606846976 := by
  refine ⟨pairL_nonneg l, ?_⟩
  rw [← lagrange]
  have hq := sum_bd (f := fun x => x * x) (B := 281474976710656) (l := l) fun x hx => by
    have := hv x hx
    exact mul_bd this.1 this.2 this.1 this.2
  have hq' : 0 ≤ sqL l ∧ sqL l ≤ l.length * 281474976710656 := hq
  have m1 := mul_bd (show (0 : Int) ≤ l.length by omega) (show (l.length : Int) ≤ 64 by omega) hq'.1 (show sqL l ≤ 18014398509481984 by omega)
  have := sq_nonneg (sumL l)
  omega
theorem sq_0 {x : Int} : x * x = 0 ↔ x = 0 := by
  rw [Int.mul_eq_zero, or_self]
end Go.Proofs.Ytgklfolmlcfjgaa
