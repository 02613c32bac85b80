/- Predictions out of arrivals: what is reckoned. Nothing here is of any one program. -/
import Derived.Test.YtnaloeoiobcifaaYS5
namespace Go.Proofs.Ytnaloeoiobcifaa
open Go.RowKit Y
theorem flo {n c : Int} (hc : 0 < c) : (if n.tmod c < 0 then n.tdiv c - 1 else n.tdiv c) = n / c := by
  have h1 := Int.mul_tdiv_add_tmod n c
  have h2 := Int.tmod_lt_of_pos n hc
  have h3 := Int.lt_tmod_of_pos n hc
  generalize n.tdiv c = q at *
  generalize n.tmod c = r at *
  subst h1
  split
  · rw [show c * q + r = (r + c) + c * (q - 1) by rw [Int.mul_sub]; omega, Int.add_mul_ediv_left _ _ (by omega), Int.ediv_eq_zero_of_lt (by omega) (by omega)]; omega
  · rw [Int.add_comm, Int.add_mul_ediv_left _ _ (by omega), Int.ediv_eq_zero_of_lt (by omega) (by omega)]; omega
def prevL (l : List Int) (i : Nat) : Int := if i = 0 then 0 else l.getD (i - 1) 0
def seqP (l : List Int) : Prop := ∀ j, j < l.length → prevL l j < l.getD j 0 ∧ l.getD j 0 ≤ 1000000
instance (l : List Int) : Decidable (seqP l) := inferInstanceAs (Decidable (∀ j, j < l.length → prevL l j < l.getD j 0 ∧ l.getD j 0 ≤ 1000000))
def timB (n : Int) : Bool := decide (0 ≤ n ∧ n ≤ 1073741824)
/-- What the times say, without the intervals. -/
def expT (e : Int) (s t : List Int) (i : Nat) : Int := ((List.range i).map fun j => t.getD j 0 - e * s.getD j 0).sum
theorem expT_0 (e : Int) (s t : List Int) : expT e s t 0 = 0 := rfl
theorem expT_succ (e : Int) (s t : List Int) (i : Nat) : expT e s t (i + 1) = expT e s t i + (t.getD i 0 - e * s.getD i 0) := by
  simp [expT, List.range_succ]
theorem seqP_pos {l : List Int} (h : seqP l) : ∀ j, j < l.length → 1 ≤ l.getD j 0 ∧ l.getD j 0 ≤ 1000000
  | 0, hj => by
    have := h 0 hj
    simp only [prevL, if_true] at this
    omega
  | j + 1, hj => by
    have h1 := h (j + 1) hj
    have h2 := seqP_pos h j (by omega)
    simp only [prevL, Nat.add_one_ne_zero, if_false, Nat.add_sub_cancel] at h1
    omega
theorem seqP_le {l : List Int} (h : seqP l) : ∀ j, j < l.length → l.getD j 0 ≤ l.getD (l.length - 1) 0 := by
  have : ∀ d j, j + d < l.length → l.getD j 0 ≤ l.getD (j + d) 0 := fun d => by
    induction d with
    | zero => intro j _; exact Int.le_refl _
    | succ d ih =>
      intro j hj
      have h1 := ih j (by omega)
      have h2 := (h (j + d + 1) (by omega)).1
      simp only [prevL, Nat.add_one_ne_zero, if_false, Nat.add_sub_cancel] at h2
      rw [← Nat.add_assoc]
      omega
  intro j hj
  have := this (l.length - 1 - j) j (by omega)
  rwa [show j + (l.length - 1 - j) = l.length - 1 by omega] at this
theorem expT_bd {e : Int} {s t : List Int} (he : 1 ≤ e ∧ e ≤ 16777216) (hs : ∀ j, j < s.length → 1 ≤ s.getD j 0 ∧ s.getD j 0 ≤ 1000000) (ht : ∀ j, j < s.length → 0 ≤ t.getD j 0 ∧ t.getD j 0 ≤ 1073741824) : ∀ i, i ≤ s.length → -(16777216000000 * i) ≤ expT e s t i ∧ expT e s t i ≤ 1073741824 * i
  | 0, _ => by simp [expT]
  | i + 1, hi => by
    have ih := expT_bd he hs ht i (by omega)
    have h1 := hs i (by omega)
    have h2 := ht i (by omega)
    have h3 := mul_bd (x := e) (y := s.getD i 0) (X := 16777216) (Y := 1000000) (by omega) (by omega) (by omega) (by omega)
    rw [expT_succ]
    omega
theorem expT_lo {e f : Int} {s t : List Int} : ∀ i, (∀ j, j < i → f ≤ t.getD j 0 - e * s.getD j 0) → (i : Int) * f ≤ expT e s t i
  | 0, _ => by simp [expT]
  | i + 1, h => by
    have ih := expT_lo (e := e) (f := f) (s := s) (t := t) i fun j hj => h j (by omega)
    have := h i (by omega)
    rw [expT_succ, Int.natCast_add, Int.add_mul]
    omega
theorem expT_hi {e f : Int} {s t : List Int} : ∀ i, (∀ j, j < i → t.getD j 0 - e * s.getD j 0 ≤ f) → expT e s t i ≤ (i : Int) * f
  | 0, _ => by simp [expT]
  | i + 1, h => by
    have ih := expT_hi (e := e) (f := f) (s := s) (t := t) i fun j hj => h j (by omega)
    have := h i (by omega)
    rw [expT_succ, Int.natCast_add, Int.add_mul]
    omega
theorem expT_add {e f : Int} {s t u : List Int} : ∀ i, (∀ j, j < i → u.getD j 0 = t.getD j 0 + f) → expT e s u i = expT e s t i + (i : Int) * f
  | 0, _ => by simp [expT]
  | i + 1, h => by
    have ih := expT_add (e := e) (f := f) (s := s) (t := t) (u := u) i fun j hj => h j (by omega)
    have := h i (by omega)
    rw [expT_succ, expT_succ, Int.natCast_add, Int.add_mul]
    omega
/-- Between bounds; moved. -/
theorem div_lo {T n f : Int} (hn : 0 < n) (h : n * f ≤ T) : f ≤ T / n := by
  rw [Int.le_ediv_iff_mul_le hn, Int.mul_comm]; exact h
theorem div_hi {T n f : Int} (hn : 0 < n) (h : T ≤ n * f) : T / n ≤ f := by
  have := Int.ediv_le_ediv hn h
  rwa [Int.mul_ediv_cancel_left _ (by omega)] at this
theorem div_lt' {T n f : Int} (hn : 0 < n) (h : T < n * f) : T / n < f := Int.ediv_lt_of_lt_mul hn (by rw [Int.mul_comm]; exact h)
theorem div_add {T n f : Int} (hn : 0 < n) : (T + n * f) / n = T / n + f := Int.add_mul_ediv_left _ _ (by omega)
end Go.Proofs.Ytnaloeoiobcifaa
