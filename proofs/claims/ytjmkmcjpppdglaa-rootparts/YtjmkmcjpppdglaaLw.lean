/- From what the walk has shown of a law to the law's call; and small facts on numbers for the reckoning. -/
import Derived.Test.YtjmkmcjpppdglaaSh
import Derived.Test.YtjmkmcjpppdglaaFrame
namespace Go.Proofs.Ytjmkmcjpppdglaa
open Go.RowKit Sx
theorem law_mixed : Try.prog.follows .mixedOrders = true := by kernel_rfl
theorem law_call {P : Program} {Γ : Gam} (hΓ : GamOk P Γ) (hm : P.follows .mixedOrders = true) {f : Nat} {F : SF} (hF : cFunc P f = some F) {xs : List SV} (hv : vcFun Γ F xs fun v => v = .bool true) (hflat : xs.all SV.flat1 = true) (hn : xs.length ≤ F.n) (w : World) (vs : List Value) (hvs : AllIs1 w xs vs) :
    Calls P f vs.toArray w fun e w' => e = .returned (.bool true) ∧ Below w.heap.size w w' :=
  (fun_sound hΓ hm hF hv hflat hn w vs hvs).mono fun e w' ⟨hb, r, v, hr, he, hi⟩ => by
    subst hr
    have : v = .bool true := hi
    subst this
    exact ⟨he, hb⟩
theorem cmpN_le0 (a b : Nat) : cmpN a b ≤ 0 ↔ a ≤ b := by unfold cmpN; repeat' split <;> omega
theorem cmpN_ge0 (a b : Nat) : 0 ≤ cmpN a b ↔ b ≤ a := by unfold cmpN; repeat' split <;> omega
theorem cmpN_gt0 (a b : Nat) : 0 < cmpN a b ↔ b < a := by unfold cmpN; repeat' split <;> omega
theorem cmpN_lt0 (a b : Nat) : cmpN a b < 0 ↔ a < b := by unfold cmpN; repeat' split <;> omega
theorem cmpN_eq0 (a b : Nat) : (cmpN a b == 0) = decide (a = b) := by
  rw [Bool.eq_iff_iff]; simp only [beq_iff_eq, decide_eq_true_eq]; unfold cmpN; repeat' split <;> omega
theorem cmpN_wrap (a b : Nat) : IntKind.i64.wrap (0 - cmpN b a) = cmpN a b := by
  have h := cmpN_range b a
  have h2 := cmpN_neg a b
  rw [IntWalk.i64_in _ (by omega)]; omega
theorem subE_7 (a b : Nat) : (subE a b == 7) = decide (a < b) := by
  rw [Bool.eq_iff_iff]; simp only [beq_iff_eq, decide_eq_true_eq]; unfold subE; split <;> omega
theorem subE_0 (a b : Nat) : (subE a b == 0) = decide (b ≤ a) := by
  rw [Bool.eq_iff_iff]; simp only [beq_iff_eq, decide_eq_true_eq]; unfold subE; split <;> omega
theorem addE_0 (a b : Nat) : (addE a b == 0) = decide (a + b < 340282366920938463463374607431768211456) := by
  rw [Bool.eq_iff_iff]; simp only [beq_iff_eq, decide_eq_true_eq]; unfold addE; split <;> omega
theorem mulE_0 (a b : Nat) : (mulE a b == 0) = decide (a * b < 340282366920938463463374607431768211456) := by
  rw [Bool.eq_iff_iff]; simp only [beq_iff_eq, decide_eq_true_eq]; unfold mulE; split
  · simp [*]
  · simp [*]
theorem divE_0 (b : Nat) : (divE b == 0) = decide (b ≠ 0) := by
  rw [Bool.eq_iff_iff]; simp only [beq_iff_eq, decide_eq_true_eq]; unfold divE; split <;> omega
theorem addN_in {a b : Nat} (h : a + b < 340282366920938463463374607431768211456) : addN a b = a + b := if_pos h
theorem mulN_in {a b : Nat} (h : a * b < 340282366920938463463374607431768211456) : mulN a b = a * b := if_pos h
theorem OkW_lit (x y : Int) (h : 0 ≤ x ∧ x < 18446744073709551616 ∧ 0 ≤ y ∧ y < 18446744073709551616) : OkW x y := h
theorem fits_lt {a : Nat} : Fits a ↔ a < 340282366920938463463374607431768211456 := by unfold Fits; exact Iff.rfl
end Go.Proofs.Ytjmkmcjpppdglaa
