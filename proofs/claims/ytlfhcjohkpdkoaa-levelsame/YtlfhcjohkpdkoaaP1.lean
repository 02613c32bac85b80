/- Contracts of math/bits.Mul64 and prod.Mul: the full product of two words. -/
import Derived.Test.YtlfhcjohkpdkoaaW2
namespace Go.Proofs.Ytlfhcjohkpdkoaa
open Go.RowKit
theorem ret_two {k k' : IntKind} {a b c d : Int} (h : a = c) (h' : b = d) : Ending.returned (.tuple #[.int k a, .int k' b]) = .returned (.tuple #[.int k c, .int k' d]) := by rw [h, h']
theorem and_mod (z : Int) : bits .and .u64 (z % 18446744073709551616) 4294967295 = z % 18446744073709551616 % 4294967296 := and_low32 _ (by omega) (by omega)
set_option maxHeartbeats 400000 in
theorem mul64_any (x y : Nat) (w : World) (hx : Word x) (hy : Word y) :
    Calls Try.prog 90 #[.int .u64 x, .int .u64 y] w fun e w' => e = .returned (.tuple #[.int .u64 (hiN (x * y)), .int .u64 (loN (x * y))]) ∧ w = w' := by
  go_enter Try.func90, Try.ntmps90
  go_wp2
  go_ret2
  unfold Word at hx hy
  refine ⟨ret_two ?_ ?_, rfl⟩
  · simp only [IntKind.wrap_u64, and_low32 (x : Int) (by omega) (by omega), and_low32 (y : Int) (by omega) (by omega), and_mod]
    rw [mul64_arith x y (by omega) (by omega) (by omega) (by omega)]
    unfold hiN; rw [Int.natCast_ediv, Int.natCast_mul]; rfl
  · rw [IntKind.wrap_u64]; unfold loN; rw [Int.natCast_emod, Int.natCast_mul]; rfl
set_option maxHeartbeats 400000 in
theorem mul_any (x y : Nat) (w : World) (hx : Word x) (hy : Word y) :
    Calls Try.prog 92 #[.int .u64 x, .int .u64 y] w fun e w' => e = .returned (.agg #[.int .u64 (hiN (x * y)), .int .u64 (loN (x * y))]) ∧ w.alloc (.cells #[.int .u64 (hiN (x * y)), .int .u64 (loN (x * y))] 59) = w' := by
  go_enter Try.func92, Try.ntmps92
  go_wp2_with (go_at_call 90; refine (mul64_any _ _ _ hx hy).mono ?_; rintro e w' ⟨rfl, rfl⟩)
  exact bodyPost_ret (v := .agg #[.int .u64 _, .int .u64 _]) (by simp [results, Try.results92, go_sem]) rfl ⟨rfl, rfl⟩
theorem mul_c (x y : Int) (w : World) (X Y : Nat) (hx : x = X) (hy : y = Y) (wx : Word X) (wy : Word Y) :
    Calls Try.prog 92 #[.int .u64 x, .int .u64 y] w fun e w' => e = .returned (.agg #[.int .u64 (hiN (X * Y)), .int .u64 (loN (X * Y))]) ∧ Below w.heap.size w w' := by
  subst hx hy
  exact (mul_any X Y w wx wy).mono fun e w' ⟨he, hw⟩ => ⟨he, hw ▸ (Below.refl _ _).alloc (Nat.le_refl _) _⟩
end Go.Proofs.Ytlfhcjohkpdkoaa
