/- Contracts of the statements' own helpers half, short, num and Within. -/
import Derived.Test.YtlfhcjohkpdkoaaP2
namespace Go.Proofs.Ytlfhcjohkpdkoaa
open Go.RowKit
theorem lit0 : (0 : Int) = ((0 : Nat) : Int) := rfl
theorem lit1 : (1 : Int) = ((1 : Nat) : Int) := rfl
theorem lit2 : (2 : Int) = ((2 : Nat) : Int) := rfl
theorem lit3 : (3 : Int) = ((3 : Nat) : Int) := rfl
theorem lit4 : (4 : Int) = ((4 : Nat) : Int) := rfl
theorem lit5 : (5 : Int) = ((5 : Nat) : Int) := rfl
theorem lit6 : (6 : Int) = ((6 : Nat) : Int) := rfl
theorem lit7 : (7 : Int) = ((7 : Nat) : Int) := rfl
theorem lit8 : (8 : Int) = ((8 : Nat) : Int) := rfl
theorem lit9 : (9 : Int) = ((9 : Nat) : Int) := rfl
theorem lit10 : (10 : Int) = ((10 : Nat) : Int) := rfl
theorem lit13 : (13 : Int) = ((13 : Nat) : Int) := rfl
theorem lit14 : (14 : Int) = ((14 : Nat) : Int) := rfl
theorem lit16 : (16 : Int) = ((16 : Nat) : Int) := rfl
theorem lit24 : (24 : Int) = ((24 : Nat) : Int) := rfl
theorem lit64 : (64 : Int) = ((64 : Nat) : Int) := rfl
theorem lit99 : (99 : Int) = ((99 : Nat) : Int) := rfl
theorem lit100 : (100 : Int) = ((100 : Nat) : Int) := rfl
theorem lit127 : (127 : Int) = ((127 : Nat) : Int) := rfl
theorem lit128 : (128 : Int) = ((128 : Nat) : Int) := rfl
theorem box3 (w : World) (a0 a1 b0 b1 c0 c1 : Value) (t : TypeId) :
    Below w.heap.size w (((w.alloc (.cells #[a0, a1] t)).alloc (.cells #[b0, b1] t)).alloc (.cells #[c0, c1] t)) ∧
    Pair (((w.alloc (.cells #[a0, a1] t)).alloc (.cells #[b0, b1] t)).alloc (.cells #[c0, c1] t)) w.heap.size a0 a1 ∧
    Pair (((w.alloc (.cells #[a0, a1] t)).alloc (.cells #[b0, b1] t)).alloc (.cells #[c0, c1] t)) (w.heap.size + 1) b0 b1 ∧
    Pair (((w.alloc (.cells #[a0, a1] t)).alloc (.cells #[b0, b1] t)).alloc (.cells #[c0, c1] t)) (w.heap.size + 1 + 1) c0 c1 :=
  ⟨(((Below.refl _ _).alloc (Nat.le_refl _) _).alloc (by simp) _).alloc (by simp; omega) _, ((Pair.new w _ _ _).up _).up _,
    (Pair.new' _ _ _ _ _ (by simp)).up _, Pair.new' _ _ _ _ _ (by simp)⟩
def halfN (a : Nat) : Nat := hiN a / 4 * 18446744073709551616 + loN a
def shortN (a : Nat) : Nat := loN a / 4194304
theorem halfN_lt {a : Nat} (h : Fits a) : halfN a < 85070591730234615865843651857942052864 := by
  have h1 := hiN_lt h
  have h2 := loN_lt a
  unfold halfN; omega
theorem halfN_isW {a : Nat} (h : Fits a) : IsW (halfN a) ((hiN a : Int) / 4) (loN a) := by
  have h1 := hiN_lt h
  have e := isW_mk (hiN a / 4) (loN a) (by omega) (loN_lt a)
  rw [Int.natCast_ediv] at e
  exact e
theorem shortN_lt (a : Nat) : shortN a < 4398046511104 := by have := loN_lt a; unfold shortN; omega
theorem shortN_isW (a : Nat) : IsW (shortN a) 0 ((loN a : Int) / 4194304) := by
  have e := isW_word (a := shortN a) (by have := shortN_lt a; unfold Word; omega)
  unfold shortN at *
  rw [Int.natCast_ediv] at e
  exact e
attribute [irreducible] halfN shortN
set_option maxHeartbeats 400000 in
theorem num_raw (n : Nat) (w : World) (h : n ≤ 9223372036854775807) :
    Calls Try.prog 39 #[.int .i64 n] w fun e w' => e = .returned (.agg #[.int .u64 0, .int .u64 n]) ∧ Below w.heap.size w w' := by
  go_enter Try.func39, Try.ntmps39
  go_wp2
  exact bodyPost_ret (v := .agg #[.int .u64 0, .int .u64 n]) (by simp [results, Try.results39, go_sem]) rfl ⟨rfl, (Below.refl _ _).alloc (Nat.le_refl _) _⟩
theorem num_c (x : Int) (w : World) (n : Nat) (hx : x = n) (h : n ≤ 9223372036854775807) :
    Calls Try.prog 39 #[.int .i64 x] w fun e w' => e = .returned (.agg #[.int .u64 (hiN n), .int .u64 (loN n)]) ∧ Below w.heap.size w w' := by
  subst hx
  have hw : Word n := by unfold Word; omega
  rw [hiN_of_word hw, loN_of_word hw, Int.natCast_zero]
  exact num_raw n w h
/-- Within: the number, as one without a sign, by the rest of a division. -/
def withinH (n : Int) (m : Nat) : Nat := (n % 18446744073709551616).toNat % m
theorem withinH_lt (n : Int) {m : Nat} (h : 1 ≤ m) : withinH n m < m := Nat.mod_lt _ h
theorem withinH_eq (n : Int) (m : Nat) (h : 1 ≤ m) (hm : m ≤ 1000000000000) : wrap64 ((IntKind.u64.wrap n).tmod (m : Int)) = (withinH n m : Int) := by
  have h0 : 0 ≤ n % 18446744073709551616 := by omega
  have e : (IntKind.u64.wrap n).tmod (m : Int) = (withinH n m : Int) := by
    rw [IntKind.wrap_u64, Int.tmod_eq_emod_of_nonneg h0]
    unfold withinH
    rw [Int.natCast_emod, Int.toNat_of_nonneg h0]
  have := withinH_lt n h
  rw [e]
  exact IntWalk.wrap64_in _ (by omega)
attribute [irreducible] withinH
set_option maxHeartbeats 400000 in
theorem within_c (n m : Int) (w : World) (M : Nat) (hM : m = M) (h : 1 ≤ M) (hm : M ≤ 1000000000000) :
    Calls Try.prog 27 #[.int .i64 n, .int .i64 m] w fun e w' => e = .returned (.int .i64 (withinH n M)) ∧ w = w' := by
  subst hM
  go_enter Try.func27, Try.ntmps27
  go_wp2
  go_ret
  exact ⟨congrArg Ending.returned (congrArg (Value.int IntKind.i64) (withinH_eq n M h hm)), rfl⟩
/- The contracts once more, the result under a name of the caller's. -/
theorem add_e (x1 x2 y1 y2 : Int) (w : World) (a b n : Nat) (ha : IsW a x1 x2) (hb : IsW b y1 y2) (hn : a + b = n) (h : Fits n) :
    Calls Try.prog 86 #[.agg #[.int .u64 x1, .int .u64 x2], .agg #[.int .u64 y1, .int .u64 y2]] w fun e w' => e = .returned (.tuple #[.agg #[.int .u64 (hiN n), .int .u64 (loN n)], .int .i64 0]) ∧ Below w.heap.size w w' := by
  subst hn; exact wadd_ok x1 x2 y1 y2 w a b ha hb h
theorem mul_e (x y : Int) (w : World) (X Y n : Nat) (hx : x = X) (hy : y = Y) (wx : Word X) (wy : Word Y) (hn : X * Y = n) :
    Calls Try.prog 92 #[.int .u64 x, .int .u64 y] w fun e w' => e = .returned (.agg #[.int .u64 (hiN n), .int .u64 (loN n)]) ∧ Below w.heap.size w w' := by
  subst hn; exact mul_c x y w X Y hx hy wx wy
theorem shl_e (x1 x2 m : Int) (k : Nat) (w : World) (a n : Nat) (ha : IsW a x1 x2) (hm : m = k) (hk : k ≤ 127) (hn : a * 2 ^ k = n) (h : Fits n) :
    Calls Try.prog 73 #[.agg #[.int .u64 x1, .int .u64 x2], .int .i64 m] w fun e w' => e = .returned (.tuple #[.agg #[.int .u64 (hiN n), .int .u64 (loN n)], .int .i64 0]) ∧ Below w.heap.size w w' := by
  subst hn hm; exact shl_ok x1 x2 k w a ha hk h
theorem isW_of_lt {a : Nat} (h : a < 340282366920938463463374607431768211456) : IsW a (hiN a) (loN a) := isW_self (by unfold Fits; exact h)
end Go.Proofs.Ytlfhcjohkpdkoaa
