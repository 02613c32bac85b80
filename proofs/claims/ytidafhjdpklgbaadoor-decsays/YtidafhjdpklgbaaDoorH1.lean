/- Contracts of the statements' own helpers half, short, num and Within. -/
import Derived.Test.YtidafhjdpklgbaaDoorP2
namespace Go.Proofs.YtidafhjdpklgbaaDoor
open Go.RowKit
theorem lit0 : (0 : Int) = ((0 : Nat) : Int) := rfl
theorem lit1 : (1 : Int) = ((1 : Nat) : Int) := rfl
theorem lit2 : (2 : Int) = ((2 : Nat) : Int) := rfl
theorem lit3 : (3 : Int) = ((3 : Nat) : Int) := rfl
theorem lit4 : (4 : Int) = ((4 : Nat) : Int) := rfl
theorem lit5 : (5 : Int) = ((5 : Nat) : Int) := rfl
theorem lit6 : (6 : Int) = ((6 : Nat) : Int) := rfl
theorem lit7 : (7 : Int) = ((7 : Nat) : Int) := rfl
theorem lit8 : (8 : Int) = ((8 : Nat) : Int) := rfl
theorem lit9 : (9 : Int) = ((9 : Nat) : Int) := rfl
theorem lit10 : (10 : Int) = ((10 : Nat) : Int) := rfl
theorem lit13 : (13 : Int) = ((13 : Nat) : Int) := rfl
theorem lit14 : (14 : Int) = ((14 : Nat) : Int) := rfl
theorem lit16 : (16 : Int) = ((16 : Nat) : Int) := rfl
theorem lit24 : (24 : Int) = ((24 : Nat) : Int) := rfl
theorem lit64 : (64 : Int) = ((64 : Nat) : Int) := rfl
theorem lit99 : (99 : Int) = ((99 : Nat) : Int) := rfl
theorem lit100 : (100 : Int) = ((100 : Nat) : Int) := rfl
theorem lit127 : (127 : Int) = ((127 : Nat) : Int) := rfl
theorem lit128 : (128 : Int) = ((128 : Nat) : Int) := rfl
theorem box3 (w : World) (a0 a1 b0 b1 c0 c1 : Value) (t : TypeId) :
    Below w.heap.size w (((w.alloc (.cells #[a0, a1] t)).alloc (.cells #[b0, b1] t)).alloc (.cells #[c0, c1] t)) ∧
    Pair (((w.alloc (.cells #[a0, a1] t)).alloc (.cells #[b0, b1] t)).alloc (.cells #[c0, c1] t)) w.heap.size a0 a1 ∧
    Pair (((w.alloc (.cells #[a0, a1] t)).alloc (.cells #[b0, b1] t)).alloc (.cells #[c0, c1] t)) (w.heap.size + 1) b0 b1 ∧
    Pair (((w.alloc (.cells #[a0, a1] t)).alloc (.cells #[b0, b1] t)).alloc (.cells #[c0, c1] t)) (w.heap.size + 1 + 1) c0 c1 :=
  ⟨(((Below.refl _ _).alloc (Nat.le_refl _) _).alloc (by simp) _).alloc (by simp; omega) _, ((Pair.new w _ _ _).up _).up _,
    (Pair.new' _ _ _ _ _ (by simp)).up _, Pair.new' _ _ _ _ _ (by simp)⟩
def halfN (a : Nat) : Nat := hiN a / 4 * 18446744073709551616 + loN a
def shortN (a : Nat) : Nat := loN a / 4194304
theorem halfN_lt {a : Nat} (h : Fits a) : halfN a < 85070591730234615865843651857942052864 := by
  have h1 := hiN_lt h
  have h2 := loN_lt a
  unfold halfN; omega
theorem halfN_isW {a : Nat} (h : Fits a) : IsW (halfN a) ((hiN a : Int) / 4) (loN a) := by
  have h1 := hiN_lt h
  have e := isW_mk (hiN a / 4) (loN a) (by omega) (loN_lt a)
  rw [Int.natCast_ediv] at e
  exact e
theorem shortN_lt (a : Nat) : shortN a < 4398046511104 := by have := loN_lt a; unfold shortN; omega
theorem shortN_isW (a : Nat) : IsW (shortN a) 0 ((loN a : Int) / 4194304) := by
  have e := isW_word (a := shortN a) (by have := shortN_lt a; unfold Word; omega)
  unfold shortN at *
  rw [Int.natCast_ediv] at e
  exact e
attribute [irreducible] halfN shortN
/-- Within: the number, as one without a sign, by the rest of a division. -/
def withinH (n : Int) (m : Nat) : Nat := (n % 18446744073709551616).toNat % m
theorem withinH_lt (n : Int) {m : Nat} (h : 1 ≤ m) : withinH n m < m := Nat.mod_lt _ h
theorem withinH_eq (n : Int) (m : Nat) (h : 1 ≤ m) (hm : m ≤ 1000000000000) : wrap64 ((IntKind.u64.wrap n).tmod (m : Int)) = (withinH n m : Int) := by
  have h0 : 0 ≤ n % 18446744073709551616 := by omega
  have e : (IntKind.u64.wrap n).tmod (m : Int) = (withinH n m : Int) := by
    rw [IntKind.wrap_u64, Int.tmod_eq_emod_of_nonneg h0]
    unfold withinH
    rw [Int.natCast_emod, Int.toNat_of_nonneg h0]
  have := withinH_lt n h
  rw [e]
  exact IntWalk.wrap64_in _ (by omega)
attribute [irreducible] withinH
/- The contracts once more, the result under a name of the caller's. -/
theorem add_e (x1 x2 y1 y2 : Int) (w : World) (a b n : Nat) (ha : IsW a x1 x2) (hb : IsW b y1 y2) (hn : a + b = n) (h : Fits n) :
    Calls Tryd.prog 20 #[.agg #[.int .u64 x1, .int .u64 x2], .agg #[.int .u64 y1, .int .u64 y2]] w fun e w' => e = .returned (.tuple #[.agg #[.int .u64 (hiN n), .int .u64 (loN n)], .int .i64 0]) ∧ Below w.heap.size w w' := by
  subst hn; exact wadd_ok x1 x2 y1 y2 w a b ha hb h
theorem sub_e (x1 x2 y1 y2 : Int) (w : World) (a b n : Nat) (ha : IsW a x1 x2) (hb : IsW b y1 y2) (hn : a = n + b) :
    Calls Tryd.prog 39 #[.agg #[.int .u64 x1, .int .u64 x2], .agg #[.int .u64 y1, .int .u64 y2]] w fun e w' => e = .returned (.tuple #[.agg #[.int .u64 (hiN n), .int .u64 (loN n)], .int .i64 0]) ∧ Below w.heap.size w w' := by
  have c := sub_ok x1 x2 y1 y2 w a b ha hb (by omega)
  rw [show a - b = n by omega] at c; exact c
theorem times_e (x1 x2 y1 y2 : Int) (w : World) (a b n : Nat) (ha : IsW a x1 x2) (hb : IsW b y1 y2) (hn : a * b = n) (h : Fits n) :
    Calls Tryd.prog 19 #[.agg #[.int .u64 x1, .int .u64 x2], .agg #[.int .u64 y1, .int .u64 y2]] w fun e w' => e = .returned (.tuple #[.agg #[.int .u64 (hiN n), .int .u64 (loN n)], .int .i64 0]) ∧ Below w.heap.size w w' := by
  subst hn; exact times_ok x1 x2 y1 y2 w a b ha hb h
theorem mul_e (x y : Int) (w : World) (X Y n : Nat) (hx : x = X) (hy : y = Y) (wx : Word X) (wy : Word Y) (hn : X * Y = n) :
    Calls Tryd.prog 31 #[.int .u64 x, .int .u64 y] w fun e w' => e = .returned (.agg #[.int .u64 (hiN n), .int .u64 (loN n)]) ∧ Below w.heap.size w w' := by
  subst hn; exact mul_c x y w X Y hx hy wx wy
theorem shl_e (x1 x2 m : Int) (k : Nat) (w : World) (a n : Nat) (ha : IsW a x1 x2) (hm : m = k) (hk : k ≤ 127) (hn : a * 2 ^ k = n) (h : Fits n) :
    Calls Tryd.prog 46 #[.agg #[.int .u64 x1, .int .u64 x2], .int .i64 m] w fun e w' => e = .returned (.tuple #[.agg #[.int .u64 (hiN n), .int .u64 (loN n)], .int .i64 0]) ∧ Below w.heap.size w w' := by
  subst hn hm; exact shl_ok x1 x2 k w a ha hk h
theorem shr_e (x1 x2 m : Int) (k : Nat) (w : World) (a n : Nat) (ha : IsW a x1 x2) (hm : m = k) (hk : k ≤ 127) (hn : a / 2 ^ k = n) :
    Calls Tryd.prog 47 #[.agg #[.int .u64 x1, .int .u64 x2], .int .i64 m] w fun e w' => e = .returned (.tuple #[.agg #[.int .u64 (hiN n), .int .u64 (loN n)], .int .i64 0]) ∧ Below w.heap.size w w' := by
  subst hn hm; exact shr_ok x1 x2 k w a ha hk
theorem isW_of_lt {a : Nat} (h : a < 340282366920938463463374607431768211456) : IsW a (hiN a) (loN a) := isW_self (by unfold Fits; exact h)
end Go.Proofs.YtidafhjdpklgbaaDoor
