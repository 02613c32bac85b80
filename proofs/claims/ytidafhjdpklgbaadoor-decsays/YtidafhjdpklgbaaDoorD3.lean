/- The contract of prod.Div: quotient and remainder of every two numbers, or ErrZero. -/
import Derived.Test.YtidafhjdpklgbaaDoorD2
namespace Go.Proofs.YtidafhjdpklgbaaDoor
open Go.RowKit
theorem box4 (w : World) (a0 a1 b0 b1 c0 c1 d0 d1 : Value) (t : TypeId) :
    Below w.heap.size w ((((w.alloc (.cells #[a0, a1] t)).alloc (.cells #[b0, b1] t)).alloc (.cells #[c0, c1] t)).alloc (.cells #[d0, d1] t)) ∧
    Pair ((((w.alloc (.cells #[a0, a1] t)).alloc (.cells #[b0, b1] t)).alloc (.cells #[c0, c1] t)).alloc (.cells #[d0, d1] t)) w.heap.size a0 a1 ∧
    Pair ((((w.alloc (.cells #[a0, a1] t)).alloc (.cells #[b0, b1] t)).alloc (.cells #[c0, c1] t)).alloc (.cells #[d0, d1] t)) (w.heap.size + 1) b0 b1 ∧
    Pair ((((w.alloc (.cells #[a0, a1] t)).alloc (.cells #[b0, b1] t)).alloc (.cells #[c0, c1] t)).alloc (.cells #[d0, d1] t)) (w.heap.size + 1 + 1) c0 c1 ∧
    Pair ((((w.alloc (.cells #[a0, a1] t)).alloc (.cells #[b0, b1] t)).alloc (.cells #[c0, c1] t)).alloc (.cells #[d0, d1] t)) (w.heap.size + 1 + 1 + 1) d0 d1 := by
  obtain ⟨b, p1, p2, p3⟩ := box3 w a0 a1 b0 b1 c0 c1 t
  exact ⟨bel_new b (Nat.le_refl _) _, p1.up _, p2.up _, p3.up _, Pair.new' _ _ _ _ _ (by simp)⟩
theorem zero_words {b : Nat} (h : hiN b = 0) (h' : loN b = 0) : b = 0 := by have := words b; omega
set_option maxHeartbeats 1000000 in
theorem div_zero (x1 x2 : Int) (w : World) :
    Calls Tryd.prog 16 #[.agg #[.int .u64 x1, .int .u64 x2], .agg #[.int .u64 0, .int .u64 0]] w fun e w' => e = .returned (.tuple #[.agg #[.int .u64 0, .int .u64 0], .agg #[.int .u64 0, .int .u64 0], .int .i64 6]) ∧ Below w.heap.size w w' := by
  go_enter Tryd.func16, Tryd.ntmps16
  go_wp2
  exact bodyPost_ret (v := .tuple #[.agg #[.int .u64 0, .int .u64 0], .agg #[.int .u64 0, .int .u64 0], .int .i64 6]) (by simp [results, Tryd.results16, go_sem]) rfl ⟨rfl, ((((Below.refl _ _).alloc (Nat.le_refl _) _).alloc (by simp) _).alloc (by simp; omega) _).alloc (by simp; omega) _⟩
set_option maxHeartbeats 1000000 in
theorem div_word (x1 x2 y1 y2 : Int) (w : World) (a b : Nat) (ha : IsW a x1 x2) (hb : IsW b y1 y2) (h0 : 0 < b) (wb : Word b) :
    Calls Tryd.prog 16 #[.agg #[.int .u64 x1, .int .u64 x2], .agg #[.int .u64 y1, .int .u64 y2]] w fun e w' => e = .returned (.tuple #[.agg #[.int .u64 (hiN (a / b)), .int .u64 (loN (a / b))], .agg #[.int .u64 (hiN (a % b)), .int .u64 (loN (a % b))], .int .i64 0]) ∧ Below w.heap.size w w' := by
  obtain ⟨fb, e1, e2⟩ := hb
  rw [hiN_of_word wb, Int.natCast_zero] at e1
  rw [loN_of_word wb] at e2
  subst e1 e2
  have wm : Word (a % b) := word_mono wb (Nat.le_of_lt (Nat.mod_lt _ h0))
  have EH := Lib.hid (hiN_of_word wm)
  have EL := Lib.hid (loN_of_word wm)
  have q0 : ((b : Int) == 0) = false := by simp; omega
  obtain ⟨bel0, A, B, R, T⟩ := box4 w (.int .u64 x1) (.int .u64 x2) (.int .u64 0) (.int .u64 (b : Int)) (.int .u64 0) (.int .u64 0) (.int .u64 0) (.int .u64 0) 24
  go_enter Tryd.func16, Tryd.ntmps16
  go_wp2_with fail
  with_reducible refine (divByWord_c _ _ _ _ a b ha rfl wb h0).mono ?_
  rintro e w1 ⟨rfl, hb1⟩
  replace A := Pair.below A hb1
  replace B := Pair.below B hb1
  replace R := Pair.below R hb1
  replace T := Pair.below T hb1
  replace bel0 := bel_call bel0 (Nat.le_refl _) hb1
  clear hb1
  obtain ⟨r0, r1, r2, r3⟩ := id R
  obtain ⟨t0, t1, t2, t3⟩ := id T
  have RL := R.lt
  have TL := T.lt
  go_wp2
  refine bodyPost_ret (v := .tuple #[.agg #[.int .u64 (hiN (a / b)), .int .u64 (loN (a / b))], .agg #[.int .u64 0, .int .u64 ((a : Int) % (b : Int))], .int .i64 0]) (by simp [results, Tryd.results16, go_sem, r0, r1, t0, t1, RL, TL]) rfl ⟨?_, ?_⟩
  · rw [EH.out, EL.out, Int.natCast_emod]; rfl
  · exact ((((bel0.setCell (by simp; omega) _).setCell (by simp; omega) _).setCell (by simp; omega) _).setCell (by simp; omega) _).alloc (by have := bel0.size; simp; omega) _
set_option maxHeartbeats 1000000 in
theorem div_wide (x1 x2 y1 y2 : Int) (w : World) (a b : Nat) (ha : IsW a x1 x2) (hb : IsW b y1 y2) (h0 : hiN b ≠ 0) :
    Calls Tryd.prog 16 #[.agg #[.int .u64 x1, .int .u64 x2], .agg #[.int .u64 y1, .int .u64 y2]] w fun e w' => e = .returned (.tuple #[.agg #[.int .u64 (hiN (a / b)), .int .u64 (loN (a / b))], .agg #[.int .u64 (hiN (a % b)), .int .u64 (loN (a % b))], .int .i64 0]) ∧ Below w.heap.size w w' := by
  obtain ⟨fb, rfl, rfl⟩ := hb
  have fa := ha.fits
  have wq : Word (a / b) := by
    have h1 := words b
    have hb0 : 0 < b := by omega
    unfold Word
    rw [Nat.div_lt_iff_lt_mul hb0]
    unfold Fits at fa
    omega
  have EH := Lib.hid (hiN_of_word wq)
  have EL := Lib.hid (loN_of_word wq)
  have q0 : ((hiN b : Int) == 0) = false := by simp; omega
  have ib := isW_self fb
  obtain ⟨bel0, A, B, R, T⟩ := box4 w (.int .u64 x1) (.int .u64 x2) (.int .u64 (hiN b)) (.int .u64 (loN b)) (.int .u64 0) (.int .u64 0) (.int .u64 0) (.int .u64 0) 24
  go_enter Tryd.func16, Tryd.ntmps16
  go_wp2_with fail
  with_reducible refine (divByWide_c _ _ _ _ _ a b ha ib h0).mono ?_
  rintro e w1 ⟨rfl, hb1⟩
  replace A := Pair.below A hb1
  replace B := Pair.below B hb1
  replace R := Pair.below R hb1
  replace T := Pair.below T hb1
  replace bel0 := bel_call bel0 (Nat.le_refl _) hb1
  clear hb1
  obtain ⟨r0, r1, r2, r3⟩ := id R
  obtain ⟨t0, t1, t2, t3⟩ := id T
  have RL := R.lt
  have TL := T.lt
  go_wp2_with fail
  replace A := Pair.up' (o := .cells #[.int .u64 (hiN (a % b)), .int .u64 (loN (a % b))] 24) A
  replace B := Pair.up' (o := .cells #[.int .u64 (hiN (a % b)), .int .u64 (loN (a % b))] 24) B
  replace R := Pair.up' (o := .cells #[.int .u64 (hiN (a % b)), .int .u64 (loN (a % b))] 24) R
  replace T := Pair.up' (o := .cells #[.int .u64 (hiN (a % b)), .int .u64 (loN (a % b))] 24) T
  have M := Pair.new w1 (.int .u64 (hiN (a % b))) (.int .u64 (loN (a % b))) 24
  replace bel0 := bel_new bel0 (Nat.le_refl _) (.cells #[.int .u64 (hiN (a % b)), .int .u64 (loN (a % b))] 24)
  generalize (w1).alloc (.cells #[.int .u64 (hiN (a % b)), .int .u64 (loN (a % b))] 24) = v at *
  clear r0 r1 r2 r3 t0 t1 t2 t3
  obtain ⟨r0, r1, r2, r3⟩ := id R
  obtain ⟨t0, t1, t2, t3⟩ := id T
  obtain ⟨m0, m1, m2, m3⟩ := id M
  go_region
  go_wp2
  refine bodyPost_ret (v := .tuple #[.agg #[.int .u64 0, .int .u64 ((a : Int) / (b : Int))], .agg #[.int .u64 (hiN (a % b)), .int .u64 (loN (a % b))], .int .i64 0]) (by simp [results, Tryd.results16, go_sem, r0, r1, t0, t1]) rfl ⟨?_, ?_⟩
  · rw [EH.out, EL.out, Int.natCast_ediv]; rfl
  · exact (((((bel0.setCell (by simp; omega) _).setCell (by simp; omega) _).setCell (by simp; omega) _).setCell (by simp; omega) _)).drew
theorem div_ok (x1 x2 y1 y2 : Int) (w : World) (a b : Nat) (ha : IsW a x1 x2) (hb : IsW b y1 y2) (h0 : 0 < b) :
    Calls Tryd.prog 16 #[.agg #[.int .u64 x1, .int .u64 x2], .agg #[.int .u64 y1, .int .u64 y2]] w fun e w' => e = .returned (.tuple #[.agg #[.int .u64 (hiN (a / b)), .int .u64 (loN (a / b))], .agg #[.int .u64 (hiN (a % b)), .int .u64 (loN (a % b))], .int .i64 0]) ∧ Below w.heap.size w w' := by
  by_cases h : hiN b = 0
  · exact div_word x1 x2 y1 y2 w a b ha hb h0 (word_of_hi h)
  · exact div_wide x1 x2 y1 y2 w a b ha hb h
theorem div_e (x1 x2 y1 y2 : Int) (w : World) (a b q r : Nat) (ha : IsW a x1 x2) (hb : IsW b y1 y2) (h0 : 0 < b) (hq : a / b = q) (hr : a % b = r) :
    Calls Tryd.prog 16 #[.agg #[.int .u64 x1, .int .u64 x2], .agg #[.int .u64 y1, .int .u64 y2]] w fun e w' => e = .returned (.tuple #[.agg #[.int .u64 (hiN q), .int .u64 (loN q)], .agg #[.int .u64 (hiN r), .int .u64 (loN r)], .int .i64 0]) ∧ Below w.heap.size w w' := by
  subst hq hr; exact div_ok x1 x2 y1 y2 w a b ha hb h0
theorem div_none (x1 x2 y1 y2 : Int) (w : World) (hb : IsW 0 y1 y2) :
    Calls Tryd.prog 16 #[.agg #[.int .u64 x1, .int .u64 x2], .agg #[.int .u64 y1, .int .u64 y2]] w fun e w' => e = .returned (.tuple #[.agg #[.int .u64 0, .int .u64 0], .agg #[.int .u64 0, .int .u64 0], .int .i64 6]) ∧ Below w.heap.size w w' := by
  obtain ⟨_, e1, e2⟩ := hb
  rw [hiN_of_word (by unfold Word; omega), Int.natCast_zero] at e1
  rw [loN_of_word (by unfold Word; omega), Int.natCast_zero] at e2
  subst e1 e2
  exact div_zero x1 x2 w
end Go.Proofs.YtidafhjdpklgbaaDoor
