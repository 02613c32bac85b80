/- Contracts of wide.Shl and wide.Shr: for every number and every count they return the shifted number, or the error. -/
import Derived.Test.YtidafhjdpklgbaaDoorW1
import Derived.Test.YtidafhjdpklgbaaDoorShift
import Derived.RegionTactic
import Derived.BigRegion
namespace Go.Proofs.YtidafhjdpklgbaaDoor
open Go.RowKit
set_option maxHeartbeats 400000 in
theorem shl_small (x1 x2 : Int) (n : Nat) (w : World) (a : Nat) (ha : IsW a x1 x2) (hn : n < 64) (h : Fits (a * 2 ^ n)) :
    Calls Tryd.prog 46 #[.agg #[.int .u64 x1, .int .u64 x2], .int .i64 n] w fun e w' => e = .returned (.tuple #[.agg #[.int .u64 (hiN (a * 2 ^ n)), .int .u64 (loN (a * 2 ^ n))], .int .i64 0]) ∧ Below w.heap.size w w' := by
  have b := bitLen_fits ha.fits
  have hb : bitLen a + n ≤ 128 := by
    by_cases h0 : a = 0
    · subst h0; rw [bitLen_zero]; omega
    · exact (fits_shl h0).1 h
  obtain ⟨fa, rfl, rfl⟩ := ha
  rw [← shl_hi (Nat.le_of_lt hn) h, ← shl_lo]
  go_enter Tryd.func46, Tryd.ntmps46
  go_wp2_with (first | (go_at_call 55; refine (isShift_yes _ _ (by omega) (by omega)).mono ?_; rintro e w' ⟨rfl, rfl⟩) | (go_at_call 56; refine (len_any _ _ _ _ (isW_self fa)).mono ?_; rintro e w1 ⟨rfl, hb1⟩; obtain ⟨hc, hf⟩ := bcell hb1))
  go_region
  go_wp2
  exact bodyPost_ret (v := .tuple #[.agg #[.int .u64 _, .int .u64 _], .int .i64 0]) (by simp [results, Tryd.results46, go_sem, hc]) rfl ⟨rfl, ((((((Below.refl _ _).alloc (Nat.le_refl _) _).alloc (by simp) _).trans (hb1.mono (by simp; omega))).setCell (by simp) _).setCell (by simp) _).drew⟩
set_option maxHeartbeats 400000 in
theorem shl_big (x1 x2 : Int) (n : Nat) (w : World) (a : Nat) (ha : IsW a x1 x2) (hn : n ≤ 127) (h64 : 64 ≤ n) (h : Fits (a * 2 ^ n)) :
    Calls Tryd.prog 46 #[.agg #[.int .u64 x1, .int .u64 x2], .int .i64 n] w fun e w' => e = .returned (.tuple #[.agg #[.int .u64 (hiN (a * 2 ^ n)), .int .u64 (loN (a * 2 ^ n))], .int .i64 0]) ∧ Below w.heap.size w w' := by
  have b := bitLen_fits ha.fits
  have hb : bitLen a + n ≤ 128 := by
    by_cases h0 : a = 0
    · subst h0; rw [bitLen_zero]; omega
    · exact (fits_shl h0).1 h
  obtain ⟨fa, rfl, rfl⟩ := ha
  rw [← (shl_big_hi h64 h).1, (shl_big_hi h64 h).2, Int.natCast_zero]
  go_enter Tryd.func46, Tryd.ntmps46
  go_wp2_with (first | (go_at_call 55; refine (isShift_yes _ _ (by omega) (by omega)).mono ?_; rintro e w' ⟨rfl, rfl⟩) | (go_at_call 56; refine (len_any _ _ _ _ (isW_self fa)).mono ?_; rintro e w1 ⟨rfl, hb1⟩; obtain ⟨hc, hf⟩ := bcell hb1))
  exact bodyPost_ret (v := .tuple #[.agg #[.int .u64 _, .int .u64 0], .int .i64 0]) (by simp [results, Tryd.results46, go_sem, hc]) rfl ⟨rfl, (((((Below.refl _ _).alloc (Nat.le_refl _) _).alloc (by simp) _).trans (hb1.mono (by simp; omega))).setCell (by simp) _).setCell (by simp) _⟩
theorem shl_ok (x1 x2 : Int) (n : Nat) (w : World) (a : Nat) (ha : IsW a x1 x2) (hn : n ≤ 127) (h : Fits (a * 2 ^ n)) :
    Calls Tryd.prog 46 #[.agg #[.int .u64 x1, .int .u64 x2], .int .i64 n] w fun e w' => e = .returned (.tuple #[.agg #[.int .u64 (hiN (a * 2 ^ n)), .int .u64 (loN (a * 2 ^ n))], .int .i64 0]) ∧ Below w.heap.size w w' := by
  by_cases h64 : n < 64
  · exact shl_small x1 x2 n w a ha h64 h
  · exact shl_big x1 x2 n w a ha hn (by omega) h
set_option maxHeartbeats 400000 in
theorem shr_arg (x1 x2 n : Int) (w : World) (h : n < 0 ∨ 127 < n) :
    Calls Tryd.prog 47 #[.agg #[.int .u64 x1, .int .u64 x2], .int .i64 n] w fun e w' => e = .returned (.tuple #[.agg #[.int .u64 0, .int .u64 0], .int .i64 1]) ∧ Below w.heap.size w w' := by
  go_enter Tryd.func47, Tryd.ntmps47
  go_wp2_with (go_at_call 55; refine (isShift_no _ _ h).mono ?_; rintro e w' ⟨rfl, rfl⟩)
  exact bodyPost_ret (v := .tuple #[.agg #[.int .u64 0, .int .u64 0], .int .i64 1]) (by simp [results, Tryd.results47, go_sem]) rfl ⟨rfl, ((Below.refl _ _).alloc (Nat.le_refl _) _).alloc (by simp) _⟩
set_option maxHeartbeats 400000 in
theorem shr_big (x1 x2 : Int) (n : Nat) (w : World) (a : Nat) (ha : IsW a x1 x2) (hn : n ≤ 127) (h64 : 64 ≤ n) :
    Calls Tryd.prog 47 #[.agg #[.int .u64 x1, .int .u64 x2], .int .i64 n] w fun e w' => e = .returned (.tuple #[.agg #[.int .u64 (hiN (a / 2 ^ n)), .int .u64 (loN (a / 2 ^ n))], .int .i64 0]) ∧ Below w.heap.size w w' := by
  obtain ⟨fa, rfl, rfl⟩ := ha
  rw [← (shr_big_lo fa h64).1, (shr_big_lo fa h64).2, Int.natCast_zero]
  go_enter Tryd.func47, Tryd.ntmps47
  go_wp2_with (go_at_call 55; refine (isShift_yes _ _ (by omega) (by omega)).mono ?_; rintro e w' ⟨rfl, rfl⟩)
  exact bodyPost_ret (v := .tuple #[.agg #[.int .u64 0, .int .u64 _], .int .i64 0]) (by simp [results, Tryd.results47, go_sem]) rfl ⟨rfl, ((Below.refl _ _).alloc (Nat.le_refl _) _).alloc (by simp) _⟩
set_option maxHeartbeats 400000 in
theorem shr_small (x1 x2 : Int) (n : Nat) (w : World) (a : Nat) (ha : IsW a x1 x2) (hn : n < 64) :
    Calls Tryd.prog 47 #[.agg #[.int .u64 x1, .int .u64 x2], .int .i64 n] w fun e w' => e = .returned (.tuple #[.agg #[.int .u64 (hiN (a / 2 ^ n)), .int .u64 (loN (a / 2 ^ n))], .int .i64 0]) ∧ Below w.heap.size w w' := by
  obtain ⟨fa, rfl, rfl⟩ := ha
  rw [← shr_hi, ← shr_lo (Nat.le_of_lt hn)]
  go_enter Tryd.func47, Tryd.ntmps47
  go_wp2_with (go_at_call 55; refine (isShift_yes _ _ (by omega) (by omega)).mono ?_; rintro e w' ⟨rfl, rfl⟩)
  go_region
  go_wp2
  exact bodyPost_ret (v := .tuple #[.agg #[.int .u64 _, .int .u64 _], .int .i64 0]) (by simp [results, Tryd.results47, go_sem]) rfl ⟨rfl, (((Below.refl _ _).alloc (Nat.le_refl _) _).alloc (by simp) _).drew⟩
theorem shr_ok (x1 x2 : Int) (n : Nat) (w : World) (a : Nat) (ha : IsW a x1 x2) (hn : n ≤ 127) :
    Calls Tryd.prog 47 #[.agg #[.int .u64 x1, .int .u64 x2], .int .i64 n] w fun e w' => e = .returned (.tuple #[.agg #[.int .u64 (hiN (a / 2 ^ n)), .int .u64 (loN (a / 2 ^ n))], .int .i64 0]) ∧ Below w.heap.size w w' := by
  by_cases h64 : n < 64
  · exact shr_small x1 x2 n w a ha h64
  · exact shr_big x1 x2 n w a ha hn (by omega)
end Go.Proofs.YtidafhjdpklgbaaDoor
