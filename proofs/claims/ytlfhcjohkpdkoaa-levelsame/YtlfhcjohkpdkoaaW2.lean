/- Contracts of wide.Shl and wide.Shr: for every number and every count they return the shifted number, or the error. -/
import Derived.Test.YtlfhcjohkpdkoaaW1
import Derived.Test.YtlfhcjohkpdkoaaShift
import Derived.RegionTactic
import Derived.BigRegion
namespace Go.Proofs.Ytlfhcjohkpdkoaa
open Go.RowKit
set_option maxHeartbeats 400000 in
theorem shl_small (x1 x2 : Int) (n : Nat) (w : World) (a : Nat) (ha : IsW a x1 x2) (hn : n < 64) (h : Fits (a * 2 ^ n)) :
    Calls Try.prog 73 #[.agg #[.int .u64 x1, .int .u64 x2], .int .i64 n] w fun e w' => e = .returned (.tuple #[.agg #[.int .u64 (hiN (a * 2 ^ n)), .int .u64 (loN (a * 2 ^ n))], .int .i64 0]) ∧ Below w.heap.size w w' := by
  have b := bitLen_fits ha.fits
  have hb : bitLen a + n ≤ 128 := by
    by_cases h0 : a = 0
    · subst h0; rw [bitLen_zero]; omega
    · exact (fits_shl h0).1 h
  obtain ⟨fa, rfl, rfl⟩ := ha
  rw [← shl_hi (Nat.le_of_lt hn) h, ← shl_lo]
  go_enter Try.func73, Try.ntmps73
  go_wp2_with (first | (go_at_call 95; refine (isShift_yes _ _ (by omega) (by omega)).mono ?_; rintro e w' ⟨rfl, rfl⟩) | (go_at_call 72; refine (len_any _ _ _ _ (isW_self fa)).mono ?_; rintro e w1 ⟨rfl, hb1⟩; obtain ⟨hc, hf⟩ := bcell hb1))
  go_region
  go_wp2
  exact bodyPost_ret (v := .tuple #[.agg #[.int .u64 _, .int .u64 _], .int .i64 0]) (by simp [results, Try.results73, go_sem, hc]) rfl ⟨rfl, ((((((Below.refl _ _).alloc (Nat.le_refl _) _).alloc (by simp) _).trans (hb1.mono (by simp; omega))).setCell (by simp) _).setCell (by simp) _).drew⟩
set_option maxHeartbeats 400000 in
theorem shl_big (x1 x2 : Int) (n : Nat) (w : World) (a : Nat) (ha : IsW a x1 x2) (hn : n ≤ 127) (h64 : 64 ≤ n) (h : Fits (a * 2 ^ n)) :
    Calls Try.prog 73 #[.agg #[.int .u64 x1, .int .u64 x2], .int .i64 n] w fun e w' => e = .returned (.tuple #[.agg #[.int .u64 (hiN (a * 2 ^ n)), .int .u64 (loN (a * 2 ^ n))], .int .i64 0]) ∧ Below w.heap.size w w' := by
  have b := bitLen_fits ha.fits
  have hb : bitLen a + n ≤ 128 := by
    by_cases h0 : a = 0
    · subst h0; rw [bitLen_zero]; omega
    · exact (fits_shl h0).1 h
  obtain ⟨fa, rfl, rfl⟩ := ha
  rw [← (shl_big_hi h64 h).1, (shl_big_hi h64 h).2, Int.natCast_zero]
  go_enter Try.func73, Try.ntmps73
  go_wp2_with (first | (go_at_call 95; refine (isShift_yes _ _ (by omega) (by omega)).mono ?_; rintro e w' ⟨rfl, rfl⟩) | (go_at_call 72; refine (len_any _ _ _ _ (isW_self fa)).mono ?_; rintro e w1 ⟨rfl, hb1⟩; obtain ⟨hc, hf⟩ := bcell hb1))
  exact bodyPost_ret (v := .tuple #[.agg #[.int .u64 _, .int .u64 0], .int .i64 0]) (by simp [results, Try.results73, go_sem, hc]) rfl ⟨rfl, (((((Below.refl _ _).alloc (Nat.le_refl _) _).alloc (by simp) _).trans (hb1.mono (by simp; omega))).setCell (by simp) _).setCell (by simp) _⟩
theorem shl_ok (x1 x2 : Int) (n : Nat) (w : World) (a : Nat) (ha : IsW a x1 x2) (hn : n ≤ 127) (h : Fits (a * 2 ^ n)) :
    Calls Try.prog 73 #[.agg #[.int .u64 x1, .int .u64 x2], .int .i64 n] w fun e w' => e = .returned (.tuple #[.agg #[.int .u64 (hiN (a * 2 ^ n)), .int .u64 (loN (a * 2 ^ n))], .int .i64 0]) ∧ Below w.heap.size w w' := by
  by_cases h64 : n < 64
  · exact shl_small x1 x2 n w a ha h64 h
  · exact shl_big x1 x2 n w a ha hn (by omega) h
end Go.Proofs.Ytlfhcjohkpdkoaa
