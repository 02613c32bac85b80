/- Contracts of wide.Add, Sub, Cmp, Len (and of what they call): for every two numbers they return the specified results, and write nothing that was there. -/
import Derived.Test.YtlfhcjohkpdkoaaPlain
import Derived.Test.YtlfhcjohkpdkoaaMem
import Derived.Test.YtlfhcjohkpdkoaaProg
import Derived.Shelf.Spec.BitsCarry
namespace Go.Proofs.Ytlfhcjohkpdkoaa
open Go.RowKit

set_option maxHeartbeats 400000 in
theorem cmpWord_any (x y : Nat) (w : World) :
    Calls Try.prog 93 #[.int .u64 x, .int .u64 y] w fun e w' => e = .returned (.int .i64 (cmpN x y)) ∧ w = w' := by
  by_cases h1 : x < y
  · rw [cmpN_lt h1]
    go_enter Try.func93, Try.ntmps93
    go_wp2
    go_ret
    exact ⟨rfl, rfl⟩
  · by_cases h2 : y < x
    · rw [cmpN_gt h2]
      go_enter Try.func93, Try.ntmps93
      go_wp2
      go_ret
      exact ⟨rfl, rfl⟩
    · obtain rfl : x = y := by omega
      rw [cmpN_eq]
      go_enter Try.func93, Try.ntmps93
      go_wp2
      go_ret
      exact ⟨rfl, rfl⟩
set_option maxHeartbeats 400000 in
theorem isShift_yes (n : Int) (w : World) (h : 0 ≤ n) (k : n ≤ 127) :
    Calls Try.prog 95 #[.int .i64 n] w fun e w' => e = .returned (.bool true) ∧ w = w' := by
  have h2 : n < 128 := by omega
  go_enter Try.func95, Try.ntmps95
  go_wp2
  go_ret
  exact ⟨rfl, rfl⟩
set_option maxHeartbeats 400000 in
theorem isShift_no (n : Int) (w : World) (h : n < 0 ∨ 127 < n) :
    Calls Try.prog 95 #[.int .i64 n] w fun e w' => e = .returned (.bool false) ∧ w = w' := by
  rcases h with h | h
  · have h2 : ¬ 0 ≤ n := by omega
    go_enter Try.func95, Try.ntmps95
    go_wp2
    go_ret
    exact ⟨rfl, rfl⟩
  · have h2 : ¬ n < 128 := by omega
    have h3 : 0 ≤ n := by omega
    go_enter Try.func95, Try.ntmps95
    go_wp2
    go_ret
    exact ⟨rfl, rfl⟩
theorem len_way (k : Nat) (hk : k ≤ 56) (x i : Int) (t : Nat) (ht : t = bitLen i.toNat) (h0 : 0 ≤ x) (hi : i = x / 2 ^ k) (hb : i < 256) (h : 0 < i) : wrap64 (k + wrap64 t) = bitLen x.toNat := by
  obtain ⟨n, rfl⟩ := Int.eq_ofNat_of_zero_le h0
  have e : i.toNat = n / 2 ^ k := by rw [hi]; exact Int.toNat_natCast (n / 2 ^ k)
  have hs := bitLen_shift n k (by rw [← e]; omega)
  have h8 := bitLen_le8 i.toNat (by omega)
  rw [Int.toNat_natCast, hs, ← e, ht]
  rw [IntWalk.wrap64_in (bitLen i.toNat : Int) (by omega), IntWalk.wrap64_in _ (by omega)]
  omega
theorem len_way0 (x : Int) (t : Nat) (ht : t = bitLen x.toNat) (hb : x < 256) : wrap64 (wrap64 t) = bitLen x.toNat := by
  have h8 := bitLen_le8 x.toNat (by omega)
  rw [ht, IntWalk.wrap64_in (bitLen x.toNat : Int) (by omega), IntWalk.wrap64_in _ (by omega)]
set_option maxRecDepth 100000 in
set_option maxHeartbeats 1000000 in
theorem len64_any (x : Int) (w : World) (h0 : 0 ≤ x) (h1 : x ≤ 18446744073709551615) :
    Calls Try.prog 94 #[.int .u64 x] w fun e w' => e = .returned (.int .i64 (bitLen x.toNat)) ∧ w = w' := by
  go_enter Try.func94, Try.ntmps94
  go_wp2
  all_goals (go_ret; refine ⟨congrArg Ending.returned (congrArg (Value.int IntKind.i64) ?_), rfl⟩)
  · exact len_way 56 (by omega) x _ _ (len8tab_get _ _) h0 (by omega) (by omega) (by omega)
  · exact len_way 48 (by omega) x _ _ (len8tab_get _ _) h0 (by omega) (by omega) (by omega)
  · exact len_way 40 (by omega) x _ _ (len8tab_get _ _) h0 (by omega) (by omega) (by omega)
  · exact len_way 32 (by omega) x _ _ (len8tab_get _ _) h0 (by omega) (by omega) (by omega)
  · exact len_way 24 (by omega) x _ _ (len8tab_get _ _) h0 (by omega) (by omega) (by omega)
  · exact len_way 16 (by omega) x _ _ (len8tab_get _ _) h0 (by omega) (by omega) (by omega)
  · exact len_way 8 (by omega) x _ _ (len8tab_get _ _) h0 (by omega) (by omega) (by omega)
  · exact len_way0 x _ (len8tab_get _ _) (by omega)
theorem len64_w (x : Nat) (w : World) (h : Word x) : Calls Try.prog 94 #[.int .u64 x] w fun e w' => e = .returned (.int .i64 (bitLen x)) ∧ w = w' := by
  have c := len64_any (x : Int) w (by omega) (by unfold Word at h; omega)
  rw [Int.toNat_natCast] at c
  exact c

theorem run_add (x y c : Nat) (hc : c ≤ 1) (w : World) :
    (callFunc 104 #[.int .u64 x, .int .u64 y, .int .u64 c]).run Try.prog w = .ok (.value (.tuple #[.int .u64 (sum64 x y c), .int .u64 (car64 x y c)])) w := by
  rw [run_callFunc_extern Try.func104 (by kernel_rfl) (by kernel_rfl) (by kernel_rfl) (e := add64Entry) (by kernel_rfl), run_add64 x y c (by omega) (by omega) (by omega) (by omega)]
  have e1 : ((x : Int) + y + c) % 18446744073709551616 = ((sum64 x y c : Nat) : Int) := by unfold sum64; omega
  have e2 : ((x : Int) + y + c) / 18446744073709551616 = ((car64 x y c : Nat) : Int) := by unfold car64; omega
  simp only [Result.andThen, e1, e2]
set_option maxHeartbeats 400000 in
theorem wadd_ok (x1 x2 y1 y2 : Int) (w : World) (a b : Nat) (ha : IsW a x1 x2) (hb : IsW b y1 y2) (h : Fits (a + b)) :
    Calls Try.prog 86 #[.agg #[.int .u64 x1, .int .u64 x2], .agg #[.int .u64 y1, .int .u64 y2]] w fun e w' => e = .returned (.tuple #[.agg #[.int .u64 (hiN (a + b)), .int .u64 (loN (a + b))], .int .i64 0]) ∧ Below w.heap.size w w' := by
  obtain ⟨fa, rfl, rfl⟩ := ha
  obtain ⟨fb, rfl, rfl⟩ := hb
  have r1 := fun w => run_add (loN a) (loN b) 0 (by omega) w
  have r2 := fun w => run_add (hiN a) (hiN b) (car64 (loN a) (loN b) 0) (car_le (loN_word a) (loN_word b) (by omega)) w
  rw [add_hi h, add_car0 h, Int.natCast_zero] at r2
  rw [add_lo, Int.natCast_zero] at r1
  clear fa fb h
  generalize car64 (loN a) (loN b) 0 = c at *
  go_enter Try.func86, Try.ntmps86
  go_wp2
  exact bodyPost_ret (v := .tuple #[.agg #[.int .u64 (hiN (a + b)), .int .u64 (loN (a + b))], .int .i64 0]) (by simp [results, Try.results86, go_sem]) rfl ⟨rfl, (((Below.refl _ _).alloc (Nat.le_refl _) _).alloc (by simp) _).alloc (by simp; omega) _⟩
set_option maxHeartbeats 400000 in
theorem add_large (x1 x2 y1 y2 : Int) (w : World) (a b : Nat) (ha : IsW a x1 x2) (hb : IsW b y1 y2) (h : ¬ Fits (a + b)) :
    Calls Try.prog 86 #[.agg #[.int .u64 x1, .int .u64 x2], .agg #[.int .u64 y1, .int .u64 y2]] w fun e w' => e = .returned (.tuple #[.agg #[.int .u64 0, .int .u64 0], .int .i64 2]) ∧ Below w.heap.size w w' := by
  obtain ⟨fa, rfl, rfl⟩ := ha
  obtain ⟨fb, rfl, rfl⟩ := hb
  have r1 := fun w => run_add (loN a) (loN b) 0 (by omega) w
  have r2 := fun w => run_add (hiN a) (hiN b) (car64 (loN a) (loN b) 0) (car_le (loN_word a) (loN_word b) (by omega)) w
  rw [add_car1 fa fb h, Int.natCast_one] at r2
  rw [Int.natCast_zero] at r1
  clear fa fb h
  generalize car64 (loN a) (loN b) 0 = c at *
  generalize sum64 (loN a) (loN b) 0 = s1 at *
  generalize sum64 (hiN a) (hiN b) c = s2 at *
  go_enter Try.func86, Try.ntmps86
  go_wp2
  exact bodyPost_ret (v := .tuple #[.agg #[.int .u64 0, .int .u64 0], .int .i64 2]) (by simp [results, Try.results86, go_sem]) rfl ⟨rfl, (((Below.refl _ _).alloc (Nat.le_refl _) _).alloc (by simp) _).alloc (by simp; omega) _⟩

set_option maxHeartbeats 400000 in
theorem cmp_any (x1 x2 y1 y2 : Int) (w : World) (a b : Nat) (ha : IsW a x1 x2) (hb : IsW b y1 y2) :
    Calls Try.prog 71 #[.agg #[.int .u64 x1, .int .u64 x2], .agg #[.int .u64 y1, .int .u64 y2]] w fun e w' => e = .returned (.int .i64 (cmpN a b)) ∧ Below w.heap.size w w' := by
  obtain ⟨fa, rfl, rfl⟩ := ha
  obtain ⟨fb, rfl, rfl⟩ := hb
  rw [cmpN_words a b]
  by_cases h : hiN a = hiN b
  · rw [if_pos h]
    have h1 : ((hiN a : Int) != (hiN b : Int)) = false := by rw [h]; simp
    clear h fa fb
    go_enter Try.func71, Try.ntmps71
    go_wp2_with (go_at_call 93; refine (cmpWord_any _ _ _).mono ?_; rintro e w' ⟨rfl, rfl⟩)
    go_ret
    exact ⟨rfl, ((Below.refl _ _).alloc (Nat.le_refl _) _).alloc (by simp) _⟩
  · rw [if_neg h]
    have h1 : ((hiN a : Int) != (hiN b : Int)) = true := by simp; omega
    clear h fa fb
    go_enter Try.func71, Try.ntmps71
    go_wp2_with (go_at_call 93; refine (cmpWord_any _ _ _).mono ?_; rintro e w' ⟨rfl, rfl⟩)
    go_ret
    exact ⟨rfl, ((Below.refl _ _).alloc (Nat.le_refl _) _).alloc (by simp) _⟩

set_option maxHeartbeats 400000 in
theorem len_any (x1 x2 : Int) (w : World) (a : Nat) (ha : IsW a x1 x2) :
    Calls Try.prog 72 #[.agg #[.int .u64 x1, .int .u64 x2]] w fun e w' => e = .returned (.int .i64 (bitLen a)) ∧ Below w.heap.size w w' := by
  obtain ⟨fa, rfl, rfl⟩ := ha
  by_cases h : hiN a = 0
  · have h1 : ((hiN a : Int) != 0) = false := by rw [h]; rfl
    have e : Hid (loN a = a) := loN_of_word (word_of_hi h)
    have f := loN_word a
    clear h fa
    go_enter Try.func72, Try.ntmps72
    go_wp2_with (go_at_call 94; refine (len64_w _ _ f).mono ?_; rintro e w' ⟨rfl, rfl⟩)
    go_ret
    exact ⟨by rw [show bitLen a = bitLen (loN a) by rw [e.out]]; rfl, (Below.refl _ _).alloc (Nat.le_refl _) _⟩
  · have h1 : ((hiN a : Int) != 0) = true := by simp; omega
    have f := hiN_word fa
    have b := bitLen_word f
    have e : Hid (bitLen a = 64 + bitLen (hiN a)) := bitLen_hi h
    clear h fa
    go_enter Try.func72, Try.ntmps72
    go_wp2_with (go_at_call 94; refine (len64_w _ _ f).mono ?_; rintro e w' ⟨rfl, rfl⟩)
    go_ret
    exact ⟨by rw [e.out]; rfl, (Below.refl _ _).alloc (Nat.le_refl _) _⟩

set_option maxHeartbeats 400000 in
theorem shl_arg (x1 x2 n : Int) (w : World) (h : n < 0 ∨ 127 < n) :
    Calls Try.prog 73 #[.agg #[.int .u64 x1, .int .u64 x2], .int .i64 n] w fun e w' => e = .returned (.tuple #[.agg #[.int .u64 0, .int .u64 0], .int .i64 1]) ∧ Below w.heap.size w w' := by
  go_enter Try.func73, Try.ntmps73
  go_wp2_with (go_at_call 95; refine (isShift_no _ _ h).mono ?_; rintro e w' ⟨rfl, rfl⟩)
  exact bodyPost_ret (v := .tuple #[.agg #[.int .u64 0, .int .u64 0], .int .i64 1]) (by simp [results, Try.results73, go_sem]) rfl ⟨rfl, ((Below.refl _ _).alloc (Nat.le_refl _) _).alloc (by simp) _⟩
set_option maxHeartbeats 400000 in
theorem shl_large (x1 x2 : Int) (n : Nat) (w : World) (a : Nat) (ha : IsW a x1 x2) (hn : n ≤ 127) (h : ¬ Fits (a * 2 ^ n)) :
    Calls Try.prog 73 #[.agg #[.int .u64 x1, .int .u64 x2], .int .i64 n] w fun e w' => e = .returned (.tuple #[.agg #[.int .u64 0, .int .u64 0], .int .i64 2]) ∧ Below w.heap.size w w' := by
  have b := bitLen_fits ha.fits
  have hb : 128 < bitLen a + n := by
    have h0 : a ≠ 0 := by rintro rfl; exact h (by rw [Nat.zero_mul]; unfold Fits; omega)
    have := mt (fits_shl (n := n) h0).2 h
    omega
  clear h
  go_enter Try.func73, Try.ntmps73
  go_wp2_with (first | (go_at_call 95; refine (isShift_yes _ _ (by omega) (by omega)).mono ?_; rintro e w' ⟨rfl, rfl⟩) | (go_at_call 72; refine (len_any _ _ _ _ ha).mono ?_; rintro e w1 ⟨rfl, hb1⟩; obtain ⟨hc, hf⟩ := bcell hb1; have hz := hb1.size))
  exact bodyPost_ret (v := .tuple #[.agg #[.int .u64 0, .int .u64 0], .int .i64 2]) (by simp [results, Try.results73, go_sem, hc]) rfl ⟨rfl, (((((Below.refl _ _).alloc (Nat.le_refl _) _).alloc (by simp) _).trans (hb1.mono (by simp; omega))).setCell (by simp) _).setCell (by simp) _⟩
end Go.Proofs.Ytlfhcjohkpdkoaa
