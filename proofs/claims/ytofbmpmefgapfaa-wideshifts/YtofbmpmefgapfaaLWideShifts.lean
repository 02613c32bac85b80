/- hwkeep.WideShifts returns true for every number of 128 bits and every two integers. No condition. -/
import Derived.Test.YtofbmpmefgapfaaFrame
import Derived.Test.YtofbmpmefgapfaaH1
namespace Go.Proofs.Ytofbmpmefgapfaa
open Go.ChangeShapes Go.WideShapes Go.ChangeAt Go.RowKit Go.Joins
theorem ws_const (w : World) : Calls Try.prog 24 #[.agg #[.int .u64 3, .int .u64 0], .int .i64 65] w fun e w' => e = .returned (.tuple #[.agg #[.int .u64 0, .int .u64 1], .int .i64 0]) ∧ Below w.heap.size w w' := by
  have k0 : IsW (3 * 18446744073709551616) 3 0 := isW_hi (x := 3) (by unfold Word; omega)
  have c := shr_e 3 0 65 65 w (3 * 18446744073709551616) 1 k0 rfl (by omega) (by decide)
  rw [show hiN 1 = 0 by unfold hiN; omega, show loN 1 = 1 by unfold loN; omega] at c
  exact c
set_option maxRecDepth 100000 in
set_option maxHeartbeats 4000000 in
theorem WideShifts_fits (a : Nat) (fa : Fits a) (n1 n2 : Int) (hf : Fits (a * 2 ^ withinN n1 64)) (w : World) :
    Calls Try.prog 8 #[.agg #[.int .u64 (hiN a), .int .u64 (loN a)], .int .i64 n1, .int .i64 n2] w fun e w' => e = .returned (.bool true) ∧ Below w.heap.size w w' := by
  have bel0 : Below w.heap.size w (w.alloc (.cells #[.int .u64 (hiN a), .int .u64 (loN a)] 24)) := (Below.refl _ _).alloc (Nat.le_refl _) _
  have A := Pair.new w (.int .u64 (hiN a)) (.int .u64 (loN a)) 24
  have ln := withinN_lt n1 (m := 64) (by omega)
  have lm := withinN_lt n2 (m := 64) (by omega)
  have ba := bitLen_fits fa
  have K1 := within_c n1 64
  have K2 := within_c n2 64
  have ia := isW_self fa
  have i1 : IsW 1 (hiN 1) (loN 1) := isW_self (by unfold Fits; omega)
  have f1 : Fits (1 * 2 ^ withinN n1 64) := by
    have h := Nat.pow_lt_pow_right (a := 2) (by omega) ln
    unfold Fits; omega
  have E1 := Lib.hid (show ∀ w, Calls _ _ _ w _ from fun w => K1 w 64 rfl (by omega) (by omega))
  have E2 := Lib.hid (show ∀ w, Calls _ _ _ w _ from fun w => K2 w 64 rfl (by omega) (by omega))
  clear K1 K2
  generalize withinN n1 64 = n at *
  generalize withinN n2 64 = m at *
  have hl : a = 0 ∨ bitLen a + n ≤ 128 := by
    by_cases h0 : a = 0
    · exact .inl h0
    · exact .inr ((fits_shl h0).1 hf)
  have HL := Lib.hid hl
  clear hl
  obtain ⟨p, hp⟩ : ∃ p, 1 * 2 ^ n = p := ⟨_, rfl⟩
  obtain ⟨u, hu⟩ : ∃ u, a * 2 ^ n = u := ⟨_, rfl⟩
  obtain ⟨x, hx⟩ : ∃ x, a / 2 ^ n = x := ⟨_, rfl⟩
  obtain ⟨y, hy⟩ : ∃ y, x / 2 ^ m = y := ⟨_, rfl⟩
  have H1 : Hid (a * p = u) := by show _ = _; rw [← hp, ← hu, Nat.one_mul]
  have H2 : Hid (u / 2 ^ n = a) := by show _ = _; rw [← hu]; exact Nat.mul_div_cancel _ (Nat.two_pow_pos n)
  have H3 : Hid (a / 2 ^ (n + m) = y) := by show _ = _; rw [← hy, ← hx, Nat.div_div_eq_div_mul, Nat.pow_add]
  have H4 : Hid (((n : Int) + (m : Int)) = ((n + m : Nat) : Int)) := (Int.natCast_add n m).symm
  have fd : Fits x := by rw [← hx]; exact fits_mono fa (Nat.div_le_self _ _)
  rw [hp] at f1
  rw [hu] at hf
  have j1 := isW_self f1
  have j2 := isW_self hf
  have j3 := isW_self fd
  have HP := Lib.hid hp
  have HU := Lib.hid hu
  have HX := Lib.hid hx
  have HY := Lib.hid hy
  clear hp hu hx hy
  go_enter Try.func8, Try.ntmps8
  go_wp2_with fail
  with_reducible refine (ws_const _).mono ?_
  rintro e w1 ⟨rfl, hb1⟩
  replace A := Pair.below A hb1
  replace bel0 := bel_call bel0 (Nat.le_refl _) hb1
  clear hb1
  have Ac := A.1
  have Ad := A.2.1
  have Al := A.lt
  go_wp2_with fail
  with_reducible refine (E1.out _).mono ?_
  rintro e w' ⟨rfl, rfl⟩
  go_wp2_with fail
  with_reducible refine (E2.out _).mono ?_
  rintro e w' ⟨rfl, rfl⟩
  go_wp2_with fail
  with_reducible refine (shl_e _ _ _ n _ a u ia rfl (by omega) HU.out hf).mono ?_
  rintro e w2 ⟨rfl, hb2⟩
  replace A := Pair.up' (o := .cells #[.int .u64 0, .int .u64 1] 24) A
  have X := Pair.new w1 (.int .u64 0) (.int .u64 1) 24
  replace bel0 := bel_new bel0 (Nat.le_refl _) (.cells #[.int .u64 0, .int .u64 1] 24)
  replace A := Pair.below A hb2
  replace X := Pair.below X hb2
  replace bel0 := bel_call bel0 (Nat.le_refl _) hb2
  clear hb2
  clear Ac Ad Al
  clear X
  have Ac := A.1
  have Ad := A.2.1
  have Al := A.lt
  go_wp2_with fail
  with_reducible refine (num_c _ _ 1 lit1 (by omega)).mono ?_
  rintro e w3 ⟨rfl, hb3⟩
  replace A := Pair.up' (o := .cells #[.int .u64 (hiN u), .int .u64 (loN u)] 24) A
  have U := Pair.new w2 (.int .u64 (hiN u)) (.int .u64 (loN u)) 24
  replace bel0 := bel_new bel0 (Nat.le_refl _) (.cells #[.int .u64 (hiN u), .int .u64 (loN u)] 24)
  replace A := Pair.below A hb3
  replace U := Pair.below U hb3
  replace bel0 := bel_call bel0 (Nat.le_refl _) hb3
  clear hb3
  clear Ac Ad Al
  go_wp2_with fail
  with_reducible refine (shl_e _ _ _ n _ 1 p i1 rfl (by omega) HP.out f1).mono ?_
  rintro e w4 ⟨rfl, hb4⟩
  replace A := Pair.below A hb4
  replace U := Pair.below U hb4
  replace bel0 := bel_call bel0 (Nat.le_refl _) hb4
  clear hb4
  have Ac := A.1
  have Ad := A.2.1
  have Al := A.lt
  have Uc := U.1
  have Ud := U.2.1
  have Ul := U.lt
  go_wp2_with fail
  with_reducible refine (times_e _ _ _ _ _ a p u ia j1 H1.out hf).mono ?_
  rintro e w5 ⟨rfl, hb5⟩
  replace A := Pair.up' (o := .cells #[.int .u64 (hiN p), .int .u64 (loN p)] 24) A
  replace U := Pair.up' (o := .cells #[.int .u64 (hiN p), .int .u64 (loN p)] 24) U
  have P := Pair.new w4 (.int .u64 (hiN p)) (.int .u64 (loN p)) 24
  replace bel0 := bel_new bel0 (Nat.le_refl _) (.cells #[.int .u64 (hiN p), .int .u64 (loN p)] 24)
  replace A := Pair.below A hb5
  replace U := Pair.below U hb5
  replace P := Pair.below P hb5
  replace bel0 := bel_call bel0 (Nat.le_refl _) hb5
  clear hb5
  clear Ac Ad Al Uc Ud Ul
  have Ac := A.1
  have Ad := A.2.1
  have Al := A.lt
  have Uc := U.1
  have Ud := U.2.1
  have Ul := U.lt
  have Pc := P.1
  have Pd := P.2.1
  have Pl := P.lt
  go_upto_region 8 with (fail)
  replace A := Pair.up' (o := .cells #[.int .u64 (hiN u), .int .u64 (loN u)] 24) A
  replace U := Pair.up' (o := .cells #[.int .u64 (hiN u), .int .u64 (loN u)] 24) U
  replace P := Pair.up' (o := .cells #[.int .u64 (hiN u), .int .u64 (loN u)] 24) P
  have T := Pair.new w5 (.int .u64 (hiN u)) (.int .u64 (loN u)) 24
  replace bel0 := bel_new bel0 (Nat.le_refl _) (.cells #[.int .u64 (hiN u), .int .u64 (loN u)] 24)
  clear Ac Ad Al Uc Ud Ul Pc Pd Pl
  generalize (w5).alloc (.cells #[.int .u64 (hiN u), .int .u64 (loN u)] 24) = v at *
  clear P
  have Ac := A.1
  have Ad := A.2.1
  have Al := A.lt
  have Uc := U.1
  have Ud := U.2.1
  have Ul := U.lt
  have Tc := T.1
  have Td := T.2.1
  have Tl := T.lt
  go_cut [81] (fun s81 wx => s81 = .bool false ∧ Pair wx w.heap.size (.int .u64 (hiN a)) (.int .u64 (loN a)) ∧ Pair wx w2.heap.size (.int .u64 (hiN u)) (.int .u64 (loN u)) ∧ Below w.heap.size w wx)
  case first =>
    by_cases h0 : hiN a = 0 ∧ loN a = 0
    · have q1 : ((hiN a : Int) == 0) = true := by simp [h0.1]
      have q2 : ((loN a : Int) == 0) = true := by simp [h0.2]
      clear h0
      go_wp2_with fail
      go_meet
      case rel => exact ⟨rfl, A, U, bel0⟩
    · have hb : bitLen a + n ≤ 128 := by
        rcases HL.out with h | h
        · subst h; exact absurd ⟨by unfold hiN; omega, by unfold loN; omega⟩ h0
        · exact h
      by_cases h1 : hiN a = 0
      · have q1 : ((hiN a : Int) == 0) = true := by simp [h1]
        have q2 : ((loN a : Int) == 0) = false := by simp; omega
        clear h0 h1
        go_wp2_with fail
        with_reducible refine (len_any _ _ _ a ia).mono ?_
        rintro e w6 ⟨rfl, hb6⟩
        replace A := Pair.below A hb6
        replace U := Pair.below U hb6
        replace T := Pair.below T hb6
        replace bel0 := bel_call bel0 (Nat.le_refl _) hb6
        clear hb6
        clear Ac Ad Al Uc Ud Ul Tc Td Tl
        go_wp2_with fail
        go_meet
        case rel => exact ⟨congrArg Value.bool (by simp; omega), A, U, bel0⟩
      · have q1 : ((hiN a : Int) == 0) = false := by simp; omega
        clear h0 h1
        go_wp2_with fail
        with_reducible refine (len_any _ _ _ a ia).mono ?_
        rintro e w6 ⟨rfl, hb6⟩
        replace A := Pair.below A hb6
        replace U := Pair.below U hb6
        replace T := Pair.below T hb6
        replace bel0 := bel_call bel0 (Nat.le_refl _) hb6
        clear hb6
        clear Ac Ad Al Uc Ud Ul Tc Td Tl
        go_wp2_with fail
        go_meet
        case rel => exact ⟨congrArg Value.bool (by simp; omega), A, U, bel0⟩
  case rest =>
    clear A U T bel0 Ac Ad Al Uc Ud Ul Tc Td Tl
    obtain ⟨rfl, A, U, bel0⟩ := hcut
    have Ac := A.1
    have Ad := A.2.1
    have Al := A.lt
    have Uc := U.1
    have Ud := U.2.1
    have Ul := U.lt
    go_wp2_with fail
    with_reducible refine (shr_e _ _ _ n _ u a j2 rfl (by omega) H2.out).mono ?_
    rintro e w7 ⟨rfl, hb7⟩
    replace A := Pair.below A hb7
    replace U := Pair.below U hb7
    replace bel0 := bel_call bel0 (Nat.le_refl _) hb7
    clear hb7
    clear Ac Ad Al Uc Ud Ul
    clear U
    have Ac := A.1
    have Ad := A.2.1
    have Al := A.lt
    go_wp2_with fail
    with_reducible refine (shr_e _ _ _ n _ a x ia rfl (by omega) HX.out).mono ?_
    rintro e w8 ⟨rfl, hb8⟩
    replace A := Pair.up' (o := .cells #[.int .u64 (hiN a), .int .u64 (loN a)] 24) A
    have D := Pair.new w7 (.int .u64 (hiN a)) (.int .u64 (loN a)) 24
    replace bel0 := bel_new bel0 (Nat.le_refl _) (.cells #[.int .u64 (hiN a), .int .u64 (loN a)] 24)
    replace A := Pair.below A hb8
    replace D := Pair.below D hb8
    replace bel0 := bel_call bel0 (Nat.le_refl _) hb8
    clear hb8
    clear Ac Ad Al
    clear D
    have Ac := A.1
    have Ad := A.2.1
    have Al := A.lt
    go_wp2_with fail
    with_reducible refine (shr_e _ _ _ m _ x y j3 rfl (by omega) HY.out).mono ?_
    rintro e w9 ⟨rfl, hb9⟩
    replace A := Pair.up' (o := .cells #[.int .u64 (hiN x), .int .u64 (loN x)] 24) A
    have X := Pair.new w8 (.int .u64 (hiN x)) (.int .u64 (loN x)) 24
    replace bel0 := bel_new bel0 (Nat.le_refl _) (.cells #[.int .u64 (hiN x), .int .u64 (loN x)] 24)
    replace A := Pair.below A hb9
    replace X := Pair.below X hb9
    replace bel0 := bel_call bel0 (Nat.le_refl _) hb9
    clear hb9
    clear Ac Ad Al
    have Ac := A.1
    have Ad := A.2.1
    have Al := A.lt
    have Xc := X.1
    have Xd := X.2.1
    have Xl := X.lt
    go_wp2_with fail
    with_reducible refine (shr_e _ _ _ (n + m) _ a y ia H4.out (by omega) H3.out).mono ?_
    rintro e w10 ⟨rfl, hb10⟩
    replace A := Pair.up' (o := .cells #[.int .u64 (hiN y), .int .u64 (loN y)] 24) A
    replace X := Pair.up' (o := .cells #[.int .u64 (hiN y), .int .u64 (loN y)] 24) X
    have Y := Pair.new w9 (.int .u64 (hiN y)) (.int .u64 (loN y)) 24
    replace bel0 := bel_new bel0 (Nat.le_refl _) (.cells #[.int .u64 (hiN y), .int .u64 (loN y)] 24)
    replace A := Pair.below A hb10
    replace X := Pair.below X hb10
    replace Y := Pair.below Y hb10
    replace bel0 := bel_call bel0 (Nat.le_refl _) hb10
    clear hb10
    clear Ac Ad Al Xc Xd Xl
    have Ac := A.1
    have Ad := A.2.1
    have Al := A.lt
    have Xc := X.1
    have Xd := X.2.1
    have Xl := X.lt
    have Yc := Y.1
    have Yd := Y.2.1
    have Yl := Y.lt
    go_wp2
    go_ret
    exact ⟨rfl, bel_new bel0 (Nat.le_refl _) _⟩
set_option maxRecDepth 100000 in
set_option maxHeartbeats 4000000 in
theorem WideShifts_not (a : Nat) (fa : Fits a) (n1 n2 : Int) (hf : ¬ Fits (a * 2 ^ withinN n1 64)) (w : World) :
    Calls Try.prog 8 #[.agg #[.int .u64 (hiN a), .int .u64 (loN a)], .int .i64 n1, .int .i64 n2] w fun e w' => e = .returned (.bool true) ∧ Below w.heap.size w w' := by
  have bel0 : Below w.heap.size w (w.alloc (.cells #[.int .u64 (hiN a), .int .u64 (loN a)] 24)) := (Below.refl _ _).alloc (Nat.le_refl _) _
  have A := Pair.new w (.int .u64 (hiN a)) (.int .u64 (loN a)) 24
  have ln := withinN_lt n1 (m := 64) (by omega)
  have lm := withinN_lt n2 (m := 64) (by omega)
  have ba := bitLen_fits fa
  have K1 := within_c n1 64
  have K2 := within_c n2 64
  have ia := isW_self fa
  have i1 : IsW 1 (hiN 1) (loN 1) := isW_self (by unfold Fits; omega)
  have f1 : Fits (1 * 2 ^ withinN n1 64) := by
    have h := Nat.pow_lt_pow_right (a := 2) (by omega) ln
    unfold Fits; omega
  have E1 := Lib.hid (show ∀ w, Calls _ _ _ w _ from fun w => K1 w 64 rfl (by omega) (by omega))
  have E2 := Lib.hid (show ∀ w, Calls _ _ _ w _ from fun w => K2 w 64 rfl (by omega) (by omega))
  clear K1 K2
  generalize withinN n1 64 = n at *
  generalize withinN n2 64 = m at *
  have h0 : a ≠ 0 := by rintro rfl; exact hf (by rw [Nat.zero_mul]; unfold Fits; omega)
  have hb : ¬ bitLen a + n ≤ 128 := fun h => hf ((fits_shl h0).2 h)
  obtain ⟨p, hp⟩ : ∃ p, 1 * 2 ^ n = p := ⟨_, rfl⟩
  obtain ⟨x, hx⟩ : ∃ x, a / 2 ^ n = x := ⟨_, rfl⟩
  obtain ⟨y, hy⟩ : ∃ y, x / 2 ^ m = y := ⟨_, rfl⟩
  have hf2 : ¬ Fits (a * p) := by rw [← hp, Nat.one_mul]; exact hf
  have H3 : Hid (a / 2 ^ (n + m) = y) := by show _ = _; rw [← hy, ← hx, Nat.div_div_eq_div_mul, Nat.pow_add]
  have H4 : Hid (((n : Int) + (m : Int)) = ((n + m : Nat) : Int)) := (Int.natCast_add n m).symm
  have fd : Fits x := by rw [← hx]; exact fits_mono fa (Nat.div_le_self _ _)
  rw [hp] at f1
  have j1 := isW_self f1
  have j3 := isW_self fd
  have HP := Lib.hid hp
  have HX := Lib.hid hx
  have HY := Lib.hid hy
  clear hp hx hy
  have HF := Lib.hid hf
  have HF2 := Lib.hid hf2
  clear hf hf2
  go_enter Try.func8, Try.ntmps8
  go_wp2_with fail
  with_reducible refine (ws_const _).mono ?_
  rintro e w1 ⟨rfl, hb1⟩
  replace A := Pair.below A hb1
  replace bel0 := bel_call bel0 (Nat.le_refl _) hb1
  clear hb1
  have Ac := A.1
  have Ad := A.2.1
  have Al := A.lt
  go_wp2_with fail
  with_reducible refine (E1.out _).mono ?_
  rintro e w' ⟨rfl, rfl⟩
  go_wp2_with fail
  with_reducible refine (E2.out _).mono ?_
  rintro e w' ⟨rfl, rfl⟩
  go_wp2_with fail
  with_reducible refine (shl_large _ _ n _ a ia (by omega) HF.out).mono ?_
  rintro e w2 ⟨rfl, hb2⟩
  replace A := Pair.up' (o := .cells #[.int .u64 0, .int .u64 1] 24) A
  have X := Pair.new w1 (.int .u64 0) (.int .u64 1) 24
  replace bel0 := bel_new bel0 (Nat.le_refl _) (.cells #[.int .u64 0, .int .u64 1] 24)
  replace A := Pair.below A hb2
  replace X := Pair.below X hb2
  replace bel0 := bel_call bel0 (Nat.le_refl _) hb2
  clear hb2
  clear Ac Ad Al
  clear X
  have Ac := A.1
  have Ad := A.2.1
  have Al := A.lt
  go_wp2_with fail
  with_reducible refine (num_c _ _ 1 lit1 (by omega)).mono ?_
  rintro e w3 ⟨rfl, hb3⟩
  replace A := Pair.up' (o := .cells #[.int .u64 0, .int .u64 0] 24) A
  have U := Pair.new w2 (.int .u64 0) (.int .u64 0) 24
  replace bel0 := bel_new bel0 (Nat.le_refl _) (.cells #[.int .u64 0, .int .u64 0] 24)
  replace A := Pair.below A hb3
  replace U := Pair.below U hb3
  replace bel0 := bel_call bel0 (Nat.le_refl _) hb3
  clear hb3
  clear Ac Ad Al
  go_wp2_with fail
  with_reducible refine (shl_e _ _ _ n _ 1 p i1 rfl (by omega) HP.out f1).mono ?_
  rintro e w4 ⟨rfl, hb4⟩
  replace A := Pair.below A hb4
  replace U := Pair.below U hb4
  replace bel0 := bel_call bel0 (Nat.le_refl _) hb4
  clear hb4
  have Ac := A.1
  have Ad := A.2.1
  have Al := A.lt
  have Uc := U.1
  have Ud := U.2.1
  have Ul := U.lt
  go_wp2_with fail
  with_reducible refine (times_large _ _ _ _ _ a p ia j1 HF2.out).mono ?_
  rintro e w5 ⟨rfl, hb5⟩
  replace A := Pair.up' (o := .cells #[.int .u64 (hiN p), .int .u64 (loN p)] 24) A
  replace U := Pair.up' (o := .cells #[.int .u64 (hiN p), .int .u64 (loN p)] 24) U
  have P := Pair.new w4 (.int .u64 (hiN p)) (.int .u64 (loN p)) 24
  replace bel0 := bel_new bel0 (Nat.le_refl _) (.cells #[.int .u64 (hiN p), .int .u64 (loN p)] 24)
  replace A := Pair.below A hb5
  replace U := Pair.below U hb5
  replace P := Pair.below P hb5
  replace bel0 := bel_call bel0 (Nat.le_refl _) hb5
  clear hb5
  clear Ac Ad Al Uc Ud Ul
  have Ac := A.1
  have Ad := A.2.1
  have Al := A.lt
  have Uc := U.1
  have Ud := U.2.1
  have Ul := U.lt
  have Pc := P.1
  have Pd := P.2.1
  have Pl := P.lt
  go_upto_region 8 with (fail)
  replace A := Pair.up' (o := .cells #[.int .u64 0, .int .u64 0] 24) A
  replace U := Pair.up' (o := .cells #[.int .u64 0, .int .u64 0] 24) U
  replace P := Pair.up' (o := .cells #[.int .u64 0, .int .u64 0] 24) P
  have T := Pair.new w5 (.int .u64 0) (.int .u64 0) 24
  replace bel0 := bel_new bel0 (Nat.le_refl _) (.cells #[.int .u64 0, .int .u64 0] 24)
  clear Ac Ad Al Uc Ud Ul Pc Pd Pl
  generalize (w5).alloc (.cells #[.int .u64 0, .int .u64 0] 24) = v at *
  clear P
  have Ac := A.1
  have Ad := A.2.1
  have Al := A.lt
  have Uc := U.1
  have Ud := U.2.1
  have Ul := U.lt
  have Tc := T.1
  have Td := T.2.1
  have Tl := T.lt
  go_cut [81] (fun s81 wx => s81 = .bool false ∧ Pair wx w.heap.size (.int .u64 (hiN a)) (.int .u64 (loN a)) ∧ Below w.heap.size w wx)
  case first =>
    have hb' : ¬ (bitLen a : Int) + (n : Int) ≤ 128 := by omega
    by_cases h1 : hiN a = 0
    · have q1 : ((hiN a : Int) == 0) = true := by simp [h1]
      have q2 : ((loN a : Int) == 0) = false := by
        have := words a
        simp; omega
      clear h0 h1
      go_wp2_with fail
      with_reducible refine (len_any _ _ _ a ia).mono ?_
      rintro e w6 ⟨rfl, hb6⟩
      replace A := Pair.below A hb6
      replace U := Pair.below U hb6
      replace T := Pair.below T hb6
      replace bel0 := bel_call bel0 (Nat.le_refl _) hb6
      clear hb6
      clear Ac Ad Al Uc Ud Ul Tc Td Tl
      go_wp2_with fail
      go_meet
      case rel => exact ⟨congrArg Value.bool (by simp; omega), A, bel0⟩
    · have q1 : ((hiN a : Int) == 0) = false := by simp; omega
      clear h0 h1
      go_wp2_with fail
      with_reducible refine (len_any _ _ _ a ia).mono ?_
      rintro e w6 ⟨rfl, hb6⟩
      replace A := Pair.below A hb6
      replace U := Pair.below U hb6
      replace T := Pair.below T hb6
      replace bel0 := bel_call bel0 (Nat.le_refl _) hb6
      clear hb6
      clear Ac Ad Al Uc Ud Ul Tc Td Tl
      go_wp2_with fail
      go_meet
      case rel => exact ⟨congrArg Value.bool (by simp; omega), A, bel0⟩
  case rest =>
    clear A U T bel0 Ac Ad Al Uc Ud Ul Tc Td Tl
    obtain ⟨rfl, A, bel0⟩ := hcut
    have Ac := A.1
    have Ad := A.2.1
    have Al := A.lt
    go_wp2_with fail
    with_reducible refine (shr_e _ _ _ n _ a x ia rfl (by omega) HX.out).mono ?_
    rintro e w7 ⟨rfl, hb7⟩
    replace A := Pair.below A hb7
    replace bel0 := bel_call bel0 (Nat.le_refl _) hb7
    clear hb7
    clear Ac Ad Al
    have Ac := A.1
    have Ad := A.2.1
    have Al := A.lt
    go_wp2_with fail
    with_reducible refine (shr_e _ _ _ m _ x y j3 rfl (by omega) HY.out).mono ?_
    rintro e w8 ⟨rfl, hb8⟩
    replace A := Pair.up' (o := .cells #[.int .u64 (hiN x), .int .u64 (loN x)] 24) A
    have X := Pair.new w7 (.int .u64 (hiN x)) (.int .u64 (loN x)) 24
    replace bel0 := bel_new bel0 (Nat.le_refl _) (.cells #[.int .u64 (hiN x), .int .u64 (loN x)] 24)
    replace A := Pair.below A hb8
    replace X := Pair.below X hb8
    replace bel0 := bel_call bel0 (Nat.le_refl _) hb8
    clear hb8
    clear Ac Ad Al
    have Ac := A.1
    have Ad := A.2.1
    have Al := A.lt
    have Xc := X.1
    have Xd := X.2.1
    have Xl := X.lt
    go_wp2_with fail
    with_reducible refine (shr_e _ _ _ (n + m) _ a y ia H4.out (by omega) H3.out).mono ?_
    rintro e w9 ⟨rfl, hb9⟩
    replace A := Pair.up' (o := .cells #[.int .u64 (hiN y), .int .u64 (loN y)] 24) A
    replace X := Pair.up' (o := .cells #[.int .u64 (hiN y), .int .u64 (loN y)] 24) X
    have Y := Pair.new w8 (.int .u64 (hiN y)) (.int .u64 (loN y)) 24
    replace bel0 := bel_new bel0 (Nat.le_refl _) (.cells #[.int .u64 (hiN y), .int .u64 (loN y)] 24)
    replace A := Pair.below A hb9
    replace X := Pair.below X hb9
    replace Y := Pair.below Y hb9
    replace bel0 := bel_call bel0 (Nat.le_refl _) hb9
    clear hb9
    clear Ac Ad Al Xc Xd Xl
    have Ac := A.1
    have Ad := A.2.1
    have Al := A.lt
    have Xc := X.1
    have Xd := X.2.1
    have Xl := X.lt
    have Yc := Y.1
    have Yd := Y.2.1
    have Yl := Y.lt
    go_wp2
    go_ret
    exact ⟨rfl, bel_new bel0 (Nat.le_refl _) _⟩
theorem WideShifts_walk (x0 y0 : Int) (a : Nat) (ha : IsW a x0 y0) (n1 : Int) (_b1 : -9223372036854775808 ≤ n1 ∧ n1 ≤ 9223372036854775807) (n2 : Int) (_b2 : -9223372036854775808 ≤ n2 ∧ n2 ≤ 9223372036854775807) (w : World) :
    Calls Try.prog 8 #[.agg #[.int .u64 x0, .int .u64 y0], .int .i64 n1, .int .i64 n2] w fun e w' => e = .returned (.bool true) ∧ Below w.heap.size w w' := by
  obtain ⟨fa, rfl, rfl⟩ := ha
  by_cases hf : Fits (a * 2 ^ withinN n1 64)
  · exact WideShifts_fits a fa n1 n2 hf w
  · exact WideShifts_not a fa n1 n2 hf w
set_option maxRecDepth 100000 in
theorem WideShifts_lifted (os : Os) (started : os.Started) (H : Type) (enc : TypeId × Value → H) :
    ReturnsInHanded {} Try.checked os 8 .any (Rows.wideShiftsSpec.pre6 enc Try.prog Try.f8 Rows.wideShiftsRow.domain false) (Rows.wideShiftsSpec.post enc Try.prog Try.f8 false true false false) := by
  refine returnsInHanded_of_change (C := Try.checked) law_own started (by kernel_rfl) Try.func8
    (ChangeSpec.witness6 (enc := enc) (C := Try.checked) false ⟨#[], #[.agg #[.int .u64 0, .int .u64 0], .int .i64 0, .int .i64 0], []⟩ 8 (by kernel_rfl) (by kernel_rfl) (by kernel_rfl) (by kernel_rfl)) ?_
  intro W base args ds gs before hval0 hW hcnd _
  have hval : ∀ (j : Nat) t v, Try.f8.params[j]? = some t → args[j]? = some v → Value.okWide Try.prog W .any base t v := hval0
  have hW' := hW
  obtain ⟨p, q, hA0, hV, rfl, hfz, hnd⟩ := hW
  have hA : DataW.TrodAll enc Try.prog W 0 (fun _ => true) true Try.f8.params.toList args.toList ds p := hA0
  rw [Try.params8] at hA hval
  obtain ⟨v0, vs0, d0, ds0, p0, q0, hargs, rfl, rfl, h0, r0⟩ := trodAll_cons hA
  obtain ⟨v1, vs1, d1, ds1, p1, q1, rfl, rfl, rfl, h1, r1⟩ := trodAll_cons r0
  obtain ⟨v2, vs2, d2, ds2, p2, q2, rfl, rfl, rfl, h2, r2⟩ := trodAll_cons r1
  obtain ⟨rfl, rfl, rfl⟩ := trodAll_nil r2
  obtain rfl : args = #[v0, v1, v2] := by cases args; simp_all
  obtain ⟨rfl, rfl⟩ := trodVars_none hV
  obtain ⟨c0, e0, y0, z0, m0, rfl, rfl, rfl, hy0, hz0⟩ := open_agg2 Try.underlying24 (by kernel_rfl) law_cells (hval 0 24 v0 rfl rfl) h0
  obtain ⟨x0, f0, rfl, wx0⟩ := DataW.trod_int Try.underlying22 hy0
  obtain ⟨t0, g0, rfl, wt0⟩ := DataW.trod_int Try.underlying22 hz0
  simp at f0 g0
  subst f0 g0
  obtain ⟨A0, hw0⟩ := isW_of wx0 wt0
  obtain ⟨n1, rfl, rfl, rfl, wn1⟩ := open_int Try.underlying3 (hval 1 3 v1 rfl rfl) h1
  obtain ⟨n2, rfl, rfl, rfl, wn2⟩ := open_int Try.underlying3 (hval 2 3 v2 rfl rfl) h2
  clear hA0 hval0
  refine (WideShifts_walk x0 t0 A0 hw0 n1 (bounds_i64 wn1) n2 (bounds_i64 wn2) W).mono fun e W' ⟨he, bel⟩ => ?_
  subst he
  exact ⟨_, rfl, _, _, _, [], _, [], hW', trodAll_mk1 (shut_bool Try.underlying4 _), (trodAll_cons_mk (wide_reads wx0 wt0) (trodAll_cons_mk (shut_int Try.underlying3 wn1) (trodAll_cons_mk (shut_int Try.underlying3 wn2) trodAll_mk0))), rfl, bel.frame _, fun h => by cases h⟩
theorem WideShifts_holds : Rows.WideShiftsSaid :=
  OpenClaim.holds_of_wide 8 Try.f8 rfl rfl rfl rfl rfl rfl rfl ⟨rfl, rfl, rfl, rfl, rfl⟩ rfl rfl rfl rfl rfl (by kernel_rfl) Try.func8 (by kernel_rfl)
    (of_decide_eq_true (by kernel_rfl)) (by unfold Func.isWrapper; first | (rw [if_pos (by decide +kernel)]; kernel_rfl) | (rw [if_neg (by decide +kernel)]; exact ⟨rfl, rfl⟩))
    (fun os started H enc _ => WideShifts_lifted os started H enc)
end Go.Proofs.Ytofbmpmefgapfaa
