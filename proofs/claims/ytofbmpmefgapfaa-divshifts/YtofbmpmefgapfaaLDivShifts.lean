/- hwkeep.DivShifts returns true for every number of 128 bits and every integer. No condition. -/
import Derived.Test.YtofbmpmefgapfaaFrame
import Derived.Test.YtofbmpmefgapfaaD3
namespace Go.Proofs.Ytofbmpmefgapfaa
open Go.ChangeShapes Go.WideShapes Go.ChangeAt Go.RowKit Go.Joins
attribute [local go_sem ↓] Go.wp_at_zero Go.wp_at_succ
theorem k13a : 13 / 8 = 1 := by decide
theorem k13b : 13 % 8 = 5 := by decide
theorem fits_small {n : Nat} (h : n ≤ 1000000) : Fits n := by unfold Fits; omega
set_option maxRecDepth 100000 in
set_option maxHeartbeats 4000000 in
theorem DivShifts_walk (x0 y0 : Int) (a : Nat) (ha : IsW a x0 y0) (n1 : Int) (_b1 : -9223372036854775808 ≤ n1 ∧ n1 ≤ 9223372036854775807) (w : World) :
    Calls Try.prog 13 #[.agg #[.int .u64 x0, .int .u64 y0], .int .i64 n1] w fun e w' => e = .returned (.bool true) ∧ Below w.heap.size w w' := by
  have bel0 : Below w.heap.size w (w.alloc (.cells #[.int .u64 x0, .int .u64 y0] 24)) := (Below.refl _ _).alloc (Nat.le_refl _) _
  have A := Pair.new w (.int .u64 x0) (.int .u64 y0) 24
  have ln := withinN_lt n1 (m := 128) (by omega)
  have fa := ha.fits
  have E1 := Lib.hid (fun w => within_c n1 128 w 128 rfl (by omega) (by omega))
  have f1 : Fits (1 * 2 ^ withinN n1 128) := by
    have h := Nat.pow_lt_pow_right (a := 2) (by omega) ln
    unfold Fits; omega
  generalize withinN n1 128 = n at *
  obtain ⟨p, hp⟩ : ∃ p, 1 * 2 ^ n = p := ⟨_, rfl⟩
  have hp2 : 2 ^ n = p := by rw [← hp, Nat.one_mul]
  have p0 : 0 < p := by rw [← hp2]; exact Nat.two_pow_pos n
  obtain ⟨q, hq⟩ : ∃ q, a / p = q := ⟨_, rfl⟩
  obtain ⟨r, hr⟩ : ∃ r, a % p = r := ⟨_, rfl⟩
  obtain ⟨u, hu⟩ : ∃ u, q * 2 ^ n = u := ⟨_, rfl⟩
  have hd : a / 2 ^ n = q := by rw [hp2]; exact hq
  have hs : a = r + u := by
    rw [← hu, hp2, ← hq, ← hr]
    have := Nat.div_add_mod' a p
    omega
  have fu : Fits u := fits_mono fa (by omega)
  have fq : Fits q := by rw [← hq]; exact fits_mono fa (Nat.div_le_self _ _)
  rw [hp] at f1
  have HP := Lib.hid hp
  have HQ := Lib.hid hq
  have HR := Lib.hid hr
  have HU := Lib.hid hu
  have HD := Lib.hid hd
  have HS := Lib.hid hs
  have P0 := Lib.hid p0
  have i1 : IsW 1 (hiN 1) (loN 1) := isW_self (fits_small (by omega))
  have ip := isW_self f1
  have iq := isW_self fq
  have iu := isW_self fu
  have i13 : IsW 13 (hiN 13) (loN 13) := isW_self (fits_small (by omega))
  have i8 : IsW 8 (hiN 8) (loN 8) := isW_self (fits_small (by omega))
  clear hp hp2 p0 hq hr hu hd hs
  go_enter Try.func13, Try.ntmps13
  go_wp2_with fail
  with_reducible refine (num_c _ _ 13 lit13 (by omega)).mono ?_
  rintro e w1 ⟨rfl, hb1⟩
  replace A := Pair.below A hb1
  replace bel0 := bel_call bel0 (Nat.le_refl _) hb1
  clear hb1
  go_wp2_with fail
  with_reducible refine (num_c _ _ 8 lit8 (by omega)).mono ?_
  rintro e w2 ⟨rfl, hb2⟩
  replace A := Pair.below A hb2
  replace bel0 := bel_call bel0 (Nat.le_refl _) hb2
  clear hb2
  go_wp2_with fail
  with_reducible refine (div_e _ _ _ _ _ 13 8 1 5 i13 i8 (by omega) k13a k13b).mono ?_
  rintro e w3 ⟨rfl, hb3⟩
  replace A := Pair.below A hb3
  replace bel0 := bel_call bel0 (Nat.le_refl _) hb3
  clear hb3
  have Ac := A.1
  have Ad := A.2.1
  have Al := A.lt
  go_wp2_with fail
  replace A := Pair.up' (o := .cells #[.int .u64 (hiN 1), .int .u64 (loN 1)] 24) A
  have Q := Pair.new w3 (.int .u64 (hiN 1)) (.int .u64 (loN 1)) 24
  replace bel0 := bel_new bel0 (Nat.le_refl _) (.cells #[.int .u64 (hiN 1), .int .u64 (loN 1)] 24)
  replace A := Pair.up' (o := .cells #[.int .u64 (hiN 5), .int .u64 (loN 5)] 24) A
  replace Q := Pair.up' (o := .cells #[.int .u64 (hiN 5), .int .u64 (loN 5)] 24) Q
  have R := Pair.new' ((w3).alloc (.cells #[.int .u64 (hiN 1), .int .u64 (loN 1)] 24)) (w3.heap.size + 1) (.int .u64 (hiN 5)) (.int .u64 (loN 5)) 24 (by simp)
  replace bel0 := bel_new bel0 (Nat.le_refl _) (.cells #[.int .u64 (hiN 5), .int .u64 (loN 5)] 24)
  clear Ac Ad Al
  generalize ((w3).alloc (.cells #[.int .u64 (hiN 1), .int .u64 (loN 1)] 24)).alloc (.cells #[.int .u64 (hiN 5), .int .u64 (loN 5)] 24) = v at *
  have r0 := R.1
  have r1 := R.2.1
  go_region_held3 (fun w' => w'.cell? ⟨w3.heap.size + 1, 0, none⟩ = some (.int .u64 (hiN 5)) ∧ w'.cell? ⟨w3.heap.size + 1, 1, none⟩ = some (.int .u64 (loN 5))) (((try dsimp only); (refine ⟨?_, ?_⟩ <;> (repeat (first | with_reducible assumption | with_reducible refine cell_drew ?_ | with_reducible refine cell_below hb1 ?_))))) (first | (go_at_call 33; refine (num_c _ _ 5 lit5 (by omega)).mono ?_; rintro e v2 ⟨rfl, hb1⟩))
  replace A := Pair.below (Pair.drew A) hb1
  replace bel0 := bel_call bel0.drew (Nat.le_refl _) hb1
  clear Q R r0 r1 hb1
  have Ac := A.1
  have Ad := A.2.1
  have Al := A.lt
  go_wp2_with fail
  with_reducible refine (E1.out _).mono ?_
  rintro e w' ⟨rfl, rfl⟩
  go_wp2_with fail
  with_reducible refine (num_c _ _ 1 lit1 (by omega)).mono ?_
  rintro e w4 ⟨rfl, hb4⟩
  replace A := Pair.below A hb4
  replace bel0 := bel_call bel0 (Nat.le_refl _) hb4
  clear hb4
  clear Ac Ad Al
  go_wp2_with fail
  with_reducible refine (shl_e _ _ _ n _ 1 p i1 rfl (by omega) HP.out f1).mono ?_
  rintro e w5 ⟨rfl, hb5⟩
  replace A := Pair.below A hb5
  replace bel0 := bel_call bel0 (Nat.le_refl _) hb5
  clear hb5
  have Ac := A.1
  have Ad := A.2.1
  have Al := A.lt
  go_wp2_with fail
  with_reducible refine (div_e _ _ _ _ _ a p q r ha ip P0.out HQ.out HR.out).mono ?_
  rintro e w6 ⟨rfl, hb6⟩
  replace A := Pair.up' (o := .cells #[.int .u64 (hiN p), .int .u64 (loN p)] 24) A
  have P := Pair.new w5 (.int .u64 (hiN p)) (.int .u64 (loN p)) 24
  replace bel0 := bel_new bel0 (Nat.le_refl _) (.cells #[.int .u64 (hiN p), .int .u64 (loN p)] 24)
  replace A := Pair.below A hb6
  replace P := Pair.below P hb6
  replace bel0 := bel_call bel0 (Nat.le_refl _) hb6
  clear hb6
  clear Ac Ad Al
  have Ac := A.1
  have Ad := A.2.1
  have Al := A.lt
  have Pc := P.1
  have Pd := P.2.1
  have Pl := P.lt
  go_wp2_with fail
  with_reducible refine (shr_e _ _ _ n _ a q ha rfl (by omega) HD.out).mono ?_
  rintro e w7 ⟨rfl, hb7⟩
  replace A := Pair.up' (o := .cells #[.int .u64 (hiN q), .int .u64 (loN q)] 24) A
  replace P := Pair.up' (o := .cells #[.int .u64 (hiN q), .int .u64 (loN q)] 24) P
  have Q := Pair.new w6 (.int .u64 (hiN q)) (.int .u64 (loN q)) 24
  replace bel0 := bel_new bel0 (Nat.le_refl _) (.cells #[.int .u64 (hiN q), .int .u64 (loN q)] 24)
  replace A := Pair.up' (o := .cells #[.int .u64 (hiN r), .int .u64 (loN r)] 24) A
  replace P := Pair.up' (o := .cells #[.int .u64 (hiN r), .int .u64 (loN r)] 24) P
  replace Q := Pair.up' (o := .cells #[.int .u64 (hiN r), .int .u64 (loN r)] 24) Q
  have R := Pair.new' ((w6).alloc (.cells #[.int .u64 (hiN q), .int .u64 (loN q)] 24)) (w6.heap.size + 1) (.int .u64 (hiN r)) (.int .u64 (loN r)) 24 (by simp)
  replace bel0 := bel_new bel0 (Nat.le_refl _) (.cells #[.int .u64 (hiN r), .int .u64 (loN r)] 24)
  replace A := Pair.below A hb7
  replace P := Pair.below P hb7
  replace Q := Pair.below Q hb7
  replace R := Pair.below R hb7
  replace bel0 := bel_call bel0 (Nat.le_refl _) hb7
  clear hb7
  clear Ac Ad Al Pc Pd Pl
  have Ac := A.1
  have Ad := A.2.1
  have Al := A.lt
  have Pc := P.1
  have Pd := P.2.1
  have Pl := P.lt
  have Qc := Q.1
  have Qd := Q.2.1
  have Ql := Q.lt
  have Rc := R.1
  have Rd := R.2.1
  have Rl := R.lt
  go_wp2_with fail
  with_reducible refine (shl_e _ _ _ n _ q u iq rfl (by omega) HU.out fu).mono ?_
  rintro e w8 ⟨rfl, hb8⟩
  replace A := Pair.up' (o := .cells #[.int .u64 (hiN q), .int .u64 (loN q)] 24) A
  replace P := Pair.up' (o := .cells #[.int .u64 (hiN q), .int .u64 (loN q)] 24) P
  replace Q := Pair.up' (o := .cells #[.int .u64 (hiN q), .int .u64 (loN q)] 24) Q
  replace R := Pair.up' (o := .cells #[.int .u64 (hiN q), .int .u64 (loN q)] 24) R
  have D := Pair.new w7 (.int .u64 (hiN q)) (.int .u64 (loN q)) 24
  replace bel0 := bel_new bel0 (Nat.le_refl _) (.cells #[.int .u64 (hiN q), .int .u64 (loN q)] 24)
  replace A := Pair.below A hb8
  replace P := Pair.below P hb8
  replace Q := Pair.below Q hb8
  replace R := Pair.below R hb8
  replace D := Pair.below D hb8
  replace bel0 := bel_call bel0 (Nat.le_refl _) hb8
  clear hb8
  clear Ac Ad Al Pc Pd Pl Qc Qd Ql Rc Rd Rl
  have Ac := A.1
  have Ad := A.2.1
  have Al := A.lt
  have Pc := P.1
  have Pd := P.2.1
  have Pl := P.lt
  have Qc := Q.1
  have Qd := Q.2.1
  have Ql := Q.lt
  have Rc := R.1
  have Rd := R.2.1
  have Rl := R.lt
  have Dc := D.1
  have Dd := D.2.1
  have Dl := D.lt
  go_wp2_with fail
  with_reducible refine (sub_e _ _ _ _ _ a u r ha iu HS.out).mono ?_
  rintro e w9 ⟨rfl, hb9⟩
  replace A := Pair.up' (o := .cells #[.int .u64 (hiN u), .int .u64 (loN u)] 24) A
  replace P := Pair.up' (o := .cells #[.int .u64 (hiN u), .int .u64 (loN u)] 24) P
  replace Q := Pair.up' (o := .cells #[.int .u64 (hiN u), .int .u64 (loN u)] 24) Q
  replace R := Pair.up' (o := .cells #[.int .u64 (hiN u), .int .u64 (loN u)] 24) R
  replace D := Pair.up' (o := .cells #[.int .u64 (hiN u), .int .u64 (loN u)] 24) D
  have U := Pair.new w8 (.int .u64 (hiN u)) (.int .u64 (loN u)) 24
  replace bel0 := bel_new bel0 (Nat.le_refl _) (.cells #[.int .u64 (hiN u), .int .u64 (loN u)] 24)
  replace A := Pair.below A hb9
  replace P := Pair.below P hb9
  replace Q := Pair.below Q hb9
  replace R := Pair.below R hb9
  replace D := Pair.below D hb9
  replace U := Pair.below U hb9
  replace bel0 := bel_call bel0 (Nat.le_refl _) hb9
  clear hb9
  clear Ac Ad Al Pc Pd Pl Qc Qd Ql Rc Rd Rl Dc Dd Dl
  have Ac := A.1
  have Ad := A.2.1
  have Al := A.lt
  have Pc := P.1
  have Pd := P.2.1
  have Pl := P.lt
  have Qc := Q.1
  have Qd := Q.2.1
  have Ql := Q.lt
  have Rc := R.1
  have Rd := R.2.1
  have Rl := R.lt
  have Dc := D.1
  have Dd := D.2.1
  have Dl := D.lt
  have Uc := U.1
  have Ud := U.2.1
  have Ul := U.lt
  go_wp2
  go_ret
  exact ⟨rfl, bel_new bel0 (Nat.le_refl _) _⟩
set_option maxRecDepth 100000 in
theorem DivShifts_lifted (os : Os) (started : os.Started) (H : Type) (enc : TypeId × Value → H) :
    ReturnsInHanded {} Try.checked os 13 .any (Rows.divShiftsSpec.pre6 enc Try.prog Try.f13 Rows.divShiftsRow.domain false) (Rows.divShiftsSpec.post enc Try.prog Try.f13 false true false false) := by
  refine returnsInHanded_of_change (C := Try.checked) law_own started (by kernel_rfl) Try.func13
    (ChangeSpec.witness6 (enc := enc) (C := Try.checked) false ⟨#[], #[.agg #[.int .u64 0, .int .u64 0], .int .i64 0], []⟩ 8 (by kernel_rfl) (by kernel_rfl) (by kernel_rfl) (by kernel_rfl)) ?_
  intro W base args ds gs before hval0 hW hcnd _
  have hval : ∀ (j : Nat) t v, Try.f13.params[j]? = some t → args[j]? = some v → Value.okWide Try.prog W .any base t v := hval0
  have hW' := hW
  obtain ⟨p, q, hA0, hV, rfl, hfz, hnd⟩ := hW
  have hA : DataW.TrodAll enc Try.prog W 0 (fun _ => true) true Try.f13.params.toList args.toList ds p := hA0
  rw [Try.params13] at hA hval
  obtain ⟨v0, vs0, d0, ds0, p0, q0, hargs, rfl, rfl, h0, r0⟩ := trodAll_cons hA
  obtain ⟨v1, vs1, d1, ds1, p1, q1, rfl, rfl, rfl, h1, r1⟩ := trodAll_cons r0
  obtain ⟨rfl, rfl, rfl⟩ := trodAll_nil r1
  obtain rfl : args = #[v0, v1] := by cases args; simp_all
  obtain ⟨rfl, rfl⟩ := trodVars_none hV
  obtain ⟨c0, e0, y0, z0, m0, rfl, rfl, rfl, hy0, hz0⟩ := open_agg2 Try.underlying24 (by kernel_rfl) law_cells (hval 0 24 v0 rfl rfl) h0
  obtain ⟨x0, f0, rfl, wx0⟩ := DataW.trod_int Try.underlying22 hy0
  obtain ⟨t0, g0, rfl, wt0⟩ := DataW.trod_int Try.underlying22 hz0
  simp at f0 g0
  subst f0 g0
  obtain ⟨A0, hw0⟩ := isW_of wx0 wt0
  obtain ⟨n1, rfl, rfl, rfl, wn1⟩ := open_int Try.underlying3 (hval 1 3 v1 rfl rfl) h1
  clear hA0 hval0
  refine (DivShifts_walk x0 t0 A0 hw0 n1 (bounds_i64 wn1) W).mono fun e W' ⟨he, bel⟩ => ?_
  subst he
  exact ⟨_, rfl, _, _, _, [], _, [], hW', trodAll_mk1 (shut_bool Try.underlying4 _), (trodAll_cons_mk (wide_reads wx0 wt0) (trodAll_cons_mk (shut_int Try.underlying3 wn1) trodAll_mk0)), rfl, bel.frame _, fun h => by cases h⟩
theorem DivShifts_holds : Rows.DivShiftsSaid :=
  OpenClaim.holds_of_wide 13 Try.f13 rfl rfl rfl rfl rfl rfl rfl ⟨rfl, rfl, rfl, rfl, rfl⟩ rfl rfl rfl rfl rfl (by kernel_rfl) Try.func13 (by kernel_rfl)
    (of_decide_eq_true (by kernel_rfl)) (by unfold Func.isWrapper; first | (rw [if_pos (by decide +kernel)]; kernel_rfl) | (rw [if_neg (by decide +kernel)]; exact ⟨rfl, rfl⟩))
    (fun os started H enc _ => DivShifts_lifted os started H enc)
end Go.Proofs.Ytofbmpmefgapfaa
