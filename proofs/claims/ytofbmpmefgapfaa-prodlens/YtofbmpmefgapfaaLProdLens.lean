/- hwkeep.ProdLens returns true for every two words a and b. No condition. -/
import Derived.Test.YtofbmpmefgapfaaFrame
import Derived.Test.YtofbmpmefgapfaaP2
import Derived.Test.YtofbmpmefgapfaaH1
namespace Go.Proofs.Ytofbmpmefgapfaa
open Go.ChangeShapes Go.WideShapes Go.ChangeAt Go.RowKit Go.Joins
attribute [local go_sem ↓] Go.wp_at_zero Go.wp_at_succ
theorem bitLen_mul {a b : Nat} (ha : 0 < a) (hb : 0 < b) : bitLen (a * b) ≤ bitLen a + bitLen b ∧ bitLen a + bitLen b ≤ bitLen (a * b) + 1 := by
  have h1 := bitLen_spec a
  have h2 := bitLen_spec b
  have a1 := h1.2 (by omega)
  have b1 := h2.2 (by omega)
  have la : 0 < bitLen a := by
    refine Nat.lt_of_not_le fun h => ?_
    have := (bitLen_lt_iff a 0).1 h
    simp at this; omega
  have lb : 0 < bitLen b := by
    refine Nat.lt_of_not_le fun h => ?_
    have := (bitLen_lt_iff b 0).1 h
    simp at this; omega
  constructor
  · rw [bitLen_lt_iff, Nat.pow_add]
    exact Nat.mul_lt_mul_of_lt_of_le h1.1 (Nat.le_of_lt h2.1) (Nat.two_pow_pos _)
  · refine Nat.le_of_not_lt fun h => ?_
    have h3 := (bitLen_lt_iff (a * b) (bitLen a - 1 + (bitLen b - 1))).1 (by omega)
    rw [Nat.pow_add] at h3
    have := Nat.mul_le_mul a1 b1
    omega
set_option maxRecDepth 100000 in
set_option maxHeartbeats 4000000 in
theorem ProdLens_walk (a : Nat) (ha : Word a) (b : Nat) (hb : Word b) (w : World) :
    Calls Try.prog 11 #[.int .u64 a, .int .u64 b] w fun e w' => e = .returned (.bool true) ∧ Below w.heap.size w w' := by
  have bel0 : Below w.heap.size w w := Below.refl _ _
  have t0 : (((bitLen (3 * 3) : Nat) : Int) != 4) = false := by decide
  have v3 : Word 3 := by unfold Word; decide
  have f9 : Fits (3 * 3) := prod_fits v3 v3
  have la := bitLen_word ha
  have lb := bitLen_word hb
  have fab := prod_fits ha hb
  have da : (a : Int) ≤ 18446744073709551615 := by unfold Word at ha; omega
  have db : (b : Int) ≤ 18446744073709551615 := by unfold Word at hb; omega
  go_enter Try.func11, Try.ntmps11
  go_wp2_with fail
  with_reducible refine (mul_c _ _ _ 3 3 lit3 lit3 v3 v3).mono ?_
  rintro e w1 ⟨rfl, hb1⟩
  replace bel0 := bel_call bel0 (Nat.le_refl _) hb1
  clear hb1
  go_wp2_with fail
  with_reducible refine (len_any _ _ _ (3 * 3) (isW_self f9)).mono ?_
  rintro e w2 ⟨rfl, hb2⟩
  replace bel0 := bel_call bel0 (Nat.le_refl _) hb2
  clear hb2
  go_wp2_with fail
  with_reducible refine (mul_c _ _ _ a b rfl rfl ha hb).mono ?_
  rintro e w3 ⟨rfl, hb3⟩
  replace bel0 := bel_call bel0 (Nat.le_refl _) hb3
  clear hb3
  go_wp2_with fail
  with_reducible refine (len_any _ _ _ a (isW_word ha)).mono ?_
  rintro e w4 ⟨rfl, hb4⟩
  have P := Pair.new w3 (.int .u64 (hiN (a * b))) (.int .u64 (loN (a * b))) 24
  replace bel0 := bel_new bel0 (Nat.le_refl _) (.cells #[.int .u64 (hiN (a * b)), .int .u64 (loN (a * b))] 24)
  replace P := Pair.below P hb4
  replace bel0 := bel_call bel0 (Nat.le_refl _) hb4
  clear hb4
  go_wp2_with fail
  with_reducible refine (len_any _ _ _ b (isW_word hb)).mono ?_
  rintro e w5 ⟨rfl, hb5⟩
  replace P := Pair.below P hb5
  replace bel0 := bel_call bel0 (Nat.le_refl _) hb5
  clear hb5
  have Pc := P.1
  have Pd := P.2.1
  have Pl := P.lt
  go_upto_region 5 with (fail)
  go_cut [44] (fun s44 wx => s44 = .bool false ∧ Below w.heap.size w wx)
  case first =>
    by_cases ga : 0 < a
    · by_cases gb : 0 < b
      · have hl := bitLen_mul ga gb
        by_cases hn : bitLen (a * b) = bitLen a + bitLen b
        · have hq : ((bitLen (a * b) : Int) != (bitLen a : Int) + (bitLen b : Int)) = false := by simp; omega
          clear hn
          go_wp2_with fail
          with_reducible refine (len_any _ _ _ (a * b) (isW_self fab)).mono ?_
          rintro e w6 ⟨rfl, hb6⟩
          replace P := Pair.below P hb6
          replace bel0 := bel_call bel0 (Nat.le_refl _) hb6
          clear hb6
          clear Pc Pd Pl
          go_wp2_with fail
          go_meet
          case rel => exact ⟨rfl, bel0⟩
        · have hq : ((bitLen (a * b) : Int) != (bitLen a : Int) + (bitLen b : Int)) = true := by simp; omega
          have hr : ((bitLen (a * b) : Int) != (bitLen a : Int) + (bitLen b : Int) - 1) = false := by simp; omega
          clear hn
          go_wp2_with fail
          with_reducible refine (len_any _ _ _ (a * b) (isW_self fab)).mono ?_
          rintro e w6 ⟨rfl, hb6⟩
          replace P := Pair.below P hb6
          replace bel0 := bel_call bel0 (Nat.le_refl _) hb6
          clear hb6
          clear Pc Pd Pl
          have Pc := P.1
          have Pd := P.2.1
          have Pl := P.lt
          go_wp2_with fail
          with_reducible refine (len_any _ _ _ (a * b) (isW_self fab)).mono ?_
          rintro e w7 ⟨rfl, hb7⟩
          replace P := Pair.below P hb7
          replace bel0 := bel_call bel0 (Nat.le_refl _) hb7
          clear hb7
          clear Pc Pd Pl
          go_wp2_with fail
          go_meet
          case rel => exact ⟨rfl, bel0⟩
      · go_wp2_with fail
        go_meet
        case rel => exact ⟨rfl, bel0⟩
    · go_wp2_with fail
      go_meet
      case rel => exact ⟨rfl, bel0⟩
  case rest =>
    clear P Pc Pd Pl bel0 t0 f9 fab la lb
    obtain ⟨rfl, bel0⟩ := hcut
    have ea : (a : Int) / 4 = ((a / 4 : Nat) : Int) := by omega
    have eb : (b : Int) / 4 = ((b / 4 : Nat) : Int) := by omega
    have na : a / 4 < 4611686018427387904 := by unfold Word at ha; omega
    have nb : b / 4 < 4611686018427387904 := by unfold Word at hb; omega
    have es : (a : Int) / 4 + (b : Int) / 4 = ((a / 4 + b / 4 : Nat) : Int) := by omega
    have hw : IntKind.u64.wrap ((a : Int) / 4 + (b : Int) / 4) = (a : Int) / 4 + (b : Int) / 4 := IntWalk.u64_in _ (by omega)
    have wa : Word (a / 4) := by unfold Word; omega
    have wb : Word (b / 4) := by unfold Word; omega
    have ws : Word (a / 4 + b / 4) := by unfold Word; omega
    have EA := Lib.hid ea
    have EB := Lib.hid eb
    have ES := Lib.hid es
    clear ea eb es
    generalize a / 4 = A at *
    generalize b / 4 = B at *
    have HE : Hid ((A + B) * (A + B) = (A * A + B * B) + (A * B + B * A)) := by show _ = _; rw [Nat.add_mul, Nat.mul_add, Nat.mul_add]; omega
    have laa : A * A < 21267647932558653966460912964485513216 := Nat.mul_lt_mul'' na na
    have lbb : B * B < 21267647932558653966460912964485513216 := Nat.mul_lt_mul'' nb nb
    have lab : A * B < 21267647932558653966460912964485513216 := Nat.mul_lt_mul'' na nb
    have lba : B * A < 21267647932558653966460912964485513216 := Nat.mul_lt_mul'' nb na
    have faa : Fits (A * A) := prod_fits wa wa
    have fbb : Fits (B * B) := prod_fits wb wb
    have fab : Fits (A * B) := prod_fits wa wb
    have fba : Fits (B * A) := prod_fits wb wa
    have fx : Fits (A * A + B * B) := by unfold Fits; omega
    have fy : Fits (A * B + B * A) := by unfold Fits; omega
    have fz : Fits ((A * A + B * B) + (A * B + B * A)) := by unfold Fits; omega
    clear laa lbb lab lba na nb ha hb da db
    go_wp2_with fail
    with_reducible refine (mul_c _ _ _ A A EA.out EA.out wa wa).mono ?_
    rintro e w8 ⟨rfl, hb8⟩
    replace bel0 := bel_call bel0 (Nat.le_refl _) hb8
    clear hb8
    go_wp2_with fail
    with_reducible refine (mul_c _ _ _ B B EB.out EB.out wb wb).mono ?_
    rintro e w9 ⟨rfl, hb9⟩
    replace bel0 := bel_call bel0 (Nat.le_refl _) hb9
    clear hb9
    go_wp2_with fail
    with_reducible refine (add_ok _ _ _ _ _ (A * A) (B * B) (isW_self faa) (isW_self fbb) fx).mono ?_
    rintro e w10 ⟨rfl, hb10⟩
    replace bel0 := bel_call bel0 (Nat.le_refl _) hb10
    clear hb10
    go_wp2_with fail
    with_reducible refine (mul_c _ _ _ A B EA.out EB.out wa wb).mono ?_
    rintro e w11 ⟨rfl, hb11⟩
    have X := Pair.new w10 (.int .u64 (hiN (A * A + B * B))) (.int .u64 (loN (A * A + B * B))) 24
    replace bel0 := bel_new bel0 (Nat.le_refl _) (.cells #[.int .u64 (hiN (A * A + B * B)), .int .u64 (loN (A * A + B * B))] 24)
    replace X := Pair.below X hb11
    replace bel0 := bel_call bel0 (Nat.le_refl _) hb11
    clear hb11
    go_wp2_with fail
    with_reducible refine (mul_c _ _ _ B A EB.out EA.out wb wa).mono ?_
    rintro e w12 ⟨rfl, hb12⟩
    replace X := Pair.below X hb12
    replace bel0 := bel_call bel0 (Nat.le_refl _) hb12
    clear hb12
    go_wp2_with fail
    with_reducible refine (add_ok _ _ _ _ _ (A * B) (B * A) (isW_self fab) (isW_self fba) fy).mono ?_
    rintro e w13 ⟨rfl, hb13⟩
    replace X := Pair.below X hb13
    replace bel0 := bel_call bel0 (Nat.le_refl _) hb13
    clear hb13
    have Xc := X.1
    have Xd := X.2.1
    have Xl := X.lt
    go_wp2_with fail
    with_reducible refine (add_ok _ _ _ _ _ (A * A + B * B) (A * B + B * A) (isW_self fx) (isW_self fy) fz).mono ?_
    rintro e w14 ⟨rfl, hb14⟩
    replace X := Pair.up' (o := .cells #[.int .u64 (hiN (A * B + B * A)), .int .u64 (loN (A * B + B * A))] 24) X
    have Y := Pair.new w13 (.int .u64 (hiN (A * B + B * A))) (.int .u64 (loN (A * B + B * A))) 24
    replace bel0 := bel_new bel0 (Nat.le_refl _) (.cells #[.int .u64 (hiN (A * B + B * A)), .int .u64 (loN (A * B + B * A))] 24)
    replace X := Pair.below X hb14
    replace Y := Pair.below Y hb14
    replace bel0 := bel_call bel0 (Nat.le_refl _) hb14
    clear hb14
    clear Xc Xd Xl
    clear X Y
    go_wp2_with fail
    have Z := Pair.new w14 (.int .u64 (hiN ((A * A + B * B) + (A * B + B * A)))) (.int .u64 (loN ((A * A + B * B) + (A * B + B * A)))) 24
    have z0 := Z.1
    have z1 := Z.2.1
    generalize (A * A + B * B) + (A * B + B * A) = N at *
    have bel1 := bel_new bel0 (Nat.le_refl _) (.cells #[.int .u64 (hiN N), .int .u64 (loN N)] 24)
    generalize w14.alloc (.cells #[.int .u64 (hiN N), .int .u64 (loN N)] 24) = v at *
    clear Z
    go_region_held3 (fun w' => w'.cell? ⟨w14.heap.size, 0, none⟩ = some (.int .u64 (hiN N)) ∧ w'.cell? ⟨w14.heap.size, 1, none⟩ = some (.int .u64 (loN N))) (((try dsimp only); (refine ⟨?_, ?_⟩ <;> (repeat (first | with_reducible assumption | with_reducible refine cell_drew ?_ | with_reducible refine cell_below hb1 ?_))))) (first | (go_at_call 29; refine (mul_e _ _ _ (A + B) (A + B) N ES.out ES.out ws ws HE.out).mono ?_; rintro e w15 ⟨rfl, hb1⟩))
    go_wp2
    go_ret
    exact ⟨rfl, bel_call bel1.drew (Nat.le_refl _) hb1⟩
set_option maxRecDepth 100000 in
theorem ProdLens_lifted (os : Os) (started : os.Started) (H : Type) (enc : TypeId × Value → H) :
    ReturnsInHanded {} Try.checked os 11 .any (Rows.prodLensSpec.pre6 enc Try.prog Try.f11 Rows.prodLensRow.domain false) (Rows.prodLensSpec.post enc Try.prog Try.f11 false true false false) := by
  refine returnsInHanded_of_change (C := Try.checked) law_own started (by kernel_rfl) Try.func11
    (ChangeSpec.witness6 (enc := enc) (C := Try.checked) false ⟨#[], #[.int .u64 0, .int .u64 0], []⟩ 8 (by kernel_rfl) (by kernel_rfl) (by kernel_rfl) (by kernel_rfl)) ?_
  intro W base args ds gs before hval0 hW hcnd _
  have hval : ∀ (j : Nat) t v, Try.f11.params[j]? = some t → args[j]? = some v → Value.okWide Try.prog W .any base t v := hval0
  have hW' := hW
  obtain ⟨p, q, hA0, hV, rfl, hfz, hnd⟩ := hW
  have hA : DataW.TrodAll enc Try.prog W 0 (fun _ => true) true Try.f11.params.toList args.toList ds p := hA0
  rw [Try.params11] at hA hval
  obtain ⟨v0, vs0, d0, ds0, p0, q0, hargs, rfl, rfl, h0, r0⟩ := trodAll_cons hA
  obtain ⟨v1, vs1, d1, ds1, p1, q1, rfl, rfl, rfl, h1, r1⟩ := trodAll_cons r0
  obtain ⟨rfl, rfl, rfl⟩ := trodAll_nil r1
  obtain rfl : args = #[v0, v1] := by cases args; simp_all
  obtain ⟨rfl, rfl⟩ := trodVars_none hV
  obtain ⟨n0, rfl, rfl, rfl, wn0⟩ := open_int Try.underlying22 (hval 0 22 v0 rfl rfl) h0
  obtain ⟨u0, rfl, hu0⟩ := word_of wn0
  obtain ⟨n1, rfl, rfl, rfl, wn1⟩ := open_int Try.underlying22 (hval 1 22 v1 rfl rfl) h1
  obtain ⟨u1, rfl, hu1⟩ := word_of wn1
  clear hA0 hval0
  refine (ProdLens_walk u0 hu0 u1 hu1 W).mono fun e W' ⟨he, bel⟩ => ?_
  subst he
  exact ⟨_, rfl, _, _, _, [], _, [], hW', trodAll_mk1 (shut_bool Try.underlying4 _), (trodAll_cons_mk (shut_int Try.underlying22 wn0) (trodAll_cons_mk (shut_int Try.underlying22 wn1) trodAll_mk0)), rfl, bel.frame _, fun h => by cases h⟩
theorem ProdLens_holds : Rows.ProdLensSaid :=
  OpenClaim.holds_of_wide 11 Try.f11 rfl rfl rfl rfl rfl rfl rfl ⟨rfl, rfl, rfl, rfl, rfl⟩ rfl rfl rfl rfl rfl (by kernel_rfl) Try.func11 (by kernel_rfl)
    (of_decide_eq_true (by kernel_rfl)) (by unfold Func.isWrapper; first | (rw [if_pos (by decide +kernel)]; kernel_rfl) | (rw [if_neg (by decide +kernel)]; exact ⟨rfl, rfl⟩))
    (fun os started H enc _ => ProdLens_lifted os started H enc)
end Go.Proofs.Ytofbmpmefgapfaa
