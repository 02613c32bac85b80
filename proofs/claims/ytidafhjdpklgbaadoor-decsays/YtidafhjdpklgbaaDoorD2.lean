/- The contract of prod.Div (divByWord, lowGuess, divByWide): quotient and remainder of every two numbers, or ErrZero. -/
import Derived.Test.YtidafhjdpklgbaaDoorH1
import Derived.Test.YtidafhjdpklgbaaDoorD1
import Derived.Test.YtidafhjdpklgbaaDoorDivq
namespace Go.Proofs.YtidafhjdpklgbaaDoor
open Go.RowKit
set_option maxHeartbeats 1000000 in
theorem divByWord_c (x1 x2 x3 : Int) (w : World) (a b : Nat) (ha : IsW a x1 x2) (hb : x3 = b) (wb : Word b) (h0 : 0 < b) :
    Calls Tryd.prog 29 #[.agg #[.int .u64 x1, .int .u64 x2], .int .u64 x3] w fun e w' => e = .returned (.tuple #[.agg #[.int .u64 (hiN (a / b)), .int .u64 (loN (a / b))], .int .u64 ((a % b : Nat) : Int)]) ∧ Below w.heap.size w w' := by
  obtain ⟨fa, rfl, rfl⟩ := ha
  subst hb
  obtain ⟨d1, d2, d3, d4⟩ := word_div fa h0
  rw [d1, d2, d3]
  have q0 : ((b : Int) == 0) = false := by simp; omega
  have p0 : (0 : Int) < (b : Int) := by omega
  have hx := hiN_word fa
  have c1 : (hiN a : Int) ≤ 18446744073709551615 := by unfold Word at hx; omega
  have iA := isW_mk (hiN a % b) (loN a) (by unfold Word at wb; omega) (loN_lt a)
  have hA : hiN (hiN a % b * 18446744073709551616 + loN a) < b := by
    have := loN_lt a
    unfold hiN at *; omega
  rw [Int.natCast_emod] at iA
  have QW := Lib.hid (quo_wrap (U := hiN a) (y1 := b) (by unfold Word at hx; exact hx))
  have bel0 : Below w.heap.size w ((w.alloc (.cells #[.int .u64 (hiN a), .int .u64 (loN a)] 24)).alloc (.cells #[.int .u64 0, .int .u64 0] 24)).drew := (((Below.refl _ _).alloc (Nat.le_refl _) _).alloc (by simp) _).drew
  have R : Pair ((w.alloc (.cells #[.int .u64 (hiN a), .int .u64 (loN a)] 24)).alloc (.cells #[.int .u64 0, .int .u64 0] 24)).drew (w.heap.size + 1) (.int .u64 0) (.int .u64 0) := Pair.drew (Pair.new' _ _ _ _ _ (by simp))
  clear d1 d2 d3 fa d4
  go_enter Tryd.func29, Tryd.ntmps29
  go_wp2
  go_region
  go_wp2_with fail
  with_reducible refine (div64_c _ _ _ _ (hiN a % b * 18446744073709551616 + loN a) b iA rfl wb hA).mono ?_
  rintro e w1 ⟨rfl, hb1⟩
  replace R := Pair.below R hb1
  replace bel0 := bel_call bel0 (Nat.le_refl _) hb1
  obtain ⟨r0, r1, r2, r3⟩ := id R
  generalize hN : hiN a % b * 18446744073709551616 + loN a = N at *
  have HN := Lib.hid hN
  clear hb1 iA hA hN
  go_wp2
  refine bodyPost_ret (v := .tuple #[.agg #[.int .u64 (IntKind.u64.wrap ((hiN a : Int) / (b : Int))), .int .u64 ((N / b : Nat) : Int)], .int .u64 ((N % b : Nat) : Int)]) (by simp [results, Tryd.results29, go_sem, r0, r1]) rfl ⟨?_, ?_⟩
  · rw [QW.out, HN.out]
  · exact (bel0.setCell (by simp) _).setCell (by simp) _
set_option maxHeartbeats 1000000 in
theorem lowGuess_walk (a b z g h N : Nat) (w : World) (fa : Fits a) (fb : Fits b) (hz : z ≤ 63)
    (lz : Hid (∀ w, Calls Tryd.prog 45 #[.int .u64 (hiN b)] w fun e w' => e = .returned (.int .i64 (z : Int)) ∧ w = w'))
    (eN : Hid (b * 2 ^ z = N)) (fB : Fits N) (eh : Hid (a / 2 ^ 1 = h)) (hlt : Hid (hiN h < hiN N)) (hg : Hid ((h : Int) / (hiN N : Int) / 2 ^ (63 - z) = (g : Int))) (bg : Hid (g < 18446744073709551616)) :
    Calls Tryd.prog 38 #[.agg #[.int .u64 (hiN a), .int .u64 (loN a)], .agg #[.int .u64 (hiN b), .int .u64 (loN b)]] w fun e w' => e = .returned (.int .u64 ((g - 1 : Nat) : Int)) ∧ Below w.heap.size w w' := by
  have bel0 : Below w.heap.size w ((w.alloc (.cells #[.int .u64 (hiN a), .int .u64 (loN a)] 24)).alloc (.cells #[.int .u64 (hiN b), .int .u64 (loN b)] 24)) := ((Below.refl _ _).alloc (Nat.le_refl _) _).alloc (by simp) _
  have A := Pair.up' (o := .cells #[.int .u64 (hiN b), .int .u64 (loN b)] 24) (Pair.new w (.int .u64 (hiN a)) (.int .u64 (loN a)) 24)
  have B : Pair ((w.alloc (.cells #[.int .u64 (hiN a), .int .u64 (loN a)] 24)).alloc (.cells #[.int .u64 (hiN b), .int .u64 (loN b)] 24)) (w.heap.size + 1) (.int .u64 (hiN b)) (.int .u64 (loN b)) := Pair.new' _ _ _ _ _ (by simp)
  have fh : Fits h := by rw [← eh.out]; exact fits_mono fa (Nat.div_le_self _ _)
  have wB := hiN_word fB
  have ih := isW_self fh
  go_enter Tryd.func38, Tryd.ntmps38
  go_wp2_with fail
  with_reducible refine (lz.out _).mono ?_
  rintro e' w' ⟨rfl, rfl⟩
  go_wp2_with fail
  with_reducible refine (shl_e _ _ _ z _ b N (isW_self fb) rfl (by omega) eN.out fB).mono ?_
  rintro e w1 ⟨rfl, hb1⟩
  replace A := Pair.below A hb1
  replace B := Pair.below B hb1
  replace bel0 := bel_call bel0 (Nat.le_refl _) hb1
  clear hb1
  have Ac := A.1
  have Ad := A.2.1
  have Al := A.lt
  have Bc := B.1
  have Bd := B.2.1
  have Bl := B.lt
  go_wp2_with fail
  with_reducible refine (shr_e _ _ _ 1 _ a h (isW_self fa) lit1 (by omega) eh.out).mono ?_
  rintro e w2 ⟨rfl, hb2⟩
  replace A := Pair.up' (o := .cells #[.int .u64 (hiN N), .int .u64 (loN N)] 24) A
  replace B := Pair.up' (o := .cells #[.int .u64 (hiN N), .int .u64 (loN N)] 24) B
  have L := Pair.new w1 (.int .u64 (hiN N)) (.int .u64 (loN N)) 24
  replace bel0 := bel_new bel0 (Nat.le_refl _) (.cells #[.int .u64 (hiN N), .int .u64 (loN N)] 24)
  replace A := Pair.below A hb2
  replace B := Pair.below B hb2
  replace L := Pair.below L hb2
  replace bel0 := bel_call bel0 (Nat.le_refl _) hb2
  clear hb2
  clear Ac Ad Al Bc Bd Bl
  have Ac := A.1
  have Ad := A.2.1
  have Al := A.lt
  have Bc := B.1
  have Bd := B.2.1
  have Bl := B.lt
  have Lc := L.1
  have Ld := L.2.1
  have Ll := L.lt
  go_wp2_with fail
  with_reducible refine (div64_c _ _ _ _ h (hiN N) ih rfl wB hlt.out).mono ?_
  rintro e w3 ⟨rfl, hb3⟩
  replace A := Pair.up' (o := .cells #[.int .u64 (hiN h), .int .u64 (loN h)] 24) A
  replace B := Pair.up' (o := .cells #[.int .u64 (hiN h), .int .u64 (loN h)] 24) B
  replace L := Pair.up' (o := .cells #[.int .u64 (hiN h), .int .u64 (loN h)] 24) L
  have H := Pair.new w2 (.int .u64 (hiN h)) (.int .u64 (loN h)) 24
  replace bel0 := bel_new bel0 (Nat.le_refl _) (.cells #[.int .u64 (hiN h), .int .u64 (loN h)] 24)
  replace A := Pair.below A hb3
  replace B := Pair.below B hb3
  replace L := Pair.below L hb3
  replace H := Pair.below H hb3
  replace bel0 := bel_call bel0 (Nat.le_refl _) hb3
  clear hb3
  clear Ac Ad Al Bc Bd Bl Lc Ld Ll
  clear A B L H
  go_wp2
  · have hp : 0 < (h : Int) / (hiN N : Int) / 2 ^ (63 - z) := by assumption
    go_ret
    refine ⟨congrArg Ending.returned (congrArg (Value.int .u64) ?_), bel0⟩
    rw [hg.out] at hp ⊢
    have := bg.out
    rw [IntWalk.u64_in _ (by omega)]
    omega
  · have hp : (h : Int) / (hiN N : Int) / 2 ^ (63 - z) ≤ 0 := by assumption
    go_ret
    refine ⟨congrArg Ending.returned (congrArg (Value.int .u64) ?_), bel0⟩
    rw [hg.out] at hp ⊢
    omega
theorem near1 {q G : Nat} (_h : q ≤ G) (k : G ≤ q + 1) : G - 1 ≤ q := by omega
theorem near2 {q G : Nat} (h : q ≤ G) : q ≤ G - 1 + 1 := by omega
theorem near3 {G : Nat} (h : G < 18446744073709551616) : Word (G - 1 + 1) := by unfold Word; omega
theorem lowGuess_c (x1 x2 y1 y2 : Int) (w : World) (a b : Nat) (ha : IsW a x1 x2) (hb : IsW b y1 y2) (h0 : hiN b ≠ 0) :
    ∃ g, g ≤ a / b ∧ a / b ≤ g + 1 ∧ Word (g + 1) ∧ Calls Tryd.prog 38 #[.agg #[.int .u64 x1, .int .u64 x2], .agg #[.int .u64 y1, .int .u64 y2]] w fun e w' => e = .returned (.int .u64 (g : Int)) ∧ Below w.heap.size w w' := by
  obtain ⟨fa, rfl, rfl⟩ := ha
  obtain ⟨fb, rfl, rfl⟩ := hb
  have wb := hiN_word fb
  have hl := lead h0 wb
  have hbl := bitLen_word wb
  have lz := Lib.hid (fun w => lz64_w (hiN b) w wb)
  have hbp : 0 < bitLen (hiN b) := by
    refine Nat.lt_of_not_le fun hn => ?_
    have := (bitLen_lt_iff (hiN b) 0).1 hn
    simp at this; omega
  generalize hz : 64 - bitLen (hiN b) = z at *
  have hz2 : z ≤ 63 := by omega
  have hp : 0 < 2 ^ z := Nat.two_pow_pos z
  have fB : Fits (b * 2 ^ z) := by
    refine (fits_shl (by rintro rfl; exact h0 (by unfold hiN; omega))).2 ?_
    rw [bitLen_hi h0]; omega
  have hB : 9223372036854775808 ≤ hiN (b * 2 ^ z) := by
    rw [hi_shl b z (by omega)]
    exact Nat.le_trans hl.1 (Nat.le_add_right _ _)
  have hBl := hiN_lt fB
  obtain ⟨l1, l2⟩ := lead_le hz2 (words (b * 2 ^ z)).symm (loN_lt _)
  have hn := guess_near hz2 (by unfold Fits at fa; exact fa) rfl l1 l2 hB
  have eg : a / 2 ^ 1 / hiN (b * 2 ^ z) / 2 ^ (63 - z) = a / (hiN (b * 2 ^ z) * 2 ^ (64 - z)) := by
    rw [Nat.div_div_eq_div_mul, Nat.div_div_eq_div_mul]
    congr 1
    rw [show 64 - z = (63 - z) + 1 by omega, Nat.pow_add, Nat.pow_one, Nat.mul_comm 2, Nat.mul_assoc]
  have hpz : 2 ^ (z + 1) ≤ 2 ^ 64 := two_pow_le (by omega)
  have hq64 : a / b < 18446744073709551616 := Nat.lt_of_lt_of_le hn.2.2 hpz
  have hD : 0 < hiN (b * 2 ^ z) * 2 ^ (64 - z) := Nat.mul_pos (by omega) (Nat.two_pow_pos _)
  have hgb : a / (hiN (b * 2 ^ z) * 2 ^ (64 - z)) < 18446744073709551616 := by
    rw [Nat.div_lt_iff_lt_mul hD]
    have h1 : 2 ^ 1 ≤ 2 ^ (64 - z) := two_pow_le (by omega)
    have h2 := Nat.mul_le_mul hB h1
    unfold Fits at fa
    omega
  refine ⟨a / (hiN (b * 2 ^ z) * 2 ^ (64 - z)) - 1, near1 hn.1 hn.2.1, near2 hn.1, near3 hgb, ?_⟩
  refine lowGuess_walk a b z _ (a / 2 ^ 1) (b * 2 ^ z) w fa fb hz2 lz rfl fB rfl ?_ ?_ hgb
  · show hiN (a / 2 ^ 1) < hiN (b * 2 ^ z)
    refine Nat.lt_of_lt_of_le ?_ hB
    unfold Fits at fa; unfold hiN; omega
  · show _ = _
    rw [← Int.natCast_ediv, cast_div_pow, eg]
theorem back_mul {a b g : Nat} (h : g ≤ a / b) : b * g ≤ a := Nat.le_trans (Nat.mul_le_mul_left b h) (Nat.mul_div_le a b)
theorem next_mul {a b g : Nat} (hb : 0 < b) (h : a / b ≤ g + 1) (hr : b ≤ a - b * g) : a / b = g + 1 := by
  refine Nat.le_antisymm h ?_
  rw [Nat.le_div_iff_mul_le hb, Nat.add_mul, Nat.one_mul, Nat.mul_comm g]
  omega
theorem same_mul {a b g : Nat} (hb : 0 < b) (h : g ≤ a / b) (hr : a - b * g < b) : a / b = g := by
  refine Nat.le_antisymm (Nat.le_of_lt_succ ?_) h
  rw [Nat.div_lt_iff_lt_mul hb, Nat.succ_mul, Nat.mul_comm g]
  omega
theorem mod_eq {a b g : Nat} (h : a / b = g) : a % b = a - b * g := by
  have := Nat.div_add_mod a b
  rw [h] at this
  omega
set_option maxHeartbeats 1000000 in
theorem divByWide_c (x1 x2 y1 y2 : Int) (w : World) (a b : Nat) (ha : IsW a x1 x2) (hb : IsW b y1 y2) (h0 : hiN b ≠ 0) :
    Calls Tryd.prog 30 #[.agg #[.int .u64 x1, .int .u64 x2], .agg #[.int .u64 y1, .int .u64 y2]] w fun e w' => e = .returned (.tuple #[.int .u64 ((a / b : Nat) : Int), .agg #[.int .u64 (hiN (a % b)), .int .u64 (loN (a % b))]]) ∧ Below w.heap.size w w' := by
  have hb0 : 0 < b := Nat.pos_of_ne_zero (by rintro rfl; exact h0 (by unfold hiN; omega))
  have fa := ha.fits
  have fb := hb.fits
  obtain ⟨g, g1, g2, g3, cg⟩ := lowGuess_c x1 x2 y1 y2 (((w.alloc (.cells #[.int .u64 x1, .int .u64 x2] 24)).alloc (.cells #[.int .u64 y1, .int .u64 y2] 24)).alloc (.cells #[.int .u64 0, .int .u64 0] 24)) a b ha hb h0
  obtain ⟨bel0, A, B, R⟩ := box3 w (.int .u64 x1) (.int .u64 x2) (.int .u64 y1) (.int .u64 y2) (.int .u64 0) (.int .u64 0) 24
  have wg : Word g := word_mono g3 (by omega)
  have bm := back_mul g1
  have fp : Fits (b * g) := fits_mono fa bm
  have ip := isW_self fp
  have fr : Fits (a - b * g) := fits_mono fa (Nat.sub_le _ _)
  have ir := isW_self fr
  have CG := Lib.hid cg
  have wg' : (g : Int) + 1 ≤ 18446744073709551615 := by unfold Word at g3; omega
  clear cg g3
  by_cases hr : b ≤ a - b * g
  · have hq := next_mul hb0 g2 hr
    have hm := mod_eq hq
    have HQ := Lib.hid hq
    have HM : Hid (a % b = a - b * g - b) := by show _ = _; rw [hm, Nat.mul_add]; omega
    have hc : (0 : Int) ≤ cmpN (a - b * g) b := by
      have := cmpN_lt_iff (a - b * g) b
      omega
    clear hq hm g1 g2 h0
    go_enter Tryd.func30, Tryd.ntmps30
    go_wp2_with fail
    with_reducible refine (CG.out).mono ?_
    rintro e w1 ⟨rfl, hb1⟩
    clear CG
    replace A := Pair.below A hb1
    replace B := Pair.below B hb1
    replace R := Pair.below R hb1
    replace bel0 := bel_call bel0 (Nat.le_refl _) hb1
    clear hb1
    have Ac := A.1
    have Ad := A.2.1
    have Al := A.lt
    have Bc := B.1
    have Bd := B.2.1
    have Bl := B.lt
    have Rc := R.1
    have Rd := R.2.1
    have Rl := R.lt
    go_wp2_with fail
    with_reducible refine (times_e _ _ _ _ _ b g (b * g) hb (isW_word wg) rfl fp).mono ?_
    rintro e w1 ⟨rfl, hb1⟩
    replace A := Pair.below A hb1
    replace B := Pair.below B hb1
    replace R := Pair.below R hb1
    replace bel0 := bel_call bel0 (Nat.le_refl _) hb1
    clear hb1
    clear Ac Ad Al Bc Bd Bl Rc Rd Rl
    have Ac := A.1
    have Ad := A.2.1
    have Al := A.lt
    have Bc := B.1
    have Bd := B.2.1
    have Bl := B.lt
    have Rc := R.1
    have Rd := R.2.1
    have Rl := R.lt
    go_wp2_with fail
    with_reducible refine (sub_ok _ _ _ _ _ a (b * g) ha ip bm).mono ?_
    rintro e w2 ⟨rfl, hb2⟩
    replace A := Pair.up' (o := .cells #[.int .u64 (hiN (b * g)), .int .u64 (loN (b * g))] 24) A
    replace B := Pair.up' (o := .cells #[.int .u64 (hiN (b * g)), .int .u64 (loN (b * g))] 24) B
    replace R := Pair.up' (o := .cells #[.int .u64 (hiN (b * g)), .int .u64 (loN (b * g))] 24) R
    have P := Pair.new w1 (.int .u64 (hiN (b * g))) (.int .u64 (loN (b * g))) 24
    replace bel0 := bel_new bel0 (Nat.le_refl _) (.cells #[.int .u64 (hiN (b * g)), .int .u64 (loN (b * g))] 24)
    replace A := Pair.below A hb2
    replace B := Pair.below B hb2
    replace R := Pair.below R hb2
    replace P := Pair.below P hb2
    replace bel0 := bel_call bel0 (Nat.le_refl _) hb2
    clear hb2
    clear Ac Ad Al Bc Bd Bl Rc Rd Rl
    have RT := R.lt
    have Ac := A.1
    have Ad := A.2.1
    have Al := A.lt
    have Bc := B.1
    have Bd := B.2.1
    have Bl := B.lt
    have Rc := R.1
    have Rd := R.2.1
    have Rl := R.lt
    have Pc := P.1
    have Pd := P.2.1
    have Pl := P.lt
    go_wp2_with fail
    with_reducible refine (cmp_any _ _ _ _ _ (a - b * g) b ir hb).mono ?_
    rintro e w3 ⟨rfl, hb3⟩
    replace A := Pair.up' (o := .cells #[.int .u64 (hiN (a - b * g)), .int .u64 (loN (a - b * g))] 24) A
    replace B := Pair.up' (o := .cells #[.int .u64 (hiN (a - b * g)), .int .u64 (loN (a - b * g))] 24) B
    replace R := Pair.up' (o := .cells #[.int .u64 (hiN (a - b * g)), .int .u64 (loN (a - b * g))] 24) R
    replace P := Pair.up' (o := .cells #[.int .u64 (hiN (a - b * g)), .int .u64 (loN (a - b * g))] 24) P
    have T := Pair.new w2 (.int .u64 (hiN (a - b * g))) (.int .u64 (loN (a - b * g))) 24
    replace bel0 := bel_new bel0 (Nat.le_refl _) (.cells #[.int .u64 (hiN (a - b * g)), .int .u64 (loN (a - b * g))] 24)
    replace A := Pair.below A hb3
    replace B := Pair.below B hb3
    replace R := Pair.below R hb3
    replace P := Pair.below P hb3
    replace T := Pair.below T hb3
    replace bel0 := bel_call bel0 (Nat.le_refl _) hb3
    clear hb3
    clear Ac Ad Al Bc Bd Bl Rc Rd Rl Pc Pd Pl
    have Ac := A.1
    have Ad := A.2.1
    have Al := A.lt
    have Bc := B.1
    have Bd := B.2.1
    have Bl := B.lt
    have Rc := R.1
    have Rd := R.2.1
    have Rl := R.lt
    have Pc := P.1
    have Pd := P.2.1
    have Pl := P.lt
    have Tc := T.1
    have Td := T.2.1
    have Tl := T.lt
    go_wp2_with fail
    with_reducible refine (sub_ok _ _ _ _ _ (a - b * g) b ir hb hr).mono ?_
    rintro e w4 ⟨rfl, hb4⟩
    replace A := Pair.below A hb4
    replace B := Pair.below B hb4
    replace R := Pair.below R hb4
    replace P := Pair.below P hb4
    replace T := Pair.below T hb4
    replace bel0 := bel_call bel0 (Nat.le_refl _) hb4
    clear hb4
    clear Ac Ad Al Bc Bd Bl Rc Rd Rl Pc Pd Pl Tc Td Tl
    clear P A B
    obtain ⟨t0, t1, t2, t3⟩ := id T
    obtain ⟨r0, r1, r2, r3⟩ := id R
    go_wp2_with fail
    have T1 := T.put (.int .u64 (hiN (a - b * g - b))) (.int .u64 (loN (a - b * g - b)))
    have R1 := (R.set (q := ⟨w2.heap.size, 0, none⟩) (.int .u64 (hiN (a - b * g - b))) (by simp; omega)).set (q := ⟨w2.heap.size, 1, none⟩) (.int .u64 (loN (a - b * g - b))) (by simp; omega)
    have bel1 := (bel0.setCell (p := ⟨w2.heap.size, 0, none⟩) (by simp; omega) (.int .u64 (hiN (a - b * g - b)))).setCell (p := ⟨w2.heap.size, 1, none⟩) (by simp; omega) (.int .u64 (loN (a - b * g - b)))
    clear T R bel0 t0 t1 t2 t3 r0 r1 r2 r3
    generalize (w4.setCell ⟨w2.heap.size, 0, none⟩ (.int .u64 (hiN (a - b * g - b)))).setCell ⟨w2.heap.size, 1, none⟩ (.int .u64 (loN (a - b * g - b))) = v at *
    obtain ⟨t0, t1, t2, t3⟩ := id T1
    obtain ⟨r0, r1, r2, r3⟩ := id R1
    generalize hN : a - b * g - b = N at *
    clear hN
    go_region
    go_wp2
    refine bodyPost_ret (v := .tuple #[.int .u64 ((g : Int) + 1), .agg #[.int .u64 (hiN N), .int .u64 (loN N)]]) (by simp [results, Tryd.results30, go_sem, r0, r1]) rfl ⟨?_, ?_⟩
    · rw [HQ.out, HM.out]; rfl
    · exact ((bel1.setCell (by simp; omega) _).setCell (by simp; omega) _).drew
  · have hq := same_mul hb0 g1 (by omega)
    have hm := mod_eq hq
    have HQ := Lib.hid hq
    have HM := Lib.hid hm
    have hc : ¬ (0 : Int) ≤ cmpN (a - b * g) b := by
      have := cmpN_lt_iff (a - b * g) b
      omega
    clear hq hm g1 g2 h0 wg' hr
    go_enter Tryd.func30, Tryd.ntmps30
    go_wp2_with fail
    with_reducible refine (CG.out).mono ?_
    rintro e w1 ⟨rfl, hb1⟩
    clear CG
    replace A := Pair.below A hb1
    replace B := Pair.below B hb1
    replace R := Pair.below R hb1
    replace bel0 := bel_call bel0 (Nat.le_refl _) hb1
    clear hb1
    have Ac := A.1
    have Ad := A.2.1
    have Al := A.lt
    have Bc := B.1
    have Bd := B.2.1
    have Bl := B.lt
    have Rc := R.1
    have Rd := R.2.1
    have Rl := R.lt
    go_wp2_with fail
    with_reducible refine (times_e _ _ _ _ _ b g (b * g) hb (isW_word wg) rfl fp).mono ?_
    rintro e w1 ⟨rfl, hb1⟩
    replace A := Pair.below A hb1
    replace B := Pair.below B hb1
    replace R := Pair.below R hb1
    replace bel0 := bel_call bel0 (Nat.le_refl _) hb1
    clear hb1
    clear Ac Ad Al Bc Bd Bl Rc Rd Rl
    have Ac := A.1
    have Ad := A.2.1
    have Al := A.lt
    have Bc := B.1
    have Bd := B.2.1
    have Bl := B.lt
    have Rc := R.1
    have Rd := R.2.1
    have Rl := R.lt
    go_wp2_with fail
    with_reducible refine (sub_ok _ _ _ _ _ a (b * g) ha ip bm).mono ?_
    rintro e w2 ⟨rfl, hb2⟩
    replace A := Pair.up' (o := .cells #[.int .u64 (hiN (b * g)), .int .u64 (loN (b * g))] 24) A
    replace B := Pair.up' (o := .cells #[.int .u64 (hiN (b * g)), .int .u64 (loN (b * g))] 24) B
    replace R := Pair.up' (o := .cells #[.int .u64 (hiN (b * g)), .int .u64 (loN (b * g))] 24) R
    have P := Pair.new w1 (.int .u64 (hiN (b * g))) (.int .u64 (loN (b * g))) 24
    replace bel0 := bel_new bel0 (Nat.le_refl _) (.cells #[.int .u64 (hiN (b * g)), .int .u64 (loN (b * g))] 24)
    replace A := Pair.below A hb2
    replace B := Pair.below B hb2
    replace R := Pair.below R hb2
    replace P := Pair.below P hb2
    replace bel0 := bel_call bel0 (Nat.le_refl _) hb2
    clear hb2
    clear Ac Ad Al Bc Bd Bl Rc Rd Rl
    have RT := R.lt
    have Ac := A.1
    have Ad := A.2.1
    have Al := A.lt
    have Bc := B.1
    have Bd := B.2.1
    have Bl := B.lt
    have Rc := R.1
    have Rd := R.2.1
    have Rl := R.lt
    have Pc := P.1
    have Pd := P.2.1
    have Pl := P.lt
    go_wp2_with fail
    with_reducible refine (cmp_any _ _ _ _ _ (a - b * g) b ir hb).mono ?_
    rintro e w3 ⟨rfl, hb3⟩
    replace A := Pair.up' (o := .cells #[.int .u64 (hiN (a - b * g)), .int .u64 (loN (a - b * g))] 24) A
    replace B := Pair.up' (o := .cells #[.int .u64 (hiN (a - b * g)), .int .u64 (loN (a - b * g))] 24) B
    replace R := Pair.up' (o := .cells #[.int .u64 (hiN (a - b * g)), .int .u64 (loN (a - b * g))] 24) R
    replace P := Pair.up' (o := .cells #[.int .u64 (hiN (a - b * g)), .int .u64 (loN (a - b * g))] 24) P
    have T := Pair.new w2 (.int .u64 (hiN (a - b * g))) (.int .u64 (loN (a - b * g))) 24
    replace bel0 := bel_new bel0 (Nat.le_refl _) (.cells #[.int .u64 (hiN (a - b * g)), .int .u64 (loN (a - b * g))] 24)
    replace A := Pair.below A hb3
    replace B := Pair.below B hb3
    replace R := Pair.below R hb3
    replace P := Pair.below P hb3
    replace T := Pair.below T hb3
    replace bel0 := bel_call bel0 (Nat.le_refl _) hb3
    clear hb3
    clear Ac Ad Al Bc Bd Bl Rc Rd Rl Pc Pd Pl
    have Ac := A.1
    have Ad := A.2.1
    have Al := A.lt
    have Bc := B.1
    have Bd := B.2.1
    have Bl := B.lt
    have Rc := R.1
    have Rd := R.2.1
    have Rl := R.lt
    have Pc := P.1
    have Pd := P.2.1
    have Pl := P.lt
    have Tc := T.1
    have Td := T.2.1
    have Tl := T.lt
    clear P A B
    obtain ⟨t0, t1, t2, t3⟩ := id T
    obtain ⟨r0, r1, r2, r3⟩ := id R
    go_wp2_with fail
    go_region
    go_wp2
    refine bodyPost_ret (v := .tuple #[.int .u64 (g : Int), .agg #[.int .u64 (hiN (a - b * g)), .int .u64 (loN (a - b * g))]]) (by simp [results, Tryd.results30, go_sem, r0, r1]) rfl ⟨?_, ?_⟩
    · rw [HQ.out, HM.out]
    · exact ((bel0.setCell (by simp; omega) _).setCell (by simp; omega) _).drew
end Go.Proofs.YtidafhjdpklgbaaDoor
