/- hwkeep.DivBack returns true for every two numbers of 128 bits. No condition. -/
import Derived.Test.YtofbmpmefgapfaaFrame
import Derived.Test.YtofbmpmefgapfaaD3
namespace Go.Proofs.Ytofbmpmefgapfaa
open Go.ChangeShapes Go.WideShapes Go.ChangeAt Go.RowKit Go.Joins
attribute [local go_sem ↓] Go.wp_at_zero Go.wp_at_succ
theorem db_const (w : World) : Calls Try.prog 27 #[.agg #[.int .u64 1, .int .u64 0], .agg #[.int .u64 (hiN 10), .int .u64 (loN 10)]] w fun e w' => e = .returned (.tuple #[.agg #[.int .u64 0, .int .u64 1844674407370955161], .agg #[.int .u64 (hiN 6), .int .u64 (loN 6)], .int .i64 0]) ∧ Below w.heap.size w w' := by
  have k0 : IsW (1 * 18446744073709551616) 1 0 := isW_hi (x := 1) (by unfold Word; omega)
  have c := div_e 1 0 (hiN 10) (loN 10) w (1 * 18446744073709551616) 10 1844674407370955161 6 k0 (isW_self (by unfold Fits; omega)) (by omega) (by omega) (by omega)
  rw [show hiN 1844674407370955161 = 0 by unfold hiN; omega, show loN 1844674407370955161 = 1844674407370955161 by unfold loN; omega] at c
  exact c
set_option maxRecDepth 100000 in
set_option maxHeartbeats 4000000 in
theorem DivBack_zero (a b : Nat) (hb : b = 0) (w : World) :
    Calls Try.prog 10 #[.agg #[.int .u64 (hiN a), .int .u64 (loN a)], .agg #[.int .u64 (hiN b), .int .u64 (loN b)]] w fun e w' => e = .returned (.bool true) ∧ Below w.heap.size w w' := by
  have bel0 : Below w.heap.size w ((w.alloc (.cells #[.int .u64 (hiN a), .int .u64 (loN a)] 24)).alloc (.cells #[.int .u64 (hiN b), .int .u64 (loN b)] 24)) := ((Below.refl _ _).alloc (Nat.le_refl _) _).alloc (by simp) _
  have A := Pair.up' (o := .cells #[.int .u64 (hiN b), .int .u64 (loN b)] 24) (Pair.new w (.int .u64 (hiN a)) (.int .u64 (loN a)) 24)
  have B : Pair ((w.alloc (.cells #[.int .u64 (hiN a), .int .u64 (loN a)] 24)).alloc (.cells #[.int .u64 (hiN b), .int .u64 (loN b)] 24)) (w.heap.size + 1) (.int .u64 (hiN b)) (.int .u64 (loN b)) := Pair.new' _ _ _ _ _ (by simp)
  have iz : IsW 0 (hiN b) (loN b) := by rw [hb]; exact isW_self (by unfold Fits; omega)
  have q1 : ((hiN b : Int) == 0) = true := by rw [hb, hiN_of_word (by unfold Word; omega)]; rfl
  have q2 : ((loN b : Int) == 0) = true := by rw [hb, loN_of_word (by unfold Word; omega)]; rfl
  clear hb
  go_enter Try.func10, Try.ntmps10
  go_wp2_with fail
  with_reducible refine (num_c _ _ 10 lit10 (by omega)).mono ?_
  rintro e w1 ⟨rfl, hb1⟩
  replace A := Pair.below A hb1
  replace B := Pair.below B hb1
  replace bel0 := bel_call bel0 (Nat.le_refl _) hb1
  clear hb1
  go_wp2_with fail
  with_reducible refine (db_const _).mono ?_
  rintro e w2 ⟨rfl, hb2⟩
  replace A := Pair.below A hb2
  replace B := Pair.below B hb2
  replace bel0 := bel_call bel0 (Nat.le_refl _) hb2
  clear hb2
  have Ac := A.1
  have Ad := A.2.1
  have Al := A.lt
  have Bc := B.1
  have Bd := B.2.1
  have Bl := B.lt
  go_wp2_with fail
  replace A := Pair.up' (o := .cells #[.int .u64 0, .int .u64 1844674407370955161] 24) A
  replace B := Pair.up' (o := .cells #[.int .u64 0, .int .u64 1844674407370955161] 24) B
  have Q := Pair.new w2 (.int .u64 0) (.int .u64 1844674407370955161) 24
  replace bel0 := bel_new bel0 (Nat.le_refl _) (.cells #[.int .u64 0, .int .u64 1844674407370955161] 24)
  replace A := Pair.up' (o := .cells #[.int .u64 (hiN 6), .int .u64 (loN 6)] 24) A
  replace B := Pair.up' (o := .cells #[.int .u64 (hiN 6), .int .u64 (loN 6)] 24) B
  replace Q := Pair.up' (o := .cells #[.int .u64 (hiN 6), .int .u64 (loN 6)] 24) Q
  have R := Pair.new' ((w2).alloc (.cells #[.int .u64 0, .int .u64 1844674407370955161] 24)) (w2.heap.size + 1) (.int .u64 (hiN 6)) (.int .u64 (loN 6)) 24 (by simp)
  replace bel0 := bel_new bel0 (Nat.le_refl _) (.cells #[.int .u64 (hiN 6), .int .u64 (loN 6)] 24)
  clear Ac Ad Al Bc Bd Bl
  generalize ((w2).alloc (.cells #[.int .u64 0, .int .u64 1844674407370955161] 24)).alloc (.cells #[.int .u64 (hiN 6), .int .u64 (loN 6)] 24) = v at *
  have s0 := Q.1
  have s1 := Q.2.1
  have r0 := R.1
  have r1 := R.2.1
  go_region_held3 (fun w' => w'.cell? ⟨w2.heap.size, 0, none⟩ = some (.int .u64 0) ∧ w'.cell? ⟨w2.heap.size, 1, none⟩ = some (.int .u64 1844674407370955161) ∧ w'.cell? ⟨w2.heap.size + 1, 0, none⟩ = some (.int .u64 (hiN 6)) ∧ w'.cell? ⟨w2.heap.size + 1, 1, none⟩ = some (.int .u64 (loN 6))) (((try dsimp only); (refine ⟨?_, ?_, ?_, ?_⟩ <;> (repeat (first | with_reducible assumption | with_reducible refine cell_drew ?_ | with_reducible refine cell_below hb1 ?_))))) (first | (go_at_call 33; refine (num_c _ _ 6 lit6 (by omega)).mono ?_; rintro e v2 ⟨rfl, hb1⟩))
  replace A := Pair.below (Pair.drew A) hb1
  replace B := Pair.below (Pair.drew B) hb1
  replace bel0 := bel_call bel0.drew (Nat.le_refl _) hb1
  clear Q R r0 r1 s0 s1 hb1
  have Ac := A.1
  have Ad := A.2.1
  have Al := A.lt
  have Bc := B.1
  have Bd := B.2.1
  have Bl := B.lt
  go_wp2_with fail
  with_reducible refine (div_none _ _ _ _ _ iz).mono ?_
  rintro e w3 ⟨rfl, hb3⟩
  replace A := Pair.below A hb3
  replace B := Pair.below B hb3
  replace bel0 := bel_call bel0 (Nat.le_refl _) hb3
  clear hb3
  clear Ac Ad Al Bc Bd Bl
  have Ac := A.1
  have Ad := A.2.1
  have Al := A.lt
  have Bc := B.1
  have Bd := B.2.1
  have Bl := B.lt
  go_wp2
  go_ret
  exact ⟨rfl, bel_new (bel_new bel0 (Nat.le_refl _) _) (Nat.le_refl _) _⟩
set_option maxRecDepth 100000 in
set_option maxHeartbeats 4000000 in
theorem DivBack_some (a b : Nat) (fa : Fits a) (fb : Fits b) (h0 : 0 < b) (w : World) :
    Calls Try.prog 10 #[.agg #[.int .u64 (hiN a), .int .u64 (loN a)], .agg #[.int .u64 (hiN b), .int .u64 (loN b)]] w fun e w' => e = .returned (.bool true) ∧ Below w.heap.size w w' := by
  have bel0 : Below w.heap.size w ((w.alloc (.cells #[.int .u64 (hiN a), .int .u64 (loN a)] 24)).alloc (.cells #[.int .u64 (hiN b), .int .u64 (loN b)] 24)) := ((Below.refl _ _).alloc (Nat.le_refl _) _).alloc (by simp) _
  have A := Pair.up' (o := .cells #[.int .u64 (hiN b), .int .u64 (loN b)] 24) (Pair.new w (.int .u64 (hiN a)) (.int .u64 (loN a)) 24)
  have B : Pair ((w.alloc (.cells #[.int .u64 (hiN a), .int .u64 (loN a)] 24)).alloc (.cells #[.int .u64 (hiN b), .int .u64 (loN b)] 24)) (w.heap.size + 1) (.int .u64 (hiN b)) (.int .u64 (loN b)) := Pair.new' _ _ _ _ _ (by simp)
  obtain ⟨q, hq⟩ : ∃ q, a / b = q := ⟨_, rfl⟩
  obtain ⟨r, hr⟩ : ∃ r, a % b = r := ⟨_, rfl⟩
  obtain ⟨p, hp⟩ : ∃ p, q * b = p := ⟨_, rfl⟩
  have hs : p + r = a := by rw [← hp, ← hq, ← hr]; exact Nat.div_add_mod' a b
  have hrb : r < b := by rw [← hr]; exact Nat.mod_lt _ h0
  have fq : Fits q := by rw [← hq]; exact fits_mono fa (Nat.div_le_self _ _)
  have fr : Fits r := fits_mono fa (by omega)
  have fp : Fits p := fits_mono fa (by omega)
  have hc : ¬ (0 : Int) ≤ cmpN r b := by have := (cmpN_lt_iff r b).2 hrb; omega
  have la := loN_word a
  have lb := loN_word b
  have fm := prod_fits la lb
  have im := isW_self fm
  have il := isW_word lb
  have HQ := Lib.hid hq
  have HR := Lib.hid hr
  have HP := Lib.hid hp
  have HS := Lib.hid hs
  have ia := isW_self fa
  have ib := isW_self fb
  have iq := isW_self fq
  have ir := isW_self fr
  have ip := isW_self fp
  clear hq hr hp hs hrb
  go_enter Try.func10, Try.ntmps10
  go_wp2_with fail
  with_reducible refine (num_c _ _ 10 lit10 (by omega)).mono ?_
  rintro e w1 ⟨rfl, hb1⟩
  replace A := Pair.below A hb1
  replace B := Pair.below B hb1
  replace bel0 := bel_call bel0 (Nat.le_refl _) hb1
  clear hb1
  go_wp2_with fail
  with_reducible refine (db_const _).mono ?_
  rintro e w2 ⟨rfl, hb2⟩
  replace A := Pair.below A hb2
  replace B := Pair.below B hb2
  replace bel0 := bel_call bel0 (Nat.le_refl _) hb2
  clear hb2
  have Ac := A.1
  have Ad := A.2.1
  have Al := A.lt
  have Bc := B.1
  have Bd := B.2.1
  have Bl := B.lt
  go_wp2_with fail
  replace A := Pair.up' (o := .cells #[.int .u64 0, .int .u64 1844674407370955161] 24) A
  replace B := Pair.up' (o := .cells #[.int .u64 0, .int .u64 1844674407370955161] 24) B
  have Q := Pair.new w2 (.int .u64 0) (.int .u64 1844674407370955161) 24
  replace bel0 := bel_new bel0 (Nat.le_refl _) (.cells #[.int .u64 0, .int .u64 1844674407370955161] 24)
  replace A := Pair.up' (o := .cells #[.int .u64 (hiN 6), .int .u64 (loN 6)] 24) A
  replace B := Pair.up' (o := .cells #[.int .u64 (hiN 6), .int .u64 (loN 6)] 24) B
  replace Q := Pair.up' (o := .cells #[.int .u64 (hiN 6), .int .u64 (loN 6)] 24) Q
  have R := Pair.new' ((w2).alloc (.cells #[.int .u64 0, .int .u64 1844674407370955161] 24)) (w2.heap.size + 1) (.int .u64 (hiN 6)) (.int .u64 (loN 6)) 24 (by simp)
  replace bel0 := bel_new bel0 (Nat.le_refl _) (.cells #[.int .u64 (hiN 6), .int .u64 (loN 6)] 24)
  clear Ac Ad Al Bc Bd Bl
  generalize ((w2).alloc (.cells #[.int .u64 0, .int .u64 1844674407370955161] 24)).alloc (.cells #[.int .u64 (hiN 6), .int .u64 (loN 6)] 24) = v at *
  have s0 := Q.1
  have s1 := Q.2.1
  have r0 := R.1
  have r1 := R.2.1
  go_region_held3 (fun w' => w'.cell? ⟨w2.heap.size, 0, none⟩ = some (.int .u64 0) ∧ w'.cell? ⟨w2.heap.size, 1, none⟩ = some (.int .u64 1844674407370955161) ∧ w'.cell? ⟨w2.heap.size + 1, 0, none⟩ = some (.int .u64 (hiN 6)) ∧ w'.cell? ⟨w2.heap.size + 1, 1, none⟩ = some (.int .u64 (loN 6))) (((try dsimp only); (refine ⟨?_, ?_, ?_, ?_⟩ <;> (repeat (first | with_reducible assumption | with_reducible refine cell_drew ?_ | with_reducible refine cell_below hb1 ?_))))) (first | (go_at_call 33; refine (num_c _ _ 6 lit6 (by omega)).mono ?_; rintro e v2 ⟨rfl, hb1⟩))
  replace A := Pair.below (Pair.drew A) hb1
  replace B := Pair.below (Pair.drew B) hb1
  replace bel0 := bel_call bel0.drew (Nat.le_refl _) hb1
  clear Q R r0 r1 s0 s1 hb1
  have Ac := A.1
  have Ad := A.2.1
  have Al := A.lt
  have Bc := B.1
  have Bd := B.2.1
  have Bl := B.lt
  go_wp2_with fail
  with_reducible refine (div_e _ _ _ _ _ a b q r ia ib h0 HQ.out HR.out).mono ?_
  rintro e w3 ⟨rfl, hb3⟩
  replace A := Pair.below A hb3
  replace B := Pair.below B hb3
  replace bel0 := bel_call bel0 (Nat.le_refl _) hb3
  clear hb3
  clear Ac Ad Al Bc Bd Bl
  have Ac := A.1
  have Ad := A.2.1
  have Al := A.lt
  have Bc := B.1
  have Bd := B.2.1
  have Bl := B.lt
  go_wp2_with fail
  with_reducible refine (times_e _ _ _ _ _ q b p iq ib HP.out fp).mono ?_
  rintro e w4 ⟨rfl, hb4⟩
  replace A := Pair.up' (o := .cells #[.int .u64 (hiN q), .int .u64 (loN q)] 24) A
  replace B := Pair.up' (o := .cells #[.int .u64 (hiN q), .int .u64 (loN q)] 24) B
  have Q := Pair.new w3 (.int .u64 (hiN q)) (.int .u64 (loN q)) 24
  replace bel0 := bel_new bel0 (Nat.le_refl _) (.cells #[.int .u64 (hiN q), .int .u64 (loN q)] 24)
  replace A := Pair.up' (o := .cells #[.int .u64 (hiN r), .int .u64 (loN r)] 24) A
  replace B := Pair.up' (o := .cells #[.int .u64 (hiN r), .int .u64 (loN r)] 24) B
  replace Q := Pair.up' (o := .cells #[.int .u64 (hiN r), .int .u64 (loN r)] 24) Q
  have R := Pair.new' ((w3).alloc (.cells #[.int .u64 (hiN q), .int .u64 (loN q)] 24)) (w3.heap.size + 1) (.int .u64 (hiN r)) (.int .u64 (loN r)) 24 (by simp)
  replace bel0 := bel_new bel0 (Nat.le_refl _) (.cells #[.int .u64 (hiN r), .int .u64 (loN r)] 24)
  replace A := Pair.below A hb4
  replace B := Pair.below B hb4
  replace Q := Pair.below Q hb4
  replace R := Pair.below R hb4
  replace bel0 := bel_call bel0 (Nat.le_refl _) hb4
  clear hb4
  clear Ac Ad Al Bc Bd Bl
  have Ac := A.1
  have Ad := A.2.1
  have Al := A.lt
  have Bc := B.1
  have Bd := B.2.1
  have Bl := B.lt
  have Qc := Q.1
  have Qd := Q.2.1
  have Ql := Q.lt
  have Rc := R.1
  have Rd := R.2.1
  have Rl := R.lt
  go_wp2_with fail
  with_reducible refine (add_e _ _ _ _ _ p r a ip ir HS.out fa).mono ?_
  rintro e w5 ⟨rfl, hb5⟩
  replace A := Pair.up' (o := .cells #[.int .u64 (hiN p), .int .u64 (loN p)] 24) A
  replace B := Pair.up' (o := .cells #[.int .u64 (hiN p), .int .u64 (loN p)] 24) B
  replace Q := Pair.up' (o := .cells #[.int .u64 (hiN p), .int .u64 (loN p)] 24) Q
  replace R := Pair.up' (o := .cells #[.int .u64 (hiN p), .int .u64 (loN p)] 24) R
  have P := Pair.new w4 (.int .u64 (hiN p)) (.int .u64 (loN p)) 24
  replace bel0 := bel_new bel0 (Nat.le_refl _) (.cells #[.int .u64 (hiN p), .int .u64 (loN p)] 24)
  replace A := Pair.below A hb5
  replace B := Pair.below B hb5
  replace Q := Pair.below Q hb5
  replace R := Pair.below R hb5
  replace P := Pair.below P hb5
  replace bel0 := bel_call bel0 (Nat.le_refl _) hb5
  clear hb5
  clear Ac Ad Al Bc Bd Bl Qc Qd Ql Rc Rd Rl
  have Ac := A.1
  have Ad := A.2.1
  have Al := A.lt
  have Bc := B.1
  have Bd := B.2.1
  have Bl := B.lt
  have Qc := Q.1
  have Qd := Q.2.1
  have Ql := Q.lt
  have Rc := R.1
  have Rd := R.2.1
  have Rl := R.lt
  have Pc := P.1
  have Pd := P.2.1
  have Pl := P.lt
  go_wp2_with fail
  with_reducible refine (cmp_any _ _ _ _ _ r b ir ib).mono ?_
  rintro e w6 ⟨rfl, hb6⟩
  replace A := Pair.up' (o := .cells #[.int .u64 (hiN a), .int .u64 (loN a)] 24) A
  replace B := Pair.up' (o := .cells #[.int .u64 (hiN a), .int .u64 (loN a)] 24) B
  replace Q := Pair.up' (o := .cells #[.int .u64 (hiN a), .int .u64 (loN a)] 24) Q
  replace R := Pair.up' (o := .cells #[.int .u64 (hiN a), .int .u64 (loN a)] 24) R
  replace P := Pair.up' (o := .cells #[.int .u64 (hiN a), .int .u64 (loN a)] 24) P
  have T := Pair.new w5 (.int .u64 (hiN a)) (.int .u64 (loN a)) 24
  replace bel0 := bel_new bel0 (Nat.le_refl _) (.cells #[.int .u64 (hiN a), .int .u64 (loN a)] 24)
  replace A := Pair.below A hb6
  replace B := Pair.below B hb6
  replace Q := Pair.below Q hb6
  replace R := Pair.below R hb6
  replace P := Pair.below P hb6
  replace T := Pair.below T hb6
  replace bel0 := bel_call bel0 (Nat.le_refl _) hb6
  clear hb6
  clear Ac Ad Al Bc Bd Bl Qc Qd Ql Rc Rd Rl Pc Pd Pl
  have Ac := A.1
  have Ad := A.2.1
  have Al := A.lt
  have Bc := B.1
  have Bd := B.2.1
  have Bl := B.lt
  have Qc := Q.1
  have Qd := Q.2.1
  have Ql := Q.lt
  have Rc := R.1
  have Rd := R.2.1
  have Rl := R.lt
  have Pc := P.1
  have Pd := P.2.1
  have Pl := P.lt
  have Tc := T.1
  have Td := T.2.1
  have Tl := T.lt
  go_wp2_with fail
  with_reducible refine (mul_c _ _ _ (loN a) (loN b) rfl rfl la lb).mono ?_
  rintro e w7 ⟨rfl, hb7⟩
  replace A := Pair.below A hb7
  replace B := Pair.below B hb7
  replace Q := Pair.below Q hb7
  replace R := Pair.below R hb7
  replace P := Pair.below P hb7
  replace T := Pair.below T hb7
  replace bel0 := bel_call bel0 (Nat.le_refl _) hb7
  clear hb7
  clear Ac Ad Al Bc Bd Bl Qc Qd Ql Rc Rd Rl Pc Pd Pl Tc Td Tl
  clear Q R P T
  have Ac := A.1
  have Ad := A.2.1
  have Al := A.lt
  have Bc := B.1
  have Bd := B.2.1
  have Bl := B.lt
  by_cases hz : loN b = 0
  · have q2 : ((loN b : Int) == 0) = true := by simp [hz]
    clear hz
    go_wp2
    go_ret
    exact ⟨rfl, bel_new bel0 (Nat.le_refl _) _⟩
  · have q2 : ((loN b : Int) == 0) = false := by simp; omega
    have d1 : Hid (loN a * loN b / loN b = loN a) := Nat.mul_div_cancel _ (by omega)
    have d2 : Hid (loN a * loN b % loN b = 0) := Nat.mul_mod_left _ _
    have lp : 0 < loN b := by omega
    have z1 : Hid (hiN (loN a) = 0 ∧ loN (loN a) = loN a ∧ hiN 0 = 0 ∧ loN 0 = 0) := ⟨hiN_of_word la, loN_of_word la, hiN_of_word (by unfold Word; omega), loN_of_word (by unfold Word; omega)⟩
    have e1 := Lib.hid (fun w => div_e (hiN (loN a * loN b)) (loN (loN a * loN b)) 0 (loN b) w (loN a * loN b) (loN b) (loN a) 0 im il lp d1.out d2.out)
    rw [z1.out.1, z1.out.2.1, z1.out.2.2.1, z1.out.2.2.2, Int.natCast_zero] at e1
    clear hz d1 d2 z1
    go_wp2_with fail
    with_reducible refine (e1.out _).mono ?_
    rintro e w8 ⟨rfl, hb8⟩
    replace A := Pair.up' (o := .cells #[.int .u64 (hiN (loN a * loN b)), .int .u64 (loN (loN a * loN b))] 24) A
    replace B := Pair.up' (o := .cells #[.int .u64 (hiN (loN a * loN b)), .int .u64 (loN (loN a * loN b))] 24) B
    have M := Pair.new w7 (.int .u64 (hiN (loN a * loN b))) (.int .u64 (loN (loN a * loN b))) 24
    replace bel0 := bel_new bel0 (Nat.le_refl _) (.cells #[.int .u64 (hiN (loN a * loN b)), .int .u64 (loN (loN a * loN b))] 24)
    replace A := Pair.below A hb8
    replace B := Pair.below B hb8
    replace M := Pair.below M hb8
    replace bel0 := bel_call bel0 (Nat.le_refl _) hb8
    clear hb8
    clear Ac Ad Al Bc Bd Bl
    have Ac := A.1
    have Ad := A.2.1
    have Al := A.lt
    have Bc := B.1
    have Bd := B.2.1
    have Bl := B.lt
    have Mc := M.1
    have Md := M.2.1
    have Ml := M.lt
    go_wp2
    go_ret
    exact ⟨rfl, bel_new (bel_new bel0 (Nat.le_refl _) _) (Nat.le_refl _) _⟩
theorem DivBack_walk (x0 y0 : Int) (a : Nat) (ha : IsW a x0 y0) (x1 y1 : Int) (b : Nat) (hb : IsW b x1 y1) (w : World) :
    Calls Try.prog 10 #[.agg #[.int .u64 x0, .int .u64 y0], .agg #[.int .u64 x1, .int .u64 y1]] w fun e w' => e = .returned (.bool true) ∧ Below w.heap.size w w' := by
  obtain ⟨fa, rfl, rfl⟩ := ha
  obtain ⟨fb, rfl, rfl⟩ := hb
  by_cases h : b = 0
  · exact DivBack_zero a b h w
  · exact DivBack_some a b fa fb (by omega) w
set_option maxRecDepth 100000 in
theorem DivBack_lifted (os : Os) (started : os.Started) (H : Type) (enc : TypeId × Value → H) :
    ReturnsInHanded {} Try.checked os 10 .any (Rows.divBackSpec.pre6 enc Try.prog Try.f10 Rows.divBackRow.domain false) (Rows.divBackSpec.post enc Try.prog Try.f10 false true false false) := by
  refine returnsInHanded_of_change (C := Try.checked) law_own started (by kernel_rfl) Try.func10
    (ChangeSpec.witness6 (enc := enc) (C := Try.checked) false ⟨#[], #[.agg #[.int .u64 0, .int .u64 0], .agg #[.int .u64 0, .int .u64 0]], []⟩ 8 (by kernel_rfl) (by kernel_rfl) (by kernel_rfl) (by kernel_rfl)) ?_
  intro W base args ds gs before hval0 hW hcnd _
  have hval : ∀ (j : Nat) t v, Try.f10.params[j]? = some t → args[j]? = some v → Value.okWide Try.prog W .any base t v := hval0
  have hW' := hW
  obtain ⟨p, q, hA0, hV, rfl, hfz, hnd⟩ := hW
  have hA : DataW.TrodAll enc Try.prog W 0 (fun _ => true) true Try.f10.params.toList args.toList ds p := hA0
  rw [Try.params10] at hA hval
  obtain ⟨v0, vs0, d0, ds0, p0, q0, hargs, rfl, rfl, h0, r0⟩ := trodAll_cons hA
  obtain ⟨v1, vs1, d1, ds1, p1, q1, rfl, rfl, rfl, h1, r1⟩ := trodAll_cons r0
  obtain ⟨rfl, rfl, rfl⟩ := trodAll_nil r1
  obtain rfl : args = #[v0, v1] := by cases args; simp_all
  obtain ⟨rfl, rfl⟩ := trodVars_none hV
  obtain ⟨c0, e0, y0, z0, m0, rfl, rfl, rfl, hy0, hz0⟩ := open_agg2 Try.underlying24 (by kernel_rfl) law_cells (hval 0 24 v0 rfl rfl) h0
  obtain ⟨x0, f0, rfl, wx0⟩ := DataW.trod_int Try.underlying22 hy0
  obtain ⟨t0, g0, rfl, wt0⟩ := DataW.trod_int Try.underlying22 hz0
  simp at f0 g0
  subst f0 g0
  obtain ⟨A0, hw0⟩ := isW_of wx0 wt0
  obtain ⟨c1, e1, y1, z1, m1, rfl, rfl, rfl, hy1, hz1⟩ := open_agg2 Try.underlying24 (by kernel_rfl) law_cells (hval 1 24 v1 rfl rfl) h1
  obtain ⟨x1, f1, rfl, wx1⟩ := DataW.trod_int Try.underlying22 hy1
  obtain ⟨t1, g1, rfl, wt1⟩ := DataW.trod_int Try.underlying22 hz1
  simp at f1 g1
  subst f1 g1
  obtain ⟨A1, hw1⟩ := isW_of wx1 wt1
  clear hA0 hval0
  refine (DivBack_walk x0 t0 A0 hw0 x1 t1 A1 hw1 W).mono fun e W' ⟨he, bel⟩ => ?_
  subst he
  exact ⟨_, rfl, _, _, _, [], _, [], hW', trodAll_mk1 (shut_bool Try.underlying4 _), (trodAll_cons_mk (wide_reads wx0 wt0) (trodAll_cons_mk (wide_reads wx1 wt1) trodAll_mk0)), rfl, bel.frame _, fun h => by cases h⟩
theorem DivBack_holds : Rows.DivBackSaid :=
  OpenClaim.holds_of_wide 10 Try.f10 rfl rfl rfl rfl rfl rfl rfl ⟨rfl, rfl, rfl, rfl, rfl⟩ rfl rfl rfl rfl rfl (by kernel_rfl) Try.func10 (by kernel_rfl)
    (of_decide_eq_true (by kernel_rfl)) (by unfold Func.isWrapper; first | (rw [if_pos (by decide +kernel)]; kernel_rfl) | (rw [if_neg (by decide +kernel)]; exact ⟨rfl, rfl⟩))
    (fun os started H enc _ => DivBack_lifted os started H enc)
end Go.Proofs.Ytofbmpmefgapfaa
