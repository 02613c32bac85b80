/- hwkeep.WideGroup returns true for every three numbers of 128 bits. No condition. -/
import Derived.Test.YtofbmpmefgapfaaFrame
import Derived.Test.YtofbmpmefgapfaaH1
import Derived.Test.YtofbmpmefgapfaaWGr
import Derived.Test.YtofbmpmefgapfaaWGe
namespace Go.Proofs.Ytofbmpmefgapfaa
open Go.ChangeShapes Go.WideShapes Go.ChangeAt Go.RowKit Go.Joins
attribute [local go_sem ↓] Go.wp_at_zero Go.wp_at_succ
theorem zeros7 (u : World) : ∀ k, k < 7 → (u.alloc (.cells #[.int .i64 0, .int .i64 0, .int .i64 0, .int .i64 0, .int .i64 0, .int .i64 0, .int .i64 0] 25)).cell? ⟨u.heap.size, k, none⟩ = some (.int .i64 0) := by
  intro k hk
  rw [World.cell?_alloc_at _ _ _ _ rfl]
  have : k = 0 ∨ k = 1 ∨ k = 2 ∨ k = 3 ∨ k = 4 ∨ k = 5 ∨ k = 6 := by omega
  rcases this with rfl | rfl | rfl | rfl | rfl | rfl | rfl <;> rfl
theorem zeros7' (u : World) (o : Obj) : ∀ k, k < 7 → ((u.alloc o).alloc (.cells #[.int .i64 0, .int .i64 0, .int .i64 0, .int .i64 0, .int .i64 0, .int .i64 0, .int .i64 0] 25)).cell? ⟨u.heap.size + 1, k, none⟩ = some (.int .i64 0) := by
  intro k hk
  have := zeros7 (u.alloc o) k hk
  simpa using this
theorem wg_const (w : World) : Calls Try.prog 14 #[.agg #[.int .u64 0, .int .u64 9223372036854775808], .agg #[.int .u64 0, .int .u64 9223372036854775808]] w fun e w' => e = .returned (.tuple #[.agg #[.int .u64 1, .int .u64 0], .int .i64 0]) ∧ Below w.heap.size w w' := by
  have k0 : IsW 9223372036854775808 0 9223372036854775808 := isW_word (a := 9223372036854775808) (by unfold Word; omega)
  have c := add_e 0 9223372036854775808 0 9223372036854775808 w 9223372036854775808 9223372036854775808 18446744073709551616 k0 k0 (by omega) (by unfold Fits; omega)
  rw [show hiN 18446744073709551616 = 1 by unfold hiN; omega, show loN 18446744073709551616 = 0 by unfold loN; omega] at c
  exact c
set_option maxRecDepth 100000 in
set_option maxHeartbeats 8000000 in
theorem WideGroup_walk (x0 y0 : Int) (a : Nat) (ha : IsW a x0 y0) (x1 y1 : Int) (b : Nat) (hb : IsW b x1 y1) (x2 y2 : Int) (c : Nat) (hc : IsW c x2 y2) (w : World) :
    Calls Try.prog 6 #[.agg #[.int .u64 x0, .int .u64 y0], .agg #[.int .u64 x1, .int .u64 y1], .agg #[.int .u64 x2, .int .u64 y2]] w fun e w' => e = .returned (.bool true) ∧ Below w.heap.size w w' := by
  obtain ⟨bel0, A, B, C⟩ := box3 w (.int .u64 x0) (.int .u64 y0) (.int .u64 x1) (.int .u64 y1) (.int .u64 x2) (.int .u64 y2) 24
  go_enter Try.func6, Try.ntmps6
  go_wp2_with fail
  with_reducible refine (wg_const _).mono ?_
  rintro e w1 ⟨rfl, hb1⟩
  replace A := Pair.below A hb1
  replace B := Pair.below B hb1
  replace C := Pair.below C hb1
  replace bel0 := bel_call bel0 (Nat.le_refl _) hb1
  clear hb1
  have Ac := A.1
  have Ad := A.2.1
  have Al := A.lt
  have Bc := B.1
  have Bd := B.2.1
  have Bl := B.lt
  have Cc := C.1
  have Cd := C.2.1
  have Cl := C.lt
  go_wp2_with fail
  replace A := Pair.up' (o := .cells #[.int .u64 1, .int .u64 0] 24) A
  replace B := Pair.up' (o := .cells #[.int .u64 1, .int .u64 0] 24) B
  replace C := Pair.up' (o := .cells #[.int .u64 1, .int .u64 0] 24) C
  have X := Pair.new w1 (.int .u64 1) (.int .u64 0) 24
  replace bel0 := bel_new bel0 (Nat.le_refl _) (.cells #[.int .u64 1, .int .u64 0] 24)
  clear Ac Ad Al Bc Bd Bl Cc Cd Cl
  generalize (w1).alloc (.cells #[.int .u64 1, .int .u64 0] 24) = v at *
  clear X
  have Ac := A.1
  have Ad := A.2.1
  have Al := A.lt
  have Bc := B.1
  have Bd := B.2.1
  have Bl := B.lt
  have Cc := C.1
  have Cd := C.2.1
  have Cl := C.lt
  refine WGr_wp _ _ _ _ _ _ _ _ _ _ _ _ _ _ _ _ _ _ _ _ _ _ _ _ _ _ _ _ _ _ _ _ _ _ _ _ _ _ _ _ _ _ _ _ _ _ _ _ _ _ _ _ _ _ _ _ _ _ _ _ _ _ _ _ _ _ _ _ _ _ _ _ _ _ _ _ _ _ _ _ _ _ _ _ _ _ _ _ _ _ _ _ _ _ _ _ _ _ _ _ _ _ _ _ _ _ _ _ _ _ _ _ _ _ _ _ _ _ w v x0 y0 x1 y1 x2 y2 a b c ha hb hc A B C bel0 ?_
  intro u38 u39 u40 u41 u42 u43 wc hcut
  clear A B C bel0 Ac Ad Al Bc Bd Bl Cc Cd Cl
  obtain ⟨A, B, C, bel0⟩ := hcut
  have fa := halfN_lt ha.fits
  have fb := halfN_lt hb.fits
  have fc := halfN_lt hc.fits
  generalize halfN a = a1 at *
  generalize halfN b = b1 at *
  generalize halfN c = c1 at *
  clear ha hb hc
  have ia := isW_of_lt (a := a1) (by omega)
  have ib := isW_of_lt (a := b1) (by omega)
  have ic := isW_of_lt (a := c1) (by omega)
  obtain ⟨s, hs⟩ : ∃ s, a1 + b1 = s := ⟨_, rfl⟩
  obtain ⟨m, hm⟩ : ∃ m, b1 + c1 = m := ⟨_, rfl⟩
  obtain ⟨l, hl⟩ : ∃ l, s + c1 = l := ⟨_, rfl⟩
  have e1 : Hid (b1 + a1 = s) := by show _ = _; omega
  have e2 : Hid (a1 + m = l) := by show _ = _; omega
  have e3 : Hid (s = a1 + b1) := hs.symm
  have f1 : Fits s := by unfold Fits; omega
  have f2 : Fits l := by unfold Fits; omega
  have f3 : Fits m := by unfold Fits; omega
  have f4 : Fits a1 := by unfold Fits; omega
  have z0 : IsW 0 0 0 := isW_word (a := 0) (by unfold Word; omega)
  have HS := Lib.hid hs
  have HM := Lib.hid hm
  have HL := Lib.hid hl
  have is := isW_self f1
  have im := isW_self f3
  clear fa fb fc hs hm hl
  have Ac := A.1
  have Ad := A.2.1
  have Al := A.lt
  have Bc := B.1
  have Bd := B.2.1
  have Bl := B.lt
  have Cc := C.1
  have Cd := C.2.1
  have Cl := C.lt
  go_wp2_with fail
  with_reducible refine (add_e _ _ _ _ _ a1 b1 s ia ib HS.out f1).mono ?_
  rintro e w2 ⟨rfl, hb2⟩
  replace A := Pair.below A hb2
  replace B := Pair.below B hb2
  replace C := Pair.below C hb2
  replace bel0 := bel_call bel0 (Nat.le_refl _) hb2
  clear hb2
  clear Ac Ad Al Bc Bd Bl Cc Cd Cl
  have Ac := A.1
  have Ad := A.2.1
  have Al := A.lt
  have Bc := B.1
  have Bd := B.2.1
  have Bl := B.lt
  have Cc := C.1
  have Cd := C.2.1
  have Cl := C.lt
  go_wp2_with fail
  with_reducible refine (add_e _ _ _ _ _ b1 a1 s ib ia e1.out f1).mono ?_
  rintro e w3 ⟨rfl, hb3⟩
  replace A := Pair.up' (o := .cells #[.int .u64 (hiN s), .int .u64 (loN s)] 24) A
  replace B := Pair.up' (o := .cells #[.int .u64 (hiN s), .int .u64 (loN s)] 24) B
  replace C := Pair.up' (o := .cells #[.int .u64 (hiN s), .int .u64 (loN s)] 24) C
  have P := Pair.new w2 (.int .u64 (hiN s)) (.int .u64 (loN s)) 24
  replace bel0 := bel_new bel0 (Nat.le_refl _) (.cells #[.int .u64 (hiN s), .int .u64 (loN s)] 24)
  replace A := Pair.below A hb3
  replace B := Pair.below B hb3
  replace C := Pair.below C hb3
  replace P := Pair.below P hb3
  replace bel0 := bel_call bel0 (Nat.le_refl _) hb3
  clear hb3
  clear Ac Ad Al Bc Bd Bl Cc Cd Cl
  have Ac := A.1
  have Ad := A.2.1
  have Al := A.lt
  have Bc := B.1
  have Bd := B.2.1
  have Bl := B.lt
  have Cc := C.1
  have Cd := C.2.1
  have Cl := C.lt
  have Pc := P.1
  have Pd := P.2.1
  have Pl := P.lt
  go_wp2_with fail
  with_reducible refine (add_e _ _ _ _ _ s c1 l is ic HL.out f2).mono ?_
  rintro e w4 ⟨rfl, hb4⟩
  replace A := Pair.up' (o := .cells #[.int .u64 (hiN s), .int .u64 (loN s)] 24) A
  replace B := Pair.up' (o := .cells #[.int .u64 (hiN s), .int .u64 (loN s)] 24) B
  replace C := Pair.up' (o := .cells #[.int .u64 (hiN s), .int .u64 (loN s)] 24) C
  replace P := Pair.up' (o := .cells #[.int .u64 (hiN s), .int .u64 (loN s)] 24) P
  have Q := Pair.new w3 (.int .u64 (hiN s)) (.int .u64 (loN s)) 24
  replace bel0 := bel_new bel0 (Nat.le_refl _) (.cells #[.int .u64 (hiN s), .int .u64 (loN s)] 24)
  replace A := Pair.below A hb4
  replace B := Pair.below B hb4
  replace C := Pair.below C hb4
  replace P := Pair.below P hb4
  replace Q := Pair.below Q hb4
  replace bel0 := bel_call bel0 (Nat.le_refl _) hb4
  clear hb4
  clear Ac Ad Al Bc Bd Bl Cc Cd Cl Pc Pd Pl
  have Ac := A.1
  have Ad := A.2.1
  have Al := A.lt
  have Bc := B.1
  have Bd := B.2.1
  have Bl := B.lt
  have Cc := C.1
  have Cd := C.2.1
  have Cl := C.lt
  have Pc := P.1
  have Pd := P.2.1
  have Pl := P.lt
  have Qc := Q.1
  have Qd := Q.2.1
  have Ql := Q.lt
  go_wp2_with fail
  with_reducible refine (add_e _ _ _ _ _ b1 c1 m ib ic HM.out f3).mono ?_
  rintro e w5 ⟨rfl, hb5⟩
  replace A := Pair.up' (o := .cells #[.int .u64 (hiN l), .int .u64 (loN l)] 24) A
  replace B := Pair.up' (o := .cells #[.int .u64 (hiN l), .int .u64 (loN l)] 24) B
  replace C := Pair.up' (o := .cells #[.int .u64 (hiN l), .int .u64 (loN l)] 24) C
  replace P := Pair.up' (o := .cells #[.int .u64 (hiN l), .int .u64 (loN l)] 24) P
  replace Q := Pair.up' (o := .cells #[.int .u64 (hiN l), .int .u64 (loN l)] 24) Q
  have L := Pair.new w4 (.int .u64 (hiN l)) (.int .u64 (loN l)) 24
  replace bel0 := bel_new bel0 (Nat.le_refl _) (.cells #[.int .u64 (hiN l), .int .u64 (loN l)] 24)
  replace A := Pair.below A hb5
  replace B := Pair.below B hb5
  replace C := Pair.below C hb5
  replace P := Pair.below P hb5
  replace Q := Pair.below Q hb5
  replace L := Pair.below L hb5
  replace bel0 := bel_call bel0 (Nat.le_refl _) hb5
  clear hb5
  clear Ac Ad Al Bc Bd Bl Cc Cd Cl Pc Pd Pl Qc Qd Ql
  have Ac := A.1
  have Ad := A.2.1
  have Al := A.lt
  have Bc := B.1
  have Bd := B.2.1
  have Bl := B.lt
  have Cc := C.1
  have Cd := C.2.1
  have Cl := C.lt
  have Pc := P.1
  have Pd := P.2.1
  have Pl := P.lt
  have Qc := Q.1
  have Qd := Q.2.1
  have Ql := Q.lt
  have Lc := L.1
  have Ld := L.2.1
  have Ll := L.lt
  go_wp2_with fail
  with_reducible refine (add_e _ _ _ _ _ a1 m l ia im e2.out f2).mono ?_
  rintro e w6 ⟨rfl, hb6⟩
  replace A := Pair.up' (o := .cells #[.int .u64 (hiN m), .int .u64 (loN m)] 24) A
  replace B := Pair.up' (o := .cells #[.int .u64 (hiN m), .int .u64 (loN m)] 24) B
  replace C := Pair.up' (o := .cells #[.int .u64 (hiN m), .int .u64 (loN m)] 24) C
  replace P := Pair.up' (o := .cells #[.int .u64 (hiN m), .int .u64 (loN m)] 24) P
  replace Q := Pair.up' (o := .cells #[.int .u64 (hiN m), .int .u64 (loN m)] 24) Q
  replace L := Pair.up' (o := .cells #[.int .u64 (hiN m), .int .u64 (loN m)] 24) L
  have M := Pair.new w5 (.int .u64 (hiN m)) (.int .u64 (loN m)) 24
  replace bel0 := bel_new bel0 (Nat.le_refl _) (.cells #[.int .u64 (hiN m), .int .u64 (loN m)] 24)
  replace A := Pair.below A hb6
  replace B := Pair.below B hb6
  replace C := Pair.below C hb6
  replace P := Pair.below P hb6
  replace Q := Pair.below Q hb6
  replace L := Pair.below L hb6
  replace M := Pair.below M hb6
  replace bel0 := bel_call bel0 (Nat.le_refl _) hb6
  clear hb6
  clear Ac Ad Al Bc Bd Bl Cc Cd Cl Pc Pd Pl Qc Qd Ql Lc Ld Ll
  have Ac := A.1
  have Ad := A.2.1
  have Al := A.lt
  have Bc := B.1
  have Bd := B.2.1
  have Bl := B.lt
  have Cc := C.1
  have Cd := C.2.1
  have Cl := C.lt
  have Pc := P.1
  have Pd := P.2.1
  have Pl := P.lt
  have Qc := Q.1
  have Qd := Q.2.1
  have Ql := Q.lt
  have Lc := L.1
  have Ld := L.2.1
  have Ll := L.lt
  have Mc := M.1
  have Md := M.2.1
  have Ml := M.lt
  go_wp2_with fail
  with_reducible refine (sub_e _ _ _ _ _ s b1 a1 is ib e3.out).mono ?_
  rintro e w7 ⟨rfl, hb7⟩
  replace A := Pair.up' (o := .cells #[.int .u64 (hiN l), .int .u64 (loN l)] 24) A
  replace B := Pair.up' (o := .cells #[.int .u64 (hiN l), .int .u64 (loN l)] 24) B
  replace C := Pair.up' (o := .cells #[.int .u64 (hiN l), .int .u64 (loN l)] 24) C
  replace P := Pair.up' (o := .cells #[.int .u64 (hiN l), .int .u64 (loN l)] 24) P
  replace Q := Pair.up' (o := .cells #[.int .u64 (hiN l), .int .u64 (loN l)] 24) Q
  replace L := Pair.up' (o := .cells #[.int .u64 (hiN l), .int .u64 (loN l)] 24) L
  replace M := Pair.up' (o := .cells #[.int .u64 (hiN l), .int .u64 (loN l)] 24) M
  have R := Pair.new w6 (.int .u64 (hiN l)) (.int .u64 (loN l)) 24
  replace bel0 := bel_new bel0 (Nat.le_refl _) (.cells #[.int .u64 (hiN l), .int .u64 (loN l)] 24)
  replace A := Pair.below A hb7
  replace B := Pair.below B hb7
  replace C := Pair.below C hb7
  replace P := Pair.below P hb7
  replace Q := Pair.below Q hb7
  replace L := Pair.below L hb7
  replace M := Pair.below M hb7
  replace R := Pair.below R hb7
  replace bel0 := bel_call bel0 (Nat.le_refl _) hb7
  clear hb7
  clear Ac Ad Al Bc Bd Bl Cc Cd Cl Pc Pd Pl Qc Qd Ql Lc Ld Ll Mc Md Ml
  have Ac := A.1
  have Ad := A.2.1
  have Al := A.lt
  have Bc := B.1
  have Bd := B.2.1
  have Bl := B.lt
  have Cc := C.1
  have Cd := C.2.1
  have Cl := C.lt
  have Pc := P.1
  have Pd := P.2.1
  have Pl := P.lt
  have Qc := Q.1
  have Qd := Q.2.1
  have Ql := Q.lt
  have Lc := L.1
  have Ld := L.2.1
  have Ll := L.lt
  have Mc := M.1
  have Md := M.2.1
  have Ml := M.lt
  have Rc := R.1
  have Rd := R.2.1
  have Rl := R.lt
  go_wp2_with fail
  with_reducible refine (add_e _ _ _ _ _ a1 0 a1 ia z0 (Nat.add_zero _) f4).mono ?_
  rintro e w8 ⟨rfl, hb8⟩
  replace A := Pair.up' (o := .cells #[.int .u64 (hiN a1), .int .u64 (loN a1)] 24) A
  replace B := Pair.up' (o := .cells #[.int .u64 (hiN a1), .int .u64 (loN a1)] 24) B
  replace C := Pair.up' (o := .cells #[.int .u64 (hiN a1), .int .u64 (loN a1)] 24) C
  replace P := Pair.up' (o := .cells #[.int .u64 (hiN a1), .int .u64 (loN a1)] 24) P
  replace Q := Pair.up' (o := .cells #[.int .u64 (hiN a1), .int .u64 (loN a1)] 24) Q
  replace L := Pair.up' (o := .cells #[.int .u64 (hiN a1), .int .u64 (loN a1)] 24) L
  replace M := Pair.up' (o := .cells #[.int .u64 (hiN a1), .int .u64 (loN a1)] 24) M
  replace R := Pair.up' (o := .cells #[.int .u64 (hiN a1), .int .u64 (loN a1)] 24) R
  have D := Pair.new w7 (.int .u64 (hiN a1)) (.int .u64 (loN a1)) 24
  replace bel0 := bel_new bel0 (Nat.le_refl _) (.cells #[.int .u64 (hiN a1), .int .u64 (loN a1)] 24)
  replace A := Pair.below A hb8
  replace B := Pair.below B hb8
  replace C := Pair.below C hb8
  replace P := Pair.below P hb8
  replace Q := Pair.below Q hb8
  replace L := Pair.below L hb8
  replace M := Pair.below M hb8
  replace R := Pair.below R hb8
  replace D := Pair.below D hb8
  replace bel0 := bel_call bel0 (Nat.le_refl _) hb8
  clear hb8
  clear Ac Ad Al Bc Bd Bl Cc Cd Cl Pc Pd Pl Qc Qd Ql Lc Ld Ll Mc Md Ml Rc Rd Rl
  have Ac := A.1
  have Ad := A.2.1
  have Al := A.lt
  have Bc := B.1
  have Bd := B.2.1
  have Bl := B.lt
  have Cc := C.1
  have Cd := C.2.1
  have Cl := C.lt
  have Pc := P.1
  have Pd := P.2.1
  have Pl := P.lt
  have Qc := Q.1
  have Qd := Q.2.1
  have Ql := Q.lt
  have Lc := L.1
  have Ld := L.2.1
  have Ll := L.lt
  have Mc := M.1
  have Md := M.2.1
  have Ml := M.lt
  have Rc := R.1
  have Rd := R.2.1
  have Rl := R.lt
  have Dc := D.1
  have Dd := D.2.1
  have Dl := D.lt
  go_wp2_with fail
  have hz := zeros7' w8 (.cells #[.int .u64 (hiN a1), .int .u64 (loN a1)] 24)
  replace A := Pair.up' (o := .cells #[.int .u64 (hiN a1), .int .u64 (loN a1)] 24) A
  replace B := Pair.up' (o := .cells #[.int .u64 (hiN a1), .int .u64 (loN a1)] 24) B
  replace C := Pair.up' (o := .cells #[.int .u64 (hiN a1), .int .u64 (loN a1)] 24) C
  replace P := Pair.up' (o := .cells #[.int .u64 (hiN a1), .int .u64 (loN a1)] 24) P
  replace Q := Pair.up' (o := .cells #[.int .u64 (hiN a1), .int .u64 (loN a1)] 24) Q
  replace L := Pair.up' (o := .cells #[.int .u64 (hiN a1), .int .u64 (loN a1)] 24) L
  replace M := Pair.up' (o := .cells #[.int .u64 (hiN a1), .int .u64 (loN a1)] 24) M
  replace R := Pair.up' (o := .cells #[.int .u64 (hiN a1), .int .u64 (loN a1)] 24) R
  replace D := Pair.up' (o := .cells #[.int .u64 (hiN a1), .int .u64 (loN a1)] 24) D
  have O := Pair.new w8 (.int .u64 (hiN a1)) (.int .u64 (loN a1)) 24
  replace bel0 := bel_new bel0 (Nat.le_refl _) (.cells #[.int .u64 (hiN a1), .int .u64 (loN a1)] 24)
  clear Ac Ad Al Bc Bd Bl Cc Cd Cl Pc Pd Pl Qc Qd Ql Lc Ld Ll Mc Md Ml Rc Rd Rl Dc Dd Dl
  generalize (w8).alloc (.cells #[.int .u64 (hiN a1), .int .u64 (loN a1)] 24) = u at *
  replace A := Pair.up' (o := .cells #[.int .i64 0, .int .i64 0, .int .i64 0, .int .i64 0, .int .i64 0, .int .i64 0, .int .i64 0] 25) A
  replace B := Pair.up' (o := .cells #[.int .i64 0, .int .i64 0, .int .i64 0, .int .i64 0, .int .i64 0, .int .i64 0, .int .i64 0] 25) B
  replace C := Pair.up' (o := .cells #[.int .i64 0, .int .i64 0, .int .i64 0, .int .i64 0, .int .i64 0, .int .i64 0, .int .i64 0] 25) C
  replace P := Pair.up' (o := .cells #[.int .i64 0, .int .i64 0, .int .i64 0, .int .i64 0, .int .i64 0, .int .i64 0, .int .i64 0] 25) P
  replace Q := Pair.up' (o := .cells #[.int .i64 0, .int .i64 0, .int .i64 0, .int .i64 0, .int .i64 0, .int .i64 0, .int .i64 0] 25) Q
  replace L := Pair.up' (o := .cells #[.int .i64 0, .int .i64 0, .int .i64 0, .int .i64 0, .int .i64 0, .int .i64 0, .int .i64 0] 25) L
  replace M := Pair.up' (o := .cells #[.int .i64 0, .int .i64 0, .int .i64 0, .int .i64 0, .int .i64 0, .int .i64 0, .int .i64 0] 25) M
  replace R := Pair.up' (o := .cells #[.int .i64 0, .int .i64 0, .int .i64 0, .int .i64 0, .int .i64 0, .int .i64 0, .int .i64 0] 25) R
  replace D := Pair.up' (o := .cells #[.int .i64 0, .int .i64 0, .int .i64 0, .int .i64 0, .int .i64 0, .int .i64 0, .int .i64 0] 25) D
  replace O := Pair.up' (o := .cells #[.int .i64 0, .int .i64 0, .int .i64 0, .int .i64 0, .int .i64 0, .int .i64 0, .int .i64 0] 25) O
  replace bel0 := bel_new bel0 (Nat.le_refl _) (.cells #[.int .i64 0, .int .i64 0, .int .i64 0, .int .i64 0, .int .i64 0, .int .i64 0, .int .i64 0] 25)
  generalize u.alloc (.cells #[.int .i64 0, .int .i64 0, .int .i64 0, .int .i64 0, .int .i64 0, .int .i64 0, .int .i64 0] 25) = t at *
  clear B C M
  have Ac := A.1
  have Ad := A.2.1
  have Al := A.lt
  have Pc := P.1
  have Pd := P.2.1
  have Pl := P.lt
  have Qc := Q.1
  have Qd := Q.2.1
  have Ql := Q.lt
  have Lc := L.1
  have Ld := L.2.1
  have Ll := L.lt
  have Rc := R.1
  have Rd := R.2.1
  have Rl := R.lt
  have Dc := D.1
  have Dd := D.2.1
  have Dl := D.lt
  have Oc := O.1
  have Od := O.2.1
  have Ol := O.lt
  refine WGl_wp _ _ _ _ _ _ _ _ _ _ _ _ _ _ _ _ _ _ _ _ _ _ _ _ _ _ _ _ _ _ _ _ _ _ _ _ _ _ _ _ _ _ _ _ _ _ _ _ _ _ _ _ _ _ _ _ _ _ _ _ _ _ _ _ _ _ _ _ _ _ _ _ _ _ _ _ _ _ _ _ _ _ _ _ _ _ _ _ _ _ _ _ _ _ _ _ _ _ _ _ _ _ _ _ _ _ _ _ _ _ _ _ _ _ _ _ _ _ t (w8.heap.size + 1) hz ?_
  intro u6 u24 u95 u96 u97 u98 u99 u100 u101
  clear hz
  go_upto_region 18 with (fail)
  refine WGe_wp _ _ _ _ _ _ _ _ _ _ _ _ _ _ _ _ _ _ _ _ _ _ _ _ _ _ _ _ _ _ _ _ _ _ _ _ _ _ _ _ _ _ _ _ _ _ _ _ _ _ _ _ _ _ _ _ _ _ _ _ _ _ _ _ _ _ _ _ _ _ _ _ _ _ _ _ _ _ _ _ _ _ _ _ _ _ _ _ _ _ _ _ _ _ _ _ _ _ _ _ _ _ _ _ _ _ _ _ _ _ _ _ _ _ t _ _ _ _ _ _ _ _ _ _ _ _ _ Ac Ad Pc Pd Qc Qd Lc Ld Rc Rd Dc Dd Oc Od ?_
  intro u102 u103 u104 u105 u106 u107 u108 u109 u110 u111 u112 u113 u114 u115 u116 u117 u118 u119
  clear Ac Ad Al Pc Pd Pl Qc Qd Ql Lc Ld Ll Rc Rd Rl Dc Dd Dl Oc Od Ol A P Q L R D O
  go_wp2
  go_ret
  exact ⟨rfl, bel0⟩
set_option maxRecDepth 100000 in
theorem WideGroup_lifted (os : Os) (started : os.Started) (H : Type) (enc : TypeId × Value → H) :
    ReturnsInHanded {} Try.checked os 6 .any (Rows.wideGroupSpec.pre6 enc Try.prog Try.f6 Rows.wideGroupRow.domain false) (Rows.wideGroupSpec.post enc Try.prog Try.f6 false true false false) := by
  refine returnsInHanded_of_change (C := Try.checked) law_own started (by kernel_rfl) Try.func6
    (ChangeSpec.witness6 (enc := enc) (C := Try.checked) false ⟨#[], #[.agg #[.int .u64 0, .int .u64 0], .agg #[.int .u64 0, .int .u64 0], .agg #[.int .u64 0, .int .u64 0]], []⟩ 8 (by kernel_rfl) (by kernel_rfl) (by kernel_rfl) (by kernel_rfl)) ?_
  intro W base args ds gs before hval0 hW hcnd _
  have hval : ∀ (j : Nat) t v, Try.f6.params[j]? = some t → args[j]? = some v → Value.okWide Try.prog W .any base t v := hval0
  have hW' := hW
  obtain ⟨p, q, hA0, hV, rfl, hfz, hnd⟩ := hW
  have hA : DataW.TrodAll enc Try.prog W 0 (fun _ => true) true Try.f6.params.toList args.toList ds p := hA0
  rw [Try.params6] at hA hval
  obtain ⟨v0, vs0, d0, ds0, p0, q0, hargs, rfl, rfl, h0, r0⟩ := trodAll_cons hA
  obtain ⟨v1, vs1, d1, ds1, p1, q1, rfl, rfl, rfl, h1, r1⟩ := trodAll_cons r0
  obtain ⟨v2, vs2, d2, ds2, p2, q2, rfl, rfl, rfl, h2, r2⟩ := trodAll_cons r1
  obtain ⟨rfl, rfl, rfl⟩ := trodAll_nil r2
  obtain rfl : args = #[v0, v1, v2] := by cases args; simp_all
  obtain ⟨rfl, rfl⟩ := trodVars_none hV
  obtain ⟨c0, e0, y0, z0, m0, rfl, rfl, rfl, hy0, hz0⟩ := open_agg2 Try.underlying24 (by kernel_rfl) law_cells (hval 0 24 v0 rfl rfl) h0
  obtain ⟨x0, f0, rfl, wx0⟩ := DataW.trod_int Try.underlying22 hy0
  obtain ⟨t0, g0, rfl, wt0⟩ := DataW.trod_int Try.underlying22 hz0
  simp at f0 g0
  subst f0 g0
  obtain ⟨A0, hw0⟩ := isW_of wx0 wt0
  obtain ⟨c1, e1, y1, z1, m1, rfl, rfl, rfl, hy1, hz1⟩ := open_agg2 Try.underlying24 (by kernel_rfl) law_cells (hval 1 24 v1 rfl rfl) h1
  obtain ⟨x1, f1, rfl, wx1⟩ := DataW.trod_int Try.underlying22 hy1
  obtain ⟨t1, g1, rfl, wt1⟩ := DataW.trod_int Try.underlying22 hz1
  simp at f1 g1
  subst f1 g1
  obtain ⟨A1, hw1⟩ := isW_of wx1 wt1
  obtain ⟨c2, e2, y2, z2, m2, rfl, rfl, rfl, hy2, hz2⟩ := open_agg2 Try.underlying24 (by kernel_rfl) law_cells (hval 2 24 v2 rfl rfl) h2
  obtain ⟨x2, f2, rfl, wx2⟩ := DataW.trod_int Try.underlying22 hy2
  obtain ⟨t2, g2, rfl, wt2⟩ := DataW.trod_int Try.underlying22 hz2
  simp at f2 g2
  subst f2 g2
  obtain ⟨A2, hw2⟩ := isW_of wx2 wt2
  clear hA0 hval0
  refine (WideGroup_walk x0 t0 A0 hw0 x1 t1 A1 hw1 x2 t2 A2 hw2 W).mono fun e W' ⟨he, bel⟩ => ?_
  subst he
  exact ⟨_, rfl, _, _, _, [], _, [], hW', trodAll_mk1 (shut_bool Try.underlying4 _), (trodAll_cons_mk (wide_reads wx0 wt0) (trodAll_cons_mk (wide_reads wx1 wt1) (trodAll_cons_mk (wide_reads wx2 wt2) trodAll_mk0))), rfl, bel.frame _, fun h => by cases h⟩
theorem WideGroup_holds : Rows.WideGroupSaid :=
  OpenClaim.holds_of_wide 6 Try.f6 rfl rfl rfl rfl rfl rfl rfl ⟨rfl, rfl, rfl, rfl, rfl⟩ rfl rfl rfl rfl rfl (by kernel_rfl) Try.func6 (by kernel_rfl)
    (of_decide_eq_true (by kernel_rfl)) (by unfold Func.isWrapper; first | (rw [if_pos (by decide +kernel)]; kernel_rfl) | (rw [if_neg (by decide +kernel)]; exact ⟨rfl, rfl⟩))
    (fun os started H enc _ => WideGroup_lifted os started H enc)
end Go.Proofs.Ytofbmpmefgapfaa
