/- The contract of math/bits.Div64 (and LeadingZeros64): quotient and remainder of a number of two words by a word. -/
import Derived.Test.YtidafhjdpklgbaaDoorW2
import Derived.Test.YtidafhjdpklgbaaDoorDivp
import Derived.Deep.DeepCutAuto
import Derived.Deep.CutBlock
import Derived.Test.YtidafhjdpklgbaaDoorP1
namespace Go.Proofs.YtidafhjdpklgbaaDoor
open Go.RowKit
set_option maxHeartbeats 400000 in
theorem lz64_w (x : Nat) (w : World) (h : Word x) : Calls Tryd.prog 45 #[.int .u64 x] w fun e w' => e = .returned (.int .i64 ((64 - bitLen x : Nat) : Int)) ∧ w = w' := by
  have hb := bitLen_word h
  have e : Hid ((64 : Int) - (bitLen x : Int) = ((64 - bitLen x : Nat) : Int)) := by show _ = _; omega
  go_enter Tryd.func45, Tryd.ntmps45
  go_wp2_with (go_at_call 54; refine (len64_w _ _ h).mono ?_; rintro e w' ⟨rfl, rfl⟩)
  go_ret
  exact ⟨by rw [← e.out]; rfl, rfl⟩
set_option maxHeartbeats 400000 in
theorem div64_low (l y : Nat) (w : World) (hl : Word l) (h0 : 0 < y) :
    Calls Tryd.prog 37 #[.int .u64 0, .int .u64 l, .int .u64 y] w fun e w' => e = .returned (.tuple #[.int .u64 ((l / y : Nat) : Int), .int .u64 ((l % y : Nat) : Int)]) ∧ ∃ n, w' = w.drewN n := by
  have q0 : ((y : Int) == 0) = false := by simp; omega
  have b1 : (l : Int) ≤ 18446744073709551615 := by unfold Word at hl; omega
  have b2 : (0 : Int) < (y : Int) := by omega
  go_enter Tryd.func37, Tryd.ntmps37
  go_wp2
  go_region
  go_wp2
  go_ret2
  refine ⟨ret_two ?_ ?_, ?_⟩
  · rw [IntWalk.u64_in _ ⟨Int.ediv_nonneg (by omega) (by omega), Int.le_trans (Int.ediv_le_self _ (by omega)) b1⟩, Int.natCast_ediv]
  · rw [Int.natCast_emod]
  · exact ⟨1, rfl⟩
theorem quo_wrap {U y1 : Nat} (hU : U < 18446744073709551616) : IntKind.u64.wrap ((U : Int) / (y1 : Int)) = ((U / y1 : Nat) : Int) := by
  have h := Nat.div_le_self U y1
  rw [← Int.natCast_ediv]
  generalize U / y1 = q at *
  exact IntWalk.u64_in _ (by omega)
theorem rest_wrap {U y1 : Nat} (hU : U < 18446744073709551616) : IntKind.u64.wrap ((U : Int) - IntKind.u64.wrap (((U / y1 : Nat) : Int) * (y1 : Int))) = ((U % y1 : Nat) : Int) := by
  have h := Nat.div_add_mod' U y1
  have h2 : U % y1 ≤ U := Nat.mod_le _ _
  rw [← Int.natCast_mul]
  generalize U / y1 * y1 = p at *
  rw [IntKind.wrap_u64, IntKind.wrap_u64]
  omega
theorem left_wrap {U d q Y r : Nat} (h : q * Y + r = U * 4294967296 + d) (hr : r < 18446744073709551616) :
    IntKind.u64.wrap (IntKind.u64.wrap (IntKind.u64.wrap ((U : Int) * 4294967296) + (d : Int)) - IntKind.u64.wrap ((q : Int) * (Y : Int))) = (r : Int) := by
  rw [← Int.natCast_mul q Y]
  generalize q * Y = p at *
  simp only [IntKind.wrap_u64]
  omega
/-- A guess, of integers that are no less than 0. -/
def GI (u d y1 y0 q r : Int) : Prop := 0 ≤ q ∧ 0 ≤ r ∧ Guess u.toNat d.toNat y1.toNat y0.toNat q.toNat r.toNat
theorem GI.le {u d y1 y0 q r : Int} (g : GI u d y1 y0 q r) : q ≤ 4294967297 := by
  have := g.2.2.le
  have := g.1
  omega
theorem GI.rest {u d y1 y0 q r : Int} (g : GI u d y1 y0 q r) (hY : 0 ≤ y1) (hu : u.toNat < y1.toNat * 4294967296 + y0.toNat) (hd : d.toNat < 4294967296) (h : 4294967296 ≤ q.toNat ∨ r.toNat * 4294967296 + d.toNat < q.toNat * y0.toNat) : 1 ≤ q ∧ GI u d y1 y0 (q - 1) (r + y1) := by
  have h2 := guess_rest g.2.2 hu hd h
  have h3 := g.1
  have h4 := g.2.1
  have h1 := h2.1
  refine ⟨by omega, by omega, by omega, ?_⟩
  rw [show (q - 1).toNat = q.toNat - 1 by omega, show (r + y1).toNat = r.toNat + y1.toNat by omega]
  exact h2.2
theorem toNat_mul_cast {q y : Int} (hq : 0 ≤ q) (hy : 0 ≤ y) : ((q.toNat * y.toNat : Nat) : Int) = q * y := by
  rw [Int.natCast_mul, Int.toNat_of_nonneg hq, Int.toNat_of_nonneg hy]
/-- What is asked of a digit. -/
def Digit (u d y1 y0 q : Int) : Prop := q.toNat = (u.toNat * 4294967296 + d.toNat) / (y1.toNat * 4294967296 + y0.toNat) ∧ 0 ≤ q
theorem Digit.eq {u d y1 y0 q q' : Int} (h : Digit u d y1 y0 q) (h' : Digit u d y1 y0 q') : q = q' := by
  have h1 := h.1.trans h'.1.symm
  have h2 := h.2
  have h3 := h'.2
  omega
theorem GI.done {u d y1 y0 q r : Int} (g : GI u d y1 y0 q r) (h1 : 0 < y1) (h0 : 0 ≤ y0) (hd : 0 ≤ d) (h : q * y0 ≤ 4294967296 * r + d) : Digit u d y1 y0 q := by
  refine ⟨guess_done g.2.2 (by omega) ?_, g.1⟩
  have e := toNat_mul_cast g.1 h0
  have h2 := g.2.1
  rw [← e] at h
  generalize q.toNat * y0.toNat = p at *
  omega
theorem GI.broke {u d y1 y0 q r : Int} (g : GI u d y1 y0 q r) (h1 : 0 < y1) (h0 : y0 < 4294967296) (hq : q ≤ 4294967296) (hr : 4294967296 ≤ r) : Digit u d y1 y0 q := by
  have h2 := g.1
  exact ⟨guess_broke g.2.2 (by omega) (by omega) (by omega) (by omega), h2⟩
theorem GI.more {q y0 r d : Int} (hq : 0 ≤ q) (hy : 0 ≤ y0) (hr : 0 ≤ r) (hd : 0 ≤ d) (h : 4294967296 * r + d < q * y0) : r.toNat * 4294967296 + d.toNat < q.toNat * y0.toNat := by
  have e := toNat_mul_cast hq hy
  rw [← e] at h
  generalize q.toNat * y0.toNat = p at *
  omega
theorem half_prod {q y0 : Int} (hq : 0 ≤ q) (hq' : q < 4294967296) (hy : 0 ≤ y0) (hy' : y0 < 4294967296) : IntKind.u64.wrap (q * y0) = q * y0 := by
  have h1 := Int.mul_nonneg hq hy
  have h2 : q * y0 ≤ 4294967295 * 4294967295 := Int.mul_le_mul (by omega) (by omega) hy (by omega)
  exact IntWalk.u64_in _ (by omega)
set_option maxRecDepth 100000 in
set_option maxHeartbeats 2000000 in
theorem div64_core (hi lo y Y U V y1 y0 d e Q0 R0 Q1 W1 Q2 R2 Q3 F : Int) (s : Nat) (w : World) (hh : hi < y) (h0 : 0 < hi) (hs2 : s ≤ 63)
    (lz : Hid (∀ w, Calls Tryd.prog 45 #[.int .u64 y] w fun e w' => e = .returned (.int .i64 (s : Int)) ∧ w = w'))
    (eY : Hid (IntKind.u64.wrap (y * 2 ^ s) = Y))
    (eU : Hid (bits .or .u64 (IntKind.u64.wrap (hi * 2 ^ s)) (lo / 2 ^ (64 - s)) = U))
    (eV : Hid (IntKind.u64.wrap (lo * 2 ^ s) = V))
    (e1 : Hid (Y / 4294967296 = y1)) (e0 : Hid (bits .and .u64 Y 4294967295 = y0))
    (ed : Hid (V / 4294967296 = d)) (ee : Hid (bits .and .u64 V 4294967295 = e))
    (b1 : 2147483648 ≤ y1) (b2 : y1 < 4294967296) (b3 : 0 ≤ y0) (b4 : y0 < 4294967296) (b5 : 0 ≤ d) (b6 : d < 4294967296) (b7 : 0 ≤ e) (b8 : e < 4294967296) (b9 : 0 ≤ U) (b10 : U ≤ 18446744073709551615)
    (HU : Hid (U.toNat < y1.toNat * 4294967296 + y0.toNat))
    (eq0 : Hid (U / y1 = Q0)) (er0 : Hid (IntKind.u64.wrap (U - IntKind.u64.wrap (Q0 * y1)) = R0)) (g0 : Hid (GI U d y1 y0 Q0 R0)) (br0 : R0 < 4294967296)
    (hQ1 : Hid (Digit U d y1 y0 Q1)) (bq : 0 ≤ Q1) (bq' : Q1 < 4294967296)
    (e21 : Hid (IntKind.u64.wrap (IntKind.u64.wrap (IntKind.u64.wrap (U * 4294967296) + d) - IntKind.u64.wrap (Q1 * Y)) = W1)) (bw : 0 ≤ W1) (bw' : W1 ≤ 18446744073709551615)
    (HW : Hid (W1.toNat < y1.toNat * 4294967296 + y0.toNat))
    (eq2 : Hid (W1 / y1 = Q2)) (er2 : Hid (IntKind.u64.wrap (W1 - IntKind.u64.wrap (Q2 * y1)) = R2)) (g2 : Hid (GI W1 e y1 y0 Q2 R2)) (br2 : R2 < 4294967296)
    (hQ3 : Hid (Digit W1 e y1 y0 Q3)) (bt : 0 ≤ Q3) (bt' : Q3 < 4294967296)
    (eF : Hid (IntKind.u64.wrap (IntKind.u64.wrap (IntKind.u64.wrap (W1 * 4294967296) + e) - IntKind.u64.wrap (Q3 * Y)) = F)) :
    Calls Tryd.prog 37 #[.int .u64 hi, .int .u64 lo, .int .u64 y] w fun e' w' => e' = .returned (.tuple #[.int .u64 (Q1 * 4294967296 + Q3), .int .u64 (F / 2 ^ s)]) ∧ w = w' := by
  have q0 : (y == 0) = false := by simp; omega
  have q1 : (hi == 0) = false := by simp; omega
  have hy1 : ¬ y1 = 0 := by omega
  go_enter Tryd.func37, Tryd.ntmps37
  go_wp2_with fail
  with_reducible refine (lz.out _).mono ?_
  rintro e' w' ⟨rfl, rfl⟩
  go_upto_region 9 with (fail)
  rw [eY.out]
  go_upto_region 15 with (fail)
  rw [eU.out, eV.out, e1.out, e0.out, ed.out, ee.out]
  go_upto_block 0 with (fail)
  rw [eq0.out, er0.out]
  go_cut [15, 16] (fun a _ wx => a = .int .u64 Q1 ∧ wx = w)
  case first =>
    go_wp2_with fail
    go_loop [15, 16] (fun a b => ∃ Q R : Int, a = .int .u64 Q ∧ b = .int .u64 R ∧ Hid (GI U d y1 y0 Q R) ∧ R < 4294967296) (fun _ b => 8589934592 - (intOf b).toNat)
    case atStart => exact ⟨Q0, R0, rfl, rfl, g0, br0⟩
    case round =>
      obtain ⟨Q, R, rfl, rfl, g, hR⟩ := hrel
      have hQ := g.out.le
      have hQ0 := g.out.1
      have hR0 := g.out.2.1
      by_cases hq : 4294967296 ≤ Q
      · have hn := g.out.rest (by omega) HU.out (by omega) (.inl (by omega))
        have h1 := hn.1
        have HN := Lib.hid hn.2
        clear hn
        by_cases hr : R + y1 < 4294967296
        · go_wp2
          exact ⟨⟨Q - 1, R + y1, rfl, rfl, HN, by omega⟩, by simp [intOf]; omega⟩
        · go_wp2
          go_meet
          case rel => exact ⟨congrArg (Value.int .u64) ((HN.out.broke (by omega) (by omega) (by omega) (by omega)).eq hQ1.out), rfl⟩
      · have hw := half_prod hQ0 (by omega) b3 b4
        by_cases hm : 4294967296 * R + d < Q * y0
        · have hn := g.out.rest (by omega) HU.out (by omega) (.inr (GI.more hQ0 b3 hR0 (by omega) hm))
          have h1 := hn.1
          have HN := Lib.hid hn.2
          clear hn
          by_cases hr : R + y1 < 4294967296
          · go_wp2
            exact ⟨⟨Q - 1, R + y1, rfl, rfl, HN, by omega⟩, by simp [intOf]; omega⟩
          · go_wp2
            go_meet
            case rel => exact ⟨congrArg (Value.int .u64) ((HN.out.broke (by omega) (by omega) (by omega) (by omega)).eq hQ1.out), rfl⟩
        · go_wp2
          go_meet
          case rel => exact ⟨congrArg (Value.int .u64) ((g.out.done (by omega) b3 (by omega) (by omega)).eq hQ1.out), rfl⟩
  case rest =>
    obtain ⟨rfl, rfl⟩ := hcut
    go_upto_region 22 with (fail)
    rw [e21.out]
    go_upto_block 2 with (fail)
    rw [eq2.out, er2.out]
    go_cut [18, 16] (fun a _ wx => a = .int .u64 Q3 ∧ wx = wc)
    case first =>
      go_wp2_with fail
      go_loop [18, 16] (fun a b => ∃ Q R : Int, a = .int .u64 Q ∧ b = .int .u64 R ∧ Hid (GI W1 e y1 y0 Q R) ∧ R < 4294967296) (fun _ b => 8589934592 - (intOf b).toNat)
      case atStart => exact ⟨Q2, R2, rfl, rfl, g2, br2⟩
      case round =>
      obtain ⟨Q, R, rfl, rfl, g, hR⟩ := hrel
      have hQ := g.out.le
      have hQ0 := g.out.1
      have hR0 := g.out.2.1
      by_cases hq : 4294967296 ≤ Q
      · have hn := g.out.rest (by omega) HW.out (by omega) (.inl (by omega))
        have h1 := hn.1
        have HN := Lib.hid hn.2
        clear hn
        by_cases hr : R + y1 < 4294967296
        · go_wp2
          exact ⟨⟨Q - 1, R + y1, rfl, rfl, HN, by omega⟩, by simp [intOf]; omega⟩
        · go_wp2
          go_meet
          case rel => exact ⟨congrArg (Value.int .u64) ((HN.out.broke (by omega) (by omega) (by omega) (by omega)).eq hQ3.out), rfl⟩
      · have hw := half_prod hQ0 (by omega) b3 b4
        by_cases hm : 4294967296 * R + e < Q * y0
        · have hn := g.out.rest (by omega) HW.out (by omega) (.inr (GI.more hQ0 b3 hR0 (by omega) hm))
          have h1 := hn.1
          have HN := Lib.hid hn.2
          clear hn
          by_cases hr : R + y1 < 4294967296
          · go_wp2
            exact ⟨⟨Q - 1, R + y1, rfl, rfl, HN, by omega⟩, by simp [intOf]; omega⟩
          · go_wp2
            go_meet
            case rel => exact ⟨congrArg (Value.int .u64) ((HN.out.broke (by omega) (by omega) (by omega) (by omega)).eq hQ3.out), rfl⟩
        · go_wp2
          go_meet
          case rel => exact ⟨congrArg (Value.int .u64) ((g.out.done (by omega) b3 (by omega) (by omega)).eq hQ3.out), rfl⟩
    case rest =>
      obtain ⟨rfl, rfl⟩ := hcut
      go_wp2
      go_ret2
      exact ⟨ret_two rfl (by rw [eF.out]), rfl⟩
theorem digit_of (u d Y : Nat) : Digit (u : Int) (d : Int) ((Y / 4294967296 : Nat) : Int) ((Y % 4294967296 : Nat) : Int) (((u * 4294967296 + d) / Y : Nat) : Int) := by
  refine ⟨?_, Int.natCast_nonneg _⟩
  simp only [Int.toNat_natCast]
  rw [Nat.div_add_mod' Y 4294967296]
theorem gi_first {u d Y : Nat} (hu : u < Y) (hd : d < 4294967296) (hY : 9223372036854775808 ≤ Y) : GI (u : Int) (d : Int) ((Y / 4294967296 : Nat) : Int) ((Y % 4294967296 : Nat) : Int) ((u / (Y / 4294967296) : Nat) : Int) ((u % (Y / 4294967296) : Nat) : Int) := by
  refine ⟨Int.natCast_nonneg _, Int.natCast_nonneg _, ?_⟩
  simp only [Int.toNat_natCast]
  exact guess_first (by rw [Nat.div_add_mod' Y 4294967296]; exact hu) hd (Nat.mod_lt _ (by omega)) (by omega)
theorem lt_parts {u Y : Nat} (hu : u < Y) : ((u : Nat) : Int).toNat < ((Y / 4294967296 : Nat) : Int).toNat * 4294967296 + ((Y % 4294967296 : Nat) : Int).toNat := by
  simp only [Int.toNat_natCast]
  rw [Nat.div_add_mod' Y 4294967296]; exact hu
theorem low_half (V : Nat) (h : V < 18446744073709551616) : bits .and .u64 (V : Int) 4294967295 = ((V % 4294967296 : Nat) : Int) := by
  rw [and_low32 _ (by omega) (by omega), Int.natCast_emod]; rfl
theorem div64_high (A y : Nat) (w : World) (hy : Word y) (hh : hiN A < y) (h0 : 0 < hiN A) :
    Calls Tryd.prog 37 #[.int .u64 (hiN A), .int .u64 (loN A), .int .u64 y] w fun e' w' => e' = .returned (.tuple #[.int .u64 ((A / y : Nat) : Int), .int .u64 ((A % y : Nat) : Int)]) ∧ w = w' := by
  have hb := bitLen_word hy
  have hl := lead (by omega) hy
  have hbp : 0 < bitLen y := by
    refine Nat.lt_of_not_le fun hn => ?_
    have := (bitLen_lt_iff y 0).1 hn
    simp at this; omega
  have lz := Lib.hid (fun w => lz64_w y w hy)
  generalize hs : 64 - bitLen y = s at *
  have hs2 : s ≤ 63 := by omega
  have hp : 0 < 2 ^ s := Nat.two_pow_pos s
  have hAy : A < y * 18446744073709551616 := by have := words A; have := loN_lt A; omega
  have hB : A * 2 ^ s < y * 2 ^ s * 18446744073709551616 := by
    have := Nat.mul_lt_mul_of_pos_right hAy hp
    rw [Nat.mul_right_comm] at this; exact this
  have q1 : A / y = A * 2 ^ s / (y * 2 ^ s) := (Nat.mul_div_mul_right _ _ hp).symm
  have q2 : A % y * 2 ^ s = A * 2 ^ s % (y * 2 ^ s) := (Nat.mul_mod_mul_right _ _ _).symm
  have fB : Fits (A * 2 ^ s) := by unfold Fits; omega
  have eU := shl_hi (a := A) (n := s) (by omega) fB
  have eV := shl_lo A s
  have eY : IntKind.u64.wrap ((y : Int) * 2 ^ s) = ((y * 2 ^ s : Nat) : Int) := by rw [cast_mul_pow, wrap_cast, Nat.mod_eq_of_lt hl.2]
  have q3 : A % y = A % y * 2 ^ s / 2 ^ s := (Nat.mul_div_cancel _ hp).symm
  rw [q1, q3, q2]
  generalize y * 2 ^ s = Y at *
  generalize A * 2 ^ s = B at *
  have hU : hiN B < Y := by unfold hiN; omega
  have hV := loN_lt B
  have hw := words B
  have hBN : B = (hiN B * 4294967296 + loN B / 4294967296) * 4294967296 + loN B % 4294967296 := by omega
  generalize hiN B = U at *
  generalize loN B = V at *
  have hd : V / 4294967296 < 4294967296 := by omega
  have he : V % 4294967296 < 4294967296 := by omega
  have td := two_digits (U * 4294967296 + V / 4294967296) (V % 4294967296) Y (by omega)
  rw [← hBN] at td
  have hW : (U * 4294967296 + V / 4294967296) % Y < Y := Nat.mod_lt _ (by omega)
  have hQ := digit_lt hU hd
  have hQ3 := digit_lt (d := V % 4294967296) hW he
  have m1 := Nat.div_add_mod' (U * 4294967296 + V / 4294967296) Y
  have m2 := Nat.div_add_mod' ((U * 4294967296 + V / 4294967296) % Y * 4294967296 + V % 4294967296) Y
  have hF : ((U * 4294967296 + V / 4294967296) % Y * 4294967296 + V % 4294967296) % Y < Y := Nat.mod_lt _ (by omega)
  have hY1 : 2147483648 ≤ Y / 4294967296 := by omega
  have hY2 : Y / 4294967296 < 4294967296 := by omega
  have hY0 : Y % 4294967296 < 4294967296 := by omega
  have c := div64_core (hiN A) (loN A) y Y U V ((Y / 4294967296 : Nat) : Int) ((Y % 4294967296 : Nat) : Int) ((V / 4294967296 : Nat) : Int) ((V % 4294967296 : Nat) : Int)
    ((U / (Y / 4294967296) : Nat) : Int) ((U % (Y / 4294967296) : Nat) : Int) (((U * 4294967296 + V / 4294967296) / Y : Nat) : Int) (((U * 4294967296 + V / 4294967296) % Y : Nat) : Int)
    (((U * 4294967296 + V / 4294967296) % Y / (Y / 4294967296) : Nat) : Int) (((U * 4294967296 + V / 4294967296) % Y % (Y / 4294967296) : Nat) : Int)
    ((((U * 4294967296 + V / 4294967296) % Y * 4294967296 + V % 4294967296) / Y : Nat) : Int) ((((U * 4294967296 + V / 4294967296) % Y * 4294967296 + V % 4294967296) % Y : Nat) : Int)
    s w (by omega) (by omega) hs2 lz eY eU eV (Int.natCast_ediv Y 4294967296).symm (low_half Y (by omega)) (Int.natCast_ediv V 4294967296).symm (low_half V (by omega))
    (by omega) (by omega) (Int.natCast_nonneg _) (by omega) (Int.natCast_nonneg _) (by omega) (Int.natCast_nonneg _) (by omega) (Int.natCast_nonneg _) (by omega)
    (lt_parts hU) (Int.natCast_ediv U _).symm (rest_wrap (by omega)) (gi_first hU hd (by omega)) (by have := Nat.mod_lt U (show 0 < Y / 4294967296 by omega); omega)
    (digit_of U _ Y) (Int.natCast_nonneg _) (by omega) (left_wrap m1 (Nat.lt_trans hW hl.2)) (Int.natCast_nonneg _) (by omega)
    (lt_parts hW) (Int.natCast_ediv _ _).symm (rest_wrap (Nat.lt_trans hW hl.2)) (gi_first hW he (by omega)) (by have := Nat.mod_lt ((U * 4294967296 + V / 4294967296) % Y) (show 0 < Y / 4294967296 by omega); omega)
    (digit_of _ _ Y) (Int.natCast_nonneg _) (by omega) (left_wrap m2 (Nat.lt_trans hF hl.2))
  have r1 : (((U * 4294967296 + V / 4294967296) / Y : Nat) : Int) * 4294967296 + ((((U * 4294967296 + V / 4294967296) % Y * 4294967296 + V % 4294967296) / Y : Nat) : Int) = ((B / Y : Nat) : Int) := by
    rw [← td.1]; omega
  have r2 : (((((U * 4294967296 + V / 4294967296) % Y * 4294967296 + V % 4294967296) % Y : Nat) : Int) / 2 ^ s) = ((B % Y / 2 ^ s : Nat) : Int) := by
    rw [cast_div_pow, td.2]
  rw [r1, r2] at c
  exact c
theorem div64_c (x1 x2 x3 : Int) (w : World) (A y : Nat) (hA : IsW A x1 x2) (hy : x3 = y) (wy : Word y) (hh : hiN A < y) :
    Calls Tryd.prog 37 #[.int .u64 x1, .int .u64 x2, .int .u64 x3] w fun e' w' => e' = .returned (.tuple #[.int .u64 ((A / y : Nat) : Int), .int .u64 ((A % y : Nat) : Int)]) ∧ Below w.heap.size w w' := by
  obtain ⟨fA, rfl, rfl⟩ := hA
  subst hy
  by_cases h0 : hiN A = 0
  · have hw := word_of_hi h0
    rw [h0, loN_of_word hw, Int.natCast_zero]
    refine (div64_low A y w hw (by omega)).mono ?_
    rintro e w' ⟨he, n, rfl⟩
    exact ⟨he, below_drewN (Below.refl _ _) n⟩
  · refine (div64_high A y w wy hh (by omega)).mono ?_
    rintro e w' ⟨he, rfl⟩
    exact ⟨he, Below.refl _ _⟩
end Go.Proofs.YtidafhjdpklgbaaDoor
