/- The contract of prod.Times: for every two numbers it returns the product, or ErrLarge, and writes nothing that was there. -/
import Derived.Test.YtidafhjdpklgbaaDoorP1
import Derived.Test.YtidafhjdpklgbaaDoorMulp
import Derived.Deep.RegionHeld3
import Derived.Deep.DrawnRows
import Derived.Deep.DeepCutAuto
namespace Go.Proofs.YtidafhjdpklgbaaDoor
open Go.RowKit
attribute [local go_sem ↓] Go.wp_at_zero Go.wp_at_succ
def TStart (w : World) (a b : Nat) (wx : World) : Prop :=
  Below w.heap.size w wx ∧ Pair wx w.heap.size (.int .u64 (hiN a)) (.int .u64 (loN a)) ∧ Pair wx (w.heap.size + 1) (.int .u64 (hiN b)) (.int .u64 (loN b)) ∧ Pair wx (w.heap.size + 1 + 1) (.int .u64 0) (.int .u64 0)
theorem tstart (w : World) (a b : Nat) : TStart w a b (((w.alloc (.cells #[.int .u64 (hiN a), .int .u64 (loN a)] 24)).alloc (.cells #[.int .u64 (hiN b), .int .u64 (loN b)] 24)).alloc (.cells #[.int .u64 0, .int .u64 0] 24)) := by
  refine ⟨(((Below.refl _ _).alloc (Nat.le_refl _) _).alloc (by simp) _).alloc (by simp; omega) _, ((Pair.new w _ _ _).up _).up _, ?_, ?_⟩
  · have := (Pair.new (w.alloc (.cells #[.int .u64 (hiN a), .int .u64 (loN a)] 24)) (.int .u64 (hiN b)) (.int .u64 (loN b)) 24).up (.cells #[.int .u64 0, .int .u64 0] 24)
    simpa using this
  · have := Pair.new ((w.alloc (.cells #[.int .u64 (hiN a), .int .u64 (loN a)] 24)).alloc (.cells #[.int .u64 (hiN b), .int .u64 (loN b)] 24)) (.int .u64 0) (.int .u64 0) 24
    simpa using this
def TMid (B : Nat) (w : World) (L R : Nat) (s6 s7 : Value) (wx : World) : Prop :=
  ∃ b6 b7, s6 = .pointer (some ⟨b6, 0, none⟩) ∧ s7 = .pointer (some ⟨b7, 0, none⟩) ∧ B ≤ b6 ∧ B ≤ b7 ∧ Below B w wx ∧ Pair wx b6 (.int .u64 (hiN L)) (.int .u64 (loN L)) ∧ Pair wx b7 (.int .u64 (hiN R)) (.int .u64 (loN R))
set_option maxHeartbeats 8000000 in
theorem times_any (x1 x2 y1 y2 : Int) (w : World) (a b : Nat) (ha : IsW a x1 x2) (hb : IsW b y1 y2) :
    Calls Tryd.prog 19 #[.agg #[.int .u64 x1, .int .u64 x2], .agg #[.int .u64 y1, .int .u64 y2]] w fun e w' => e = .returned (.tuple #[.agg #[.int .u64 (timesH a b), .int .u64 (timesL a b)], .int .i64 (timesE a b)]) ∧ Below w.heap.size w w' := by
  obtain ⟨fa, rfl, rfl⟩ := ha
  obtain ⟨fb, rfl, rfl⟩ := hb
  have wa := hiN_word fa
  have wb := hiN_word fb
  have la := loN_word a
  have lb := loN_word b
  by_cases hh : hiN a ≠ 0 ∧ hiN b ≠ 0
  · have hn : ¬ Fits (a * b) := fun h => by rcases (times_fits h).2.2.2.1 with z | z; exact hh.1 z; exact hh.2 z
    obtain ⟨e1, e2, e3⟩ := times_no hn
    rw [e1, e2, e3, Int.natCast_zero]
    have h1 : ((hiN a : Int) != 0) = true := by simp; omega
    have h2 : ((hiN b : Int) != 0) = true := by simp; omega
    clear hh hn e1 e2 e3 fa fb wa wb la lb
    go_enter Tryd.func19, Tryd.ntmps19
    go_wp2
    exact bodyPost_ret (v := .tuple #[.agg #[.int .u64 0, .int .u64 0], .int .i64 2]) (by simp [results, Tryd.results19, go_sem]) rfl ⟨rfl, (((Below.refl _ _).alloc (Nat.le_refl _) _).alloc (by simp) _).alloc (by simp; omega) _⟩
  · have zz : hiN a = 0 ∨ hiN b = 0 := by omega
    clear hh
    have HZ : Hid (hiN a = 0 ∨ hiN b = 0) := zz
    clear zz
    go_enter Tryd.func19, Tryd.ntmps19
    go_upto_region 1 with (fail)
    go_cut [15] (fun s15 wx => s15 = .bool false ∧ TStart w a b wx)
    case first =>
      by_cases h0 : hiN a = 0
      · have h1 : ((hiN a : Int) != 0) = false := by rw [h0]; rfl
        clear h0
        go_wp2
        go_meet
        case rel => exact ⟨rfl, tstart w a b⟩
      · have h1 : ((hiN a : Int) != 0) = true := by simp; omega
        have h2 : ((hiN b : Int) != 0) = false := by rw [HZ.out.resolve_left h0]; rfl
        clear h0
        go_wp2
        go_meet
        case rel => exact ⟨rfl, tstart w a b⟩
    case rest =>
      obtain ⟨rfl, hbel, pa, pb, pr⟩ := hcut
      have a0 := pa.1
      have a1 := pa.2.1
      have b0 := pb.1
      have b1 := pb.2.1
      have lr := pr.lt
      go_wp2_with fail
      go_cut [6, 7] (fun s6 s7 wx => TMid wc.heap.size wc (hiN a * loN b) (loN a * hiN b) s6 s7 wx)
      case first =>
        go_region_held3 (fun w' => w'.cell? ⟨w.heap.size, 0, none⟩ = some (.int .u64 (hiN a)) ∧ w'.cell? ⟨w.heap.size, 1, none⟩ = some (.int .u64 (loN a)) ∧ w'.cell? ⟨w.heap.size + 1, 0, none⟩ = some (.int .u64 (hiN b)) ∧ w'.cell? ⟨w.heap.size + 1, 1, none⟩ = some (.int .u64 (loN b))) (((try dsimp only); (refine ⟨?_, ?_, ?_, ?_⟩ <;> (repeat (first | with_reducible assumption | with_reducible refine cell_drew ?_ | with_reducible refine cell_up ?_ | with_reducible refine cell_below hb1 ?_ | ((with_reducible refine cell_set ?_ ?_); rotate_left; (first | (simp; done) | (simp; omega)))))))) (first | (go_at_call 31; refine (mul_any _ _ _ (by assumption) (by assumption)).mono ?_; rintro e w' ⟨rfl, rfl⟩))
        all_goals (go_wp2_with fail; go_meet)
        all_goals
          refine ⟨_, _, rfl, rfl, ?_, ?_, ?_, ?_, ?_⟩
          · omega
          · omega
          · exact (((((Below.refl _ _).alloc (Nat.le_refl _) _).alloc (by simp) _).alloc (by simp; omega) _).alloc (by simp; omega) _).drew
          · refine Pair.drew ?_
            repeat (first | (refine Pair.new' _ _ _ _ _ ?_; simp; done) | refine Pair.up' ?_)
          · refine Pair.drew ?_
            repeat (first | (refine Pair.new' _ _ _ _ _ ?_; simp; done) | refine Pair.up' ?_)
      case rest =>
        obtain ⟨p6, p7, rfl, rfl, g6, g7, hbx, q6, q7⟩ := hcut
        have qa := pa.below hbx
        have qb := pb.below hbx
        have qr := pr.below hbx
        have bel := bel_call hbel (Nat.le_refl _) hbx
        clear pa pb pr a0 a1 b0 b1 hbx hbel
        have a0 := qa.1
        have a1 := qa.2.1
        have b0 := qb.1
        have b1 := qb.2.1
        obtain ⟨r0, r1, r2, r3⟩ := id qr
        have l0 := q6.1
        have l1 := q6.2.1
        have m0 := q7.1
        have m1 := q7.2.1
        have n0 : w.heap.size ≠ w.heap.size + 1 + 1 := by omega
        have n1 : w.heap.size + 1 ≠ w.heap.size + 1 + 1 := by omega
        have n6 : p6 ≠ w.heap.size + 1 + 1 := by omega
        have n7 : p7 ≠ w.heap.size + 1 + 1 := by omega
        by_cases hL : Word (hiN a * loN b)
        · by_cases hR : Word (loN a * hiN b)
          · have hM := mid_word HZ.out hL hR
            have t1 : ((hiN (hiN a * loN b) : Int) != 0) = false := by rw [hiN_of_word hL]; rfl
            have t2 : ((hiN (loN a * hiN b) : Int) != 0) = false := by rw [hiN_of_word hR]; rfl
            rw [loN_of_word hL] at l1
            rw [loN_of_word hR] at m1
            have HN : Hid (¬ Fits (a * b) → ¬ Fits (loN a * loN b + (hiN a * loN b + loN a * hiN b) * 18446744073709551616)) := fun h => times_not h HZ.out
            have HY : Hid (Fits (a * b) → loN a * loN b + (hiN a * loN b + loN a * hiN b) * 18446744073709551616 = a * b) := fun h => (times_fits h).2.2.2.2
            generalize hiN a * loN b = L at *
            generalize loN a * hiN b = R at *
            have hs : (L : Int) + (R : Int) ≤ 18446744073709551615 := by unfold Word at hM; omega
            have hk := isW_hi hM
            rw [Int.natCast_add] at hk
            have hw : IntKind.u64.wrap ((L : Int) + (R : Int)) = (L : Int) + (R : Int) := IntWalk.u64_in _ ⟨by omega, hs⟩
            clear hL hR
            have f := prod_fits la lb
            have hk' := isW_self f
            go_wp2_with fail
            by_cases hf : Fits (a * b)
            · have e1 := HY.out hf
              have hf' := hf
              rw [← e1] at hf'
              have HE := Lib.hid (times_yes hf)
              have HE1 := Lib.hid e1
              clear e1 hf HY HN
              go_region_held3 (fun w' => w'.cell? ⟨w.heap.size, 1, none⟩ = some (.int .u64 (loN a)) ∧ w'.cell? ⟨w.heap.size + 1, 1, none⟩ = some (.int .u64 (loN b)) ∧ w'.cell? ⟨p6, 1, none⟩ = some (.int .u64 L) ∧ w'.cell? ⟨p7, 1, none⟩ = some (.int .u64 R)) (((try dsimp only); (refine ⟨?_, ?_, ?_, ?_⟩ <;> (repeat (first | with_reducible assumption | with_reducible refine cell_drew ?_ | with_reducible refine cell_up ?_ | with_reducible refine cell_below hb1 ?_ | ((with_reducible refine cell_set ?_ ?_); rotate_left; (first | exact n0 | exact n1 | exact n6 | exact n7))))))) (first | (go_at_call 31; refine (mul_any _ _ _ la lb).mono ?_; rintro e w' ⟨rfl, rfl⟩) | (go_at_call 20; refine (wadd_ok _ _ _ _ _ _ _ hk' hk hf').mono ?_; rintro e w1 ⟨rfl, hb1⟩; obtain ⟨s0, s1, s2, s3⟩ := Pair.below (Pair.drew (Pair.up' qr)) hb1))
              go_wp2
              refine bodyPost_ret (v := .tuple #[.agg #[.int .u64 (hiN (loN a * loN b + (L + R) * 18446744073709551616)), .int .u64 (loN (loN a * loN b + (L + R) * 18446744073709551616))], .int .i64 0]) (by simp [results, Tryd.results19, go_sem, s0, s1]) rfl ⟨?_, ?_⟩
              · obtain ⟨e1, e2, e3⟩ := HE.out; rw [e1, e2, e3, HE1.out]
              · exact (((bel_call ((bel_new bel (Nat.le_refl _) _).drew) (Nat.le_refl _) hb1).setCell (by simp; omega) _).setCell (by simp; omega) _)
            · have hf' := HN.out hf
              have HE := Lib.hid (times_no hf)
              clear hf HY HN
              go_region_held3 (fun w' => w'.cell? ⟨w.heap.size, 1, none⟩ = some (.int .u64 (loN a)) ∧ w'.cell? ⟨w.heap.size + 1, 1, none⟩ = some (.int .u64 (loN b)) ∧ w'.cell? ⟨p6, 1, none⟩ = some (.int .u64 L) ∧ w'.cell? ⟨p7, 1, none⟩ = some (.int .u64 R)) (((try dsimp only); (refine ⟨?_, ?_, ?_, ?_⟩ <;> (repeat (first | with_reducible assumption | with_reducible refine cell_drew ?_ | with_reducible refine cell_up ?_ | with_reducible refine cell_below hb1 ?_ | ((with_reducible refine cell_set ?_ ?_); rotate_left; (first | exact n0 | exact n1 | exact n6 | exact n7))))))) (first | (go_at_call 31; refine (mul_any _ _ _ la lb).mono ?_; rintro e w' ⟨rfl, rfl⟩) | (go_at_call 20; refine (add_large _ _ _ _ _ _ _ hk' hk hf').mono ?_; rintro e w1 ⟨rfl, hb1⟩; obtain ⟨s0, s1, s2, s3⟩ := Pair.below (Pair.drew (Pair.up' qr)) hb1))
              go_wp2
              refine bodyPost_ret (v := .tuple #[.agg #[.int .u64 0, .int .u64 0], .int .i64 2]) (by simp [results, Tryd.results19, go_sem, s0, s1]) rfl ⟨?_, ?_⟩
              · obtain ⟨e1, e2, e3⟩ := HE.out; rw [e1, e2, e3]; rfl
              · exact (((bel_call ((bel_new bel (Nat.le_refl _) _).drew) (Nat.le_refl _) hb1).setCell (by simp; omega) _).setCell (by simp; omega) _)
          · have t1 : ((hiN (hiN a * loN b) : Int) != 0) = false := by rw [hiN_of_word hL]; rfl
            have t2 : ((hiN (loN a * hiN b) : Int) != 0) = true := by have := mt hi_zero_iff.1 hR; simp; omega
            have hn : ¬ Fits (a * b) := fun h => hR (times_fits h).2.1
            have HE := Lib.hid (times_no hn)
            clear hn hL hR
            generalize hiN a * loN b = L at *
            generalize loN a * hiN b = R at *
            go_wp2
            refine bodyPost_ret (v := .tuple #[.agg #[.int .u64 0, .int .u64 0], .int .i64 2]) (by simp [results, Tryd.results19, go_sem, r0, r1]) rfl ⟨?_, ?_⟩
            · obtain ⟨e1, e2, e3⟩ := HE.out; rw [e1, e2, e3]; rfl
            · exact (bel.setCell (by simp; omega) _).setCell (by simp; omega) _
        · have t1 : ((hiN (hiN a * loN b) : Int) != 0) = true := by have := mt hi_zero_iff.1 hL; simp; omega
          have hn : ¬ Fits (a * b) := fun h => hL (times_fits h).1
          have HE := Lib.hid (times_no hn)
          clear hn hL
          generalize hiN a * loN b = L at *
          generalize loN a * hiN b = R at *
          go_wp2
          refine bodyPost_ret (v := .tuple #[.agg #[.int .u64 0, .int .u64 0], .int .i64 2]) (by simp [results, Tryd.results19, go_sem, r0, r1]) rfl ⟨?_, ?_⟩
          · obtain ⟨e1, e2, e3⟩ := HE.out; rw [e1, e2, e3]; rfl
          · exact (bel.setCell (by simp; omega) _).setCell (by simp; omega) _
theorem times_ok (x1 x2 y1 y2 : Int) (w : World) (a b : Nat) (ha : IsW a x1 x2) (hb : IsW b y1 y2) (h : Fits (a * b)) :
    Calls Tryd.prog 19 #[.agg #[.int .u64 x1, .int .u64 x2], .agg #[.int .u64 y1, .int .u64 y2]] w fun e w' => e = .returned (.tuple #[.agg #[.int .u64 (hiN (a * b)), .int .u64 (loN (a * b))], .int .i64 0]) ∧ Below w.heap.size w w' := by
  have c := times_any x1 x2 y1 y2 w a b ha hb
  obtain ⟨e1, e2, e3⟩ := times_yes h
  rw [e1, e2, e3] at c
  exact c
theorem times_large (x1 x2 y1 y2 : Int) (w : World) (a b : Nat) (ha : IsW a x1 x2) (hb : IsW b y1 y2) (h : ¬ Fits (a * b)) :
    Calls Tryd.prog 19 #[.agg #[.int .u64 x1, .int .u64 x2], .agg #[.int .u64 y1, .int .u64 y2]] w fun e w' => e = .returned (.tuple #[.agg #[.int .u64 0, .int .u64 0], .int .i64 2]) ∧ Below w.heap.size w w' := by
  have c := times_any x1 x2 y1 y2 w a b ha hb
  obtain ⟨e1, e2, e3⟩ := times_no h
  rw [e1, e2, e3] at c
  exact c
end Go.Proofs.YtidafhjdpklgbaaDoor
