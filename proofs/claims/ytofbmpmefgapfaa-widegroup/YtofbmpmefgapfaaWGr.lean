/- The one statement of hwkeep.WideGroup that leaves its order open (a, b, c = half(a), half(b), half(c)), in every order. -/
import Derived.Test.YtofbmpmefgapfaaCode
import Derived.Test.YtofbmpmefgapfaaH1
import Derived.Deep.RegionWith
namespace Go.Proofs.Ytofbmpmefgapfaa
open Go.RowKit
attribute [local go_sem ↓] Go.wp_at_zero Go.wp_at_succ
set_option maxRecDepth 1000000 in
set_option maxHeartbeats 8000000 in
theorem WGr_wp (c0 c1 c2 c6 c7 c8 c9 c10 c11 c12 c13 c14 c15 c16 c17 c18 c19 c20 c21 c22 c23 c24 c25 c26 c27 c28 c29 c30 c31 c32 c33 c34 c35 c36 c37 c38 c39 c40 c41 c42 c43 c44 c45 c46 c47 c48 c49 c50 c51 c52 c53 c54 c55 c56 c57 c58 c59 c60 c61 c62 c63 c64 c65 c66 c67 c68 c69 c70 c71 c72 c73 c74 c75 c76 c77 c78 c79 c80 c81 c82 c83 c84 c85 c86 c87 c88 c89 c90 c91 c92 c93 c94 c95 c96 c97 c98 c99 c100 c101 c102 c103 c104 c105 c106 c107 c108 c109 c110 c111 c112 c113 c114 c115 c116 c117 c118 c119 : Value) (Q : Exit → Act → World → Prop) (w v : World) (x0 y0 x1 y1 x2 y2 : Int) (a b c : Nat) (ha : IsW a x0 y0) (hb : IsW b x1 y1) (hc : IsW c x2 y2)
    (A : Pair v w.heap.size (.int .u64 x0) (.int .u64 y0)) (B : Pair v (w.heap.size + 1) (.int .u64 x1) (.int .u64 y1)) (C : Pair v (w.heap.size + 1 + 1) (.int .u64 x2) (.int .u64 y2)) (bel0 : Below w.heap.size w v)
    (hexit : ∀ (u38 u39 u40 u41 u42 u43 : Value) (wx : World), Pair wx w.heap.size (.int .u64 (hiN (halfN a))) (.int .u64 (loN (halfN a))) ∧ Pair wx (w.heap.size + 1) (.int .u64 (hiN (halfN b))) (.int .u64 (loN (halfN b))) ∧ Pair wx (w.heap.size + 1 + 1) (.int .u64 (hiN (halfN c))) (.int .u64 (loN (halfN c))) ∧ Below w.heap.size w wx →
      Q .normal ⟨#[c0, c1, c2, .pointer (some ⟨w.heap.size, 0, none⟩), .pointer (some ⟨w.heap.size + 1, 0, none⟩), .pointer (some ⟨w.heap.size + 1 + 1, 0, none⟩), c6, c7, c8, c9, c10, c11, c12, c13, c14, c15, c16, c17, c18, c19, c20, c21, c22, c23, c24, c25, c26, c27, c28, c29, c30, c31, c32, c33, c34, c35, c36, c37, u38, u39, u40, u41, u42, u43, c44, c45, c46, c47, c48, c49, c50, c51, c52, c53, c54, c55, c56, c57, c58, c59, c60, c61, c62, c63, c64, c65, c66, c67, c68, c69, c70, c71, c72, c73, c74, c75, c76, c77, c78, c79, c80, c81, c82, c83, c84, c85, c86, c87, c88, c89, c90, c91, c92, c93, c94, c95, c96, c97, c98, c99, c100, c101, c102, c103, c104, c105, c106, c107, c108, c109, c110, c111, c112, c113, c114, c115, c116, c117, c118, c119], []⟩ wx) :
    Code.wp Try.prog ((Try.f6.body.bind (findRegion 4)).getD .skip) Q ⟨#[c0, c1, c2, .pointer (some ⟨w.heap.size, 0, none⟩), .pointer (some ⟨w.heap.size + 1, 0, none⟩), .pointer (some ⟨w.heap.size + 1 + 1, 0, none⟩), c6, c7, c8, c9, c10, c11, c12, c13, c14, c15, c16, c17, c18, c19, c20, c21, c22, c23, c24, c25, c26, c27, c28, c29, c30, c31, c32, c33, c34, c35, c36, c37, c38, c39, c40, c41, c42, c43, c44, c45, c46, c47, c48, c49, c50, c51, c52, c53, c54, c55, c56, c57, c58, c59, c60, c61, c62, c63, c64, c65, c66, c67, c68, c69, c70, c71, c72, c73, c74, c75, c76, c77, c78, c79, c80, c81, c82, c83, c84, c85, c86, c87, c88, c89, c90, c91, c92, c93, c94, c95, c96, c97, c98, c99, c100, c101, c102, c103, c104, c105, c106, c107, c108, c109, c110, c111, c112, c113, c114, c115, c116, c117, c118, c119], []⟩ v := by
  have HX := Lib.hid hexit
  clear hexit
  obtain ⟨Ac, Ad, Ae, Af⟩ := id A
  obtain ⟨Bc, Bd, Be, Bf⟩ := id B
  obtain ⟨Cc, Cd, Ce, Cf⟩ := id C
  conv => arg 2; whnf
  go_region_with (first | (go_at_call_of 31 x0; refine (half_c _ _ _ _ ha).mono ?_; rintro e w' ⟨rfl, hbw⟩; (first | (replace A := Pair.below A hbw; replace B := Pair.below B hbw; replace C := Pair.below C hbw; replace bel0 := bel_call bel0 (Nat.le_refl _) hbw) | (replace A := Pair.below (Pair.drew A) hbw; replace B := Pair.below (Pair.drew B) hbw; replace C := Pair.below (Pair.drew C) hbw; replace bel0 := bel_call bel0.drew (Nat.le_refl _) hbw)); clear hbw; obtain ⟨Ac, Ad, Ae, Af⟩ := id A; obtain ⟨Bc, Bd, Be, Bf⟩ := id B; obtain ⟨Cc, Cd, Ce, Cf⟩ := id C) | (go_at_call_of 31 x1; refine (half_c _ _ _ _ hb).mono ?_; rintro e w' ⟨rfl, hbw⟩; (first | (replace A := Pair.below A hbw; replace B := Pair.below B hbw; replace C := Pair.below C hbw; replace bel0 := bel_call bel0 (Nat.le_refl _) hbw) | (replace A := Pair.below (Pair.drew A) hbw; replace B := Pair.below (Pair.drew B) hbw; replace C := Pair.below (Pair.drew C) hbw; replace bel0 := bel_call bel0.drew (Nat.le_refl _) hbw)); clear hbw; obtain ⟨Ac, Ad, Ae, Af⟩ := id A; obtain ⟨Bc, Bd, Be, Bf⟩ := id B; obtain ⟨Cc, Cd, Ce, Cf⟩ := id C) | (go_at_call_of 31 x2; refine (half_c _ _ _ _ hc).mono ?_; rintro e w' ⟨rfl, hbw⟩; (first | (replace A := Pair.below A hbw; replace B := Pair.below B hbw; replace C := Pair.below C hbw; replace bel0 := bel_call bel0 (Nat.le_refl _) hbw) | (replace A := Pair.below (Pair.drew A) hbw; replace B := Pair.below (Pair.drew B) hbw; replace C := Pair.below (Pair.drew C) hbw; replace bel0 := bel_call bel0.drew (Nat.le_refl _) hbw)); clear hbw; obtain ⟨Ac, Ad, Ae, Af⟩ := id A; obtain ⟨Bc, Bd, Be, Bf⟩ := id B; obtain ⟨Cc, Cd, Ce, Cf⟩ := id C))
  all_goals exact HX.out _ _ _ _ _ _ _ (stored3 A B C bel0 _ _ _ _ _ _)
set_option maxRecDepth 1000000 in
set_option maxHeartbeats 2000000 in
theorem WGl_wp (c0 c1 c2 c3 c4 c5 c6 c7 c8 c9 c10 c11 c12 c13 c14 c15 c16 c17 c18 c19 c20 c21 c22 c23 c24 c25 c26 c27 c28 c29 c30 c31 c32 c33 c34 c35 c36 c37 c38 c39 c40 c41 c42 c43 c44 c45 c46 c47 c48 c49 c50 c51 c52 c53 c54 c55 c56 c57 c58 c59 c60 c61 c62 c63 c64 c65 c66 c67 c68 c69 c70 c71 c72 c73 c74 c75 c76 c77 c78 c79 c80 c81 c82 c83 c84 c85 c86 c87 c88 c89 c90 c91 c92 c96 c97 c98 c99 c100 c101 c102 c103 c104 c105 c106 c107 c108 c109 c110 c111 c112 c113 c114 c115 c116 c117 c118 c119 : Value) (Q : Exit → Act → World → Prop) (t : World) (B : Nat) (hz : ∀ k, k < 7 → t.cell? ⟨B, k, none⟩ = some (.int .i64 0))
    (hexit : ∀ (u6 u24 u95 u96 u97 u98 u99 u100 u101 : Value), Q (.exit 0) ⟨#[c0, c1, c2, c3, c4, c5, u6, c7, c8, c9, c10, c11, c12, c13, c14, c15, c16, c17, c18, c19, c20, c21, c22, c23, u24, c25, c26, c27, c28, c29, c30, c31, c32, c33, c34, c35, c36, c37, c38, c39, c40, c41, c42, c43, c44, c45, c46, c47, c48, c49, c50, c51, c52, c53, c54, c55, c56, c57, c58, c59, c60, c61, c62, c63, c64, c65, c66, c67, c68, c69, c70, c71, c72, c73, c74, c75, c76, c77, c78, c79, c80, c81, c82, c83, c84, c85, c86, c87, c88, c89, c90, c91, c92, .slice (some ⟨B, 0, none⟩) 7 7, .int .i64 7, u95, u96, u97, u98, u99, u100, u101, c102, c103, c104, c105, c106, c107, c108, c109, c110, c111, c112, c113, c114, c115, c116, c117, c118, c119], []⟩ t) :
    Code.wp Try.prog ((Try.f6.body.bind firstLoop).getD .skip) Q ⟨#[c0, c1, c2, c3, c4, c5, c6, c7, c8, c9, c10, c11, c12, c13, c14, c15, c16, c17, c18, c19, c20, c21, c22, c23, c24, c25, c26, c27, c28, c29, c30, c31, c32, c33, c34, c35, c36, c37, c38, c39, c40, c41, c42, c43, c44, c45, c46, c47, c48, c49, c50, c51, c52, c53, c54, c55, c56, c57, c58, c59, c60, c61, c62, c63, c64, c65, c66, c67, c68, c69, c70, c71, c72, c73, c74, c75, c76, c77, c78, c79, c80, c81, c82, c83, c84, c85, c86, c87, c88, c89, c90, c91, c92, .slice (some ⟨B, 0, none⟩) 7 7, .int .i64 7, .int .i64 0, c96, c97, c98, c99, c100, c101, c102, c103, c104, c105, c106, c107, c108, c109, c110, c111, c112, c113, c114, c115, c116, c117, c118, c119], []⟩ t := by
  have HX := Lib.hid hexit
  have HZ := Lib.hid hz
  clear hexit hz
  conv => arg 2; whnf
  conv => arg 4; zeta
  go_loop [24, 95] (fun _ i => ∃ k : Nat, k ≤ 7 ∧ i = .int .i64 k) (fun _ i => 7 - (intOf i).toNat)
  case atStart => exact ⟨0, by omega, rfl⟩
  case round =>
    obtain ⟨k, hk, rfl⟩ := hrel
    by_cases hlt : k < 7
    · have hcell := HZ.out k hlt
      go_wp2
      go_round
      case rel => exact ⟨k + 1, by omega, by go_num⟩
      case measure => simp [intOf]; omega
    · have hge : ¬ (k : Int) < 7 := by omega
      go_wp2
      exact HX.out _ _ _ _ _ _ _ _ _
end Go.Proofs.Ytofbmpmefgapfaa
