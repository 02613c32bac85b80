/- The last statement of hwkeep.WideGroup: four equations between variables that hold the same words. -/
import Derived.Test.YtofbmpmefgapfaaCode
import Derived.Test.YtofbmpmefgapfaaH1
namespace Go.Proofs.Ytofbmpmefgapfaa
open Go.RowKit
set_option maxRecDepth 1000000 in
set_option maxHeartbeats 2000000 in
theorem WGe_wp (c0 c1 c2 c4 c5 c6 c7 c8 c10 c12 c14 c15 c16 c18 c20 c22 c23 c24 c25 c26 c27 c28 c29 c30 c31 c32 c33 c34 c35 c36 c37 c38 c39 c40 c41 c42 c43 c44 c45 c46 c47 c48 c49 c50 c51 c52 c53 c54 c55 c56 c57 c58 c59 c60 c61 c62 c63 c64 c65 c66 c67 c68 c69 c70 c71 c72 c73 c74 c75 c76 c77 c78 c79 c80 c81 c82 c83 c84 c85 c86 c87 c88 c89 c90 c91 c92 c93 c94 c95 c96 c97 c98 c99 c100 c101 c102 c103 c104 c105 c106 c107 c108 c109 c110 c111 c112 c113 c114 c115 c116 c117 c118 c119 : Value) (Q : Exit → Act → World → Prop) (t : World) (b3 b9 b11 b13 b17 b19 b21 : Nat) (s0 s1 l0 l1 a0 a1 : Int)
    (A0 : t.cell? ⟨b3, 0, none⟩ = some (.int .u64 a0)) (A1 : t.cell? ⟨b3, 1, none⟩ = some (.int .u64 a1))
    (P0 : t.cell? ⟨b9, 0, none⟩ = some (.int .u64 s0)) (P1 : t.cell? ⟨b9, 1, none⟩ = some (.int .u64 s1))
    (Q0 : t.cell? ⟨b11, 0, none⟩ = some (.int .u64 s0)) (Q1 : t.cell? ⟨b11, 1, none⟩ = some (.int .u64 s1))
    (L0 : t.cell? ⟨b13, 0, none⟩ = some (.int .u64 l0)) (L1 : t.cell? ⟨b13, 1, none⟩ = some (.int .u64 l1))
    (R0 : t.cell? ⟨b17, 0, none⟩ = some (.int .u64 l0)) (R1 : t.cell? ⟨b17, 1, none⟩ = some (.int .u64 l1))
    (D0 : t.cell? ⟨b19, 0, none⟩ = some (.int .u64 a0)) (D1 : t.cell? ⟨b19, 1, none⟩ = some (.int .u64 a1))
    (O0 : t.cell? ⟨b21, 0, none⟩ = some (.int .u64 a0)) (O1 : t.cell? ⟨b21, 1, none⟩ = some (.int .u64 a1))
    (hexit : ∀ (u102 u103 u104 u105 u106 u107 u108 u109 u110 u111 u112 u113 u114 u115 u116 u117 u118 u119 : Value), Q .normal ⟨#[c0, c1, c2, .pointer (some ⟨b3, 0, none⟩), c4, c5, .bool true, c7, c8, .pointer (some ⟨b9, 0, none⟩), c10, .pointer (some ⟨b11, 0, none⟩), c12, .pointer (some ⟨b13, 0, none⟩), c14, c15, c16, .pointer (some ⟨b17, 0, none⟩), c18, .pointer (some ⟨b19, 0, none⟩), c20, .pointer (some ⟨b21, 0, none⟩), c22, c23, c24, c25, c26, c27, c28, c29, c30, c31, c32, c33, c34, c35, c36, c37, c38, c39, c40, c41, c42, c43, c44, c45, c46, c47, c48, c49, c50, c51, c52, c53, c54, c55, c56, c57, c58, c59, c60, c61, c62, c63, c64, c65, c66, c67, c68, c69, c70, c71, c72, c73, c74, c75, c76, c77, c78, c79, c80, c81, c82, c83, c84, c85, c86, c87, c88, c89, c90, c91, c92, c93, c94, c95, c96, c97, c98, c99, c100, c101, u102, u103, u104, u105, u106, u107, u108, u109, u110, u111, u112, u113, u114, u115, u116, u117, u118, u119], []⟩ t) :
    Code.wp Try.prog ((Try.f6.body.bind (findRegion 18)).getD .skip) Q ⟨#[c0, c1, c2, .pointer (some ⟨b3, 0, none⟩), c4, c5, c6, c7, c8, .pointer (some ⟨b9, 0, none⟩), c10, .pointer (some ⟨b11, 0, none⟩), c12, .pointer (some ⟨b13, 0, none⟩), c14, c15, c16, .pointer (some ⟨b17, 0, none⟩), c18, .pointer (some ⟨b19, 0, none⟩), c20, .pointer (some ⟨b21, 0, none⟩), c22, c23, c24, c25, c26, c27, c28, c29, c30, c31, c32, c33, c34, c35, c36, c37, c38, c39, c40, c41, c42, c43, c44, c45, c46, c47, c48, c49, c50, c51, c52, c53, c54, c55, c56, c57, c58, c59, c60, c61, c62, c63, c64, c65, c66, c67, c68, c69, c70, c71, c72, c73, c74, c75, c76, c77, c78, c79, c80, c81, c82, c83, c84, c85, c86, c87, c88, c89, c90, c91, c92, c93, c94, c95, c96, c97, c98, c99, c100, c101, c102, c103, c104, c105, c106, c107, c108, c109, c110, c111, c112, c113, c114, c115, c116, c117, c118, c119], []⟩ t := by
  have HX := Lib.hid hexit
  clear hexit
  conv => arg 2; whnf
  conv => arg 4; zeta
  go_wp2
  exact HX.out _ _ _ _ _ _ _ _ _ _ _ _ _ _ _ _ _ _
end Go.Proofs.Ytofbmpmefgapfaa
