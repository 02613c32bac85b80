/- hwkeep.DivNested returns true for every three numbers of 128 bits. No condition. -/
import Derived.Test.YtofbmpmefgapfaaGa
import Derived.Test.YtofbmpmefgapfaaCDivNested
namespace Go.Proofs.Ytofbmpmefgapfaa
open Go.ChangeShapes Go.WideShapes Go.ChangeAt Go.RowKit Go.Joins Sx
set_option linter.unusedSimpArgs false
set_option linter.unusedVariables false
set_option maxRecDepth 100000
set_option maxHeartbeats 4000000
theorem DivNested_vc (a b c : Nat) (ha : Fits a) (hb : Fits b) (hc : Fits c) : vcFun (gamOf ga) c12 [wd a, wd b, wd c] (fun v => v = .bool true) := by
  have shB : ∀ x : Nat, IntKind.u64.wrap ((loN x : Int).fdiv (2 ^ min 2 IntKind.u64.bits) + 1) = ((loN x / 4 + 1 : Nat) : Int) := fun x => by
    have h := loN_lt x
    rw [show (2 : Int) ^ min 2 IntKind.u64.bits = 4 from rfl, Int.fdiv_eq_ediv_of_nonneg _ (by omega), IntKind.wrap_u64]
    omega
  have eb := shB b
  have ec := shB c
  obtain ⟨B, hB⟩ : ∃ B, loN b / 4 + 1 = B := ⟨_, rfl⟩
  obtain ⟨C, hC⟩ : ∃ C, loN c / 4 + 1 = C := ⟨_, rfl⟩
  have lb := loN_lt b
  have lc := loN_lt c
  rw [hB] at eb
  rw [hC] at ec
  have B0 : B ≠ 0 := by omega
  have C0 : C ≠ 0 := by omega
  have B1 : B ≤ 4611686018427387904 := by omega
  have C1 : C ≤ 4611686018427387904 := by omega
  clear lb lc hB hC
  have wB : Word B := by unfold Word; omega
  have wC : Word C := by unfold Word; omega
  have hP : B * C ≤ 4611686018427387904 * 4611686018427387904 := Nat.mul_le_mul B1 C1
  have P0 : B * C ≠ 0 := Nat.mul_ne_zero B0 C0
  have hPl : B * C < 340282366920938463463374607431768211456 := by omega
  have m1 := mulN_in hPl
  have m2 : mulE B C = 0 := if_pos hPl
  obtain ⟨X, hX⟩ : ∃ X, a / B = X := ⟨_, rfl⟩
  obtain ⟨Y, hY⟩ : ∃ Y, X / C = Y := ⟨_, rfl⟩
  have hZ : a / (B * C) = Y := by rw [← hY, ← hX, Nat.div_div_eq_div_mul]
  obtain ⟨P, hPe⟩ : ∃ P, B * C = P := ⟨_, rfl⟩
  rw [hPe] at m1 hP P0 hPl hZ
  clear hPe
  have d1 : divQ a B = X := (divQ_pos B0).trans hX
  have d2 : divQ X C = Y := (divQ_pos C0).trans hY
  have d3 : divQ a P = Y := (divQ_pos P0).trans hZ
  have ha' := fits_lt.1 ha
  have fX : Fits X := by rw [fits_lt, ← hX]; exact Nat.lt_of_le_of_lt (Nat.div_le_self _ _) ha'
  have fP : Fits P := fits_lt.2 hPl
  have e1 : divE B = 0 := if_neg B0
  have e2 : divE C = 0 := if_neg C0
  have e3 : divE P = 0 := if_neg P0
  have la := halfN_lt ha
  have lp := halfN_lt fP
  obtain ⟨A1, hA1⟩ : ∃ A1, halfN a = A1 := ⟨_, rfl⟩
  obtain ⟨P1, hP1⟩ : ∃ P1, halfN P = P1 := ⟨_, rfl⟩
  rw [hA1] at la
  rw [hP1] at lp
  have fA1 : Fits A1 := by rw [fits_lt]; omega
  have fP1 : Fits P1 := by rw [fits_lt]; omega
  have hS : A1 + P1 < 340282366920938463463374607431768211456 := by omega
  have s1 := addN_in hS
  have s2 : addE A1 P1 = 0 := if_pos hS
  obtain ⟨S1, hS1⟩ : ∃ S1, A1 + P1 = S1 := ⟨_, rfl⟩
  rw [hS1] at s1 hS
  have fS1 : Fits S1 := fits_lt.2 hS
  obtain ⟨U, hU⟩ : ∃ U, A1 / C = U := ⟨_, rfl⟩
  obtain ⟨V, hV⟩ : ∃ V, P1 / C = V := ⟨_, rfl⟩
  obtain ⟨Q, hQ⟩ : ∃ Q, S1 / C = Q := ⟨_, rfl⟩
  have d4 : divQ A1 C = U := (divQ_pos C0).trans hU
  have d5 : divQ P1 C = V := (divQ_pos C0).trans hV
  have d6 : divQ S1 C = Q := (divQ_pos C0).trans hQ
  have lU : U ≤ A1 := hU ▸ Nat.div_le_self _ _
  have lV : V ≤ P1 := hV ▸ Nat.div_le_self _ _
  have lQ : Q ≤ S1 := hQ ▸ Nat.div_le_self _ _
  have fU : Fits U := by rw [fits_lt]; omega
  have fV : Fits V := by rw [fits_lt]; omega
  have fQ : Fits Q := by rw [fits_lt]; omega
  have hT : U + V < 340282366920938463463374607431768211456 := by omega
  have t1 := addN_in hT
  have t2 : addE U V = 0 := if_pos hT
  obtain ⟨T1, hT1⟩ : ∃ T1, U + V = T1 := ⟨_, rfl⟩
  rw [hT1] at t1 hT
  have fT1 : Fits T1 := fits_lt.2 hT
  have hbound : T1 ≤ Q ∧ Q ≤ T1 + 1 := by
    have h1 := Nat.div_add_mod A1 C
    have h2 := Nat.div_add_mod P1 C
    have h3 := Nat.mod_lt A1 (Nat.pos_of_ne_zero C0)
    have h4 := Nat.mod_lt P1 (Nat.pos_of_ne_zero C0)
    rw [hU] at h1
    rw [hV] at h2
    have h5 : S1 = C * T1 + (A1 % C + P1 % C) := by rw [← hT1, Nat.mul_add]; omega
    have h6 : C * T1 ≤ S1 := by omega
    have h7 : S1 < C * (T1 + 2) := by rw [Nat.mul_add]; omega
    refine ⟨?_, ?_⟩
    · rw [← hQ]; exact (Nat.le_div_iff_mul_le (Nat.pos_of_ne_zero C0)).2 (by rw [Nat.mul_comm]; exact h6)
    · rw [← hQ]; exact Nat.le_of_lt_succ ((Nat.div_lt_iff_lt_mul (Nat.pos_of_ne_zero C0)).2 (by rw [Nat.mul_comm]; exact h7))
  have u1 : subE Q T1 = 0 := if_pos hbound.1
  obtain ⟨D, hD⟩ : ∃ D, Q - T1 = D := ⟨_, rfl⟩
  have hD1 : D ≤ 1 := by omega
  have fD : Fits D := by rw [fits_lt]; omega
  have k1 : Fits 100 := by rw [fits_lt]; omega
  have k2 : Fits 7 := by rw [fits_lt]; omega
  have k3 : divE 7 = 0 := rfl
  have k4 : divQ 100 7 = 14 := rfl
  clear hX hY hZ hS1 hU hV hQ hT1 hbound hP hS hT lU lV lQ lp la hPl ha' B1 C1 shB
  simp (config := { maxSteps := 9000000 }) only [↓e_fun, ↓e_skip, ↓e_reg, ↓e_seq, ↓e_cond, ↓e_block, ↓e_exit, ↓e_ret, ↓e_nil, ↓e_op, ↓e_opg, ↓o_mov, ↓o_pick, ↓o_bin, ↓o_eqb, ↓o_eqs, ↓o_neg, ↓o_not, ↓o_conv, ↓o_faddr, ↓o_fld, ↓o_ext, ↓o_build, ↓o_box, ↓o_alloc, ↓o_load, ↓o_store, ↓o_call, v_some, argsOf, b_add, b_sub, b_mul, b_quo, b_rem, b_and, b_or, b_xor, b_andNot, b_eql, b_neq, b_lss, b_leq, b_gtr, b_geq, b_shl, b_shr, wd, entFr, SO.ev, fr_put, put_none, mem_put', fr_setm, mem_setm, setM_at, fr_fl, mem_fl, memOf_at, St.of, keepSt, getAll, lookN, SV.cells, SV.one, SV.res1, SV.res0, SV.arg1, SV.arg0, Cel.isFresh, fillP, setAt, partV, eqCells, cellEq, gamOf, wN_hl, OkW_hl, eq_hl, eq_h0, List.map_cons, List.map_nil, List.all_cons, List.all_nil, Option.map_some, Option.map_none, Option.getD_some, Option.getD_none, Nat.reduceEqDiff, ↓reduceIte, Nat.reduceAdd, Nat.reduceMul, List.length_cons, List.length_nil, Nat.reduceLeDiff, List.set_cons_zero, List.set_cons_succ, List.drop_zero, List.drop_succ_cons, List.take_succ_cons, List.take_zero, List.getElem?_cons_zero, List.getElem?_cons_succ, Bool.and_true, Bool.not_true, Bool.not_false, Bool.and_self, bool_inj, true_and, and_true, Bool.false_eq_true, reduceCtorEq, labOk, wN_0, OkW_0, Int.reduceBEq, Int.reduceBNe, Int.reduceToNat, Int.reduceLE, Int.reduceLT, Int.reduceEq, Nat.reduceDiv, Nat.reduceMod, Nat.reduceSub, BEq.rfl, beq_self_eq_true, bne_self_eq_false, decide_true, decide_false, decide_eq_true_eq, decide_eq_false_iff_not, and_self, Nat.reduceBEq, vcRet, resAll, resL, resV, c12, ga, addF, subF, halfF, divF, timesF, numF, ha, hb, hc, eb, ec, wB, wC, m1, m2, d1, d2, d3, d4, d5, d6, e1, e2, e3, fX, fP, hA1, hP1, fA1, fP1, fS1, s1, s2, fU, fV, fQ, fT1, t1, t2, u1, hD, fD, k1, k2, k3, k4]
  split
  · omega
  · trivial
theorem DivNested_walk (x0 y0 : Int) (a : Nat) (ha : IsW a x0 y0) (x1 y1 : Int) (b : Nat) (hb : IsW b x1 y1) (x2 y2 : Int) (c : Nat) (hc : IsW c x2 y2) (w : World) :
    Calls Try.prog 12 #[.agg #[.int .u64 x0, .int .u64 y0], .agg #[.int .u64 x1, .int .u64 y1], .agg #[.int .u64 x2, .int .u64 y2]] w fun e w' => e = .returned (.bool true) ∧ Below w.heap.size w w' := by
  obtain ⟨fa, rfl, rfl⟩ := ha
  obtain ⟨fb, rfl, rfl⟩ := hb
  obtain ⟨fc, rfl, rfl⟩ := hc
  exact law_call ga_ok law_mixed c12_eq (DivNested_vc a b c fa fb fc) rfl (Nat.le_of_ble_eq_true rfl) w [_, _, _] ⟨is1_wd w a, is1_wd w b, is1_wd w c, trivial⟩
set_option maxRecDepth 100000 in
theorem DivNested_lifted (os : Os) (started : os.Started) (H : Type) (enc : TypeId × Value → H) :
    ReturnsInHanded {} Try.checked os 12 .any (Rows.divNestedSpec.pre6 enc Try.prog Try.f12 Rows.divNestedRow.domain false) (Rows.divNestedSpec.post enc Try.prog Try.f12 false true false false) := by
  refine returnsInHanded_of_change (C := Try.checked) law_own started (by kernel_rfl) Try.func12
    (ChangeSpec.witness6 (enc := enc) (C := Try.checked) false ⟨#[], #[.agg #[.int .u64 0, .int .u64 0], .agg #[.int .u64 0, .int .u64 0], .agg #[.int .u64 0, .int .u64 0]], []⟩ 8 (by kernel_rfl) (by kernel_rfl) (by kernel_rfl) (by kernel_rfl)) ?_
  intro W base args ds gs before hval0 hW hcnd _
  have hval : ∀ (j : Nat) t v, Try.f12.params[j]? = some t → args[j]? = some v → Value.okWide Try.prog W .any base t v := hval0
  have hW' := hW
  obtain ⟨p, q, hA0, hV, rfl, hfz, hnd⟩ := hW
  have hA : DataW.TrodAll enc Try.prog W 0 (fun _ => true) true Try.f12.params.toList args.toList ds p := hA0
  rw [Try.params12] at hA hval
  obtain ⟨v0, vs0, d0, ds0, p0, q0, hargs, rfl, rfl, h0, r0⟩ := trodAll_cons hA
  obtain ⟨v1, vs1, d1, ds1, p1, q1, rfl, rfl, rfl, h1, r1⟩ := trodAll_cons r0
  obtain ⟨v2, vs2, d2, ds2, p2, q2, rfl, rfl, rfl, h2, r2⟩ := trodAll_cons r1
  obtain ⟨rfl, rfl, rfl⟩ := trodAll_nil r2
  obtain rfl : args = #[v0, v1, v2] := by cases args; simp_all
  obtain ⟨rfl, rfl⟩ := trodVars_none hV
  obtain ⟨c0, e0, y0, z0, m0, rfl, rfl, rfl, hy0, hz0⟩ := open_agg2 Try.underlying24 (by kernel_rfl) law_cells (hval 0 24 v0 rfl rfl) h0
  obtain ⟨x0, f0, rfl, wx0⟩ := DataW.trod_int Try.underlying22 hy0
  obtain ⟨t0, g0, rfl, wt0⟩ := DataW.trod_int Try.underlying22 hz0
  simp at f0 g0
  subst f0 g0
  obtain ⟨A0, hw0⟩ := isW_of wx0 wt0
  obtain ⟨c1, e1, y1, z1, m1, rfl, rfl, rfl, hy1, hz1⟩ := open_agg2 Try.underlying24 (by kernel_rfl) law_cells (hval 1 24 v1 rfl rfl) h1
  obtain ⟨x1, f1, rfl, wx1⟩ := DataW.trod_int Try.underlying22 hy1
  obtain ⟨t1, g1, rfl, wt1⟩ := DataW.trod_int Try.underlying22 hz1
  simp at f1 g1
  subst f1 g1
  obtain ⟨A1, hw1⟩ := isW_of wx1 wt1
  obtain ⟨c2, e2, y2, z2, m2, rfl, rfl, rfl, hy2, hz2⟩ := open_agg2 Try.underlying24 (by kernel_rfl) law_cells (hval 2 24 v2 rfl rfl) h2
  obtain ⟨x2, f2, rfl, wx2⟩ := DataW.trod_int Try.underlying22 hy2
  obtain ⟨t2, g2, rfl, wt2⟩ := DataW.trod_int Try.underlying22 hz2
  simp at f2 g2
  subst f2 g2
  obtain ⟨A2, hw2⟩ := isW_of wx2 wt2
  clear hA0 hval0
  refine (DivNested_walk x0 t0 A0 hw0 x1 t1 A1 hw1 x2 t2 A2 hw2 W).mono fun e W' ⟨he, bel⟩ => ?_
  subst he
  exact ⟨_, rfl, _, _, _, [], _, [], hW', trodAll_mk1 (shut_bool Try.underlying4 _), (trodAll_cons_mk (wide_reads wx0 wt0) (trodAll_cons_mk (wide_reads wx1 wt1) (trodAll_cons_mk (wide_reads wx2 wt2) trodAll_mk0))), rfl, bel.frame _, fun h => by cases h⟩
theorem DivNested_holds : Rows.DivNestedSaid :=
  OpenClaim.holds_of_wide 12 Try.f12 rfl rfl rfl rfl rfl rfl rfl ⟨rfl, rfl, rfl, rfl, rfl⟩ rfl rfl rfl rfl rfl (by kernel_rfl) Try.func12 (by kernel_rfl)
    (of_decide_eq_true (by kernel_rfl)) (by unfold Func.isWrapper; first | (rw [if_pos (by decide +kernel)]; kernel_rfl) | (rw [if_neg (by decide +kernel)]; exact ⟨rfl, rfl⟩))
    (fun os started H enc _ => DivNested_lifted os started H enc)
end Go.Proofs.Ytofbmpmefgapfaa
