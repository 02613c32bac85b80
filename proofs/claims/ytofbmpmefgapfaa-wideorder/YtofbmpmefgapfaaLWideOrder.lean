/- hwkeep.WideOrder returns true for every three numbers of 128 bits. No condition. -/
import Derived.Test.YtofbmpmefgapfaaGa
import Derived.Test.YtofbmpmefgapfaaCWideOrder
namespace Go.Proofs.Ytofbmpmefgapfaa
open Go.ChangeShapes Go.WideShapes Go.ChangeAt Go.RowKit Go.Joins Sx
set_option linter.unusedSimpArgs false
set_option linter.unusedVariables false
set_option maxRecDepth 100000
set_option maxHeartbeats 4000000
theorem WideOrder_vc (a b c : Nat) (ha : Fits a) (hb : Fits b) (hc : Fits c) : vcFun (gamOf ga) c7 [wd a, wd b, wd c] (fun v => v = .bool true) := by
  have fa := halfN_lt ha
  have fb := halfN_lt hb
  have fc := halfN_lt hc
  have o1 : OkW 1 0 := OkW_lit _ _ (by omega)
  have o2 : OkW 0 5 := OkW_lit _ _ (by omega)
  have k1 : cmpN (wN 1 0) (wN 0 5) = 1 := by simp [cmpN, wN]
  have k2 : cmpN (wN 0 5) (wN 1 0) = -1 := by simp [cmpN, wN]
  have g1 : Fits (halfN a) := by rw [fits_lt]; omega
  have g2 : Fits (halfN b) := by rw [fits_lt]; omega
  have g3 : Fits (halfN c) := by rw [fits_lt]; omega
  have s1 : halfN a + halfN c < 340282366920938463463374607431768211456 := by omega
  have s2 : halfN b + halfN c < 340282366920938463463374607431768211456 := by omega
  have t1 := addN_in s1
  have t2 := addN_in s2
  have g4 : Fits (halfN a + halfN c) := by rw [fits_lt]; exact s1
  have g5 : Fits (halfN b + halfN c) := by rw [fits_lt]; exact s2
  simp (config := { maxSteps := 9000000 }) only [↓e_fun, ↓e_skip, ↓e_reg, ↓e_seq, ↓e_cond, ↓e_block, ↓e_exit, ↓e_ret, ↓e_loop, frIn, memIn, int_inj, ↓e_nil, ↓e_op, ↓e_opg, ↓o_mov, ↓o_pick, ↓o_bin, ↓o_eqb, ↓o_eqs, ↓o_neg, ↓o_not, ↓o_conv, ↓o_faddr, ↓o_fld, ↓o_ext, ↓o_build, ↓o_box, ↓o_alloc, ↓o_load, ↓o_store, ↓o_call, v_some, argsOf, b_add, b_sub, b_mul, b_quo, b_rem, b_and, b_or, b_xor, b_andNot, b_eql, b_neq, b_lss, b_leq, b_gtr, b_geq, b_shl, b_shr, wd, entFr, SO.ev, fr_put, put_none, mem_put', fr_setm, mem_setm, setM_at, fr_fl, mem_fl, memOf_at, St.of, keepSt, getAll, lookN, SV.cells, SV.one, SV.res1, SV.res0, SV.arg1, SV.arg0, Cel.isFresh, fillP, setAt, partV, eqCells, cellEq, gamOf, wN_hl, OkW_hl, eq_hl, eq_h0, List.map_cons, List.map_nil, List.all_cons, List.all_nil, Option.map_some, Option.map_none, Option.getD_some, Option.getD_none, Nat.reduceEqDiff, ↓reduceIte, Nat.reduceAdd, Nat.reduceMul, List.length_cons, List.length_nil, Nat.reduceLeDiff, List.set_cons_zero, List.set_cons_succ, List.drop_zero, List.drop_succ_cons, List.take_succ_cons, List.take_zero, List.getElem?_cons_zero, List.getElem?_cons_succ, Bool.and_true, Bool.not_true, Bool.not_false, Bool.and_self, bool_inj, true_and, and_true, Bool.false_eq_true, reduceCtorEq, labOk, wN_0, OkW_0, Int.reduceBEq, Int.reduceBNe, Int.reduceToNat, Int.reduceLE, Int.reduceLT, Int.reduceEq, Nat.reduceDiv, Nat.reduceMod, Nat.reduceSub, BEq.rfl, beq_self_eq_true, bne_self_eq_false, decide_true, decide_false, decide_eq_true_eq, decide_eq_false_iff_not, and_self, Nat.reduceBEq, vcRet, resAll, resL, resV, c7, ga, addF, subF, cmpF, lenF, halfF, ha, hb, hc, o1, o2, k1, k2, g1, g2, g3, g4, g5, s1, s2, t1, t2, cmpN_add, cmpN_le0, cmpN_gt0, cmpN_lt0, cmpN_eq0, cmpN_wrap, subE_7, addE_0, decide_eq_true_eq, decide_true, decide_false, bne_self_eq_false, BEq.rfl, beq_self_eq_true, if_true, Int.ofNat_lt]
  have hl : a ≤ b → bitLen a ≤ bitLen b := bitLen_mono
  repeat' split
  all_goals first | trivial | omega
theorem WideOrder_walk (x0 y0 : Int) (a : Nat) (ha : IsW a x0 y0) (x1 y1 : Int) (b : Nat) (hb : IsW b x1 y1) (x2 y2 : Int) (c : Nat) (hc : IsW c x2 y2) (w : World) :
    Calls Try.prog 7 #[.agg #[.int .u64 x0, .int .u64 y0], .agg #[.int .u64 x1, .int .u64 y1], .agg #[.int .u64 x2, .int .u64 y2]] w fun e w' => e = .returned (.bool true) ∧ Below w.heap.size w w' := by
  obtain ⟨fa, rfl, rfl⟩ := ha
  obtain ⟨fb, rfl, rfl⟩ := hb
  obtain ⟨fc, rfl, rfl⟩ := hc
  exact law_call ga_ok law_mixed c7_eq (WideOrder_vc a b c fa fb fc) rfl (Nat.le_of_ble_eq_true rfl) w [_, _, _] ⟨is1_wd w a, is1_wd w b, is1_wd w c, trivial⟩
set_option maxRecDepth 100000 in
theorem WideOrder_lifted (os : Os) (started : os.Started) (H : Type) (enc : TypeId × Value → H) :
    ReturnsInHanded {} Try.checked os 7 .any (Rows.wideOrderSpec.pre6 enc Try.prog Try.f7 Rows.wideOrderRow.domain false) (Rows.wideOrderSpec.post enc Try.prog Try.f7 false true false false) := by
  refine returnsInHanded_of_change (C := Try.checked) law_own started (by kernel_rfl) Try.func7
    (ChangeSpec.witness6 (enc := enc) (C := Try.checked) false ⟨#[], #[.agg #[.int .u64 0, .int .u64 0], .agg #[.int .u64 0, .int .u64 0], .agg #[.int .u64 0, .int .u64 0]], []⟩ 8 (by kernel_rfl) (by kernel_rfl) (by kernel_rfl) (by kernel_rfl)) ?_
  intro W base args ds gs before hval0 hW hcnd _
  have hval : ∀ (j : Nat) t v, Try.f7.params[j]? = some t → args[j]? = some v → Value.okWide Try.prog W .any base t v := hval0
  have hW' := hW
  obtain ⟨p, q, hA0, hV, rfl, hfz, hnd⟩ := hW
  have hA : DataW.TrodAll enc Try.prog W 0 (fun _ => true) true Try.f7.params.toList args.toList ds p := hA0
  rw [Try.params7] at hA hval
  obtain ⟨v0, vs0, d0, ds0, p0, q0, hargs, rfl, rfl, h0, r0⟩ := trodAll_cons hA
  obtain ⟨v1, vs1, d1, ds1, p1, q1, rfl, rfl, rfl, h1, r1⟩ := trodAll_cons r0
  obtain ⟨v2, vs2, d2, ds2, p2, q2, rfl, rfl, rfl, h2, r2⟩ := trodAll_cons r1
  obtain ⟨rfl, rfl, rfl⟩ := trodAll_nil r2
  obtain rfl : args = #[v0, v1, v2] := by cases args; simp_all
  obtain ⟨rfl, rfl⟩ := trodVars_none hV
  obtain ⟨c0, e0, y0, z0, m0, rfl, rfl, rfl, hy0, hz0⟩ := open_agg2 Try.underlying24 (by kernel_rfl) law_cells (hval 0 24 v0 rfl rfl) h0
  obtain ⟨x0, f0, rfl, wx0⟩ := DataW.trod_int Try.underlying22 hy0
  obtain ⟨t0, g0, rfl, wt0⟩ := DataW.trod_int Try.underlying22 hz0
  simp at f0 g0
  subst f0 g0
  obtain ⟨A0, hw0⟩ := isW_of wx0 wt0
  obtain ⟨c1, e1, y1, z1, m1, rfl, rfl, rfl, hy1, hz1⟩ := open_agg2 Try.underlying24 (by kernel_rfl) law_cells (hval 1 24 v1 rfl rfl) h1
  obtain ⟨x1, f1, rfl, wx1⟩ := DataW.trod_int Try.underlying22 hy1
  obtain ⟨t1, g1, rfl, wt1⟩ := DataW.trod_int Try.underlying22 hz1
  simp at f1 g1
  subst f1 g1
  obtain ⟨A1, hw1⟩ := isW_of wx1 wt1
  obtain ⟨c2, e2, y2, z2, m2, rfl, rfl, rfl, hy2, hz2⟩ := open_agg2 Try.underlying24 (by kernel_rfl) law_cells (hval 2 24 v2 rfl rfl) h2
  obtain ⟨x2, f2, rfl, wx2⟩ := DataW.trod_int Try.underlying22 hy2
  obtain ⟨t2, g2, rfl, wt2⟩ := DataW.trod_int Try.underlying22 hz2
  simp at f2 g2
  subst f2 g2
  obtain ⟨A2, hw2⟩ := isW_of wx2 wt2
  clear hA0 hval0
  refine (WideOrder_walk x0 t0 A0 hw0 x1 t1 A1 hw1 x2 t2 A2 hw2 W).mono fun e W' ⟨he, bel⟩ => ?_
  subst he
  exact ⟨_, rfl, _, _, _, [], _, [], hW', trodAll_mk1 (shut_bool Try.underlying4 _), (trodAll_cons_mk (wide_reads wx0 wt0) (trodAll_cons_mk (wide_reads wx1 wt1) (trodAll_cons_mk (wide_reads wx2 wt2) trodAll_mk0))), rfl, bel.frame _, fun h => by cases h⟩
theorem WideOrder_holds : Rows.WideOrderSaid :=
  OpenClaim.holds_of_wide 7 Try.f7 rfl rfl rfl rfl rfl rfl rfl ⟨rfl, rfl, rfl, rfl, rfl⟩ rfl rfl rfl rfl rfl (by kernel_rfl) Try.func7 (by kernel_rfl)
    (of_decide_eq_true (by kernel_rfl)) (by unfold Func.isWrapper; first | (rw [if_pos (by decide +kernel)]; kernel_rfl) | (rw [if_neg (by decide +kernel)]; exact ⟨rfl, rfl⟩))
    (fun os started H enc _ => WideOrder_lifted os started H enc)
end Go.Proofs.Ytofbmpmefgapfaa
