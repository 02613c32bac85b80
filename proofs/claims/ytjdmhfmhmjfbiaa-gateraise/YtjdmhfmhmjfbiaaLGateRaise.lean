/- hwkeep.GateRaise returns true for every gate and every two whole numbers. No condition. -/
import Derived.Test.YtjdmhfmhmjfbiaaYGt
import Derived.Test.YtjdmhfmhmjfbiaaYS1
import Derived.Test.YtjdmhfmhmjfbiaaCYGateRaise
namespace Go.Proofs.Ytjdmhfmhmjfbiaa
open Go.ChangeShapes Go.WideShapes Go.ChangeAt Go.RowKit Go.Joins Y
set_option linter.unusedSimpArgs false
set_option linter.unusedVariables false
set_option maxRecDepth 100000
set_option maxHeartbeats 40000000
def gl : List (Nat × Say) := [(42, takeS), (44, gchkS), (53, withinS)]
theorem gl_ok : GamOk Try.prog (gamY gl) := gam_ok (gam_cons take_ok (gam_cons gchk_ok (gam_cons within_ok gam_nil)))
theorem GateRaise_vc (a b c : Int) (ba : I64 a) (bb : I64 b) (bc : I64 c) (m : Int) (bm : I64 m) (n : Int) (bn : I64 n) : vcFun (gamY gl) y15 [.agg [.int .i64 a, .int .i64 b, .int .i64 c], .int .i64 m, .int .i64 n] none (fun v o => v = .bool true) := by
  have z1 : takE 1 9 0 2 1 = 0 := by decide
  have z2 : takA 1 9 0 2 1 = 2 := by decide
  have z3 : takS 1 9 0 2 1 = 1 := by decide
  have z4 : takD 1 9 0 2 1 = 0 := by decide
  have z5 : takB 1 9 0 2 1 = true := by decide
  have r0 : ∀ x : Int, (x == x) = true := fun x => by simp
  by_cases hg : gateE a b c = 0
  · obtain ⟨g1, g2, g3, g4⟩ := gateE_0.1 hg
    by_cases ha : a = 2147483647
    · have ha' : (a == 2147483647) = true := by simpa using ha
      simp (config := { maxSteps := 9000000 }) only [↓e_fun, ↓e_skip, ↓e_reg, ↓e_frz0, ↓e_frz1, ↓e_seq, ↓e_cond, ↓e_block, ↓e_exit, ↓e_ret, ↓e_loop, f_nil, f_cons, n_nil, n_cons, f_agg, f_int, f_bool, f_str, f_nilv, f_sl, f_ptr, f_gp, g_gp, f_fz, f_clo, f_tup, f_elem, f_unk, f_rw, f_nrw, f_srw, g_nil, g_cons, g_int, g_bool, g_str, g_nilv, g_sl, g_ptr, g_fz, g_clo, g_unk, g_rw, g_nrw, g_srw, c_var, c_row, c_frow, r_sl, r_rw, r_nn, inj_bool, inj_str, inj_ints, inj_bools, inj_row, inj_sl, inj_int, ↓e_nil, ↓e_op, ↓e_opg, ↓o_mov, ↓o_pick, ↓o_bin, ↓o_eqb, ↓o_eqs, ↓o_bins, binS, ↓o_neg, ↓o_xor, ↓o_not, ↓o_conv, ↓o_faddr, ↓o_fld, ↓o_ext, ↓o_mx, b_max, b_min, ↓o_mx3, b_max3, b_min3, ↓o_build, ↓o_box, ↓o_alloc, ↓o_load, ↓o_len, ↓o_lenS, ↓o_idx, ↓o_lit, ↓o_litf, SV.go1, SV.go0, ↓o_mk, ↓o_app, ↓o_sub, ↓o_ssub, ↓o_sidx, ↓o_aidx, ↓o_aptr, ↓o_mkf, ↓o_nilrow, ↓o_isnil, ↓o_bad, ↓a_slr, ↓a_sls, ↓a_sln, ↓a_nil, appR_some, k_none, k_val, k_new, k_set, l_nil, l_cons, mkRow, intsOf, boolsOf, strsOf, chunks, Row.rep, Row.cat, Row.sub, Row.put, Row.len, Row.get, Row.size, Row.flat, bnds, own0, own1, labsL, labsR, SV.labs, ↓o_store, ↓o_call, ↓o_callv, ↓o_callw, ↓o_apps, m_apps, ↓o_tob, ↓o_tos, t_nil, t_rw, t_sl, ↓o_calla, m_calla, ap_some, w_some, k_ble, c_none, c_some, v_some, argsOf, b_add, b_sub, b_mul, b_quo, b_rem, b_and, b_or, b_xor, b_andNot, b_eql, b_neq, b_lss, b_leq, b_gtr, b_geq, b_shl, b_shr, entFr, SO.ev, fr_put, put_none, mem_put', fr_setm, mem_setm, setM_at, fr_fl, mem_fl, memOf_at, St.of, keepSt, getAll, lookN, hasN, SV.cells, SV.one, SV.res1, SV.res0, SV.resP, SV.ok1, SV.ok0, SV.okN, SV.solid, SV.solid1, SV.solid0, SV.flat0, SV.nm, SV.nm1, SV.nm0, SV.noPtr1, SV.noPtr0, Cel.isFresh, fillP, setAt, partV, eqCells, cellEq, gamY, listsOk, tupOf, takeOwn, SV.ret1, ret_fl, resAll, resL, resV, List.map_cons, List.map_nil, List.flatMap_cons, List.flatMap_nil, List.append_nil, List.nil_append, List.cons_append, List.all_cons, List.all_nil, List.isEmpty_nil, List.isEmpty_cons, Option.map_some, Option.map_none, Option.getD_some, Option.getD_none, Option.isSome_some, Option.isSome_none, Option.isNone_none, Option.isNone_some, Option.toList_none, Option.toList_some, Nat.reduceEqDiff, ↓reduceIte, Nat.reduceAdd, Nat.reduceMul, List.length_cons, List.length_nil, Nat.reduceLeDiff, Nat.reduceLT, List.replicate_zero, List.replicate_succ, List.flatten_nil, List.flatten_cons, List.set_cons_zero, List.set_cons_succ, List.drop_zero, List.drop_succ_cons, List.take_succ_cons, List.take_zero, List.getElem?_cons_zero, List.getElem?_cons_succ, Bool.and_true, Bool.and_false, Bool.false_and, Bool.true_and, Bool.or_false, Bool.or_true, Bool.true_or, Bool.false_or, Bool.not_true, Bool.not_false, Bool.and_self, true_and, and_true, Bool.false_eq_true, reduceCtorEq, labOk, Int.reduceBEq, Int.reduceBNe, Int.reduceToNat, Int.reduceLE, Int.reduceLT, Int.reduceEq, Nat.reduceDiv, Nat.reduceMod, Nat.reduceSub, BEq.rfl, beq_self_eq_true, bne_self_eq_false, decide_true, decide_false, Int.natCast_zero, Int.natCast_one, Int.cast_ofNat_Int, decide_eq_true_eq, decide_eq_false_iff_not, and_self, Nat.reduceBEq, Int.natCast_add, List.length_append, y15, gl, takeS, gchkS, withinS, z1, z2, z3, z4, z5, hg, ha']
    · have ha' : (a == 2147483647) = false := by simpa using ha
      have i1 : I64 2147483647 := by unfold I64; omega
      have w1 := i64_wrap (show I64 (a + 1) by unfold I64; omega)
      have hm := withinN_lt m (n := 2147483647) (by omega)
      generalize hmm : withinN m 2147483647 = u at *
      have hn := withinN_lt n (n := 2147483647) (by omega)
      generalize hnn : withinN n 2147483647 = v at *
      have w2 := i64_wrap (show I64 (1 + u) by unfold I64; omega)
      have w3 := i64_wrap (show I64 (1 + v) by unfold I64; omega)
      have n1 : newB a b (a + 1) (1 + u) = true := decide_eq_true (by omega)
      obtain ⟨e1, e2, e3, e4, e5⟩ := tak_t (a := a) (b := b) (c := c) (i := a + 1) (s := 1 + u) ⟨hg, by omega, by omega⟩ n1
      have hg2 : gateE (a + 1) (1 + u) c = 0 := gateE_0.2 ⟨by omega, by omega, g3, fun h => by omega⟩
      have n2 : newB (a + 1) (1 + u) a (1 + v) = false := decide_eq_false (by omega)
      obtain ⟨f1, f2, f3, f4, f5⟩ := tak_f (a := a + 1) (b := 1 + u) (c := c) (i := a) (s := 1 + v) ⟨hg2, by omega, by omega⟩ n2
      simp (config := { maxSteps := 9000000 }) only [↓e_fun, ↓e_skip, ↓e_reg, ↓e_frz0, ↓e_frz1, ↓e_seq, ↓e_cond, ↓e_block, ↓e_exit, ↓e_ret, ↓e_loop, f_nil, f_cons, n_nil, n_cons, f_agg, f_int, f_bool, f_str, f_nilv, f_sl, f_ptr, f_gp, g_gp, f_fz, f_clo, f_tup, f_elem, f_unk, f_rw, f_nrw, f_srw, g_nil, g_cons, g_int, g_bool, g_str, g_nilv, g_sl, g_ptr, g_fz, g_clo, g_unk, g_rw, g_nrw, g_srw, c_var, c_row, c_frow, r_sl, r_rw, r_nn, inj_bool, inj_str, inj_ints, inj_bools, inj_row, inj_sl, inj_int, ↓e_nil, ↓e_op, ↓e_opg, ↓o_mov, ↓o_pick, ↓o_bin, ↓o_eqb, ↓o_eqs, ↓o_bins, binS, ↓o_neg, ↓o_xor, ↓o_not, ↓o_conv, ↓o_faddr, ↓o_fld, ↓o_ext, ↓o_mx, b_max, b_min, ↓o_mx3, b_max3, b_min3, ↓o_build, ↓o_box, ↓o_alloc, ↓o_load, ↓o_len, ↓o_lenS, ↓o_idx, ↓o_lit, ↓o_litf, SV.go1, SV.go0, ↓o_mk, ↓o_app, ↓o_sub, ↓o_ssub, ↓o_sidx, ↓o_aidx, ↓o_aptr, ↓o_mkf, ↓o_nilrow, ↓o_isnil, ↓o_bad, ↓a_slr, ↓a_sls, ↓a_sln, ↓a_nil, appR_some, k_none, k_val, k_new, k_set, l_nil, l_cons, mkRow, intsOf, boolsOf, strsOf, chunks, Row.rep, Row.cat, Row.sub, Row.put, Row.len, Row.get, Row.size, Row.flat, bnds, own0, own1, labsL, labsR, SV.labs, ↓o_store, ↓o_call, ↓o_callv, ↓o_callw, ↓o_apps, m_apps, ↓o_tob, ↓o_tos, t_nil, t_rw, t_sl, ↓o_calla, m_calla, ap_some, w_some, k_ble, c_none, c_some, v_some, argsOf, b_add, b_sub, b_mul, b_quo, b_rem, b_and, b_or, b_xor, b_andNot, b_eql, b_neq, b_lss, b_leq, b_gtr, b_geq, b_shl, b_shr, entFr, SO.ev, fr_put, put_none, mem_put', fr_setm, mem_setm, setM_at, fr_fl, mem_fl, memOf_at, St.of, keepSt, getAll, lookN, hasN, SV.cells, SV.one, SV.res1, SV.res0, SV.resP, SV.ok1, SV.ok0, SV.okN, SV.solid, SV.solid1, SV.solid0, SV.flat0, SV.nm, SV.nm1, SV.nm0, SV.noPtr1, SV.noPtr0, Cel.isFresh, fillP, setAt, partV, eqCells, cellEq, gamY, listsOk, tupOf, takeOwn, SV.ret1, ret_fl, resAll, resL, resV, List.map_cons, List.map_nil, List.flatMap_cons, List.flatMap_nil, List.append_nil, List.nil_append, List.cons_append, List.all_cons, List.all_nil, List.isEmpty_nil, List.isEmpty_cons, Option.map_some, Option.map_none, Option.getD_some, Option.getD_none, Option.isSome_some, Option.isSome_none, Option.isNone_none, Option.isNone_some, Option.toList_none, Option.toList_some, Nat.reduceEqDiff, ↓reduceIte, Nat.reduceAdd, Nat.reduceMul, List.length_cons, List.length_nil, Nat.reduceLeDiff, Nat.reduceLT, List.replicate_zero, List.replicate_succ, List.flatten_nil, List.flatten_cons, List.set_cons_zero, List.set_cons_succ, List.drop_zero, List.drop_succ_cons, List.take_succ_cons, List.take_zero, List.getElem?_cons_zero, List.getElem?_cons_succ, Bool.and_true, Bool.and_false, Bool.false_and, Bool.true_and, Bool.or_false, Bool.or_true, Bool.true_or, Bool.false_or, Bool.not_true, Bool.not_false, Bool.and_self, true_and, and_true, Bool.false_eq_true, reduceCtorEq, labOk, Int.reduceBEq, Int.reduceBNe, Int.reduceToNat, Int.reduceLE, Int.reduceLT, Int.reduceEq, Nat.reduceDiv, Nat.reduceMod, Nat.reduceSub, BEq.rfl, beq_self_eq_true, bne_self_eq_false, decide_true, decide_false, Int.natCast_zero, Int.natCast_one, Int.cast_ofNat_Int, decide_eq_true_eq, decide_eq_false_iff_not, and_self, Nat.reduceBEq, Int.natCast_add, List.length_append, y15, gl, takeS, gchkS, withinS, z1, z2, z3, z4, z5, hg, ha', bm, bn, i1, w1, hmm, hnn, w2, w3, e1, e2, e3, e4, e5, f1, f5, r0]
  · have hE : gateE a b c = 1 := by rcases gateE_01 a b c with h | h <;> simp_all
    simp (config := { maxSteps := 9000000 }) only [↓e_fun, ↓e_skip, ↓e_reg, ↓e_frz0, ↓e_frz1, ↓e_seq, ↓e_cond, ↓e_block, ↓e_exit, ↓e_ret, ↓e_loop, f_nil, f_cons, n_nil, n_cons, f_agg, f_int, f_bool, f_str, f_nilv, f_sl, f_ptr, f_gp, g_gp, f_fz, f_clo, f_tup, f_elem, f_unk, f_rw, f_nrw, f_srw, g_nil, g_cons, g_int, g_bool, g_str, g_nilv, g_sl, g_ptr, g_fz, g_clo, g_unk, g_rw, g_nrw, g_srw, c_var, c_row, c_frow, r_sl, r_rw, r_nn, inj_bool, inj_str, inj_ints, inj_bools, inj_row, inj_sl, inj_int, ↓e_nil, ↓e_op, ↓e_opg, ↓o_mov, ↓o_pick, ↓o_bin, ↓o_eqb, ↓o_eqs, ↓o_bins, binS, ↓o_neg, ↓o_xor, ↓o_not, ↓o_conv, ↓o_faddr, ↓o_fld, ↓o_ext, ↓o_mx, b_max, b_min, ↓o_mx3, b_max3, b_min3, ↓o_build, ↓o_box, ↓o_alloc, ↓o_load, ↓o_len, ↓o_lenS, ↓o_idx, ↓o_lit, ↓o_litf, SV.go1, SV.go0, ↓o_mk, ↓o_app, ↓o_sub, ↓o_ssub, ↓o_sidx, ↓o_aidx, ↓o_aptr, ↓o_mkf, ↓o_nilrow, ↓o_isnil, ↓o_bad, ↓a_slr, ↓a_sls, ↓a_sln, ↓a_nil, appR_some, k_none, k_val, k_new, k_set, l_nil, l_cons, mkRow, intsOf, boolsOf, strsOf, chunks, Row.rep, Row.cat, Row.sub, Row.put, Row.len, Row.get, Row.size, Row.flat, bnds, own0, own1, labsL, labsR, SV.labs, ↓o_store, ↓o_call, ↓o_callv, ↓o_callw, ↓o_apps, m_apps, ↓o_tob, ↓o_tos, t_nil, t_rw, t_sl, ↓o_calla, m_calla, ap_some, w_some, k_ble, c_none, c_some, v_some, argsOf, b_add, b_sub, b_mul, b_quo, b_rem, b_and, b_or, b_xor, b_andNot, b_eql, b_neq, b_lss, b_leq, b_gtr, b_geq, b_shl, b_shr, entFr, SO.ev, fr_put, put_none, mem_put', fr_setm, mem_setm, setM_at, fr_fl, mem_fl, memOf_at, St.of, keepSt, getAll, lookN, hasN, SV.cells, SV.one, SV.res1, SV.res0, SV.resP, SV.ok1, SV.ok0, SV.okN, SV.solid, SV.solid1, SV.solid0, SV.flat0, SV.nm, SV.nm1, SV.nm0, SV.noPtr1, SV.noPtr0, Cel.isFresh, fillP, setAt, partV, eqCells, cellEq, gamY, listsOk, tupOf, takeOwn, SV.ret1, ret_fl, resAll, resL, resV, List.map_cons, List.map_nil, List.flatMap_cons, List.flatMap_nil, List.append_nil, List.nil_append, List.cons_append, List.all_cons, List.all_nil, List.isEmpty_nil, List.isEmpty_cons, Option.map_some, Option.map_none, Option.getD_some, Option.getD_none, Option.isSome_some, Option.isSome_none, Option.isNone_none, Option.isNone_some, Option.toList_none, Option.toList_some, Nat.reduceEqDiff, ↓reduceIte, Nat.reduceAdd, Nat.reduceMul, List.length_cons, List.length_nil, Nat.reduceLeDiff, Nat.reduceLT, List.replicate_zero, List.replicate_succ, List.flatten_nil, List.flatten_cons, List.set_cons_zero, List.set_cons_succ, List.drop_zero, List.drop_succ_cons, List.take_succ_cons, List.take_zero, List.getElem?_cons_zero, List.getElem?_cons_succ, Bool.and_true, Bool.and_false, Bool.false_and, Bool.true_and, Bool.or_false, Bool.or_true, Bool.true_or, Bool.false_or, Bool.not_true, Bool.not_false, Bool.and_self, true_and, and_true, Bool.false_eq_true, reduceCtorEq, labOk, Int.reduceBEq, Int.reduceBNe, Int.reduceToNat, Int.reduceLE, Int.reduceLT, Int.reduceEq, Nat.reduceDiv, Nat.reduceMod, Nat.reduceSub, BEq.rfl, beq_self_eq_true, bne_self_eq_false, decide_true, decide_false, Int.natCast_zero, Int.natCast_one, Int.cast_ofNat_Int, decide_eq_true_eq, decide_eq_false_iff_not, and_self, Nat.reduceBEq, Int.natCast_add, List.length_append, y15, gl, takeS, gchkS, withinS, z1, z2, z3, z4, z5, hE]
theorem GateRaise_walk (W : World) (n0 m0 k0 : Int) (b0 : I64 n0) (c0 : I64 m0) (d0 : I64 k0) (n1 : Int) (b1 : I64 n1) (n2 : Int) (b2 : I64 n2) :
    Calls Try.prog 15 #[.agg #[.int .i64 n0, .int .i64 m0, .int .i64 k0], .int .i64 n1, .int .i64 n2] W fun e w' => e = .returned (.bool true) ∧ Below W.heap.size W w' :=
  law_callY gl_ok lawy_mixed y15_eq (GateRaise_vc n0 m0 k0 b0 c0 d0 n1 b1 n2 b2) (Nat.le_of_ble_eq_true rfl) W (lawy_glb W) [.agg #[.int .i64 n0, .int .i64 m0, .int .i64 k0], .int .i64 n1, .int .i64 n2] (All.cons (is_agg3 (.int _ _) (.int _ _) (.int _ _)) (All.cons (.int _ _) (All.cons (.int _ _) All.nil)))
set_option maxRecDepth 100000 in
theorem GateRaise_lifted (os : Os) (started : os.Started) (H : Type) (enc : TypeId × Value → H) :
    ReturnsInHanded {} Try.checked os 15 .any (Rows.gateRaiseSpec.pre6 enc Try.prog Try.f15 Rows.gateRaiseRow.domain false) (Rows.gateRaiseSpec.post enc Try.prog Try.f15 false true false false) := by
  refine returnsInHanded_of_change (C := Try.checked) lawy_own started (by kernel_rfl) Try.func15
    (ChangeSpec.witness6 (enc := enc) (C := Try.checked) false ⟨#[], #[.agg #[.int .i64 0, .int .i64 0, .int .i64 0], .int .i64 0, .int .i64 0], []⟩ 8 (by kernel_rfl) (by kernel_rfl) (by kernel_rfl) (by kernel_rfl)) ?_
  intro W base args ds gs before hval0 hW hcnd _
  have hval : ∀ (j : Nat) t v, Try.f15.params[j]? = some t → args[j]? = some v → Value.okWide Try.prog W .any base t v := hval0
  have hW' := hW
  obtain ⟨p, q, hA0, hV, rfl, hfz, hnd⟩ := hW
  have hA : DataW.TrodAll enc Try.prog W 0 (fun _ => true) true Try.f15.params.toList args.toList ds p := hA0
  rw [Try.params15] at hA hval
  obtain ⟨v0, vs0, d0, ds0, p0, q0, hargs, rfl, rfl, h0, r0⟩ := trodAll_cons hA
  obtain ⟨v1, vs1, d1, ds1, p1, q1, rfl, rfl, rfl, h1, r1⟩ := trodAll_cons r0
  obtain ⟨v2, vs2, d2, ds2, p2, q2, rfl, rfl, rfl, h2, r2⟩ := trodAll_cons r1
  obtain ⟨rfl, rfl, rfl⟩ := trodAll_nil r2
  obtain rfl : args = #[v0, v1, v2] := by cases args; simp_all
  obtain ⟨rfl, rfl⟩ := trodVars_none hV
  have lt0 := places_lt h0
  obtain ⟨n0, m0, k0, e0, b0, c0, g0⟩ := open_ints3 Try.underlying54 (by kernel_rfl) (by kernel_rfl) Try.underlying3 Try.underlying3 Try.underlying3 (hval 0 54 v0 rfl rfl) h0
  subst e0
  have lt1 := places_lt h1
  obtain ⟨n1, e1, _, _, wn1⟩ := open_int Try.underlying3 (hval 1 3 v1 rfl rfl) h1
  subst e1
  have lt2 := places_lt h2
  obtain ⟨n2, e2, _, _, wn2⟩ := open_int Try.underlying3 (hval 2 3 v2 rfl rfl) h2
  subst e2
  clear hA0 hval0
  refine (GateRaise_walk W n0 m0 k0 b0 c0 g0 n1 (i64_of wn1) n2 (i64_of wn2)).mono fun e W' ⟨he, bel⟩ => ?_
  subst he
  exact ⟨_, rfl, _, _, _, [], _, [], hW', trodAll_mk1 (shut_bool Try.underlying4 _), (trodAll_cons_mk (bel.trod lawy_laid (by kernel_rfl) (of_decide_eq_true (by kernel_rfl)) h0 lt0) (trodAll_cons_mk (bel.trod lawy_laid (by kernel_rfl) (of_decide_eq_true (by kernel_rfl)) h1 lt1) (trodAll_cons_mk (bel.trod lawy_laid (by kernel_rfl) (of_decide_eq_true (by kernel_rfl)) h2 lt2) trodAll_mk0))), rfl, bel.frame _, fun h => by cases h⟩
theorem GateRaise_holds : Rows.GateRaiseSaid :=
  OpenClaim.holds_of_wide 15 Try.f15 rfl rfl rfl rfl rfl rfl rfl ⟨rfl, rfl, rfl, rfl, rfl⟩ rfl rfl rfl rfl rfl (by kernel_rfl) Try.func15 (by kernel_rfl)
    (of_decide_eq_true (by kernel_rfl)) (by unfold Func.isWrapper; first | (rw [if_pos (by decide +kernel)]; kernel_rfl) | (rw [if_neg (by decide +kernel)]; exact ⟨rfl, rfl⟩))
    (fun os started H enc _ => GateRaise_lifted os started H enc)
end Go.Proofs.Ytjdmhfmhmjfbiaa
