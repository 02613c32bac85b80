/- hwkeep.LevelWhen returns true for every list of whole numbers and every four whole numbers. No condition. -/
import Derived.Test.YtidafhjdpklgbaaYLw
import Derived.Test.YtidafhjdpklgbaaYHw
import Derived.Test.YtidafhjdpklgbaaCYLevelWhen
namespace Go.Proofs.Ytidafhjdpklgbaa
open Go.ChangeShapes Go.WideShapes Go.ChangeAt Go.RowKit Go.Joins Y
set_option linter.unusedSimpArgs false
set_option linter.unusedVariables false
set_option maxRecDepth 100000
set_option maxHeartbeats 40000000
def gl : List (Nat × Say) := [(34, windowS), (31, withinS), (24, lofS), (25, lwhenS), (35, hsumS)]
theorem gl_ok : GamOk Try.prog (gamY gl) := gam_ok (gam_cons window_ok (gam_cons within_ok (gam_cons lof_ok (gam_cons lwhen_ok (gam_cons hsum_ok gam_nil)))))
theorem when_begun : whE 1 [2] 1 3 = 0 ∧ whN 1 [2] 1 3 = 5 := by
  have h0 : lkE 1 [2] 1 = 0 := by decide
  have h2 : scL [2] 1 = 1 := by decide
  have h3 : sumL [2] = 2 := by decide
  have a1 := (lv_ge (n := 1) (s := 2) (c := 1) (t := 5) (k := 3) (by omega) (by omega)).2 ⟨by omega, by decide⟩
  have a2 := lv_60 (n := 1) (s := 2) (c := 1) (t := 4) (k := 3) (by omega) (by decide) (by omega)
  have hr : srL 1 2 1 3 = 5 := frst_is (by omega) (by omega) (fun j _ h => by
    cases hq : lvP 1 2 1 3 j with
    | false => rfl
    | true =>
      have h4 := lvP_up (n := 1) (s := 2) (c := 1) (q := 3) (by omega) (by omega) (show j ≤ 4 by omega) hq
      have h5 := of_decide_eq_true h4
      have e : ((4 : Nat) : Int) = 4 := rfl
      rw [e] at h5
      omega) (fun _ => decide_eq_true (by have e : ((5 : Nat) : Int) = 5 := rfl; rw [e]; omega))
  have e : (([2] : List Int).length : Int) = 1 := rfl
  have h1 : whE 1 [2] 1 3 = 0 := whE_0.2 ⟨h0, by omega, by rw [h2, h3, e, hr]; omega⟩
  refine ⟨h1, ?_⟩
  unfold whN
  rw [if_pos h1, h2, h3, e, hr]
theorem LevelWhen_in (l w : List Int) (n k o z m q0 q a S X : Int) (T K r u : Nat) (z1 : whE 1 [2] 1 3 = 0) (z2 : whN 1 [2] 1 3 = 5) (hww : winL l = w) (hmm : withinN n 16777216 = m) (hss : withinN k 1073741825 = (T : Int)) (hqq : withinN o 60 = q0) (hQ : 1 + q0 = q) (haa : withinN z (60 - q + 1) = a)
    (i1 : I64 16777216) (i2 : I64 1073741825) (i3 : I64 60) (i4 : 0 < 60 - q + 1 ∧ I64 (60 - q + 1)) (c1 : IntKind.i64.wrap (1 + m) = 1 + m) (c2 : IntKind.i64.wrap q = q) (c3 : IntKind.i64.wrap (60 - q) = 60 - q) (c4 : IntKind.i64.wrap (60 - q + 1) = 60 - q + 1) (c5 : IntKind.i64.wrap (q + a) = q + a)
    (e1 : olE 64 w (1 + m) T = 0) (v1 : olN 64 w (1 + m) T = K) (hl : listE w = 0) (hS : sumL w = S)
    (hc : (whE 64 w (1 + m) q = 0 ∧ whN 64 w (1 + m) q = r ∧ (IntKind.i64.wrap X = X ∧ (r : Int) * (w.length : Int) = X ∧ ¬ X ≤ S) ∧ (decide (q ≤ (K : Int)) == decide ((r : Int) ≤ (T : Int))) = true ∧ ((whE 64 w (1 + m) (q + a) = 0 ∧ whN 64 w (1 + m) (q + a) = u ∧ ¬ (u : Int) < (r : Int)) ∨ (whE 64 w (1 + m) (q + a) = 2 ∧ whN 64 w (1 + m) (q + a) = 0))) ∨
      (whE 64 w (1 + m) q = 2 ∧ whN 64 w (1 + m) q = 0 ∧ whE 64 w (1 + m) (q + a) = 2 ∧ whN 64 w (1 + m) (q + a) = 0 ∧ (K : Int) < q)) :
    vcFun (gamY gl) y9 [.rw (.ints .i64 l), .int .i64 n, .int .i64 k, .int .i64 o, .int .i64 z] none (fun v o => v = .bool true) := by
  rcases hc with ⟨E1, N1, ⟨c6, hX, n1⟩, hfin, ⟨E2, N2, n2⟩ | ⟨E2, N2⟩⟩ | ⟨E1, N1, E2, N2, hK⟩
  · simp (config := { maxSteps := 9000000 }) only [↓z_fun, ↓kOps_ap, ↓kReg_ap, ↓kSeq_n, ↓kSeq_e, ↓kSeq_r, ↓kBlk_n, ↓kBlk_e, ↓kBlk_r, ↓kFun_e, ↓kFun_n, ↓kFun_r, ↓e_skip, ↓z_reg, ↓e_frz0, ↓e_frz1, ↓z_seq, ↓e_cond, ↓z_block, ↓e_exit, ↓e_ret, ↓e_loop, f_nil, f_cons, n_nil, n_cons, f_agg, f_int, f_bool, f_str, f_nilv, f_sl, f_ptr, f_gp, g_gp, f_fz, f_clo, f_tup, f_elem, f_unk, f_rw, f_nrw, f_srw, g_nil, g_cons, g_int, g_bool, g_str, g_nilv, g_sl, g_ptr, g_fz, g_clo, g_unk, g_rw, g_nrw, g_srw, c_var, c_row, c_frow, r_sl, r_rw, r_nn, inj_bool, inj_str, inj_ints, inj_bools, inj_row, inj_sl, inj_int, ↓e_nil, ↓z_op, ↓z_opg, ↓o_mov, ↓o_pick, ↓o_bin, ↓o_eqb, ↓o_eqs, ↓o_bins, binS, ↓o_neg, ↓o_xor, ↓o_not, ↓o_conv, ↓o_faddr, ↓o_fld, ↓o_ext, ↓o_mx, b_max, b_min, ↓o_mx3, b_max3, b_min3, ↓o_build, ↓o_box, ↓o_alloc, ↓o_load, ↓o_len, ↓o_lenS, ↓o_idx, ↓o_lit, ↓o_litf, SV.go1, SV.go0, ↓o_mk, ↓o_app, ↓o_sub, ↓o_ssub, ↓o_sidx, ↓o_aidx, ↓o_aptr, ↓o_mkf, ↓o_nilrow, ↓o_isnil, ↓o_bad, ↓a_slr, ↓a_sls, ↓a_sln, ↓a_nil, appR_some, k_none, k_val, k_new, k_set, l_nil, l_cons, mkRow, intsOf, boolsOf, strsOf, chunks, Row.rep, Row.cat, Row.sub, Row.put, Row.len, Row.get, Row.size, Row.flat, bnds, own0, own1, labsL, labsR, SV.labs, ↓o_store, ↓o_call, ↓o_callv, ↓o_callw, ↓o_apps, m_apps, ↓o_tob, ↓o_tos, t_nil, t_rw, t_sl, ↓o_calla, m_calla, ap_some, w_some, k_ble, c_none, c_some, v_some, argsOf, b_add, b_sub, b_mul, b_quo, b_rem, b_and, b_or, b_xor, b_andNot, b_eql, b_neq, b_lss, b_leq, b_gtr, b_geq, b_shl, b_shr, entFr, SO.ev, fr_put, put_none, mem_put', fr_setm, mem_setm, setM_at, fr_fl, mem_fl, memOf_at, St.of, keepSt, getAll, lookN, hasN, SV.cells, SV.one, SV.res1, SV.res0, SV.resP, SV.ok1, SV.ok0, SV.okN, SV.solid, SV.solid1, SV.solid0, SV.flat0, SV.nm, SV.nm1, SV.nm0, SV.noPtr1, SV.noPtr0, Cel.isFresh, fillP, setAt, partV, eqCells, cellEq, gamY, listsOk, tupOf, takeOwn, SV.ret1, ret_fl, resAll, resL, resV, List.map_cons, List.map_nil, List.flatMap_cons, List.flatMap_nil, List.append_nil, List.nil_append, List.cons_append, List.all_cons, List.all_nil, List.isEmpty_nil, List.isEmpty_cons, Option.map_some, Option.map_none, Option.getD_some, Option.getD_none, Option.isSome_some, Option.isSome_none, Option.isNone_none, Option.isNone_some, Option.toList_none, Option.toList_some, Nat.reduceEqDiff, ↓reduceIte, Nat.reduceAdd, Nat.reduceMul, List.length_cons, List.length_nil, Nat.reduceLeDiff, Nat.reduceLT, List.replicate_zero, List.replicate_succ, List.flatten_nil, List.flatten_cons, List.set_cons_zero, List.set_cons_succ, List.drop_zero, List.drop_succ_cons, List.take_succ_cons, List.take_zero, List.getElem?_cons_zero, List.getElem?_cons_succ, Bool.and_true, Bool.and_false, Bool.false_and, Bool.true_and, Bool.or_false, Bool.or_true, Bool.true_or, Bool.false_or, Bool.not_true, Bool.not_false, Bool.and_self, true_and, and_true, Bool.false_eq_true, reduceCtorEq, labOk, Int.reduceBEq, Int.reduceBNe, Int.reduceToNat, Int.reduceLE, Int.reduceLT, Int.reduceEq, Nat.reduceDiv, Nat.reduceMod, Nat.reduceSub, BEq.rfl, beq_self_eq_true, bne_self_eq_false, decide_true, decide_false, Int.natCast_zero, Int.natCast_one, Int.cast_ofNat_Int, decide_eq_true_eq, decide_eq_false_iff_not, and_self, Nat.reduceBEq, Int.natCast_add, List.length_append, y9, gl, windowS, withinS, lofS, lwhenS, hsumS, asI, hww, hmm, hss, hqq, hQ, haa, i1, i2, i3, i4, c1, c2, c3, c4, c5, e1, v1, hl, hS, z1, z2, E1, N1, E2, N2, c6, hX, n1, n2, ge_iff_le, hfin]
  · simp (config := { maxSteps := 9000000 }) only [↓z_fun, ↓kOps_ap, ↓kReg_ap, ↓kSeq_n, ↓kSeq_e, ↓kSeq_r, ↓kBlk_n, ↓kBlk_e, ↓kBlk_r, ↓kFun_e, ↓kFun_n, ↓kFun_r, ↓e_skip, ↓z_reg, ↓e_frz0, ↓e_frz1, ↓z_seq, ↓e_cond, ↓z_block, ↓e_exit, ↓e_ret, ↓e_loop, f_nil, f_cons, n_nil, n_cons, f_agg, f_int, f_bool, f_str, f_nilv, f_sl, f_ptr, f_gp, g_gp, f_fz, f_clo, f_tup, f_elem, f_unk, f_rw, f_nrw, f_srw, g_nil, g_cons, g_int, g_bool, g_str, g_nilv, g_sl, g_ptr, g_fz, g_clo, g_unk, g_rw, g_nrw, g_srw, c_var, c_row, c_frow, r_sl, r_rw, r_nn, inj_bool, inj_str, inj_ints, inj_bools, inj_row, inj_sl, inj_int, ↓e_nil, ↓z_op, ↓z_opg, ↓o_mov, ↓o_pick, ↓o_bin, ↓o_eqb, ↓o_eqs, ↓o_bins, binS, ↓o_neg, ↓o_xor, ↓o_not, ↓o_conv, ↓o_faddr, ↓o_fld, ↓o_ext, ↓o_mx, b_max, b_min, ↓o_mx3, b_max3, b_min3, ↓o_build, ↓o_box, ↓o_alloc, ↓o_load, ↓o_len, ↓o_lenS, ↓o_idx, ↓o_lit, ↓o_litf, SV.go1, SV.go0, ↓o_mk, ↓o_app, ↓o_sub, ↓o_ssub, ↓o_sidx, ↓o_aidx, ↓o_aptr, ↓o_mkf, ↓o_nilrow, ↓o_isnil, ↓o_bad, ↓a_slr, ↓a_sls, ↓a_sln, ↓a_nil, appR_some, k_none, k_val, k_new, k_set, l_nil, l_cons, mkRow, intsOf, boolsOf, strsOf, chunks, Row.rep, Row.cat, Row.sub, Row.put, Row.len, Row.get, Row.size, Row.flat, bnds, own0, own1, labsL, labsR, SV.labs, ↓o_store, ↓o_call, ↓o_callv, ↓o_callw, ↓o_apps, m_apps, ↓o_tob, ↓o_tos, t_nil, t_rw, t_sl, ↓o_calla, m_calla, ap_some, w_some, k_ble, c_none, c_some, v_some, argsOf, b_add, b_sub, b_mul, b_quo, b_rem, b_and, b_or, b_xor, b_andNot, b_eql, b_neq, b_lss, b_leq, b_gtr, b_geq, b_shl, b_shr, entFr, SO.ev, fr_put, put_none, mem_put', fr_setm, mem_setm, setM_at, fr_fl, mem_fl, memOf_at, St.of, keepSt, getAll, lookN, hasN, SV.cells, SV.one, SV.res1, SV.res0, SV.resP, SV.ok1, SV.ok0, SV.okN, SV.solid, SV.solid1, SV.solid0, SV.flat0, SV.nm, SV.nm1, SV.nm0, SV.noPtr1, SV.noPtr0, Cel.isFresh, fillP, setAt, partV, eqCells, cellEq, gamY, listsOk, tupOf, takeOwn, SV.ret1, ret_fl, resAll, resL, resV, List.map_cons, List.map_nil, List.flatMap_cons, List.flatMap_nil, List.append_nil, List.nil_append, List.cons_append, List.all_cons, List.all_nil, List.isEmpty_nil, List.isEmpty_cons, Option.map_some, Option.map_none, Option.getD_some, Option.getD_none, Option.isSome_some, Option.isSome_none, Option.isNone_none, Option.isNone_some, Option.toList_none, Option.toList_some, Nat.reduceEqDiff, ↓reduceIte, Nat.reduceAdd, Nat.reduceMul, List.length_cons, List.length_nil, Nat.reduceLeDiff, Nat.reduceLT, List.replicate_zero, List.replicate_succ, List.flatten_nil, List.flatten_cons, List.set_cons_zero, List.set_cons_succ, List.drop_zero, List.drop_succ_cons, List.take_succ_cons, List.take_zero, List.getElem?_cons_zero, List.getElem?_cons_succ, Bool.and_true, Bool.and_false, Bool.false_and, Bool.true_and, Bool.or_false, Bool.or_true, Bool.true_or, Bool.false_or, Bool.not_true, Bool.not_false, Bool.and_self, true_and, and_true, Bool.false_eq_true, reduceCtorEq, labOk, Int.reduceBEq, Int.reduceBNe, Int.reduceToNat, Int.reduceLE, Int.reduceLT, Int.reduceEq, Nat.reduceDiv, Nat.reduceMod, Nat.reduceSub, BEq.rfl, beq_self_eq_true, bne_self_eq_false, decide_true, decide_false, Int.natCast_zero, Int.natCast_one, Int.cast_ofNat_Int, decide_eq_true_eq, decide_eq_false_iff_not, and_self, Nat.reduceBEq, Int.natCast_add, List.length_append, y9, gl, windowS, withinS, lofS, lwhenS, hsumS, asI, hww, hmm, hss, hqq, hQ, haa, i1, i2, i3, i4, c1, c2, c3, c4, c5, e1, v1, hl, hS, z1, z2, E1, N1, E2, N2, c6, hX, n1, ge_iff_le, hfin]
  · simp (config := { maxSteps := 9000000 }) only [↓z_fun, ↓kOps_ap, ↓kReg_ap, ↓kSeq_n, ↓kSeq_e, ↓kSeq_r, ↓kBlk_n, ↓kBlk_e, ↓kBlk_r, ↓kFun_e, ↓kFun_n, ↓kFun_r, ↓e_skip, ↓z_reg, ↓e_frz0, ↓e_frz1, ↓z_seq, ↓e_cond, ↓z_block, ↓e_exit, ↓e_ret, ↓e_loop, f_nil, f_cons, n_nil, n_cons, f_agg, f_int, f_bool, f_str, f_nilv, f_sl, f_ptr, f_gp, g_gp, f_fz, f_clo, f_tup, f_elem, f_unk, f_rw, f_nrw, f_srw, g_nil, g_cons, g_int, g_bool, g_str, g_nilv, g_sl, g_ptr, g_fz, g_clo, g_unk, g_rw, g_nrw, g_srw, c_var, c_row, c_frow, r_sl, r_rw, r_nn, inj_bool, inj_str, inj_ints, inj_bools, inj_row, inj_sl, inj_int, ↓e_nil, ↓z_op, ↓z_opg, ↓o_mov, ↓o_pick, ↓o_bin, ↓o_eqb, ↓o_eqs, ↓o_bins, binS, ↓o_neg, ↓o_xor, ↓o_not, ↓o_conv, ↓o_faddr, ↓o_fld, ↓o_ext, ↓o_mx, b_max, b_min, ↓o_mx3, b_max3, b_min3, ↓o_build, ↓o_box, ↓o_alloc, ↓o_load, ↓o_len, ↓o_lenS, ↓o_idx, ↓o_lit, ↓o_litf, SV.go1, SV.go0, ↓o_mk, ↓o_app, ↓o_sub, ↓o_ssub, ↓o_sidx, ↓o_aidx, ↓o_aptr, ↓o_mkf, ↓o_nilrow, ↓o_isnil, ↓o_bad, ↓a_slr, ↓a_sls, ↓a_sln, ↓a_nil, appR_some, k_none, k_val, k_new, k_set, l_nil, l_cons, mkRow, intsOf, boolsOf, strsOf, chunks, Row.rep, Row.cat, Row.sub, Row.put, Row.len, Row.get, Row.size, Row.flat, bnds, own0, own1, labsL, labsR, SV.labs, ↓o_store, ↓o_call, ↓o_callv, ↓o_callw, ↓o_apps, m_apps, ↓o_tob, ↓o_tos, t_nil, t_rw, t_sl, ↓o_calla, m_calla, ap_some, w_some, k_ble, c_none, c_some, v_some, argsOf, b_add, b_sub, b_mul, b_quo, b_rem, b_and, b_or, b_xor, b_andNot, b_eql, b_neq, b_lss, b_leq, b_gtr, b_geq, b_shl, b_shr, entFr, SO.ev, fr_put, put_none, mem_put', fr_setm, mem_setm, setM_at, fr_fl, mem_fl, memOf_at, St.of, keepSt, getAll, lookN, hasN, SV.cells, SV.one, SV.res1, SV.res0, SV.resP, SV.ok1, SV.ok0, SV.okN, SV.solid, SV.solid1, SV.solid0, SV.flat0, SV.nm, SV.nm1, SV.nm0, SV.noPtr1, SV.noPtr0, Cel.isFresh, fillP, setAt, partV, eqCells, cellEq, gamY, listsOk, tupOf, takeOwn, SV.ret1, ret_fl, resAll, resL, resV, List.map_cons, List.map_nil, List.flatMap_cons, List.flatMap_nil, List.append_nil, List.nil_append, List.cons_append, List.all_cons, List.all_nil, List.isEmpty_nil, List.isEmpty_cons, Option.map_some, Option.map_none, Option.getD_some, Option.getD_none, Option.isSome_some, Option.isSome_none, Option.isNone_none, Option.isNone_some, Option.toList_none, Option.toList_some, Nat.reduceEqDiff, ↓reduceIte, Nat.reduceAdd, Nat.reduceMul, List.length_cons, List.length_nil, Nat.reduceLeDiff, Nat.reduceLT, List.replicate_zero, List.replicate_succ, List.flatten_nil, List.flatten_cons, List.set_cons_zero, List.set_cons_succ, List.drop_zero, List.drop_succ_cons, List.take_succ_cons, List.take_zero, List.getElem?_cons_zero, List.getElem?_cons_succ, Bool.and_true, Bool.and_false, Bool.false_and, Bool.true_and, Bool.or_false, Bool.or_true, Bool.true_or, Bool.false_or, Bool.not_true, Bool.not_false, Bool.and_self, true_and, and_true, Bool.false_eq_true, reduceCtorEq, labOk, Int.reduceBEq, Int.reduceBNe, Int.reduceToNat, Int.reduceLE, Int.reduceLT, Int.reduceEq, Nat.reduceDiv, Nat.reduceMod, Nat.reduceSub, BEq.rfl, beq_self_eq_true, bne_self_eq_false, decide_true, decide_false, Int.natCast_zero, Int.natCast_one, Int.cast_ofNat_Int, decide_eq_true_eq, decide_eq_false_iff_not, and_self, Nat.reduceBEq, Int.natCast_add, List.length_append, y9, gl, windowS, withinS, lofS, lwhenS, hsumS, asI, hww, hmm, hss, hqq, hQ, haa, i1, i2, i3, i4, c1, c2, c3, c4, c5, e1, v1, hl, hS, z1, z2, E1, N1, E2, N2, hK]
theorem LevelWhen_vc (l : List Int) (bl : AllI l) (n : Int) (bn : I64 n) (k : Int) (bk : I64 k) (o : Int) (bo : I64 o) (z : Int) (bz : I64 z) : vcFun (gamY gl) y9 [.rw (.ints .i64 l), .int .i64 n, .int .i64 k, .int .i64 o, .int .i64 z] none (fun v o => v = .bool true) := by
  obtain ⟨z1, z2⟩ := when_begun
  obtain ⟨w1, w2, w3⟩ := winL_ok l
  generalize hww : winL l = w at *
  have hm := withinN_lt n (n := 16777216) (by omega)
  generalize hmm : withinN n 16777216 = m at *
  have hs := withinN_lt k (n := 1073741825) (by omega)
  generalize hss : withinN k 1073741825 = t at *
  have hq := withinN_lt o (n := 60) (by omega)
  generalize hqq : withinN o 60 = q0 at *
  have i1 : I64 16777216 := by unfold I64; omega
  have i2 : I64 1073741825 := by unfold I64; omega
  have i3 : I64 60 := by unfold I64; omega
  have c1 := i64_wrap (show I64 (1 + m) by unfold I64; omega)
  have c2 := i64_wrap (show I64 (1 + q0) by unfold I64; omega)
  generalize hQ : 1 + q0 = q at *
  have c3 := i64_wrap (show I64 (60 - q) by unfold I64; omega)
  have c4 := i64_wrap (show I64 (60 - q + 1) by unfold I64; omega)
  have i4 : 0 < 60 - q + 1 ∧ I64 (60 - q + 1) := ⟨by omega, by unfold I64; omega⟩
  have ha := withinN_lt z (n := 60 - q + 1) (by omega)
  generalize haa : withinN z (60 - q + 1) = a at *
  have c5 := i64_wrap (show I64 (q + a) by unfold I64; omega)
  have hk : lkE 64 w (1 + m) = 0 := lkE_0.2 ⟨w3, by omega, by omega⟩
  have e1 : olE 64 w (1 + m) t = 0 := olE_0.2 ⟨hk, by omega⟩
  have v1 : olN 64 w (1 + m) t = lvN w.length (sumL w) (scL w (1 + m)) t := if_pos e1
  have hl := (winE_0.1 w3).2.2
  obtain ⟨q1, q2, q3⟩ := lv_cond hk
  have uE : ∀ x, 1 ≤ x → x ≤ 60 → whE 64 w (1 + m) x = if srL w.length (sumL w) (scL w (1 + m)) x ≤ 1073741824 then 0 else 2 := fun x h1 h2 => by
    unfold whE; rw [if_pos hk, if_pos ⟨h1, h2⟩]
  have uN : ∀ x, whN 64 w (1 + m) x = if whE 64 w (1 + m) x = 0 then srL w.length (sumL w) (scL w (1 + m)) x else 0 := fun x => rfl
  have E1 := uE q (by omega) (by omega)
  have E2 := uE (q + a) (by omega) (by omega)
  have N1 := uN q
  have N2 := uN (q + a)
  clear uE uN
  have s1 := frst_spec (p := lvP w.length (sumL w) (scL w (1 + m)) q) 1073741825 0
  have s2 := frst_spec (p := lvP w.length (sumL w) (scL w (1 + m)) (q + a)) 1073741825 0
  obtain ⟨T, hT⟩ := Int.eq_ofNat_of_zero_le hs.1
  subst hT
  have up : ∀ i j, i ≤ j → lvP w.length (sumL w) (scL w (1 + m)) q i = true → lvP w.length (sumL w) (scL w (1 + m)) q j = true := fun i j h hp => lvP_up (by omega) (by omega) h hp
  have low : ∀ i, lvP w.length (sumL w) (scL w (1 + m)) (q + a) i = true → lvP w.length (sumL w) (scL w (1 + m)) q i = true := fun i h => by unfold lvP at *; rw [decide_eq_true_eq] at *; omega
  have pos : ∀ i, lvP w.length (sumL w) (scL w (1 + m)) q i = true → sumL w < w.length * (i : Int) := fun i h => by
    have h1 := of_decide_eq_true h
    have h2 := (lv_ge (n := w.length) (s := sumL w) (c := scL w (1 + m)) (t := (i : Int)) (k := q.toNat) (by omega) (by omega)).1 (by omega)
    omega
  have hPT : lvP w.length (sumL w) (scL w (1 + m)) q T = decide (q ≤ (lvN w.length (sumL w) (scL w (1 + m)) T : Nat)) := rfl
  have hr1 : frst (lvP w.length (sumL w) (scL w (1 + m)) q) 1073741825 0 = srL w.length (sumL w) (scL w (1 + m)) q := rfl
  have hr2 : frst (lvP w.length (sumL w) (scL w (1 + m)) (q + a)) 1073741825 0 = srL w.length (sumL w) (scL w (1 + m)) (q + a) := rfl
  rw [hr1] at s1
  rw [hr2] at s2
  clear hr1 hr2
  generalize srL w.length (sumL w) (scL w (1 + m)) q = r at *
  generalize srL w.length (sumL w) (scL w (1 + m)) (q + a) = u at *
  generalize lvP w.length (sumL w) (scL w (1 + m)) q = p at *
  generalize lvP w.length (sumL w) (scL w (1 + m)) (q + a) = p2 at *
  generalize lvN w.length (sumL w) (scL w (1 + m)) T = K at *
  generalize hS : sumL w = S at *
  obtain ⟨_, s12, s13, s14⟩ := s1
  obtain ⟨_, s22, s23, s24⟩ := s2
  have hru : u ≤ 1073741824 → r ≤ u := fun h => Nat.le_of_not_lt fun hh => by
    have h1 := low u (s24 (by omega))
    rw [s13 u (by omega) hh] at h1; cases h1
  have b0 : ∀ r : Nat, r ≤ 1073741824 → I64 ((r : Int) * (w.length : Int)) := fun r h => by
    have b1 := mul_bd (x := (r : Int)) (y := (w.length : Int)) (X := 1073741824) (Y := 64) (by omega) (by omega) (by omega) (by omega)
    unfold I64; omega
  refine LevelWhen_in l w n k o z m q0 q a S ((r : Int) * (w.length : Int)) T K r u z1 z2 hww hmm hss hqq hQ haa i1 i2 i3 i4 c1 c2 c3 c4 c5 e1 v1 hl hS ?_
  by_cases hr : r ≤ 1073741824
  · rw [if_pos hr] at E1
    rw [if_pos E1] at N1
    have hp := pos r (s14 (by omega))
    rw [Int.mul_comm] at hp
    refine .inl ⟨E1, N1, ⟨i64_wrap (b0 r hr), rfl, by omega⟩, ?_, ?_⟩
    · rw [beq_iff_eq, ← hPT]
      by_cases h : r ≤ T
      · rw [decide_eq_true (by omega), up r T h (s14 (by omega))]
      · rw [decide_eq_false (by omega), s13 T (by omega) (by omega)]
    · by_cases hu : u ≤ 1073741824
      · rw [if_pos hu] at E2
        rw [if_pos E2] at N2
        exact .inl ⟨E2, N2, by have := hru hu; omega⟩
      · rw [if_neg hu] at E2
        rw [if_neg (by omega)] at N2
        exact .inr ⟨E2, N2⟩
  · rw [if_neg hr] at E1
    rw [if_neg (by omega)] at N1
    have hu : ¬ u ≤ 1073741824 := fun h => by have := hru h; omega
    rw [if_neg hu] at E2
    rw [if_neg (by omega)] at N2
    refine .inr ⟨E1, N1, E2, N2, ?_⟩
    have h1 := s13 T (by omega) (by omega)
    rw [hPT] at h1
    have := of_decide_eq_false h1
    omega
theorem LevelWhen_walk (W : World) (v0 : Value) (l0 : List Int) (b0 : AllI l0) (i0 : Is (E0 W fun _ => False) (.rw (.ints .i64 l0)) v0) (n1 : Int) (b1 : I64 n1) (n2 : Int) (b2 : I64 n2) (n3 : Int) (b3 : I64 n3) (n4 : Int) (b4 : I64 n4) :
    Calls Try.prog 9 #[v0, .int .i64 n1, .int .i64 n2, .int .i64 n3, .int .i64 n4] W fun e w' => e = .returned (.bool true) ∧ Below W.heap.size W w' :=
  law_callY gl_ok lawy_mixed y9_eq (LevelWhen_vc l0 b0 n1 b1 n2 b2 n3 b3 n4 b4) (Nat.le_of_ble_eq_true rfl) W (lawy_glb W) [v0, .int .i64 n1, .int .i64 n2, .int .i64 n3, .int .i64 n4] (All.cons i0 (All.cons (.int _ _) (All.cons (.int _ _) (All.cons (.int _ _) (All.cons (.int _ _) All.nil)))))
set_option maxRecDepth 100000 in
theorem LevelWhen_lifted (os : Os) (started : os.Started) (H : Type) (enc : TypeId × Value → H) :
    ReturnsInHanded {} Try.checked os 9 .any (Rows.levelWhenSpec.pre6 enc Try.prog Try.f9 Rows.levelWhenRow.domain false) (Rows.levelWhenSpec.post enc Try.prog Try.f9 false true false false) := by
  refine returnsInHanded_of_change (C := Try.checked) lawy_own started (by kernel_rfl) Try.func9
    (ChangeSpec.witness6 (enc := enc) (C := Try.checked) false ⟨#[], #[.slice none 0 0, .int .i64 0, .int .i64 0, .int .i64 0, .int .i64 0], []⟩ 8 (by kernel_rfl) (by kernel_rfl) (by kernel_rfl) (by kernel_rfl)) ?_
  intro W base args ds gs before hval0 hW hcnd _
  have hval : ∀ (j : Nat) t v, Try.f9.params[j]? = some t → args[j]? = some v → Value.okWide Try.prog W .any base t v := hval0
  have hW' := hW
  obtain ⟨p, q, hA0, hV, rfl, hfz, hnd⟩ := hW
  have hA : DataW.TrodAll enc Try.prog W 0 (fun _ => true) true Try.f9.params.toList args.toList ds p := hA0
  rw [Try.params9] at hA hval
  obtain ⟨v0, vs0, d0, ds0, p0, q0, hargs, rfl, rfl, h0, r0⟩ := trodAll_cons hA
  obtain ⟨v1, vs1, d1, ds1, p1, q1, rfl, rfl, rfl, h1, r1⟩ := trodAll_cons r0
  obtain ⟨v2, vs2, d2, ds2, p2, q2, rfl, rfl, rfl, h2, r2⟩ := trodAll_cons r1
  obtain ⟨v3, vs3, d3, ds3, p3, q3, rfl, rfl, rfl, h3, r3⟩ := trodAll_cons r2
  obtain ⟨v4, vs4, d4, ds4, p4, q4, rfl, rfl, rfl, h4, r4⟩ := trodAll_cons r3
  obtain ⟨rfl, rfl, rfl⟩ := trodAll_nil r4
  obtain rfl : args = #[v0, v1, v2, v3, v4] := by cases args; simp_all
  obtain ⟨rfl, rfl⟩ := trodVars_none hV
  have lt0 := places_lt h0
  obtain ⟨l0, hl0, hi0⟩ := open_ints Try.underlying37 Try.underlying3 (by kernel_rfl) (hval 0 37 v0 rfl rfl) h0
  have lt1 := places_lt h1
  obtain ⟨n1, e1, _, _, wn1⟩ := open_int Try.underlying3 (hval 1 3 v1 rfl rfl) h1
  subst e1
  have lt2 := places_lt h2
  obtain ⟨n2, e2, _, _, wn2⟩ := open_int Try.underlying3 (hval 2 3 v2 rfl rfl) h2
  subst e2
  have lt3 := places_lt h3
  obtain ⟨n3, e3, _, _, wn3⟩ := open_int Try.underlying3 (hval 3 3 v3 rfl rfl) h3
  subst e3
  have lt4 := places_lt h4
  obtain ⟨n4, e4, _, _, wn4⟩ := open_int Try.underlying3 (hval 4 3 v4 rfl rfl) h4
  subst e4
  clear hA0 hval0
  refine (LevelWhen_walk W v0 l0 hl0 hi0 n1 (i64_of wn1) n2 (i64_of wn2) n3 (i64_of wn3) n4 (i64_of wn4)).mono fun e W' ⟨he, bel⟩ => ?_
  subst he
  exact ⟨_, rfl, _, _, _, [], _, [], hW', trodAll_mk1 (shut_bool Try.underlying4 _), (trodAll_cons_mk (bel.trod lawy_laid (by kernel_rfl) (of_decide_eq_true (by kernel_rfl)) h0 lt0) (trodAll_cons_mk (bel.trod lawy_laid (by kernel_rfl) (of_decide_eq_true (by kernel_rfl)) h1 lt1) (trodAll_cons_mk (bel.trod lawy_laid (by kernel_rfl) (of_decide_eq_true (by kernel_rfl)) h2 lt2) (trodAll_cons_mk (bel.trod lawy_laid (by kernel_rfl) (of_decide_eq_true (by kernel_rfl)) h3 lt3) (trodAll_cons_mk (bel.trod lawy_laid (by kernel_rfl) (of_decide_eq_true (by kernel_rfl)) h4 lt4) trodAll_mk0))))), rfl, bel.frame _, fun h => by cases h⟩
theorem LevelWhen_holds : Rows.LevelWhenSaid :=
  OpenClaim.holds_of_wide 9 Try.f9 rfl rfl rfl rfl rfl rfl rfl ⟨rfl, rfl, rfl, rfl, rfl⟩ rfl rfl rfl rfl rfl (by kernel_rfl) Try.func9 (by kernel_rfl)
    (of_decide_eq_true (by kernel_rfl)) (by unfold Func.isWrapper; first | (rw [if_pos (by decide +kernel)]; kernel_rfl) | (rw [if_neg (by decide +kernel)]; exact ⟨rfl, rfl⟩))
    (fun os started H enc _ => LevelWhen_lifted os started H enc)
end Go.Proofs.Ytidafhjdpklgbaa
