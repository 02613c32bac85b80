/- hwkeep.BeatBursts returns true for every heartbeat, every whole number and every word of 32 bits. No condition. -/
import Derived.Test.YtmacgmngbmaadaaDoorYB6
import Derived.Test.YtmacgmngbmaadaaDoorYK6
import Derived.Test.YtmacgmngbmaadaaDoorCYBeatBursts
namespace Go.Proofs.YtmacgmngbmaadaaDoor
open Go.ChangeShapes Go.WideShapes Go.ChangeAt Go.RowKit Go.Joins Y
set_option linter.unusedSimpArgs false
set_option linter.unusedVariables false
set_option maxRecDepth 100000
set_option maxHeartbeats 40000000
def gL : List (Nat × Say) := [(24, begunS), (14, decS), (13, encS), (22, withinKS), (23, burstSS)]
theorem gL_ok : GamOk Tryd.prog (gamY gL) := gam_ok (gam_cons begun_ok (gam_cons dec_ok (gam_cons enc_ok (gam_cons withinK_ok (gam_cons burstS_ok gam_nil)))))
theorem BeatBursts_in (l : List UInt8) (a b p : Int) (t : Int) (hp : I64 p) (ca : l.length ≤ 140737488355328) (S H M E U : List UInt8) (Q : Int) (hEa : chkE l a b = 0) (hSa : encL l a b = S) (hN : 15 ≤ S.length ∧ S.length ≤ 22)
    (t0 : 0 ≤ t) (t1 : t < 4294967296) (t2 : (t == 0) = false) (hQ : p % 18446744073709551616 % (8 * ((S.length : Int) - 6) - 31) = Q) (q1 : 0 ≤ Q) (q3 : M.length ≤ 140737488351232) (q2 : Q + 32 ≤ 8 * (M.length : Int)) (hH : S.take 2 = H) (hM : (S.take ((S.length : Int) - 4).toNat).drop 2 = M) (hE : S.drop ((S.length : Int) - 4).toNat = E)
    (hU : H ++ burstK M Q.toNat t.toNat 32 ++ E = U) (cU1 : H.length + (burstK M Q.toNat t.toNat 32).length ≤ 9223372036854775807) (cU2 : H.length + (burstK M Q.toNat t.toNat 32).length + E.length ≤ 9223372036854775807) (cU3 : U.length ≤ 140737488355328) (cU4 : H.length + (burstK M Q.toNat t.toNat 32).length + E.length ≤ 140737488355328) (d9 : decE U = 9) (j1 : dId U = []) (j2 : dInc U = 0) (j3 : dSeq U = 0) :
    vcFun (gamY gL) y9 [.agg [.str l, .int .i64 a, .int .i64 b], .int .i64 p, .int .u32 t] none fun v o => v = .bool true := by
  have w1 := i64_wrap (show I64 ((S.length : Int) - 6) by unfold I64; omega)
  have w2 := i64_wrap (show I64 (8 * ((S.length : Int) - 6)) by unfold I64; omega)
  have w3 := i64_wrap (show I64 (8 * ((S.length : Int) - 6) - 31) by unfold I64; omega)
  have w4 := i64_wrap (show I64 ((S.length : Int) - 4) by unfold I64; omega)
  have g1 : ¬ (S.length : Int) < 15 := by omega
  have g2 : 0 < 8 * ((S.length : Int) - 6) - 31 := by omega
  have g3 : 8 * ((S.length : Int) - 6) - 31 ≤ 9223372036854775807 := by omega
  have g4 : (2 : Int) ≤ (S.length : Int) := by omega
  have g5 : (2 : Int) ≤ (S.length : Int) - 4 ∧ (S.length : Int) - 4 ≤ (S.length : Int) := by omega
  have g6 : (0 : Int) ≤ (S.length : Int) - 4 := by omega
  have hts : S.take (S.length : Int).toNat = S := by rw [Int.toNat_natCast, List.take_length]
  simp (config := { maxSteps := 9000000 }) only [↓e_fun, ↓e_skip, ↓e_reg, ↓e_frz0, ↓e_frz1, ↓e_seq, ↓e_cond, ↓e_block, ↓e_exit, ↓e_ret, ↓e_loop, f_nil, f_cons, n_nil, n_cons, f_agg, f_int, f_bool, f_str, f_nilv, f_sl, f_ptr, f_gp, g_gp, f_fz, f_clo, f_tup, f_elem, f_unk, f_rw, f_nrw, f_srw, g_nil, g_cons, g_int, g_bool, g_str, g_nilv, g_sl, g_ptr, g_fz, g_clo, g_unk, g_rw, g_nrw, g_srw, c_var, c_row, c_frow, r_sl, r_rw, r_nn, inj_bool, inj_str, inj_ints, inj_bools, inj_row, inj_sl, inj_int, ↓e_nil, ↓e_op, ↓e_opg, ↓o_mov, ↓o_pick, ↓o_bin, ↓o_eqb, ↓o_eqs, ↓o_bins, binS, ↓o_neg, ↓o_xor, ↓o_not, ↓o_conv, ↓o_faddr, ↓o_fld, ↓o_ext, ↓o_mx, b_max, b_min, ↓o_mx3, b_max3, b_min3, ↓o_build, ↓o_box, ↓o_alloc, ↓o_load, ↓o_len, ↓o_lenS, ↓o_idx, ↓o_lit, ↓o_litf, SV.go1, SV.go0, ↓o_mk, ↓o_app, ↓o_sub, ↓o_ssub, ↓o_sidx, ↓o_aidx, ↓o_aptr, ↓o_mkf, ↓o_nilrow, ↓o_isnil, ↓o_bad, ↓a_slr, ↓a_sls, ↓a_sln, ↓a_nil, appR_some, k_none, k_val, k_new, k_set, l_nil, l_cons, mkRow, intsOf, boolsOf, strsOf, chunks, Row.rep, Row.cat, Row.sub, Row.put, Row.len, Row.get, Row.size, Row.flat, bnds, own0, own1, labsL, labsR, SV.labs, ↓o_store, ↓o_call, ↓o_callv, ↓o_callw, ↓o_apps, m_apps, ↓o_tob, ↓o_tos, t_nil, t_rw, t_sl, ↓o_calla, m_calla, ap_some, w_some, k_ble, c_none, c_some, v_some, argsOf, b_add, b_sub, b_mul, b_quo, b_rem, b_and, b_or, b_xor, b_andNot, b_eql, b_neq, b_lss, b_leq, b_gtr, b_geq, b_shl, b_shr, entFr, SO.ev, fr_put, put_none, mem_put', fr_setm, mem_setm, setM_at, fr_fl, mem_fl, memOf_at, St.of, keepSt, getAll, lookN, hasN, SV.cells, SV.one, SV.res1, SV.res0, SV.resP, SV.ok1, SV.ok0, SV.okN, SV.solid, SV.solid1, SV.solid0, SV.flat0, SV.nm, SV.nm1, SV.nm0, SV.noPtr1, SV.noPtr0, Cel.isFresh, fillP, setAt, partV, eqCells, cellEq, gamY, listsOk, tupOf, takeOwn, SV.ret1, ret_fl, resAll, resL, resV, List.map_cons, List.map_nil, List.flatMap_cons, List.flatMap_nil, List.append_nil, List.nil_append, List.cons_append, List.all_cons, List.all_nil, List.isEmpty_nil, List.isEmpty_cons, Option.map_some, Option.map_none, Option.getD_some, Option.getD_none, Option.isSome_some, Option.isSome_none, Option.isNone_none, Option.isNone_some, Option.toList_none, Option.toList_some, Nat.reduceEqDiff, ↓reduceIte, Nat.reduceAdd, Nat.reduceMul, List.length_cons, List.length_nil, Nat.reduceLeDiff, Nat.reduceLT, List.replicate_zero, List.replicate_succ, List.flatten_nil, List.flatten_cons, List.set_cons_zero, List.set_cons_succ, List.drop_zero, List.drop_succ_cons, List.take_succ_cons, List.take_zero, List.getElem?_cons_zero, List.getElem?_cons_succ, Bool.and_true, Bool.and_false, Bool.false_and, Bool.true_and, Bool.or_false, Bool.or_true, Bool.true_or, Bool.false_or, Bool.not_true, Bool.not_false, Bool.and_self, true_and, and_true, Bool.false_eq_true, reduceCtorEq, labOk, Int.reduceBEq, Int.reduceBNe, Int.reduceToNat, Int.reduceLE, Int.reduceLT, Int.reduceEq, Nat.reduceDiv, Nat.reduceMod, Nat.reduceSub, BEq.rfl, beq_self_eq_true, bne_self_eq_false, decide_true, decide_false, Int.natCast_zero, Int.natCast_one, Int.cast_ofNat_Int, decide_eq_true_eq, decide_eq_false_iff_not, and_self, Nat.reduceBEq, Int.natCast_add, List.length_append, y9, gL, begunS, decS, encS, withinKS, burstSS, ca, hEa, hSa, hp, t0, t1, t2, w1, w2, w3, w4, g1, g2, g3, g4, g5, g6, hQ, q1, q2, q3, hH, hM, hts, hE, hU, cU1, cU2, cU3, cU4, d9, j1, j2, j3, Int.le_refl]
theorem BeatBursts_vc (l : List UInt8) (a b : Int) (ca : l.length ≤ 140737488351232) (ha : I64 a) (hb : I64 b) (p : Int) (hp : I64 p) (t : Int) (ht : U32 t) :
    vcFun (gamY gL) y9 [.agg [.str l, .int .i64 a, .int .i64 b], .int .i64 p, .int .u32 t] none fun v o => v = .bool true := by
  have c1 : l.length ≤ 140737488355328 := by omega
  unfold U32 at ht
  by_cases h : chkE l a b = 0
  · obtain ⟨hid, h1, h2, h3, h4⟩ := chkE_0.1 h
    have hl := isIdB_len hid
    obtain ⟨A, rfl⟩ := Int.eq_ofNat_of_zero_le h1
    obtain ⟨B, rfl⟩ := Int.eq_ofNat_of_zero_le (show 0 ≤ b by omega)
    have hS : encL l A B = codeL l A B := if_pos h
    have hlen := codeL_len l A B
    by_cases t0 : t = 0
    · subst t0
      have g1 : (15 : Int) ≤ ((codeL l A B).length : Int) := by omega
      generalize codeL l A B = S at *
      simp (config := { maxSteps := 9000000 }) only [↓e_fun, ↓e_skip, ↓e_reg, ↓e_frz0, ↓e_frz1, ↓e_seq, ↓e_cond, ↓e_block, ↓e_exit, ↓e_ret, ↓e_loop, f_nil, f_cons, n_nil, n_cons, f_agg, f_int, f_bool, f_str, f_nilv, f_sl, f_ptr, f_gp, g_gp, f_fz, f_clo, f_tup, f_elem, f_unk, f_rw, f_nrw, f_srw, g_nil, g_cons, g_int, g_bool, g_str, g_nilv, g_sl, g_ptr, g_fz, g_clo, g_unk, g_rw, g_nrw, g_srw, c_var, c_row, c_frow, r_sl, r_rw, r_nn, inj_bool, inj_str, inj_ints, inj_bools, inj_row, inj_sl, inj_int, ↓e_nil, ↓e_op, ↓e_opg, ↓o_mov, ↓o_pick, ↓o_bin, ↓o_eqb, ↓o_eqs, ↓o_bins, binS, ↓o_neg, ↓o_xor, ↓o_not, ↓o_conv, ↓o_faddr, ↓o_fld, ↓o_ext, ↓o_mx, b_max, b_min, ↓o_mx3, b_max3, b_min3, ↓o_build, ↓o_box, ↓o_alloc, ↓o_load, ↓o_len, ↓o_lenS, ↓o_idx, ↓o_lit, ↓o_litf, SV.go1, SV.go0, ↓o_mk, ↓o_app, ↓o_sub, ↓o_ssub, ↓o_sidx, ↓o_aidx, ↓o_aptr, ↓o_mkf, ↓o_nilrow, ↓o_isnil, ↓o_bad, ↓a_slr, ↓a_sls, ↓a_sln, ↓a_nil, appR_some, k_none, k_val, k_new, k_set, l_nil, l_cons, mkRow, intsOf, boolsOf, strsOf, chunks, Row.rep, Row.cat, Row.sub, Row.put, Row.len, Row.get, Row.size, Row.flat, bnds, own0, own1, labsL, labsR, SV.labs, ↓o_store, ↓o_call, ↓o_callv, ↓o_callw, ↓o_apps, m_apps, ↓o_tob, ↓o_tos, t_nil, t_rw, t_sl, ↓o_calla, m_calla, ap_some, w_some, k_ble, c_none, c_some, v_some, argsOf, b_add, b_sub, b_mul, b_quo, b_rem, b_and, b_or, b_xor, b_andNot, b_eql, b_neq, b_lss, b_leq, b_gtr, b_geq, b_shl, b_shr, entFr, SO.ev, fr_put, put_none, mem_put', fr_setm, mem_setm, setM_at, fr_fl, mem_fl, memOf_at, St.of, keepSt, getAll, lookN, hasN, SV.cells, SV.one, SV.res1, SV.res0, SV.resP, SV.ok1, SV.ok0, SV.okN, SV.solid, SV.solid1, SV.solid0, SV.flat0, SV.nm, SV.nm1, SV.nm0, SV.noPtr1, SV.noPtr0, Cel.isFresh, fillP, setAt, partV, eqCells, cellEq, gamY, listsOk, tupOf, takeOwn, SV.ret1, ret_fl, resAll, resL, resV, List.map_cons, List.map_nil, List.flatMap_cons, List.flatMap_nil, List.append_nil, List.nil_append, List.cons_append, List.all_cons, List.all_nil, List.isEmpty_nil, List.isEmpty_cons, Option.map_some, Option.map_none, Option.getD_some, Option.getD_none, Option.isSome_some, Option.isSome_none, Option.isNone_none, Option.isNone_some, Option.toList_none, Option.toList_some, Nat.reduceEqDiff, ↓reduceIte, Nat.reduceAdd, Nat.reduceMul, List.length_cons, List.length_nil, Nat.reduceLeDiff, Nat.reduceLT, List.replicate_zero, List.replicate_succ, List.flatten_nil, List.flatten_cons, List.set_cons_zero, List.set_cons_succ, List.drop_zero, List.drop_succ_cons, List.take_succ_cons, List.take_zero, List.getElem?_cons_zero, List.getElem?_cons_succ, Bool.and_true, Bool.and_false, Bool.false_and, Bool.true_and, Bool.or_false, Bool.or_true, Bool.true_or, Bool.false_or, Bool.not_true, Bool.not_false, Bool.and_self, true_and, and_true, Bool.false_eq_true, reduceCtorEq, labOk, Int.reduceBEq, Int.reduceBNe, Int.reduceToNat, Int.reduceLE, Int.reduceLT, Int.reduceEq, Nat.reduceDiv, Nat.reduceMod, Nat.reduceSub, BEq.rfl, beq_self_eq_true, bne_self_eq_false, decide_true, decide_false, Int.natCast_zero, Int.natCast_one, Int.cast_ofNat_Int, decide_eq_true_eq, decide_eq_false_iff_not, and_self, Nat.reduceBEq, Int.natCast_add, List.length_append, y9, gL, begunS, decS, encS, withinKS, burstSS, c1, h, hS, g1]
    · have t2 : (t == 0) = false := by simpa using t0
      have m1 : 0 < 8 * (((codeL l A B).length : Int) - 6) - 31 := by omega
      have r1 := Int.emod_nonneg (p % 18446744073709551616) (show 8 * (((codeL l A B).length : Int) - 6) - 31 ≠ 0 by omega)
      have r2 := Int.emod_lt_of_pos (p % 18446744073709551616) m1
      have e1 : (((codeL l A B).length : Int) - 4).toNat = l.length + 10 := by omega
      have hml : (((codeL l A B).take (l.length + 10)).drop 2).length = l.length + 8 := by simp [hlen]
      have hb2 := burstK_len (((codeL l A B).take (l.length + 10)).drop 2) (p % 18446744073709551616 % (8 * (((codeL l A B).length : Int) - 6) - 31)).toNat t.toNat 32
      have h2l : ((codeL l A B).take 2).length = 2 := by simp [hlen]
      have hel : ((codeL l A B).drop (l.length + 10)).length = 4 := by simp [hlen]
      have hd := decE_burst l A B (p % 18446744073709551616 % (8 * (((codeL l A B).length : Int) - 6) - 31)).toNat t.toNat hid (by omega) (by omega) (by omega)
      have hne : ¬ decE ((codeL l A B).take 2 ++ burstK (((codeL l A B).take (l.length + 10)).drop 2) (p % 18446744073709551616 % (8 * (((codeL l A B).length : Int) - 6) - 31)).toNat t.toNat 32 ++ (codeL l A B).drop (l.length + 10)) = 0 := by rw [hd]; decide
      refine BeatBursts_in l A B p t hp c1 (codeL l A B) ((codeL l A B).take 2) (((codeL l A B).take (l.length + 10)).drop 2) ((codeL l A B).drop (l.length + 10)) _ _ h hS (by omega) (by omega) (by omega) t2 rfl r1 (by omega) (by omega) rfl (by rw [e1]) (by rw [e1]) rfl (by omega) (by omega) (by simp only [List.length_append]; omega) (by omega) hd (if_neg hne) (if_neg hne) (if_neg hne)
  · have t1 : (chkE l a b != 0) = true := by simpa using h
    simp (config := { maxSteps := 9000000 }) only [↓e_fun, ↓e_skip, ↓e_reg, ↓e_frz0, ↓e_frz1, ↓e_seq, ↓e_cond, ↓e_block, ↓e_exit, ↓e_ret, ↓e_loop, f_nil, f_cons, n_nil, n_cons, f_agg, f_int, f_bool, f_str, f_nilv, f_sl, f_ptr, f_gp, g_gp, f_fz, f_clo, f_tup, f_elem, f_unk, f_rw, f_nrw, f_srw, g_nil, g_cons, g_int, g_bool, g_str, g_nilv, g_sl, g_ptr, g_fz, g_clo, g_unk, g_rw, g_nrw, g_srw, c_var, c_row, c_frow, r_sl, r_rw, r_nn, inj_bool, inj_str, inj_ints, inj_bools, inj_row, inj_sl, inj_int, ↓e_nil, ↓e_op, ↓e_opg, ↓o_mov, ↓o_pick, ↓o_bin, ↓o_eqb, ↓o_eqs, ↓o_bins, binS, ↓o_neg, ↓o_xor, ↓o_not, ↓o_conv, ↓o_faddr, ↓o_fld, ↓o_ext, ↓o_mx, b_max, b_min, ↓o_mx3, b_max3, b_min3, ↓o_build, ↓o_box, ↓o_alloc, ↓o_load, ↓o_len, ↓o_lenS, ↓o_idx, ↓o_lit, ↓o_litf, SV.go1, SV.go0, ↓o_mk, ↓o_app, ↓o_sub, ↓o_ssub, ↓o_sidx, ↓o_aidx, ↓o_aptr, ↓o_mkf, ↓o_nilrow, ↓o_isnil, ↓o_bad, ↓a_slr, ↓a_sls, ↓a_sln, ↓a_nil, appR_some, k_none, k_val, k_new, k_set, l_nil, l_cons, mkRow, intsOf, boolsOf, strsOf, chunks, Row.rep, Row.cat, Row.sub, Row.put, Row.len, Row.get, Row.size, Row.flat, bnds, own0, own1, labsL, labsR, SV.labs, ↓o_store, ↓o_call, ↓o_callv, ↓o_callw, ↓o_apps, m_apps, ↓o_tob, ↓o_tos, t_nil, t_rw, t_sl, ↓o_calla, m_calla, ap_some, w_some, k_ble, c_none, c_some, v_some, argsOf, b_add, b_sub, b_mul, b_quo, b_rem, b_and, b_or, b_xor, b_andNot, b_eql, b_neq, b_lss, b_leq, b_gtr, b_geq, b_shl, b_shr, entFr, SO.ev, fr_put, put_none, mem_put', fr_setm, mem_setm, setM_at, fr_fl, mem_fl, memOf_at, St.of, keepSt, getAll, lookN, hasN, SV.cells, SV.one, SV.res1, SV.res0, SV.resP, SV.ok1, SV.ok0, SV.okN, SV.solid, SV.solid1, SV.solid0, SV.flat0, SV.nm, SV.nm1, SV.nm0, SV.noPtr1, SV.noPtr0, Cel.isFresh, fillP, setAt, partV, eqCells, cellEq, gamY, listsOk, tupOf, takeOwn, SV.ret1, ret_fl, resAll, resL, resV, List.map_cons, List.map_nil, List.flatMap_cons, List.flatMap_nil, List.append_nil, List.nil_append, List.cons_append, List.all_cons, List.all_nil, List.isEmpty_nil, List.isEmpty_cons, Option.map_some, Option.map_none, Option.getD_some, Option.getD_none, Option.isSome_some, Option.isSome_none, Option.isNone_none, Option.isNone_some, Option.toList_none, Option.toList_some, Nat.reduceEqDiff, ↓reduceIte, Nat.reduceAdd, Nat.reduceMul, List.length_cons, List.length_nil, Nat.reduceLeDiff, Nat.reduceLT, List.replicate_zero, List.replicate_succ, List.flatten_nil, List.flatten_cons, List.set_cons_zero, List.set_cons_succ, List.drop_zero, List.drop_succ_cons, List.take_succ_cons, List.take_zero, List.getElem?_cons_zero, List.getElem?_cons_succ, Bool.and_true, Bool.and_false, Bool.false_and, Bool.true_and, Bool.or_false, Bool.or_true, Bool.true_or, Bool.false_or, Bool.not_true, Bool.not_false, Bool.and_self, true_and, and_true, Bool.false_eq_true, reduceCtorEq, labOk, Int.reduceBEq, Int.reduceBNe, Int.reduceToNat, Int.reduceLE, Int.reduceLT, Int.reduceEq, Nat.reduceDiv, Nat.reduceMod, Nat.reduceSub, BEq.rfl, beq_self_eq_true, bne_self_eq_false, decide_true, decide_false, Int.natCast_zero, Int.natCast_one, Int.cast_ofNat_Int, decide_eq_true_eq, decide_eq_false_iff_not, and_self, Nat.reduceBEq, Int.natCast_add, List.length_append, y9, gL, begunS, decS, encS, withinKS, burstSS, t1, c1]
theorem BeatBursts_walk (W : World) (hG : GlbW W) (v0 : Value) (l0 : List UInt8) (b0 : l0.length ≤ 140737488351232) (i0 : Is (E0 W fun _ => False) (.str l0) v0) (n0 m0 : Int) (c0 : I64 n0) (d0 : I64 m0) (n1 : Int) (b1 : I64 n1) (n2 : Int) (b2 : U32 n2) :
    Calls Tryd.prog 9 #[.agg #[v0, .int .i64 n0, .int .i64 m0], .int .i64 n1, .int .u32 n2] W fun e w' => e = .returned (.bool true) ∧ Below W.heap.size W w' :=
  law_callY gL_ok lawy_mixed y9_eq (BeatBursts_vc l0 n0 m0 b0 c0 d0 n1 b1 n2 b2) (Nat.le_of_ble_eq_true rfl) W hG [.agg #[v0, .int .i64 n0, .int .i64 m0], .int .i64 n1, .int .u32 n2] (All.cons (is_agg3 i0 (.int _ _) (.int _ _)) (All.cons (.int _ _) (All.cons (.int _ _) All.nil)))
set_option maxRecDepth 100000 in
theorem BeatBursts_contract (H : Type) (enc : TypeId × Value → H) (W : World) (base : Nat) (args : Array Value) (ds gs : List (DataW H)) (before : List MemPlace)
    (hval : ∀ (j : Nat) t v, Tryd.f9.params[j]? = some t → args[j]? = some v → Value.okWide Tryd.prog W .any base t v)
    (hW : DataW.Whole enc Tryd.prog Tryd.f9.params.toList Rows.beatBurstsSpec.vars false W args.toList ds gs before)
    (hwt : (DataW.weightsEach Tryd.prog (Tryd.f9.params.toList ++ (OpenSpec.ofChange Rows.beatBurstsSpec).bare.plain.varTypes Tryd.prog) (ds ++ gs)).all (· ≤ reachBytes) = true) (hG : GlbW W) :
    Calls Tryd.prog 9 args W fun e W' => ∃ v, e = .returned v ∧ Rows.beatBurstsSpec.post enc Tryd.prog Tryd.f9 false true false false W args v W' := by
  have hW' := hW
  obtain ⟨p, q, hA0, hV, rfl, hfz, hnd⟩ := hW
  have hA : DataW.TrodAll enc Tryd.prog W 0 (fun _ => true) true Tryd.f9.params.toList args.toList ds p := hA0
  rw [Tryd.params9] at hA hval hwt
  obtain ⟨v0, vs0, d0, ds0, p0, q0, hargs, rfl, rfl, h0, r0⟩ := trodAll_cons hA
  obtain ⟨v1, vs1, d1, ds1, p1, q1, rfl, rfl, rfl, h1, r1⟩ := trodAll_cons r0
  obtain ⟨v2, vs2, d2, ds2, p2, q2, rfl, rfl, rfl, h2, r2⟩ := trodAll_cons r1
  obtain ⟨rfl, rfl, rfl⟩ := trodAll_nil r2
  obtain rfl : args = #[v0, v1, v2] := by cases args; simp_all
  obtain ⟨rfl, rfl⟩ := trodVars_none hV
  have lt0 := places_lt h0
  obtain ⟨u0, l0, n0, m0, e0, hl0, hi0, b0, c0⟩ := open_beat Tryd.underlying28 (by kernel_rfl) (by kernel_rfl) Tryd.underlying9 Tryd.underlying3 Tryd.underlying3 (hval 0 28 v0 rfl rfl) h0 (weights_at 0 hwt rfl rfl)
  subst e0
  have lt1 := places_lt h1
  obtain ⟨n1, e1, _, _, wn1⟩ := open_int Tryd.underlying3 (hval 1 3 v1 rfl rfl) h1
  subst e1
  have lt2 := places_lt h2
  obtain ⟨n2, e2, _, _, wn2⟩ := open_int Tryd.underlying38 (hval 2 38 v2 rfl rfl) h2
  subst e2
  clear hA0 hval hwt
  refine (BeatBursts_walk W hG u0 l0 hl0 hi0 n0 m0 b0 c0 n1 (i64_of wn1) n2 (u32_of wn2)).mono fun e W' ⟨he, bel⟩ => ?_
  subst he
  exact ⟨_, rfl, _, _, _, [], _, [], hW', trodAll_mk1 (shut_bool Tryd.underlying4 _), (trodAll_cons_mk (bel.trod lawy_laid (by kernel_rfl) (of_decide_eq_true (by kernel_rfl)) h0 lt0) (trodAll_cons_mk (bel.trod lawy_laid (by kernel_rfl) (of_decide_eq_true (by kernel_rfl)) h1 lt1) (trodAll_cons_mk (bel.trod lawy_laid (by kernel_rfl) (of_decide_eq_true (by kernel_rfl)) h2 lt2) trodAll_mk0))), rfl, bel.frame _, fun h => by cases h⟩
noncomputable def BeatBursts_world (os : Os) : World :=
  { World.holding Tryd.prog os ⟨#[], #[], []⟩ with heap := (World.holding Tryd.prog os ⟨#[], #[], []⟩).heap.modify 0 fun | .cells _ t frozen => .cells #[.int .u32 0, .int .u32 498536548, .int .u32 997073096, .int .u32 651767980, .int .u32 1994146192, .int .u32 1802195444, .int .u32 1303535960, .int .u32 1342533948, .int .u32 3988292384, .int .u32 4027552580, .int .u32 3604390888, .int .u32 3412177804, .int .u32 2607071920, .int .u32 2262029012, .int .u32 2685067896, .int .u32 3183342108] t frozen | o => o }
theorem BeatBursts_met (os : Os) : laidMet Tryd.prog Rows.beatBurstsRow.laid ((BeatBursts_world os).forCall (fun _ _ => 0) ⟨#[], #[.agg #[.string "".toUTF8, .int .i64 0, .int .i64 0], .int .i64 0, .int .u32 0], []⟩).memory :=
  laidMet_of_run' 8 (by kernel_rfl) (by kernel_rfl)
theorem BeatBursts_reads (os : Os) {H : Type} (enc : TypeId × Value → H) : ∃ places, DataW.whole enc Tryd.prog ((BeatBursts_world os).forCall (fun _ _ => 0) ⟨#[], #[.agg #[.string "".toUTF8, .int .i64 0, .int .i64 0], .int .i64 0, .int .u32 0], []⟩).memory Tryd.f9.params.toList Rows.beatBurstsSpec.vars false (#[.agg #[.string "".toUTF8, .int .i64 0, .int .i64 0], .int .i64 0, .int .u32 0] : Array Value).toList 8 = some ([.agg [.lit (.string []), .lit (.int .i64 0), .lit (.int .i64 0)], .lit (.int .i64 0), .lit (.int .u32 0)], [], places) :=
  ⟨[], by kernel_rfl⟩
set_option maxRecDepth 100000 in
theorem BeatBursts_lifted (os : Os) (started : os.Started) (H : Type) (enc : TypeId × Value → H) (F : Stop.Interp) :
    ReturnsInHanded {} Tryd.checked os 9 .any ((OpenSpec.ofChange Rows.beatBurstsSpec).preRow enc Tryd.prog Tryd.f9 Rows.beatBurstsRow.domain false Rows.beatBurstsRow.laid) (((OpenSpec.ofChange Rows.beatBurstsSpec).at F).post enc Tryd.prog Tryd.f9 false true false false) := by
  obtain ⟨places, hx⟩ := BeatBursts_reads os enc
  refine returnsInHanded_of_row (C := Tryd.checked) (s := OpenSpec.ofChange Rows.beatBurstsSpec) lawy_own started (by kernel_rfl) Tryd.func9
    (witness_row_at (enc := enc) (C := Tryd.checked) false (BeatBursts_world os) #[.agg #[.string "".toUTF8, .int .i64 0, .int .i64 0], .int .i64 0, .int .u32 0] rfl (by kernel_rfl) (by kernel_rfl) (by kernel_rfl)
      (OpenSpec.preRow_of_cond 8 hx (by kernel_rfl) (fun k hk => by cases hk) (by kernel_rfl) (BeatBursts_met os))) ?_
  intro W base args ds gs before hval hW _ _ hwt hL _ _
  exact BeatBursts_contract H enc W base args ds gs before hval hW hwt (lawy_glb hL)
theorem BeatBursts_said : Rows.BeatBurstsSaid :=
  OpenClaim.holds_of_cond 9 Tryd.f9 rfl rfl rfl rfl rfl rfl rfl ⟨rfl, rfl, rfl, rfl, rfl⟩ rfl rfl rfl rfl rfl (by kernel_rfl) Tryd.func9 (by kernel_rfl)
    (of_decide_eq_true (by kernel_rfl)) (by unfold Func.isWrapper; first | (rw [if_pos (by decide +kernel)]; kernel_rfl) | (rw [if_neg (by decide +kernel)]; exact ⟨rfl, rfl⟩))
    (fun os started H enc _ F => by rw [OpenClaim.pre_eq_preRow]; exact BeatBursts_lifted os started H enc F)
theorem BeatBursts_plain (f : FuncId) (fn : Func) (hf : Tryd.pinned.checked.prog.funcNamed "heartwood/hwkeep.BeatBursts" = some f) (hfn : Tryd.pinned.checked.prog.funcs[f]? = some fn) :
    false = Tryd.pinned.checked.prog.looks [] ∧ ∀ (j : Nat) t, fn.params[j]? = some t → Tryd.pinned.checked.prog.wantsStandIn t = false := by
  obtain rfl : f = 9 := Option.some.inj ((show Tryd.prog.funcNamed "heartwood/hwkeep.BeatBursts" = some 9 by kernel_rfl).symm.trans hf) |>.symm
  obtain rfl : fn = Tryd.f9 := (Option.some.inj (Tryd.func9.symm.trans hfn)).symm
  refine ⟨by kernel_rfl, fun j t ht => ?_⟩
  rw [Tryd.params9] at ht
  have hm : t ∈ [28, 3, 38] := by simpa using Array.mem_of_getElem? ht
  simp only [List.mem_cons, List.not_mem_nil, or_false] at hm
  rcases hm with rfl | rfl | rfl
  · exact (show Tryd.prog.wantsStandIn 28 = false by kernel_rfl)
  · exact (show Tryd.prog.wantsStandIn 3 = false by kernel_rfl)
  · exact (show Tryd.prog.wantsStandIn 38 = false by kernel_rfl)
theorem BeatBursts_holds : Rows.BeatBurstsCardSaid :=
  Claim7.holds_tied_plain_at .later [] _ _ _ _ BeatBursts_said (fun _ h => by cases h) (by kernel_rfl) (fun _ h => by cases h) beatBursts_row_tie rfl ⟨rfl, rfl⟩ (by kernel_rfl) rfl BeatBursts_plain (by kernel_rfl)
end Go.Proofs.YtmacgmngbmaadaaDoor
