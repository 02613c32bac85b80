/- hwkeep.LevelIs returns true for every list of whole numbers and every three whole numbers. No condition. -/
import Derived.Test.YtidafhjdpklgbaaYLw
import Derived.Test.YtidafhjdpklgbaaYHw
import Derived.Test.YtidafhjdpklgbaaYKh
import Derived.Test.YtidafhjdpklgbaaCYLevelIs
namespace Go.Proofs.Ytidafhjdpklgbaa
open Go.ChangeShapes Go.WideShapes Go.ChangeAt Go.RowKit Go.Joins Y
set_option linter.unusedSimpArgs false
set_option linter.unusedVariables false
set_option maxRecDepth 100000
set_option maxHeartbeats 40000000
def gl : List (Nat × Say) := [(33, lbegunS), (34, windowS), (31, withinS), (24, lofS), (36, sumsS), (37, spreadXS), (39, numS), (40, pMulS), (38, wAddS), (41, wShlS), (42, wCmpS)]
theorem gl_ok : GamOk Try.prog (gamY gl) := gam_ok (gam_cons lbegun_ok (gam_cons window_ok (gam_cons within_ok (gam_cons lof_ok (gam_cons sums_ok (gam_cons spreadX_ok (gam_cons num_ok (gam_cons pMul_ok (gam_cons wAdd_ok (gam_cons wShl_ok (gam_cons wCmp_ok gam_nil)))))))))))
theorem LevelIs_in (l w : List Int) (n k o m t q0 q N S Q G X : Int) (D C K e : Nat) (hww : winL l = w) (hmm : withinN n 10000 = m) (hss : withinN k 4194304 = t) (hqq : withinN o 60 = q0) (hQ : 1 + q0 = q)
    (i1 : I64 10000) (i2 : I64 4194304) (i3 : I64 60) (c1 : IntKind.i64.wrap (1 + m) = 1 + m) (c2 : IntKind.i64.wrap q = q) (e1 : olE 64 w (1 + m) t = 0) (v1 : olN 64 w (1 + m) t = K)
    (ho : ofV w = sv3 N S Q) (hk : checkE N S Q = 0) (hG : N * Q - S * S = G) (c3 : IntKind.i64.wrap (N * N) = N * N) (c4 : IntKind.i64.wrap (N * N * (1 + m)) = N * N * (1 + m)) (c5 : IntKind.i64.wrap X = X)
    (hX : N * N * (1 + m) * (1 + m) = X) (hC : (if X > G then X else G) = (C : Int)) (c6 : IntKind.i64.wrap (N * t) = N * t) (c7 : IntKind.i64.wrap (N * t - S) = N * t - S)
    (hD : (if N * t - S > 0 then N * t - S else 0) = (D : Int)) (fC : (C : Int) ≤ 9223372036854775807) (u1 : IntKind.u64.wrap (D : Int) = D) (wD : Word D) (fC2 : Fits C) (fD : Fits (D * D)) (a1 : wAddN C (D * D) = C + D * D) (a2 : wAddE C (D * D) = 0) (fA : Fits (C + D * D))
    (s1 : wShlN C q = C * 2 ^ e) (s2 : wShlE C q = 0) (fS : Fits (C * 2 ^ e)) (hfin : (q ≤ (K : Int)) = (C * 2 ^ e ≤ C + D * D)) : vcFun (gamY gl) y7 [.rw (.ints .i64 l), .int .i64 n, .int .i64 k, .int .i64 o] none (fun v o => v = .bool true) := by
  have n1 : (0 : Int) ≤ (C : Int) := by omega
  generalize C * 2 ^ e = Z at *
  generalize hDD : D * D = Y at *
  generalize C + Y = A at *
  by_cases h : Z ≤ A
  · rw [eq_true h] at hfin
    simp (config := { maxSteps := 9000000 }) only [↓z_fun, ↓kOps_ap, ↓kReg_ap, ↓kSeq_n, ↓kSeq_e, ↓kSeq_r, ↓kBlk_n, ↓kBlk_e, ↓kBlk_r, ↓kFun_e, ↓kFun_n, ↓kFun_r, ↓e_skip, ↓z_reg, ↓e_frz0, ↓e_frz1, ↓z_seq, ↓e_cond, ↓z_block, ↓e_exit, ↓e_ret, ↓e_loop, f_nil, f_cons, n_nil, n_cons, f_agg, f_int, f_bool, f_str, f_nilv, f_sl, f_ptr, f_gp, g_gp, f_fz, f_clo, f_tup, f_elem, f_unk, f_rw, f_nrw, f_srw, g_nil, g_cons, g_int, g_bool, g_str, g_nilv, g_sl, g_ptr, g_fz, g_clo, g_unk, g_rw, g_nrw, g_srw, c_var, c_row, c_frow, r_sl, r_rw, r_nn, inj_bool, inj_str, inj_ints, inj_bools, inj_row, inj_sl, inj_int, ↓e_nil, ↓z_op, ↓z_opg, ↓o_mov, ↓o_pick, ↓o_bin, ↓o_eqb, ↓o_eqs, ↓o_bins, binS, ↓o_neg, ↓o_xor, ↓o_not, ↓o_conv, ↓o_faddr, ↓o_fld, ↓o_ext, ↓o_mx, b_max, b_min, ↓o_mx3, b_max3, b_min3, ↓o_build, ↓o_box, ↓o_alloc, ↓o_load, ↓o_len, ↓o_lenS, ↓o_idx, ↓o_lit, ↓o_litf, SV.go1, SV.go0, ↓o_mk, ↓o_app, ↓o_sub, ↓o_ssub, ↓o_sidx, ↓o_aidx, ↓o_aptr, ↓o_mkf, ↓o_nilrow, ↓o_isnil, ↓o_bad, ↓a_slr, ↓a_sls, ↓a_sln, ↓a_nil, appR_some, k_none, k_val, k_new, k_set, l_nil, l_cons, mkRow, intsOf, boolsOf, strsOf, chunks, Row.rep, Row.cat, Row.sub, Row.put, Row.len, Row.get, Row.size, Row.flat, bnds, own0, own1, labsL, labsR, SV.labs, ↓o_store, ↓o_call, ↓o_callv, ↓o_callw, ↓o_apps, m_apps, ↓o_tob, ↓o_tos, t_nil, t_rw, t_sl, ↓o_calla, m_calla, ap_some, w_some, k_ble, c_none, c_some, v_some, argsOf, b_add, b_sub, b_mul, b_quo, b_rem, b_and, b_or, b_xor, b_andNot, b_eql, b_neq, b_lss, b_leq, b_gtr, b_geq, b_shl, b_shr, entFr, SO.ev, fr_put, put_none, mem_put', fr_setm, mem_setm, setM_at, fr_fl, mem_fl, memOf_at, St.of, keepSt, getAll, lookN, hasN, SV.cells, SV.one, SV.res1, SV.res0, SV.resP, SV.ok1, SV.ok0, SV.okN, SV.solid, SV.solid1, SV.solid0, SV.flat0, SV.nm, SV.nm1, SV.nm0, SV.noPtr1, SV.noPtr0, Cel.isFresh, fillP, setAt, partV, eqCells, cellEq, gamY, listsOk, tupOf, takeOwn, SV.ret1, ret_fl, resAll, resL, resV, List.map_cons, List.map_nil, List.flatMap_cons, List.flatMap_nil, List.append_nil, List.nil_append, List.cons_append, List.all_cons, List.all_nil, List.isEmpty_nil, List.isEmpty_cons, Option.map_some, Option.map_none, Option.getD_some, Option.getD_none, Option.isSome_some, Option.isSome_none, Option.isNone_none, Option.isNone_some, Option.toList_none, Option.toList_some, Nat.reduceEqDiff, ↓reduceIte, Nat.reduceAdd, Nat.reduceMul, List.length_cons, List.length_nil, Nat.reduceLeDiff, Nat.reduceLT, List.replicate_zero, List.replicate_succ, List.flatten_nil, List.flatten_cons, List.set_cons_zero, List.set_cons_succ, List.drop_zero, List.drop_succ_cons, List.take_succ_cons, List.take_zero, List.getElem?_cons_zero, List.getElem?_cons_succ, Bool.and_true, Bool.and_false, Bool.false_and, Bool.true_and, Bool.or_false, Bool.or_true, Bool.true_or, Bool.false_or, Bool.not_true, Bool.not_false, Bool.and_self, true_and, and_true, Bool.false_eq_true, reduceCtorEq, labOk, Int.reduceBEq, Int.reduceBNe, Int.reduceToNat, Int.reduceLE, Int.reduceLT, Int.reduceEq, Nat.reduceDiv, Nat.reduceMod, Nat.reduceSub, BEq.rfl, beq_self_eq_true, bne_self_eq_false, decide_true, decide_false, Int.natCast_zero, Int.natCast_one, Int.cast_ofNat_Int, decide_eq_true_eq, decide_eq_false_iff_not, and_self, Nat.reduceBEq, Int.natCast_add, List.length_append, fitR, fitR1, fitR0, fitRL1, fitRL, wd, wN_hl, OkW_hl, eq_hl, eq_h0, wN_0, OkW_0, cmpN_le0, cmpN_gt0, cmpN_lt0, cmpN_ge0, Int.toNat_natCast, y7, gl, lbegunS, windowS, withinS, lofS, sumsS, spreadXS, numS, pMulS, wAddS, wShlS, wCmpS, asI, sv3, hww, hmm, hss, hqq, hQ, i1, i2, i3, c1, c2, e1, v1, ho, hk, hG, c3, c4, c5, hX, hC, c6, c7, hD, n1, fC, u1, wD, fC2, hDD, fD, a1, a2, fA, s1, s2, fS, hfin, h, ge_iff_le, cmpN_ge0]
  · rw [eq_false h] at hfin
    simp (config := { maxSteps := 9000000 }) only [↓z_fun, ↓kOps_ap, ↓kReg_ap, ↓kSeq_n, ↓kSeq_e, ↓kSeq_r, ↓kBlk_n, ↓kBlk_e, ↓kBlk_r, ↓kFun_e, ↓kFun_n, ↓kFun_r, ↓e_skip, ↓z_reg, ↓e_frz0, ↓e_frz1, ↓z_seq, ↓e_cond, ↓z_block, ↓e_exit, ↓e_ret, ↓e_loop, f_nil, f_cons, n_nil, n_cons, f_agg, f_int, f_bool, f_str, f_nilv, f_sl, f_ptr, f_gp, g_gp, f_fz, f_clo, f_tup, f_elem, f_unk, f_rw, f_nrw, f_srw, g_nil, g_cons, g_int, g_bool, g_str, g_nilv, g_sl, g_ptr, g_fz, g_clo, g_unk, g_rw, g_nrw, g_srw, c_var, c_row, c_frow, r_sl, r_rw, r_nn, inj_bool, inj_str, inj_ints, inj_bools, inj_row, inj_sl, inj_int, ↓e_nil, ↓z_op, ↓z_opg, ↓o_mov, ↓o_pick, ↓o_bin, ↓o_eqb, ↓o_eqs, ↓o_bins, binS, ↓o_neg, ↓o_xor, ↓o_not, ↓o_conv, ↓o_faddr, ↓o_fld, ↓o_ext, ↓o_mx, b_max, b_min, ↓o_mx3, b_max3, b_min3, ↓o_build, ↓o_box, ↓o_alloc, ↓o_load, ↓o_len, ↓o_lenS, ↓o_idx, ↓o_lit, ↓o_litf, SV.go1, SV.go0, ↓o_mk, ↓o_app, ↓o_sub, ↓o_ssub, ↓o_sidx, ↓o_aidx, ↓o_aptr, ↓o_mkf, ↓o_nilrow, ↓o_isnil, ↓o_bad, ↓a_slr, ↓a_sls, ↓a_sln, ↓a_nil, appR_some, k_none, k_val, k_new, k_set, l_nil, l_cons, mkRow, intsOf, boolsOf, strsOf, chunks, Row.rep, Row.cat, Row.sub, Row.put, Row.len, Row.get, Row.size, Row.flat, bnds, own0, own1, labsL, labsR, SV.labs, ↓o_store, ↓o_call, ↓o_callv, ↓o_callw, ↓o_apps, m_apps, ↓o_tob, ↓o_tos, t_nil, t_rw, t_sl, ↓o_calla, m_calla, ap_some, w_some, k_ble, c_none, c_some, v_some, argsOf, b_add, b_sub, b_mul, b_quo, b_rem, b_and, b_or, b_xor, b_andNot, b_eql, b_neq, b_lss, b_leq, b_gtr, b_geq, b_shl, b_shr, entFr, SO.ev, fr_put, put_none, mem_put', fr_setm, mem_setm, setM_at, fr_fl, mem_fl, memOf_at, St.of, keepSt, getAll, lookN, hasN, SV.cells, SV.one, SV.res1, SV.res0, SV.resP, SV.ok1, SV.ok0, SV.okN, SV.solid, SV.solid1, SV.solid0, SV.flat0, SV.nm, SV.nm1, SV.nm0, SV.noPtr1, SV.noPtr0, Cel.isFresh, fillP, setAt, partV, eqCells, cellEq, gamY, listsOk, tupOf, takeOwn, SV.ret1, ret_fl, resAll, resL, resV, List.map_cons, List.map_nil, List.flatMap_cons, List.flatMap_nil, List.append_nil, List.nil_append, List.cons_append, List.all_cons, List.all_nil, List.isEmpty_nil, List.isEmpty_cons, Option.map_some, Option.map_none, Option.getD_some, Option.getD_none, Option.isSome_some, Option.isSome_none, Option.isNone_none, Option.isNone_some, Option.toList_none, Option.toList_some, Nat.reduceEqDiff, ↓reduceIte, Nat.reduceAdd, Nat.reduceMul, List.length_cons, List.length_nil, Nat.reduceLeDiff, Nat.reduceLT, List.replicate_zero, List.replicate_succ, List.flatten_nil, List.flatten_cons, List.set_cons_zero, List.set_cons_succ, List.drop_zero, List.drop_succ_cons, List.take_succ_cons, List.take_zero, List.getElem?_cons_zero, List.getElem?_cons_succ, Bool.and_true, Bool.and_false, Bool.false_and, Bool.true_and, Bool.or_false, Bool.or_true, Bool.true_or, Bool.false_or, Bool.not_true, Bool.not_false, Bool.and_self, true_and, and_true, Bool.false_eq_true, reduceCtorEq, labOk, Int.reduceBEq, Int.reduceBNe, Int.reduceToNat, Int.reduceLE, Int.reduceLT, Int.reduceEq, Nat.reduceDiv, Nat.reduceMod, Nat.reduceSub, BEq.rfl, beq_self_eq_true, bne_self_eq_false, decide_true, decide_false, Int.natCast_zero, Int.natCast_one, Int.cast_ofNat_Int, decide_eq_true_eq, decide_eq_false_iff_not, and_self, Nat.reduceBEq, Int.natCast_add, List.length_append, fitR, fitR1, fitR0, fitRL1, fitRL, wd, wN_hl, OkW_hl, eq_hl, eq_h0, wN_0, OkW_0, cmpN_le0, cmpN_gt0, cmpN_lt0, cmpN_ge0, Int.toNat_natCast, y7, gl, lbegunS, windowS, withinS, lofS, sumsS, spreadXS, numS, pMulS, wAddS, wShlS, wCmpS, asI, sv3, hww, hmm, hss, hqq, hQ, i1, i2, i3, c1, c2, e1, v1, ho, hk, hG, c3, c4, c5, hX, hC, c6, c7, hD, n1, fC, u1, wD, fC2, hDD, fD, a1, a2, fA, s1, s2, fS, hfin, h, ge_iff_le, cmpN_ge0]
theorem LevelIs_vc (l : List Int) (bl : AllI l) (n : Int) (bn : I64 n) (k : Int) (bk : I64 k) (o : Int) (bo : I64 o) : vcFun (gamY gl) y7 [.rw (.ints .i64 l), .int .i64 n, .int .i64 k, .int .i64 o] none (fun v o => v = .bool true) := by
  obtain ⟨w1, w2, w3⟩ := winL_ok l
  generalize hww : winL l = w at *
  have hm := withinN_lt n (n := 10000) (by omega)
  generalize hmm : withinN n 10000 = m at *
  have hs := withinN_lt k (n := 4194304) (by omega)
  generalize hss : withinN k 4194304 = t at *
  have hq := withinN_lt o (n := 60) (by omega)
  generalize hqq : withinN o 60 = q0 at *
  have hk : lkE 64 w (1 + m) = 0 := lkE_0.2 ⟨w3, by omega, by omega⟩
  have e1 : olE 64 w (1 + m) t = 0 := olE_0.2 ⟨hk, by omega⟩
  have v1 : olN 64 w (1 + m) t = lvN w.length (sumL w) (scL w (1 + m)) t := if_pos e1
  have hl := (winE_0.1 w3).2.2
  obtain ⟨q1, q2, q3⟩ := lv_cond hk
  have ho := ofV_0 hl
  have hc := check_of hl
  obtain ⟨b1, b2, b3, b4⟩ := sc_bd hl (by omega) (m := 1 + m) (by omega)
  have hNt := mul_bd (x := (w.length : Int)) (y := t) (X := 64) (Y := 4194304) (by omega) (by omega) (by omega) (by omega)
  have hX : (w.length : Int) * w.length * (1 + m) * (1 + m) = w.length * (1 + m) * (w.length * (1 + m)) := by grind
  have hNN := mul_bd (x := (w.length : Int)) (y := (w.length : Int)) (X := 64) (Y := 64) (by omega) (by omega) (by omega) (by omega)
  have hNm := mul_bd (x := (w.length : Int) * w.length) (y := 1 + m) (X := 4096) (Y := 10000) (by omega) (by omega) (by omega) (by omega)
  have hsc : scL w (1 + m) = if (w.length : Int) * (1 + m) * (w.length * (1 + m)) > w.length * sqL w - sumL w * sumL w then (w.length : Int) * (1 + m) * (w.length * (1 + m)) else w.length * sqL w - sumL w * sumL w := rfl
  obtain ⟨C, hC⟩ := Int.eq_ofNat_of_zero_le (show 0 ≤ scL w (1 + m) by omega)
  obtain ⟨D, hD⟩ : ∃ D : Nat, (if (w.length : Int) * t - sumL w > 0 then (w.length : Int) * t - sumL w else 0) = (D : Int) := Int.eq_ofNat_of_zero_le (by split <;> omega)
  have hDb : D ≤ 268435456 := by split at hD <;> omega
  have hDD : D * D ≤ 268435456 * 268435456 := Nat.mul_le_mul hDb hDb
  have h2 : C * 2 ^ (1 + q0).toNat ≤ 1152921504606846976 * 2 ^ 60 := Nat.mul_le_mul (by omega) (Nat.pow_le_pow_right (by omega) (by omega))
  refine LevelIs_in l w n k o m t q0 (1 + q0) w.length (sumL w) (sqL w) _ _ D C _ (1 + q0).toNat hww hmm hss hqq rfl (by unfold I64; omega) (by unfold I64; omega) (by unfold I64; omega) (i64_wrap (by unfold I64; omega)) (i64_wrap (by unfold I64; omega)) e1 v1
    ho hc rfl (i64_wrap (by unfold I64; omega)) (i64_wrap (by unfold I64; omega)) (i64_wrap (by unfold I64; omega)) hX (by rw [← hsc, hC]) (i64_wrap (by unfold I64; omega)) (i64_wrap (by unfold I64; omega)) hD (by omega) (u64_wrap (by unfold U64; omega))
    (by unfold Word; omega) (fits_lt.2 (by omega)) (fits_lt.2 (by omega)) (if_pos (by omega)) (if_pos (by omega)) (fits_lt.2 (by omega)) (if_pos ⟨by omega, by omega, by omega⟩) ((if_pos ⟨by omega, by omega⟩).trans (if_pos (by omega))) (fits_lt.2 (by omega)) ?_
  apply propext
  have hv := lv_ge (n := w.length) (s := sumL w) (c := scL w (1 + m)) (t := t) (k := (1 + q0).toNat) (by omega) (by omega)
  have e2 : (1 + q0 ≤ ((lvN w.length (sumL w) (scL w (1 + m)) t : Nat) : Int)) ↔ (1 + q0).toNat ≤ lvN w.length (sumL w) (scL w (1 + m)) t := by omega
  rw [e2, hv, hC]
  have e3 : (C * 2 ^ (1 + q0).toNat ≤ C + D * D) ↔ (C : Int) * 2 ^ (1 + q0).toNat ≤ C + D * D := by
    rw [← Int.ofNat_le]; push_cast; rfl
  rw [e3]
  by_cases hd : 0 < (w.length : Int) * t - sumL w
  · rw [if_pos hd] at hD
    rw [hD, Int.add_comm]
    omega
  · rw [if_neg hd] at hD
    have hD0 : D = 0 := by omega
    subst hD0
    have h5 : (2 : Int) ^ 1 ≤ 2 ^ (1 + q0).toNat := by
      have := Nat.pow_le_pow_right (show 0 < 2 by omega) (show 1 ≤ (1 + q0).toNat by omega)
      exact_mod_cast this
    have h6 : (C : Int) * 2 ^ 1 ≤ C * 2 ^ (1 + q0).toNat := Int.mul_le_mul_of_nonneg_left h5 (by omega)
    omega
theorem LevelIs_walk (W : World) (v0 : Value) (l0 : List Int) (b0 : AllI l0) (i0 : Is (E0 W fun _ => False) (.rw (.ints .i64 l0)) v0) (n1 : Int) (b1 : I64 n1) (n2 : Int) (b2 : I64 n2) (n3 : Int) (b3 : I64 n3) :
    Calls Try.prog 7 #[v0, .int .i64 n1, .int .i64 n2, .int .i64 n3] W fun e w' => e = .returned (.bool true) ∧ Below W.heap.size W w' :=
  law_callY gl_ok lawy_mixed y7_eq (LevelIs_vc l0 b0 n1 b1 n2 b2 n3 b3) (Nat.le_of_ble_eq_true rfl) W (lawy_glb W) [v0, .int .i64 n1, .int .i64 n2, .int .i64 n3] (All.cons i0 (All.cons (.int _ _) (All.cons (.int _ _) (All.cons (.int _ _) All.nil))))
set_option maxRecDepth 100000 in
theorem LevelIs_lifted (os : Os) (started : os.Started) (H : Type) (enc : TypeId × Value → H) :
    ReturnsInHanded {} Try.checked os 7 .any (Rows.levelIsSpec.pre6 enc Try.prog Try.f7 Rows.levelIsRow.domain false) (Rows.levelIsSpec.post enc Try.prog Try.f7 false true false false) := by
  refine returnsInHanded_of_change (C := Try.checked) lawy_own started (by kernel_rfl) Try.func7
    (ChangeSpec.witness6 (enc := enc) (C := Try.checked) false ⟨#[], #[.slice none 0 0, .int .i64 0, .int .i64 0, .int .i64 0], []⟩ 8 (by kernel_rfl) (by kernel_rfl) (by kernel_rfl) (by kernel_rfl)) ?_
  intro W base args ds gs before hval0 hW hcnd _
  have hval : ∀ (j : Nat) t v, Try.f7.params[j]? = some t → args[j]? = some v → Value.okWide Try.prog W .any base t v := hval0
  have hW' := hW
  obtain ⟨p, q, hA0, hV, rfl, hfz, hnd⟩ := hW
  have hA : DataW.TrodAll enc Try.prog W 0 (fun _ => true) true Try.f7.params.toList args.toList ds p := hA0
  rw [Try.params7] at hA hval
  obtain ⟨v0, vs0, d0, ds0, p0, q0, hargs, rfl, rfl, h0, r0⟩ := trodAll_cons hA
  obtain ⟨v1, vs1, d1, ds1, p1, q1, rfl, rfl, rfl, h1, r1⟩ := trodAll_cons r0
  obtain ⟨v2, vs2, d2, ds2, p2, q2, rfl, rfl, rfl, h2, r2⟩ := trodAll_cons r1
  obtain ⟨v3, vs3, d3, ds3, p3, q3, rfl, rfl, rfl, h3, r3⟩ := trodAll_cons r2
  obtain ⟨rfl, rfl, rfl⟩ := trodAll_nil r3
  obtain rfl : args = #[v0, v1, v2, v3] := by cases args; simp_all
  obtain ⟨rfl, rfl⟩ := trodVars_none hV
  have lt0 := places_lt h0
  obtain ⟨l0, hl0, hi0⟩ := open_ints Try.underlying37 Try.underlying3 (by kernel_rfl) (hval 0 37 v0 rfl rfl) h0
  have lt1 := places_lt h1
  obtain ⟨n1, e1, _, _, wn1⟩ := open_int Try.underlying3 (hval 1 3 v1 rfl rfl) h1
  subst e1
  have lt2 := places_lt h2
  obtain ⟨n2, e2, _, _, wn2⟩ := open_int Try.underlying3 (hval 2 3 v2 rfl rfl) h2
  subst e2
  have lt3 := places_lt h3
  obtain ⟨n3, e3, _, _, wn3⟩ := open_int Try.underlying3 (hval 3 3 v3 rfl rfl) h3
  subst e3
  clear hA0 hval0
  refine (LevelIs_walk W v0 l0 hl0 hi0 n1 (i64_of wn1) n2 (i64_of wn2) n3 (i64_of wn3)).mono fun e W' ⟨he, bel⟩ => ?_
  subst he
  exact ⟨_, rfl, _, _, _, [], _, [], hW', trodAll_mk1 (shut_bool Try.underlying4 _), (trodAll_cons_mk (bel.trod lawy_laid (by kernel_rfl) (of_decide_eq_true (by kernel_rfl)) h0 lt0) (trodAll_cons_mk (bel.trod lawy_laid (by kernel_rfl) (of_decide_eq_true (by kernel_rfl)) h1 lt1) (trodAll_cons_mk (bel.trod lawy_laid (by kernel_rfl) (of_decide_eq_true (by kernel_rfl)) h2 lt2) (trodAll_cons_mk (bel.trod lawy_laid (by kernel_rfl) (of_decide_eq_true (by kernel_rfl)) h3 lt3) trodAll_mk0)))), rfl, bel.frame _, fun h => by cases h⟩
theorem LevelIs_holds : Rows.LevelIsSaid :=
  OpenClaim.holds_of_wide 7 Try.f7 rfl rfl rfl rfl rfl rfl rfl ⟨rfl, rfl, rfl, rfl, rfl⟩ rfl rfl rfl rfl rfl (by kernel_rfl) Try.func7 (by kernel_rfl)
    (of_decide_eq_true (by kernel_rfl)) (by unfold Func.isWrapper; first | (rw [if_pos (by decide +kernel)]; kernel_rfl) | (rw [if_neg (by decide +kernel)]; exact ⟨rfl, rfl⟩))
    (fun os started H enc _ => LevelIs_lifted os started H enc)
end Go.Proofs.Ytidafhjdpklgbaa
