/- hwkeep.VoteLevel returns true for every list of whole numbers and every two whole numbers. No condition. -/
import Derived.Test.YtlfhcjohkpdkoaaYVu
import Derived.Test.YtlfhcjohkpdkoaaCYVoteLevel
namespace Go.Proofs.Ytlfhcjohkpdkoaa
open Go.ChangeShapes Go.WideShapes Go.ChangeAt Go.RowKit Go.Joins Y
set_option linter.unusedSimpArgs false
set_option linter.unusedVariables false
set_option maxRecDepth 100000
set_option maxHeartbeats 40000000
def gl : List (Nat × Say) := [(22, vsomeS), (23, vlevelS), (28, levelsS), (27, withinS), (29, containsS)]
theorem gl_ok : GamOk Try.prog (gamY gl) := gam_ok (gam_cons vsome_ok (gam_cons vlevel_ok (gam_cons levels_ok (gam_cons within_ok (gam_cons contains_ok gam_nil)))))
theorem VoteLevel_in (l L : List Int) (n K t q a b E V : Int) (B : Bool) (hL : levL l = L) (ha : withinN n 64 = a) (hK : 1 + a = K) (hb : withinN t 60 = b) (hq : 1 + b = q) (hK1 : 1 ≤ K ∧ K ≤ 64) (hq1 : 1 ≤ q ∧ q ≤ 60) (hl : L.length ≤ 64)
    (s1 : soE L K q = 0) (s2 : soB L K q = B) (v1 : vlE L K = E) (v2 : vlV L K = V) (h : (E = 0 ∧ B = decide (q ≤ V) ∧ V ∈ L) ∨ (E = 4 ∧ (L.length : Int) < K ∧ B = false)) :
    vcFun (gamY gl) y8 [.rw (.ints .i64 l), .int .i64 n, .int .i64 t] none (fun v o => v = .bool true) := by
  have z1 : vlE [5, 9, 1] 2 = 0 := by decide
  have z2 : vlV [5, 9, 1] 2 = 5 := by rw [vlV, if_pos z1, show sortL [5, 9, 1] = [1, 5, 9] from sortL_eq (by decide) (by decide)]; rfl
  have i1 : I64 64 := by unfold I64; omega
  have i2 : I64 60 := by unfold I64; omega
  have c1 := i64_wrap (show I64 K by unfold I64; omega)
  have c2 := i64_wrap (show I64 q by unfold I64; omega)
  have hl2 : L.length ≤ 4294967296 := by omega
  rcases h with ⟨rfl, hB, hV⟩ | ⟨rfl, hk, rfl⟩
  · have hd : decide (V ∈ L) = true := decide_eq_true hV
    by_cases hqv : q ≤ V
    · rw [decide_eq_true hqv] at hB
      subst hB
      simp (config := { maxSteps := 9000000 }) only [↓z_fun, ↓kOps_ap, ↓kReg_ap, ↓kSeq_n, ↓kSeq_e, ↓kSeq_r, ↓kBlk_n, ↓kBlk_e, ↓kBlk_r, ↓kFun_e, ↓kFun_n, ↓kFun_r, ↓e_skip, ↓z_reg, ↓e_frz0, ↓e_frz1, ↓z_seq, ↓e_cond, ↓z_block, ↓e_exit, ↓e_ret, ↓e_loop, f_nil, f_cons, n_nil, n_cons, f_agg, f_int, f_bool, f_str, f_nilv, f_sl, f_ptr, f_gp, g_gp, f_fz, f_clo, f_tup, f_elem, f_unk, f_rw, f_nrw, f_srw, g_nil, g_cons, g_int, g_bool, g_str, g_nilv, g_sl, g_ptr, g_fz, g_clo, g_unk, g_rw, g_nrw, g_srw, c_var, c_row, c_frow, r_sl, r_rw, r_nn, inj_bool, inj_str, inj_ints, inj_bools, inj_row, inj_sl, inj_int, ↓e_nil, ↓z_op, ↓z_opg, ↓o_mov, ↓o_pick, ↓o_bin, ↓o_eqb, ↓o_eqs, ↓o_bins, binS, ↓o_neg, ↓o_xor, ↓o_not, ↓o_conv, ↓o_faddr, ↓o_fld, ↓o_ext, ↓o_mx, b_max, b_min, ↓o_mx3, b_max3, b_min3, ↓o_build, ↓o_box, ↓o_alloc, ↓o_load, ↓o_len, ↓o_lenS, ↓o_idx, ↓o_lit, ↓o_litz, ↓o_litf, SV.go1, SV.go0, ↓o_mk, ↓o_app, ↓o_sub, ↓o_ssub, ↓o_sidx, ↓o_aidx, ↓o_aptr, ↓o_mkf, ↓o_nilrow, ↓o_isnil, ↓o_bad, ↓a_slr, ↓a_sls, ↓a_sln, ↓a_nil, appR_some, k_none, k_val, k_new, k_set, l_nil, l_cons, mkRow, intsOf, boolsOf, strsOf, chunks, Row.rep, Row.cat, Row.sub, Row.put, Row.len, Row.get, Row.size, Row.flat, bnds, own0, own1, labsL, labsR, SV.labs, ↓o_store, ↓o_call, ↓o_callv, ↓o_callw, ↓o_apps, m_apps, ↓o_tob, ↓o_tos, t_nil, t_rw, t_sl, ↓o_calla, m_calla, ap_some, w_some, k_ble, c_none, c_some, v_some, argsOf, b_add, b_sub, b_mul, b_quo, b_rem, b_and, b_or, b_xor, b_andNot, b_eql, b_neq, b_lss, b_leq, b_gtr, b_geq, b_shl, b_shr, entFr, SO.ev, fr_put, put_none, mem_put', fr_setm, mem_setm, setM_at, fr_fl, mem_fl, memOf_at, St.of, keepSt, getAll, lookN, hasN, SV.cells, SV.one, SV.res1, SV.res0, SV.resP, SV.ok1, SV.ok0, SV.okN, SV.solid, SV.solid1, SV.solid0, SV.flat0, SV.nm, SV.nm1, SV.nm0, SV.noPtr1, SV.noPtr0, Cel.isFresh, fillP, setAt, partV, eqCells, cellEq, gamY, listsOk, tupOf, takeOwn, SV.ret1, ret_fl, resAll, resL, resV, List.map_cons, List.map_nil, List.flatMap_cons, List.flatMap_nil, List.append_nil, List.nil_append, List.cons_append, List.all_cons, List.all_nil, List.isEmpty_nil, List.isEmpty_cons, Option.map_some, Option.map_none, Option.getD_some, Option.getD_none, Option.isSome_some, Option.isSome_none, Option.isNone_none, Option.isNone_some, Option.toList_none, Option.toList_some, Nat.reduceEqDiff, ↓reduceIte, Nat.reduceAdd, Nat.reduceMul, List.length_cons, List.length_nil, Nat.reduceLeDiff, Nat.reduceLT, List.replicate_zero, List.replicate_succ, List.flatten_nil, List.flatten_cons, List.set_cons_zero, List.set_cons_succ, List.drop_zero, List.drop_succ_cons, List.take_succ_cons, List.take_zero, List.getElem?_cons_zero, List.getElem?_cons_succ, Bool.and_true, Bool.and_false, Bool.false_and, Bool.true_and, Bool.or_false, Bool.or_true, Bool.true_or, Bool.false_or, Bool.not_true, Bool.not_false, Bool.and_self, true_and, and_true, Bool.false_eq_true, reduceCtorEq, labOk, Int.reduceBEq, Int.reduceBNe, Int.reduceToNat, Int.reduceLE, Int.reduceLT, Int.reduceEq, Nat.reduceDiv, Nat.reduceMod, Nat.reduceSub, BEq.rfl, beq_self_eq_true, bne_self_eq_false, decide_true, decide_false, Int.natCast_zero, Int.natCast_one, Int.cast_ofNat_Int, decide_eq_true_eq, decide_eq_false_iff_not, and_self, Nat.reduceBEq, Int.natCast_add, List.length_append, y8, gl, vsomeS, vlevelS, levelsS, withinS, containsS, asI, z1, z2, hL, ha, hK, hb, hq, s1, s2, v1, v2, i1, i2, c1, c2, hl2, hd, hqv, ge_iff_le]
    · rw [decide_eq_false hqv] at hB
      subst hB
      simp (config := { maxSteps := 9000000 }) only [↓z_fun, ↓kOps_ap, ↓kReg_ap, ↓kSeq_n, ↓kSeq_e, ↓kSeq_r, ↓kBlk_n, ↓kBlk_e, ↓kBlk_r, ↓kFun_e, ↓kFun_n, ↓kFun_r, ↓e_skip, ↓z_reg, ↓e_frz0, ↓e_frz1, ↓z_seq, ↓e_cond, ↓z_block, ↓e_exit, ↓e_ret, ↓e_loop, f_nil, f_cons, n_nil, n_cons, f_agg, f_int, f_bool, f_str, f_nilv, f_sl, f_ptr, f_gp, g_gp, f_fz, f_clo, f_tup, f_elem, f_unk, f_rw, f_nrw, f_srw, g_nil, g_cons, g_int, g_bool, g_str, g_nilv, g_sl, g_ptr, g_fz, g_clo, g_unk, g_rw, g_nrw, g_srw, c_var, c_row, c_frow, r_sl, r_rw, r_nn, inj_bool, inj_str, inj_ints, inj_bools, inj_row, inj_sl, inj_int, ↓e_nil, ↓z_op, ↓z_opg, ↓o_mov, ↓o_pick, ↓o_bin, ↓o_eqb, ↓o_eqs, ↓o_bins, binS, ↓o_neg, ↓o_xor, ↓o_not, ↓o_conv, ↓o_faddr, ↓o_fld, ↓o_ext, ↓o_mx, b_max, b_min, ↓o_mx3, b_max3, b_min3, ↓o_build, ↓o_box, ↓o_alloc, ↓o_load, ↓o_len, ↓o_lenS, ↓o_idx, ↓o_lit, ↓o_litz, ↓o_litf, SV.go1, SV.go0, ↓o_mk, ↓o_app, ↓o_sub, ↓o_ssub, ↓o_sidx, ↓o_aidx, ↓o_aptr, ↓o_mkf, ↓o_nilrow, ↓o_isnil, ↓o_bad, ↓a_slr, ↓a_sls, ↓a_sln, ↓a_nil, appR_some, k_none, k_val, k_new, k_set, l_nil, l_cons, mkRow, intsOf, boolsOf, strsOf, chunks, Row.rep, Row.cat, Row.sub, Row.put, Row.len, Row.get, Row.size, Row.flat, bnds, own0, own1, labsL, labsR, SV.labs, ↓o_store, ↓o_call, ↓o_callv, ↓o_callw, ↓o_apps, m_apps, ↓o_tob, ↓o_tos, t_nil, t_rw, t_sl, ↓o_calla, m_calla, ap_some, w_some, k_ble, c_none, c_some, v_some, argsOf, b_add, b_sub, b_mul, b_quo, b_rem, b_and, b_or, b_xor, b_andNot, b_eql, b_neq, b_lss, b_leq, b_gtr, b_geq, b_shl, b_shr, entFr, SO.ev, fr_put, put_none, mem_put', fr_setm, mem_setm, setM_at, fr_fl, mem_fl, memOf_at, St.of, keepSt, getAll, lookN, hasN, SV.cells, SV.one, SV.res1, SV.res0, SV.resP, SV.ok1, SV.ok0, SV.okN, SV.solid, SV.solid1, SV.solid0, SV.flat0, SV.nm, SV.nm1, SV.nm0, SV.noPtr1, SV.noPtr0, Cel.isFresh, fillP, setAt, partV, eqCells, cellEq, gamY, listsOk, tupOf, takeOwn, SV.ret1, ret_fl, resAll, resL, resV, List.map_cons, List.map_nil, List.flatMap_cons, List.flatMap_nil, List.append_nil, List.nil_append, List.cons_append, List.all_cons, List.all_nil, List.isEmpty_nil, List.isEmpty_cons, Option.map_some, Option.map_none, Option.getD_some, Option.getD_none, Option.isSome_some, Option.isSome_none, Option.isNone_none, Option.isNone_some, Option.toList_none, Option.toList_some, Nat.reduceEqDiff, ↓reduceIte, Nat.reduceAdd, Nat.reduceMul, List.length_cons, List.length_nil, Nat.reduceLeDiff, Nat.reduceLT, List.replicate_zero, List.replicate_succ, List.flatten_nil, List.flatten_cons, List.set_cons_zero, List.set_cons_succ, List.drop_zero, List.drop_succ_cons, List.take_succ_cons, List.take_zero, List.getElem?_cons_zero, List.getElem?_cons_succ, Bool.and_true, Bool.and_false, Bool.false_and, Bool.true_and, Bool.or_false, Bool.or_true, Bool.true_or, Bool.false_or, Bool.not_true, Bool.not_false, Bool.and_self, true_and, and_true, Bool.false_eq_true, reduceCtorEq, labOk, Int.reduceBEq, Int.reduceBNe, Int.reduceToNat, Int.reduceLE, Int.reduceLT, Int.reduceEq, Nat.reduceDiv, Nat.reduceMod, Nat.reduceSub, BEq.rfl, beq_self_eq_true, bne_self_eq_false, decide_true, decide_false, Int.natCast_zero, Int.natCast_one, Int.cast_ofNat_Int, decide_eq_true_eq, decide_eq_false_iff_not, and_self, Nat.reduceBEq, Int.natCast_add, List.length_append, y8, gl, vsomeS, vlevelS, levelsS, withinS, containsS, asI, z1, z2, hL, ha, hK, hb, hq, s1, s2, v1, v2, i1, i2, c1, c2, hl2, hd, hqv, ge_iff_le]
  · simp (config := { maxSteps := 9000000 }) only [↓z_fun, ↓kOps_ap, ↓kReg_ap, ↓kSeq_n, ↓kSeq_e, ↓kSeq_r, ↓kBlk_n, ↓kBlk_e, ↓kBlk_r, ↓kFun_e, ↓kFun_n, ↓kFun_r, ↓e_skip, ↓z_reg, ↓e_frz0, ↓e_frz1, ↓z_seq, ↓e_cond, ↓z_block, ↓e_exit, ↓e_ret, ↓e_loop, f_nil, f_cons, n_nil, n_cons, f_agg, f_int, f_bool, f_str, f_nilv, f_sl, f_ptr, f_gp, g_gp, f_fz, f_clo, f_tup, f_elem, f_unk, f_rw, f_nrw, f_srw, g_nil, g_cons, g_int, g_bool, g_str, g_nilv, g_sl, g_ptr, g_fz, g_clo, g_unk, g_rw, g_nrw, g_srw, c_var, c_row, c_frow, r_sl, r_rw, r_nn, inj_bool, inj_str, inj_ints, inj_bools, inj_row, inj_sl, inj_int, ↓e_nil, ↓z_op, ↓z_opg, ↓o_mov, ↓o_pick, ↓o_bin, ↓o_eqb, ↓o_eqs, ↓o_bins, binS, ↓o_neg, ↓o_xor, ↓o_not, ↓o_conv, ↓o_faddr, ↓o_fld, ↓o_ext, ↓o_mx, b_max, b_min, ↓o_mx3, b_max3, b_min3, ↓o_build, ↓o_box, ↓o_alloc, ↓o_load, ↓o_len, ↓o_lenS, ↓o_idx, ↓o_lit, ↓o_litz, ↓o_litf, SV.go1, SV.go0, ↓o_mk, ↓o_app, ↓o_sub, ↓o_ssub, ↓o_sidx, ↓o_aidx, ↓o_aptr, ↓o_mkf, ↓o_nilrow, ↓o_isnil, ↓o_bad, ↓a_slr, ↓a_sls, ↓a_sln, ↓a_nil, appR_some, k_none, k_val, k_new, k_set, l_nil, l_cons, mkRow, intsOf, boolsOf, strsOf, chunks, Row.rep, Row.cat, Row.sub, Row.put, Row.len, Row.get, Row.size, Row.flat, bnds, own0, own1, labsL, labsR, SV.labs, ↓o_store, ↓o_call, ↓o_callv, ↓o_callw, ↓o_apps, m_apps, ↓o_tob, ↓o_tos, t_nil, t_rw, t_sl, ↓o_calla, m_calla, ap_some, w_some, k_ble, c_none, c_some, v_some, argsOf, b_add, b_sub, b_mul, b_quo, b_rem, b_and, b_or, b_xor, b_andNot, b_eql, b_neq, b_lss, b_leq, b_gtr, b_geq, b_shl, b_shr, entFr, SO.ev, fr_put, put_none, mem_put', fr_setm, mem_setm, setM_at, fr_fl, mem_fl, memOf_at, St.of, keepSt, getAll, lookN, hasN, SV.cells, SV.one, SV.res1, SV.res0, SV.resP, SV.ok1, SV.ok0, SV.okN, SV.solid, SV.solid1, SV.solid0, SV.flat0, SV.nm, SV.nm1, SV.nm0, SV.noPtr1, SV.noPtr0, Cel.isFresh, fillP, setAt, partV, eqCells, cellEq, gamY, listsOk, tupOf, takeOwn, SV.ret1, ret_fl, resAll, resL, resV, List.map_cons, List.map_nil, List.flatMap_cons, List.flatMap_nil, List.append_nil, List.nil_append, List.cons_append, List.all_cons, List.all_nil, List.isEmpty_nil, List.isEmpty_cons, Option.map_some, Option.map_none, Option.getD_some, Option.getD_none, Option.isSome_some, Option.isSome_none, Option.isNone_none, Option.isNone_some, Option.toList_none, Option.toList_some, Nat.reduceEqDiff, ↓reduceIte, Nat.reduceAdd, Nat.reduceMul, List.length_cons, List.length_nil, Nat.reduceLeDiff, Nat.reduceLT, List.replicate_zero, List.replicate_succ, List.flatten_nil, List.flatten_cons, List.set_cons_zero, List.set_cons_succ, List.drop_zero, List.drop_succ_cons, List.take_succ_cons, List.take_zero, List.getElem?_cons_zero, List.getElem?_cons_succ, Bool.and_true, Bool.and_false, Bool.false_and, Bool.true_and, Bool.or_false, Bool.or_true, Bool.true_or, Bool.false_or, Bool.not_true, Bool.not_false, Bool.and_self, true_and, and_true, Bool.false_eq_true, reduceCtorEq, labOk, Int.reduceBEq, Int.reduceBNe, Int.reduceToNat, Int.reduceLE, Int.reduceLT, Int.reduceEq, Nat.reduceDiv, Nat.reduceMod, Nat.reduceSub, BEq.rfl, beq_self_eq_true, bne_self_eq_false, decide_true, decide_false, Int.natCast_zero, Int.natCast_one, Int.cast_ofNat_Int, decide_eq_true_eq, decide_eq_false_iff_not, and_self, Nat.reduceBEq, Int.natCast_add, List.length_append, y8, gl, vsomeS, vlevelS, levelsS, withinS, containsS, asI, z1, z2, hL, ha, hK, hb, hq, s1, s2, v1, v2, i1, i2, c1, c2, hl2, hk, gt_iff_lt]
theorem VoteLevel_vc (l : List Int) (bl : AllI l) (n : Int) (bn : I64 n) (t : Int) (bt : I64 t) : vcFun (gamY gl) y8 [.rw (.ints .i64 l), .int .i64 n, .int .i64 t] none (fun v o => v = .bool true) := by
  have ha := withinN_lt n (n := 64) (by omega)
  have hb := withinN_lt t (n := 60) (by omega)
  obtain ⟨h1, h2⟩ := levL_ok l
  have hE : vE (levL l) (1 + withinN n 64) = 0 := lev_vE h1 h2 (by omega)
  obtain ⟨s1, s2⟩ := so_0 hE (q := 1 + withinN t 60) (by omega)
  refine VoteLevel_in l _ n _ t _ _ _ _ _ _ rfl rfl rfl rfl rfl (by omega) (by omega) h1 s1 rfl rfl rfl ?_
  rw [s2]
  by_cases hk : 1 + withinN n 64 ≤ (levL l).length
  · obtain ⟨v1, v2⟩ := vlV_0 hE hk
    left
    refine ⟨v1, ?_, ?_⟩
    · rw [v2, decide_eq_decide]
      exact some_kth h2 (by omega) _
    · rw [v2]; exact kth_mem (by omega)
  · right
    refine ⟨by rw [vlE, if_pos hE, if_pos (by omega)], by omega, decide_eq_false ?_⟩
    have := inN_le (1 + withinN t 60) 127 (levL l)
    omega
theorem VoteLevel_walk (W : World) (v0 : Value) (l0 : List Int) (b0 : AllI l0) (i0 : Is (E0 W fun _ => False) (.rw (.ints .i64 l0)) v0) (n1 : Int) (b1 : I64 n1) (n2 : Int) (b2 : I64 n2) :
    Calls Try.prog 8 #[v0, .int .i64 n1, .int .i64 n2] W fun e w' => e = .returned (.bool true) ∧ Below W.heap.size W w' :=
  law_callY gl_ok lawy_mixed y8_eq (VoteLevel_vc l0 b0 n1 b1 n2 b2) (Nat.le_of_ble_eq_true rfl) W (lawy_glb W) [v0, .int .i64 n1, .int .i64 n2] (All.cons i0 (All.cons (.int _ _) (All.cons (.int _ _) All.nil)))
set_option maxRecDepth 100000 in
theorem VoteLevel_lifted (os : Os) (started : os.Started) (H : Type) (enc : TypeId × Value → H) :
    ReturnsInHanded {} Try.checked os 8 .any (Rows.voteLevelSpec.pre6 enc Try.prog Try.f8 Rows.voteLevelRow.domain false) (Rows.voteLevelSpec.post enc Try.prog Try.f8 false true false false) := by
  refine returnsInHanded_of_change (C := Try.checked) lawy_own started (by kernel_rfl) Try.func8
    (ChangeSpec.witness6 (enc := enc) (C := Try.checked) false ⟨#[], #[.slice none 0 0, .int .i64 0, .int .i64 0], []⟩ 8 (by kernel_rfl) (by kernel_rfl) (by kernel_rfl) (by kernel_rfl)) ?_
  intro W base args ds gs before hval0 hW hcnd _
  have hval : ∀ (j : Nat) t v, Try.f8.params[j]? = some t → args[j]? = some v → Value.okWide Try.prog W .any base t v := hval0
  have hW' := hW
  obtain ⟨p, q, hA0, hV, rfl, hfz, hnd⟩ := hW
  have hA : DataW.TrodAll enc Try.prog W 0 (fun _ => true) true Try.f8.params.toList args.toList ds p := hA0
  rw [Try.params8] at hA hval
  obtain ⟨v0, vs0, d0, ds0, p0, q0, hargs, rfl, rfl, h0, r0⟩ := trodAll_cons hA
  obtain ⟨v1, vs1, d1, ds1, p1, q1, rfl, rfl, rfl, h1, r1⟩ := trodAll_cons r0
  obtain ⟨v2, vs2, d2, ds2, p2, q2, rfl, rfl, rfl, h2, r2⟩ := trodAll_cons r1
  obtain ⟨rfl, rfl, rfl⟩ := trodAll_nil r2
  obtain rfl : args = #[v0, v1, v2] := by cases args; simp_all
  obtain ⟨rfl, rfl⟩ := trodVars_none hV
  have lt0 := places_lt h0
  obtain ⟨l0, hl0, hi0⟩ := open_ints Try.underlying35 Try.underlying3 (by kernel_rfl) (hval 0 35 v0 rfl rfl) h0
  have lt1 := places_lt h1
  obtain ⟨n1, e1, _, _, wn1⟩ := open_int Try.underlying3 (hval 1 3 v1 rfl rfl) h1
  subst e1
  have lt2 := places_lt h2
  obtain ⟨n2, e2, _, _, wn2⟩ := open_int Try.underlying3 (hval 2 3 v2 rfl rfl) h2
  subst e2
  clear hA0 hval0
  refine (VoteLevel_walk W v0 l0 hl0 hi0 n1 (i64_of wn1) n2 (i64_of wn2)).mono fun e W' ⟨he, bel⟩ => ?_
  subst he
  exact ⟨_, rfl, _, _, _, [], _, [], hW', trodAll_mk1 (shut_bool Try.underlying4 _), (trodAll_cons_mk (bel.trod lawy_laid (by kernel_rfl) (of_decide_eq_true (by kernel_rfl)) h0 lt0) (trodAll_cons_mk (bel.trod lawy_laid (by kernel_rfl) (of_decide_eq_true (by kernel_rfl)) h1 lt1) (trodAll_cons_mk (bel.trod lawy_laid (by kernel_rfl) (of_decide_eq_true (by kernel_rfl)) h2 lt2) trodAll_mk0))), rfl, bel.frame _, fun h => by cases h⟩
theorem VoteLevel_holds : Rows.VoteLevelSaid :=
  OpenClaim.holds_of_wide 8 Try.f8 rfl rfl rfl rfl rfl rfl rfl ⟨rfl, rfl, rfl, rfl, rfl⟩ rfl rfl rfl rfl rfl (by kernel_rfl) Try.func8 (by kernel_rfl)
    (of_decide_eq_true (by kernel_rfl)) (by unfold Func.isWrapper; first | (rw [if_pos (by decide +kernel)]; kernel_rfl) | (rw [if_neg (by decide +kernel)]; exact ⟨rfl, rfl⟩))
    (fun os started H enc _ => VoteLevel_lifted os started H enc)
end Go.Proofs.Ytlfhcjohkpdkoaa
