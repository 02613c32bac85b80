/- hwkeep.LevelCantelli returns true for every list of whole numbers and every two whole numbers. No condition. -/
import Derived.Test.YtidafhjdpklgbaaYLw
import Derived.Test.YtidafhjdpklgbaaYHw
import Derived.Test.YtidafhjdpklgbaaYM9
import Derived.Test.YtidafhjdpklgbaaCYLevelCantelli
namespace Go.Proofs.Ytidafhjdpklgbaa
open Go.ChangeShapes Go.WideShapes Go.ChangeAt Go.RowKit Go.Joins Y
set_option linter.unusedSimpArgs false
set_option linter.unusedVariables false
set_option maxRecDepth 100000
set_option maxHeartbeats 40000000
/-- Cantelli: how many are as great as the silence. -/
theorem lv_cantelli {l : List Int} {c t : Int} (hc : 0 < c) (hG : l.length * sqL l - sumL l * sumL l ≤ c) : cntL l t * 2 ^ lvN l.length (sumL l) c t ≤ l.length := by
  have hcnt := cnt_le l t
  by_cases h0 : lvN l.length (sumL l) c t = 0
  · rw [h0]; simpa using hcnt
  · obtain ⟨hd, hk⟩ := (lv_ge (n := l.length) (s := sumL l) (c := c) (t := t) hc (Nat.pos_of_ne_zero h0)).1 (Nat.le_refl _)
    generalize lvN l.length (sumL l) c t = k at *
    have h := cantelli_le hd
    generalize hGG : l.length * sqL l - sumL l * sumL l = G at *
    generalize hDD : l.length * t - sumL l = D at *
    have hL : (cntL l t : Int) ≤ l.length := by omega
    generalize hC : cntL l t = C at *
    generalize hN : l.length = N at *
    have h1 : (C : Int) * (c - G) ≤ N * (c - G) := Int.mul_le_mul_of_nonneg_right hL (by omega)
    have h2 : (C : Int) * (c * 2 ^ k) ≤ C * (D * D + c) := Int.mul_le_mul_of_nonneg_left hk (by omega)
    have h3 : (C : Int) * (D * D + c) ≤ N * c := by
      have e1 : (C : Int) * (D * D + c) = C * (D * D + G) + C * (c - G) := by grind
      have e2 : (N : Int) * c = N * G + N * (c - G) := by grind
      omega
    have h4 : c * ((C : Int) * 2 ^ k) ≤ c * N := by
      have e1 : c * ((C : Int) * 2 ^ k) = C * (c * 2 ^ k) := by grind
      have e2 : c * (N : Int) = N * c := Int.mul_comm ..
      rw [e1, e2]; omega
    have h5 := Int.le_of_mul_le_mul_left h4 hc
    have e : ((C * 2 ^ k : Nat) : Int) = (C : Int) * 2 ^ k := by push_cast; rfl
    omega
def gl : List (Nat × Say) := [(33, lbegunS), (34, windowS), (31, withinS), (24, lofS), (43, countS)]
theorem gl_ok : GamOk Try.prog (gamY gl) := gam_ok (gam_cons lbegun_ok (gam_cons window_ok (gam_cons within_ok (gam_cons lof_ok (gam_cons count_ok gam_nil)))))
theorem LevelCantelli_vc (l : List Int) (bl : AllI l) (n : Int) (bn : I64 n) (k : Int) (bk : I64 k) : vcFun (gamY gl) y8 [.rw (.ints .i64 l), .int .i64 n, .int .i64 k] none (fun v o => v = .bool true) := by
  obtain ⟨w1, w2, w3⟩ := winL_ok l
  generalize hww : winL l = w at *
  have hm := withinN_lt n (n := 1000) (by omega)
  generalize hmm : withinN n 1000 = m at *
  have hs := withinN_lt k (n := 16777226) (by omega)
  generalize hss : withinN k 16777226 = t at *
  have i1 : I64 1000 := by unfold I64; omega
  have i2 : I64 16777226 := by unfold I64; omega
  have c1 := i64_wrap (show I64 (1 + m) by unfold I64; omega)
  have hk : lkE 64 w (1 + m) = 0 := lkE_0.2 ⟨w3, by omega, by omega⟩
  have e1 : olE 64 w (1 + m) t = 0 := olE_0.2 ⟨hk, by omega⟩
  have v1 : olN 64 w (1 + m) t = lvN w.length (sumL w) (scL w (1 + m)) t := if_pos e1
  have hl := (winE_0.1 w3).2.2
  obtain ⟨q1, q2, q3⟩ := lv_cond hk
  have hG : w.length * sqL w - sumL w * sumL w ≤ scL w (1 + m) := by unfold scL; split <;> omega
  have hc := lv_cantelli (l := w) (t := t) (show 0 < scL w (1 + m) by omega) hG
  generalize lvN w.length (sumL w) (scL w (1 + m)) t = K at *
  generalize hC : cntL w t = C at *
  have m4 : (0 : Int) ≤ (K : Int) := by omega
  by_cases h0 : C = 0
  · have h0' : ((C : Int) == 0) = true := by simp [h0]
    simp (config := { maxSteps := 9000000 }) only [↓z_fun, ↓kOps_ap, ↓kReg_ap, ↓kSeq_n, ↓kSeq_e, ↓kSeq_r, ↓kBlk_n, ↓kBlk_e, ↓kBlk_r, ↓kFun_e, ↓kFun_n, ↓kFun_r, ↓e_skip, ↓z_reg, ↓e_frz0, ↓e_frz1, ↓z_seq, ↓e_cond, ↓z_block, ↓e_exit, ↓e_ret, ↓e_loop, f_nil, f_cons, n_nil, n_cons, f_agg, f_int, f_bool, f_str, f_nilv, f_sl, f_ptr, f_gp, g_gp, f_fz, f_clo, f_tup, f_elem, f_unk, f_rw, f_nrw, f_srw, g_nil, g_cons, g_int, g_bool, g_str, g_nilv, g_sl, g_ptr, g_fz, g_clo, g_unk, g_rw, g_nrw, g_srw, c_var, c_row, c_frow, r_sl, r_rw, r_nn, inj_bool, inj_str, inj_ints, inj_bools, inj_row, inj_sl, inj_int, ↓e_nil, ↓z_op, ↓z_opg, ↓o_mov, ↓o_pick, ↓o_bin, ↓o_eqb, ↓o_eqs, ↓o_bins, binS, ↓o_neg, ↓o_xor, ↓o_not, ↓o_conv, ↓o_faddr, ↓o_fld, ↓o_ext, ↓o_mx, b_max, b_min, ↓o_mx3, b_max3, b_min3, ↓o_build, ↓o_box, ↓o_alloc, ↓o_load, ↓o_len, ↓o_lenS, ↓o_idx, ↓o_lit, ↓o_litf, SV.go1, SV.go0, ↓o_mk, ↓o_app, ↓o_sub, ↓o_ssub, ↓o_sidx, ↓o_aidx, ↓o_aptr, ↓o_mkf, ↓o_nilrow, ↓o_isnil, ↓o_bad, ↓a_slr, ↓a_sls, ↓a_sln, ↓a_nil, appR_some, k_none, k_val, k_new, k_set, l_nil, l_cons, mkRow, intsOf, boolsOf, strsOf, chunks, Row.rep, Row.cat, Row.sub, Row.put, Row.len, Row.get, Row.size, Row.flat, bnds, own0, own1, labsL, labsR, SV.labs, ↓o_store, ↓o_call, ↓o_callv, ↓o_callw, ↓o_apps, m_apps, ↓o_tob, ↓o_tos, t_nil, t_rw, t_sl, ↓o_calla, m_calla, ap_some, w_some, k_ble, c_none, c_some, v_some, argsOf, b_add, b_sub, b_mul, b_quo, b_rem, b_and, b_or, b_xor, b_andNot, b_eql, b_neq, b_lss, b_leq, b_gtr, b_geq, b_shl, b_shr, entFr, SO.ev, fr_put, put_none, mem_put', fr_setm, mem_setm, setM_at, fr_fl, mem_fl, memOf_at, St.of, keepSt, getAll, lookN, hasN, SV.cells, SV.one, SV.res1, SV.res0, SV.resP, SV.ok1, SV.ok0, SV.okN, SV.solid, SV.solid1, SV.solid0, SV.flat0, SV.nm, SV.nm1, SV.nm0, SV.noPtr1, SV.noPtr0, Cel.isFresh, fillP, setAt, partV, eqCells, cellEq, gamY, listsOk, tupOf, takeOwn, SV.ret1, ret_fl, resAll, resL, resV, List.map_cons, List.map_nil, List.flatMap_cons, List.flatMap_nil, List.append_nil, List.nil_append, List.cons_append, List.all_cons, List.all_nil, List.isEmpty_nil, List.isEmpty_cons, Option.map_some, Option.map_none, Option.getD_some, Option.getD_none, Option.isSome_some, Option.isSome_none, Option.isNone_none, Option.isNone_some, Option.toList_none, Option.toList_some, Nat.reduceEqDiff, ↓reduceIte, Nat.reduceAdd, Nat.reduceMul, List.length_cons, List.length_nil, Nat.reduceLeDiff, Nat.reduceLT, List.replicate_zero, List.replicate_succ, List.flatten_nil, List.flatten_cons, List.set_cons_zero, List.set_cons_succ, List.drop_zero, List.drop_succ_cons, List.take_succ_cons, List.take_zero, List.getElem?_cons_zero, List.getElem?_cons_succ, Bool.and_true, Bool.and_false, Bool.false_and, Bool.true_and, Bool.or_false, Bool.or_true, Bool.true_or, Bool.false_or, Bool.not_true, Bool.not_false, Bool.and_self, true_and, and_true, Bool.false_eq_true, reduceCtorEq, labOk, Int.reduceBEq, Int.reduceBNe, Int.reduceToNat, Int.reduceLE, Int.reduceLT, Int.reduceEq, Nat.reduceDiv, Nat.reduceMod, Nat.reduceSub, BEq.rfl, beq_self_eq_true, bne_self_eq_false, decide_true, decide_false, Int.natCast_zero, Int.natCast_one, Int.cast_ofNat_Int, decide_eq_true_eq, decide_eq_false_iff_not, and_self, Nat.reduceBEq, Int.natCast_add, List.length_append, y8, gl, lbegunS, windowS, withinS, lofS, countS, asI, hww, hmm, hss, i1, i2, c1, e1, v1, hl, hC, m4, h0']
  · have h0' : ((C : Int) == 0) = false := beq_eq_false_iff_ne.2 (by omega)
    have hK : K < 7 := by
      refine Nat.lt_of_not_le fun h => ?_
      have h1 := Nat.pow_le_pow_right (show 0 < 2 by omega) h
      have h2 : 2 ^ K ≤ C * 2 ^ K := Nat.le_mul_of_pos_left _ (Nat.pos_of_ne_zero h0)
      omega
    have hK' : (K : Int) < 7 := by omega
    have hmin : min K 64 = K := by omega
    have hP : ((C * 2 ^ K : Nat) : Int) = (C : Int) * 2 ^ K := by push_cast; rfl
    have hw : IntKind.i64.wrap ((C : Int) * 2 ^ K) = ((C * 2 ^ K : Nat) : Int) := by rw [hP]; exact i64_wrap (by rw [← hP]; unfold I64; omega)
    generalize C * 2 ^ K = X at *
    have hX : (X : Int) ≤ (w.length : Int) := by omega
    simp (config := { maxSteps := 9000000 }) only [↓z_fun, ↓kOps_ap, ↓kReg_ap, ↓kSeq_n, ↓kSeq_e, ↓kSeq_r, ↓kBlk_n, ↓kBlk_e, ↓kBlk_r, ↓kFun_e, ↓kFun_n, ↓kFun_r, ↓e_skip, ↓z_reg, ↓e_frz0, ↓e_frz1, ↓z_seq, ↓e_cond, ↓z_block, ↓e_exit, ↓e_ret, ↓e_loop, f_nil, f_cons, n_nil, n_cons, f_agg, f_int, f_bool, f_str, f_nilv, f_sl, f_ptr, f_gp, g_gp, f_fz, f_clo, f_tup, f_elem, f_unk, f_rw, f_nrw, f_srw, g_nil, g_cons, g_int, g_bool, g_str, g_nilv, g_sl, g_ptr, g_fz, g_clo, g_unk, g_rw, g_nrw, g_srw, c_var, c_row, c_frow, r_sl, r_rw, r_nn, inj_bool, inj_str, inj_ints, inj_bools, inj_row, inj_sl, inj_int, ↓e_nil, ↓z_op, ↓z_opg, ↓o_mov, ↓o_pick, ↓o_bin, ↓o_eqb, ↓o_eqs, ↓o_bins, binS, ↓o_neg, ↓o_xor, ↓o_not, ↓o_conv, ↓o_faddr, ↓o_fld, ↓o_ext, ↓o_mx, b_max, b_min, ↓o_mx3, b_max3, b_min3, ↓o_build, ↓o_box, ↓o_alloc, ↓o_load, ↓o_len, ↓o_lenS, ↓o_idx, ↓o_lit, ↓o_litf, SV.go1, SV.go0, ↓o_mk, ↓o_app, ↓o_sub, ↓o_ssub, ↓o_sidx, ↓o_aidx, ↓o_aptr, ↓o_mkf, ↓o_nilrow, ↓o_isnil, ↓o_bad, ↓a_slr, ↓a_sls, ↓a_sln, ↓a_nil, appR_some, k_none, k_val, k_new, k_set, l_nil, l_cons, mkRow, intsOf, boolsOf, strsOf, chunks, Row.rep, Row.cat, Row.sub, Row.put, Row.len, Row.get, Row.size, Row.flat, bnds, own0, own1, labsL, labsR, SV.labs, ↓o_store, ↓o_call, ↓o_callv, ↓o_callw, ↓o_apps, m_apps, ↓o_tob, ↓o_tos, t_nil, t_rw, t_sl, ↓o_calla, m_calla, ap_some, w_some, k_ble, c_none, c_some, v_some, argsOf, b_add, b_sub, b_mul, b_quo, b_rem, b_and, b_or, b_xor, b_andNot, b_eql, b_neq, b_lss, b_leq, b_gtr, b_geq, b_shl, b_shr, entFr, SO.ev, fr_put, put_none, mem_put', fr_setm, mem_setm, setM_at, fr_fl, mem_fl, memOf_at, St.of, keepSt, getAll, lookN, hasN, SV.cells, SV.one, SV.res1, SV.res0, SV.resP, SV.ok1, SV.ok0, SV.okN, SV.solid, SV.solid1, SV.solid0, SV.flat0, SV.nm, SV.nm1, SV.nm0, SV.noPtr1, SV.noPtr0, Cel.isFresh, fillP, setAt, partV, eqCells, cellEq, gamY, listsOk, tupOf, takeOwn, SV.ret1, ret_fl, resAll, resL, resV, List.map_cons, List.map_nil, List.flatMap_cons, List.flatMap_nil, List.append_nil, List.nil_append, List.cons_append, List.all_cons, List.all_nil, List.isEmpty_nil, List.isEmpty_cons, Option.map_some, Option.map_none, Option.getD_some, Option.getD_none, Option.isSome_some, Option.isSome_none, Option.isNone_none, Option.isNone_some, Option.toList_none, Option.toList_some, Nat.reduceEqDiff, ↓reduceIte, Nat.reduceAdd, Nat.reduceMul, List.length_cons, List.length_nil, Nat.reduceLeDiff, Nat.reduceLT, List.replicate_zero, List.replicate_succ, List.flatten_nil, List.flatten_cons, List.set_cons_zero, List.set_cons_succ, List.drop_zero, List.drop_succ_cons, List.take_succ_cons, List.take_zero, List.getElem?_cons_zero, List.getElem?_cons_succ, Bool.and_true, Bool.and_false, Bool.false_and, Bool.true_and, Bool.or_false, Bool.or_true, Bool.true_or, Bool.false_or, Bool.not_true, Bool.not_false, Bool.and_self, true_and, and_true, Bool.false_eq_true, reduceCtorEq, labOk, Int.reduceBEq, Int.reduceBNe, Int.reduceToNat, Int.reduceLE, Int.reduceLT, Int.reduceEq, Nat.reduceDiv, Nat.reduceMod, Nat.reduceSub, BEq.rfl, beq_self_eq_true, bne_self_eq_false, decide_true, decide_false, Int.natCast_zero, Int.natCast_one, Int.cast_ofNat_Int, decide_eq_true_eq, decide_eq_false_iff_not, and_self, Nat.reduceBEq, Int.natCast_add, List.length_append, y8, gl, lbegunS, windowS, withinS, lofS, countS, asI, hww, hmm, hss, i1, i2, c1, e1, v1, hl, hC, m4, h0', hK', Int.toNat_natCast, IntKind.bits, hmin, hw, hX]
theorem LevelCantelli_walk (W : World) (v0 : Value) (l0 : List Int) (b0 : AllI l0) (i0 : Is (E0 W fun _ => False) (.rw (.ints .i64 l0)) v0) (n1 : Int) (b1 : I64 n1) (n2 : Int) (b2 : I64 n2) :
    Calls Try.prog 8 #[v0, .int .i64 n1, .int .i64 n2] W fun e w' => e = .returned (.bool true) ∧ Below W.heap.size W w' :=
  law_callY gl_ok lawy_mixed y8_eq (LevelCantelli_vc l0 b0 n1 b1 n2 b2) (Nat.le_of_ble_eq_true rfl) W (lawy_glb W) [v0, .int .i64 n1, .int .i64 n2] (All.cons i0 (All.cons (.int _ _) (All.cons (.int _ _) All.nil)))
set_option maxRecDepth 100000 in
theorem LevelCantelli_lifted (os : Os) (started : os.Started) (H : Type) (enc : TypeId × Value → H) :
    ReturnsInHanded {} Try.checked os 8 .any (Rows.levelCantelliSpec.pre6 enc Try.prog Try.f8 Rows.levelCantelliRow.domain false) (Rows.levelCantelliSpec.post enc Try.prog Try.f8 false true false false) := by
  refine returnsInHanded_of_change (C := Try.checked) lawy_own started (by kernel_rfl) Try.func8
    (ChangeSpec.witness6 (enc := enc) (C := Try.checked) false ⟨#[], #[.slice none 0 0, .int .i64 0, .int .i64 0], []⟩ 8 (by kernel_rfl) (by kernel_rfl) (by kernel_rfl) (by kernel_rfl)) ?_
  intro W base args ds gs before hval0 hW hcnd _
  have hval : ∀ (j : Nat) t v, Try.f8.params[j]? = some t → args[j]? = some v → Value.okWide Try.prog W .any base t v := hval0
  have hW' := hW
  obtain ⟨p, q, hA0, hV, rfl, hfz, hnd⟩ := hW
  have hA : DataW.TrodAll enc Try.prog W 0 (fun _ => true) true Try.f8.params.toList args.toList ds p := hA0
  rw [Try.params8] at hA hval
  obtain ⟨v0, vs0, d0, ds0, p0, q0, hargs, rfl, rfl, h0, r0⟩ := trodAll_cons hA
  obtain ⟨v1, vs1, d1, ds1, p1, q1, rfl, rfl, rfl, h1, r1⟩ := trodAll_cons r0
  obtain ⟨v2, vs2, d2, ds2, p2, q2, rfl, rfl, rfl, h2, r2⟩ := trodAll_cons r1
  obtain ⟨rfl, rfl, rfl⟩ := trodAll_nil r2
  obtain rfl : args = #[v0, v1, v2] := by cases args; simp_all
  obtain ⟨rfl, rfl⟩ := trodVars_none hV
  have lt0 := places_lt h0
  obtain ⟨l0, hl0, hi0⟩ := open_ints Try.underlying37 Try.underlying3 (by kernel_rfl) (hval 0 37 v0 rfl rfl) h0
  have lt1 := places_lt h1
  obtain ⟨n1, e1, _, _, wn1⟩ := open_int Try.underlying3 (hval 1 3 v1 rfl rfl) h1
  subst e1
  have lt2 := places_lt h2
  obtain ⟨n2, e2, _, _, wn2⟩ := open_int Try.underlying3 (hval 2 3 v2 rfl rfl) h2
  subst e2
  clear hA0 hval0
  refine (LevelCantelli_walk W v0 l0 hl0 hi0 n1 (i64_of wn1) n2 (i64_of wn2)).mono fun e W' ⟨he, bel⟩ => ?_
  subst he
  exact ⟨_, rfl, _, _, _, [], _, [], hW', trodAll_mk1 (shut_bool Try.underlying4 _), (trodAll_cons_mk (bel.trod lawy_laid (by kernel_rfl) (of_decide_eq_true (by kernel_rfl)) h0 lt0) (trodAll_cons_mk (bel.trod lawy_laid (by kernel_rfl) (of_decide_eq_true (by kernel_rfl)) h1 lt1) (trodAll_cons_mk (bel.trod lawy_laid (by kernel_rfl) (of_decide_eq_true (by kernel_rfl)) h2 lt2) trodAll_mk0))), rfl, bel.frame _, fun h => by cases h⟩
theorem LevelCantelli_holds : Rows.LevelCantelliSaid :=
  OpenClaim.holds_of_wide 8 Try.f8 rfl rfl rfl rfl rfl rfl rfl ⟨rfl, rfl, rfl, rfl, rfl⟩ rfl rfl rfl rfl rfl (by kernel_rfl) Try.func8 (by kernel_rfl)
    (of_decide_eq_true (by kernel_rfl)) (by unfold Func.isWrapper; first | (rw [if_pos (by decide +kernel)]; kernel_rfl) | (rw [if_neg (by decide +kernel)]; exact ⟨rfl, rfl⟩))
    (fun os started H enc _ => LevelCantelli_lifted os started H enc)
end Go.Proofs.Ytidafhjdpklgbaa
