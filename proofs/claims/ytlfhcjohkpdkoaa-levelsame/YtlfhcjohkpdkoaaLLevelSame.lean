/- hwkeep.LevelSame returns true for every four whole numbers. No condition. -/
import Derived.Test.YtlfhcjohkpdkoaaYLw
import Derived.Test.YtlfhcjohkpdkoaaYKh
import Derived.Test.YtlfhcjohkpdkoaaYRp
import Derived.Test.YtlfhcjohkpdkoaaCYLevelSame
namespace Go.Proofs.Ytlfhcjohkpdkoaa
open Go.ChangeShapes Go.WideShapes Go.ChangeAt Go.RowKit Go.Joins Y
set_option linter.unusedSimpArgs false
set_option linter.unusedVariables false
set_option maxRecDepth 100000
set_option maxHeartbeats 40000000
def gl : List (Nat × Say) := [(36, lbegunS), (27, withinS), (37, lofS), (39, numS), (38, halvS), (33, repS)]
theorem gl_ok : GamOk Try.prog (gamY gl) := gam_ok (gam_cons lbegun_ok (gam_cons within_ok (gam_cons lof_ok (gam_cons num_ok (gam_cons halv_ok (gam_cons rep_ok gam_nil))))))
theorem same_sum (m : Int) : ∀ k : Nat, sumL (List.replicate k m) = k * m ∧ sqL (List.replicate k m) = k * (m * m)
  | 0 => by simp [sumL, sqL]
  | k + 1 => by
    obtain ⟨h1, h2⟩ := same_sum m k
    rw [List.replicate_succ, sumL_cons, sqL_cons, h1, h2]
    refine ⟨?_, ?_⟩
    · rw [Int.natCast_add, Int.natCast_one, Int.add_mul, Int.one_mul]; omega
    · rw [Int.natCast_add, Int.natCast_one, Int.add_mul, Int.one_mul]; omega
theorem same_sc {m L : Int} {k : Nat} (hk : 1 ≤ k) (hL : 1 ≤ L) : scL (List.replicate k m) L = (k * L) * (k * L) := by
  obtain ⟨h1, h2⟩ := same_sum m k
  unfold scL
  rw [h1, h2, List.length_replicate]
  have e : (k : Int) * (k * (m * m)) - k * m * (k * m) = 0 := by grind
  have h3 : 0 < (k : Int) * L := Int.mul_pos (by omega) (by omega)
  have h4 : 0 < (k : Int) * L * (k * L) := Int.mul_pos h3 h3
  rw [e, if_pos h4]
theorem same_lv {m L T : Int} {k : Nat} (hk : 1 ≤ k) (hL : 1 ≤ L) (hT : 1 ≤ T) : lvN (List.replicate k m).length (sumL (List.replicate k m)) (scL (List.replicate k m) L) (m + T * L) = halvN (T.toNat * T.toNat + 1) 1 := by
  rw [same_sc hk hL, (same_sum m k).1, List.length_replicate]
  have h3 : 0 < (k : Int) * L := Int.mul_pos (by omega) (by omega)
  rw [lv_times (n := 1) (s := 0) (c := 1) (t := T) (m := (k : Int) * L) (by omega) h3 (by grind) (by grind)]
  unfold lvN
  rw [if_neg (by omega), show (1 * T - 0) = T by omega]
  rfl
theorem LevelSame_in (n0 k0 l0 t0 n a b c t P : Int) (k H U : Nat) (hn : withinN n0 100000 = n) (hk : withinN k0 64 = a) (hkk : 1 + a = (k : Int)) (hl : withinN l0 100 = b) (hL : 1 + b = c) (ht : withinN t0 10000 = P) (hT : 1 + P = t) (hn1 : 0 ≤ n ∧ n ≤ 100000) (hk1 : 1 ≤ k ∧ k ≤ 64) (hc1 : 1 ≤ c ∧ c ≤ 100) (ht1 : 1 ≤ t ∧ t ≤ 10000) (hU : 1 + t * t = (U : Int)) (hUb : U ≤ 200000000)
    (e1 : olE 64 (List.replicate k n) c (n + t * c) = 0) (v1 : olN 64 (List.replicate k n) c (n + t * c) = H) (h1 : halvE U 1 = 0) (h2 : halvN U 1 = H) (hH : H ≤ 1000) :
    vcFun (gamY gl) y12 [.int .i64 n0, .int .i64 k0, .int .i64 l0, .int .i64 t0] none (fun v o => v = .bool true) := by
  have w1 : I64 100000 := by unfold I64; omega
  have w2 : I64 64 := by unfold I64; omega
  have w3 : I64 100 := by unfold I64; omega
  have w4 : I64 10000 := by unfold I64; omega
  have c1 := i64_wrap (show I64 (k : Int) by unfold I64; omega)
  have c2 := i64_wrap (show I64 c by unfold I64; omega)
  have c3 := i64_wrap (show I64 t by unfold I64; omega)
  have m1 := mul_bd (x := t) (y := c) (X := 10000) (Y := 100) (by omega) (by omega) (by omega) (by omega)
  have m2 := mul_bd (x := t) (y := t) (X := 10000) (Y := 10000) (by omega) (by omega) (by omega) (by omega)
  have c4 := i64_wrap (show I64 (t * c) by unfold I64; omega)
  have c5 := i64_wrap (show I64 (n + t * c) by unfold I64; omega)
  have c6 := i64_wrap (show I64 (t * t) by unfold I64; omega)
  have c7 := i64_wrap (show I64 (U : Int) by unfold I64; omega)
  have k1 : (1 : Int) ≤ (k : Int) := by omega
  have k2 : (k : Int) ≤ 1000 := by omega
  have g1 : ([n] : List Int).getD 0 0 = n := rfl
  have u1 : (0 : Int) ≤ (U : Int) := by omega
  have u2 : (U : Int) ≤ 9223372036854775807 := by omega
  have f1 : Fits U := fits_lt.2 (by omega)
  have f2 : Fits 1 := fits_lt.2 (by omega)
  simp (config := { maxSteps := 9000000 }) only [↓z_fun, ↓kOps_ap, ↓kReg_ap, ↓kSeq_n, ↓kSeq_e, ↓kSeq_r, ↓kBlk_n, ↓kBlk_e, ↓kBlk_r, ↓kFun_e, ↓kFun_n, ↓kFun_r, ↓e_skip, ↓z_reg, ↓e_frz0, ↓e_frz1, ↓z_seq, ↓e_cond, ↓z_block, ↓e_exit, ↓e_ret, ↓e_loop, f_nil, f_cons, n_nil, n_cons, f_agg, f_int, f_bool, f_str, f_nilv, f_sl, f_ptr, f_gp, g_gp, f_fz, f_clo, f_tup, f_elem, f_unk, f_rw, f_nrw, f_srw, g_nil, g_cons, g_int, g_bool, g_str, g_nilv, g_sl, g_ptr, g_fz, g_clo, g_unk, g_rw, g_nrw, g_srw, c_var, c_row, c_frow, r_sl, r_rw, r_nn, inj_bool, inj_str, inj_ints, inj_bools, inj_row, inj_sl, inj_int, ↓e_nil, ↓z_op, ↓z_opg, ↓o_mov, ↓o_pick, ↓o_bin, ↓o_eqb, ↓o_eqs, ↓o_bins, binS, ↓o_neg, ↓o_xor, ↓o_not, ↓o_conv, ↓o_faddr, ↓o_fld, ↓o_ext, ↓o_mx, b_max, b_min, ↓o_mx3, b_max3, b_min3, ↓o_build, ↓o_box, ↓o_alloc, ↓o_load, ↓o_len, ↓o_lenS, ↓o_idx, ↓o_lit, ↓o_litz, ↓o_litf, SV.go1, SV.go0, ↓o_mk, ↓o_app, ↓o_sub, ↓o_ssub, ↓o_sidx, ↓o_aidx, ↓o_aptr, ↓o_mkf, ↓o_nilrow, ↓o_isnil, ↓o_bad, ↓a_slr, ↓a_sls, ↓a_sln, ↓a_nil, appR_some, k_none, k_val, k_new, k_set, l_nil, l_cons, mkRow, intsOf, boolsOf, strsOf, chunks, Row.rep, Row.cat, Row.sub, Row.put, Row.len, Row.get, Row.size, Row.flat, bnds, own0, own1, labsL, labsR, SV.labs, ↓o_store, ↓o_call, ↓o_callv, ↓o_callw, ↓o_apps, m_apps, ↓o_tob, ↓o_tos, t_nil, t_rw, t_sl, ↓o_calla, m_calla, ap_some, w_some, k_ble, c_none, c_some, v_some, argsOf, b_add, b_sub, b_mul, b_quo, b_rem, b_and, b_or, b_xor, b_andNot, b_eql, b_neq, b_lss, b_leq, b_gtr, b_geq, b_shl, b_shr, entFr, SO.ev, fr_put, put_none, mem_put', fr_setm, mem_setm, setM_at, fr_fl, mem_fl, memOf_at, St.of, keepSt, getAll, lookN, hasN, SV.cells, SV.one, SV.res1, SV.res0, SV.resP, SV.ok1, SV.ok0, SV.okN, SV.solid, SV.solid1, SV.solid0, SV.flat0, SV.nm, SV.nm1, SV.nm0, SV.noPtr1, SV.noPtr0, Cel.isFresh, fillP, setAt, partV, eqCells, cellEq, gamY, listsOk, tupOf, takeOwn, SV.ret1, ret_fl, resAll, resL, resV, List.map_cons, List.map_nil, List.flatMap_cons, List.flatMap_nil, List.append_nil, List.nil_append, List.cons_append, List.all_cons, List.all_nil, List.isEmpty_nil, List.isEmpty_cons, Option.map_some, Option.map_none, Option.getD_some, Option.getD_none, Option.isSome_some, Option.isSome_none, Option.isNone_none, Option.isNone_some, Option.toList_none, Option.toList_some, Nat.reduceEqDiff, ↓reduceIte, Nat.reduceAdd, Nat.reduceMul, List.length_cons, List.length_nil, Nat.reduceLeDiff, Nat.reduceLT, List.replicate_zero, List.replicate_succ, List.flatten_nil, List.flatten_cons, List.set_cons_zero, List.set_cons_succ, List.drop_zero, List.drop_succ_cons, List.take_succ_cons, List.take_zero, List.getElem?_cons_zero, List.getElem?_cons_succ, Bool.and_true, Bool.and_false, Bool.false_and, Bool.true_and, Bool.or_false, Bool.or_true, Bool.true_or, Bool.false_or, Bool.not_true, Bool.not_false, Bool.and_self, true_and, and_true, Bool.false_eq_true, reduceCtorEq, labOk, Int.reduceBEq, Int.reduceBNe, Int.reduceToNat, Int.reduceLE, Int.reduceLT, Int.reduceEq, Nat.reduceDiv, Nat.reduceMod, Nat.reduceSub, BEq.rfl, beq_self_eq_true, bne_self_eq_false, decide_true, decide_false, Int.natCast_zero, Int.natCast_one, Int.cast_ofNat_Int, decide_eq_true_eq, decide_eq_false_iff_not, and_self, Nat.reduceBEq, Int.natCast_add, List.length_append, fitR, fitR1, fitR0, fitRL1, fitRL, wd, wN_hl, OkW_hl, eq_hl, eq_h0, wN_0, OkW_0, cmpN_le0, cmpN_gt0, cmpN_lt0, cmpN_ge0, Int.toNat_natCast, y12, gl, lbegunS, withinS, lofS, numS, halvS, repS, asI, hn, hk, hkk, hl, hL, ht, hT, w1, w2, w3, w4, c1, c2, c3, c4, c5, c6, c7, k1, k2, g1, u1, u2, f1, f2, hU, e1, v1, h1, h2, List.length_cons, List.length_nil]
theorem LevelSame_vc (n0 : Int) (b1 : I64 n0) (k0 : Int) (b2 : I64 k0) (l0 : Int) (b3 : I64 l0) (t0 : Int) (b4 : I64 t0) : vcFun (gamY gl) y12 [.int .i64 n0, .int .i64 k0, .int .i64 l0, .int .i64 t0] none (fun v o => v = .bool true) := by
  have hn := withinN_lt n0 (n := 100000) (by omega)
  have hk := withinN_lt k0 (n := 64) (by omega)
  have hl := withinN_lt l0 (n := 100) (by omega)
  have ht := withinN_lt t0 (n := 10000) (by omega)
  obtain ⟨k, hkk⟩ := Int.eq_ofNat_of_zero_le (show 0 ≤ 1 + withinN k0 64 by omega)
  generalize hnn : withinN n0 100000 = n at *
  generalize hcc : withinN l0 100 = b at *
  generalize htt : withinN t0 10000 = p at *
  have hr : lkE 64 (List.replicate k n) (1 + b) = 0 := lkE_0.2 ⟨winE_0.2 ⟨by omega, by simp; omega, listE_0.2 ⟨by simp; omega, fun x hx => by
    have := List.eq_of_mem_replicate hx; omega⟩⟩, by omega, by simp; omega⟩
  have m1 := mul_bd (x := 1 + p) (y := 1 + b) (X := 10000) (Y := 100) (by omega) (by omega) (by omega) (by omega)
  have m2 := mul_bd (x := 1 + p) (y := 1 + p) (X := 10000) (Y := 10000) (by omega) (by omega) (by omega) (by omega)
  have e1 : olE 64 (List.replicate k n) (1 + b) (n + (1 + p) * (1 + b)) = 0 := olE_0.2 ⟨hr, by omega⟩
  obtain ⟨Q, hQ⟩ := Int.eq_ofNat_of_zero_le (show 0 ≤ 1 + p by omega)
  have hQQ : (1 + p) * (1 + p) = ((Q * Q : Nat) : Int) := by rw [hQ]; push_cast; rfl
  have hs := halvN_spec (a := Q * Q + 1) (b := 1) (by omega) (by omega)
  have hb : Q * Q + 1 ≤ 100000001 := by omega
  have hH : halvN (Q * Q + 1) 1 ≤ 1000 := by
    refine Nat.le_of_not_lt fun h => ?_
    have := Nat.pow_le_pow_right (n := 2) (by omega) (show 27 ≤ halvN (Q * Q + 1) 1 by omega)
    omega
  refine LevelSame_in n0 k0 l0 t0 n _ b (1 + b) (1 + p) p k (halvN (Q * Q + 1) 1) (Q * Q + 1) hnn rfl hkk hcc rfl htt rfl (by omega) (by omega) (by omega) (by omega) (by omega) (by omega) e1 ?_ ?_ rfl hH
  · refine (if_pos e1).trans ?_
    rw [same_lv (by omega) (by omega) (by omega), hQ, Int.toNat_natCast]
  · exact (if_neg (by omega)).trans (if_neg (by omega))
theorem LevelSame_walk (W : World) (n0 : Int) (b0 : I64 n0) (n1 : Int) (b1 : I64 n1) (n2 : Int) (b2 : I64 n2) (n3 : Int) (b3 : I64 n3) :
    Calls Try.prog 12 #[.int .i64 n0, .int .i64 n1, .int .i64 n2, .int .i64 n3] W fun e w' => e = .returned (.bool true) ∧ Below W.heap.size W w' :=
  law_callY gl_ok lawy_mixed y12_eq (LevelSame_vc n0 b0 n1 b1 n2 b2 n3 b3) (Nat.le_of_ble_eq_true rfl) W (lawy_glb W) [.int .i64 n0, .int .i64 n1, .int .i64 n2, .int .i64 n3] (All.cons (.int _ _) (All.cons (.int _ _) (All.cons (.int _ _) (All.cons (.int _ _) All.nil))))
set_option maxRecDepth 100000 in
theorem LevelSame_lifted (os : Os) (started : os.Started) (H : Type) (enc : TypeId × Value → H) :
    ReturnsInHanded {} Try.checked os 12 .any (Rows.levelSameSpec.pre6 enc Try.prog Try.f12 Rows.levelSameRow.domain false) (Rows.levelSameSpec.post enc Try.prog Try.f12 false true false false) := by
  refine returnsInHanded_of_change (C := Try.checked) lawy_own started (by kernel_rfl) Try.func12
    (ChangeSpec.witness6 (enc := enc) (C := Try.checked) false ⟨#[], #[.int .i64 0, .int .i64 0, .int .i64 0, .int .i64 0], []⟩ 8 (by kernel_rfl) (by kernel_rfl) (by kernel_rfl) (by kernel_rfl)) ?_
  intro W base args ds gs before hval0 hW hcnd _
  have hval : ∀ (j : Nat) t v, Try.f12.params[j]? = some t → args[j]? = some v → Value.okWide Try.prog W .any base t v := hval0
  have hW' := hW
  obtain ⟨p, q, hA0, hV, rfl, hfz, hnd⟩ := hW
  have hA : DataW.TrodAll enc Try.prog W 0 (fun _ => true) true Try.f12.params.toList args.toList ds p := hA0
  rw [Try.params12] at hA hval
  obtain ⟨v0, vs0, d0, ds0, p0, q0, hargs, rfl, rfl, h0, r0⟩ := trodAll_cons hA
  obtain ⟨v1, vs1, d1, ds1, p1, q1, rfl, rfl, rfl, h1, r1⟩ := trodAll_cons r0
  obtain ⟨v2, vs2, d2, ds2, p2, q2, rfl, rfl, rfl, h2, r2⟩ := trodAll_cons r1
  obtain ⟨v3, vs3, d3, ds3, p3, q3, rfl, rfl, rfl, h3, r3⟩ := trodAll_cons r2
  obtain ⟨rfl, rfl, rfl⟩ := trodAll_nil r3
  obtain rfl : args = #[v0, v1, v2, v3] := by cases args; simp_all
  obtain ⟨rfl, rfl⟩ := trodVars_none hV
  have lt0 := places_lt h0
  obtain ⟨n0, e0, _, _, wn0⟩ := open_int Try.underlying3 (hval 0 3 v0 rfl rfl) h0
  subst e0
  have lt1 := places_lt h1
  obtain ⟨n1, e1, _, _, wn1⟩ := open_int Try.underlying3 (hval 1 3 v1 rfl rfl) h1
  subst e1
  have lt2 := places_lt h2
  obtain ⟨n2, e2, _, _, wn2⟩ := open_int Try.underlying3 (hval 2 3 v2 rfl rfl) h2
  subst e2
  have lt3 := places_lt h3
  obtain ⟨n3, e3, _, _, wn3⟩ := open_int Try.underlying3 (hval 3 3 v3 rfl rfl) h3
  subst e3
  clear hA0 hval0
  refine (LevelSame_walk W n0 (i64_of wn0) n1 (i64_of wn1) n2 (i64_of wn2) n3 (i64_of wn3)).mono fun e W' ⟨he, bel⟩ => ?_
  subst he
  exact ⟨_, rfl, _, _, _, [], _, [], hW', trodAll_mk1 (shut_bool Try.underlying4 _), (trodAll_cons_mk (bel.trod lawy_laid (by kernel_rfl) (of_decide_eq_true (by kernel_rfl)) h0 lt0) (trodAll_cons_mk (bel.trod lawy_laid (by kernel_rfl) (of_decide_eq_true (by kernel_rfl)) h1 lt1) (trodAll_cons_mk (bel.trod lawy_laid (by kernel_rfl) (of_decide_eq_true (by kernel_rfl)) h2 lt2) (trodAll_cons_mk (bel.trod lawy_laid (by kernel_rfl) (of_decide_eq_true (by kernel_rfl)) h3 lt3) trodAll_mk0)))), rfl, bel.frame _, fun h => by cases h⟩
theorem LevelSame_holds : Rows.LevelSameSaid :=
  OpenClaim.holds_of_wide 12 Try.f12 rfl rfl rfl rfl rfl rfl rfl ⟨rfl, rfl, rfl, rfl, rfl⟩ rfl rfl rfl rfl rfl (by kernel_rfl) Try.func12 (by kernel_rfl)
    (of_decide_eq_true (by kernel_rfl)) (by unfold Func.isWrapper; first | (rw [if_pos (by decide +kernel)]; kernel_rfl) | (rw [if_neg (by decide +kernel)]; exact ⟨rfl, rfl⟩))
    (fun os started H enc _ => LevelSame_lifted os started H enc)
end Go.Proofs.Ytlfhcjohkpdkoaa
