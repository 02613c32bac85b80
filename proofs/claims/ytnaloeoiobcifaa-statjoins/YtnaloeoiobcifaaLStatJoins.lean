/- hwkeep.StatJoins returns true for every two lists of whole numbers and every whole number. No condition. -/
import Derived.Test.YtnaloeoiobcifaaYS4
import Derived.Test.YtnaloeoiobcifaaYK3
import Derived.Test.YtnaloeoiobcifaaYSg
import Derived.Test.YtnaloeoiobcifaaYE2
import Derived.Test.YtnaloeoiobcifaaCYStatJoins
namespace Go.Proofs.Ytnaloeoiobcifaa
open Go.ChangeShapes Go.WideShapes Go.ChangeAt Go.RowKit Go.Joins Y
set_option linter.unusedSimpArgs false
set_option linter.unusedVariables false
set_option maxRecDepth 100000
set_option maxHeartbeats 40000000
def gl : List (Nat × Say) := [(44, begunS), (45, valuesS), (46, withinS), (48, sumsS), (47, joinS), (49, ofS), (50, addS), (51, lessS), (22, cloneS), (23, slcatS)]
theorem gl_ok : GamOk Try.prog (gamY gl) := gam_ok (gam_cons begun_ok (gam_cons values_ok (gam_cons within_ok (gam_cons sums_ok (gam_cons join_ok (gam_cons of_ok (gam_cons add_ok (gam_cons less_ok (gam_cons clone_ok (gam_cons slcat_ok gam_nil))))))))))
theorem StatJoins_vc (a : List Int) (ba : AllI a) (b : List Int) (bb : AllI b) (n : Int) (bn : I64 n) : vcFun (gamY gl) y7 [.rw (.ints .i64 a), .rw (.ints .i64 b), .int .i64 n] none (fun v o => v = .bool true) := by
  have hl := valsL_ok a
  have ho := ofV_0 hl
  have hk := check_of hl
  obtain ⟨h64, hv⟩ := listE_0.1 hl
  generalize hmm : valsL a = m at *
  have hl2 := valsL_ok b
  obtain ⟨h642, hv2⟩ := listE_0.1 hl2
  generalize hqq : valsL b = q at *
  have hd := withinN_lt n (n := 16777217) (by omega)
  generalize hdd : withinN n 16777217 = d at *
  have i1 : I64 16777217 := by unfold I64; omega
  have w0 := i64_wrap (show I64 (64 - (m.length : Int)) by unfold I64; omega)
  have et : List.take (if 64 - (m.length : Int) < (q.length : Int) then 64 - (m.length : Int) else (q.length : Int)).toNat q = q.take (64 - m.length) := by
    split
    · congr 1; omega
    · rw [List.take_of_length_le (by omega), List.take_of_length_le (by omega)]
  have et2 : (0 : Int) ≤ (if 64 - (m.length : Int) < (q.length : Int) then 64 - (m.length : Int) else (q.length : Int)) := by split <;> omega
  have et3 : (if 64 - (m.length : Int) < (q.length : Int) then 64 - (m.length : Int) else (q.length : Int)) ≤ (q.length : Int) := by split <;> omega
  have hrl : m.length + (q.take (64 - m.length)).length ≤ 64 := by rw [List.length_take]; omega
  have hrv : ∀ x ∈ q.take (64 - m.length), 0 ≤ x ∧ x ≤ 16777216 := fun x hx => hv2 x (List.mem_of_mem_take hx)
  generalize q.take (64 - m.length) = r at *
  have hr : listE r = 0 := listE_0.2 ⟨by omega, hrv⟩
  have hrk := check_of hr
  have hro := ofV_0 hr
  have hmr : listE (m ++ r) = 0 := listE_0.2 ⟨by rw [List.length_append]; exact hrl, fun x hx => by
    rcases List.mem_append.1 hx with h | h
    · exact hv x h
    · exact hrv x h⟩
  have hmo : ofV (m ++ r) = sv3 ((m.length : Int) + r.length) (sumL m + sumL r) (sqL m + sqL r) := by
    rw [ofV_0 hmr, sumL_append, sqL_append, List.length_append, Int.natCast_add]
  have jE : joinE m.length (sumL m) (sqL m) r.length (sumL r) (sqL r) = 0 := by
    unfold joinE; rw [if_pos hk, if_pos hrk, if_neg (by omega)]
  have jV : joinV m.length (sumL m) (sqL m) r.length (sumL r) (sqL r) = sv3 ((m.length : Int) + r.length) (sumL m + sumL r) (sqL m + sqL r) := by
    unfold joinV; rw [if_pos jE]
  have c1 : m.length + r.length ≤ 4294967296 := by omega
  have c2 : m.length ≤ 17592186044416 := by omega
  have r0 : ∀ x : Int, (x == x) = true := fun x => by simp
  have r1 : ∀ x : Int, (x != x) = false := fun x => by simp
  by_cases h0 : m.length = 64
  · have h0' : ((m.length : Int) == 64) = true := by rw [h0]; rfl
    simp (config := { maxSteps := 9000000 }) only [↓z_fun, ↓kOps_ap, ↓kReg_ap, ↓kSeq_n, ↓kSeq_e, ↓kSeq_r, ↓kBlk_n, ↓kBlk_e, ↓kBlk_r, ↓kFun_e, ↓kFun_n, ↓kFun_r, ↓e_skip, ↓z_reg, ↓e_frz0, ↓e_frz1, ↓z_seq, ↓e_cond, ↓z_block, ↓e_exit, ↓e_ret, ↓e_loop, f_nil, f_cons, n_nil, n_cons, f_agg, f_int, f_bool, f_str, f_nilv, f_sl, f_ptr, f_gp, g_gp, f_fz, f_clo, f_tup, f_elem, f_unk, f_rw, f_nrw, f_srw, g_nil, g_cons, g_int, g_bool, g_str, g_nilv, g_sl, g_ptr, g_fz, g_clo, g_unk, g_rw, g_nrw, g_srw, c_var, c_row, c_frow, r_sl, r_rw, r_nn, inj_bool, inj_str, inj_ints, inj_bools, inj_row, inj_sl, inj_int, ↓e_nil, ↓z_op, ↓z_opg, ↓o_mov, ↓o_pick, ↓o_bin, ↓o_eqb, ↓o_eqs, ↓o_bins, binS, ↓o_neg, ↓o_xor, ↓o_not, ↓o_conv, ↓o_faddr, ↓o_fld, ↓o_ext, ↓o_mx, b_max, b_min, ↓o_mx3, b_max3, b_min3, ↓o_build, ↓o_box, ↓o_alloc, ↓o_load, ↓o_len, ↓o_lenS, ↓o_idx, ↓o_lit, ↓o_litf, SV.go1, SV.go0, ↓o_mk, ↓o_app, ↓o_sub, ↓o_ssub, ↓o_sidx, ↓o_aidx, ↓o_aptr, ↓o_mkf, ↓o_nilrow, ↓o_isnil, ↓o_bad, ↓a_slr, ↓a_sls, ↓a_sln, ↓a_nil, appR_some, k_none, k_val, k_new, k_set, l_nil, l_cons, mkRow, intsOf, boolsOf, strsOf, chunks, Row.rep, Row.cat, Row.sub, Row.put, Row.len, Row.get, Row.size, Row.flat, bnds, own0, own1, labsL, labsR, SV.labs, ↓o_store, ↓o_call, ↓o_callv, ↓o_callw, ↓o_apps, m_apps, ↓o_tob, ↓o_tos, t_nil, t_rw, t_sl, ↓o_calla, m_calla, ap_some, w_some, k_ble, c_none, c_some, v_some, argsOf, b_add, b_sub, b_mul, b_quo, b_rem, b_and, b_or, b_xor, b_andNot, b_eql, b_neq, b_lss, b_leq, b_gtr, b_geq, b_shl, b_shr, entFr, SO.ev, fr_put, put_none, mem_put', fr_setm, mem_setm, setM_at, fr_fl, mem_fl, memOf_at, St.of, keepSt, getAll, lookN, hasN, SV.cells, SV.one, SV.res1, SV.res0, SV.resP, SV.ok1, SV.ok0, SV.okN, SV.solid, SV.solid1, SV.solid0, SV.flat0, SV.nm, SV.nm1, SV.nm0, SV.noPtr1, SV.noPtr0, Cel.isFresh, fillP, setAt, partV, eqCells, cellEq, gamY, listsOk, tupOf, takeOwn, SV.ret1, ret_fl, resAll, resL, resV, List.map_cons, List.map_nil, List.flatMap_cons, List.flatMap_nil, List.append_nil, List.nil_append, List.cons_append, List.all_cons, List.all_nil, List.isEmpty_nil, List.isEmpty_cons, Option.map_some, Option.map_none, Option.getD_some, Option.getD_none, Option.isSome_some, Option.isSome_none, Option.isNone_none, Option.isNone_some, Option.toList_none, Option.toList_some, Nat.reduceEqDiff, ↓reduceIte, Nat.reduceAdd, Nat.reduceMul, List.length_cons, List.length_nil, Nat.reduceLeDiff, Nat.reduceLT, List.replicate_zero, List.replicate_succ, List.flatten_nil, List.flatten_cons, List.set_cons_zero, List.set_cons_succ, List.drop_zero, List.drop_succ_cons, List.take_succ_cons, List.take_zero, List.getElem?_cons_zero, List.getElem?_cons_succ, Bool.and_true, Bool.and_false, Bool.false_and, Bool.true_and, Bool.or_false, Bool.or_true, Bool.true_or, Bool.false_or, Bool.not_true, Bool.not_false, Bool.and_self, true_and, and_true, Bool.false_eq_true, reduceCtorEq, labOk, Int.reduceBEq, Int.reduceBNe, Int.reduceToNat, Int.reduceLE, Int.reduceLT, Int.reduceEq, Nat.reduceDiv, Nat.reduceMod, Nat.reduceSub, BEq.rfl, beq_self_eq_true, bne_self_eq_false, decide_true, decide_false, Int.natCast_zero, Int.natCast_one, Int.cast_ofNat_Int, decide_eq_true_eq, decide_eq_false_iff_not, and_self, Nat.reduceBEq, Int.natCast_add, List.length_append, y7, gl, begunS, valuesS, withinS, sumsS, joinS, ofS, addS, lessS, cloneS, slcatS, asI, labsLL, List.append_nil, List.isEmpty_nil, hmm, hqq, hdd, i1, gt_iff_lt, w0, et, et2, et3, ho, hro, sv3, jE, jV, c1, hmr, hmo, r0, r1, h0']
  · have h0' : ((m.length : Int) == 64) = false := beq_eq_false_iff_ne.2 (by omega)
    have hb : bothE m.length (sumL m) (sqL m) d = 0 := bothE_0.2 ⟨hk, by omega, by omega⟩
    have aE : addE m.length (sumL m) (sqL m) d = 0 := by rw [addE, if_pos hb, if_neg (by omega)]
    have aV : addV m.length (sumL m) (sqL m) d = sv3 ((m.length : Int) + 1) (sumL m + d) (sqL m + d * d) := by rw [addV, if_pos aE]
    have hmd : listE (m ++ [d]) = 0 := listE_0.2 ⟨by rw [List.length_append]; simp; omega, fun x hx => by
      rcases List.mem_append.1 hx with h | h
      · exact hv x h
      · rw [List.mem_singleton] at h; omega⟩
    have hl1 : ((m ++ [d]).length : Int) = (m.length : Int) + 1 := by simp
    have hs1 : sumL (m ++ [d]) = sumL m + d := by rw [sumL_append]; simp [sumL]
    have hq1 : sqL (m ++ [d]) = sqL m + d * d := by rw [sqL_append]; simp [sqL]
    have hok := check_of hmd
    rw [hl1, hs1, hq1] at hok
    have hmo2 : ofV (m ++ [d]) = sv3 ((m.length : Int) + 1) (sumL m + d) (sqL m + d * d) := by rw [ofV_0 hmd, hl1, hs1, hq1]
    have hb2 : bothE ((m.length : Int) + 1) (sumL m + d) (sqL m + d * d) d = 0 := bothE_0.2 ⟨hok, by omega, by omega⟩
    have x1 : (m.length : Int) + 1 - 1 = m.length := by omega
    have x2 : sumL m + d - d = sumL m := by omega
    have x3 : sqL m + d * d - d * d = sqL m := by omega
    have lE : lessE ((m.length : Int) + 1) (sumL m + d) (sqL m + d * d) d = 0 := by rw [lessE, if_pos hb2, x1, x2, x3, if_pos hk]
    have lV : lessV ((m.length : Int) + 1) (sumL m + d) (sqL m + d * d) d = sv3 m.length (sumL m) (sqL m) := by rw [lessV, if_pos lE, x1, x2, x3]
    simp (config := { maxSteps := 9000000 }) only [↓z_fun, ↓kOps_ap, ↓kReg_ap, ↓kSeq_n, ↓kSeq_e, ↓kSeq_r, ↓kBlk_n, ↓kBlk_e, ↓kBlk_r, ↓kFun_e, ↓kFun_n, ↓kFun_r, ↓e_skip, ↓z_reg, ↓e_frz0, ↓e_frz1, ↓z_seq, ↓e_cond, ↓z_block, ↓e_exit, ↓e_ret, ↓e_loop, f_nil, f_cons, n_nil, n_cons, f_agg, f_int, f_bool, f_str, f_nilv, f_sl, f_ptr, f_gp, g_gp, f_fz, f_clo, f_tup, f_elem, f_unk, f_rw, f_nrw, f_srw, g_nil, g_cons, g_int, g_bool, g_str, g_nilv, g_sl, g_ptr, g_fz, g_clo, g_unk, g_rw, g_nrw, g_srw, c_var, c_row, c_frow, r_sl, r_rw, r_nn, inj_bool, inj_str, inj_ints, inj_bools, inj_row, inj_sl, inj_int, ↓e_nil, ↓z_op, ↓z_opg, ↓o_mov, ↓o_pick, ↓o_bin, ↓o_eqb, ↓o_eqs, ↓o_bins, binS, ↓o_neg, ↓o_xor, ↓o_not, ↓o_conv, ↓o_faddr, ↓o_fld, ↓o_ext, ↓o_mx, b_max, b_min, ↓o_mx3, b_max3, b_min3, ↓o_build, ↓o_box, ↓o_alloc, ↓o_load, ↓o_len, ↓o_lenS, ↓o_idx, ↓o_lit, ↓o_litf, SV.go1, SV.go0, ↓o_mk, ↓o_app, ↓o_sub, ↓o_ssub, ↓o_sidx, ↓o_aidx, ↓o_aptr, ↓o_mkf, ↓o_nilrow, ↓o_isnil, ↓o_bad, ↓a_slr, ↓a_sls, ↓a_sln, ↓a_nil, appR_some, k_none, k_val, k_new, k_set, l_nil, l_cons, mkRow, intsOf, boolsOf, strsOf, chunks, Row.rep, Row.cat, Row.sub, Row.put, Row.len, Row.get, Row.size, Row.flat, bnds, own0, own1, labsL, labsR, SV.labs, ↓o_store, ↓o_call, ↓o_callv, ↓o_callw, ↓o_apps, m_apps, ↓o_tob, ↓o_tos, t_nil, t_rw, t_sl, ↓o_calla, m_calla, ap_some, w_some, k_ble, c_none, c_some, v_some, argsOf, b_add, b_sub, b_mul, b_quo, b_rem, b_and, b_or, b_xor, b_andNot, b_eql, b_neq, b_lss, b_leq, b_gtr, b_geq, b_shl, b_shr, entFr, SO.ev, fr_put, put_none, mem_put', fr_setm, mem_setm, setM_at, fr_fl, mem_fl, memOf_at, St.of, keepSt, getAll, lookN, hasN, SV.cells, SV.one, SV.res1, SV.res0, SV.resP, SV.ok1, SV.ok0, SV.okN, SV.solid, SV.solid1, SV.solid0, SV.flat0, SV.nm, SV.nm1, SV.nm0, SV.noPtr1, SV.noPtr0, Cel.isFresh, fillP, setAt, partV, eqCells, cellEq, gamY, listsOk, tupOf, takeOwn, SV.ret1, ret_fl, resAll, resL, resV, List.map_cons, List.map_nil, List.flatMap_cons, List.flatMap_nil, List.append_nil, List.nil_append, List.cons_append, List.all_cons, List.all_nil, List.isEmpty_nil, List.isEmpty_cons, Option.map_some, Option.map_none, Option.getD_some, Option.getD_none, Option.isSome_some, Option.isSome_none, Option.isNone_none, Option.isNone_some, Option.toList_none, Option.toList_some, Nat.reduceEqDiff, ↓reduceIte, Nat.reduceAdd, Nat.reduceMul, List.length_cons, List.length_nil, Nat.reduceLeDiff, Nat.reduceLT, List.replicate_zero, List.replicate_succ, List.flatten_nil, List.flatten_cons, List.set_cons_zero, List.set_cons_succ, List.drop_zero, List.drop_succ_cons, List.take_succ_cons, List.take_zero, List.getElem?_cons_zero, List.getElem?_cons_succ, Bool.and_true, Bool.and_false, Bool.false_and, Bool.true_and, Bool.or_false, Bool.or_true, Bool.true_or, Bool.false_or, Bool.not_true, Bool.not_false, Bool.and_self, true_and, and_true, Bool.false_eq_true, reduceCtorEq, labOk, Int.reduceBEq, Int.reduceBNe, Int.reduceToNat, Int.reduceLE, Int.reduceLT, Int.reduceEq, Nat.reduceDiv, Nat.reduceMod, Nat.reduceSub, BEq.rfl, beq_self_eq_true, bne_self_eq_false, decide_true, decide_false, Int.natCast_zero, Int.natCast_one, Int.cast_ofNat_Int, decide_eq_true_eq, decide_eq_false_iff_not, and_self, Nat.reduceBEq, Int.natCast_add, List.length_append, y7, gl, begunS, valuesS, withinS, sumsS, joinS, ofS, addS, lessS, cloneS, slcatS, asI, labsLL, List.append_nil, List.isEmpty_nil, hmm, hqq, hdd, i1, gt_iff_lt, w0, et, et2, et3, ho, hro, sv3, jE, jV, c1, c2, hmr, hmo, r0, r1, h0', aE, aV, hmd, hmo2, lE, lV]
    omega
theorem StatJoins_walk (W : World) (v0 : Value) (l0 : List Int) (b0 : AllI l0) (i0 : Is (E0 W fun _ => False) (.rw (.ints .i64 l0)) v0) (v1 : Value) (l1 : List Int) (b1 : AllI l1) (i1 : Is (E0 W fun _ => False) (.rw (.ints .i64 l1)) v1) (n2 : Int) (b2 : I64 n2) :
    Calls Try.prog 7 #[v0, v1, .int .i64 n2] W fun e w' => e = .returned (.bool true) ∧ Below W.heap.size W w' :=
  law_callY gl_ok lawy_mixed y7_eq (StatJoins_vc l0 b0 l1 b1 n2 b2) (Nat.le_of_ble_eq_true rfl) W (lawy_glb W) [v0, v1, .int .i64 n2] (All.cons i0 (All.cons i1 (All.cons (.int _ _) All.nil)))
set_option maxRecDepth 100000 in
theorem StatJoins_lifted (os : Os) (started : os.Started) (H : Type) (enc : TypeId × Value → H) :
    ReturnsInHanded {} Try.checked os 7 .any (Rows.statJoinsSpec.pre6 enc Try.prog Try.f7 Rows.statJoinsRow.domain false) (Rows.statJoinsSpec.post enc Try.prog Try.f7 false true false false) := by
  refine returnsInHanded_of_change (C := Try.checked) lawy_own started (by kernel_rfl) Try.func7
    (ChangeSpec.witness6 (enc := enc) (C := Try.checked) false ⟨#[], #[.slice none 0 0, .slice none 0 0, .int .i64 0], []⟩ 8 (by kernel_rfl) (by kernel_rfl) (by kernel_rfl) (by kernel_rfl)) ?_
  intro W base args ds gs before hval0 hW hcnd _
  have hval : ∀ (j : Nat) t v, Try.f7.params[j]? = some t → args[j]? = some v → Value.okWide Try.prog W .any base t v := hval0
  have hW' := hW
  obtain ⟨p, q, hA0, hV, rfl, hfz, hnd⟩ := hW
  have hA : DataW.TrodAll enc Try.prog W 0 (fun _ => true) true Try.f7.params.toList args.toList ds p := hA0
  rw [Try.params7] at hA hval
  obtain ⟨v0, vs0, d0, ds0, p0, q0, hargs, rfl, rfl, h0, r0⟩ := trodAll_cons hA
  obtain ⟨v1, vs1, d1, ds1, p1, q1, rfl, rfl, rfl, h1, r1⟩ := trodAll_cons r0
  obtain ⟨v2, vs2, d2, ds2, p2, q2, rfl, rfl, rfl, h2, r2⟩ := trodAll_cons r1
  obtain ⟨rfl, rfl, rfl⟩ := trodAll_nil r2
  obtain rfl : args = #[v0, v1, v2] := by cases args; simp_all
  obtain ⟨rfl, rfl⟩ := trodVars_none hV
  have lt0 := places_lt h0
  obtain ⟨l0, hl0, hi0⟩ := open_ints Try.underlying22 Try.underlying3 (by kernel_rfl) (hval 0 22 v0 rfl rfl) h0
  have lt1 := places_lt h1
  obtain ⟨l1, hl1, hi1⟩ := open_ints Try.underlying22 Try.underlying3 (by kernel_rfl) (hval 1 22 v1 rfl rfl) h1
  have lt2 := places_lt h2
  obtain ⟨n2, e2, _, _, wn2⟩ := open_int Try.underlying3 (hval 2 3 v2 rfl rfl) h2
  subst e2
  clear hA0 hval0
  refine (StatJoins_walk W v0 l0 hl0 hi0 v1 l1 hl1 hi1 n2 (i64_of wn2)).mono fun e W' ⟨he, bel⟩ => ?_
  subst he
  exact ⟨_, rfl, _, _, _, [], _, [], hW', trodAll_mk1 (shut_bool Try.underlying4 _), (trodAll_cons_mk (bel.trod lawy_laid (by kernel_rfl) (of_decide_eq_true (by kernel_rfl)) h0 lt0) (trodAll_cons_mk (bel.trod lawy_laid (by kernel_rfl) (of_decide_eq_true (by kernel_rfl)) h1 lt1) (trodAll_cons_mk (bel.trod lawy_laid (by kernel_rfl) (of_decide_eq_true (by kernel_rfl)) h2 lt2) trodAll_mk0))), rfl, bel.frame _, fun h => by cases h⟩
theorem StatJoins_holds : Rows.StatJoinsSaid :=
  OpenClaim.holds_of_wide 7 Try.f7 rfl rfl rfl rfl rfl rfl rfl ⟨rfl, rfl, rfl, rfl, rfl⟩ rfl rfl rfl rfl rfl (by kernel_rfl) Try.func7 (by kernel_rfl)
    (of_decide_eq_true (by kernel_rfl)) (by unfold Func.isWrapper; first | (rw [if_pos (by decide +kernel)]; kernel_rfl) | (rw [if_neg (by decide +kernel)]; exact ⟨rfl, rfl⟩))
    (fun os started H enc _ => StatJoins_lifted os started H enc)
end Go.Proofs.Ytnaloeoiobcifaa
