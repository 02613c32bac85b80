/- hwkeep.RankMedian returns true for every list of whole numbers and every whole number. No condition. -/
import Derived.Test.YtcfiknifbebdjaaYM4
import Derived.Test.YtcfiknifbebdjaaCYRankMedian
namespace Go.Proofs.Ytcfiknifbebdjaa
open Go.ChangeShapes Go.WideShapes Go.ChangeAt Go.RowKit Go.Joins Y
set_option linter.unusedSimpArgs false
set_option linter.unusedVariables false
set_option maxRecDepth 100000
set_option maxHeartbeats 40000000
def gl : List (Nat × Say) := [(22, rfarS), (21, rrankS), (42, valuesS), (43, withinS)]
theorem gl_ok : GamOk Try.prog (gamY gl) := gam_ok (gam_cons rfar_ok (gam_cons rrank_ok (gam_cons values_ok (gam_cons within_ok gam_nil))))
theorem RankMedian_vc (l : List Int) (bl : AllI l) (n : Int) (bn : I64 n) : vcFun (gamY gl) y8 [.rw (.ints .i64 l), .int .i64 n] none (fun v o => v = .bool true) := by
  obtain ⟨hl, ho, hk, h64, hv⟩ := vals_all l
  generalize hmm : valsL l = m at *
  have hd := withinN_lt n (n := 16777217) (by omega)
  generalize hdd : withinN n 16777217 = d at *
  have b2 : I64 16777217 := by unfold I64; omega
  have z1 : farE [1, 5] 3 = 0 := by decide
  have z2 : farV [1, 5] 3 = 4 := by decide
  by_cases h0 : m.length = 0
  · have h0' : ((m.length : Int) == 0) = true := by simp [h0]
    simp (config := { maxSteps := 9000000 }) only [↓e_fun, ↓e_skip, ↓e_reg, ↓e_frz0, ↓e_frz1, ↓e_seq, ↓e_cond, ↓e_block, ↓e_exit, ↓e_ret, ↓e_loop, f_nil, f_cons, n_nil, n_cons, f_agg, f_int, f_bool, f_str, f_nilv, f_sl, f_ptr, f_fz, f_clo, f_tup, f_elem, f_unk, f_rw, f_nrw, f_srw, g_nil, g_cons, g_int, g_bool, g_str, g_nilv, g_sl, g_ptr, g_fz, g_clo, g_unk, g_rw, g_nrw, g_srw, c_var, c_row, c_frow, r_sl, r_rw, r_nn, inj_bool, inj_str, inj_ints, inj_bools, inj_row, inj_sl, inj_int, ↓e_nil, ↓e_op, ↓e_opg, ↓o_mov, ↓o_pick, ↓o_bin, ↓o_eqb, ↓o_eqs, ↓o_bins, binS, ↓o_neg, ↓o_not, ↓o_conv, ↓o_faddr, ↓o_fld, ↓o_ext, ↓o_mx, b_max, b_min, ↓o_build, ↓o_box, ↓o_alloc, ↓o_load, ↓o_len, ↓o_lenS, ↓o_idx, ↓o_lit, ↓o_mk, ↓o_app, ↓o_sub, ↓o_ssub, ↓o_sidx, ↓o_mkf, ↓o_nilrow, ↓o_isnil, ↓o_bad, ↓a_slr, ↓a_sls, ↓a_sln, ↓a_nil, appR_some, k_none, k_val, k_new, k_set, l_nil, l_cons, mkRow, intsOf, boolsOf, strsOf, chunks, Row.rep, Row.cat, Row.sub, Row.put, Row.len, Row.get, Row.size, Row.flat, bnds, own0, own1, labsL, labsR, SV.labs, ↓o_store, ↓o_call, ↓o_callv, ↓o_callw, w_some, k_ble, c_none, c_some, v_some, argsOf, b_add, b_sub, b_mul, b_quo, b_rem, b_and, b_or, b_xor, b_andNot, b_eql, b_neq, b_lss, b_leq, b_gtr, b_geq, b_shl, b_shr, entFr, SO.ev, fr_put, put_none, mem_put', fr_setm, mem_setm, setM_at, fr_fl, mem_fl, memOf_at, St.of, keepSt, getAll, lookN, hasN, SV.cells, SV.one, SV.res1, SV.res0, SV.resP, SV.ok1, SV.ok0, SV.okN, SV.solid, SV.solid1, SV.solid0, SV.flat0, SV.nm, SV.nm1, SV.nm0, SV.noPtr1, SV.noPtr0, Cel.isFresh, fillP, setAt, partV, eqCells, cellEq, gamY, listsOk, tupOf, takeOwn, SV.ret1, ret_fl, resAll, resL, resV, List.map_cons, List.map_nil, List.flatMap_cons, List.flatMap_nil, List.append_nil, List.nil_append, List.cons_append, List.all_cons, List.all_nil, List.isEmpty_nil, List.isEmpty_cons, Option.map_some, Option.map_none, Option.getD_some, Option.getD_none, Option.isSome_some, Option.isSome_none, Option.isNone_none, Option.isNone_some, Option.toList_none, Option.toList_some, Nat.reduceEqDiff, ↓reduceIte, Nat.reduceAdd, Nat.reduceMul, List.length_cons, List.length_nil, Nat.reduceLeDiff, List.replicate_zero, List.replicate_succ, List.flatten_nil, List.flatten_cons, List.set_cons_zero, List.set_cons_succ, List.drop_zero, List.drop_succ_cons, List.take_succ_cons, List.take_zero, List.getElem?_cons_zero, List.getElem?_cons_succ, Bool.and_true, Bool.and_false, Bool.false_and, Bool.true_and, Bool.or_false, Bool.or_true, Bool.true_or, Bool.false_or, Bool.not_true, Bool.not_false, Bool.and_self, true_and, and_true, Bool.false_eq_true, reduceCtorEq, labOk, Int.reduceBEq, Int.reduceBNe, Int.reduceToNat, Int.reduceLE, Int.reduceLT, Int.reduceEq, Nat.reduceDiv, Nat.reduceMod, Nat.reduceSub, BEq.rfl, beq_self_eq_true, bne_self_eq_false, decide_true, decide_false, Int.natCast_zero, Int.natCast_one, Int.cast_ofNat_Int, decide_eq_true_eq, decide_eq_false_iff_not, and_self, Nat.reduceBEq, Int.natCast_add, List.length_append, y8, gl, rfarS, rrankS, valuesS, withinS, asI, hmm, z1, z2, h0']
  have h0' : ((m.length : Int) == 0) = false := by simpa using h0
  have re : rankE m 1 2 = 0 := by rw [rankE, if_pos hl, if_neg (by omega), if_neg h0]
  have rv : rankV m 1 2 = (sortL m).getD (placeN m.length 1 2 - 1).toNat 0 := by rw [rankV, if_pos re]
  obtain ⟨p1, p2⟩ := place_bd (n := (m.length : Int)) (num := 1) (den := 2) (by omega) (by omega) (by omega) (by omega)
  have hx := hv _ (sortL_mem_at (l := m) (j := (placeN m.length 1 2 - 1).toNat) (by omega))
  obtain ⟨c1, c2⟩ := mid_counts (l := m) (by omega)
  generalize (sortL m).getD (placeN m.length 1 2 - 1).toNat 0 = x at *
  have fe : ∀ y, 0 ≤ y ∧ y ≤ 16777216 → farE m y = 0 ∧ farV m y = distL m y := fun y hy => by
    have : farE m y = 0 := by rw [farE, if_pos hl, listE_1, if_pos hy]
    exact ⟨this, by rw [farV, if_pos this]⟩
  obtain ⟨e1, e2⟩ := fe x hx
  obtain ⟨e3, e4⟩ := fe d (by omega)
  have q := laplace (l := m) (m := x) (p := d) (K := 1) (by omega) c1 c2
  simp only [Int.one_mul] at q
  have q' : distL m x ≤ distL m d := q
  simp (config := { maxSteps := 9000000 }) only [↓e_fun, ↓e_skip, ↓e_reg, ↓e_frz0, ↓e_frz1, ↓e_seq, ↓e_cond, ↓e_block, ↓e_exit, ↓e_ret, ↓e_loop, f_nil, f_cons, n_nil, n_cons, f_agg, f_int, f_bool, f_str, f_nilv, f_sl, f_ptr, f_fz, f_clo, f_tup, f_elem, f_unk, f_rw, f_nrw, f_srw, g_nil, g_cons, g_int, g_bool, g_str, g_nilv, g_sl, g_ptr, g_fz, g_clo, g_unk, g_rw, g_nrw, g_srw, c_var, c_row, c_frow, r_sl, r_rw, r_nn, inj_bool, inj_str, inj_ints, inj_bools, inj_row, inj_sl, inj_int, ↓e_nil, ↓e_op, ↓e_opg, ↓o_mov, ↓o_pick, ↓o_bin, ↓o_eqb, ↓o_eqs, ↓o_bins, binS, ↓o_neg, ↓o_not, ↓o_conv, ↓o_faddr, ↓o_fld, ↓o_ext, ↓o_mx, b_max, b_min, ↓o_build, ↓o_box, ↓o_alloc, ↓o_load, ↓o_len, ↓o_lenS, ↓o_idx, ↓o_lit, ↓o_mk, ↓o_app, ↓o_sub, ↓o_ssub, ↓o_sidx, ↓o_mkf, ↓o_nilrow, ↓o_isnil, ↓o_bad, ↓a_slr, ↓a_sls, ↓a_sln, ↓a_nil, appR_some, k_none, k_val, k_new, k_set, l_nil, l_cons, mkRow, intsOf, boolsOf, strsOf, chunks, Row.rep, Row.cat, Row.sub, Row.put, Row.len, Row.get, Row.size, Row.flat, bnds, own0, own1, labsL, labsR, SV.labs, ↓o_store, ↓o_call, ↓o_callv, ↓o_callw, w_some, k_ble, c_none, c_some, v_some, argsOf, b_add, b_sub, b_mul, b_quo, b_rem, b_and, b_or, b_xor, b_andNot, b_eql, b_neq, b_lss, b_leq, b_gtr, b_geq, b_shl, b_shr, entFr, SO.ev, fr_put, put_none, mem_put', fr_setm, mem_setm, setM_at, fr_fl, mem_fl, memOf_at, St.of, keepSt, getAll, lookN, hasN, SV.cells, SV.one, SV.res1, SV.res0, SV.resP, SV.ok1, SV.ok0, SV.okN, SV.solid, SV.solid1, SV.solid0, SV.flat0, SV.nm, SV.nm1, SV.nm0, SV.noPtr1, SV.noPtr0, Cel.isFresh, fillP, setAt, partV, eqCells, cellEq, gamY, listsOk, tupOf, takeOwn, SV.ret1, ret_fl, resAll, resL, resV, List.map_cons, List.map_nil, List.flatMap_cons, List.flatMap_nil, List.append_nil, List.nil_append, List.cons_append, List.all_cons, List.all_nil, List.isEmpty_nil, List.isEmpty_cons, Option.map_some, Option.map_none, Option.getD_some, Option.getD_none, Option.isSome_some, Option.isSome_none, Option.isNone_none, Option.isNone_some, Option.toList_none, Option.toList_some, Nat.reduceEqDiff, ↓reduceIte, Nat.reduceAdd, Nat.reduceMul, List.length_cons, List.length_nil, Nat.reduceLeDiff, List.replicate_zero, List.replicate_succ, List.flatten_nil, List.flatten_cons, List.set_cons_zero, List.set_cons_succ, List.drop_zero, List.drop_succ_cons, List.take_succ_cons, List.take_zero, List.getElem?_cons_zero, List.getElem?_cons_succ, Bool.and_true, Bool.and_false, Bool.false_and, Bool.true_and, Bool.or_false, Bool.or_true, Bool.true_or, Bool.false_or, Bool.not_true, Bool.not_false, Bool.and_self, true_and, and_true, Bool.false_eq_true, reduceCtorEq, labOk, Int.reduceBEq, Int.reduceBNe, Int.reduceToNat, Int.reduceLE, Int.reduceLT, Int.reduceEq, Nat.reduceDiv, Nat.reduceMod, Nat.reduceSub, BEq.rfl, beq_self_eq_true, bne_self_eq_false, decide_true, decide_false, Int.natCast_zero, Int.natCast_one, Int.cast_ofNat_Int, decide_eq_true_eq, decide_eq_false_iff_not, and_self, Nat.reduceBEq, Int.natCast_add, List.length_append, y8, gl, rfarS, rrankS, valuesS, withinS, asI, hmm, hdd, b2, z1, z2, h0', re, rv, e1, e2, e3, e4, q']
theorem RankMedian_walk (W : World) (v0 : Value) (l0 : List Int) (b0 : AllI l0) (i0 : Is (E0 W fun _ => False) (.rw (.ints .i64 l0)) v0) (n1 : Int) (b1 : I64 n1) :
    Calls Try.prog 8 #[v0, .int .i64 n1] W fun e w' => e = .returned (.bool true) ∧ Below W.heap.size W w' :=
  law_callY gl_ok lawy_mixed y8_eq (RankMedian_vc l0 b0 n1 b1) (Nat.le_of_ble_eq_true rfl) W [v0, .int .i64 n1] (All.cons i0 (All.cons (.int _ _) All.nil))
set_option maxRecDepth 100000 in
theorem RankMedian_lifted (os : Os) (started : os.Started) (H : Type) (enc : TypeId × Value → H) :
    ReturnsInHanded {} Try.checked os 8 .any (Rows.rankMedianSpec.pre6 enc Try.prog Try.f8 Rows.rankMedianRow.domain false) (Rows.rankMedianSpec.post enc Try.prog Try.f8 false true false false) := by
  refine returnsInHanded_of_change (C := Try.checked) lawy_own started (by kernel_rfl) Try.func8
    (ChangeSpec.witness6 (enc := enc) (C := Try.checked) false ⟨#[], #[.slice none 0 0, .int .i64 0], []⟩ 8 (by kernel_rfl) (by kernel_rfl) (by kernel_rfl) (by kernel_rfl)) ?_
  intro W base args ds gs before hval0 hW hcnd _
  have hval : ∀ (j : Nat) t v, Try.f8.params[j]? = some t → args[j]? = some v → Value.okWide Try.prog W .any base t v := hval0
  have hW' := hW
  obtain ⟨p, q, hA0, hV, rfl, hfz, hnd⟩ := hW
  have hA : DataW.TrodAll enc Try.prog W 0 (fun _ => true) true Try.f8.params.toList args.toList ds p := hA0
  rw [Try.params8] at hA hval
  obtain ⟨v0, vs0, d0, ds0, p0, q0, hargs, rfl, rfl, h0, r0⟩ := trodAll_cons hA
  obtain ⟨v1, vs1, d1, ds1, p1, q1, rfl, rfl, rfl, h1, r1⟩ := trodAll_cons r0
  obtain ⟨rfl, rfl, rfl⟩ := trodAll_nil r1
  obtain rfl : args = #[v0, v1] := by cases args; simp_all
  obtain ⟨rfl, rfl⟩ := trodVars_none hV
  have lt0 := places_lt h0
  obtain ⟨l0, hl0, hi0⟩ := open_ints Try.underlying22 Try.underlying3 (by kernel_rfl) (hval 0 22 v0 rfl rfl) h0
  have lt1 := places_lt h1
  obtain ⟨n1, e1, _, _, wn1⟩ := open_int Try.underlying3 (hval 1 3 v1 rfl rfl) h1
  subst e1
  clear hA0 hval0
  refine (RankMedian_walk W v0 l0 hl0 hi0 n1 (i64_of wn1)).mono fun e W' ⟨he, bel⟩ => ?_
  subst he
  exact ⟨_, rfl, _, _, _, [], _, [], hW', trodAll_mk1 (shut_bool Try.underlying4 _), (trodAll_cons_mk (bel.trod lawy_laid (by kernel_rfl) (of_decide_eq_true (by kernel_rfl)) h0 lt0) (trodAll_cons_mk (bel.trod lawy_laid (by kernel_rfl) (of_decide_eq_true (by kernel_rfl)) h1 lt1) trodAll_mk0)), rfl, bel.frame _, fun h => by cases h⟩
theorem RankMedian_holds : Rows.RankMedianSaid :=
  OpenClaim.holds_of_wide 8 Try.f8 rfl rfl rfl rfl rfl rfl rfl ⟨rfl, rfl, rfl, rfl, rfl⟩ rfl rfl rfl rfl rfl (by kernel_rfl) Try.func8 (by kernel_rfl)
    (of_decide_eq_true (by kernel_rfl)) (by unfold Func.isWrapper; first | (rw [if_pos (by decide +kernel)]; kernel_rfl) | (rw [if_neg (by decide +kernel)]; exact ⟨rfl, rfl⟩))
    (fun os started H enc _ => RankMedian_lifted os started H enc)
end Go.Proofs.Ytcfiknifbebdjaa
