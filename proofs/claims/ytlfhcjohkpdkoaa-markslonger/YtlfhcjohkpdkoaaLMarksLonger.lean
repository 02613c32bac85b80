/- hwkeep.MarksLonger returns true for every list of whole numbers and every whole number. No condition. -/
import Derived.Test.YtlfhcjohkpdkoaaYMu
import Derived.Test.YtlfhcjohkpdkoaaCYMarksLonger
namespace Go.Proofs.Ytlfhcjohkpdkoaa
open Go.ChangeShapes Go.WideShapes Go.ChangeAt Go.RowKit Go.Joins Y
set_option linter.unusedSimpArgs false
set_option linter.unusedVariables false
set_option maxRecDepth 100000
set_option maxHeartbeats 40000000
def gl : List (Nat × Say) := [(17, mofS), (18, matS), (26, turnsS), (27, withinS)]
theorem gl_ok : GamOk Try.prog (gamY gl) := gam_ok (gam_cons mof_ok (gam_cons mat_ok (gam_cons turns_ok (gam_cons within_ok gam_nil))))
theorem MarksLonger_in (l : List Int) (n m S E B C : Int) (T : Nat) (d : Bool) (u : List (Int × Bool)) (hm : withinN n 1000 = m) (hu : tuR l = u) (hS : tuS l = S) (hE : S + m = E) (ho : tE u S = 0) (ho2 : tE u E = 0) (hv : moV u S = mk3 T B (S - B)) (hv2 : moV u E = mk3 T C (E - C)) (ha : atE u E E = 0) (hd : atB u E E = d)
    (hC : C = B + if d then m else 0) (hdd : d = decide (u.length % 2 = 1)) (hB : 0 ≤ B ∧ B ≤ S) (hSS : 0 ≤ S ∧ S ≤ 1920) (hmm : 0 ≤ m ∧ m ≤ 1000) (h64 : u.length ≤ 64) :
    vcFun (gamY gl) y13 [.rw (.ints .i64 l), .int .i64 n] none (fun v o => v = .bool true) := by
  have z1 : tE [(0, true), (4, false)] 9 = 0 := by decide
  have z2 : moV [(0, true), (4, false)] 9 = mk3 1 4 5 := by rw [moV, if_pos z1]; rfl
  have n20 : (2 : Int) ≠ 0 := by decide
  have n21 : (2 : Nat) ≠ 0 := by decide
  have i1 : I64 1000 := by unfold I64; omega
  have c1 := i64_wrap (show I64 E by unfold I64; omega)
  have c3 : (u.length : Int).tmod 2 = ((u.length % 2 : Nat) : Int) := by rw [Int.tmod_eq_emod_of_nonneg (by omega)]; omega
  have c4 := i64_wrap (show I64 (((u.length % 2 : Nat) : Int)) by unfold I64; omega)
  have c5 : (((u.length % 2 : Nat) : Int) == 1) = d := by
    rw [hdd]
    by_cases h : u.length % 2 = 1
    · rw [decide_eq_true h, h]; rfl
    · rw [decide_eq_false h, beq_eq_false_iff_ne]; omega
  generalize ((u.length % 2 : Nat) : Int) = K at *
  cases d with
  | true =>
    rw [if_pos rfl] at hC
    have c6 := i64_wrap (show I64 (B + m) by unfold I64; omega)
    have c7 : E - C = S - B := by omega
    rw [c7, hC] at hv2
    simp (config := { maxSteps := 9000000 }) only [↓z_fun, ↓kOps_ap, ↓kReg_ap, ↓kSeq_n, ↓kSeq_e, ↓kSeq_r, ↓kBlk_n, ↓kBlk_e, ↓kBlk_r, ↓kFun_e, ↓kFun_n, ↓kFun_r, ↓e_skip, ↓z_reg, ↓e_frz0, ↓e_frz1, ↓z_seq, ↓e_cond, ↓z_block, ↓e_exit, ↓e_ret, ↓e_loop, f_nil, f_cons, n_nil, n_cons, f_agg, f_int, f_bool, f_str, f_nilv, f_sl, f_ptr, f_gp, g_gp, f_fz, f_clo, f_tup, f_elem, f_unk, f_rw, f_nrw, f_srw, g_nil, g_cons, g_int, g_bool, g_str, g_nilv, g_sl, g_ptr, g_fz, g_clo, g_unk, g_rw, g_nrw, g_srw, c_var, c_row, c_frow, r_sl, r_rw, r_nn, inj_bool, inj_str, inj_ints, inj_bools, inj_row, inj_sl, inj_int, ↓e_nil, ↓z_op, ↓z_opg, ↓o_mov, ↓o_pick, ↓o_bin, ↓o_eqb, ↓o_eqs, ↓o_bins, binS, ↓o_neg, ↓o_xor, ↓o_not, ↓o_conv, ↓o_faddr, ↓o_fld, ↓o_ext, ↓o_mx, b_max, b_min, ↓o_mx3, b_max3, b_min3, ↓o_build, ↓o_box, ↓o_alloc, ↓o_load, ↓o_len, ↓o_lenS, ↓o_idx, ↓o_lit, ↓o_litz, ↓o_litf, SV.go1, SV.go0, ↓o_mk, ↓o_app, ↓o_sub, ↓o_ssub, ↓o_sidx, ↓o_aidx, ↓o_aptr, ↓o_mkf, ↓o_nilrow, ↓o_isnil, ↓o_bad, ↓a_slr, ↓a_sls, ↓a_sln, ↓a_nil, appR_some, k_none, k_val, k_new, k_set, l_nil, l_cons, mkRow, intsOf, boolsOf, strsOf, chunks, Row.rep, Row.cat, Row.sub, Row.put, Row.len, Row.get, Row.size, Row.flat, bnds, own0, own1, labsL, labsR, SV.labs, ↓o_store, ↓o_call, ↓o_callv, ↓o_callw, ↓o_apps, m_apps, ↓o_tob, ↓o_tos, t_nil, t_rw, t_sl, ↓o_calla, m_calla, ap_some, w_some, k_ble, c_none, c_some, v_some, argsOf, b_add, b_sub, b_mul, b_quo, b_rem, b_and, b_or, b_xor, b_andNot, b_eql, b_neq, b_lss, b_leq, b_gtr, b_geq, b_shl, b_shr, entFr, SO.ev, fr_put, put_none, mem_put', fr_setm, mem_setm, setM_at, fr_fl, mem_fl, memOf_at, St.of, keepSt, getAll, lookN, hasN, SV.cells, SV.one, SV.res1, SV.res0, SV.resP, SV.ok1, SV.ok0, SV.okN, SV.solid, SV.solid1, SV.solid0, SV.flat0, SV.nm, SV.nm1, SV.nm0, SV.noPtr1, SV.noPtr0, Cel.isFresh, fillP, setAt, partV, eqCells, cellEq, gamY, listsOk, tupOf, takeOwn, SV.ret1, ret_fl, resAll, resL, resV, List.map_cons, List.map_nil, List.flatMap_cons, List.flatMap_nil, List.append_nil, List.nil_append, List.cons_append, List.all_cons, List.all_nil, List.isEmpty_nil, List.isEmpty_cons, Option.map_some, Option.map_none, Option.getD_some, Option.getD_none, Option.isSome_some, Option.isSome_none, Option.isNone_none, Option.isNone_some, Option.toList_none, Option.toList_some, Nat.reduceEqDiff, ↓reduceIte, Nat.reduceAdd, Nat.reduceMul, List.length_cons, List.length_nil, Nat.reduceLeDiff, Nat.reduceLT, List.replicate_zero, List.replicate_succ, List.flatten_nil, List.flatten_cons, List.set_cons_zero, List.set_cons_succ, List.drop_zero, List.drop_succ_cons, List.take_succ_cons, List.take_zero, List.getElem?_cons_zero, List.getElem?_cons_succ, Bool.and_true, Bool.and_false, Bool.false_and, Bool.true_and, Bool.or_false, Bool.or_true, Bool.true_or, Bool.false_or, Bool.not_true, Bool.not_false, Bool.and_self, true_and, and_true, Bool.false_eq_true, reduceCtorEq, labOk, Int.reduceBEq, Int.reduceBNe, Int.reduceToNat, Int.reduceLE, Int.reduceLT, Int.reduceEq, Nat.reduceDiv, Nat.reduceMod, Nat.reduceSub, BEq.rfl, beq_self_eq_true, bne_self_eq_false, decide_true, decide_false, Int.natCast_zero, Int.natCast_one, Int.cast_ofNat_Int, decide_eq_true_eq, decide_eq_false_iff_not, and_self, Nat.reduceBEq, Int.natCast_add, List.length_append, y13, gl, mofS, matS, turnsS, withinS, asI, asT, toT, toT_mapT, Option.map_some, mapT_len, mapT_labs, List.all_nil, labsLL, labsL, SV.labs, List.append_nil, List.isEmpty_nil, n20, n21, ne_eq, not_false_eq_true, z1, z2, mk3, hm, hu, hS, hE, ho, ho2, hv, hv2, ha, hd, i1, c1, c3, c4, c5, c6]
  | false =>
    rw [if_neg (by simp)] at hC
    have c6 := i64_wrap (show I64 (S - B + m) by unfold I64; omega)
    have c7 : E - C = S - B + m := by omega
    have c8 : C = B := by omega
    rw [c7, c8] at hv2
    simp (config := { maxSteps := 9000000 }) only [↓z_fun, ↓kOps_ap, ↓kReg_ap, ↓kSeq_n, ↓kSeq_e, ↓kSeq_r, ↓kBlk_n, ↓kBlk_e, ↓kBlk_r, ↓kFun_e, ↓kFun_n, ↓kFun_r, ↓e_skip, ↓z_reg, ↓e_frz0, ↓e_frz1, ↓z_seq, ↓e_cond, ↓z_block, ↓e_exit, ↓e_ret, ↓e_loop, f_nil, f_cons, n_nil, n_cons, f_agg, f_int, f_bool, f_str, f_nilv, f_sl, f_ptr, f_gp, g_gp, f_fz, f_clo, f_tup, f_elem, f_unk, f_rw, f_nrw, f_srw, g_nil, g_cons, g_int, g_bool, g_str, g_nilv, g_sl, g_ptr, g_fz, g_clo, g_unk, g_rw, g_nrw, g_srw, c_var, c_row, c_frow, r_sl, r_rw, r_nn, inj_bool, inj_str, inj_ints, inj_bools, inj_row, inj_sl, inj_int, ↓e_nil, ↓z_op, ↓z_opg, ↓o_mov, ↓o_pick, ↓o_bin, ↓o_eqb, ↓o_eqs, ↓o_bins, binS, ↓o_neg, ↓o_xor, ↓o_not, ↓o_conv, ↓o_faddr, ↓o_fld, ↓o_ext, ↓o_mx, b_max, b_min, ↓o_mx3, b_max3, b_min3, ↓o_build, ↓o_box, ↓o_alloc, ↓o_load, ↓o_len, ↓o_lenS, ↓o_idx, ↓o_lit, ↓o_litz, ↓o_litf, SV.go1, SV.go0, ↓o_mk, ↓o_app, ↓o_sub, ↓o_ssub, ↓o_sidx, ↓o_aidx, ↓o_aptr, ↓o_mkf, ↓o_nilrow, ↓o_isnil, ↓o_bad, ↓a_slr, ↓a_sls, ↓a_sln, ↓a_nil, appR_some, k_none, k_val, k_new, k_set, l_nil, l_cons, mkRow, intsOf, boolsOf, strsOf, chunks, Row.rep, Row.cat, Row.sub, Row.put, Row.len, Row.get, Row.size, Row.flat, bnds, own0, own1, labsL, labsR, SV.labs, ↓o_store, ↓o_call, ↓o_callv, ↓o_callw, ↓o_apps, m_apps, ↓o_tob, ↓o_tos, t_nil, t_rw, t_sl, ↓o_calla, m_calla, ap_some, w_some, k_ble, c_none, c_some, v_some, argsOf, b_add, b_sub, b_mul, b_quo, b_rem, b_and, b_or, b_xor, b_andNot, b_eql, b_neq, b_lss, b_leq, b_gtr, b_geq, b_shl, b_shr, entFr, SO.ev, fr_put, put_none, mem_put', fr_setm, mem_setm, setM_at, fr_fl, mem_fl, memOf_at, St.of, keepSt, getAll, lookN, hasN, SV.cells, SV.one, SV.res1, SV.res0, SV.resP, SV.ok1, SV.ok0, SV.okN, SV.solid, SV.solid1, SV.solid0, SV.flat0, SV.nm, SV.nm1, SV.nm0, SV.noPtr1, SV.noPtr0, Cel.isFresh, fillP, setAt, partV, eqCells, cellEq, gamY, listsOk, tupOf, takeOwn, SV.ret1, ret_fl, resAll, resL, resV, List.map_cons, List.map_nil, List.flatMap_cons, List.flatMap_nil, List.append_nil, List.nil_append, List.cons_append, List.all_cons, List.all_nil, List.isEmpty_nil, List.isEmpty_cons, Option.map_some, Option.map_none, Option.getD_some, Option.getD_none, Option.isSome_some, Option.isSome_none, Option.isNone_none, Option.isNone_some, Option.toList_none, Option.toList_some, Nat.reduceEqDiff, ↓reduceIte, Nat.reduceAdd, Nat.reduceMul, List.length_cons, List.length_nil, Nat.reduceLeDiff, Nat.reduceLT, List.replicate_zero, List.replicate_succ, List.flatten_nil, List.flatten_cons, List.set_cons_zero, List.set_cons_succ, List.drop_zero, List.drop_succ_cons, List.take_succ_cons, List.take_zero, List.getElem?_cons_zero, List.getElem?_cons_succ, Bool.and_true, Bool.and_false, Bool.false_and, Bool.true_and, Bool.or_false, Bool.or_true, Bool.true_or, Bool.false_or, Bool.not_true, Bool.not_false, Bool.and_self, true_and, and_true, Bool.false_eq_true, reduceCtorEq, labOk, Int.reduceBEq, Int.reduceBNe, Int.reduceToNat, Int.reduceLE, Int.reduceLT, Int.reduceEq, Nat.reduceDiv, Nat.reduceMod, Nat.reduceSub, BEq.rfl, beq_self_eq_true, bne_self_eq_false, decide_true, decide_false, Int.natCast_zero, Int.natCast_one, Int.cast_ofNat_Int, decide_eq_true_eq, decide_eq_false_iff_not, and_self, Nat.reduceBEq, Int.natCast_add, List.length_append, y13, gl, mofS, matS, turnsS, withinS, asI, asT, toT, toT_mapT, Option.map_some, mapT_len, mapT_labs, List.all_nil, labsLL, labsL, SV.labs, List.append_nil, List.isEmpty_nil, n20, n21, ne_eq, not_false_eq_true, z1, z2, mk3, hm, hu, hS, hE, ho, ho2, hv, hv2, ha, hd, i1, c1, c3, c4, c5, c6]
theorem bad_upto {l : List (Int × Bool)} (a b : Int) : ∀ i, i < l.length → badM l a i = badM l b i
  | 0, _ => rfl
  | i + 1, h => by
    have h1 : nxT l a i = nxT l b i := by rw [nxT, nxT, if_pos h, if_pos h]
    rw [badM, badM, bad_upto a b i (by omega), h1]
theorem bad_long {l : List (Int × Bool)} (a b : Int) : badM l b l.length = badM l a l.length + if (pv l l.length).2 then b - a else 0 := by
  cases h : l.length with
  | zero => simp [badM, pv]
  | succ n =>
    have e1 : ∀ x, nxT l x n = x := fun x => if_neg (by omega)
    rw [badM, badM, bad_upto a b n (by omega), e1, e1]
    simp only [pv]
    by_cases hh : (l.getD n (0, false)).2 = true
    · simp only [hh, if_true]; omega
    · simp only [hh, Bool.false_eq_true, if_false]; omega
theorem at_end {l : List (Int × Bool)} {en : Int} (h : tE l en = 0) : atE l en en = 0 ∧ atB l en en = (pv l l.length).2 := by
  obtain ⟨_, h2, _⟩ := tE_0 h
  have h1 : atE l en en = 0 := by rw [atE, if_pos h, if_pos (by omega)]
  refine ⟨h1, ?_⟩
  rw [atB, if_pos h1]
  have : bkT l en l.length 0 = l.length := bkT_is (by omega) (by omega) (fun j _ hj => (t_ge h j hj).2.1) (fun hh => by omega)
  rw [this]
theorem pv_odd {l : List (Int × Bool)} {en : Int} (h : tE l en = 0) : (pv l l.length).2 = decide (l.length % 2 = 1) := by
  cases hn : l.length with
  | zero => rfl
  | succ n =>
    have h1 := (t_ge h n (by omega)).2.2
    simp only [pv]
    rw [h1]
    simp only [decide_eq_decide]
    omega
theorem MarksLonger_vc (l : List Int) (bl : AllI l) (n : Int) (bn : I64 n) : vcFun (gamY gl) y13 [.rw (.ints .i64 l), .int .i64 n] none (fun v o => v = .bool true) := by
  have hm := withinN_lt n (n := 1000) (by omega)
  have hs := tuS_bd l
  have ho : tE (tuR l) (tuS l) = 0 := tuR_ok (by omega) (by omega)
  have ho2 : tE (tuR l) (tuS l + withinN n 1000) = 0 := tuR_ok (by omega) (by omega)
  have hq := bad_bd ho _ (Nat.le_refl _)
  have hb : begT (tuR l) (tuS l) (tuR l).length = tuS l := if_neg (by omega)
  rw [hb] at hq
  obtain ⟨a1, a2⟩ := at_end ho2
  refine MarksLonger_in l n _ _ _ _ _ _ _ _ rfl rfl rfl rfl ho ho2 (if_pos ho) (if_pos ho2) a1 a2 ?_ (pv_odd ho) hq hs (by omega) (tuR_len l).2
  rw [bad_long (tuS l)]
  rw [show tuS l + withinN n 1000 - tuS l = withinN n 1000 by omega]
theorem MarksLonger_walk (W : World) (v0 : Value) (l0 : List Int) (b0 : AllI l0) (i0 : Is (E0 W fun _ => False) (.rw (.ints .i64 l0)) v0) (n1 : Int) (b1 : I64 n1) :
    Calls Try.prog 13 #[v0, .int .i64 n1] W fun e w' => e = .returned (.bool true) ∧ Below W.heap.size W w' :=
  law_callY gl_ok lawy_mixed y13_eq (MarksLonger_vc l0 b0 n1 b1) (Nat.le_of_ble_eq_true rfl) W (lawy_glb W) [v0, .int .i64 n1] (All.cons i0 (All.cons (.int _ _) All.nil))
set_option maxRecDepth 100000 in
theorem MarksLonger_lifted (os : Os) (started : os.Started) (H : Type) (enc : TypeId × Value → H) :
    ReturnsInHanded {} Try.checked os 13 .any (Rows.marksLongerSpec.pre6 enc Try.prog Try.f13 Rows.marksLongerRow.domain false) (Rows.marksLongerSpec.post enc Try.prog Try.f13 false true false false) := by
  refine returnsInHanded_of_change (C := Try.checked) lawy_own started (by kernel_rfl) Try.func13
    (ChangeSpec.witness6 (enc := enc) (C := Try.checked) false ⟨#[], #[.slice none 0 0, .int .i64 0], []⟩ 8 (by kernel_rfl) (by kernel_rfl) (by kernel_rfl) (by kernel_rfl)) ?_
  intro W base args ds gs before hval0 hW hcnd _
  have hval : ∀ (j : Nat) t v, Try.f13.params[j]? = some t → args[j]? = some v → Value.okWide Try.prog W .any base t v := hval0
  have hW' := hW
  obtain ⟨p, q, hA0, hV, rfl, hfz, hnd⟩ := hW
  have hA : DataW.TrodAll enc Try.prog W 0 (fun _ => true) true Try.f13.params.toList args.toList ds p := hA0
  rw [Try.params13] at hA hval
  obtain ⟨v0, vs0, d0, ds0, p0, q0, hargs, rfl, rfl, h0, r0⟩ := trodAll_cons hA
  obtain ⟨v1, vs1, d1, ds1, p1, q1, rfl, rfl, rfl, h1, r1⟩ := trodAll_cons r0
  obtain ⟨rfl, rfl, rfl⟩ := trodAll_nil r1
  obtain rfl : args = #[v0, v1] := by cases args; simp_all
  obtain ⟨rfl, rfl⟩ := trodVars_none hV
  have lt0 := places_lt h0
  obtain ⟨l0, hl0, hi0⟩ := open_ints Try.underlying35 Try.underlying3 (by kernel_rfl) (hval 0 35 v0 rfl rfl) h0
  have lt1 := places_lt h1
  obtain ⟨n1, e1, _, _, wn1⟩ := open_int Try.underlying3 (hval 1 3 v1 rfl rfl) h1
  subst e1
  clear hA0 hval0
  refine (MarksLonger_walk W v0 l0 hl0 hi0 n1 (i64_of wn1)).mono fun e W' ⟨he, bel⟩ => ?_
  subst he
  exact ⟨_, rfl, _, _, _, [], _, [], hW', trodAll_mk1 (shut_bool Try.underlying4 _), (trodAll_cons_mk (bel.trod lawy_laid (by kernel_rfl) (of_decide_eq_true (by kernel_rfl)) h0 lt0) (trodAll_cons_mk (bel.trod lawy_laid (by kernel_rfl) (of_decide_eq_true (by kernel_rfl)) h1 lt1) trodAll_mk0)), rfl, bel.frame _, fun h => by cases h⟩
theorem MarksLonger_holds : Rows.MarksLongerSaid :=
  OpenClaim.holds_of_wide 13 Try.f13 rfl rfl rfl rfl rfl rfl rfl ⟨rfl, rfl, rfl, rfl, rfl⟩ rfl rfl rfl rfl rfl (by kernel_rfl) Try.func13 (by kernel_rfl)
    (of_decide_eq_true (by kernel_rfl)) (by unfold Func.isWrapper; first | (rw [if_pos (by decide +kernel)]; kernel_rfl) | (rw [if_neg (by decide +kernel)]; exact ⟨rfl, rfl⟩))
    (fun os started H enc _ => MarksLonger_lifted os started H enc)
end Go.Proofs.Ytlfhcjohkpdkoaa
