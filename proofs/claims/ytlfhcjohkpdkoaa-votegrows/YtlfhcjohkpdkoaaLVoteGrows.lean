/- hwkeep.VoteGrows returns true for every list of whole numbers and every four whole numbers. No condition. -/
import Derived.Test.YtlfhcjohkpdkoaaYVu
import Derived.Test.YtlfhcjohkpdkoaaYSg
import Derived.Test.YtlfhcjohkpdkoaaCYVoteGrows
namespace Go.Proofs.Ytlfhcjohkpdkoaa
open Go.ChangeShapes Go.WideShapes Go.ChangeAt Go.RowKit Go.Joins Y
set_option linter.unusedSimpArgs false
set_option linter.unusedVariables false
set_option maxRecDepth 100000
set_option maxHeartbeats 40000000
def gl : List (Nat × Say) := [(23, vlevelS), (28, levelsS), (27, withinS), (31, slcatS), (30, cloneS)]
theorem gl_ok : GamOk Try.prog (gamY gl) := gam_ok (gam_cons vlevel_ok (gam_cons levels_ok (gam_cons within_ok (gam_cons slcat_ok (gam_cons clone_ok gam_nil)))))
theorem VoteGrows_in (l L M : List Int) (k i b t K I R T x y : Int) (A B C : Int) (hL : levL l = L) (hl : L.length ≤ 64) (h2 : 2 ≤ L.length)
    (hk : withinN k (L.length - 1) = K - 1) (hK : 1 ≤ K ∧ K + 1 ≤ L.length) (hi : withinN i L.length = I) (hI : 0 ≤ I ∧ I < L.length) (hb : withinN b 128 = R) (hR : 0 ≤ R ∧ R < 128) (ht : withinN t L.length = T) (hT : 0 ≤ T ∧ T < L.length)
    (hx : L.getD I.toNat 0 = x) (hx1 : 0 ≤ x ∧ x ≤ 127) (hy : (if x + R < 127 then x + R else 127) = y) (hM : L.set I.toNat y = M)
    (e1 : vlE L K = 0) (e2 : vlE L (K + 1) = 0) (e3 : vlE M K = 0) (e4 : vlE (L.drop T.toNat ++ L.take T.toNat) K = 0)
    (v1 : vlV L K = A) (v2 : vlV L (K + 1) = B) (v3 : vlV M K = C) (v4 : vlV (L.drop T.toNat ++ L.take T.toNat) K = A) (h1 : B ≤ A) (h3 : A ≤ C) :
    vcFun (gamY gl) y9 [.rw (.ints .i64 l), .int .i64 k, .int .i64 i, .int .i64 b, .int .i64 t] none (fun v o => v = .bool true) := by
  have z1 : vlE [5, 9, 1] 3 = 0 := by decide
  have z2 : vlV [5, 9, 1] 3 = 1 := by rw [vlV, if_pos z1, show sortL [5, 9, 1] = [1, 5, 9] from sortL_eq (by decide) (by decide)]; rfl
  have i1 : I64 128 := by unfold I64; omega
  have i2 : I64 (L.length : Int) := by unfold I64; omega
  have i3 : I64 ((L.length : Int) - 1) := by unfold I64; omega
  have i4 := i64_wrap i3
  have c1 := i64_wrap (show I64 K by unfold I64; omega)
  have c2 : 1 + (K - 1) = K := by omega
  have c3 := i64_wrap (show I64 (x + R) by unfold I64; omega)
  have c4 := i64_wrap (show I64 (K + 1) by unfold I64; omega)
  have n1 : ¬ (L.length : Int) < 2 := by omega
  have n2 : (0 : Int) < (L.length : Int) - 1 := by omega
  have n3 : (0 : Int) < (L.length : Int) := by omega
  have n4 : L.length ≤ 17592186044416 := by omega
  have n5 : I.toNat < L.length := by omega
  have n6 : (L.drop T.toNat).length + (L.take T.toNat).length ≤ 4294967296 := by rw [List.length_drop, List.length_take]; omega
  have n7 : List.take L.length L = L := List.take_length
  have l1 : L.length ≤ 4294967296 := by omega
  have I0 := hI.1
  have I1 := hI.2
  have T0 := hT.1
  have T1 : T ≤ (L.length : Int) := by omega
  have l2 : L.length * 8 ≤ 140737488355328 := by omega
  generalize hD : L.drop T.toNat = D at *
  generalize hE : L.take T.toNat = E at *
  simp (config := { maxSteps := 9000000 }) only [↓z_fun, ↓kOps_ap, ↓kReg_ap, ↓kSeq_n, ↓kSeq_e, ↓kSeq_r, ↓kBlk_n, ↓kBlk_e, ↓kBlk_r, ↓kFun_e, ↓kFun_n, ↓kFun_r, ↓e_skip, ↓z_reg, ↓e_frz0, ↓e_frz1, ↓z_seq, ↓e_cond, ↓z_block, ↓e_exit, ↓e_ret, ↓e_loop, f_nil, f_cons, n_nil, n_cons, f_agg, f_int, f_bool, f_str, f_nilv, f_sl, f_ptr, f_gp, g_gp, f_fz, f_clo, f_tup, f_elem, f_unk, f_rw, f_nrw, f_srw, g_nil, g_cons, g_int, g_bool, g_str, g_nilv, g_sl, g_ptr, g_fz, g_clo, g_unk, g_rw, g_nrw, g_srw, c_var, c_row, c_frow, r_sl, r_rw, r_nn, inj_bool, inj_str, inj_ints, inj_bools, inj_row, inj_sl, inj_int, ↓e_nil, ↓z_op, ↓z_opg, ↓o_mov, ↓o_pick, ↓o_bin, ↓o_eqb, ↓o_eqs, ↓o_bins, binS, ↓o_neg, ↓o_xor, ↓o_not, ↓o_conv, ↓o_faddr, ↓o_fld, ↓o_ext, ↓o_mx, b_max, b_min, ↓o_mx3, b_max3, b_min3, ↓o_build, ↓o_box, ↓o_alloc, ↓o_load, ↓o_len, ↓o_lenS, ↓o_idx, ↓o_lit, ↓o_litz, ↓o_litf, SV.go1, SV.go0, ↓o_mk, ↓o_app, ↓o_sub, ↓o_ssub, ↓o_sidx, ↓o_aidx, ↓o_aptr, ↓o_mkf, ↓o_nilrow, ↓o_isnil, ↓o_bad, ↓a_slr, ↓a_sls, ↓a_sln, ↓a_nil, appR_some, k_none, k_val, k_new, k_set, l_nil, l_cons, mkRow, intsOf, boolsOf, strsOf, chunks, Row.rep, Row.cat, Row.sub, Row.put, Row.len, Row.get, Row.size, Row.flat, bnds, own0, own1, labsL, labsR, SV.labs, ↓o_store, ↓o_call, ↓o_callv, ↓o_callw, ↓o_apps, m_apps, ↓o_tob, ↓o_tos, t_nil, t_rw, t_sl, ↓o_calla, m_calla, ap_some, w_some, k_ble, c_none, c_some, v_some, argsOf, b_add, b_sub, b_mul, b_quo, b_rem, b_and, b_or, b_xor, b_andNot, b_eql, b_neq, b_lss, b_leq, b_gtr, b_geq, b_shl, b_shr, entFr, SO.ev, fr_put, put_none, mem_put', fr_setm, mem_setm, setM_at, fr_fl, mem_fl, memOf_at, St.of, keepSt, getAll, lookN, hasN, SV.cells, SV.one, SV.res1, SV.res0, SV.resP, SV.ok1, SV.ok0, SV.okN, SV.solid, SV.solid1, SV.solid0, SV.flat0, SV.nm, SV.nm1, SV.nm0, SV.noPtr1, SV.noPtr0, Cel.isFresh, fillP, setAt, partV, eqCells, cellEq, gamY, listsOk, tupOf, takeOwn, SV.ret1, ret_fl, resAll, resL, resV, List.map_cons, List.map_nil, List.flatMap_cons, List.flatMap_nil, List.append_nil, List.nil_append, List.cons_append, List.all_cons, List.all_nil, List.isEmpty_nil, List.isEmpty_cons, Option.map_some, Option.map_none, Option.getD_some, Option.getD_none, Option.isSome_some, Option.isSome_none, Option.isNone_none, Option.isNone_some, Option.toList_none, Option.toList_some, Nat.reduceEqDiff, ↓reduceIte, Nat.reduceAdd, Nat.reduceMul, List.length_cons, List.length_nil, Nat.reduceLeDiff, Nat.reduceLT, List.replicate_zero, List.replicate_succ, List.flatten_nil, List.flatten_cons, List.set_cons_zero, List.set_cons_succ, List.drop_zero, List.drop_succ_cons, List.take_succ_cons, List.take_zero, List.getElem?_cons_zero, List.getElem?_cons_succ, Bool.and_true, Bool.and_false, Bool.false_and, Bool.true_and, Bool.or_false, Bool.or_true, Bool.true_or, Bool.false_or, Bool.not_true, Bool.not_false, Bool.and_self, true_and, and_true, Bool.false_eq_true, reduceCtorEq, labOk, Int.reduceBEq, Int.reduceBNe, Int.reduceToNat, Int.reduceLE, Int.reduceLT, Int.reduceEq, Nat.reduceDiv, Nat.reduceMod, Nat.reduceSub, BEq.rfl, beq_self_eq_true, bne_self_eq_false, decide_true, decide_false, Int.natCast_zero, Int.natCast_one, Int.cast_ofNat_Int, decide_eq_true_eq, decide_eq_false_iff_not, and_self, Nat.reduceBEq, Int.natCast_add, List.length_append, y9, gl, vlevelS, levelsS, withinS, slcatS, cloneS, asI, z1, z2, hL, hk, hi, hb, ht, i1, i2, i3, i4, c1, c2, c3, c4, n1, n2, n3, n4, n5, n6, n7, l1, l2, I0, I1, T0, T1, hx, hy, hM, hD, hE, e1, e2, e3, e4, v1, v2, v3, v4, h1, h3, gt_iff_lt, Int.toNat_natCast, Int.le_refl, labsLL, labsL, SV.labs, labsR, List.append_nil, List.isEmpty_nil]
theorem cnt_set {l : List Int} {i : Nat} (hi : i < l.length) {y : Int} (hy : l.getD i 0 ≤ y) (q : Int) : cntL l q ≤ cntL (l.set i y) q := by
  have h1 : l = l.take i ++ (l.getD i 0 :: l.drop (i + 1)) := by
    rw [List.getD_eq_getElem?_getD, List.getElem?_eq_getElem hi, Option.getD_some, List.getElem_cons_drop, List.take_append_drop]
  have h2 : l.set i y = l.take i ++ (y :: l.drop (i + 1)) := List.set_eq_take_append_cons_drop.trans (if_pos hi)
  rw [h2]
  generalize l.getD i 0 = x at *
  rw [h1]
  unfold cntL
  simp only [List.countP_append, List.countP_cons, decide_eq_true_eq]
  have e1 : (List.take i (List.take i l ++ x :: List.drop (i + 1) l)) = List.take i l := by rw [← h1]
  have e2 : (List.drop (i + 1) (List.take i l ++ x :: List.drop (i + 1) l)) = List.drop (i + 1) l := by rw [← h1]
  rw [e1, e2]
  split <;> split <;> omega
theorem VoteGrows_vc (l : List Int) (bl : AllI l) (k : Int) (bk : I64 k) (i : Int) (bi : I64 i) (b : Int) (bb : I64 b) (t : Int) (bt : I64 t) : vcFun (gamY gl) y9 [.rw (.ints .i64 l), .int .i64 k, .int .i64 i, .int .i64 b, .int .i64 t] none (fun v o => v = .bool true) := by
  obtain ⟨h1, h2⟩ := levL_ok l
  by_cases hs : (levL l).length < 2
  · have z1 : vlE [5, 9, 1] 3 = 0 := by decide
    have z2 : vlV [5, 9, 1] 3 = 1 := by rw [vlV, if_pos z1, show sortL [5, 9, 1] = [1, 5, 9] from sortL_eq (by decide) (by decide)]; rfl
    generalize hL : levL l = L at *
    have n1 : (L.length : Int) < 2 := by omega
    simp (config := { maxSteps := 9000000 }) only [↓z_fun, ↓kOps_ap, ↓kReg_ap, ↓kSeq_n, ↓kSeq_e, ↓kSeq_r, ↓kBlk_n, ↓kBlk_e, ↓kBlk_r, ↓kFun_e, ↓kFun_n, ↓kFun_r, ↓e_skip, ↓z_reg, ↓e_frz0, ↓e_frz1, ↓z_seq, ↓e_cond, ↓z_block, ↓e_exit, ↓e_ret, ↓e_loop, f_nil, f_cons, n_nil, n_cons, f_agg, f_int, f_bool, f_str, f_nilv, f_sl, f_ptr, f_gp, g_gp, f_fz, f_clo, f_tup, f_elem, f_unk, f_rw, f_nrw, f_srw, g_nil, g_cons, g_int, g_bool, g_str, g_nilv, g_sl, g_ptr, g_fz, g_clo, g_unk, g_rw, g_nrw, g_srw, c_var, c_row, c_frow, r_sl, r_rw, r_nn, inj_bool, inj_str, inj_ints, inj_bools, inj_row, inj_sl, inj_int, ↓e_nil, ↓z_op, ↓z_opg, ↓o_mov, ↓o_pick, ↓o_bin, ↓o_eqb, ↓o_eqs, ↓o_bins, binS, ↓o_neg, ↓o_xor, ↓o_not, ↓o_conv, ↓o_faddr, ↓o_fld, ↓o_ext, ↓o_mx, b_max, b_min, ↓o_mx3, b_max3, b_min3, ↓o_build, ↓o_box, ↓o_alloc, ↓o_load, ↓o_len, ↓o_lenS, ↓o_idx, ↓o_lit, ↓o_litz, ↓o_litf, SV.go1, SV.go0, ↓o_mk, ↓o_app, ↓o_sub, ↓o_ssub, ↓o_sidx, ↓o_aidx, ↓o_aptr, ↓o_mkf, ↓o_nilrow, ↓o_isnil, ↓o_bad, ↓a_slr, ↓a_sls, ↓a_sln, ↓a_nil, appR_some, k_none, k_val, k_new, k_set, l_nil, l_cons, mkRow, intsOf, boolsOf, strsOf, chunks, Row.rep, Row.cat, Row.sub, Row.put, Row.len, Row.get, Row.size, Row.flat, bnds, own0, own1, labsL, labsR, SV.labs, ↓o_store, ↓o_call, ↓o_callv, ↓o_callw, ↓o_apps, m_apps, ↓o_tob, ↓o_tos, t_nil, t_rw, t_sl, ↓o_calla, m_calla, ap_some, w_some, k_ble, c_none, c_some, v_some, argsOf, b_add, b_sub, b_mul, b_quo, b_rem, b_and, b_or, b_xor, b_andNot, b_eql, b_neq, b_lss, b_leq, b_gtr, b_geq, b_shl, b_shr, entFr, SO.ev, fr_put, put_none, mem_put', fr_setm, mem_setm, setM_at, fr_fl, mem_fl, memOf_at, St.of, keepSt, getAll, lookN, hasN, SV.cells, SV.one, SV.res1, SV.res0, SV.resP, SV.ok1, SV.ok0, SV.okN, SV.solid, SV.solid1, SV.solid0, SV.flat0, SV.nm, SV.nm1, SV.nm0, SV.noPtr1, SV.noPtr0, Cel.isFresh, fillP, setAt, partV, eqCells, cellEq, gamY, listsOk, tupOf, takeOwn, SV.ret1, ret_fl, resAll, resL, resV, List.map_cons, List.map_nil, List.flatMap_cons, List.flatMap_nil, List.append_nil, List.nil_append, List.cons_append, List.all_cons, List.all_nil, List.isEmpty_nil, List.isEmpty_cons, Option.map_some, Option.map_none, Option.getD_some, Option.getD_none, Option.isSome_some, Option.isSome_none, Option.isNone_none, Option.isNone_some, Option.toList_none, Option.toList_some, Nat.reduceEqDiff, ↓reduceIte, Nat.reduceAdd, Nat.reduceMul, List.length_cons, List.length_nil, Nat.reduceLeDiff, Nat.reduceLT, List.replicate_zero, List.replicate_succ, List.flatten_nil, List.flatten_cons, List.set_cons_zero, List.set_cons_succ, List.drop_zero, List.drop_succ_cons, List.take_succ_cons, List.take_zero, List.getElem?_cons_zero, List.getElem?_cons_succ, Bool.and_true, Bool.and_false, Bool.false_and, Bool.true_and, Bool.or_false, Bool.or_true, Bool.true_or, Bool.false_or, Bool.not_true, Bool.not_false, Bool.and_self, true_and, and_true, Bool.false_eq_true, reduceCtorEq, labOk, Int.reduceBEq, Int.reduceBNe, Int.reduceToNat, Int.reduceLE, Int.reduceLT, Int.reduceEq, Nat.reduceDiv, Nat.reduceMod, Nat.reduceSub, BEq.rfl, beq_self_eq_true, bne_self_eq_false, decide_true, decide_false, Int.natCast_zero, Int.natCast_one, Int.cast_ofNat_Int, decide_eq_true_eq, decide_eq_false_iff_not, and_self, Nat.reduceBEq, Int.natCast_add, List.length_append, y9, gl, vlevelS, levelsS, withinS, slcatS, cloneS, asI, z1, z2, hL, n1]
  have hk := withinN_lt k (n := (levL l).length - 1) (by omega)
  have hi := withinN_lt i (n := (levL l).length) (by omega)
  have hb := withinN_lt b (n := 128) (by omega)
  have ht := withinN_lt t (n := (levL l).length) (by omega)
  generalize hL : levL l = L at *
  obtain ⟨K, hK⟩ : ∃ K, withinN k (L.length - 1) = K - 1 := ⟨withinN k (L.length - 1) + 1, by omega⟩
  generalize hI : withinN i L.length = I at *
  generalize hR : withinN b 128 = R at *
  generalize hT : withinN t L.length = T at *
  have hx := h2 (L.getD I.toNat 0) (getD_mem (by omega))
  obtain ⟨y, hy⟩ : ∃ y, (if L.getD I.toNat 0 + R < 127 then L.getD I.toNat 0 + R else 127) = y := ⟨_, rfl⟩
  have hy1 : L.getD I.toNat 0 ≤ y ∧ y ≤ 127 := by rw [← hy]; split <;> omega
  have hM : ∀ z ∈ L.set I.toNat y, 0 ≤ z ∧ z ≤ 127 := fun z hz => by
    rcases List.mem_or_eq_of_mem_set hz with h | h
    · exact h2 z h
    · omega
  have hMl : (L.set I.toNat y).length = L.length := List.length_set
  have hp : (L.drop T.toNat ++ L.take T.toNat).Perm L := by
    have := List.perm_append_comm (l₁ := L.drop T.toNat) (l₂ := L.take T.toNat)
    rwa [List.take_append_drop] at this
  have hQ : ∀ z ∈ L.drop T.toNat ++ L.take T.toNat, 0 ≤ z ∧ z ≤ 127 := fun z hz => h2 z (hp.mem_iff.1 hz)
  have hQl := hp.length_eq
  obtain ⟨e1, v1⟩ := vlV_0 (lev_vE h1 h2 (k := K) (by omega)) (by omega)
  obtain ⟨e2, v2⟩ := vlV_0 (lev_vE h1 h2 (k := K + 1) (by omega)) (by omega)
  obtain ⟨e3, v3⟩ := vlV_0 (lev_vE (by omega) hM (k := K) (by omega)) (by omega)
  obtain ⟨e4, v4⟩ := vlV_0 (lev_vE (by omega) hQ (k := K) (by omega)) (by omega)
  refine VoteGrows_in l L _ k i b t K I R T _ y _ _ _ hL h1 (by omega) hK (by omega) hI (by omega) hR (by omega) hT (by omega) rfl hx hy rfl e1 e2 e3 e4 v1 v2 v3 ?_ ?_ ?_
  · rw [v4, hQl, sortL_of_perm hp]
  · exact sortL_mono (by omega) (by omega)
  · rw [hMl, kth_ge (by omega), hMl]
    have := (kth_ge (l := L) (j := ((L.length : Int) - K).toNat) (by omega) _).1 (Int.le_refl _)
    have := cnt_set (l := L) (i := I.toNat) (by omega) hy1.1 ((sortL L).getD ((L.length : Int) - K).toNat 0)
    omega
theorem VoteGrows_walk (W : World) (v0 : Value) (l0 : List Int) (b0 : AllI l0) (i0 : Is (E0 W fun _ => False) (.rw (.ints .i64 l0)) v0) (n1 : Int) (b1 : I64 n1) (n2 : Int) (b2 : I64 n2) (n3 : Int) (b3 : I64 n3) (n4 : Int) (b4 : I64 n4) :
    Calls Try.prog 9 #[v0, .int .i64 n1, .int .i64 n2, .int .i64 n3, .int .i64 n4] W fun e w' => e = .returned (.bool true) ∧ Below W.heap.size W w' :=
  law_callY gl_ok lawy_mixed y9_eq (VoteGrows_vc l0 b0 n1 b1 n2 b2 n3 b3 n4 b4) (Nat.le_of_ble_eq_true rfl) W (lawy_glb W) [v0, .int .i64 n1, .int .i64 n2, .int .i64 n3, .int .i64 n4] (All.cons i0 (All.cons (.int _ _) (All.cons (.int _ _) (All.cons (.int _ _) (All.cons (.int _ _) All.nil)))))
set_option maxRecDepth 100000 in
theorem VoteGrows_lifted (os : Os) (started : os.Started) (H : Type) (enc : TypeId × Value → H) :
    ReturnsInHanded {} Try.checked os 9 .any (Rows.voteGrowsSpec.pre6 enc Try.prog Try.f9 Rows.voteGrowsRow.domain false) (Rows.voteGrowsSpec.post enc Try.prog Try.f9 false true false false) := by
  refine returnsInHanded_of_change (C := Try.checked) lawy_own started (by kernel_rfl) Try.func9
    (ChangeSpec.witness6 (enc := enc) (C := Try.checked) false ⟨#[], #[.slice none 0 0, .int .i64 0, .int .i64 0, .int .i64 0, .int .i64 0], []⟩ 8 (by kernel_rfl) (by kernel_rfl) (by kernel_rfl) (by kernel_rfl)) ?_
  intro W base args ds gs before hval0 hW hcnd _
  have hval : ∀ (j : Nat) t v, Try.f9.params[j]? = some t → args[j]? = some v → Value.okWide Try.prog W .any base t v := hval0
  have hW' := hW
  obtain ⟨p, q, hA0, hV, rfl, hfz, hnd⟩ := hW
  have hA : DataW.TrodAll enc Try.prog W 0 (fun _ => true) true Try.f9.params.toList args.toList ds p := hA0
  rw [Try.params9] at hA hval
  obtain ⟨v0, vs0, d0, ds0, p0, q0, hargs, rfl, rfl, h0, r0⟩ := trodAll_cons hA
  obtain ⟨v1, vs1, d1, ds1, p1, q1, rfl, rfl, rfl, h1, r1⟩ := trodAll_cons r0
  obtain ⟨v2, vs2, d2, ds2, p2, q2, rfl, rfl, rfl, h2, r2⟩ := trodAll_cons r1
  obtain ⟨v3, vs3, d3, ds3, p3, q3, rfl, rfl, rfl, h3, r3⟩ := trodAll_cons r2
  obtain ⟨v4, vs4, d4, ds4, p4, q4, rfl, rfl, rfl, h4, r4⟩ := trodAll_cons r3
  obtain ⟨rfl, rfl, rfl⟩ := trodAll_nil r4
  obtain rfl : args = #[v0, v1, v2, v3, v4] := by cases args; simp_all
  obtain ⟨rfl, rfl⟩ := trodVars_none hV
  have lt0 := places_lt h0
  obtain ⟨l0, hl0, hi0⟩ := open_ints Try.underlying35 Try.underlying3 (by kernel_rfl) (hval 0 35 v0 rfl rfl) h0
  have lt1 := places_lt h1
  obtain ⟨n1, e1, _, _, wn1⟩ := open_int Try.underlying3 (hval 1 3 v1 rfl rfl) h1
  subst e1
  have lt2 := places_lt h2
  obtain ⟨n2, e2, _, _, wn2⟩ := open_int Try.underlying3 (hval 2 3 v2 rfl rfl) h2
  subst e2
  have lt3 := places_lt h3
  obtain ⟨n3, e3, _, _, wn3⟩ := open_int Try.underlying3 (hval 3 3 v3 rfl rfl) h3
  subst e3
  have lt4 := places_lt h4
  obtain ⟨n4, e4, _, _, wn4⟩ := open_int Try.underlying3 (hval 4 3 v4 rfl rfl) h4
  subst e4
  clear hA0 hval0
  refine (VoteGrows_walk W v0 l0 hl0 hi0 n1 (i64_of wn1) n2 (i64_of wn2) n3 (i64_of wn3) n4 (i64_of wn4)).mono fun e W' ⟨he, bel⟩ => ?_
  subst he
  exact ⟨_, rfl, _, _, _, [], _, [], hW', trodAll_mk1 (shut_bool Try.underlying4 _), (trodAll_cons_mk (bel.trod lawy_laid (by kernel_rfl) (of_decide_eq_true (by kernel_rfl)) h0 lt0) (trodAll_cons_mk (bel.trod lawy_laid (by kernel_rfl) (of_decide_eq_true (by kernel_rfl)) h1 lt1) (trodAll_cons_mk (bel.trod lawy_laid (by kernel_rfl) (of_decide_eq_true (by kernel_rfl)) h2 lt2) (trodAll_cons_mk (bel.trod lawy_laid (by kernel_rfl) (of_decide_eq_true (by kernel_rfl)) h3 lt3) (trodAll_cons_mk (bel.trod lawy_laid (by kernel_rfl) (of_decide_eq_true (by kernel_rfl)) h4 lt4) trodAll_mk0))))), rfl, bel.frame _, fun h => by cases h⟩
theorem VoteGrows_holds : Rows.VoteGrowsSaid :=
  OpenClaim.holds_of_wide 9 Try.f9 rfl rfl rfl rfl rfl rfl rfl ⟨rfl, rfl, rfl, rfl, rfl⟩ rfl rfl rfl rfl rfl (by kernel_rfl) Try.func9 (by kernel_rfl)
    (of_decide_eq_true (by kernel_rfl)) (by unfold Func.isWrapper; first | (rw [if_pos (by decide +kernel)]; kernel_rfl) | (rw [if_neg (by decide +kernel)]; exact ⟨rfl, rfl⟩))
    (fun os started H enc _ => VoteGrows_lifted os started H enc)
end Go.Proofs.Ytlfhcjohkpdkoaa
