/- hwkeep.DecLong returns true for every number of 128 bits. No condition. -/
import Derived.Test.YtnblokihjilopaaYDe
import Derived.Test.YtnblokihjilopaaYKh
import Derived.Test.YtnblokihjilopaaYRt
import Derived.Test.YtnblokihjilopaaCYDecLong
namespace Go.Proofs.Ytnblokihjilopaa
open Go.ChangeShapes Go.WideShapes Go.ChangeAt Go.RowKit Go.Joins Y
set_option linter.unusedSimpArgs false
set_option linter.unusedVariables false
set_option maxRecDepth 100000
set_option maxHeartbeats 40000000
def gL : List (Nat × Say) := [(43, textS), (54, numS), (55, powS), (45, wCmpS)]
theorem gL_ok : GamOk Try.prog (gamY gL) := gam_ok (gam_cons text_ok (gam_cons num_ok (gam_cons pow_ok (gam_cons wCmp_ok gam_nil))))
theorem DecLong_in (n : Nat) (hn : Fits n) (T : List UInt8) (K : Int) (hT : decS n = T) (hK : (T.length : Int) = K) (w1 : IntKind.i64.wrap (K - 1) = K - 1) (t10 : (10 : Int).toNat = 10) (f10 : Fits 10) (L H : Nat) (E : Int) (f1 : Fits L) (f2 : Fits H) (p1 : powN 10 (K - 1) = L) (p2 : powE 10 (K - 1) = 0) (p3 : powN 10 K = H) (p4 : powE 10 K = E)
    (k0 : decS 0 = [48]) (k10 : decS 10 = [49, 48]) (o0 : OkW 0 0) (w0 : wN 0 0 = 0) (B : Bool) (hB : decide (n = 0) = B) (h1 : B = true → (K == 1) = true) (h2 : B = false → L ≤ n ∧ (E = 0 → n < H)) :
    vcFun (gamY gL) y10 [.agg [.int .u64 (hiN n), .int .u64 (loN n)]] none fun v o => v = .bool true := by
  have z0 := hl0
  cases B with
  | true =>
    have g := h1 rfl
    simp (config := { maxSteps := 9000000 }) only [↓e_fun, ↓e_skip, ↓e_reg, ↓e_frz0, ↓e_frz1, ↓e_seq, ↓e_cond, ↓e_block, ↓e_exit, ↓e_ret, ↓e_loop, f_nil, f_cons, n_nil, n_cons, f_agg, f_int, f_bool, f_str, f_nilv, f_sl, f_ptr, f_gp, g_gp, f_fz, f_clo, f_tup, f_elem, f_unk, f_rw, f_nrw, f_srw, g_nil, g_cons, g_int, g_bool, g_str, g_nilv, g_sl, g_ptr, g_fz, g_clo, g_unk, g_rw, g_nrw, g_srw, c_var, c_row, c_frow, r_sl, r_rw, r_nn, inj_bool, inj_str, inj_ints, inj_bools, inj_row, inj_sl, inj_int, ↓e_nil, ↓e_op, ↓e_opg, ↓o_mov, ↓o_pick, ↓o_bin, ↓o_eqb, ↓o_eqs, ↓o_bins, binS, ↓o_neg, ↓o_xor, ↓o_not, ↓o_conv, ↓o_faddr, ↓o_fld, ↓o_ext, ↓o_mx, b_max, b_min, ↓o_mx3, b_max3, b_min3, ↓o_build, ↓o_box, ↓o_alloc, ↓o_load, ↓o_len, ↓o_lenS, ↓o_idx, ↓o_lit, ↓o_litf, SV.go1, SV.go0, ↓o_mk, ↓o_app, ↓o_sub, ↓o_ssub, ↓o_sidx, ↓o_aidx, ↓o_aptr, ↓o_mkf, ↓o_nilrow, ↓o_isnil, ↓o_bad, ↓a_slr, ↓a_sls, ↓a_sln, ↓a_nil, appR_some, k_none, k_val, k_new, k_set, l_nil, l_cons, mkRow, intsOf, boolsOf, strsOf, chunks, Row.rep, Row.cat, Row.sub, Row.put, Row.len, Row.get, Row.size, Row.flat, bnds, own0, own1, labsL, labsR, SV.labs, ↓o_store, ↓o_call, ↓o_callv, ↓o_callw, ↓o_apps, m_apps, ↓o_tob, ↓o_tos, t_nil, t_rw, t_sl, ↓o_calla, m_calla, ap_some, w_some, k_ble, c_none, c_some, v_some, argsOf, b_add, b_sub, b_mul, b_quo, b_rem, b_and, b_or, b_xor, b_andNot, b_eql, b_neq, b_lss, b_leq, b_gtr, b_geq, b_shl, b_shr, entFr, SO.ev, fr_put, put_none, mem_put', fr_setm, mem_setm, setM_at, fr_fl, mem_fl, memOf_at, St.of, keepSt, getAll, lookN, hasN, SV.cells, SV.one, SV.res1, SV.res0, SV.resP, SV.ok1, SV.ok0, SV.okN, SV.solid, SV.solid1, SV.solid0, SV.flat0, SV.nm, SV.nm1, SV.nm0, SV.noPtr1, SV.noPtr0, Cel.isFresh, fillP, setAt, partV, eqCells, cellEq, gamY, listsOk, tupOf, takeOwn, SV.ret1, ret_fl, resAll, resL, resV, List.map_cons, List.map_nil, List.flatMap_cons, List.flatMap_nil, List.append_nil, List.nil_append, List.cons_append, List.all_cons, List.all_nil, List.isEmpty_nil, List.isEmpty_cons, Option.map_some, Option.map_none, Option.getD_some, Option.getD_none, Option.isSome_some, Option.isSome_none, Option.isNone_none, Option.isNone_some, Option.toList_none, Option.toList_some, Nat.reduceEqDiff, ↓reduceIte, Nat.reduceAdd, Nat.reduceMul, List.length_cons, List.length_nil, Nat.reduceLeDiff, Nat.reduceLT, List.replicate_zero, List.replicate_succ, List.flatten_nil, List.flatten_cons, List.set_cons_zero, List.set_cons_succ, List.drop_zero, List.drop_succ_cons, List.take_succ_cons, List.take_zero, List.getElem?_cons_zero, List.getElem?_cons_succ, Bool.and_true, Bool.and_false, Bool.false_and, Bool.true_and, Bool.or_false, Bool.or_true, Bool.true_or, Bool.false_or, Bool.not_true, Bool.not_false, Bool.and_self, true_and, and_true, Bool.false_eq_true, reduceCtorEq, labOk, Int.reduceBEq, Int.reduceBNe, Int.reduceToNat, Int.reduceLE, Int.reduceLT, Int.reduceEq, Nat.reduceDiv, Nat.reduceMod, Nat.reduceSub, BEq.rfl, beq_self_eq_true, bne_self_eq_false, decide_true, decide_false, Int.natCast_zero, Int.natCast_one, Int.cast_ofNat_Int, decide_eq_true_eq, decide_eq_false_iff_not, and_self, Nat.reduceBEq, Int.natCast_add, List.length_append, fitR, fitR1, fitR0, fitRL1, fitRL, wd, wN_hl, OkW_hl, eq_hl, eq_h0, wN_0, OkW_0, cmpN_le0, cmpN_gt0, cmpN_lt0, cmpN_ge0, Int.toNat_natCast, y10, gL, textS, numS, powS, wCmpS, hn, hT, hK, w1, t10, f10, o0, w0, k0, k10, hB, g]
  | false =>
    obtain ⟨g1, g2⟩ := h2 rfl
    by_cases hE : E = 0
    · have g3 := g2 hE
      subst hE
      simp (config := { maxSteps := 9000000 }) only [↓e_fun, ↓e_skip, ↓e_reg, ↓e_frz0, ↓e_frz1, ↓e_seq, ↓e_cond, ↓e_block, ↓e_exit, ↓e_ret, ↓e_loop, f_nil, f_cons, n_nil, n_cons, f_agg, f_int, f_bool, f_str, f_nilv, f_sl, f_ptr, f_gp, g_gp, f_fz, f_clo, f_tup, f_elem, f_unk, f_rw, f_nrw, f_srw, g_nil, g_cons, g_int, g_bool, g_str, g_nilv, g_sl, g_ptr, g_fz, g_clo, g_unk, g_rw, g_nrw, g_srw, c_var, c_row, c_frow, r_sl, r_rw, r_nn, inj_bool, inj_str, inj_ints, inj_bools, inj_row, inj_sl, inj_int, ↓e_nil, ↓e_op, ↓e_opg, ↓o_mov, ↓o_pick, ↓o_bin, ↓o_eqb, ↓o_eqs, ↓o_bins, binS, ↓o_neg, ↓o_xor, ↓o_not, ↓o_conv, ↓o_faddr, ↓o_fld, ↓o_ext, ↓o_mx, b_max, b_min, ↓o_mx3, b_max3, b_min3, ↓o_build, ↓o_box, ↓o_alloc, ↓o_load, ↓o_len, ↓o_lenS, ↓o_idx, ↓o_lit, ↓o_litf, SV.go1, SV.go0, ↓o_mk, ↓o_app, ↓o_sub, ↓o_ssub, ↓o_sidx, ↓o_aidx, ↓o_aptr, ↓o_mkf, ↓o_nilrow, ↓o_isnil, ↓o_bad, ↓a_slr, ↓a_sls, ↓a_sln, ↓a_nil, appR_some, k_none, k_val, k_new, k_set, l_nil, l_cons, mkRow, intsOf, boolsOf, strsOf, chunks, Row.rep, Row.cat, Row.sub, Row.put, Row.len, Row.get, Row.size, Row.flat, bnds, own0, own1, labsL, labsR, SV.labs, ↓o_store, ↓o_call, ↓o_callv, ↓o_callw, ↓o_apps, m_apps, ↓o_tob, ↓o_tos, t_nil, t_rw, t_sl, ↓o_calla, m_calla, ap_some, w_some, k_ble, c_none, c_some, v_some, argsOf, b_add, b_sub, b_mul, b_quo, b_rem, b_and, b_or, b_xor, b_andNot, b_eql, b_neq, b_lss, b_leq, b_gtr, b_geq, b_shl, b_shr, entFr, SO.ev, fr_put, put_none, mem_put', fr_setm, mem_setm, setM_at, fr_fl, mem_fl, memOf_at, St.of, keepSt, getAll, lookN, hasN, SV.cells, SV.one, SV.res1, SV.res0, SV.resP, SV.ok1, SV.ok0, SV.okN, SV.solid, SV.solid1, SV.solid0, SV.flat0, SV.nm, SV.nm1, SV.nm0, SV.noPtr1, SV.noPtr0, Cel.isFresh, fillP, setAt, partV, eqCells, cellEq, gamY, listsOk, tupOf, takeOwn, SV.ret1, ret_fl, resAll, resL, resV, List.map_cons, List.map_nil, List.flatMap_cons, List.flatMap_nil, List.append_nil, List.nil_append, List.cons_append, List.all_cons, List.all_nil, List.isEmpty_nil, List.isEmpty_cons, Option.map_some, Option.map_none, Option.getD_some, Option.getD_none, Option.isSome_some, Option.isSome_none, Option.isNone_none, Option.isNone_some, Option.toList_none, Option.toList_some, Nat.reduceEqDiff, ↓reduceIte, Nat.reduceAdd, Nat.reduceMul, List.length_cons, List.length_nil, Nat.reduceLeDiff, Nat.reduceLT, List.replicate_zero, List.replicate_succ, List.flatten_nil, List.flatten_cons, List.set_cons_zero, List.set_cons_succ, List.drop_zero, List.drop_succ_cons, List.take_succ_cons, List.take_zero, List.getElem?_cons_zero, List.getElem?_cons_succ, Bool.and_true, Bool.and_false, Bool.false_and, Bool.true_and, Bool.or_false, Bool.or_true, Bool.true_or, Bool.false_or, Bool.not_true, Bool.not_false, Bool.and_self, true_and, and_true, Bool.false_eq_true, reduceCtorEq, labOk, Int.reduceBEq, Int.reduceBNe, Int.reduceToNat, Int.reduceLE, Int.reduceLT, Int.reduceEq, Nat.reduceDiv, Nat.reduceMod, Nat.reduceSub, BEq.rfl, beq_self_eq_true, bne_self_eq_false, decide_true, decide_false, Int.natCast_zero, Int.natCast_one, Int.cast_ofNat_Int, decide_eq_true_eq, decide_eq_false_iff_not, and_self, Nat.reduceBEq, Int.natCast_add, List.length_append, fitR, fitR1, fitR0, fitRL1, fitRL, wd, wN_hl, OkW_hl, eq_hl, eq_h0, wN_0, OkW_0, cmpN_le0, cmpN_gt0, cmpN_lt0, cmpN_ge0, Int.toNat_natCast, y10, gL, textS, numS, powS, wCmpS, hn, hT, hK, w1, t10, f10, f1, f2, p1, p2, p3, p4, o0, w0, k0, k10, hB, g1, g3]
    · have t1 : (E != 0) = true := by simpa using hE
      simp (config := { maxSteps := 9000000 }) only [↓e_fun, ↓e_skip, ↓e_reg, ↓e_frz0, ↓e_frz1, ↓e_seq, ↓e_cond, ↓e_block, ↓e_exit, ↓e_ret, ↓e_loop, f_nil, f_cons, n_nil, n_cons, f_agg, f_int, f_bool, f_str, f_nilv, f_sl, f_ptr, f_gp, g_gp, f_fz, f_clo, f_tup, f_elem, f_unk, f_rw, f_nrw, f_srw, g_nil, g_cons, g_int, g_bool, g_str, g_nilv, g_sl, g_ptr, g_fz, g_clo, g_unk, g_rw, g_nrw, g_srw, c_var, c_row, c_frow, r_sl, r_rw, r_nn, inj_bool, inj_str, inj_ints, inj_bools, inj_row, inj_sl, inj_int, ↓e_nil, ↓e_op, ↓e_opg, ↓o_mov, ↓o_pick, ↓o_bin, ↓o_eqb, ↓o_eqs, ↓o_bins, binS, ↓o_neg, ↓o_xor, ↓o_not, ↓o_conv, ↓o_faddr, ↓o_fld, ↓o_ext, ↓o_mx, b_max, b_min, ↓o_mx3, b_max3, b_min3, ↓o_build, ↓o_box, ↓o_alloc, ↓o_load, ↓o_len, ↓o_lenS, ↓o_idx, ↓o_lit, ↓o_litf, SV.go1, SV.go0, ↓o_mk, ↓o_app, ↓o_sub, ↓o_ssub, ↓o_sidx, ↓o_aidx, ↓o_aptr, ↓o_mkf, ↓o_nilrow, ↓o_isnil, ↓o_bad, ↓a_slr, ↓a_sls, ↓a_sln, ↓a_nil, appR_some, k_none, k_val, k_new, k_set, l_nil, l_cons, mkRow, intsOf, boolsOf, strsOf, chunks, Row.rep, Row.cat, Row.sub, Row.put, Row.len, Row.get, Row.size, Row.flat, bnds, own0, own1, labsL, labsR, SV.labs, ↓o_store, ↓o_call, ↓o_callv, ↓o_callw, ↓o_apps, m_apps, ↓o_tob, ↓o_tos, t_nil, t_rw, t_sl, ↓o_calla, m_calla, ap_some, w_some, k_ble, c_none, c_some, v_some, argsOf, b_add, b_sub, b_mul, b_quo, b_rem, b_and, b_or, b_xor, b_andNot, b_eql, b_neq, b_lss, b_leq, b_gtr, b_geq, b_shl, b_shr, entFr, SO.ev, fr_put, put_none, mem_put', fr_setm, mem_setm, setM_at, fr_fl, mem_fl, memOf_at, St.of, keepSt, getAll, lookN, hasN, SV.cells, SV.one, SV.res1, SV.res0, SV.resP, SV.ok1, SV.ok0, SV.okN, SV.solid, SV.solid1, SV.solid0, SV.flat0, SV.nm, SV.nm1, SV.nm0, SV.noPtr1, SV.noPtr0, Cel.isFresh, fillP, setAt, partV, eqCells, cellEq, gamY, listsOk, tupOf, takeOwn, SV.ret1, ret_fl, resAll, resL, resV, List.map_cons, List.map_nil, List.flatMap_cons, List.flatMap_nil, List.append_nil, List.nil_append, List.cons_append, List.all_cons, List.all_nil, List.isEmpty_nil, List.isEmpty_cons, Option.map_some, Option.map_none, Option.getD_some, Option.getD_none, Option.isSome_some, Option.isSome_none, Option.isNone_none, Option.isNone_some, Option.toList_none, Option.toList_some, Nat.reduceEqDiff, ↓reduceIte, Nat.reduceAdd, Nat.reduceMul, List.length_cons, List.length_nil, Nat.reduceLeDiff, Nat.reduceLT, List.replicate_zero, List.replicate_succ, List.flatten_nil, List.flatten_cons, List.set_cons_zero, List.set_cons_succ, List.drop_zero, List.drop_succ_cons, List.take_succ_cons, List.take_zero, List.getElem?_cons_zero, List.getElem?_cons_succ, Bool.and_true, Bool.and_false, Bool.false_and, Bool.true_and, Bool.or_false, Bool.or_true, Bool.true_or, Bool.false_or, Bool.not_true, Bool.not_false, Bool.and_self, true_and, and_true, Bool.false_eq_true, reduceCtorEq, labOk, Int.reduceBEq, Int.reduceBNe, Int.reduceToNat, Int.reduceLE, Int.reduceLT, Int.reduceEq, Nat.reduceDiv, Nat.reduceMod, Nat.reduceSub, BEq.rfl, beq_self_eq_true, bne_self_eq_false, decide_true, decide_false, Int.natCast_zero, Int.natCast_one, Int.cast_ofNat_Int, decide_eq_true_eq, decide_eq_false_iff_not, and_self, Nat.reduceBEq, Int.natCast_add, List.length_append, fitR, fitR1, fitR0, fitRL1, fitRL, wd, wN_hl, OkW_hl, eq_hl, eq_h0, wN_0, OkW_0, cmpN_le0, cmpN_gt0, cmpN_lt0, cmpN_ge0, Int.toNat_natCast, y10, gL, textS, numS, powS, wCmpS, hn, hT, hK, w1, t10, f10, f1, f2, p1, p2, p3, p4, o0, w0, k0, k10, hB, g1, t1]
theorem DecLong_vc (x1 y1 : Int) (k1 : U64 x1) (k2 : U64 y1) : vcFun (gamY gL) y10 [.agg [.int .u64 x1, .int .u64 y1]] none fun v o => v = .bool true := by
  unfold U64 at k1 k2
  obtain ⟨hn, e1, e2⟩ := isW_wN (x := x1) (y := y1) (by unfold OkW; omega)
  generalize wN x1 y1 = n at *
  subst e1 e2
  have hlen : (decS n).length ≤ 39 := by rw [decS_len]; exact digR_len 38 n (fits39 hn)
  have hpos := digR_pos n
  have hl := decS_len n
  have hbig : (10 : Nat) ^ 38 < 340282366920938463463374607431768211456 := by decide
  have hpw : ∀ k, k ≤ 38 → 10 ^ k < 340282366920938463463374607431768211456 := fun k hk => Nat.lt_of_le_of_lt (Nat.pow_le_pow_right (by omega) hk) hbig
  obtain ⟨k, hk⟩ : ∃ k, (decS n).length = k + 1 := ⟨(decS n).length - 1, by omega⟩
  have e5 : (((decS n).length : Int) - 1).toNat = k := by omega
  have e6 : ((decS n).length : Int).toNat = k + 1 := by omega
  have P1 : powN 10 (((decS n).length : Int) - 1) = 10 ^ k := by unfold powN; rw [e5, if_pos ⟨by omega, by omega, hpw k (by omega)⟩]
  have P2 : powE 10 (((decS n).length : Int) - 1) = 0 := by unfold powE; rw [e5, if_pos ⟨by omega, by omega⟩, if_pos (hpw k (by omega))]
  refine DecLong_in n hn (decS n) _ rfl rfl (i64_wrap (by unfold I64; omega)) rfl (by unfold Fits; omega) (10 ^ k) (powN 10 ((decS n).length : Int)) (powE 10 ((decS n).length : Int)) (by unfold Fits; exact hpw k (by omega)) ?_ P1 P2 rfl rfl known_0 known_10 (by unfold OkW; omega) rfl (decide (n = 0)) rfl (fun h => ?_) (fun h => ?_)
  · unfold powN Fits; split
    · rename_i h; exact h.2.2
    · omega
  · have h0 : n = 0 := by simpa using h
    subst h0
    rw [known_0]; rfl
  · have h0 : 0 < n := by
      have : ¬ n = 0 := by simpa using h
      omega
    have hb := digR_bd n h0
    rw [← hl, hk] at hb
    refine ⟨by simpa using hb.1, fun hE => ?_⟩
    have hlt : 10 ^ (k + 1) < 340282366920938463463374607431768211456 := by
      unfold powE at hE
      rw [e6, if_pos ⟨by omega, by omega⟩] at hE
      split at hE
      · assumption
      · cases hE
    have P3 : powN 10 ((decS n).length : Int) = 10 ^ (k + 1) := by unfold powN; rw [e6, if_pos ⟨by omega, by omega, hlt⟩]
    rw [P3]
    exact hb.2
theorem DecLong_walk (W : World) (n0 m0 : Int) (b0 : U64 n0) (c0 : U64 m0) :
    Calls Try.prog 10 #[.agg #[.int .u64 n0, .int .u64 m0]] W fun e w' => e = .returned (.bool true) ∧ Below W.heap.size W w' :=
  law_callY gL_ok lawy_mixed y10_eq (DecLong_vc n0 m0 b0 c0) (Nat.le_of_ble_eq_true rfl) W (lawy_glb W) [.agg #[.int .u64 n0, .int .u64 m0]] (All.cons (is_agg2 (.int _ _) (.int _ _)) All.nil)
set_option maxRecDepth 100000 in
theorem DecLong_lifted (os : Os) (started : os.Started) (H : Type) (enc : TypeId × Value → H) :
    ReturnsInHanded {} Try.checked os 10 .any (Rows.decLongSpec.pre6 enc Try.prog Try.f10 Rows.decLongRow.domain false) (Rows.decLongSpec.post enc Try.prog Try.f10 false true false false) := by
  refine returnsInHanded_of_change (C := Try.checked) lawy_own started (by kernel_rfl) Try.func10
    (ChangeSpec.witness6 (enc := enc) (C := Try.checked) false ⟨#[], #[.agg #[.int .u64 0, .int .u64 0]], []⟩ 8 (by kernel_rfl) (by kernel_rfl) (by kernel_rfl) (by kernel_rfl)) ?_
  intro W base args ds gs before hval0 hW hcnd _
  have hval : ∀ (j : Nat) t v, Try.f10.params[j]? = some t → args[j]? = some v → Value.okWide Try.prog W .any base t v := hval0
  have hW' := hW
  obtain ⟨p, q, hA0, hV, rfl, hfz, hnd⟩ := hW
  have hA : DataW.TrodAll enc Try.prog W 0 (fun _ => true) true Try.f10.params.toList args.toList ds p := hA0
  rw [Try.params10] at hA hval
  obtain ⟨v0, vs0, d0, ds0, p0, q0, hargs, rfl, rfl, h0, r0⟩ := trodAll_cons hA
  obtain ⟨rfl, rfl, rfl⟩ := trodAll_nil r0
  obtain rfl : args = #[v0] := by cases args; simp_all
  obtain ⟨rfl, rfl⟩ := trodVars_none hV
  have lt0 := places_lt h0
  obtain ⟨n0, m0, e0, b0, c0⟩ := open_words2 Try.underlying59 (by kernel_rfl) (by kernel_rfl) Try.underlying57 Try.underlying57 (hval 0 59 v0 rfl rfl) h0
  subst e0
  clear hA0 hval0
  refine (DecLong_walk W n0 m0 b0 c0).mono fun e W' ⟨he, bel⟩ => ?_
  subst he
  exact ⟨_, rfl, _, _, _, [], _, [], hW', trodAll_mk1 (shut_bool Try.underlying4 _), (trodAll_cons_mk (bel.trod lawy_laid (by kernel_rfl) (of_decide_eq_true (by kernel_rfl)) h0 lt0) trodAll_mk0), rfl, bel.frame _, fun h => by cases h⟩
theorem DecLong_holds : Rows.DecLongSaid :=
  OpenClaim.holds_of_wide 10 Try.f10 rfl rfl rfl rfl rfl rfl rfl ⟨rfl, rfl, rfl, rfl, rfl⟩ rfl rfl rfl rfl rfl (by kernel_rfl) Try.func10 (by kernel_rfl)
    (of_decide_eq_true (by kernel_rfl)) (by unfold Func.isWrapper; first | (rw [if_pos (by decide +kernel)]; kernel_rfl) | (rw [if_neg (by decide +kernel)]; exact ⟨rfl, rfl⟩))
    (fun os started H enc _ => DecLong_lifted os started H enc)
end Go.Proofs.Ytnblokihjilopaa
