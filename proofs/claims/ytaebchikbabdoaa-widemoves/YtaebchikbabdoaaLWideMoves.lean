/- hwlaw.WideMoves returns true for every number of 128 bits and every whole number. No condition. -/
import Derived.Test.YtaebchikbabdoaaYBn
import Derived.Test.YtaebchikbabdoaaCYWideMoves
namespace Go.Proofs.Ytaebchikbabdoaa
open Go.ChangeShapes Go.WideShapes Go.ChangeAt Go.RowKit Go.Joins Y
set_option linter.unusedSimpArgs false
set_option linter.unusedVariables false
set_option maxRecDepth 100000
set_option maxHeartbeats 40000000
def sameTS : Say
  | [.agg [.int .u64 x1, .int .u64 y1], .int .i64 e, x] => (match asB x with | some l => some ((OkW x1 y1 ∧ l.length ≤ 4294967296) ∧ sameB (wN x1 y1) e (valL l) = true, .bool true, none) | _ => none)
  | _ => none
theorem sameT_ok : FOk Try.prog 16 sameTS := by
  intro xs p r own h hp
  unfold sameTS at h
  split at h
  case h_2 => cases h
  rename_i x1 y1 e x
  split at h
  case h_2 => cases h
  rename_i l hl
  simp only [Option.some.injEq, Prod.mk.injEq] at h
  obtain ⟨rfl, rfl, rfl⟩ := h
  have h1 := same_ok _ _ _ _ (show sameS [.agg [.int .u64 x1, .int .u64 y1], .int .i64 e, x] = some (OkW x1 y1 ∧ l.length ≤ 4294967296, .bool (sameB (wN x1 y1) e (valL l)), none) by simp only [sameS, hl]) hp.1
  rw [hp.2] at h1
  exact h1
def gl : List (Nat × Say) := [(21, wShlS), (22, wShrS), (14, bitsS), (23, movedS), (16, sameTS)]
theorem gl_ok : GamOk Try.prog (gamY gl) := gam_ok (gam_cons wShl_ok (gam_cons wShr_ok (gam_cons bits_ok (gam_cons moved_ok (gam_cons sameT_ok gam_nil)))))
theorem valL_drop (l : List Bool) (k : Nat) : valL (l.drop k) = valL l / 2 ^ k := by
  by_cases h : k ≤ l.length
  · have e := valL_append (l.drop k) (l.take k)
    have hl := valL_lt (l.take k)
    rw [List.length_take, Nat.min_eq_left h] at e hl
    rw [List.take_append_drop] at e
    rw [e, Nat.add_mul_div_left _ _ (Nat.two_pow_pos k), Nat.div_eq_of_lt hl, Nat.zero_add]
  · rw [List.drop_eq_nil_of_le (by omega)]
    have hl := valL_lt l
    have := Nat.pow_le_pow_right (show 0 < 2 by omega) (show l.length ≤ k by omega)
    rw [Nat.div_eq_of_lt (by omega)]; rfl
/-- The numbers as letters of a declaration of its own: the kernel must not see through them. -/
theorem WideMoves_in (a S D N K : Nat) (E : Int) (U : Nat) (X Mv Dr : List Bool) (fa : Fits a) (hX : bitsL a = X) (q1 : X.length ≤ 4294967296) (o3 : OkW 0 3) (n1 : wN 0 3 = 3) (n2 : wShlN 3 64 = 55340232221128654848) (n3 : wShlE 3 64 = 0) (n4 : hiN 55340232221128654848 = 3) (n5 : loN 55340232221128654848 = 0)
    (h1 : ¬ (N : Int) < 0) (h2 : ¬ 127 < (N : Int)) (hE : wShrE N = 0) (hR : wShrN a N = D) (hs : wShlN a N = S) (he : wShlE a N = E) (hMv : movedL X N = Mv) (f1 : Fits S) (f2 : Fits D) (vM : valL Mv = U) (lM : Mv.length ≤ 4294967296) (s1 : sameB S E U = true)
    (hK : (if (X.length : Int) < (N : Int) then (X.length : Int) else (N : Int)) = (K : Int)) (hKl : (K : Int) ≤ X.length) (hK0 : (0 : Int) ≤ K) (hd' : (X.take X.length).drop K = Dr) (vD : valL Dr = D) (lD : Dr.length ≤ 4294967296) (s2 : sameB D 0 D = true) (m1 : (N : Int) ≤ 4294967296) (m2 : (0 : Int) ≤ N) :
    vcFun (gamY gl) y4 [.agg [.int .u64 (hiN a), .int .u64 (loN a)], .int .i64 N] none (fun v o => v = .bool true) := by
  simp (config := { maxSteps := 9000000 }) only [↓e_fun, ↓e_skip, ↓e_reg, ↓e_frz0, ↓e_frz1, ↓e_seq, ↓e_cond, ↓e_block, ↓e_exit, ↓e_ret, ↓e_loop, f_nil, f_cons, n_nil, n_cons, f_agg, f_int, f_bool, f_str, f_nilv, f_sl, f_ptr, f_fz, f_clo, f_tup, f_elem, f_unk, f_rw, f_nrw, f_srw, g_nil, g_cons, g_int, g_bool, g_str, g_nilv, g_sl, g_ptr, g_fz, g_clo, g_unk, g_rw, g_nrw, g_srw, c_var, c_row, c_frow, r_sl, r_rw, r_nn, inj_bool, inj_str, inj_ints, inj_bools, inj_row, inj_sl, inj_int, ↓e_nil, ↓e_op, ↓e_opg, ↓o_mov, ↓o_pick, ↓o_bin, ↓o_eqb, ↓o_eqs, ↓o_bins, binS, ↓o_neg, ↓o_not, ↓o_conv, ↓o_faddr, ↓o_fld, ↓o_ext, ↓o_mx, b_max, b_min, ↓o_build, ↓o_box, ↓o_alloc, ↓o_load, ↓o_len, ↓o_lenS, ↓o_idx, ↓o_lit, ↓o_litf, SV.go1, SV.go0, ↓o_mk, ↓o_app, ↓o_sub, ↓o_ssub, ↓o_sidx, ↓o_mkf, ↓o_nilrow, ↓o_isnil, ↓o_bad, ↓a_slr, ↓a_sls, ↓a_sln, ↓a_nil, appR_some, k_none, k_val, k_new, k_set, l_nil, l_cons, mkRow, intsOf, boolsOf, strsOf, chunks, Row.rep, Row.cat, Row.sub, Row.put, Row.len, Row.get, Row.size, Row.flat, bnds, own0, own1, labsL, labsR, SV.labs, ↓o_store, ↓o_call, ↓o_callv, ↓o_callw, w_some, k_ble, c_none, c_some, v_some, argsOf, b_add, b_sub, b_mul, b_quo, b_rem, b_and, b_or, b_xor, b_andNot, b_eql, b_neq, b_lss, b_leq, b_gtr, b_geq, b_shl, b_shr, entFr, SO.ev, fr_put, put_none, mem_put', fr_setm, mem_setm, setM_at, fr_fl, mem_fl, memOf_at, St.of, keepSt, getAll, lookN, hasN, SV.cells, SV.one, SV.res1, SV.res0, SV.resP, SV.ok1, SV.ok0, SV.okN, SV.solid, SV.solid1, SV.solid0, SV.flat0, SV.nm, SV.nm1, SV.nm0, SV.noPtr1, SV.noPtr0, Cel.isFresh, fillP, setAt, partV, eqCells, cellEq, gamY, listsOk, tupOf, takeOwn, SV.ret1, ret_fl, resAll, resL, resV, List.map_cons, List.map_nil, List.flatMap_cons, List.flatMap_nil, List.append_nil, List.nil_append, List.cons_append, List.all_cons, List.all_nil, List.isEmpty_nil, List.isEmpty_cons, Option.map_some, Option.map_none, Option.getD_some, Option.getD_none, Option.isSome_some, Option.isSome_none, Option.isNone_none, Option.isNone_some, Option.toList_none, Option.toList_some, Nat.reduceEqDiff, ↓reduceIte, Nat.reduceAdd, Nat.reduceMul, List.length_cons, List.length_nil, Nat.reduceLeDiff, List.replicate_zero, List.replicate_succ, List.flatten_nil, List.flatten_cons, List.set_cons_zero, List.set_cons_succ, List.drop_zero, List.drop_succ_cons, List.take_succ_cons, List.take_zero, List.getElem?_cons_zero, List.getElem?_cons_succ, Bool.and_true, Bool.and_false, Bool.false_and, Bool.true_and, Bool.or_false, Bool.or_true, Bool.true_or, Bool.false_or, Bool.not_true, Bool.not_false, Bool.and_self, true_and, and_true, Bool.false_eq_true, reduceCtorEq, labOk, Int.reduceBEq, Int.reduceBNe, Int.reduceToNat, Int.reduceLE, Int.reduceLT, Int.reduceEq, Nat.reduceDiv, Nat.reduceMod, Nat.reduceSub, BEq.rfl, beq_self_eq_true, bne_self_eq_false, decide_true, decide_false, Int.natCast_zero, Int.natCast_one, Int.cast_ofNat_Int, decide_eq_true_eq, decide_eq_false_iff_not, and_self, Nat.reduceBEq, Int.natCast_add, List.length_append, fitR, fitR1, fitR0, fitRL1, fitRL, wd, wN_hl, OkW_hl, eq_hl, eq_h0, wN_0, OkW_0, cmpN_le0, cmpN_gt0, cmpN_lt0, cmpN_ge0, Int.toNat_natCast, y4, gl, wShlS, wShrS, bitsS, movedS, sameTS, asB, fa, hX, q1, o3, n1, n2, n3, n4, n5, h1, h2, hE, hR, hs, he, hMv, f1, f2, vM, lM, s1, hK, hKl, hK0, hd', vD, lD, s2, m1, m2, Int.le_refl]
theorem WideMoves_vc (x1 : Int) (y1 : Int) (k1 : U64 x1) (k2 : U64 y1) (n : Int) (bn : I64 n) : vcFun (gamY gl) y4 [.agg [.int .u64 x1, .int .u64 y1], .int .i64 n] none (fun v o => v = .bool true) := by
  have o1 : OkW x1 y1 := by unfold OkW; unfold U64 at *; omega
  obtain ⟨fa, e1, e2⟩ := isW_wN o1
  clear k1 k2
  generalize wN x1 y1 = a at *
  subst e1 e2
  have vX := bitsL_val a
  have lX := bitsL_len a
  have b1 := bitLen_fits fa
  generalize hX : bitsL a = X at *
  have q1 : X.length ≤ 4294967296 := by omega
  have o3 : OkW 0 3 := by unfold OkW; omega
  have n1 : wN 0 3 = 3 := by simp [wN]
  have n2 : wShlN 3 64 = 55340232221128654848 := if_pos ⟨by omega, by omega, by decide⟩
  have n3 : wShlE 3 64 = 0 := (if_pos ⟨by omega, by omega⟩).trans (if_pos (by decide))
  have n4 : hiN 55340232221128654848 = 3 := by unfold hiN; rfl
  have n5 : loN 55340232221128654848 = 0 := by unfold loN; rfl
  have z0 : hiN 0 = 0 := hiN_of_word (by unfold Word; omega)
  have z1 : loN 0 = 0 := loN_of_word (by unfold Word; omega)
  by_cases hn : 0 ≤ n ∧ n ≤ 127
  · have h1 : ¬ n < 0 := by omega
    have h2 : ¬ 127 < n := by omega
    obtain ⟨N, rfl⟩ := Int.eq_ofNat_of_zero_le hn.1
    have hE : wShrE N = 0 := if_pos hn
    have hR : wShrN a N = a / 2 ^ N := if_pos hn
    have f2 : Fits (a / 2 ^ N) := fits_mono fa (Nat.div_le_self ..)
    have f1 : Fits (wShlN a N) := by
      rw [fits_lt]; unfold wShlN; split
      · rename_i h; exact h.2.2
      · omega
    have vM := movedL_val X N
    rw [vX] at vM
    have lM : (movedL X N).length ≤ 4294967296 := by simp only [movedL, List.length_append, List.length_replicate]; omega
    have s1 : sameB (wShlN a N) (wShlE a N) (a * 2 ^ N) = true := by
      have e1 : wShlN a N = if a * 2 ^ N < 340282366920938463463374607431768211456 then a * 2 ^ N else 0 := by
        unfold wShlN; rw [Int.toNat_natCast]
        split
        · rename_i h; rw [if_pos h.2.2]
        · rename_i h; rw [if_neg fun hh => h ⟨hn.1, hn.2, hh⟩]
      have e2 : wShlE a N = if a * 2 ^ N < 340282366920938463463374607431768211456 then 0 else 2 := by
        unfold wShlE; rw [if_pos hn, Int.toNat_natCast]
      rw [e1, e2]; unfold sameB
      split <;> simp
    obtain ⟨K, hK⟩ : ∃ K : Nat, (if (X.length : Int) < (N : Int) then (X.length : Int) else (N : Int)) = (K : Int) := ⟨if X.length < N then X.length else N, by split <;> split <;> omega⟩
    have hKl : (K : Int) ≤ X.length := by rw [← hK]; split <;> omega
    have hK0 : (0 : Int) ≤ K := by omega
    have hd : (X.take (X.length : Int).toNat).drop K = X.drop K := by rw [Int.toNat_natCast, List.take_length]
    have vD : valL (X.drop K) = a / 2 ^ N := by
      rw [valL_drop, vX]
      by_cases hlt : (X.length : Int) < (N : Int)
      · rw [if_pos hlt] at hK
        have h3 := (bitLen_lt_iff a K).1 (by omega)
        have h4 := (bitLen_lt_iff a N).1 (by omega)
        rw [Nat.div_eq_of_lt h3, Nat.div_eq_of_lt h4]
      · rw [if_neg hlt] at hK
        rw [show K = N by omega]
    have lD : (X.drop K).length ≤ 4294967296 := by rw [List.length_drop]; omega
    have s2 : sameB (a / 2 ^ N) 0 (a / 2 ^ N) = true := by
      unfold sameB
      rw [if_pos (fits_lt.1 f2)]; simp
    have m1 : (N : Int) ≤ 4294967296 := by omega
    have m2 := hn.1
    have hd' : (X.take X.length).drop K = X.drop K := by rw [List.take_length]
    exact WideMoves_in a _ _ N K _ _ X _ _ fa hX q1 o3 n1 n2 n3 n4 n5 h1 h2 hE hR rfl rfl rfl f1 f2 vM lM s1 hK hKl hK0 hd' vD lD s2 m1 m2

  · have hA : wShlN a n = 0 := if_neg (fun h => hn ⟨h.1, h.2.1⟩)
    have hB : wShlE a n = 1 := if_neg hn
    have hC : wShrN a n = 0 := if_neg hn
    have hD : wShrE n = 1 := if_neg hn
    by_cases h1 : n < 0
    · simp (config := { maxSteps := 9000000 }) only [↓e_fun, ↓e_skip, ↓e_reg, ↓e_frz0, ↓e_frz1, ↓e_seq, ↓e_cond, ↓e_block, ↓e_exit, ↓e_ret, ↓e_loop, f_nil, f_cons, n_nil, n_cons, f_agg, f_int, f_bool, f_str, f_nilv, f_sl, f_ptr, f_fz, f_clo, f_tup, f_elem, f_unk, f_rw, f_nrw, f_srw, g_nil, g_cons, g_int, g_bool, g_str, g_nilv, g_sl, g_ptr, g_fz, g_clo, g_unk, g_rw, g_nrw, g_srw, c_var, c_row, c_frow, r_sl, r_rw, r_nn, inj_bool, inj_str, inj_ints, inj_bools, inj_row, inj_sl, inj_int, ↓e_nil, ↓e_op, ↓e_opg, ↓o_mov, ↓o_pick, ↓o_bin, ↓o_eqb, ↓o_eqs, ↓o_bins, binS, ↓o_neg, ↓o_not, ↓o_conv, ↓o_faddr, ↓o_fld, ↓o_ext, ↓o_mx, b_max, b_min, ↓o_build, ↓o_box, ↓o_alloc, ↓o_load, ↓o_len, ↓o_lenS, ↓o_idx, ↓o_lit, ↓o_litf, SV.go1, SV.go0, ↓o_mk, ↓o_app, ↓o_sub, ↓o_ssub, ↓o_sidx, ↓o_mkf, ↓o_nilrow, ↓o_isnil, ↓o_bad, ↓a_slr, ↓a_sls, ↓a_sln, ↓a_nil, appR_some, k_none, k_val, k_new, k_set, l_nil, l_cons, mkRow, intsOf, boolsOf, strsOf, chunks, Row.rep, Row.cat, Row.sub, Row.put, Row.len, Row.get, Row.size, Row.flat, bnds, own0, own1, labsL, labsR, SV.labs, ↓o_store, ↓o_call, ↓o_callv, ↓o_callw, w_some, k_ble, c_none, c_some, v_some, argsOf, b_add, b_sub, b_mul, b_quo, b_rem, b_and, b_or, b_xor, b_andNot, b_eql, b_neq, b_lss, b_leq, b_gtr, b_geq, b_shl, b_shr, entFr, SO.ev, fr_put, put_none, mem_put', fr_setm, mem_setm, setM_at, fr_fl, mem_fl, memOf_at, St.of, keepSt, getAll, lookN, hasN, SV.cells, SV.one, SV.res1, SV.res0, SV.resP, SV.ok1, SV.ok0, SV.okN, SV.solid, SV.solid1, SV.solid0, SV.flat0, SV.nm, SV.nm1, SV.nm0, SV.noPtr1, SV.noPtr0, Cel.isFresh, fillP, setAt, partV, eqCells, cellEq, gamY, listsOk, tupOf, takeOwn, SV.ret1, ret_fl, resAll, resL, resV, List.map_cons, List.map_nil, List.flatMap_cons, List.flatMap_nil, List.append_nil, List.nil_append, List.cons_append, List.all_cons, List.all_nil, List.isEmpty_nil, List.isEmpty_cons, Option.map_some, Option.map_none, Option.getD_some, Option.getD_none, Option.isSome_some, Option.isSome_none, Option.isNone_none, Option.isNone_some, Option.toList_none, Option.toList_some, Nat.reduceEqDiff, ↓reduceIte, Nat.reduceAdd, Nat.reduceMul, List.length_cons, List.length_nil, Nat.reduceLeDiff, List.replicate_zero, List.replicate_succ, List.flatten_nil, List.flatten_cons, List.set_cons_zero, List.set_cons_succ, List.drop_zero, List.drop_succ_cons, List.take_succ_cons, List.take_zero, List.getElem?_cons_zero, List.getElem?_cons_succ, Bool.and_true, Bool.and_false, Bool.false_and, Bool.true_and, Bool.or_false, Bool.or_true, Bool.true_or, Bool.false_or, Bool.not_true, Bool.not_false, Bool.and_self, true_and, and_true, Bool.false_eq_true, reduceCtorEq, labOk, Int.reduceBEq, Int.reduceBNe, Int.reduceToNat, Int.reduceLE, Int.reduceLT, Int.reduceEq, Nat.reduceDiv, Nat.reduceMod, Nat.reduceSub, BEq.rfl, beq_self_eq_true, bne_self_eq_false, decide_true, decide_false, Int.natCast_zero, Int.natCast_one, Int.cast_ofNat_Int, decide_eq_true_eq, decide_eq_false_iff_not, and_self, Nat.reduceBEq, Int.natCast_add, List.length_append, fitR, fitR1, fitR0, fitRL1, fitRL, wd, wN_hl, OkW_hl, eq_hl, eq_h0, wN_0, OkW_0, cmpN_le0, cmpN_gt0, cmpN_lt0, cmpN_ge0, Int.toNat_natCast, y4, gl, wShlS, wShrS, bitsS, movedS, sameTS, asB, fa, o3, n1, n2, n3, n4, n5, h1, hA, hB, hC, hD, z0, z1]
    · have h2 : 127 < n := by omega
      simp (config := { maxSteps := 9000000 }) only [↓e_fun, ↓e_skip, ↓e_reg, ↓e_frz0, ↓e_frz1, ↓e_seq, ↓e_cond, ↓e_block, ↓e_exit, ↓e_ret, ↓e_loop, f_nil, f_cons, n_nil, n_cons, f_agg, f_int, f_bool, f_str, f_nilv, f_sl, f_ptr, f_fz, f_clo, f_tup, f_elem, f_unk, f_rw, f_nrw, f_srw, g_nil, g_cons, g_int, g_bool, g_str, g_nilv, g_sl, g_ptr, g_fz, g_clo, g_unk, g_rw, g_nrw, g_srw, c_var, c_row, c_frow, r_sl, r_rw, r_nn, inj_bool, inj_str, inj_ints, inj_bools, inj_row, inj_sl, inj_int, ↓e_nil, ↓e_op, ↓e_opg, ↓o_mov, ↓o_pick, ↓o_bin, ↓o_eqb, ↓o_eqs, ↓o_bins, binS, ↓o_neg, ↓o_not, ↓o_conv, ↓o_faddr, ↓o_fld, ↓o_ext, ↓o_mx, b_max, b_min, ↓o_build, ↓o_box, ↓o_alloc, ↓o_load, ↓o_len, ↓o_lenS, ↓o_idx, ↓o_lit, ↓o_litf, SV.go1, SV.go0, ↓o_mk, ↓o_app, ↓o_sub, ↓o_ssub, ↓o_sidx, ↓o_mkf, ↓o_nilrow, ↓o_isnil, ↓o_bad, ↓a_slr, ↓a_sls, ↓a_sln, ↓a_nil, appR_some, k_none, k_val, k_new, k_set, l_nil, l_cons, mkRow, intsOf, boolsOf, strsOf, chunks, Row.rep, Row.cat, Row.sub, Row.put, Row.len, Row.get, Row.size, Row.flat, bnds, own0, own1, labsL, labsR, SV.labs, ↓o_store, ↓o_call, ↓o_callv, ↓o_callw, w_some, k_ble, c_none, c_some, v_some, argsOf, b_add, b_sub, b_mul, b_quo, b_rem, b_and, b_or, b_xor, b_andNot, b_eql, b_neq, b_lss, b_leq, b_gtr, b_geq, b_shl, b_shr, entFr, SO.ev, fr_put, put_none, mem_put', fr_setm, mem_setm, setM_at, fr_fl, mem_fl, memOf_at, St.of, keepSt, getAll, lookN, hasN, SV.cells, SV.one, SV.res1, SV.res0, SV.resP, SV.ok1, SV.ok0, SV.okN, SV.solid, SV.solid1, SV.solid0, SV.flat0, SV.nm, SV.nm1, SV.nm0, SV.noPtr1, SV.noPtr0, Cel.isFresh, fillP, setAt, partV, eqCells, cellEq, gamY, listsOk, tupOf, takeOwn, SV.ret1, ret_fl, resAll, resL, resV, List.map_cons, List.map_nil, List.flatMap_cons, List.flatMap_nil, List.append_nil, List.nil_append, List.cons_append, List.all_cons, List.all_nil, List.isEmpty_nil, List.isEmpty_cons, Option.map_some, Option.map_none, Option.getD_some, Option.getD_none, Option.isSome_some, Option.isSome_none, Option.isNone_none, Option.isNone_some, Option.toList_none, Option.toList_some, Nat.reduceEqDiff, ↓reduceIte, Nat.reduceAdd, Nat.reduceMul, List.length_cons, List.length_nil, Nat.reduceLeDiff, List.replicate_zero, List.replicate_succ, List.flatten_nil, List.flatten_cons, List.set_cons_zero, List.set_cons_succ, List.drop_zero, List.drop_succ_cons, List.take_succ_cons, List.take_zero, List.getElem?_cons_zero, List.getElem?_cons_succ, Bool.and_true, Bool.and_false, Bool.false_and, Bool.true_and, Bool.or_false, Bool.or_true, Bool.true_or, Bool.false_or, Bool.not_true, Bool.not_false, Bool.and_self, true_and, and_true, Bool.false_eq_true, reduceCtorEq, labOk, Int.reduceBEq, Int.reduceBNe, Int.reduceToNat, Int.reduceLE, Int.reduceLT, Int.reduceEq, Nat.reduceDiv, Nat.reduceMod, Nat.reduceSub, BEq.rfl, beq_self_eq_true, bne_self_eq_false, decide_true, decide_false, Int.natCast_zero, Int.natCast_one, Int.cast_ofNat_Int, decide_eq_true_eq, decide_eq_false_iff_not, and_self, Nat.reduceBEq, Int.natCast_add, List.length_append, fitR, fitR1, fitR0, fitRL1, fitRL, wd, wN_hl, OkW_hl, eq_hl, eq_h0, wN_0, OkW_0, cmpN_le0, cmpN_gt0, cmpN_lt0, cmpN_ge0, Int.toNat_natCast, y4, gl, wShlS, wShrS, bitsS, movedS, sameTS, asB, fa, o3, n1, n2, n3, n4, n5, h1, h2, hA, hB, hC, hD, z0, z1]
theorem WideMoves_walk (W : World) (n0 m0 : Int) (b0 : U64 n0) (c0 : U64 m0) (n1 : Int) (b1 : I64 n1) :
    Calls Try.prog 4 #[.agg #[.int .u64 n0, .int .u64 m0], .int .i64 n1] W fun e w' => e = .returned (.bool true) ∧ Below W.heap.size W w' :=
  law_callY gl_ok lawy_mixed y4_eq (WideMoves_vc n0 m0 b0 c0 n1 b1) (Nat.le_of_ble_eq_true rfl) W [.agg #[.int .u64 n0, .int .u64 m0], .int .i64 n1] (All.cons (is_agg2 (.int _ _) (.int _ _)) (All.cons (.int _ _) All.nil))
set_option maxRecDepth 100000 in
theorem WideMoves_lifted (os : Os) (started : os.Started) (H : Type) (enc : TypeId × Value → H) :
    ReturnsInHanded {} Try.checked os 4 .any (Rows.wideMovesSpec.pre6 enc Try.prog Try.f4 Rows.wideMovesRow.domain false) (Rows.wideMovesSpec.post enc Try.prog Try.f4 false true false false) := by
  refine returnsInHanded_of_change (C := Try.checked) lawy_own started (by kernel_rfl) Try.func4
    (ChangeSpec.witness6 (enc := enc) (C := Try.checked) false ⟨#[], #[.agg #[.int .u64 0, .int .u64 0], .int .i64 0], []⟩ 8 (by kernel_rfl) (by kernel_rfl) (by kernel_rfl) (by kernel_rfl)) ?_
  intro W base args ds gs before hval0 hW hcnd _
  have hval : ∀ (j : Nat) t v, Try.f4.params[j]? = some t → args[j]? = some v → Value.okWide Try.prog W .any base t v := hval0
  have hW' := hW
  obtain ⟨p, q, hA0, hV, rfl, hfz, hnd⟩ := hW
  have hA : DataW.TrodAll enc Try.prog W 0 (fun _ => true) true Try.f4.params.toList args.toList ds p := hA0
  rw [Try.params4] at hA hval
  obtain ⟨v0, vs0, d0, ds0, p0, q0, hargs, rfl, rfl, h0, r0⟩ := trodAll_cons hA
  obtain ⟨v1, vs1, d1, ds1, p1, q1, rfl, rfl, rfl, h1, r1⟩ := trodAll_cons r0
  obtain ⟨rfl, rfl, rfl⟩ := trodAll_nil r1
  obtain rfl : args = #[v0, v1] := by cases args; simp_all
  obtain ⟨rfl, rfl⟩ := trodVars_none hV
  have lt0 := places_lt h0
  obtain ⟨n0, m0, e0, b0, c0⟩ := open_words2 Try.underlying24 (by kernel_rfl) (by kernel_rfl) Try.underlying22 Try.underlying22 (hval 0 24 v0 rfl rfl) h0
  subst e0
  have lt1 := places_lt h1
  obtain ⟨n1, e1, _, _, wn1⟩ := open_int Try.underlying3 (hval 1 3 v1 rfl rfl) h1
  subst e1
  clear hA0 hval0
  refine (WideMoves_walk W n0 m0 b0 c0 n1 (i64_of wn1)).mono fun e W' ⟨he, bel⟩ => ?_
  subst he
  exact ⟨_, rfl, _, _, _, [], _, [], hW', trodAll_mk1 (shut_bool Try.underlying4 _), (trodAll_cons_mk (bel.trod lawy_laid (by kernel_rfl) (of_decide_eq_true (by kernel_rfl)) h0 lt0) (trodAll_cons_mk (bel.trod lawy_laid (by kernel_rfl) (of_decide_eq_true (by kernel_rfl)) h1 lt1) trodAll_mk0)), rfl, bel.frame _, fun h => by cases h⟩
theorem WideMoves_holds : Rows.WideMovesSaid :=
  OpenClaim.holds_of_wide 4 Try.f4 rfl rfl rfl rfl rfl rfl rfl ⟨rfl, rfl, rfl, rfl, rfl⟩ rfl rfl rfl rfl rfl (by kernel_rfl) Try.func4 (by kernel_rfl)
    (of_decide_eq_true (by kernel_rfl)) (by unfold Func.isWrapper; first | (rw [if_pos (by decide +kernel)]; kernel_rfl) | (rw [if_neg (by decide +kernel)]; exact ⟨rfl, rfl⟩))
    (fun os started H enc _ => WideMoves_lifted os started H enc)
end Go.Proofs.Ytaebchikbabdoaa
