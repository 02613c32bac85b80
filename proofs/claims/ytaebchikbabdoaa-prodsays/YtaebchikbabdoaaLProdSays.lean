/- hwlaw.ProdSays returns true for every two numbers of 128 bits. No condition. -/
import Derived.Test.YtaebchikbabdoaaYBp
import Derived.Test.YtaebchikbabdoaaCYProdSays
namespace Go.Proofs.Ytaebchikbabdoaa
open Go.ChangeShapes Go.WideShapes Go.ChangeAt Go.RowKit Go.Joins Y
set_option linter.unusedSimpArgs false
set_option linter.unusedVariables false
set_option maxRecDepth 100000
set_option maxHeartbeats 40000000
def gl : List (Nat × Say) := [(27, pMulS), (24, pTimesS), (25, pDivS), (14, bitsS), (26, bprodS), (28, quotS), (16, sameS)]
theorem gl_ok : GamOk Try.prog (gamY gl) := gam_ok (gam_cons pMul_ok (gam_cons pTimes_ok (gam_cons pDiv_ok (gam_cons bits_ok (gam_cons bprod_ok (gam_cons quot_ok (gam_cons same_ok gam_nil)))))))
/-! The numbers as letters of declarations of their own: the kernel must not see through them. -/
theorem ProdSays_in0 (a b P q r M : Nat) (E : Int) (X Y V X2 Y2 V2 : List Bool) (fa : Fits a) (fb : Fits b) (hP : wMulN a b = P) (hPe : wMulE a b = E) (fP : Fits P) (hX : bitsL a = X) (hY : bitsL b = Y) (lX : X.length ≤ 1048576) (lY : Y.length ≤ 1048576) (hV : prodL X Y = V) (lV : V.length ≤ 4294967296) (s1 : sameB P E (valL V) = true) (wl : Word (loN a)) (wh : Word (hiN b)) (hX2 : bitsL (loN a) = X2) (hY2 : bitsL (hiN b) = Y2) (lX2 : X2.length ≤ 1048576) (lY2 : Y2.length ≤ 1048576) (hV2 : prodL X2 Y2 = V2) (lV2 : V2.length ≤ 4294967296) (hM : loN a * hiN b = M) (fM : Fits M) (s2 : sameB M 0 (valL V2) = true) (o3 : OkW 0 3) (o5 : OkW 0 5) (p1 : hiN 15 = 0) (p2 : loN 15 = 15) (hQ : wDivQ a b = q) (hR : wDivR a b = r) (hl : ((Y.length : Int) == 0) = true) (hE : wDivE b = 6) (q0 : hiN q = 0) (q1 : loN q = 0) (r0 : hiN r = 0) (r1 : loN r = 0) : vcFun (gamY gl) y5 [.agg [.int .u64 (hiN a), .int .u64 (loN a)], .agg [.int .u64 (hiN b), .int .u64 (loN b)]] none (fun v o => v = .bool true) := by
  simp (config := { maxSteps := 9000000 }) only [↓e_fun, ↓e_skip, ↓e_reg, ↓e_frz0, ↓e_frz1, ↓e_seq, ↓e_cond, ↓e_block, ↓e_exit, ↓e_ret, ↓e_loop, f_nil, f_cons, n_nil, n_cons, f_agg, f_int, f_bool, f_str, f_nilv, f_sl, f_ptr, f_fz, f_clo, f_tup, f_elem, f_unk, f_rw, f_nrw, f_srw, g_nil, g_cons, g_int, g_bool, g_str, g_nilv, g_sl, g_ptr, g_fz, g_clo, g_unk, g_rw, g_nrw, g_srw, c_var, c_row, c_frow, r_sl, r_rw, r_nn, inj_bool, inj_str, inj_ints, inj_bools, inj_row, inj_sl, inj_int, ↓e_nil, ↓e_op, ↓e_opg, ↓o_mov, ↓o_pick, ↓o_bin, ↓o_eqb, ↓o_eqs, ↓o_bins, binS, ↓o_neg, ↓o_not, ↓o_conv, ↓o_faddr, ↓o_fld, ↓o_ext, ↓o_mx, b_max, b_min, ↓o_build, ↓o_box, ↓o_alloc, ↓o_load, ↓o_len, ↓o_lenS, ↓o_idx, ↓o_lit, ↓o_litf, SV.go1, SV.go0, ↓o_mk, ↓o_app, ↓o_sub, ↓o_ssub, ↓o_sidx, ↓o_mkf, ↓o_nilrow, ↓o_isnil, ↓o_bad, ↓a_slr, ↓a_sls, ↓a_sln, ↓a_nil, appR_some, k_none, k_val, k_new, k_set, l_nil, l_cons, mkRow, intsOf, boolsOf, strsOf, chunks, Row.rep, Row.cat, Row.sub, Row.put, Row.len, Row.get, Row.size, Row.flat, bnds, own0, own1, labsL, labsR, SV.labs, ↓o_store, ↓o_call, ↓o_callv, ↓o_callw, w_some, k_ble, c_none, c_some, v_some, argsOf, b_add, b_sub, b_mul, b_quo, b_rem, b_and, b_or, b_xor, b_andNot, b_eql, b_neq, b_lss, b_leq, b_gtr, b_geq, b_shl, b_shr, entFr, SO.ev, fr_put, put_none, mem_put', fr_setm, mem_setm, setM_at, fr_fl, mem_fl, memOf_at, St.of, keepSt, getAll, lookN, hasN, SV.cells, SV.one, SV.res1, SV.res0, SV.resP, SV.ok1, SV.ok0, SV.okN, SV.solid, SV.solid1, SV.solid0, SV.flat0, SV.nm, SV.nm1, SV.nm0, SV.noPtr1, SV.noPtr0, Cel.isFresh, fillP, setAt, partV, eqCells, cellEq, gamY, listsOk, tupOf, takeOwn, SV.ret1, ret_fl, resAll, resL, resV, List.map_cons, List.map_nil, List.flatMap_cons, List.flatMap_nil, List.append_nil, List.nil_append, List.cons_append, List.all_cons, List.all_nil, List.isEmpty_nil, List.isEmpty_cons, Option.map_some, Option.map_none, Option.getD_some, Option.getD_none, Option.isSome_some, Option.isSome_none, Option.isNone_none, Option.isNone_some, Option.toList_none, Option.toList_some, Nat.reduceEqDiff, ↓reduceIte, Nat.reduceAdd, Nat.reduceMul, List.length_cons, List.length_nil, Nat.reduceLeDiff, List.replicate_zero, List.replicate_succ, List.flatten_nil, List.flatten_cons, List.set_cons_zero, List.set_cons_succ, List.drop_zero, List.drop_succ_cons, List.take_succ_cons, List.take_zero, List.getElem?_cons_zero, List.getElem?_cons_succ, Bool.and_true, Bool.and_false, Bool.false_and, Bool.true_and, Bool.or_false, Bool.or_true, Bool.true_or, Bool.false_or, Bool.not_true, Bool.not_false, Bool.and_self, true_and, and_true, Bool.false_eq_true, reduceCtorEq, labOk, Int.reduceBEq, Int.reduceBNe, Int.reduceToNat, Int.reduceLE, Int.reduceLT, Int.reduceEq, Nat.reduceDiv, Nat.reduceMod, Nat.reduceSub, BEq.rfl, beq_self_eq_true, bne_self_eq_false, decide_true, decide_false, Int.natCast_zero, Int.natCast_one, Int.cast_ofNat_Int, decide_eq_true_eq, decide_eq_false_iff_not, and_self, Nat.reduceBEq, Int.natCast_add, List.length_append, fitR, fitR1, fitR0, fitRL1, fitRL, wd, wN_hl, OkW_hl, eq_hl, eq_h0, wN_0, OkW_0, cmpN_le0, cmpN_gt0, cmpN_lt0, cmpN_ge0, Int.toNat_natCast, y5, gl, pMulS, pTimesS, pDivS, bitsS, bprodS, quotS, sameS, asB, fa, fb, hP, hPe, fP, hX, hY, lX, lY, hV, lV, s1, wl, wh, hX2, hY2, lX2, lY2, hV2, lV2, hM, fM, s2, o3, o5, p1, p2, hQ, hR, hl, hE, q0, q1, r0, r1]
theorem ProdSays_in1 (a b P q r M : Nat) (E : Int) (X Y V X2 Y2 V2 Q1 R1 : List Bool) (fa : Fits a) (fb : Fits b) (hP : wMulN a b = P) (hPe : wMulE a b = E) (fP : Fits P) (hX : bitsL a = X) (hY : bitsL b = Y) (lX : X.length ≤ 1048576) (lY : Y.length ≤ 1048576) (hV : prodL X Y = V) (lV : V.length ≤ 4294967296) (s1 : sameB P E (valL V) = true) (wl : Word (loN a)) (wh : Word (hiN b)) (hX2 : bitsL (loN a) = X2) (hY2 : bitsL (hiN b) = Y2) (lX2 : X2.length ≤ 1048576) (lY2 : Y2.length ≤ 1048576) (hV2 : prodL X2 Y2 = V2) (lV2 : V2.length ≤ 4294967296) (hM : loN a * hiN b = M) (fM : Fits M) (s2 : sameB M 0 (valL V2) = true) (o3 : OkW 0 3) (o5 : OkW 0 5) (p1 : hiN 15 = 0) (p2 : loN 15 = 15) (hQ : wDivQ a b = q) (hR : wDivR a b = r) (hl : ((Y.length : Int) == 0) = false) (hE : wDivE b = 0) (fq : Fits q) (fr : Fits r) (hy : 0 < valL Y) (hQ1 : ofN X.length (valL X / valL Y) = Q1) (hR1 : ofN X.length (valL X % valL Y) = R1) (lQ : Q1.length ≤ 4294967296) (lR : R1.length ≤ 4294967296) (s3 : sameB q 0 (valL Q1) = true) (s4 : sameB r 0 (valL R1) = true) : vcFun (gamY gl) y5 [.agg [.int .u64 (hiN a), .int .u64 (loN a)], .agg [.int .u64 (hiN b), .int .u64 (loN b)]] none (fun v o => v = .bool true) := by
  simp (config := { maxSteps := 9000000 }) only [↓e_fun, ↓e_skip, ↓e_reg, ↓e_frz0, ↓e_frz1, ↓e_seq, ↓e_cond, ↓e_block, ↓e_exit, ↓e_ret, ↓e_loop, f_nil, f_cons, n_nil, n_cons, f_agg, f_int, f_bool, f_str, f_nilv, f_sl, f_ptr, f_fz, f_clo, f_tup, f_elem, f_unk, f_rw, f_nrw, f_srw, g_nil, g_cons, g_int, g_bool, g_str, g_nilv, g_sl, g_ptr, g_fz, g_clo, g_unk, g_rw, g_nrw, g_srw, c_var, c_row, c_frow, r_sl, r_rw, r_nn, inj_bool, inj_str, inj_ints, inj_bools, inj_row, inj_sl, inj_int, ↓e_nil, ↓e_op, ↓e_opg, ↓o_mov, ↓o_pick, ↓o_bin, ↓o_eqb, ↓o_eqs, ↓o_bins, binS, ↓o_neg, ↓o_not, ↓o_conv, ↓o_faddr, ↓o_fld, ↓o_ext, ↓o_mx, b_max, b_min, ↓o_build, ↓o_box, ↓o_alloc, ↓o_load, ↓o_len, ↓o_lenS, ↓o_idx, ↓o_lit, ↓o_litf, SV.go1, SV.go0, ↓o_mk, ↓o_app, ↓o_sub, ↓o_ssub, ↓o_sidx, ↓o_mkf, ↓o_nilrow, ↓o_isnil, ↓o_bad, ↓a_slr, ↓a_sls, ↓a_sln, ↓a_nil, appR_some, k_none, k_val, k_new, k_set, l_nil, l_cons, mkRow, intsOf, boolsOf, strsOf, chunks, Row.rep, Row.cat, Row.sub, Row.put, Row.len, Row.get, Row.size, Row.flat, bnds, own0, own1, labsL, labsR, SV.labs, ↓o_store, ↓o_call, ↓o_callv, ↓o_callw, w_some, k_ble, c_none, c_some, v_some, argsOf, b_add, b_sub, b_mul, b_quo, b_rem, b_and, b_or, b_xor, b_andNot, b_eql, b_neq, b_lss, b_leq, b_gtr, b_geq, b_shl, b_shr, entFr, SO.ev, fr_put, put_none, mem_put', fr_setm, mem_setm, setM_at, fr_fl, mem_fl, memOf_at, St.of, keepSt, getAll, lookN, hasN, SV.cells, SV.one, SV.res1, SV.res0, SV.resP, SV.ok1, SV.ok0, SV.okN, SV.solid, SV.solid1, SV.solid0, SV.flat0, SV.nm, SV.nm1, SV.nm0, SV.noPtr1, SV.noPtr0, Cel.isFresh, fillP, setAt, partV, eqCells, cellEq, gamY, listsOk, tupOf, takeOwn, SV.ret1, ret_fl, resAll, resL, resV, List.map_cons, List.map_nil, List.flatMap_cons, List.flatMap_nil, List.append_nil, List.nil_append, List.cons_append, List.all_cons, List.all_nil, List.isEmpty_nil, List.isEmpty_cons, Option.map_some, Option.map_none, Option.getD_some, Option.getD_none, Option.isSome_some, Option.isSome_none, Option.isNone_none, Option.isNone_some, Option.toList_none, Option.toList_some, Nat.reduceEqDiff, ↓reduceIte, Nat.reduceAdd, Nat.reduceMul, List.length_cons, List.length_nil, Nat.reduceLeDiff, List.replicate_zero, List.replicate_succ, List.flatten_nil, List.flatten_cons, List.set_cons_zero, List.set_cons_succ, List.drop_zero, List.drop_succ_cons, List.take_succ_cons, List.take_zero, List.getElem?_cons_zero, List.getElem?_cons_succ, Bool.and_true, Bool.and_false, Bool.false_and, Bool.true_and, Bool.or_false, Bool.or_true, Bool.true_or, Bool.false_or, Bool.not_true, Bool.not_false, Bool.and_self, true_and, and_true, Bool.false_eq_true, reduceCtorEq, labOk, Int.reduceBEq, Int.reduceBNe, Int.reduceToNat, Int.reduceLE, Int.reduceLT, Int.reduceEq, Nat.reduceDiv, Nat.reduceMod, Nat.reduceSub, BEq.rfl, beq_self_eq_true, bne_self_eq_false, decide_true, decide_false, Int.natCast_zero, Int.natCast_one, Int.cast_ofNat_Int, decide_eq_true_eq, decide_eq_false_iff_not, and_self, Nat.reduceBEq, Int.natCast_add, List.length_append, fitR, fitR1, fitR0, fitRL1, fitRL, wd, wN_hl, OkW_hl, eq_hl, eq_h0, wN_0, OkW_0, cmpN_le0, cmpN_gt0, cmpN_lt0, cmpN_ge0, Int.toNat_natCast, y5, gl, pMulS, pTimesS, pDivS, bitsS, bprodS, quotS, sameS, asB, fa, fb, hP, hPe, fP, hX, hY, lX, lY, hV, lV, s1, wl, wh, hX2, hY2, lX2, lY2, hV2, lV2, hM, fM, s2, o3, o5, p1, p2, hQ, hR, hl, hE, fq, fr, hy, hQ1, hR1, lQ, lR, s3, s4]
theorem sameB_fits {a : Nat} (h : Fits a) : sameB a 0 a = true := by
  unfold sameB; rw [if_pos (fits_lt.1 h)]; simp
theorem ProdSays_vc (x1 : Int) (y1 : Int) (k1 : U64 x1) (k2 : U64 y1) (x2 : Int) (y2 : Int) (k3 : U64 x2) (k4 : U64 y2) : vcFun (gamY gl) y5 [.agg [.int .u64 x1, .int .u64 y1], .agg [.int .u64 x2, .int .u64 y2]] none (fun v o => v = .bool true) := by
  have o1 : OkW x1 y1 := by unfold OkW; unfold U64 at *; omega
  have o2 : OkW x2 y2 := by unfold OkW; unfold U64 at *; omega
  obtain ⟨fa, e1, e2⟩ := isW_wN o1
  obtain ⟨fb, e3, e4⟩ := isW_wN o2
  clear k1 k2 k3 k4
  generalize wN x1 y1 = a at *
  generalize wN x2 y2 = b at *
  subst e1 e2 e3 e4
  have bl : ∀ {n : Nat}, Fits n → (bitsL n).length ≤ 1048576 := fun h => by rw [bitsL_len]; have := bitLen_fits h; omega
  have pl : ∀ {n m : Nat}, Fits n → Fits m → (prodL (bitsL n) (bitsL m)).length ≤ 4294967296 := fun {n m} h h' => by
    have h1 := prodS_len (bitsL n) (bitsL m) (bitsL n).length
    have h2 := bl h
    have h3 := bl h'
    unfold prodL; omega
  have pv : ∀ n m : Nat, valL (prodL (bitsL n) (bitsL m)) = n * m := fun n m => by rw [prodL_val, bitsL_val, bitsL_val]
  have wl := loN_word a
  have wh := hiN_word fb
  have fl := fits_word wl
  have fh := fits_word wh
  have fP : Fits (wMulN a b) := by
    rw [fits_lt]; unfold wMulN; split
    · assumption
    · omega
  have s1 : sameB (wMulN a b) (wMulE a b) (valL (prodL (bitsL a) (bitsL b))) = true := by
    rw [pv]; unfold sameB wMulN wMulE
    split <;> simp
  have fM : Fits (loN a * hiN b) := by
    rw [fits_lt]
    have h1 := loN_lt a
    have h2 := hiN_lt fb
    have : loN a * hiN b ≤ 18446744073709551615 * 18446744073709551615 := Nat.mul_le_mul (by omega) (by omega)
    omega
  have s2 : sameB (loN a * hiN b) 0 (valL (prodL (bitsL (loN a)) (bitsL (hiN b)))) = true := by
    rw [pv]; exact sameB_fits fM
  have o3 : OkW 0 3 := by unfold OkW; omega
  have o5 : OkW 0 5 := by unfold OkW; omega
  have p1 : hiN 15 = 0 := hiN_of_word (by unfold Word; omega)
  have p2 : loN 15 = 15 := loN_of_word (by unfold Word; omega)
  have z0 : hiN 0 = 0 := hiN_of_word (by unfold Word; omega)
  have z1 : loN 0 = 0 := loN_of_word (by unfold Word; omega)
  by_cases hb : b = 0
  · have hl : (((bitsL b).length : Int) == 0) = true := by rw [bitsL_len, hb]; rfl
    have hE : wDivE b = 6 := if_pos hb
    have hQ : wDivQ a b = 0 := if_pos hb
    have hR : wDivR a b = 0 := if_pos hb
    exact ProdSays_in0 a b _ 0 0 _ _ _ _ _ _ _ _ fa fb rfl rfl fP rfl rfl (bl fa) (bl fb) rfl (pl fa fb) s1 wl wh rfl rfl (bl fl) (bl fh) rfl (pl fl fh) rfl fM s2 o3 o5 p1 p2 hQ hR hl hE z0 z1 z0 z1
  · have hl : (((bitsL b).length : Int) == 0) = false := by
      rw [bitsL_len]
      have : bitLen b ≠ 0 := fun h => hb (Nat.eq_zero_of_le_zero (Nat.le_of_lt_succ ((bitLen_lt_iff b 0).1 (by omega))))
      simp only [beq_eq_false_iff_ne]; omega
    have hE : wDivE b = 0 := if_neg hb
    have hQ : wDivQ a b = a / b := wDivQ_pos hb
    have hR : wDivR a b = a % b := wDivR_pos hb
    have fq : Fits (a / b) := fits_mono fa (Nat.div_le_self ..)
    have fr : Fits (a % b) := fits_mono fa (Nat.mod_le ..)
    have hlt := (bitLen_lt_iff a _).1 (Nat.le_refl _)
    have hy : 0 < valL (bitsL b) := by rw [bitsL_val]; omega
    have vq : valL (ofN (bitsL a).length (valL (bitsL a) / valL (bitsL b))) = a / b := by
      rw [ofN_val, bitsL_val, bitsL_val, bitsL_len]; exact Nat.mod_eq_of_lt (Nat.lt_of_le_of_lt (Nat.div_le_self ..) hlt)
    have vr : valL (ofN (bitsL a).length (valL (bitsL a) % valL (bitsL b))) = a % b := by
      rw [ofN_val, bitsL_val, bitsL_val, bitsL_len]; exact Nat.mod_eq_of_lt (Nat.lt_of_le_of_lt (Nat.mod_le ..) hlt)
    have lq : ∀ n : Nat, (ofN (bitsL a).length n).length ≤ 4294967296 := fun n => by rw [ofN_len]; have := bl fa; omega
    exact ProdSays_in1 a b _ _ _ _ _ _ _ _ _ _ _ _ _ fa fb rfl rfl fP rfl rfl (bl fa) (bl fb) rfl (pl fa fb) s1 wl wh rfl rfl (bl fl) (bl fh) rfl (pl fl fh) rfl fM s2 o3 o5 p1 p2 hQ hR hl hE fq fr hy rfl rfl (lq _) (lq _) (by rw [vq]; exact sameB_fits fq) (by rw [vr]; exact sameB_fits fr)
theorem ProdSays_walk (W : World) (n0 m0 : Int) (b0 : U64 n0) (c0 : U64 m0) (n1 m1 : Int) (b1 : U64 n1) (c1 : U64 m1) :
    Calls Try.prog 5 #[.agg #[.int .u64 n0, .int .u64 m0], .agg #[.int .u64 n1, .int .u64 m1]] W fun e w' => e = .returned (.bool true) ∧ Below W.heap.size W w' :=
  law_callY gl_ok lawy_mixed y5_eq (ProdSays_vc n0 m0 b0 c0 n1 m1 b1 c1) (Nat.le_of_ble_eq_true rfl) W [.agg #[.int .u64 n0, .int .u64 m0], .agg #[.int .u64 n1, .int .u64 m1]] (All.cons (is_agg2 (.int _ _) (.int _ _)) (All.cons (is_agg2 (.int _ _) (.int _ _)) All.nil))
set_option maxRecDepth 100000 in
theorem ProdSays_lifted (os : Os) (started : os.Started) (H : Type) (enc : TypeId × Value → H) :
    ReturnsInHanded {} Try.checked os 5 .any (Rows.prodSaysSpec.pre6 enc Try.prog Try.f5 Rows.prodSaysRow.domain false) (Rows.prodSaysSpec.post enc Try.prog Try.f5 false true false false) := by
  refine returnsInHanded_of_change (C := Try.checked) lawy_own started (by kernel_rfl) Try.func5
    (ChangeSpec.witness6 (enc := enc) (C := Try.checked) false ⟨#[], #[.agg #[.int .u64 0, .int .u64 0], .agg #[.int .u64 0, .int .u64 0]], []⟩ 8 (by kernel_rfl) (by kernel_rfl) (by kernel_rfl) (by kernel_rfl)) ?_
  intro W base args ds gs before hval0 hW hcnd _
  have hval : ∀ (j : Nat) t v, Try.f5.params[j]? = some t → args[j]? = some v → Value.okWide Try.prog W .any base t v := hval0
  have hW' := hW
  obtain ⟨p, q, hA0, hV, rfl, hfz, hnd⟩ := hW
  have hA : DataW.TrodAll enc Try.prog W 0 (fun _ => true) true Try.f5.params.toList args.toList ds p := hA0
  rw [Try.params5] at hA hval
  obtain ⟨v0, vs0, d0, ds0, p0, q0, hargs, rfl, rfl, h0, r0⟩ := trodAll_cons hA
  obtain ⟨v1, vs1, d1, ds1, p1, q1, rfl, rfl, rfl, h1, r1⟩ := trodAll_cons r0
  obtain ⟨rfl, rfl, rfl⟩ := trodAll_nil r1
  obtain rfl : args = #[v0, v1] := by cases args; simp_all
  obtain ⟨rfl, rfl⟩ := trodVars_none hV
  have lt0 := places_lt h0
  obtain ⟨n0, m0, e0, b0, c0⟩ := open_words2 Try.underlying24 (by kernel_rfl) (by kernel_rfl) Try.underlying22 Try.underlying22 (hval 0 24 v0 rfl rfl) h0
  subst e0
  have lt1 := places_lt h1
  obtain ⟨n1, m1, e1, b1, c1⟩ := open_words2 Try.underlying24 (by kernel_rfl) (by kernel_rfl) Try.underlying22 Try.underlying22 (hval 1 24 v1 rfl rfl) h1
  subst e1
  clear hA0 hval0
  refine (ProdSays_walk W n0 m0 b0 c0 n1 m1 b1 c1).mono fun e W' ⟨he, bel⟩ => ?_
  subst he
  exact ⟨_, rfl, _, _, _, [], _, [], hW', trodAll_mk1 (shut_bool Try.underlying4 _), (trodAll_cons_mk (bel.trod lawy_laid (by kernel_rfl) (of_decide_eq_true (by kernel_rfl)) h0 lt0) (trodAll_cons_mk (bel.trod lawy_laid (by kernel_rfl) (of_decide_eq_true (by kernel_rfl)) h1 lt1) trodAll_mk0)), rfl, bel.frame _, fun h => by cases h⟩
theorem ProdSays_holds : Rows.ProdSaysSaid :=
  OpenClaim.holds_of_wide 5 Try.f5 rfl rfl rfl rfl rfl rfl rfl ⟨rfl, rfl, rfl, rfl, rfl⟩ rfl rfl rfl rfl rfl (by kernel_rfl) Try.func5 (by kernel_rfl)
    (of_decide_eq_true (by kernel_rfl)) (by unfold Func.isWrapper; first | (rw [if_pos (by decide +kernel)]; kernel_rfl) | (rw [if_neg (by decide +kernel)]; exact ⟨rfl, rfl⟩))
    (fun os started H enc _ => ProdSays_lifted os started H enc)
end Go.Proofs.Ytaebchikbabdoaa
