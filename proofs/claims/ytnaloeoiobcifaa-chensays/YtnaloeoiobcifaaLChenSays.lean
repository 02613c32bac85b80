/- hwlaw.ChenSays returns true for every two lists of whole numbers, every window and every three whole numbers. No condition. -/
import Derived.Test.YtnaloeoiobcifaaYHr
import Derived.Test.YtnaloeoiobcifaaCYChenSays
namespace Go.Proofs.Ytnaloeoiobcifaa
open Go.ChangeShapes Go.WideShapes Go.ChangeAt Go.RowKit Go.Joins Y
set_option linter.unusedSimpArgs false
set_option linter.unusedVariables false
set_option maxRecDepth 100000
set_option maxHeartbeats 40000000
def gl : List (Nat × Say) := [(40, expectS), (41, lateS), (42, rexpectS), (43, rlateS)]
theorem gl_ok : GamOk Try.prog (gamY gl) := gam_ok (gam_cons expect_ok (gam_cons late_ok (gam_cons rexpect_ok (gam_cons rlate_ok gam_nil))))
theorem ChenSays_vc (s : List Int) (bs : AllI s) (t : List Int) (bt : AllI t) (e : Int) (be : I64 e) (c : Int) (bc : I64 c) (l : List Int) (bl : AllI l) (n : Int) (bn : I64 n) (k : Int) (bk : I64 k) : vcFun (gamY gl) y6 [.rw (.ints .i64 s), .rw (.ints .i64 t), .int .i64 e, .agg [.int .i64 c, .rw (.ints .i64 l)], .int .i64 n, .int .i64 k] none (fun v o => v = .bool true) := by
  have z1 : arrE [1] [7] 10 = 0 := by decide
  have z2 : expV [1] [7] 10 = 17 := by decide
  have r0 : ∀ x : Int, (x == x) = true := fun x => by simp
  have r2 : ∀ x : Bool, (x == x) = true := fun x => by simp
  generalize hV : expV s t e = v at *
  generalize hE : arrE s t e = f at *
  generalize hB : lateB c l n k = b at *
  generalize hG : lateE c l n k = g at *
  simp (config := { maxSteps := 9000000 }) only [↓e_fun, ↓e_skip, ↓e_reg, ↓e_frz0, ↓e_frz1, ↓e_seq, ↓e_cond, ↓e_block, ↓e_exit, ↓e_ret, ↓e_loop, f_nil, f_cons, n_nil, n_cons, f_agg, f_int, f_bool, f_str, f_nilv, f_sl, f_ptr, f_gp, g_gp, f_fz, f_clo, f_tup, f_elem, f_unk, f_rw, f_nrw, f_srw, g_nil, g_cons, g_int, g_bool, g_str, g_nilv, g_sl, g_ptr, g_fz, g_clo, g_unk, g_rw, g_nrw, g_srw, c_var, c_row, c_frow, r_sl, r_rw, r_nn, inj_bool, inj_str, inj_ints, inj_bools, inj_row, inj_sl, inj_int, ↓e_nil, ↓e_op, ↓e_opg, ↓o_mov, ↓o_pick, ↓o_bin, ↓o_eqb, ↓o_eqs, ↓o_bins, binS, ↓o_neg, ↓o_xor, ↓o_not, ↓o_conv, ↓o_faddr, ↓o_fld, ↓o_ext, ↓o_mx, b_max, b_min, ↓o_mx3, b_max3, b_min3, ↓o_build, ↓o_box, ↓o_alloc, ↓o_load, ↓o_len, ↓o_lenS, ↓o_idx, ↓o_lit, ↓o_litf, SV.go1, SV.go0, ↓o_mk, ↓o_app, ↓o_sub, ↓o_ssub, ↓o_sidx, ↓o_aidx, ↓o_aptr, ↓o_mkf, ↓o_nilrow, ↓o_isnil, ↓o_bad, ↓a_slr, ↓a_sls, ↓a_sln, ↓a_nil, appR_some, k_none, k_val, k_new, k_set, l_nil, l_cons, mkRow, intsOf, boolsOf, strsOf, chunks, Row.rep, Row.cat, Row.sub, Row.put, Row.len, Row.get, Row.size, Row.flat, bnds, own0, own1, labsL, labsR, SV.labs, ↓o_store, ↓o_call, ↓o_callv, ↓o_callw, ↓o_apps, m_apps, ↓o_tob, ↓o_tos, t_nil, t_rw, t_sl, ↓o_calla, m_calla, ap_some, w_some, k_ble, c_none, c_some, v_some, argsOf, b_add, b_sub, b_mul, b_quo, b_rem, b_and, b_or, b_xor, b_andNot, b_eql, b_neq, b_lss, b_leq, b_gtr, b_geq, b_shl, b_shr, entFr, SO.ev, fr_put, put_none, mem_put', fr_setm, mem_setm, setM_at, fr_fl, mem_fl, memOf_at, St.of, keepSt, getAll, lookN, hasN, SV.cells, SV.one, SV.res1, SV.res0, SV.resP, SV.ok1, SV.ok0, SV.okN, SV.solid, SV.solid1, SV.solid0, SV.flat0, SV.nm, SV.nm1, SV.nm0, SV.noPtr1, SV.noPtr0, Cel.isFresh, fillP, setAt, partV, eqCells, cellEq, gamY, listsOk, tupOf, takeOwn, SV.ret1, ret_fl, resAll, resL, resV, List.map_cons, List.map_nil, List.flatMap_cons, List.flatMap_nil, List.append_nil, List.nil_append, List.cons_append, List.all_cons, List.all_nil, List.isEmpty_nil, List.isEmpty_cons, Option.map_some, Option.map_none, Option.getD_some, Option.getD_none, Option.isSome_some, Option.isSome_none, Option.isNone_none, Option.isNone_some, Option.toList_none, Option.toList_some, Nat.reduceEqDiff, ↓reduceIte, Nat.reduceAdd, Nat.reduceMul, List.length_cons, List.length_nil, Nat.reduceLeDiff, Nat.reduceLT, List.replicate_zero, List.replicate_succ, List.flatten_nil, List.flatten_cons, List.set_cons_zero, List.set_cons_succ, List.drop_zero, List.drop_succ_cons, List.take_succ_cons, List.take_zero, List.getElem?_cons_zero, List.getElem?_cons_succ, Bool.and_true, Bool.and_false, Bool.false_and, Bool.true_and, Bool.or_false, Bool.or_true, Bool.true_or, Bool.false_or, Bool.not_true, Bool.not_false, Bool.and_self, true_and, and_true, Bool.false_eq_true, reduceCtorEq, labOk, Int.reduceBEq, Int.reduceBNe, Int.reduceToNat, Int.reduceLE, Int.reduceLT, Int.reduceEq, Nat.reduceDiv, Nat.reduceMod, Nat.reduceSub, BEq.rfl, beq_self_eq_true, bne_self_eq_false, decide_true, decide_false, Int.natCast_zero, Int.natCast_one, Int.cast_ofNat_Int, decide_eq_true_eq, decide_eq_false_iff_not, and_self, Nat.reduceBEq, Int.natCast_add, List.length_append, y6, gl, expectS, lateS, rexpectS, rlateS, asI, z1, z2, r0, r2, hV, hE, hB, hG]
theorem ChenSays_walk (W : World) (v0 : Value) (l0 : List Int) (b0 : AllI l0) (i0 : Is (E0 W fun _ => False) (.rw (.ints .i64 l0)) v0) (v1 : Value) (l1 : List Int) (b1 : AllI l1) (i1 : Is (E0 W fun _ => False) (.rw (.ints .i64 l1)) v1) (n2 : Int) (b2 : I64 n2) (n3 : Int) (b3 : I64 n3) (v3 : Value) (l3 : List Int) (c3 : AllI l3) (i3 : Is (E0 W fun _ => False) (.rw (.ints .i64 l3)) v3) (n4 : Int) (b4 : I64 n4) (n5 : Int) (b5 : I64 n5) :
    Calls Try.prog 6 #[v0, v1, .int .i64 n2, .agg #[.int .i64 n3, v3], .int .i64 n4, .int .i64 n5] W fun e w' => e = .returned (.bool true) ∧ Below W.heap.size W w' :=
  law_callY gl_ok lawy_mixed y6_eq (ChenSays_vc l0 b0 l1 b1 n2 b2 n3 b3 l3 c3 n4 b4 n5 b5) (Nat.le_of_ble_eq_true rfl) W (lawy_glb W) [v0, v1, .int .i64 n2, .agg #[.int .i64 n3, v3], .int .i64 n4, .int .i64 n5] (All.cons i0 (All.cons i1 (All.cons (.int _ _) (All.cons (is_agg2 (.int _ _) i3) (All.cons (.int _ _) (All.cons (.int _ _) All.nil))))))
set_option maxRecDepth 100000 in
theorem ChenSays_lifted (os : Os) (started : os.Started) (H : Type) (enc : TypeId × Value → H) :
    ReturnsInHanded {} Try.checked os 6 .any (Rows.chenSaysSpec.pre6 enc Try.prog Try.f6 Rows.chenSaysRow.domain false) (Rows.chenSaysSpec.post enc Try.prog Try.f6 false true false false) := by
  refine returnsInHanded_of_change (C := Try.checked) lawy_own started (by kernel_rfl) Try.func6
    (ChangeSpec.witness6 (enc := enc) (C := Try.checked) false ⟨#[], #[.slice none 0 0, .slice none 0 0, .int .i64 0, .agg #[.int .i64 0, .slice none 0 0], .int .i64 0, .int .i64 0], []⟩ 8 (by kernel_rfl) (by kernel_rfl) (by kernel_rfl) (by kernel_rfl)) ?_
  intro W base args ds gs before hval0 hW hcnd _
  have hval : ∀ (j : Nat) t v, Try.f6.params[j]? = some t → args[j]? = some v → Value.okWide Try.prog W .any base t v := hval0
  have hW' := hW
  obtain ⟨p, q, hA0, hV, rfl, hfz, hnd⟩ := hW
  have hA : DataW.TrodAll enc Try.prog W 0 (fun _ => true) true Try.f6.params.toList args.toList ds p := hA0
  rw [Try.params6] at hA hval
  obtain ⟨v0, vs0, d0, ds0, p0, q0, hargs, rfl, rfl, h0, r0⟩ := trodAll_cons hA
  obtain ⟨v1, vs1, d1, ds1, p1, q1, rfl, rfl, rfl, h1, r1⟩ := trodAll_cons r0
  obtain ⟨v2, vs2, d2, ds2, p2, q2, rfl, rfl, rfl, h2, r2⟩ := trodAll_cons r1
  obtain ⟨v3, vs3, d3, ds3, p3, q3, rfl, rfl, rfl, h3, r3⟩ := trodAll_cons r2
  obtain ⟨v4, vs4, d4, ds4, p4, q4, rfl, rfl, rfl, h4, r4⟩ := trodAll_cons r3
  obtain ⟨v5, vs5, d5, ds5, p5, q5, rfl, rfl, rfl, h5, r5⟩ := trodAll_cons r4
  obtain ⟨rfl, rfl, rfl⟩ := trodAll_nil r5
  obtain rfl : args = #[v0, v1, v2, v3, v4, v5] := by cases args; simp_all
  obtain ⟨rfl, rfl⟩ := trodVars_none hV
  have lt0 := places_lt h0
  obtain ⟨l0, hl0, hi0⟩ := open_ints Try.underlying22 Try.underlying3 (by kernel_rfl) (hval 0 22 v0 rfl rfl) h0
  have lt1 := places_lt h1
  obtain ⟨l1, hl1, hi1⟩ := open_ints Try.underlying22 Try.underlying3 (by kernel_rfl) (hval 1 22 v1 rfl rfl) h1
  have lt2 := places_lt h2
  obtain ⟨n2, e2, _, _, wn2⟩ := open_int Try.underlying3 (hval 2 3 v2 rfl rfl) h2
  subst e2
  have lt3 := places_lt h3
  obtain ⟨n3, u3, l3, e3, b3, c3, i3⟩ := open_win Try.underlying54 (by kernel_rfl) (by kernel_rfl) Try.underlying3 Try.underlying22 Try.underlying3 (by kernel_rfl) (hval 3 54 v3 rfl rfl) h3
  subst e3
  have lt4 := places_lt h4
  obtain ⟨n4, e4, _, _, wn4⟩ := open_int Try.underlying3 (hval 4 3 v4 rfl rfl) h4
  subst e4
  have lt5 := places_lt h5
  obtain ⟨n5, e5, _, _, wn5⟩ := open_int Try.underlying3 (hval 5 3 v5 rfl rfl) h5
  subst e5
  clear hA0 hval0
  refine (ChenSays_walk W v0 l0 hl0 hi0 v1 l1 hl1 hi1 n2 (i64_of wn2) n3 b3 u3 l3 c3 i3 n4 (i64_of wn4) n5 (i64_of wn5)).mono fun e W' ⟨he, bel⟩ => ?_
  subst he
  exact ⟨_, rfl, _, _, _, [], _, [], hW', trodAll_mk1 (shut_bool Try.underlying4 _), (trodAll_cons_mk (bel.trod lawy_laid (by kernel_rfl) (of_decide_eq_true (by kernel_rfl)) h0 lt0) (trodAll_cons_mk (bel.trod lawy_laid (by kernel_rfl) (of_decide_eq_true (by kernel_rfl)) h1 lt1) (trodAll_cons_mk (bel.trod lawy_laid (by kernel_rfl) (of_decide_eq_true (by kernel_rfl)) h2 lt2) (trodAll_cons_mk (bel.trod lawy_laid (by kernel_rfl) (of_decide_eq_true (by kernel_rfl)) h3 lt3) (trodAll_cons_mk (bel.trod lawy_laid (by kernel_rfl) (of_decide_eq_true (by kernel_rfl)) h4 lt4) (trodAll_cons_mk (bel.trod lawy_laid (by kernel_rfl) (of_decide_eq_true (by kernel_rfl)) h5 lt5) trodAll_mk0)))))), rfl, bel.frame _, fun h => by cases h⟩
theorem ChenSays_holds : Rows.ChenSaysSaid :=
  OpenClaim.holds_of_wide 6 Try.f6 rfl rfl rfl rfl rfl rfl rfl ⟨rfl, rfl, rfl, rfl, rfl⟩ rfl rfl rfl rfl rfl (by kernel_rfl) Try.func6 (by kernel_rfl)
    (of_decide_eq_true (by kernel_rfl)) (by unfold Func.isWrapper; first | (rw [if_pos (by decide +kernel)]; kernel_rfl) | (rw [if_neg (by decide +kernel)]; exact ⟨rfl, rfl⟩))
    (fun os started H enc _ => ChenSays_lifted os started H enc)
end Go.Proofs.Ytnaloeoiobcifaa
