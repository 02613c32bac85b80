/- hwkeep.RankApart returns true for every list of whole numbers and every two whole numbers. No condition. -/
import Derived.Test.YtcfiknifbebdjaaYM8
import Derived.Test.YtcfiknifbebdjaaYS6
import Derived.Test.YtcfiknifbebdjaaCYRankApart
namespace Go.Proofs.Ytcfiknifbebdjaa
open Go.ChangeShapes Go.WideShapes Go.ChangeAt Go.RowKit Go.Joins Y
set_option linter.unusedSimpArgs false
set_option linter.unusedVariables false
set_option maxRecDepth 100000
set_option maxHeartbeats 40000000
def gl : List (Nat × Say) := [(29, rputS), (30, rcutS), (24, equalS), (42, valuesOS), (43, withinS), (1000051, sortS)]
theorem gl_ok : GamOk Try.prog (gamY gl) := gam_ok (gam_cons rput_ok (gam_cons rcut_ok (gam_cons equal_ok (gam_cons valuesO_ok (gam_cons within_ok (gam_cons sort_ok gam_nil))))))
theorem RankApart_vc (l : List Int) (bl : AllI l) (n : Int) (bn : I64 n) (k : Int) (bk : I64 k) : vcFun (gamY gl) y16 [.rw (.ints .i64 l), .int .i64 n, .int .i64 k] none (fun v o => v = .bool true) := by
  obtain ⟨hl, ho, hk, h64, hv⟩ := vals_all l
  generalize hmm : valsL l = m at *
  have ha := withinN_lt n (n := 16777217) (by omega)
  generalize haa : withinN n 16777217 = a at *
  have hb := withinN_lt k (n := 16777217) (by omega)
  generalize hbb : withinN k 16777217 = b at *
  have b2 : I64 16777217 := by unfold I64; omega
  have z1 : cutE [2, 2, 3] 2 = 0 := by decide
  have z2 : cutL [2, 2, 3] 2 = [2, 3] := by decide
  have z3 : decide (([2, 3] : List Int) = [2, 3]) = true := by decide
  have sl := sortL_len m
  have hs := sortL_sorted m
  have hsm : ∀ x ∈ sortL m, 0 ≤ x ∧ x ≤ 16777216 := fun x hx => hv x (sortL_mem.1 hx)
  have q1 : m.length < 4611686018427387904 := by omega
  generalize hS : sortL m = s at *
  have et : List.take (if 62 < (s.length : Int) then (62 : Int) else (s.length : Int)).toNat s = s.take 62 := by
    split
    · rfl
    · rw [List.take_of_length_le (by omega), List.take_of_length_le (by omega)]
  have et2 : (0 : Int) ≤ (if 62 < (s.length : Int) then (62 : Int) else (s.length : Int)) := by split <;> omega
  have et3 : (if 62 < (s.length : Int) then (62 : Int) else (s.length : Int)) ≤ (s.length : Int) := by split <;> omega
  rw [sl] at et et2 et3
  have ul : (s.take 62).length ≤ 62 := by simp; omega
  have us : (s.take 62).Pairwise (· ≤ ·) := hs.sublist (List.take_sublist _ _)
  have uv : listE (s.take 62) = 0 := listE_0.2 ⟨by omega, fun x hx => hsm x (List.mem_of_mem_take hx)⟩
  generalize hu : s.take 62 = u at *
  have pu : ∀ w x, listE w = 0 → w.Pairwise (· ≤ ·) → w.length ≤ 63 → 0 ≤ x ∧ x ≤ 16777216 → putE w x = 0 := fun w x h1 h2 h3 h4 => by
    rw [putE, if_pos (csE_0.2 ⟨h1, h2⟩), if_pos h4, if_neg (by omega)]
  have hab : 0 ≤ a ∧ a ≤ 16777216 := by omega
  have hbb' : 0 ≤ b ∧ b ≤ 16777216 := by omega
  have p1 := pu u a uv us (by omega) hab
  have p2 := pu u b uv us (by omega) hbb'
  have va := ins_listE (n := a) uv (by omega) hab
  have vb := ins_listE (n := b) uv (by omega) hbb'
  have p3 := pu (insL u a) b va (ins_sorted us) (by rw [ins_len]; omega) hbb'
  have p4 := pu (insL u b) a vb (ins_sorted us) (by rw [ins_len]; omega) hab
  have hsw : insL (insL u a) b = insL (insL u b) a := by
    rw [ins_sortL (ins_sorted us), ins_sortL (ins_sorted us)]
    apply sortL_of_perm
    exact ((ins_perm u a).cons b).trans ((List.Perm.swap a b u).trans ((ins_perm u b).symm.cons a))
  have vx := ins_listE (n := b) va (by rw [ins_len]; omega) hbb'
  have hxs : (insL (insL u a) b).Pairwise (· ≤ ·) := ins_sorted (ins_sorted us)
  have hmem : a ∈ insL (insL u a) b := (ins_perm _ b).mem_iff.2 (List.mem_cons_of_mem _ ((ins_perm u a).mem_iff.2 (List.mem_cons_self ..)))
  have ce : cutE (insL (insL u a) b) a = 0 := by rw [cutE, if_pos (csE_0.2 ⟨vx, hxs⟩), if_pos hmem]
  have cl : cutL (insL (insL u a) b) a = insL u b := by rw [hsw]; exact cut_ins _ _
  have l1 : (insL (insL u a) b).length ≤ 4294967296 := by rw [ins_len, ins_len]; omega
  have l2 : (insL u b).length ≤ 4294967296 := by rw [ins_len]; omega
  rw [hsw] at ce cl l1
  have z4 : decide (insL (insL u b) a = insL (insL u b) a) = true := by simp
  have z5 : decide (insL u b = insL u b) = true := by simp
  simp (config := { maxSteps := 9000000 }) only [↓e_fun, ↓e_skip, ↓e_reg, ↓e_frz0, ↓e_frz1, ↓e_seq, ↓e_cond, ↓e_block, ↓e_exit, ↓e_ret, ↓e_loop, f_nil, f_cons, n_nil, n_cons, f_agg, f_int, f_bool, f_str, f_nilv, f_sl, f_ptr, f_fz, f_clo, f_tup, f_elem, f_unk, f_rw, f_nrw, f_srw, g_nil, g_cons, g_int, g_bool, g_str, g_nilv, g_sl, g_ptr, g_fz, g_clo, g_unk, g_rw, g_nrw, g_srw, c_var, c_row, c_frow, r_sl, r_rw, r_nn, inj_bool, inj_str, inj_ints, inj_bools, inj_row, inj_sl, inj_int, ↓e_nil, ↓e_op, ↓e_opg, ↓o_mov, ↓o_pick, ↓o_bin, ↓o_eqb, ↓o_eqs, ↓o_bins, binS, ↓o_neg, ↓o_not, ↓o_conv, ↓o_faddr, ↓o_fld, ↓o_ext, ↓o_mx, b_max, b_min, ↓o_build, ↓o_box, ↓o_alloc, ↓o_load, ↓o_len, ↓o_lenS, ↓o_idx, ↓o_lit, ↓o_litf, SV.go1, SV.go0, ↓o_mk, ↓o_app, ↓o_sub, ↓o_ssub, ↓o_sidx, ↓o_mkf, ↓o_nilrow, ↓o_isnil, ↓o_bad, ↓a_slr, ↓a_sls, ↓a_sln, ↓a_nil, appR_some, k_none, k_val, k_new, k_set, l_nil, l_cons, mkRow, intsOf, boolsOf, strsOf, chunks, Row.rep, Row.cat, Row.sub, Row.put, Row.len, Row.get, Row.size, Row.flat, bnds, own0, own1, labsL, labsR, SV.labs, ↓o_store, ↓o_call, ↓o_callv, ↓o_callw, w_some, k_ble, c_none, c_some, v_some, argsOf, b_add, b_sub, b_mul, b_quo, b_rem, b_and, b_or, b_xor, b_andNot, b_eql, b_neq, b_lss, b_leq, b_gtr, b_geq, b_shl, b_shr, entFr, SO.ev, fr_put, put_none, mem_put', fr_setm, mem_setm, setM_at, fr_fl, mem_fl, memOf_at, St.of, keepSt, getAll, lookN, hasN, SV.cells, SV.one, SV.res1, SV.res0, SV.resP, SV.ok1, SV.ok0, SV.okN, SV.solid, SV.solid1, SV.solid0, SV.flat0, SV.nm, SV.nm1, SV.nm0, SV.noPtr1, SV.noPtr0, Cel.isFresh, fillP, setAt, partV, eqCells, cellEq, gamY, listsOk, tupOf, takeOwn, SV.ret1, ret_fl, resAll, resL, resV, List.map_cons, List.map_nil, List.flatMap_cons, List.flatMap_nil, List.append_nil, List.nil_append, List.cons_append, List.all_cons, List.all_nil, List.isEmpty_nil, List.isEmpty_cons, Option.map_some, Option.map_none, Option.getD_some, Option.getD_none, Option.isSome_some, Option.isSome_none, Option.isNone_none, Option.isNone_some, Option.toList_none, Option.toList_some, Nat.reduceEqDiff, ↓reduceIte, Nat.reduceAdd, Nat.reduceMul, List.length_cons, List.length_nil, Nat.reduceLeDiff, List.replicate_zero, List.replicate_succ, List.flatten_nil, List.flatten_cons, List.set_cons_zero, List.set_cons_succ, List.drop_zero, List.drop_succ_cons, List.take_succ_cons, List.take_zero, List.getElem?_cons_zero, List.getElem?_cons_succ, Bool.and_true, Bool.and_false, Bool.false_and, Bool.true_and, Bool.or_false, Bool.or_true, Bool.true_or, Bool.false_or, Bool.not_true, Bool.not_false, Bool.and_self, true_and, and_true, Bool.false_eq_true, reduceCtorEq, labOk, Int.reduceBEq, Int.reduceBNe, Int.reduceToNat, Int.reduceLE, Int.reduceLT, Int.reduceEq, Nat.reduceDiv, Nat.reduceMod, Nat.reduceSub, BEq.rfl, beq_self_eq_true, bne_self_eq_false, decide_true, decide_false, Int.natCast_zero, Int.natCast_one, Int.cast_ofNat_Int, decide_eq_true_eq, decide_eq_false_iff_not, and_self, Nat.reduceBEq, Int.natCast_add, List.length_append, y16, gl, rputS, rcutS, equalS, valuesOS, withinS, sortS, asI, hmm, haa, hbb, b2, z1, z2, z3, hS, sl, q1, gt_iff_lt, et, et2, et3, p1, p2, p3, p4, hsw, ce, cl, z4, z5, l1, l2]
theorem RankApart_walk (W : World) (v0 : Value) (l0 : List Int) (b0 : AllI l0) (i0 : Is (E0 W fun _ => False) (.rw (.ints .i64 l0)) v0) (n1 : Int) (b1 : I64 n1) (n2 : Int) (b2 : I64 n2) :
    Calls Try.prog 16 #[v0, .int .i64 n1, .int .i64 n2] W fun e w' => e = .returned (.bool true) ∧ Below W.heap.size W w' :=
  law_callY gl_ok lawy_mixed y16_eq (RankApart_vc l0 b0 n1 b1 n2 b2) (Nat.le_of_ble_eq_true rfl) W [v0, .int .i64 n1, .int .i64 n2] (All.cons i0 (All.cons (.int _ _) (All.cons (.int _ _) All.nil)))
set_option maxRecDepth 100000 in
theorem RankApart_lifted (os : Os) (started : os.Started) (H : Type) (enc : TypeId × Value → H) :
    ReturnsInHanded {} Try.checked os 16 .any (Rows.rankApartSpec.pre6 enc Try.prog Try.f16 Rows.rankApartRow.domain false) (Rows.rankApartSpec.post enc Try.prog Try.f16 false true false false) := by
  refine returnsInHanded_of_change (C := Try.checked) lawy_own started (by kernel_rfl) Try.func16
    (ChangeSpec.witness6 (enc := enc) (C := Try.checked) false ⟨#[], #[.slice none 0 0, .int .i64 0, .int .i64 0], []⟩ 8 (by kernel_rfl) (by kernel_rfl) (by kernel_rfl) (by kernel_rfl)) ?_
  intro W base args ds gs before hval0 hW hcnd _
  have hval : ∀ (j : Nat) t v, Try.f16.params[j]? = some t → args[j]? = some v → Value.okWide Try.prog W .any base t v := hval0
  have hW' := hW
  obtain ⟨p, q, hA0, hV, rfl, hfz, hnd⟩ := hW
  have hA : DataW.TrodAll enc Try.prog W 0 (fun _ => true) true Try.f16.params.toList args.toList ds p := hA0
  rw [Try.params16] at hA hval
  obtain ⟨v0, vs0, d0, ds0, p0, q0, hargs, rfl, rfl, h0, r0⟩ := trodAll_cons hA
  obtain ⟨v1, vs1, d1, ds1, p1, q1, rfl, rfl, rfl, h1, r1⟩ := trodAll_cons r0
  obtain ⟨v2, vs2, d2, ds2, p2, q2, rfl, rfl, rfl, h2, r2⟩ := trodAll_cons r1
  obtain ⟨rfl, rfl, rfl⟩ := trodAll_nil r2
  obtain rfl : args = #[v0, v1, v2] := by cases args; simp_all
  obtain ⟨rfl, rfl⟩ := trodVars_none hV
  have lt0 := places_lt h0
  obtain ⟨l0, hl0, hi0⟩ := open_ints Try.underlying22 Try.underlying3 (by kernel_rfl) (hval 0 22 v0 rfl rfl) h0
  have lt1 := places_lt h1
  obtain ⟨n1, e1, _, _, wn1⟩ := open_int Try.underlying3 (hval 1 3 v1 rfl rfl) h1
  subst e1
  have lt2 := places_lt h2
  obtain ⟨n2, e2, _, _, wn2⟩ := open_int Try.underlying3 (hval 2 3 v2 rfl rfl) h2
  subst e2
  clear hA0 hval0
  refine (RankApart_walk W v0 l0 hl0 hi0 n1 (i64_of wn1) n2 (i64_of wn2)).mono fun e W' ⟨he, bel⟩ => ?_
  subst he
  exact ⟨_, rfl, _, _, _, [], _, [], hW', trodAll_mk1 (shut_bool Try.underlying4 _), (trodAll_cons_mk (bel.trod lawy_laid (by kernel_rfl) (of_decide_eq_true (by kernel_rfl)) h0 lt0) (trodAll_cons_mk (bel.trod lawy_laid (by kernel_rfl) (of_decide_eq_true (by kernel_rfl)) h1 lt1) (trodAll_cons_mk (bel.trod lawy_laid (by kernel_rfl) (of_decide_eq_true (by kernel_rfl)) h2 lt2) trodAll_mk0))), rfl, bel.frame _, fun h => by cases h⟩
theorem RankApart_holds : Rows.RankApartSaid :=
  OpenClaim.holds_of_wide 16 Try.f16 rfl rfl rfl rfl rfl rfl rfl ⟨rfl, rfl, rfl, rfl, rfl⟩ rfl rfl rfl rfl rfl (by kernel_rfl) Try.func16 (by kernel_rfl)
    (of_decide_eq_true (by kernel_rfl)) (by unfold Func.isWrapper; first | (rw [if_pos (by decide +kernel)]; kernel_rfl) | (rw [if_neg (by decide +kernel)]; exact ⟨rfl, rfl⟩))
    (fun os started H enc _ => RankApart_lifted os started H enc)
end Go.Proofs.Ytcfiknifbebdjaa
