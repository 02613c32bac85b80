/- hwkeep.StatBounds returns true for every list of whole numbers. No condition. -/
import Derived.Test.YtmkocdcflnnkjaaYK3
import Derived.Test.YtmkocdcflnnkjaaYM5
import Derived.Test.YtmkocdcflnnkjaaCYStatBounds
namespace Go.Proofs.Ytmkocdcflnnkjaa
open Go.ChangeShapes Go.WideShapes Go.ChangeAt Go.RowKit Go.Joins Y
set_option linter.unusedSimpArgs false
set_option linter.unusedVariables false
set_option maxRecDepth 100000
set_option maxHeartbeats 40000000
def gb : List (Nat × Say) := [(36, begunS), (37, valuesS), (38, sumsS), (26, spreadXS), (40, minS), (41, maxS)]
theorem gb_ok : GamOk Try.prog (gamY gb) := gam_ok (gam_cons begun_ok (gam_cons values_ok (gam_cons sums_ok (gam_cons spreadX_ok (gam_cons min_ok (gam_cons max_ok gam_nil))))))
theorem StatBounds_vc (l : List Int) (bl : AllI l) : vcFun (gamY gb) y10 [.rw (.ints .i64 l)] none (fun v o => v = .bool true) := by
  have hm0 := valsL_ok l
  have ho := ofV_0 hm0
  have hk := check_of hm0
  obtain ⟨h64, hv⟩ := listE_0.1 hm0
  have hk0 := checkE_0.1 hk
  generalize hmm : valsL l = m at *
  by_cases h0 : m.length = 0
  · have h0' : ((m.length : Int) == 0) = true := by simp [h0]
    simp (config := { maxSteps := 9000000 }) only [↓e_fun, ↓e_skip, ↓e_reg, ↓e_seq, ↓e_cond, ↓e_block, ↓e_exit, ↓e_ret, ↓e_loop, f_nil, f_cons, n_nil, n_cons, f_agg, f_int, f_bool, f_str, f_nilv, f_sl, f_ptr, f_fz, f_clo, f_tup, f_elem, f_unk, f_rw, f_nrw, f_srw, g_nil, g_cons, g_int, g_bool, g_str, g_nilv, g_sl, g_ptr, g_fz, g_clo, g_unk, g_rw, g_nrw, g_srw, c_var, c_row, c_frow, r_sl, r_rw, r_nn, inj_bool, inj_str, inj_ints, inj_bools, inj_row, inj_sl, inj_int, ↓e_nil, ↓e_op, ↓e_opg, ↓o_mov, ↓o_pick, ↓o_bin, ↓o_eqb, ↓o_eqs, ↓o_bins, binS, ↓o_neg, ↓o_not, ↓o_conv, ↓o_faddr, ↓o_fld, ↓o_ext, ↓o_mx, b_max, b_min, ↓o_build, ↓o_box, ↓o_alloc, ↓o_load, ↓o_len, ↓o_lenS, ↓o_idx, ↓o_lit, ↓o_mk, ↓o_app, ↓o_sub, ↓o_ssub, ↓o_sidx, ↓o_mkf, ↓o_nilrow, ↓o_isnil, ↓o_bad, ↓a_slr, ↓a_sls, ↓a_sln, ↓a_nil, appR_some, k_none, k_val, k_new, k_set, l_nil, l_cons, mkRow, intsOf, boolsOf, strsOf, chunks, Row.rep, Row.cat, Row.sub, Row.put, Row.len, Row.get, Row.size, Row.flat, bnds, own0, own1, labsL, labsR, SV.labs, ↓o_store, ↓o_call, ↓o_callv, c_none, c_some, v_some, argsOf, b_add, b_sub, b_mul, b_quo, b_rem, b_and, b_or, b_xor, b_andNot, b_eql, b_neq, b_lss, b_leq, b_gtr, b_geq, b_shl, b_shr, entFr, SO.ev, fr_put, put_none, mem_put', fr_setm, mem_setm, setM_at, fr_fl, mem_fl, memOf_at, St.of, keepSt, getAll, lookN, hasN, SV.cells, SV.one, SV.res1, SV.res0, SV.resP, SV.ok1, SV.ok0, SV.okN, SV.solid, SV.solid1, SV.solid0, SV.flat0, SV.nm, SV.nm1, SV.nm0, SV.noPtr1, SV.noPtr0, Cel.isFresh, fillP, setAt, partV, eqCells, cellEq, gamY, listsOk, tupOf, takeOwn, SV.ret1, ret_fl, resAll, resL, resV, List.map_cons, List.map_nil, List.flatMap_cons, List.flatMap_nil, List.append_nil, List.nil_append, List.cons_append, List.all_cons, List.all_nil, List.isEmpty_nil, List.isEmpty_cons, Option.map_some, Option.map_none, Option.getD_some, Option.getD_none, Option.isSome_some, Option.isSome_none, Option.isNone_none, Option.isNone_some, Option.toList_none, Option.toList_some, Nat.reduceEqDiff, ↓reduceIte, Nat.reduceAdd, Nat.reduceMul, List.length_cons, List.length_nil, Nat.reduceLeDiff, List.replicate_zero, List.replicate_succ, List.flatten_nil, List.flatten_cons, List.set_cons_zero, List.set_cons_succ, List.drop_zero, List.drop_succ_cons, List.take_succ_cons, List.take_zero, List.getElem?_cons_zero, List.getElem?_cons_succ, Bool.and_true, Bool.or_true, Bool.true_or, Bool.false_or, Bool.not_true, Bool.not_false, Bool.and_self, true_and, and_true, Bool.false_eq_true, reduceCtorEq, labOk, Int.reduceBEq, Int.reduceBNe, Int.reduceToNat, Int.reduceLE, Int.reduceLT, Int.reduceEq, Nat.reduceDiv, Nat.reduceMod, Nat.reduceSub, BEq.rfl, beq_self_eq_true, bne_self_eq_false, decide_true, decide_false, Int.natCast_zero, Int.natCast_one, Int.cast_ofNat_Int, decide_eq_true_eq, decide_eq_false_iff_not, and_self, Nat.reduceBEq, Int.natCast_add, List.length_append, y10, gb, begunS, valuesS, sumsS, spreadXS, minS, maxS, asI, hmm, h0']
  · have h0' : ((m.length : Int) == 0) = false := by simpa using h0
    have hne : m ≠ [] := fun h => h0 (by rw [h]; rfl)
    obtain ⟨i1, i2⟩ := minL_spec hne
    obtain ⟨j1, j2⟩ := maxL_spec hne
    have q1 := bhatia fun x hx => ⟨i2 x hx, j2 x hx⟩
    have q2 := popoviciu fun x hx => ⟨i2 x hx, j2 x hx⟩
    have q3 := nagy i1 j1
    have v1 := hv _ i1
    have v2 := hv _ j1
    have hlh := i2 _ j1
    have p1 : 0 < m.length := by omega
    have p2 : m.length ≤ 4294967296 := by omega
    generalize hS : sumL m = S at *
    generalize hQ : sqL m = Q at *
    generalize hA : minL m = A at *
    generalize hB : maxL m = B at *
    have hkk : (m.length : Int) ≤ 64 := by omega
    have hk' : (0 : Int) ≤ m.length := by omega
    generalize hK : (m.length : Int) = K at *
    have m1 := mul_bd hk' hkk hk' hkk
    have m2 := mul_bd m1.1 m1.2 (show 0 ≤ B - A by omega) (show B - A ≤ 16777216 by omega)
    have m3 := mul_bd m2.1 m2.2 (show 0 ≤ B - A by omega) (show B - A ≤ 16777216 by omega)
    have m4 := mul_bd hk' hkk v2.1 v2.2
    have m5 := mul_bd hk' hkk v1.1 v1.2
    have m6 := mul_bd hk' hkk (show 0 ≤ B - A by omega) (show B - A ≤ 16777216 by omega)
    have m7 := mul_bd m6.1 m6.2 (show 0 ≤ B - A by omega) (show B - A ≤ 16777216 by omega)
    have s1 : K * A ≤ S ∧ S ≤ K * B := by
      have t1 := sum_le_sum (f := fun _ => A) (g := fun x => x) (l := m) i2
      have t2 := sum_le_sum (f := fun x => x) (g := fun _ => B) (l := m) j2
      have t3 : (m.map fun x => x).sum = S := hS
      have t4 : ∀ c : Int, (m.map fun _ => c).sum = K * c := fun c => by rw [List.map_const', List.sum_replicate_int, hK]
      rw [t3, t4] at t1 t2
      exact ⟨t1, t2⟩
    have m8 := mul_bd (show 0 ≤ K * B - S by omega) (show K * B - S ≤ 1073741824 by omega) (show 0 ≤ S - K * A by omega) (show S - K * A ≤ 1073741824 by omega)
    obtain ⟨⟨_, _⟩, ⟨_, _⟩, ⟨_, _⟩, hn0⟩ := hk0
    have c1 : I64 (4 * (K * Q - S * S)) := by unfold I64; omega
    have c2 : I64 (K * K) := by unfold I64; omega
    have c3 : I64 (B - A) := by unfold I64; omega
    have c4 : I64 (K * K * (B - A)) := by unfold I64; omega
    have c5 : I64 (K * K * (B - A) * (B - A)) := by unfold I64; omega
    have c6 : I64 (K * B) := by unfold I64; omega
    have c7 : I64 (K * A) := by unfold I64; omega
    have c8 : I64 (K * B - S) := by unfold I64; omega
    have c9 : I64 (S - K * A) := by unfold I64; omega
    have c10 : I64 ((K * B - S) * (S - K * A)) := by unfold I64; omega
    have c11 : I64 (2 * (K * Q - S * S)) := by unfold I64; omega
    have c12 : I64 (K * (B - A)) := by unfold I64; omega
    have c13 : I64 (K * (B - A) * (B - A)) := by unfold I64; omega
    simp (config := { maxSteps := 9000000 }) only [↓e_fun, ↓e_skip, ↓e_reg, ↓e_seq, ↓e_cond, ↓e_block, ↓e_exit, ↓e_ret, ↓e_loop, f_nil, f_cons, n_nil, n_cons, f_agg, f_int, f_bool, f_str, f_nilv, f_sl, f_ptr, f_fz, f_clo, f_tup, f_elem, f_unk, f_rw, f_nrw, f_srw, g_nil, g_cons, g_int, g_bool, g_str, g_nilv, g_sl, g_ptr, g_fz, g_clo, g_unk, g_rw, g_nrw, g_srw, c_var, c_row, c_frow, r_sl, r_rw, r_nn, inj_bool, inj_str, inj_ints, inj_bools, inj_row, inj_sl, inj_int, ↓e_nil, ↓e_op, ↓e_opg, ↓o_mov, ↓o_pick, ↓o_bin, ↓o_eqb, ↓o_eqs, ↓o_bins, binS, ↓o_neg, ↓o_not, ↓o_conv, ↓o_faddr, ↓o_fld, ↓o_ext, ↓o_mx, b_max, b_min, ↓o_build, ↓o_box, ↓o_alloc, ↓o_load, ↓o_len, ↓o_lenS, ↓o_idx, ↓o_lit, ↓o_mk, ↓o_app, ↓o_sub, ↓o_ssub, ↓o_sidx, ↓o_mkf, ↓o_nilrow, ↓o_isnil, ↓o_bad, ↓a_slr, ↓a_sls, ↓a_sln, ↓a_nil, appR_some, k_none, k_val, k_new, k_set, l_nil, l_cons, mkRow, intsOf, boolsOf, strsOf, chunks, Row.rep, Row.cat, Row.sub, Row.put, Row.len, Row.get, Row.size, Row.flat, bnds, own0, own1, labsL, labsR, SV.labs, ↓o_store, ↓o_call, ↓o_callv, c_none, c_some, v_some, argsOf, b_add, b_sub, b_mul, b_quo, b_rem, b_and, b_or, b_xor, b_andNot, b_eql, b_neq, b_lss, b_leq, b_gtr, b_geq, b_shl, b_shr, entFr, SO.ev, fr_put, put_none, mem_put', fr_setm, mem_setm, setM_at, fr_fl, mem_fl, memOf_at, St.of, keepSt, getAll, lookN, hasN, SV.cells, SV.one, SV.res1, SV.res0, SV.resP, SV.ok1, SV.ok0, SV.okN, SV.solid, SV.solid1, SV.solid0, SV.flat0, SV.nm, SV.nm1, SV.nm0, SV.noPtr1, SV.noPtr0, Cel.isFresh, fillP, setAt, partV, eqCells, cellEq, gamY, listsOk, tupOf, takeOwn, SV.ret1, ret_fl, resAll, resL, resV, List.map_cons, List.map_nil, List.flatMap_cons, List.flatMap_nil, List.append_nil, List.nil_append, List.cons_append, List.all_cons, List.all_nil, List.isEmpty_nil, List.isEmpty_cons, Option.map_some, Option.map_none, Option.getD_some, Option.getD_none, Option.isSome_some, Option.isSome_none, Option.isNone_none, Option.isNone_some, Option.toList_none, Option.toList_some, Nat.reduceEqDiff, ↓reduceIte, Nat.reduceAdd, Nat.reduceMul, List.length_cons, List.length_nil, Nat.reduceLeDiff, List.replicate_zero, List.replicate_succ, List.flatten_nil, List.flatten_cons, List.set_cons_zero, List.set_cons_succ, List.drop_zero, List.drop_succ_cons, List.take_succ_cons, List.take_zero, List.getElem?_cons_zero, List.getElem?_cons_succ, Bool.and_true, Bool.or_true, Bool.true_or, Bool.false_or, Bool.not_true, Bool.not_false, Bool.and_self, true_and, and_true, Bool.false_eq_true, reduceCtorEq, labOk, Int.reduceBEq, Int.reduceBNe, Int.reduceToNat, Int.reduceLE, Int.reduceLT, Int.reduceEq, Nat.reduceDiv, Nat.reduceMod, Nat.reduceSub, BEq.rfl, beq_self_eq_true, bne_self_eq_false, decide_true, decide_false, Int.natCast_zero, Int.natCast_one, Int.cast_ofNat_Int, decide_eq_true_eq, decide_eq_false_iff_not, and_self, Nat.reduceBEq, Int.natCast_add, List.length_append, y10, gb, begunS, valuesS, sumsS, spreadXS, minS, maxS, asI, hmm, ho, hk, hK, hA, hB, h0', p1, p2, sv3, i64_wrap c1, i64_wrap c2, i64_wrap c3, i64_wrap c4, i64_wrap c5, i64_wrap c6, i64_wrap c7, i64_wrap c8, i64_wrap c9, i64_wrap c10, i64_wrap c11, i64_wrap c12, i64_wrap c13, q1, q2, q3]
theorem StatBounds_walk (W : World) (v0 : Value) (l0 : List Int) (b0 : AllI l0) (i0 : Is (E0 W fun _ => False) (.rw (.ints .i64 l0)) v0) :
    Calls Try.prog 10 #[v0] W fun e w' => e = .returned (.bool true) ∧ Below W.heap.size W w' :=
  law_callY gb_ok lawy_mixed y10_eq (StatBounds_vc l0 b0) (Nat.le_of_ble_eq_true rfl) W [v0] (All.cons i0 All.nil)
set_option maxRecDepth 100000 in
theorem StatBounds_lifted (os : Os) (started : os.Started) (H : Type) (enc : TypeId × Value → H) :
    ReturnsInHanded {} Try.checked os 10 .any (Rows.statBoundsSpec.pre6 enc Try.prog Try.f10 Rows.statBoundsRow.domain false) (Rows.statBoundsSpec.post enc Try.prog Try.f10 false true false false) := by
  refine returnsInHanded_of_change (C := Try.checked) lawy_own started (by kernel_rfl) Try.func10
    (ChangeSpec.witness6 (enc := enc) (C := Try.checked) false ⟨#[], #[.slice none 0 0], []⟩ 8 (by kernel_rfl) (by kernel_rfl) (by kernel_rfl) (by kernel_rfl)) ?_
  intro W base args ds gs before hval0 hW hcnd _
  have hval : ∀ (j : Nat) t v, Try.f10.params[j]? = some t → args[j]? = some v → Value.okWide Try.prog W .any base t v := hval0
  have hW' := hW
  obtain ⟨p, q, hA0, hV, rfl, hfz, hnd⟩ := hW
  have hA : DataW.TrodAll enc Try.prog W 0 (fun _ => true) true Try.f10.params.toList args.toList ds p := hA0
  rw [Try.params10] at hA hval
  obtain ⟨v0, vs0, d0, ds0, p0, q0, hargs, rfl, rfl, h0, r0⟩ := trodAll_cons hA
  obtain ⟨rfl, rfl, rfl⟩ := trodAll_nil r0
  obtain rfl : args = #[v0] := by cases args; simp_all
  obtain ⟨rfl, rfl⟩ := trodVars_none hV
  have lt0 := places_lt h0
  obtain ⟨l0, hl0, hi0⟩ := open_ints Try.underlying22 Try.underlying3 (by kernel_rfl) (hval 0 22 v0 rfl rfl) h0
  clear hA0 hval0
  refine (StatBounds_walk W v0 l0 hl0 hi0).mono fun e W' ⟨he, bel⟩ => ?_
  subst he
  exact ⟨_, rfl, _, _, _, [], _, [], hW', trodAll_mk1 (shut_bool Try.underlying4 _), (trodAll_cons_mk (bel.trod lawy_laid (by kernel_rfl) (of_decide_eq_true (by kernel_rfl)) h0 lt0) trodAll_mk0), rfl, bel.frame _, fun h => by cases h⟩
theorem StatBounds_holds : Rows.StatBoundsSaid :=
  OpenClaim.holds_of_wide 10 Try.f10 rfl rfl rfl rfl rfl rfl rfl ⟨rfl, rfl, rfl, rfl, rfl⟩ rfl rfl rfl rfl rfl (by kernel_rfl) Try.func10 (by kernel_rfl)
    (of_decide_eq_true (by kernel_rfl)) (by unfold Func.isWrapper; first | (rw [if_pos (by decide +kernel)]; kernel_rfl) | (rw [if_neg (by decide +kernel)]; exact ⟨rfl, rfl⟩))
    (fun os started H enc _ => StatBounds_lifted os started H enc)
end Go.Proofs.Ytmkocdcflnnkjaa
