/- hwkeep.BeatOne returns true for every string. No condition. -/
import Derived.Test.YtmacgmngbmaadaaDoorYB6
import Derived.Test.YtmacgmngbmaadaaDoorCYBeatOne
namespace Go.Proofs.YtmacgmngbmaadaaDoor
open Go.ChangeShapes Go.WideShapes Go.ChangeAt Go.RowKit Go.Joins Y
set_option linter.unusedSimpArgs false
set_option linter.unusedVariables false
set_option maxRecDepth 100000
set_option maxHeartbeats 40000000
def gL : List (Nat × Say) := [(24, begunS), (14, decS), (13, encS)]
theorem gL_ok : GamOk Tryd.prog (gamY gL) := gam_ok (gam_cons begun_ok (gam_cons dec_ok (gam_cons enc_ok gam_nil)))
theorem BeatOne_vc (s : List UInt8) (hs : s.length ≤ 140737488351232) : vcFun (gamY gL) y8 [.str s] none fun v o => v = .bool true := by
  have c1 : s.length ≤ 140737488355328 := by omega
  by_cases h : decE s = 0
  · obtain ⟨h1, h2, h3⟩ := decE_0.1 h
    have r1 : dId s = idD s := if_pos h
    have r2 : dInc s = (incD s : Int) := if_pos h
    have r3 : dSeq s = (seqD s : Int) := if_pos h
    have hS : encL (idD s) (incD s : Int) (seqD s : Int) = s := by rw [encL, if_pos h3, Int.toNat_natCast, Int.toNat_natCast]; exact code_dec h
    have c2 : (idD s).length ≤ 140737488355328 := by simp [idD, bodyD]; omega
    generalize idD s = i at *
    generalize (incD s : Int) = a at *
    generalize (seqD s : Int) = b at *
    simp (config := { maxSteps := 9000000 }) only [↓e_fun, ↓e_skip, ↓e_reg, ↓e_frz0, ↓e_frz1, ↓e_seq, ↓e_cond, ↓e_block, ↓e_exit, ↓e_ret, ↓e_loop, f_nil, f_cons, n_nil, n_cons, f_agg, f_int, f_bool, f_str, f_nilv, f_sl, f_ptr, f_gp, g_gp, f_fz, f_clo, f_tup, f_elem, f_unk, f_rw, f_nrw, f_srw, g_nil, g_cons, g_int, g_bool, g_str, g_nilv, g_sl, g_ptr, g_fz, g_clo, g_unk, g_rw, g_nrw, g_srw, c_var, c_row, c_frow, r_sl, r_rw, r_nn, inj_bool, inj_str, inj_ints, inj_bools, inj_row, inj_sl, inj_int, ↓e_nil, ↓e_op, ↓e_opg, ↓o_mov, ↓o_pick, ↓o_bin, ↓o_eqb, ↓o_eqs, ↓o_bins, binS, ↓o_neg, ↓o_xor, ↓o_not, ↓o_conv, ↓o_faddr, ↓o_fld, ↓o_ext, ↓o_mx, b_max, b_min, ↓o_mx3, b_max3, b_min3, ↓o_build, ↓o_box, ↓o_alloc, ↓o_load, ↓o_len, ↓o_lenS, ↓o_idx, ↓o_lit, ↓o_litf, SV.go1, SV.go0, ↓o_mk, ↓o_app, ↓o_sub, ↓o_ssub, ↓o_sidx, ↓o_aidx, ↓o_aptr, ↓o_mkf, ↓o_nilrow, ↓o_isnil, ↓o_bad, ↓a_slr, ↓a_sls, ↓a_sln, ↓a_nil, appR_some, k_none, k_val, k_new, k_set, l_nil, l_cons, mkRow, intsOf, boolsOf, strsOf, chunks, Row.rep, Row.cat, Row.sub, Row.put, Row.len, Row.get, Row.size, Row.flat, bnds, own0, own1, labsL, labsR, SV.labs, ↓o_store, ↓o_call, ↓o_callv, ↓o_callw, ↓o_apps, m_apps, ↓o_tob, ↓o_tos, t_nil, t_rw, t_sl, ↓o_calla, m_calla, ap_some, w_some, k_ble, c_none, c_some, v_some, argsOf, b_add, b_sub, b_mul, b_quo, b_rem, b_and, b_or, b_xor, b_andNot, b_eql, b_neq, b_lss, b_leq, b_gtr, b_geq, b_shl, b_shr, entFr, SO.ev, fr_put, put_none, mem_put', fr_setm, mem_setm, setM_at, fr_fl, mem_fl, memOf_at, St.of, keepSt, getAll, lookN, hasN, SV.cells, SV.one, SV.res1, SV.res0, SV.resP, SV.ok1, SV.ok0, SV.okN, SV.solid, SV.solid1, SV.solid0, SV.flat0, SV.nm, SV.nm1, SV.nm0, SV.noPtr1, SV.noPtr0, Cel.isFresh, fillP, setAt, partV, eqCells, cellEq, gamY, listsOk, tupOf, takeOwn, SV.ret1, ret_fl, resAll, resL, resV, List.map_cons, List.map_nil, List.flatMap_cons, List.flatMap_nil, List.append_nil, List.nil_append, List.cons_append, List.all_cons, List.all_nil, List.isEmpty_nil, List.isEmpty_cons, Option.map_some, Option.map_none, Option.getD_some, Option.getD_none, Option.isSome_some, Option.isSome_none, Option.isNone_none, Option.isNone_some, Option.toList_none, Option.toList_some, Nat.reduceEqDiff, ↓reduceIte, Nat.reduceAdd, Nat.reduceMul, List.length_cons, List.length_nil, Nat.reduceLeDiff, Nat.reduceLT, List.replicate_zero, List.replicate_succ, List.flatten_nil, List.flatten_cons, List.set_cons_zero, List.set_cons_succ, List.drop_zero, List.drop_succ_cons, List.take_succ_cons, List.take_zero, List.getElem?_cons_zero, List.getElem?_cons_succ, Bool.and_true, Bool.and_false, Bool.false_and, Bool.true_and, Bool.or_false, Bool.or_true, Bool.true_or, Bool.false_or, Bool.not_true, Bool.not_false, Bool.and_self, true_and, and_true, Bool.false_eq_true, reduceCtorEq, labOk, Int.reduceBEq, Int.reduceBNe, Int.reduceToNat, Int.reduceLE, Int.reduceLT, Int.reduceEq, Nat.reduceDiv, Nat.reduceMod, Nat.reduceSub, BEq.rfl, beq_self_eq_true, bne_self_eq_false, decide_true, decide_false, Int.natCast_zero, Int.natCast_one, Int.cast_ofNat_Int, decide_eq_true_eq, decide_eq_false_iff_not, and_self, Nat.reduceBEq, Int.natCast_add, List.length_append, y8, gL, begunS, decS, encS, c1, h, r1, r2, r3, h3, hS, c2]
  · have r1 : dId s = [] := if_neg h
    have r2 : dInc s = 0 := if_neg h
    have r3 : dSeq s = 0 := if_neg h
    have t1 : (decE s != 0) = true := by simpa using h
    simp (config := { maxSteps := 9000000 }) only [↓e_fun, ↓e_skip, ↓e_reg, ↓e_frz0, ↓e_frz1, ↓e_seq, ↓e_cond, ↓e_block, ↓e_exit, ↓e_ret, ↓e_loop, f_nil, f_cons, n_nil, n_cons, f_agg, f_int, f_bool, f_str, f_nilv, f_sl, f_ptr, f_gp, g_gp, f_fz, f_clo, f_tup, f_elem, f_unk, f_rw, f_nrw, f_srw, g_nil, g_cons, g_int, g_bool, g_str, g_nilv, g_sl, g_ptr, g_fz, g_clo, g_unk, g_rw, g_nrw, g_srw, c_var, c_row, c_frow, r_sl, r_rw, r_nn, inj_bool, inj_str, inj_ints, inj_bools, inj_row, inj_sl, inj_int, ↓e_nil, ↓e_op, ↓e_opg, ↓o_mov, ↓o_pick, ↓o_bin, ↓o_eqb, ↓o_eqs, ↓o_bins, binS, ↓o_neg, ↓o_xor, ↓o_not, ↓o_conv, ↓o_faddr, ↓o_fld, ↓o_ext, ↓o_mx, b_max, b_min, ↓o_mx3, b_max3, b_min3, ↓o_build, ↓o_box, ↓o_alloc, ↓o_load, ↓o_len, ↓o_lenS, ↓o_idx, ↓o_lit, ↓o_litf, SV.go1, SV.go0, ↓o_mk, ↓o_app, ↓o_sub, ↓o_ssub, ↓o_sidx, ↓o_aidx, ↓o_aptr, ↓o_mkf, ↓o_nilrow, ↓o_isnil, ↓o_bad, ↓a_slr, ↓a_sls, ↓a_sln, ↓a_nil, appR_some, k_none, k_val, k_new, k_set, l_nil, l_cons, mkRow, intsOf, boolsOf, strsOf, chunks, Row.rep, Row.cat, Row.sub, Row.put, Row.len, Row.get, Row.size, Row.flat, bnds, own0, own1, labsL, labsR, SV.labs, ↓o_store, ↓o_call, ↓o_callv, ↓o_callw, ↓o_apps, m_apps, ↓o_tob, ↓o_tos, t_nil, t_rw, t_sl, ↓o_calla, m_calla, ap_some, w_some, k_ble, c_none, c_some, v_some, argsOf, b_add, b_sub, b_mul, b_quo, b_rem, b_and, b_or, b_xor, b_andNot, b_eql, b_neq, b_lss, b_leq, b_gtr, b_geq, b_shl, b_shr, entFr, SO.ev, fr_put, put_none, mem_put', fr_setm, mem_setm, setM_at, fr_fl, mem_fl, memOf_at, St.of, keepSt, getAll, lookN, hasN, SV.cells, SV.one, SV.res1, SV.res0, SV.resP, SV.ok1, SV.ok0, SV.okN, SV.solid, SV.solid1, SV.solid0, SV.flat0, SV.nm, SV.nm1, SV.nm0, SV.noPtr1, SV.noPtr0, Cel.isFresh, fillP, setAt, partV, eqCells, cellEq, gamY, listsOk, tupOf, takeOwn, SV.ret1, ret_fl, resAll, resL, resV, List.map_cons, List.map_nil, List.flatMap_cons, List.flatMap_nil, List.append_nil, List.nil_append, List.cons_append, List.all_cons, List.all_nil, List.isEmpty_nil, List.isEmpty_cons, Option.map_some, Option.map_none, Option.getD_some, Option.getD_none, Option.isSome_some, Option.isSome_none, Option.isNone_none, Option.isNone_some, Option.toList_none, Option.toList_some, Nat.reduceEqDiff, ↓reduceIte, Nat.reduceAdd, Nat.reduceMul, List.length_cons, List.length_nil, Nat.reduceLeDiff, Nat.reduceLT, List.replicate_zero, List.replicate_succ, List.flatten_nil, List.flatten_cons, List.set_cons_zero, List.set_cons_succ, List.drop_zero, List.drop_succ_cons, List.take_succ_cons, List.take_zero, List.getElem?_cons_zero, List.getElem?_cons_succ, Bool.and_true, Bool.and_false, Bool.false_and, Bool.true_and, Bool.or_false, Bool.or_true, Bool.true_or, Bool.false_or, Bool.not_true, Bool.not_false, Bool.and_self, true_and, and_true, Bool.false_eq_true, reduceCtorEq, labOk, Int.reduceBEq, Int.reduceBNe, Int.reduceToNat, Int.reduceLE, Int.reduceLT, Int.reduceEq, Nat.reduceDiv, Nat.reduceMod, Nat.reduceSub, BEq.rfl, beq_self_eq_true, bne_self_eq_false, decide_true, decide_false, Int.natCast_zero, Int.natCast_one, Int.cast_ofNat_Int, decide_eq_true_eq, decide_eq_false_iff_not, and_self, Nat.reduceBEq, Int.natCast_add, List.length_append, y8, gL, begunS, decS, encS, c1, t1, r1, r2, r3]
theorem BeatOne_walk (W : World) (hG : GlbW W) (v0 : Value) (l0 : List UInt8) (b0 : l0.length ≤ 140737488351232) (i0 : Is (E0 W fun _ => False) (.str l0) v0) :
    Calls Tryd.prog 8 #[v0] W fun e w' => e = .returned (.bool true) ∧ Below W.heap.size W w' :=
  law_callY gL_ok lawy_mixed y8_eq (BeatOne_vc l0 b0) (Nat.le_of_ble_eq_true rfl) W hG [v0] (All.cons i0 All.nil)
set_option maxRecDepth 100000 in
theorem BeatOne_contract (H : Type) (enc : TypeId × Value → H) (W : World) (base : Nat) (args : Array Value) (ds gs : List (DataW H)) (before : List MemPlace)
    (hval : ∀ (j : Nat) t v, Tryd.f8.params[j]? = some t → args[j]? = some v → Value.okWide Tryd.prog W .any base t v)
    (hW : DataW.Whole enc Tryd.prog Tryd.f8.params.toList Rows.beatOneSpec.vars false W args.toList ds gs before)
    (hwt : (DataW.weightsEach Tryd.prog (Tryd.f8.params.toList ++ (OpenSpec.ofChange Rows.beatOneSpec).bare.plain.varTypes Tryd.prog) (ds ++ gs)).all (· ≤ reachBytes) = true) (hG : GlbW W) :
    Calls Tryd.prog 8 args W fun e W' => ∃ v, e = .returned v ∧ Rows.beatOneSpec.post enc Tryd.prog Tryd.f8 false true false false W args v W' := by
  have hW' := hW
  obtain ⟨p, q, hA0, hV, rfl, hfz, hnd⟩ := hW
  have hA : DataW.TrodAll enc Tryd.prog W 0 (fun _ => true) true Tryd.f8.params.toList args.toList ds p := hA0
  rw [Tryd.params8] at hA hval hwt
  obtain ⟨v0, vs0, d0, ds0, p0, q0, hargs, rfl, rfl, h0, r0⟩ := trodAll_cons hA
  obtain ⟨rfl, rfl, rfl⟩ := trodAll_nil r0
  obtain rfl : args = #[v0] := by cases args; simp_all
  obtain ⟨rfl, rfl⟩ := trodVars_none hV
  have lt0 := places_lt h0
  obtain ⟨l0, hl0, hi0⟩ := open_str Tryd.underlying9 (hval 0 9 v0 rfl rfl) h0 (weights_at 0 hwt rfl rfl)
  clear hA0 hval hwt
  refine (BeatOne_walk W hG v0 l0 hl0 hi0).mono fun e W' ⟨he, bel⟩ => ?_
  subst he
  exact ⟨_, rfl, _, _, _, [], _, [], hW', trodAll_mk1 (shut_bool Tryd.underlying4 _), (trodAll_cons_mk (bel.trod lawy_laid (by kernel_rfl) (of_decide_eq_true (by kernel_rfl)) h0 lt0) trodAll_mk0), rfl, bel.frame _, fun h => by cases h⟩
noncomputable def BeatOne_world (os : Os) : World :=
  { World.holding Tryd.prog os ⟨#[], #[], []⟩ with heap := (World.holding Tryd.prog os ⟨#[], #[], []⟩).heap.modify 0 fun | .cells _ t frozen => .cells #[.int .u32 0, .int .u32 498536548, .int .u32 997073096, .int .u32 651767980, .int .u32 1994146192, .int .u32 1802195444, .int .u32 1303535960, .int .u32 1342533948, .int .u32 3988292384, .int .u32 4027552580, .int .u32 3604390888, .int .u32 3412177804, .int .u32 2607071920, .int .u32 2262029012, .int .u32 2685067896, .int .u32 3183342108] t frozen | o => o }
theorem BeatOne_met (os : Os) : laidMet Tryd.prog Rows.beatOneRow.laid ((BeatOne_world os).forCall (fun _ _ => 0) ⟨#[], #[.string "".toUTF8], []⟩).memory :=
  laidMet_of_run' 8 (by kernel_rfl) (by kernel_rfl)
theorem BeatOne_reads (os : Os) {H : Type} (enc : TypeId × Value → H) : ∃ places, DataW.whole enc Tryd.prog ((BeatOne_world os).forCall (fun _ _ => 0) ⟨#[], #[.string "".toUTF8], []⟩).memory Tryd.f8.params.toList Rows.beatOneSpec.vars false (#[.string "".toUTF8] : Array Value).toList 8 = some ([.lit (.string [])], [], places) :=
  ⟨[], by kernel_rfl⟩
set_option maxRecDepth 100000 in
theorem BeatOne_lifted (os : Os) (started : os.Started) (H : Type) (enc : TypeId × Value → H) (F : Stop.Interp) :
    ReturnsInHanded {} Tryd.checked os 8 .any ((OpenSpec.ofChange Rows.beatOneSpec).preRow enc Tryd.prog Tryd.f8 Rows.beatOneRow.domain false Rows.beatOneRow.laid) (((OpenSpec.ofChange Rows.beatOneSpec).at F).post enc Tryd.prog Tryd.f8 false true false false) := by
  obtain ⟨places, hx⟩ := BeatOne_reads os enc
  refine returnsInHanded_of_row (C := Tryd.checked) (s := OpenSpec.ofChange Rows.beatOneSpec) lawy_own started (by kernel_rfl) Tryd.func8
    (witness_row_at (enc := enc) (C := Tryd.checked) false (BeatOne_world os) #[.string "".toUTF8] rfl (by kernel_rfl) (by kernel_rfl) (by kernel_rfl)
      (OpenSpec.preRow_of_cond 8 hx (by kernel_rfl) (fun k hk => by cases hk) (by kernel_rfl) (BeatOne_met os))) ?_
  intro W base args ds gs before hval hW _ _ hwt hL _ _
  exact BeatOne_contract H enc W base args ds gs before hval hW hwt (lawy_glb hL)
theorem BeatOne_said : Rows.BeatOneSaid :=
  OpenClaim.holds_of_cond 8 Tryd.f8 rfl rfl rfl rfl rfl rfl rfl ⟨rfl, rfl, rfl, rfl, rfl⟩ rfl rfl rfl rfl rfl (by kernel_rfl) Tryd.func8 (by kernel_rfl)
    (of_decide_eq_true (by kernel_rfl)) (by unfold Func.isWrapper; first | (rw [if_pos (by decide +kernel)]; kernel_rfl) | (rw [if_neg (by decide +kernel)]; exact ⟨rfl, rfl⟩))
    (fun os started H enc _ F => by rw [OpenClaim.pre_eq_preRow]; exact BeatOne_lifted os started H enc F)
theorem BeatOne_plain (f : FuncId) (fn : Func) (hf : Tryd.pinned.checked.prog.funcNamed "heartwood/hwkeep.BeatOne" = some f) (hfn : Tryd.pinned.checked.prog.funcs[f]? = some fn) :
    false = Tryd.pinned.checked.prog.looks [] ∧ ∀ (j : Nat) t, fn.params[j]? = some t → Tryd.pinned.checked.prog.wantsStandIn t = false := by
  obtain rfl : f = 8 := Option.some.inj ((show Tryd.prog.funcNamed "heartwood/hwkeep.BeatOne" = some 8 by kernel_rfl).symm.trans hf) |>.symm
  obtain rfl : fn = Tryd.f8 := (Option.some.inj (Tryd.func8.symm.trans hfn)).symm
  refine ⟨by kernel_rfl, fun j t ht => ?_⟩
  rw [Tryd.params8] at ht
  have hm : t ∈ [9] := by simpa using Array.mem_of_getElem? ht
  simp only [List.mem_cons, List.not_mem_nil, or_false] at hm
  rcases hm with rfl
  · exact (show Tryd.prog.wantsStandIn 9 = false by kernel_rfl)
theorem BeatOne_holds : Rows.BeatOneCardSaid :=
  Claim7.holds_tied_plain_at .later [] _ _ _ _ BeatOne_said (fun _ h => by cases h) (by kernel_rfl) (fun _ h => by cases h) beatOne_row_tie rfl ⟨rfl, rfl⟩ (by kernel_rfl) rfl BeatOne_plain (by kernel_rfl)
end Go.Proofs.YtmacgmngbmaadaaDoor
