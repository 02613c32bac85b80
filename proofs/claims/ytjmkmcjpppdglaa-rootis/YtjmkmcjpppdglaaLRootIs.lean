/- hwkeep.RootIs returns true for every two numbers of 128 bits and every number of 64 bits. No condition. -/
import Derived.Test.YtjmkmcjpppdglaaR1
import Derived.Test.YtjmkmcjpppdglaaCRootIs
namespace Go.Proofs.Ytjmkmcjpppdglaa
open Go.ChangeShapes Go.WideShapes Go.ChangeAt Go.RowKit Go.Joins Sx
set_option linter.unusedSimpArgs false
set_option linter.unusedVariables false
set_option maxRecDepth 100000
set_option maxHeartbeats 4000000
theorem RootIs_vc (a b n : Nat) (ha : Fits a) (hb : Fits b) (hn : Word n) : vcFun (gamOf gr) c4 [wd a, wd b, .int .u64 n] (fun v => v = .bool true) := by
  have k1 : rootN 99 = 9 := rootN_unique (by rw [fits_lt]; omega) (by omega) (by omega)
  have k2 : rootN 100 = 10 := rootN_unique (by rw [fits_lt]; omega) (by omega) (by omega)
  have k3 : Fits 99 := by rw [fits_lt]; omega
  have k4 : Fits 100 := by rw [fits_lt]; omega
  obtain ⟨a1, a2, a3⟩ := rootN_spec ha
  obtain ⟨b1, b2, b3⟩ := rootN_spec hb
  have fn : Fits (n * n) := by
    unfold Word at hn
    rw [fits_lt]
    have : n * n ≤ 18446744073709551615 * 18446744073709551615 := Nat.mul_le_mul (by omega) (by omega)
    omega
  have k5 : rootN (n * n) = n := rootN_unique fn (Nat.le_refl _) (Nat.mul_lt_mul'' (by omega) (by omega))
  have hmono : a ≤ b → rootN a ≤ rootN b := fun h => Nat.le_of_lt_succ (Nat.lt_of_not_le fun hh => by
    have : (rootN b + 1) * (rootN b + 1) ≤ rootN a * rootN a := Nat.mul_le_mul hh hh
    omega)
  obtain ⟨R, hR⟩ : ∃ R, rootN a = R := ⟨_, rfl⟩
  obtain ⟨S, hS⟩ : ∃ S, rootN b = S := ⟨_, rfl⟩
  rw [hR] at a1 a2 a3 hmono
  rw [hS] at b1 b2 b3 hmono
  have fR : Fits (R * R) := fits_lt.2 (Nat.lt_of_le_of_lt a1 (fits_lt.1 ha))
  have g1 : ¬ a < R * R := by omega
  have hlast : ∀ p : Prop, (¬ b < a → R ≤ S → p) → (b < a → p) → p := fun p h1 h2 => by
    by_cases h : b < a
    · exact h2 h
    · exact h1 h (hmono (by omega))
  by_cases hr : (R : Int) < 18446744073709551615
  · have w1 : IntKind.u64.wrap ((R : Int) + 1) = ((R + 1 : Nat) : Int) := by rw [IntKind.wrap_u64]; omega
    have wR1 : Word (R + 1) := by unfold Word; omega
    have fR1 : Fits ((R + 1) * (R + 1)) := by
      rw [fits_lt]
      have : (R + 1) * (R + 1) ≤ 18446744073709551615 * 18446744073709551615 := Nat.mul_le_mul (by omega) (by omega)
      omega
    have g2 : ¬ (R + 1) * (R + 1) ≤ a := by omega
    refine hlast _ (fun c1 c2 => ?_) (fun c1 => ?_)
    · have c2' : (R : Int) ≤ (S : Int) := by omega
      simp (config := { maxSteps := 9000000 }) only [↓e_fun, ↓e_skip, ↓e_reg, ↓e_seq, ↓e_cond, ↓e_block, ↓e_exit, ↓e_ret, ↓e_loop, frIn, memIn, int_inj, ↓e_nil, ↓e_op, ↓e_opg, ↓o_mov, ↓o_pick, ↓o_bin, ↓o_eqb, ↓o_eqs, ↓o_neg, ↓o_not, ↓o_conv, ↓o_faddr, ↓o_fld, ↓o_ext, ↓o_build, ↓o_box, ↓o_alloc, ↓o_load, ↓o_store, ↓o_call, v_some, argsOf, b_add, b_sub, b_mul, b_quo, b_rem, b_and, b_or, b_xor, b_andNot, b_eql, b_neq, b_lss, b_leq, b_gtr, b_geq, b_shl, b_shr, wd, entFr, SO.ev, fr_put, put_none, mem_put', fr_setm, mem_setm, setM_at, fr_fl, mem_fl, memOf_at, St.of, keepSt, getAll, lookN, SV.cells, SV.one, SV.res1, SV.res0, SV.arg1, SV.arg0, Cel.isFresh, fillP, setAt, partV, eqCells, cellEq, gamOf, wN_hl, OkW_hl, eq_hl, eq_h0, List.map_cons, List.map_nil, List.all_cons, List.all_nil, Option.map_some, Option.map_none, Option.getD_some, Option.getD_none, Nat.reduceEqDiff, ↓reduceIte, Nat.reduceAdd, Nat.reduceMul, List.length_cons, List.length_nil, Nat.reduceLeDiff, List.set_cons_zero, List.set_cons_succ, List.drop_zero, List.drop_succ_cons, List.take_succ_cons, List.take_zero, List.getElem?_cons_zero, List.getElem?_cons_succ, Bool.and_true, Bool.not_true, Bool.not_false, Bool.and_self, bool_inj, true_and, and_true, Bool.false_eq_true, reduceCtorEq, labOk, wN_0, OkW_0, Int.reduceBEq, Int.reduceBNe, Int.reduceToNat, Int.reduceLE, Int.reduceLT, Int.reduceEq, Nat.reduceDiv, Nat.reduceMod, Nat.reduceSub, BEq.rfl, beq_self_eq_true, bne_self_eq_false, decide_true, decide_false, Int.natCast_zero, Int.natCast_one, Int.cast_ofNat_Int, decide_eq_true_eq, decide_eq_false_iff_not, and_self, Nat.reduceBEq, vcRet, resAll, resL, resV, c4, gr, ga, rootF, numF, mulF, cmpF, ha, hb, hn, k1, k2, k3, k4, k5, hR, hS, a3, b3, fR, fn, g1, hr, w1, wR1, fR1, g2, c1, c2', cmpN_gt0, cmpN_le0, Int.toNat_natCast]
    · simp (config := { maxSteps := 9000000 }) only [↓e_fun, ↓e_skip, ↓e_reg, ↓e_seq, ↓e_cond, ↓e_block, ↓e_exit, ↓e_ret, ↓e_loop, frIn, memIn, int_inj, ↓e_nil, ↓e_op, ↓e_opg, ↓o_mov, ↓o_pick, ↓o_bin, ↓o_eqb, ↓o_eqs, ↓o_neg, ↓o_not, ↓o_conv, ↓o_faddr, ↓o_fld, ↓o_ext, ↓o_build, ↓o_box, ↓o_alloc, ↓o_load, ↓o_store, ↓o_call, v_some, argsOf, b_add, b_sub, b_mul, b_quo, b_rem, b_and, b_or, b_xor, b_andNot, b_eql, b_neq, b_lss, b_leq, b_gtr, b_geq, b_shl, b_shr, wd, entFr, SO.ev, fr_put, put_none, mem_put', fr_setm, mem_setm, setM_at, fr_fl, mem_fl, memOf_at, St.of, keepSt, getAll, lookN, SV.cells, SV.one, SV.res1, SV.res0, SV.arg1, SV.arg0, Cel.isFresh, fillP, setAt, partV, eqCells, cellEq, gamOf, wN_hl, OkW_hl, eq_hl, eq_h0, List.map_cons, List.map_nil, List.all_cons, List.all_nil, Option.map_some, Option.map_none, Option.getD_some, Option.getD_none, Nat.reduceEqDiff, ↓reduceIte, Nat.reduceAdd, Nat.reduceMul, List.length_cons, List.length_nil, Nat.reduceLeDiff, List.set_cons_zero, List.set_cons_succ, List.drop_zero, List.drop_succ_cons, List.take_succ_cons, List.take_zero, List.getElem?_cons_zero, List.getElem?_cons_succ, Bool.and_true, Bool.not_true, Bool.not_false, Bool.and_self, bool_inj, true_and, and_true, Bool.false_eq_true, reduceCtorEq, labOk, wN_0, OkW_0, Int.reduceBEq, Int.reduceBNe, Int.reduceToNat, Int.reduceLE, Int.reduceLT, Int.reduceEq, Nat.reduceDiv, Nat.reduceMod, Nat.reduceSub, BEq.rfl, beq_self_eq_true, bne_self_eq_false, decide_true, decide_false, Int.natCast_zero, Int.natCast_one, Int.cast_ofNat_Int, decide_eq_true_eq, decide_eq_false_iff_not, and_self, Nat.reduceBEq, vcRet, resAll, resL, resV, c4, gr, ga, rootF, numF, mulF, cmpF, ha, hb, hn, k1, k2, k3, k4, k5, hR, hS, a3, b3, fR, fn, g1, hr, w1, wR1, fR1, g2, c1, cmpN_gt0, cmpN_le0, Int.toNat_natCast]
  · refine hlast _ (fun c1 c2 => ?_) (fun c1 => ?_)
    · have c2' : (R : Int) ≤ (S : Int) := by omega
      simp (config := { maxSteps := 9000000 }) only [↓e_fun, ↓e_skip, ↓e_reg, ↓e_seq, ↓e_cond, ↓e_block, ↓e_exit, ↓e_ret, ↓e_loop, frIn, memIn, int_inj, ↓e_nil, ↓e_op, ↓e_opg, ↓o_mov, ↓o_pick, ↓o_bin, ↓o_eqb, ↓o_eqs, ↓o_neg, ↓o_not, ↓o_conv, ↓o_faddr, ↓o_fld, ↓o_ext, ↓o_build, ↓o_box, ↓o_alloc, ↓o_load, ↓o_store, ↓o_call, v_some, argsOf, b_add, b_sub, b_mul, b_quo, b_rem, b_and, b_or, b_xor, b_andNot, b_eql, b_neq, b_lss, b_leq, b_gtr, b_geq, b_shl, b_shr, wd, entFr, SO.ev, fr_put, put_none, mem_put', fr_setm, mem_setm, setM_at, fr_fl, mem_fl, memOf_at, St.of, keepSt, getAll, lookN, SV.cells, SV.one, SV.res1, SV.res0, SV.arg1, SV.arg0, Cel.isFresh, fillP, setAt, partV, eqCells, cellEq, gamOf, wN_hl, OkW_hl, eq_hl, eq_h0, List.map_cons, List.map_nil, List.all_cons, List.all_nil, Option.map_some, Option.map_none, Option.getD_some, Option.getD_none, Nat.reduceEqDiff, ↓reduceIte, Nat.reduceAdd, Nat.reduceMul, List.length_cons, List.length_nil, Nat.reduceLeDiff, List.set_cons_zero, List.set_cons_succ, List.drop_zero, List.drop_succ_cons, List.take_succ_cons, List.take_zero, List.getElem?_cons_zero, List.getElem?_cons_succ, Bool.and_true, Bool.not_true, Bool.not_false, Bool.and_self, bool_inj, true_and, and_true, Bool.false_eq_true, reduceCtorEq, labOk, wN_0, OkW_0, Int.reduceBEq, Int.reduceBNe, Int.reduceToNat, Int.reduceLE, Int.reduceLT, Int.reduceEq, Nat.reduceDiv, Nat.reduceMod, Nat.reduceSub, BEq.rfl, beq_self_eq_true, bne_self_eq_false, decide_true, decide_false, Int.natCast_zero, Int.natCast_one, Int.cast_ofNat_Int, decide_eq_true_eq, decide_eq_false_iff_not, and_self, Nat.reduceBEq, vcRet, resAll, resL, resV, c4, gr, ga, rootF, numF, mulF, cmpF, ha, hb, hn, k1, k2, k3, k4, k5, hR, hS, a3, b3, fR, fn, g1, hr, c1, c2', cmpN_gt0, cmpN_le0, Int.toNat_natCast]
    · simp (config := { maxSteps := 9000000 }) only [↓e_fun, ↓e_skip, ↓e_reg, ↓e_seq, ↓e_cond, ↓e_block, ↓e_exit, ↓e_ret, ↓e_loop, frIn, memIn, int_inj, ↓e_nil, ↓e_op, ↓e_opg, ↓o_mov, ↓o_pick, ↓o_bin, ↓o_eqb, ↓o_eqs, ↓o_neg, ↓o_not, ↓o_conv, ↓o_faddr, ↓o_fld, ↓o_ext, ↓o_build, ↓o_box, ↓o_alloc, ↓o_load, ↓o_store, ↓o_call, v_some, argsOf, b_add, b_sub, b_mul, b_quo, b_rem, b_and, b_or, b_xor, b_andNot, b_eql, b_neq, b_lss, b_leq, b_gtr, b_geq, b_shl, b_shr, wd, entFr, SO.ev, fr_put, put_none, mem_put', fr_setm, mem_setm, setM_at, fr_fl, mem_fl, memOf_at, St.of, keepSt, getAll, lookN, SV.cells, SV.one, SV.res1, SV.res0, SV.arg1, SV.arg0, Cel.isFresh, fillP, setAt, partV, eqCells, cellEq, gamOf, wN_hl, OkW_hl, eq_hl, eq_h0, List.map_cons, List.map_nil, List.all_cons, List.all_nil, Option.map_some, Option.map_none, Option.getD_some, Option.getD_none, Nat.reduceEqDiff, ↓reduceIte, Nat.reduceAdd, Nat.reduceMul, List.length_cons, List.length_nil, Nat.reduceLeDiff, List.set_cons_zero, List.set_cons_succ, List.drop_zero, List.drop_succ_cons, List.take_succ_cons, List.take_zero, List.getElem?_cons_zero, List.getElem?_cons_succ, Bool.and_true, Bool.not_true, Bool.not_false, Bool.and_self, bool_inj, true_and, and_true, Bool.false_eq_true, reduceCtorEq, labOk, wN_0, OkW_0, Int.reduceBEq, Int.reduceBNe, Int.reduceToNat, Int.reduceLE, Int.reduceLT, Int.reduceEq, Nat.reduceDiv, Nat.reduceMod, Nat.reduceSub, BEq.rfl, beq_self_eq_true, bne_self_eq_false, decide_true, decide_false, Int.natCast_zero, Int.natCast_one, Int.cast_ofNat_Int, decide_eq_true_eq, decide_eq_false_iff_not, and_self, Nat.reduceBEq, vcRet, resAll, resL, resV, c4, gr, ga, rootF, numF, mulF, cmpF, ha, hb, hn, k1, k2, k3, k4, k5, hR, hS, a3, b3, fR, fn, g1, hr, c1, cmpN_gt0, cmpN_le0, Int.toNat_natCast]
theorem RootIs_walk (x0 y0 : Int) (a : Nat) (ha : IsW a x0 y0) (x1 y1 : Int) (b : Nat) (hb : IsW b x1 y1) (n : Nat) (hn : Word n) (w : World) :
    Calls Try.prog 4 #[.agg #[.int .u64 x0, .int .u64 y0], .agg #[.int .u64 x1, .int .u64 y1], .int .u64 n] w fun e w' => e = .returned (.bool true) ∧ Below w.heap.size w w' := by
  obtain ⟨fa, rfl, rfl⟩ := ha
  obtain ⟨fb, rfl, rfl⟩ := hb
  exact law_call gr_ok law_mixed c4_eq (RootIs_vc a b n fa fb hn) rfl (Nat.le_of_ble_eq_true rfl) w [_, _, _] ⟨is1_wd w a, is1_wd w b, rfl, trivial⟩
set_option maxRecDepth 100000 in
theorem RootIs_lifted (os : Os) (started : os.Started) (H : Type) (enc : TypeId × Value → H) :
    ReturnsInHanded {} Try.checked os 4 .any (Rows.rootIsSpec.pre6 enc Try.prog Try.f4 Rows.rootIsRow.domain false) (Rows.rootIsSpec.post enc Try.prog Try.f4 false true false false) := by
  refine returnsInHanded_of_change (C := Try.checked) law_own started (by kernel_rfl) Try.func4
    (ChangeSpec.witness6 (enc := enc) (C := Try.checked) false ⟨#[], #[.agg #[.int .u64 0, .int .u64 0], .agg #[.int .u64 0, .int .u64 0], .int .u64 0], []⟩ 8 (by kernel_rfl) (by kernel_rfl) (by kernel_rfl) (by kernel_rfl)) ?_
  intro W base args ds gs before hval0 hW hcnd _
  have hval : ∀ (j : Nat) t v, Try.f4.params[j]? = some t → args[j]? = some v → Value.okWide Try.prog W .any base t v := hval0
  have hW' := hW
  obtain ⟨p, q, hA0, hV, rfl, hfz, hnd⟩ := hW
  have hA : DataW.TrodAll enc Try.prog W 0 (fun _ => true) true Try.f4.params.toList args.toList ds p := hA0
  rw [Try.params4] at hA hval
  obtain ⟨v0, vs0, d0, ds0, p0, q0, hargs, rfl, rfl, h0, r0⟩ := trodAll_cons hA
  obtain ⟨v1, vs1, d1, ds1, p1, q1, rfl, rfl, rfl, h1, r1⟩ := trodAll_cons r0
  obtain ⟨v2, vs2, d2, ds2, p2, q2, rfl, rfl, rfl, h2, r2⟩ := trodAll_cons r1
  obtain ⟨rfl, rfl, rfl⟩ := trodAll_nil r2
  obtain rfl : args = #[v0, v1, v2] := by cases args; simp_all
  obtain ⟨rfl, rfl⟩ := trodVars_none hV
  obtain ⟨c0, e0, y0, z0, m0, rfl, rfl, rfl, hy0, hz0⟩ := open_agg2 Try.underlying24 (by kernel_rfl) law_cells (hval 0 24 v0 rfl rfl) h0
  obtain ⟨x0, f0, rfl, wx0⟩ := DataW.trod_int Try.underlying22 hy0
  obtain ⟨t0, g0, rfl, wt0⟩ := DataW.trod_int Try.underlying22 hz0
  simp at f0 g0
  subst f0 g0
  obtain ⟨A0, hw0⟩ := isW_of wx0 wt0
  obtain ⟨c1, e1, y1, z1, m1, rfl, rfl, rfl, hy1, hz1⟩ := open_agg2 Try.underlying24 (by kernel_rfl) law_cells (hval 1 24 v1 rfl rfl) h1
  obtain ⟨x1, f1, rfl, wx1⟩ := DataW.trod_int Try.underlying22 hy1
  obtain ⟨t1, g1, rfl, wt1⟩ := DataW.trod_int Try.underlying22 hz1
  simp at f1 g1
  subst f1 g1
  obtain ⟨A1, hw1⟩ := isW_of wx1 wt1
  obtain ⟨n2, rfl, rfl, rfl, wn2⟩ := open_int Try.underlying22 (hval 2 22 v2 rfl rfl) h2
  obtain ⟨u2, rfl, hu2⟩ := word_of wn2
  clear hA0 hval0
  refine (RootIs_walk x0 t0 A0 hw0 x1 t1 A1 hw1 u2 hu2 W).mono fun e W' ⟨he, bel⟩ => ?_
  subst he
  exact ⟨_, rfl, _, _, _, [], _, [], hW', trodAll_mk1 (shut_bool Try.underlying4 _), (trodAll_cons_mk (wide_reads wx0 wt0) (trodAll_cons_mk (wide_reads wx1 wt1) (trodAll_cons_mk (shut_int Try.underlying22 wn2) trodAll_mk0))), rfl, bel.frame _, fun h => by cases h⟩
theorem RootIs_holds : Rows.RootIsSaid :=
  OpenClaim.holds_of_wide 4 Try.f4 rfl rfl rfl rfl rfl rfl rfl ⟨rfl, rfl, rfl, rfl, rfl⟩ rfl rfl rfl rfl rfl (by kernel_rfl) Try.func4 (by kernel_rfl)
    (of_decide_eq_true (by kernel_rfl)) (by unfold Func.isWrapper; first | (rw [if_pos (by decide +kernel)]; kernel_rfl) | (rw [if_neg (by decide +kernel)]; exact ⟨rfl, rfl⟩))
    (fun os started H enc _ => RootIs_lifted os started H enc)
end Go.Proofs.Ytjmkmcjpppdglaa
