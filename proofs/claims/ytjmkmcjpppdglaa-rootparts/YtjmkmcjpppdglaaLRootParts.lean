/- hwkeep.RootParts returns true for every two numbers of 64 bits. No condition. -/
import Derived.Test.YtjmkmcjpppdglaaR1
import Derived.Test.YtjmkmcjpppdglaaCRootParts
namespace Go.Proofs.Ytjmkmcjpppdglaa
open Go.ChangeShapes Go.WideShapes Go.ChangeAt Go.RowKit Go.Joins Sx
set_option linter.unusedSimpArgs false
set_option linter.unusedVariables false
set_option maxRecDepth 100000
set_option maxHeartbeats 4000000
theorem lt_of_sq {m n : Nat} (h : m * m < n * n) : m < n := Nat.lt_of_not_le fun hh => absurd (Nat.mul_le_mul hh hh) (by omega)
theorem RootParts_vc (a b : Nat) (ha : Word a) (hb : Word b) : vcFun (gamOf gr) c8 [.int .u64 a, .int .u64 b] (fun v => v = .bool true) := by
  have k1 : rootN 6 = 2 := rootN_unique (by rw [fits_lt]; omega) (by omega) (by omega)
  have k2 : rootN 24 = 4 := rootN_unique (by rw [fits_lt]; omega) (by omega) (by omega)
  have k3 : Fits 6 := by rw [fits_lt]; omega
  have k4 : Fits 24 := by rw [fits_lt]; omega
  have k5 : OkW 0 4 := OkW_lit _ _ (by omega)
  have ha' : a < 18446744073709551616 := by unfold Word at ha; exact ha
  have hb' : b < 18446744073709551616 := by unfold Word at hb; exact hb
  have fa : Fits a := fits_word ha
  have fb : Fits b := fits_word hb
  have hab : a * b ≤ 18446744073709551615 * 18446744073709551615 := Nat.mul_le_mul (by omega) (by omega)
  have fab : Fits (a * b) := by rw [fits_lt]; omega
  have hs : a + b < 340282366920938463463374607431768211456 := by omega
  have fs : Fits (a + b) := fits_lt.2 hs
  have s1 := addN_in hs
  have s2 : addE a b = 0 := if_pos hs
  have f4 : Fits (a * 4) := by rw [fits_lt]; omega
  obtain ⟨x1, x2, _⟩ := rootN_spec fa
  obtain ⟨y1, y2, _⟩ := rootN_spec fb
  obtain ⟨p1, p2, _⟩ := rootN_spec fab
  obtain ⟨z1, z2, _⟩ := rootN_spec fs
  obtain ⟨f1, f2, _⟩ := rootN_spec f4
  obtain ⟨x, hx⟩ : ∃ x, rootN a = x := ⟨_, rfl⟩
  obtain ⟨y, hy⟩ : ∃ y, rootN b = y := ⟨_, rfl⟩
  obtain ⟨p, hp⟩ : ∃ p, rootN (a * b) = p := ⟨_, rfl⟩
  obtain ⟨z, hz⟩ : ∃ z, rootN (a + b) = z := ⟨_, rfl⟩
  obtain ⟨f, hf⟩ : ∃ f, rootN (a * 4) = f := ⟨_, rfl⟩
  rw [hx] at x1 x2
  rw [hy] at y1 y2
  rw [hp] at p1 p2
  rw [hz] at z1 z2
  rw [hf] at f1 f2
  have lx : x < 4294967296 := lt_of_sq (by omega)
  have ly : y < 4294967296 := lt_of_sq (by omega)
  have hxy : x * y ≤ 4294967295 * 4294967295 := Nat.mul_le_mul (by omega) (by omega)
  have g1 : x * y ≤ p := by
    refine Nat.le_of_lt_succ (lt_of_sq (Nat.lt_of_le_of_lt ?_ p2))
    calc x * y * (x * y) = (x * x) * (y * y) := by rw [Nat.mul_mul_mul_comm]
      _ ≤ a * b := Nat.mul_le_mul x1 y1
  have g2 : z ≤ x + y + 1 := by
    refine Nat.le_of_lt_succ (lt_of_sq (Nat.lt_of_le_of_lt z1 ?_))
    rw [show (x + y + 1).succ = (x + 1) + (y + 1) by omega]
    generalize x + 1 = X at *
    generalize y + 1 = Y at *
    rw [Nat.add_mul, Nat.mul_add, Nat.mul_add]
    omega
  have g3 : x ≤ z := Nat.le_of_lt_succ (lt_of_sq (by show x * x < (z + 1) * (z + 1); omega))
  have g4 : y ≤ z := Nat.le_of_lt_succ (lt_of_sq (by show y * y < (z + 1) * (z + 1); omega))
  have g5 : 2 * x ≤ f := by
    refine Nat.le_of_lt_succ (lt_of_sq (Nat.lt_of_le_of_lt ?_ f2))
    rw [Nat.mul_mul_mul_comm]; omega
  have g6 : f ≤ 2 * x + 1 := by
    refine Nat.le_of_lt_succ (lt_of_sq (Nat.lt_of_le_of_lt f1 ?_))
    rw [show (2 * x + 1).succ = 2 * (x + 1) by omega, Nat.mul_mul_mul_comm]; omega
  have w1 : IntKind.u64.wrap ((x : Int) * (y : Int)) = ((x * y : Nat) : Int) := by rw [← Int.natCast_mul, IntKind.wrap_u64]; omega
  have w2 : IntKind.u64.wrap ((x : Int) + (y : Int)) = ((x + y : Nat) : Int) := by rw [IntKind.wrap_u64]; omega
  have w3 : IntKind.u64.wrap (((x + y : Nat) : Int) + 1) = ((x + y + 1 : Nat) : Int) := by rw [IntKind.wrap_u64]; omega
  have w4 : IntKind.u64.wrap (2 * (x : Int)) = ((2 * x : Nat) : Int) := by rw [IntKind.wrap_u64]; omega
  have w5 : IntKind.u64.wrap (((2 * x : Nat) : Int) + 1) = ((2 * x + 1 : Nat) : Int) := by rw [IntKind.wrap_u64]; omega
  have h1 : ((x * y : Nat) : Int) ≤ (p : Int) := by omega
  have h2 : (z : Int) ≤ ((x + y + 1 : Nat) : Int) := by omega
  have h3 : (if (y : Int) > (x : Int) then (y : Int) else (x : Int)) ≤ (z : Int) := by split <;> omega
  have h4 : f = 2 * x ∨ f = 2 * x + 1 := by omega
  clear x1 x2 y1 y2 p1 p2 z1 z2 f1 f2 g1 g2 g3 g4 g5 g6 hxy hab hs lx ly ha' hb'
  generalize x * y = XY at *
  generalize x + y + 1 = S1 at *
  generalize x + y = S0 at *
  generalize 2 * x + 1 = D1 at *
  generalize 2 * x = D0 at *
  rcases h4 with h4 | h4
  · have e1 : (((f : Nat) : Int) == ((D0 : Nat) : Int)) = true := by simp [h4]
    simp (config := { maxSteps := 9000000 }) only [↓e_fun, ↓e_skip, ↓e_reg, ↓e_seq, ↓e_cond, ↓e_block, ↓e_exit, ↓e_ret, ↓e_loop, frIn, memIn, int_inj, ↓e_nil, ↓e_op, ↓e_opg, ↓o_mov, ↓o_pick, ↓o_bin, ↓o_eqb, ↓o_eqs, ↓o_neg, ↓o_not, ↓o_conv, ↓o_faddr, ↓o_fld, ↓o_ext, ↓o_mx, b_max, b_min, ↓o_build, ↓o_box, ↓o_alloc, ↓o_load, ↓o_store, ↓o_call, v_some, argsOf, b_add, b_sub, b_mul, b_quo, b_rem, b_and, b_or, b_xor, b_andNot, b_eql, b_neq, b_lss, b_leq, b_gtr, b_geq, b_shl, b_shr, wd, entFr, SO.ev, fr_put, put_none, mem_put', fr_setm, mem_setm, setM_at, fr_fl, mem_fl, memOf_at, St.of, keepSt, getAll, lookN, SV.cells, SV.one, SV.res1, SV.res0, SV.arg1, SV.arg0, Cel.isFresh, fillP, setAt, partV, eqCells, cellEq, gamOf, wN_hl, OkW_hl, eq_hl, eq_h0, List.map_cons, List.map_nil, List.all_cons, List.all_nil, Option.map_some, Option.map_none, Option.getD_some, Option.getD_none, Nat.reduceEqDiff, ↓reduceIte, Nat.reduceAdd, Nat.reduceMul, List.length_cons, List.length_nil, Nat.reduceLeDiff, List.set_cons_zero, List.set_cons_succ, List.drop_zero, List.drop_succ_cons, List.take_succ_cons, List.take_zero, List.getElem?_cons_zero, List.getElem?_cons_succ, Bool.and_true, Bool.not_true, Bool.not_false, Bool.and_self, bool_inj, true_and, and_true, Bool.false_eq_true, reduceCtorEq, labOk, wN_0, OkW_0, Int.reduceBEq, Int.reduceBNe, Int.reduceToNat, Int.reduceLE, Int.reduceLT, Int.reduceEq, Nat.reduceDiv, Nat.reduceMod, Nat.reduceSub, BEq.rfl, beq_self_eq_true, bne_self_eq_false, decide_true, decide_false, Int.natCast_zero, Int.natCast_one, Int.cast_ofNat_Int, decide_eq_true_eq, decide_eq_false_iff_not, and_self, Nat.reduceBEq, vcRet, resAll, resL, resV, c8, gr, ga, rootF, numF, mulF, addF, k1, k2, k3, k4, k5, ha, hb, fa, fb, fab, fs, s1, s2, f4, hx, hy, hp, hz, hf, w1, w2, w3, w4, w5, h1, h2, h3, e1, Int.toNat_natCast]
  · by_cases h5 : f = D0
    · have e1 : (((f : Nat) : Int) == ((D0 : Nat) : Int)) = true := by simp [h5]
      simp (config := { maxSteps := 9000000 }) only [↓e_fun, ↓e_skip, ↓e_reg, ↓e_seq, ↓e_cond, ↓e_block, ↓e_exit, ↓e_ret, ↓e_loop, frIn, memIn, int_inj, ↓e_nil, ↓e_op, ↓e_opg, ↓o_mov, ↓o_pick, ↓o_bin, ↓o_eqb, ↓o_eqs, ↓o_neg, ↓o_not, ↓o_conv, ↓o_faddr, ↓o_fld, ↓o_ext, ↓o_mx, b_max, b_min, ↓o_build, ↓o_box, ↓o_alloc, ↓o_load, ↓o_store, ↓o_call, v_some, argsOf, b_add, b_sub, b_mul, b_quo, b_rem, b_and, b_or, b_xor, b_andNot, b_eql, b_neq, b_lss, b_leq, b_gtr, b_geq, b_shl, b_shr, wd, entFr, SO.ev, fr_put, put_none, mem_put', fr_setm, mem_setm, setM_at, fr_fl, mem_fl, memOf_at, St.of, keepSt, getAll, lookN, SV.cells, SV.one, SV.res1, SV.res0, SV.arg1, SV.arg0, Cel.isFresh, fillP, setAt, partV, eqCells, cellEq, gamOf, wN_hl, OkW_hl, eq_hl, eq_h0, List.map_cons, List.map_nil, List.all_cons, List.all_nil, Option.map_some, Option.map_none, Option.getD_some, Option.getD_none, Nat.reduceEqDiff, ↓reduceIte, Nat.reduceAdd, Nat.reduceMul, List.length_cons, List.length_nil, Nat.reduceLeDiff, List.set_cons_zero, List.set_cons_succ, List.drop_zero, List.drop_succ_cons, List.take_succ_cons, List.take_zero, List.getElem?_cons_zero, List.getElem?_cons_succ, Bool.and_true, Bool.not_true, Bool.not_false, Bool.and_self, bool_inj, true_and, and_true, Bool.false_eq_true, reduceCtorEq, labOk, wN_0, OkW_0, Int.reduceBEq, Int.reduceBNe, Int.reduceToNat, Int.reduceLE, Int.reduceLT, Int.reduceEq, Nat.reduceDiv, Nat.reduceMod, Nat.reduceSub, BEq.rfl, beq_self_eq_true, bne_self_eq_false, decide_true, decide_false, Int.natCast_zero, Int.natCast_one, Int.cast_ofNat_Int, decide_eq_true_eq, decide_eq_false_iff_not, and_self, Nat.reduceBEq, vcRet, resAll, resL, resV, c8, gr, ga, rootF, numF, mulF, addF, k1, k2, k3, k4, k5, ha, hb, fa, fb, fab, fs, s1, s2, f4, hx, hy, hp, hz, hf, w1, w2, w3, w4, w5, h1, h2, h3, e1, Int.toNat_natCast]
    · have e1 : (((f : Nat) : Int) == ((D0 : Nat) : Int)) = false := by simp; omega
      have e2 : (((f : Nat) : Int) == ((D1 : Nat) : Int)) = true := by simp [h4]
      simp (config := { maxSteps := 9000000 }) only [↓e_fun, ↓e_skip, ↓e_reg, ↓e_seq, ↓e_cond, ↓e_block, ↓e_exit, ↓e_ret, ↓e_loop, frIn, memIn, int_inj, ↓e_nil, ↓e_op, ↓e_opg, ↓o_mov, ↓o_pick, ↓o_bin, ↓o_eqb, ↓o_eqs, ↓o_neg, ↓o_not, ↓o_conv, ↓o_faddr, ↓o_fld, ↓o_ext, ↓o_mx, b_max, b_min, ↓o_build, ↓o_box, ↓o_alloc, ↓o_load, ↓o_store, ↓o_call, v_some, argsOf, b_add, b_sub, b_mul, b_quo, b_rem, b_and, b_or, b_xor, b_andNot, b_eql, b_neq, b_lss, b_leq, b_gtr, b_geq, b_shl, b_shr, wd, entFr, SO.ev, fr_put, put_none, mem_put', fr_setm, mem_setm, setM_at, fr_fl, mem_fl, memOf_at, St.of, keepSt, getAll, lookN, SV.cells, SV.one, SV.res1, SV.res0, SV.arg1, SV.arg0, Cel.isFresh, fillP, setAt, partV, eqCells, cellEq, gamOf, wN_hl, OkW_hl, eq_hl, eq_h0, List.map_cons, List.map_nil, List.all_cons, List.all_nil, Option.map_some, Option.map_none, Option.getD_some, Option.getD_none, Nat.reduceEqDiff, ↓reduceIte, Nat.reduceAdd, Nat.reduceMul, List.length_cons, List.length_nil, Nat.reduceLeDiff, List.set_cons_zero, List.set_cons_succ, List.drop_zero, List.drop_succ_cons, List.take_succ_cons, List.take_zero, List.getElem?_cons_zero, List.getElem?_cons_succ, Bool.and_true, Bool.not_true, Bool.not_false, Bool.and_self, bool_inj, true_and, and_true, Bool.false_eq_true, reduceCtorEq, labOk, wN_0, OkW_0, Int.reduceBEq, Int.reduceBNe, Int.reduceToNat, Int.reduceLE, Int.reduceLT, Int.reduceEq, Nat.reduceDiv, Nat.reduceMod, Nat.reduceSub, BEq.rfl, beq_self_eq_true, bne_self_eq_false, decide_true, decide_false, Int.natCast_zero, Int.natCast_one, Int.cast_ofNat_Int, decide_eq_true_eq, decide_eq_false_iff_not, and_self, Nat.reduceBEq, vcRet, resAll, resL, resV, c8, gr, ga, rootF, numF, mulF, addF, k1, k2, k3, k4, k5, ha, hb, fa, fb, fab, fs, s1, s2, f4, hx, hy, hp, hz, hf, w1, w2, w3, w4, w5, h1, h2, h3, e1, e2, Int.toNat_natCast]
theorem RootParts_walk (a : Nat) (ha : Word a) (b : Nat) (hb : Word b) (w : World) :
    Calls Try.prog 8 #[.int .u64 a, .int .u64 b] w fun e w' => e = .returned (.bool true) ∧ Below w.heap.size w w' :=
  law_call gr_ok law_mixed c8_eq (RootParts_vc a b ha hb) rfl (Nat.le_of_ble_eq_true rfl) w [_, _] ⟨rfl, rfl, trivial⟩
set_option maxRecDepth 100000 in
theorem RootParts_lifted (os : Os) (started : os.Started) (H : Type) (enc : TypeId × Value → H) :
    ReturnsInHanded {} Try.checked os 8 .any (Rows.rootPartsSpec.pre6 enc Try.prog Try.f8 Rows.rootPartsRow.domain false) (Rows.rootPartsSpec.post enc Try.prog Try.f8 false true false false) := by
  refine returnsInHanded_of_change (C := Try.checked) law_own started (by kernel_rfl) Try.func8
    (ChangeSpec.witness6 (enc := enc) (C := Try.checked) false ⟨#[], #[.int .u64 0, .int .u64 0], []⟩ 8 (by kernel_rfl) (by kernel_rfl) (by kernel_rfl) (by kernel_rfl)) ?_
  intro W base args ds gs before hval0 hW hcnd _
  have hval : ∀ (j : Nat) t v, Try.f8.params[j]? = some t → args[j]? = some v → Value.okWide Try.prog W .any base t v := hval0
  have hW' := hW
  obtain ⟨p, q, hA0, hV, rfl, hfz, hnd⟩ := hW
  have hA : DataW.TrodAll enc Try.prog W 0 (fun _ => true) true Try.f8.params.toList args.toList ds p := hA0
  rw [Try.params8] at hA hval
  obtain ⟨v0, vs0, d0, ds0, p0, q0, hargs, rfl, rfl, h0, r0⟩ := trodAll_cons hA
  obtain ⟨v1, vs1, d1, ds1, p1, q1, rfl, rfl, rfl, h1, r1⟩ := trodAll_cons r0
  obtain ⟨rfl, rfl, rfl⟩ := trodAll_nil r1
  obtain rfl : args = #[v0, v1] := by cases args; simp_all
  obtain ⟨rfl, rfl⟩ := trodVars_none hV
  obtain ⟨n0, rfl, rfl, rfl, wn0⟩ := open_int Try.underlying22 (hval 0 22 v0 rfl rfl) h0
  obtain ⟨u0, rfl, hu0⟩ := word_of wn0
  obtain ⟨n1, rfl, rfl, rfl, wn1⟩ := open_int Try.underlying22 (hval 1 22 v1 rfl rfl) h1
  obtain ⟨u1, rfl, hu1⟩ := word_of wn1
  clear hA0 hval0
  refine (RootParts_walk u0 hu0 u1 hu1 W).mono fun e W' ⟨he, bel⟩ => ?_
  subst he
  exact ⟨_, rfl, _, _, _, [], _, [], hW', trodAll_mk1 (shut_bool Try.underlying4 _), (trodAll_cons_mk (shut_int Try.underlying22 wn0) (trodAll_cons_mk (shut_int Try.underlying22 wn1) trodAll_mk0)), rfl, bel.frame _, fun h => by cases h⟩
theorem RootParts_holds : Rows.RootPartsSaid :=
  OpenClaim.holds_of_wide 8 Try.f8 rfl rfl rfl rfl rfl rfl rfl ⟨rfl, rfl, rfl, rfl, rfl⟩ rfl rfl rfl rfl rfl (by kernel_rfl) Try.func8 (by kernel_rfl)
    (of_decide_eq_true (by kernel_rfl)) (by unfold Func.isWrapper; first | (rw [if_pos (by decide +kernel)]; kernel_rfl) | (rw [if_neg (by decide +kernel)]; exact ⟨rfl, rfl⟩))
    (fun os started H enc _ => RootParts_lifted os started H enc)
end Go.Proofs.Ytjmkmcjpppdglaa
