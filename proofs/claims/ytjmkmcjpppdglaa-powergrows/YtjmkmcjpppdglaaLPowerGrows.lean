/- hwkeep.PowerGrows returns true for every three numbers. No condition. -/
import Derived.Test.YtjmkmcjpppdglaaR1
import Derived.Test.YtjmkmcjpppdglaaCPowerGrows
namespace Go.Proofs.Ytjmkmcjpppdglaa
open Go.ChangeShapes Go.WideShapes Go.ChangeAt Go.RowKit Go.Joins Sx
set_option linter.unusedSimpArgs false
set_option linter.unusedVariables false
set_option maxRecDepth 100000
set_option maxHeartbeats 4000000
theorem bernoulli (x : Nat) : ∀ n : Nat, 1 + n * x ≤ (1 + x) ^ n
  | 0 => by simp
  | n + 1 => by
    have ih := bernoulli x n
    have h1 : (1 + x) ^ n * (1 + x) = (1 + x) ^ n + (1 + x) ^ n * x := by rw [Nat.mul_add, Nat.mul_one]
    have h2 : 1 * x ≤ (1 + x) ^ n * x := Nat.mul_le_mul_right x (Nat.pos_of_ne_zero (by simp))
    rw [Nat.pow_succ, h1, Nat.add_mul]
    omega
theorem halv_one {a k : Nat} (h1 : 2 ^ k ≤ a) (h2 : a < 2 ^ (k + 1)) : halvN a 1 = k := by
  have hp := Nat.two_pow_pos k
  obtain ⟨i1, i2⟩ := halvN_spec (a := a) (b := 1) (by omega) (by omega)
  rw [Nat.one_mul] at i1 i2
  refine Nat.le_antisymm ?_ ?_
  · exact Nat.le_of_lt_succ ((Nat.pow_lt_pow_iff_right (by omega)).1 (Nat.lt_of_le_of_lt i1 h2))
  · exact Nat.le_of_lt_succ ((Nat.pow_lt_pow_iff_right (by omega)).1 (Nat.lt_of_le_of_lt h1 i2))
theorem PowerGrows_vc (x n k : Int) : vcFun (gamOf gr) c9 [.int .i64 x, .int .i64 n, .int .i64 k] (fun v => v = .bool true) := by
  have lx := withinN_lt x (m := 1000) (by omega)
  have ln := withinN_lt n (m := 12) (by omega)
  have lk := withinN_lt k (m := 128) (by omega)
  obtain ⟨X, hX⟩ : ∃ X, withinN x 1000 = X := ⟨_, rfl⟩
  obtain ⟨N, hN⟩ : ∃ N, withinN n 12 = N := ⟨_, rfl⟩
  obtain ⟨J, hJ⟩ : ∃ J, withinN k 128 = J := ⟨_, rfl⟩
  rw [hX] at lx
  rw [hN] at ln
  rw [hJ] at lk
  have f1 : Fits 1 := by rw [fits_lt]; omega
  have f2 : Fits 2 := by rw [fits_lt]; omega
  have q1 : powE 2 127 = 0 := by unfold powE; rw [if_pos (by omega)]; exact if_pos (by decide)
  have q2 : (((hiN (powN 2 127) : Nat) : Int) == 9223372036854775808 && ((loN (powN 2 127) : Nat) : Int) == 0) = true := by
    have : powN 2 127 = 170141183460469231731687303715884105728 := by unfold powN; exact if_pos (by decide)
    rw [this]
    have e := isW_mk 9223372036854775808 0 (by omega) (by omega)
    obtain ⟨_, e1, e2⟩ := e
    rw [show (9223372036854775808 : Nat) * 18446744073709551616 + 0 = 170141183460469231731687303715884105728 by omega] at e1 e2
    rw [← e1, ← e2]; rfl
  have w1 : IntKind.i64.wrap (1 + (X : Int)) = ((1 + X : Nat) : Int) := by rw [IntWalk.i64_in _ (by omega)]; omega
  have hnx : N * X ≤ 11 * 999 := Nat.mul_le_mul (by omega) (by omega)
  have w2 : IntKind.i64.wrap ((N : Int) * (X : Int)) = ((N * X : Nat) : Int) := by rw [← Int.natCast_mul, IntWalk.i64_in _ (by omega)]
  have w3 : IntKind.i64.wrap (1 + ((N * X : Nat) : Int)) = ((1 + N * X : Nat) : Int) := by rw [IntWalk.i64_in _ (by omega)]; omega
  have hpow : (1 + X) ^ N < 340282366920938463463374607431768211456 := by
    have h1 : (1 + X) ^ N ≤ 1000 ^ N := Nat.pow_le_pow_left (by omega) N
    have h2 : 1000 ^ N ≤ 1000 ^ 11 := Nat.pow_le_pow_right (by omega) (by omega)
    have h3 : (1000 : Nat) ^ 11 < 340282366920938463463374607431768211456 := by decide
    omega
  have p1 : powN (1 + X) (N : Int) = (1 + X) ^ N := if_pos ⟨by omega, by omega, by simpa using hpow⟩
  have p2 : powE (1 + X) (N : Int) = 0 := (if_pos ⟨by omega, by omega⟩).trans (if_pos (by simpa using hpow))
  have hber := bernoulli X N
  have h2J : (2 : Nat) ^ J < 340282366920938463463374607431768211456 := by
    have h2 : (2 : Nat) ^ J ≤ 2 ^ 127 := Nat.pow_le_pow_right (by omega) (by omega)
    have h3 : (2 : Nat) ^ 127 < 340282366920938463463374607431768211456 := by decide
    omega
  have p3 : powN 2 (J : Int) = 2 ^ J := if_pos ⟨by omega, by omega, by simpa using h2J⟩
  have p4 : powE 2 (J : Int) = 0 := (if_pos ⟨by omega, by omega⟩).trans (if_pos (by simpa using h2J))
  have pp : 0 < (1 + X) ^ N := Nat.pos_of_ne_zero (by simp)
  have pJ : 0 < 2 ^ J := Nat.two_pow_pos J
  have e1 : halvE (2 ^ J) 1 = 0 := (if_neg (by omega)).trans (if_neg (by omega))
  have e2 : halvE ((1 + X) ^ N) 1 = 0 := (if_neg (by omega)).trans (if_neg (by omega))
  have e3 : halvE (1 + X) 1 = 0 := (if_neg (by omega)).trans (if_neg (by omega))
  have v1 : halvN (2 ^ J) 1 = J := halv_one (Nat.le_refl _) (Nat.pow_lt_pow_right (by omega) (by omega))
  obtain ⟨O, hO⟩ : ∃ O, halvN (1 + X) 1 = O := ⟨_, rfl⟩
  obtain ⟨M, hM⟩ : ∃ M, halvN ((1 + X) ^ N) 1 = M := ⟨_, rfl⟩
  obtain ⟨o1, o2⟩ := halvN_spec (a := 1 + X) (b := 1) (by omega) (by omega)
  obtain ⟨m1, m2⟩ := halvN_spec (a := (1 + X) ^ N) (b := 1) (by omega) (by omega)
  rw [hO, Nat.one_mul] at o1 o2
  rw [hM, Nat.one_mul] at m1 m2
  have hO10 : O < 10 := (Nat.pow_lt_pow_iff_right (a := 2) (by omega)).1 (Nat.lt_of_le_of_lt o1 (by omega))
  have hMl : N * O ≤ M := by
    have h1 : (2 ^ O) ^ N ≤ (1 + X) ^ N := Nat.pow_le_pow_left o1 N
    rw [← Nat.pow_mul, Nat.mul_comm] at h1
    exact Nat.le_of_lt_succ ((Nat.pow_lt_pow_iff_right (a := 2) (by omega)).1 (Nat.lt_of_le_of_lt h1 m2))
  have hMu : M ≤ N * (O + 1) := by
    have h1 : (1 + X) ^ N ≤ (2 ^ (O + 1)) ^ N := Nat.pow_le_pow_left (Nat.le_of_lt o2) N
    rw [← Nat.pow_mul, Nat.mul_comm] at h1
    exact (Nat.pow_le_pow_iff_right (a := 2) (by omega)).1 (Nat.le_trans m1 h1)
  have hNO : N * O ≤ 11 * 9 := Nat.mul_le_mul (by omega) (by omega)
  have hNO1 : N * (O + 1) ≤ 11 * 10 := Nat.mul_le_mul (by omega) (by omega)
  have w4 : IntKind.i64.wrap ((N : Int) * (O : Int)) = ((N * O : Nat) : Int) := by rw [← Int.natCast_mul, IntWalk.i64_in _ (by omega)]
  have w5 : IntKind.i64.wrap ((O : Int) + 1) = ((O + 1 : Nat) : Int) := by rw [IntWalk.i64_in _ (by omega)]; omega
  have w6 : IntKind.i64.wrap ((N : Int) * ((O + 1 : Nat) : Int)) = ((N * (O + 1) : Nat) : Int) := by rw [← Int.natCast_mul, IntWalk.i64_in _ (by omega)]
  have b1 : (0 : Int) ≤ ((1 + X : Nat) : Int) := by omega
  have b2 : ((1 + X : Nat) : Int) ≤ 9223372036854775807 := by omega
  have b3 : (0 : Int) ≤ ((1 + N * X : Nat) : Int) := by omega
  have b4 : ((1 + N * X : Nat) : Int) ≤ 9223372036854775807 := by omega
  have fp : Fits ((1 + X) ^ N) := fits_lt.2 hpow
  have fb : Fits (1 + N * X) := by rw [fits_lt]; omega
  have fx : Fits (1 + X) := by rw [fits_lt]; omega
  have fJ : Fits (2 ^ J) := fits_lt.2 h2J
  have hcmp : ¬ (1 + X) ^ N < 1 + N * X := by omega
  have c1 : ((N * O : Nat) : Int) ≤ (M : Int) := by omega
  have c2 : (M : Int) ≤ ((N * (O + 1) : Nat) : Int) := by omega
  generalize (1 + X) ^ N = P at *
  generalize (2 : Nat) ^ J = T at *
  generalize 1 + N * X = Q at *
  generalize N * (O + 1) = U at *
  generalize N * O = V at *
  generalize N * X = Y at *
  generalize 1 + X = Z at *
  generalize O + 1 = O1 at *
  clear hber hpow h2J pp pJ o1 o2 m1 m2 hO10 hMl hMu hNO hNO1 hnx
  simp (config := { maxSteps := 9000000 }) only [↓e_fun, ↓e_skip, ↓e_reg, ↓e_seq, ↓e_cond, ↓e_block, ↓e_exit, ↓e_ret, ↓e_loop, frIn, memIn, int_inj, ↓e_nil, ↓e_op, ↓e_opg, ↓o_mov, ↓o_pick, ↓o_bin, ↓o_eqb, ↓o_eqs, ↓o_neg, ↓o_not, ↓o_conv, ↓o_faddr, ↓o_fld, ↓o_ext, ↓o_build, ↓o_box, ↓o_alloc, ↓o_load, ↓o_store, ↓o_call, v_some, argsOf, b_add, b_sub, b_mul, b_quo, b_rem, b_and, b_or, b_xor, b_andNot, b_eql, b_neq, b_lss, b_leq, b_gtr, b_geq, b_shl, b_shr, wd, entFr, SO.ev, fr_put, put_none, mem_put', fr_setm, mem_setm, setM_at, fr_fl, mem_fl, memOf_at, St.of, keepSt, getAll, lookN, SV.cells, SV.one, SV.res1, SV.res0, SV.arg1, SV.arg0, Cel.isFresh, fillP, setAt, partV, eqCells, cellEq, gamOf, wN_hl, OkW_hl, eq_hl, eq_h0, List.map_cons, List.map_nil, List.all_cons, List.all_nil, Option.map_some, Option.map_none, Option.getD_some, Option.getD_none, Nat.reduceEqDiff, ↓reduceIte, Nat.reduceAdd, Nat.reduceMul, List.length_cons, List.length_nil, Nat.reduceLeDiff, List.set_cons_zero, List.set_cons_succ, List.drop_zero, List.drop_succ_cons, List.take_succ_cons, List.take_zero, List.getElem?_cons_zero, List.getElem?_cons_succ, Bool.and_true, Bool.not_true, Bool.not_false, Bool.and_self, bool_inj, true_and, and_true, Bool.false_eq_true, reduceCtorEq, labOk, wN_0, OkW_0, Int.reduceBEq, Int.reduceBNe, Int.reduceToNat, Int.reduceLE, Int.reduceLT, Int.reduceEq, Nat.reduceDiv, Nat.reduceMod, Nat.reduceSub, BEq.rfl, beq_self_eq_true, bne_self_eq_false, decide_true, decide_false, Int.natCast_zero, Int.natCast_one, Int.cast_ofNat_Int, decide_eq_true_eq, decide_eq_false_iff_not, and_self, Nat.reduceBEq, vcRet, resAll, resL, resV, c9, gr, ga, powF, halvF, numF, withinF, cmpF, hX, hN, hJ, Int.toNat_natCast, f1, f2, q1, q2, w1, w2, w3, w4, w5, w6, p1, p2, p3, p4, e1, e2, e3, v1, hO, hM, b1, b2, b3, b4, fp, fb, fx, fJ, hcmp, c1, c2, cmpN_lt0]
theorem PowerGrows_walk (x : Int) (bx : -9223372036854775808 ≤ x ∧ x ≤ 9223372036854775807) (n : Int) (bn : -9223372036854775808 ≤ n ∧ n ≤ 9223372036854775807) (k : Int) (bk : -9223372036854775808 ≤ k ∧ k ≤ 9223372036854775807) (w : World) :
    Calls Try.prog 9 #[.int .i64 x, .int .i64 n, .int .i64 k] w fun e w' => e = .returned (.bool true) ∧ Below w.heap.size w w' :=
  law_call gr_ok law_mixed c9_eq (PowerGrows_vc x n k) rfl (Nat.le_of_ble_eq_true rfl) w [_, _, _] ⟨rfl, rfl, rfl, trivial⟩
set_option maxRecDepth 100000 in
theorem PowerGrows_lifted (os : Os) (started : os.Started) (H : Type) (enc : TypeId × Value → H) :
    ReturnsInHanded {} Try.checked os 9 .any (Rows.powerGrowsSpec.pre6 enc Try.prog Try.f9 Rows.powerGrowsRow.domain false) (Rows.powerGrowsSpec.post enc Try.prog Try.f9 false true false false) := by
  refine returnsInHanded_of_change (C := Try.checked) law_own started (by kernel_rfl) Try.func9
    (ChangeSpec.witness6 (enc := enc) (C := Try.checked) false ⟨#[], #[.int .i64 0, .int .i64 0, .int .i64 0], []⟩ 8 (by kernel_rfl) (by kernel_rfl) (by kernel_rfl) (by kernel_rfl)) ?_
  intro W base args ds gs before hval0 hW hcnd _
  have hval : ∀ (j : Nat) t v, Try.f9.params[j]? = some t → args[j]? = some v → Value.okWide Try.prog W .any base t v := hval0
  have hW' := hW
  obtain ⟨p, q, hA0, hV, rfl, hfz, hnd⟩ := hW
  have hA : DataW.TrodAll enc Try.prog W 0 (fun _ => true) true Try.f9.params.toList args.toList ds p := hA0
  rw [Try.params9] at hA hval
  obtain ⟨v0, vs0, d0, ds0, p0, q0, hargs, rfl, rfl, h0, r0⟩ := trodAll_cons hA
  obtain ⟨v1, vs1, d1, ds1, p1, q1, rfl, rfl, rfl, h1, r1⟩ := trodAll_cons r0
  obtain ⟨v2, vs2, d2, ds2, p2, q2, rfl, rfl, rfl, h2, r2⟩ := trodAll_cons r1
  obtain ⟨rfl, rfl, rfl⟩ := trodAll_nil r2
  obtain rfl : args = #[v0, v1, v2] := by cases args; simp_all
  obtain ⟨rfl, rfl⟩ := trodVars_none hV
  obtain ⟨n0, rfl, rfl, rfl, wn0⟩ := open_int Try.underlying3 (hval 0 3 v0 rfl rfl) h0
  obtain ⟨n1, rfl, rfl, rfl, wn1⟩ := open_int Try.underlying3 (hval 1 3 v1 rfl rfl) h1
  obtain ⟨n2, rfl, rfl, rfl, wn2⟩ := open_int Try.underlying3 (hval 2 3 v2 rfl rfl) h2
  clear hA0 hval0
  refine (PowerGrows_walk n0 (bounds_i64 wn0) n1 (bounds_i64 wn1) n2 (bounds_i64 wn2) W).mono fun e W' ⟨he, bel⟩ => ?_
  subst he
  exact ⟨_, rfl, _, _, _, [], _, [], hW', trodAll_mk1 (shut_bool Try.underlying4 _), (trodAll_cons_mk (shut_int Try.underlying3 wn0) (trodAll_cons_mk (shut_int Try.underlying3 wn1) (trodAll_cons_mk (shut_int Try.underlying3 wn2) trodAll_mk0))), rfl, bel.frame _, fun h => by cases h⟩
theorem PowerGrows_holds : Rows.PowerGrowsSaid :=
  OpenClaim.holds_of_wide 9 Try.f9 rfl rfl rfl rfl rfl rfl rfl ⟨rfl, rfl, rfl, rfl, rfl⟩ rfl rfl rfl rfl rfl (by kernel_rfl) Try.func9 (by kernel_rfl)
    (of_decide_eq_true (by kernel_rfl)) (by unfold Func.isWrapper; first | (rw [if_pos (by decide +kernel)]; kernel_rfl) | (rw [if_neg (by decide +kernel)]; exact ⟨rfl, rfl⟩))
    (fun os started H enc _ => PowerGrows_lifted os started H enc)
end Go.Proofs.Ytjmkmcjpppdglaa
