/- hwkeep.TailBoth returns true for every list of whole numbers and every whole number. No condition. -/
import Derived.Test.YtdnjbblejhojbaaYM9
import Derived.Test.YtdnjbblejhojbaaYCn
import Derived.Test.YtdnjbblejhojbaaCYTailBoth
namespace Go.Proofs.Ytdnjbblejhojbaa
open Go.ChangeShapes Go.WideShapes Go.ChangeAt Go.RowKit Go.Joins Y
set_option linter.unusedSimpArgs false
set_option linter.unusedVariables false
set_option maxRecDepth 100000
set_option maxHeartbeats 40000000
def gl : List (Nat × Say) := [(39, cantS), (38, chebS), (54, valuesS), (55, withinS), (56, sumsS)]
theorem gl_ok : GamOk Try.prog (gamY gl) := gam_ok (gam_cons cant_ok (gam_cons cheb_ok (gam_cons values_ok (gam_cons within_ok (gam_cons sums_ok gam_nil)))))
theorem both_le {a G D d : Int} (ha : 0 < a) (hG : 0 ≤ G) (hd : 0 < d) (hD : a * d ≤ D) : a * G / (D * D + G) ≤ (if G / a / (d * d) < a then G / a / (d * d) else a) := by
  have h0 : 0 < a * d := Int.mul_pos ha hd
  have h1 := Int.mul_pos (show 0 < D by omega) (show 0 < D by omega)
  have hdd := Int.mul_pos hd hd
  have h2 : (a * d) * (a * d) ≤ D * D := Int.mul_le_mul hD hD (by omega) (by omega)
  have hq0 : 0 ≤ a * G / (D * D + G) := Int.ediv_nonneg (Int.mul_nonneg (by omega) hG) (by omega)
  have hq := Int.ediv_mul_le (a * G) (show D * D + G ≠ 0 by omega)
  have hle : a * G / (D * D + G) ≤ a := Int.ediv_le_of_le_mul (by omega) (Int.mul_le_mul_of_nonneg_left (by omega) (by omega))
  generalize a * G / (D * D + G) = q at *
  split
  · rw [Int.le_ediv_iff_mul_le hdd, Int.le_ediv_iff_mul_le ha]
    refine Int.le_of_mul_le_mul_left (a := a) ?_ ha
    have h3 := Int.mul_le_mul_of_nonneg_left h2 hq0
    have h4 := Int.mul_nonneg hq0 hG
    grind
  · exact hle
theorem TailBoth_vc (l : List Int) (bl : AllI l) (n : Int) (bn : I64 n) : vcFun (gamY gl) y15 [.rw (.ints .i64 l), .int .i64 n] none (fun v o => v = .bool true) := by
  obtain ⟨hl, ho, hk, h64, hv⟩ := vals_all l
  generalize hmm : valsL l = m at *
  have z1 : chV 0 0 0 1 = 0 := by decide
  have z2 : mkE 0 0 0 1 = 0 := by decide
  have z3 : chV 2 40 1000 10 = 2 := by decide
  have z4 : mkE 2 40 1000 10 = 0 := by decide
  by_cases h0 : m.length = 0
  · simp (config := { maxSteps := 9000000 }) only [↓vyD, vyU, binS, SV.go1, SV.go0, mkRow, intsOf, boolsOf, strsOf, chunks, Row.rep, Row.cat, Row.sub, Row.put, Row.len, Row.get, Row.size, Row.flat, bnds, own0, own1, labsL, labsR, SV.labs, argsOf, entFr, SO.ev, St.of, keepSt, getAll, lookN, hasN, SV.cells, SV.one, SV.res1, SV.res0, SV.resP, SV.ok1, SV.ok0, SV.okN, SV.solid, SV.solid1, SV.solid0, SV.flat0, SV.nm, SV.nm1, SV.nm0, SV.noPtr1, SV.noPtr0, Cel.isFresh, fillP, setAt, partV, eqCells, cellEq, gamY, listsOk, tupOf, takeOwn, SV.ret1, resAll, resL, resV, Nat.reduceEqDiff, ↓reduceIte, Nat.reduceAdd, Nat.reduceMul, Nat.reduceLeDiff, reduceCtorEq, labOk, Int.reduceBEq, Int.reduceBNe, Int.reduceToNat, Int.reduceLE, Int.reduceLT, Int.reduceEq, Nat.reduceDiv, Nat.reduceMod, Nat.reduceSub, Nat.reduceBEq, y15, gl, cantS, chebS, valuesS, withinS, sumsS, asI, hmm, h0, z1, z2, z3, z4]
  · have h0' : ((m.length : Int) == 0) = false := by simp only [beq_eq_false_iff_ne]; omega
    have ht := withinN_lt n (n := 536870912) (by omega)
    generalize htt : withinN n 536870912 = t at *
    have w1 : I64 536870912 := by unfold I64; omega
    have b1 := i64_wrap (show I64 (1 + t) by unfold I64; omega)
    obtain ⟨d, hd⟩ : ∃ d, 1 + t = d := ⟨_, rfl⟩
    rw [hd] at b1
    obtain ⟨⟨h1, h2⟩, ⟨h3, h4⟩, ⟨h5, h6⟩, h7⟩ := checkE_0.1 hk
    have hL : (0 : Int) < m.length := by omega
    have b2 := i64_wrap (show I64 (sumL m + m.length) by unfold I64; omega)
    have b3 := i64_wrap (show I64 (sumL m + m.length - 1) by unfold I64; omega)
    have e1 : (sumL m + m.length - 1).tdiv m.length = (sumL m + m.length - 1) / m.length := Int.tdiv_eq_ediv_of_nonneg (by omega)
    have c1 := Int.ediv_mul_le (sumL m + m.length - 1) (show (m.length : Int) ≠ 0 by omega)
    have c2 := Int.lt_ediv_add_one_mul_self (sumL m + m.length - 1) hL
    have c3 : 0 ≤ (sumL m + m.length - 1) / m.length := Int.ediv_nonneg (by omega) h1
    have c4 : (sumL m + m.length - 1) / m.length ≤ 16777217 := by
      refine Int.le_of_lt_add_one (Int.ediv_lt_of_lt_mul hL ?_)
      omega
    generalize hq : (sumL m + m.length - 1) / m.length = q at *
    have b4 := i64_wrap (show I64 q by unfold I64; omega)
    have b5 := i64_wrap (show I64 (q + d) by unfold I64; omega)
    have e2 : canE m.length (sumL m) (sqL m) (q + d) = 0 := canE_0.2 ⟨hk, by omega, by omega⟩
    have e3 : mkE m.length (sumL m) (sqL m) d = 0 := mkE_0.2 ⟨hk, by omega, by omega⟩
    have hD : m.length * d ≤ m.length * (q + d) - sumL m := by
      have : m.length * (q + d) = q * m.length + m.length * d := by grind
      have : (q + 1) * m.length = q * m.length + m.length := by grind
      omega
    have hpos := Int.mul_pos hL (show 0 < d by omega)
    have f : canV m.length (sumL m) (sqL m) (q + d) ≤ chV m.length (sumL m) (sqL m) d := by
      rw [canV, if_pos e2, if_neg (by omega), chV, if_pos e3, if_neg (by omega)]
      exact both_le hL h7 (by omega) hD
    have n0 : ¬ (m.length : Int) = 0 := by omega
    simp (config := { maxSteps := 9000000 }) only [↓vyD, vyU, binS, SV.go1, SV.go0, mkRow, intsOf, boolsOf, strsOf, chunks, Row.rep, Row.cat, Row.sub, Row.put, Row.len, Row.get, Row.size, Row.flat, bnds, own0, own1, labsL, labsR, SV.labs, argsOf, entFr, SO.ev, St.of, keepSt, getAll, lookN, hasN, SV.cells, SV.one, SV.res1, SV.res0, SV.resP, SV.ok1, SV.ok0, SV.okN, SV.solid, SV.solid1, SV.solid0, SV.flat0, SV.nm, SV.nm1, SV.nm0, SV.noPtr1, SV.noPtr0, Cel.isFresh, fillP, setAt, partV, eqCells, cellEq, gamY, listsOk, tupOf, takeOwn, SV.ret1, resAll, resL, resV, Nat.reduceEqDiff, ↓reduceIte, Nat.reduceAdd, Nat.reduceMul, Nat.reduceLeDiff, reduceCtorEq, labOk, Int.reduceBEq, Int.reduceBNe, Int.reduceToNat, Int.reduceLE, Int.reduceLT, Int.reduceEq, Nat.reduceDiv, Nat.reduceMod, Nat.reduceSub, Nat.reduceBEq, y15, gl, cantS, chebS, valuesS, withinS, sumsS, asI, hmm, htt, h0', hd, z1, z2, z3, z4, w1, b1, b2, b3, b4, b5, e1, hq, n0, ne_eq, not_false_eq_true, ho, hl, sv3, e2, e3, f]
theorem TailBoth_walk (W : World) (v0 : Value) (l0 : List Int) (b0 : AllI l0) (i0 : Is (E0 W fun _ => False) (.rw (.ints .i64 l0)) v0) (n1 : Int) (b1 : I64 n1) :
    Calls Try.prog 15 #[v0, .int .i64 n1] W fun e w' => e = .returned (.bool true) ∧ Below W.heap.size W w' :=
  law_callY gl_ok lawy_mixed y15_eq (TailBoth_vc l0 b0 n1 b1) (Nat.le_of_ble_eq_true rfl) W [v0, .int .i64 n1] (All.cons i0 (All.cons (.int _ _) All.nil))
set_option maxRecDepth 100000 in
theorem TailBoth_lifted (os : Os) (started : os.Started) (H : Type) (enc : TypeId × Value → H) :
    ReturnsInHanded {} Try.checked os 15 .any (Rows.tailBothSpec.pre6 enc Try.prog Try.f15 Rows.tailBothRow.domain false) (Rows.tailBothSpec.post enc Try.prog Try.f15 false true false false) := by
  refine returnsInHanded_of_change (C := Try.checked) lawy_own started (by kernel_rfl) Try.func15
    (ChangeSpec.witness6 (enc := enc) (C := Try.checked) false ⟨#[], #[.slice none 0 0, .int .i64 0], []⟩ 8 (by kernel_rfl) (by kernel_rfl) (by kernel_rfl) (by kernel_rfl)) ?_
  intro W base args ds gs before hval0 hW hcnd _
  have hval : ∀ (j : Nat) t v, Try.f15.params[j]? = some t → args[j]? = some v → Value.okWide Try.prog W .any base t v := hval0
  have hW' := hW
  obtain ⟨p, q, hA0, hV, rfl, hfz, hnd⟩ := hW
  have hA : DataW.TrodAll enc Try.prog W 0 (fun _ => true) true Try.f15.params.toList args.toList ds p := hA0
  rw [Try.params15] at hA hval
  obtain ⟨v0, vs0, d0, ds0, p0, q0, hargs, rfl, rfl, h0, r0⟩ := trodAll_cons hA
  obtain ⟨v1, vs1, d1, ds1, p1, q1, rfl, rfl, rfl, h1, r1⟩ := trodAll_cons r0
  obtain ⟨rfl, rfl, rfl⟩ := trodAll_nil r1
  obtain rfl : args = #[v0, v1] := by cases args; simp_all
  obtain ⟨rfl, rfl⟩ := trodVars_none hV
  have lt0 := places_lt h0
  obtain ⟨l0, hl0, hi0⟩ := open_ints Try.underlying31 Try.underlying3 (by kernel_rfl) (hval 0 31 v0 rfl rfl) h0
  have lt1 := places_lt h1
  obtain ⟨n1, e1, _, _, wn1⟩ := open_int Try.underlying3 (hval 1 3 v1 rfl rfl) h1
  subst e1
  clear hA0 hval0
  refine (TailBoth_walk W v0 l0 hl0 hi0 n1 (i64_of wn1)).mono fun e W' ⟨he, bel⟩ => ?_
  subst he
  exact ⟨_, rfl, _, _, _, [], _, [], hW', trodAll_mk1 (shut_bool Try.underlying4 _), (trodAll_cons_mk (bel.trod lawy_laid (by kernel_rfl) (of_decide_eq_true (by kernel_rfl)) h0 lt0) (trodAll_cons_mk (bel.trod lawy_laid (by kernel_rfl) (of_decide_eq_true (by kernel_rfl)) h1 lt1) trodAll_mk0)), rfl, bel.frame _, fun h => by cases h⟩
theorem TailBoth_holds : Rows.TailBothSaid :=
  OpenClaim.holds_of_wide 15 Try.f15 rfl rfl rfl rfl rfl rfl rfl ⟨rfl, rfl, rfl, rfl, rfl⟩ rfl rfl rfl rfl rfl (by kernel_rfl) Try.func15 (by kernel_rfl)
    (of_decide_eq_true (by kernel_rfl)) (by unfold Func.isWrapper; first | (rw [if_pos (by decide +kernel)]; kernel_rfl) | (rw [if_neg (by decide +kernel)]; exact ⟨rfl, rfl⟩))
    (fun os started H enc _ => TailBoth_lifted os started H enc)
end Go.Proofs.Ytdnjbblejhojbaa
