/- hwkeep.TailCantelli returns true for every list of whole numbers and every two whole numbers. No condition. -/
import Derived.Test.YtdnjbblejhojbaaYM9
import Derived.Test.YtdnjbblejhojbaaYCn
import Derived.Test.YtdnjbblejhojbaaCYTailCantelli
namespace Go.Proofs.Ytdnjbblejhojbaa
open Go.ChangeShapes Go.WideShapes Go.ChangeAt Go.RowKit Go.Joins Y
set_option linter.unusedSimpArgs false
set_option linter.unusedVariables false
set_option maxRecDepth 100000
set_option maxHeartbeats 40000000
def gl : List (Nat × Say) := [(39, cantS), (36, countS), (54, valuesS), (55, withinS), (56, sumsS)]
theorem gl_ok : GamOk Try.prog (gamY gl) := gam_ok (gam_cons cant_ok (gam_cons count_ok (gam_cons values_ok (gam_cons within_ok (gam_cons sums_ok gam_nil)))))
theorem quo_le {a G D : Int} (ha : 0 ≤ a) (hG : 0 ≤ G) (hD : 0 < D) : a * G / (D * D + G) ≤ a := by
  have h1 := Int.mul_pos hD hD
  have h2 : a * G ≤ a * (D * D + G) := Int.mul_le_mul_of_nonneg_left (by omega) ha
  exact Int.ediv_le_of_le_mul (by omega) h2
theorem quo_anti {a G D E : Int} (ha : 0 ≤ a) (hG : 0 ≤ G) (hD : 0 < D) (hE : D ≤ E) : a * G / (E * E + G) ≤ a * G / (D * D + G) := by
  have h1 := Int.mul_pos hD hD
  have h2 : D * D ≤ E * E := Int.mul_le_mul hE hE (by omega) (by omega)
  exact div_anti (Int.mul_nonneg ha hG) (by omega) (by omega)
theorem TailCantelli_vc (l : List Int) (bl : AllI l) (n : Int) (bn : I64 n) (k : Int) (bk : I64 k) : vcFun (gamY gl) y11 [.rw (.ints .i64 l), .int .i64 n, .int .i64 k] none (fun v o => v = .bool true) := by
  obtain ⟨hl, ho, hk, h64, hv⟩ := vals_all l
  generalize hmm : valsL l = m at *
  have ht := withinN_lt n (n := 536870912) (by omega)
  generalize htt : withinN n 536870912 = t at *
  have hu := withinN_lt k (n := 536870912) (by omega)
  generalize huu : withinN k 536870912 = u at *
  have w1 : I64 536870912 := by unfold I64; omega
  have b1 := i64_wrap (show I64 (t + u) by unfold I64; omega)
  have z1 : canV 4 4 6 3 = 0 := by decide
  have z2 : canE 4 4 6 3 = 0 := by decide
  have z3 : canV 2 4 10 3 = 1 := by decide
  have z4 : canE 2 4 10 3 = 0 := by decide
  have e1 : canE m.length (sumL m) (sqL m) t = 0 := canE_0.2 ⟨hk, by omega, by omega⟩
  have e2 : canE m.length (sumL m) (sqL m) (t + u) = 0 := canE_0.2 ⟨hk, by omega, by omega⟩
  have v1 := (show canV m.length (sumL m) (sqL m) t = _ from if_pos e1)
  have v2 := (show canV m.length (sumL m) (sqL m) (t + u) = _ from if_pos e2)
  have c1 := cnt_le m t
  obtain ⟨⟨h1, h2⟩, ⟨h3, h4⟩, ⟨h5, h6⟩, h7⟩ := checkE_0.1 hk
  have hmul : m.length * (t + u) = m.length * t + m.length * u := Int.mul_add ..
  have hmu : 0 ≤ m.length * u := Int.mul_nonneg h1 hu.1
  have f : (cntL m t : Int) ≤ canV m.length (sumL m) (sqL m) t ∧ canV m.length (sumL m) (sqL m) (t + u) ≤ canV m.length (sumL m) (sqL m) t ∧ canV m.length (sumL m) (sqL m) t ≤ m.length := by
    rw [v1, v2]
    by_cases hd : m.length * t - sumL m ≤ 0
    · rw [if_pos hd]
      refine ⟨by omega, ?_, by omega⟩
      split
      · omega
      · exact quo_le h1 h7 (by omega)
    · rw [if_neg hd, if_neg (by omega)]
      have hD : 0 < m.length * t - sumL m := by omega
      refine ⟨?_, quo_anti h1 h7 hD (by omega), quo_le h1 h7 hD⟩
      have hV := Int.mul_pos hD hD
      rw [Int.le_ediv_iff_mul_le (by omega)]
      exact cantelli_le hD
  obtain ⟨f1, f2, f3⟩ := f
  clear v1 v2
  simp (config := { maxSteps := 9000000 }) only [↓vyD, vyU, binS, SV.go1, SV.go0, mkRow, intsOf, boolsOf, strsOf, chunks, Row.rep, Row.cat, Row.sub, Row.put, Row.len, Row.get, Row.size, Row.flat, bnds, own0, own1, labsL, labsR, SV.labs, argsOf, entFr, SO.ev, St.of, keepSt, getAll, lookN, hasN, SV.cells, SV.one, SV.res1, SV.res0, SV.resP, SV.ok1, SV.ok0, SV.okN, SV.solid, SV.solid1, SV.solid0, SV.flat0, SV.nm, SV.nm1, SV.nm0, SV.noPtr1, SV.noPtr0, Cel.isFresh, fillP, setAt, partV, eqCells, cellEq, gamY, listsOk, tupOf, takeOwn, SV.ret1, resAll, resL, resV, Nat.reduceEqDiff, ↓reduceIte, Nat.reduceAdd, Nat.reduceMul, Nat.reduceLeDiff, reduceCtorEq, labOk, Int.reduceBEq, Int.reduceBNe, Int.reduceToNat, Int.reduceLE, Int.reduceLT, Int.reduceEq, Nat.reduceDiv, Nat.reduceMod, Nat.reduceSub, Nat.reduceBEq, y11, gl, cantS, countS, valuesS, withinS, sumsS, asI, hmm, htt, huu, w1, b1, z1, z2, z3, z4, ho, hl, sv3, e1, e2, f1, f2, f3]
theorem TailCantelli_walk (W : World) (v0 : Value) (l0 : List Int) (b0 : AllI l0) (i0 : Is (E0 W fun _ => False) (.rw (.ints .i64 l0)) v0) (n1 : Int) (b1 : I64 n1) (n2 : Int) (b2 : I64 n2) :
    Calls Try.prog 11 #[v0, .int .i64 n1, .int .i64 n2] W fun e w' => e = .returned (.bool true) ∧ Below W.heap.size W w' :=
  law_callY gl_ok lawy_mixed y11_eq (TailCantelli_vc l0 b0 n1 b1 n2 b2) (Nat.le_of_ble_eq_true rfl) W [v0, .int .i64 n1, .int .i64 n2] (All.cons i0 (All.cons (.int _ _) (All.cons (.int _ _) All.nil)))
set_option maxRecDepth 100000 in
theorem TailCantelli_lifted (os : Os) (started : os.Started) (H : Type) (enc : TypeId × Value → H) :
    ReturnsInHanded {} Try.checked os 11 .any (Rows.tailCantelliSpec.pre6 enc Try.prog Try.f11 Rows.tailCantelliRow.domain false) (Rows.tailCantelliSpec.post enc Try.prog Try.f11 false true false false) := by
  refine returnsInHanded_of_change (C := Try.checked) lawy_own started (by kernel_rfl) Try.func11
    (ChangeSpec.witness6 (enc := enc) (C := Try.checked) false ⟨#[], #[.slice none 0 0, .int .i64 0, .int .i64 0], []⟩ 8 (by kernel_rfl) (by kernel_rfl) (by kernel_rfl) (by kernel_rfl)) ?_
  intro W base args ds gs before hval0 hW hcnd _
  have hval : ∀ (j : Nat) t v, Try.f11.params[j]? = some t → args[j]? = some v → Value.okWide Try.prog W .any base t v := hval0
  have hW' := hW
  obtain ⟨p, q, hA0, hV, rfl, hfz, hnd⟩ := hW
  have hA : DataW.TrodAll enc Try.prog W 0 (fun _ => true) true Try.f11.params.toList args.toList ds p := hA0
  rw [Try.params11] at hA hval
  obtain ⟨v0, vs0, d0, ds0, p0, q0, hargs, rfl, rfl, h0, r0⟩ := trodAll_cons hA
  obtain ⟨v1, vs1, d1, ds1, p1, q1, rfl, rfl, rfl, h1, r1⟩ := trodAll_cons r0
  obtain ⟨v2, vs2, d2, ds2, p2, q2, rfl, rfl, rfl, h2, r2⟩ := trodAll_cons r1
  obtain ⟨rfl, rfl, rfl⟩ := trodAll_nil r2
  obtain rfl : args = #[v0, v1, v2] := by cases args; simp_all
  obtain ⟨rfl, rfl⟩ := trodVars_none hV
  have lt0 := places_lt h0
  obtain ⟨l0, hl0, hi0⟩ := open_ints Try.underlying31 Try.underlying3 (by kernel_rfl) (hval 0 31 v0 rfl rfl) h0
  have lt1 := places_lt h1
  obtain ⟨n1, e1, _, _, wn1⟩ := open_int Try.underlying3 (hval 1 3 v1 rfl rfl) h1
  subst e1
  have lt2 := places_lt h2
  obtain ⟨n2, e2, _, _, wn2⟩ := open_int Try.underlying3 (hval 2 3 v2 rfl rfl) h2
  subst e2
  clear hA0 hval0
  refine (TailCantelli_walk W v0 l0 hl0 hi0 n1 (i64_of wn1) n2 (i64_of wn2)).mono fun e W' ⟨he, bel⟩ => ?_
  subst he
  exact ⟨_, rfl, _, _, _, [], _, [], hW', trodAll_mk1 (shut_bool Try.underlying4 _), (trodAll_cons_mk (bel.trod lawy_laid (by kernel_rfl) (of_decide_eq_true (by kernel_rfl)) h0 lt0) (trodAll_cons_mk (bel.trod lawy_laid (by kernel_rfl) (of_decide_eq_true (by kernel_rfl)) h1 lt1) (trodAll_cons_mk (bel.trod lawy_laid (by kernel_rfl) (of_decide_eq_true (by kernel_rfl)) h2 lt2) trodAll_mk0))), rfl, bel.frame _, fun h => by cases h⟩
theorem TailCantelli_holds : Rows.TailCantelliSaid :=
  OpenClaim.holds_of_wide 11 Try.f11 rfl rfl rfl rfl rfl rfl rfl ⟨rfl, rfl, rfl, rfl, rfl⟩ rfl rfl rfl rfl rfl (by kernel_rfl) Try.func11 (by kernel_rfl)
    (of_decide_eq_true (by kernel_rfl)) (by unfold Func.isWrapper; first | (rw [if_pos (by decide +kernel)]; kernel_rfl) | (rw [if_neg (by decide +kernel)]; exact ⟨rfl, rfl⟩))
    (fun os started H enc _ => TailCantelli_lifted os started H enc)
end Go.Proofs.Ytdnjbblejhojbaa
