/- hwkeep.FadeBetween returns true for every three whole numbers and every list of whole numbers. No condition. -/
import Derived.Test.YtdnjbblejhojbaaYFs
import Derived.Test.YtdnjbblejhojbaaYT5
import Derived.Test.YtdnjbblejhojbaaCYFadeBetween
namespace Go.Proofs.Ytdnjbblejhojbaa
open Go.ChangeShapes Go.WideShapes Go.ChangeAt Go.RowKit Go.Joins Y
set_option linter.unusedSimpArgs false
set_option linter.unusedVariables false
set_option maxRecDepth 100000
set_option maxHeartbeats 40000000
def gl : List (Nat × Say) := [(50, nextS), (51, runS), (55, withinS), (54, valuesS), (63, minS), (64, maxS)]
theorem gl_ok : GamOk Try.prog (gamY gl) := gam_ok (gam_cons next_ok (gam_cons run_ok (gam_cons within_ok (gam_cons values_ok (gam_cons min_ok (gam_cons max_ok gam_nil))))))
theorem FadeBetween_vc (a : Int) (ba : I64 a) (n : Int) (bn : I64 n) (s : Int) (bs : I64 s) (l : List Int) (bl : AllI l) : vcFun (gamY gl) y13 [.int .i64 a, .int .i64 n, .int .i64 s, .rw (.ints .i64 l)] none (fun v o => v = .bool true) := by
  obtain ⟨hl, ho, hk, h64, hv⟩ := vals_all l
  generalize hmm : valsL l = m at *
  have z1 : nextR 256 3 1 = 512 := by decide
  have z2 : nextE 256 3 1 = 0 := by decide
  have ha := withinN_lt a (n := 4294967297) (by omega)
  generalize hA : withinN a 4294967297 = A at *
  have hn := withinN_lt n (n := 16777217) (by omega)
  generalize hN : withinN n 16777217 = N at *
  have hs := withinN_lt s (n := 9) (by omega)
  generalize hS : withinN s 9 = S at *
  have w1 : I64 4294967297 := by unfold I64; omega
  have w2 : I64 16777217 := by unfold I64; omega
  have w3 : I64 9 := by unfold I64; omega
  have b1 := i64_wrap (show I64 (256 * N) by unfold I64; omega)
  have e1 : nextE A N S = 0 := nextE_0.2 ⟨by omega, by omega, by omega, by omega⟩
  have v1 : nextR A N S = nextV A N S := if_pos e1
  have m1 : ¬ nextV A N S < (if 256 * N < A then 256 * N else A) := by
    have := next_low (m := A) (n := N) (s := S) (a := if 256 * N < A then 256 * N else A) hs.1 (by omega) (by split <;> omega) (by split <;> omega)
    omega
  have m2 : ¬ (if A < 256 * N then 256 * N else A) < nextV A N S := by
    have := next_high (m := A) (n := N) (s := S) (a := if A < 256 * N then 256 * N else A) hs.1 (by omega) (by split <;> omega) (by split <;> omega)
    omega
  by_cases h0 : m.length = 0
  · have hm : m = [] := List.length_eq_zero_iff.1 h0
    simp (config := { maxSteps := 9000000 }) only [↓vyD, vyU, binS, SV.go1, SV.go0, mkRow, intsOf, boolsOf, strsOf, chunks, Row.rep, Row.cat, Row.sub, Row.put, Row.len, Row.get, Row.size, Row.flat, bnds, own0, own1, labsL, labsR, SV.labs, argsOf, entFr, SO.ev, St.of, keepSt, getAll, lookN, hasN, SV.cells, SV.one, SV.res1, SV.res0, SV.resP, SV.ok1, SV.ok0, SV.okN, SV.solid, SV.solid1, SV.solid0, SV.flat0, SV.nm, SV.nm1, SV.nm0, SV.noPtr1, SV.noPtr0, Cel.isFresh, fillP, setAt, partV, eqCells, cellEq, gamY, listsOk, tupOf, takeOwn, SV.ret1, resAll, resL, resV, Nat.reduceEqDiff, ↓reduceIte, Nat.reduceAdd, Nat.reduceMul, Nat.reduceLeDiff, reduceCtorEq, labOk, Int.reduceBEq, Int.reduceBNe, Int.reduceToNat, Int.reduceLE, Int.reduceLT, Int.reduceEq, Nat.reduceDiv, Nat.reduceMod, Nat.reduceSub, Nat.reduceBEq, y13, gl, nextS, runS, withinS, valuesS, minS, maxS, asI, hmm, hA, hN, hS, z1, z2, w1, w2, w3, b1, e1, v1, m1, m2, h0]
  · have h0' : ((m.length : Int) == 0) = false := by simp only [beq_eq_false_iff_ne]; omega
    have e2 : runE m S = 0 := runE_0.2 ⟨hl, by omega, h0⟩
    have v2 : runR m S = runV m S := if_pos e2
    have hne : m ≠ [] := fun h => h0 (by rw [h]; rfl)
    obtain ⟨i1, i2⟩ := minL_spec hne
    obtain ⟨j1, j2⟩ := maxL_spec hne
    have q1 := run_low (l := m) (s := S) hs.1 (by omega) h0 i2
    have q2 := run_high (l := m) (s := S) hs.1 (by omega) h0 j2
    have i3 := hv _ i1
    have j3 := hv _ j1
    have b2 := i64_wrap (show I64 (256 * minL m) by unfold I64; omega)
    have b3 := i64_wrap (show I64 (256 * maxL m) by unfold I64; omega)
    have c1 : 0 < m.length := by omega
    have c2 : m.length ≤ 4294967296 := by omega
    simp (config := { maxSteps := 9000000 }) only [↓vyD, vyU, binS, SV.go1, SV.go0, mkRow, intsOf, boolsOf, strsOf, chunks, Row.rep, Row.cat, Row.sub, Row.put, Row.len, Row.get, Row.size, Row.flat, bnds, own0, own1, labsL, labsR, SV.labs, argsOf, entFr, SO.ev, St.of, keepSt, getAll, lookN, hasN, SV.cells, SV.one, SV.res1, SV.res0, SV.resP, SV.ok1, SV.ok0, SV.okN, SV.solid, SV.solid1, SV.solid0, SV.flat0, SV.nm, SV.nm1, SV.nm0, SV.noPtr1, SV.noPtr0, Cel.isFresh, fillP, setAt, partV, eqCells, cellEq, gamY, listsOk, tupOf, takeOwn, SV.ret1, resAll, resL, resV, Nat.reduceEqDiff, ↓reduceIte, Nat.reduceAdd, Nat.reduceMul, Nat.reduceLeDiff, reduceCtorEq, labOk, Int.reduceBEq, Int.reduceBNe, Int.reduceToNat, Int.reduceLE, Int.reduceLT, Int.reduceEq, Nat.reduceDiv, Nat.reduceMod, Nat.reduceSub, Nat.reduceBEq, y13, gl, nextS, runS, withinS, valuesS, minS, maxS, asI, hmm, hA, hN, hS, z1, z2, w1, w2, w3, b1, e1, v1, m1, m2, h0', e2, v2, b2, b3, c1, c2, q1, q2]
theorem FadeBetween_walk (W : World) (n0 : Int) (b0 : I64 n0) (n1 : Int) (b1 : I64 n1) (n2 : Int) (b2 : I64 n2) (v3 : Value) (l3 : List Int) (b3 : AllI l3) (i3 : Is (E0 W fun _ => False) (.rw (.ints .i64 l3)) v3) :
    Calls Try.prog 13 #[.int .i64 n0, .int .i64 n1, .int .i64 n2, v3] W fun e w' => e = .returned (.bool true) ∧ Below W.heap.size W w' :=
  law_callY gl_ok lawy_mixed y13_eq (FadeBetween_vc n0 b0 n1 b1 n2 b2 l3 b3) (Nat.le_of_ble_eq_true rfl) W [.int .i64 n0, .int .i64 n1, .int .i64 n2, v3] (All.cons (.int _ _) (All.cons (.int _ _) (All.cons (.int _ _) (All.cons i3 All.nil))))
set_option maxRecDepth 100000 in
theorem FadeBetween_lifted (os : Os) (started : os.Started) (H : Type) (enc : TypeId × Value → H) :
    ReturnsInHanded {} Try.checked os 13 .any (Rows.fadeBetweenSpec.pre6 enc Try.prog Try.f13 Rows.fadeBetweenRow.domain false) (Rows.fadeBetweenSpec.post enc Try.prog Try.f13 false true false false) := by
  refine returnsInHanded_of_change (C := Try.checked) lawy_own started (by kernel_rfl) Try.func13
    (ChangeSpec.witness6 (enc := enc) (C := Try.checked) false ⟨#[], #[.int .i64 0, .int .i64 0, .int .i64 0, .slice none 0 0], []⟩ 8 (by kernel_rfl) (by kernel_rfl) (by kernel_rfl) (by kernel_rfl)) ?_
  intro W base args ds gs before hval0 hW hcnd _
  have hval : ∀ (j : Nat) t v, Try.f13.params[j]? = some t → args[j]? = some v → Value.okWide Try.prog W .any base t v := hval0
  have hW' := hW
  obtain ⟨p, q, hA0, hV, rfl, hfz, hnd⟩ := hW
  have hA : DataW.TrodAll enc Try.prog W 0 (fun _ => true) true Try.f13.params.toList args.toList ds p := hA0
  rw [Try.params13] at hA hval
  obtain ⟨v0, vs0, d0, ds0, p0, q0, hargs, rfl, rfl, h0, r0⟩ := trodAll_cons hA
  obtain ⟨v1, vs1, d1, ds1, p1, q1, rfl, rfl, rfl, h1, r1⟩ := trodAll_cons r0
  obtain ⟨v2, vs2, d2, ds2, p2, q2, rfl, rfl, rfl, h2, r2⟩ := trodAll_cons r1
  obtain ⟨v3, vs3, d3, ds3, p3, q3, rfl, rfl, rfl, h3, r3⟩ := trodAll_cons r2
  obtain ⟨rfl, rfl, rfl⟩ := trodAll_nil r3
  obtain rfl : args = #[v0, v1, v2, v3] := by cases args; simp_all
  obtain ⟨rfl, rfl⟩ := trodVars_none hV
  have lt0 := places_lt h0
  obtain ⟨n0, e0, _, _, wn0⟩ := open_int Try.underlying3 (hval 0 3 v0 rfl rfl) h0
  subst e0
  have lt1 := places_lt h1
  obtain ⟨n1, e1, _, _, wn1⟩ := open_int Try.underlying3 (hval 1 3 v1 rfl rfl) h1
  subst e1
  have lt2 := places_lt h2
  obtain ⟨n2, e2, _, _, wn2⟩ := open_int Try.underlying3 (hval 2 3 v2 rfl rfl) h2
  subst e2
  have lt3 := places_lt h3
  obtain ⟨l3, hl3, hi3⟩ := open_ints Try.underlying31 Try.underlying3 (by kernel_rfl) (hval 3 31 v3 rfl rfl) h3
  clear hA0 hval0
  refine (FadeBetween_walk W n0 (i64_of wn0) n1 (i64_of wn1) n2 (i64_of wn2) v3 l3 hl3 hi3).mono fun e W' ⟨he, bel⟩ => ?_
  subst he
  exact ⟨_, rfl, _, _, _, [], _, [], hW', trodAll_mk1 (shut_bool Try.underlying4 _), (trodAll_cons_mk (bel.trod lawy_laid (by kernel_rfl) (of_decide_eq_true (by kernel_rfl)) h0 lt0) (trodAll_cons_mk (bel.trod lawy_laid (by kernel_rfl) (of_decide_eq_true (by kernel_rfl)) h1 lt1) (trodAll_cons_mk (bel.trod lawy_laid (by kernel_rfl) (of_decide_eq_true (by kernel_rfl)) h2 lt2) (trodAll_cons_mk (bel.trod lawy_laid (by kernel_rfl) (of_decide_eq_true (by kernel_rfl)) h3 lt3) trodAll_mk0)))), rfl, bel.frame _, fun h => by cases h⟩
theorem FadeBetween_holds : Rows.FadeBetweenSaid :=
  OpenClaim.holds_of_wide 13 Try.f13 rfl rfl rfl rfl rfl rfl rfl ⟨rfl, rfl, rfl, rfl, rfl⟩ rfl rfl rfl rfl rfl (by kernel_rfl) Try.func13 (by kernel_rfl)
    (of_decide_eq_true (by kernel_rfl)) (by unfold Func.isWrapper; first | (rw [if_pos (by decide +kernel)]; kernel_rfl) | (rw [if_neg (by decide +kernel)]; exact ⟨rfl, rfl⟩))
    (fun os started H enc _ => FadeBetween_lifted os started H enc)
end Go.Proofs.Ytdnjbblejhojbaa
