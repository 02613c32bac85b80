/- hwkeep.FadeNearer returns true for every five whole numbers. No condition. -/
import Derived.Test.YtdnjbblejhojbaaYFs
import Derived.Test.YtdnjbblejhojbaaCYFadeNearer
namespace Go.Proofs.Ytdnjbblejhojbaa
open Go.ChangeShapes Go.WideShapes Go.ChangeAt Go.RowKit Go.Joins Y
set_option linter.unusedSimpArgs false
set_option linter.unusedVariables false
set_option maxRecDepth 100000
set_option maxHeartbeats 40000000
def gl : List (Nat × Say) := [(50, nextS), (55, withinS)]
theorem gl_ok : GamOk Try.prog (gamY gl) := gam_ok (gam_cons next_ok (gam_cons within_ok gam_nil))
theorem FadeNearer_vc (a : Int) (ba : I64 a) (b : Int) (bb : I64 b) (n : Int) (bn : I64 n) (k : Int) (bk : I64 k) (s : Int) (bs : I64 s) : vcFun (gamY gl) y14 [.int .i64 a, .int .i64 b, .int .i64 n, .int .i64 k, .int .i64 s] none (fun v o => v = .bool true) := by
  have z1 : nextR 0 1 8 = 1 := by decide
  have z2 : nextE 0 1 8 = 0 := by decide
  have ha := withinN_lt a (n := 4294967297) (by omega)
  generalize hA : withinN a 4294967297 = A at *
  have hb := withinN_lt b (n := 4294967297) (by omega)
  generalize hB : withinN b 4294967297 = B at *
  have hn := withinN_lt n (n := 8388608) (by omega)
  generalize hN : withinN n 8388608 = N at *
  have hk := withinN_lt k (n := 8388608) (by omega)
  generalize hK : withinN k 8388608 = M at *
  have hs := withinN_lt s (n := 9) (by omega)
  generalize hS : withinN s 9 = S at *
  have w1 : I64 4294967297 := by unfold I64; omega
  have w2 : I64 8388608 := by unfold I64; omega
  have w3 : I64 9 := by unfold I64; omega
  have b1 := i64_wrap (show I64 (N + M) by unfold I64; omega)
  obtain ⟨lo, hlo, l1⟩ : ∃ lo, (if B < A then B else A) = lo ∧ 0 ≤ lo ∧ lo ≤ 4294967296 := ⟨_, rfl, by split <;> omega, by split <;> omega⟩
  obtain ⟨hi, hhi, l2⟩ : ∃ hi, (if A < B then B else A) = hi ∧ 0 ≤ hi ∧ hi ≤ 4294967296 := ⟨_, rfl, by split <;> omega, by split <;> omega⟩
  have lh : lo ≤ hi := by rw [← hlo, ← hhi]; split <;> split <;> omega
  have e1 : nextE lo N S = 0 := nextE_0.2 ⟨l1, by omega, by omega, by omega⟩
  have e2 : nextE hi N S = 0 := nextE_0.2 ⟨l2, by omega, by omega, by omega⟩
  have e3 : nextE lo (N + M) S = 0 := nextE_0.2 ⟨l1, by omega, by omega, by omega⟩
  have v1 : nextR lo N S = nextV lo N S := if_pos e1
  have v2 : nextR hi N S = nextV hi N S := if_pos e2
  have v3 : nextR lo (N + M) S = nextV lo (N + M) S := if_pos e3
  obtain ⟨m1, m2⟩ := next_mono (n := N) (s := S) hs.1 (by omega) lh
  have m3 := next_more (a := lo) (n := N) (n' := N + M) (s := S) hs.1 (by omega) (by omega)
  have c1 := next_low (m := lo) (n := N) (s := S) (a := 0) hs.1 (by omega) (by omega) (by omega)
  have c2 := next_high (m := lo) (n := N) (s := S) (a := 4294967296) hs.1 (by omega) (by omega) (by omega)
  have c3 := next_low (m := hi) (n := N) (s := S) (a := 0) hs.1 (by omega) (by omega) (by omega)
  have c4 := next_high (m := hi) (n := N) (s := S) (a := 4294967296) hs.1 (by omega) (by omega) (by omega)
  have b2 := i64_wrap (show I64 (nextV hi N S - nextV lo N S) by unfold I64; omega)
  have b3 := i64_wrap (show I64 (hi - lo) by unfold I64; omega)
  simp (config := { maxSteps := 9000000 }) only [↓vyD, vyU, binS, SV.go1, SV.go0, mkRow, intsOf, boolsOf, strsOf, chunks, Row.rep, Row.cat, Row.sub, Row.put, Row.len, Row.get, Row.size, Row.flat, bnds, own0, own1, labsL, labsR, SV.labs, argsOf, entFr, SO.ev, St.of, keepSt, getAll, lookN, hasN, SV.cells, SV.one, SV.res1, SV.res0, SV.resP, SV.ok1, SV.ok0, SV.okN, SV.solid, SV.solid1, SV.solid0, SV.flat0, SV.nm, SV.nm1, SV.nm0, SV.noPtr1, SV.noPtr0, Cel.isFresh, fillP, setAt, partV, eqCells, cellEq, gamY, listsOk, tupOf, takeOwn, SV.ret1, resAll, resL, resV, Nat.reduceEqDiff, ↓reduceIte, Nat.reduceAdd, Nat.reduceMul, Nat.reduceLeDiff, reduceCtorEq, labOk, Int.reduceBEq, Int.reduceBNe, Int.reduceToNat, Int.reduceLE, Int.reduceLT, Int.reduceEq, Nat.reduceDiv, Nat.reduceMod, Nat.reduceSub, Nat.reduceBEq, y14, gl, nextS, withinS, hA, hB, hN, hK, hS, z1, z2, w1, w2, w3, b1, b2, b3, hlo, hhi, e1, e2, e3, v1, v2, v3, m1, m2, m3]
theorem FadeNearer_walk (W : World) (n0 : Int) (b0 : I64 n0) (n1 : Int) (b1 : I64 n1) (n2 : Int) (b2 : I64 n2) (n3 : Int) (b3 : I64 n3) (n4 : Int) (b4 : I64 n4) :
    Calls Try.prog 14 #[.int .i64 n0, .int .i64 n1, .int .i64 n2, .int .i64 n3, .int .i64 n4] W fun e w' => e = .returned (.bool true) ∧ Below W.heap.size W w' :=
  law_callY gl_ok lawy_mixed y14_eq (FadeNearer_vc n0 b0 n1 b1 n2 b2 n3 b3 n4 b4) (Nat.le_of_ble_eq_true rfl) W [.int .i64 n0, .int .i64 n1, .int .i64 n2, .int .i64 n3, .int .i64 n4] (All.cons (.int _ _) (All.cons (.int _ _) (All.cons (.int _ _) (All.cons (.int _ _) (All.cons (.int _ _) All.nil)))))
set_option maxRecDepth 100000 in
theorem FadeNearer_lifted (os : Os) (started : os.Started) (H : Type) (enc : TypeId × Value → H) :
    ReturnsInHanded {} Try.checked os 14 .any (Rows.fadeNearerSpec.pre6 enc Try.prog Try.f14 Rows.fadeNearerRow.domain false) (Rows.fadeNearerSpec.post enc Try.prog Try.f14 false true false false) := by
  refine returnsInHanded_of_change (C := Try.checked) lawy_own started (by kernel_rfl) Try.func14
    (ChangeSpec.witness6 (enc := enc) (C := Try.checked) false ⟨#[], #[.int .i64 0, .int .i64 0, .int .i64 0, .int .i64 0, .int .i64 0], []⟩ 8 (by kernel_rfl) (by kernel_rfl) (by kernel_rfl) (by kernel_rfl)) ?_
  intro W base args ds gs before hval0 hW hcnd _
  have hval : ∀ (j : Nat) t v, Try.f14.params[j]? = some t → args[j]? = some v → Value.okWide Try.prog W .any base t v := hval0
  have hW' := hW
  obtain ⟨p, q, hA0, hV, rfl, hfz, hnd⟩ := hW
  have hA : DataW.TrodAll enc Try.prog W 0 (fun _ => true) true Try.f14.params.toList args.toList ds p := hA0
  rw [Try.params14] at hA hval
  obtain ⟨v0, vs0, d0, ds0, p0, q0, hargs, rfl, rfl, h0, r0⟩ := trodAll_cons hA
  obtain ⟨v1, vs1, d1, ds1, p1, q1, rfl, rfl, rfl, h1, r1⟩ := trodAll_cons r0
  obtain ⟨v2, vs2, d2, ds2, p2, q2, rfl, rfl, rfl, h2, r2⟩ := trodAll_cons r1
  obtain ⟨v3, vs3, d3, ds3, p3, q3, rfl, rfl, rfl, h3, r3⟩ := trodAll_cons r2
  obtain ⟨v4, vs4, d4, ds4, p4, q4, rfl, rfl, rfl, h4, r4⟩ := trodAll_cons r3
  obtain ⟨rfl, rfl, rfl⟩ := trodAll_nil r4
  obtain rfl : args = #[v0, v1, v2, v3, v4] := by cases args; simp_all
  obtain ⟨rfl, rfl⟩ := trodVars_none hV
  have lt0 := places_lt h0
  obtain ⟨n0, e0, _, _, wn0⟩ := open_int Try.underlying3 (hval 0 3 v0 rfl rfl) h0
  subst e0
  have lt1 := places_lt h1
  obtain ⟨n1, e1, _, _, wn1⟩ := open_int Try.underlying3 (hval 1 3 v1 rfl rfl) h1
  subst e1
  have lt2 := places_lt h2
  obtain ⟨n2, e2, _, _, wn2⟩ := open_int Try.underlying3 (hval 2 3 v2 rfl rfl) h2
  subst e2
  have lt3 := places_lt h3
  obtain ⟨n3, e3, _, _, wn3⟩ := open_int Try.underlying3 (hval 3 3 v3 rfl rfl) h3
  subst e3
  have lt4 := places_lt h4
  obtain ⟨n4, e4, _, _, wn4⟩ := open_int Try.underlying3 (hval 4 3 v4 rfl rfl) h4
  subst e4
  clear hA0 hval0
  refine (FadeNearer_walk W n0 (i64_of wn0) n1 (i64_of wn1) n2 (i64_of wn2) n3 (i64_of wn3) n4 (i64_of wn4)).mono fun e W' ⟨he, bel⟩ => ?_
  subst he
  exact ⟨_, rfl, _, _, _, [], _, [], hW', trodAll_mk1 (shut_bool Try.underlying4 _), (trodAll_cons_mk (bel.trod lawy_laid (by kernel_rfl) (of_decide_eq_true (by kernel_rfl)) h0 lt0) (trodAll_cons_mk (bel.trod lawy_laid (by kernel_rfl) (of_decide_eq_true (by kernel_rfl)) h1 lt1) (trodAll_cons_mk (bel.trod lawy_laid (by kernel_rfl) (of_decide_eq_true (by kernel_rfl)) h2 lt2) (trodAll_cons_mk (bel.trod lawy_laid (by kernel_rfl) (of_decide_eq_true (by kernel_rfl)) h3 lt3) (trodAll_cons_mk (bel.trod lawy_laid (by kernel_rfl) (of_decide_eq_true (by kernel_rfl)) h4 lt4) trodAll_mk0))))), rfl, bel.frame _, fun h => by cases h⟩
theorem FadeNearer_holds : Rows.FadeNearerSaid :=
  OpenClaim.holds_of_wide 14 Try.f14 rfl rfl rfl rfl rfl rfl rfl ⟨rfl, rfl, rfl, rfl, rfl⟩ rfl rfl rfl rfl rfl (by kernel_rfl) Try.func14 (by kernel_rfl)
    (of_decide_eq_true (by kernel_rfl)) (by unfold Func.isWrapper; first | (rw [if_pos (by decide +kernel)]; kernel_rfl) | (rw [if_neg (by decide +kernel)]; exact ⟨rfl, rfl⟩))
    (fun os started H enc _ => FadeNearer_lifted os started H enc)
end Go.Proofs.Ytdnjbblejhojbaa
