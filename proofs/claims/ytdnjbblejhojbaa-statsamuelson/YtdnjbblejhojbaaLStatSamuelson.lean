/- hwkeep.StatSamuelson returns true for every list of whole numbers and every whole number. No condition. -/
import Derived.Test.YtdnjbblejhojbaaYM9
import Derived.Test.YtdnjbblejhojbaaYKh
import Derived.Test.YtdnjbblejhojbaaCYStatSamuelson
namespace Go.Proofs.Ytdnjbblejhojbaa
open Go.ChangeShapes Go.WideShapes Go.ChangeAt Go.RowKit Go.Joins Y
set_option linter.unusedSimpArgs false
set_option linter.unusedVariables false
set_option maxRecDepth 100000
set_option maxHeartbeats 40000000
def gl : List (Nat × Say) := [(53, begunS), (54, valuesS), (56, sumsS), (58, spreadXS), (55, withinS), (60, numS), (59, pTimesS), (62, pMulS), (61, wCmpS)]
theorem gl_ok : GamOk Try.prog (gamY gl) := gam_ok (gam_cons begun_ok (gam_cons values_ok (gam_cons sums_ok (gam_cons spreadX_ok (gam_cons within_ok (gam_cons num_ok (gam_cons pTimes_ok (gam_cons pMul_ok (gam_cons wCmp_ok gam_nil)))))))))
theorem StatSamuelson_vc (l : List Int) (bl : AllI l) (n : Int) (bn : I64 n) : vcFun (gamY gl) y10 [.rw (.ints .i64 l), .int .i64 n] none (fun v o => v = .bool true) := by
  obtain ⟨hl, ho, hk, h64, hv⟩ := vals_all l
  generalize hmm : valsL l = m at *
  by_cases h0 : m.length = 0
  · simp (config := { maxSteps := 9000000 }) only [↓vyD, vyU, binS, SV.go1, SV.go0, mkRow, intsOf, boolsOf, strsOf, chunks, Row.rep, Row.cat, Row.sub, Row.put, Row.len, Row.get, Row.size, Row.flat, bnds, own0, own1, labsL, labsR, SV.labs, argsOf, entFr, SO.ev, St.of, keepSt, getAll, lookN, hasN, SV.cells, SV.one, SV.res1, SV.res0, SV.resP, SV.ok1, SV.ok0, SV.okN, SV.solid, SV.solid1, SV.solid0, SV.flat0, SV.nm, SV.nm1, SV.nm0, SV.noPtr1, SV.noPtr0, Cel.isFresh, fillP, setAt, partV, eqCells, cellEq, gamY, listsOk, tupOf, takeOwn, SV.ret1, resAll, resL, resV, Nat.reduceEqDiff, ↓reduceIte, Nat.reduceAdd, Nat.reduceMul, Nat.reduceLeDiff, reduceCtorEq, labOk, Int.reduceBEq, Int.reduceBNe, Int.reduceToNat, Int.reduceLE, Int.reduceLT, Int.reduceEq, Nat.reduceDiv, Nat.reduceMod, Nat.reduceSub, Nat.reduceBEq, y10, gl, begunS, valuesS, sumsS, spreadXS, withinS, numS, pTimesS, pMulS, wCmpS, asI, hmm, h0]
  · have h0' : ((m.length : Int) == 0) = false := by simp only [beq_eq_false_iff_ne]; omega
    have hi := withinN_lt n (n := m.length) (by omega)
    generalize hii : withinN n m.length = i at *
    have hx : m.getD i.toNat 0 ∈ m := getD_mem (by omega)
    have hsam := samuelson hx
    have hxv := hv _ hx
    generalize hxx : m.getD i.toNat 0 = x at *
    obtain ⟨⟨h1, h2⟩, ⟨h3, h4⟩, ⟨h5, h6⟩, h7⟩ := checkE_0.1 hk
    obtain ⟨q1, q2, q3, q4, q5, q6⟩ := check_bd h1 h2 h3 h4 h5 h6
    have m1 := mul_bd h1 h2 hxv.1 hxv.2
    have w0 : (0 : Int) < m.length := by omega
    have w1 : I64 (m.length : Int) := by unfold I64; omega
    have b1 := i64_wrap (show I64 (m.length * x) by unfold I64; omega)
    have b2 := i64_wrap (show I64 (m.length * x - sumL m) by unfold I64; omega)
    have hd1 : -1073741824 ≤ m.length * x - sumL m := by omega
    have hd2 : m.length * x - sumL m ≤ 1073741824 := by omega
    generalize hd : m.length * x - sumL m = d at *
    have b3 := i64_wrap (show I64 (0 - d) by unfold I64; omega)
    obtain ⟨B, hB⟩ : ∃ B : Nat, (if d < 0 - d then 0 - d else d) = (B : Int) := ⟨(if d < 0 - d then 0 - d else d).toNat, by split <;> omega⟩
    have hBd : (B : Int) * B = d * d := by
      rw [← hB]; split
      · grind
      · rfl
    have hB1 : (B : Int) ≤ 1073741824 := by rw [← hB]; split <;> omega
    have hB2 : B ≤ 1073741824 := by omega
    obtain ⟨K, hK⟩ : ∃ K : Nat, (m.length : Int) - 1 = (K : Int) := ⟨m.length - 1, by omega⟩
    obtain ⟨g, hg⟩ := Int.eq_ofNat_of_zero_le h7
    rw [hK, hg, ← hBd] at hsam
    have hfin : B * B ≤ K * g := by
      rw [← Int.ofNat_le]; simpa using hsam
    have b4 : IntKind.i64.wrap (K : Int) = K := i64_wrap (by unfold I64; omega)
    have b5 : IntKind.u64.wrap (B : Int) = B := u64_wrap (by unfold U64; omega)
    have hKg : K * g ≤ 64 * 1152921504606846976 := Nat.mul_le_mul (by omega) (by omega)
    have hBB : B * B ≤ 1073741824 * 1073741824 := Nat.mul_le_mul hB2 hB2
    have wB : Word B := by unfold Word; omega
    have f1 : Fits (B * B) := fits_lt.2 (by omega)
    have f2 : Fits (K * g) := fits_lt.2 (by omega)
    have f3 : Fits K := fits_lt.2 (by omega)
    have f4 : Fits g := fits_lt.2 (by omega)
    have a1 : wMulN K g = K * g := if_pos (by omega)
    have a2 : wMulE K g = 0 := if_pos (by omega)
    have k1 : (0 : Int) ≤ K := by omega
    have k2 : (K : Int) ≤ 9223372036854775807 := by omega
    have k3 : (0 : Int) ≤ g := by omega
    have k4 : (g : Int) ≤ 9223372036854775807 := by omega
    have i1 := hi.1
    have i2 := hi.2
    simp (config := { maxSteps := 9000000 }) only [↓vyD, vyU, binS, SV.go1, SV.go0, mkRow, intsOf, boolsOf, strsOf, chunks, Row.rep, Row.cat, Row.sub, Row.put, Row.len, Row.get, Row.size, Row.flat, bnds, own0, own1, labsL, labsR, SV.labs, argsOf, entFr, SO.ev, St.of, keepSt, getAll, lookN, hasN, SV.cells, SV.one, SV.res1, SV.res0, SV.resP, SV.ok1, SV.ok0, SV.okN, SV.solid, SV.solid1, SV.solid0, SV.flat0, SV.nm, SV.nm1, SV.nm0, SV.noPtr1, SV.noPtr0, Cel.isFresh, fillP, setAt, partV, eqCells, cellEq, gamY, listsOk, tupOf, takeOwn, SV.ret1, resAll, resL, resV, Nat.reduceEqDiff, ↓reduceIte, Nat.reduceAdd, Nat.reduceMul, Nat.reduceLeDiff, reduceCtorEq, labOk, Int.reduceBEq, Int.reduceBNe, Int.reduceToNat, Int.reduceLE, Int.reduceLT, Int.reduceEq, Nat.reduceDiv, Nat.reduceMod, Nat.reduceSub, Nat.reduceBEq, fitR, fitR1, fitR0, fitRL1, fitRL, wd, wN_hl, OkW_hl, eq_hl, eq_h0, wN_0, OkW_0, cmpN_le0, cmpN_gt0, cmpN_lt0, cmpN_ge0, Int.toNat_natCast, y10, gl, begunS, valuesS, sumsS, spreadXS, withinS, numS, pTimesS, pMulS, wCmpS, asI, hmm, h0', hii, hxx, ho, sv3, hk, w0, w1, i1, i2, b1, b2, hd, b3, hB, hK, hg, b4, b5, wB, f1, f2, f3, f4, a1, a2, k1, k2, k3, k4, hfin]
theorem StatSamuelson_walk (W : World) (v0 : Value) (l0 : List Int) (b0 : AllI l0) (i0 : Is (E0 W fun _ => False) (.rw (.ints .i64 l0)) v0) (n1 : Int) (b1 : I64 n1) :
    Calls Try.prog 10 #[v0, .int .i64 n1] W fun e w' => e = .returned (.bool true) ∧ Below W.heap.size W w' :=
  law_callY gl_ok lawy_mixed y10_eq (StatSamuelson_vc l0 b0 n1 b1) (Nat.le_of_ble_eq_true rfl) W [v0, .int .i64 n1] (All.cons i0 (All.cons (.int _ _) All.nil))
set_option maxRecDepth 100000 in
theorem StatSamuelson_lifted (os : Os) (started : os.Started) (H : Type) (enc : TypeId × Value → H) :
    ReturnsInHanded {} Try.checked os 10 .any (Rows.statSamuelsonSpec.pre6 enc Try.prog Try.f10 Rows.statSamuelsonRow.domain false) (Rows.statSamuelsonSpec.post enc Try.prog Try.f10 false true false false) := by
  refine returnsInHanded_of_change (C := Try.checked) lawy_own started (by kernel_rfl) Try.func10
    (ChangeSpec.witness6 (enc := enc) (C := Try.checked) false ⟨#[], #[.slice none 0 0, .int .i64 0], []⟩ 8 (by kernel_rfl) (by kernel_rfl) (by kernel_rfl) (by kernel_rfl)) ?_
  intro W base args ds gs before hval0 hW hcnd _
  have hval : ∀ (j : Nat) t v, Try.f10.params[j]? = some t → args[j]? = some v → Value.okWide Try.prog W .any base t v := hval0
  have hW' := hW
  obtain ⟨p, q, hA0, hV, rfl, hfz, hnd⟩ := hW
  have hA : DataW.TrodAll enc Try.prog W 0 (fun _ => true) true Try.f10.params.toList args.toList ds p := hA0
  rw [Try.params10] at hA hval
  obtain ⟨v0, vs0, d0, ds0, p0, q0, hargs, rfl, rfl, h0, r0⟩ := trodAll_cons hA
  obtain ⟨v1, vs1, d1, ds1, p1, q1, rfl, rfl, rfl, h1, r1⟩ := trodAll_cons r0
  obtain ⟨rfl, rfl, rfl⟩ := trodAll_nil r1
  obtain rfl : args = #[v0, v1] := by cases args; simp_all
  obtain ⟨rfl, rfl⟩ := trodVars_none hV
  have lt0 := places_lt h0
  obtain ⟨l0, hl0, hi0⟩ := open_ints Try.underlying31 Try.underlying3 (by kernel_rfl) (hval 0 31 v0 rfl rfl) h0
  have lt1 := places_lt h1
  obtain ⟨n1, e1, _, _, wn1⟩ := open_int Try.underlying3 (hval 1 3 v1 rfl rfl) h1
  subst e1
  clear hA0 hval0
  refine (StatSamuelson_walk W v0 l0 hl0 hi0 n1 (i64_of wn1)).mono fun e W' ⟨he, bel⟩ => ?_
  subst he
  exact ⟨_, rfl, _, _, _, [], _, [], hW', trodAll_mk1 (shut_bool Try.underlying4 _), (trodAll_cons_mk (bel.trod lawy_laid (by kernel_rfl) (of_decide_eq_true (by kernel_rfl)) h0 lt0) (trodAll_cons_mk (bel.trod lawy_laid (by kernel_rfl) (of_decide_eq_true (by kernel_rfl)) h1 lt1) trodAll_mk0)), rfl, bel.frame _, fun h => by cases h⟩
theorem StatSamuelson_holds : Rows.StatSamuelsonSaid :=
  OpenClaim.holds_of_wide 10 Try.f10 rfl rfl rfl rfl rfl rfl rfl ⟨rfl, rfl, rfl, rfl, rfl⟩ rfl rfl rfl rfl rfl (by kernel_rfl) Try.func10 (by kernel_rfl)
    (of_decide_eq_true (by kernel_rfl)) (by unfold Func.isWrapper; first | (rw [if_pos (by decide +kernel)]; kernel_rfl) | (rw [if_neg (by decide +kernel)]; exact ⟨rfl, rfl⟩))
    (fun os started H enc _ => StatSamuelson_lifted os started H enc)
end Go.Proofs.Ytdnjbblejhojbaa
