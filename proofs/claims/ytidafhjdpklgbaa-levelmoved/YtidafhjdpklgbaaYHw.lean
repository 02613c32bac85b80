/- The statements' windows. -/
import Derived.Test.YtidafhjdpklgbaaYS5
import Derived.Test.YtidafhjdpklgbaaYK3
import Derived.Test.YtidafhjdpklgbaaYW5
import Derived.Test.YtidafhjdpklgbaaCWn
namespace Go.Proofs.Ytidafhjdpklgbaa
open Go.ChangeShapes Go.WideShapes Go.ChangeAt Go.RowKit Go.Joins Y
set_option linter.unusedSimpArgs false
set_option linter.unusedVariables false
set_option maxRecDepth 100000
set_option maxHeartbeats 40000000
def winL (l : List Int) : List Int := (1 :: valsL l).drop ((1 :: valsL l).length - 64)
theorem valsL_len (l : List Int) : (valsL l).length ≤ 64 := (listE_0.1 (valsL_ok l)).1
theorem winL_ok (l : List Int) : 1 ≤ (winL l).length ∧ (winL l).length ≤ 64 ∧ winE 64 (winL l) = 0 := by
  have h1 : (winL l).length = (valsL l).length + 1 - ((valsL l).length + 1 - 64) := by simp [winL]
  have h2 := valsL_len l
  refine ⟨by omega, by omega, winE_0.2 ⟨by omega, by omega, listE_0.2 ⟨by omega, fun x hx => ?_⟩⟩⟩
  have := List.mem_of_mem_drop hx
  rcases List.mem_cons.1 this with rfl | h
  · omega
  · exact (listE_0.1 (valsL_ok l)).2 x h
def gWn : List (Nat × Say) := [(30, valuesS)]
theorem gWn_ok : GamOk Try.prog (gamY gWn) := gam_ok (gam_cons values_ok gam_nil)
def windowS : Say
  | [x_l] => (match asI x_l with | some l => some (True, .agg [.int .i64 64, .rw (.ints .i64 (winL l))], none) | _ => none)
  | _ => none
theorem window_ok : FOk Try.prog 34 windowS := by
  intro xs p r own h hp
  unfold windowS at h
  split at h
  case h_2 => cases h
  rename_i x_l
  split at h
  case h_2 => cases h
  rename_i l h_l
  simp only [Option.some.injEq, Prod.mk.injEq] at h
  obtain ⟨rfl, rfl, rfl⟩ := h
  refine fun_fit (ys := [.rw (.ints .i64 l)]) ?_ ⟨asI_fit h_l, trivial⟩
  clear h_l
  refine fun_ok gWn_ok lawy_mixed y34_eq none ?_ (Nat.le_of_ble_eq_true rfl)
  have h2 := valsL_len l
  have hL : winL l = (1 :: valsL l).drop ((1 :: valsL l).length - 64) := rfl
  rw [hL]
  generalize hm : valsL l = m at *
  have b1 := i64_wrap (show I64 ((m.length : Int) + 1 - 64) by unfold I64; omega)
  have hml : ((1 : Int) :: m).length = m.length + 1 := rfl
  rw [hml]
  have e1 : (if 0 < (m.length : Int) + 1 - 64 then (m.length : Int) + 1 - 64 else 0).toNat = m.length + 1 - 64 := by split <;> omega
  have e2 : (0 : Int) ≤ (if 0 < (m.length : Int) + 1 - 64 then (m.length : Int) + 1 - 64 else 0) := by split <;> omega
  have e3 : (if 0 < (m.length : Int) + 1 - 64 then (m.length : Int) + 1 - 64 else 0) ≤ (m.length : Int) + 1 := by split <;> omega
  have e4 : List.take (m.length + 1) ((1 : Int) :: m) = 1 :: m := List.take_of_length_le (by simp)
  simp (config := { maxSteps := 9000000 }) only [↓vyD, vyU, binS, SV.go1, SV.go0, mkRow, intsOf, boolsOf, strsOf, chunks, Row.rep, Row.cat, Row.sub, Row.put, Row.len, Row.get, Row.size, Row.flat, bnds, own0, own1, labsL, labsR, SV.labs, argsOf, entFr, SO.ev, St.of, keepSt, getAll, lookN, hasN, SV.cells, SV.one, SV.res1, SV.res0, SV.resP, SV.ok1, SV.ok0, SV.okN, SV.solid, SV.solid1, SV.solid0, SV.flat0, SV.nm, SV.nm1, SV.nm0, SV.noPtr1, SV.noPtr0, Cel.isFresh, fillP, setAt, partV, eqCells, cellEq, gamY, listsOk, tupOf, takeOwn, SV.ret1, resAll, resL, resV, Nat.reduceEqDiff, ↓reduceIte, Nat.reduceAdd, Nat.reduceMul, Nat.reduceLeDiff, Nat.reduceLT, reduceCtorEq, labOk, Int.reduceBEq, Int.reduceBNe, Int.reduceToNat, Int.reduceLE, Int.reduceLT, Int.reduceEq, Nat.reduceDiv, Nat.reduceMod, Nat.reduceSub, Nat.reduceBEq, fitR, fitR1, fitR0, fitRL1, fitRL, y34, gWn, valuesS, asI, hm, gt_iff_lt, List.singleton_append, List.length_cons, Int.natCast_add, Int.natCast_one, b1, e1, e2, e3, e4, Int.le_refl]
  refine ⟨by omega, ?_⟩
  rw [show ((m.length : Int) + 1).toNat = m.length + 1 by omega, e4]
end Go.Proofs.Ytidafhjdpklgbaa
