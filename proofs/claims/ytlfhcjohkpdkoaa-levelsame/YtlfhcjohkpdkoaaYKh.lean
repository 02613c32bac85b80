/- What the statements' small helpers num and short do. -/
import Derived.Test.YtlfhcjohkpdkoaaYWd
import Derived.Test.YtlfhcjohkpdkoaaCS3
import Derived.Test.YtlfhcjohkpdkoaaCKh
namespace Go.Proofs.Ytlfhcjohkpdkoaa
open Go.ChangeShapes Go.WideShapes Go.ChangeAt Go.RowKit Go.Joins Y
set_option linter.unusedSimpArgs false
set_option linter.unusedVariables false
set_option maxRecDepth 100000
set_option maxHeartbeats 40000000
def numS : Say
  | [.int .i64 n] => some (0 ≤ n ∧ n ≤ 9223372036854775807, wd n.toNat, none)
  | _ => none
theorem num_ok : FOk Try.prog 39 numS := by
  intro xs p r own h hp
  unfold numS at h
  split at h
  case h_2 => cases h
  rename_i n
  simp only [Option.some.injEq, Prod.mk.injEq] at h
  obtain ⟨rfl, rfl, rfl⟩ := h
  refine fun_ok (gam_ok gam_nil) lawy_mixed y39_eq none ?_ (Nat.le_of_ble_eq_true rfl)
  obtain ⟨h1, h2⟩ := hp
  obtain ⟨N, rfl⟩ := Int.eq_ofNat_of_zero_le h1
  have w1 : Word N := by unfold Word; omega
  have e1 := hiN_of_word w1
  have e2 := loN_of_word w1
  have e3 : IntKind.u64.wrap (N : Int) = N := u64_wrap (by unfold U64; omega)
  simp (config := { maxSteps := 9000000 }) only [↓vyD, vyU, binS, SV.go1, SV.go0, mkRow, intsOf, boolsOf, strsOf, chunks, Row.rep, Row.cat, Row.sub, Row.put, Row.len, Row.get, Row.size, Row.flat, bnds, own0, own1, labsL, labsR, SV.labs, argsOf, entFr, SO.ev, St.of, keepSt, getAll, lookN, hasN, SV.cells, SV.one, SV.res1, SV.res0, SV.resP, SV.ok1, SV.ok0, SV.okN, SV.solid, SV.solid1, SV.solid0, SV.flat0, SV.nm, SV.nm1, SV.nm0, SV.noPtr1, SV.noPtr0, Cel.isFresh, fillP, setAt, partV, eqCells, cellEq, gamY, listsOk, tupOf, takeOwn, SV.ret1, resAll, resL, resV, Nat.reduceEqDiff, ↓reduceIte, Nat.reduceAdd, Nat.reduceMul, Nat.reduceLeDiff, Nat.reduceLT, reduceCtorEq, labOk, Int.reduceBEq, Int.reduceBNe, Int.reduceToNat, Int.reduceLE, Int.reduceLT, Int.reduceEq, Nat.reduceDiv, Nat.reduceMod, Nat.reduceSub, Nat.reduceBEq, fitR, fitR1, fitR0, fitRL1, fitRL, wd, wN_hl, OkW_hl, eq_hl, eq_h0, wN_0, OkW_0, cmpN_le0, cmpN_gt0, cmpN_lt0, cmpN_ge0, Int.toNat_natCast, y39, e1, e2, e3]
end Go.Proofs.Ytlfhcjohkpdkoaa
