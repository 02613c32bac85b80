/- The document's answers on histograms (hwref): Hist, Long, Between, Part. -/
import Derived.Test.YtidafhjdpklgbaaYHj
import Derived.Test.YtidafhjdpklgbaaYR5
import Derived.Test.YtidafhjdpklgbaaCS4
namespace Go.Proofs.Ytidafhjdpklgbaa
open Go.ChangeShapes Go.WideShapes Go.ChangeAt Go.RowKit Go.Joins Y
set_option linter.unusedSimpArgs false
set_option linter.unusedVariables false
set_option maxRecDepth 100000
set_option maxHeartbeats 40000000
def gRp : List (Nat × Say) := [(54, rwithinS)]
theorem gRp_ok : GamOk Try.prog (gamY gRp) := gam_ok (gam_cons rwithin_ok gam_nil)
def rpartS : Say
  | [.int .i64 num, .int .i64 den] => some (True, .bool (decide (1 ≤ den ∧ den ≤ 1000 ∧ 0 ≤ num ∧ num ≤ den)), none)
  | _ => none
theorem rpart_ok : FOk Try.prog 20 rpartS := by
  intro xs p r own h hp
  unfold rpartS at h
  split at h
  case h_2 => cases h
  rename_i num den
  simp only [Option.some.injEq, Prod.mk.injEq] at h
  obtain ⟨rfl, rfl, rfl⟩ := h
  refine fun_ok gRp_ok lawy_mixed y20_eq none ?_ (Nat.le_of_ble_eq_true rfl)
  by_cases h1 : 1 ≤ den ∧ den ≤ 1000
  · have e1 : (1 ≤ den ∧ den ≤ 1000 ∧ 0 ≤ num ∧ num ≤ den) ↔ (0 ≤ num ∧ num ≤ den) := by omega
    simp (config := { maxSteps := 9000000 }) only [↓vyD, vyU, binS, SV.go1, SV.go0, mkRow, intsOf, boolsOf, strsOf, chunks, Row.rep, Row.cat, Row.sub, Row.put, Row.len, Row.get, Row.size, Row.flat, bnds, own0, own1, labsL, labsR, SV.labs, argsOf, entFr, SO.ev, St.of, keepSt, getAll, lookN, hasN, SV.cells, SV.one, SV.res1, SV.res0, SV.resP, SV.ok1, SV.ok0, SV.okN, SV.solid, SV.solid1, SV.solid0, SV.flat0, SV.nm, SV.nm1, SV.nm0, SV.noPtr1, SV.noPtr0, Cel.isFresh, fillP, setAt, partV, eqCells, cellEq, gamY, listsOk, tupOf, takeOwn, SV.ret1, resAll, resL, resV, Nat.reduceEqDiff, ↓reduceIte, Nat.reduceAdd, Nat.reduceMul, Nat.reduceLeDiff, Nat.reduceLT, reduceCtorEq, labOk, Int.reduceBEq, Int.reduceBNe, Int.reduceToNat, Int.reduceLE, Int.reduceLT, Int.reduceEq, Nat.reduceDiv, Nat.reduceMod, Nat.reduceSub, Nat.reduceBEq, fitR, fitR1, fitR0, fitRL1, fitRL, y20, gRp, rwithinS, h1, e1]
  · have e1 : (1 ≤ den ∧ den ≤ 1000 ∧ 0 ≤ num ∧ num ≤ den) ↔ False := ⟨fun h => h1 ⟨h.1, h.2.1⟩, False.elim⟩
    simp (config := { maxSteps := 9000000 }) only [↓vyD, vyU, binS, SV.go1, SV.go0, mkRow, intsOf, boolsOf, strsOf, chunks, Row.rep, Row.cat, Row.sub, Row.put, Row.len, Row.get, Row.size, Row.flat, bnds, own0, own1, labsL, labsR, SV.labs, argsOf, entFr, SO.ev, St.of, keepSt, getAll, lookN, hasN, SV.cells, SV.one, SV.res1, SV.res0, SV.resP, SV.ok1, SV.ok0, SV.okN, SV.solid, SV.solid1, SV.solid0, SV.flat0, SV.nm, SV.nm1, SV.nm0, SV.noPtr1, SV.noPtr0, Cel.isFresh, fillP, setAt, partV, eqCells, cellEq, gamY, listsOk, tupOf, takeOwn, SV.ret1, resAll, resL, resV, Nat.reduceEqDiff, ↓reduceIte, Nat.reduceAdd, Nat.reduceMul, Nat.reduceLeDiff, Nat.reduceLT, reduceCtorEq, labOk, Int.reduceBEq, Int.reduceBNe, Int.reduceToNat, Int.reduceLE, Int.reduceLT, Int.reduceEq, Nat.reduceDiv, Nat.reduceMod, Nat.reduceSub, Nat.reduceBEq, fitR, fitR1, fitR0, fitRL1, fitRL, y20, gRp, rwithinS, h1, e1]
def rlongS : Say
  | [.int .i64 n] => some (0 ≤ n ∧ n ≤ 16777216, .int .i64 (bitLen n.toNat : Nat), none)
  | _ => none
theorem rlong_ok : FOk Try.prog 23 rlongS := by
  intro xs p r own h hp
  unfold rlongS at h
  split at h
  case h_2 => cases h
  rename_i n
  simp only [Option.some.injEq, Prod.mk.injEq] at h
  obtain ⟨rfl, rfl, rfl⟩ := h
  refine fun_ok (gam_ok gam_nil) lawy_mixed y23_eq none ?_ (Nat.le_of_ble_eq_true rfl)
  obtain ⟨h1, h2⟩ := hp
  have h25 := len_25 (n := n) ⟨h1, h2⟩
  have hk : ∀ k : Nat, (2 : Int) ^ k ≤ n ↔ k < bitLen n.toNat := fun k => by
    have a1 := bitLen_lt_iff n.toNat k
    have a2 : (2 : Int) ^ k ≤ n ↔ 2 ^ k ≤ n.toNat := by
      rw [← Int.ofNat_le, Int.toNat_of_nonneg h1]; push_cast; rfl
    omega
  generalize bitLen n.toNat = B at *
  simp (config := { maxSteps := 9000000 }) only [↓vyD, vyU, binS, SV.go1, SV.go0, mkRow, intsOf, boolsOf, strsOf, chunks, Row.rep, Row.cat, Row.sub, Row.put, Row.len, Row.get, Row.size, Row.flat, bnds, own0, own1, labsL, labsR, SV.labs, argsOf, entFr, SO.ev, St.of, keepSt, getAll, lookN, hasN, SV.cells, SV.one, SV.res1, SV.res0, SV.resP, SV.ok1, SV.ok0, SV.okN, SV.solid, SV.solid1, SV.solid0, SV.flat0, SV.nm, SV.nm1, SV.nm0, SV.noPtr1, SV.noPtr0, Cel.isFresh, fillP, setAt, partV, eqCells, cellEq, gamY, listsOk, tupOf, takeOwn, SV.ret1, resAll, resL, resV, Nat.reduceEqDiff, ↓reduceIte, Nat.reduceAdd, Nat.reduceMul, Nat.reduceLeDiff, Nat.reduceLT, reduceCtorEq, labOk, Int.reduceBEq, Int.reduceBNe, Int.reduceToNat, Int.reduceLE, Int.reduceLT, Int.reduceEq, Nat.reduceDiv, Nat.reduceMod, Nat.reduceSub, Nat.reduceBEq, fitR, fitR1, fitR0, fitRL1, fitRL, y23]
  refine loopG_intro (ι := Nat) (fun k => [(0, .int .i64 n), (3, .int .i64 k)]) (fun _ => []) (fun k => k ≤ B) (fun k => B - k) ⟨0, by omega, ?_, ?_, ?_⟩ fun k hkB => ?_
  · simp (config := { maxSteps := 9000000 }) only [↓vyD, vyU, binS, SV.go1, SV.go0, mkRow, intsOf, boolsOf, strsOf, chunks, Row.rep, Row.cat, Row.sub, Row.put, Row.len, Row.get, Row.size, Row.flat, bnds, own0, own1, labsL, labsR, SV.labs, argsOf, entFr, SO.ev, St.of, keepSt, getAll, lookN, hasN, SV.cells, SV.one, SV.res1, SV.res0, SV.resP, SV.ok1, SV.ok0, SV.okN, SV.solid, SV.solid1, SV.solid0, SV.flat0, SV.nm, SV.nm1, SV.nm0, SV.noPtr1, SV.noPtr0, Cel.isFresh, fillP, setAt, partV, eqCells, cellEq, gamY, listsOk, tupOf, takeOwn, SV.ret1, resAll, resL, resV, Nat.reduceEqDiff, ↓reduceIte, Nat.reduceAdd, Nat.reduceMul, Nat.reduceLeDiff, Nat.reduceLT, reduceCtorEq, labOk, Int.reduceBEq, Int.reduceBNe, Int.reduceToNat, Int.reduceLE, Int.reduceLT, Int.reduceEq, Nat.reduceDiv, Nat.reduceMod, Nat.reduceSub, Nat.reduceBEq, fitR, fitR1, fitR0, fitRL1, fitRL, asI]
  · simp (config := { maxSteps := 9000000 }) only [↓vyD, vyU, binS, SV.go1, SV.go0, mkRow, intsOf, boolsOf, strsOf, chunks, Row.rep, Row.cat, Row.sub, Row.put, Row.len, Row.get, Row.size, Row.flat, bnds, own0, own1, labsL, labsR, SV.labs, argsOf, entFr, SO.ev, St.of, keepSt, getAll, lookN, hasN, SV.cells, SV.one, SV.res1, SV.res0, SV.resP, SV.ok1, SV.ok0, SV.okN, SV.solid, SV.solid1, SV.solid0, SV.flat0, SV.nm, SV.nm1, SV.nm0, SV.noPtr1, SV.noPtr0, Cel.isFresh, fillP, setAt, partV, eqCells, cellEq, gamY, listsOk, tupOf, takeOwn, SV.ret1, resAll, resL, resV, Nat.reduceEqDiff, ↓reduceIte, Nat.reduceAdd, Nat.reduceMul, Nat.reduceLeDiff, Nat.reduceLT, reduceCtorEq, labOk, Int.reduceBEq, Int.reduceBNe, Int.reduceToNat, Int.reduceLE, Int.reduceLT, Int.reduceEq, Nat.reduceDiv, Nat.reduceMod, Nat.reduceSub, Nat.reduceBEq, fitR, fitR1, fitR0, fitRL1, fitRL, asI, Int.natCast_zero, Int.ofNat_zero]
  · simp (config := { maxSteps := 9000000 }) only [↓vyD, vyU, binS, SV.go1, SV.go0, mkRow, intsOf, boolsOf, strsOf, chunks, Row.rep, Row.cat, Row.sub, Row.put, Row.len, Row.get, Row.size, Row.flat, bnds, own0, own1, labsL, labsR, SV.labs, argsOf, entFr, SO.ev, St.of, keepSt, getAll, lookN, hasN, SV.cells, SV.one, SV.res1, SV.res0, SV.resP, SV.ok1, SV.ok0, SV.okN, SV.solid, SV.solid1, SV.solid0, SV.flat0, SV.nm, SV.nm1, SV.nm0, SV.noPtr1, SV.noPtr0, Cel.isFresh, fillP, setAt, partV, eqCells, cellEq, gamY, listsOk, tupOf, takeOwn, SV.ret1, resAll, resL, resV, Nat.reduceEqDiff, ↓reduceIte, Nat.reduceAdd, Nat.reduceMul, Nat.reduceLeDiff, Nat.reduceLT, reduceCtorEq, labOk, Int.reduceBEq, Int.reduceBNe, Int.reduceToNat, Int.reduceLE, Int.reduceLT, Int.reduceEq, Nat.reduceDiv, Nat.reduceMod, Nat.reduceSub, Nat.reduceBEq, fitR, fitR1, fitR0, fitRL1, fitRL, asI]
  have c0 : (0 : Int) ≤ (k : Int) := by omega
  have m1 : min k 64 = k := by omega
  have b1 := i64_wrap (show I64 ((k : Int) + 1) by unfold I64; omega)
  have p1 : (2 : Int) ^ k ≤ 2 ^ 25 := pow2_le (by omega)
  have p0 := pow2_pos k
  have w1 := i64_wrap (show I64 ((2 : Int) ^ k) by unfold I64; omega)
  by_cases h : (2 : Int) ^ k ≤ n
  · have := (hk k).1 h
    simp (config := { maxSteps := 9000000 }) only [↓vyD, vyU, binS, SV.go1, SV.go0, mkRow, intsOf, boolsOf, strsOf, chunks, Row.rep, Row.cat, Row.sub, Row.put, Row.len, Row.get, Row.size, Row.flat, bnds, own0, own1, labsL, labsR, SV.labs, argsOf, entFr, SO.ev, St.of, keepSt, getAll, lookN, hasN, SV.cells, SV.one, SV.res1, SV.res0, SV.resP, SV.ok1, SV.ok0, SV.okN, SV.solid, SV.solid1, SV.solid0, SV.flat0, SV.nm, SV.nm1, SV.nm0, SV.noPtr1, SV.noPtr0, Cel.isFresh, fillP, setAt, partV, eqCells, cellEq, gamY, listsOk, tupOf, takeOwn, SV.ret1, resAll, resL, resV, Nat.reduceEqDiff, ↓reduceIte, Nat.reduceAdd, Nat.reduceMul, Nat.reduceLeDiff, Nat.reduceLT, reduceCtorEq, labOk, Int.reduceBEq, Int.reduceBNe, Int.reduceToNat, Int.reduceLE, Int.reduceLT, Int.reduceEq, Nat.reduceDiv, Nat.reduceMod, Nat.reduceSub, Nat.reduceBEq, fitR, fitR1, fitR0, fitRL1, fitRL, c0, m1, Int.toNat_natCast, Int.one_mul, IntKind.bits, w1, b1, h]
    exact ⟨k + 1, ⟨by omega, by omega⟩, by simp⟩
  · have : k = B := by
      have := Nat.le_of_not_lt fun hh => h ((hk k).2 hh)
      omega
    subst this
    simp (config := { maxSteps := 9000000 }) only [↓vyD, vyU, binS, SV.go1, SV.go0, mkRow, intsOf, boolsOf, strsOf, chunks, Row.rep, Row.cat, Row.sub, Row.put, Row.len, Row.get, Row.size, Row.flat, bnds, own0, own1, labsL, labsR, SV.labs, argsOf, entFr, SO.ev, St.of, keepSt, getAll, lookN, hasN, SV.cells, SV.one, SV.res1, SV.res0, SV.resP, SV.ok1, SV.ok0, SV.okN, SV.solid, SV.solid1, SV.solid0, SV.flat0, SV.nm, SV.nm1, SV.nm0, SV.noPtr1, SV.noPtr0, Cel.isFresh, fillP, setAt, partV, eqCells, cellEq, gamY, listsOk, tupOf, takeOwn, SV.ret1, resAll, resL, resV, Nat.reduceEqDiff, ↓reduceIte, Nat.reduceAdd, Nat.reduceMul, Nat.reduceLeDiff, Nat.reduceLT, reduceCtorEq, labOk, Int.reduceBEq, Int.reduceBNe, Int.reduceToNat, Int.reduceLE, Int.reduceLT, Int.reduceEq, Nat.reduceDiv, Nat.reduceMod, Nat.reduceSub, Nat.reduceBEq, fitR, fitR1, fitR0, fitRL1, fitRL, c0, m1, Int.toNat_natCast, Int.one_mul, IntKind.bits, w1, h]
theorem mapC_labs : ∀ L : List (List Int), labsLL (L.map hC) = []
  | [] => rfl
  | h :: L => by rw [List.map_cons, labsLL, hC_labs, mapC_labs L]; rfl
def asH2 (cs : List SV) : Option (List Int) := asH cs
theorem asH2_hC {l : List Int} (h : l.length = 26) : asH2 (hC l) = some l := asH_hC h
theorem of_asH2 {cs : List SV} {l : List Int} (h : asH2 cs = some l) : cs = hC l ∧ l.length = 26 := by
  refine ⟨?_, asH_len h⟩
  unfold asH2 asH at h
  split at h
  · rename_i l' h'
    split at h
    · simp only [Option.some.injEq] at h; subst h; exact of_intsOf h'
    · cases h
  · cases h
def rhE (L : List (List Int)) : Int := if (L.all fun h => h.all cntB) then 0 else 1
theorem takeL_all {p : List Int → Bool} {l : List (List Int)} {i : Nat} (h : i < l.length) : (l.take (i + 1)).all p = ((l.take i).all p && p (l.getD i [])) := by
  rw [List.take_add_one, List.getElem?_eq_getElem h, List.getD_eq_getElem?_getD, List.getElem?_eq_getElem h, List.all_append]
  simp
theorem rhist_in (L : List (List Int)) (hL : ∀ h ∈ L, h.length = 26) (h1000 : L.length ≤ 1000) : vcFun (gamY gRp) y18 [.rw (.recs 26 (L.map hC))] none fun v o => fitR v (.int .i64 (rhE L)) ∧ o = none := by
  have hml : (L.map hC).length = L.length := List.length_map ..
  have mB := mapC_labs L
  have lN : ([] : List Nat).all (hasN ([] : List (Nat × Cel))) = true := rfl
  simp (config := { maxSteps := 9000000 }) only [↓vyD, vyU, binS, SV.go1, SV.go0, mkRow, intsOf, boolsOf, strsOf, chunks, Row.rep, Row.cat, Row.sub, Row.put, Row.len, Row.get, Row.size, Row.flat, bnds, own0, own1, labsL, labsR, SV.labs, argsOf, entFr, SO.ev, St.of, keepSt, getAll, lookN, hasN, SV.cells, SV.one, SV.res1, SV.res0, SV.resP, SV.ok1, SV.ok0, SV.okN, SV.solid, SV.solid1, SV.solid0, SV.flat0, SV.nm, SV.nm1, SV.nm0, SV.noPtr1, SV.noPtr0, Cel.isFresh, fillP, setAt, partV, eqCells, cellEq, gamY, listsOk, tupOf, takeOwn, SV.ret1, resAll, resL, resV, Nat.reduceEqDiff, ↓reduceIte, Nat.reduceAdd, Nat.reduceMul, Nat.reduceLeDiff, Nat.reduceLT, reduceCtorEq, labOk, Int.reduceBEq, Int.reduceBNe, Int.reduceToNat, Int.reduceLE, Int.reduceLT, Int.reduceEq, Nat.reduceDiv, Nat.reduceMod, Nat.reduceSub, Nat.reduceBEq, fitR, fitR1, fitR0, fitRL1, fitRL, y18, gRp, rwithinS, hml]
  refine loopG_intro (ι := Nat) (fun i => [(7, .rw (.recs 26 (L.map hC))), (8, .int .i64 L.length), (9, .int .i64 i)]) (fun _ => []) (fun i => i ≤ L.length ∧ ((L.take i).all fun h => h.all cntB) = true) (fun i => L.length - i) ⟨0, ⟨by omega, by simp⟩, ?_, ?_, ?_⟩ fun i ⟨hi, hall⟩ => ?_
  · simp (config := { maxSteps := 9000000 }) only [↓vyD, vyU, binS, SV.go1, SV.go0, mkRow, intsOf, boolsOf, strsOf, chunks, Row.rep, Row.cat, Row.sub, Row.put, Row.len, Row.get, Row.size, Row.flat, bnds, own0, own1, labsL, labsR, SV.labs, argsOf, entFr, SO.ev, St.of, keepSt, getAll, lookN, hasN, SV.cells, SV.one, SV.res1, SV.res0, SV.resP, SV.ok1, SV.ok0, SV.okN, SV.solid, SV.solid1, SV.solid0, SV.flat0, SV.nm, SV.nm1, SV.nm0, SV.noPtr1, SV.noPtr0, Cel.isFresh, fillP, setAt, partV, eqCells, cellEq, gamY, listsOk, tupOf, takeOwn, SV.ret1, resAll, resL, resV, Nat.reduceEqDiff, ↓reduceIte, Nat.reduceAdd, Nat.reduceMul, Nat.reduceLeDiff, Nat.reduceLT, reduceCtorEq, labOk, Int.reduceBEq, Int.reduceBNe, Int.reduceToNat, Int.reduceLE, Int.reduceLT, Int.reduceEq, Nat.reduceDiv, Nat.reduceMod, Nat.reduceSub, Nat.reduceBEq, fitR, fitR1, fitR0, fitRL1, fitRL, asI, mB]
  · simp (config := { maxSteps := 9000000 }) only [↓vyD, vyU, binS, SV.go1, SV.go0, mkRow, intsOf, boolsOf, strsOf, chunks, Row.rep, Row.cat, Row.sub, Row.put, Row.len, Row.get, Row.size, Row.flat, bnds, own0, own1, labsL, labsR, SV.labs, argsOf, entFr, SO.ev, St.of, keepSt, getAll, lookN, hasN, SV.cells, SV.one, SV.res1, SV.res0, SV.resP, SV.ok1, SV.ok0, SV.okN, SV.solid, SV.solid1, SV.solid0, SV.flat0, SV.nm, SV.nm1, SV.nm0, SV.noPtr1, SV.noPtr0, Cel.isFresh, fillP, setAt, partV, eqCells, cellEq, gamY, listsOk, tupOf, takeOwn, SV.ret1, resAll, resL, resV, Nat.reduceEqDiff, ↓reduceIte, Nat.reduceAdd, Nat.reduceMul, Nat.reduceLeDiff, Nat.reduceLT, reduceCtorEq, labOk, Int.reduceBEq, Int.reduceBNe, Int.reduceToNat, Int.reduceLE, Int.reduceLT, Int.reduceEq, Nat.reduceDiv, Nat.reduceMod, Nat.reduceSub, Nat.reduceBEq, fitR, fitR1, fitR0, fitRL1, fitRL, asI, Int.natCast_zero, Int.ofNat_zero]
  · simp (config := { maxSteps := 9000000 }) only [↓vyD, vyU, binS, SV.go1, SV.go0, mkRow, intsOf, boolsOf, strsOf, chunks, Row.rep, Row.cat, Row.sub, Row.put, Row.len, Row.get, Row.size, Row.flat, bnds, own0, own1, labsL, labsR, SV.labs, argsOf, entFr, SO.ev, St.of, keepSt, getAll, lookN, hasN, SV.cells, SV.one, SV.res1, SV.res0, SV.resP, SV.ok1, SV.ok0, SV.okN, SV.solid, SV.solid1, SV.solid0, SV.flat0, SV.nm, SV.nm1, SV.nm0, SV.noPtr1, SV.noPtr0, Cel.isFresh, fillP, setAt, partV, eqCells, cellEq, gamY, listsOk, tupOf, takeOwn, SV.ret1, resAll, resL, resV, Nat.reduceEqDiff, ↓reduceIte, Nat.reduceAdd, Nat.reduceMul, Nat.reduceLeDiff, Nat.reduceLT, reduceCtorEq, labOk, Int.reduceBEq, Int.reduceBNe, Int.reduceToNat, Int.reduceLE, Int.reduceLT, Int.reduceEq, Nat.reduceDiv, Nat.reduceMod, Nat.reduceSub, Nat.reduceBEq, fitR, fitR1, fitR0, fitRL1, fitRL, asI, mB]
  by_cases hlt : (i : Int) < (L.length : Int)
  · have hlt' : i < L.length := by omega
    have c0 : (0 : Int) ≤ (i : Int) := by omega
    have b1 := i64_wrap (show I64 ((i : Int) + 1) by unfold I64; omega)
    have hmem : L.getD i [] ∈ L := by rw [List.getD_eq_getElem?_getD, List.getElem?_eq_getElem hlt']; exact List.getElem_mem hlt'
    have hg : (L.map hC).getD i [] = hC (L.getD i []) := by
      rw [List.getD_eq_getElem?_getD, List.getElem?_map, List.getElem?_eq_getElem hlt', List.getD_eq_getElem?_getD, List.getElem?_eq_getElem hlt']; rfl
    have hta := takeL_all (p := fun h => h.all cntB) hlt'
    have lh := hL _ hmem
    have hfalse : (L.getD i []).all cntB = false → rhE L = 1 := fun h => by
      unfold rhE
      have : (L.all fun h => h.all cntB) = false := by
        rw [List.all_eq_false]; exact ⟨_, hmem, by rw [h]; simp⟩
      rw [this]; rfl
    generalize L.getD i [] = h at *
    simp (config := { maxSteps := 9000000 }) only [↓vyD, vyU, binS, SV.go1, SV.go0, mkRow, intsOf, boolsOf, strsOf, chunks, Row.rep, Row.cat, Row.sub, Row.put, Row.len, Row.get, Row.size, Row.flat, bnds, own0, own1, labsL, labsR, SV.labs, argsOf, entFr, SO.ev, St.of, keepSt, getAll, lookN, hasN, SV.cells, SV.one, SV.res1, SV.res0, SV.resP, SV.ok1, SV.ok0, SV.okN, SV.solid, SV.solid1, SV.solid0, SV.flat0, SV.nm, SV.nm1, SV.nm0, SV.noPtr1, SV.noPtr0, Cel.isFresh, fillP, setAt, partV, eqCells, cellEq, gamY, listsOk, tupOf, takeOwn, SV.ret1, resAll, resL, resV, Nat.reduceEqDiff, ↓reduceIte, Nat.reduceAdd, Nat.reduceMul, Nat.reduceLeDiff, Nat.reduceLT, reduceCtorEq, labOk, Int.reduceBEq, Int.reduceBNe, Int.reduceToNat, Int.reduceLE, Int.reduceLT, Int.reduceEq, Nat.reduceDiv, Nat.reduceMod, Nat.reduceSub, Nat.reduceBEq, fitR, fitR1, fitR0, fitRL1, fitRL, gRp, rwithinS, hC_len, hC_take, hC_one, hC_ok, hC_solid, hC_np, hC_res, hC_go, hC_nm, hC_labs, hC_own, hC_set, hC_over, hC_fitR, hC_fitL, hZ, zL_len, asH_hC, hml, hlt, hlt', c0, hg, Int.toNat_natCast, lh]
    refine loopG_intro (ι := Nat) (fun j => [(7, .rw (.recs 26 (L.map hC))), (8, .int .i64 L.length), (9, .int .i64 i), (14, .agg (hC h)), (15, .int .i64 j)]) (fun _ => []) (fun j => j ≤ 26 ∧ (h.take j).all cntB = true) (fun j => 26 - j) ⟨0, ⟨by omega, by simp⟩, ?_, ?_, ?_⟩ fun j ⟨hj, hallj⟩ => ?_
    · simp (config := { maxSteps := 9000000 }) only [↓vyD, vyU, binS, SV.go1, SV.go0, mkRow, intsOf, boolsOf, strsOf, chunks, Row.rep, Row.cat, Row.sub, Row.put, Row.len, Row.get, Row.size, Row.flat, bnds, own0, own1, labsL, labsR, SV.labs, argsOf, entFr, SO.ev, St.of, keepSt, getAll, lookN, hasN, SV.cells, SV.one, SV.res1, SV.res0, SV.resP, SV.ok1, SV.ok0, SV.okN, SV.solid, SV.solid1, SV.solid0, SV.flat0, SV.nm, SV.nm1, SV.nm0, SV.noPtr1, SV.noPtr0, Cel.isFresh, fillP, setAt, partV, eqCells, cellEq, gamY, listsOk, tupOf, takeOwn, SV.ret1, resAll, resL, resV, Nat.reduceEqDiff, ↓reduceIte, Nat.reduceAdd, Nat.reduceMul, Nat.reduceLeDiff, Nat.reduceLT, reduceCtorEq, labOk, Int.reduceBEq, Int.reduceBNe, Int.reduceToNat, Int.reduceLE, Int.reduceLT, Int.reduceEq, Nat.reduceDiv, Nat.reduceMod, Nat.reduceSub, Nat.reduceBEq, fitR, fitR1, fitR0, fitRL1, fitRL, hC_len, hC_take, hC_one, hC_ok, hC_solid, hC_np, hC_res, hC_go, hC_nm, hC_labs, hC_own, hC_set, hC_over, hC_fitR, hC_fitL, hZ, zL_len, asH_hC, lh, mB]
    · simp (config := { maxSteps := 9000000 }) only [↓vyD, vyU, binS, SV.go1, SV.go0, mkRow, intsOf, boolsOf, strsOf, chunks, Row.rep, Row.cat, Row.sub, Row.put, Row.len, Row.get, Row.size, Row.flat, bnds, own0, own1, labsL, labsR, SV.labs, argsOf, entFr, SO.ev, St.of, keepSt, getAll, lookN, hasN, SV.cells, SV.one, SV.res1, SV.res0, SV.resP, SV.ok1, SV.ok0, SV.okN, SV.solid, SV.solid1, SV.solid0, SV.flat0, SV.nm, SV.nm1, SV.nm0, SV.noPtr1, SV.noPtr0, Cel.isFresh, fillP, setAt, partV, eqCells, cellEq, gamY, listsOk, tupOf, takeOwn, SV.ret1, resAll, resL, resV, Nat.reduceEqDiff, ↓reduceIte, Nat.reduceAdd, Nat.reduceMul, Nat.reduceLeDiff, Nat.reduceLT, reduceCtorEq, labOk, Int.reduceBEq, Int.reduceBNe, Int.reduceToNat, Int.reduceLE, Int.reduceLT, Int.reduceEq, Nat.reduceDiv, Nat.reduceMod, Nat.reduceSub, Nat.reduceBEq, fitR, fitR1, fitR0, fitRL1, fitRL, hC_len, hC_take, hC_one, hC_ok, hC_solid, hC_np, hC_res, hC_go, hC_nm, hC_labs, hC_own, hC_set, hC_over, hC_fitR, hC_fitL, hZ, zL_len, asH_hC, lh, Int.natCast_zero, Int.ofNat_zero]
    · simp (config := { maxSteps := 9000000 }) only [↓vyD, vyU, binS, SV.go1, SV.go0, mkRow, intsOf, boolsOf, strsOf, chunks, Row.rep, Row.cat, Row.sub, Row.put, Row.len, Row.get, Row.size, Row.flat, bnds, own0, own1, labsL, labsR, SV.labs, argsOf, entFr, SO.ev, St.of, keepSt, getAll, lookN, hasN, SV.cells, SV.one, SV.res1, SV.res0, SV.resP, SV.ok1, SV.ok0, SV.okN, SV.solid, SV.solid1, SV.solid0, SV.flat0, SV.nm, SV.nm1, SV.nm0, SV.noPtr1, SV.noPtr0, Cel.isFresh, fillP, setAt, partV, eqCells, cellEq, gamY, listsOk, tupOf, takeOwn, SV.ret1, resAll, resL, resV, Nat.reduceEqDiff, ↓reduceIte, Nat.reduceAdd, Nat.reduceMul, Nat.reduceLeDiff, Nat.reduceLT, reduceCtorEq, labOk, Int.reduceBEq, Int.reduceBNe, Int.reduceToNat, Int.reduceLE, Int.reduceLT, Int.reduceEq, Nat.reduceDiv, Nat.reduceMod, Nat.reduceSub, Nat.reduceBEq, fitR, fitR1, fitR0, fitRL1, fitRL, hC_len, hC_take, hC_one, hC_ok, hC_solid, hC_np, hC_res, hC_go, hC_nm, hC_labs, hC_own, hC_set, hC_over, hC_fitR, hC_fitL, hZ, zL_len, asH_hC, lh, mB]
    by_cases hjt : (j : Int) < 26
    · have hj' : j < h.length := by omega
      have d0 : (0 : Int) ≤ (j : Int) := by omega
      have b2 := i64_wrap (show I64 ((j : Int) + 1) by unfold I64; omega)
      have hG := hC_get hj'
      cases hb : cntB (h.getD j 0) with
      | true =>
        have hb' : decide (0 ≤ h.getD j 0 ∧ h.getD j 0 ≤ 1073741824) = true := hb
        simp (config := { maxSteps := 9000000 }) only [↓vyD, vyU, binS, SV.go1, SV.go0, mkRow, intsOf, boolsOf, strsOf, chunks, Row.rep, Row.cat, Row.sub, Row.put, Row.len, Row.get, Row.size, Row.flat, bnds, own0, own1, labsL, labsR, SV.labs, argsOf, entFr, SO.ev, St.of, keepSt, getAll, lookN, hasN, SV.cells, SV.one, SV.res1, SV.res0, SV.resP, SV.ok1, SV.ok0, SV.okN, SV.solid, SV.solid1, SV.solid0, SV.flat0, SV.nm, SV.nm1, SV.nm0, SV.noPtr1, SV.noPtr0, Cel.isFresh, fillP, setAt, partV, eqCells, cellEq, gamY, listsOk, tupOf, takeOwn, SV.ret1, resAll, resL, resV, Nat.reduceEqDiff, ↓reduceIte, Nat.reduceAdd, Nat.reduceMul, Nat.reduceLeDiff, Nat.reduceLT, reduceCtorEq, labOk, Int.reduceBEq, Int.reduceBNe, Int.reduceToNat, Int.reduceLE, Int.reduceLT, Int.reduceEq, Nat.reduceDiv, Nat.reduceMod, Nat.reduceSub, Nat.reduceBEq, fitR, fitR1, fitR0, fitRL1, fitRL, gRp, rwithinS, hC_len, hC_take, hC_one, hC_ok, hC_solid, hC_np, hC_res, hC_go, hC_nm, hC_labs, hC_own, hC_set, hC_over, hC_fitR, hC_fitL, hZ, zL_len, asH_hC, lh, hjt, d0, mB, hG, Int.toNat_natCast, Nat.mul_one, b2, hb']
        exact ⟨j + 1, ⟨⟨by omega, by rw [take_all hj', hallj, hb]; rfl⟩, by omega⟩, by simp⟩
      | false =>
        have hb' : decide (0 ≤ h.getD j 0 ∧ h.getD j 0 ≤ 1073741824) = false := hb
        have hr := hfalse (all_false_of hj' hb)
        simp (config := { maxSteps := 9000000 }) only [↓vyD, vyU, binS, SV.go1, SV.go0, mkRow, intsOf, boolsOf, strsOf, chunks, Row.rep, Row.cat, Row.sub, Row.put, Row.len, Row.get, Row.size, Row.flat, bnds, own0, own1, labsL, labsR, SV.labs, argsOf, entFr, SO.ev, St.of, keepSt, getAll, lookN, hasN, SV.cells, SV.one, SV.res1, SV.res0, SV.resP, SV.ok1, SV.ok0, SV.okN, SV.solid, SV.solid1, SV.solid0, SV.flat0, SV.nm, SV.nm1, SV.nm0, SV.noPtr1, SV.noPtr0, Cel.isFresh, fillP, setAt, partV, eqCells, cellEq, gamY, listsOk, tupOf, takeOwn, SV.ret1, resAll, resL, resV, Nat.reduceEqDiff, ↓reduceIte, Nat.reduceAdd, Nat.reduceMul, Nat.reduceLeDiff, Nat.reduceLT, reduceCtorEq, labOk, Int.reduceBEq, Int.reduceBNe, Int.reduceToNat, Int.reduceLE, Int.reduceLT, Int.reduceEq, Nat.reduceDiv, Nat.reduceMod, Nat.reduceSub, Nat.reduceBEq, fitR, fitR1, fitR0, fitRL1, fitRL, gRp, rwithinS, hC_len, hC_take, hC_one, hC_ok, hC_solid, hC_np, hC_res, hC_go, hC_nm, hC_labs, hC_own, hC_set, hC_over, hC_fitR, hC_fitL, hZ, zL_len, asH_hC, lh, hjt, d0, mB, hG, Int.toNat_natCast, Nat.mul_one, b2, hb', hr]
    · have hj26 : j = h.length := by omega
      rw [hj26, List.take_length] at hallj
      simp (config := { maxSteps := 9000000 }) only [↓vyD, vyU, binS, SV.go1, SV.go0, mkRow, intsOf, boolsOf, strsOf, chunks, Row.rep, Row.cat, Row.sub, Row.put, Row.len, Row.get, Row.size, Row.flat, bnds, own0, own1, labsL, labsR, SV.labs, argsOf, entFr, SO.ev, St.of, keepSt, getAll, lookN, hasN, SV.cells, SV.one, SV.res1, SV.res0, SV.resP, SV.ok1, SV.ok0, SV.okN, SV.solid, SV.solid1, SV.solid0, SV.flat0, SV.nm, SV.nm1, SV.nm0, SV.noPtr1, SV.noPtr0, Cel.isFresh, fillP, setAt, partV, eqCells, cellEq, gamY, listsOk, tupOf, takeOwn, SV.ret1, resAll, resL, resV, Nat.reduceEqDiff, ↓reduceIte, Nat.reduceAdd, Nat.reduceMul, Nat.reduceLeDiff, Nat.reduceLT, reduceCtorEq, labOk, Int.reduceBEq, Int.reduceBNe, Int.reduceToNat, Int.reduceLE, Int.reduceLT, Int.reduceEq, Nat.reduceDiv, Nat.reduceMod, Nat.reduceSub, Nat.reduceBEq, fitR, fitR1, fitR0, fitRL1, fitRL, hC_len, hC_take, hC_one, hC_ok, hC_solid, hC_np, hC_res, hC_go, hC_nm, hC_labs, hC_own, hC_set, hC_over, hC_fitR, hC_fitL, hZ, zL_len, asH_hC, hjt, b1, mB]
      exact ⟨i + 1, ⟨⟨by omega, by rw [hta, hall, hallj]; rfl⟩, by omega⟩, by simp⟩
  · have hiL : i = L.length := by omega
    rw [hiL, List.take_length] at hall
    have hr : rhE L = 0 := by unfold rhE; rw [hall]; rfl
    simp (config := { maxSteps := 9000000 }) only [↓vyD, vyU, binS, SV.go1, SV.go0, mkRow, intsOf, boolsOf, strsOf, chunks, Row.rep, Row.cat, Row.sub, Row.put, Row.len, Row.get, Row.size, Row.flat, bnds, own0, own1, labsL, labsR, SV.labs, argsOf, entFr, SO.ev, St.of, keepSt, getAll, lookN, hasN, SV.cells, SV.one, SV.res1, SV.res0, SV.resP, SV.ok1, SV.ok0, SV.okN, SV.solid, SV.solid1, SV.solid0, SV.flat0, SV.nm, SV.nm1, SV.nm0, SV.noPtr1, SV.noPtr0, Cel.isFresh, fillP, setAt, partV, eqCells, cellEq, gamY, listsOk, tupOf, takeOwn, SV.ret1, resAll, resL, resV, Nat.reduceEqDiff, ↓reduceIte, Nat.reduceAdd, Nat.reduceMul, Nat.reduceLeDiff, Nat.reduceLT, reduceCtorEq, labOk, Int.reduceBEq, Int.reduceBNe, Int.reduceToNat, Int.reduceLE, Int.reduceLT, Int.reduceEq, Nat.reduceDiv, Nat.reduceMod, Nat.reduceSub, Nat.reduceBEq, fitR, fitR1, fitR0, fitRL1, fitRL, hlt, hr]
def rhistS : Say
  | [.rw (.recs 26 [x])] => (match asH2 x with | some a => some (True, .int .i64 (hE a), none) | none => none)
  | [.rw (.recs 26 [x, y])] => (match asH2 x, asH2 y with | some a, some b => some (True, .int .i64 (if hE a = 0 then hE b else 1), none) | _, _ => none)
  | _ => none
theorem rhist_ok : FOk Try.prog 18 rhistS := by
  intro xs p r own h hp
  unfold rhistS at h
  split at h
  · rename_i x
    split at h
    case h_2 => cases h
    rename_i a ha
    obtain ⟨rfl, la⟩ := of_asH2 ha
    simp only [Option.some.injEq, Prod.mk.injEq] at h
    obtain ⟨rfl, rfl, rfl⟩ := h
    have e : hE a = rhE [a] := by unfold hE rhE; simp
    rw [e]
    exact fun_ok gRp_ok lawy_mixed y18_eq none (rhist_in [a] (by simpa using la) (by simp)) (Nat.le_of_ble_eq_true rfl)
  · rename_i x y
    split at h
    case h_2 => cases h
    rename_i a b ha hb
    obtain ⟨rfl, la⟩ := of_asH2 ha
    obtain ⟨rfl, lb⟩ := of_asH2 hb
    simp only [Option.some.injEq, Prod.mk.injEq] at h
    obtain ⟨rfl, rfl, rfl⟩ := h
    have e : (if hE a = 0 then hE b else 1) = rhE [a, b] := by
      unfold hE rhE
      cases ha : a.all cntB <;> cases hb : b.all cntB <;> simp [ha, hb]
    rw [e]
    exact fun_ok gRp_ok lawy_mixed y18_eq none (rhist_in [a, b] (by intro h hh; simp at hh; rcases hh with rfl | rfl <;> assumption) (by simp)) (Nat.le_of_ble_eq_true rfl)
  · cases h
theorem ceil_self {S D : Int} (hD : 1 ≤ D) : (S * D + D - 1) / D = S := by
  rw [show S * D + D - 1 = (D - 1) + S * D by omega, Int.add_mul_ediv_right _ _ (by omega), Int.ediv_eq_zero_of_lt (by omega) (by omega)]
  omega
theorem quo_up {X D q : Int} (hD : 1 ≤ D) (h1 : q * D < X) (h2 : X < q * D + D) : (X + D - 1) / D = q + 1 := by
  have a1 : q + 1 ≤ (X + D - 1) / D := by rw [Int.le_ediv_iff_mul_le (by omega), Int.add_mul]; omega
  have a2 : (X + D - 1) / D < q + 2 := by
    apply Int.ediv_lt_of_lt_mul (by omega)
    rw [Int.add_mul]; omega
  omega
theorem rbet_in (l : List Int) (len_l : l.length = 26) (num den K : Int) (hv : hE l = 0) (d1 : 1 ≤ den ∧ den ≤ 1000) (d2 : 0 ≤ num ∧ num ≤ den) (hS0 : sumK l 26 ≠ 0) (hK : betK l num den = K) (hKS : K ≤ sumK l 26) (hB : bet0 l num den = 0) :
    vcFun (gamY []) y21 [.agg (hC l), .int .i64 num, .int .i64 den] none fun v o => fitR v (.tup [.int .i64 (betL l num den), .int .i64 (betH l num den), .int .i64 (bet0 l num den)]) ∧ o = none := by
  have hb := sumK_bd len_l hv
  simp (config := { maxSteps := 9000000 }) only [↓vyD, vyU, binS, SV.go1, SV.go0, mkRow, intsOf, boolsOf, strsOf, chunks, Row.rep, Row.cat, Row.sub, Row.put, Row.len, Row.get, Row.size, Row.flat, bnds, own0, own1, labsL, labsR, SV.labs, argsOf, entFr, SO.ev, St.of, keepSt, getAll, lookN, hasN, SV.cells, SV.one, SV.res1, SV.res0, SV.resP, SV.ok1, SV.ok0, SV.okN, SV.solid, SV.solid1, SV.solid0, SV.flat0, SV.nm, SV.nm1, SV.nm0, SV.noPtr1, SV.noPtr0, Cel.isFresh, fillP, setAt, partV, eqCells, cellEq, gamY, listsOk, tupOf, takeOwn, SV.ret1, resAll, resL, resV, Nat.reduceEqDiff, ↓reduceIte, Nat.reduceAdd, Nat.reduceMul, Nat.reduceLeDiff, Nat.reduceLT, reduceCtorEq, labOk, Int.reduceBEq, Int.reduceBNe, Int.reduceToNat, Int.reduceLE, Int.reduceLT, Int.reduceEq, Nat.reduceDiv, Nat.reduceMod, Nat.reduceSub, Nat.reduceBEq, fitR, fitR1, fitR0, fitRL1, fitRL, y21, hC_len, hC_take, hC_one, hC_ok, hC_solid, hC_np, hC_res, hC_go, hC_nm, hC_labs, hC_own, hC_set, hC_over, hC_fitR, hC_fitL, hZ, zL_len, asH_hC, len_l]
  refine loopG_intro (ι := Nat) (fun i => [(1, .int .i64 num), (2, .int .i64 den), (3, .ptr 0 0), (9, .int .i64 (sumK l i)), (18, .agg (hC l)), (19, .int .i64 i)]) (fun _ => [(0, .var 24 (hC l))]) (fun i => i ≤ 26) (fun i => 26 - i) ⟨0, by omega, ?_, ?_, ?_⟩ fun i hi => ?_
  · simp (config := { maxSteps := 9000000 }) only [↓vyD, vyU, binS, SV.go1, SV.go0, mkRow, intsOf, boolsOf, strsOf, chunks, Row.rep, Row.cat, Row.sub, Row.put, Row.len, Row.get, Row.size, Row.flat, bnds, own0, own1, labsL, labsR, SV.labs, argsOf, entFr, SO.ev, St.of, keepSt, getAll, lookN, hasN, SV.cells, SV.one, SV.res1, SV.res0, SV.resP, SV.ok1, SV.ok0, SV.okN, SV.solid, SV.solid1, SV.solid0, SV.flat0, SV.nm, SV.nm1, SV.nm0, SV.noPtr1, SV.noPtr0, Cel.isFresh, fillP, setAt, partV, eqCells, cellEq, gamY, listsOk, tupOf, takeOwn, SV.ret1, resAll, resL, resV, Nat.reduceEqDiff, ↓reduceIte, Nat.reduceAdd, Nat.reduceMul, Nat.reduceLeDiff, Nat.reduceLT, reduceCtorEq, labOk, Int.reduceBEq, Int.reduceBNe, Int.reduceToNat, Int.reduceLE, Int.reduceLT, Int.reduceEq, Nat.reduceDiv, Nat.reduceMod, Nat.reduceSub, Nat.reduceBEq, fitR, fitR1, fitR0, fitRL1, fitRL, hC_len, hC_take, hC_one, hC_ok, hC_solid, hC_np, hC_res, hC_go, hC_nm, hC_labs, hC_own, hC_set, hC_over, hC_fitR, hC_fitL, hZ, zL_len, asH_hC, len_l]
  · simp (config := { maxSteps := 9000000 }) only [↓vyD, vyU, binS, SV.go1, SV.go0, mkRow, intsOf, boolsOf, strsOf, chunks, Row.rep, Row.cat, Row.sub, Row.put, Row.len, Row.get, Row.size, Row.flat, bnds, own0, own1, labsL, labsR, SV.labs, argsOf, entFr, SO.ev, St.of, keepSt, getAll, lookN, hasN, SV.cells, SV.one, SV.res1, SV.res0, SV.resP, SV.ok1, SV.ok0, SV.okN, SV.solid, SV.solid1, SV.solid0, SV.flat0, SV.nm, SV.nm1, SV.nm0, SV.noPtr1, SV.noPtr0, Cel.isFresh, fillP, setAt, partV, eqCells, cellEq, gamY, listsOk, tupOf, takeOwn, SV.ret1, resAll, resL, resV, Nat.reduceEqDiff, ↓reduceIte, Nat.reduceAdd, Nat.reduceMul, Nat.reduceLeDiff, Nat.reduceLT, reduceCtorEq, labOk, Int.reduceBEq, Int.reduceBNe, Int.reduceToNat, Int.reduceLE, Int.reduceLT, Int.reduceEq, Nat.reduceDiv, Nat.reduceMod, Nat.reduceSub, Nat.reduceBEq, fitR, fitR1, fitR0, fitRL1, fitRL, hC_len, hC_take, hC_one, hC_ok, hC_solid, hC_np, hC_res, hC_go, hC_nm, hC_labs, hC_own, hC_set, hC_over, hC_fitR, hC_fitL, hZ, zL_len, asH_hC, len_l, Int.natCast_zero, Int.ofNat_zero, sumK, List.take_zero, List.map_nil, List.sum_nil]
  · simp (config := { maxSteps := 9000000 }) only [↓vyD, vyU, binS, SV.go1, SV.go0, mkRow, intsOf, boolsOf, strsOf, chunks, Row.rep, Row.cat, Row.sub, Row.put, Row.len, Row.get, Row.size, Row.flat, bnds, own0, own1, labsL, labsR, SV.labs, argsOf, entFr, SO.ev, St.of, keepSt, getAll, lookN, hasN, SV.cells, SV.one, SV.res1, SV.res0, SV.resP, SV.ok1, SV.ok0, SV.okN, SV.solid, SV.solid1, SV.solid0, SV.flat0, SV.nm, SV.nm1, SV.nm0, SV.noPtr1, SV.noPtr0, Cel.isFresh, fillP, setAt, partV, eqCells, cellEq, gamY, listsOk, tupOf, takeOwn, SV.ret1, resAll, resL, resV, Nat.reduceEqDiff, ↓reduceIte, Nat.reduceAdd, Nat.reduceMul, Nat.reduceLeDiff, Nat.reduceLT, reduceCtorEq, labOk, Int.reduceBEq, Int.reduceBNe, Int.reduceToNat, Int.reduceLE, Int.reduceLT, Int.reduceEq, Nat.reduceDiv, Nat.reduceMod, Nat.reduceSub, Nat.reduceBEq, fitR, fitR1, fitR0, fitRL1, fitRL, hC_len, hC_take, hC_one, hC_ok, hC_solid, hC_np, hC_res, hC_go, hC_nm, hC_labs, hC_own, hC_set, hC_over, hC_fitR, hC_fitL, hZ, zL_len, asH_hC, len_l]
  by_cases hlt : (i : Int) < 26
  · have hi' : i < l.length := by omega
    have c0 : (0 : Int) ≤ (i : Int) := by omega
    have b1 := i64_wrap (show I64 ((i : Int) + 1) by unfold I64; omega)
    have hG := hC_get hi'
    have hS := sumK_succ hi'
    have hbi := hb (i + 1) (by omega)
    have w1 := i64_wrap (show I64 (sumK l i + l.getD i 0) by rw [← hS]; unfold I64; omega)
    simp (config := { maxSteps := 9000000 }) only [↓vyD, vyU, binS, SV.go1, SV.go0, mkRow, intsOf, boolsOf, strsOf, chunks, Row.rep, Row.cat, Row.sub, Row.put, Row.len, Row.get, Row.size, Row.flat, bnds, own0, own1, labsL, labsR, SV.labs, argsOf, entFr, SO.ev, St.of, keepSt, getAll, lookN, hasN, SV.cells, SV.one, SV.res1, SV.res0, SV.resP, SV.ok1, SV.ok0, SV.okN, SV.solid, SV.solid1, SV.solid0, SV.flat0, SV.nm, SV.nm1, SV.nm0, SV.noPtr1, SV.noPtr0, Cel.isFresh, fillP, setAt, partV, eqCells, cellEq, gamY, listsOk, tupOf, takeOwn, SV.ret1, resAll, resL, resV, Nat.reduceEqDiff, ↓reduceIte, Nat.reduceAdd, Nat.reduceMul, Nat.reduceLeDiff, Nat.reduceLT, reduceCtorEq, labOk, Int.reduceBEq, Int.reduceBNe, Int.reduceToNat, Int.reduceLE, Int.reduceLT, Int.reduceEq, Nat.reduceDiv, Nat.reduceMod, Nat.reduceSub, Nat.reduceBEq, fitR, fitR1, fitR0, fitRL1, fitRL, hC_len, hC_take, hC_one, hC_ok, hC_solid, hC_np, hC_res, hC_go, hC_nm, hC_labs, hC_own, hC_set, hC_over, hC_fitR, hC_fitL, hZ, zL_len, asH_hC, len_l, hlt, c0, hG, Int.toNat_natCast, Nat.mul_one, b1, w1]
    exact ⟨i + 1, ⟨by omega, by omega⟩, hS.symm, by simp⟩
  have hi26 : i = 26 := by omega
  subst hi26
  have hb26 := hb 26 (by omega)
  have hKe : betK l num den = if 1 < (sumK l 26 * num + den - 1) / den then (sumK l 26 * num + den - 1) / den else 1 := rfl
  rw [hK] at hKe
  generalize hSS : sumK l 26 = S at *
  have hm := mul_bd (x := S) (y := num) (X := 27917287424) (Y := 1000) (by omega) (by omega) d2.1 (by omega)
  generalize hX : S * num = X at *
  have hq1 := Int.ediv_mul_le X (show den ≠ 0 by omega)
  have hq2 := Int.lt_ediv_add_one_mul_self X (show 0 < den by omega)
  have hq0 := Int.ediv_nonneg hm.1 (show 0 ≤ den by omega)
  have hqX : X / den ≤ X := Int.ediv_le_self _ hm.1
  have et : X.tdiv den = X / den := Int.tdiv_eq_ediv_of_nonneg hm.1
  generalize X / den = q at *
  rw [Int.add_mul, Int.one_mul] at hq2
  have hqd : 0 ≤ q * den := Int.mul_nonneg hq0 (by omega)
  have nz : (S == 0) = false := beq_eq_false_iff_ne.2 hS0
  have nd : ¬ den = 0 := by omega
  have wX := i64_wrap (show I64 X by unfold I64; omega)
  have wq := i64_wrap (show I64 q by unfold I64; omega)
  have wqd := i64_wrap (show I64 (q * den) by unfold I64; omega)
  have wq1 := i64_wrap (show I64 (q + 1) by unfold I64; omega)
  by_cases h1 : q * den < X
  · have e := quo_up (D := den) (by omega) h1 (by omega)
    rw [e] at hKe
    have hKq : q + 1 = K := by split at hKe <;> omega
    have wK : IntKind.i64.wrap K = K := by rw [← hKq]; exact wq1
    simp (config := { maxSteps := 9000000 }) only [↓vyD, vyU, binS, SV.go1, SV.go0, mkRow, intsOf, boolsOf, strsOf, chunks, Row.rep, Row.cat, Row.sub, Row.put, Row.len, Row.get, Row.size, Row.flat, bnds, own0, own1, labsL, labsR, SV.labs, argsOf, entFr, SO.ev, St.of, keepSt, getAll, lookN, hasN, SV.cells, SV.one, SV.res1, SV.res0, SV.resP, SV.ok1, SV.ok0, SV.okN, SV.solid, SV.solid1, SV.solid0, SV.flat0, SV.nm, SV.nm1, SV.nm0, SV.noPtr1, SV.noPtr0, Cel.isFresh, fillP, setAt, partV, eqCells, cellEq, gamY, listsOk, tupOf, takeOwn, SV.ret1, resAll, resL, resV, Nat.reduceEqDiff, ↓reduceIte, Nat.reduceAdd, Nat.reduceMul, Nat.reduceLeDiff, Nat.reduceLT, reduceCtorEq, labOk, Int.reduceBEq, Int.reduceBNe, Int.reduceToNat, Int.reduceLE, Int.reduceLT, Int.reduceEq, Nat.reduceDiv, Nat.reduceMod, Nat.reduceSub, Nat.reduceBEq, fitR, fitR1, fitR0, fitRL1, fitRL, hC_len, hC_take, hC_one, hC_ok, hC_solid, hC_np, hC_res, hC_go, hC_nm, hC_labs, hC_own, hC_set, hC_over, hC_fitR, hC_fitL, hZ, zL_len, asH_hC, len_l, hlt, nz, nd, hX, et, wX, wq, wqd, h1, wK, hKq, ne_eq, not_false_eq_true]
    refine loopG_intro (ι := Nat) (fun i => [(12, .int .i64 K), (13, .int .i64 (sumK l i)), (47, .agg (hC l)), (48, .int .i64 i)]) (fun _ => []) (fun i => i ≤ 26 ∧ lenK l K (26 - i) i = lenK l K 26 0 ∧ (i = 26 → sumK l 26 < K)) (fun i => 26 - i) ⟨0, ⟨by omega, rfl, by omega⟩, ?_, ?_, ?_⟩ fun i ⟨hi, hr, hlast⟩ => ?_
    · simp (config := { maxSteps := 9000000 }) only [↓vyD, vyU, binS, SV.go1, SV.go0, mkRow, intsOf, boolsOf, strsOf, chunks, Row.rep, Row.cat, Row.sub, Row.put, Row.len, Row.get, Row.size, Row.flat, bnds, own0, own1, labsL, labsR, SV.labs, argsOf, entFr, SO.ev, St.of, keepSt, getAll, lookN, hasN, SV.cells, SV.one, SV.res1, SV.res0, SV.resP, SV.ok1, SV.ok0, SV.okN, SV.solid, SV.solid1, SV.solid0, SV.flat0, SV.nm, SV.nm1, SV.nm0, SV.noPtr1, SV.noPtr0, Cel.isFresh, fillP, setAt, partV, eqCells, cellEq, gamY, listsOk, tupOf, takeOwn, SV.ret1, resAll, resL, resV, Nat.reduceEqDiff, ↓reduceIte, Nat.reduceAdd, Nat.reduceMul, Nat.reduceLeDiff, Nat.reduceLT, reduceCtorEq, labOk, Int.reduceBEq, Int.reduceBNe, Int.reduceToNat, Int.reduceLE, Int.reduceLT, Int.reduceEq, Nat.reduceDiv, Nat.reduceMod, Nat.reduceSub, Nat.reduceBEq, fitR, fitR1, fitR0, fitRL1, fitRL, hC_len, hC_take, hC_one, hC_ok, hC_solid, hC_np, hC_res, hC_go, hC_nm, hC_labs, hC_own, hC_set, hC_over, hC_fitR, hC_fitL, hZ, zL_len, asH_hC, len_l]
    · simp (config := { maxSteps := 9000000 }) only [↓vyD, vyU, binS, SV.go1, SV.go0, mkRow, intsOf, boolsOf, strsOf, chunks, Row.rep, Row.cat, Row.sub, Row.put, Row.len, Row.get, Row.size, Row.flat, bnds, own0, own1, labsL, labsR, SV.labs, argsOf, entFr, SO.ev, St.of, keepSt, getAll, lookN, hasN, SV.cells, SV.one, SV.res1, SV.res0, SV.resP, SV.ok1, SV.ok0, SV.okN, SV.solid, SV.solid1, SV.solid0, SV.flat0, SV.nm, SV.nm1, SV.nm0, SV.noPtr1, SV.noPtr0, Cel.isFresh, fillP, setAt, partV, eqCells, cellEq, gamY, listsOk, tupOf, takeOwn, SV.ret1, resAll, resL, resV, Nat.reduceEqDiff, ↓reduceIte, Nat.reduceAdd, Nat.reduceMul, Nat.reduceLeDiff, Nat.reduceLT, reduceCtorEq, labOk, Int.reduceBEq, Int.reduceBNe, Int.reduceToNat, Int.reduceLE, Int.reduceLT, Int.reduceEq, Nat.reduceDiv, Nat.reduceMod, Nat.reduceSub, Nat.reduceBEq, fitR, fitR1, fitR0, fitRL1, fitRL, hC_len, hC_take, hC_one, hC_ok, hC_solid, hC_np, hC_res, hC_go, hC_nm, hC_labs, hC_own, hC_set, hC_over, hC_fitR, hC_fitL, hZ, zL_len, asH_hC, len_l, Int.natCast_zero, Int.ofNat_zero, sumK, List.take_zero, List.map_nil, List.sum_nil]
    · simp (config := { maxSteps := 9000000 }) only [↓vyD, vyU, binS, SV.go1, SV.go0, mkRow, intsOf, boolsOf, strsOf, chunks, Row.rep, Row.cat, Row.sub, Row.put, Row.len, Row.get, Row.size, Row.flat, bnds, own0, own1, labsL, labsR, SV.labs, argsOf, entFr, SO.ev, St.of, keepSt, getAll, lookN, hasN, SV.cells, SV.one, SV.res1, SV.res0, SV.resP, SV.ok1, SV.ok0, SV.okN, SV.solid, SV.solid1, SV.solid0, SV.flat0, SV.nm, SV.nm1, SV.nm0, SV.noPtr1, SV.noPtr0, Cel.isFresh, fillP, setAt, partV, eqCells, cellEq, gamY, listsOk, tupOf, takeOwn, SV.ret1, resAll, resL, resV, Nat.reduceEqDiff, ↓reduceIte, Nat.reduceAdd, Nat.reduceMul, Nat.reduceLeDiff, Nat.reduceLT, reduceCtorEq, labOk, Int.reduceBEq, Int.reduceBNe, Int.reduceToNat, Int.reduceLE, Int.reduceLT, Int.reduceEq, Nat.reduceDiv, Nat.reduceMod, Nat.reduceSub, Nat.reduceBEq, fitR, fitR1, fitR0, fitRL1, fitRL, hC_len, hC_take, hC_one, hC_ok, hC_solid, hC_np, hC_res, hC_go, hC_nm, hC_labs, hC_own, hC_set, hC_over, hC_fitR, hC_fitL, hZ, zL_len, asH_hC, len_l]
    by_cases hlt : (i : Int) < 26
    · have hi' : i < l.length := by omega
      have c0 : (0 : Int) ≤ (i : Int) := by omega
      have b1 := i64_wrap (show I64 ((i : Int) + 1) by unfold I64; omega)
      have hG := hC_get hi'
      have hvi := (hE_0 len_l).1 hv i (by omega)
      have hS := sumK_succ hi'
      have hbi := hb (i + 1) (by omega)
      have w1 := i64_wrap (show I64 (sumK l i + l.getD i 0) by rw [← hS]; unfold I64; omega)
      have hs : lenK l K (26 - i) i = if sumK l (i + 1) < K then lenK l K (26 - (i + 1)) (i + 1) else i := by
        rw [show 26 - i = (26 - (i + 1)) + 1 by omega, lenK]
      rw [hS] at hs
      by_cases hge : K ≤ sumK l i + l.getD i 0
      · rw [if_neg (by omega), hr] at hs
        have eN : betN l num den = i := by unfold betN; rw [hK]; exact hs
        by_cases h0 : i = 0
        · subst h0
          have eL : betL l num den = 0 := by unfold betL; rw [if_pos hB, eN]; rfl
          have eH : betH l num den = 0 := by unfold betH; rw [if_pos hB, eN]; rfl
          have z0 : (((0 : Nat) : Int) == 0) = true := rfl
          simp (config := { maxSteps := 9000000 }) only [↓vyD, vyU, binS, SV.go1, SV.go0, mkRow, intsOf, boolsOf, strsOf, chunks, Row.rep, Row.cat, Row.sub, Row.put, Row.len, Row.get, Row.size, Row.flat, bnds, own0, own1, labsL, labsR, SV.labs, argsOf, entFr, SO.ev, St.of, keepSt, getAll, lookN, hasN, SV.cells, SV.one, SV.res1, SV.res0, SV.resP, SV.ok1, SV.ok0, SV.okN, SV.solid, SV.solid1, SV.solid0, SV.flat0, SV.nm, SV.nm1, SV.nm0, SV.noPtr1, SV.noPtr0, Cel.isFresh, fillP, setAt, partV, eqCells, cellEq, gamY, listsOk, tupOf, takeOwn, SV.ret1, resAll, resL, resV, Nat.reduceEqDiff, ↓reduceIte, Nat.reduceAdd, Nat.reduceMul, Nat.reduceLeDiff, Nat.reduceLT, reduceCtorEq, labOk, Int.reduceBEq, Int.reduceBNe, Int.reduceToNat, Int.reduceLE, Int.reduceLT, Int.reduceEq, Nat.reduceDiv, Nat.reduceMod, Nat.reduceSub, Nat.reduceBEq, fitR, fitR1, fitR0, fitRL1, fitRL, hC_len, hC_take, hC_one, hC_ok, hC_solid, hC_np, hC_res, hC_go, hC_nm, hC_labs, hC_own, hC_set, hC_over, hC_fitR, hC_fitL, hZ, zL_len, asH_hC, len_l, hlt, c0, hG, Int.toNat_natCast, Int.toNat_zero, Nat.mul_one, Nat.zero_mul, w1, hge, ge_iff_le, z0, eL, eH, hB, Int.natCast_zero, Int.ofNat_zero]
        · have h0' : ((i : Int) == 0) = false := beq_eq_false_iff_ne.2 (by omega)
          have d1 := i64_wrap (show I64 ((i : Int) - 1) by unfold I64; omega)
          simp (config := { maxSteps := 9000000 }) only [↓vyD, vyU, binS, SV.go1, SV.go0, mkRow, intsOf, boolsOf, strsOf, chunks, Row.rep, Row.cat, Row.sub, Row.put, Row.len, Row.get, Row.size, Row.flat, bnds, own0, own1, labsL, labsR, SV.labs, argsOf, entFr, SO.ev, St.of, keepSt, getAll, lookN, hasN, SV.cells, SV.one, SV.res1, SV.res0, SV.resP, SV.ok1, SV.ok0, SV.okN, SV.solid, SV.solid1, SV.solid0, SV.flat0, SV.nm, SV.nm1, SV.nm0, SV.noPtr1, SV.noPtr0, Cel.isFresh, fillP, setAt, partV, eqCells, cellEq, gamY, listsOk, tupOf, takeOwn, SV.ret1, resAll, resL, resV, Nat.reduceEqDiff, ↓reduceIte, Nat.reduceAdd, Nat.reduceMul, Nat.reduceLeDiff, Nat.reduceLT, reduceCtorEq, labOk, Int.reduceBEq, Int.reduceBNe, Int.reduceToNat, Int.reduceLE, Int.reduceLT, Int.reduceEq, Nat.reduceDiv, Nat.reduceMod, Nat.reduceSub, Nat.reduceBEq, fitR, fitR1, fitR0, fitRL1, fitRL, hC_len, hC_take, hC_one, hC_ok, hC_solid, hC_np, hC_res, hC_go, hC_nm, hC_labs, hC_own, hC_set, hC_over, hC_fitR, hC_fitL, hZ, zL_len, asH_hC, len_l, hlt, c0, hG, Int.toNat_natCast, Nat.mul_one, w1, hge, ge_iff_le, h0', d1]
          refine loopG_intro (ι := Nat) (fun j => [(16, .int .i64 (2 ^ j)), (61, .int .i64 ((i : Int) - 1)), (62, .int .i64 j)]) (fun _ => []) (fun j => j ≤ i - 1) (fun j => i - 1 - j) ⟨0, by omega, ?_, ?_, ?_⟩ fun j hj => ?_
          · simp (config := { maxSteps := 9000000 }) only [↓vyD, vyU, binS, SV.go1, SV.go0, mkRow, intsOf, boolsOf, strsOf, chunks, Row.rep, Row.cat, Row.sub, Row.put, Row.len, Row.get, Row.size, Row.flat, bnds, own0, own1, labsL, labsR, SV.labs, argsOf, entFr, SO.ev, St.of, keepSt, getAll, lookN, hasN, SV.cells, SV.one, SV.res1, SV.res0, SV.resP, SV.ok1, SV.ok0, SV.okN, SV.solid, SV.solid1, SV.solid0, SV.flat0, SV.nm, SV.nm1, SV.nm0, SV.noPtr1, SV.noPtr0, Cel.isFresh, fillP, setAt, partV, eqCells, cellEq, gamY, listsOk, tupOf, takeOwn, SV.ret1, resAll, resL, resV, Nat.reduceEqDiff, ↓reduceIte, Nat.reduceAdd, Nat.reduceMul, Nat.reduceLeDiff, Nat.reduceLT, reduceCtorEq, labOk, Int.reduceBEq, Int.reduceBNe, Int.reduceToNat, Int.reduceLE, Int.reduceLT, Int.reduceEq, Nat.reduceDiv, Nat.reduceMod, Nat.reduceSub, Nat.reduceBEq, fitR, fitR1, fitR0, fitRL1, fitRL, asI]
          · simp (config := { maxSteps := 9000000 }) only [↓vyD, vyU, binS, SV.go1, SV.go0, mkRow, intsOf, boolsOf, strsOf, chunks, Row.rep, Row.cat, Row.sub, Row.put, Row.len, Row.get, Row.size, Row.flat, bnds, own0, own1, labsL, labsR, SV.labs, argsOf, entFr, SO.ev, St.of, keepSt, getAll, lookN, hasN, SV.cells, SV.one, SV.res1, SV.res0, SV.resP, SV.ok1, SV.ok0, SV.okN, SV.solid, SV.solid1, SV.solid0, SV.flat0, SV.nm, SV.nm1, SV.nm0, SV.noPtr1, SV.noPtr0, Cel.isFresh, fillP, setAt, partV, eqCells, cellEq, gamY, listsOk, tupOf, takeOwn, SV.ret1, resAll, resL, resV, Nat.reduceEqDiff, ↓reduceIte, Nat.reduceAdd, Nat.reduceMul, Nat.reduceLeDiff, Nat.reduceLT, reduceCtorEq, labOk, Int.reduceBEq, Int.reduceBNe, Int.reduceToNat, Int.reduceLE, Int.reduceLT, Int.reduceEq, Nat.reduceDiv, Nat.reduceMod, Nat.reduceSub, Nat.reduceBEq, fitR, fitR1, fitR0, fitRL1, fitRL, asI, Int.natCast_zero, Int.ofNat_zero, Int.pow_zero]
          · simp (config := { maxSteps := 9000000 }) only [↓vyD, vyU, binS, SV.go1, SV.go0, mkRow, intsOf, boolsOf, strsOf, chunks, Row.rep, Row.cat, Row.sub, Row.put, Row.len, Row.get, Row.size, Row.flat, bnds, own0, own1, labsL, labsR, SV.labs, argsOf, entFr, SO.ev, St.of, keepSt, getAll, lookN, hasN, SV.cells, SV.one, SV.res1, SV.res0, SV.resP, SV.ok1, SV.ok0, SV.okN, SV.solid, SV.solid1, SV.solid0, SV.flat0, SV.nm, SV.nm1, SV.nm0, SV.noPtr1, SV.noPtr0, Cel.isFresh, fillP, setAt, partV, eqCells, cellEq, gamY, listsOk, tupOf, takeOwn, SV.ret1, resAll, resL, resV, Nat.reduceEqDiff, ↓reduceIte, Nat.reduceAdd, Nat.reduceMul, Nat.reduceLeDiff, Nat.reduceLT, reduceCtorEq, labOk, Int.reduceBEq, Int.reduceBNe, Int.reduceToNat, Int.reduceLE, Int.reduceLT, Int.reduceEq, Nat.reduceDiv, Nat.reduceMod, Nat.reduceSub, Nat.reduceBEq, fitR, fitR1, fitR0, fitRL1, fitRL, asI]
          have p0 := pow2_pos j
          have p1 : (2 : Int) ^ j ≤ 2 ^ 25 := pow2_le (by omega)
          by_cases hjt : (j : Int) < (i : Int) - 1
          · have b2 := i64_wrap (show I64 ((j : Int) + 1) by unfold I64; omega)
            have w2 := i64_wrap (show I64 ((2 : Int) ^ j * 2) by unfold I64; omega)
            simp (config := { maxSteps := 9000000 }) only [↓vyD, vyU, binS, SV.go1, SV.go0, mkRow, intsOf, boolsOf, strsOf, chunks, Row.rep, Row.cat, Row.sub, Row.put, Row.len, Row.get, Row.size, Row.flat, bnds, own0, own1, labsL, labsR, SV.labs, argsOf, entFr, SO.ev, St.of, keepSt, getAll, lookN, hasN, SV.cells, SV.one, SV.res1, SV.res0, SV.resP, SV.ok1, SV.ok0, SV.okN, SV.solid, SV.solid1, SV.solid0, SV.flat0, SV.nm, SV.nm1, SV.nm0, SV.noPtr1, SV.noPtr0, Cel.isFresh, fillP, setAt, partV, eqCells, cellEq, gamY, listsOk, tupOf, takeOwn, SV.ret1, resAll, resL, resV, Nat.reduceEqDiff, ↓reduceIte, Nat.reduceAdd, Nat.reduceMul, Nat.reduceLeDiff, Nat.reduceLT, reduceCtorEq, labOk, Int.reduceBEq, Int.reduceBNe, Int.reduceToNat, Int.reduceLE, Int.reduceLT, Int.reduceEq, Nat.reduceDiv, Nat.reduceMod, Nat.reduceSub, Nat.reduceBEq, fitR, fitR1, fitR0, fitRL1, fitRL, hjt, b2, w2]
            exact ⟨j + 1, ⟨by omega, by omega⟩, by rw [Int.pow_succ], by simp⟩
          · have hji : j = i - 1 := by omega
            have w3 := i64_wrap (show I64 (2 * (2 : Int) ^ j) by unfold I64; omega)
            have w4 := i64_wrap (show I64 (2 * (2 : Int) ^ j - 1) by unfold I64; omega)
            have eL : betL l num den = 2 ^ j := by unfold betL; rw [if_pos hB, eN, hji]; exact if_neg h0
            have eH : betH l num den = if 2 * (2 : Int) ^ j - 1 < 16777216 then 2 * 2 ^ j - 1 else 16777216 := by
              unfold betH; rw [if_pos hB, eN, hji, ← pow2_pred h0]; exact if_neg h0
            simp (config := { maxSteps := 9000000 }) only [↓vyD, vyU, binS, SV.go1, SV.go0, mkRow, intsOf, boolsOf, strsOf, chunks, Row.rep, Row.cat, Row.sub, Row.put, Row.len, Row.get, Row.size, Row.flat, bnds, own0, own1, labsL, labsR, SV.labs, argsOf, entFr, SO.ev, St.of, keepSt, getAll, lookN, hasN, SV.cells, SV.one, SV.res1, SV.res0, SV.resP, SV.ok1, SV.ok0, SV.okN, SV.solid, SV.solid1, SV.solid0, SV.flat0, SV.nm, SV.nm1, SV.nm0, SV.noPtr1, SV.noPtr0, Cel.isFresh, fillP, setAt, partV, eqCells, cellEq, gamY, listsOk, tupOf, takeOwn, SV.ret1, resAll, resL, resV, Nat.reduceEqDiff, ↓reduceIte, Nat.reduceAdd, Nat.reduceMul, Nat.reduceLeDiff, Nat.reduceLT, reduceCtorEq, labOk, Int.reduceBEq, Int.reduceBNe, Int.reduceToNat, Int.reduceLE, Int.reduceLT, Int.reduceEq, Nat.reduceDiv, Nat.reduceMod, Nat.reduceSub, Nat.reduceBEq, fitR, fitR1, fitR0, fitRL1, fitRL, hjt, w3, w4, eL, eH, hB]
      · rw [if_pos (by omega), hr] at hs
        simp (config := { maxSteps := 9000000 }) only [↓vyD, vyU, binS, SV.go1, SV.go0, mkRow, intsOf, boolsOf, strsOf, chunks, Row.rep, Row.cat, Row.sub, Row.put, Row.len, Row.get, Row.size, Row.flat, bnds, own0, own1, labsL, labsR, SV.labs, argsOf, entFr, SO.ev, St.of, keepSt, getAll, lookN, hasN, SV.cells, SV.one, SV.res1, SV.res0, SV.resP, SV.ok1, SV.ok0, SV.okN, SV.solid, SV.solid1, SV.solid0, SV.flat0, SV.nm, SV.nm1, SV.nm0, SV.noPtr1, SV.noPtr0, Cel.isFresh, fillP, setAt, partV, eqCells, cellEq, gamY, listsOk, tupOf, takeOwn, SV.ret1, resAll, resL, resV, Nat.reduceEqDiff, ↓reduceIte, Nat.reduceAdd, Nat.reduceMul, Nat.reduceLeDiff, Nat.reduceLT, reduceCtorEq, labOk, Int.reduceBEq, Int.reduceBNe, Int.reduceToNat, Int.reduceLE, Int.reduceLT, Int.reduceEq, Nat.reduceDiv, Nat.reduceMod, Nat.reduceSub, Nat.reduceBEq, fitR, fitR1, fitR0, fitRL1, fitRL, hC_len, hC_take, hC_one, hC_ok, hC_solid, hC_np, hC_res, hC_go, hC_nm, hC_labs, hC_own, hC_set, hC_over, hC_fitR, hC_fitL, hZ, zL_len, asH_hC, len_l, hlt, c0, hG, Int.toNat_natCast, Nat.mul_one, w1, hge, ge_iff_le, b1]
        exact ⟨i + 1, ⟨⟨by omega, hs.symm, fun h => by rw [← h, hS]; omega⟩, by omega⟩, hS.symm, by simp⟩
    · have hi26 : i = 26 := by omega
      have := hlast hi26
      omega
  · have hXe : q * den = X := by omega
    have e : (X + den - 1) / den = q := by rw [← hXe]; exact ceil_self (by omega)
    rw [e] at hKe
    by_cases h2 : q = 0
    · have h2' : (q == 0) = true := by simpa using h2
      have hKq : q + 1 = K := by split at hKe <;> omega
      have wK : IntKind.i64.wrap K = K := by rw [← hKq]; exact wq1
      simp (config := { maxSteps := 9000000 }) only [↓vyD, vyU, binS, SV.go1, SV.go0, mkRow, intsOf, boolsOf, strsOf, chunks, Row.rep, Row.cat, Row.sub, Row.put, Row.len, Row.get, Row.size, Row.flat, bnds, own0, own1, labsL, labsR, SV.labs, argsOf, entFr, SO.ev, St.of, keepSt, getAll, lookN, hasN, SV.cells, SV.one, SV.res1, SV.res0, SV.resP, SV.ok1, SV.ok0, SV.okN, SV.solid, SV.solid1, SV.solid0, SV.flat0, SV.nm, SV.nm1, SV.nm0, SV.noPtr1, SV.noPtr0, Cel.isFresh, fillP, setAt, partV, eqCells, cellEq, gamY, listsOk, tupOf, takeOwn, SV.ret1, resAll, resL, resV, Nat.reduceEqDiff, ↓reduceIte, Nat.reduceAdd, Nat.reduceMul, Nat.reduceLeDiff, Nat.reduceLT, reduceCtorEq, labOk, Int.reduceBEq, Int.reduceBNe, Int.reduceToNat, Int.reduceLE, Int.reduceLT, Int.reduceEq, Nat.reduceDiv, Nat.reduceMod, Nat.reduceSub, Nat.reduceBEq, fitR, fitR1, fitR0, fitRL1, fitRL, hC_len, hC_take, hC_one, hC_ok, hC_solid, hC_np, hC_res, hC_go, hC_nm, hC_labs, hC_own, hC_set, hC_over, hC_fitR, hC_fitL, hZ, zL_len, asH_hC, len_l, hlt, nz, nd, hX, et, wX, wq, wqd, h1, h2', wK, hKq, ne_eq, not_false_eq_true]
      refine loopG_intro (ι := Nat) (fun i => [(12, .int .i64 K), (13, .int .i64 (sumK l i)), (47, .agg (hC l)), (48, .int .i64 i)]) (fun _ => []) (fun i => i ≤ 26 ∧ lenK l K (26 - i) i = lenK l K 26 0 ∧ (i = 26 → sumK l 26 < K)) (fun i => 26 - i) ⟨0, ⟨by omega, rfl, by omega⟩, ?_, ?_, ?_⟩ fun i ⟨hi, hr, hlast⟩ => ?_
      · simp (config := { maxSteps := 9000000 }) only [↓vyD, vyU, binS, SV.go1, SV.go0, mkRow, intsOf, boolsOf, strsOf, chunks, Row.rep, Row.cat, Row.sub, Row.put, Row.len, Row.get, Row.size, Row.flat, bnds, own0, own1, labsL, labsR, SV.labs, argsOf, entFr, SO.ev, St.of, keepSt, getAll, lookN, hasN, SV.cells, SV.one, SV.res1, SV.res0, SV.resP, SV.ok1, SV.ok0, SV.okN, SV.solid, SV.solid1, SV.solid0, SV.flat0, SV.nm, SV.nm1, SV.nm0, SV.noPtr1, SV.noPtr0, Cel.isFresh, fillP, setAt, partV, eqCells, cellEq, gamY, listsOk, tupOf, takeOwn, SV.ret1, resAll, resL, resV, Nat.reduceEqDiff, ↓reduceIte, Nat.reduceAdd, Nat.reduceMul, Nat.reduceLeDiff, Nat.reduceLT, reduceCtorEq, labOk, Int.reduceBEq, Int.reduceBNe, Int.reduceToNat, Int.reduceLE, Int.reduceLT, Int.reduceEq, Nat.reduceDiv, Nat.reduceMod, Nat.reduceSub, Nat.reduceBEq, fitR, fitR1, fitR0, fitRL1, fitRL, hC_len, hC_take, hC_one, hC_ok, hC_solid, hC_np, hC_res, hC_go, hC_nm, hC_labs, hC_own, hC_set, hC_over, hC_fitR, hC_fitL, hZ, zL_len, asH_hC, len_l]
      · simp (config := { maxSteps := 9000000 }) only [↓vyD, vyU, binS, SV.go1, SV.go0, mkRow, intsOf, boolsOf, strsOf, chunks, Row.rep, Row.cat, Row.sub, Row.put, Row.len, Row.get, Row.size, Row.flat, bnds, own0, own1, labsL, labsR, SV.labs, argsOf, entFr, SO.ev, St.of, keepSt, getAll, lookN, hasN, SV.cells, SV.one, SV.res1, SV.res0, SV.resP, SV.ok1, SV.ok0, SV.okN, SV.solid, SV.solid1, SV.solid0, SV.flat0, SV.nm, SV.nm1, SV.nm0, SV.noPtr1, SV.noPtr0, Cel.isFresh, fillP, setAt, partV, eqCells, cellEq, gamY, listsOk, tupOf, takeOwn, SV.ret1, resAll, resL, resV, Nat.reduceEqDiff, ↓reduceIte, Nat.reduceAdd, Nat.reduceMul, Nat.reduceLeDiff, Nat.reduceLT, reduceCtorEq, labOk, Int.reduceBEq, Int.reduceBNe, Int.reduceToNat, Int.reduceLE, Int.reduceLT, Int.reduceEq, Nat.reduceDiv, Nat.reduceMod, Nat.reduceSub, Nat.reduceBEq, fitR, fitR1, fitR0, fitRL1, fitRL, hC_len, hC_take, hC_one, hC_ok, hC_solid, hC_np, hC_res, hC_go, hC_nm, hC_labs, hC_own, hC_set, hC_over, hC_fitR, hC_fitL, hZ, zL_len, asH_hC, len_l, Int.natCast_zero, Int.ofNat_zero, sumK, List.take_zero, List.map_nil, List.sum_nil]
      · simp (config := { maxSteps := 9000000 }) only [↓vyD, vyU, binS, SV.go1, SV.go0, mkRow, intsOf, boolsOf, strsOf, chunks, Row.rep, Row.cat, Row.sub, Row.put, Row.len, Row.get, Row.size, Row.flat, bnds, own0, own1, labsL, labsR, SV.labs, argsOf, entFr, SO.ev, St.of, keepSt, getAll, lookN, hasN, SV.cells, SV.one, SV.res1, SV.res0, SV.resP, SV.ok1, SV.ok0, SV.okN, SV.solid, SV.solid1, SV.solid0, SV.flat0, SV.nm, SV.nm1, SV.nm0, SV.noPtr1, SV.noPtr0, Cel.isFresh, fillP, setAt, partV, eqCells, cellEq, gamY, listsOk, tupOf, takeOwn, SV.ret1, resAll, resL, resV, Nat.reduceEqDiff, ↓reduceIte, Nat.reduceAdd, Nat.reduceMul, Nat.reduceLeDiff, Nat.reduceLT, reduceCtorEq, labOk, Int.reduceBEq, Int.reduceBNe, Int.reduceToNat, Int.reduceLE, Int.reduceLT, Int.reduceEq, Nat.reduceDiv, Nat.reduceMod, Nat.reduceSub, Nat.reduceBEq, fitR, fitR1, fitR0, fitRL1, fitRL, hC_len, hC_take, hC_one, hC_ok, hC_solid, hC_np, hC_res, hC_go, hC_nm, hC_labs, hC_own, hC_set, hC_over, hC_fitR, hC_fitL, hZ, zL_len, asH_hC, len_l]
      by_cases hlt : (i : Int) < 26
      · have hi' : i < l.length := by omega
        have c0 : (0 : Int) ≤ (i : Int) := by omega
        have b1 := i64_wrap (show I64 ((i : Int) + 1) by unfold I64; omega)
        have hG := hC_get hi'
        have hvi := (hE_0 len_l).1 hv i (by omega)
        have hS := sumK_succ hi'
        have hbi := hb (i + 1) (by omega)
        have w1 := i64_wrap (show I64 (sumK l i + l.getD i 0) by rw [← hS]; unfold I64; omega)
        have hs : lenK l K (26 - i) i = if sumK l (i + 1) < K then lenK l K (26 - (i + 1)) (i + 1) else i := by
          rw [show 26 - i = (26 - (i + 1)) + 1 by omega, lenK]
        rw [hS] at hs
        by_cases hge : K ≤ sumK l i + l.getD i 0
        · rw [if_neg (by omega), hr] at hs
          have eN : betN l num den = i := by unfold betN; rw [hK]; exact hs
          by_cases h0 : i = 0
          · subst h0
            have eL : betL l num den = 0 := by unfold betL; rw [if_pos hB, eN]; rfl
            have eH : betH l num den = 0 := by unfold betH; rw [if_pos hB, eN]; rfl
            have z0 : (((0 : Nat) : Int) == 0) = true := rfl
            simp (config := { maxSteps := 9000000 }) only [↓vyD, vyU, binS, SV.go1, SV.go0, mkRow, intsOf, boolsOf, strsOf, chunks, Row.rep, Row.cat, Row.sub, Row.put, Row.len, Row.get, Row.size, Row.flat, bnds, own0, own1, labsL, labsR, SV.labs, argsOf, entFr, SO.ev, St.of, keepSt, getAll, lookN, hasN, SV.cells, SV.one, SV.res1, SV.res0, SV.resP, SV.ok1, SV.ok0, SV.okN, SV.solid, SV.solid1, SV.solid0, SV.flat0, SV.nm, SV.nm1, SV.nm0, SV.noPtr1, SV.noPtr0, Cel.isFresh, fillP, setAt, partV, eqCells, cellEq, gamY, listsOk, tupOf, takeOwn, SV.ret1, resAll, resL, resV, Nat.reduceEqDiff, ↓reduceIte, Nat.reduceAdd, Nat.reduceMul, Nat.reduceLeDiff, Nat.reduceLT, reduceCtorEq, labOk, Int.reduceBEq, Int.reduceBNe, Int.reduceToNat, Int.reduceLE, Int.reduceLT, Int.reduceEq, Nat.reduceDiv, Nat.reduceMod, Nat.reduceSub, Nat.reduceBEq, fitR, fitR1, fitR0, fitRL1, fitRL, hC_len, hC_take, hC_one, hC_ok, hC_solid, hC_np, hC_res, hC_go, hC_nm, hC_labs, hC_own, hC_set, hC_over, hC_fitR, hC_fitL, hZ, zL_len, asH_hC, len_l, hlt, c0, hG, Int.toNat_natCast, Int.toNat_zero, Nat.mul_one, Nat.zero_mul, w1, hge, ge_iff_le, z0, eL, eH, hB, Int.natCast_zero, Int.ofNat_zero]
          · have h0' : ((i : Int) == 0) = false := beq_eq_false_iff_ne.2 (by omega)
            have d1 := i64_wrap (show I64 ((i : Int) - 1) by unfold I64; omega)
            simp (config := { maxSteps := 9000000 }) only [↓vyD, vyU, binS, SV.go1, SV.go0, mkRow, intsOf, boolsOf, strsOf, chunks, Row.rep, Row.cat, Row.sub, Row.put, Row.len, Row.get, Row.size, Row.flat, bnds, own0, own1, labsL, labsR, SV.labs, argsOf, entFr, SO.ev, St.of, keepSt, getAll, lookN, hasN, SV.cells, SV.one, SV.res1, SV.res0, SV.resP, SV.ok1, SV.ok0, SV.okN, SV.solid, SV.solid1, SV.solid0, SV.flat0, SV.nm, SV.nm1, SV.nm0, SV.noPtr1, SV.noPtr0, Cel.isFresh, fillP, setAt, partV, eqCells, cellEq, gamY, listsOk, tupOf, takeOwn, SV.ret1, resAll, resL, resV, Nat.reduceEqDiff, ↓reduceIte, Nat.reduceAdd, Nat.reduceMul, Nat.reduceLeDiff, Nat.reduceLT, reduceCtorEq, labOk, Int.reduceBEq, Int.reduceBNe, Int.reduceToNat, Int.reduceLE, Int.reduceLT, Int.reduceEq, Nat.reduceDiv, Nat.reduceMod, Nat.reduceSub, Nat.reduceBEq, fitR, fitR1, fitR0, fitRL1, fitRL, hC_len, hC_take, hC_one, hC_ok, hC_solid, hC_np, hC_res, hC_go, hC_nm, hC_labs, hC_own, hC_set, hC_over, hC_fitR, hC_fitL, hZ, zL_len, asH_hC, len_l, hlt, c0, hG, Int.toNat_natCast, Nat.mul_one, w1, hge, ge_iff_le, h0', d1]
            refine loopG_intro (ι := Nat) (fun j => [(16, .int .i64 (2 ^ j)), (61, .int .i64 ((i : Int) - 1)), (62, .int .i64 j)]) (fun _ => []) (fun j => j ≤ i - 1) (fun j => i - 1 - j) ⟨0, by omega, ?_, ?_, ?_⟩ fun j hj => ?_
            · simp (config := { maxSteps := 9000000 }) only [↓vyD, vyU, binS, SV.go1, SV.go0, mkRow, intsOf, boolsOf, strsOf, chunks, Row.rep, Row.cat, Row.sub, Row.put, Row.len, Row.get, Row.size, Row.flat, bnds, own0, own1, labsL, labsR, SV.labs, argsOf, entFr, SO.ev, St.of, keepSt, getAll, lookN, hasN, SV.cells, SV.one, SV.res1, SV.res0, SV.resP, SV.ok1, SV.ok0, SV.okN, SV.solid, SV.solid1, SV.solid0, SV.flat0, SV.nm, SV.nm1, SV.nm0, SV.noPtr1, SV.noPtr0, Cel.isFresh, fillP, setAt, partV, eqCells, cellEq, gamY, listsOk, tupOf, takeOwn, SV.ret1, resAll, resL, resV, Nat.reduceEqDiff, ↓reduceIte, Nat.reduceAdd, Nat.reduceMul, Nat.reduceLeDiff, Nat.reduceLT, reduceCtorEq, labOk, Int.reduceBEq, Int.reduceBNe, Int.reduceToNat, Int.reduceLE, Int.reduceLT, Int.reduceEq, Nat.reduceDiv, Nat.reduceMod, Nat.reduceSub, Nat.reduceBEq, fitR, fitR1, fitR0, fitRL1, fitRL, asI]
            · simp (config := { maxSteps := 9000000 }) only [↓vyD, vyU, binS, SV.go1, SV.go0, mkRow, intsOf, boolsOf, strsOf, chunks, Row.rep, Row.cat, Row.sub, Row.put, Row.len, Row.get, Row.size, Row.flat, bnds, own0, own1, labsL, labsR, SV.labs, argsOf, entFr, SO.ev, St.of, keepSt, getAll, lookN, hasN, SV.cells, SV.one, SV.res1, SV.res0, SV.resP, SV.ok1, SV.ok0, SV.okN, SV.solid, SV.solid1, SV.solid0, SV.flat0, SV.nm, SV.nm1, SV.nm0, SV.noPtr1, SV.noPtr0, Cel.isFresh, fillP, setAt, partV, eqCells, cellEq, gamY, listsOk, tupOf, takeOwn, SV.ret1, resAll, resL, resV, Nat.reduceEqDiff, ↓reduceIte, Nat.reduceAdd, Nat.reduceMul, Nat.reduceLeDiff, Nat.reduceLT, reduceCtorEq, labOk, Int.reduceBEq, Int.reduceBNe, Int.reduceToNat, Int.reduceLE, Int.reduceLT, Int.reduceEq, Nat.reduceDiv, Nat.reduceMod, Nat.reduceSub, Nat.reduceBEq, fitR, fitR1, fitR0, fitRL1, fitRL, asI, Int.natCast_zero, Int.ofNat_zero, Int.pow_zero]
            · simp (config := { maxSteps := 9000000 }) only [↓vyD, vyU, binS, SV.go1, SV.go0, mkRow, intsOf, boolsOf, strsOf, chunks, Row.rep, Row.cat, Row.sub, Row.put, Row.len, Row.get, Row.size, Row.flat, bnds, own0, own1, labsL, labsR, SV.labs, argsOf, entFr, SO.ev, St.of, keepSt, getAll, lookN, hasN, SV.cells, SV.one, SV.res1, SV.res0, SV.resP, SV.ok1, SV.ok0, SV.okN, SV.solid, SV.solid1, SV.solid0, SV.flat0, SV.nm, SV.nm1, SV.nm0, SV.noPtr1, SV.noPtr0, Cel.isFresh, fillP, setAt, partV, eqCells, cellEq, gamY, listsOk, tupOf, takeOwn, SV.ret1, resAll, resL, resV, Nat.reduceEqDiff, ↓reduceIte, Nat.reduceAdd, Nat.reduceMul, Nat.reduceLeDiff, Nat.reduceLT, reduceCtorEq, labOk, Int.reduceBEq, Int.reduceBNe, Int.reduceToNat, Int.reduceLE, Int.reduceLT, Int.reduceEq, Nat.reduceDiv, Nat.reduceMod, Nat.reduceSub, Nat.reduceBEq, fitR, fitR1, fitR0, fitRL1, fitRL, asI]
            have p0 := pow2_pos j
            have p1 : (2 : Int) ^ j ≤ 2 ^ 25 := pow2_le (by omega)
            by_cases hjt : (j : Int) < (i : Int) - 1
            · have b2 := i64_wrap (show I64 ((j : Int) + 1) by unfold I64; omega)
              have w2 := i64_wrap (show I64 ((2 : Int) ^ j * 2) by unfold I64; omega)
              simp (config := { maxSteps := 9000000 }) only [↓vyD, vyU, binS, SV.go1, SV.go0, mkRow, intsOf, boolsOf, strsOf, chunks, Row.rep, Row.cat, Row.sub, Row.put, Row.len, Row.get, Row.size, Row.flat, bnds, own0, own1, labsL, labsR, SV.labs, argsOf, entFr, SO.ev, St.of, keepSt, getAll, lookN, hasN, SV.cells, SV.one, SV.res1, SV.res0, SV.resP, SV.ok1, SV.ok0, SV.okN, SV.solid, SV.solid1, SV.solid0, SV.flat0, SV.nm, SV.nm1, SV.nm0, SV.noPtr1, SV.noPtr0, Cel.isFresh, fillP, setAt, partV, eqCells, cellEq, gamY, listsOk, tupOf, takeOwn, SV.ret1, resAll, resL, resV, Nat.reduceEqDiff, ↓reduceIte, Nat.reduceAdd, Nat.reduceMul, Nat.reduceLeDiff, Nat.reduceLT, reduceCtorEq, labOk, Int.reduceBEq, Int.reduceBNe, Int.reduceToNat, Int.reduceLE, Int.reduceLT, Int.reduceEq, Nat.reduceDiv, Nat.reduceMod, Nat.reduceSub, Nat.reduceBEq, fitR, fitR1, fitR0, fitRL1, fitRL, hjt, b2, w2]
              exact ⟨j + 1, ⟨by omega, by omega⟩, by rw [Int.pow_succ], by simp⟩
            · have hji : j = i - 1 := by omega
              have w3 := i64_wrap (show I64 (2 * (2 : Int) ^ j) by unfold I64; omega)
              have w4 := i64_wrap (show I64 (2 * (2 : Int) ^ j - 1) by unfold I64; omega)
              have eL : betL l num den = 2 ^ j := by unfold betL; rw [if_pos hB, eN, hji]; exact if_neg h0
              have eH : betH l num den = if 2 * (2 : Int) ^ j - 1 < 16777216 then 2 * 2 ^ j - 1 else 16777216 := by
                unfold betH; rw [if_pos hB, eN, hji, ← pow2_pred h0]; exact if_neg h0
              simp (config := { maxSteps := 9000000 }) only [↓vyD, vyU, binS, SV.go1, SV.go0, mkRow, intsOf, boolsOf, strsOf, chunks, Row.rep, Row.cat, Row.sub, Row.put, Row.len, Row.get, Row.size, Row.flat, bnds, own0, own1, labsL, labsR, SV.labs, argsOf, entFr, SO.ev, St.of, keepSt, getAll, lookN, hasN, SV.cells, SV.one, SV.res1, SV.res0, SV.resP, SV.ok1, SV.ok0, SV.okN, SV.solid, SV.solid1, SV.solid0, SV.flat0, SV.nm, SV.nm1, SV.nm0, SV.noPtr1, SV.noPtr0, Cel.isFresh, fillP, setAt, partV, eqCells, cellEq, gamY, listsOk, tupOf, takeOwn, SV.ret1, resAll, resL, resV, Nat.reduceEqDiff, ↓reduceIte, Nat.reduceAdd, Nat.reduceMul, Nat.reduceLeDiff, Nat.reduceLT, reduceCtorEq, labOk, Int.reduceBEq, Int.reduceBNe, Int.reduceToNat, Int.reduceLE, Int.reduceLT, Int.reduceEq, Nat.reduceDiv, Nat.reduceMod, Nat.reduceSub, Nat.reduceBEq, fitR, fitR1, fitR0, fitRL1, fitRL, hjt, w3, w4, eL, eH, hB]
        · rw [if_pos (by omega), hr] at hs
          simp (config := { maxSteps := 9000000 }) only [↓vyD, vyU, binS, SV.go1, SV.go0, mkRow, intsOf, boolsOf, strsOf, chunks, Row.rep, Row.cat, Row.sub, Row.put, Row.len, Row.get, Row.size, Row.flat, bnds, own0, own1, labsL, labsR, SV.labs, argsOf, entFr, SO.ev, St.of, keepSt, getAll, lookN, hasN, SV.cells, SV.one, SV.res1, SV.res0, SV.resP, SV.ok1, SV.ok0, SV.okN, SV.solid, SV.solid1, SV.solid0, SV.flat0, SV.nm, SV.nm1, SV.nm0, SV.noPtr1, SV.noPtr0, Cel.isFresh, fillP, setAt, partV, eqCells, cellEq, gamY, listsOk, tupOf, takeOwn, SV.ret1, resAll, resL, resV, Nat.reduceEqDiff, ↓reduceIte, Nat.reduceAdd, Nat.reduceMul, Nat.reduceLeDiff, Nat.reduceLT, reduceCtorEq, labOk, Int.reduceBEq, Int.reduceBNe, Int.reduceToNat, Int.reduceLE, Int.reduceLT, Int.reduceEq, Nat.reduceDiv, Nat.reduceMod, Nat.reduceSub, Nat.reduceBEq, fitR, fitR1, fitR0, fitRL1, fitRL, hC_len, hC_take, hC_one, hC_ok, hC_solid, hC_np, hC_res, hC_go, hC_nm, hC_labs, hC_own, hC_set, hC_over, hC_fitR, hC_fitL, hZ, zL_len, asH_hC, len_l, hlt, c0, hG, Int.toNat_natCast, Nat.mul_one, w1, hge, ge_iff_le, b1]
          exact ⟨i + 1, ⟨⟨by omega, hs.symm, fun h => by rw [← h, hS]; omega⟩, by omega⟩, hS.symm, by simp⟩
      · have hi26 : i = 26 := by omega
        have := hlast hi26
        omega
    · have h2' : (q == 0) = false := beq_eq_false_iff_ne.2 h2
      have hKq : q = K := by split at hKe <;> omega
      subst hKq
      generalize hKq : q = K at *
      simp (config := { maxSteps := 9000000 }) only [↓vyD, vyU, binS, SV.go1, SV.go0, mkRow, intsOf, boolsOf, strsOf, chunks, Row.rep, Row.cat, Row.sub, Row.put, Row.len, Row.get, Row.size, Row.flat, bnds, own0, own1, labsL, labsR, SV.labs, argsOf, entFr, SO.ev, St.of, keepSt, getAll, lookN, hasN, SV.cells, SV.one, SV.res1, SV.res0, SV.resP, SV.ok1, SV.ok0, SV.okN, SV.solid, SV.solid1, SV.solid0, SV.flat0, SV.nm, SV.nm1, SV.nm0, SV.noPtr1, SV.noPtr0, Cel.isFresh, fillP, setAt, partV, eqCells, cellEq, gamY, listsOk, tupOf, takeOwn, SV.ret1, resAll, resL, resV, Nat.reduceEqDiff, ↓reduceIte, Nat.reduceAdd, Nat.reduceMul, Nat.reduceLeDiff, Nat.reduceLT, reduceCtorEq, labOk, Int.reduceBEq, Int.reduceBNe, Int.reduceToNat, Int.reduceLE, Int.reduceLT, Int.reduceEq, Nat.reduceDiv, Nat.reduceMod, Nat.reduceSub, Nat.reduceBEq, fitR, fitR1, fitR0, fitRL1, fitRL, hC_len, hC_take, hC_one, hC_ok, hC_solid, hC_np, hC_res, hC_go, hC_nm, hC_labs, hC_own, hC_set, hC_over, hC_fitR, hC_fitL, hZ, zL_len, asH_hC, len_l, hlt, nz, nd, hX, et, wX, wq, wqd, h1, h2', ne_eq, not_false_eq_true]
      refine loopG_intro (ι := Nat) (fun i => [(12, .int .i64 K), (13, .int .i64 (sumK l i)), (47, .agg (hC l)), (48, .int .i64 i)]) (fun _ => []) (fun i => i ≤ 26 ∧ lenK l K (26 - i) i = lenK l K 26 0 ∧ (i = 26 → sumK l 26 < K)) (fun i => 26 - i) ⟨0, ⟨by omega, rfl, by omega⟩, ?_, ?_, ?_⟩ fun i ⟨hi, hr, hlast⟩ => ?_
      · simp (config := { maxSteps := 9000000 }) only [↓vyD, vyU, binS, SV.go1, SV.go0, mkRow, intsOf, boolsOf, strsOf, chunks, Row.rep, Row.cat, Row.sub, Row.put, Row.len, Row.get, Row.size, Row.flat, bnds, own0, own1, labsL, labsR, SV.labs, argsOf, entFr, SO.ev, St.of, keepSt, getAll, lookN, hasN, SV.cells, SV.one, SV.res1, SV.res0, SV.resP, SV.ok1, SV.ok0, SV.okN, SV.solid, SV.solid1, SV.solid0, SV.flat0, SV.nm, SV.nm1, SV.nm0, SV.noPtr1, SV.noPtr0, Cel.isFresh, fillP, setAt, partV, eqCells, cellEq, gamY, listsOk, tupOf, takeOwn, SV.ret1, resAll, resL, resV, Nat.reduceEqDiff, ↓reduceIte, Nat.reduceAdd, Nat.reduceMul, Nat.reduceLeDiff, Nat.reduceLT, reduceCtorEq, labOk, Int.reduceBEq, Int.reduceBNe, Int.reduceToNat, Int.reduceLE, Int.reduceLT, Int.reduceEq, Nat.reduceDiv, Nat.reduceMod, Nat.reduceSub, Nat.reduceBEq, fitR, fitR1, fitR0, fitRL1, fitRL, hC_len, hC_take, hC_one, hC_ok, hC_solid, hC_np, hC_res, hC_go, hC_nm, hC_labs, hC_own, hC_set, hC_over, hC_fitR, hC_fitL, hZ, zL_len, asH_hC, len_l]
      · simp (config := { maxSteps := 9000000 }) only [↓vyD, vyU, binS, SV.go1, SV.go0, mkRow, intsOf, boolsOf, strsOf, chunks, Row.rep, Row.cat, Row.sub, Row.put, Row.len, Row.get, Row.size, Row.flat, bnds, own0, own1, labsL, labsR, SV.labs, argsOf, entFr, SO.ev, St.of, keepSt, getAll, lookN, hasN, SV.cells, SV.one, SV.res1, SV.res0, SV.resP, SV.ok1, SV.ok0, SV.okN, SV.solid, SV.solid1, SV.solid0, SV.flat0, SV.nm, SV.nm1, SV.nm0, SV.noPtr1, SV.noPtr0, Cel.isFresh, fillP, setAt, partV, eqCells, cellEq, gamY, listsOk, tupOf, takeOwn, SV.ret1, resAll, resL, resV, Nat.reduceEqDiff, ↓reduceIte, Nat.reduceAdd, Nat.reduceMul, Nat.reduceLeDiff, Nat.reduceLT, reduceCtorEq, labOk, Int.reduceBEq, Int.reduceBNe, Int.reduceToNat, Int.reduceLE, Int.reduceLT, Int.reduceEq, Nat.reduceDiv, Nat.reduceMod, Nat.reduceSub, Nat.reduceBEq, fitR, fitR1, fitR0, fitRL1, fitRL, hC_len, hC_take, hC_one, hC_ok, hC_solid, hC_np, hC_res, hC_go, hC_nm, hC_labs, hC_own, hC_set, hC_over, hC_fitR, hC_fitL, hZ, zL_len, asH_hC, len_l, Int.natCast_zero, Int.ofNat_zero, sumK, List.take_zero, List.map_nil, List.sum_nil]
      · simp (config := { maxSteps := 9000000 }) only [↓vyD, vyU, binS, SV.go1, SV.go0, mkRow, intsOf, boolsOf, strsOf, chunks, Row.rep, Row.cat, Row.sub, Row.put, Row.len, Row.get, Row.size, Row.flat, bnds, own0, own1, labsL, labsR, SV.labs, argsOf, entFr, SO.ev, St.of, keepSt, getAll, lookN, hasN, SV.cells, SV.one, SV.res1, SV.res0, SV.resP, SV.ok1, SV.ok0, SV.okN, SV.solid, SV.solid1, SV.solid0, SV.flat0, SV.nm, SV.nm1, SV.nm0, SV.noPtr1, SV.noPtr0, Cel.isFresh, fillP, setAt, partV, eqCells, cellEq, gamY, listsOk, tupOf, takeOwn, SV.ret1, resAll, resL, resV, Nat.reduceEqDiff, ↓reduceIte, Nat.reduceAdd, Nat.reduceMul, Nat.reduceLeDiff, Nat.reduceLT, reduceCtorEq, labOk, Int.reduceBEq, Int.reduceBNe, Int.reduceToNat, Int.reduceLE, Int.reduceLT, Int.reduceEq, Nat.reduceDiv, Nat.reduceMod, Nat.reduceSub, Nat.reduceBEq, fitR, fitR1, fitR0, fitRL1, fitRL, hC_len, hC_take, hC_one, hC_ok, hC_solid, hC_np, hC_res, hC_go, hC_nm, hC_labs, hC_own, hC_set, hC_over, hC_fitR, hC_fitL, hZ, zL_len, asH_hC, len_l]
      by_cases hlt : (i : Int) < 26
      · have hi' : i < l.length := by omega
        have c0 : (0 : Int) ≤ (i : Int) := by omega
        have b1 := i64_wrap (show I64 ((i : Int) + 1) by unfold I64; omega)
        have hG := hC_get hi'
        have hvi := (hE_0 len_l).1 hv i (by omega)
        have hS := sumK_succ hi'
        have hbi := hb (i + 1) (by omega)
        have w1 := i64_wrap (show I64 (sumK l i + l.getD i 0) by rw [← hS]; unfold I64; omega)
        have hs : lenK l K (26 - i) i = if sumK l (i + 1) < K then lenK l K (26 - (i + 1)) (i + 1) else i := by
          rw [show 26 - i = (26 - (i + 1)) + 1 by omega, lenK]
        rw [hS] at hs
        by_cases hge : K ≤ sumK l i + l.getD i 0
        · rw [if_neg (by omega), hr] at hs
          have eN : betN l num den = i := by unfold betN; rw [hK]; exact hs
          by_cases h0 : i = 0
          · subst h0
            have eL : betL l num den = 0 := by unfold betL; rw [if_pos hB, eN]; rfl
            have eH : betH l num den = 0 := by unfold betH; rw [if_pos hB, eN]; rfl
            have z0 : (((0 : Nat) : Int) == 0) = true := rfl
            simp (config := { maxSteps := 9000000 }) only [↓vyD, vyU, binS, SV.go1, SV.go0, mkRow, intsOf, boolsOf, strsOf, chunks, Row.rep, Row.cat, Row.sub, Row.put, Row.len, Row.get, Row.size, Row.flat, bnds, own0, own1, labsL, labsR, SV.labs, argsOf, entFr, SO.ev, St.of, keepSt, getAll, lookN, hasN, SV.cells, SV.one, SV.res1, SV.res0, SV.resP, SV.ok1, SV.ok0, SV.okN, SV.solid, SV.solid1, SV.solid0, SV.flat0, SV.nm, SV.nm1, SV.nm0, SV.noPtr1, SV.noPtr0, Cel.isFresh, fillP, setAt, partV, eqCells, cellEq, gamY, listsOk, tupOf, takeOwn, SV.ret1, resAll, resL, resV, Nat.reduceEqDiff, ↓reduceIte, Nat.reduceAdd, Nat.reduceMul, Nat.reduceLeDiff, Nat.reduceLT, reduceCtorEq, labOk, Int.reduceBEq, Int.reduceBNe, Int.reduceToNat, Int.reduceLE, Int.reduceLT, Int.reduceEq, Nat.reduceDiv, Nat.reduceMod, Nat.reduceSub, Nat.reduceBEq, fitR, fitR1, fitR0, fitRL1, fitRL, hC_len, hC_take, hC_one, hC_ok, hC_solid, hC_np, hC_res, hC_go, hC_nm, hC_labs, hC_own, hC_set, hC_over, hC_fitR, hC_fitL, hZ, zL_len, asH_hC, len_l, hlt, c0, hG, Int.toNat_natCast, Int.toNat_zero, Nat.mul_one, Nat.zero_mul, w1, hge, ge_iff_le, z0, eL, eH, hB, Int.natCast_zero, Int.ofNat_zero]
          · have h0' : ((i : Int) == 0) = false := beq_eq_false_iff_ne.2 (by omega)
            have d1 := i64_wrap (show I64 ((i : Int) - 1) by unfold I64; omega)
            simp (config := { maxSteps := 9000000 }) only [↓vyD, vyU, binS, SV.go1, SV.go0, mkRow, intsOf, boolsOf, strsOf, chunks, Row.rep, Row.cat, Row.sub, Row.put, Row.len, Row.get, Row.size, Row.flat, bnds, own0, own1, labsL, labsR, SV.labs, argsOf, entFr, SO.ev, St.of, keepSt, getAll, lookN, hasN, SV.cells, SV.one, SV.res1, SV.res0, SV.resP, SV.ok1, SV.ok0, SV.okN, SV.solid, SV.solid1, SV.solid0, SV.flat0, SV.nm, SV.nm1, SV.nm0, SV.noPtr1, SV.noPtr0, Cel.isFresh, fillP, setAt, partV, eqCells, cellEq, gamY, listsOk, tupOf, takeOwn, SV.ret1, resAll, resL, resV, Nat.reduceEqDiff, ↓reduceIte, Nat.reduceAdd, Nat.reduceMul, Nat.reduceLeDiff, Nat.reduceLT, reduceCtorEq, labOk, Int.reduceBEq, Int.reduceBNe, Int.reduceToNat, Int.reduceLE, Int.reduceLT, Int.reduceEq, Nat.reduceDiv, Nat.reduceMod, Nat.reduceSub, Nat.reduceBEq, fitR, fitR1, fitR0, fitRL1, fitRL, hC_len, hC_take, hC_one, hC_ok, hC_solid, hC_np, hC_res, hC_go, hC_nm, hC_labs, hC_own, hC_set, hC_over, hC_fitR, hC_fitL, hZ, zL_len, asH_hC, len_l, hlt, c0, hG, Int.toNat_natCast, Nat.mul_one, w1, hge, ge_iff_le, h0', d1]
            refine loopG_intro (ι := Nat) (fun j => [(16, .int .i64 (2 ^ j)), (61, .int .i64 ((i : Int) - 1)), (62, .int .i64 j)]) (fun _ => []) (fun j => j ≤ i - 1) (fun j => i - 1 - j) ⟨0, by omega, ?_, ?_, ?_⟩ fun j hj => ?_
            · simp (config := { maxSteps := 9000000 }) only [↓vyD, vyU, binS, SV.go1, SV.go0, mkRow, intsOf, boolsOf, strsOf, chunks, Row.rep, Row.cat, Row.sub, Row.put, Row.len, Row.get, Row.size, Row.flat, bnds, own0, own1, labsL, labsR, SV.labs, argsOf, entFr, SO.ev, St.of, keepSt, getAll, lookN, hasN, SV.cells, SV.one, SV.res1, SV.res0, SV.resP, SV.ok1, SV.ok0, SV.okN, SV.solid, SV.solid1, SV.solid0, SV.flat0, SV.nm, SV.nm1, SV.nm0, SV.noPtr1, SV.noPtr0, Cel.isFresh, fillP, setAt, partV, eqCells, cellEq, gamY, listsOk, tupOf, takeOwn, SV.ret1, resAll, resL, resV, Nat.reduceEqDiff, ↓reduceIte, Nat.reduceAdd, Nat.reduceMul, Nat.reduceLeDiff, Nat.reduceLT, reduceCtorEq, labOk, Int.reduceBEq, Int.reduceBNe, Int.reduceToNat, Int.reduceLE, Int.reduceLT, Int.reduceEq, Nat.reduceDiv, Nat.reduceMod, Nat.reduceSub, Nat.reduceBEq, fitR, fitR1, fitR0, fitRL1, fitRL, asI]
            · simp (config := { maxSteps := 9000000 }) only [↓vyD, vyU, binS, SV.go1, SV.go0, mkRow, intsOf, boolsOf, strsOf, chunks, Row.rep, Row.cat, Row.sub, Row.put, Row.len, Row.get, Row.size, Row.flat, bnds, own0, own1, labsL, labsR, SV.labs, argsOf, entFr, SO.ev, St.of, keepSt, getAll, lookN, hasN, SV.cells, SV.one, SV.res1, SV.res0, SV.resP, SV.ok1, SV.ok0, SV.okN, SV.solid, SV.solid1, SV.solid0, SV.flat0, SV.nm, SV.nm1, SV.nm0, SV.noPtr1, SV.noPtr0, Cel.isFresh, fillP, setAt, partV, eqCells, cellEq, gamY, listsOk, tupOf, takeOwn, SV.ret1, resAll, resL, resV, Nat.reduceEqDiff, ↓reduceIte, Nat.reduceAdd, Nat.reduceMul, Nat.reduceLeDiff, Nat.reduceLT, reduceCtorEq, labOk, Int.reduceBEq, Int.reduceBNe, Int.reduceToNat, Int.reduceLE, Int.reduceLT, Int.reduceEq, Nat.reduceDiv, Nat.reduceMod, Nat.reduceSub, Nat.reduceBEq, fitR, fitR1, fitR0, fitRL1, fitRL, asI, Int.natCast_zero, Int.ofNat_zero, Int.pow_zero]
            · simp (config := { maxSteps := 9000000 }) only [↓vyD, vyU, binS, SV.go1, SV.go0, mkRow, intsOf, boolsOf, strsOf, chunks, Row.rep, Row.cat, Row.sub, Row.put, Row.len, Row.get, Row.size, Row.flat, bnds, own0, own1, labsL, labsR, SV.labs, argsOf, entFr, SO.ev, St.of, keepSt, getAll, lookN, hasN, SV.cells, SV.one, SV.res1, SV.res0, SV.resP, SV.ok1, SV.ok0, SV.okN, SV.solid, SV.solid1, SV.solid0, SV.flat0, SV.nm, SV.nm1, SV.nm0, SV.noPtr1, SV.noPtr0, Cel.isFresh, fillP, setAt, partV, eqCells, cellEq, gamY, listsOk, tupOf, takeOwn, SV.ret1, resAll, resL, resV, Nat.reduceEqDiff, ↓reduceIte, Nat.reduceAdd, Nat.reduceMul, Nat.reduceLeDiff, Nat.reduceLT, reduceCtorEq, labOk, Int.reduceBEq, Int.reduceBNe, Int.reduceToNat, Int.reduceLE, Int.reduceLT, Int.reduceEq, Nat.reduceDiv, Nat.reduceMod, Nat.reduceSub, Nat.reduceBEq, fitR, fitR1, fitR0, fitRL1, fitRL, asI]
            have p0 := pow2_pos j
            have p1 : (2 : Int) ^ j ≤ 2 ^ 25 := pow2_le (by omega)
            by_cases hjt : (j : Int) < (i : Int) - 1
            · have b2 := i64_wrap (show I64 ((j : Int) + 1) by unfold I64; omega)
              have w2 := i64_wrap (show I64 ((2 : Int) ^ j * 2) by unfold I64; omega)
              simp (config := { maxSteps := 9000000 }) only [↓vyD, vyU, binS, SV.go1, SV.go0, mkRow, intsOf, boolsOf, strsOf, chunks, Row.rep, Row.cat, Row.sub, Row.put, Row.len, Row.get, Row.size, Row.flat, bnds, own0, own1, labsL, labsR, SV.labs, argsOf, entFr, SO.ev, St.of, keepSt, getAll, lookN, hasN, SV.cells, SV.one, SV.res1, SV.res0, SV.resP, SV.ok1, SV.ok0, SV.okN, SV.solid, SV.solid1, SV.solid0, SV.flat0, SV.nm, SV.nm1, SV.nm0, SV.noPtr1, SV.noPtr0, Cel.isFresh, fillP, setAt, partV, eqCells, cellEq, gamY, listsOk, tupOf, takeOwn, SV.ret1, resAll, resL, resV, Nat.reduceEqDiff, ↓reduceIte, Nat.reduceAdd, Nat.reduceMul, Nat.reduceLeDiff, Nat.reduceLT, reduceCtorEq, labOk, Int.reduceBEq, Int.reduceBNe, Int.reduceToNat, Int.reduceLE, Int.reduceLT, Int.reduceEq, Nat.reduceDiv, Nat.reduceMod, Nat.reduceSub, Nat.reduceBEq, fitR, fitR1, fitR0, fitRL1, fitRL, hjt, b2, w2]
              exact ⟨j + 1, ⟨by omega, by omega⟩, by rw [Int.pow_succ], by simp⟩
            · have hji : j = i - 1 := by omega
              have w3 := i64_wrap (show I64 (2 * (2 : Int) ^ j) by unfold I64; omega)
              have w4 := i64_wrap (show I64 (2 * (2 : Int) ^ j - 1) by unfold I64; omega)
              have eL : betL l num den = 2 ^ j := by unfold betL; rw [if_pos hB, eN, hji]; exact if_neg h0
              have eH : betH l num den = if 2 * (2 : Int) ^ j - 1 < 16777216 then 2 * 2 ^ j - 1 else 16777216 := by
                unfold betH; rw [if_pos hB, eN, hji, ← pow2_pred h0]; exact if_neg h0
              simp (config := { maxSteps := 9000000 }) only [↓vyD, vyU, binS, SV.go1, SV.go0, mkRow, intsOf, boolsOf, strsOf, chunks, Row.rep, Row.cat, Row.sub, Row.put, Row.len, Row.get, Row.size, Row.flat, bnds, own0, own1, labsL, labsR, SV.labs, argsOf, entFr, SO.ev, St.of, keepSt, getAll, lookN, hasN, SV.cells, SV.one, SV.res1, SV.res0, SV.resP, SV.ok1, SV.ok0, SV.okN, SV.solid, SV.solid1, SV.solid0, SV.flat0, SV.nm, SV.nm1, SV.nm0, SV.noPtr1, SV.noPtr0, Cel.isFresh, fillP, setAt, partV, eqCells, cellEq, gamY, listsOk, tupOf, takeOwn, SV.ret1, resAll, resL, resV, Nat.reduceEqDiff, ↓reduceIte, Nat.reduceAdd, Nat.reduceMul, Nat.reduceLeDiff, Nat.reduceLT, reduceCtorEq, labOk, Int.reduceBEq, Int.reduceBNe, Int.reduceToNat, Int.reduceLE, Int.reduceLT, Int.reduceEq, Nat.reduceDiv, Nat.reduceMod, Nat.reduceSub, Nat.reduceBEq, fitR, fitR1, fitR0, fitRL1, fitRL, hjt, w3, w4, eL, eH, hB]
        · rw [if_pos (by omega), hr] at hs
          simp (config := { maxSteps := 9000000 }) only [↓vyD, vyU, binS, SV.go1, SV.go0, mkRow, intsOf, boolsOf, strsOf, chunks, Row.rep, Row.cat, Row.sub, Row.put, Row.len, Row.get, Row.size, Row.flat, bnds, own0, own1, labsL, labsR, SV.labs, argsOf, entFr, SO.ev, St.of, keepSt, getAll, lookN, hasN, SV.cells, SV.one, SV.res1, SV.res0, SV.resP, SV.ok1, SV.ok0, SV.okN, SV.solid, SV.solid1, SV.solid0, SV.flat0, SV.nm, SV.nm1, SV.nm0, SV.noPtr1, SV.noPtr0, Cel.isFresh, fillP, setAt, partV, eqCells, cellEq, gamY, listsOk, tupOf, takeOwn, SV.ret1, resAll, resL, resV, Nat.reduceEqDiff, ↓reduceIte, Nat.reduceAdd, Nat.reduceMul, Nat.reduceLeDiff, Nat.reduceLT, reduceCtorEq, labOk, Int.reduceBEq, Int.reduceBNe, Int.reduceToNat, Int.reduceLE, Int.reduceLT, Int.reduceEq, Nat.reduceDiv, Nat.reduceMod, Nat.reduceSub, Nat.reduceBEq, fitR, fitR1, fitR0, fitRL1, fitRL, hC_len, hC_take, hC_one, hC_ok, hC_solid, hC_np, hC_res, hC_go, hC_nm, hC_labs, hC_own, hC_set, hC_over, hC_fitR, hC_fitL, hZ, zL_len, asH_hC, len_l, hlt, c0, hG, Int.toNat_natCast, Nat.mul_one, w1, hge, ge_iff_le, b1]
          exact ⟨i + 1, ⟨⟨by omega, hs.symm, fun h => by rw [← h, hS]; omega⟩, by omega⟩, hS.symm, by simp⟩
      · have hi26 : i = 26 := by omega
        have := hlast hi26
        omega
theorem rbet0_in (l : List Int) (len_l : l.length = 26) (num den : Int) (hv : hE l = 0) (hS0 : sumK l 26 = 0) :
    vcFun (gamY []) y21 [.agg (hC l), .int .i64 num, .int .i64 den] none fun v o => fitR v (.tup [.int .i64 0, .int .i64 0, .int .i64 4]) ∧ o = none := by
  have hb := sumK_bd len_l hv
  simp (config := { maxSteps := 9000000 }) only [↓vyD, vyU, binS, SV.go1, SV.go0, mkRow, intsOf, boolsOf, strsOf, chunks, Row.rep, Row.cat, Row.sub, Row.put, Row.len, Row.get, Row.size, Row.flat, bnds, own0, own1, labsL, labsR, SV.labs, argsOf, entFr, SO.ev, St.of, keepSt, getAll, lookN, hasN, SV.cells, SV.one, SV.res1, SV.res0, SV.resP, SV.ok1, SV.ok0, SV.okN, SV.solid, SV.solid1, SV.solid0, SV.flat0, SV.nm, SV.nm1, SV.nm0, SV.noPtr1, SV.noPtr0, Cel.isFresh, fillP, setAt, partV, eqCells, cellEq, gamY, listsOk, tupOf, takeOwn, SV.ret1, resAll, resL, resV, Nat.reduceEqDiff, ↓reduceIte, Nat.reduceAdd, Nat.reduceMul, Nat.reduceLeDiff, Nat.reduceLT, reduceCtorEq, labOk, Int.reduceBEq, Int.reduceBNe, Int.reduceToNat, Int.reduceLE, Int.reduceLT, Int.reduceEq, Nat.reduceDiv, Nat.reduceMod, Nat.reduceSub, Nat.reduceBEq, fitR, fitR1, fitR0, fitRL1, fitRL, y21, hC_len, hC_take, hC_one, hC_ok, hC_solid, hC_np, hC_res, hC_go, hC_nm, hC_labs, hC_own, hC_set, hC_over, hC_fitR, hC_fitL, hZ, zL_len, asH_hC, len_l]
  refine loopG_intro (ι := Nat) (fun i => [(1, .int .i64 num), (2, .int .i64 den), (3, .ptr 0 0), (9, .int .i64 (sumK l i)), (18, .agg (hC l)), (19, .int .i64 i)]) (fun _ => [(0, .var 24 (hC l))]) (fun i => i ≤ 26) (fun i => 26 - i) ⟨0, by omega, ?_, ?_, ?_⟩ fun i hi => ?_
  · simp (config := { maxSteps := 9000000 }) only [↓vyD, vyU, binS, SV.go1, SV.go0, mkRow, intsOf, boolsOf, strsOf, chunks, Row.rep, Row.cat, Row.sub, Row.put, Row.len, Row.get, Row.size, Row.flat, bnds, own0, own1, labsL, labsR, SV.labs, argsOf, entFr, SO.ev, St.of, keepSt, getAll, lookN, hasN, SV.cells, SV.one, SV.res1, SV.res0, SV.resP, SV.ok1, SV.ok0, SV.okN, SV.solid, SV.solid1, SV.solid0, SV.flat0, SV.nm, SV.nm1, SV.nm0, SV.noPtr1, SV.noPtr0, Cel.isFresh, fillP, setAt, partV, eqCells, cellEq, gamY, listsOk, tupOf, takeOwn, SV.ret1, resAll, resL, resV, Nat.reduceEqDiff, ↓reduceIte, Nat.reduceAdd, Nat.reduceMul, Nat.reduceLeDiff, Nat.reduceLT, reduceCtorEq, labOk, Int.reduceBEq, Int.reduceBNe, Int.reduceToNat, Int.reduceLE, Int.reduceLT, Int.reduceEq, Nat.reduceDiv, Nat.reduceMod, Nat.reduceSub, Nat.reduceBEq, fitR, fitR1, fitR0, fitRL1, fitRL, hC_len, hC_take, hC_one, hC_ok, hC_solid, hC_np, hC_res, hC_go, hC_nm, hC_labs, hC_own, hC_set, hC_over, hC_fitR, hC_fitL, hZ, zL_len, asH_hC, len_l]
  · simp (config := { maxSteps := 9000000 }) only [↓vyD, vyU, binS, SV.go1, SV.go0, mkRow, intsOf, boolsOf, strsOf, chunks, Row.rep, Row.cat, Row.sub, Row.put, Row.len, Row.get, Row.size, Row.flat, bnds, own0, own1, labsL, labsR, SV.labs, argsOf, entFr, SO.ev, St.of, keepSt, getAll, lookN, hasN, SV.cells, SV.one, SV.res1, SV.res0, SV.resP, SV.ok1, SV.ok0, SV.okN, SV.solid, SV.solid1, SV.solid0, SV.flat0, SV.nm, SV.nm1, SV.nm0, SV.noPtr1, SV.noPtr0, Cel.isFresh, fillP, setAt, partV, eqCells, cellEq, gamY, listsOk, tupOf, takeOwn, SV.ret1, resAll, resL, resV, Nat.reduceEqDiff, ↓reduceIte, Nat.reduceAdd, Nat.reduceMul, Nat.reduceLeDiff, Nat.reduceLT, reduceCtorEq, labOk, Int.reduceBEq, Int.reduceBNe, Int.reduceToNat, Int.reduceLE, Int.reduceLT, Int.reduceEq, Nat.reduceDiv, Nat.reduceMod, Nat.reduceSub, Nat.reduceBEq, fitR, fitR1, fitR0, fitRL1, fitRL, hC_len, hC_take, hC_one, hC_ok, hC_solid, hC_np, hC_res, hC_go, hC_nm, hC_labs, hC_own, hC_set, hC_over, hC_fitR, hC_fitL, hZ, zL_len, asH_hC, len_l, Int.natCast_zero, Int.ofNat_zero, sumK, List.take_zero, List.map_nil, List.sum_nil]
  · simp (config := { maxSteps := 9000000 }) only [↓vyD, vyU, binS, SV.go1, SV.go0, mkRow, intsOf, boolsOf, strsOf, chunks, Row.rep, Row.cat, Row.sub, Row.put, Row.len, Row.get, Row.size, Row.flat, bnds, own0, own1, labsL, labsR, SV.labs, argsOf, entFr, SO.ev, St.of, keepSt, getAll, lookN, hasN, SV.cells, SV.one, SV.res1, SV.res0, SV.resP, SV.ok1, SV.ok0, SV.okN, SV.solid, SV.solid1, SV.solid0, SV.flat0, SV.nm, SV.nm1, SV.nm0, SV.noPtr1, SV.noPtr0, Cel.isFresh, fillP, setAt, partV, eqCells, cellEq, gamY, listsOk, tupOf, takeOwn, SV.ret1, resAll, resL, resV, Nat.reduceEqDiff, ↓reduceIte, Nat.reduceAdd, Nat.reduceMul, Nat.reduceLeDiff, Nat.reduceLT, reduceCtorEq, labOk, Int.reduceBEq, Int.reduceBNe, Int.reduceToNat, Int.reduceLE, Int.reduceLT, Int.reduceEq, Nat.reduceDiv, Nat.reduceMod, Nat.reduceSub, Nat.reduceBEq, fitR, fitR1, fitR0, fitRL1, fitRL, hC_len, hC_take, hC_one, hC_ok, hC_solid, hC_np, hC_res, hC_go, hC_nm, hC_labs, hC_own, hC_set, hC_over, hC_fitR, hC_fitL, hZ, zL_len, asH_hC, len_l]
  by_cases hlt : (i : Int) < 26
  · have hi' : i < l.length := by omega
    have c0 : (0 : Int) ≤ (i : Int) := by omega
    have b1 := i64_wrap (show I64 ((i : Int) + 1) by unfold I64; omega)
    have hG := hC_get hi'
    have hS := sumK_succ hi'
    have hbi := hb (i + 1) (by omega)
    have w1 := i64_wrap (show I64 (sumK l i + l.getD i 0) by rw [← hS]; unfold I64; omega)
    simp (config := { maxSteps := 9000000 }) only [↓vyD, vyU, binS, SV.go1, SV.go0, mkRow, intsOf, boolsOf, strsOf, chunks, Row.rep, Row.cat, Row.sub, Row.put, Row.len, Row.get, Row.size, Row.flat, bnds, own0, own1, labsL, labsR, SV.labs, argsOf, entFr, SO.ev, St.of, keepSt, getAll, lookN, hasN, SV.cells, SV.one, SV.res1, SV.res0, SV.resP, SV.ok1, SV.ok0, SV.okN, SV.solid, SV.solid1, SV.solid0, SV.flat0, SV.nm, SV.nm1, SV.nm0, SV.noPtr1, SV.noPtr0, Cel.isFresh, fillP, setAt, partV, eqCells, cellEq, gamY, listsOk, tupOf, takeOwn, SV.ret1, resAll, resL, resV, Nat.reduceEqDiff, ↓reduceIte, Nat.reduceAdd, Nat.reduceMul, Nat.reduceLeDiff, Nat.reduceLT, reduceCtorEq, labOk, Int.reduceBEq, Int.reduceBNe, Int.reduceToNat, Int.reduceLE, Int.reduceLT, Int.reduceEq, Nat.reduceDiv, Nat.reduceMod, Nat.reduceSub, Nat.reduceBEq, fitR, fitR1, fitR0, fitRL1, fitRL, hC_len, hC_take, hC_one, hC_ok, hC_solid, hC_np, hC_res, hC_go, hC_nm, hC_labs, hC_own, hC_set, hC_over, hC_fitR, hC_fitL, hZ, zL_len, asH_hC, len_l, hlt, c0, hG, Int.toNat_natCast, Nat.mul_one, b1, w1]
    exact ⟨i + 1, ⟨by omega, by omega⟩, hS.symm, by simp⟩
  have hi26 : i = 26 := by omega
  subst hi26
  have nz : (sumK l 26 == 0) = true := by simpa using hS0
  simp (config := { maxSteps := 9000000 }) only [↓vyD, vyU, binS, SV.go1, SV.go0, mkRow, intsOf, boolsOf, strsOf, chunks, Row.rep, Row.cat, Row.sub, Row.put, Row.len, Row.get, Row.size, Row.flat, bnds, own0, own1, labsL, labsR, SV.labs, argsOf, entFr, SO.ev, St.of, keepSt, getAll, lookN, hasN, SV.cells, SV.one, SV.res1, SV.res0, SV.resP, SV.ok1, SV.ok0, SV.okN, SV.solid, SV.solid1, SV.solid0, SV.flat0, SV.nm, SV.nm1, SV.nm0, SV.noPtr1, SV.noPtr0, Cel.isFresh, fillP, setAt, partV, eqCells, cellEq, gamY, listsOk, tupOf, takeOwn, SV.ret1, resAll, resL, resV, Nat.reduceEqDiff, ↓reduceIte, Nat.reduceAdd, Nat.reduceMul, Nat.reduceLeDiff, Nat.reduceLT, reduceCtorEq, labOk, Int.reduceBEq, Int.reduceBNe, Int.reduceToNat, Int.reduceLE, Int.reduceLT, Int.reduceEq, Nat.reduceDiv, Nat.reduceMod, Nat.reduceSub, Nat.reduceBEq, fitR, fitR1, fitR0, fitRL1, fitRL, hC_len, hC_take, hC_one, hC_ok, hC_solid, hC_np, hC_res, hC_go, hC_nm, hC_labs, hC_own, hC_set, hC_over, hC_fitR, hC_fitL, hZ, zL_len, asH_hC, len_l, hlt, nz]
def rbetS : Say
  | [.agg x_l, .int .i64 num, .int .i64 den] => (match asH x_l with | some l => some (hE l = 0 ∧ partE num den = 0, .tup [.int .i64 (betL l num den), .int .i64 (betH l num den), .int .i64 (bet0 l num den)], none) | _ => none)
  | _ => none
theorem rbet_ok : FOk Try.prog 21 rbetS := by
  intro xs p r own h hp
  unfold rbetS at h
  split at h
  case h_2 => cases h
  rename_i x_l num den
  split at h
  case h_2 => cases h
  rename_i l h_l
  simp only [Option.some.injEq, Prod.mk.injEq] at h
  obtain ⟨rfl, rfl, rfl⟩ := h
  refine fun_fit (ys := [.agg (hC l), .int .i64 num, .int .i64 den]) ?_ ⟨asH_fit h_l, fit_refl1 _ (by simp), fit_refl1 _ (by simp), trivial⟩
  have len_l := asH_len h_l
  clear h_l
  refine fun_ok (gam_ok gam_nil) lawy_mixed y21_eq none ?_ (Nat.le_of_ble_eq_true rfl)
  obtain ⟨hv, hp⟩ := hp
  have hpd : (1 ≤ den ∧ den ≤ 1000) ∧ 0 ≤ num ∧ num ≤ den := by unfold partE at hp; split at hp <;> omega
  by_cases hS : sumK l 26 = 0
  · have hB : bet0 l num den = 4 := by unfold bet0; rw [if_pos hv, if_pos hp, if_pos hS]
    have eL : betL l num den = 0 := if_neg (by omega)
    have eH : betH l num den = 0 := if_neg (by omega)
    rw [hB, eL, eH]
    exact rbet0_in l len_l num den hv hS
  · have hB : bet0 l num den = 0 := by unfold bet0; rw [if_pos hv, if_pos hp, if_neg hS]
    have hb := sumK_bd len_l hv 26 (by omega)
    have kS : betK l num den ≤ sumK l 26 := by
      have h := Int.mul_le_mul_of_nonneg_left hpd.2.2 hb.1
      have h2 := Int.ediv_le_ediv (show 0 < den by omega) (show sumK l 26 * num + den - 1 ≤ sumK l 26 * den + den - 1 by omega)
      rw [ceil_self hpd.1.1] at h2
      unfold betK
      split <;> omega
    exact rbet_in l len_l num den _ hv hpd.1 hpd.2 hS rfl kS hB
theorem setAt_mid : ∀ (vs pre cs post : List SV), cs.length = vs.length → setAt (pre ++ (cs ++ post)) pre.length vs = pre ++ (vs ++ post)
  | [], pre, cs, post, h => by
    have : cs = [] := List.eq_nil_of_length_eq_zero (by simpa using h)
    simp [setAt, this]
  | v :: vs, pre, [], post, h => by simp at h
  | v :: vs, pre, c :: cs, post, h => by
    have := setAt_mid vs (pre ++ [v]) cs post (by simpa using h)
    rw [setAt]
    simpa using this
theorem setAt_length : ∀ (vs cs : List SV) (o : Nat), (setAt cs o vs).length = cs.length
  | [], cs, o => rfl
  | v :: vs, cs, o => by rw [setAt, setAt_length vs, List.length_set]
theorem litH2 {a b : List Int} (la : a.length = 26) (lb : b.length = 26) : setAt (setAt (hC zL ++ hC zL) 0 (hC a)) 26 (hC b) = hC a ++ hC b := by
  have h1 : setAt (hC zL ++ hC zL) 0 (hC a) = hC a ++ hC zL := by
    have := setAt_mid (hC a) [] (hC zL) (hC zL) (by rw [hC_len, hC_len, zL_len, la])
    simpa using this
  have h2 : setAt (hC a ++ hC zL) 26 (hC b) = hC a ++ hC b := by
    have := setAt_mid (hC b) (hC a) (hC zL) [] (by rw [hC_len, hC_len, zL_len, lb])
    rw [hC_len, la] at this
    simpa using this
  rw [h1, h2]
theorem two_take {a b : List Int} (la : a.length = 26) : (hC a ++ hC b).take 26 = hC a ∧ (hC a ++ hC b).drop 26 = hC b := by
  have e : 26 = (hC a).length := by rw [hC_len, la]
  exact ⟨by rw [e, List.take_left], by rw [e, List.drop_left]⟩
end Go.Proofs.Ytidafhjdpklgbaa
