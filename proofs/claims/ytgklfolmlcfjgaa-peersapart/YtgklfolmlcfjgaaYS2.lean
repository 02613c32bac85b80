/- What the functions of stat do, and the statements' helpers: sums of lists. -/
import Derived.Test.YtgklfolmlcfjgaaYS1
namespace Go.Proofs.Ytgklfolmlcfjgaa
open Go.RowKit Y
set_option linter.unusedSimpArgs false
set_option linter.unusedVariables false
set_option maxRecDepth 100000
set_option maxHeartbeats 4000000
def sqL (l : List Int) : Int := (l.map fun x => x * x).sum
def sumL (l : List Int) : Int := (l.map fun x => x).sum
def ofV (l : List Int) : SV := if listE l = 0 then sv3 l.length (sumL l) (sqL l) else sv3 0 0 0
def ofS : Say
  | [x] => (asI x).map fun l => (True, .tup [ofV l, .int .i64 (listE l)], none)
  | _ => none
theorem listE_0 {l : List Int} : listE l = 0 ↔ l.length ≤ 64 ∧ ∀ x ∈ l, 0 ≤ x ∧ x ≤ 16777216 := by
  unfold listE
  by_cases h : 64 < l.length
  · simp [h]; omega
  · by_cases h2 : l.all valB = true
    · simp only [h, if_false, h2, if_true, true_iff]
      refine ⟨by omega, fun x hx => ?_⟩
      have := (List.all_eq_true.1 h2) x hx
      simpa [valB] using this
    · simp only [h, if_false, h2]
      refine ⟨fun hh => by simp at hh, fun hh => absurd ?_ h2⟩
      rw [List.all_eq_true]
      intro x hx
      have := hh.2 x hx
      simp only [valB, decide_eq_true_eq]
      exact this
theorem sum_bd {f : Int → Int} {B : Int} : ∀ {l : List Int}, (∀ x ∈ l, 0 ≤ f x ∧ f x ≤ B) → 0 ≤ (l.map f).sum ∧ (l.map f).sum ≤ l.length * B
  | [], _ => by simp
  | x :: l, h => by
    have h1 := h x (List.mem_cons_self ..)
    have h2 := sum_bd (l := l) fun y hy => h y (List.mem_cons_of_mem _ hy)
    simp only [List.map_cons, List.sum_cons, List.length_cons, Int.natCast_add, Int.natCast_one, Int.add_mul, Int.one_mul]
    omega
def g2 : List (Nat × Say) := [(63, listS), (70, plusS), (71, singleS)]
theorem g2_ok : GamOk Try.prog (gamY g2) := gam_ok (gam_cons list_ok (gam_cons plus_ok (gam_cons single_ok gam_nil)))
theorem of_ok : FOk Try.prog 30 ofS := by
  intro xs p r own h hp
  unfold ofS at h
  split at h
  · rename_i x
    obtain ⟨l, hx, h⟩ := Option.map_eq_some_iff.1 h
    simp only [Prod.mk.injEq] at h
    obtain ⟨rfl, rfl, rfl⟩ := h
    refine fun_fit (ys := [.rw (.ints .i64 l)]) ?_ ⟨asI_fit hx, trivial⟩
    refine fun_ok g2_ok lawy_mixed y30_eq none ?_ (Nat.le_of_ble_eq_true rfl)
    by_cases he : listE l = 0
    · simp only [ofV, he, if_true]
      simp (config := { maxSteps := 9000000 }) only [↓vyD, vyU, binS, SV.go1, SV.go0, mkRow, intsOf, boolsOf, strsOf, chunks, Row.rep, Row.cat, Row.sub, Row.put, Row.len, Row.get, Row.size, Row.flat, bnds, own0, own1, labsL, labsR, SV.labs, argsOf, entFr, SO.ev, St.of, keepSt, getAll, lookN, hasN, SV.cells, SV.one, SV.res1, SV.res0, SV.resP, SV.ok1, SV.ok0, SV.okN, SV.solid, SV.solid1, SV.solid0, SV.flat0, SV.nm, SV.nm1, SV.nm0, SV.noPtr1, SV.noPtr0, Cel.isFresh, fillP, setAt, partV, eqCells, cellEq, gamY, listsOk, tupOf, takeOwn, SV.ret1, resAll, resL, resV, Nat.reduceEqDiff, ↓reduceIte, Nat.reduceAdd, Nat.reduceMul, Nat.reduceLeDiff, Nat.reduceLT, reduceCtorEq, labOk, Int.reduceBEq, Int.reduceBNe, Int.reduceToNat, Int.reduceLE, Int.reduceLT, Int.reduceEq, Nat.reduceDiv, Nat.reduceMod, Nat.reduceSub, Nat.reduceBEq, y30, fitR, fitR1, fitR0, fitRL1, fitRL, g2, listS, plusS, singleS, asI, sv3, he]
      obtain ⟨h64, hv⟩ := listE_0.1 he
      refine loopG_intro (ι := Nat) (fun i => [(2, .ptr 0 0), (4, .int .i64 0), (5, .ptr 4001 0), (15, .rw (.ints .i64 l)), (16, .int .i64 l.length), (17, .int .i64 i)])
        (fun i => [(0, .var 56 [.int .i64 0, .int .i64 0, .int .i64 0]), (4001, .var 56 [.int .i64 i, .int .i64 (sumL (l.take i)), .int .i64 (sqL (l.take i))])]) (fun i => i ≤ l.length) (fun i => l.length - i) ⟨0, by omega, ?_, ?_, ?_⟩ fun i hi => ?_
      · simp (config := { maxSteps := 9000000 }) only [↓vyD, vyU, binS, SV.go1, SV.go0, mkRow, intsOf, boolsOf, strsOf, chunks, Row.rep, Row.cat, Row.sub, Row.put, Row.len, Row.get, Row.size, Row.flat, bnds, own0, own1, labsL, labsR, SV.labs, argsOf, entFr, SO.ev, St.of, keepSt, getAll, lookN, hasN, SV.cells, SV.one, SV.res1, SV.res0, SV.resP, SV.ok1, SV.ok0, SV.okN, SV.solid, SV.solid1, SV.solid0, SV.flat0, SV.nm, SV.nm1, SV.nm0, SV.noPtr1, SV.noPtr0, Cel.isFresh, fillP, setAt, partV, eqCells, cellEq, gamY, listsOk, tupOf, takeOwn, SV.ret1, resAll, resL, resV, Nat.reduceEqDiff, ↓reduceIte, Nat.reduceAdd, Nat.reduceMul, Nat.reduceLeDiff, Nat.reduceLT, reduceCtorEq, labOk, Int.reduceBEq, Int.reduceBNe, Int.reduceToNat, Int.reduceLE, Int.reduceLT, Int.reduceEq, Nat.reduceDiv, Nat.reduceMod, Nat.reduceSub, Nat.reduceBEq, fitR]
      · simp (config := { maxSteps := 9000000 }) only [↓vyD, vyU, binS, SV.go1, SV.go0, mkRow, intsOf, boolsOf, strsOf, chunks, Row.rep, Row.cat, Row.sub, Row.put, Row.len, Row.get, Row.size, Row.flat, bnds, own0, own1, labsL, labsR, SV.labs, argsOf, entFr, SO.ev, St.of, keepSt, getAll, lookN, hasN, SV.cells, SV.one, SV.res1, SV.res0, SV.resP, SV.ok1, SV.ok0, SV.okN, SV.solid, SV.solid1, SV.solid0, SV.flat0, SV.nm, SV.nm1, SV.nm0, SV.noPtr1, SV.noPtr0, Cel.isFresh, fillP, setAt, partV, eqCells, cellEq, gamY, listsOk, tupOf, takeOwn, SV.ret1, resAll, resL, resV, Nat.reduceEqDiff, ↓reduceIte, Nat.reduceAdd, Nat.reduceMul, Nat.reduceLeDiff, Nat.reduceLT, reduceCtorEq, labOk, Int.reduceBEq, Int.reduceBNe, Int.reduceToNat, Int.reduceLE, Int.reduceLT, Int.reduceEq, Nat.reduceDiv, Nat.reduceMod, Nat.reduceSub, Nat.reduceBEq, fitR]
      · simp (config := { maxSteps := 9000000 }) only [↓vyD, vyU, binS, SV.go1, SV.go0, mkRow, intsOf, boolsOf, strsOf, chunks, Row.rep, Row.cat, Row.sub, Row.put, Row.len, Row.get, Row.size, Row.flat, bnds, own0, own1, labsL, labsR, SV.labs, argsOf, entFr, SO.ev, St.of, keepSt, getAll, lookN, hasN, SV.cells, SV.one, SV.res1, SV.res0, SV.resP, SV.ok1, SV.ok0, SV.okN, SV.solid, SV.solid1, SV.solid0, SV.flat0, SV.nm, SV.nm1, SV.nm0, SV.noPtr1, SV.noPtr0, Cel.isFresh, fillP, setAt, partV, eqCells, cellEq, gamY, listsOk, tupOf, takeOwn, SV.ret1, resAll, resL, resV, Nat.reduceEqDiff, ↓reduceIte, Nat.reduceAdd, Nat.reduceMul, Nat.reduceLeDiff, Nat.reduceLT, reduceCtorEq, labOk, Int.reduceBEq, Int.reduceBNe, Int.reduceToNat, Int.reduceLE, Int.reduceLT, Int.reduceEq, Nat.reduceDiv, Nat.reduceMod, Nat.reduceSub, Nat.reduceBEq, fitR, sumL, sqL]
        simp
      · have hs := sum_bd (f := fun x => x) (B := 16777216) (l := l.take i) fun x hx => hv x (List.mem_of_mem_take hx)
        have hq := sum_bd (f := fun x => x * x) (B := 281474976710656) (l := l.take i) fun x hx => by
          have := hv x (List.mem_of_mem_take hx)
          exact mul_bd this.1 this.2 this.1 this.2
        rw [List.length_take, Nat.min_eq_left hi] at hs hq
        by_cases hlt : (i : Int) < (l.length : Int)
        · have hlt' : i < l.length := by omega
          have hx := hv _ (getD_mem hlt')
          have hxx := mul_bd hx.1 hx.2 hx.1 hx.2
          have e1 : sumL (l.take (i + 1)) = sumL (l.take i) + l.getD i 0 := take_sum (f := fun x => x) hlt'
          have e2 : sqL (l.take (i + 1)) = sqL (l.take i) + l.getD i 0 * l.getD i 0 := take_sum (f := fun x => x * x) hlt'
          have hs' : 0 ≤ sumL (l.take i) ∧ sumL (l.take i) ≤ i * 16777216 := hs
          have hq' : 0 ≤ sqL (l.take i) ∧ sqL (l.take i) ≤ i * 281474976710656 := hq
          have b0 : I64 (l.getD i 0 * l.getD i 0) := by unfold I64; omega
          have b1 : I64 ((i : Int) + 1) := by unfold I64; omega
          have b2 : I64 (sumL (l.take i) + l.getD i 0) := by unfold I64; omega
          have b3 : I64 (sqL (l.take i) + l.getD i 0 * l.getD i 0) := by unfold I64; omega
          simp (config := { maxSteps := 9000000 }) only [↓vyD, vyU, binS, SV.go1, SV.go0, mkRow, intsOf, boolsOf, strsOf, chunks, Row.rep, Row.cat, Row.sub, Row.put, Row.len, Row.get, Row.size, Row.flat, bnds, own0, own1, labsL, labsR, SV.labs, argsOf, entFr, SO.ev, St.of, keepSt, getAll, lookN, hasN, SV.cells, SV.one, SV.res1, SV.res0, SV.resP, SV.ok1, SV.ok0, SV.okN, SV.solid, SV.solid1, SV.solid0, SV.flat0, SV.nm, SV.nm1, SV.nm0, SV.noPtr1, SV.noPtr0, Cel.isFresh, fillP, setAt, partV, eqCells, cellEq, gamY, listsOk, tupOf, takeOwn, SV.ret1, resAll, resL, resV, Nat.reduceEqDiff, ↓reduceIte, Nat.reduceAdd, Nat.reduceMul, Nat.reduceLeDiff, Nat.reduceLT, reduceCtorEq, labOk, Int.reduceBEq, Int.reduceBNe, Int.reduceToNat, Int.reduceLE, Int.reduceLT, Int.reduceEq, Nat.reduceDiv, Nat.reduceMod, Nat.reduceSub, Nat.reduceBEq, fitR, hlt, plusS, singleS, sv3, Int.toNat_natCast, i64_wrap b1, b0, b1, b2, b3]
          exact ⟨by omega, i + 1, ⟨by omega, by omega⟩, by simp, by simp, e1.symm, e2.symm⟩
        · have : i = l.length := by omega
          subst this
          rw [List.take_length] at hs hq
          simp (config := { maxSteps := 9000000 }) only [↓vyD, vyU, binS, SV.go1, SV.go0, mkRow, intsOf, boolsOf, strsOf, chunks, Row.rep, Row.cat, Row.sub, Row.put, Row.len, Row.get, Row.size, Row.flat, bnds, own0, own1, labsL, labsR, SV.labs, argsOf, entFr, SO.ev, St.of, keepSt, getAll, lookN, hasN, SV.cells, SV.one, SV.res1, SV.res0, SV.resP, SV.ok1, SV.ok0, SV.okN, SV.solid, SV.solid1, SV.solid0, SV.flat0, SV.nm, SV.nm1, SV.nm0, SV.noPtr1, SV.noPtr0, Cel.isFresh, fillP, setAt, partV, eqCells, cellEq, gamY, listsOk, tupOf, takeOwn, SV.ret1, resAll, resL, resV, Nat.reduceEqDiff, ↓reduceIte, Nat.reduceAdd, Nat.reduceMul, Nat.reduceLeDiff, Nat.reduceLT, reduceCtorEq, labOk, Int.reduceBEq, Int.reduceBNe, Int.reduceToNat, Int.reduceLE, Int.reduceLT, Int.reduceEq, Nat.reduceDiv, Nat.reduceMod, Nat.reduceSub, Nat.reduceBEq, fitR, hlt, plusS, singleS, sv3, Int.toNat_natCast, List.take_length, fitR1, fitR0, fitRL1, fitRL]
    · simp only [ofV, he, if_false]
      have he' : (listE l != 0) = true := by simpa using he
      simp (config := { maxSteps := 9000000 }) only [↓vyD, vyU, binS, SV.go1, SV.go0, mkRow, intsOf, boolsOf, strsOf, chunks, Row.rep, Row.cat, Row.sub, Row.put, Row.len, Row.get, Row.size, Row.flat, bnds, own0, own1, labsL, labsR, SV.labs, argsOf, entFr, SO.ev, St.of, keepSt, getAll, lookN, hasN, SV.cells, SV.one, SV.res1, SV.res0, SV.resP, SV.ok1, SV.ok0, SV.okN, SV.solid, SV.solid1, SV.solid0, SV.flat0, SV.nm, SV.nm1, SV.nm0, SV.noPtr1, SV.noPtr0, Cel.isFresh, fillP, setAt, partV, eqCells, cellEq, gamY, listsOk, tupOf, takeOwn, SV.ret1, resAll, resL, resV, Nat.reduceEqDiff, ↓reduceIte, Nat.reduceAdd, Nat.reduceMul, Nat.reduceLeDiff, Nat.reduceLT, reduceCtorEq, labOk, Int.reduceBEq, Int.reduceBNe, Int.reduceToNat, Int.reduceLE, Int.reduceLT, Int.reduceEq, Nat.reduceDiv, Nat.reduceMod, Nat.reduceSub, Nat.reduceBEq, y30, fitR, fitR1, fitR0, fitRL1, fitRL, g2, listS, plusS, singleS, asI, sv3, he']
  · cases h
end Go.Proofs.Ytgklfolmlcfjgaa
