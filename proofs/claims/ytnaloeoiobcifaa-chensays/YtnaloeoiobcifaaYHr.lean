/- The document's answers on predictions (hwref). -/
import Derived.Test.YtnaloeoiobcifaaYHe
namespace Go.Proofs.Ytnaloeoiobcifaa
open Go.ChangeShapes Go.WideShapes Go.ChangeAt Go.RowKit Go.Joins Y
set_option linter.unusedSimpArgs false
set_option linter.unusedVariables false
set_option maxRecDepth 100000
set_option maxHeartbeats 40000000
def gTi : List (Nat × Say) := [(66, rwithinS)]
theorem gTi_ok : GamOk Try.prog (gamY gTi) := gam_ok (gam_cons rwithin_ok gam_nil)
def rtimeS : Say
  | [.int .i64 n] => some (True, .bool (timB n), none)
  | _ => none
theorem rtime_ok : FOk Try.prog 29 rtimeS := by
  intro xs p r own h hp
  unfold rtimeS at h
  split at h
  case h_2 => cases h
  rename_i n
  simp only [Option.some.injEq, Prod.mk.injEq] at h
  obtain ⟨rfl, rfl, rfl⟩ := h
  refine fun_ok gTi_ok lawy_mixed y29_eq none ?_ (Nat.le_of_ble_eq_true rfl)
  simp (config := { maxSteps := 9000000 }) only [↓vyD, vyU, binS, SV.go1, SV.go0, mkRow, intsOf, boolsOf, strsOf, chunks, Row.rep, Row.cat, Row.sub, Row.put, Row.len, Row.get, Row.size, Row.flat, bnds, own0, own1, labsL, labsR, SV.labs, argsOf, entFr, SO.ev, St.of, keepSt, getAll, lookN, hasN, SV.cells, SV.one, SV.res1, SV.res0, SV.resP, SV.ok1, SV.ok0, SV.okN, SV.solid, SV.solid1, SV.solid0, SV.flat0, SV.nm, SV.nm1, SV.nm0, SV.noPtr1, SV.noPtr0, Cel.isFresh, fillP, setAt, partV, eqCells, cellEq, gamY, listsOk, tupOf, takeOwn, SV.ret1, resAll, resL, resV, Nat.reduceEqDiff, ↓reduceIte, Nat.reduceAdd, Nat.reduceMul, Nat.reduceLeDiff, Nat.reduceLT, reduceCtorEq, labOk, Int.reduceBEq, Int.reduceBNe, Int.reduceToNat, Int.reduceLE, Int.reduceLT, Int.reduceEq, Nat.reduceDiv, Nat.reduceMod, Nat.reduceSub, Nat.reduceBEq, fitR, fitR1, fitR0, fitRL1, fitRL, y29, gTi, rwithinS, timB]
def gRe : List (Nat × Say) := [(66, rwithinS), (29, rtimeS)]
theorem gRe_ok : GamOk Try.prog (gamY gRe) := gam_ok (gam_cons rwithin_ok (gam_cons rtime_ok gam_nil))
def rexpectS : Say
  | [x_s, x_t, .int .i64 e] => (match asI x_s, asI x_t with | some s, some t => some (True, .tup [.int .i64 (expV s t e), .int .i64 (arrE s t e)], none) | _, _ => none)
  | _ => none
theorem rexpect_ok : FOk Try.prog 42 rexpectS := by
  intro xs p r own h hp
  unfold rexpectS at h
  split at h
  case h_2 => cases h
  rename_i x_s x_t e
  split at h
  case h_2 => cases h
  rename_i s t h_s h_t
  simp only [Option.some.injEq, Prod.mk.injEq] at h
  obtain ⟨rfl, rfl, rfl⟩ := h
  refine fun_fit (ys := [.rw (.ints .i64 s), .rw (.ints .i64 t), .int .i64 e]) ?_ ⟨asI_fit h_s, asI_fit h_t, fit_refl1 _ (by simp), trivial⟩
  clear h_s h_t
  refine fun_ok gRe_ok lawy_mixed y42_eq none ?_ (Nat.le_of_ble_eq_true rfl)
  by_cases h1 : 64 < s.length
  · have h1' : (64 : Int) < s.length := by omega
    have hE : arrE s t e = 2 := if_pos h1
    have hV : expV s t e = 0 := if_neg (by omega)
    simp (config := { maxSteps := 9000000 }) only [↓vyD, vyU, binS, SV.go1, SV.go0, mkRow, intsOf, boolsOf, strsOf, chunks, Row.rep, Row.cat, Row.sub, Row.put, Row.len, Row.get, Row.size, Row.flat, bnds, own0, own1, labsL, labsR, SV.labs, argsOf, entFr, SO.ev, St.of, keepSt, getAll, lookN, hasN, SV.cells, SV.one, SV.res1, SV.res0, SV.resP, SV.ok1, SV.ok0, SV.okN, SV.solid, SV.solid1, SV.solid0, SV.flat0, SV.nm, SV.nm1, SV.nm0, SV.noPtr1, SV.noPtr0, Cel.isFresh, fillP, setAt, partV, eqCells, cellEq, gamY, listsOk, tupOf, takeOwn, SV.ret1, resAll, resL, resV, Nat.reduceEqDiff, ↓reduceIte, Nat.reduceAdd, Nat.reduceMul, Nat.reduceLeDiff, Nat.reduceLT, reduceCtorEq, labOk, Int.reduceBEq, Int.reduceBNe, Int.reduceToNat, Int.reduceLE, Int.reduceLT, Int.reduceEq, Nat.reduceDiv, Nat.reduceMod, Nat.reduceSub, Nat.reduceBEq, fitR, fitR1, fitR0, fitRL1, fitRL, y42, gRe, rwithinS, rtimeS, asI, h1', hE, hV]
  have h1' : ¬ (64 : Int) < s.length := by omega
  by_cases h2 : 64 < t.length
  · have h2' : (64 : Int) < t.length := by omega
    have hE : arrE s t e = 2 := by unfold arrE; rw [if_neg h1, if_pos h2]
    have hV : expV s t e = 0 := if_neg (by omega)
    simp (config := { maxSteps := 9000000 }) only [↓vyD, vyU, binS, SV.go1, SV.go0, mkRow, intsOf, boolsOf, strsOf, chunks, Row.rep, Row.cat, Row.sub, Row.put, Row.len, Row.get, Row.size, Row.flat, bnds, own0, own1, labsL, labsR, SV.labs, argsOf, entFr, SO.ev, St.of, keepSt, getAll, lookN, hasN, SV.cells, SV.one, SV.res1, SV.res0, SV.resP, SV.ok1, SV.ok0, SV.okN, SV.solid, SV.solid1, SV.solid0, SV.flat0, SV.nm, SV.nm1, SV.nm0, SV.noPtr1, SV.noPtr0, Cel.isFresh, fillP, setAt, partV, eqCells, cellEq, gamY, listsOk, tupOf, takeOwn, SV.ret1, resAll, resL, resV, Nat.reduceEqDiff, ↓reduceIte, Nat.reduceAdd, Nat.reduceMul, Nat.reduceLeDiff, Nat.reduceLT, reduceCtorEq, labOk, Int.reduceBEq, Int.reduceBNe, Int.reduceToNat, Int.reduceLE, Int.reduceLT, Int.reduceEq, Nat.reduceDiv, Nat.reduceMod, Nat.reduceSub, Nat.reduceBEq, fitR, fitR1, fitR0, fitRL1, fitRL, y42, gRe, rwithinS, rtimeS, asI, h1', h2', hE, hV]
  have h2' : ¬ (64 : Int) < t.length := by omega
  by_cases h3 : 1 ≤ e ∧ e ≤ 16777216
  · have h3' : valB e = true := decide_eq_true (by omega)
    have h0 : e ≠ 0 := by omega
    by_cases h4 : s.length = t.length
    · have h4' : ((s.length : Int) != (t.length : Int)) = false := by simp [h4]
      simp (config := { maxSteps := 9000000 }) only [↓vyD, vyU, binS, SV.go1, SV.go0, mkRow, intsOf, boolsOf, strsOf, chunks, Row.rep, Row.cat, Row.sub, Row.put, Row.len, Row.get, Row.size, Row.flat, bnds, own0, own1, labsL, labsR, SV.labs, argsOf, entFr, SO.ev, St.of, keepSt, getAll, lookN, hasN, SV.cells, SV.one, SV.res1, SV.res0, SV.resP, SV.ok1, SV.ok0, SV.okN, SV.solid, SV.solid1, SV.solid0, SV.flat0, SV.nm, SV.nm1, SV.nm0, SV.noPtr1, SV.noPtr0, Cel.isFresh, fillP, setAt, partV, eqCells, cellEq, gamY, listsOk, tupOf, takeOwn, SV.ret1, resAll, resL, resV, Nat.reduceEqDiff, ↓reduceIte, Nat.reduceAdd, Nat.reduceMul, Nat.reduceLeDiff, Nat.reduceLT, reduceCtorEq, labOk, Int.reduceBEq, Int.reduceBNe, Int.reduceToNat, Int.reduceLE, Int.reduceLT, Int.reduceEq, Nat.reduceDiv, Nat.reduceMod, Nat.reduceSub, Nat.reduceBEq, fitR, fitR1, fitR0, fitRL1, fitRL, y42, gRe, rwithinS, rtimeS, asI, h1', h2', h3, h4']
      refine loopG_intro (ι := Nat) (fun i => [(0, .rw (.ints .i64 s)), (1, .rw (.ints .i64 t)), (2, .int .i64 e), (33, .int .i64 s.length), (34, .int .i64 i)]) (fun _ => []) (fun i => i ≤ s.length ∧ (∀ j, j < i → prevL s j < s.getD j 0 ∧ s.getD j 0 ≤ 1000000) ∧ (t.take i).all timB = true) (fun i => s.length - i) ⟨0, ⟨by omega, fun j hj => by omega, by simp⟩, ?_, ?_, ?_⟩ fun i ⟨hi, hall, htim⟩ => ?_
      · simp (config := { maxSteps := 9000000 }) only [↓vyD, vyU, binS, SV.go1, SV.go0, mkRow, intsOf, boolsOf, strsOf, chunks, Row.rep, Row.cat, Row.sub, Row.put, Row.len, Row.get, Row.size, Row.flat, bnds, own0, own1, labsL, labsR, SV.labs, argsOf, entFr, SO.ev, St.of, keepSt, getAll, lookN, hasN, SV.cells, SV.one, SV.res1, SV.res0, SV.resP, SV.ok1, SV.ok0, SV.okN, SV.solid, SV.solid1, SV.solid0, SV.flat0, SV.nm, SV.nm1, SV.nm0, SV.noPtr1, SV.noPtr0, Cel.isFresh, fillP, setAt, partV, eqCells, cellEq, gamY, listsOk, tupOf, takeOwn, SV.ret1, resAll, resL, resV, Nat.reduceEqDiff, ↓reduceIte, Nat.reduceAdd, Nat.reduceMul, Nat.reduceLeDiff, Nat.reduceLT, reduceCtorEq, labOk, Int.reduceBEq, Int.reduceBNe, Int.reduceToNat, Int.reduceLE, Int.reduceLT, Int.reduceEq, Nat.reduceDiv, Nat.reduceMod, Nat.reduceSub, Nat.reduceBEq, fitR, fitR1, fitR0, fitRL1, fitRL, asI]
      · simp (config := { maxSteps := 9000000 }) only [↓vyD, vyU, binS, SV.go1, SV.go0, mkRow, intsOf, boolsOf, strsOf, chunks, Row.rep, Row.cat, Row.sub, Row.put, Row.len, Row.get, Row.size, Row.flat, bnds, own0, own1, labsL, labsR, SV.labs, argsOf, entFr, SO.ev, St.of, keepSt, getAll, lookN, hasN, SV.cells, SV.one, SV.res1, SV.res0, SV.resP, SV.ok1, SV.ok0, SV.okN, SV.solid, SV.solid1, SV.solid0, SV.flat0, SV.nm, SV.nm1, SV.nm0, SV.noPtr1, SV.noPtr0, Cel.isFresh, fillP, setAt, partV, eqCells, cellEq, gamY, listsOk, tupOf, takeOwn, SV.ret1, resAll, resL, resV, Nat.reduceEqDiff, ↓reduceIte, Nat.reduceAdd, Nat.reduceMul, Nat.reduceLeDiff, Nat.reduceLT, reduceCtorEq, labOk, Int.reduceBEq, Int.reduceBNe, Int.reduceToNat, Int.reduceLE, Int.reduceLT, Int.reduceEq, Nat.reduceDiv, Nat.reduceMod, Nat.reduceSub, Nat.reduceBEq, fitR, fitR1, fitR0, fitRL1, fitRL, asI]
      · simp (config := { maxSteps := 9000000 }) only [↓vyD, vyU, binS, SV.go1, SV.go0, mkRow, intsOf, boolsOf, strsOf, chunks, Row.rep, Row.cat, Row.sub, Row.put, Row.len, Row.get, Row.size, Row.flat, bnds, own0, own1, labsL, labsR, SV.labs, argsOf, entFr, SO.ev, St.of, keepSt, getAll, lookN, hasN, SV.cells, SV.one, SV.res1, SV.res0, SV.resP, SV.ok1, SV.ok0, SV.okN, SV.solid, SV.solid1, SV.solid0, SV.flat0, SV.nm, SV.nm1, SV.nm0, SV.noPtr1, SV.noPtr0, Cel.isFresh, fillP, setAt, partV, eqCells, cellEq, gamY, listsOk, tupOf, takeOwn, SV.ret1, resAll, resL, resV, Nat.reduceEqDiff, ↓reduceIte, Nat.reduceAdd, Nat.reduceMul, Nat.reduceLeDiff, Nat.reduceLT, reduceCtorEq, labOk, Int.reduceBEq, Int.reduceBNe, Int.reduceToNat, Int.reduceLE, Int.reduceLT, Int.reduceEq, Nat.reduceDiv, Nat.reduceMod, Nat.reduceSub, Nat.reduceBEq, fitR, fitR1, fitR0, fitRL1, fitRL, asI]
      by_cases hlt : (i : Int) < (s.length : Int)
      · have hlt' : i < s.length := by omega
        have b1 := i64_wrap (show I64 ((i : Int) + 1) by unfold I64; omega)
        have b2 := i64_wrap (show I64 ((i : Int) - 1) by unfold I64; omega)
        have c0 : (0 : Int) ≤ (i : Int) := by omega
        have c1 : (i : Int) < (t.length : Int) := by omega
        have c2 : i < t.length := by omega
        have c3 : ((i : Int) - 1).toNat = i - 1 := by omega
        have c6 : i - 1 < s.length := by omega
        have bad : arrE s t e = 1 → expV s t e = 0 := fun h => if_neg (by omega)
        have ng : ¬ (seqP s ∧ t.all timB = true) → arrE s t e = 1 := fun h => by
          unfold arrE; rw [if_neg h1, if_neg h2, if_pos ⟨h3', h0⟩, if_pos h4, if_neg h]
        by_cases h5 : 1 ≤ s.getD i 0 ∧ s.getD i 0 ≤ 1000000
        · cases h6 : timB (t.getD i 0) with
          | false =>
            have hE := ng fun h => by rw [all_false_of c2 h6] at h; cases h.2
            have hV := bad hE
            simp (config := { maxSteps := 9000000 }) only [↓vyD, vyU, binS, SV.go1, SV.go0, mkRow, intsOf, boolsOf, strsOf, chunks, Row.rep, Row.cat, Row.sub, Row.put, Row.len, Row.get, Row.size, Row.flat, bnds, own0, own1, labsL, labsR, SV.labs, argsOf, entFr, SO.ev, St.of, keepSt, getAll, lookN, hasN, SV.cells, SV.one, SV.res1, SV.res0, SV.resP, SV.ok1, SV.ok0, SV.okN, SV.solid, SV.solid1, SV.solid0, SV.flat0, SV.nm, SV.nm1, SV.nm0, SV.noPtr1, SV.noPtr0, Cel.isFresh, fillP, setAt, partV, eqCells, cellEq, gamY, listsOk, tupOf, takeOwn, SV.ret1, resAll, resL, resV, Nat.reduceEqDiff, ↓reduceIte, Nat.reduceAdd, Nat.reduceMul, Nat.reduceLeDiff, Nat.reduceLT, reduceCtorEq, labOk, Int.reduceBEq, Int.reduceBNe, Int.reduceToNat, Int.reduceLE, Int.reduceLT, Int.reduceEq, Nat.reduceDiv, Nat.reduceMod, Nat.reduceSub, Nat.reduceBEq, fitR, fitR1, fitR0, fitRL1, fitRL, gRe, rwithinS, rtimeS, hlt, hlt', Int.toNat_natCast, c0, c1, c2, h5, h6, hE, hV]
          | true =>
            have ht1 : (t.take (i + 1)).all timB = true := by rw [take_all c2, htim, h6]; rfl
            by_cases h7 : (0 : Int) < i
            · have c4 : (0 : Int) ≤ (i : Int) - 1 := by omega
              have c5 : (i : Int) - 1 < s.length := by omega
              have hP : prevL s i = s.getD (i - 1) 0 := if_neg (by omega)
              by_cases h8 : s.getD i 0 ≤ s.getD (i - 1) 0
              · have hE := ng fun h => by have := (h.1 i hlt').1; omega
                have hV := bad hE
                simp (config := { maxSteps := 9000000 }) only [↓vyD, vyU, binS, SV.go1, SV.go0, mkRow, intsOf, boolsOf, strsOf, chunks, Row.rep, Row.cat, Row.sub, Row.put, Row.len, Row.get, Row.size, Row.flat, bnds, own0, own1, labsL, labsR, SV.labs, argsOf, entFr, SO.ev, St.of, keepSt, getAll, lookN, hasN, SV.cells, SV.one, SV.res1, SV.res0, SV.resP, SV.ok1, SV.ok0, SV.okN, SV.solid, SV.solid1, SV.solid0, SV.flat0, SV.nm, SV.nm1, SV.nm0, SV.noPtr1, SV.noPtr0, Cel.isFresh, fillP, setAt, partV, eqCells, cellEq, gamY, listsOk, tupOf, takeOwn, SV.ret1, resAll, resL, resV, Nat.reduceEqDiff, ↓reduceIte, Nat.reduceAdd, Nat.reduceMul, Nat.reduceLeDiff, Nat.reduceLT, reduceCtorEq, labOk, Int.reduceBEq, Int.reduceBNe, Int.reduceToNat, Int.reduceLE, Int.reduceLT, Int.reduceEq, Nat.reduceDiv, Nat.reduceMod, Nat.reduceSub, Nat.reduceBEq, fitR, fitR1, fitR0, fitRL1, fitRL, gRe, rwithinS, rtimeS, hlt, hlt', Int.toNat_natCast, c0, c1, c2, h5, h6, h7, b2, c3, c4, c5, c6, h8, hE, hV]
              · simp (config := { maxSteps := 9000000 }) only [↓vyD, vyU, binS, SV.go1, SV.go0, mkRow, intsOf, boolsOf, strsOf, chunks, Row.rep, Row.cat, Row.sub, Row.put, Row.len, Row.get, Row.size, Row.flat, bnds, own0, own1, labsL, labsR, SV.labs, argsOf, entFr, SO.ev, St.of, keepSt, getAll, lookN, hasN, SV.cells, SV.one, SV.res1, SV.res0, SV.resP, SV.ok1, SV.ok0, SV.okN, SV.solid, SV.solid1, SV.solid0, SV.flat0, SV.nm, SV.nm1, SV.nm0, SV.noPtr1, SV.noPtr0, Cel.isFresh, fillP, setAt, partV, eqCells, cellEq, gamY, listsOk, tupOf, takeOwn, SV.ret1, resAll, resL, resV, Nat.reduceEqDiff, ↓reduceIte, Nat.reduceAdd, Nat.reduceMul, Nat.reduceLeDiff, Nat.reduceLT, reduceCtorEq, labOk, Int.reduceBEq, Int.reduceBNe, Int.reduceToNat, Int.reduceLE, Int.reduceLT, Int.reduceEq, Nat.reduceDiv, Nat.reduceMod, Nat.reduceSub, Nat.reduceBEq, fitR, fitR1, fitR0, fitRL1, fitRL, gRe, rwithinS, rtimeS, hlt, hlt', Int.toNat_natCast, c0, c1, c2, h5, h6, h7, b1, b2, c3, c4, c5, c6, h8]
                refine ⟨i + 1, ⟨⟨by omega, fun j hj => ?_, ht1⟩, by omega⟩, by simp⟩
                by_cases hj' : j = i
                · subst hj'; rw [hP]; omega
                · exact hall j (by omega)
            · simp (config := { maxSteps := 9000000 }) only [↓vyD, vyU, binS, SV.go1, SV.go0, mkRow, intsOf, boolsOf, strsOf, chunks, Row.rep, Row.cat, Row.sub, Row.put, Row.len, Row.get, Row.size, Row.flat, bnds, own0, own1, labsL, labsR, SV.labs, argsOf, entFr, SO.ev, St.of, keepSt, getAll, lookN, hasN, SV.cells, SV.one, SV.res1, SV.res0, SV.resP, SV.ok1, SV.ok0, SV.okN, SV.solid, SV.solid1, SV.solid0, SV.flat0, SV.nm, SV.nm1, SV.nm0, SV.noPtr1, SV.noPtr0, Cel.isFresh, fillP, setAt, partV, eqCells, cellEq, gamY, listsOk, tupOf, takeOwn, SV.ret1, resAll, resL, resV, Nat.reduceEqDiff, ↓reduceIte, Nat.reduceAdd, Nat.reduceMul, Nat.reduceLeDiff, Nat.reduceLT, reduceCtorEq, labOk, Int.reduceBEq, Int.reduceBNe, Int.reduceToNat, Int.reduceLE, Int.reduceLT, Int.reduceEq, Nat.reduceDiv, Nat.reduceMod, Nat.reduceSub, Nat.reduceBEq, fitR, fitR1, fitR0, fitRL1, fitRL, gRe, rwithinS, rtimeS, hlt, hlt', Int.toNat_natCast, c0, c1, c2, h5, h6, h7, b1]
              refine ⟨i + 1, ⟨⟨by omega, fun j hj => ?_, ht1⟩, by omega⟩, by simp⟩
              have : j = 0 := by omega
              subst this
              have : i = 0 := by omega
              subst this
              simp only [prevL, if_true]
              omega
        · have hE := ng fun h => by have := seqP_pos h.1 i hlt'; omega
          have hV := bad hE
          simp (config := { maxSteps := 9000000 }) only [↓vyD, vyU, binS, SV.go1, SV.go0, mkRow, intsOf, boolsOf, strsOf, chunks, Row.rep, Row.cat, Row.sub, Row.put, Row.len, Row.get, Row.size, Row.flat, bnds, own0, own1, labsL, labsR, SV.labs, argsOf, entFr, SO.ev, St.of, keepSt, getAll, lookN, hasN, SV.cells, SV.one, SV.res1, SV.res0, SV.resP, SV.ok1, SV.ok0, SV.okN, SV.solid, SV.solid1, SV.solid0, SV.flat0, SV.nm, SV.nm1, SV.nm0, SV.noPtr1, SV.noPtr0, Cel.isFresh, fillP, setAt, partV, eqCells, cellEq, gamY, listsOk, tupOf, takeOwn, SV.ret1, resAll, resL, resV, Nat.reduceEqDiff, ↓reduceIte, Nat.reduceAdd, Nat.reduceMul, Nat.reduceLeDiff, Nat.reduceLT, reduceCtorEq, labOk, Int.reduceBEq, Int.reduceBNe, Int.reduceToNat, Int.reduceLE, Int.reduceLT, Int.reduceEq, Nat.reduceDiv, Nat.reduceMod, Nat.reduceSub, Nat.reduceBEq, fitR, fitR1, fitR0, fitRL1, fitRL, gRe, rwithinS, rtimeS, hlt, hlt', Int.toNat_natCast, c0, c1, c2, h5, hE, hV]
      · have hiS : i = s.length := by omega
        subst hiS
        have htl : t.all timB = true := by rw [h4, List.take_length] at htim; exact htim
        have hsP : seqP s := hall
        by_cases h7 : s.length = 0
        · have h7' : ((s.length : Int) == 0) = true := by simp [h7]
          have hE : arrE s t e = 4 := by unfold arrE; rw [if_neg h1, if_neg h2, if_pos ⟨h3', h0⟩, if_pos h4, if_pos ⟨hsP, htl⟩, if_pos h7]
          have hV : expV s t e = 0 := if_neg (by omega)
          simp (config := { maxSteps := 9000000 }) only [↓vyD, vyU, binS, SV.go1, SV.go0, mkRow, intsOf, boolsOf, strsOf, chunks, Row.rep, Row.cat, Row.sub, Row.put, Row.len, Row.get, Row.size, Row.flat, bnds, own0, own1, labsL, labsR, SV.labs, argsOf, entFr, SO.ev, St.of, keepSt, getAll, lookN, hasN, SV.cells, SV.one, SV.res1, SV.res0, SV.resP, SV.ok1, SV.ok0, SV.okN, SV.solid, SV.solid1, SV.solid0, SV.flat0, SV.nm, SV.nm1, SV.nm0, SV.noPtr1, SV.noPtr0, Cel.isFresh, fillP, setAt, partV, eqCells, cellEq, gamY, listsOk, tupOf, takeOwn, SV.ret1, resAll, resL, resV, Nat.reduceEqDiff, ↓reduceIte, Nat.reduceAdd, Nat.reduceMul, Nat.reduceLeDiff, Nat.reduceLT, reduceCtorEq, labOk, Int.reduceBEq, Int.reduceBNe, Int.reduceToNat, Int.reduceLE, Int.reduceLT, Int.reduceEq, Nat.reduceDiv, Nat.reduceMod, Nat.reduceSub, Nat.reduceBEq, fitR, fitR1, fitR0, fitRL1, fitRL, gRe, rwithinS, rtimeS, hlt, h7', hE, hV]
        · have h7' : ((s.length : Int) == 0) = false := beq_eq_false_iff_ne.2 (by omega)
          have hE : arrE s t e = 0 := by unfold arrE; rw [if_neg h1, if_neg h2, if_pos ⟨h3', h0⟩, if_pos h4, if_pos ⟨hsP, htl⟩, if_neg h7]
          have hV : expV s t e = expT e s t s.length / s.length + e * (lastS s + 1) := if_pos hE
          have hs := seqP_pos hsP
          have ht : ∀ j, j < s.length → 0 ≤ t.getD j 0 ∧ t.getD j 0 ≤ 1073741824 := fun j hj => by
            have := (List.all_eq_true.1 htl) _ (getD_mem (l := t) (i := j) (by omega))
            exact of_decide_eq_true this
          have hb := expT_bd h3 hs ht
          have hl := hs (s.length - 1) (by omega)
          have b2 := i64_wrap (show I64 ((s.length : Int) - 1) by unfold I64; omega)
          have b3 : ((s.length : Int) - 1).toNat = s.length - 1 := by omega
          have b4 : s.length - 1 < s.length := by omega
          have b5 : (0 : Int) ≤ (s.length : Int) - 1 := by omega
          have b6 : (s.length : Int) - 1 < s.length := by omega
          have hlS : s.getD (s.length - 1) 0 = lastS s := rfl
          rw [hlS] at hl
          generalize hL : lastS s = L at *
          generalize hN : s.length = N at *
          simp (config := { maxSteps := 9000000 }) only [↓vyD, vyU, binS, SV.go1, SV.go0, mkRow, intsOf, boolsOf, strsOf, chunks, Row.rep, Row.cat, Row.sub, Row.put, Row.len, Row.get, Row.size, Row.flat, bnds, own0, own1, labsL, labsR, SV.labs, argsOf, entFr, SO.ev, St.of, keepSt, getAll, lookN, hasN, SV.cells, SV.one, SV.res1, SV.res0, SV.resP, SV.ok1, SV.ok0, SV.okN, SV.solid, SV.solid1, SV.solid0, SV.flat0, SV.nm, SV.nm1, SV.nm0, SV.noPtr1, SV.noPtr0, Cel.isFresh, fillP, setAt, partV, eqCells, cellEq, gamY, listsOk, tupOf, takeOwn, SV.ret1, resAll, resL, resV, Nat.reduceEqDiff, ↓reduceIte, Nat.reduceAdd, Nat.reduceMul, Nat.reduceLeDiff, Nat.reduceLT, reduceCtorEq, labOk, Int.reduceBEq, Int.reduceBNe, Int.reduceToNat, Int.reduceLE, Int.reduceLT, Int.reduceEq, Nat.reduceDiv, Nat.reduceMod, Nat.reduceSub, Nat.reduceBEq, fitR, fitR1, fitR0, fitRL1, fitRL, gRe, rwithinS, rtimeS, hlt, hN, h7', b2, b3, b4, b5, b6, hlS, hE, hV]
          have hmL := mul_bd (x := e) (y := L) (X := 16777216) (Y := 1000000) (by omega) (by omega) (by omega) (by omega)
          refine loopG_intro (ι := Nat) (fun i => [(0, .rw (.ints .i64 s)), (1, .rw (.ints .i64 t)), (2, .int .i64 e), (9, .int .i64 N), (10, .int .i64 L), (11, .int .i64 (expT e s t i + (i : Int) * (e * L))), (78, .int .i64 N), (79, .int .i64 i)]) (fun _ => []) (fun i => i ≤ N) (fun i => N - i) ⟨0, by omega, ?_, ?_, ?_⟩ fun i hi => ?_
          · simp (config := { maxSteps := 9000000 }) only [↓vyD, vyU, binS, SV.go1, SV.go0, mkRow, intsOf, boolsOf, strsOf, chunks, Row.rep, Row.cat, Row.sub, Row.put, Row.len, Row.get, Row.size, Row.flat, bnds, own0, own1, labsL, labsR, SV.labs, argsOf, entFr, SO.ev, St.of, keepSt, getAll, lookN, hasN, SV.cells, SV.one, SV.res1, SV.res0, SV.resP, SV.ok1, SV.ok0, SV.okN, SV.solid, SV.solid1, SV.solid0, SV.flat0, SV.nm, SV.nm1, SV.nm0, SV.noPtr1, SV.noPtr0, Cel.isFresh, fillP, setAt, partV, eqCells, cellEq, gamY, listsOk, tupOf, takeOwn, SV.ret1, resAll, resL, resV, Nat.reduceEqDiff, ↓reduceIte, Nat.reduceAdd, Nat.reduceMul, Nat.reduceLeDiff, Nat.reduceLT, reduceCtorEq, labOk, Int.reduceBEq, Int.reduceBNe, Int.reduceToNat, Int.reduceLE, Int.reduceLT, Int.reduceEq, Nat.reduceDiv, Nat.reduceMod, Nat.reduceSub, Nat.reduceBEq, fitR, fitR1, fitR0, fitRL1, fitRL, asI]
          · simp (config := { maxSteps := 9000000 }) only [↓vyD, vyU, binS, SV.go1, SV.go0, mkRow, intsOf, boolsOf, strsOf, chunks, Row.rep, Row.cat, Row.sub, Row.put, Row.len, Row.get, Row.size, Row.flat, bnds, own0, own1, labsL, labsR, SV.labs, argsOf, entFr, SO.ev, St.of, keepSt, getAll, lookN, hasN, SV.cells, SV.one, SV.res1, SV.res0, SV.resP, SV.ok1, SV.ok0, SV.okN, SV.solid, SV.solid1, SV.solid0, SV.flat0, SV.nm, SV.nm1, SV.nm0, SV.noPtr1, SV.noPtr0, Cel.isFresh, fillP, setAt, partV, eqCells, cellEq, gamY, listsOk, tupOf, takeOwn, SV.ret1, resAll, resL, resV, Nat.reduceEqDiff, ↓reduceIte, Nat.reduceAdd, Nat.reduceMul, Nat.reduceLeDiff, Nat.reduceLT, reduceCtorEq, labOk, Int.reduceBEq, Int.reduceBNe, Int.reduceToNat, Int.reduceLE, Int.reduceLT, Int.reduceEq, Nat.reduceDiv, Nat.reduceMod, Nat.reduceSub, Nat.reduceBEq, fitR, fitR1, fitR0, fitRL1, fitRL, expT_0, hN, Int.natCast_zero, Int.zero_mul, Int.add_zero, Int.ofNat_zero]
          · simp (config := { maxSteps := 9000000 }) only [↓vyD, vyU, binS, SV.go1, SV.go0, mkRow, intsOf, boolsOf, strsOf, chunks, Row.rep, Row.cat, Row.sub, Row.put, Row.len, Row.get, Row.size, Row.flat, bnds, own0, own1, labsL, labsR, SV.labs, argsOf, entFr, SO.ev, St.of, keepSt, getAll, lookN, hasN, SV.cells, SV.one, SV.res1, SV.res0, SV.resP, SV.ok1, SV.ok0, SV.okN, SV.solid, SV.solid1, SV.solid0, SV.flat0, SV.nm, SV.nm1, SV.nm0, SV.noPtr1, SV.noPtr0, Cel.isFresh, fillP, setAt, partV, eqCells, cellEq, gamY, listsOk, tupOf, takeOwn, SV.ret1, resAll, resL, resV, Nat.reduceEqDiff, ↓reduceIte, Nat.reduceAdd, Nat.reduceMul, Nat.reduceLeDiff, Nat.reduceLT, reduceCtorEq, labOk, Int.reduceBEq, Int.reduceBNe, Int.reduceToNat, Int.reduceLE, Int.reduceLT, Int.reduceEq, Nat.reduceDiv, Nat.reduceMod, Nat.reduceSub, Nat.reduceBEq, fitR, fitR1, fitR0, fitRL1, fitRL, asI]
          have hbi := hb i hi
          by_cases hlt2 : (i : Int) < (N : Int)
          · have hlt' : i < s.length := by omega
            have g1 : (i : Int) < (s.length : Int) := by omega
            have b1 := i64_wrap (show I64 ((i : Int) + 1) by unfold I64; omega)
            have c0 : (0 : Int) ≤ (i : Int) := by omega
            have c1 : (i : Int) < (t.length : Int) := by omega
            have c2 : i < t.length := by omega
            have hsi := hs i (by omega)
            have hti := ht i (by omega)
            have hm := mul_bd (x := e) (y := s.getD i 0) (X := 16777216) (Y := 1000000) (by omega) (by omega) (by omega) (by omega)
            have hS := expT_succ e s t i
            have hiL := mul_bd (x := (i : Int)) (y := e * L) (X := 64) (Y := 16777216000000) (by omega) (by omega) hmL.1 hmL.2
            have e1 : e * (L - s.getD i 0) = e * L - e * s.getD i 0 := Int.mul_sub ..
            have e2 : ((i + 1 : Nat) : Int) * (e * L) = (i : Int) * (e * L) + e * L := by rw [Int.natCast_add, Int.add_mul]; omega
            have w0 := i64_wrap (show I64 (L - s.getD i 0) by unfold I64; omega)
            have w1 := i64_wrap (show I64 (e * (L - s.getD i 0)) by unfold I64; omega)
            have w2 := i64_wrap (show I64 (t.getD i 0 + e * (L - s.getD i 0)) by unfold I64; omega)
            have w3 := i64_wrap (show I64 (expT e s t i + (i : Int) * (e * L) + (t.getD i 0 + e * (L - s.getD i 0))) by unfold I64; omega)
            simp (config := { maxSteps := 9000000 }) only [↓vyD, vyU, binS, SV.go1, SV.go0, mkRow, intsOf, boolsOf, strsOf, chunks, Row.rep, Row.cat, Row.sub, Row.put, Row.len, Row.get, Row.size, Row.flat, bnds, own0, own1, labsL, labsR, SV.labs, argsOf, entFr, SO.ev, St.of, keepSt, getAll, lookN, hasN, SV.cells, SV.one, SV.res1, SV.res0, SV.resP, SV.ok1, SV.ok0, SV.okN, SV.solid, SV.solid1, SV.solid0, SV.flat0, SV.nm, SV.nm1, SV.nm0, SV.noPtr1, SV.noPtr0, Cel.isFresh, fillP, setAt, partV, eqCells, cellEq, gamY, listsOk, tupOf, takeOwn, SV.ret1, resAll, resL, resV, Nat.reduceEqDiff, ↓reduceIte, Nat.reduceAdd, Nat.reduceMul, Nat.reduceLeDiff, Nat.reduceLT, reduceCtorEq, labOk, Int.reduceBEq, Int.reduceBNe, Int.reduceToNat, Int.reduceLE, Int.reduceLT, Int.reduceEq, Nat.reduceDiv, Nat.reduceMod, Nat.reduceSub, Nat.reduceBEq, fitR, fitR1, fitR0, fitRL1, fitRL, gRe, rwithinS, rtimeS, hlt2, hlt', g1, Int.toNat_natCast, c0, c1, c2, b1, w0, w1, w2, w3]
            exact ⟨i + 1, ⟨by omega, by omega⟩, by omega, by simp⟩
          · have hiS : i = N := by omega
            subst hiS
            have hiL := mul_bd (x := (i : Int)) (y := e * L) (X := 64) (Y := 16777216000000) (by omega) (by omega) hmL.1 hmL.2
            generalize hT : expT e s t i = T at *
            have i0 : (0 : Int) < (i : Int) := by omega
            have hS0 : 0 ≤ T + (i : Int) * (e * L) := by
              have : ∀ k, k ≤ i → 0 ≤ expT e s t k + (k : Int) * (e * L) := fun k => by
                induction k with
                | zero => intro _; simp [expT]
                | succ k ih =>
                  intro hk
                  have := ih (by omega)
                  have hsk := hs k (by omega)
                  have htk := ht k (by omega)
                  have hsl : s.getD k 0 ≤ L := by rw [← hL]; exact seqP_le hsP k (by omega)
                  have := Int.mul_le_mul_of_nonneg_left hsl (show 0 ≤ e by omega)
                  rw [expT_succ, Int.natCast_add, Int.add_mul]
                  omega
              rw [← hT]; exact this i (by omega)
            have m1 : (T + (i : Int) * (e * L)).tmod i = (T + (i : Int) * (e * L)) % i := Int.tmod_eq_emod_of_nonneg hS0
            have m2 : (T + (i : Int) * (e * L)) % i = T % i := by rw [Int.add_mul_emod_self_left]
            have m3 := Int.emod_nonneg T (show (i : Int) ≠ 0 by omega)
            have m4 := Int.emod_lt_of_pos T i0
            have m5 := Int.mul_ediv_add_emod T i
            have m6 : T + (i : Int) * (e * L) - T % i = (i : Int) * (T / i + e * L) := by rw [Int.mul_add]; omega
            have m7 : ((i : Int) * (T / i + e * L)).tdiv i = T / i + e * L := Int.mul_tdiv_cancel_left _ (by omega)
            have q2 := div_lo (T := T) (n := i) (f := -16777216000000) (by omega) (by omega)
            have q3 := div_hi (T := T) (n := i) (f := 1073741824) (by omega) (by omega)
            have w1 := i64_wrap (show I64 (T + (i : Int) * (e * L) - T % i) by unfold I64; omega)
            rw [m6] at w1
            have w2 := i64_wrap (show I64 (T / i + e * L) by unfold I64; omega)
            have w3 := i64_wrap (show I64 (T / i + e * L + e) by unfold I64; omega)
            have e3 : T / i + e * L + e = T / i + e * (L + 1) := by rw [Int.mul_add]; omega
            have z0 : (i : Int) ≠ 0 := by omega
            have z1 : ¬ (i : Int) = 0 := by omega
            rw [e3] at w3
            simp (config := { maxSteps := 9000000 }) only [↓vyD, vyU, binS, SV.go1, SV.go0, mkRow, intsOf, boolsOf, strsOf, chunks, Row.rep, Row.cat, Row.sub, Row.put, Row.len, Row.get, Row.size, Row.flat, bnds, own0, own1, labsL, labsR, SV.labs, argsOf, entFr, SO.ev, St.of, keepSt, getAll, lookN, hasN, SV.cells, SV.one, SV.res1, SV.res0, SV.resP, SV.ok1, SV.ok0, SV.okN, SV.solid, SV.solid1, SV.solid0, SV.flat0, SV.nm, SV.nm1, SV.nm0, SV.noPtr1, SV.noPtr0, Cel.isFresh, fillP, setAt, partV, eqCells, cellEq, gamY, listsOk, tupOf, takeOwn, SV.ret1, resAll, resL, resV, Nat.reduceEqDiff, ↓reduceIte, Nat.reduceAdd, Nat.reduceMul, Nat.reduceLeDiff, Nat.reduceLT, reduceCtorEq, labOk, Int.reduceBEq, Int.reduceBNe, Int.reduceToNat, Int.reduceLE, Int.reduceLT, Int.reduceEq, Nat.reduceDiv, Nat.reduceMod, Nat.reduceSub, Nat.reduceBEq, fitR, fitR1, fitR0, fitRL1, fitRL, gRe, rwithinS, rtimeS, hlt2, m1, m2, m6, m7, w1, w2, w3, e3, z1, ne_eq, not_false_eq_true]
    · have h4' : ((s.length : Int) != (t.length : Int)) = true := bne_iff_ne.2 (by omega)
      have hE : arrE s t e = 3 := by unfold arrE; rw [if_neg h1, if_neg h2, if_pos ⟨h3', h0⟩, if_neg h4]
      have hV : expV s t e = 0 := if_neg (by omega)
      simp (config := { maxSteps := 9000000 }) only [↓vyD, vyU, binS, SV.go1, SV.go0, mkRow, intsOf, boolsOf, strsOf, chunks, Row.rep, Row.cat, Row.sub, Row.put, Row.len, Row.get, Row.size, Row.flat, bnds, own0, own1, labsL, labsR, SV.labs, argsOf, entFr, SO.ev, St.of, keepSt, getAll, lookN, hasN, SV.cells, SV.one, SV.res1, SV.res0, SV.resP, SV.ok1, SV.ok0, SV.okN, SV.solid, SV.solid1, SV.solid0, SV.flat0, SV.nm, SV.nm1, SV.nm0, SV.noPtr1, SV.noPtr0, Cel.isFresh, fillP, setAt, partV, eqCells, cellEq, gamY, listsOk, tupOf, takeOwn, SV.ret1, resAll, resL, resV, Nat.reduceEqDiff, ↓reduceIte, Nat.reduceAdd, Nat.reduceMul, Nat.reduceLeDiff, Nat.reduceLT, reduceCtorEq, labOk, Int.reduceBEq, Int.reduceBNe, Int.reduceToNat, Int.reduceLE, Int.reduceLT, Int.reduceEq, Nat.reduceDiv, Nat.reduceMod, Nat.reduceSub, Nat.reduceBEq, fitR, fitR1, fitR0, fitRL1, fitRL, y42, gRe, rwithinS, rtimeS, asI, h1', h2', h3, h4', hE, hV]
  · have hE : arrE s t e = 1 := by unfold arrE valB; rw [if_neg h1, if_neg h2, if_neg (fun h => h3 (by have := of_decide_eq_true h.1; omega))]
    have hV : expV s t e = 0 := if_neg (by omega)
    simp (config := { maxSteps := 9000000 }) only [↓vyD, vyU, binS, SV.go1, SV.go0, mkRow, intsOf, boolsOf, strsOf, chunks, Row.rep, Row.cat, Row.sub, Row.put, Row.len, Row.get, Row.size, Row.flat, bnds, own0, own1, labsL, labsR, SV.labs, argsOf, entFr, SO.ev, St.of, keepSt, getAll, lookN, hasN, SV.cells, SV.one, SV.res1, SV.res0, SV.resP, SV.ok1, SV.ok0, SV.okN, SV.solid, SV.solid1, SV.solid0, SV.flat0, SV.nm, SV.nm1, SV.nm0, SV.noPtr1, SV.noPtr0, Cel.isFresh, fillP, setAt, partV, eqCells, cellEq, gamY, listsOk, tupOf, takeOwn, SV.ret1, resAll, resL, resV, Nat.reduceEqDiff, ↓reduceIte, Nat.reduceAdd, Nat.reduceMul, Nat.reduceLeDiff, Nat.reduceLT, reduceCtorEq, labOk, Int.reduceBEq, Int.reduceBNe, Int.reduceToNat, Int.reduceLE, Int.reduceLT, Int.reduceEq, Nat.reduceDiv, Nat.reduceMod, Nat.reduceSub, Nat.reduceBEq, fitR, fitR1, fitR0, fitRL1, fitRL, y42, gRe, rwithinS, rtimeS, asI, h1', h2', h3, hE, hV]
def gRl2 : List (Nat × Say) := [(88, rwinS), (29, rtimeS), (21, rvalS)]
theorem gRl2_ok : GamOk Try.prog (gamY gRl2) := gam_ok (gam_cons rwin_ok (gam_cons rtime_ok (gam_cons rval_ok gam_nil)))
def rlateS : Say
  | [.agg [.int .i64 c, x_l], .int .i64 s, .int .i64 k] => (match asI x_l with | some l => some (True, .tup [.bool (lateB c l s k), .int .i64 (lateE c l s k)], none) | _ => none)
  | _ => none
theorem rlate_ok : FOk Try.prog 43 rlateS := by
  intro xs p r own h hp
  unfold rlateS at h
  split at h
  case h_2 => cases h
  rename_i c x_l s k
  split at h
  case h_2 => cases h
  rename_i l h_l
  simp only [Option.some.injEq, Prod.mk.injEq] at h
  obtain ⟨rfl, rfl, rfl⟩ := h
  refine fun_fit (ys := [.agg [.int .i64 c, .rw (.ints .i64 l)], .int .i64 s, .int .i64 k]) ?_ ⟨⟨rfl, asI_fit0 h_l, trivial⟩, fit_refl1 _ (by simp), fit_refl1 _ (by simp), trivial⟩
  clear h_l
  refine fun_ok gRl2_ok lawy_mixed y43_eq none ?_ (Nat.le_of_ble_eq_true rfl)
  by_cases hw : winE c l = 0
  · obtain ⟨w1, w2, w3⟩ := winE_0.1 hw
    obtain ⟨v1, v2⟩ := listE_0.1 w3
    cases h1 : timB s with
    | false =>
      have hE : lateE c l s k = 1 := by unfold lateE; rw [if_pos hw, h1, if_neg (by simp)]
      have hB : lateB c l s k = false := decide_eq_false fun h => by omega
      simp (config := { maxSteps := 9000000 }) only [↓vyD, vyU, binS, SV.go1, SV.go0, mkRow, intsOf, boolsOf, strsOf, chunks, Row.rep, Row.cat, Row.sub, Row.put, Row.len, Row.get, Row.size, Row.flat, bnds, own0, own1, labsL, labsR, SV.labs, argsOf, entFr, SO.ev, St.of, keepSt, getAll, lookN, hasN, SV.cells, SV.one, SV.res1, SV.res0, SV.resP, SV.ok1, SV.ok0, SV.okN, SV.solid, SV.solid1, SV.solid0, SV.flat0, SV.nm, SV.nm1, SV.nm0, SV.noPtr1, SV.noPtr0, Cel.isFresh, fillP, setAt, partV, eqCells, cellEq, gamY, listsOk, tupOf, takeOwn, SV.ret1, resAll, resL, resV, Nat.reduceEqDiff, ↓reduceIte, Nat.reduceAdd, Nat.reduceMul, Nat.reduceLeDiff, Nat.reduceLT, reduceCtorEq, labOk, Int.reduceBEq, Int.reduceBNe, Int.reduceToNat, Int.reduceLE, Int.reduceLT, Int.reduceEq, Nat.reduceDiv, Nat.reduceMod, Nat.reduceSub, Nat.reduceBEq, fitR, fitR1, fitR0, fitRL1, fitRL, y43, gRl2, rwinS, rtimeS, rvalS, asI, hw, h1, hE, hB]
    | true =>
      cases h2 : valB k with
      | false =>
        have hE : lateE c l s k = 1 := by unfold lateE; rw [if_pos hw, h2, if_neg (by simp)]
        have hB : lateB c l s k = false := decide_eq_false fun h => by omega
        simp (config := { maxSteps := 9000000 }) only [↓vyD, vyU, binS, SV.go1, SV.go0, mkRow, intsOf, boolsOf, strsOf, chunks, Row.rep, Row.cat, Row.sub, Row.put, Row.len, Row.get, Row.size, Row.flat, bnds, own0, own1, labsL, labsR, SV.labs, argsOf, entFr, SO.ev, St.of, keepSt, getAll, lookN, hasN, SV.cells, SV.one, SV.res1, SV.res0, SV.resP, SV.ok1, SV.ok0, SV.okN, SV.solid, SV.solid1, SV.solid0, SV.flat0, SV.nm, SV.nm1, SV.nm0, SV.noPtr1, SV.noPtr0, Cel.isFresh, fillP, setAt, partV, eqCells, cellEq, gamY, listsOk, tupOf, takeOwn, SV.ret1, resAll, resL, resV, Nat.reduceEqDiff, ↓reduceIte, Nat.reduceAdd, Nat.reduceMul, Nat.reduceLeDiff, Nat.reduceLT, reduceCtorEq, labOk, Int.reduceBEq, Int.reduceBNe, Int.reduceToNat, Int.reduceLE, Int.reduceLT, Int.reduceEq, Nat.reduceDiv, Nat.reduceMod, Nat.reduceSub, Nat.reduceBEq, fitR, fitR1, fitR0, fitRL1, fitRL, y43, gRl2, rwinS, rtimeS, rvalS, asI, hw, h1, h2, hE, hB]
      | true =>
        have k1 : 0 ≤ k ∧ k ≤ 16777216 := of_decide_eq_true h2
        have k2 : 0 ≤ s ∧ s ≤ 1073741824 := of_decide_eq_true h1
        have x1 := i64_wrap (show I64 (s - k) by unfold I64; omega)
        simp (config := { maxSteps := 9000000 }) only [↓vyD, vyU, binS, SV.go1, SV.go0, mkRow, intsOf, boolsOf, strsOf, chunks, Row.rep, Row.cat, Row.sub, Row.put, Row.len, Row.get, Row.size, Row.flat, bnds, own0, own1, labsL, labsR, SV.labs, argsOf, entFr, SO.ev, St.of, keepSt, getAll, lookN, hasN, SV.cells, SV.one, SV.res1, SV.res0, SV.resP, SV.ok1, SV.ok0, SV.okN, SV.solid, SV.solid1, SV.solid0, SV.flat0, SV.nm, SV.nm1, SV.nm0, SV.noPtr1, SV.noPtr0, Cel.isFresh, fillP, setAt, partV, eqCells, cellEq, gamY, listsOk, tupOf, takeOwn, SV.ret1, resAll, resL, resV, Nat.reduceEqDiff, ↓reduceIte, Nat.reduceAdd, Nat.reduceMul, Nat.reduceLeDiff, Nat.reduceLT, reduceCtorEq, labOk, Int.reduceBEq, Int.reduceBNe, Int.reduceToNat, Int.reduceLE, Int.reduceLT, Int.reduceEq, Nat.reduceDiv, Nat.reduceMod, Nat.reduceSub, Nat.reduceBEq, fitR, fitR1, fitR0, fitRL1, fitRL, y43, gRl2, rwinS, rtimeS, rvalS, asI, hw, h1, h2]
        refine loopG_intro (ι := Nat) (fun i => [(1, .int .i64 s), (2, .int .i64 k), (3, .ptr 0 0), (25, .rw (.ints .i64 l)), (26, .int .i64 l.length), (27, .int .i64 i)]) (fun _ => [(0, .var 54 [.int .i64 c, .rw (.ints .i64 l)])]) (fun i => i ≤ l.length ∧ ∀ x ∈ l.take i, x < s - k) (fun i => l.length - i) ⟨0, ⟨by omega, by simp⟩, ?_, ?_, ?_⟩ fun i ⟨hi, hall⟩ => ?_
        · simp (config := { maxSteps := 9000000 }) only [↓vyD, vyU, binS, SV.go1, SV.go0, mkRow, intsOf, boolsOf, strsOf, chunks, Row.rep, Row.cat, Row.sub, Row.put, Row.len, Row.get, Row.size, Row.flat, bnds, own0, own1, labsL, labsR, SV.labs, argsOf, entFr, SO.ev, St.of, keepSt, getAll, lookN, hasN, SV.cells, SV.one, SV.res1, SV.res0, SV.resP, SV.ok1, SV.ok0, SV.okN, SV.solid, SV.solid1, SV.solid0, SV.flat0, SV.nm, SV.nm1, SV.nm0, SV.noPtr1, SV.noPtr0, Cel.isFresh, fillP, setAt, partV, eqCells, cellEq, gamY, listsOk, tupOf, takeOwn, SV.ret1, resAll, resL, resV, Nat.reduceEqDiff, ↓reduceIte, Nat.reduceAdd, Nat.reduceMul, Nat.reduceLeDiff, Nat.reduceLT, reduceCtorEq, labOk, Int.reduceBEq, Int.reduceBNe, Int.reduceToNat, Int.reduceLE, Int.reduceLT, Int.reduceEq, Nat.reduceDiv, Nat.reduceMod, Nat.reduceSub, Nat.reduceBEq, fitR, fitR1, fitR0, fitRL1, fitRL, asI]
        · simp (config := { maxSteps := 9000000 }) only [↓vyD, vyU, binS, SV.go1, SV.go0, mkRow, intsOf, boolsOf, strsOf, chunks, Row.rep, Row.cat, Row.sub, Row.put, Row.len, Row.get, Row.size, Row.flat, bnds, own0, own1, labsL, labsR, SV.labs, argsOf, entFr, SO.ev, St.of, keepSt, getAll, lookN, hasN, SV.cells, SV.one, SV.res1, SV.res0, SV.resP, SV.ok1, SV.ok0, SV.okN, SV.solid, SV.solid1, SV.solid0, SV.flat0, SV.nm, SV.nm1, SV.nm0, SV.noPtr1, SV.noPtr0, Cel.isFresh, fillP, setAt, partV, eqCells, cellEq, gamY, listsOk, tupOf, takeOwn, SV.ret1, resAll, resL, resV, Nat.reduceEqDiff, ↓reduceIte, Nat.reduceAdd, Nat.reduceMul, Nat.reduceLeDiff, Nat.reduceLT, reduceCtorEq, labOk, Int.reduceBEq, Int.reduceBNe, Int.reduceToNat, Int.reduceLE, Int.reduceLT, Int.reduceEq, Nat.reduceDiv, Nat.reduceMod, Nat.reduceSub, Nat.reduceBEq, fitR, fitR1, fitR0, fitRL1, fitRL, asI]
        · simp (config := { maxSteps := 9000000 }) only [↓vyD, vyU, binS, SV.go1, SV.go0, mkRow, intsOf, boolsOf, strsOf, chunks, Row.rep, Row.cat, Row.sub, Row.put, Row.len, Row.get, Row.size, Row.flat, bnds, own0, own1, labsL, labsR, SV.labs, argsOf, entFr, SO.ev, St.of, keepSt, getAll, lookN, hasN, SV.cells, SV.one, SV.res1, SV.res0, SV.resP, SV.ok1, SV.ok0, SV.okN, SV.solid, SV.solid1, SV.solid0, SV.flat0, SV.nm, SV.nm1, SV.nm0, SV.noPtr1, SV.noPtr0, Cel.isFresh, fillP, setAt, partV, eqCells, cellEq, gamY, listsOk, tupOf, takeOwn, SV.ret1, resAll, resL, resV, Nat.reduceEqDiff, ↓reduceIte, Nat.reduceAdd, Nat.reduceMul, Nat.reduceLeDiff, Nat.reduceLT, reduceCtorEq, labOk, Int.reduceBEq, Int.reduceBNe, Int.reduceToNat, Int.reduceLE, Int.reduceLT, Int.reduceEq, Nat.reduceDiv, Nat.reduceMod, Nat.reduceSub, Nat.reduceBEq, fitR, fitR1, fitR0, fitRL1, fitRL, asI]
        by_cases hlt : (i : Int) < (l.length : Int)
        · have hlt' : i < l.length := by omega
          have b1 := i64_wrap (show I64 ((i : Int) + 1) by unfold I64; omega)
          have c0 : (0 : Int) ≤ (i : Int) := by omega
          have h3 : l.length ≠ 0 := by omega
          by_cases h4 : s - k ≤ l.getD i 0
          · have hE : lateE c l s k = 0 := by unfold lateE; rw [if_pos hw, h1, h2, if_pos ⟨rfl, rfl⟩, if_neg h3]
            have hm := (maxL_spec (l := l) (fun h => h3 (by rw [h]; rfl))).2 _ (getD_mem hlt')
            have hB : lateB c l s k = false := decide_eq_false fun h => by omega
            simp (config := { maxSteps := 9000000 }) only [↓vyD, vyU, binS, SV.go1, SV.go0, mkRow, intsOf, boolsOf, strsOf, chunks, Row.rep, Row.cat, Row.sub, Row.put, Row.len, Row.get, Row.size, Row.flat, bnds, own0, own1, labsL, labsR, SV.labs, argsOf, entFr, SO.ev, St.of, keepSt, getAll, lookN, hasN, SV.cells, SV.one, SV.res1, SV.res0, SV.resP, SV.ok1, SV.ok0, SV.okN, SV.solid, SV.solid1, SV.solid0, SV.flat0, SV.nm, SV.nm1, SV.nm0, SV.noPtr1, SV.noPtr0, Cel.isFresh, fillP, setAt, partV, eqCells, cellEq, gamY, listsOk, tupOf, takeOwn, SV.ret1, resAll, resL, resV, Nat.reduceEqDiff, ↓reduceIte, Nat.reduceAdd, Nat.reduceMul, Nat.reduceLeDiff, Nat.reduceLT, reduceCtorEq, labOk, Int.reduceBEq, Int.reduceBNe, Int.reduceToNat, Int.reduceLE, Int.reduceLT, Int.reduceEq, Nat.reduceDiv, Nat.reduceMod, Nat.reduceSub, Nat.reduceBEq, fitR, fitR1, fitR0, fitRL1, fitRL, hlt, Int.toNat_natCast, c0, x1, h4, hE, hB]
          · simp (config := { maxSteps := 9000000 }) only [↓vyD, vyU, binS, SV.go1, SV.go0, mkRow, intsOf, boolsOf, strsOf, chunks, Row.rep, Row.cat, Row.sub, Row.put, Row.len, Row.get, Row.size, Row.flat, bnds, own0, own1, labsL, labsR, SV.labs, argsOf, entFr, SO.ev, St.of, keepSt, getAll, lookN, hasN, SV.cells, SV.one, SV.res1, SV.res0, SV.resP, SV.ok1, SV.ok0, SV.okN, SV.solid, SV.solid1, SV.solid0, SV.flat0, SV.nm, SV.nm1, SV.nm0, SV.noPtr1, SV.noPtr0, Cel.isFresh, fillP, setAt, partV, eqCells, cellEq, gamY, listsOk, tupOf, takeOwn, SV.ret1, resAll, resL, resV, Nat.reduceEqDiff, ↓reduceIte, Nat.reduceAdd, Nat.reduceMul, Nat.reduceLeDiff, Nat.reduceLT, reduceCtorEq, labOk, Int.reduceBEq, Int.reduceBNe, Int.reduceToNat, Int.reduceLE, Int.reduceLT, Int.reduceEq, Nat.reduceDiv, Nat.reduceMod, Nat.reduceSub, Nat.reduceBEq, fitR, fitR1, fitR0, fitRL1, fitRL, hlt, Int.toNat_natCast, c0, x1, h4, b1]
            refine ⟨i + 1, ⟨⟨by omega, fun x hx => ?_⟩, by omega⟩, by simp⟩
            rw [take_snoc hlt'] at hx
            rcases List.mem_append.1 hx with hx | hx
            · exact hall x hx
            · rw [List.mem_singleton] at hx; omega
        · have hiS : i = l.length := by omega
          subst hiS
          rw [List.take_length] at hall
          by_cases h3 : l.length = 0
          · have h3' : ((l.length : Int) == 0) = true := by simp [h3]
            have hE : lateE c l s k = 4 := by unfold lateE; rw [if_pos hw, h1, h2, if_pos ⟨rfl, rfl⟩, if_pos h3]
            have hB : lateB c l s k = false := decide_eq_false fun h => by omega
            simp (config := { maxSteps := 9000000 }) only [↓vyD, vyU, binS, SV.go1, SV.go0, mkRow, intsOf, boolsOf, strsOf, chunks, Row.rep, Row.cat, Row.sub, Row.put, Row.len, Row.get, Row.size, Row.flat, bnds, own0, own1, labsL, labsR, SV.labs, argsOf, entFr, SO.ev, St.of, keepSt, getAll, lookN, hasN, SV.cells, SV.one, SV.res1, SV.res0, SV.resP, SV.ok1, SV.ok0, SV.okN, SV.solid, SV.solid1, SV.solid0, SV.flat0, SV.nm, SV.nm1, SV.nm0, SV.noPtr1, SV.noPtr0, Cel.isFresh, fillP, setAt, partV, eqCells, cellEq, gamY, listsOk, tupOf, takeOwn, SV.ret1, resAll, resL, resV, Nat.reduceEqDiff, ↓reduceIte, Nat.reduceAdd, Nat.reduceMul, Nat.reduceLeDiff, Nat.reduceLT, reduceCtorEq, labOk, Int.reduceBEq, Int.reduceBNe, Int.reduceToNat, Int.reduceLE, Int.reduceLT, Int.reduceEq, Nat.reduceDiv, Nat.reduceMod, Nat.reduceSub, Nat.reduceBEq, fitR, fitR1, fitR0, fitRL1, fitRL, hlt, h3', hE, hB]
          · have h3' : ((l.length : Int) == 0) = false := beq_eq_false_iff_ne.2 (by omega)
            have hE : lateE c l s k = 0 := by unfold lateE; rw [if_pos hw, h1, h2, if_pos ⟨rfl, rfl⟩, if_neg h3]
            have hm := hall _ (maxL_spec (l := l) (fun h => h3 (by rw [h]; rfl))).1
            have hB : lateB c l s k = true := decide_eq_true ⟨hE, by omega⟩
            simp (config := { maxSteps := 9000000 }) only [↓vyD, vyU, binS, SV.go1, SV.go0, mkRow, intsOf, boolsOf, strsOf, chunks, Row.rep, Row.cat, Row.sub, Row.put, Row.len, Row.get, Row.size, Row.flat, bnds, own0, own1, labsL, labsR, SV.labs, argsOf, entFr, SO.ev, St.of, keepSt, getAll, lookN, hasN, SV.cells, SV.one, SV.res1, SV.res0, SV.resP, SV.ok1, SV.ok0, SV.okN, SV.solid, SV.solid1, SV.solid0, SV.flat0, SV.nm, SV.nm1, SV.nm0, SV.noPtr1, SV.noPtr0, Cel.isFresh, fillP, setAt, partV, eqCells, cellEq, gamY, listsOk, tupOf, takeOwn, SV.ret1, resAll, resL, resV, Nat.reduceEqDiff, ↓reduceIte, Nat.reduceAdd, Nat.reduceMul, Nat.reduceLeDiff, Nat.reduceLT, reduceCtorEq, labOk, Int.reduceBEq, Int.reduceBNe, Int.reduceToNat, Int.reduceLE, Int.reduceLT, Int.reduceEq, Nat.reduceDiv, Nat.reduceMod, Nat.reduceSub, Nat.reduceBEq, fitR, fitR1, fitR0, fitRL1, fitRL, hlt, h3', hE, hB]
  · have hw' : (winE c l != 0) = true := by simpa using hw
    have hE : lateE c l s k = winE c l := if_neg hw
    have hB : lateB c l s k = false := decide_eq_false fun h => by omega
    simp (config := { maxSteps := 9000000 }) only [↓vyD, vyU, binS, SV.go1, SV.go0, mkRow, intsOf, boolsOf, strsOf, chunks, Row.rep, Row.cat, Row.sub, Row.put, Row.len, Row.get, Row.size, Row.flat, bnds, own0, own1, labsL, labsR, SV.labs, argsOf, entFr, SO.ev, St.of, keepSt, getAll, lookN, hasN, SV.cells, SV.one, SV.res1, SV.res0, SV.resP, SV.ok1, SV.ok0, SV.okN, SV.solid, SV.solid1, SV.solid0, SV.flat0, SV.nm, SV.nm1, SV.nm0, SV.noPtr1, SV.noPtr0, Cel.isFresh, fillP, setAt, partV, eqCells, cellEq, gamY, listsOk, tupOf, takeOwn, SV.ret1, resAll, resL, resV, Nat.reduceEqDiff, ↓reduceIte, Nat.reduceAdd, Nat.reduceMul, Nat.reduceLeDiff, Nat.reduceLT, reduceCtorEq, labOk, Int.reduceBEq, Int.reduceBNe, Int.reduceToNat, Int.reduceLE, Int.reduceLT, Int.reduceEq, Nat.reduceDiv, Nat.reduceMod, Nat.reduceSub, Nat.reduceBEq, fitR, fitR1, fitR0, fitRL1, fitRL, y43, gRl2, rwinS, rtimeS, rvalS, asI, hw', hE, hB]
end Go.Proofs.Ytnaloeoiobcifaa
