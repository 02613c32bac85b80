/- The statements' levels; what is plain of the k-th greatest. -/
import Derived.Test.YtlfhcjohkpdkoaaYVo
import Derived.Test.YtlfhcjohkpdkoaaYM7
namespace Go.Proofs.Ytlfhcjohkpdkoaa
open Go.ChangeShapes Go.WideShapes Go.ChangeAt Go.RowKit Go.Joins Y
set_option linter.unusedSimpArgs false
set_option linter.unusedVariables false
set_option maxRecDepth 100000
set_option maxHeartbeats 40000000
def levL (l : List Int) : List Int := (l.take 64).map fun x => withinN x 128
theorem levL_ok (l : List Int) : (levL l).length ≤ 64 ∧ ∀ x ∈ levL l, 0 ≤ x ∧ x ≤ 127 := by
  refine ⟨by simp [levL]; omega, fun x hx => ?_⟩
  obtain ⟨y, _, rfl⟩ := List.mem_map.1 hx
  have := withinN_lt y (n := 128) (by omega)
  omega
theorem lev_vE {l : List Int} {k : Int} (h1 : l.length ≤ 64) (h2 : ∀ x ∈ l, 0 ≤ x ∧ x ≤ 127) (hk : 1 ≤ k ∧ k ≤ 64) : vE l k = 0 := vE_0.2 ⟨h1, h2, hk⟩
/-- As many are no less than the one at place j just if .. -/
theorem kth_ge {l : List Int} {j : Nat} (hj : j < l.length) (q : Int) : q ≤ (sortL l).getD j 0 ↔ l.length - j ≤ cntL l q := by
  obtain ⟨a, b⟩ := rank_counts hj
  have hs := cnt_split (fun x => decide (q ≤ x)) l
  unfold cntL
  constructor
  · intro h
    have : l.countP (fun x => !decide (q ≤ x)) ≤ l.countP (fun x => decide (x < (sortL l).getD j 0)) := List.countP_mono_left fun x _ hx => by
      simp only [Bool.not_eq_true', decide_eq_false_iff_not, decide_eq_true_eq] at *; omega
    omega
  · intro h
    refine Int.not_lt.1 fun hh => ?_
    have : l.countP (fun x => decide (x ≤ (sortL l).getD j 0)) ≤ l.countP (fun x => !decide (q ≤ x)) := List.countP_mono_left fun x _ hx => by
      simp only [Bool.not_eq_true', decide_eq_false_iff_not, decide_eq_true_eq] at *; omega
    omega
theorem inN_cnt {l : List Int} (h : ∀ x ∈ l, 0 ≤ x ∧ x ≤ 127) (q : Int) : inN q 127 l = cntL l q := by
  unfold inN cntL
  exact List.countP_congr fun x hx => by have := h x hx; simp only [decide_eq_true_eq]; omega
/-- So many say q just if the k-th greatest is that. -/
theorem some_kth {l : List Int} {k : Int} (h : ∀ x ∈ l, 0 ≤ x ∧ x ≤ 127) (hk : 1 ≤ k ∧ k ≤ l.length) (q : Int) : k ≤ (inN q 127 l : Nat) ↔ q ≤ (sortL l).getD ((l.length : Int) - k).toNat 0 := by
  rw [inN_cnt h, kth_ge (by omega)]
  omega
theorem kth_mem {l : List Int} {k : Int} (hk : 1 ≤ k ∧ k ≤ l.length) : (sortL l).getD ((l.length : Int) - k).toNat 0 ∈ l := sortL_mem_at (by omega)
theorem vlV_0 {l : List Int} {k : Int} (h : vE l k = 0) (hk : k ≤ l.length) : vlE l k = 0 ∧ vlV l k = (sortL l).getD ((l.length : Int) - k).toNat 0 := by
  have h1 : vlE l k = 0 := vlE_0.2 ⟨h, hk⟩
  exact ⟨h1, if_pos h1⟩
theorem so_0 {l : List Int} {k q : Int} (h : vE l k = 0) (hq : 1 ≤ q ∧ q ≤ 60) : soE l k q = 0 ∧ soB l k q = decide (k ≤ (inN q 127 l : Nat)) := by
  have h1 : soE l k q = 0 := by rw [soE, if_pos h, if_pos hq]
  exact ⟨h1, if_pos h1⟩
def gLv : List (Nat × Say) := [(27, withinS)]
theorem gLv_ok : GamOk Try.prog (gamY gLv) := gam_ok (gam_cons within_ok gam_nil)
def levelsS : Say
  | [x_l] => (match asI x_l with | some l => some (True, .rw (.ints .i64 (levL l)), none) | _ => none)
  | _ => none
theorem levels_ok : FOk Try.prog 28 levelsS := by
  intro xs p r own h hp
  unfold levelsS at h
  split at h
  case h_2 => cases h
  rename_i x_l
  split at h
  case h_2 => cases h
  rename_i l h_l
  simp only [Option.some.injEq, Prod.mk.injEq] at h
  obtain ⟨rfl, rfl, rfl⟩ := h
  refine fun_fit (ys := [.rw (.ints .i64 l)]) ?_ ⟨asI_fit h_l, trivial⟩
  clear h_l
  refine fun_ok gLv_ok lawy_mixed y28_eq none ?_ (Nat.le_of_ble_eq_true rfl)
  have et : List.take (if 64 < (l.length : Int) then (64 : Int) else (l.length : Int)).toNat l = l.take 64 := by
    split
    · rfl
    · rw [List.take_of_length_le (by omega), List.take_of_length_le (by omega)]
  have et2 : (0 : Int) ≤ (if 64 < (l.length : Int) then (64 : Int) else (l.length : Int)) := by split <;> omega
  have et3 : (if 64 < (l.length : Int) then (64 : Int) else (l.length : Int)) ≤ (l.length : Int) := by split <;> omega
  have hvl : levL l = (l.take 64).map fun x => withinN x 128 := rfl
  have h64 : (l.take 64).length ≤ 64 := by simp; omega
  rw [hvl]
  generalize hm : l.take 64 = m at *
  simp (config := { maxSteps := 9000000 }) only [↓vyD, vyU, binS, SV.go1, SV.go0, mkRow, intsOf, boolsOf, strsOf, chunks, Row.rep, Row.cat, Row.sub, Row.put, Row.len, Row.get, Row.size, Row.flat, bnds, own0, own1, labsL, labsR, SV.labs, argsOf, entFr, SO.ev, St.of, keepSt, getAll, lookN, hasN, SV.cells, SV.one, SV.res1, SV.res0, SV.resP, SV.ok1, SV.ok0, SV.okN, SV.solid, SV.solid1, SV.solid0, SV.flat0, SV.nm, SV.nm1, SV.nm0, SV.noPtr1, SV.noPtr0, Cel.isFresh, fillP, setAt, partV, eqCells, cellEq, gamY, listsOk, tupOf, takeOwn, SV.ret1, resAll, resL, resV, Nat.reduceEqDiff, ↓reduceIte, Nat.reduceAdd, Nat.reduceMul, Nat.reduceLeDiff, Nat.reduceLT, reduceCtorEq, labOk, Int.reduceBEq, Int.reduceBNe, Int.reduceToNat, Int.reduceLE, Int.reduceLT, Int.reduceEq, Nat.reduceDiv, Nat.reduceMod, Nat.reduceSub, Nat.reduceBEq, fitR, fitR1, fitR0, fitRL1, fitRL, y28, gLv, withinS, asI, gt_iff_lt, et, et2, et3]
  refine loopG_intro (ι := Nat) (fun i => [(3, .sl 1000 i), (10, .rw (.ints .i64 m)), (11, .int .i64 m.length), (12, .int .i64 i)])
      (fun i => [(1000, .row i 3 (.ints .i64 ((m.take i).map fun x => withinN x 128)))]) (fun i => i ≤ m.length) (fun i => m.length - i) ⟨0, by omega, ?_, ?_, ?_⟩ fun i hi => ?_
  · simp (config := { maxSteps := 9000000 }) only [↓vyD, vyU, binS, SV.go1, SV.go0, mkRow, intsOf, boolsOf, strsOf, chunks, Row.rep, Row.cat, Row.sub, Row.put, Row.len, Row.get, Row.size, Row.flat, bnds, own0, own1, labsL, labsR, SV.labs, argsOf, entFr, SO.ev, St.of, keepSt, getAll, lookN, hasN, SV.cells, SV.one, SV.res1, SV.res0, SV.resP, SV.ok1, SV.ok0, SV.okN, SV.solid, SV.solid1, SV.solid0, SV.flat0, SV.nm, SV.nm1, SV.nm0, SV.noPtr1, SV.noPtr0, Cel.isFresh, fillP, setAt, partV, eqCells, cellEq, gamY, listsOk, tupOf, takeOwn, SV.ret1, resAll, resL, resV, Nat.reduceEqDiff, ↓reduceIte, Nat.reduceAdd, Nat.reduceMul, Nat.reduceLeDiff, Nat.reduceLT, reduceCtorEq, labOk, Int.reduceBEq, Int.reduceBNe, Int.reduceToNat, Int.reduceLE, Int.reduceLT, Int.reduceEq, Nat.reduceDiv, Nat.reduceMod, Nat.reduceSub, Nat.reduceBEq, fitR, fitR1, fitR0, fitRL1, fitRL, et]
  · simp (config := { maxSteps := 9000000 }) only [↓vyD, vyU, binS, SV.go1, SV.go0, mkRow, intsOf, boolsOf, strsOf, chunks, Row.rep, Row.cat, Row.sub, Row.put, Row.len, Row.get, Row.size, Row.flat, bnds, own0, own1, labsL, labsR, SV.labs, argsOf, entFr, SO.ev, St.of, keepSt, getAll, lookN, hasN, SV.cells, SV.one, SV.res1, SV.res0, SV.resP, SV.ok1, SV.ok0, SV.okN, SV.solid, SV.solid1, SV.solid0, SV.flat0, SV.nm, SV.nm1, SV.nm0, SV.noPtr1, SV.noPtr0, Cel.isFresh, fillP, setAt, partV, eqCells, cellEq, gamY, listsOk, tupOf, takeOwn, SV.ret1, resAll, resL, resV, Nat.reduceEqDiff, ↓reduceIte, Nat.reduceAdd, Nat.reduceMul, Nat.reduceLeDiff, Nat.reduceLT, reduceCtorEq, labOk, Int.reduceBEq, Int.reduceBNe, Int.reduceToNat, Int.reduceLE, Int.reduceLT, Int.reduceEq, Nat.reduceDiv, Nat.reduceMod, Nat.reduceSub, Nat.reduceBEq, fitR, fitR1, fitR0, fitRL1, fitRL, et]
  · simp (config := { maxSteps := 9000000 }) only [↓vyD, vyU, binS, SV.go1, SV.go0, mkRow, intsOf, boolsOf, strsOf, chunks, Row.rep, Row.cat, Row.sub, Row.put, Row.len, Row.get, Row.size, Row.flat, bnds, own0, own1, labsL, labsR, SV.labs, argsOf, entFr, SO.ev, St.of, keepSt, getAll, lookN, hasN, SV.cells, SV.one, SV.res1, SV.res0, SV.resP, SV.ok1, SV.ok0, SV.okN, SV.solid, SV.solid1, SV.solid0, SV.flat0, SV.nm, SV.nm1, SV.nm0, SV.noPtr1, SV.noPtr0, Cel.isFresh, fillP, setAt, partV, eqCells, cellEq, gamY, listsOk, tupOf, takeOwn, SV.ret1, resAll, resL, resV, Nat.reduceEqDiff, ↓reduceIte, Nat.reduceAdd, Nat.reduceMul, Nat.reduceLeDiff, Nat.reduceLT, reduceCtorEq, labOk, Int.reduceBEq, Int.reduceBNe, Int.reduceToNat, Int.reduceLE, Int.reduceLT, Int.reduceEq, Nat.reduceDiv, Nat.reduceMod, Nat.reduceSub, Nat.reduceBEq, fitR, fitR1, fitR0, fitRL1, fitRL, et]
  · have hlen : ((m.take i).map fun x => withinN x 128).length = i := by simp; omega
    by_cases hlt : (i : Int) < (m.length : Int)
    · have hlt' : i < m.length := by omega
      have b1 := i64_wrap (show I64 ((i : Int) + 1) by unfold I64; omega)
      have b2 : I64 128 := by unfold I64; omega
      have e1 : (m.take (i + 1)).map (fun x => withinN x 128) = (m.take i).map (fun x => withinN x 128) ++ [withinN (m.getD i 0) 128] := by
        rw [take_snoc hlt', List.map_append]; rfl
      simp (config := { maxSteps := 9000000 }) only [↓vyD, vyU, binS, SV.go1, SV.go0, mkRow, intsOf, boolsOf, strsOf, chunks, Row.rep, Row.cat, Row.sub, Row.put, Row.len, Row.get, Row.size, Row.flat, bnds, own0, own1, labsL, labsR, SV.labs, argsOf, entFr, SO.ev, St.of, keepSt, getAll, lookN, hasN, SV.cells, SV.one, SV.res1, SV.res0, SV.resP, SV.ok1, SV.ok0, SV.okN, SV.solid, SV.solid1, SV.solid0, SV.flat0, SV.nm, SV.nm1, SV.nm0, SV.noPtr1, SV.noPtr0, Cel.isFresh, fillP, setAt, partV, eqCells, cellEq, gamY, listsOk, tupOf, takeOwn, SV.ret1, resAll, resL, resV, Nat.reduceEqDiff, ↓reduceIte, Nat.reduceAdd, Nat.reduceMul, Nat.reduceLeDiff, Nat.reduceLT, reduceCtorEq, labOk, Int.reduceBEq, Int.reduceBNe, Int.reduceToNat, Int.reduceLE, Int.reduceLT, Int.reduceEq, Nat.reduceDiv, Nat.reduceMod, Nat.reduceSub, Nat.reduceBEq, fitR, fitR1, fitR0, fitRL1, fitRL, gLv, withinS, hlt, Int.toNat_natCast, b1, b2]
      simp only [hlen]
      exact ⟨by omega, by omega, i + 1, ⟨by omega, by omega⟩, ⟨rfl, by simp⟩, rfl, e1.symm⟩
    · have : i = m.length := by omega
      subst this
      simp (config := { maxSteps := 9000000 }) only [↓vyD, vyU, binS, SV.go1, SV.go0, mkRow, intsOf, boolsOf, strsOf, chunks, Row.rep, Row.cat, Row.sub, Row.put, Row.len, Row.get, Row.size, Row.flat, bnds, own0, own1, labsL, labsR, SV.labs, argsOf, entFr, SO.ev, St.of, keepSt, getAll, lookN, hasN, SV.cells, SV.one, SV.res1, SV.res0, SV.resP, SV.ok1, SV.ok0, SV.okN, SV.solid, SV.solid1, SV.solid0, SV.flat0, SV.nm, SV.nm1, SV.nm0, SV.noPtr1, SV.noPtr0, Cel.isFresh, fillP, setAt, partV, eqCells, cellEq, gamY, listsOk, tupOf, takeOwn, SV.ret1, resAll, resL, resV, Nat.reduceEqDiff, ↓reduceIte, Nat.reduceAdd, Nat.reduceMul, Nat.reduceLeDiff, Nat.reduceLT, reduceCtorEq, labOk, Int.reduceBEq, Int.reduceBNe, Int.reduceToNat, Int.reduceLE, Int.reduceLT, Int.reduceEq, Nat.reduceDiv, Nat.reduceMod, Nat.reduceSub, Nat.reduceBEq, fitR, fitR1, fitR0, fitRL1, fitRL, gLv, withinS, hlt, List.take_length, List.contains_nil]
end Go.Proofs.Ytlfhcjohkpdkoaa
