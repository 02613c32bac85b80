/- What slices.BinarySearch does in a list that rises; what rank.Put and rank.Cut do. -/
import Derived.Test.YtnaloeoiobcifaaYM7
namespace Go.Proofs.Ytnaloeoiobcifaa
open Go.ChangeShapes Go.WideShapes Go.ChangeAt Go.RowKit Go.Joins Y
set_option linter.unusedSimpArgs false
set_option linter.unusedVariables false
set_option maxRecDepth 100000
set_option maxHeartbeats 40000000
def snanS : Say
  | [.int .i64 a] => some (True, .bool false, none)
  | _ => none
theorem snan_ok : FOk Try.prog 104 snanS := by
  intro xs p r own h hp
  unfold snanS at h
  split at h
  case h_2 => cases h
  rename_i a
  simp only [Option.some.injEq, Prod.mk.injEq] at h
  obtain ⟨rfl, rfl, rfl⟩ := h
  refine fun_ok (gam_ok gam_nil) lawy_mixed y104_eq none ?_ (Nat.le_of_ble_eq_true rfl)
  simp (config := { maxSteps := 9000000 }) only [↓vyD, vyU, binS, SV.go1, SV.go0, mkRow, intsOf, boolsOf, strsOf, chunks, Row.rep, Row.cat, Row.sub, Row.put, Row.len, Row.get, Row.size, Row.flat, bnds, own0, own1, labsL, labsR, SV.labs, argsOf, entFr, SO.ev, St.of, keepSt, getAll, lookN, hasN, SV.cells, SV.one, SV.res1, SV.res0, SV.resP, SV.ok1, SV.ok0, SV.okN, SV.solid, SV.solid1, SV.solid0, SV.flat0, SV.nm, SV.nm1, SV.nm0, SV.noPtr1, SV.noPtr0, Cel.isFresh, fillP, setAt, partV, eqCells, cellEq, gamY, listsOk, tupOf, takeOwn, SV.ret1, resAll, resL, resV, Nat.reduceEqDiff, ↓reduceIte, Nat.reduceAdd, Nat.reduceMul, Nat.reduceLeDiff, Nat.reduceLT, reduceCtorEq, labOk, Int.reduceBEq, Int.reduceBNe, Int.reduceToNat, Int.reduceLE, Int.reduceLT, Int.reduceEq, Nat.reduceDiv, Nat.reduceMod, Nat.reduceSub, Nat.reduceBEq, fitR, fitR1, fitR0, fitRL1, fitRL, y104]
def lowN (l : List Int) (x : Int) : Nat := l.countP fun y => decide (y < x)
theorem lowN_le (l : List Int) (x : Int) : lowN l x ≤ l.length := List.countP_le_length
theorem lowN_lt {l : List Int} {x : Int} (h : x ∈ l) : lowN l x < l.length := by
  have h1 := cnt_split (fun y => decide (y < x)) l
  have h2 : 0 < l.countP (fun y => !decide (y < x)) := List.countP_pos_iff.2 ⟨x, h, by simp⟩
  unfold lowN
  omega
/-- The place that parts what is less from the rest. -/
theorem lowN_eq {l : List Int} {x : Int} {i : Nat} (hi : i ≤ l.length) (h1 : ∀ k, k < i → l.getD k 0 < x) (h2 : ∀ k, i ≤ k → k < l.length → x ≤ l.getD k 0) : lowN l x = i := by
  have e1 : (l.take i).countP (fun y => decide (y < x)) = (l.take i).length := List.countP_eq_length.2 fun y hy => by
    obtain ⟨k, hk, rfl⟩ := List.getElem_of_mem hy
    rw [List.length_take] at hk
    have := h1 k (by omega)
    rw [List.getElem_take]
    simpa [List.getD_eq_getElem?_getD, show k < l.length by omega] using this
  have e2 : (l.drop i).countP (fun y => decide (y < x)) = 0 := List.countP_eq_zero.2 fun y hy => by
    obtain ⟨k, hk, rfl⟩ := List.getElem_of_mem hy
    rw [List.length_drop] at hk
    have := h2 (i + k) (by omega) (by omega)
    rw [List.getElem_drop]
    simp [List.getD_eq_getElem?_getD, show i + k < l.length by omega] at this ⊢
    omega
  have e3 : l.countP (fun y => decide (y < x)) = (l.take i).countP (fun y => decide (y < x)) + (l.drop i).countP (fun y => decide (y < x)) := by
    rw [← List.countP_append, List.take_append_drop]
  rw [List.length_take] at e1
  unfold lowN
  omega
theorem sorted_at {l : List Int} (hs : l.Pairwise (· ≤ ·)) {i j : Nat} (hij : i ≤ j) (hj : j < l.length) : l.getD i 0 ≤ l.getD j 0 := by
  by_cases h : i = j
  · subst h; exact Int.le_refl _
  · have := List.pairwise_iff_getElem.1 hs i j (by omega) hj (by omega)
    simpa [List.getD_eq_getElem?_getD, hj, show i < l.length by omega] using this
def gBs : List (Nat × Say) := [(103, less1S), (104, snanS)]
theorem gBs_ok : GamOk Try.prog (gamY gBs) := gam_ok (gam_cons less1_ok (gam_cons snan_ok gam_nil))
def bsearchS : Say
  | [x_l, .int .i64 x] => (match asI x_l with | some l => some (l.length ≤ 4294967296 ∧ l.Pairwise (· ≤ ·), .tup [.int .i64 (lowN l x), .bool (decide (x ∈ l))], none) | _ => none)
  | _ => none
theorem bsearch_ok : FOk Try.prog 64 bsearchS := by
  intro xs p r own h hp
  unfold bsearchS at h
  split at h
  case h_2 => cases h
  rename_i x_l x
  split at h
  case h_2 => cases h
  rename_i l h_l
  simp only [Option.some.injEq, Prod.mk.injEq] at h
  obtain ⟨rfl, rfl, rfl⟩ := h
  refine fun_fit (ys := [.rw (.ints .i64 l), .int .i64 x]) ?_ ⟨asI_fit h_l, fit_refl1 _ (by simp), trivial⟩
  clear h_l
  refine fun_ok gBs_ok lawy_mixed y64_eq none ?_ (Nat.le_of_ble_eq_true rfl)
  obtain ⟨hp, hs⟩ := hp
  simp (config := { maxSteps := 9000000 }) only [↓vyD, vyU, binS, SV.go1, SV.go0, mkRow, intsOf, boolsOf, strsOf, chunks, Row.rep, Row.cat, Row.sub, Row.put, Row.len, Row.get, Row.size, Row.flat, bnds, own0, own1, labsL, labsR, SV.labs, argsOf, entFr, SO.ev, St.of, keepSt, getAll, lookN, hasN, SV.cells, SV.one, SV.res1, SV.res0, SV.resP, SV.ok1, SV.ok0, SV.okN, SV.solid, SV.solid1, SV.solid0, SV.flat0, SV.nm, SV.nm1, SV.nm0, SV.noPtr1, SV.noPtr0, Cel.isFresh, fillP, setAt, partV, eqCells, cellEq, gamY, listsOk, tupOf, takeOwn, SV.ret1, resAll, resL, resV, Nat.reduceEqDiff, ↓reduceIte, Nat.reduceAdd, Nat.reduceMul, Nat.reduceLeDiff, Nat.reduceLT, reduceCtorEq, labOk, Int.reduceBEq, Int.reduceBNe, Int.reduceToNat, Int.reduceLE, Int.reduceLT, Int.reduceEq, Nat.reduceDiv, Nat.reduceMod, Nat.reduceSub, Nat.reduceBEq, fitR, fitR1, fitR0, fitRL1, fitRL, y64]
  refine loopG_intro (ι := Nat × Nat) (fun i => [(0, .rw (.ints .i64 l)), (1, .int .i64 x), (6, .int .i64 l.length), (7, .int .i64 i.1), (8, .int .i64 i.2)]) (fun _ => []) (fun i => i.1 ≤ i.2 ∧ i.2 ≤ l.length ∧ (∀ k, k < i.1 → l.getD k 0 < x) ∧ ∀ k, i.2 ≤ k → k < l.length → x ≤ l.getD k 0) (fun i => i.2 - i.1) ⟨(0, l.length), ⟨by simp, by simp, fun k hk => by simp at hk, fun k h1 h2 => by simp at h1; omega⟩, ?_, ?_, ?_⟩ fun ⟨i, j⟩ ⟨h1, h2, h3, h4⟩ => ?_
  · simp (config := { maxSteps := 9000000 }) only [↓vyD, vyU, binS, SV.go1, SV.go0, mkRow, intsOf, boolsOf, strsOf, chunks, Row.rep, Row.cat, Row.sub, Row.put, Row.len, Row.get, Row.size, Row.flat, bnds, own0, own1, labsL, labsR, SV.labs, argsOf, entFr, SO.ev, St.of, keepSt, getAll, lookN, hasN, SV.cells, SV.one, SV.res1, SV.res0, SV.resP, SV.ok1, SV.ok0, SV.okN, SV.solid, SV.solid1, SV.solid0, SV.flat0, SV.nm, SV.nm1, SV.nm0, SV.noPtr1, SV.noPtr0, Cel.isFresh, fillP, setAt, partV, eqCells, cellEq, gamY, listsOk, tupOf, takeOwn, SV.ret1, resAll, resL, resV, Nat.reduceEqDiff, ↓reduceIte, Nat.reduceAdd, Nat.reduceMul, Nat.reduceLeDiff, Nat.reduceLT, reduceCtorEq, labOk, Int.reduceBEq, Int.reduceBNe, Int.reduceToNat, Int.reduceLE, Int.reduceLT, Int.reduceEq, Nat.reduceDiv, Nat.reduceMod, Nat.reduceSub, Nat.reduceBEq, fitR, fitR1, fitR0, fitRL1, fitRL, hp]
  · simp (config := { maxSteps := 9000000 }) only [↓vyD, vyU, binS, SV.go1, SV.go0, mkRow, intsOf, boolsOf, strsOf, chunks, Row.rep, Row.cat, Row.sub, Row.put, Row.len, Row.get, Row.size, Row.flat, bnds, own0, own1, labsL, labsR, SV.labs, argsOf, entFr, SO.ev, St.of, keepSt, getAll, lookN, hasN, SV.cells, SV.one, SV.res1, SV.res0, SV.resP, SV.ok1, SV.ok0, SV.okN, SV.solid, SV.solid1, SV.solid0, SV.flat0, SV.nm, SV.nm1, SV.nm0, SV.noPtr1, SV.noPtr0, Cel.isFresh, fillP, setAt, partV, eqCells, cellEq, gamY, listsOk, tupOf, takeOwn, SV.ret1, resAll, resL, resV, Nat.reduceEqDiff, ↓reduceIte, Nat.reduceAdd, Nat.reduceMul, Nat.reduceLeDiff, Nat.reduceLT, reduceCtorEq, labOk, Int.reduceBEq, Int.reduceBNe, Int.reduceToNat, Int.reduceLE, Int.reduceLT, Int.reduceEq, Nat.reduceDiv, Nat.reduceMod, Nat.reduceSub, Nat.reduceBEq, fitR, fitR1, fitR0, fitRL1, fitRL, hp]
  · simp (config := { maxSteps := 9000000 }) only [↓vyD, vyU, binS, SV.go1, SV.go0, mkRow, intsOf, boolsOf, strsOf, chunks, Row.rep, Row.cat, Row.sub, Row.put, Row.len, Row.get, Row.size, Row.flat, bnds, own0, own1, labsL, labsR, SV.labs, argsOf, entFr, SO.ev, St.of, keepSt, getAll, lookN, hasN, SV.cells, SV.one, SV.res1, SV.res0, SV.resP, SV.ok1, SV.ok0, SV.okN, SV.solid, SV.solid1, SV.solid0, SV.flat0, SV.nm, SV.nm1, SV.nm0, SV.noPtr1, SV.noPtr0, Cel.isFresh, fillP, setAt, partV, eqCells, cellEq, gamY, listsOk, tupOf, takeOwn, SV.ret1, resAll, resL, resV, Nat.reduceEqDiff, ↓reduceIte, Nat.reduceAdd, Nat.reduceMul, Nat.reduceLeDiff, Nat.reduceLT, reduceCtorEq, labOk, Int.reduceBEq, Int.reduceBNe, Int.reduceToNat, Int.reduceLE, Int.reduceLT, Int.reduceEq, Nat.reduceDiv, Nat.reduceMod, Nat.reduceSub, Nat.reduceBEq, fitR, fitR1, fitR0, fitRL1, fitRL, hp]
  · simp only at h1 h2 h3 h4
    by_cases hlt : (i : Int) < (j : Int)
    · have c1 := i64_wrap (show I64 ((i : Int) + (j : Int)) by unfold I64; omega)
      have c2 := u64_wrap (show U64 ((i : Int) + (j : Int)) by unfold U64; omega)
      have e1 : (((i : Int) + (j : Int))).fdiv (2 ^ min 1 IntKind.u64.bits) = ((i + j) / 2 : Nat) := by
        have : (2 : Int) ^ min 1 IntKind.u64.bits = 2 := by decide
        rw [this, Int.fdiv_eq_ediv_of_nonneg _ (by omega)]
        omega
      have c3 := u64_wrap (show U64 (((i + j) / 2 : Nat) : Int) by unfold U64; omega)
      have c4 := i64_wrap (show I64 (((i + j) / 2 : Nat) : Int) by unfold I64; omega)
      have g1 : (i + j) / 2 < l.length := by omega
      have g2 : i ≤ (i + j) / 2 ∧ (i + j) / 2 < j := by omega
      generalize hh : (i + j) / 2 = h at *
      have g3 : (h : Int) < (l.length : Int) := by omega
      have g4 : (0 : Int) ≤ (h : Int) := by omega
      have c5 := i64_wrap (show I64 ((h : Int) + 1) by unfold I64; omega)
      by_cases hx : l.getD h 0 < x
      · simp (config := { maxSteps := 9000000 }) only [↓vyD, vyU, binS, SV.go1, SV.go0, mkRow, intsOf, boolsOf, strsOf, chunks, Row.rep, Row.cat, Row.sub, Row.put, Row.len, Row.get, Row.size, Row.flat, bnds, own0, own1, labsL, labsR, SV.labs, argsOf, entFr, SO.ev, St.of, keepSt, getAll, lookN, hasN, SV.cells, SV.one, SV.res1, SV.res0, SV.resP, SV.ok1, SV.ok0, SV.okN, SV.solid, SV.solid1, SV.solid0, SV.flat0, SV.nm, SV.nm1, SV.nm0, SV.noPtr1, SV.noPtr0, Cel.isFresh, fillP, setAt, partV, eqCells, cellEq, gamY, listsOk, tupOf, takeOwn, SV.ret1, resAll, resL, resV, Nat.reduceEqDiff, ↓reduceIte, Nat.reduceAdd, Nat.reduceMul, Nat.reduceLeDiff, Nat.reduceLT, reduceCtorEq, labOk, Int.reduceBEq, Int.reduceBNe, Int.reduceToNat, Int.reduceLE, Int.reduceLT, Int.reduceEq, Nat.reduceDiv, Nat.reduceMod, Nat.reduceSub, Nat.reduceBEq, fitR, fitR1, fitR0, fitRL1, fitRL, gBs, less1S, snanS, hlt, c1, c2, e1, c3, c4, c5, g1, g3, g4, hx, Int.toNat_natCast, Int.reduceLE]
        refine ⟨(h + 1, j), ⟨⟨by simp; omega, by simp; omega, fun k hk => ?_, h4⟩, by simp; omega⟩, by simp⟩
        have := sorted_at hs (i := k) (j := h) (by simp at hk; omega) g1
        omega
      · simp (config := { maxSteps := 9000000 }) only [↓vyD, vyU, binS, SV.go1, SV.go0, mkRow, intsOf, boolsOf, strsOf, chunks, Row.rep, Row.cat, Row.sub, Row.put, Row.len, Row.get, Row.size, Row.flat, bnds, own0, own1, labsL, labsR, SV.labs, argsOf, entFr, SO.ev, St.of, keepSt, getAll, lookN, hasN, SV.cells, SV.one, SV.res1, SV.res0, SV.resP, SV.ok1, SV.ok0, SV.okN, SV.solid, SV.solid1, SV.solid0, SV.flat0, SV.nm, SV.nm1, SV.nm0, SV.noPtr1, SV.noPtr0, Cel.isFresh, fillP, setAt, partV, eqCells, cellEq, gamY, listsOk, tupOf, takeOwn, SV.ret1, resAll, resL, resV, Nat.reduceEqDiff, ↓reduceIte, Nat.reduceAdd, Nat.reduceMul, Nat.reduceLeDiff, Nat.reduceLT, reduceCtorEq, labOk, Int.reduceBEq, Int.reduceBNe, Int.reduceToNat, Int.reduceLE, Int.reduceLT, Int.reduceEq, Nat.reduceDiv, Nat.reduceMod, Nat.reduceSub, Nat.reduceBEq, fitR, fitR1, fitR0, fitRL1, fitRL, gBs, less1S, snanS, hlt, c1, c2, e1, c3, c4, c5, g1, g3, g4, hx, Int.toNat_natCast, Int.reduceLE]
        refine ⟨(i, h), ⟨⟨by simp; omega, by simp; omega, h3, fun k hk1 hk2 => ?_⟩, by simp; omega⟩, by simp⟩
        have := sorted_at hs (i := h) (j := k) (by simpa using hk1) hk2
        omega
    · have hij : i = j := by omega
      subst hij
      have hlow := lowN_eq h2 h3 h4
      rw [hlow]
      by_cases hin : (i : Int) < (l.length : Int)
      · have hin' : i < l.length := by omega
        have g4 : (0 : Int) ≤ (i : Int) := by omega
        by_cases hx : l.getD i 0 = x
        · have hx' : (l.getD i 0 == x) = true := by simpa using hx
          have hm : x ∈ l := by rw [← hx]; exact getD_mem hin'
          simp (config := { maxSteps := 9000000 }) only [↓vyD, vyU, binS, SV.go1, SV.go0, mkRow, intsOf, boolsOf, strsOf, chunks, Row.rep, Row.cat, Row.sub, Row.put, Row.len, Row.get, Row.size, Row.flat, bnds, own0, own1, labsL, labsR, SV.labs, argsOf, entFr, SO.ev, St.of, keepSt, getAll, lookN, hasN, SV.cells, SV.one, SV.res1, SV.res0, SV.resP, SV.ok1, SV.ok0, SV.okN, SV.solid, SV.solid1, SV.solid0, SV.flat0, SV.nm, SV.nm1, SV.nm0, SV.noPtr1, SV.noPtr0, Cel.isFresh, fillP, setAt, partV, eqCells, cellEq, gamY, listsOk, tupOf, takeOwn, SV.ret1, resAll, resL, resV, Nat.reduceEqDiff, ↓reduceIte, Nat.reduceAdd, Nat.reduceMul, Nat.reduceLeDiff, Nat.reduceLT, reduceCtorEq, labOk, Int.reduceBEq, Int.reduceBNe, Int.reduceToNat, Int.reduceLE, Int.reduceLT, Int.reduceEq, Nat.reduceDiv, Nat.reduceMod, Nat.reduceSub, Nat.reduceBEq, fitR, fitR1, fitR0, fitRL1, fitRL, gBs, less1S, snanS, hlt, hin, hin', g4, hx', hm, Int.toNat_natCast]
        · have hx' : (l.getD i 0 == x) = false := by simpa using hx
          have hm : ¬ x ∈ l := fun hm => by
            obtain ⟨k, hk, rfl⟩ := List.getElem_of_mem hm
            have e : l.getD k 0 = l[k] := by simp [List.getD_eq_getElem?_getD, hk]
            by_cases hki : k < i
            · have := h3 k hki; omega
            · have := sorted_at hs (i := i) (j := k) (by omega) hk
              have := h4 i (Nat.le_refl _) hin'
              omega
          simp (config := { maxSteps := 9000000 }) only [↓vyD, vyU, binS, SV.go1, SV.go0, mkRow, intsOf, boolsOf, strsOf, chunks, Row.rep, Row.cat, Row.sub, Row.put, Row.len, Row.get, Row.size, Row.flat, bnds, own0, own1, labsL, labsR, SV.labs, argsOf, entFr, SO.ev, St.of, keepSt, getAll, lookN, hasN, SV.cells, SV.one, SV.res1, SV.res0, SV.resP, SV.ok1, SV.ok0, SV.okN, SV.solid, SV.solid1, SV.solid0, SV.flat0, SV.nm, SV.nm1, SV.nm0, SV.noPtr1, SV.noPtr0, Cel.isFresh, fillP, setAt, partV, eqCells, cellEq, gamY, listsOk, tupOf, takeOwn, SV.ret1, resAll, resL, resV, Nat.reduceEqDiff, ↓reduceIte, Nat.reduceAdd, Nat.reduceMul, Nat.reduceLeDiff, Nat.reduceLT, reduceCtorEq, labOk, Int.reduceBEq, Int.reduceBNe, Int.reduceToNat, Int.reduceLE, Int.reduceLT, Int.reduceEq, Nat.reduceDiv, Nat.reduceMod, Nat.reduceSub, Nat.reduceBEq, fitR, fitR1, fitR0, fitRL1, fitRL, gBs, less1S, snanS, hlt, hin, hin', g4, hx', hm, Int.toNat_natCast]
      · have hm : ¬ x ∈ l := fun hm => by
          obtain ⟨k, hk, rfl⟩ := List.getElem_of_mem hm
          have e : l.getD k 0 = l[k] := by simp [List.getD_eq_getElem?_getD, hk]
          have := h3 k (by omega)
          omega
        simp (config := { maxSteps := 9000000 }) only [↓vyD, vyU, binS, SV.go1, SV.go0, mkRow, intsOf, boolsOf, strsOf, chunks, Row.rep, Row.cat, Row.sub, Row.put, Row.len, Row.get, Row.size, Row.flat, bnds, own0, own1, labsL, labsR, SV.labs, argsOf, entFr, SO.ev, St.of, keepSt, getAll, lookN, hasN, SV.cells, SV.one, SV.res1, SV.res0, SV.resP, SV.ok1, SV.ok0, SV.okN, SV.solid, SV.solid1, SV.solid0, SV.flat0, SV.nm, SV.nm1, SV.nm0, SV.noPtr1, SV.noPtr0, Cel.isFresh, fillP, setAt, partV, eqCells, cellEq, gamY, listsOk, tupOf, takeOwn, SV.ret1, resAll, resL, resV, Nat.reduceEqDiff, ↓reduceIte, Nat.reduceAdd, Nat.reduceMul, Nat.reduceLeDiff, Nat.reduceLT, reduceCtorEq, labOk, Int.reduceBEq, Int.reduceBNe, Int.reduceToNat, Int.reduceLE, Int.reduceLT, Int.reduceEq, Nat.reduceDiv, Nat.reduceMod, Nat.reduceSub, Nat.reduceBEq, fitR, fitR1, fitR0, fitRL1, fitRL, gBs, less1S, snanS, hlt, hin, hm, Int.toNat_natCast]
def csE (l : List Int) : Int := if listE l = 0 then (if l.Pairwise (· ≤ ·) then 0 else 3) else listE l
theorem csE_0 {l : List Int} : csE l = 0 ↔ listE l = 0 ∧ l.Pairwise (· ≤ ·) := by
  unfold csE
  by_cases h : listE l = 0
  · rw [if_pos h]; split <;> simp_all
  · rw [if_neg h]; simp [h]
def gCs : List (Nat × Say) := [(68, listS), (102, issortedS)]
theorem gCs_ok : GamOk Try.prog (gamY gCs) := gam_ok (gam_cons list_ok (gam_cons issorted_ok gam_nil))
def csortS : Say
  | [x_l] => (match asI x_l with | some l => some (True, .int .i64 (csE l), none) | _ => none)
  | _ => none
theorem csort_ok : FOk Try.prog 62 csortS := by
  intro xs p r own h hp
  unfold csortS at h
  split at h
  case h_2 => cases h
  rename_i x_l
  split at h
  case h_2 => cases h
  rename_i l h_l
  simp only [Option.some.injEq, Prod.mk.injEq] at h
  obtain ⟨rfl, rfl, rfl⟩ := h
  refine fun_fit (ys := [.rw (.ints .i64 l)]) ?_ ⟨asI_fit h_l, trivial⟩
  clear h_l
  refine fun_ok gCs_ok lawy_mixed y62_eq none ?_ (Nat.le_of_ble_eq_true rfl)
  by_cases he : listE l = 0
  · obtain ⟨h64, hv⟩ := listE_0.1 he
    have q1 : l.length ≤ 4294967296 := by omega
    by_cases hs : l.Pairwise (· ≤ ·)
    · have hE : csE l = 0 := by rw [csE, if_pos he, if_pos hs]
      have hs' : decide (l.Pairwise (· ≤ ·)) = true := by simpa using hs
      rw [hE]
      simp (config := { maxSteps := 9000000 }) only [↓vyD, vyU, binS, SV.go1, SV.go0, mkRow, intsOf, boolsOf, strsOf, chunks, Row.rep, Row.cat, Row.sub, Row.put, Row.len, Row.get, Row.size, Row.flat, bnds, own0, own1, labsL, labsR, SV.labs, argsOf, entFr, SO.ev, St.of, keepSt, getAll, lookN, hasN, SV.cells, SV.one, SV.res1, SV.res0, SV.resP, SV.ok1, SV.ok0, SV.okN, SV.solid, SV.solid1, SV.solid0, SV.flat0, SV.nm, SV.nm1, SV.nm0, SV.noPtr1, SV.noPtr0, Cel.isFresh, fillP, setAt, partV, eqCells, cellEq, gamY, listsOk, tupOf, takeOwn, SV.ret1, resAll, resL, resV, Nat.reduceEqDiff, ↓reduceIte, Nat.reduceAdd, Nat.reduceMul, Nat.reduceLeDiff, Nat.reduceLT, reduceCtorEq, labOk, Int.reduceBEq, Int.reduceBNe, Int.reduceToNat, Int.reduceLE, Int.reduceLT, Int.reduceEq, Nat.reduceDiv, Nat.reduceMod, Nat.reduceSub, Nat.reduceBEq, fitR, fitR1, fitR0, fitRL1, fitRL, y62, gCs, listS, issortedS, asI, he, q1, hs']
    · have hE : csE l = 3 := by rw [csE, if_pos he, if_neg hs]
      have hs' : decide (l.Pairwise (· ≤ ·)) = false := by simpa using hs
      rw [hE]
      simp (config := { maxSteps := 9000000 }) only [↓vyD, vyU, binS, SV.go1, SV.go0, mkRow, intsOf, boolsOf, strsOf, chunks, Row.rep, Row.cat, Row.sub, Row.put, Row.len, Row.get, Row.size, Row.flat, bnds, own0, own1, labsL, labsR, SV.labs, argsOf, entFr, SO.ev, St.of, keepSt, getAll, lookN, hasN, SV.cells, SV.one, SV.res1, SV.res0, SV.resP, SV.ok1, SV.ok0, SV.okN, SV.solid, SV.solid1, SV.solid0, SV.flat0, SV.nm, SV.nm1, SV.nm0, SV.noPtr1, SV.noPtr0, Cel.isFresh, fillP, setAt, partV, eqCells, cellEq, gamY, listsOk, tupOf, takeOwn, SV.ret1, resAll, resL, resV, Nat.reduceEqDiff, ↓reduceIte, Nat.reduceAdd, Nat.reduceMul, Nat.reduceLeDiff, Nat.reduceLT, reduceCtorEq, labOk, Int.reduceBEq, Int.reduceBNe, Int.reduceToNat, Int.reduceLE, Int.reduceLT, Int.reduceEq, Nat.reduceDiv, Nat.reduceMod, Nat.reduceSub, Nat.reduceBEq, fitR, fitR1, fitR0, fitRL1, fitRL, y62, gCs, listS, issortedS, asI, he, q1, hs']
  · have hE : csE l = listE l := by rw [csE, if_neg he]
    have he' : (listE l != 0) = true := by simpa using he
    rw [hE]
    simp (config := { maxSteps := 9000000 }) only [↓vyD, vyU, binS, SV.go1, SV.go0, mkRow, intsOf, boolsOf, strsOf, chunks, Row.rep, Row.cat, Row.sub, Row.put, Row.len, Row.get, Row.size, Row.flat, bnds, own0, own1, labsL, labsR, SV.labs, argsOf, entFr, SO.ev, St.of, keepSt, getAll, lookN, hasN, SV.cells, SV.one, SV.res1, SV.res0, SV.resP, SV.ok1, SV.ok0, SV.okN, SV.solid, SV.solid1, SV.solid0, SV.flat0, SV.nm, SV.nm1, SV.nm0, SV.noPtr1, SV.noPtr0, Cel.isFresh, fillP, setAt, partV, eqCells, cellEq, gamY, listsOk, tupOf, takeOwn, SV.ret1, resAll, resL, resV, Nat.reduceEqDiff, ↓reduceIte, Nat.reduceAdd, Nat.reduceMul, Nat.reduceLeDiff, Nat.reduceLT, reduceCtorEq, labOk, Int.reduceBEq, Int.reduceBNe, Int.reduceToNat, Int.reduceLE, Int.reduceLT, Int.reduceEq, Nat.reduceDiv, Nat.reduceMod, Nat.reduceSub, Nat.reduceBEq, fitR, fitR1, fitR0, fitRL1, fitRL, y62, gCs, listS, issortedS, asI, he']
def insL (l : List Int) (n : Int) : List Int := l.take (lowN l n) ++ (n :: l.drop (lowN l n))
def cutL (l : List Int) (n : Int) : List Int := l.take (lowN l n) ++ l.drop (lowN l n + 1)
def putE (l : List Int) (n : Int) : Int := if csE l = 0 then (if 0 ≤ n ∧ n ≤ 16777216 then (if l.length = 64 then 2 else 0) else 1) else csE l
def cutE (l : List Int) (n : Int) : Int := if csE l = 0 then (if n ∈ l then 0 else 4) else csE l
def gPu : List (Nat × Say) := [(62, csortS), (63, rcvS), (64, bsearchS), (65, concatS)]
theorem gPu_ok : GamOk Try.prog (gamY gPu) := gam_ok (gam_cons csort_ok (gam_cons rcv_ok (gam_cons bsearch_ok (gam_cons concat_ok gam_nil))))
def rputS : Say
  | [x_l, .int .i64 n] => (match asI x_l with | some l => some (True, .tup [.rw (.ints .i64 (if putE l n = 0 then insL l n else [])), .int .i64 (putE l n)], none) | _ => none)
  | _ => none
theorem rput_ok : FOk Try.prog 16 rputS := by
  intro xs p r own h hp
  unfold rputS at h
  split at h
  case h_2 => cases h
  rename_i x_l n
  split at h
  case h_2 => cases h
  rename_i l h_l
  simp only [Option.some.injEq, Prod.mk.injEq] at h
  obtain ⟨rfl, rfl, rfl⟩ := h
  refine fun_fit (ys := [.rw (.ints .i64 l), .int .i64 n]) ?_ ⟨asI_fit h_l, fit_refl1 _ (by simp), trivial⟩
  clear h_l
  refine fun_ok gPu_ok lawy_mixed y16_eq none ?_ (Nat.le_of_ble_eq_true rfl)
  by_cases he : csE l = 0
  · obtain ⟨hl, hs⟩ := csE_0.1 he
    obtain ⟨h64, hv⟩ := listE_0.1 hl
    by_cases hn : 0 ≤ n ∧ n ≤ 16777216
    · have h1 : listE [n] = 0 := by rw [listE_1, if_pos hn]
      by_cases hf : l.length = 64
      · have hE : putE l n = 2 := by rw [putE, if_pos he, if_pos hn, if_pos hf]
        have hf' : ((l.length : Int) == 64) = true := by simp [hf]
        rw [hE, if_neg (by omega)]
        simp (config := { maxSteps := 9000000 }) only [↓vyD, vyU, binS, SV.go1, SV.go0, mkRow, intsOf, boolsOf, strsOf, chunks, Row.rep, Row.cat, Row.sub, Row.put, Row.len, Row.get, Row.size, Row.flat, bnds, own0, own1, labsL, labsR, SV.labs, argsOf, entFr, SO.ev, St.of, keepSt, getAll, lookN, hasN, SV.cells, SV.one, SV.res1, SV.res0, SV.resP, SV.ok1, SV.ok0, SV.okN, SV.solid, SV.solid1, SV.solid0, SV.flat0, SV.nm, SV.nm1, SV.nm0, SV.noPtr1, SV.noPtr0, Cel.isFresh, fillP, setAt, partV, eqCells, cellEq, gamY, listsOk, tupOf, takeOwn, SV.ret1, resAll, resL, resV, Nat.reduceEqDiff, ↓reduceIte, Nat.reduceAdd, Nat.reduceMul, Nat.reduceLeDiff, Nat.reduceLT, reduceCtorEq, labOk, Int.reduceBEq, Int.reduceBNe, Int.reduceToNat, Int.reduceLE, Int.reduceLT, Int.reduceEq, Nat.reduceDiv, Nat.reduceMod, Nat.reduceSub, Nat.reduceBEq, fitR, fitR1, fitR0, fitRL1, fitRL, y16, gPu, csortS, rcvS, bsearchS, concatS, asI, he, h1, hf']
      · have hE : putE l n = 0 := by rw [putE, if_pos he, if_pos hn, if_neg hf]
        have hf' : ((l.length : Int) == 64) = false := by simp; omega
        have hlo := lowN_le l n
        have q0 : l.length ≤ 4294967296 := by omega
        have q1 : (0 : Int) ≤ (lowN l n : Int) := by omega
        have q2 : (lowN l n : Int) ≤ (l.length : Int) := by omega
        have e1 : List.take (lowN l n) l ++ ([n] ++ List.drop (lowN l n) (List.take l.length l)) = insL l n := by rw [List.take_length]; rfl
        have q3 : (insL l n).length ≤ 4294967296 := by simp [insL]; omega
        rw [hE, if_pos rfl]
        simp (config := { maxSteps := 9000000 }) only [↓vyD, vyU, binS, SV.go1, SV.go0, mkRow, intsOf, boolsOf, strsOf, chunks, Row.rep, Row.cat, Row.sub, Row.put, Row.len, Row.get, Row.size, Row.flat, bnds, own0, own1, labsL, labsR, SV.labs, argsOf, entFr, SO.ev, St.of, keepSt, getAll, lookN, hasN, SV.cells, SV.one, SV.res1, SV.res0, SV.resP, SV.ok1, SV.ok0, SV.okN, SV.solid, SV.solid1, SV.solid0, SV.flat0, SV.nm, SV.nm1, SV.nm0, SV.noPtr1, SV.noPtr0, Cel.isFresh, fillP, setAt, partV, eqCells, cellEq, gamY, listsOk, tupOf, takeOwn, SV.ret1, resAll, resL, resV, Nat.reduceEqDiff, ↓reduceIte, Nat.reduceAdd, Nat.reduceMul, Nat.reduceLeDiff, Nat.reduceLT, reduceCtorEq, labOk, Int.reduceBEq, Int.reduceBNe, Int.reduceToNat, Int.reduceLE, Int.reduceLT, Int.reduceEq, Nat.reduceDiv, Nat.reduceMod, Nat.reduceSub, Nat.reduceBEq, fitR, fitR1, fitR0, fitRL1, fitRL, y16, gPu, csortS, rcvS, bsearchS, concatS, asI, asLL, he, h1, hf', hs, q0, q1, q2, Int.toNat_natCast, Int.le_refl, List.mapM_cons, List.mapM_nil, Option.bind_eq_bind, Option.bind_some, Option.pure_def, List.flatten_cons, List.flatten_nil, List.append_nil, labsLL, List.take_length, List.drop_zero, List.contains_nil]
        exact ⟨by simp; omega, rfl⟩
    · have h1 : listE [n] = 1 := by rw [listE_1, if_neg hn]
      have hE : putE l n = 1 := by rw [putE, if_pos he, if_neg hn]
      rw [hE, if_neg (by omega)]
      simp (config := { maxSteps := 9000000 }) only [↓vyD, vyU, binS, SV.go1, SV.go0, mkRow, intsOf, boolsOf, strsOf, chunks, Row.rep, Row.cat, Row.sub, Row.put, Row.len, Row.get, Row.size, Row.flat, bnds, own0, own1, labsL, labsR, SV.labs, argsOf, entFr, SO.ev, St.of, keepSt, getAll, lookN, hasN, SV.cells, SV.one, SV.res1, SV.res0, SV.resP, SV.ok1, SV.ok0, SV.okN, SV.solid, SV.solid1, SV.solid0, SV.flat0, SV.nm, SV.nm1, SV.nm0, SV.noPtr1, SV.noPtr0, Cel.isFresh, fillP, setAt, partV, eqCells, cellEq, gamY, listsOk, tupOf, takeOwn, SV.ret1, resAll, resL, resV, Nat.reduceEqDiff, ↓reduceIte, Nat.reduceAdd, Nat.reduceMul, Nat.reduceLeDiff, Nat.reduceLT, reduceCtorEq, labOk, Int.reduceBEq, Int.reduceBNe, Int.reduceToNat, Int.reduceLE, Int.reduceLT, Int.reduceEq, Nat.reduceDiv, Nat.reduceMod, Nat.reduceSub, Nat.reduceBEq, fitR, fitR1, fitR0, fitRL1, fitRL, y16, gPu, csortS, rcvS, bsearchS, concatS, asI, he, h1]
  · have hE : putE l n = csE l := by rw [putE, if_neg he]
    have he' : (csE l != 0) = true := by simpa using he
    rw [hE, if_neg he]
    simp (config := { maxSteps := 9000000 }) only [↓vyD, vyU, binS, SV.go1, SV.go0, mkRow, intsOf, boolsOf, strsOf, chunks, Row.rep, Row.cat, Row.sub, Row.put, Row.len, Row.get, Row.size, Row.flat, bnds, own0, own1, labsL, labsR, SV.labs, argsOf, entFr, SO.ev, St.of, keepSt, getAll, lookN, hasN, SV.cells, SV.one, SV.res1, SV.res0, SV.resP, SV.ok1, SV.ok0, SV.okN, SV.solid, SV.solid1, SV.solid0, SV.flat0, SV.nm, SV.nm1, SV.nm0, SV.noPtr1, SV.noPtr0, Cel.isFresh, fillP, setAt, partV, eqCells, cellEq, gamY, listsOk, tupOf, takeOwn, SV.ret1, resAll, resL, resV, Nat.reduceEqDiff, ↓reduceIte, Nat.reduceAdd, Nat.reduceMul, Nat.reduceLeDiff, Nat.reduceLT, reduceCtorEq, labOk, Int.reduceBEq, Int.reduceBNe, Int.reduceToNat, Int.reduceLE, Int.reduceLT, Int.reduceEq, Nat.reduceDiv, Nat.reduceMod, Nat.reduceSub, Nat.reduceBEq, fitR, fitR1, fitR0, fitRL1, fitRL, y16, gPu, csortS, rcvS, bsearchS, concatS, asI, he']
def rcutS : Say
  | [x_l, .int .i64 n] => (match asI x_l with | some l => some (True, .tup [.rw (.ints .i64 (if cutE l n = 0 then cutL l n else [])), .int .i64 (cutE l n)], none) | _ => none)
  | _ => none
theorem rcut_ok : FOk Try.prog 17 rcutS := by
  intro xs p r own h hp
  unfold rcutS at h
  split at h
  case h_2 => cases h
  rename_i x_l n
  split at h
  case h_2 => cases h
  rename_i l h_l
  simp only [Option.some.injEq, Prod.mk.injEq] at h
  obtain ⟨rfl, rfl, rfl⟩ := h
  refine fun_fit (ys := [.rw (.ints .i64 l), .int .i64 n]) ?_ ⟨asI_fit h_l, fit_refl1 _ (by simp), trivial⟩
  clear h_l
  refine fun_ok gPu_ok lawy_mixed y17_eq none ?_ (Nat.le_of_ble_eq_true rfl)
  by_cases he : csE l = 0
  · obtain ⟨hl, hs⟩ := csE_0.1 he
    obtain ⟨h64, hv⟩ := listE_0.1 hl
    have q0 : l.length ≤ 4294967296 := by omega
    by_cases hn : n ∈ l
    · have hE : cutE l n = 0 := by rw [cutE, if_pos he, if_pos hn]
      have hlt := lowN_lt hn
      have q1 : (0 : Int) ≤ (lowN l n : Int) := by omega
      have q2 : (lowN l n : Int) ≤ (l.length : Int) := by omega
      have q3 : (lowN l n : Int) + 1 ≤ (l.length : Int) := by omega
      have q4 : (0 : Int) ≤ (lowN l n : Int) + 1 := by omega
      have q5 : ((lowN l n : Int) + 1).toNat = lowN l n + 1 := by omega
      have w1 := i64_wrap (show I64 ((lowN l n : Int) + 1) by unfold I64; omega)
      have e1 : List.take (lowN l n) l ++ List.drop (lowN l n + 1) l = cutL l n := rfl
      have q6 : (cutL l n).length ≤ 4294967296 := by simp [cutL]; omega
      rw [hE, if_pos rfl]
      simp (config := { maxSteps := 9000000 }) only [↓vyD, vyU, binS, SV.go1, SV.go0, mkRow, intsOf, boolsOf, strsOf, chunks, Row.rep, Row.cat, Row.sub, Row.put, Row.len, Row.get, Row.size, Row.flat, bnds, own0, own1, labsL, labsR, SV.labs, argsOf, entFr, SO.ev, St.of, keepSt, getAll, lookN, hasN, SV.cells, SV.one, SV.res1, SV.res0, SV.resP, SV.ok1, SV.ok0, SV.okN, SV.solid, SV.solid1, SV.solid0, SV.flat0, SV.nm, SV.nm1, SV.nm0, SV.noPtr1, SV.noPtr0, Cel.isFresh, fillP, setAt, partV, eqCells, cellEq, gamY, listsOk, tupOf, takeOwn, SV.ret1, resAll, resL, resV, Nat.reduceEqDiff, ↓reduceIte, Nat.reduceAdd, Nat.reduceMul, Nat.reduceLeDiff, Nat.reduceLT, reduceCtorEq, labOk, Int.reduceBEq, Int.reduceBNe, Int.reduceToNat, Int.reduceLE, Int.reduceLT, Int.reduceEq, Nat.reduceDiv, Nat.reduceMod, Nat.reduceSub, Nat.reduceBEq, fitR, fitR1, fitR0, fitRL1, fitRL, y17, gPu, csortS, rcvS, bsearchS, concatS, asI, asLL, he, hs, q0, hn, q1, q2, q3, q4, q5, w1, Int.toNat_natCast, Int.le_refl, List.mapM_cons, List.mapM_nil, Option.bind_eq_bind, Option.bind_some, Option.pure_def, List.flatten_cons, List.flatten_nil, List.append_nil, labsLL, List.take_length, List.drop_zero, List.contains_nil, e1]
      exact q6
    · have hE : cutE l n = 4 := by rw [cutE, if_pos he, if_neg hn]
      rw [hE, if_neg (by omega)]
      simp (config := { maxSteps := 9000000 }) only [↓vyD, vyU, binS, SV.go1, SV.go0, mkRow, intsOf, boolsOf, strsOf, chunks, Row.rep, Row.cat, Row.sub, Row.put, Row.len, Row.get, Row.size, Row.flat, bnds, own0, own1, labsL, labsR, SV.labs, argsOf, entFr, SO.ev, St.of, keepSt, getAll, lookN, hasN, SV.cells, SV.one, SV.res1, SV.res0, SV.resP, SV.ok1, SV.ok0, SV.okN, SV.solid, SV.solid1, SV.solid0, SV.flat0, SV.nm, SV.nm1, SV.nm0, SV.noPtr1, SV.noPtr0, Cel.isFresh, fillP, setAt, partV, eqCells, cellEq, gamY, listsOk, tupOf, takeOwn, SV.ret1, resAll, resL, resV, Nat.reduceEqDiff, ↓reduceIte, Nat.reduceAdd, Nat.reduceMul, Nat.reduceLeDiff, Nat.reduceLT, reduceCtorEq, labOk, Int.reduceBEq, Int.reduceBNe, Int.reduceToNat, Int.reduceLE, Int.reduceLT, Int.reduceEq, Nat.reduceDiv, Nat.reduceMod, Nat.reduceSub, Nat.reduceBEq, fitR, fitR1, fitR0, fitRL1, fitRL, y17, gPu, csortS, rcvS, bsearchS, concatS, asI, he, hs, q0, hn]
  · have hE : cutE l n = csE l := by rw [cutE, if_neg he]
    have he' : (csE l != 0) = true := by simpa using he
    rw [hE, if_neg he]
    simp (config := { maxSteps := 9000000 }) only [↓vyD, vyU, binS, SV.go1, SV.go0, mkRow, intsOf, boolsOf, strsOf, chunks, Row.rep, Row.cat, Row.sub, Row.put, Row.len, Row.get, Row.size, Row.flat, bnds, own0, own1, labsL, labsR, SV.labs, argsOf, entFr, SO.ev, St.of, keepSt, getAll, lookN, hasN, SV.cells, SV.one, SV.res1, SV.res0, SV.resP, SV.ok1, SV.ok0, SV.okN, SV.solid, SV.solid1, SV.solid0, SV.flat0, SV.nm, SV.nm1, SV.nm0, SV.noPtr1, SV.noPtr0, Cel.isFresh, fillP, setAt, partV, eqCells, cellEq, gamY, listsOk, tupOf, takeOwn, SV.ret1, resAll, resL, resV, Nat.reduceEqDiff, ↓reduceIte, Nat.reduceAdd, Nat.reduceMul, Nat.reduceLeDiff, Nat.reduceLT, reduceCtorEq, labOk, Int.reduceBEq, Int.reduceBNe, Int.reduceToNat, Int.reduceLE, Int.reduceLT, Int.reduceEq, Nat.reduceDiv, Nat.reduceMod, Nat.reduceSub, Nat.reduceBEq, fitR, fitR1, fitR0, fitRL1, fitRL, y17, gPu, csortS, rcvS, bsearchS, concatS, asI, he']
end Go.Proofs.Ytnaloeoiobcifaa
