/- slices.Grow of the nil slice, slices.Concat, slices.Clone, for lists of peers. -/
import Derived.Test.YtgklfolmlcfjgaaYS5
import Derived.Test.YtgklfolmlcfjgaaYMp
import Derived.Test.YtgklfolmlcfjgaaYShGrowP
import Derived.Test.YtgklfolmlcfjgaaCPr
namespace Go.Proofs.Ytgklfolmlcfjgaa
open Go.ChangeShapes Go.WideShapes Go.ChangeAt Go.RowKit Go.Joins Y
set_option linter.unusedSimpArgs false
set_option linter.unusedVariables false
set_option maxRecDepth 100000
set_option maxHeartbeats 40000000
def growpS : Say
  | [.nil, .int .i64 n] => some (0 ≤ n ∧ n ≤ 4294967296, .sl 0 0, some (34, .recs 7 []))
  | _ => none
theorem growp_ok : FOk Try.prog 83 growpS := by
  intro xs p r own h hp
  unfold growpS at h
  split at h
  case h_2 => cases h
  rename_i n
  simp only [Option.some.injEq, Prod.mk.injEq] at h
  obtain ⟨rfl, rfl, rfl⟩ := h
  refine .of (by decide) ⟨⟨_, Try.func83, of_decide_eq_true (by kernel_rfl), by kernel_rfl⟩, fun A w vs hlow hvs => ?_⟩
  obtain ⟨v, us, rfl, hv, hn⟩ := hvs.cons_inv
  obtain ⟨v2, us2, rfl, hv2, hn2⟩ := hn.cons_inv
  obtain rfl := hn2.nil_inv
  obtain rfl := hv.nil_inv
  obtain rfl := hv2.int_inv
  obtain ⟨h1, h2⟩ := hp
  obtain ⟨k, rfl⟩ := Int.eq_ofNat_of_zero_le h1
  by_cases h0 : k = 0
  · subst h0
    refine (Try.slices_GrowP_0 w).mono fun e w2 ⟨he, hw⟩ => ?_
    subst hw
    have hB : Below w2.heap.size w2 w2 := Below.refl w2.heap.size w2
    refine ⟨hB, .slice none 0 0, he, some (.slice none 0 0), ⟨.slice none 0 0, [], rfl, (fun c hc => by cases hc), by decide, ⟨rfl, .inl ⟨rfl, rfl⟩⟩, ?_⟩, rfl⟩
    exact All.nil
  · have hq : (Try.prog.info? (Try.growP_ren.t 25)).isSome = true := by kernel_rfl
    obtain ⟨i0, hi0⟩ := Option.isSome_iff_exists.1 hq
    obtain ⟨z, hz0⟩ : ∃ z, i0.zero = some z := by
      have e : ((Try.prog.info? (Try.growP_ren.t 25)).bind (·.zero)).isSome = true := by kernel_rfl
      rw [hi0] at e
      exact Option.isSome_iff_exists.1 e
    have hs : i0.size = 7 := by
      have e : (Try.prog.info? (Try.growP_ren.t 25)).map (·.size) = some 7 := by kernel_rfl
      rw [hi0] at e
      simpa using e
    have hb : i0.bytes = 80 := by
      have e : (Try.prog.info? (Try.growP_ren.t 25)).map (·.bytes) = some 80 := by kernel_rfl
      rw [hi0] at e
      simpa using e
    have hzc : z.cells.size = 7 := by
      have e : ((Try.prog.info? (Try.growP_ren.t 25)).bind (·.zero)).map (fun z => z.cells.size) = some 7 := by kernel_rfl
      rw [hi0] at e
      simpa [hz0] using e
    refine (Try.slices_GrowP_n i0 z hi0 hz0 (by omega) k w (by omega) (by rw [hb]; omega) (by omega)).mono fun e w' ⟨he, hw⟩ => ?_
    have g1 := grownCap_ge w (0 + k) 0 (Try.growP_ren.t 25)
    have g2 := grownCap_le_maxLen w (0 + k) 0 (Try.growP_ren.t 25) (by unfold maxLen; omega)
    generalize grownCap w (0 + k) 0 (Try.growP_ren.t 25) = G at *
    have ht : Try.growP_ren.t 25 = 34 := by kernel_rfl
    have hz : ∀ n, (Builtin.zeroCells z.cells n).size = n * 7 := fun n => by simp [Builtin.zeroCells, hzc]
    have hcs : (([] : List Value).toArray ++ Builtin.zeroCells z.cells (0 + k - 0) ++ Builtin.zeroCells z.cells (G - (0 + k))).size = G * 7 := by
      simp only [Array.size_append, hz]; simp; omega
    generalize ([] : List Value).toArray ++ Builtin.zeroCells z.cells (0 + k - 0) ++ Builtin.zeroCells z.cells (G - (0 + k)) = cur at *
    subst hw
    have hB : Below w.heap.size w (w.drew.alloc (.cells cur (Try.growP_ren.t 25))) := ((Below.refl w.heap.size w).drew).alloc (Nat.le_refl _) _
    refine ⟨hB, _, he, some (.slice (some ⟨w.heap.size, 0, none⟩) 0 G), ⟨_, [], rfl, (fun c hc => by cases hc), by decide, ⟨rfl, .inr ⟨w.heap.size, G, cur, rfl, Nat.le_refl _, ?_, Nat.zero_le _, g2, ?_, ?_⟩⟩, ?_⟩, rfl⟩
    · rw [← ht]; show (w.heap.push (Obj.cells cur _))[w.heap.size]? = _; simp
    · simp [hcs, Row.size]
    · simp [Row.len]
    · exact All.nil
/-- Lists of lists of peers. -/
def mapQ (l : List (List Pr)) : List (List SV) := l.map fun r => [.rw (.recs 7 (mapP r))]
theorem mapQ_len (l : List (List Pr)) : (mapQ l).length = l.length := by simp [mapQ]
theorem mapQ_get {l : List (List Pr)} {i : Nat} (h : i < l.length) : (mapQ l).getD i [] = [.rw (.recs 7 (mapP (l.getD i [])))] := by
  simp only [mapQ, List.getD_eq_getElem?_getD, List.getElem?_map, List.getElem?_eq_getElem h, Option.map_some, Option.getD_some]
theorem mapQ_labs (l : List (List Pr)) : labsLL (mapQ l) = [] := by
  induction l with
  | nil => rfl
  | cons r l ih => rw [mapQ] at *; simp [List.map_cons, labsLL, labsL, SV.labs, labsR, ih, mapP_labs]
/-- The first i of some lists, one behind the other. -/
def catP (L : List (List Pr)) (i : Nat) : List Pr := (L.take i).flatten
theorem catP_succ {L : List (List Pr)} {i : Nat} (h : i < L.length) : catP L (i + 1) = catP L i ++ L.getD i [] := by
  unfold catP
  rw [List.take_add_one, List.getElem?_eq_getElem h, List.getD_eq_getElem?_getD, List.getElem?_eq_getElem h, List.flatten_append]
  simp
theorem catP_le (L : List (List Pr)) : ∀ i j, i ≤ j → j ≤ L.length → (catP L i).length ≤ (catP L j).length := fun i j h1 h2 => by
  induction j with
  | zero => obtain rfl : i = 0 := by omega
            exact Nat.le_refl _
  | succ j ih =>
    by_cases h : i = j + 1
    · subst h; exact Nat.le_refl _
    · have := ih (by omega) (by omega)
      rw [catP_succ (by omega), List.length_append]
      omega
def gCp : List (Nat × Say) := [(83, growpS)]
theorem gCp_ok : GamOk Try.prog (gamY gCp) := gam_ok (gam_cons growp_ok gam_nil)
theorem pcat_in (L : List (List Pr)) (hp : (catP L L.length).length ≤ 1000) (hL : L.length ≤ 1000) : vcFun (gamY gCp) y46 [.rw (.recs 1 (mapQ L))] (some 0) fun v o => fitR v (.sl 0 0) ∧ o = some (34, .recs 7 (mapP (catP L L.length))) := by
  have mL := mapQ_len L
  have mB := mapQ_labs L
  have pL := mapP_len
  have pB := mapP_labs
  simp (config := { maxSteps := 9000000 }) only [↓vyD, vyU, binS, SV.go1, SV.go0, mkRow, intsOf, boolsOf, strsOf, chunks, Row.rep, Row.cat, Row.sub, Row.put, Row.len, Row.get, Row.size, Row.flat, bnds, own0, own1, labsL, labsR, SV.labs, argsOf, entFr, SO.ev, St.of, keepSt, getAll, lookN, hasN, SV.cells, SV.one, SV.res1, SV.res0, SV.resP, SV.ok1, SV.ok0, SV.okN, SV.solid, SV.solid1, SV.solid0, SV.flat0, SV.nm, SV.nm1, SV.nm0, SV.noPtr1, SV.noPtr0, Cel.isFresh, fillP, setAt, partV, eqCells, cellEq, gamY, listsOk, tupOf, takeOwn, SV.ret1, resAll, resL, resV, Nat.reduceEqDiff, ↓reduceIte, Nat.reduceAdd, Nat.reduceMul, Nat.reduceLeDiff, Nat.reduceLT, reduceCtorEq, labOk, Int.reduceBEq, Int.reduceBNe, Int.reduceToNat, Int.reduceLE, Int.reduceLT, Int.reduceEq, Nat.reduceDiv, Nat.reduceMod, Nat.reduceSub, Nat.reduceBEq, fitR, fitR1, fitR0, fitRL1, fitRL, y46, gCp, growpS, mL, mB]
  refine loopG_intro (ι := Nat) (fun i => [(0, .rw (.recs 1 (mapQ L))), (3, .int .i64 (catP L i).length), (9, .rw (.recs 1 (mapQ L))), (10, .int .i64 L.length), (11, .int .i64 i)]) (fun _ => []) (fun i => i ≤ L.length) (fun i => L.length - i) ⟨0, by omega, ?_, ?_, ?_⟩ fun i hi => ?_
  · simp (config := { maxSteps := 9000000 }) only [↓vyD, vyU, binS, SV.go1, SV.go0, mkRow, intsOf, boolsOf, strsOf, chunks, Row.rep, Row.cat, Row.sub, Row.put, Row.len, Row.get, Row.size, Row.flat, bnds, own0, own1, labsL, labsR, SV.labs, argsOf, entFr, SO.ev, St.of, keepSt, getAll, lookN, hasN, SV.cells, SV.one, SV.res1, SV.res0, SV.resP, SV.ok1, SV.ok0, SV.okN, SV.solid, SV.solid1, SV.solid0, SV.flat0, SV.nm, SV.nm1, SV.nm0, SV.noPtr1, SV.noPtr0, Cel.isFresh, fillP, setAt, partV, eqCells, cellEq, gamY, listsOk, tupOf, takeOwn, SV.ret1, resAll, resL, resV, Nat.reduceEqDiff, ↓reduceIte, Nat.reduceAdd, Nat.reduceMul, Nat.reduceLeDiff, Nat.reduceLT, reduceCtorEq, labOk, Int.reduceBEq, Int.reduceBNe, Int.reduceToNat, Int.reduceLE, Int.reduceLT, Int.reduceEq, Nat.reduceDiv, Nat.reduceMod, Nat.reduceSub, Nat.reduceBEq, fitR, fitR1, fitR0, fitRL1, fitRL, mB]
  · simp (config := { maxSteps := 9000000 }) only [↓vyD, vyU, binS, SV.go1, SV.go0, mkRow, intsOf, boolsOf, strsOf, chunks, Row.rep, Row.cat, Row.sub, Row.put, Row.len, Row.get, Row.size, Row.flat, bnds, own0, own1, labsL, labsR, SV.labs, argsOf, entFr, SO.ev, St.of, keepSt, getAll, lookN, hasN, SV.cells, SV.one, SV.res1, SV.res0, SV.resP, SV.ok1, SV.ok0, SV.okN, SV.solid, SV.solid1, SV.solid0, SV.flat0, SV.nm, SV.nm1, SV.nm0, SV.noPtr1, SV.noPtr0, Cel.isFresh, fillP, setAt, partV, eqCells, cellEq, gamY, listsOk, tupOf, takeOwn, SV.ret1, resAll, resL, resV, Nat.reduceEqDiff, ↓reduceIte, Nat.reduceAdd, Nat.reduceMul, Nat.reduceLeDiff, Nat.reduceLT, reduceCtorEq, labOk, Int.reduceBEq, Int.reduceBNe, Int.reduceToNat, Int.reduceLE, Int.reduceLT, Int.reduceEq, Nat.reduceDiv, Nat.reduceMod, Nat.reduceSub, Nat.reduceBEq, fitR, fitR1, fitR0, fitRL1, fitRL, mL, mB, catP, List.take_zero, List.flatten_nil, List.length_nil, Int.natCast_zero, Int.ofNat_zero]
  · simp (config := { maxSteps := 9000000 }) only [↓vyD, vyU, binS, SV.go1, SV.go0, mkRow, intsOf, boolsOf, strsOf, chunks, Row.rep, Row.cat, Row.sub, Row.put, Row.len, Row.get, Row.size, Row.flat, bnds, own0, own1, labsL, labsR, SV.labs, argsOf, entFr, SO.ev, St.of, keepSt, getAll, lookN, hasN, SV.cells, SV.one, SV.res1, SV.res0, SV.resP, SV.ok1, SV.ok0, SV.okN, SV.solid, SV.solid1, SV.solid0, SV.flat0, SV.nm, SV.nm1, SV.nm0, SV.noPtr1, SV.noPtr0, Cel.isFresh, fillP, setAt, partV, eqCells, cellEq, gamY, listsOk, tupOf, takeOwn, SV.ret1, resAll, resL, resV, Nat.reduceEqDiff, ↓reduceIte, Nat.reduceAdd, Nat.reduceMul, Nat.reduceLeDiff, Nat.reduceLT, reduceCtorEq, labOk, Int.reduceBEq, Int.reduceBNe, Int.reduceToNat, Int.reduceLE, Int.reduceLT, Int.reduceEq, Nat.reduceDiv, Nat.reduceMod, Nat.reduceSub, Nat.reduceBEq, fitR, fitR1, fitR0, fitRL1, fitRL, mB]
  have hle := catP_le L i L.length hi (Nat.le_refl _)
  by_cases hlt : (i : Int) < (L.length : Int)
  · have hlt' : i < L.length := by omega
    have c0 : (0 : Int) ≤ (i : Int) := by omega
    have b1 := i64_wrap (show I64 ((i : Int) + 1) by unfold I64; omega)
    have mG := mapQ_get hlt'
    have hs := catP_succ hlt'
    have hle2 := catP_le L (i + 1) L.length (by omega) (Nat.le_refl _)
    have hs2 : (catP L (i + 1)).length = (catP L i).length + (L.getD i []).length := by rw [hs, List.length_append]
    have w1 := i64_wrap (show I64 (((catP L i).length : Int) + ((L.getD i []).length : Int)) by unfold I64; omega)
    have n1 : ¬ (((catP L i).length : Int) + ((L.getD i []).length : Int) < 0) := by omega
    simp (config := { maxSteps := 9000000 }) only [↓vyD, vyU, binS, SV.go1, SV.go0, mkRow, intsOf, boolsOf, strsOf, chunks, Row.rep, Row.cat, Row.sub, Row.put, Row.len, Row.get, Row.size, Row.flat, bnds, own0, own1, labsL, labsR, SV.labs, argsOf, entFr, SO.ev, St.of, keepSt, getAll, lookN, hasN, SV.cells, SV.one, SV.res1, SV.res0, SV.resP, SV.ok1, SV.ok0, SV.okN, SV.solid, SV.solid1, SV.solid0, SV.flat0, SV.nm, SV.nm1, SV.nm0, SV.noPtr1, SV.noPtr0, Cel.isFresh, fillP, setAt, partV, eqCells, cellEq, gamY, listsOk, tupOf, takeOwn, SV.ret1, resAll, resL, resV, Nat.reduceEqDiff, ↓reduceIte, Nat.reduceAdd, Nat.reduceMul, Nat.reduceLeDiff, Nat.reduceLT, reduceCtorEq, labOk, Int.reduceBEq, Int.reduceBNe, Int.reduceToNat, Int.reduceLE, Int.reduceLT, Int.reduceEq, Nat.reduceDiv, Nat.reduceMod, Nat.reduceSub, Nat.reduceBEq, fitR, fitR1, fitR0, fitRL1, fitRL, gCp, growpS, hlt, hlt', Int.toNat_natCast, c0, b1, mL, mB, mG, pL, pB, w1, n1]
    exact ⟨i + 1, ⟨by omega, by omega⟩, by omega, by simp⟩
  · have hiL : i = L.length := by omega
    subst hiL
    have c1 : (0 : Int) ≤ ((catP L L.length).length : Int) := by omega
    have c2 : ((catP L L.length).length : Int) ≤ 4294967296 := by omega
    simp (config := { maxSteps := 9000000 }) only [↓vyD, vyU, binS, SV.go1, SV.go0, mkRow, intsOf, boolsOf, strsOf, chunks, Row.rep, Row.cat, Row.sub, Row.put, Row.len, Row.get, Row.size, Row.flat, bnds, own0, own1, labsL, labsR, SV.labs, argsOf, entFr, SO.ev, St.of, keepSt, getAll, lookN, hasN, SV.cells, SV.one, SV.res1, SV.res0, SV.resP, SV.ok1, SV.ok0, SV.okN, SV.solid, SV.solid1, SV.solid0, SV.flat0, SV.nm, SV.nm1, SV.nm0, SV.noPtr1, SV.noPtr0, Cel.isFresh, fillP, setAt, partV, eqCells, cellEq, gamY, listsOk, tupOf, takeOwn, SV.ret1, resAll, resL, resV, Nat.reduceEqDiff, ↓reduceIte, Nat.reduceAdd, Nat.reduceMul, Nat.reduceLeDiff, Nat.reduceLT, reduceCtorEq, labOk, Int.reduceBEq, Int.reduceBNe, Int.reduceToNat, Int.reduceLE, Int.reduceLT, Int.reduceEq, Nat.reduceDiv, Nat.reduceMod, Nat.reduceSub, Nat.reduceBEq, fitR, fitR1, fitR0, fitRL1, fitRL, gCp, growpS, hlt, mL, mB, c1, c2]
    refine loopG_intro (ι := Nat) (fun i => [(6, .sl 9001 i), (25, .rw (.recs 1 (mapQ L))), (26, .int .i64 L.length), (27, .int .i64 i)]) (fun i => [(9001, .row i 34 (.recs 7 (mapP (catP L i))))]) (fun i => i ≤ L.length) (fun i => L.length - i) ⟨0, by omega, ?_, ?_, ?_⟩ fun i hi => ?_
    · simp (config := { maxSteps := 9000000 }) only [↓vyD, vyU, binS, SV.go1, SV.go0, mkRow, intsOf, boolsOf, strsOf, chunks, Row.rep, Row.cat, Row.sub, Row.put, Row.len, Row.get, Row.size, Row.flat, bnds, own0, own1, labsL, labsR, SV.labs, argsOf, entFr, SO.ev, St.of, keepSt, getAll, lookN, hasN, SV.cells, SV.one, SV.res1, SV.res0, SV.resP, SV.ok1, SV.ok0, SV.okN, SV.solid, SV.solid1, SV.solid0, SV.flat0, SV.nm, SV.nm1, SV.nm0, SV.noPtr1, SV.noPtr0, Cel.isFresh, fillP, setAt, partV, eqCells, cellEq, gamY, listsOk, tupOf, takeOwn, SV.ret1, resAll, resL, resV, Nat.reduceEqDiff, ↓reduceIte, Nat.reduceAdd, Nat.reduceMul, Nat.reduceLeDiff, Nat.reduceLT, reduceCtorEq, labOk, Int.reduceBEq, Int.reduceBNe, Int.reduceToNat, Int.reduceLE, Int.reduceLT, Int.reduceEq, Nat.reduceDiv, Nat.reduceMod, Nat.reduceSub, Nat.reduceBEq, fitR, fitR1, fitR0, fitRL1, fitRL, mB, pB]
    · simp (config := { maxSteps := 9000000 }) only [↓vyD, vyU, binS, SV.go1, SV.go0, mkRow, intsOf, boolsOf, strsOf, chunks, Row.rep, Row.cat, Row.sub, Row.put, Row.len, Row.get, Row.size, Row.flat, bnds, own0, own1, labsL, labsR, SV.labs, argsOf, entFr, SO.ev, St.of, keepSt, getAll, lookN, hasN, SV.cells, SV.one, SV.res1, SV.res0, SV.resP, SV.ok1, SV.ok0, SV.okN, SV.solid, SV.solid1, SV.solid0, SV.flat0, SV.nm, SV.nm1, SV.nm0, SV.noPtr1, SV.noPtr0, Cel.isFresh, fillP, setAt, partV, eqCells, cellEq, gamY, listsOk, tupOf, takeOwn, SV.ret1, resAll, resL, resV, Nat.reduceEqDiff, ↓reduceIte, Nat.reduceAdd, Nat.reduceMul, Nat.reduceLeDiff, Nat.reduceLT, reduceCtorEq, labOk, Int.reduceBEq, Int.reduceBNe, Int.reduceToNat, Int.reduceLE, Int.reduceLT, Int.reduceEq, Nat.reduceDiv, Nat.reduceMod, Nat.reduceSub, Nat.reduceBEq, fitR, fitR1, fitR0, fitRL1, fitRL, mL, mB, pB]
    · simp (config := { maxSteps := 9000000 }) only [↓vyD, vyU, binS, SV.go1, SV.go0, mkRow, intsOf, boolsOf, strsOf, chunks, Row.rep, Row.cat, Row.sub, Row.put, Row.len, Row.get, Row.size, Row.flat, bnds, own0, own1, labsL, labsR, SV.labs, argsOf, entFr, SO.ev, St.of, keepSt, getAll, lookN, hasN, SV.cells, SV.one, SV.res1, SV.res0, SV.resP, SV.ok1, SV.ok0, SV.okN, SV.solid, SV.solid1, SV.solid0, SV.flat0, SV.nm, SV.nm1, SV.nm0, SV.noPtr1, SV.noPtr0, Cel.isFresh, fillP, setAt, partV, eqCells, cellEq, gamY, listsOk, tupOf, takeOwn, SV.ret1, resAll, resL, resV, Nat.reduceEqDiff, ↓reduceIte, Nat.reduceAdd, Nat.reduceMul, Nat.reduceLeDiff, Nat.reduceLT, reduceCtorEq, labOk, Int.reduceBEq, Int.reduceBNe, Int.reduceToNat, Int.reduceLE, Int.reduceLT, Int.reduceEq, Nat.reduceDiv, Nat.reduceMod, Nat.reduceSub, Nat.reduceBEq, fitR, fitR1, fitR0, fitRL1, fitRL, mB, pB, catP, List.take_zero, List.flatten_nil, mapP_nil]
    have hle := catP_le L i L.length hi (Nat.le_refl _)
    by_cases hlt : (i : Int) < (L.length : Int)
    · have hlt' : i < L.length := by omega
      have c0 : (0 : Int) ≤ (i : Int) := by omega
      have b1 := i64_wrap (show I64 ((i : Int) + 1) by unfold I64; omega)
      have mG := mapQ_get hlt'
      have hs := catP_succ hlt'
      have hle2 := catP_le L (i + 1) L.length (by omega) (Nat.le_refl _)
      have hs2 : (catP L (i + 1)).length = (catP L i).length + (L.getD i []).length := by rw [hs, List.length_append]
      simp (config := { maxSteps := 9000000 }) only [↓vyD, vyU, binS, SV.go1, SV.go0, mkRow, intsOf, boolsOf, strsOf, chunks, Row.rep, Row.cat, Row.sub, Row.put, Row.len, Row.get, Row.size, Row.flat, bnds, own0, own1, labsL, labsR, SV.labs, argsOf, entFr, SO.ev, St.of, keepSt, getAll, lookN, hasN, SV.cells, SV.one, SV.res1, SV.res0, SV.resP, SV.ok1, SV.ok0, SV.okN, SV.solid, SV.solid1, SV.solid0, SV.flat0, SV.nm, SV.nm1, SV.nm0, SV.noPtr1, SV.noPtr0, Cel.isFresh, fillP, setAt, partV, eqCells, cellEq, gamY, listsOk, tupOf, takeOwn, SV.ret1, resAll, resL, resV, Nat.reduceEqDiff, ↓reduceIte, Nat.reduceAdd, Nat.reduceMul, Nat.reduceLeDiff, Nat.reduceLT, reduceCtorEq, labOk, Int.reduceBEq, Int.reduceBNe, Int.reduceToNat, Int.reduceLE, Int.reduceLT, Int.reduceEq, Nat.reduceDiv, Nat.reduceMod, Nat.reduceSub, Nat.reduceBEq, fitR, fitR1, fitR0, fitRL1, fitRL, gCp, growpS, hlt, hlt', Int.toNat_natCast, c0, b1, mL, mB, mG, pL, pB, mapP_app]
      exact ⟨by omega, i + 1, ⟨by omega, by omega⟩, ⟨rfl, by simp⟩, rfl, by rw [hs]⟩
    · have hiL : i = L.length := by omega
      subst hiL
      simp (config := { maxSteps := 9000000 }) only [↓vyD, vyU, binS, SV.go1, SV.go0, mkRow, intsOf, boolsOf, strsOf, chunks, Row.rep, Row.cat, Row.sub, Row.put, Row.len, Row.get, Row.size, Row.flat, bnds, own0, own1, labsL, labsR, SV.labs, argsOf, entFr, SO.ev, St.of, keepSt, getAll, lookN, hasN, SV.cells, SV.one, SV.res1, SV.res0, SV.resP, SV.ok1, SV.ok0, SV.okN, SV.solid, SV.solid1, SV.solid0, SV.flat0, SV.nm, SV.nm1, SV.nm0, SV.noPtr1, SV.noPtr0, Cel.isFresh, fillP, setAt, partV, eqCells, cellEq, gamY, listsOk, tupOf, takeOwn, SV.ret1, resAll, resL, resV, Nat.reduceEqDiff, ↓reduceIte, Nat.reduceAdd, Nat.reduceMul, Nat.reduceLeDiff, Nat.reduceLT, reduceCtorEq, labOk, Int.reduceBEq, Int.reduceBNe, Int.reduceToNat, Int.reduceLE, Int.reduceLT, Int.reduceEq, Nat.reduceDiv, Nat.reduceMod, Nat.reduceSub, Nat.reduceBEq, fitR, fitR1, fitR0, fitRL1, fitRL, gCp, growpS, hlt, List.contains_nil, pB, eq_self]
def pcatS : Say
  | [.rw (.recs 1 [[.rw (.recs 7 a)], [.rw (.recs 7 b)]])] => (match toPs a, toPs b with | some a, some b => some (a.length + b.length ≤ 1000, .sl 0 0, some (34, .recs 7 (mapP (a ++ b)))) | _, _ => none)
  | [.rw (.recs 1 [[.rw (.recs 7 a)], [.rw (.recs 7 b)], [.rw (.recs 7 c)]])] => (match toPs a, toPs b, toPs c with | some a, some b, some c => some (a.length + b.length + c.length ≤ 1000, .sl 0 0, some (34, .recs 7 (mapP (a ++ b ++ c)))) | _, _, _ => none)
  | _ => none
theorem pcat_ok : FOk Try.prog 46 pcatS := by
  intro xs p r own h hp
  unfold pcatS at h
  split at h
  case h_3 => cases h
  · rename_i a b
    split at h
    case h_2 => cases h
    rename_i a' b' ha hb
    simp only [Option.some.injEq, Prod.mk.injEq] at h
    obtain ⟨rfl, rfl, rfl⟩ := h
    rw [toPs_eq _ ha, toPs_eq _ hb]
    have e : catP [a', b'] [a', b'].length = a' ++ b' := by simp [catP]
    have hv := pcat_in [a', b'] (by rw [e, List.length_append]; exact hp) (by simp)
    rw [e] at hv
    exact fun_ok gCp_ok lawy_mixed y46_eq (some 0) hv (Nat.le_of_ble_eq_true rfl)
  · rename_i a b c
    split at h
    case h_2 => cases h
    rename_i a' b' c' ha hb hc
    simp only [Option.some.injEq, Prod.mk.injEq] at h
    obtain ⟨rfl, rfl, rfl⟩ := h
    rw [toPs_eq _ ha, toPs_eq _ hb, toPs_eq _ hc]
    have e : catP [a', b', c'] [a', b', c'].length = a' ++ b' ++ c' := by simp [catP]
    have hv := pcat_in [a', b', c'] (by rw [e, List.length_append, List.length_append]; exact hp) (by simp)
    rw [e] at hv
    exact fun_ok gCp_ok lawy_mixed y46_eq (some 0) hv (Nat.le_of_ble_eq_true rfl)
def pcloneS : Say
  | [x] => (asP x).map fun l => (l.length ≤ 1000, .sl 0 0, some (34, .recs 7 (mapP l)))
  | _ => none
theorem pclone_ok : FOk Try.prog 60 pcloneS := by
  intro xs p r own h hp
  unfold pcloneS at h
  split at h
  · rename_i x
    obtain ⟨l, hx, h⟩ := Option.map_eq_some_iff.1 h
    simp only [Prod.mk.injEq] at h
    obtain ⟨rfl, rfl, rfl⟩ := h
    have pL := mapP_len
    have pB := mapP_labs
    refine fun_fit (ys := [.rw (.recs 7 (mapP l))]) ?_ ⟨asP_fit hx, trivial⟩
    refine fun_nil1 (fun hl => ?_) ?_
    · have hl' : l.length = 0 := by simpa [Row.len, mapP] using hl
      obtain rfl : l = [] := List.eq_nil_of_length_eq_zero hl'
      refine fun_ok (gam_ok gam_nil) lawy_mixed y60_eq (some 0) ?_ (Nat.le_of_ble_eq_true rfl)
      simp (config := { maxSteps := 9000000 }) only [↓vyD, vyU, binS, SV.go1, SV.go0, mkRow, intsOf, boolsOf, strsOf, chunks, Row.rep, Row.cat, Row.sub, Row.put, Row.len, Row.get, Row.size, Row.flat, bnds, own0, own1, labsL, labsR, SV.labs, argsOf, entFr, SO.ev, St.of, keepSt, getAll, lookN, hasN, SV.cells, SV.one, SV.res1, SV.res0, SV.resP, SV.ok1, SV.ok0, SV.okN, SV.solid, SV.solid1, SV.solid0, SV.flat0, SV.nm, SV.nm1, SV.nm0, SV.noPtr1, SV.noPtr0, Cel.isFresh, fillP, setAt, partV, eqCells, cellEq, gamY, listsOk, tupOf, takeOwn, SV.ret1, resAll, resL, resV, Nat.reduceEqDiff, ↓reduceIte, Nat.reduceAdd, Nat.reduceMul, Nat.reduceLeDiff, Nat.reduceLT, reduceCtorEq, labOk, Int.reduceBEq, Int.reduceBNe, Int.reduceToNat, Int.reduceLE, Int.reduceLT, Int.reduceEq, Nat.reduceDiv, Nat.reduceMod, Nat.reduceSub, Nat.reduceBEq, fitR, fitR1, fitR0, fitRL1, fitRL, y60, List.contains_nil, labsLL, eq_self, mapP_nil]
    · refine fun_ok (gam_ok gam_nil) lawy_mixed y60_eq (some 0) ?_ (Nat.le_of_ble_eq_true rfl)
      simp (config := { maxSteps := 9000000 }) only [↓vyD, vyU, binS, SV.go1, SV.go0, mkRow, intsOf, boolsOf, strsOf, chunks, Row.rep, Row.cat, Row.sub, Row.put, Row.len, Row.get, Row.size, Row.flat, bnds, own0, own1, labsL, labsR, SV.labs, argsOf, entFr, SO.ev, St.of, keepSt, getAll, lookN, hasN, SV.cells, SV.one, SV.res1, SV.res0, SV.resP, SV.ok1, SV.ok0, SV.okN, SV.solid, SV.solid1, SV.solid0, SV.flat0, SV.nm, SV.nm1, SV.nm0, SV.noPtr1, SV.noPtr0, Cel.isFresh, fillP, setAt, partV, eqCells, cellEq, gamY, listsOk, tupOf, takeOwn, SV.ret1, resAll, resL, resV, Nat.reduceEqDiff, ↓reduceIte, Nat.reduceAdd, Nat.reduceMul, Nat.reduceLeDiff, Nat.reduceLT, reduceCtorEq, labOk, Int.reduceBEq, Int.reduceBNe, Int.reduceToNat, Int.reduceLE, Int.reduceLT, Int.reduceEq, Nat.reduceDiv, Nat.reduceMod, Nat.reduceSub, Nat.reduceBEq, fitR, fitR1, fitR0, fitRL1, fitRL, y60, List.contains_nil, ↓a_slnn, pL, pB, eq_self]
      omega
  · cases h
end Go.Proofs.Ytgklfolmlcfjgaa
