/- slices.Grow of the nil slice; slices.Concat of lists. -/
import Derived.Test.YtlfhcjohkpdkoaaYS5
import Derived.Test.YtlfhcjohkpdkoaaYM0
import Derived.Test.YtlfhcjohkpdkoaaYShGrow
namespace Go.Proofs.Ytlfhcjohkpdkoaa
open Go.ChangeShapes Go.WideShapes Go.ChangeAt Go.RowKit Go.Joins Y
set_option linter.unusedSimpArgs false
set_option linter.unusedVariables false
set_option maxRecDepth 100000
set_option maxHeartbeats 40000000
def growS : Say
  | [.nil, .int .i64 n] => some (0 ≤ n ∧ n ≤ 4294967296, .sl 0 0, some (3, .ints .i64 []))
  | _ => none
theorem grow_ok : FOk Try.prog 64 growS := by
  intro xs p r own h hp
  unfold growS at h
  split at h
  case h_2 => cases h
  rename_i n
  simp only [Option.some.injEq, Prod.mk.injEq] at h
  obtain ⟨rfl, rfl, rfl⟩ := h
  refine .of (by decide) ⟨⟨_, Try.func64, of_decide_eq_true (by kernel_rfl), by kernel_rfl⟩, fun A w vs hlow hvs => ?_⟩
  obtain ⟨v, us, rfl, hv, hn⟩ := hvs.cons_inv
  obtain ⟨v2, us2, rfl, hv2, hn2⟩ := hn.cons_inv
  obtain rfl := hn2.nil_inv
  obtain rfl := hv.nil_inv
  obtain rfl := hv2.int_inv
  obtain ⟨h1, h2⟩ := hp
  obtain ⟨k, rfl⟩ := Int.eq_ofNat_of_zero_le h1
  by_cases h0 : k = 0
  · subst h0
    refine (Try.slices_Grow_0 w).mono fun e w2 ⟨he, hw⟩ => ?_
    subst hw
    have hB : Below w2.heap.size w2 w2 := Below.refl w2.heap.size w2
    refine ⟨hB, .slice none 0 0, he, some (.slice none 0 0), ⟨.slice none 0 0, [], rfl, trivial, by decide, ⟨rfl, .inl ⟨rfl, rfl⟩⟩, ?_⟩, rfl⟩
    exact All.nil
  · have hq : (Try.prog.info? (Try.growI_ren.t 25)).isSome = true := by kernel_rfl
    obtain ⟨i0, hi0⟩ := Option.isSome_iff_exists.1 hq
    obtain ⟨z, hz0⟩ : ∃ z, i0.zero = some z := by
      have e : (Try.prog.info? (Try.growI_ren.t 25)).bind (·.zero) = some (.int .i64 0) := by kernel_rfl
      rw [hi0] at e
      exact ⟨_, e⟩
    have hs : i0.size = 1 := by
      have e : (Try.prog.info? (Try.growI_ren.t 25)).map (·.size) = some 1 := by kernel_rfl
      rw [hi0] at e
      simpa using e
    have hb : i0.bytes = 8 := by
      have e : (Try.prog.info? (Try.growI_ren.t 25)).map (·.bytes) = some 8 := by kernel_rfl
      rw [hi0] at e
      simpa using e
    have hzc : z.cells = #[.int .i64 0] := by
      have e : (Try.prog.info? (Try.growI_ren.t 25)).bind (·.zero) = some (.int .i64 0) := by kernel_rfl
      rw [hi0] at e
      have e' : some z = some (Value.int .i64 0) := hz0.symm.trans e
      rw [Option.some.inj e']; rfl
    refine (Try.slices_Grow_n i0 z hi0 hz0 (by omega) k w (by omega) (by rw [hb]; omega) (by omega)).mono fun e w' ⟨he, hw⟩ => ?_
    have g1 := grownCap_ge w (0 + k) 0 (Try.growI_ren.t 25)
    have g2 := grownCap_le_maxLen w (0 + k) 0 (Try.growI_ren.t 25) (by unfold maxLen; omega)
    generalize grownCap w (0 + k) 0 (Try.growI_ren.t 25) = G at *
    have ht : Try.growI_ren.t 25 = 3 := by kernel_rfl
    have hz : ∀ n, (Builtin.zeroCells z.cells n).size = n := fun n => by simp [Builtin.zeroCells, hzc]
    have hcs : (([] : List Value).toArray ++ Builtin.zeroCells z.cells (0 + k - 0) ++ Builtin.zeroCells z.cells (G - (0 + k))).size = G := by
      simp only [Array.size_append, hz]; simp; omega
    generalize ([] : List Value).toArray ++ Builtin.zeroCells z.cells (0 + k - 0) ++ Builtin.zeroCells z.cells (G - (0 + k)) = cur at *
    subst hw
    have hB : Below w.heap.size w (w.drew.alloc (.cells cur (Try.growI_ren.t 25))) := ((Below.refl w.heap.size w).drew).alloc (Nat.le_refl _) _
    refine ⟨hB, _, he, some (.slice (some ⟨w.heap.size, 0, none⟩) 0 G), ⟨_, [], rfl, trivial, by decide, ⟨rfl, .inr ⟨w.heap.size, G, cur, rfl, Nat.le_refl _, ?_, Nat.zero_le _, g2, ?_, ?_⟩⟩, ?_⟩, rfl⟩
    · rw [← ht]; show (w.heap.push (Obj.cells cur _))[w.heap.size]? = _; simp
    · simp [hcs, Row.size]
    · simp [Row.len]
    · exact All.nil
/-- The first i of some lists, one behind the other. -/
def catT (L : List (List Int)) (i : Nat) : List Int := (L.take i).flatten
theorem catT_succ {L : List (List Int)} {i : Nat} (h : i < L.length) : catT L (i + 1) = catT L i ++ L.getD i [] := by
  unfold catT
  rw [List.take_add_one, List.getElem?_eq_getElem h, List.getD_eq_getElem?_getD, List.getElem?_eq_getElem h, List.flatten_append]
  simp
theorem catT_le (L : List (List Int)) : ∀ i j, i ≤ j → j ≤ L.length → (catT L i).length ≤ (catT L j).length := fun i j h1 h2 => by
  induction j with
  | zero => obtain rfl : i = 0 := by omega
            exact Nat.le_refl _
  | succ j ih =>
    by_cases h : i = j + 1
    · subst h; exact Nat.le_refl _
    · have := ih (by omega) (by omega)
      rw [catT_succ (by omega), List.length_append]
      omega
def gCc : List (Nat × Say) := [(64, growS)]
theorem gCc_ok : GamOk Try.prog (gamY gCc) := gam_ok (gam_cons grow_ok gam_nil)
theorem slcat_in (L : List (List Int)) (hp : (catT L L.length).length ≤ 4294967296) (hL : L.length ≤ 1000) : vcFun (gamY gCc) y31 [.rw (.recs 1 (mapR L))] (some 0) fun v o => fitR v (.sl 0 0) ∧ o = some (3, .ints .i64 (catT L L.length)) := by
  have mL := mapR_len L
  have mB := mapR_labs L
  simp (config := { maxSteps := 9000000 }) only [↓vyD, vyU, binS, SV.go1, SV.go0, mkRow, intsOf, boolsOf, strsOf, chunks, Row.rep, Row.cat, Row.sub, Row.put, Row.len, Row.get, Row.size, Row.flat, bnds, own0, own1, labsL, labsR, SV.labs, argsOf, entFr, SO.ev, St.of, keepSt, getAll, lookN, hasN, SV.cells, SV.one, SV.res1, SV.res0, SV.resP, SV.ok1, SV.ok0, SV.okN, SV.solid, SV.solid1, SV.solid0, SV.flat0, SV.nm, SV.nm1, SV.nm0, SV.noPtr1, SV.noPtr0, Cel.isFresh, fillP, setAt, partV, eqCells, cellEq, gamY, listsOk, tupOf, takeOwn, SV.ret1, resAll, resL, resV, Nat.reduceEqDiff, ↓reduceIte, Nat.reduceAdd, Nat.reduceMul, Nat.reduceLeDiff, Nat.reduceLT, reduceCtorEq, labOk, Int.reduceBEq, Int.reduceBNe, Int.reduceToNat, Int.reduceLE, Int.reduceLT, Int.reduceEq, Nat.reduceDiv, Nat.reduceMod, Nat.reduceSub, Nat.reduceBEq, fitR, fitR1, fitR0, fitRL1, fitRL, y31, gCc, growS, mL, mB]
  refine loopG_intro (ι := Nat) (fun i => [(0, .rw (.recs 1 (mapR L))), (3, .int .i64 (catT L i).length), (9, .rw (.recs 1 (mapR L))), (10, .int .i64 L.length), (11, .int .i64 i)]) (fun _ => []) (fun i => i ≤ L.length) (fun i => L.length - i) ⟨0, by omega, ?_, ?_, ?_⟩ fun i hi => ?_
  · simp (config := { maxSteps := 9000000 }) only [↓vyD, vyU, binS, SV.go1, SV.go0, mkRow, intsOf, boolsOf, strsOf, chunks, Row.rep, Row.cat, Row.sub, Row.put, Row.len, Row.get, Row.size, Row.flat, bnds, own0, own1, labsL, labsR, SV.labs, argsOf, entFr, SO.ev, St.of, keepSt, getAll, lookN, hasN, SV.cells, SV.one, SV.res1, SV.res0, SV.resP, SV.ok1, SV.ok0, SV.okN, SV.solid, SV.solid1, SV.solid0, SV.flat0, SV.nm, SV.nm1, SV.nm0, SV.noPtr1, SV.noPtr0, Cel.isFresh, fillP, setAt, partV, eqCells, cellEq, gamY, listsOk, tupOf, takeOwn, SV.ret1, resAll, resL, resV, Nat.reduceEqDiff, ↓reduceIte, Nat.reduceAdd, Nat.reduceMul, Nat.reduceLeDiff, Nat.reduceLT, reduceCtorEq, labOk, Int.reduceBEq, Int.reduceBNe, Int.reduceToNat, Int.reduceLE, Int.reduceLT, Int.reduceEq, Nat.reduceDiv, Nat.reduceMod, Nat.reduceSub, Nat.reduceBEq, fitR, fitR1, fitR0, fitRL1, fitRL, mB]
  · simp (config := { maxSteps := 9000000 }) only [↓vyD, vyU, binS, SV.go1, SV.go0, mkRow, intsOf, boolsOf, strsOf, chunks, Row.rep, Row.cat, Row.sub, Row.put, Row.len, Row.get, Row.size, Row.flat, bnds, own0, own1, labsL, labsR, SV.labs, argsOf, entFr, SO.ev, St.of, keepSt, getAll, lookN, hasN, SV.cells, SV.one, SV.res1, SV.res0, SV.resP, SV.ok1, SV.ok0, SV.okN, SV.solid, SV.solid1, SV.solid0, SV.flat0, SV.nm, SV.nm1, SV.nm0, SV.noPtr1, SV.noPtr0, Cel.isFresh, fillP, setAt, partV, eqCells, cellEq, gamY, listsOk, tupOf, takeOwn, SV.ret1, resAll, resL, resV, Nat.reduceEqDiff, ↓reduceIte, Nat.reduceAdd, Nat.reduceMul, Nat.reduceLeDiff, Nat.reduceLT, reduceCtorEq, labOk, Int.reduceBEq, Int.reduceBNe, Int.reduceToNat, Int.reduceLE, Int.reduceLT, Int.reduceEq, Nat.reduceDiv, Nat.reduceMod, Nat.reduceSub, Nat.reduceBEq, fitR, fitR1, fitR0, fitRL1, fitRL, mL, mB, catT, List.take_zero, List.flatten_nil, List.length_nil, Int.natCast_zero, Int.ofNat_zero]
  · simp (config := { maxSteps := 9000000 }) only [↓vyD, vyU, binS, SV.go1, SV.go0, mkRow, intsOf, boolsOf, strsOf, chunks, Row.rep, Row.cat, Row.sub, Row.put, Row.len, Row.get, Row.size, Row.flat, bnds, own0, own1, labsL, labsR, SV.labs, argsOf, entFr, SO.ev, St.of, keepSt, getAll, lookN, hasN, SV.cells, SV.one, SV.res1, SV.res0, SV.resP, SV.ok1, SV.ok0, SV.okN, SV.solid, SV.solid1, SV.solid0, SV.flat0, SV.nm, SV.nm1, SV.nm0, SV.noPtr1, SV.noPtr0, Cel.isFresh, fillP, setAt, partV, eqCells, cellEq, gamY, listsOk, tupOf, takeOwn, SV.ret1, resAll, resL, resV, Nat.reduceEqDiff, ↓reduceIte, Nat.reduceAdd, Nat.reduceMul, Nat.reduceLeDiff, Nat.reduceLT, reduceCtorEq, labOk, Int.reduceBEq, Int.reduceBNe, Int.reduceToNat, Int.reduceLE, Int.reduceLT, Int.reduceEq, Nat.reduceDiv, Nat.reduceMod, Nat.reduceSub, Nat.reduceBEq, fitR, fitR1, fitR0, fitRL1, fitRL, mB]
  have hle := catT_le L i L.length hi (Nat.le_refl _)
  by_cases hlt : (i : Int) < (L.length : Int)
  · have hlt' : i < L.length := by omega
    have c0 : (0 : Int) ≤ (i : Int) := by omega
    have b1 := i64_wrap (show I64 ((i : Int) + 1) by unfold I64; omega)
    have mG := mapR_get hlt'
    have hs := catT_succ hlt'
    have hle2 := catT_le L (i + 1) L.length (by omega) (Nat.le_refl _)
    have hs2 : (catT L (i + 1)).length = (catT L i).length + (L.getD i []).length := by rw [hs, List.length_append]
    have w1 := i64_wrap (show I64 (((catT L i).length : Int) + ((L.getD i []).length : Int)) by unfold I64; omega)
    have n1 : ¬ (((catT L i).length : Int) + ((L.getD i []).length : Int) < 0) := by omega
    simp (config := { maxSteps := 9000000 }) only [↓vyD, vyU, binS, SV.go1, SV.go0, mkRow, intsOf, boolsOf, strsOf, chunks, Row.rep, Row.cat, Row.sub, Row.put, Row.len, Row.get, Row.size, Row.flat, bnds, own0, own1, labsL, labsR, SV.labs, argsOf, entFr, SO.ev, St.of, keepSt, getAll, lookN, hasN, SV.cells, SV.one, SV.res1, SV.res0, SV.resP, SV.ok1, SV.ok0, SV.okN, SV.solid, SV.solid1, SV.solid0, SV.flat0, SV.nm, SV.nm1, SV.nm0, SV.noPtr1, SV.noPtr0, Cel.isFresh, fillP, setAt, partV, eqCells, cellEq, gamY, listsOk, tupOf, takeOwn, SV.ret1, resAll, resL, resV, Nat.reduceEqDiff, ↓reduceIte, Nat.reduceAdd, Nat.reduceMul, Nat.reduceLeDiff, Nat.reduceLT, reduceCtorEq, labOk, Int.reduceBEq, Int.reduceBNe, Int.reduceToNat, Int.reduceLE, Int.reduceLT, Int.reduceEq, Nat.reduceDiv, Nat.reduceMod, Nat.reduceSub, Nat.reduceBEq, fitR, fitR1, fitR0, fitRL1, fitRL, gCc, growS, hlt, hlt', Int.toNat_natCast, c0, b1, mL, mB, mG, w1, n1]
    exact ⟨i + 1, ⟨by omega, by omega⟩, by omega, by simp⟩
  · have hiL : i = L.length := by omega
    subst hiL
    have c1 : (0 : Int) ≤ ((catT L L.length).length : Int) := by omega
    have c2 : ((catT L L.length).length : Int) ≤ 4294967296 := by omega
    simp (config := { maxSteps := 9000000 }) only [↓vyD, vyU, binS, SV.go1, SV.go0, mkRow, intsOf, boolsOf, strsOf, chunks, Row.rep, Row.cat, Row.sub, Row.put, Row.len, Row.get, Row.size, Row.flat, bnds, own0, own1, labsL, labsR, SV.labs, argsOf, entFr, SO.ev, St.of, keepSt, getAll, lookN, hasN, SV.cells, SV.one, SV.res1, SV.res0, SV.resP, SV.ok1, SV.ok0, SV.okN, SV.solid, SV.solid1, SV.solid0, SV.flat0, SV.nm, SV.nm1, SV.nm0, SV.noPtr1, SV.noPtr0, Cel.isFresh, fillP, setAt, partV, eqCells, cellEq, gamY, listsOk, tupOf, takeOwn, SV.ret1, resAll, resL, resV, Nat.reduceEqDiff, ↓reduceIte, Nat.reduceAdd, Nat.reduceMul, Nat.reduceLeDiff, Nat.reduceLT, reduceCtorEq, labOk, Int.reduceBEq, Int.reduceBNe, Int.reduceToNat, Int.reduceLE, Int.reduceLT, Int.reduceEq, Nat.reduceDiv, Nat.reduceMod, Nat.reduceSub, Nat.reduceBEq, fitR, fitR1, fitR0, fitRL1, fitRL, gCc, growS, hlt, mL, mB, c1, c2]
    refine loopG_intro (ι := Nat) (fun i => [(6, .sl 9001 i), (25, .rw (.recs 1 (mapR L))), (26, .int .i64 L.length), (27, .int .i64 i)]) (fun i => [(9001, .row i 3 (.ints .i64 (catT L i)))]) (fun i => i ≤ L.length) (fun i => L.length - i) ⟨0, by omega, ?_, ?_, ?_⟩ fun i hi => ?_
    · simp (config := { maxSteps := 9000000 }) only [↓vyD, vyU, binS, SV.go1, SV.go0, mkRow, intsOf, boolsOf, strsOf, chunks, Row.rep, Row.cat, Row.sub, Row.put, Row.len, Row.get, Row.size, Row.flat, bnds, own0, own1, labsL, labsR, SV.labs, argsOf, entFr, SO.ev, St.of, keepSt, getAll, lookN, hasN, SV.cells, SV.one, SV.res1, SV.res0, SV.resP, SV.ok1, SV.ok0, SV.okN, SV.solid, SV.solid1, SV.solid0, SV.flat0, SV.nm, SV.nm1, SV.nm0, SV.noPtr1, SV.noPtr0, Cel.isFresh, fillP, setAt, partV, eqCells, cellEq, gamY, listsOk, tupOf, takeOwn, SV.ret1, resAll, resL, resV, Nat.reduceEqDiff, ↓reduceIte, Nat.reduceAdd, Nat.reduceMul, Nat.reduceLeDiff, Nat.reduceLT, reduceCtorEq, labOk, Int.reduceBEq, Int.reduceBNe, Int.reduceToNat, Int.reduceLE, Int.reduceLT, Int.reduceEq, Nat.reduceDiv, Nat.reduceMod, Nat.reduceSub, Nat.reduceBEq, fitR, fitR1, fitR0, fitRL1, fitRL, mB]
    · simp (config := { maxSteps := 9000000 }) only [↓vyD, vyU, binS, SV.go1, SV.go0, mkRow, intsOf, boolsOf, strsOf, chunks, Row.rep, Row.cat, Row.sub, Row.put, Row.len, Row.get, Row.size, Row.flat, bnds, own0, own1, labsL, labsR, SV.labs, argsOf, entFr, SO.ev, St.of, keepSt, getAll, lookN, hasN, SV.cells, SV.one, SV.res1, SV.res0, SV.resP, SV.ok1, SV.ok0, SV.okN, SV.solid, SV.solid1, SV.solid0, SV.flat0, SV.nm, SV.nm1, SV.nm0, SV.noPtr1, SV.noPtr0, Cel.isFresh, fillP, setAt, partV, eqCells, cellEq, gamY, listsOk, tupOf, takeOwn, SV.ret1, resAll, resL, resV, Nat.reduceEqDiff, ↓reduceIte, Nat.reduceAdd, Nat.reduceMul, Nat.reduceLeDiff, Nat.reduceLT, reduceCtorEq, labOk, Int.reduceBEq, Int.reduceBNe, Int.reduceToNat, Int.reduceLE, Int.reduceLT, Int.reduceEq, Nat.reduceDiv, Nat.reduceMod, Nat.reduceSub, Nat.reduceBEq, fitR, fitR1, fitR0, fitRL1, fitRL, mL, mB]
    · simp (config := { maxSteps := 9000000 }) only [↓vyD, vyU, binS, SV.go1, SV.go0, mkRow, intsOf, boolsOf, strsOf, chunks, Row.rep, Row.cat, Row.sub, Row.put, Row.len, Row.get, Row.size, Row.flat, bnds, own0, own1, labsL, labsR, SV.labs, argsOf, entFr, SO.ev, St.of, keepSt, getAll, lookN, hasN, SV.cells, SV.one, SV.res1, SV.res0, SV.resP, SV.ok1, SV.ok0, SV.okN, SV.solid, SV.solid1, SV.solid0, SV.flat0, SV.nm, SV.nm1, SV.nm0, SV.noPtr1, SV.noPtr0, Cel.isFresh, fillP, setAt, partV, eqCells, cellEq, gamY, listsOk, tupOf, takeOwn, SV.ret1, resAll, resL, resV, Nat.reduceEqDiff, ↓reduceIte, Nat.reduceAdd, Nat.reduceMul, Nat.reduceLeDiff, Nat.reduceLT, reduceCtorEq, labOk, Int.reduceBEq, Int.reduceBNe, Int.reduceToNat, Int.reduceLE, Int.reduceLT, Int.reduceEq, Nat.reduceDiv, Nat.reduceMod, Nat.reduceSub, Nat.reduceBEq, fitR, fitR1, fitR0, fitRL1, fitRL, mB, catT, List.take_zero, List.flatten_nil]
    have hle := catT_le L i L.length hi (Nat.le_refl _)
    by_cases hlt : (i : Int) < (L.length : Int)
    · have hlt' : i < L.length := by omega
      have c0 : (0 : Int) ≤ (i : Int) := by omega
      have b1 := i64_wrap (show I64 ((i : Int) + 1) by unfold I64; omega)
      have mG := mapR_get hlt'
      have hs := catT_succ hlt'
      have hle2 := catT_le L (i + 1) L.length (by omega) (Nat.le_refl _)
      have hs2 : (catT L (i + 1)).length = (catT L i).length + (L.getD i []).length := by rw [hs, List.length_append]
      simp (config := { maxSteps := 9000000 }) only [↓vyD, vyU, binS, SV.go1, SV.go0, mkRow, intsOf, boolsOf, strsOf, chunks, Row.rep, Row.cat, Row.sub, Row.put, Row.len, Row.get, Row.size, Row.flat, bnds, own0, own1, labsL, labsR, SV.labs, argsOf, entFr, SO.ev, St.of, keepSt, getAll, lookN, hasN, SV.cells, SV.one, SV.res1, SV.res0, SV.resP, SV.ok1, SV.ok0, SV.okN, SV.solid, SV.solid1, SV.solid0, SV.flat0, SV.nm, SV.nm1, SV.nm0, SV.noPtr1, SV.noPtr0, Cel.isFresh, fillP, setAt, partV, eqCells, cellEq, gamY, listsOk, tupOf, takeOwn, SV.ret1, resAll, resL, resV, Nat.reduceEqDiff, ↓reduceIte, Nat.reduceAdd, Nat.reduceMul, Nat.reduceLeDiff, Nat.reduceLT, reduceCtorEq, labOk, Int.reduceBEq, Int.reduceBNe, Int.reduceToNat, Int.reduceLE, Int.reduceLT, Int.reduceEq, Nat.reduceDiv, Nat.reduceMod, Nat.reduceSub, Nat.reduceBEq, fitR, fitR1, fitR0, fitRL1, fitRL, gCc, growS, hlt, hlt', Int.toNat_natCast, c0, b1, mL, mB, mG]
      exact ⟨by omega, i + 1, ⟨by omega, by omega⟩, ⟨rfl, by simp⟩, rfl, hs.symm⟩
    · have hiL : i = L.length := by omega
      subst hiL
      simp (config := { maxSteps := 9000000 }) only [↓vyD, vyU, binS, SV.go1, SV.go0, mkRow, intsOf, boolsOf, strsOf, chunks, Row.rep, Row.cat, Row.sub, Row.put, Row.len, Row.get, Row.size, Row.flat, bnds, own0, own1, labsL, labsR, SV.labs, argsOf, entFr, SO.ev, St.of, keepSt, getAll, lookN, hasN, SV.cells, SV.one, SV.res1, SV.res0, SV.resP, SV.ok1, SV.ok0, SV.okN, SV.solid, SV.solid1, SV.solid0, SV.flat0, SV.nm, SV.nm1, SV.nm0, SV.noPtr1, SV.noPtr0, Cel.isFresh, fillP, setAt, partV, eqCells, cellEq, gamY, listsOk, tupOf, takeOwn, SV.ret1, resAll, resL, resV, Nat.reduceEqDiff, ↓reduceIte, Nat.reduceAdd, Nat.reduceMul, Nat.reduceLeDiff, Nat.reduceLT, reduceCtorEq, labOk, Int.reduceBEq, Int.reduceBNe, Int.reduceToNat, Int.reduceLE, Int.reduceLT, Int.reduceEq, Nat.reduceDiv, Nat.reduceMod, Nat.reduceSub, Nat.reduceBEq, fitR, fitR1, fitR0, fitRL1, fitRL, gCc, growS, hlt, List.contains_nil]
def slcatS : Say
  | [.rw (.recs 1 [[.rw (.ints .i64 a)], [.rw (.ints .i64 b)]])] => some (a.length + b.length ≤ 4294967296, .sl 0 0, some (3, .ints .i64 (a ++ b)))
  | _ => none
theorem slcat_ok : FOk Try.prog 31 slcatS := by
  intro xs p r own h hp
  unfold slcatS at h
  split at h
  case h_2 => cases h
  rename_i a b
  simp only [Option.some.injEq, Prod.mk.injEq] at h
  obtain ⟨rfl, rfl, rfl⟩ := h
  have e : catT [a, b] [a, b].length = a ++ b := by simp [catT]
  have hv := slcat_in [a, b] (by rw [e, List.length_append]; exact hp) (by simp)
  rw [e] at hv
  exact fun_ok gCc_ok lawy_mixed y31_eq (some 0) hv (Nat.le_of_ble_eq_true rfl)
end Go.Proofs.Ytlfhcjohkpdkoaa
