/- What the functions of peers do, further: copies, what is heard, Add, Drop, Hear. -/
import Derived.Test.YtgklfolmlcfjgaaYPe
namespace Go.Proofs.Ytgklfolmlcfjgaa
open Go.ChangeShapes Go.WideShapes Go.ChangeAt Go.RowKit Go.Joins Y
set_option linter.unusedSimpArgs false
set_option linter.unusedVariables false
set_option maxRecDepth 100000
set_option maxHeartbeats 40000000
/-- The first i are copied. -/
def zPr : List SV := [.str [], .int .i64 0, .int .i64 0, .int .i64 0, .int .i64 0, .nil, .int .i64 0]
def cpR (l : List Pr) (i : Nat) : List (List SV) := mapP (l.take i) ++ List.replicate (l.length - i) zPr
theorem cpR_0 (l : List Pr) : List.replicate l.length zPr = cpR l 0 := by simp [cpR, mapP]
theorem cpR_n (l : List Pr) : cpR l l.length = mapP l := by simp [cpR]
theorem cpR_len {l : List Pr} {i : Nat} (h : i ≤ l.length) : (cpR l i).length = l.length := by
  simp only [cpR, List.length_append, mapP_len, List.length_take, List.length_replicate]; omega
theorem cpR_get {l : List Pr} {i : Nat} (h : i < l.length) : (cpR l i).getD i [] = zPr := by
  have hl : (mapP (l.take i)).length = i := by rw [mapP_len, List.length_take]; omega
  rw [cpR, List.getD_eq_getElem?_getD, List.getElem?_append_right (by omega), hl, Nat.sub_self, List.getElem?_replicate, if_pos (by omega)]; rfl
theorem cpR_set {l : List Pr} {i : Nat} (h : i < l.length) : (cpR l i).set i (prC (l.getD i default)) = cpR l (i + 1) := by
  have hl : (mapP (l.take i)).length = i := by rw [mapP_len, List.length_take]; omega
  have hs : l.length - i = (l.length - (i + 1)) + 1 := by omega
  rw [cpR, cpR, List.set_append_right _ _ (by omega), hl, Nat.sub_self, hs, List.replicate_succ, List.set_cons_zero, List.take_add_one, List.getElem?_eq_getElem h, getP h]
  rw [mapP, mapP, List.map_append, List.append_assoc]; rfl
theorem cpR_labs (l : List Pr) (i : Nat) : labsLL (cpR l i) = [] := by
  have key : ∀ (a b : List (List SV)), labsLL (a ++ b) = labsLL a ++ labsLL b := by
    intro a b
    induction a with
    | nil => rfl
    | cons c a ih => simp [labsLL, ih]
  have k2 : ∀ n, labsLL (List.replicate n zPr) = [] := by
    intro n
    induction n with
    | zero => rfl
    | succ n ih => rw [List.replicate_succ, labsLL, ih]; simp [zPr, labsL, SV.labs]
  rw [cpR, key, mapP_labs, k2]; rfl
def gCy : List (Nat × Say) := [(82, scloneS)]
theorem gCy_ok : GamOk Try.prog (gamY gCy) := gam_ok (gam_cons sclone_ok gam_nil)
def SmC (l : List Pr) : Prop := l.length ≤ 1000 ∧ ∀ p ∈ l, p.id.length ≤ 140737488355328 ∧ p.vals.length ≤ 1000
theorem pcopy_in (l : List Pr) (hp : SmC l) : vcFun (gamY gCy) y45 [.rw (.recs 7 (mapP l))] (some 0) fun v o => fitR v (.sl 0 0) ∧ o = some (34, .recs 7 (mapP l)) := by
  obtain ⟨hl, hq⟩ := hp
  have b0 : (0 : Int) ≤ (l.length : Int) := by omega
  have b2 : (l.length : Int) * 80 ≤ 140737488355328 := by omega
  have b3 : (l.length : Int) * ((80 : Nat) : Int) ≤ 140737488355328 := by omega
  have z0 : List.replicate l.length [(.str [] : SV), .int .i64 0, .int .i64 0, .int .i64 0, .int .i64 0, .nil, .int .i64 0] = cpR l 0 := cpR_0 l
  simp (config := { maxSteps := 9000000 }) only [↓vyD, vyU, binS, SV.go1, SV.go0, mkRow, intsOf, boolsOf, strsOf, chunks, Row.rep, Row.cat, Row.sub, Row.put, Row.len, Row.get, Row.size, Row.flat, bnds, own0, own1, labsL, labsR, SV.labs, argsOf, entFr, SO.ev, St.of, keepSt, getAll, lookN, hasN, SV.cells, SV.one, SV.res1, SV.res0, SV.resP, SV.ok1, SV.ok0, SV.okN, SV.solid, SV.solid1, SV.solid0, SV.flat0, SV.nm, SV.nm1, SV.nm0, SV.noPtr1, SV.noPtr0, Cel.isFresh, fillP, setAt, partV, eqCells, cellEq, gamY, listsOk, tupOf, takeOwn, SV.ret1, resAll, resL, resV, Nat.reduceEqDiff, ↓reduceIte, Nat.reduceAdd, Nat.reduceMul, Nat.reduceLeDiff, Nat.reduceLT, reduceCtorEq, labOk, Int.reduceBEq, Int.reduceBNe, Int.reduceToNat, Int.reduceLE, Int.reduceLT, Int.reduceEq, Nat.reduceDiv, Nat.reduceMod, Nat.reduceSub, Nat.reduceBEq, fitR, fitR1, fitR0, fitRL1, fitRL, y45, gCy, scloneS, mapP_len, mapP_labs, List.all_nil, asP_rw, prC, b0, b2, b3, z0, Int.toNat_natCast, Int.le_refl, List.length_cons, List.length_nil]
  refine loopG_intro (ι := Nat) (fun i => [(3, .sl 1002 0), (9, .rw (.recs 7 (mapP l))), (10, .int .i64 l.length), (11, .int .i64 i)]) (fun i => [(1002, .row 0 34 (.recs 7 (cpR l i)))])
    (fun i => i ≤ l.length) (fun i => l.length - i) ⟨0, by omega, ?_, ?_, ?_⟩ fun i hi => ?_
  · simp (config := { maxSteps := 9000000 }) only [↓vyD, vyU, binS, SV.go1, SV.go0, mkRow, intsOf, boolsOf, strsOf, chunks, Row.rep, Row.cat, Row.sub, Row.put, Row.len, Row.get, Row.size, Row.flat, bnds, own0, own1, labsL, labsR, SV.labs, argsOf, entFr, SO.ev, St.of, keepSt, getAll, lookN, hasN, SV.cells, SV.one, SV.res1, SV.res0, SV.resP, SV.ok1, SV.ok0, SV.okN, SV.solid, SV.solid1, SV.solid0, SV.flat0, SV.nm, SV.nm1, SV.nm0, SV.noPtr1, SV.noPtr0, Cel.isFresh, fillP, setAt, partV, eqCells, cellEq, gamY, listsOk, tupOf, takeOwn, SV.ret1, resAll, resL, resV, Nat.reduceEqDiff, ↓reduceIte, Nat.reduceAdd, Nat.reduceMul, Nat.reduceLeDiff, Nat.reduceLT, reduceCtorEq, labOk, Int.reduceBEq, Int.reduceBNe, Int.reduceToNat, Int.reduceLE, Int.reduceLT, Int.reduceEq, Nat.reduceDiv, Nat.reduceMod, Nat.reduceSub, Nat.reduceBEq, fitR, fitR1, fitR0, fitRL1, fitRL, mapP_len, mapP_labs, List.all_nil, asP_rw, prC, cpR_labs]
  · simp (config := { maxSteps := 9000000 }) only [↓vyD, vyU, binS, SV.go1, SV.go0, mkRow, intsOf, boolsOf, strsOf, chunks, Row.rep, Row.cat, Row.sub, Row.put, Row.len, Row.get, Row.size, Row.flat, bnds, own0, own1, labsL, labsR, SV.labs, argsOf, entFr, SO.ev, St.of, keepSt, getAll, lookN, hasN, SV.cells, SV.one, SV.res1, SV.res0, SV.resP, SV.ok1, SV.ok0, SV.okN, SV.solid, SV.solid1, SV.solid0, SV.flat0, SV.nm, SV.nm1, SV.nm0, SV.noPtr1, SV.noPtr0, Cel.isFresh, fillP, setAt, partV, eqCells, cellEq, gamY, listsOk, tupOf, takeOwn, SV.ret1, resAll, resL, resV, Nat.reduceEqDiff, ↓reduceIte, Nat.reduceAdd, Nat.reduceMul, Nat.reduceLeDiff, Nat.reduceLT, reduceCtorEq, labOk, Int.reduceBEq, Int.reduceBNe, Int.reduceToNat, Int.reduceLE, Int.reduceLT, Int.reduceEq, Nat.reduceDiv, Nat.reduceMod, Nat.reduceSub, Nat.reduceBEq, fitR, fitR1, fitR0, fitRL1, fitRL, mapP_len, mapP_labs, List.all_nil, asP_rw, prC, Int.natCast_zero, Int.ofNat_zero]
  · simp (config := { maxSteps := 9000000 }) only [↓vyD, vyU, binS, SV.go1, SV.go0, mkRow, intsOf, boolsOf, strsOf, chunks, Row.rep, Row.cat, Row.sub, Row.put, Row.len, Row.get, Row.size, Row.flat, bnds, own0, own1, labsL, labsR, SV.labs, argsOf, entFr, SO.ev, St.of, keepSt, getAll, lookN, hasN, SV.cells, SV.one, SV.res1, SV.res0, SV.resP, SV.ok1, SV.ok0, SV.okN, SV.solid, SV.solid1, SV.solid0, SV.flat0, SV.nm, SV.nm1, SV.nm0, SV.noPtr1, SV.noPtr0, Cel.isFresh, fillP, setAt, partV, eqCells, cellEq, gamY, listsOk, tupOf, takeOwn, SV.ret1, resAll, resL, resV, Nat.reduceEqDiff, ↓reduceIte, Nat.reduceAdd, Nat.reduceMul, Nat.reduceLeDiff, Nat.reduceLT, reduceCtorEq, labOk, Int.reduceBEq, Int.reduceBNe, Int.reduceToNat, Int.reduceLE, Int.reduceLT, Int.reduceEq, Nat.reduceDiv, Nat.reduceMod, Nat.reduceSub, Nat.reduceBEq, fitR, fitR1, fitR0, fitRL1, fitRL, mapP_len, mapP_labs, List.all_nil, asP_rw, prC]
  have hcl := cpR_labs l i
  by_cases hlt : (i : Int) < (l.length : Int)
  · have hlt' : i < l.length := by omega
    have hi0 : (0 : Int) ≤ (i : Int) := by omega
    have b1 := i64_wrap (show I64 ((i : Int) + 1) by unfold I64; omega)
    have hg := mapP_get hlt'
    have hn := cpR_len hi
    have hg2 : (cpR l i).getD i [] = [.str [], .int .i64 0, .int .i64 0, .int .i64 0, .int .i64 0, .nil, .int .i64 0] := cpR_get hlt'
    have hs := cpR_set hlt'
    obtain ⟨q1, q2⟩ := hq _ (show l.getD i default ∈ l by rw [getP hlt']; exact List.getElem_mem hlt')
    have hcl2 := cpR_labs l (i + 1)
    generalize hX : l.getD i default = p at *
    obtain ⟨a, b, c, d, e, v, g⟩ := p
    simp only [prC] at hs
    simp only at q1 q2
    have q3 : v.length * 8 ≤ 140737488355328 := by omega
    have q4 : (0 + v.length) * 8 ≤ 140737488355328 := by omega
    simp (config := { maxSteps := 9000000 }) only [↓vyD, vyU, binS, SV.go1, SV.go0, mkRow, intsOf, boolsOf, strsOf, chunks, Row.rep, Row.cat, Row.sub, Row.put, Row.len, Row.get, Row.size, Row.flat, bnds, own0, own1, labsL, labsR, SV.labs, argsOf, entFr, SO.ev, St.of, keepSt, getAll, lookN, hasN, SV.cells, SV.one, SV.res1, SV.res0, SV.resP, SV.ok1, SV.ok0, SV.okN, SV.solid, SV.solid1, SV.solid0, SV.flat0, SV.nm, SV.nm1, SV.nm0, SV.noPtr1, SV.noPtr0, Cel.isFresh, fillP, setAt, partV, eqCells, cellEq, gamY, listsOk, tupOf, takeOwn, SV.ret1, resAll, resL, resV, Nat.reduceEqDiff, ↓reduceIte, Nat.reduceAdd, Nat.reduceMul, Nat.reduceLeDiff, Nat.reduceLT, reduceCtorEq, labOk, Int.reduceBEq, Int.reduceBNe, Int.reduceToNat, Int.reduceLE, Int.reduceLT, Int.reduceEq, Nat.reduceDiv, Nat.reduceMod, Nat.reduceSub, Nat.reduceBEq, fitR, fitR1, fitR0, fitRL1, fitRL, gCy, scloneS, mapP_len, mapP_labs, List.all_nil, asP_rw, prC, hlt, hlt', hi0, hg, hg2, hs, hn, q1, q3, q4, b1, Int.toNat_natCast, not_false_eq_true]
    exact ⟨i + 1, ⟨by omega, by omega⟩, by rw [hcl2]; rfl, by simp, rfl⟩
  · have : i = l.length := by omega
    subst this
    have hc := cpR_n l
    simp (config := { maxSteps := 9000000 }) only [↓vyD, vyU, binS, SV.go1, SV.go0, mkRow, intsOf, boolsOf, strsOf, chunks, Row.rep, Row.cat, Row.sub, Row.put, Row.len, Row.get, Row.size, Row.flat, bnds, own0, own1, labsL, labsR, SV.labs, argsOf, entFr, SO.ev, St.of, keepSt, getAll, lookN, hasN, SV.cells, SV.one, SV.res1, SV.res0, SV.resP, SV.ok1, SV.ok0, SV.okN, SV.solid, SV.solid1, SV.solid0, SV.flat0, SV.nm, SV.nm1, SV.nm0, SV.noPtr1, SV.noPtr0, Cel.isFresh, fillP, setAt, partV, eqCells, cellEq, gamY, listsOk, tupOf, takeOwn, SV.ret1, resAll, resL, resV, Nat.reduceEqDiff, ↓reduceIte, Nat.reduceAdd, Nat.reduceMul, Nat.reduceLeDiff, Nat.reduceLT, reduceCtorEq, labOk, Int.reduceBEq, Int.reduceBNe, Int.reduceToNat, Int.reduceLE, Int.reduceLT, Int.reduceEq, Nat.reduceDiv, Nat.reduceMod, Nat.reduceSub, Nat.reduceBEq, fitR, fitR1, fitR0, fitRL1, fitRL, mapP_len, mapP_labs, List.all_nil, asP_rw, prC, Int.lt_irrefl, hcl, hc, List.contains_nil, eq_self, labsLL]
def pcopyS : Say
  | [x] => (asP x).map fun l => (SmC l, .sl 0 0, some (34, .recs 7 (mapP l)))
  | _ => none
theorem pcopy_ok : FOk Try.prog 45 pcopyS := by
  intro xs p r own h hp
  unfold pcopyS at h
  split at h
  · rename_i x
    obtain ⟨l, hx, h⟩ := Option.map_eq_some_iff.1 h
    simp only [Prod.mk.injEq] at h
    obtain ⟨rfl, rfl, rfl⟩ := h
    refine fun_fit (ys := [.rw (.recs 7 (mapP l))]) ?_ ⟨asP_fit hx, trivial⟩
    exact fun_ok gCy_ok lawy_mixed y45_eq (some 0) (pcopy_in l hp) (Nat.le_of_ble_eq_true rfl)
  · cases h
theorem okP_smC {l : List Pr} (h : psE l = 0) : SmC l := by
  obtain ⟨h1, h2, h3⟩ := psE_iff.1 h
  refine ⟨by omega, fun p hp => ⟨?_, ?_⟩⟩
  · have := isIdB_len (h2 p hp).1; omega
  · obtain ⟨w1, w2, _⟩ := winE_0.1 (h2 p hp).2.2.1; omega
theorem ltV_is (now g : Int) : (if 16777216 < now - g then (16777216 : Int) else now - g) = ltV now g := rfl
theorem heV_is {e : Int} {v : List Int} {x : Int} {p : Pr} {now : Int} (hp : p.cap = e ∧ p.vals = v ∧ ltV now p.last = x) (h : winE e v = 0) (hx : 0 ≤ x ∧ x ≤ 16777216) : pushE e v x = 0 ∧ pushC e v x = e ∧ pushL e v x = heV p now := by
  obtain ⟨rfl, rfl, hl⟩ := hp
  have hE : pushE p.cap p.vals x = 0 := pushE_0.2 ⟨h, hx⟩
  refine ⟨hE, if_pos hE, ?_⟩
  obtain ⟨h1, h2, _⟩ := winE_0.1 h
  rw [pushL, if_pos hE, heV, hl]
  by_cases hc : (p.vals.length : Int) = p.cap
  · rw [if_pos hc, if_pos (by omega), show ((p.vals.length : Int) + 1 - p.cap).toNat = 1 by omega, List.drop_append_of_le_length (by omega)]
  · rw [if_neg hc, if_neg (by omega)]; rfl
def gHr : List (Nat × Say) := [(88, takeS), (24, wpushS)]
theorem gHr_ok : GamOk Try.prog (gamY gHr) := gam_ok (gam_cons take_ok (gam_cons wpush_ok gam_nil))
def phrS : Say
  | [.agg [.str a, .int .i64 b, .int .i64 c, .int .i64 d, .int .i64 e, .rw (.ints .i64 f), .int .i64 g], .agg [.str id, .int .i64 i, .int .i64 s], .int .i64 now] => some (winE e f = 0 ∧ (0 ≤ now ∧ now ≤ 1073741824) ∧ 0 ≤ g ∧ g ≤ now, .tup [.agg (prC (heP ⟨a, b, c, d, e, f, g⟩ i s now)), .bool (takB b c d i s)], none)
  | _ => none
theorem phr_ok : FOk Try.prog 57 phrS := by
  intro xs p r own h hp
  unfold phrS at h
  split at h
  case h_2 => cases h
  rename_i a b c d e f g id i s now
  simp only [Option.some.injEq, Prod.mk.injEq] at h
  obtain ⟨rfl, rfl, rfl⟩ := h
  refine fun_ok gHr_ok lawy_mixed y57_eq none ?_ (Nat.le_of_ble_eq_true rfl)
  obtain ⟨hw, hnow, h0, hg⟩ := hp
  have w1 := i64_wrap (show I64 (now - g) by unfold I64; omega)
  have hx := ltV_is now g
  have hb := ltV_bd hg
  obtain ⟨p1, p2, p3⟩ := heV_is (p := ⟨a, b, c, d, e, f, g⟩) (now := now) ⟨rfl, rfl, rfl⟩ hw hb
  simp only at p1 p2 p3
  cases ht : takB b c d i s with
  | true =>
    have hP : heP ⟨a, b, c, d, e, f, g⟩ i s now = ⟨a, takA b c d i s, takS b c d i s, takD b c d i s, e, heV ⟨a, b, c, d, e, f, g⟩ now, now⟩ := if_pos ht
    rw [hP, ← p3]
    generalize hAT : takA b c d i s = tA at *
    generalize hST : takS b c d i s = tS at *
    generalize hDT : takD b c d i s = tD at *
    generalize ltV now g = x at *
    simp (config := { maxSteps := 9000000 }) only [↓vyD, vyU, binS, SV.go1, SV.go0, mkRow, intsOf, boolsOf, strsOf, chunks, Row.rep, Row.cat, Row.sub, Row.put, Row.len, Row.get, Row.size, Row.flat, bnds, own0, own1, labsL, labsR, SV.labs, argsOf, entFr, SO.ev, St.of, keepSt, getAll, lookN, hasN, SV.cells, SV.one, SV.res1, SV.res0, SV.resP, SV.ok1, SV.ok0, SV.okN, SV.solid, SV.solid1, SV.solid0, SV.flat0, SV.nm, SV.nm1, SV.nm0, SV.noPtr1, SV.noPtr0, Cel.isFresh, fillP, setAt, partV, eqCells, cellEq, gamY, listsOk, tupOf, takeOwn, SV.ret1, resAll, resL, resV, Nat.reduceEqDiff, ↓reduceIte, Nat.reduceAdd, Nat.reduceMul, Nat.reduceLeDiff, Nat.reduceLT, reduceCtorEq, labOk, Int.reduceBEq, Int.reduceBNe, Int.reduceToNat, Int.reduceLE, Int.reduceLT, Int.reduceEq, Nat.reduceDiv, Nat.reduceMod, Nat.reduceSub, Nat.reduceBEq, fitR, fitR1, fitR0, fitRL1, fitRL, y57, gHr, takeS, wpushS, asI, prC, ht, w1, hx, p2, hAT, hST, hDT, and_self]
  | false =>
    have hP : heP ⟨a, b, c, d, e, f, g⟩ i s now = ⟨a, takA b c d i s, takS b c d i s, takD b c d i s, e, f, g⟩ := if_neg (by simp only; rw [ht]; decide)
    rw [hP]
    generalize hAT : takA b c d i s = tA at *
    generalize hST : takS b c d i s = tS at *
    generalize hDT : takD b c d i s = tD at *
    simp (config := { maxSteps := 9000000 }) only [↓vyD, vyU, binS, SV.go1, SV.go0, mkRow, intsOf, boolsOf, strsOf, chunks, Row.rep, Row.cat, Row.sub, Row.put, Row.len, Row.get, Row.size, Row.flat, bnds, own0, own1, labsL, labsR, SV.labs, argsOf, entFr, SO.ev, St.of, keepSt, getAll, lookN, hasN, SV.cells, SV.one, SV.res1, SV.res0, SV.resP, SV.ok1, SV.ok0, SV.okN, SV.solid, SV.solid1, SV.solid0, SV.flat0, SV.nm, SV.nm1, SV.nm0, SV.noPtr1, SV.noPtr0, Cel.isFresh, fillP, setAt, partV, eqCells, cellEq, gamY, listsOk, tupOf, takeOwn, SV.ret1, resAll, resL, resV, Nat.reduceEqDiff, ↓reduceIte, Nat.reduceAdd, Nat.reduceMul, Nat.reduceLeDiff, Nat.reduceLT, reduceCtorEq, labOk, Int.reduceBEq, Int.reduceBNe, Int.reduceToNat, Int.reduceLE, Int.reduceLT, Int.reduceEq, Nat.reduceDiv, Nat.reduceMod, Nat.reduceSub, Nat.reduceBEq, fitR, fitR1, fitR0, fitRL1, fitRL, y57, gHr, takeS, wpushS, asI, prC, ht, w1, hx, p2, hAT, hST, hDT, and_self]
theorem pushE_nil {size first : Int} : (pushE size [] first = 0 ↔ (1 ≤ size ∧ size ≤ 64) ∧ valB first = true) := by
  rw [pushE_0, winE_0, valB_iff]
  constructor
  · rintro ⟨⟨h1, h2, h3⟩, h4⟩; exact ⟨h1, h4⟩
  · rintro ⟨h1, h4⟩; exact ⟨⟨h1, by simp; omega, listE_0.2 ⟨by simp, by simp⟩⟩, h4⟩
theorem fg_find {l : List Pr} {id : List UInt8} : (0 ≤ fdN l id l.length 0 ↔ (fgN (nmQ id) l l.length 0 : Int) < (l.length : Int)) ∧ (0 ≤ fdN l id l.length 0 → fdN l id l.length 0 = (fgN (nmQ id) l l.length 0 : Int)) ∧ (¬ 0 ≤ fdN l id l.length 0 → fgN (nmQ id) l l.length 0 = l.length) := by
  rcases fg_nm (l := l) (id := id) l.length 0 (by omega) with ⟨h1, h2⟩ | ⟨h1, h2⟩
  · exact ⟨⟨fun h => by omega, fun h => by omega⟩, fun h => by omega, fun _ => h2⟩
  · exact ⟨⟨fun h => by omega, fun h => by omega⟩, fun _ => h1, fun h => by omega⟩
theorem SmC_part {l m : List Pr} (h : SmC l) (hm : m.length ≤ 1000) (hs : ∀ p ∈ m, p ∈ l) : SmC m := ⟨hm, fun p hp => h.2 p (hs p hp)⟩
def gPa : List (Nat × Say) := [(13, pchkS), (40, idSS), (24, wpushS), (41, isTS), (43, pnmS), (44, pafS), (42, pfdS), (46, pcatgS), (45, pcopyS)]
theorem gPa_ok : GamOk Try.prog (gamY gPa) := gam_ok (gam_cons pchk_ok (gam_cons idS_ok (gam_cons wpush_ok (gam_cons isT_ok (gam_cons pnm_ok (gam_cons paf_ok (gam_cons pfd_ok (gam_cons pcatg_ok (gam_cons pcopy_ok gam_nil)))))))))
def paddS : Say
  | [x_l, .str id, .int .i64 size, .int .i64 first, .int .i64 now] => (match asP x_l with | some l => some (SmP l ∧ id.length ≤ 140737488355328, .tup [.rw (.recs 7 (mapP (apR l id size first now))), .int .i64 (apE l id size first now)], none) | _ => none)
  | _ => none
theorem padd_ok : FOk Try.prog 10 paddS := by
  intro xs p r own h hp
  unfold paddS at h
  split at h
  case h_2 => cases h
  rename_i x_l id size first now
  split at h
  case h_2 => cases h
  rename_i l h_l
  simp only [Option.some.injEq, Prod.mk.injEq] at h
  obtain ⟨rfl, rfl, rfl⟩ := h
  refine fun_fit (ys := [.rw (.recs 7 (mapP l)), .str id, .int .i64 size, .int .i64 first, .int .i64 now]) ?_ ⟨asP_fit h_l, fit_refl1 _ (by simp), fit_refl1 _ (by simp), fit_refl1 _ (by simp), fit_refl1 _ (by simp), trivial⟩
  clear h_l
  refine fun_ok gPa_ok lawy_mixed y10_eq none ?_ (Nat.le_of_ble_eq_true rfl)
  obtain ⟨h1, h2⟩ := hp
  have h1' : ∀ p ∈ l, p.id.length ≤ 140737488355328 := h1
  by_cases c : psE l = 0
  case neg =>
    have hE : apE l id size first now = psE l := if_neg c
    have hR : apR l id size first now = [] := if_neg c
    have c' : (psE l != 0) = true := by simpa using c
    rw [hE, hR]
    simp (config := { maxSteps := 9000000 }) only [↓vyD, vyU, binS, SV.go1, SV.go0, mkRow, intsOf, boolsOf, strsOf, chunks, Row.rep, Row.cat, Row.sub, Row.put, Row.len, Row.get, Row.size, Row.flat, bnds, own0, own1, labsL, labsR, SV.labs, argsOf, entFr, SO.ev, St.of, keepSt, getAll, lookN, hasN, SV.cells, SV.one, SV.res1, SV.res0, SV.resP, SV.ok1, SV.ok0, SV.okN, SV.solid, SV.solid1, SV.solid0, SV.flat0, SV.nm, SV.nm1, SV.nm0, SV.noPtr1, SV.noPtr0, Cel.isFresh, fillP, setAt, partV, eqCells, cellEq, gamY, listsOk, tupOf, takeOwn, SV.ret1, resAll, resL, resV, Nat.reduceEqDiff, ↓reduceIte, Nat.reduceAdd, Nat.reduceMul, Nat.reduceLeDiff, Nat.reduceLT, reduceCtorEq, labOk, Int.reduceBEq, Int.reduceBNe, Int.reduceToNat, Int.reduceLE, Int.reduceLT, Int.reduceEq, Nat.reduceDiv, Nat.reduceMod, Nat.reduceSub, Nat.reduceBEq, fitR, fitR1, fitR0, fitRL1, fitRL, y10, gPa, pchkS, idSS, wpushS, isTS, pnmS, pafS, pfdS, pcatgS, pcopyS, mapP_len, mapP_labs, List.all_nil, asP_rw, prC, pchkS, chkV, chkR_mapP, h1, c', mapP_nil, labsLL, eq_self]
  have hE : apE l id size first now = adE l id size first now := if_pos c
  have hR : apR l id size first now = adR l id size first now := if_pos c
  rw [hE, hR]
  have h6 := (psE_iff.1 c).1
  have hC := okP_smC c
  have hl2 : l.length ≤ 1000 := by omega
  by_cases c1 : isIdB id = true
  case neg =>
    have hE : adE l id size first now = 3 := if_neg c1
    have hR : adR l id size first now = [] := if_neg (by omega)
    have c1' : isIdB id = false := by simpa using c1
    simp (config := { maxSteps := 9000000 }) only [↓vyD, vyU, binS, SV.go1, SV.go0, mkRow, intsOf, boolsOf, strsOf, chunks, Row.rep, Row.cat, Row.sub, Row.put, Row.len, Row.get, Row.size, Row.flat, bnds, own0, own1, labsL, labsR, SV.labs, argsOf, entFr, SO.ev, St.of, keepSt, getAll, lookN, hasN, SV.cells, SV.one, SV.res1, SV.res0, SV.resP, SV.ok1, SV.ok0, SV.okN, SV.solid, SV.solid1, SV.solid0, SV.flat0, SV.nm, SV.nm1, SV.nm0, SV.noPtr1, SV.noPtr0, Cel.isFresh, fillP, setAt, partV, eqCells, cellEq, gamY, listsOk, tupOf, takeOwn, SV.ret1, resAll, resL, resV, Nat.reduceEqDiff, ↓reduceIte, Nat.reduceAdd, Nat.reduceMul, Nat.reduceLeDiff, Nat.reduceLT, reduceCtorEq, labOk, Int.reduceBEq, Int.reduceBNe, Int.reduceToNat, Int.reduceLE, Int.reduceLT, Int.reduceEq, Nat.reduceDiv, Nat.reduceMod, Nat.reduceSub, Nat.reduceBEq, fitR, fitR1, fitR0, fitRL1, fitRL, y10, gPa, pchkS, idSS, wpushS, isTS, pnmS, pafS, pfdS, pcatgS, pcopyS, mapP_len, mapP_labs, List.all_nil, asP_rw, prC, pchkS, chkV, chkR_mapP, h1, c, hE, hR, h2, c1', mapP_nil, labsLL, eq_self]
  by_cases c2 : pushE size [] first = 0
  case neg =>
    have hE : adE l id size first now = 1 := by
      rw [adE, if_pos c1]
      by_cases d : 1 ≤ size ∧ size ≤ 64
      · rw [if_pos d, if_neg (fun h => c2 (pushE_nil.2 ⟨d, h⟩))]
      · rw [if_neg d]
    have hR : adR l id size first now = [] := if_neg (by omega)
    have c2' : (pushE size [] first != 0) = true := by simpa using c2
    simp (config := { maxSteps := 9000000 }) only [↓vyD, vyU, binS, SV.go1, SV.go0, mkRow, intsOf, boolsOf, strsOf, chunks, Row.rep, Row.cat, Row.sub, Row.put, Row.len, Row.get, Row.size, Row.flat, bnds, own0, own1, labsL, labsR, SV.labs, argsOf, entFr, SO.ev, St.of, keepSt, getAll, lookN, hasN, SV.cells, SV.one, SV.res1, SV.res0, SV.resP, SV.ok1, SV.ok0, SV.okN, SV.solid, SV.solid1, SV.solid0, SV.flat0, SV.nm, SV.nm1, SV.nm0, SV.noPtr1, SV.noPtr0, Cel.isFresh, fillP, setAt, partV, eqCells, cellEq, gamY, listsOk, tupOf, takeOwn, SV.ret1, resAll, resL, resV, Nat.reduceEqDiff, ↓reduceIte, Nat.reduceAdd, Nat.reduceMul, Nat.reduceLeDiff, Nat.reduceLT, reduceCtorEq, labOk, Int.reduceBEq, Int.reduceBNe, Int.reduceToNat, Int.reduceLE, Int.reduceLT, Int.reduceEq, Nat.reduceDiv, Nat.reduceMod, Nat.reduceSub, Nat.reduceBEq, fitR, fitR1, fitR0, fitRL1, fitRL, y10, gPa, pchkS, idSS, wpushS, isTS, pnmS, pafS, pfdS, pcatgS, pcopyS, mapP_len, mapP_labs, List.all_nil, asP_rw, prC, pchkS, chkV, chkR_mapP, h1, c, asI, hE, hR, h2, c1, c2', mapP_nil, labsLL, eq_self]
  obtain ⟨d2, d3⟩ := pushE_nil.1 c2
  by_cases c4 : 0 ≤ now ∧ now ≤ 1073741824
  case neg =>
    have hE : adE l id size first now = 1 := by rw [adE, if_pos c1, if_pos d2, if_pos d3, if_neg c4]
    have hR : adR l id size first now = [] := if_neg (by omega)
    have c4' : decide (0 ≤ now ∧ now ≤ 1073741824) = false := decide_eq_false c4
    simp (config := { maxSteps := 9000000 }) only [↓vyD, vyU, binS, SV.go1, SV.go0, mkRow, intsOf, boolsOf, strsOf, chunks, Row.rep, Row.cat, Row.sub, Row.put, Row.len, Row.get, Row.size, Row.flat, bnds, own0, own1, labsL, labsR, SV.labs, argsOf, entFr, SO.ev, St.of, keepSt, getAll, lookN, hasN, SV.cells, SV.one, SV.res1, SV.res0, SV.resP, SV.ok1, SV.ok0, SV.okN, SV.solid, SV.solid1, SV.solid0, SV.flat0, SV.nm, SV.nm1, SV.nm0, SV.noPtr1, SV.noPtr0, Cel.isFresh, fillP, setAt, partV, eqCells, cellEq, gamY, listsOk, tupOf, takeOwn, SV.ret1, resAll, resL, resV, Nat.reduceEqDiff, ↓reduceIte, Nat.reduceAdd, Nat.reduceMul, Nat.reduceLeDiff, Nat.reduceLT, reduceCtorEq, labOk, Int.reduceBEq, Int.reduceBNe, Int.reduceToNat, Int.reduceLE, Int.reduceLT, Int.reduceEq, Nat.reduceDiv, Nat.reduceMod, Nat.reduceSub, Nat.reduceBEq, fitR, fitR1, fitR0, fitRL1, fitRL, y10, gPa, pchkS, idSS, wpushS, isTS, pnmS, pafS, pfdS, pcatgS, pcopyS, mapP_len, mapP_labs, List.all_nil, asP_rw, prC, pchkS, chkV, chkR_mapP, h1, c, asI, hE, hR, h2, c1, c2, c4', mapP_nil, labsLL, eq_self]
  have c4' : decide (0 ≤ now ∧ now ≤ 1073741824) = true := decide_eq_true c4
  obtain ⟨f1, f2, f3⟩ := fg_find (l := l) (id := id)
  by_cases c5 : 0 ≤ fdN l id l.length 0
  · have hE : adE l id size first now = 5 := by rw [adE, if_pos c1, if_pos d2, if_pos d3, if_pos c4, if_pos c5]
    have hR : adR l id size first now = [] := if_neg (by omega)
    have c5' := f1.1 c5
    simp (config := { maxSteps := 9000000 }) only [↓vyD, vyU, binS, SV.go1, SV.go0, mkRow, intsOf, boolsOf, strsOf, chunks, Row.rep, Row.cat, Row.sub, Row.put, Row.len, Row.get, Row.size, Row.flat, bnds, own0, own1, labsL, labsR, SV.labs, argsOf, entFr, SO.ev, St.of, keepSt, getAll, lookN, hasN, SV.cells, SV.one, SV.res1, SV.res0, SV.resP, SV.ok1, SV.ok0, SV.okN, SV.solid, SV.solid1, SV.solid0, SV.flat0, SV.nm, SV.nm1, SV.nm0, SV.noPtr1, SV.noPtr0, Cel.isFresh, fillP, setAt, partV, eqCells, cellEq, gamY, listsOk, tupOf, takeOwn, SV.ret1, resAll, resL, resV, Nat.reduceEqDiff, ↓reduceIte, Nat.reduceAdd, Nat.reduceMul, Nat.reduceLeDiff, Nat.reduceLT, reduceCtorEq, labOk, Int.reduceBEq, Int.reduceBNe, Int.reduceToNat, Int.reduceLE, Int.reduceLT, Int.reduceEq, Nat.reduceDiv, Nat.reduceMod, Nat.reduceSub, Nat.reduceBEq, fitR, fitR1, fitR0, fitRL1, fitRL, y10, gPa, pchkS, idSS, wpushS, isTS, pnmS, pafS, pfdS, pcatgS, pcopyS, mapP_len, mapP_labs, List.all_nil, asP_rw, prC, pchkS, chkV, chkR_mapP, h1, c, asI, hE, hR, h2, hl2, c1, c2, c4', c5', mapP_nil, labsLL, eq_self]
  have f4 := f3 c5
  have c5' : ¬ (l.length : Int) < (l.length : Int) := by omega
  by_cases c6 : 5 < l.length
  · have hE : adE l id size first now = 10 := by rw [adE, if_pos c1, if_pos d2, if_pos d3, if_pos c4, if_neg c5, if_pos c6]
    have hR : adR l id size first now = [] := if_neg (by omega)
    have c6' : ((l.length : Int) == 6) = true := by rw [beq_iff_eq]; omega
    simp (config := { maxSteps := 9000000 }) only [↓vyD, vyU, binS, SV.go1, SV.go0, mkRow, intsOf, boolsOf, strsOf, chunks, Row.rep, Row.cat, Row.sub, Row.put, Row.len, Row.get, Row.size, Row.flat, bnds, own0, own1, labsL, labsR, SV.labs, argsOf, entFr, SO.ev, St.of, keepSt, getAll, lookN, hasN, SV.cells, SV.one, SV.res1, SV.res0, SV.resP, SV.ok1, SV.ok0, SV.okN, SV.solid, SV.solid1, SV.solid0, SV.flat0, SV.nm, SV.nm1, SV.nm0, SV.noPtr1, SV.noPtr0, Cel.isFresh, fillP, setAt, partV, eqCells, cellEq, gamY, listsOk, tupOf, takeOwn, SV.ret1, resAll, resL, resV, Nat.reduceEqDiff, ↓reduceIte, Nat.reduceAdd, Nat.reduceMul, Nat.reduceLeDiff, Nat.reduceLT, reduceCtorEq, labOk, Int.reduceBEq, Int.reduceBNe, Int.reduceToNat, Int.reduceLE, Int.reduceLT, Int.reduceEq, Nat.reduceDiv, Nat.reduceMod, Nat.reduceSub, Nat.reduceBEq, fitR, fitR1, fitR0, fitRL1, fitRL, y10, gPa, pchkS, idSS, wpushS, isTS, pnmS, pafS, pfdS, pcatgS, pcopyS, mapP_len, mapP_labs, List.all_nil, asP_rw, prC, pchkS, chkV, chkR_mapP, h1, c, asI, hE, hR, h2, hl2, c1, c2, c4', f4, c5', c6', mapP_nil, labsLL, eq_self]
  have hE : adE l id size first now = 0 := by rw [adE, if_pos c1, if_pos d2, if_pos d3, if_pos c4, if_neg c5, if_neg c6]
  have hR : adR l id size first now = adL l id size first now := if_pos hE
  have c6' : ((l.length : Int) == 6) = false := by rw [beq_eq_false_iff_ne]; omega
  have hn := fdN_no.1 (show fdN l id l.length 0 < 0 by omega)
  have hA := fg_af hn l.length 0 (by omega)
  have hAl := (atP_le l id l.length 0).2
  have e2 : pushC size [] first = size := if_pos c2
  have e3 : pushL size [] first = [first] := by
    rw [pushL, if_pos c2]
    split <;> rfl
  have hCA : SmC (adL l id size first now) := okP_smC (adL_ok c hE)
  have hL : adL l id size first now = l.take (atP l id l.length 0) ++ [⟨id, 0, 0, 0, size, [first], now⟩] ++ l.drop (atP l id l.length 0) := rfl
  rw [hE, hR]
  rw [hL] at hCA ⊢
  generalize hk : atP l id l.length 0 = k at *
  have k0 : (0 : Int) ≤ (k : Int) := by omega
  have k1 : (k : Int) ≤ (l.length : Int) := by omega
  have e0 : List.take l.length (mapP l) = mapP l := List.take_of_length_le (by rw [mapP_len]; omega)
  have e1 : (l.take k).length + 1 + (l.drop k).length ≤ 1000 := by rw [List.length_take, List.length_drop]; omega
  generalize hD : l.take k = D at *
  generalize hE2 : l.drop k = E2 at *
  simp (config := { maxSteps := 9000000 }) only [↓vyD, vyU, binS, SV.go1, SV.go0, mkRow, intsOf, boolsOf, strsOf, chunks, Row.rep, Row.cat, Row.sub, Row.put, Row.len, Row.get, Row.size, Row.flat, bnds, own0, own1, labsL, labsR, SV.labs, argsOf, entFr, SO.ev, St.of, keepSt, getAll, lookN, hasN, SV.cells, SV.one, SV.res1, SV.res0, SV.resP, SV.ok1, SV.ok0, SV.okN, SV.solid, SV.solid1, SV.solid0, SV.flat0, SV.nm, SV.nm1, SV.nm0, SV.noPtr1, SV.noPtr0, Cel.isFresh, fillP, setAt, partV, eqCells, cellEq, gamY, listsOk, tupOf, takeOwn, SV.ret1, resAll, resL, resV, Nat.reduceEqDiff, ↓reduceIte, Nat.reduceAdd, Nat.reduceMul, Nat.reduceLeDiff, Nat.reduceLT, reduceCtorEq, labOk, Int.reduceBEq, Int.reduceBNe, Int.reduceToNat, Int.reduceLE, Int.reduceLT, Int.reduceEq, Nat.reduceDiv, Nat.reduceMod, Nat.reduceSub, Nat.reduceBEq, fitR, fitR1, fitR0, fitRL1, fitRL, y10, gPa, pchkS, idSS, wpushS, isTS, pnmS, pafS, pfdS, pcatgS, pcopyS, mapP_len, mapP_labs, List.all_nil, asP_rw, prC, pchkS, chkV, chkR_mapP, pcatgS, pcatS, h1, c, asI, h2, hl2, c1, c2, c4', f4, c5', c6', e2, e3, hA, k0, k1, e0, e1, mapP_take, mapP_drop, hD, hE2, hCA, toPs_mapP, toPs, toPr, labsLL, labsL, SV.labs, labsR, List.append_nil, List.isEmpty_nil, List.length_cons, List.length_nil, eq_self, Int.toNat_natCast, Int.le_refl]
  split <;> trivial
def gPb2 : List (Nat × Say) := [(13, pchkS), (43, pnmS), (42, pfdS), (46, pcatgS), (45, pcopyS)]
theorem gPb2_ok : GamOk Try.prog (gamY gPb2) := gam_ok (gam_cons pchk_ok (gam_cons pnm_ok (gam_cons pfd_ok (gam_cons pcatg_ok (gam_cons pcopy_ok gam_nil)))))
def pdropS : Say
  | [x_l, .str id] => (match asP x_l with | some l => some (SmP l, .tup [.rw (.recs 7 (mapP (dpR l id))), .int .i64 (dpE l id)], none) | _ => none)
  | _ => none
theorem pdrop_ok : FOk Try.prog 11 pdropS := by
  intro xs p r own h hp
  unfold pdropS at h
  split at h
  case h_2 => cases h
  rename_i x_l id
  split at h
  case h_2 => cases h
  rename_i l h_l
  simp only [Option.some.injEq, Prod.mk.injEq] at h
  obtain ⟨rfl, rfl, rfl⟩ := h
  refine fun_fit (ys := [.rw (.recs 7 (mapP l)), .str id]) ?_ ⟨asP_fit h_l, fit_refl1 _ (by simp), trivial⟩
  clear h_l
  refine fun_ok gPb2_ok lawy_mixed y11_eq none ?_ (Nat.le_of_ble_eq_true rfl)
  have h1 := hp
  have h1' : ∀ p ∈ l, p.id.length ≤ 140737488355328 := hp
  by_cases c : psE l = 0
  case neg =>
    have hE : dpE l id = psE l := if_neg c
    have hR : dpR l id = [] := if_neg c
    have c' : (psE l != 0) = true := by simpa using c
    rw [hE, hR]
    simp (config := { maxSteps := 9000000 }) only [↓vyD, vyU, binS, SV.go1, SV.go0, mkRow, intsOf, boolsOf, strsOf, chunks, Row.rep, Row.cat, Row.sub, Row.put, Row.len, Row.get, Row.size, Row.flat, bnds, own0, own1, labsL, labsR, SV.labs, argsOf, entFr, SO.ev, St.of, keepSt, getAll, lookN, hasN, SV.cells, SV.one, SV.res1, SV.res0, SV.resP, SV.ok1, SV.ok0, SV.okN, SV.solid, SV.solid1, SV.solid0, SV.flat0, SV.nm, SV.nm1, SV.nm0, SV.noPtr1, SV.noPtr0, Cel.isFresh, fillP, setAt, partV, eqCells, cellEq, gamY, listsOk, tupOf, takeOwn, SV.ret1, resAll, resL, resV, Nat.reduceEqDiff, ↓reduceIte, Nat.reduceAdd, Nat.reduceMul, Nat.reduceLeDiff, Nat.reduceLT, reduceCtorEq, labOk, Int.reduceBEq, Int.reduceBNe, Int.reduceToNat, Int.reduceLE, Int.reduceLT, Int.reduceEq, Nat.reduceDiv, Nat.reduceMod, Nat.reduceSub, Nat.reduceBEq, fitR, fitR1, fitR0, fitRL1, fitRL, y11, gPb2, pchkS, pnmS, pfdS, pcatgS, pcopyS, mapP_len, mapP_labs, List.all_nil, asP_rw, prC, pchkS, chkV, chkR_mapP, h1, c', mapP_nil, labsLL, eq_self]
  have hE : dpE l id = drE l id := if_pos c
  have hR : dpR l id = drR l id := if_pos c
  rw [hE, hR]
  have h6 := (psE_iff.1 c).1
  have hC := okP_smC c
  have hl2 : l.length ≤ 1000 := by omega
  obtain ⟨f1, f2, f3⟩ := fg_find (l := l) (id := id)
  by_cases c5 : fdN l id l.length 0 < 0
  · have hE : drE l id = 4 := if_pos c5
    have hR : drR l id = [] := if_neg (by omega)
    have f4 := f3 (by omega)
    have c5' : ((l.length : Int) == (l.length : Int)) = true := by simp
    simp (config := { maxSteps := 9000000 }) only [↓vyD, vyU, binS, SV.go1, SV.go0, mkRow, intsOf, boolsOf, strsOf, chunks, Row.rep, Row.cat, Row.sub, Row.put, Row.len, Row.get, Row.size, Row.flat, bnds, own0, own1, labsL, labsR, SV.labs, argsOf, entFr, SO.ev, St.of, keepSt, getAll, lookN, hasN, SV.cells, SV.one, SV.res1, SV.res0, SV.resP, SV.ok1, SV.ok0, SV.okN, SV.solid, SV.solid1, SV.solid0, SV.flat0, SV.nm, SV.nm1, SV.nm0, SV.noPtr1, SV.noPtr0, Cel.isFresh, fillP, setAt, partV, eqCells, cellEq, gamY, listsOk, tupOf, takeOwn, SV.ret1, resAll, resL, resV, Nat.reduceEqDiff, ↓reduceIte, Nat.reduceAdd, Nat.reduceMul, Nat.reduceLeDiff, Nat.reduceLT, reduceCtorEq, labOk, Int.reduceBEq, Int.reduceBNe, Int.reduceToNat, Int.reduceLE, Int.reduceLT, Int.reduceEq, Nat.reduceDiv, Nat.reduceMod, Nat.reduceSub, Nat.reduceBEq, fitR, fitR1, fitR0, fitRL1, fitRL, y11, gPb2, pchkS, pnmS, pfdS, pcatgS, pcopyS, mapP_len, mapP_labs, List.all_nil, asP_rw, prC, pchkS, chkV, chkR_mapP, h1, c, hE, hR, hl2, f4, c5', mapP_nil, labsLL, eq_self]
  · have c6 : 0 ≤ fdN l id l.length 0 := by omega
    have f4 := f2 c6
    have f5 := f1.1 c6
    have hE : drE l id = 0 := if_neg c5
    have hR : drR l id = drL l (fgN (nmQ id) l l.length 0) := by rw [drR, if_pos hE, f4, Int.toNat_natCast]
    generalize hk : fgN (nmQ id) l l.length 0 = k at *
    have b1 := i64_wrap (show I64 ((k : Int) + 1) by unfold I64; omega)
    have c5' : ((k : Int) == (l.length : Int)) = false := by rw [beq_eq_false_iff_ne]; omega
    have e0 : List.take l.length (mapP l) = mapP l := List.take_of_length_le (by rw [mapP_len]; omega)
    have e1 : (l.take k).length + (l.drop (k + 1)).length ≤ 1000 := by rw [List.length_take, List.length_drop]; omega
    have k0 : (0 : Int) ≤ (k : Int) := by omega
    have k1 : (k : Int) ≤ (l.length : Int) := by omega
    have k2 : (0 : Int) ≤ (k : Int) + 1 := by omega
    have k3 : (k : Int) + 1 ≤ (l.length : Int) := by omega
    have k4 : ((k : Int) + 1).toNat = k + 1 := by omega
    have hCA : SmC (drL l k) := SmC_part hC (by rw [drL, List.length_append]; exact e1) fun p hp => by
      rcases List.mem_append.1 hp with h | h
      · exact List.mem_of_mem_take h
      · exact List.mem_of_mem_drop h
    rw [hE, hR]
    rw [drL] at hCA ⊢
    generalize hD : l.take k = D at *
    generalize hE2 : l.drop (k + 1) = E2 at *
    simp (config := { maxSteps := 9000000 }) only [↓vyD, vyU, binS, SV.go1, SV.go0, mkRow, intsOf, boolsOf, strsOf, chunks, Row.rep, Row.cat, Row.sub, Row.put, Row.len, Row.get, Row.size, Row.flat, bnds, own0, own1, labsL, labsR, SV.labs, argsOf, entFr, SO.ev, St.of, keepSt, getAll, lookN, hasN, SV.cells, SV.one, SV.res1, SV.res0, SV.resP, SV.ok1, SV.ok0, SV.okN, SV.solid, SV.solid1, SV.solid0, SV.flat0, SV.nm, SV.nm1, SV.nm0, SV.noPtr1, SV.noPtr0, Cel.isFresh, fillP, setAt, partV, eqCells, cellEq, gamY, listsOk, tupOf, takeOwn, SV.ret1, resAll, resL, resV, Nat.reduceEqDiff, ↓reduceIte, Nat.reduceAdd, Nat.reduceMul, Nat.reduceLeDiff, Nat.reduceLT, reduceCtorEq, labOk, Int.reduceBEq, Int.reduceBNe, Int.reduceToNat, Int.reduceLE, Int.reduceLT, Int.reduceEq, Nat.reduceDiv, Nat.reduceMod, Nat.reduceSub, Nat.reduceBEq, fitR, fitR1, fitR0, fitRL1, fitRL, y11, gPb2, pchkS, pnmS, pfdS, pcatgS, pcopyS, mapP_len, mapP_labs, List.all_nil, asP_rw, prC, pchkS, chkV, chkR_mapP, pcatgS, pcatS, h1, c, hl2, hk, c5', b1, e0, e1, k0, k1, k2, k3, k4, mapP_take, mapP_drop, hD, hE2, hCA, toPs_mapP, labsLL, labsL, SV.labs, labsR, List.append_nil, List.isEmpty_nil, eq_self, Int.toNat_natCast, Int.le_refl]
    split <;> trivial
def gPc : List (Nat × Say) := [(13, pchkS), (56, chkS), (41, isTS), (43, pnmS), (42, pfdS), (45, pcopyS), (57, phrS)]
theorem gPc_ok : GamOk Try.prog (gamY gPc) := gam_ok (gam_cons pchk_ok (gam_cons chk_ok (gam_cons isT_ok (gam_cons pnm_ok (gam_cons pfd_ok (gam_cons pcopy_ok (gam_cons phr_ok gam_nil)))))))
def phearS : Say
  | [x_l, .agg [.str id, .int .i64 i, .int .i64 s], .int .i64 now] => (match asP x_l with | some l => some (SmP l ∧ id.length ≤ 140737488355328, .tup [.rw (.recs 7 (mapP (hpR l id i s now))), .bool (hpB l id i s now), .int .i64 (hpE l id i s now)], none) | _ => none)
  | _ => none
theorem phear_ok : FOk Try.prog 17 phearS := by
  intro xs p r own h hp
  unfold phearS at h
  split at h
  case h_2 => cases h
  rename_i x_l id i s now
  split at h
  case h_2 => cases h
  rename_i l h_l
  simp only [Option.some.injEq, Prod.mk.injEq] at h
  obtain ⟨rfl, rfl, rfl⟩ := h
  refine fun_fit (ys := [.rw (.recs 7 (mapP l)), .agg [.str id, .int .i64 i, .int .i64 s], .int .i64 now]) ?_ ⟨asP_fit h_l, fit_refl_agg _, fit_refl1 _ (by simp), trivial⟩
  clear h_l
  refine fun_ok gPc_ok lawy_mixed y17_eq none ?_ (Nat.le_of_ble_eq_true rfl)
  obtain ⟨h1, h2⟩ := hp
  have h1' : ∀ p ∈ l, p.id.length ≤ 140737488355328 := h1
  by_cases c : psE l = 0
  case neg =>
    have hE : hpE l id i s now = psE l := if_neg c
    have hR : hpR l id i s now = [] := if_neg c
    have hB : hpB l id i s now = false := if_neg c
    have c' : (psE l != 0) = true := by simpa using c
    rw [hE, hR, hB]
    simp (config := { maxSteps := 9000000 }) only [↓vyD, vyU, binS, SV.go1, SV.go0, mkRow, intsOf, boolsOf, strsOf, chunks, Row.rep, Row.cat, Row.sub, Row.put, Row.len, Row.get, Row.size, Row.flat, bnds, own0, own1, labsL, labsR, SV.labs, argsOf, entFr, SO.ev, St.of, keepSt, getAll, lookN, hasN, SV.cells, SV.one, SV.res1, SV.res0, SV.resP, SV.ok1, SV.ok0, SV.okN, SV.solid, SV.solid1, SV.solid0, SV.flat0, SV.nm, SV.nm1, SV.nm0, SV.noPtr1, SV.noPtr0, Cel.isFresh, fillP, setAt, partV, eqCells, cellEq, gamY, listsOk, tupOf, takeOwn, SV.ret1, resAll, resL, resV, Nat.reduceEqDiff, ↓reduceIte, Nat.reduceAdd, Nat.reduceMul, Nat.reduceLeDiff, Nat.reduceLT, reduceCtorEq, labOk, Int.reduceBEq, Int.reduceBNe, Int.reduceToNat, Int.reduceLE, Int.reduceLT, Int.reduceEq, Nat.reduceDiv, Nat.reduceMod, Nat.reduceSub, Nat.reduceBEq, fitR, fitR1, fitR0, fitRL1, fitRL, y17, gPc, pchkS, chkS, isTS, pnmS, pfdS, pcopyS, phrS, mapP_len, mapP_labs, List.all_nil, asP_rw, prC, pchkS, chkV, chkR_mapP, h1, c', mapP_nil, labsLL, eq_self]
  have hE : hpE l id i s now = heE l id i s now := if_pos c
  have hR : hpR l id i s now = heR l id i s now := if_pos c
  have hB : hpB l id i s now = heB l id i s now := if_pos c
  rw [hE, hR, hB]
  have h6 := (psE_iff.1 c).1
  have hC := okP_smC c
  have hl2 : l.length ≤ 1000 := by omega
  by_cases c1 : chkE id i s = 0
  case neg =>
    have hE : heE l id i s now = chkE id i s := if_neg c1
    have hR : heR l id i s now = [] := if_neg (by omega)
    have hB : heB l id i s now = false := if_neg (by omega)
    have c1' : (chkE id i s != 0) = true := by simpa using c1
    simp (config := { maxSteps := 9000000 }) only [↓vyD, vyU, binS, SV.go1, SV.go0, mkRow, intsOf, boolsOf, strsOf, chunks, Row.rep, Row.cat, Row.sub, Row.put, Row.len, Row.get, Row.size, Row.flat, bnds, own0, own1, labsL, labsR, SV.labs, argsOf, entFr, SO.ev, St.of, keepSt, getAll, lookN, hasN, SV.cells, SV.one, SV.res1, SV.res0, SV.resP, SV.ok1, SV.ok0, SV.okN, SV.solid, SV.solid1, SV.solid0, SV.flat0, SV.nm, SV.nm1, SV.nm0, SV.noPtr1, SV.noPtr0, Cel.isFresh, fillP, setAt, partV, eqCells, cellEq, gamY, listsOk, tupOf, takeOwn, SV.ret1, resAll, resL, resV, Nat.reduceEqDiff, ↓reduceIte, Nat.reduceAdd, Nat.reduceMul, Nat.reduceLeDiff, Nat.reduceLT, reduceCtorEq, labOk, Int.reduceBEq, Int.reduceBNe, Int.reduceToNat, Int.reduceLE, Int.reduceLT, Int.reduceEq, Nat.reduceDiv, Nat.reduceMod, Nat.reduceSub, Nat.reduceBEq, fitR, fitR1, fitR0, fitRL1, fitRL, y17, gPc, pchkS, chkS, isTS, pnmS, pfdS, pcopyS, phrS, mapP_len, mapP_labs, List.all_nil, asP_rw, prC, pchkS, chkV, chkR_mapP, h1, c, hE, hR, hB, h2, c1', mapP_nil, labsLL, eq_self]
  by_cases c2 : 0 ≤ now ∧ now ≤ 1073741824
  case neg =>
    have hE : heE l id i s now = 1 := by rw [heE, if_pos c1, if_neg c2]
    have hR : heR l id i s now = [] := if_neg (by omega)
    have hB : heB l id i s now = false := if_neg (by omega)
    have c2' : decide (0 ≤ now ∧ now ≤ 1073741824) = false := decide_eq_false c2
    simp (config := { maxSteps := 9000000 }) only [↓vyD, vyU, binS, SV.go1, SV.go0, mkRow, intsOf, boolsOf, strsOf, chunks, Row.rep, Row.cat, Row.sub, Row.put, Row.len, Row.get, Row.size, Row.flat, bnds, own0, own1, labsL, labsR, SV.labs, argsOf, entFr, SO.ev, St.of, keepSt, getAll, lookN, hasN, SV.cells, SV.one, SV.res1, SV.res0, SV.resP, SV.ok1, SV.ok0, SV.okN, SV.solid, SV.solid1, SV.solid0, SV.flat0, SV.nm, SV.nm1, SV.nm0, SV.noPtr1, SV.noPtr0, Cel.isFresh, fillP, setAt, partV, eqCells, cellEq, gamY, listsOk, tupOf, takeOwn, SV.ret1, resAll, resL, resV, Nat.reduceEqDiff, ↓reduceIte, Nat.reduceAdd, Nat.reduceMul, Nat.reduceLeDiff, Nat.reduceLT, reduceCtorEq, labOk, Int.reduceBEq, Int.reduceBNe, Int.reduceToNat, Int.reduceLE, Int.reduceLT, Int.reduceEq, Nat.reduceDiv, Nat.reduceMod, Nat.reduceSub, Nat.reduceBEq, fitR, fitR1, fitR0, fitRL1, fitRL, y17, gPc, pchkS, chkS, isTS, pnmS, pfdS, pcopyS, phrS, mapP_len, mapP_labs, List.all_nil, asP_rw, prC, pchkS, chkV, chkR_mapP, h1, c, hE, hR, hB, h2, c1, c2', mapP_nil, labsLL, eq_self]
  have c2' : decide (0 ≤ now ∧ now ≤ 1073741824) = true := decide_eq_true c2
  obtain ⟨f1, f2, f3⟩ := fg_find (l := l) (id := id)
  by_cases c3 : fdN l id l.length 0 < 0
  · have hE : heE l id i s now = 4 := by rw [heE, if_pos c1, if_pos c2, if_pos c3]
    have hR : heR l id i s now = [] := if_neg (by omega)
    have hB : heB l id i s now = false := if_neg (by omega)
    have f4 := f3 (by omega)
    have c5' : ((l.length : Int) == (l.length : Int)) = true := by simp
    simp (config := { maxSteps := 9000000 }) only [↓vyD, vyU, binS, SV.go1, SV.go0, mkRow, intsOf, boolsOf, strsOf, chunks, Row.rep, Row.cat, Row.sub, Row.put, Row.len, Row.get, Row.size, Row.flat, bnds, own0, own1, labsL, labsR, SV.labs, argsOf, entFr, SO.ev, St.of, keepSt, getAll, lookN, hasN, SV.cells, SV.one, SV.res1, SV.res0, SV.resP, SV.ok1, SV.ok0, SV.okN, SV.solid, SV.solid1, SV.solid0, SV.flat0, SV.nm, SV.nm1, SV.nm0, SV.noPtr1, SV.noPtr0, Cel.isFresh, fillP, setAt, partV, eqCells, cellEq, gamY, listsOk, tupOf, takeOwn, SV.ret1, resAll, resL, resV, Nat.reduceEqDiff, ↓reduceIte, Nat.reduceAdd, Nat.reduceMul, Nat.reduceLeDiff, Nat.reduceLT, reduceCtorEq, labOk, Int.reduceBEq, Int.reduceBNe, Int.reduceToNat, Int.reduceLE, Int.reduceLT, Int.reduceEq, Nat.reduceDiv, Nat.reduceMod, Nat.reduceSub, Nat.reduceBEq, fitR, fitR1, fitR0, fitRL1, fitRL, y17, gPc, pchkS, chkS, isTS, pnmS, pfdS, pcopyS, phrS, mapP_len, mapP_labs, List.all_nil, asP_rw, prC, pchkS, chkV, chkR_mapP, h1, c, hE, hR, hB, h2, hl2, c1, c2', f4, c5', mapP_nil, labsLL, eq_self]
  have c6 : 0 ≤ fdN l id l.length 0 := by omega
  have f4 := f2 c6
  have f5 := f1.1 c6
  generalize hk : fgN (nmQ id) l l.length 0 = k at *
  have hk1 : k < l.length := by omega
  have c5' : ((k : Int) == (l.length : Int)) = false := by rw [beq_eq_false_iff_ne]; omega
  have hg := mapP_get hk1
  have k0 : (0 : Int) ≤ (k : Int) := by omega
  have k1 : (k : Int) < (l.length : Int) := by omega
  by_cases c4 : now < (l.getD k default).last
  · have hE : heE l id i s now = 1 := by rw [heE, if_pos c1, if_pos c2, if_neg c3, f4, Int.toNat_natCast, if_pos c4]
    have hR : heR l id i s now = [] := if_neg (by omega)
    have hB : heB l id i s now = false := if_neg (by omega)
    generalize l.getD k default = p at *
    obtain ⟨a, b, c0, d, e, v, g⟩ := p
    simp only at c4
    simp (config := { maxSteps := 9000000 }) only [↓vyD, vyU, binS, SV.go1, SV.go0, mkRow, intsOf, boolsOf, strsOf, chunks, Row.rep, Row.cat, Row.sub, Row.put, Row.len, Row.get, Row.size, Row.flat, bnds, own0, own1, labsL, labsR, SV.labs, argsOf, entFr, SO.ev, St.of, keepSt, getAll, lookN, hasN, SV.cells, SV.one, SV.res1, SV.res0, SV.resP, SV.ok1, SV.ok0, SV.okN, SV.solid, SV.solid1, SV.solid0, SV.flat0, SV.nm, SV.nm1, SV.nm0, SV.noPtr1, SV.noPtr0, Cel.isFresh, fillP, setAt, partV, eqCells, cellEq, gamY, listsOk, tupOf, takeOwn, SV.ret1, resAll, resL, resV, Nat.reduceEqDiff, ↓reduceIte, Nat.reduceAdd, Nat.reduceMul, Nat.reduceLeDiff, Nat.reduceLT, reduceCtorEq, labOk, Int.reduceBEq, Int.reduceBNe, Int.reduceToNat, Int.reduceLE, Int.reduceLT, Int.reduceEq, Nat.reduceDiv, Nat.reduceMod, Nat.reduceSub, Nat.reduceBEq, fitR, fitR1, fitR0, fitRL1, fitRL, y17, gPc, pchkS, chkS, isTS, pnmS, pfdS, pcopyS, phrS, mapP_len, mapP_labs, List.all_nil, asP_rw, prC, pchkS, chkV, chkR_mapP, h1, c, hE, hR, hB, h2, hl2, c1, c2', hk, hk1, c5', k0, k1, hg, c4, mapP_nil, labsLL, eq_self, Int.toNat_natCast]
  have hE : heE l id i s now = 0 := by rw [heE, if_pos c1, if_pos c2, if_neg c3, f4, Int.toNat_natCast, if_neg c4]
  have hR : heR l id i s now = l.set k (heP (l.getD k default) i s now) := by rw [heR, if_pos hE, f4, Int.toNat_natCast]
  have hB : heB l id i s now = takB (l.getD k default).inc (l.getD k default).seq (l.getD k default).drops i s := by rw [heB, if_pos hE, f4, Int.toNat_natCast]
  have hok : OkP (l.getD k default) := by rw [getP hk1]; exact (psE_iff.1 c).2.1 _ (List.getElem_mem _)
  rw [hE, hR, hB]
  have hs1 := mapP_set l k (heP (l.getD k default) i s now)
  generalize hX : l.getD k default = p at *
  obtain ⟨a, b, c0, d, e, v, g⟩ := p
  obtain ⟨o1, o2, o3, o4, o5⟩ := hok
  simp only at c4 o1 o2 o3 o4 o5 ⊢
  have g1 : g ≤ now := by omega
  generalize hP : heP ⟨a, b, c0, d, e, v, g⟩ i s now = P at *
  obtain ⟨a', b', c', d', e', v', g'⟩ := P
  simp only [prC] at hs1
  simp (config := { maxSteps := 9000000 }) only [↓vyD, vyU, binS, SV.go1, SV.go0, mkRow, intsOf, boolsOf, strsOf, chunks, Row.rep, Row.cat, Row.sub, Row.put, Row.len, Row.get, Row.size, Row.flat, bnds, own0, own1, labsL, labsR, SV.labs, argsOf, entFr, SO.ev, St.of, keepSt, getAll, lookN, hasN, SV.cells, SV.one, SV.res1, SV.res0, SV.resP, SV.ok1, SV.ok0, SV.okN, SV.solid, SV.solid1, SV.solid0, SV.flat0, SV.nm, SV.nm1, SV.nm0, SV.noPtr1, SV.noPtr0, Cel.isFresh, fillP, setAt, partV, eqCells, cellEq, gamY, listsOk, tupOf, takeOwn, SV.ret1, resAll, resL, resV, Nat.reduceEqDiff, ↓reduceIte, Nat.reduceAdd, Nat.reduceMul, Nat.reduceLeDiff, Nat.reduceLT, reduceCtorEq, labOk, Int.reduceBEq, Int.reduceBNe, Int.reduceToNat, Int.reduceLE, Int.reduceLT, Int.reduceEq, Nat.reduceDiv, Nat.reduceMod, Nat.reduceSub, Nat.reduceBEq, fitR, fitR1, fitR0, fitRL1, fitRL, y17, gPc, pchkS, chkS, isTS, pnmS, pfdS, pcopyS, phrS, mapP_len, mapP_labs, List.all_nil, asP_rw, prC, pchkS, chkV, chkR_mapP, asI, h1, c, h2, hl2, hC, c1, c2', c2, hk, hk1, c5', k0, k1, hg, c4, o3, o4, g1, hP, hs1, List.all_cons, eq_self, Int.toNat_natCast]
  split <;> trivial
end Go.Proofs.Ytgklfolmlcfjgaa
