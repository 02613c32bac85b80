/- The document's answers on peers (hwref), further: Drop, Hear. -/
import Derived.Test.YtgklfolmlcfjgaaYPr
namespace Go.Proofs.Ytgklfolmlcfjgaa
open Go.ChangeShapes Go.WideShapes Go.ChangeAt Go.RowKit Go.Joins Y
set_option linter.unusedSimpArgs false
set_option linter.unusedVariables false
set_option maxRecDepth 100000
set_option maxHeartbeats 40000000
theorem fdN_spec {l : List Pr} {id : List UInt8} : ∀ {n i : Nat}, i + n ≤ l.length → fdN l id n i = -1 ∨ ∃ k : Nat, fdN l id n i = k ∧ i ≤ k ∧ k < i + n ∧ (l.getD k default).id = id
  | 0, i, _ => .inl rfl
  | n + 1, i, h => by
    rw [fdN]
    by_cases c : (l.getD i default).id = id
    · rw [if_pos c]; exact .inr ⟨i, rfl, by omega, by omega, c⟩
    · rw [if_neg c]
      rcases fdN_spec (l := l) (id := id) (n := n) (i := i + 1) (by omega) with h1 | ⟨k, h1, h2, h3, h4⟩
      · exact .inl h1
      · exact .inr ⟨k, h1, by omega, by omega, h4⟩
theorem fdN_at {l : List Pr} {id : List UInt8} (h : 0 ≤ fdN l id l.length 0) : ∃ k : Nat, fdN l id l.length 0 = k ∧ k < l.length ∧ (l.getD k default).id = id := by
  rcases fdN_spec (l := l) (id := id) (n := l.length) (i := 0) (by omega) with h1 | ⟨k, h1, h2, h3, h4⟩
  · omega
  · exact ⟨k, h1, by omega, h4⟩
def drE (l : List Pr) (id : List UInt8) : Int := if fdN l id l.length 0 < 0 then 4 else 0
def drL (l : List Pr) (k : Nat) : List Pr := l.take k ++ l.drop (k + 1)
def drR (l : List Pr) (id : List UInt8) : List Pr := if drE l id = 0 then drL l (fdN l id l.length 0).toNat else []
def gDr : List (Nat × Say) := [(54, rfindS), (46, pcatS)]
theorem gDr_ok : GamOk Try.prog (gamY gDr) := gam_ok (gam_cons rfind_ok (gam_cons pcat_ok gam_nil))
def rdropS : Say
  | [x_l, .str id] => (match asP x_l with | some l => some (l.length ≤ 6, .tup [.rw (.recs 7 (mapP (drR l id))), .int .i64 (drE l id)], none) | _ => none)
  | _ => none
theorem rdrop_ok : FOk Try.prog 15 rdropS := by
  intro xs p r own h hp
  unfold rdropS at h
  split at h
  case h_2 => cases h
  rename_i x_l id
  split at h
  case h_2 => cases h
  rename_i l h_l
  simp only [Option.some.injEq, Prod.mk.injEq] at h
  obtain ⟨rfl, rfl, rfl⟩ := h
  refine fun_fit (ys := [.rw (.recs 7 (mapP l)), .str id]) ?_ ⟨asP_fit h_l, fit_refl1 _ (by simp), trivial⟩
  clear h_l
  refine fun_ok gDr_ok lawy_mixed y15_eq none ?_ (Nat.le_of_ble_eq_true rfl)
  have hl2 : l.length ≤ 1000 := by omega
  by_cases c : fdN l id l.length 0 < 0
  · have hE : drE l id = 4 := if_pos c
    have hR : drR l id = [] := if_neg (by omega)
    simp (config := { maxSteps := 9000000 }) only [↓vyD, vyU, binS, SV.go1, SV.go0, mkRow, intsOf, boolsOf, strsOf, chunks, Row.rep, Row.cat, Row.sub, Row.put, Row.len, Row.get, Row.size, Row.flat, bnds, own0, own1, labsL, labsR, SV.labs, argsOf, entFr, SO.ev, St.of, keepSt, getAll, lookN, hasN, SV.cells, SV.one, SV.res1, SV.res0, SV.resP, SV.ok1, SV.ok0, SV.okN, SV.solid, SV.solid1, SV.solid0, SV.flat0, SV.nm, SV.nm1, SV.nm0, SV.noPtr1, SV.noPtr0, Cel.isFresh, fillP, setAt, partV, eqCells, cellEq, gamY, listsOk, tupOf, takeOwn, SV.ret1, resAll, resL, resV, Nat.reduceEqDiff, ↓reduceIte, Nat.reduceAdd, Nat.reduceMul, Nat.reduceLeDiff, Nat.reduceLT, reduceCtorEq, labOk, Int.reduceBEq, Int.reduceBNe, Int.reduceToNat, Int.reduceLE, Int.reduceLT, Int.reduceEq, Nat.reduceDiv, Nat.reduceMod, Nat.reduceSub, Nat.reduceBEq, fitR, fitR1, fitR0, fitRL1, fitRL, y15, gDr, rfindS, pcatS, mapP_len, mapP_labs, List.all_nil, asP_rw, prC, hE, hR, hl2, c, mapP_nil, labsLL, eq_self]
  · obtain ⟨k, hk, hk1, hk2⟩ := fdN_at (l := l) (id := id) (by omega)
    have hE : drE l id = 0 := if_neg c
    have hR : drR l id = drL l k := by rw [drR, if_pos hE, hk, Int.toNat_natCast]
    have b1 := i64_wrap (show I64 ((k : Int) + 1) by unfold I64; omega)
    have e0 : List.take l.length (mapP l) = mapP l := List.take_of_length_le (by rw [mapP_len]; omega)
    have e1 : (l.take k).length + (l.drop (k + 1)).length ≤ 1000 := by rw [List.length_take, List.length_drop]; omega
    have k0 : (0 : Int) ≤ (k : Int) := by omega
    have k1 : (k : Int) ≤ (l.length : Int) := by omega
    have k2 : (0 : Int) ≤ (k : Int) + 1 := by omega
    have k3 : (k : Int) + 1 ≤ (l.length : Int) := by omega
    have k4 : ((k : Int) + 1).toNat = k + 1 := by omega
    have k5 : ¬ (k : Int) < 0 := by omega
    rw [hE, hR, drL]
    generalize hD : l.take k = D at *
    generalize hE2 : l.drop (k + 1) = E2 at *
    simp (config := { maxSteps := 9000000 }) only [↓vyD, vyU, binS, SV.go1, SV.go0, mkRow, intsOf, boolsOf, strsOf, chunks, Row.rep, Row.cat, Row.sub, Row.put, Row.len, Row.get, Row.size, Row.flat, bnds, own0, own1, labsL, labsR, SV.labs, argsOf, entFr, SO.ev, St.of, keepSt, getAll, lookN, hasN, SV.cells, SV.one, SV.res1, SV.res0, SV.resP, SV.ok1, SV.ok0, SV.okN, SV.solid, SV.solid1, SV.solid0, SV.flat0, SV.nm, SV.nm1, SV.nm0, SV.noPtr1, SV.noPtr0, Cel.isFresh, fillP, setAt, partV, eqCells, cellEq, gamY, listsOk, tupOf, takeOwn, SV.ret1, resAll, resL, resV, Nat.reduceEqDiff, ↓reduceIte, Nat.reduceAdd, Nat.reduceMul, Nat.reduceLeDiff, Nat.reduceLT, reduceCtorEq, labOk, Int.reduceBEq, Int.reduceBNe, Int.reduceToNat, Int.reduceLE, Int.reduceLT, Int.reduceEq, Nat.reduceDiv, Nat.reduceMod, Nat.reduceSub, Nat.reduceBEq, fitR, fitR1, fitR0, fitRL1, fitRL, y15, gDr, rfindS, pcatS, mapP_len, mapP_labs, List.all_nil, asP_rw, prC, hl2, hk, b1, e0, e1, k0, k1, k2, k3, k4, k5, mapP_take, mapP_drop, hD, hE2, toPs_mapP, labsLL, labsL, SV.labs, labsR, List.append_nil, List.isEmpty_nil, eq_self, Int.toNat_natCast, Int.le_refl]
    split <;> trivial
theorem p1E_0 {last : List UInt8} {p : Pr} (h : p1E last p = 0) : isIdB p.id = true ∧ gateE p.inc p.seq p.drops = 0 ∧ winE p.cap p.vals = 0 ∧ (0 ≤ p.last ∧ p.last ≤ 1073741824) ∧ (Op.bytesLess p.id last || p.id == last) = false := by
  unfold p1E at h
  by_cases c1 : isIdB p.id = true
  case neg => rw [if_neg c1] at h; cases h
  rw [if_pos c1] at h
  by_cases c2 : gateE p.inc p.seq p.drops = 0
  case neg => rw [if_neg c2] at h; exact absurd h c2
  rw [if_pos c2] at h
  by_cases c3 : winE p.cap p.vals = 0
  case neg => rw [if_neg c3] at h; exact absurd h c3
  rw [if_pos c3] at h
  by_cases c4 : 0 ≤ p.last ∧ p.last ≤ 1073741824
  case neg => rw [if_neg c4] at h; cases h
  rw [if_pos c4] at h
  refine ⟨c1, c2, c3, c4, ?_⟩
  cases hb : (Op.bytesLess p.id last || p.id == last) with
  | true => rw [hb, if_pos rfl] at h; cases h
  | false => rfl
/-- How long after the last one, at most 2^24. -/
def ltV (now last : Int) : Int := if 16777216 < now - last then 16777216 else now - last
/-- The window behind one more. -/
def heV (p : Pr) (now : Int) : List Int := (p.vals ++ [ltV now p.last]).drop (if 0 < (p.vals.length : Int) + 1 - p.cap then (p.vals.length : Int) + 1 - p.cap else 0).toNat
def heP (p : Pr) (i s now : Int) : Pr := if takB p.inc p.seq p.drops i s = true then ⟨p.id, takA p.inc p.seq p.drops i s, takS p.inc p.seq p.drops i s, takD p.inc p.seq p.drops i s, p.cap, heV p now, now⟩ else ⟨p.id, takA p.inc p.seq p.drops i s, takS p.inc p.seq p.drops i s, takD p.inc p.seq p.drops i s, p.cap, p.vals, p.last⟩
def heE (l : List Pr) (id : List UInt8) (i s now : Int) : Int := if chkE id i s = 0 then (if 0 ≤ now ∧ now ≤ 1073741824 then (if fdN l id l.length 0 < 0 then 4 else if now < (l.getD (fdN l id l.length 0).toNat default).last then 1 else 0) else 1) else chkE id i s
def heR (l : List Pr) (id : List UInt8) (i s now : Int) : List Pr := if heE l id i s now = 0 then l.set (fdN l id l.length 0).toNat (heP (l.getD (fdN l id l.length 0).toNat default) i s now) else []
def heB (l : List Pr) (id : List UInt8) (i s now : Int) : Bool := if heE l id i s now = 0 then takB (l.getD (fdN l id l.length 0).toNat default).inc (l.getD (fdN l id l.length 0).toNat default).seq (l.getD (fdN l id l.length 0).toNat default).drops i s else false
def gHe : List (Nat × Say) := [(58, rbeatS), (50, ptimeS), (54, rfindS), (59, rtakeS), (36, cloneS), (60, pcloneS)]
theorem gHe_ok : GamOk Try.prog (gamY gHe) := gam_ok (gam_cons rbeat_ok (gam_cons ptime_ok (gam_cons rfind_ok (gam_cons rtake_ok (gam_cons clone_ok (gam_cons pclone_ok gam_nil))))))
def rhearS : Say
  | [x_l, .agg [.str id, .int .i64 i, .int .i64 s], .int .i64 now] => (match asP x_l with | some l => some (psE l = 0 ∧ id.length ≤ 140737488355328, .tup [.rw (.recs 7 (mapP (heR l id i s now))), .bool (heB l id i s now), .int .i64 (heE l id i s now)], none) | _ => none)
  | _ => none
theorem rhear_ok : FOk Try.prog 18 rhearS := by
  intro xs p r own h hp
  unfold rhearS at h
  split at h
  case h_2 => cases h
  rename_i x_l id i s now
  split at h
  case h_2 => cases h
  rename_i l h_l
  simp only [Option.some.injEq, Prod.mk.injEq] at h
  obtain ⟨rfl, rfl, rfl⟩ := h
  refine fun_fit (ys := [.rw (.recs 7 (mapP l)), .agg [.str id, .int .i64 i, .int .i64 s], .int .i64 now]) ?_ ⟨asP_fit h_l, fit_refl_agg _, fit_refl1 _ (by simp), trivial⟩
  clear h_l
  refine fun_ok gHe_ok lawy_mixed y18_eq none ?_ (Nat.le_of_ble_eq_true rfl)
  obtain ⟨hp0, hid⟩ := hp
  obtain ⟨h6, hpp⟩ := psE_0 hp0
  have hl2 : l.length ≤ 1000 := by omega
  by_cases c1 : chkE id i s = 0
  case neg =>
    have hE : heE l id i s now = chkE id i s := if_neg c1
    have hR : heR l id i s now = [] := if_neg (by omega)
    have hB : heB l id i s now = false := if_neg (by omega)
    have c1' : (chkE id i s != 0) = true := by simpa using c1
    simp (config := { maxSteps := 9000000 }) only [↓vyD, vyU, binS, SV.go1, SV.go0, mkRow, intsOf, boolsOf, strsOf, chunks, Row.rep, Row.cat, Row.sub, Row.put, Row.len, Row.get, Row.size, Row.flat, bnds, own0, own1, labsL, labsR, SV.labs, argsOf, entFr, SO.ev, St.of, keepSt, getAll, lookN, hasN, SV.cells, SV.one, SV.res1, SV.res0, SV.resP, SV.ok1, SV.ok0, SV.okN, SV.solid, SV.solid1, SV.solid0, SV.flat0, SV.nm, SV.nm1, SV.nm0, SV.noPtr1, SV.noPtr0, Cel.isFresh, fillP, setAt, partV, eqCells, cellEq, gamY, listsOk, tupOf, takeOwn, SV.ret1, resAll, resL, resV, Nat.reduceEqDiff, ↓reduceIte, Nat.reduceAdd, Nat.reduceMul, Nat.reduceLeDiff, Nat.reduceLT, reduceCtorEq, labOk, Int.reduceBEq, Int.reduceBNe, Int.reduceToNat, Int.reduceLE, Int.reduceLT, Int.reduceEq, Nat.reduceDiv, Nat.reduceMod, Nat.reduceSub, Nat.reduceBEq, fitR, fitR1, fitR0, fitRL1, fitRL, y18, gHe, rbeatS, ptimeS, rfindS, rtakeS, cloneS, pcloneS, mapP_len, mapP_labs, List.all_nil, asP_rw, prC, hE, hR, hB, hid, c1', mapP_nil, labsLL, eq_self]
  by_cases c2 : 0 ≤ now ∧ now ≤ 1073741824
  case neg =>
    have hE : heE l id i s now = 1 := by rw [heE, if_pos c1, if_neg c2]
    have hR : heR l id i s now = [] := if_neg (by omega)
    have hB : heB l id i s now = false := if_neg (by omega)
    have c2' : decide (0 ≤ now ∧ now ≤ 1073741824) = false := decide_eq_false c2
    simp (config := { maxSteps := 9000000 }) only [↓vyD, vyU, binS, SV.go1, SV.go0, mkRow, intsOf, boolsOf, strsOf, chunks, Row.rep, Row.cat, Row.sub, Row.put, Row.len, Row.get, Row.size, Row.flat, bnds, own0, own1, labsL, labsR, SV.labs, argsOf, entFr, SO.ev, St.of, keepSt, getAll, lookN, hasN, SV.cells, SV.one, SV.res1, SV.res0, SV.resP, SV.ok1, SV.ok0, SV.okN, SV.solid, SV.solid1, SV.solid0, SV.flat0, SV.nm, SV.nm1, SV.nm0, SV.noPtr1, SV.noPtr0, Cel.isFresh, fillP, setAt, partV, eqCells, cellEq, gamY, listsOk, tupOf, takeOwn, SV.ret1, resAll, resL, resV, Nat.reduceEqDiff, ↓reduceIte, Nat.reduceAdd, Nat.reduceMul, Nat.reduceLeDiff, Nat.reduceLT, reduceCtorEq, labOk, Int.reduceBEq, Int.reduceBNe, Int.reduceToNat, Int.reduceLE, Int.reduceLT, Int.reduceEq, Nat.reduceDiv, Nat.reduceMod, Nat.reduceSub, Nat.reduceBEq, fitR, fitR1, fitR0, fitRL1, fitRL, y18, gHe, rbeatS, ptimeS, rfindS, rtakeS, cloneS, pcloneS, mapP_len, mapP_labs, List.all_nil, asP_rw, prC, hE, hR, hB, hid, c1, c2', mapP_nil, labsLL, eq_self]
  have c2' : decide (0 ≤ now ∧ now ≤ 1073741824) = true := decide_eq_true c2
  by_cases c3 : fdN l id l.length 0 < 0
  · have hE : heE l id i s now = 4 := by rw [heE, if_pos c1, if_pos c2, if_pos c3]
    have hR : heR l id i s now = [] := if_neg (by omega)
    have hB : heB l id i s now = false := if_neg (by omega)
    simp (config := { maxSteps := 9000000 }) only [↓vyD, vyU, binS, SV.go1, SV.go0, mkRow, intsOf, boolsOf, strsOf, chunks, Row.rep, Row.cat, Row.sub, Row.put, Row.len, Row.get, Row.size, Row.flat, bnds, own0, own1, labsL, labsR, SV.labs, argsOf, entFr, SO.ev, St.of, keepSt, getAll, lookN, hasN, SV.cells, SV.one, SV.res1, SV.res0, SV.resP, SV.ok1, SV.ok0, SV.okN, SV.solid, SV.solid1, SV.solid0, SV.flat0, SV.nm, SV.nm1, SV.nm0, SV.noPtr1, SV.noPtr0, Cel.isFresh, fillP, setAt, partV, eqCells, cellEq, gamY, listsOk, tupOf, takeOwn, SV.ret1, resAll, resL, resV, Nat.reduceEqDiff, ↓reduceIte, Nat.reduceAdd, Nat.reduceMul, Nat.reduceLeDiff, Nat.reduceLT, reduceCtorEq, labOk, Int.reduceBEq, Int.reduceBNe, Int.reduceToNat, Int.reduceLE, Int.reduceLT, Int.reduceEq, Nat.reduceDiv, Nat.reduceMod, Nat.reduceSub, Nat.reduceBEq, fitR, fitR1, fitR0, fitRL1, fitRL, y18, gHe, rbeatS, ptimeS, rfindS, rtakeS, cloneS, pcloneS, mapP_len, mapP_labs, List.all_nil, asP_rw, prC, hE, hR, hB, hid, hl2, c1, c2', c3, mapP_nil, labsLL, eq_self]
  obtain ⟨k, hk, hk1, hk2⟩ := fdN_at (l := l) (id := id) (by omega)
  have hpk := p1E_0 (hpp k hk1)
  have hg := mapP_get hk1
  have k0 : (0 : Int) ≤ (k : Int) := by omega
  have k1 : (k : Int) < (l.length : Int) := by omega
  have k5 : ¬ (k : Int) < 0 := by omega
  by_cases c4 : now < (l.getD k default).last
  · have hE : heE l id i s now = 1 := by rw [heE, if_pos c1, if_pos c2, if_neg c3, hk, Int.toNat_natCast, if_pos c4]
    have hR : heR l id i s now = [] := if_neg (by omega)
    have hB : heB l id i s now = false := if_neg (by omega)
    generalize l.getD k default = p at *
    obtain ⟨a, b, c, d, e, v, g⟩ := p
    simp only at c4
    simp (config := { maxSteps := 9000000 }) only [↓vyD, vyU, binS, SV.go1, SV.go0, mkRow, intsOf, boolsOf, strsOf, chunks, Row.rep, Row.cat, Row.sub, Row.put, Row.len, Row.get, Row.size, Row.flat, bnds, own0, own1, labsL, labsR, SV.labs, argsOf, entFr, SO.ev, St.of, keepSt, getAll, lookN, hasN, SV.cells, SV.one, SV.res1, SV.res0, SV.resP, SV.ok1, SV.ok0, SV.okN, SV.solid, SV.solid1, SV.solid0, SV.flat0, SV.nm, SV.nm1, SV.nm0, SV.noPtr1, SV.noPtr0, Cel.isFresh, fillP, setAt, partV, eqCells, cellEq, gamY, listsOk, tupOf, takeOwn, SV.ret1, resAll, resL, resV, Nat.reduceEqDiff, ↓reduceIte, Nat.reduceAdd, Nat.reduceMul, Nat.reduceLeDiff, Nat.reduceLT, reduceCtorEq, labOk, Int.reduceBEq, Int.reduceBNe, Int.reduceToNat, Int.reduceLE, Int.reduceLT, Int.reduceEq, Nat.reduceDiv, Nat.reduceMod, Nat.reduceSub, Nat.reduceBEq, fitR, fitR1, fitR0, fitRL1, fitRL, y18, gHe, rbeatS, ptimeS, rfindS, rtakeS, cloneS, pcloneS, mapP_len, mapP_labs, List.all_nil, asP_rw, prC, hE, hR, hB, hid, hl2, c1, c2', hk, hk1, k0, k1, k5, hg, c4, mapP_nil, labsLL, eq_self, Int.toNat_natCast]
  have hE : heE l id i s now = 0 := by rw [heE, if_pos c1, if_pos c2, if_neg c3, hk, Int.toNat_natCast, if_neg c4]
  have hR : heR l id i s now = l.set k (heP (l.getD k default) i s now) := by rw [heR, if_pos hE, hk, Int.toNat_natCast]
  have hB : heB l id i s now = takB (l.getD k default).inc (l.getD k default).seq (l.getD k default).drops i s := by rw [heB, if_pos hE, hk, Int.toNat_natCast]
  have hi : (0 ≤ i ∧ i < 2147483648) ∧ 1 ≤ s ∧ s < 2147483648 := by
    have := chkE_0.1 c1
    omega
  rw [hE, hR, hB]
  generalize hX : l.getD k default = p at *
  obtain ⟨a, b, c, d, e, v, g⟩ := p
  simp only at c4 hpk hk2 ⊢
  obtain ⟨_, p2, p3, p4, _⟩ := hpk
  have ht : takE b c d i s = 0 := takE_0.2 ⟨p2, hi.1, hi.2⟩
  obtain ⟨q1, q2, q3⟩ := winE_0.1 p3
  obtain ⟨q4, q5⟩ := listE_0.1 q3
  have w1 := i64_wrap (show I64 (now - g) by unfold I64; omega)
  have w2 := i64_wrap (show I64 ((v.length : Int) + 1 - e) by unfold I64; omega)
  have v1 : v.length ≤ 17592186044416 := by omega
  cases hb : takB b c d i s with
  | true =>
    have hP : heP ⟨a, b, c, d, e, v, g⟩ i s now = ⟨a, takA b c d i s, takS b c d i s, takD b c d i s, e, heV ⟨a, b, c, d, e, v, g⟩ now, now⟩ := if_pos hb
    rw [hP]
    generalize hA : takA b c d i s = tA at *
    generalize hS : takS b c d i s = tS at *
    generalize hD : takD b c d i s = tD at *
    have hx : (if 16777216 < now - g then (16777216 : Int) else now - g) = ltV now g := rfl
    have hV : heV ⟨a, b, c, d, e, v, g⟩ now = (v ++ [ltV now g]).drop (if 0 < (v.length : Int) + 1 - e then (v.length : Int) + 1 - e else 0).toNat := rfl
    rw [hV]
    generalize ltV now g = x at *
    have hlo : 0 ≤ (if 0 < (v.length : Int) + 1 - e then (v.length : Int) + 1 - e else 0) ∧ (if 0 < (v.length : Int) + 1 - e then (v.length : Int) + 1 - e else 0) ≤ (v.length : Int) + 1 := by split <;> omega
    generalize hll : (if 0 < (v.length : Int) + 1 - e then (v.length : Int) + 1 - e else 0) = lo at *
    have e3 : List.take (v.length + 1) (v ++ [x]) = v ++ [x] := List.take_of_length_le (by simp)
    have e4 : ((v.length : Int) + 1).toNat = v.length + 1 := by omega
    have v2 : (v.length + 1) * 8 ≤ 140737488355328 := by omega
    have hs1 : (mapP l).set k [.str a, .int .i64 tA, .int .i64 tS, .int .i64 tD, .int .i64 e, .rw (.ints .i64 ((v ++ [x]).drop lo.toNat)), .int .i64 now] = mapP (l.set k ⟨a, tA, tS, tD, e, (v ++ [x]).drop lo.toNat, now⟩) := mapP_set l k ⟨a, tA, tS, tD, e, (v ++ [x]).drop lo.toNat, now⟩
    simp (config := { maxSteps := 9000000 }) only [↓vyD, vyU, binS, SV.go1, SV.go0, mkRow, intsOf, boolsOf, strsOf, chunks, Row.rep, Row.cat, Row.sub, Row.put, Row.len, Row.get, Row.size, Row.flat, bnds, own0, own1, labsL, labsR, SV.labs, argsOf, entFr, SO.ev, St.of, keepSt, getAll, lookN, hasN, SV.cells, SV.one, SV.res1, SV.res0, SV.resP, SV.ok1, SV.ok0, SV.okN, SV.solid, SV.solid1, SV.solid0, SV.flat0, SV.nm, SV.nm1, SV.nm0, SV.noPtr1, SV.noPtr0, Cel.isFresh, fillP, setAt, partV, eqCells, cellEq, gamY, listsOk, tupOf, takeOwn, SV.ret1, resAll, resL, resV, Nat.reduceEqDiff, ↓reduceIte, Nat.reduceAdd, Nat.reduceMul, Nat.reduceLeDiff, Nat.reduceLT, reduceCtorEq, labOk, Int.reduceBEq, Int.reduceBNe, Int.reduceToNat, Int.reduceLE, Int.reduceLT, Int.reduceEq, Nat.reduceDiv, Nat.reduceMod, Nat.reduceSub, Nat.reduceBEq, fitR, fitR1, fitR0, fitRL1, fitRL, y18, gHe, rbeatS, ptimeS, rfindS, rtakeS, cloneS, pcloneS, mapP_len, mapP_labs, List.all_nil, asP_rw, prC, asI, hid, hl2, c1, c2', hk, hk1, k0, k1, k5, hg, c4, ht, hb, hA, hS, hD, w1, w2, v1, v2, hx, hll, hlo, e3, e4, hs1, Int.le_refl, List.isEmpty_nil, mapP_nil, labsLL, eq_self, List.length_cons, List.length_nil, Int.natCast_add, Int.natCast_one, Int.toNat_natCast]
    split <;> trivial
  | false =>
    have hP : heP ⟨a, b, c, d, e, v, g⟩ i s now = ⟨a, takA b c d i s, takS b c d i s, takD b c d i s, e, v, g⟩ := if_neg (by rw [hb]; decide)
    rw [hP]
    generalize hA : takA b c d i s = tA at *
    generalize hS : takS b c d i s = tS at *
    generalize hD : takD b c d i s = tD at *
    have hs1 : (mapP l).set k [.str a, .int .i64 tA, .int .i64 tS, .int .i64 tD, .int .i64 e, .rw (.ints .i64 v), .int .i64 g] = mapP (l.set k ⟨a, tA, tS, tD, e, v, g⟩) := mapP_set l k ⟨a, tA, tS, tD, e, v, g⟩
    simp (config := { maxSteps := 9000000 }) only [↓vyD, vyU, binS, SV.go1, SV.go0, mkRow, intsOf, boolsOf, strsOf, chunks, Row.rep, Row.cat, Row.sub, Row.put, Row.len, Row.get, Row.size, Row.flat, bnds, own0, own1, labsL, labsR, SV.labs, argsOf, entFr, SO.ev, St.of, keepSt, getAll, lookN, hasN, SV.cells, SV.one, SV.res1, SV.res0, SV.resP, SV.ok1, SV.ok0, SV.okN, SV.solid, SV.solid1, SV.solid0, SV.flat0, SV.nm, SV.nm1, SV.nm0, SV.noPtr1, SV.noPtr0, Cel.isFresh, fillP, setAt, partV, eqCells, cellEq, gamY, listsOk, tupOf, takeOwn, SV.ret1, resAll, resL, resV, Nat.reduceEqDiff, ↓reduceIte, Nat.reduceAdd, Nat.reduceMul, Nat.reduceLeDiff, Nat.reduceLT, reduceCtorEq, labOk, Int.reduceBEq, Int.reduceBNe, Int.reduceToNat, Int.reduceLE, Int.reduceLT, Int.reduceEq, Nat.reduceDiv, Nat.reduceMod, Nat.reduceSub, Nat.reduceBEq, fitR, fitR1, fitR0, fitRL1, fitRL, y18, gHe, rbeatS, ptimeS, rfindS, rtakeS, cloneS, pcloneS, mapP_len, mapP_labs, List.all_nil, asP_rw, prC, asI, hid, hl2, c1, c2', hk, hk1, k0, k1, k5, hg, c4, ht, hb, hA, hS, hD, hs1, mapP_nil, labsLL, eq_self, List.isEmpty_nil, Int.toNat_natCast]
    split <;> trivial
end Go.Proofs.Ytgklfolmlcfjgaa
