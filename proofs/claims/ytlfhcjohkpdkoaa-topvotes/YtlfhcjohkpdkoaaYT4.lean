/- What tail.Count, tail.Markov, tail.Chebyshev and rank.Far do. -/
import Derived.Test.YtlfhcjohkpdkoaaYK3
import Derived.Test.YtlfhcjohkpdkoaaYM5
import Derived.Test.YtlfhcjohkpdkoaaCS4
namespace Go.Proofs.Ytlfhcjohkpdkoaa
open Go.ChangeShapes Go.WideShapes Go.ChangeAt Go.RowKit Go.Joins Y
set_option linter.unusedSimpArgs false
set_option linter.unusedVariables false
set_option maxRecDepth 100000
set_option maxHeartbeats 40000000
def cntL (l : List Int) (t : Int) : Nat := l.countP fun x => decide (t ≤ x)
theorem cnt_take {l : List Int} {i : Nat} (h : i < l.length) (t : Int) : cntL (l.take (i + 1)) t = cntL (l.take i) t + if t ≤ l.getD i 0 then 1 else 0 := by
  rw [take_snoc h]
  simp [cntL, List.countP_append, List.countP_cons]
theorem cnt_le (l : List Int) (t : Int) : cntL l t ≤ l.length := List.countP_le_length
def gT : List (Nat × Say) := [(65, listS)]
theorem gT_ok : GamOk Try.prog (gamY gT) := gam_ok (gam_cons list_ok gam_nil)
def mkE (a b c t : Int) : Int := if checkE a b c = 0 then (if t < 1 ∨ 1073741824 < t then 1 else 0) else checkE a b c
def mkV (a b c t : Int) : Int := if mkE a b c t = 0 then (if b / t < a then b / t else a) else 0
theorem mkE_0 {a b c t : Int} : mkE a b c t = 0 ↔ checkE a b c = 0 ∧ 1 ≤ t ∧ t ≤ 1073741824 := by
  unfold mkE
  by_cases h : checkE a b c = 0
  · rw [if_pos h]; split <;> omega
  · rw [if_neg h]; omega
def gM : List (Nat × Say) := [(105, checkS)]
theorem gM_ok : GamOk Try.prog (gamY gM) := gam_ok (gam_cons check_ok gam_nil)
def chV (a b c d : Int) : Int := if mkE a b c d = 0 then (if a = 0 then 0 else if (a * c - b * b) / a / (d * d) < a then (a * c - b * b) / a / (d * d) else a) else 0
def gH : List (Nat × Say) := [(91, spreadXS)]
theorem gH_ok : GamOk Try.prog (gamY gH) := gam_ok (gam_cons spreadX_ok gam_nil)
def distI (n v : Int) : Int := if v - n > n - v then v - n else n - v
def distL (l : List Int) (n : Int) : Int := (l.map (distI n)).sum
theorem dist_bd {n v : Int} (hn : 0 ≤ n ∧ n ≤ 16777216) (hv : 0 ≤ v ∧ v ≤ 16777216) : 0 ≤ distI n v ∧ distI n v ≤ 16777216 := by
  unfold distI; split <;> omega
def rcvS : Say
  | [.int .i64 n] => some (True, .int .i64 (listE [n]), none)
  | _ => none
theorem rcv_ok : FOk Try.prog 78 rcvS := by
  intro xs p r own h hp
  unfold rcvS at h
  split at h
  case h_2 => cases h
  rename_i n
  simp only [Option.some.injEq, Prod.mk.injEq] at h
  obtain ⟨rfl, rfl, rfl⟩ := h
  refine fun_ok gT_ok lawy_mixed y78_eq none ?_ (Nat.le_of_ble_eq_true rfl)
  simp (config := { maxSteps := 9000000 }) only [↓vyD, vyU, binS, SV.go1, SV.go0, mkRow, intsOf, boolsOf, strsOf, chunks, Row.rep, Row.cat, Row.sub, Row.put, Row.len, Row.get, Row.size, Row.flat, bnds, own0, own1, labsL, labsR, SV.labs, argsOf, entFr, SO.ev, St.of, keepSt, getAll, lookN, hasN, SV.cells, SV.one, SV.res1, SV.res0, SV.resP, SV.ok1, SV.ok0, SV.okN, SV.solid, SV.solid1, SV.solid0, SV.flat0, SV.nm, SV.nm1, SV.nm0, SV.noPtr1, SV.noPtr0, Cel.isFresh, fillP, setAt, partV, eqCells, cellEq, gamY, listsOk, tupOf, takeOwn, SV.ret1, resAll, resL, resV, Nat.reduceEqDiff, ↓reduceIte, Nat.reduceAdd, Nat.reduceMul, Nat.reduceLeDiff, Nat.reduceLT, reduceCtorEq, labOk, Int.reduceBEq, Int.reduceBNe, Int.reduceToNat, Int.reduceLE, Int.reduceLT, Int.reduceEq, Nat.reduceDiv, Nat.reduceMod, Nat.reduceSub, Nat.reduceBEq, fitR, fitR1, fitR0, fitRL1, fitRL, y78, gT, listS, asI]
def farE (l : List Int) (n : Int) : Int := if listE l = 0 then listE [n] else listE l
def farV (l : List Int) (n : Int) : Int := if farE l n = 0 then distL l n else 0
def gF : List (Nat × Say) := [(65, listS), (78, rcvS)]
theorem gF_ok : GamOk Try.prog (gamY gF) := gam_ok (gam_cons list_ok (gam_cons rcv_ok gam_nil))
def rfarS : Say
  | [x_l, .int .i64 n] => (match asI x_l with | some l => some (True, .tup [.int .i64 (farV l n), .int .i64 (farE l n)], none) | _ => none)
  | _ => none
theorem rfar_ok : FOk Try.prog 48 rfarS := by
  intro xs p r own h hp
  unfold rfarS at h
  split at h
  case h_2 => cases h
  rename_i x_l n
  split at h
  case h_2 => cases h
  rename_i l h_l
  simp only [Option.some.injEq, Prod.mk.injEq] at h
  obtain ⟨rfl, rfl, rfl⟩ := h
  refine fun_fit (ys := [.rw (.ints .i64 l), .int .i64 n]) ?_ ⟨asI_fit h_l, fit_refl1 _ (by simp), trivial⟩
  clear h_l
  refine fun_ok gF_ok lawy_mixed y48_eq none ?_ (Nat.le_of_ble_eq_true rfl)
  by_cases he : listE l = 0
  · by_cases hn : 0 ≤ n ∧ n ≤ 16777216
    · have h1 : listE [n] = 0 := by rw [listE_1, if_pos hn]
      have hE : farE l n = 0 := by rw [farE, if_pos he, h1]
      have hV : farV l n = distL l n := by rw [farV, if_pos hE]
      obtain ⟨h64, hv⟩ := listE_0.1 he
      rw [hE, hV]
      simp (config := { maxSteps := 9000000 }) only [↓vyD, vyU, binS, SV.go1, SV.go0, mkRow, intsOf, boolsOf, strsOf, chunks, Row.rep, Row.cat, Row.sub, Row.put, Row.len, Row.get, Row.size, Row.flat, bnds, own0, own1, labsL, labsR, SV.labs, argsOf, entFr, SO.ev, St.of, keepSt, getAll, lookN, hasN, SV.cells, SV.one, SV.res1, SV.res0, SV.resP, SV.ok1, SV.ok0, SV.okN, SV.solid, SV.solid1, SV.solid0, SV.flat0, SV.nm, SV.nm1, SV.nm0, SV.noPtr1, SV.noPtr0, Cel.isFresh, fillP, setAt, partV, eqCells, cellEq, gamY, listsOk, tupOf, takeOwn, SV.ret1, resAll, resL, resV, Nat.reduceEqDiff, ↓reduceIte, Nat.reduceAdd, Nat.reduceMul, Nat.reduceLeDiff, Nat.reduceLT, reduceCtorEq, labOk, Int.reduceBEq, Int.reduceBNe, Int.reduceToNat, Int.reduceLE, Int.reduceLT, Int.reduceEq, Nat.reduceDiv, Nat.reduceMod, Nat.reduceSub, Nat.reduceBEq, fitR, fitR1, fitR0, fitRL1, fitRL, y48, gF, listS, rcvS, asI, he, h1]
      refine loopG_intro (ι := Nat) (fun i => [(1, .int .i64 n), (8, .int .i64 (distL (l.take i) n)), (21, .rw (.ints .i64 l)), (22, .int .i64 l.length), (23, .int .i64 i)]) (fun _ => []) (fun i => i ≤ l.length) (fun i => l.length - i) ⟨0, by omega, ?_, ?_, ?_⟩ fun i hi => ?_
      · simp (config := { maxSteps := 9000000 }) only [↓vyD, vyU, binS, SV.go1, SV.go0, mkRow, intsOf, boolsOf, strsOf, chunks, Row.rep, Row.cat, Row.sub, Row.put, Row.len, Row.get, Row.size, Row.flat, bnds, own0, own1, labsL, labsR, SV.labs, argsOf, entFr, SO.ev, St.of, keepSt, getAll, lookN, hasN, SV.cells, SV.one, SV.res1, SV.res0, SV.resP, SV.ok1, SV.ok0, SV.okN, SV.solid, SV.solid1, SV.solid0, SV.flat0, SV.nm, SV.nm1, SV.nm0, SV.noPtr1, SV.noPtr0, Cel.isFresh, fillP, setAt, partV, eqCells, cellEq, gamY, listsOk, tupOf, takeOwn, SV.ret1, resAll, resL, resV, Nat.reduceEqDiff, ↓reduceIte, Nat.reduceAdd, Nat.reduceMul, Nat.reduceLeDiff, Nat.reduceLT, reduceCtorEq, labOk, Int.reduceBEq, Int.reduceBNe, Int.reduceToNat, Int.reduceLE, Int.reduceLT, Int.reduceEq, Nat.reduceDiv, Nat.reduceMod, Nat.reduceSub, Nat.reduceBEq, fitR, fitR1, fitR0, fitRL1, fitRL, he]
      · simp (config := { maxSteps := 9000000 }) only [↓vyD, vyU, binS, SV.go1, SV.go0, mkRow, intsOf, boolsOf, strsOf, chunks, Row.rep, Row.cat, Row.sub, Row.put, Row.len, Row.get, Row.size, Row.flat, bnds, own0, own1, labsL, labsR, SV.labs, argsOf, entFr, SO.ev, St.of, keepSt, getAll, lookN, hasN, SV.cells, SV.one, SV.res1, SV.res0, SV.resP, SV.ok1, SV.ok0, SV.okN, SV.solid, SV.solid1, SV.solid0, SV.flat0, SV.nm, SV.nm1, SV.nm0, SV.noPtr1, SV.noPtr0, Cel.isFresh, fillP, setAt, partV, eqCells, cellEq, gamY, listsOk, tupOf, takeOwn, SV.ret1, resAll, resL, resV, Nat.reduceEqDiff, ↓reduceIte, Nat.reduceAdd, Nat.reduceMul, Nat.reduceLeDiff, Nat.reduceLT, reduceCtorEq, labOk, Int.reduceBEq, Int.reduceBNe, Int.reduceToNat, Int.reduceLE, Int.reduceLT, Int.reduceEq, Nat.reduceDiv, Nat.reduceMod, Nat.reduceSub, Nat.reduceBEq, fitR, fitR1, fitR0, fitRL1, fitRL, he, List.take_zero, distL, List.sum_nil]
      · simp (config := { maxSteps := 9000000 }) only [↓vyD, vyU, binS, SV.go1, SV.go0, mkRow, intsOf, boolsOf, strsOf, chunks, Row.rep, Row.cat, Row.sub, Row.put, Row.len, Row.get, Row.size, Row.flat, bnds, own0, own1, labsL, labsR, SV.labs, argsOf, entFr, SO.ev, St.of, keepSt, getAll, lookN, hasN, SV.cells, SV.one, SV.res1, SV.res0, SV.resP, SV.ok1, SV.ok0, SV.okN, SV.solid, SV.solid1, SV.solid0, SV.flat0, SV.nm, SV.nm1, SV.nm0, SV.noPtr1, SV.noPtr0, Cel.isFresh, fillP, setAt, partV, eqCells, cellEq, gamY, listsOk, tupOf, takeOwn, SV.ret1, resAll, resL, resV, Nat.reduceEqDiff, ↓reduceIte, Nat.reduceAdd, Nat.reduceMul, Nat.reduceLeDiff, Nat.reduceLT, reduceCtorEq, labOk, Int.reduceBEq, Int.reduceBNe, Int.reduceToNat, Int.reduceLE, Int.reduceLT, Int.reduceEq, Nat.reduceDiv, Nat.reduceMod, Nat.reduceSub, Nat.reduceBEq, fitR, fitR1, fitR0, fitRL1, fitRL, he]
      · have hd := sum_bd (f := distI n) (B := 16777216) (l := l.take i) fun x hx => dist_bd hn (hv x (List.mem_of_mem_take hx))
        rw [List.length_take, Nat.min_eq_left hi] at hd
        have hd' : 0 ≤ distL (l.take i) n ∧ distL (l.take i) n ≤ i * 16777216 := hd
        by_cases hlt : (i : Int) < (l.length : Int)
        · have hlt' : i < l.length := by omega
          have hx := hv _ (getD_mem hlt')
          have hx2 := dist_bd hn hx
          have b1 : I64 ((i : Int) + 1) := by unfold I64; omega
          have b2 : I64 (n - l.getD i 0) := by unfold I64; omega
          have b3 : I64 (l.getD i 0 - n) := by unfold I64; omega
          have e : distL (l.take (i + 1)) n = distL (l.take i) n + distI n (l.getD i 0) := take_sum (f := distI n) hlt'
          have b4 : I64 (distL (l.take i) n + distI n (l.getD i 0)) := by unfold I64; omega
          unfold distI at b4 e
          simp (config := { maxSteps := 9000000 }) only [↓vyD, vyU, binS, SV.go1, SV.go0, mkRow, intsOf, boolsOf, strsOf, chunks, Row.rep, Row.cat, Row.sub, Row.put, Row.len, Row.get, Row.size, Row.flat, bnds, own0, own1, labsL, labsR, SV.labs, argsOf, entFr, SO.ev, St.of, keepSt, getAll, lookN, hasN, SV.cells, SV.one, SV.res1, SV.res0, SV.resP, SV.ok1, SV.ok0, SV.okN, SV.solid, SV.solid1, SV.solid0, SV.flat0, SV.nm, SV.nm1, SV.nm0, SV.noPtr1, SV.noPtr0, Cel.isFresh, fillP, setAt, partV, eqCells, cellEq, gamY, listsOk, tupOf, takeOwn, SV.ret1, resAll, resL, resV, Nat.reduceEqDiff, ↓reduceIte, Nat.reduceAdd, Nat.reduceMul, Nat.reduceLeDiff, Nat.reduceLT, reduceCtorEq, labOk, Int.reduceBEq, Int.reduceBNe, Int.reduceToNat, Int.reduceLE, Int.reduceLT, Int.reduceEq, Nat.reduceDiv, Nat.reduceMod, Nat.reduceSub, Nat.reduceBEq, fitR, fitR1, fitR0, fitRL1, fitRL, hlt, Int.toNat_natCast, i64_wrap b1, i64_wrap b2, i64_wrap b3, i64_wrap b4]
          exact ⟨by omega, i + 1, ⟨by omega, by omega⟩, e.symm, by simp⟩
        · have : i = l.length := by omega
          subst this
          simp (config := { maxSteps := 9000000 }) only [↓vyD, vyU, binS, SV.go1, SV.go0, mkRow, intsOf, boolsOf, strsOf, chunks, Row.rep, Row.cat, Row.sub, Row.put, Row.len, Row.get, Row.size, Row.flat, bnds, own0, own1, labsL, labsR, SV.labs, argsOf, entFr, SO.ev, St.of, keepSt, getAll, lookN, hasN, SV.cells, SV.one, SV.res1, SV.res0, SV.resP, SV.ok1, SV.ok0, SV.okN, SV.solid, SV.solid1, SV.solid0, SV.flat0, SV.nm, SV.nm1, SV.nm0, SV.noPtr1, SV.noPtr0, Cel.isFresh, fillP, setAt, partV, eqCells, cellEq, gamY, listsOk, tupOf, takeOwn, SV.ret1, resAll, resL, resV, Nat.reduceEqDiff, ↓reduceIte, Nat.reduceAdd, Nat.reduceMul, Nat.reduceLeDiff, Nat.reduceLT, reduceCtorEq, labOk, Int.reduceBEq, Int.reduceBNe, Int.reduceToNat, Int.reduceLE, Int.reduceLT, Int.reduceEq, Nat.reduceDiv, Nat.reduceMod, Nat.reduceSub, Nat.reduceBEq, fitR, fitR1, fitR0, fitRL1, fitRL, hlt, List.take_length]
    · have h1 : listE [n] = 1 := by rw [listE_1, if_neg hn]
      have hE : farE l n = 1 := by rw [farE, if_pos he, h1]
      have hV : farV l n = 0 := by rw [farV, if_neg (by omega)]
      rw [hE, hV]
      simp (config := { maxSteps := 9000000 }) only [↓vyD, vyU, binS, SV.go1, SV.go0, mkRow, intsOf, boolsOf, strsOf, chunks, Row.rep, Row.cat, Row.sub, Row.put, Row.len, Row.get, Row.size, Row.flat, bnds, own0, own1, labsL, labsR, SV.labs, argsOf, entFr, SO.ev, St.of, keepSt, getAll, lookN, hasN, SV.cells, SV.one, SV.res1, SV.res0, SV.resP, SV.ok1, SV.ok0, SV.okN, SV.solid, SV.solid1, SV.solid0, SV.flat0, SV.nm, SV.nm1, SV.nm0, SV.noPtr1, SV.noPtr0, Cel.isFresh, fillP, setAt, partV, eqCells, cellEq, gamY, listsOk, tupOf, takeOwn, SV.ret1, resAll, resL, resV, Nat.reduceEqDiff, ↓reduceIte, Nat.reduceAdd, Nat.reduceMul, Nat.reduceLeDiff, Nat.reduceLT, reduceCtorEq, labOk, Int.reduceBEq, Int.reduceBNe, Int.reduceToNat, Int.reduceLE, Int.reduceLT, Int.reduceEq, Nat.reduceDiv, Nat.reduceMod, Nat.reduceSub, Nat.reduceBEq, fitR, fitR1, fitR0, fitRL1, fitRL, y48, gF, listS, rcvS, asI, he, h1]
  · have hE : farE l n = listE l := by rw [farE, if_neg he]
    have hV : farV l n = 0 := by rw [farV, if_neg (by omega)]
    rw [hE, hV]
    have he' : (listE l != 0) = true := by simpa using he
    simp (config := { maxSteps := 9000000 }) only [↓vyD, vyU, binS, SV.go1, SV.go0, mkRow, intsOf, boolsOf, strsOf, chunks, Row.rep, Row.cat, Row.sub, Row.put, Row.len, Row.get, Row.size, Row.flat, bnds, own0, own1, labsL, labsR, SV.labs, argsOf, entFr, SO.ev, St.of, keepSt, getAll, lookN, hasN, SV.cells, SV.one, SV.res1, SV.res0, SV.resP, SV.ok1, SV.ok0, SV.okN, SV.solid, SV.solid1, SV.solid0, SV.flat0, SV.nm, SV.nm1, SV.nm0, SV.noPtr1, SV.noPtr0, Cel.isFresh, fillP, setAt, partV, eqCells, cellEq, gamY, listsOk, tupOf, takeOwn, SV.ret1, resAll, resL, resV, Nat.reduceEqDiff, ↓reduceIte, Nat.reduceAdd, Nat.reduceMul, Nat.reduceLeDiff, Nat.reduceLT, reduceCtorEq, labOk, Int.reduceBEq, Int.reduceBNe, Int.reduceToNat, Int.reduceLE, Int.reduceLT, Int.reduceEq, Nat.reduceDiv, Nat.reduceMod, Nat.reduceSub, Nat.reduceBEq, fitR, fitR1, fitR0, fitRL1, fitRL, y48, gF, listS, rcvS, asI, he']
end Go.Proofs.Ytlfhcjohkpdkoaa
