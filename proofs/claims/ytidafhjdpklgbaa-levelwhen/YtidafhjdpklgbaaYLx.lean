/- What level.When does: sort.Search with its closure. -/
import Derived.Test.YtidafhjdpklgbaaYLw
namespace Go.Proofs.Ytidafhjdpklgbaa
open Go.ChangeShapes Go.WideShapes Go.ChangeAt Go.RowKit Go.Joins Y
set_option linter.unusedSimpArgs false
set_option linter.unusedVariables false
set_option maxRecDepth 100000
set_option maxHeartbeats 40000000
/-- The first of n places where p holds, from i on; else n. -/
def frst (p : Nat → Bool) : Nat → Nat → Nat
  | 0, i => i
  | f + 1, i => if p i then i else frst p f (i + 1)
theorem frst_is {p : Nat → Bool} : ∀ {f i r : Nat}, i ≤ r → r ≤ i + f → (∀ j, i ≤ j → j < r → p j = false) → (r < i + f → p r = true) → frst p f i = r
  | 0, i, r, h1, h2, _, _ => by rw [frst]; omega
  | f + 1, i, r, h1, h2, h3, h4 => by
    rw [frst]
    by_cases hi : i = r
    · subst hi
      rw [if_pos (h4 (by omega))]
    · rw [if_neg (by rw [h3 i (by omega) (by omega)]; simp)]
      exact frst_is (by omega) (by omega) (fun j a b => h3 j (by omega) b) (fun h => h4 (by omega))
theorem frst_spec {p : Nat → Bool} : ∀ (f i : Nat), i ≤ frst p f i ∧ frst p f i ≤ i + f ∧ (∀ j, i ≤ j → j < frst p f i → p j = false) ∧ (frst p f i < i + f → p (frst p f i) = true)
  | 0, i => by simp only [frst]; exact ⟨by omega, by omega, by omega, by omega⟩
  | f + 1, i => by
    rw [frst]
    by_cases hp : p i = true
    · rw [if_pos hp]; exact ⟨by omega, by omega, by omega, fun _ => hp⟩
    · rw [if_neg hp]
      obtain ⟨a, b, c, d⟩ := frst_spec (p := p) f (i + 1)
      refine ⟨by omega, by omega, fun j h1 h2 => ?_, fun h => d (by omega)⟩
      by_cases hj : j = i
      · subst hj; simpa using hp
      · exact c j (by omega) h2
/-- Has it come to q? -/
def lvP (n s c q : Int) (t : Nat) : Bool := decide (q ≤ (lvN n s c t : Nat))
/-- The first silence, up to 2^30, with that level. -/
def srL (n s c q : Int) : Nat := frst (lvP n s c q) 1073741825 0
theorem lvP_up {n s c q : Int} (hn : 0 ≤ n) (hc : 0 < c) {i j : Nat} (h : i ≤ j) (hp : lvP n s c q i = true) : lvP n s c q j = true := by
  have := lv_mono (n := n) (s := s) (c := c) (t := (i : Int)) (u := (j : Int)) hn hc (by omega)
  unfold lvP at *
  rw [decide_eq_true_eq] at *
  omega
def CondL (n s c : Int) : Prop := (0 ≤ n ∧ n ≤ 64) ∧ (0 ≤ s ∧ s ≤ 1073741824) ∧ (1 ≤ c ∧ c ≤ 1152921504606846976)
def gL1 : List (Nat × Say) := [(56, lvAS)]
theorem gL1_ok : GamOk Try.prog (gamY gL1) := gam_ok (gam_cons lvA_ok gam_nil)
def wcloS : Say
  | [.int .i64 t, .fz [.int .i64 n, .int .i64 s, .int .i64 c], .fz [.int .i64 q]] => some (CondL n s c ∧ (0 ≤ t ∧ t ≤ 1073741824), .bool (decide (q ≤ (lvN n s c t : Nat))), none)
  | _ => none
theorem wclo_ok : FOk Try.prog 58 wcloS := by
  intro xs p r own h hp
  unfold wcloS at h
  split at h
  case h_2 => cases h
  rename_i t n s c q
  simp only [Option.some.injEq, Prod.mk.injEq] at h
  obtain ⟨rfl, rfl, rfl⟩ := h
  refine fun_ok gL1_ok lawy_mixed y58_eq none ?_ (Nat.le_of_ble_eq_true rfl)
  obtain ⟨⟨c1, c2, c3⟩, c4⟩ := hp
  simp (config := { maxSteps := 9000000 }) only [↓vyD, vyU, binS, SV.go1, SV.go0, mkRow, intsOf, boolsOf, strsOf, chunks, Row.rep, Row.cat, Row.sub, Row.put, Row.len, Row.get, Row.size, Row.flat, bnds, own0, own1, labsL, labsR, SV.labs, argsOf, entFr, SO.ev, St.of, keepSt, getAll, lookN, hasN, SV.cells, SV.one, SV.res1, SV.res0, SV.resP, SV.ok1, SV.ok0, SV.okN, SV.solid, SV.solid1, SV.solid0, SV.flat0, SV.nm, SV.nm1, SV.nm0, SV.noPtr1, SV.noPtr0, Cel.isFresh, fillP, setAt, partV, eqCells, cellEq, gamY, listsOk, tupOf, takeOwn, SV.ret1, resAll, resL, resV, Nat.reduceEqDiff, ↓reduceIte, Nat.reduceAdd, Nat.reduceMul, Nat.reduceLeDiff, Nat.reduceLT, reduceCtorEq, labOk, Int.reduceBEq, Int.reduceBNe, Int.reduceToNat, Int.reduceLE, Int.reduceLT, Int.reduceEq, Nat.reduceDiv, Nat.reduceMod, Nat.reduceSub, Nat.reduceBEq, fitR, fitR1, fitR0, fitRL1, fitRL, y58, gL1, lvAS, c1, c2, c3, c4, ge_iff_le]
def gL2 : List (Nat × Say) := [(58, wcloS)]
theorem gL2_ok : GamOk Try.prog (gamY gL2) := gam_ok (gam_cons wclo_ok gam_nil)
def searchS : Say
  | [.int .i64 m, .clo f [.fz [.int .i64 n, .int .i64 s, .int .i64 c], .fz [.int .i64 q]]] => if f = 58 then some (m = 1073741825 ∧ CondL n s c, .int .i64 (srL n s c q : Nat), none) else none
  | _ => none
theorem search_in (n s c q : Int) (hc : CondL n s c) (R : Nat) (hR : srL n s c q = R) : vcFun (gamY gL2) y57 [.int .i64 1073741825, .clo 58 [.fz [.int .i64 n, .int .i64 s, .int .i64 c], .fz [.int .i64 q]]] none fun v o => fitR v (.int .i64 (R : Int)) ∧ o = none := by
  simp (config := { maxSteps := 9000000 }) only [↓vyD, vyU, binS, SV.go1, SV.go0, mkRow, intsOf, boolsOf, strsOf, chunks, Row.rep, Row.cat, Row.sub, Row.put, Row.len, Row.get, Row.size, Row.flat, bnds, own0, own1, labsL, labsR, SV.labs, argsOf, entFr, SO.ev, St.of, keepSt, getAll, lookN, hasN, SV.cells, SV.one, SV.res1, SV.res0, SV.resP, SV.ok1, SV.ok0, SV.okN, SV.solid, SV.solid1, SV.solid0, SV.flat0, SV.nm, SV.nm1, SV.nm0, SV.noPtr1, SV.noPtr0, Cel.isFresh, fillP, setAt, partV, eqCells, cellEq, gamY, listsOk, tupOf, takeOwn, SV.ret1, resAll, resL, resV, Nat.reduceEqDiff, ↓reduceIte, Nat.reduceAdd, Nat.reduceMul, Nat.reduceLeDiff, Nat.reduceLT, reduceCtorEq, labOk, Int.reduceBEq, Int.reduceBNe, Int.reduceToNat, Int.reduceLE, Int.reduceLT, Int.reduceEq, Nat.reduceDiv, Nat.reduceMod, Nat.reduceSub, Nat.reduceBEq, fitR, fitR1, fitR0, fitRL1, fitRL, y57, gL2, wcloS]
  refine loopG_intro (ι := Nat × Nat) (fun i => [(1, .clo 58 [.fz [.int .i64 n, .int .i64 s, .int .i64 c], .fz [.int .i64 q]]), (5, .int .i64 i.1), (6, .int .i64 i.2)]) (fun _ => [])
    (fun i => i.1 ≤ i.2 ∧ i.2 ≤ 1073741825 ∧ (∀ j, j < i.1 → lvP n s c q j = false) ∧ (i.2 < 1073741825 → lvP n s c q i.2 = true)) (fun i => i.2 - i.1) ⟨(0, 1073741825), ⟨by simp, by simp, fun j h => by simp at h, fun h => by simp at h⟩, ?_, ?_, ?_⟩ fun ⟨i, j⟩ ⟨h1, h2, h3, h4⟩ => ?_
  · simp (config := { maxSteps := 9000000 }) only [↓vyD, vyU, binS, SV.go1, SV.go0, mkRow, intsOf, boolsOf, strsOf, chunks, Row.rep, Row.cat, Row.sub, Row.put, Row.len, Row.get, Row.size, Row.flat, bnds, own0, own1, labsL, labsR, SV.labs, argsOf, entFr, SO.ev, St.of, keepSt, getAll, lookN, hasN, SV.cells, SV.one, SV.res1, SV.res0, SV.resP, SV.ok1, SV.ok0, SV.okN, SV.solid, SV.solid1, SV.solid0, SV.flat0, SV.nm, SV.nm1, SV.nm0, SV.noPtr1, SV.noPtr0, Cel.isFresh, fillP, setAt, partV, eqCells, cellEq, gamY, listsOk, tupOf, takeOwn, SV.ret1, resAll, resL, resV, Nat.reduceEqDiff, ↓reduceIte, Nat.reduceAdd, Nat.reduceMul, Nat.reduceLeDiff, Nat.reduceLT, reduceCtorEq, labOk, Int.reduceBEq, Int.reduceBNe, Int.reduceToNat, Int.reduceLE, Int.reduceLT, Int.reduceEq, Nat.reduceDiv, Nat.reduceMod, Nat.reduceSub, Nat.reduceBEq, fitR, fitR1, fitR0, fitRL1, fitRL, gL2, wcloS]
  · simp (config := { maxSteps := 9000000 }) only [↓vyD, vyU, binS, SV.go1, SV.go0, mkRow, intsOf, boolsOf, strsOf, chunks, Row.rep, Row.cat, Row.sub, Row.put, Row.len, Row.get, Row.size, Row.flat, bnds, own0, own1, labsL, labsR, SV.labs, argsOf, entFr, SO.ev, St.of, keepSt, getAll, lookN, hasN, SV.cells, SV.one, SV.res1, SV.res0, SV.resP, SV.ok1, SV.ok0, SV.okN, SV.solid, SV.solid1, SV.solid0, SV.flat0, SV.nm, SV.nm1, SV.nm0, SV.noPtr1, SV.noPtr0, Cel.isFresh, fillP, setAt, partV, eqCells, cellEq, gamY, listsOk, tupOf, takeOwn, SV.ret1, resAll, resL, resV, Nat.reduceEqDiff, ↓reduceIte, Nat.reduceAdd, Nat.reduceMul, Nat.reduceLeDiff, Nat.reduceLT, reduceCtorEq, labOk, Int.reduceBEq, Int.reduceBNe, Int.reduceToNat, Int.reduceLE, Int.reduceLT, Int.reduceEq, Nat.reduceDiv, Nat.reduceMod, Nat.reduceSub, Nat.reduceBEq, fitR, fitR1, fitR0, fitRL1, fitRL, gL2, wcloS, Int.natCast_zero, Int.ofNat_zero]
  · simp (config := { maxSteps := 9000000 }) only [↓vyD, vyU, binS, SV.go1, SV.go0, mkRow, intsOf, boolsOf, strsOf, chunks, Row.rep, Row.cat, Row.sub, Row.put, Row.len, Row.get, Row.size, Row.flat, bnds, own0, own1, labsL, labsR, SV.labs, argsOf, entFr, SO.ev, St.of, keepSt, getAll, lookN, hasN, SV.cells, SV.one, SV.res1, SV.res0, SV.resP, SV.ok1, SV.ok0, SV.okN, SV.solid, SV.solid1, SV.solid0, SV.flat0, SV.nm, SV.nm1, SV.nm0, SV.noPtr1, SV.noPtr0, Cel.isFresh, fillP, setAt, partV, eqCells, cellEq, gamY, listsOk, tupOf, takeOwn, SV.ret1, resAll, resL, resV, Nat.reduceEqDiff, ↓reduceIte, Nat.reduceAdd, Nat.reduceMul, Nat.reduceLeDiff, Nat.reduceLT, reduceCtorEq, labOk, Int.reduceBEq, Int.reduceBNe, Int.reduceToNat, Int.reduceLE, Int.reduceLT, Int.reduceEq, Nat.reduceDiv, Nat.reduceMod, Nat.reduceSub, Nat.reduceBEq, fitR, fitR1, fitR0, fitRL1, fitRL, gL2, wcloS]
  simp only at h1 h2 h3 h4
  by_cases hlt : (i : Int) < (j : Int)
  · obtain ⟨k, hk⟩ : ∃ k, (i + j) / 2 = k := ⟨_, rfl⟩
    have hk1 : i ≤ k ∧ k < j := by omega
    have e1 := i64_wrap (show I64 ((i : Int) + (j : Int)) by unfold I64; omega)
    have e2 : IntKind.u64.wrap ((i : Int) + (j : Int)) = (i : Int) + (j : Int) := u64_wrap (by unfold U64; omega)
    have e3 : ((i : Int) + (j : Int)).fdiv (2 ^ min 1 IntKind.u64.bits) = (k : Int) := by
      rw [show (2 : Int) ^ min 1 IntKind.u64.bits = 2 from rfl, Int.fdiv_eq_ediv_of_nonneg _ (by omega)]
      omega
    have e4 := i64_wrap (show I64 (k : Int) by unfold I64; omega)
    have e5 := i64_wrap (show I64 ((k : Int) + 1) by unfold I64; omega)
    have e6 : IntKind.u64.wrap (k : Int) = k := u64_wrap (by unfold U64; omega)
    have hk2 : (0 : Int) ≤ (k : Int) ∧ (k : Int) ≤ 1073741824 := by omega
    cases hp : lvP n s c q k with
    | true =>
      have hp' : q ≤ (lvN n s c k : Nat) := of_decide_eq_true hp
      simp (config := { maxSteps := 9000000 }) only [↓vyD, vyU, binS, SV.go1, SV.go0, mkRow, intsOf, boolsOf, strsOf, chunks, Row.rep, Row.cat, Row.sub, Row.put, Row.len, Row.get, Row.size, Row.flat, bnds, own0, own1, labsL, labsR, SV.labs, argsOf, entFr, SO.ev, St.of, keepSt, getAll, lookN, hasN, SV.cells, SV.one, SV.res1, SV.res0, SV.resP, SV.ok1, SV.ok0, SV.okN, SV.solid, SV.solid1, SV.solid0, SV.flat0, SV.nm, SV.nm1, SV.nm0, SV.noPtr1, SV.noPtr0, Cel.isFresh, fillP, setAt, partV, eqCells, cellEq, gamY, listsOk, tupOf, takeOwn, SV.ret1, resAll, resL, resV, Nat.reduceEqDiff, ↓reduceIte, Nat.reduceAdd, Nat.reduceMul, Nat.reduceLeDiff, Nat.reduceLT, reduceCtorEq, labOk, Int.reduceBEq, Int.reduceBNe, Int.reduceToNat, Int.reduceLE, Int.reduceLT, Int.reduceEq, Nat.reduceDiv, Nat.reduceMod, Nat.reduceSub, Nat.reduceBEq, fitR, fitR1, fitR0, fitRL1, fitRL, gL2, wcloS, hlt, e1, e2, e3, e4, e6, hk2, hc, hp']
      exact ⟨(i, k), ⟨⟨by omega, by omega, h3, fun _ => hp⟩, by simp; omega⟩, by simp⟩
    | false =>
      have hp' : ¬ q ≤ (lvN n s c k : Nat) := of_decide_eq_false hp
      simp (config := { maxSteps := 9000000 }) only [↓vyD, vyU, binS, SV.go1, SV.go0, mkRow, intsOf, boolsOf, strsOf, chunks, Row.rep, Row.cat, Row.sub, Row.put, Row.len, Row.get, Row.size, Row.flat, bnds, own0, own1, labsL, labsR, SV.labs, argsOf, entFr, SO.ev, St.of, keepSt, getAll, lookN, hasN, SV.cells, SV.one, SV.res1, SV.res0, SV.resP, SV.ok1, SV.ok0, SV.okN, SV.solid, SV.solid1, SV.solid0, SV.flat0, SV.nm, SV.nm1, SV.nm0, SV.noPtr1, SV.noPtr0, Cel.isFresh, fillP, setAt, partV, eqCells, cellEq, gamY, listsOk, tupOf, takeOwn, SV.ret1, resAll, resL, resV, Nat.reduceEqDiff, ↓reduceIte, Nat.reduceAdd, Nat.reduceMul, Nat.reduceLeDiff, Nat.reduceLT, reduceCtorEq, labOk, Int.reduceBEq, Int.reduceBNe, Int.reduceToNat, Int.reduceLE, Int.reduceLT, Int.reduceEq, Nat.reduceDiv, Nat.reduceMod, Nat.reduceSub, Nat.reduceBEq, fitR, fitR1, fitR0, fitRL1, fitRL, gL2, wcloS, hlt, e1, e2, e3, e4, e5, e6, hk2, hc, hp']
      refine ⟨(k + 1, j), ⟨⟨by omega, by omega, fun x hx => ?_, h4⟩, by simp; omega⟩, by simp⟩
      cases hq : lvP n s c q x with
      | false => rfl
      | true => rw [lvP_up hc.1.1 (by have := hc.2.2; omega) (show x ≤ k by simp at hx; omega) hq] at hp; cases hp
  · have hij : i = j := by omega
    subst hij
    have hr : i = R := by
      rw [← hR]
      exact (frst_is (by omega) (by omega) (fun x _ hx => h3 x hx) (fun h => h4 (by omega))).symm
    simp (config := { maxSteps := 9000000 }) only [↓vyD, vyU, binS, SV.go1, SV.go0, mkRow, intsOf, boolsOf, strsOf, chunks, Row.rep, Row.cat, Row.sub, Row.put, Row.len, Row.get, Row.size, Row.flat, bnds, own0, own1, labsL, labsR, SV.labs, argsOf, entFr, SO.ev, St.of, keepSt, getAll, lookN, hasN, SV.cells, SV.one, SV.res1, SV.res0, SV.resP, SV.ok1, SV.ok0, SV.okN, SV.solid, SV.solid1, SV.solid0, SV.flat0, SV.nm, SV.nm1, SV.nm0, SV.noPtr1, SV.noPtr0, Cel.isFresh, fillP, setAt, partV, eqCells, cellEq, gamY, listsOk, tupOf, takeOwn, SV.ret1, resAll, resL, resV, Nat.reduceEqDiff, ↓reduceIte, Nat.reduceAdd, Nat.reduceMul, Nat.reduceLeDiff, Nat.reduceLT, reduceCtorEq, labOk, Int.reduceBEq, Int.reduceBNe, Int.reduceToNat, Int.reduceLE, Int.reduceLT, Int.reduceEq, Nat.reduceDiv, Nat.reduceMod, Nat.reduceSub, Nat.reduceBEq, fitR, fitR1, fitR0, fitRL1, fitRL, gL2, wcloS, Int.lt_irrefl, hr]
theorem search_ok : FOk Try.prog 57 searchS := by
  intro xs p r own h hp
  unfold searchS at h
  split at h
  case h_2 => cases h
  rename_i m f n s c q
  split at h
  case isFalse => cases h
  rename_i hf
  subst hf
  simp only [Option.some.injEq, Prod.mk.injEq] at h
  obtain ⟨rfl, rfl, rfl⟩ := h
  obtain ⟨rfl, hc⟩ := hp
  exact fun_ok gL2_ok lawy_mixed y57_eq none (search_in n s c q hc _ rfl) (Nat.le_of_ble_eq_true rfl)
def whE (c : Int) (l : List Int) (m q : Int) : Int := if lkE c l m = 0 then (if 1 ≤ q ∧ q ≤ 60 then (if srL l.length (sumL l) (scL l m) q ≤ 1073741824 then 0 else 2) else 1) else lkE c l m
def whN (c : Int) (l : List Int) (m q : Int) : Nat := if whE c l m q = 0 then srL l.length (sumL l) (scL l m) q else 0
theorem whE_0 {c : Int} {l : List Int} {m q : Int} : whE c l m q = 0 ↔ lkE c l m = 0 ∧ (1 ≤ q ∧ q ≤ 60) ∧ srL l.length (sumL l) (scL l m) q ≤ 1073741824 := by
  unfold whE
  by_cases h : lkE c l m = 0
  · rw [if_pos h]
    by_cases h1 : 1 ≤ q ∧ q ≤ 60
    · rw [if_pos h1]; split <;> simp_all
    · rw [if_neg h1]; simp [h1]
  · rw [if_neg h]; simp [h]
def gWh : List (Nat × Say) := [(55, measS), (57, searchS)]
theorem gWh_ok : GamOk Try.prog (gamY gWh) := gam_ok (gam_cons meas_ok (gam_cons search_ok gam_nil))
def lwhenS : Say
  | [.agg [.int .i64 c, x_l], .int .i64 m, .int .i64 q] => (match asI x_l with | some l => some (True, .tup [.int .i64 (whN c l m q : Nat), .int .i64 (whE c l m q)], none) | _ => none)
  | _ => none
theorem lwhen_ok : FOk Try.prog 25 lwhenS := by
  intro xs p r own h hp
  unfold lwhenS at h
  split at h
  case h_2 => cases h
  rename_i c x_l m q
  split at h
  case h_2 => cases h
  rename_i l h_l
  simp only [Option.some.injEq, Prod.mk.injEq] at h
  obtain ⟨rfl, rfl, rfl⟩ := h
  refine fun_fit (ys := [.agg [.int .i64 c, .rw (.ints .i64 l)], .int .i64 m, .int .i64 q]) ?_ ⟨⟨rfl, asI_fit0 h_l, trivial⟩, fit_refl1 _ (by simp), fit_refl1 _ (by simp), trivial⟩
  clear h_l
  refine fun_ok gWh_ok lawy_mixed y25_eq none ?_ (Nat.le_of_ble_eq_true rfl)
  by_cases h : lkE c l m = 0
  · have hV : msV c l m = sv3 l.length (sumL l) (scL l m) := by rw [msV, if_pos h]
    have hC : CondL l.length (sumL l) (scL l m) := lv_cond h
    by_cases t1 : q < 1
    · have hE : whE c l m q = 1 := by rw [whE, if_pos h, if_neg (by omega)]
      have hN : whN c l m q = 0 := if_neg (by omega)
      simp (config := { maxSteps := 9000000 }) only [↓vyD, vyU, binS, SV.go1, SV.go0, mkRow, intsOf, boolsOf, strsOf, chunks, Row.rep, Row.cat, Row.sub, Row.put, Row.len, Row.get, Row.size, Row.flat, bnds, own0, own1, labsL, labsR, SV.labs, argsOf, entFr, SO.ev, St.of, keepSt, getAll, lookN, hasN, SV.cells, SV.one, SV.res1, SV.res0, SV.resP, SV.ok1, SV.ok0, SV.okN, SV.solid, SV.solid1, SV.solid0, SV.flat0, SV.nm, SV.nm1, SV.nm0, SV.noPtr1, SV.noPtr0, Cel.isFresh, fillP, setAt, partV, eqCells, cellEq, gamY, listsOk, tupOf, takeOwn, SV.ret1, resAll, resL, resV, Nat.reduceEqDiff, ↓reduceIte, Nat.reduceAdd, Nat.reduceMul, Nat.reduceLeDiff, Nat.reduceLT, reduceCtorEq, labOk, Int.reduceBEq, Int.reduceBNe, Int.reduceToNat, Int.reduceLE, Int.reduceLT, Int.reduceEq, Nat.reduceDiv, Nat.reduceMod, Nat.reduceSub, Nat.reduceBEq, fitR, fitR1, fitR0, fitRL1, fitRL, y25, gWh, measS, searchS, asI, h, hV, hE, hN, t1, sv3, Int.natCast_zero, Int.ofNat_zero]
    by_cases t2 : 60 < q
    · have hE : whE c l m q = 1 := by rw [whE, if_pos h, if_neg (by omega)]
      have hN : whN c l m q = 0 := if_neg (by omega)
      simp (config := { maxSteps := 9000000 }) only [↓vyD, vyU, binS, SV.go1, SV.go0, mkRow, intsOf, boolsOf, strsOf, chunks, Row.rep, Row.cat, Row.sub, Row.put, Row.len, Row.get, Row.size, Row.flat, bnds, own0, own1, labsL, labsR, SV.labs, argsOf, entFr, SO.ev, St.of, keepSt, getAll, lookN, hasN, SV.cells, SV.one, SV.res1, SV.res0, SV.resP, SV.ok1, SV.ok0, SV.okN, SV.solid, SV.solid1, SV.solid0, SV.flat0, SV.nm, SV.nm1, SV.nm0, SV.noPtr1, SV.noPtr0, Cel.isFresh, fillP, setAt, partV, eqCells, cellEq, gamY, listsOk, tupOf, takeOwn, SV.ret1, resAll, resL, resV, Nat.reduceEqDiff, ↓reduceIte, Nat.reduceAdd, Nat.reduceMul, Nat.reduceLeDiff, Nat.reduceLT, reduceCtorEq, labOk, Int.reduceBEq, Int.reduceBNe, Int.reduceToNat, Int.reduceLE, Int.reduceLT, Int.reduceEq, Nat.reduceDiv, Nat.reduceMod, Nat.reduceSub, Nat.reduceBEq, fitR, fitR1, fitR0, fitRL1, fitRL, y25, gWh, measS, searchS, asI, h, hV, hE, hN, t1, t2, sv3, Int.natCast_zero, Int.ofNat_zero]
    by_cases t3 : srL l.length (sumL l) (scL l m) q ≤ 1073741824
    · have hE : whE c l m q = 0 := whE_0.2 ⟨h, by omega, t3⟩
      have hN : whN c l m q = srL l.length (sumL l) (scL l m) q := if_pos hE
      generalize hS : sumL l = S at *
      generalize hQ : scL l m = C at *
      generalize hR : srL l.length S C q = R at *
      have t4 : ¬ (1073741824 : Int) < (R : Int) := by omega
      simp (config := { maxSteps := 9000000 }) only [↓vyD, vyU, binS, SV.go1, SV.go0, mkRow, intsOf, boolsOf, strsOf, chunks, Row.rep, Row.cat, Row.sub, Row.put, Row.len, Row.get, Row.size, Row.flat, bnds, own0, own1, labsL, labsR, SV.labs, argsOf, entFr, SO.ev, St.of, keepSt, getAll, lookN, hasN, SV.cells, SV.one, SV.res1, SV.res0, SV.resP, SV.ok1, SV.ok0, SV.okN, SV.solid, SV.solid1, SV.solid0, SV.flat0, SV.nm, SV.nm1, SV.nm0, SV.noPtr1, SV.noPtr0, Cel.isFresh, fillP, setAt, partV, eqCells, cellEq, gamY, listsOk, tupOf, takeOwn, SV.ret1, resAll, resL, resV, Nat.reduceEqDiff, ↓reduceIte, Nat.reduceAdd, Nat.reduceMul, Nat.reduceLeDiff, Nat.reduceLT, reduceCtorEq, labOk, Int.reduceBEq, Int.reduceBNe, Int.reduceToNat, Int.reduceLE, Int.reduceLT, Int.reduceEq, Nat.reduceDiv, Nat.reduceMod, Nat.reduceSub, Nat.reduceBEq, fitR, fitR1, fitR0, fitRL1, fitRL, y25, gWh, measS, searchS, asI, h, hV, hE, hN, t1, t2, t4, sv3, hC, hR]
    · have hE : whE c l m q = 2 := by rw [whE, if_pos h, if_pos (by omega), if_neg t3]
      have hN : whN c l m q = 0 := if_neg (by omega)
      generalize hS : sumL l = S at *
      generalize hQ : scL l m = C at *
      generalize hR : srL l.length S C q = R at *
      have t4 : (1073741824 : Int) < (R : Int) := by omega
      simp (config := { maxSteps := 9000000 }) only [↓vyD, vyU, binS, SV.go1, SV.go0, mkRow, intsOf, boolsOf, strsOf, chunks, Row.rep, Row.cat, Row.sub, Row.put, Row.len, Row.get, Row.size, Row.flat, bnds, own0, own1, labsL, labsR, SV.labs, argsOf, entFr, SO.ev, St.of, keepSt, getAll, lookN, hasN, SV.cells, SV.one, SV.res1, SV.res0, SV.resP, SV.ok1, SV.ok0, SV.okN, SV.solid, SV.solid1, SV.solid0, SV.flat0, SV.nm, SV.nm1, SV.nm0, SV.noPtr1, SV.noPtr0, Cel.isFresh, fillP, setAt, partV, eqCells, cellEq, gamY, listsOk, tupOf, takeOwn, SV.ret1, resAll, resL, resV, Nat.reduceEqDiff, ↓reduceIte, Nat.reduceAdd, Nat.reduceMul, Nat.reduceLeDiff, Nat.reduceLT, reduceCtorEq, labOk, Int.reduceBEq, Int.reduceBNe, Int.reduceToNat, Int.reduceLE, Int.reduceLT, Int.reduceEq, Nat.reduceDiv, Nat.reduceMod, Nat.reduceSub, Nat.reduceBEq, fitR, fitR1, fitR0, fitRL1, fitRL, y25, gWh, measS, searchS, asI, h, hV, hE, hN, t1, t2, t4, sv3, hC, hR, Int.natCast_zero, Int.ofNat_zero]
  · have hV : msV c l m = sv3 0 0 0 := by rw [msV, if_neg h]
    have hE : whE c l m q = lkE c l m := by rw [whE, if_neg h]
    have hN : whN c l m q = 0 := if_neg (by omega)
    have h' : (lkE c l m != 0) = true := by simpa using h
    simp (config := { maxSteps := 9000000 }) only [↓vyD, vyU, binS, SV.go1, SV.go0, mkRow, intsOf, boolsOf, strsOf, chunks, Row.rep, Row.cat, Row.sub, Row.put, Row.len, Row.get, Row.size, Row.flat, bnds, own0, own1, labsL, labsR, SV.labs, argsOf, entFr, SO.ev, St.of, keepSt, getAll, lookN, hasN, SV.cells, SV.one, SV.res1, SV.res0, SV.resP, SV.ok1, SV.ok0, SV.okN, SV.solid, SV.solid1, SV.solid0, SV.flat0, SV.nm, SV.nm1, SV.nm0, SV.noPtr1, SV.noPtr0, Cel.isFresh, fillP, setAt, partV, eqCells, cellEq, gamY, listsOk, tupOf, takeOwn, SV.ret1, resAll, resL, resV, Nat.reduceEqDiff, ↓reduceIte, Nat.reduceAdd, Nat.reduceMul, Nat.reduceLeDiff, Nat.reduceLT, reduceCtorEq, labOk, Int.reduceBEq, Int.reduceBNe, Int.reduceToNat, Int.reduceLE, Int.reduceLT, Int.reduceEq, Nat.reduceDiv, Nat.reduceMod, Nat.reduceSub, Nat.reduceBEq, fitR, fitR1, fitR0, fitRL1, fitRL, y25, gWh, measS, searchS, asI, h', hV, hE, hN, sv3, Int.natCast_zero, Int.ofNat_zero]
end Go.Proofs.Ytidafhjdpklgbaa
