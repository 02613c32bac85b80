/- hwref.Text: digits doubled, bit by bit. -/
import Derived.Test.YtidafhjdpklgbaaDoorYDc
import Derived.Test.YtidafhjdpklgbaaDoorYBt
import Derived.Test.YtidafhjdpklgbaaDoorCTx
namespace Go.Proofs.YtidafhjdpklgbaaDoor
open Go.ChangeShapes Go.WideShapes Go.ChangeAt Go.RowKit Go.Joins Y
set_option linter.unusedSimpArgs false
set_option linter.unusedVariables false
set_option maxRecDepth 100000
set_option maxHeartbeats 40000000
/- Digits of whole numbers, the lowest first; doubled with a carry. Of no program. -/
def digL (n : Nat) : List Int := if n < 10 then [(n : Int)] else ((n % 10 : Nat) : Int) :: digL (n / 10)
termination_by n
decreasing_by omega
theorem digL_lt {n : Nat} (h : n < 10) : digL n = [(n : Int)] := by rw [digL, if_pos h]
theorem digL_ge {n : Nat} (h : ¬ n < 10) : digL n = ((n % 10 : Nat) : Int) :: digL (n / 10) := by rw [digL, if_neg h]
/-- The digits doubled, with what is carried in; what is carried out. -/
def dblL : List Int → Int → List Int × Int
  | [], c => ([], c)
  | d :: ds, c => ((2 * d + c) % 10 :: (dblL ds ((2 * d + c) / 10)).1, (dblL ds ((2 * d + c) / 10)).2)
theorem dbl_is (n : Nat) : ∀ c : Nat, c ≤ 1 → digL (2 * n + c) = (dblL (digL n) c).1 ++ (if 0 < (dblL (digL n) c).2 then [(dblL (digL n) c).2] else []) := by
  induction n using Nat.strongRecOn with
  | ind n ih =>
    intro c hc
    by_cases h : n < 10
    · rw [digL_lt h]
      have e : dblL [(n : Int)] c = ([(2 * (n : Int) + c) % 10], (2 * (n : Int) + c) / 10) := rfl
      rw [e]
      dsimp only
      by_cases h2 : 2 * n + c < 10
      · rw [digL_lt h2, if_neg (by omega)]
        have : (2 * (n : Int) + c) % 10 = ((2 * n + c : Nat) : Int) := by omega
        rw [this]; rfl
      · rw [digL_ge h2, digL_lt (by omega), if_pos (by omega)]
        have e1 : (2 * (n : Int) + c) % 10 = (((2 * n + c) % 10 : Nat) : Int) := by omega
        have e2 : (2 * (n : Int) + c) / 10 = (((2 * n + c) / 10 : Nat) : Int) := by omega
        rw [e1, e2]; rfl
    · rw [digL_ge h, digL_ge (n := 2 * n + c) (by omega)]
      have e : dblL (((n % 10 : Nat) : Int) :: digL (n / 10)) c = ((2 * (((n % 10 : Nat) : Int)) + c) % 10 :: (dblL (digL (n / 10)) ((2 * (((n % 10 : Nat) : Int)) + c) / 10)).1, (dblL (digL (n / 10)) ((2 * (((n % 10 : Nat) : Int)) + c) / 10)).2) := rfl
      rw [e]
      dsimp only
      have hm : (2 * (n % 10) + c) / 10 ≤ 1 := by omega
      have h3 := ih (n / 10) (by omega) _ hm
      have e0 : (2 * n + c) / 10 = 2 * (n / 10) + (2 * (n % 10) + c) / 10 := by omega
      have e1 : (2 * (((n % 10 : Nat) : Int)) + c) % 10 = (((2 * n + c) % 10 : Nat) : Int) := by omega
      have e2 : (2 * (((n % 10 : Nat) : Int)) + c) / 10 = (((2 * (n % 10) + c) / 10 : Nat) : Int) := by omega
      rw [e0, h3, e1, e2]
      rfl
/-- What is carried behind the first k digits. -/
def carK (ds : List Int) (c : Int) : Nat → Int
  | 0 => c
  | k + 1 => (2 * ds.getD k 0 + carK ds c k) / 10
theorem carK_cons (d : Int) (ds : List Int) (c : Int) : ∀ k, carK (d :: ds) c (k + 1) = carK ds ((2 * d + c) / 10) k
  | 0 => by simp [carK]
  | k + 1 => by
    have ih := carK_cons d ds c k
    rw [carK, ih, carK]; simp
theorem dbl_len : ∀ (ds : List Int) (c : Int), (dblL ds c).1.length = ds.length
  | [], _ => rfl
  | d :: ds, c => by simp only [dblL, List.length_cons, dbl_len ds]
theorem dbl_car : ∀ (ds : List Int) (c : Int), (dblL ds c).2 = carK ds c ds.length
  | [], _ => rfl
  | d :: ds, c => by simp only [dblL, List.length_cons, carK_cons, dbl_car ds]
theorem dbl_get : ∀ (ds : List Int) (c : Int) (k : Nat), k < ds.length → (dblL ds c).1.getD k 0 = (2 * ds.getD k 0 + carK ds c k) % 10
  | [], _, k, h => by simp at h
  | d :: ds, c, 0, _ => by simp [dblL, carK]
  | d :: ds, c, k + 1, h => by
    have := dbl_get ds ((2 * d + c) / 10) k (by simpa using h)
    simp only [dblL, List.getD_cons_succ, carK_cons]
    exact this
/-- The first k doubled, the rest as it was. -/
def dblK (ds : List Int) (c : Int) : Nat → List Int
  | 0 => ds
  | k + 1 => (dblK ds c k).set k ((2 * ds.getD k 0 + carK ds c k) % 10)
theorem dblK_0 (ds : List Int) (c : Int) : dblK ds c 0 = ds := rfl
theorem dblK_s (ds : List Int) (c : Int) (k : Nat) : dblK ds c (k + 1) = (dblK ds c k).set k ((2 * ds.getD k 0 + carK ds c k) % 10) := rfl
attribute [irreducible] dblK
theorem dblK_len (ds : List Int) (c : Int) : ∀ k, (dblK ds c k).length = ds.length
  | 0 => by rw [dblK_0]
  | k + 1 => by rw [dblK_s, List.length_set, dblK_len ds c k]
theorem dblK_at (ds : List Int) (c : Int) : ∀ k, k ≤ ds.length → ∀ j, (dblK ds c k).getD j 0 = if j < k then (2 * ds.getD j 0 + carK ds c j) % 10 else ds.getD j 0
  | 0, _, j => by rw [dblK_0, if_neg (by omega)]
  | k + 1, h, j => by
    have ih := dblK_at ds c k (by omega) j
    rw [dblK_s, List.getD_eq_getElem?_getD, List.getElem?_set]
    by_cases hj : k = j
    · subst hj
      rw [if_pos rfl, if_pos (by rw [dblK_len]; omega), if_pos (by omega)]; rfl
    · rw [if_neg hj, ← List.getD_eq_getElem?_getD, ih]
      by_cases h2 : j < k
      · rw [if_pos h2, if_pos (by omega)]
      · rw [if_neg h2, if_neg (by omega)]
theorem dblK_all (ds : List Int) (c : Int) : dblK ds c ds.length = (dblL ds c).1 := by
  refine List.ext_getElem (by rw [dblK_len, dbl_len]) fun i h1 h2 => ?_
  rw [dblK_len] at h1
  have a := dblK_at ds c ds.length (Nat.le_refl _) i
  have b := dbl_get ds c i h1
  rw [if_pos h1, ← b] at a
  rw [List.getD_eq_getElem?_getD, List.getD_eq_getElem?_getD, List.getElem?_eq_getElem (by rw [dblK_len]; exact h1), List.getElem?_eq_getElem h2] at a
  exact a
theorem digL_bd : ∀ n : Nat, ∀ x ∈ digL n, 0 ≤ x ∧ x ≤ 9 := fun n => by
  induction n using Nat.strongRecOn with
  | ind n ih =>
    intro x hx
    by_cases h : n < 10
    · rw [digL_lt h, List.mem_singleton] at hx; omega
    · rw [digL_ge h] at hx
      rcases List.mem_cons.1 hx with rfl | hx
      · omega
      · exact ih (n / 10) (by omega) x hx
theorem carK_bd {ds : List Int} (hd : ∀ x ∈ ds, 0 ≤ x ∧ x ≤ 9) {c : Int} (hc : 0 ≤ c ∧ c ≤ 1) : ∀ k, k ≤ ds.length → 0 ≤ carK ds c k ∧ carK ds c k ≤ 1
  | 0, _ => hc
  | k + 1, h => by
    have ih := carK_bd hd hc k (by omega)
    have hm : ds.getD k 0 ∈ ds := by rw [List.getD_eq_getElem?_getD, List.getElem?_eq_getElem (show k < ds.length by omega)]; exact List.getElem_mem _
    have := hd _ hm
    rw [carK]; omega
/-- One step of the doubling: the digits of 2 n + c. -/
theorem dbl_step (n c : Nat) (hc : c ≤ 1) : digL (2 * n + c) = dblK (digL n) c (digL n).length ++ (if 0 < carK (digL n) c (digL n).length then [carK (digL n) c (digL n).length] else []) := by
  rw [dblK_all, dbl_is n c hc, dbl_car]
theorem digL_len : ∀ (k n : Nat), n < 10 ^ (k + 1) → (digL n).length ≤ k + 1
  | 0, n, h => by rw [digL_lt (by omega)]; simp
  | k + 1, n, h => by
    by_cases h1 : n < 10
    · rw [digL_lt h1]; simp
    · rw [digL_ge h1]
      have := digL_len k (n / 10) (by rw [Nat.pow_succ] at h; omega)
      simp; omega
theorem carK_s (ds : List Int) (c : Int) (k : Nat) : carK ds c (k + 1) = (2 * ds.getD k 0 + carK ds c k) / 10 := rfl
def chD (d : Int) : UInt8 := UInt8.ofNat (48 + d.toNat)
theorem digL_R (n : Nat) : (digL n).map chD = digR n := by
  induction n using Nat.strongRecOn with
  | ind n ih =>
    by_cases h : n < 10
    · rw [digL_lt h, digR_lt h]; simp [chD]
    · rw [digL_ge h, digR_ge h, List.map_cons, ih (n / 10) (by omega)]
      unfold chD
      rw [Int.toNat_natCast]
theorem dig_ch {d : Int} (h : 0 ≤ d ∧ d ≤ 9) : List.drop d.toNat (List.take (d + 1).toNat ([48, 49, 50, 51, 52, 53, 54, 55, 56, 57] : List UInt8)) = [chD d] := by
  have : d = 0 ∨ d = 1 ∨ d = 2 ∨ d = 3 ∨ d = 4 ∨ d = 5 ∨ d = 6 ∨ d = 7 ∨ d = 8 ∨ d = 9 := by omega
  rcases this with rfl | rfl | rfl | rfl | rfl | rfl | rfl | rfl | rfl | rfl <;> rfl
theorem rev_snoc {E : List Int} {t : Nat} (h : t < E.length) : ((E.take (t + 1)).map chD).reverse = chD (E.getD t 0) :: ((E.take t).map chD).reverse := by
  have e : E.take (t + 1) = E.take t ++ [E.getD t 0] := by
    rw [List.take_add_one, List.getElem?_eq_getElem h, List.getD_eq_getElem?_getD, List.getElem?_eq_getElem h]; rfl
  rw [e, List.map_append, List.reverse_append]; rfl
def gTx : List (Nat × Say) := [(13, bitsS), (18, bitS)]
theorem gTx_ok : GamOk Tryd.prog (gamY gTx) := gam_ok (gam_cons bits_ok (gam_cons bit_ok gam_nil))
theorem rtext_in (a : Nat) (ha : Fits a) : vcFun (gamY gTx) y7 [.agg [.int .u64 (hiN a), .int .u64 (loN a)]] none fun v o => fitR v (.str (decS a)) ∧ o = none := by
  have hL := bitsL_len a
  have hV := bitsL_val a
  have hb := bitLen_fits ha
  have hlt := (bitLen_lt_iff a (bitLen a)).1 (Nat.le_refl _)
  have ha' := fits_lt.1 ha
  have h39 : ∀ j, (digL (a / 2 ^ j)).length ≤ 39 := fun j => digL_len 38 _ (Nat.lt_of_le_of_lt (Nat.div_le_self _ _) (by omega))
  have hbd : ∀ j, ∀ x ∈ digL (a / 2 ^ j), 0 ≤ x ∧ x ≤ 9 := fun j => digL_bd _
  generalize hB : bitsL a = B at *
  have w0 := i64_wrap (show I64 ((B.length : Int) - 1) by unfold I64; omega)
  simp (config := { maxSteps := 9000000 }) only [↓vyD, vyU, binS, SV.go1, SV.go0, mkRow, intsOf, boolsOf, strsOf, chunks, Row.rep, Row.cat, Row.sub, Row.put, Row.len, Row.get, Row.size, Row.flat, bnds, own0, own1, labsL, labsR, SV.labs, argsOf, entFr, SO.ev, St.of, keepSt, getAll, lookN, hasN, SV.cells, SV.one, SV.res1, SV.res0, SV.resP, SV.ok1, SV.ok0, SV.okN, SV.solid, SV.solid1, SV.solid0, SV.flat0, SV.nm, SV.nm1, SV.nm0, SV.noPtr1, SV.noPtr0, Cel.isFresh, fillP, setAt, partV, eqCells, cellEq, gamY, listsOk, tupOf, takeOwn, SV.ret1, resAll, resL, resV, Nat.reduceEqDiff, ↓reduceIte, Nat.reduceAdd, Nat.reduceMul, Nat.reduceLeDiff, Nat.reduceLT, reduceCtorEq, labOk, Int.reduceBEq, Int.reduceBNe, Int.reduceToNat, Int.reduceLE, Int.reduceLT, Int.reduceEq, Nat.reduceDiv, Nat.reduceMod, Nat.reduceSub, Nat.reduceBEq, fitR, fitR1, fitR0, fitRL1, fitRL, wd, wN_hl, OkW_hl, eq_hl, eq_h0, wN_0, OkW_0, cmpN_le0, cmpN_gt0, cmpN_lt0, cmpN_ge0, Int.toNat_natCast, y7, gTx, bitsS, bitS, asB, ha, hB, w0]
  refine loopG_intro (ι := Nat × Nat) (fun i => [(3, .sl 1000 i.2), (4, .rw (.bools B)), (5, .int .i64 ((i.1 : Int) - 1))]) (fun i => [(1000, .row i.2 3 (.ints .i64 (digL (a / 2 ^ i.1))))]) (fun i => i.1 ≤ B.length) (fun i => i.1) ⟨(B.length, 0), by simp, ?_, ?_, ?_⟩ fun ⟨j, v⟩ hj => ?_
  · simp (config := { maxSteps := 9000000 }) only [↓vyD, vyU, binS, SV.go1, SV.go0, mkRow, intsOf, boolsOf, strsOf, chunks, Row.rep, Row.cat, Row.sub, Row.put, Row.len, Row.get, Row.size, Row.flat, bnds, own0, own1, labsL, labsR, SV.labs, argsOf, entFr, SO.ev, St.of, keepSt, getAll, lookN, hasN, SV.cells, SV.one, SV.res1, SV.res0, SV.resP, SV.ok1, SV.ok0, SV.okN, SV.solid, SV.solid1, SV.solid0, SV.flat0, SV.nm, SV.nm1, SV.nm0, SV.noPtr1, SV.noPtr0, Cel.isFresh, fillP, setAt, partV, eqCells, cellEq, gamY, listsOk, tupOf, takeOwn, SV.ret1, resAll, resL, resV, Nat.reduceEqDiff, ↓reduceIte, Nat.reduceAdd, Nat.reduceMul, Nat.reduceLeDiff, Nat.reduceLT, reduceCtorEq, labOk, Int.reduceBEq, Int.reduceBNe, Int.reduceToNat, Int.reduceLE, Int.reduceLT, Int.reduceEq, Nat.reduceDiv, Nat.reduceMod, Nat.reduceSub, Nat.reduceBEq, fitR, fitR1, fitR0, fitRL1, fitRL, wd, wN_hl, OkW_hl, eq_hl, eq_h0, wN_0, OkW_0, cmpN_le0, cmpN_gt0, cmpN_lt0, cmpN_ge0, Int.toNat_natCast, asB]
  · simp (config := { maxSteps := 9000000 }) only [↓vyD, vyU, binS, SV.go1, SV.go0, mkRow, intsOf, boolsOf, strsOf, chunks, Row.rep, Row.cat, Row.sub, Row.put, Row.len, Row.get, Row.size, Row.flat, bnds, own0, own1, labsL, labsR, SV.labs, argsOf, entFr, SO.ev, St.of, keepSt, getAll, lookN, hasN, SV.cells, SV.one, SV.res1, SV.res0, SV.resP, SV.ok1, SV.ok0, SV.okN, SV.solid, SV.solid1, SV.solid0, SV.flat0, SV.nm, SV.nm1, SV.nm0, SV.noPtr1, SV.noPtr0, Cel.isFresh, fillP, setAt, partV, eqCells, cellEq, gamY, listsOk, tupOf, takeOwn, SV.ret1, resAll, resL, resV, Nat.reduceEqDiff, ↓reduceIte, Nat.reduceAdd, Nat.reduceMul, Nat.reduceLeDiff, Nat.reduceLT, reduceCtorEq, labOk, Int.reduceBEq, Int.reduceBNe, Int.reduceToNat, Int.reduceLE, Int.reduceLT, Int.reduceEq, Nat.reduceDiv, Nat.reduceMod, Nat.reduceSub, Nat.reduceBEq, fitR, fitR1, fitR0, fitRL1, fitRL, wd, wN_hl, OkW_hl, eq_hl, eq_h0, wN_0, OkW_0, cmpN_le0, cmpN_gt0, cmpN_lt0, cmpN_ge0, Int.toNat_natCast, asB]
  · have e0 : a / 2 ^ B.length = 0 := Nat.div_eq_of_lt (by rw [hL]; exact hlt)
    have e1 : digL 0 = [0] := digL_lt (by omega)
    simp (config := { maxSteps := 9000000 }) only [↓vyD, vyU, binS, SV.go1, SV.go0, mkRow, intsOf, boolsOf, strsOf, chunks, Row.rep, Row.cat, Row.sub, Row.put, Row.len, Row.get, Row.size, Row.flat, bnds, own0, own1, labsL, labsR, SV.labs, argsOf, entFr, SO.ev, St.of, keepSt, getAll, lookN, hasN, SV.cells, SV.one, SV.res1, SV.res0, SV.resP, SV.ok1, SV.ok0, SV.okN, SV.solid, SV.solid1, SV.solid0, SV.flat0, SV.nm, SV.nm1, SV.nm0, SV.noPtr1, SV.noPtr0, Cel.isFresh, fillP, setAt, partV, eqCells, cellEq, gamY, listsOk, tupOf, takeOwn, SV.ret1, resAll, resL, resV, Nat.reduceEqDiff, ↓reduceIte, Nat.reduceAdd, Nat.reduceMul, Nat.reduceLeDiff, Nat.reduceLT, reduceCtorEq, labOk, Int.reduceBEq, Int.reduceBNe, Int.reduceToNat, Int.reduceLE, Int.reduceLT, Int.reduceEq, Nat.reduceDiv, Nat.reduceMod, Nat.reduceSub, Nat.reduceBEq, fitR, fitR1, fitR0, fitRL1, fitRL, wd, wN_hl, OkW_hl, eq_hl, eq_h0, wN_0, OkW_0, cmpN_le0, cmpN_gt0, cmpN_lt0, cmpN_ge0, Int.toNat_natCast, asB, e0, e1]
  simp only at hj
  cases j with
  | zero =>
    have n0 : ¬ (0 : Int) ≤ 0 - 1 := by omega
    rw [show a / 2 ^ 0 = a by simp] 
    have hE39 := h39 0
    have hEb := hbd 0
    rw [show a / 2 ^ 0 = a by simp] at hE39 hEb
    have hR : ((digL a).map chD).reverse = decS a := by rw [digL_R]; rfl
    generalize digL a = E at *
    simp (config := { maxSteps := 9000000 }) only [↓vyD, vyU, binS, SV.go1, SV.go0, mkRow, intsOf, boolsOf, strsOf, chunks, Row.rep, Row.cat, Row.sub, Row.put, Row.len, Row.get, Row.size, Row.flat, bnds, own0, own1, labsL, labsR, SV.labs, argsOf, entFr, SO.ev, St.of, keepSt, getAll, lookN, hasN, SV.cells, SV.one, SV.res1, SV.res0, SV.resP, SV.ok1, SV.ok0, SV.okN, SV.solid, SV.solid1, SV.solid0, SV.flat0, SV.nm, SV.nm1, SV.nm0, SV.noPtr1, SV.noPtr0, Cel.isFresh, fillP, setAt, partV, eqCells, cellEq, gamY, listsOk, tupOf, takeOwn, SV.ret1, resAll, resL, resV, Nat.reduceEqDiff, ↓reduceIte, Nat.reduceAdd, Nat.reduceMul, Nat.reduceLeDiff, Nat.reduceLT, reduceCtorEq, labOk, Int.reduceBEq, Int.reduceBNe, Int.reduceToNat, Int.reduceLE, Int.reduceLT, Int.reduceEq, Nat.reduceDiv, Nat.reduceMod, Nat.reduceSub, Nat.reduceBEq, fitR, fitR1, fitR0, fitRL1, fitRL, wd, wN_hl, OkW_hl, eq_hl, eq_h0, wN_0, OkW_0, cmpN_le0, cmpN_gt0, cmpN_lt0, cmpN_ge0, Int.toNat_natCast, gTx, bitsS, bitS, asB, ge_iff_le, n0, Int.natCast_zero, Int.ofNat_zero]
    refine loopG_intro (ι := Nat) (fun t => [(9, .str ((E.take t).map chD).reverse), (51, .sl 1000 v), (52, .int .i64 E.length), (53, .int .i64 t)]) (fun _ => [(1000, .row v 3 (.ints .i64 E))]) (fun t => t ≤ E.length) (fun t => E.length - t) ⟨0, by omega, ?_, ?_, ?_⟩ fun t ht => ?_
    · simp (config := { maxSteps := 9000000 }) only [↓vyD, vyU, binS, SV.go1, SV.go0, mkRow, intsOf, boolsOf, strsOf, chunks, Row.rep, Row.cat, Row.sub, Row.put, Row.len, Row.get, Row.size, Row.flat, bnds, own0, own1, labsL, labsR, SV.labs, argsOf, entFr, SO.ev, St.of, keepSt, getAll, lookN, hasN, SV.cells, SV.one, SV.res1, SV.res0, SV.resP, SV.ok1, SV.ok0, SV.okN, SV.solid, SV.solid1, SV.solid0, SV.flat0, SV.nm, SV.nm1, SV.nm0, SV.noPtr1, SV.noPtr0, Cel.isFresh, fillP, setAt, partV, eqCells, cellEq, gamY, listsOk, tupOf, takeOwn, SV.ret1, resAll, resL, resV, Nat.reduceEqDiff, ↓reduceIte, Nat.reduceAdd, Nat.reduceMul, Nat.reduceLeDiff, Nat.reduceLT, reduceCtorEq, labOk, Int.reduceBEq, Int.reduceBNe, Int.reduceToNat, Int.reduceLE, Int.reduceLT, Int.reduceEq, Nat.reduceDiv, Nat.reduceMod, Nat.reduceSub, Nat.reduceBEq, fitR, fitR1, fitR0, fitRL1, fitRL, wd, wN_hl, OkW_hl, eq_hl, eq_h0, wN_0, OkW_0, cmpN_le0, cmpN_gt0, cmpN_lt0, cmpN_ge0, Int.toNat_natCast, asB]
    · simp (config := { maxSteps := 9000000 }) only [↓vyD, vyU, binS, SV.go1, SV.go0, mkRow, intsOf, boolsOf, strsOf, chunks, Row.rep, Row.cat, Row.sub, Row.put, Row.len, Row.get, Row.size, Row.flat, bnds, own0, own1, labsL, labsR, SV.labs, argsOf, entFr, SO.ev, St.of, keepSt, getAll, lookN, hasN, SV.cells, SV.one, SV.res1, SV.res0, SV.resP, SV.ok1, SV.ok0, SV.okN, SV.solid, SV.solid1, SV.solid0, SV.flat0, SV.nm, SV.nm1, SV.nm0, SV.noPtr1, SV.noPtr0, Cel.isFresh, fillP, setAt, partV, eqCells, cellEq, gamY, listsOk, tupOf, takeOwn, SV.ret1, resAll, resL, resV, Nat.reduceEqDiff, ↓reduceIte, Nat.reduceAdd, Nat.reduceMul, Nat.reduceLeDiff, Nat.reduceLT, reduceCtorEq, labOk, Int.reduceBEq, Int.reduceBNe, Int.reduceToNat, Int.reduceLE, Int.reduceLT, Int.reduceEq, Nat.reduceDiv, Nat.reduceMod, Nat.reduceSub, Nat.reduceBEq, fitR, fitR1, fitR0, fitRL1, fitRL, wd, wN_hl, OkW_hl, eq_hl, eq_h0, wN_0, OkW_0, cmpN_le0, cmpN_gt0, cmpN_lt0, cmpN_ge0, Int.toNat_natCast, asB, Int.natCast_zero, Int.ofNat_zero, List.take_zero, List.map_nil, List.reverse_nil]
    · simp (config := { maxSteps := 9000000 }) only [↓vyD, vyU, binS, SV.go1, SV.go0, mkRow, intsOf, boolsOf, strsOf, chunks, Row.rep, Row.cat, Row.sub, Row.put, Row.len, Row.get, Row.size, Row.flat, bnds, own0, own1, labsL, labsR, SV.labs, argsOf, entFr, SO.ev, St.of, keepSt, getAll, lookN, hasN, SV.cells, SV.one, SV.res1, SV.res0, SV.resP, SV.ok1, SV.ok0, SV.okN, SV.solid, SV.solid1, SV.solid0, SV.flat0, SV.nm, SV.nm1, SV.nm0, SV.noPtr1, SV.noPtr0, Cel.isFresh, fillP, setAt, partV, eqCells, cellEq, gamY, listsOk, tupOf, takeOwn, SV.ret1, resAll, resL, resV, Nat.reduceEqDiff, ↓reduceIte, Nat.reduceAdd, Nat.reduceMul, Nat.reduceLeDiff, Nat.reduceLT, reduceCtorEq, labOk, Int.reduceBEq, Int.reduceBNe, Int.reduceToNat, Int.reduceLE, Int.reduceLT, Int.reduceEq, Nat.reduceDiv, Nat.reduceMod, Nat.reduceSub, Nat.reduceBEq, fitR, fitR1, fitR0, fitRL1, fitRL, wd, wN_hl, OkW_hl, eq_hl, eq_h0, wN_0, OkW_0, cmpN_le0, cmpN_gt0, cmpN_lt0, cmpN_ge0, Int.toNat_natCast, asB]
    by_cases htl : (t : Int) < (E.length : Int)
    · have htl' : t < E.length := by omega
      have c0 : (0 : Int) ≤ (t : Int) := by omega
      have b1 := i64_wrap (show I64 ((t : Int) + 1) by unfold I64; omega)
      have hd := hEb _ (by rw [List.getD_eq_getElem?_getD, List.getElem?_eq_getElem htl']; exact List.getElem_mem htl' : E.getD t 0 ∈ E)
      have w1 := i64_wrap (show I64 (E.getD t 0 + 1) by unfold I64; omega)
      have hch := dig_ch hd
      have hrv := rev_snoc htl'
      have g1 : E.getD t 0 ≤ E.getD t 0 + 1 := by omega
      have g2 : E.getD t 0 + 1 ≤ 10 := by omega
      have hlen : ((E.take t).map chD).reverse.length ≤ 39 := by simp; omega
      generalize ((E.take t).map chD).reverse = o at *
      generalize hD : E.getD t 0 = dd at *
      simp (config := { maxSteps := 9000000 }) only [↓vyD, vyU, binS, SV.go1, SV.go0, mkRow, intsOf, boolsOf, strsOf, chunks, Row.rep, Row.cat, Row.sub, Row.put, Row.len, Row.get, Row.size, Row.flat, bnds, own0, own1, labsL, labsR, SV.labs, argsOf, entFr, SO.ev, St.of, keepSt, getAll, lookN, hasN, SV.cells, SV.one, SV.res1, SV.res0, SV.resP, SV.ok1, SV.ok0, SV.okN, SV.solid, SV.solid1, SV.solid0, SV.flat0, SV.nm, SV.nm1, SV.nm0, SV.noPtr1, SV.noPtr0, Cel.isFresh, fillP, setAt, partV, eqCells, cellEq, gamY, listsOk, tupOf, takeOwn, SV.ret1, resAll, resL, resV, Nat.reduceEqDiff, ↓reduceIte, Nat.reduceAdd, Nat.reduceMul, Nat.reduceLeDiff, Nat.reduceLT, reduceCtorEq, labOk, Int.reduceBEq, Int.reduceBNe, Int.reduceToNat, Int.reduceLE, Int.reduceLT, Int.reduceEq, Nat.reduceDiv, Nat.reduceMod, Nat.reduceSub, Nat.reduceBEq, fitR, fitR1, fitR0, fitRL1, fitRL, wd, wN_hl, OkW_hl, eq_hl, eq_h0, wN_0, OkW_0, cmpN_le0, cmpN_gt0, cmpN_lt0, cmpN_ge0, Int.toNat_natCast, gTx, bitsS, bitS, asB, htl, htl', c0, b1, w1, hch, hd, g1, g2, hD, Int.toNat_natCast]
      exact ⟨by omega, t + 1, ⟨by omega, by omega⟩, hrv.symm, by simp⟩
    · have htL : t = E.length := by omega
      subst htL
      have hfin : ((E.take E.length).map chD).reverse = decS a := by rw [List.take_length]; exact hR
      simp (config := { maxSteps := 9000000 }) only [↓vyD, vyU, binS, SV.go1, SV.go0, mkRow, intsOf, boolsOf, strsOf, chunks, Row.rep, Row.cat, Row.sub, Row.put, Row.len, Row.get, Row.size, Row.flat, bnds, own0, own1, labsL, labsR, SV.labs, argsOf, entFr, SO.ev, St.of, keepSt, getAll, lookN, hasN, SV.cells, SV.one, SV.res1, SV.res0, SV.resP, SV.ok1, SV.ok0, SV.okN, SV.solid, SV.solid1, SV.solid0, SV.flat0, SV.nm, SV.nm1, SV.nm0, SV.noPtr1, SV.noPtr0, Cel.isFresh, fillP, setAt, partV, eqCells, cellEq, gamY, listsOk, tupOf, takeOwn, SV.ret1, resAll, resL, resV, Nat.reduceEqDiff, ↓reduceIte, Nat.reduceAdd, Nat.reduceMul, Nat.reduceLeDiff, Nat.reduceLT, reduceCtorEq, labOk, Int.reduceBEq, Int.reduceBNe, Int.reduceToNat, Int.reduceLE, Int.reduceLT, Int.reduceEq, Nat.reduceDiv, Nat.reduceMod, Nat.reduceSub, Nat.reduceBEq, fitR, fitR1, fitR0, fitRL1, fitRL, wd, wN_hl, OkW_hl, eq_hl, eq_h0, wN_0, OkW_0, cmpN_le0, cmpN_gt0, cmpN_lt0, cmpN_ge0, Int.toNat_natCast, gTx, bitsS, bitS, asB, htl, Int.lt_irrefl, hfin]
  | succ j =>
    have ej : (j : Int) + 1 - 1 = j := by omega
    have c0 : (0 : Int) ≤ (j : Int) := by omega
    have hm : a / 2 ^ j = 2 * (a / 2 ^ (j + 1)) + a / 2 ^ j % 2 := by
      rw [Nat.pow_succ, ← Nat.div_div_eq_div_mul]; omega
    have hc1 : a / 2 ^ j % 2 ≤ 1 := by omega
    have hst := dbl_step (a / 2 ^ (j + 1)) (a / 2 ^ j % 2) hc1
    rw [← hm] at hst
    have hD39 := h39 (j + 1)
    have hDb := hbd (j + 1)
    have hck := fun k => carK_bd hDb (c := ((a / 2 ^ j % 2 : Nat) : Int)) (by omega) k
    have wj := i64_wrap (show I64 ((j : Int) - 1) by unfold I64; omega)
    generalize digL (a / 2 ^ (j + 1)) = E at *
    generalize hC : a / 2 ^ j % 2 = C at *
    simp (config := { maxSteps := 9000000 }) only [↓vyD, vyU, binS, SV.go1, SV.go0, mkRow, intsOf, boolsOf, strsOf, chunks, Row.rep, Row.cat, Row.sub, Row.put, Row.len, Row.get, Row.size, Row.flat, bnds, own0, own1, labsL, labsR, SV.labs, argsOf, entFr, SO.ev, St.of, keepSt, getAll, lookN, hasN, SV.cells, SV.one, SV.res1, SV.res0, SV.resP, SV.ok1, SV.ok0, SV.okN, SV.solid, SV.solid1, SV.solid0, SV.flat0, SV.nm, SV.nm1, SV.nm0, SV.noPtr1, SV.noPtr0, Cel.isFresh, fillP, setAt, partV, eqCells, cellEq, gamY, listsOk, tupOf, takeOwn, SV.ret1, resAll, resL, resV, Nat.reduceEqDiff, ↓reduceIte, Nat.reduceAdd, Nat.reduceMul, Nat.reduceLeDiff, Nat.reduceLT, reduceCtorEq, labOk, Int.reduceBEq, Int.reduceBNe, Int.reduceToNat, Int.reduceLE, Int.reduceLT, Int.reduceEq, Nat.reduceDiv, Nat.reduceMod, Nat.reduceSub, Nat.reduceBEq, fitR, fitR1, fitR0, fitRL1, fitRL, wd, wN_hl, OkW_hl, eq_hl, eq_h0, wN_0, OkW_0, cmpN_le0, cmpN_gt0, cmpN_lt0, cmpN_ge0, Int.toNat_natCast, gTx, bitsS, bitS, asB, ge_iff_le, ej, c0, hV, hC, Int.toNat_natCast]
    refine loopG_intro (ι := Nat) (fun k => [(3, .sl 1000 v), (4, .rw (.bools B)), (5, .int .i64 j), (6, .int .i64 (carK E C k)), (26, .int .i64 E.length), (27, .int .i64 k)]) (fun k => [(1000, .row v 3 (.ints .i64 (dblK E C k)))]) (fun k => k ≤ E.length) (fun k => E.length - k) ⟨0, by omega, ?_, ?_, ?_⟩ fun k hk => ?_
    · simp (config := { maxSteps := 9000000 }) only [↓vyD, vyU, binS, SV.go1, SV.go0, mkRow, intsOf, boolsOf, strsOf, chunks, Row.rep, Row.cat, Row.sub, Row.put, Row.len, Row.get, Row.size, Row.flat, bnds, own0, own1, labsL, labsR, SV.labs, argsOf, entFr, SO.ev, St.of, keepSt, getAll, lookN, hasN, SV.cells, SV.one, SV.res1, SV.res0, SV.resP, SV.ok1, SV.ok0, SV.okN, SV.solid, SV.solid1, SV.solid0, SV.flat0, SV.nm, SV.nm1, SV.nm0, SV.noPtr1, SV.noPtr0, Cel.isFresh, fillP, setAt, partV, eqCells, cellEq, gamY, listsOk, tupOf, takeOwn, SV.ret1, resAll, resL, resV, Nat.reduceEqDiff, ↓reduceIte, Nat.reduceAdd, Nat.reduceMul, Nat.reduceLeDiff, Nat.reduceLT, reduceCtorEq, labOk, Int.reduceBEq, Int.reduceBNe, Int.reduceToNat, Int.reduceLE, Int.reduceLT, Int.reduceEq, Nat.reduceDiv, Nat.reduceMod, Nat.reduceSub, Nat.reduceBEq, fitR, fitR1, fitR0, fitRL1, fitRL, wd, wN_hl, OkW_hl, eq_hl, eq_h0, wN_0, OkW_0, cmpN_le0, cmpN_gt0, cmpN_lt0, cmpN_ge0, Int.toNat_natCast, asB]
    · simp (config := { maxSteps := 9000000 }) only [↓vyD, vyU, binS, SV.go1, SV.go0, mkRow, intsOf, boolsOf, strsOf, chunks, Row.rep, Row.cat, Row.sub, Row.put, Row.len, Row.get, Row.size, Row.flat, bnds, own0, own1, labsL, labsR, SV.labs, argsOf, entFr, SO.ev, St.of, keepSt, getAll, lookN, hasN, SV.cells, SV.one, SV.res1, SV.res0, SV.resP, SV.ok1, SV.ok0, SV.okN, SV.solid, SV.solid1, SV.solid0, SV.flat0, SV.nm, SV.nm1, SV.nm0, SV.noPtr1, SV.noPtr0, Cel.isFresh, fillP, setAt, partV, eqCells, cellEq, gamY, listsOk, tupOf, takeOwn, SV.ret1, resAll, resL, resV, Nat.reduceEqDiff, ↓reduceIte, Nat.reduceAdd, Nat.reduceMul, Nat.reduceLeDiff, Nat.reduceLT, reduceCtorEq, labOk, Int.reduceBEq, Int.reduceBNe, Int.reduceToNat, Int.reduceLE, Int.reduceLT, Int.reduceEq, Nat.reduceDiv, Nat.reduceMod, Nat.reduceSub, Nat.reduceBEq, fitR, fitR1, fitR0, fitRL1, fitRL, wd, wN_hl, OkW_hl, eq_hl, eq_h0, wN_0, OkW_0, cmpN_le0, cmpN_gt0, cmpN_lt0, cmpN_ge0, Int.toNat_natCast, asB, ej, Int.natCast_zero, Int.ofNat_zero, carK]
    · simp (config := { maxSteps := 9000000 }) only [↓vyD, vyU, binS, SV.go1, SV.go0, mkRow, intsOf, boolsOf, strsOf, chunks, Row.rep, Row.cat, Row.sub, Row.put, Row.len, Row.get, Row.size, Row.flat, bnds, own0, own1, labsL, labsR, SV.labs, argsOf, entFr, SO.ev, St.of, keepSt, getAll, lookN, hasN, SV.cells, SV.one, SV.res1, SV.res0, SV.resP, SV.ok1, SV.ok0, SV.okN, SV.solid, SV.solid1, SV.solid0, SV.flat0, SV.nm, SV.nm1, SV.nm0, SV.noPtr1, SV.noPtr0, Cel.isFresh, fillP, setAt, partV, eqCells, cellEq, gamY, listsOk, tupOf, takeOwn, SV.ret1, resAll, resL, resV, Nat.reduceEqDiff, ↓reduceIte, Nat.reduceAdd, Nat.reduceMul, Nat.reduceLeDiff, Nat.reduceLT, reduceCtorEq, labOk, Int.reduceBEq, Int.reduceBNe, Int.reduceToNat, Int.reduceLE, Int.reduceLT, Int.reduceEq, Nat.reduceDiv, Nat.reduceMod, Nat.reduceSub, Nat.reduceBEq, fitR, fitR1, fitR0, fitRL1, fitRL, wd, wN_hl, OkW_hl, eq_hl, eq_h0, wN_0, OkW_0, cmpN_le0, cmpN_gt0, cmpN_lt0, cmpN_ge0, Int.toNat_natCast, asB, dblK_0]
    have hckk := hck k hk
    have hKl := dblK_len E C k
    by_cases hkl : (k : Int) < (E.length : Int)
    · have hkl' : k < E.length := by omega
      have d0 : (0 : Int) ≤ (k : Int) := by omega
      have b1 := i64_wrap (show I64 ((k : Int) + 1) by unfold I64; omega)
      have he := hDb _ (by rw [List.getD_eq_getElem?_getD, List.getElem?_eq_getElem hkl']; exact List.getElem_mem hkl' : E.getD k 0 ∈ E)
      have hat := dblK_at E C k hk k
      rw [if_neg (by omega)] at hat
      have hset := dblK_s E C k
      have hcs := carK_s E C k
      have w1 := i64_wrap (show I64 (2 * E.getD k 0) by unfold I64; omega)
      have w2 := i64_wrap (show I64 (2 * E.getD k 0 + carK E C k) by unfold I64; omega)
      have t1 : (2 * E.getD k 0 + carK E C k).tmod 10 = (2 * E.getD k 0 + carK E C k) % 10 := Int.tmod_eq_emod_of_nonneg (by omega)
      have t2 : (2 * E.getD k 0 + carK E C k).tdiv 10 = (2 * E.getD k 0 + carK E C k) / 10 := Int.tdiv_eq_ediv_of_nonneg (by omega)
      have w3 := i64_wrap (show I64 ((2 * E.getD k 0 + carK E C k) % 10) by unfold I64; omega)
      have w4 := i64_wrap (show I64 ((2 * E.getD k 0 + carK E C k) / 10) by unfold I64; omega)
      have n10 : ¬ (10 : Int) = 0 := by omega
      simp (config := { maxSteps := 9000000 }) only [↓vyD, vyU, binS, SV.go1, SV.go0, mkRow, intsOf, boolsOf, strsOf, chunks, Row.rep, Row.cat, Row.sub, Row.put, Row.len, Row.get, Row.size, Row.flat, bnds, own0, own1, labsL, labsR, SV.labs, argsOf, entFr, SO.ev, St.of, keepSt, getAll, lookN, hasN, SV.cells, SV.one, SV.res1, SV.res0, SV.resP, SV.ok1, SV.ok0, SV.okN, SV.solid, SV.solid1, SV.solid0, SV.flat0, SV.nm, SV.nm1, SV.nm0, SV.noPtr1, SV.noPtr0, Cel.isFresh, fillP, setAt, partV, eqCells, cellEq, gamY, listsOk, tupOf, takeOwn, SV.ret1, resAll, resL, resV, Nat.reduceEqDiff, ↓reduceIte, Nat.reduceAdd, Nat.reduceMul, Nat.reduceLeDiff, Nat.reduceLT, reduceCtorEq, labOk, Int.reduceBEq, Int.reduceBNe, Int.reduceToNat, Int.reduceLE, Int.reduceLT, Int.reduceEq, Nat.reduceDiv, Nat.reduceMod, Nat.reduceSub, Nat.reduceBEq, fitR, fitR1, fitR0, fitRL1, fitRL, wd, wN_hl, OkW_hl, eq_hl, eq_h0, wN_0, OkW_0, cmpN_le0, cmpN_gt0, cmpN_lt0, cmpN_ge0, Int.toNat_natCast, gTx, bitsS, bitS, asB, hkl, hkl', d0, b1, hKl, hat, w1, w2, t1, t2, w3, w4, n10, ne_eq, not_false_eq_true, Int.toNat_natCast]
      exact ⟨k + 1, ⟨by omega, by omega⟩, ⟨hcs.symm, by simp⟩, hset.symm⟩
    · have hkL : k = E.length := by omega
      subst hkL
      by_cases hpos : 0 < carK E C E.length
      · rw [if_pos hpos] at hst
        simp (config := { maxSteps := 9000000 }) only [↓vyD, vyU, binS, SV.go1, SV.go0, mkRow, intsOf, boolsOf, strsOf, chunks, Row.rep, Row.cat, Row.sub, Row.put, Row.len, Row.get, Row.size, Row.flat, bnds, own0, own1, labsL, labsR, SV.labs, argsOf, entFr, SO.ev, St.of, keepSt, getAll, lookN, hasN, SV.cells, SV.one, SV.res1, SV.res0, SV.resP, SV.ok1, SV.ok0, SV.okN, SV.solid, SV.solid1, SV.solid0, SV.flat0, SV.nm, SV.nm1, SV.nm0, SV.noPtr1, SV.noPtr0, Cel.isFresh, fillP, setAt, partV, eqCells, cellEq, gamY, listsOk, tupOf, takeOwn, SV.ret1, resAll, resL, resV, Nat.reduceEqDiff, ↓reduceIte, Nat.reduceAdd, Nat.reduceMul, Nat.reduceLeDiff, Nat.reduceLT, reduceCtorEq, labOk, Int.reduceBEq, Int.reduceBNe, Int.reduceToNat, Int.reduceLE, Int.reduceLT, Int.reduceEq, Nat.reduceDiv, Nat.reduceMod, Nat.reduceSub, Nat.reduceBEq, fitR, fitR1, fitR0, fitRL1, fitRL, wd, wN_hl, OkW_hl, eq_hl, eq_h0, wN_0, OkW_0, cmpN_le0, cmpN_gt0, cmpN_lt0, cmpN_ge0, Int.toNat_natCast, gTx, bitsS, bitS, asB, hkl, Int.lt_irrefl, hpos, gt_iff_lt, hKl, wj]
        exact ⟨by omega, (j, v + 1), ⟨by simp only; omega, by simp⟩, ⟨rfl, rfl⟩, rfl, hst.symm⟩
      · rw [if_neg hpos, List.append_nil] at hst
        simp (config := { maxSteps := 9000000 }) only [↓vyD, vyU, binS, SV.go1, SV.go0, mkRow, intsOf, boolsOf, strsOf, chunks, Row.rep, Row.cat, Row.sub, Row.put, Row.len, Row.get, Row.size, Row.flat, bnds, own0, own1, labsL, labsR, SV.labs, argsOf, entFr, SO.ev, St.of, keepSt, getAll, lookN, hasN, SV.cells, SV.one, SV.res1, SV.res0, SV.resP, SV.ok1, SV.ok0, SV.okN, SV.solid, SV.solid1, SV.solid0, SV.flat0, SV.nm, SV.nm1, SV.nm0, SV.noPtr1, SV.noPtr0, Cel.isFresh, fillP, setAt, partV, eqCells, cellEq, gamY, listsOk, tupOf, takeOwn, SV.ret1, resAll, resL, resV, Nat.reduceEqDiff, ↓reduceIte, Nat.reduceAdd, Nat.reduceMul, Nat.reduceLeDiff, Nat.reduceLT, reduceCtorEq, labOk, Int.reduceBEq, Int.reduceBNe, Int.reduceToNat, Int.reduceLE, Int.reduceLT, Int.reduceEq, Nat.reduceDiv, Nat.reduceMod, Nat.reduceSub, Nat.reduceBEq, fitR, fitR1, fitR0, fitRL1, fitRL, wd, wN_hl, OkW_hl, eq_hl, eq_h0, wN_0, OkW_0, cmpN_le0, cmpN_gt0, cmpN_lt0, cmpN_ge0, Int.toNat_natCast, gTx, bitsS, bitS, asB, hkl, Int.lt_irrefl, hpos, gt_iff_lt, wj]
        exact ⟨(j, v), ⟨by simp only; omega, by simp⟩, ⟨rfl, rfl⟩, rfl, hst.symm⟩
def rtextS : Say
  | [.agg [.int .u64 x, .int .u64 y]] => some (OkW x y, .str (decS (wN x y)), none)
  | _ => none
theorem rtext_ok : FOk Tryd.prog 7 rtextS := by
  intro xs p r own h hp
  unfold rtextS at h
  split at h
  case h_2 => cases h
  rename_i x y
  simp only [Option.some.injEq, Prod.mk.injEq] at h
  obtain ⟨rfl, rfl, rfl⟩ := h
  refine fun_ok gTx_ok lawy_mixed y7_eq none ?_ (Nat.le_of_ble_eq_true rfl)
  obtain ⟨ha, e1, e2⟩ := isW_wN hp
  generalize wN x y = a at *
  subst e1 e2
  exact rtext_in a ha
end Go.Proofs.YtidafhjdpklgbaaDoor
