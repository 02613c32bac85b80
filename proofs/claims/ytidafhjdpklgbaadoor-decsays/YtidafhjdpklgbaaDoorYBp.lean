/- hwref.Prod and hwref.Quot: products and quotients of lists of bits. -/
import Derived.Test.YtidafhjdpklgbaaDoorYBn
namespace Go.Proofs.YtidafhjdpklgbaaDoor
open Go.ChangeShapes Go.WideShapes Go.ChangeAt Go.RowKit Go.Joins Y
set_option linter.unusedSimpArgs false
set_option linter.unusedVariables false
set_option maxRecDepth 100000
set_option maxHeartbeats 40000000
theorem list_bits : ∀ l : List Bool, ofN l.length (valL l) = l := by
  intro l
  refine List.ext_getElem (by rw [ofN_len]) fun i h1 h2 => ?_
  have hv := valL_bit l i
  simp only [ofN, List.getElem_map, List.getElem_range]
  rw [List.getD_eq_getElem?_getD, List.getElem?_eq_getElem h2] at hv
  simp only [Option.getD_some] at hv
  rw [← hv]
  cases l[i] <;> simp
theorem bits_ext {l : List Bool} {k n : Nat} (h1 : l.length = k) (h2 : valL l = n) : l = ofN k n := by
  rw [← h1, ← h2, list_bits]
theorem plusL_len (a b : List Bool) : (plusL a b).length ≤ max a.length b.length + 1 := by
  rw [plusL, ofN_len, plusK]; split <;> omega
theorem movedL_len (a : List Bool) (n : Nat) : (movedL a n).length = n + a.length := by simp [movedL]
def prodS (a b : List Bool) : Nat → List Bool
  | 0 => []
  | i + 1 => if a.getD i false = true then plusL (prodS a b i) (movedL b i) else prodS a b i
theorem prodS_len (a b : List Bool) : ∀ i : Nat, (prodS a b i).length ≤ b.length + 2 * i
  | 0 => by simp [prodS]
  | i + 1 => by
    have h := prodS_len a b i
    simp only [prodS]
    split
    · have h1 := plusL_len (prodS a b i) (movedL b i)
      rw [movedL_len] at h1
      omega
    · omega
theorem prodS_val (a b : List Bool) : ∀ i : Nat, i ≤ a.length → valL (prodS a b i) = valL (a.take i) * valL b
  | 0, _ => by simp [prodS, valL]
  | i + 1, hi => by
    have h := prodS_val a b i (by omega)
    rw [valL_snoc' (show i < a.length by omega)]
    simp only [prodS]
    split
    · rw [plusL_val, movedL_val, h, Nat.one_mul, Nat.add_mul, Nat.mul_comm (valL b)]
    · rw [h, Nat.zero_mul, Nat.add_zero]
def prodL (a b : List Bool) : List Bool := prodS a b a.length
theorem prodL_val (a b : List Bool) : valL (prodL a b) = valL a * valL b := by
  rw [prodL, prodS_val a b _ (Nat.le_refl _), List.take_length]
def gPr : List (Nat × Say) := [(28, movedS), (11, bplusS)]
theorem gPr_ok : GamOk Tryd.prog (gamY gPr) := gam_ok (gam_cons moved_ok (gam_cons bplus_ok gam_nil))
def bprodS : Say
  | [x_a, x_b] => (match asB x_a, asB x_b with | some a, some b => some (a.length ≤ 1048576 ∧ b.length ≤ 1048576, .rw (.bools (prodL a b)), none) | _, _ => none)
  | _ => none
theorem bprod_ok : FOk Tryd.prog 12 bprodS := by
  intro xs p r own h hp
  unfold bprodS at h
  split at h
  case h_2 => cases h
  rename_i x_a x_b
  split at h
  case h_2 => cases h
  rename_i a b h_a h_b
  simp only [Option.some.injEq, Prod.mk.injEq] at h
  obtain ⟨rfl, rfl, rfl⟩ := h
  refine fun_fit (ys := [.rw (.bools a), .rw (.bools b)]) ?_ ⟨asB_fit h_a, asB_fit h_b, trivial⟩
  clear h_a h_b
  refine fun_ok gPr_ok lawy_mixed y12_eq none ?_ (Nat.le_of_ble_eq_true rfl)
  obtain ⟨h1, h2⟩ := hp
  simp (config := { maxSteps := 9000000 }) only [↓vyD, vyU, binS, SV.go1, SV.go0, mkRow, intsOf, boolsOf, strsOf, chunks, Row.rep, Row.cat, Row.sub, Row.put, Row.len, Row.get, Row.size, Row.flat, bnds, own0, own1, labsL, labsR, SV.labs, argsOf, entFr, SO.ev, St.of, keepSt, getAll, lookN, hasN, SV.cells, SV.one, SV.res1, SV.res0, SV.resP, SV.ok1, SV.ok0, SV.okN, SV.solid, SV.solid1, SV.solid0, SV.flat0, SV.nm, SV.nm1, SV.nm0, SV.noPtr1, SV.noPtr0, Cel.isFresh, fillP, setAt, partV, eqCells, cellEq, gamY, listsOk, tupOf, takeOwn, SV.ret1, resAll, resL, resV, Nat.reduceEqDiff, ↓reduceIte, Nat.reduceAdd, Nat.reduceMul, Nat.reduceLeDiff, Nat.reduceLT, reduceCtorEq, labOk, Int.reduceBEq, Int.reduceBNe, Int.reduceToNat, Int.reduceLE, Int.reduceLT, Int.reduceEq, Nat.reduceDiv, Nat.reduceMod, Nat.reduceSub, Nat.reduceBEq, fitR, fitR1, fitR0, fitRL1, fitRL, y12, gPr, movedS, bplusS, asB]
  refine loopG_intro (ι := Nat) (fun i => [(1, .rw (.bools b)), (5, .rw (.bools (prodS a b i))), (8, .rw (.bools a)), (9, .int .i64 a.length), (10, .int .i64 i)]) (fun _ => []) (fun i => i ≤ a.length) (fun i => a.length - i) ⟨0, by omega, ?_, ?_, ?_⟩ fun i hi => ?_
  · simp (config := { maxSteps := 9000000 }) only [↓vyD, vyU, binS, SV.go1, SV.go0, mkRow, intsOf, boolsOf, strsOf, chunks, Row.rep, Row.cat, Row.sub, Row.put, Row.len, Row.get, Row.size, Row.flat, bnds, own0, own1, labsL, labsR, SV.labs, argsOf, entFr, SO.ev, St.of, keepSt, getAll, lookN, hasN, SV.cells, SV.one, SV.res1, SV.res0, SV.resP, SV.ok1, SV.ok0, SV.okN, SV.solid, SV.solid1, SV.solid0, SV.flat0, SV.nm, SV.nm1, SV.nm0, SV.noPtr1, SV.noPtr0, Cel.isFresh, fillP, setAt, partV, eqCells, cellEq, gamY, listsOk, tupOf, takeOwn, SV.ret1, resAll, resL, resV, Nat.reduceEqDiff, ↓reduceIte, Nat.reduceAdd, Nat.reduceMul, Nat.reduceLeDiff, Nat.reduceLT, reduceCtorEq, labOk, Int.reduceBEq, Int.reduceBNe, Int.reduceToNat, Int.reduceLE, Int.reduceLT, Int.reduceEq, Nat.reduceDiv, Nat.reduceMod, Nat.reduceSub, Nat.reduceBEq, fitR, fitR1, fitR0, fitRL1, fitRL, h1]
  · simp (config := { maxSteps := 9000000 }) only [↓vyD, vyU, binS, SV.go1, SV.go0, mkRow, intsOf, boolsOf, strsOf, chunks, Row.rep, Row.cat, Row.sub, Row.put, Row.len, Row.get, Row.size, Row.flat, bnds, own0, own1, labsL, labsR, SV.labs, argsOf, entFr, SO.ev, St.of, keepSt, getAll, lookN, hasN, SV.cells, SV.one, SV.res1, SV.res0, SV.resP, SV.ok1, SV.ok0, SV.okN, SV.solid, SV.solid1, SV.solid0, SV.flat0, SV.nm, SV.nm1, SV.nm0, SV.noPtr1, SV.noPtr0, Cel.isFresh, fillP, setAt, partV, eqCells, cellEq, gamY, listsOk, tupOf, takeOwn, SV.ret1, resAll, resL, resV, Nat.reduceEqDiff, ↓reduceIte, Nat.reduceAdd, Nat.reduceMul, Nat.reduceLeDiff, Nat.reduceLT, reduceCtorEq, labOk, Int.reduceBEq, Int.reduceBNe, Int.reduceToNat, Int.reduceLE, Int.reduceLT, Int.reduceEq, Nat.reduceDiv, Nat.reduceMod, Nat.reduceSub, Nat.reduceBEq, fitR, fitR1, fitR0, fitRL1, fitRL, h1, prodS]
  · simp (config := { maxSteps := 9000000 }) only [↓vyD, vyU, binS, SV.go1, SV.go0, mkRow, intsOf, boolsOf, strsOf, chunks, Row.rep, Row.cat, Row.sub, Row.put, Row.len, Row.get, Row.size, Row.flat, bnds, own0, own1, labsL, labsR, SV.labs, argsOf, entFr, SO.ev, St.of, keepSt, getAll, lookN, hasN, SV.cells, SV.one, SV.res1, SV.res0, SV.resP, SV.ok1, SV.ok0, SV.okN, SV.solid, SV.solid1, SV.solid0, SV.flat0, SV.nm, SV.nm1, SV.nm0, SV.noPtr1, SV.noPtr0, Cel.isFresh, fillP, setAt, partV, eqCells, cellEq, gamY, listsOk, tupOf, takeOwn, SV.ret1, resAll, resL, resV, Nat.reduceEqDiff, ↓reduceIte, Nat.reduceAdd, Nat.reduceMul, Nat.reduceLeDiff, Nat.reduceLT, reduceCtorEq, labOk, Int.reduceBEq, Int.reduceBNe, Int.reduceToNat, Int.reduceLE, Int.reduceLT, Int.reduceEq, Nat.reduceDiv, Nat.reduceMod, Nat.reduceSub, Nat.reduceBEq, fitR, fitR1, fitR0, fitRL1, fitRL, h1]
  · by_cases hlt : (i : Int) < (a.length : Int)
    · have w3 := i64_wrap (show I64 ((i : Int) + 1) by unfold I64; omega)
      have i0 : (0 : Int) ≤ (i : Int) := by omega
      have i1 : (i : Int) ≤ 4294967296 := by omega
      have l1 : b.length ≤ 4294967296 := by omega
      have hl := prodS_len a b i
      have l2 : (prodS a b i).length ≤ 4294967296 := by omega
      have l3 : (movedL b i).length ≤ 4294967296 := by rw [movedL_len]; omega
      cases hb : a.getD i false with
      | true =>
        have hn : prodS a b (i + 1) = plusL (prodS a b i) (movedL b i) := by simp only [prodS, hb, if_true]
        simp (config := { maxSteps := 9000000 }) only [↓vyD, vyU, binS, SV.go1, SV.go0, mkRow, intsOf, boolsOf, strsOf, chunks, Row.rep, Row.cat, Row.sub, Row.put, Row.len, Row.get, Row.size, Row.flat, bnds, own0, own1, labsL, labsR, SV.labs, argsOf, entFr, SO.ev, St.of, keepSt, getAll, lookN, hasN, SV.cells, SV.one, SV.res1, SV.res0, SV.resP, SV.ok1, SV.ok0, SV.okN, SV.solid, SV.solid1, SV.solid0, SV.flat0, SV.nm, SV.nm1, SV.nm0, SV.noPtr1, SV.noPtr0, Cel.isFresh, fillP, setAt, partV, eqCells, cellEq, gamY, listsOk, tupOf, takeOwn, SV.ret1, resAll, resL, resV, Nat.reduceEqDiff, ↓reduceIte, Nat.reduceAdd, Nat.reduceMul, Nat.reduceLeDiff, Nat.reduceLT, reduceCtorEq, labOk, Int.reduceBEq, Int.reduceBNe, Int.reduceToNat, Int.reduceLE, Int.reduceLT, Int.reduceEq, Nat.reduceDiv, Nat.reduceMod, Nat.reduceSub, Nat.reduceBEq, fitR, fitR1, fitR0, fitRL1, fitRL, gPr, movedS, bplusS, asB, hlt, hb, w3, i0, i1, l1, l2, l3, Int.toNat_natCast]
        exact ⟨i + 1, ⟨by omega, by omega⟩, hn.symm, by omega⟩
      | false =>
        have hn : prodS a b (i + 1) = prodS a b i := by simp only [prodS, hb, Bool.false_eq_true, if_false]
        simp (config := { maxSteps := 9000000 }) only [↓vyD, vyU, binS, SV.go1, SV.go0, mkRow, intsOf, boolsOf, strsOf, chunks, Row.rep, Row.cat, Row.sub, Row.put, Row.len, Row.get, Row.size, Row.flat, bnds, own0, own1, labsL, labsR, SV.labs, argsOf, entFr, SO.ev, St.of, keepSt, getAll, lookN, hasN, SV.cells, SV.one, SV.res1, SV.res0, SV.resP, SV.ok1, SV.ok0, SV.okN, SV.solid, SV.solid1, SV.solid0, SV.flat0, SV.nm, SV.nm1, SV.nm0, SV.noPtr1, SV.noPtr0, Cel.isFresh, fillP, setAt, partV, eqCells, cellEq, gamY, listsOk, tupOf, takeOwn, SV.ret1, resAll, resL, resV, Nat.reduceEqDiff, ↓reduceIte, Nat.reduceAdd, Nat.reduceMul, Nat.reduceLeDiff, Nat.reduceLT, reduceCtorEq, labOk, Int.reduceBEq, Int.reduceBNe, Int.reduceToNat, Int.reduceLE, Int.reduceLT, Int.reduceEq, Nat.reduceDiv, Nat.reduceMod, Nat.reduceSub, Nat.reduceBEq, fitR, fitR1, fitR0, fitRL1, fitRL, gPr, movedS, bplusS, asB, hlt, hb, w3, i0, Int.toNat_natCast]
        exact ⟨i + 1, ⟨by omega, by omega⟩, hn.symm, by omega⟩
    · have hiE : i = a.length := by omega
      subst hiE
      have hn : prodS a b a.length = prodL a b := rfl
      simp (config := { maxSteps := 9000000 }) only [↓vyD, vyU, binS, SV.go1, SV.go0, mkRow, intsOf, boolsOf, strsOf, chunks, Row.rep, Row.cat, Row.sub, Row.put, Row.len, Row.get, Row.size, Row.flat, bnds, own0, own1, labsL, labsR, SV.labs, argsOf, entFr, SO.ev, St.of, keepSt, getAll, lookN, hasN, SV.cells, SV.one, SV.res1, SV.res0, SV.resP, SV.ok1, SV.ok0, SV.okN, SV.solid, SV.solid1, SV.solid0, SV.flat0, SV.nm, SV.nm1, SV.nm0, SV.noPtr1, SV.noPtr0, Cel.isFresh, fillP, setAt, partV, eqCells, cellEq, gamY, listsOk, tupOf, takeOwn, SV.ret1, resAll, resL, resV, Nat.reduceEqDiff, ↓reduceIte, Nat.reduceAdd, Nat.reduceMul, Nat.reduceLeDiff, Nat.reduceLT, reduceCtorEq, labOk, Int.reduceBEq, Int.reduceBNe, Int.reduceToNat, Int.reduceLE, Int.reduceLT, Int.reduceEq, Nat.reduceDiv, Nat.reduceMod, Nat.reduceSub, Nat.reduceBEq, fitR, fitR1, fitR0, fitRL1, fitRL, gPr, movedS, bplusS, asB, hlt, hn]
theorem valL_set : ∀ {l : List Bool} {i : Nat}, i < l.length → l.getD i false = false → valL (l.set i true) = valL l + 2 ^ i
  | b :: l, 0, _, h => by
    simp only [List.getD_cons_zero] at h
    subst h
    simp [valL]; omega
  | b :: l, i + 1, h, h2 => by
    have := valL_set (l := l) (i := i) (by simpa using h) (by simpa using h2)
    simp only [List.set_cons_succ, valL, this, Nat.pow_succ]; omega
/-- One more bit of the dividend, from above. -/
theorem quot_step (x y i : Nat) (hy : 0 < y) : (y ≤ x / 2 ^ i % 2 + 2 * (x / 2 ^ (i + 1) % y) → x / 2 ^ i % y = x / 2 ^ i % 2 + 2 * (x / 2 ^ (i + 1) % y) - y ∧ x / 2 ^ i / y = 2 * (x / 2 ^ (i + 1) / y) + 1) ∧
    (¬ y ≤ x / 2 ^ i % 2 + 2 * (x / 2 ^ (i + 1) % y) → x / 2 ^ i % y = x / 2 ^ i % 2 + 2 * (x / 2 ^ (i + 1) % y) ∧ x / 2 ^ i / y = 2 * (x / 2 ^ (i + 1) / y)) := by
  have e := top_step x i
  have d := Nat.mod_lt (x / 2 ^ i) (show 0 < 2 by omega)
  generalize x / 2 ^ i % 2 = c at *
  generalize x / 2 ^ (i + 1) = X at *
  have h1 := Nat.div_add_mod X y
  have h2 := Nat.mod_lt X hy
  generalize X / y = q at *
  generalize X % y = r at *
  have e2 : x / 2 ^ i = (c + 2 * r) + y * (2 * q) := by
    rw [e, ← h1, Nat.mul_add, Nat.mul_left_comm]; omega
  rw [e2, Nat.add_mul_mod_self_left, Nat.add_mul_div_left _ _ hy]
  refine ⟨fun h => ⟨?_, ?_⟩, fun h => ⟨?_, ?_⟩⟩
  · rw [Nat.mod_eq_sub_mod h, Nat.mod_eq_of_lt (by omega)]
  · rw [show (c + 2 * r) / y = 1 from by rw [Nat.div_eq_sub_div hy h, Nat.div_eq_of_lt (by omega)]]; omega
  · exact Nat.mod_eq_of_lt (by omega)
  · rw [Nat.div_eq_of_lt (by omega), Nat.zero_add]
theorem rep_bits (k : Nat) : List.replicate k false = ofN k 0 := by
  have h := movedL_val [] k
  simp only [movedL, List.append_nil, valL, Nat.zero_mul] at h
  exact bits_ext (by simp) h
def gQ : List (Nat × Say) := []
theorem gQ_ok : GamOk Tryd.prog (gamY gQ) := gam_ok gam_nil
/-- One round, in letters. -/
theorem quot_lists {a : List Bool} {i : Nat} (hi : i < a.length) {y : Nat} (hy : 0 < y) :
    a.getD i false :: ofN (a.length - (i + 1)) (valL a / 2 ^ (i + 1) % y) = ofN (a.length - i) (valL a / 2 ^ i % 2 + 2 * (valL a / 2 ^ (i + 1) % y)) ∧
    valL a / 2 ^ i % 2 + 2 * (valL a / 2 ^ (i + 1) % y) < 2 ^ (a.length - i) := by
  have hx := valL_lt a
  have h1 : valL a / 2 ^ (i + 1) < 2 ^ (a.length - (i + 1)) := by
    rw [Nat.div_lt_iff_lt_mul (Nat.two_pow_pos _), ← Nat.pow_add, show a.length - (i + 1) + (i + 1) = a.length by omega]; exact hx
  have h2 : valL a / 2 ^ (i + 1) % y < 2 ^ (a.length - (i + 1)) := Nat.lt_of_le_of_lt (Nat.mod_le ..) h1
  have h3 : 2 ^ (a.length - i) = 2 * 2 ^ (a.length - (i + 1)) := by rw [show a.length - i = a.length - (i + 1) + 1 by omega, Nat.pow_succ']
  have hb := valL_bit a i
  have hc := Nat.mod_lt (valL a / 2 ^ i) (show 0 < 2 by omega)
  refine ⟨bits_ext (by simp only [List.length_cons, ofN_len]; omega) ?_, by omega⟩
  rw [valL, ofN_val, Nat.mod_eq_of_lt h2, hb]
end Go.Proofs.YtidafhjdpklgbaaDoor
