/- hwref.Num and the statements' same: bits as a number. -/
import Derived.Test.YtidafhjdpklgbaaDoorYBt
namespace Go.Proofs.YtidafhjdpklgbaaDoor
open Go.ChangeShapes Go.WideShapes Go.ChangeAt Go.RowKit Go.Joins Y
set_option linter.unusedSimpArgs false
set_option linter.unusedVariables false
set_option maxRecDepth 100000
set_option maxHeartbeats 40000000
theorem valL_append (b : List Bool) : ∀ a : List Bool, valL (a ++ b) = valL a + 2 ^ a.length * valL b
  | [] => by simp [valL]
  | c :: a => by
    rw [List.cons_append, valL, valL_append b a, valL, List.length_cons, Nat.pow_succ, Nat.mul_add, Nat.mul_comm (2 ^ a.length) 2, Nat.mul_assoc]; omega
theorem valL_take (l : List Bool) (k : Nat) : valL (l.take k) ≤ valL l := by
  have h := valL_append (l.drop k) (l.take k)
  rw [List.take_append_drop] at h; omega
theorem valL_snoc' {l : List Bool} {i : Nat} (h : i < l.length) : valL (l.take (i + 1)) = valL (l.take i) + (if l.getD i false = true then 1 else 0) * 2 ^ i := by
  have e : l.take (i + 1) = l.take i ++ [l.getD i false] := by
    rw [List.take_add_one, List.getElem?_eq_getElem h, List.getD_eq_getElem?_getD, List.getElem?_eq_getElem h]; rfl
  rw [e, valL_snoc, List.length_take, Nat.min_eq_left (by omega)]
theorem hi_up (v j : Nat) : hiN (v + 18446744073709551616 * j) = hiN v + j ∧ loN (v + 18446744073709551616 * j) = loN v := by
  unfold hiN loN; omega
def numN (l : List Bool) : Nat := if valL l < 340282366920938463463374607431768211456 then valL l else 0
def num2S : Say
  | [x_l] => (match asB x_l with | some l => some (l.length ≤ 4294967296, .tup [wd (numN l), .bool (decide (valL l < 340282366920938463463374607431768211456))], none) | _ => none)
  | _ => none
theorem num2_ok : FOk Tryd.prog 15 num2S := by
  intro xs p r own h hp
  unfold num2S at h
  split at h
  case h_2 => cases h
  rename_i x_l
  split at h
  case h_2 => cases h
  rename_i l h_l
  simp only [Option.some.injEq, Prod.mk.injEq] at h
  obtain ⟨rfl, rfl, rfl⟩ := h
  refine fun_fit (ys := [.rw (.bools l)]) ?_ ⟨asB_fit h_l, trivial⟩
  clear h_l
  refine fun_ok (gam_ok gam_nil) lawy_mixed y15_eq none ?_ (Nat.le_of_ble_eq_true rfl)
  have z0 : hiN 0 = 0 := hiN_of_word (by unfold Word; omega)
  have z1 : loN 0 = 0 := loN_of_word (by unfold Word; omega)
  simp (config := { maxSteps := 9000000 }) only [↓vyD, vyU, binS, SV.go1, SV.go0, mkRow, intsOf, boolsOf, strsOf, chunks, Row.rep, Row.cat, Row.sub, Row.put, Row.len, Row.get, Row.size, Row.flat, bnds, own0, own1, labsL, labsR, SV.labs, argsOf, entFr, SO.ev, St.of, keepSt, getAll, lookN, hasN, SV.cells, SV.one, SV.res1, SV.res0, SV.resP, SV.ok1, SV.ok0, SV.okN, SV.solid, SV.solid1, SV.solid0, SV.flat0, SV.nm, SV.nm1, SV.nm0, SV.noPtr1, SV.noPtr0, Cel.isFresh, fillP, setAt, partV, eqCells, cellEq, gamY, listsOk, tupOf, takeOwn, SV.ret1, resAll, resL, resV, Nat.reduceEqDiff, ↓reduceIte, Nat.reduceAdd, Nat.reduceMul, Nat.reduceLeDiff, Nat.reduceLT, reduceCtorEq, labOk, Int.reduceBEq, Int.reduceBNe, Int.reduceToNat, Int.reduceLE, Int.reduceLT, Int.reduceEq, Nat.reduceDiv, Nat.reduceMod, Nat.reduceSub, Nat.reduceBEq, fitR, fitR1, fitR0, fitRL1, fitRL, wd, wN_hl, OkW_hl, eq_hl, eq_h0, wN_0, OkW_0, cmpN_le0, cmpN_gt0, cmpN_lt0, cmpN_ge0, Int.toNat_natCast, y15, asB]
  refine loopG_intro (ι := Nat) (fun i => [(2, .ptr 0 0), (4, .ptr 1000 0), (7, .rw (.bools l)), (8, .int .i64 l.length), (9, .int .i64 i)]) (fun i => [(0, .var 24 [.int .u64 0, .int .u64 0]), (1000, .var 24 [.int .u64 (hiN (valL (l.take i))), .int .u64 (loN (valL (l.take i)))])])
    (fun i => i ≤ l.length ∧ valL (l.take i) < 340282366920938463463374607431768211456) (fun i => l.length - i) ⟨0, ⟨by omega, by simp [valL]⟩, ?_, ?_, ?_⟩ fun i ⟨hi, hf⟩ => ?_
  · simp (config := { maxSteps := 9000000 }) only [↓vyD, vyU, binS, SV.go1, SV.go0, mkRow, intsOf, boolsOf, strsOf, chunks, Row.rep, Row.cat, Row.sub, Row.put, Row.len, Row.get, Row.size, Row.flat, bnds, own0, own1, labsL, labsR, SV.labs, argsOf, entFr, SO.ev, St.of, keepSt, getAll, lookN, hasN, SV.cells, SV.one, SV.res1, SV.res0, SV.resP, SV.ok1, SV.ok0, SV.okN, SV.solid, SV.solid1, SV.solid0, SV.flat0, SV.nm, SV.nm1, SV.nm0, SV.noPtr1, SV.noPtr0, Cel.isFresh, fillP, setAt, partV, eqCells, cellEq, gamY, listsOk, tupOf, takeOwn, SV.ret1, resAll, resL, resV, Nat.reduceEqDiff, ↓reduceIte, Nat.reduceAdd, Nat.reduceMul, Nat.reduceLeDiff, Nat.reduceLT, reduceCtorEq, labOk, Int.reduceBEq, Int.reduceBNe, Int.reduceToNat, Int.reduceLE, Int.reduceLT, Int.reduceEq, Nat.reduceDiv, Nat.reduceMod, Nat.reduceSub, Nat.reduceBEq, fitR, fitR1, fitR0, fitRL1, fitRL, wd, wN_hl, OkW_hl, eq_hl, eq_h0, wN_0, OkW_0, cmpN_le0, cmpN_gt0, cmpN_lt0, cmpN_ge0, Int.toNat_natCast, hp]
  · simp (config := { maxSteps := 9000000 }) only [↓vyD, vyU, binS, SV.go1, SV.go0, mkRow, intsOf, boolsOf, strsOf, chunks, Row.rep, Row.cat, Row.sub, Row.put, Row.len, Row.get, Row.size, Row.flat, bnds, own0, own1, labsL, labsR, SV.labs, argsOf, entFr, SO.ev, St.of, keepSt, getAll, lookN, hasN, SV.cells, SV.one, SV.res1, SV.res0, SV.resP, SV.ok1, SV.ok0, SV.okN, SV.solid, SV.solid1, SV.solid0, SV.flat0, SV.nm, SV.nm1, SV.nm0, SV.noPtr1, SV.noPtr0, Cel.isFresh, fillP, setAt, partV, eqCells, cellEq, gamY, listsOk, tupOf, takeOwn, SV.ret1, resAll, resL, resV, Nat.reduceEqDiff, ↓reduceIte, Nat.reduceAdd, Nat.reduceMul, Nat.reduceLeDiff, Nat.reduceLT, reduceCtorEq, labOk, Int.reduceBEq, Int.reduceBNe, Int.reduceToNat, Int.reduceLE, Int.reduceLT, Int.reduceEq, Nat.reduceDiv, Nat.reduceMod, Nat.reduceSub, Nat.reduceBEq, fitR, fitR1, fitR0, fitRL1, fitRL, wd, wN_hl, OkW_hl, eq_hl, eq_h0, wN_0, OkW_0, cmpN_le0, cmpN_gt0, cmpN_lt0, cmpN_ge0, Int.toNat_natCast, hp]
  · simp (config := { maxSteps := 9000000 }) only [↓vyD, vyU, binS, SV.go1, SV.go0, mkRow, intsOf, boolsOf, strsOf, chunks, Row.rep, Row.cat, Row.sub, Row.put, Row.len, Row.get, Row.size, Row.flat, bnds, own0, own1, labsL, labsR, SV.labs, argsOf, entFr, SO.ev, St.of, keepSt, getAll, lookN, hasN, SV.cells, SV.one, SV.res1, SV.res0, SV.resP, SV.ok1, SV.ok0, SV.okN, SV.solid, SV.solid1, SV.solid0, SV.flat0, SV.nm, SV.nm1, SV.nm0, SV.noPtr1, SV.noPtr0, Cel.isFresh, fillP, setAt, partV, eqCells, cellEq, gamY, listsOk, tupOf, takeOwn, SV.ret1, resAll, resL, resV, Nat.reduceEqDiff, ↓reduceIte, Nat.reduceAdd, Nat.reduceMul, Nat.reduceLeDiff, Nat.reduceLT, reduceCtorEq, labOk, Int.reduceBEq, Int.reduceBNe, Int.reduceToNat, Int.reduceLE, Int.reduceLT, Int.reduceEq, Nat.reduceDiv, Nat.reduceMod, Nat.reduceSub, Nat.reduceBEq, fitR, fitR1, fitR0, fitRL1, fitRL, wd, wN_hl, OkW_hl, eq_hl, eq_h0, wN_0, OkW_0, cmpN_le0, cmpN_gt0, cmpN_lt0, cmpN_ge0, Int.toNat_natCast, hp, List.take_zero, valL, z0, z1]
  · by_cases hlt : (i : Int) < (l.length : Int)
    · have hlt' : i < l.length := by omega
      have hsn := valL_snoc' hlt'
      have hv := valL_lt (l.take i)
      rw [List.length_take, Nat.min_eq_left hi] at hv
      have hle := valL_take l (i + 1)
      have w3 := i64_wrap (show I64 ((i : Int) + 1) by unfold I64; omega)
      have i0 : (0 : Int) ≤ (i : Int) := by omega
      cases hb : l.getD i false with
      | false =>
        rw [hb] at hsn
        simp only [Bool.false_eq_true, if_false, Nat.zero_mul, Nat.add_zero] at hsn
        simp (config := { maxSteps := 9000000 }) only [↓vyD, vyU, binS, SV.go1, SV.go0, mkRow, intsOf, boolsOf, strsOf, chunks, Row.rep, Row.cat, Row.sub, Row.put, Row.len, Row.get, Row.size, Row.flat, bnds, own0, own1, labsL, labsR, SV.labs, argsOf, entFr, SO.ev, St.of, keepSt, getAll, lookN, hasN, SV.cells, SV.one, SV.res1, SV.res0, SV.resP, SV.ok1, SV.ok0, SV.okN, SV.solid, SV.solid1, SV.solid0, SV.flat0, SV.nm, SV.nm1, SV.nm0, SV.noPtr1, SV.noPtr0, Cel.isFresh, fillP, setAt, partV, eqCells, cellEq, gamY, listsOk, tupOf, takeOwn, SV.ret1, resAll, resL, resV, Nat.reduceEqDiff, ↓reduceIte, Nat.reduceAdd, Nat.reduceMul, Nat.reduceLeDiff, Nat.reduceLT, reduceCtorEq, labOk, Int.reduceBEq, Int.reduceBNe, Int.reduceToNat, Int.reduceLE, Int.reduceLT, Int.reduceEq, Nat.reduceDiv, Nat.reduceMod, Nat.reduceSub, Nat.reduceBEq, fitR, fitR1, fitR0, fitRL1, fitRL, wd, wN_hl, OkW_hl, eq_hl, eq_h0, wN_0, OkW_0, cmpN_le0, cmpN_gt0, cmpN_lt0, cmpN_ge0, Int.toNat_natCast, hlt, hb, w3, i0]
        exact ⟨i + 1, ⟨⟨by omega, by omega⟩, by omega⟩, by omega, by rw [hsn], by rw [hsn]⟩
      | true =>
        rw [hb] at hsn
        simp only [if_true, Nat.one_mul] at hsn
        generalize hvv : valL (l.take i) = v at *
        by_cases h127 : 127 < (i : Int)
        · have hbig : ¬ valL l < 340282366920938463463374607431768211456 := by
            have := Nat.pow_le_pow_right (show 0 < 2 by omega) (show 128 ≤ i by omega)
            omega
          have hN : numN l = 0 := if_neg hbig
          simp (config := { maxSteps := 9000000 }) only [↓vyD, vyU, binS, SV.go1, SV.go0, mkRow, intsOf, boolsOf, strsOf, chunks, Row.rep, Row.cat, Row.sub, Row.put, Row.len, Row.get, Row.size, Row.flat, bnds, own0, own1, labsL, labsR, SV.labs, argsOf, entFr, SO.ev, St.of, keepSt, getAll, lookN, hasN, SV.cells, SV.one, SV.res1, SV.res0, SV.resP, SV.ok1, SV.ok0, SV.okN, SV.solid, SV.solid1, SV.solid0, SV.flat0, SV.nm, SV.nm1, SV.nm0, SV.noPtr1, SV.noPtr0, Cel.isFresh, fillP, setAt, partV, eqCells, cellEq, gamY, listsOk, tupOf, takeOwn, SV.ret1, resAll, resL, resV, Nat.reduceEqDiff, ↓reduceIte, Nat.reduceAdd, Nat.reduceMul, Nat.reduceLeDiff, Nat.reduceLT, reduceCtorEq, labOk, Int.reduceBEq, Int.reduceBNe, Int.reduceToNat, Int.reduceLE, Int.reduceLT, Int.reduceEq, Nat.reduceDiv, Nat.reduceMod, Nat.reduceSub, Nat.reduceBEq, fitR, fitR1, fitR0, fitRL1, fitRL, wd, wN_hl, OkW_hl, eq_hl, eq_h0, wN_0, OkW_0, cmpN_le0, cmpN_gt0, cmpN_lt0, cmpN_ge0, Int.toNat_natCast, hlt, hb, w3, i0, h127, hbig, hN, z0, z1]
        · have hpw : v + 2 ^ i < 340282366920938463463374607431768211456 := by
            have := Nat.pow_le_pow_right (show 0 < 2 by omega) (show i + 1 ≤ 128 by omega)
            rw [Nat.pow_succ] at this
            omega
          by_cases h63 : 63 < (i : Int)
          · obtain ⟨j, hj⟩ : ∃ j, i = 64 + j := ⟨i - 64, by omega⟩
            have hp2 : 2 ^ i = 18446744073709551616 * 2 ^ j := by rw [hj, Nat.pow_add]
            rw [hp2] at hsn hpw hv
            obtain ⟨u1, u2⟩ := hi_up v (2 ^ j)
            have fN := hiN_lt (fits_lt.2 hpw)
            rw [u1] at fN
            have e1 : IntKind.i64.wrap ((i : Int) - 64) = (j : Int) := by rw [i64_wrap (by unfold I64; omega)]; omega
            have j0 : (0 : Int) ≤ (j : Int) := by omega
            have e3 : IntKind.u64.wrap (1 * 2 ^ min j IntKind.u64.bits) = ((2 ^ j : Nat) : Int) := by
              rw [show min j IntKind.u64.bits = j by show min j 64 = j; omega, Int.one_mul]
              rw [show (2 : Int) ^ j = ((2 ^ j : Nat) : Int) by simp]
              exact u64_wrap (by unfold U64; omega)
            generalize 2 ^ j = E at *
            have e4 : IntKind.u64.wrap (((hiN v : Nat) : Int) + (E : Int)) = ((hiN (v + 18446744073709551616 * E) : Nat) : Int) := by
              rw [u1, u64_wrap (by unfold U64; omega)]; omega
            simp (config := { maxSteps := 9000000 }) only [↓vyD, vyU, binS, SV.go1, SV.go0, mkRow, intsOf, boolsOf, strsOf, chunks, Row.rep, Row.cat, Row.sub, Row.put, Row.len, Row.get, Row.size, Row.flat, bnds, own0, own1, labsL, labsR, SV.labs, argsOf, entFr, SO.ev, St.of, keepSt, getAll, lookN, hasN, SV.cells, SV.one, SV.res1, SV.res0, SV.resP, SV.ok1, SV.ok0, SV.okN, SV.solid, SV.solid1, SV.solid0, SV.flat0, SV.nm, SV.nm1, SV.nm0, SV.noPtr1, SV.noPtr0, Cel.isFresh, fillP, setAt, partV, eqCells, cellEq, gamY, listsOk, tupOf, takeOwn, SV.ret1, resAll, resL, resV, Nat.reduceEqDiff, ↓reduceIte, Nat.reduceAdd, Nat.reduceMul, Nat.reduceLeDiff, Nat.reduceLT, reduceCtorEq, labOk, Int.reduceBEq, Int.reduceBNe, Int.reduceToNat, Int.reduceLE, Int.reduceLT, Int.reduceEq, Nat.reduceDiv, Nat.reduceMod, Nat.reduceSub, Nat.reduceBEq, fitR, fitR1, fitR0, fitRL1, fitRL, wd, wN_hl, OkW_hl, eq_hl, eq_h0, wN_0, OkW_0, cmpN_le0, cmpN_gt0, cmpN_lt0, cmpN_ge0, Int.toNat_natCast, hlt, hb, w3, i0, j0, h127, h63, e1, e3, e4]
            exact ⟨i + 1, ⟨⟨by omega, by omega⟩, by omega⟩, by omega, by rw [hsn], by rw [hsn, u2]⟩
          · have hv2 : v + 2 ^ i < 18446744073709551616 := by
              have := Nat.pow_le_pow_right (show 0 < 2 by omega) (show i + 1 ≤ 64 by omega)
              rw [Nat.pow_succ] at this
              omega
            have g1 : hiN v = 0 := hiN_of_word (by unfold Word; omega)
            have g2 : loN v = v := loN_of_word (by unfold Word; omega)
            have g3 : hiN (v + 2 ^ i) = 0 := hiN_of_word (by unfold Word; omega)
            have g4 : loN (v + 2 ^ i) = v + 2 ^ i := loN_of_word (by unfold Word; omega)
            have e3 : IntKind.u64.wrap (1 * 2 ^ min i IntKind.u64.bits) = ((2 ^ i : Nat) : Int) := by
              rw [show min i IntKind.u64.bits = i by show min i 64 = i; omega, Int.one_mul]
              rw [show (2 : Int) ^ i = ((2 ^ i : Nat) : Int) by simp]
              exact u64_wrap (by unfold U64; omega)
            generalize 2 ^ i = E at *
            have e4 : IntKind.u64.wrap ((v : Int) + (E : Int)) = (v : Int) + (E : Int) := u64_wrap (by unfold U64; omega)
            simp (config := { maxSteps := 9000000 }) only [↓vyD, vyU, binS, SV.go1, SV.go0, mkRow, intsOf, boolsOf, strsOf, chunks, Row.rep, Row.cat, Row.sub, Row.put, Row.len, Row.get, Row.size, Row.flat, bnds, own0, own1, labsL, labsR, SV.labs, argsOf, entFr, SO.ev, St.of, keepSt, getAll, lookN, hasN, SV.cells, SV.one, SV.res1, SV.res0, SV.resP, SV.ok1, SV.ok0, SV.okN, SV.solid, SV.solid1, SV.solid0, SV.flat0, SV.nm, SV.nm1, SV.nm0, SV.noPtr1, SV.noPtr0, Cel.isFresh, fillP, setAt, partV, eqCells, cellEq, gamY, listsOk, tupOf, takeOwn, SV.ret1, resAll, resL, resV, Nat.reduceEqDiff, ↓reduceIte, Nat.reduceAdd, Nat.reduceMul, Nat.reduceLeDiff, Nat.reduceLT, reduceCtorEq, labOk, Int.reduceBEq, Int.reduceBNe, Int.reduceToNat, Int.reduceLE, Int.reduceLT, Int.reduceEq, Nat.reduceDiv, Nat.reduceMod, Nat.reduceSub, Nat.reduceBEq, fitR, fitR1, fitR0, fitRL1, fitRL, wd, wN_hl, OkW_hl, eq_hl, eq_h0, wN_0, OkW_0, cmpN_le0, cmpN_gt0, cmpN_lt0, cmpN_ge0, Int.toNat_natCast, hlt, hb, w3, i0, h127, h63, g1, g2, e3, e4]
            exact ⟨i + 1, ⟨⟨by omega, by omega⟩, by omega⟩, by omega, by rw [hsn, g3]; rfl, by rw [hsn, g4]; omega⟩
    · have hiE : i = l.length := by omega
      subst hiE
      rw [List.take_length] at hf
      have hN : numN l = valL l := if_pos hf
      simp (config := { maxSteps := 9000000 }) only [↓vyD, vyU, binS, SV.go1, SV.go0, mkRow, intsOf, boolsOf, strsOf, chunks, Row.rep, Row.cat, Row.sub, Row.put, Row.len, Row.get, Row.size, Row.flat, bnds, own0, own1, labsL, labsR, SV.labs, argsOf, entFr, SO.ev, St.of, keepSt, getAll, lookN, hasN, SV.cells, SV.one, SV.res1, SV.res0, SV.resP, SV.ok1, SV.ok0, SV.okN, SV.solid, SV.solid1, SV.solid0, SV.flat0, SV.nm, SV.nm1, SV.nm0, SV.noPtr1, SV.noPtr0, Cel.isFresh, fillP, setAt, partV, eqCells, cellEq, gamY, listsOk, tupOf, takeOwn, SV.ret1, resAll, resL, resV, Nat.reduceEqDiff, ↓reduceIte, Nat.reduceAdd, Nat.reduceMul, Nat.reduceLeDiff, Nat.reduceLT, reduceCtorEq, labOk, Int.reduceBEq, Int.reduceBNe, Int.reduceToNat, Int.reduceLE, Int.reduceLT, Int.reduceEq, Nat.reduceDiv, Nat.reduceMod, Nat.reduceSub, Nat.reduceBEq, fitR, fitR1, fitR0, fitRL1, fitRL, wd, wN_hl, OkW_hl, eq_hl, eq_h0, wN_0, OkW_0, cmpN_le0, cmpN_gt0, cmpN_lt0, cmpN_ge0, Int.toNat_natCast, hlt, hN, List.take_length, hf]
def gSm : List (Nat × Say) := [(15, num2S)]
theorem gSm_ok : GamOk Tryd.prog (gamY gSm) := gam_ok (gam_cons num2_ok gam_nil)
def sameB (a : Nat) (e : Int) (v : Nat) : Bool := if v < 340282366920938463463374607431768211456 then decide (e = 0 ∧ a = v) else decide (e = 2 ∧ a = 0)
end Go.Proofs.YtidafhjdpklgbaaDoor
