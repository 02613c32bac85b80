/- Decimal numerals: digits, and what slices.Reverse does to bytes. -/
import Derived.Test.YtidafhjdpklgbaaDoorYA
import Derived.Test.YtidafhjdpklgbaaDoorYG
import Derived.Test.YtidafhjdpklgbaaDoorCD2
namespace Go.Proofs.YtidafhjdpklgbaaDoor
open Go.ChangeShapes Go.WideShapes Go.ChangeAt Go.RowKit Go.Joins Y
set_option linter.unusedSimpArgs false
set_option linter.unusedVariables false
set_option maxRecDepth 100000
set_option maxHeartbeats 40000000
/-! A slice turned round. -/
def revK (l : List Int) (k : Nat) : List Int := (List.range l.length).map fun p => if p < k ∨ l.length - k ≤ p then l.getD (l.length - 1 - p) 0 else l.getD p 0
theorem revK_len (l : List Int) (k : Nat) : (revK l k).length = l.length := by simp [revK]
theorem revK_get (l : List Int) (k p : Nat) (h : p < l.length) : (revK l k)[p]? = some (if p < k ∨ l.length - k ≤ p then l.getD (l.length - 1 - p) 0 else l.getD p 0) := by
  simp [revK, h]
theorem revK_getD (l : List Int) (k p : Nat) (h : p < l.length) : (revK l k).getD p 0 = if p < k ∨ l.length - k ≤ p then l.getD (l.length - 1 - p) 0 else l.getD p 0 := by
  rw [List.getD, revK_get l k p h]; rfl
theorem revK_0 (l : List Int) : revK l 0 = l := by
  apply List.ext_getElem?
  intro p
  by_cases h : p < l.length
  · rw [revK_get l 0 p h, if_neg (by omega)]
    simp [List.getD, h]
  · rw [List.getElem?_eq_none (by rw [revK_len]; omega), List.getElem?_eq_none (by omega)]
theorem revK_step (l : List Int) (k : Nat) (h : k < l.length - 1 - k) : ((revK l k).set k (l.getD (l.length - 1 - k) 0)).set (l.length - 1 - k) (l.getD k 0) = revK l (k + 1) := by
  apply List.ext_getElem?
  intro p
  by_cases hp : p < l.length
  · rw [revK_get l (k + 1) p hp]
    by_cases h1 : p = l.length - 1 - k
    · subst h1
      rw [List.getElem?_set_self (by simp [revK_len]; omega), if_pos (by omega), show l.length - 1 - (l.length - 1 - k) = k by omega]
    · rw [List.getElem?_set_ne (by omega)]
      by_cases h2 : p = k
      · subst h2
        rw [List.getElem?_set_self (by rw [revK_len]; omega), if_pos (by omega)]
      · rw [List.getElem?_set_ne (by omega), revK_get l k p hp]
        congr 1
        by_cases h3 : p < k ∨ l.length - k ≤ p
        · rw [if_pos h3, if_pos (by omega)]
        · rw [if_neg h3, if_neg (by omega)]
  · rw [List.getElem?_eq_none (by simp [revK_len]; omega), List.getElem?_eq_none (by rw [revK_len]; omega)]
theorem revK_end (l : List Int) (k : Nat) (h : l.length ≤ 2 * k + 1) : revK l k = l.reverse := by
  apply List.ext_getElem?
  intro p
  by_cases hp : p < l.length
  · rw [revK_get l k p hp, List.getElem?_reverse hp]
    have e : (if p < k ∨ l.length - k ≤ p then l.getD (l.length - 1 - p) 0 else l.getD p 0) = l.getD (l.length - 1 - p) 0 := by
      by_cases h3 : p < k ∨ l.length - k ≤ p
      · rw [if_pos h3]
      · rw [if_neg h3, show l.length - 1 - p = p by omega]
    rw [e]
    have : l.length - 1 - p < l.length := by omega
    simp [List.getD, this]
  · rw [List.getElem?_eq_none (by rw [revK_len]; omega), List.getElem?_eq_none (by simp; omega)]
def revS : Say
  | [.rw (.ints .u8 l)] => some (l.length ≤ 140737488355328, .rw (.ints .u8 l.reverse), none)
  | _ => none
theorem rev_ok : FOk Tryd.prog 1000017 revS := by
  intro xs p r own h hp
  unfold revS at h
  split at h
  case h_2 => cases h
  rename_i l
  simp only [Option.some.injEq, Prod.mk.injEq] at h
  obtain ⟨rfl, rfl, rfl⟩ := h
  refine ⟨fun h => absurd h (by decide), (fun _ _ => ⟨_, _, rfl, rfl, ?_⟩), (fun _ e r1 he => by cases he)⟩
  show WrOk Tryd.prog 17 _ _
  refine fun_soundW (gam_ok gam_nil) lawy_mixed y17_eq trivial trivial rfl rfl (by decide) rfl (fun e => ?_) (Nat.le_of_ble_eq_true rfl)
  have w0 := i64_wrap (show I64 ((l.length : Int) - 1) by unfold I64; omega)
  simp (config := { maxSteps := 9000000 }) only [↓vyD, vyU, binS, SV.go1, SV.go0, mkRow, intsOf, boolsOf, strsOf, chunks, Row.rep, Row.cat, Row.sub, Row.put, Row.len, Row.get, Row.size, Row.flat, bnds, own0, own1, labsL, labsR, SV.labs, argsOf, entFr, SO.ev, St.of, keepSt, getAll, lookN, hasN, SV.cells, SV.one, SV.res1, SV.res0, SV.resP, SV.ok1, SV.ok0, SV.okN, SV.solid, SV.solid1, SV.solid0, SV.flat0, SV.nm, SV.nm1, SV.nm0, SV.noPtr1, SV.noPtr0, Cel.isFresh, fillP, setAt, partV, eqCells, cellEq, gamY, listsOk, tupOf, takeOwn, SV.ret1, resAll, resL, resV, Nat.reduceEqDiff, ↓reduceIte, Nat.reduceAdd, Nat.reduceMul, Nat.reduceLeDiff, Nat.reduceLT, reduceCtorEq, labOk, Int.reduceBEq, Int.reduceBNe, Int.reduceToNat, Int.reduceLE, Int.reduceLT, Int.reduceEq, Nat.reduceDiv, Nat.reduceMod, Nat.reduceSub, Nat.reduceBEq, fitR, fitR1, fitR0, fitRL1, fitRL, y17, entA, argL, w0]
  refine loopG_intro (ι := Nat) (fun k => [(0, .sl 999999 0), (2, .int .i64 k), (3, .int .i64 ((l.length : Int) - 1 - k))]) (fun k => [(999999, .row 0 e (.ints .u8 (revK l k)))]) (fun k => 2 * k ≤ l.length + 1) (fun k => l.length + 1 - k) ⟨0, by omega, ?_, ?_, ?_⟩ fun k hk => ?_
  · simp (config := { maxSteps := 9000000 }) only [↓vyD, vyU, binS, SV.go1, SV.go0, mkRow, intsOf, boolsOf, strsOf, chunks, Row.rep, Row.cat, Row.sub, Row.put, Row.len, Row.get, Row.size, Row.flat, bnds, own0, own1, labsL, labsR, SV.labs, argsOf, entFr, SO.ev, St.of, keepSt, getAll, lookN, hasN, SV.cells, SV.one, SV.res1, SV.res0, SV.resP, SV.ok1, SV.ok0, SV.okN, SV.solid, SV.solid1, SV.solid0, SV.flat0, SV.nm, SV.nm1, SV.nm0, SV.noPtr1, SV.noPtr0, Cel.isFresh, fillP, setAt, partV, eqCells, cellEq, gamY, listsOk, tupOf, takeOwn, SV.ret1, resAll, resL, resV, Nat.reduceEqDiff, ↓reduceIte, Nat.reduceAdd, Nat.reduceMul, Nat.reduceLeDiff, Nat.reduceLT, reduceCtorEq, labOk, Int.reduceBEq, Int.reduceBNe, Int.reduceToNat, Int.reduceLE, Int.reduceLT, Int.reduceEq, Nat.reduceDiv, Nat.reduceMod, Nat.reduceSub, Nat.reduceBEq, fitR, fitR1, fitR0, fitRL1, fitRL, hp]
  · simp (config := { maxSteps := 9000000 }) only [↓vyD, vyU, binS, SV.go1, SV.go0, mkRow, intsOf, boolsOf, strsOf, chunks, Row.rep, Row.cat, Row.sub, Row.put, Row.len, Row.get, Row.size, Row.flat, bnds, own0, own1, labsL, labsR, SV.labs, argsOf, entFr, SO.ev, St.of, keepSt, getAll, lookN, hasN, SV.cells, SV.one, SV.res1, SV.res0, SV.resP, SV.ok1, SV.ok0, SV.okN, SV.solid, SV.solid1, SV.solid0, SV.flat0, SV.nm, SV.nm1, SV.nm0, SV.noPtr1, SV.noPtr0, Cel.isFresh, fillP, setAt, partV, eqCells, cellEq, gamY, listsOk, tupOf, takeOwn, SV.ret1, resAll, resL, resV, Nat.reduceEqDiff, ↓reduceIte, Nat.reduceAdd, Nat.reduceMul, Nat.reduceLeDiff, Nat.reduceLT, reduceCtorEq, labOk, Int.reduceBEq, Int.reduceBNe, Int.reduceToNat, Int.reduceLE, Int.reduceLT, Int.reduceEq, Nat.reduceDiv, Nat.reduceMod, Nat.reduceSub, Nat.reduceBEq, fitR, fitR1, fitR0, fitRL1, fitRL, hp, Int.sub_zero]
  · simp (config := { maxSteps := 9000000 }) only [↓vyD, vyU, binS, SV.go1, SV.go0, mkRow, intsOf, boolsOf, strsOf, chunks, Row.rep, Row.cat, Row.sub, Row.put, Row.len, Row.get, Row.size, Row.flat, bnds, own0, own1, labsL, labsR, SV.labs, argsOf, entFr, SO.ev, St.of, keepSt, getAll, lookN, hasN, SV.cells, SV.one, SV.res1, SV.res0, SV.resP, SV.ok1, SV.ok0, SV.okN, SV.solid, SV.solid1, SV.solid0, SV.flat0, SV.nm, SV.nm1, SV.nm0, SV.noPtr1, SV.noPtr0, Cel.isFresh, fillP, setAt, partV, eqCells, cellEq, gamY, listsOk, tupOf, takeOwn, SV.ret1, resAll, resL, resV, Nat.reduceEqDiff, ↓reduceIte, Nat.reduceAdd, Nat.reduceMul, Nat.reduceLeDiff, Nat.reduceLT, reduceCtorEq, labOk, Int.reduceBEq, Int.reduceBNe, Int.reduceToNat, Int.reduceLE, Int.reduceLT, Int.reduceEq, Nat.reduceDiv, Nat.reduceMod, Nat.reduceSub, Nat.reduceBEq, fitR, fitR1, fitR0, fitRL1, fitRL, hp, revK_0]
  · by_cases hlt : (k : Int) < (l.length : Int) - 1 - (k : Int)
    · have w1 := i64_wrap (show I64 ((k : Int) + 1) by unfold I64; omega)
      have w2 := i64_wrap (show I64 ((l.length : Int) - 1 - (k : Int) - 1) by unfold I64; omega)
      have i1 : ((l.length : Int) - 1 - (k : Int)).toNat = l.length - 1 - k := by omega
      have c0 : (0 : Int) ≤ (k : Int) ∧ (k : Int) < (l.length : Int) := by omega
      have c1 : (0 : Int) ≤ (l.length : Int) - 1 - (k : Int) ∧ (l.length : Int) - 1 - (k : Int) < (l.length : Int) := by omega
      have c2 : k < l.length := by omega
      have c3 : l.length - 1 - k < l.length := by omega
      have g1 : (revK l k).getD k 0 = l.getD k 0 := by rw [revK_getD l k k c2, if_neg (by omega)]
      have g2 : (revK l k).getD (l.length - 1 - k) 0 = l.getD (l.length - 1 - k) 0 := by rw [revK_getD l k _ c3, if_neg (by omega)]
      have hs := revK_step l k (by omega)
      simp (config := { maxSteps := 9000000 }) only [↓vyD, vyU, binS, SV.go1, SV.go0, mkRow, intsOf, boolsOf, strsOf, chunks, Row.rep, Row.cat, Row.sub, Row.put, Row.len, Row.get, Row.size, Row.flat, bnds, own0, own1, labsL, labsR, SV.labs, argsOf, entFr, SO.ev, St.of, keepSt, getAll, lookN, hasN, SV.cells, SV.one, SV.res1, SV.res0, SV.resP, SV.ok1, SV.ok0, SV.okN, SV.solid, SV.solid1, SV.solid0, SV.flat0, SV.nm, SV.nm1, SV.nm0, SV.noPtr1, SV.noPtr0, Cel.isFresh, fillP, setAt, partV, eqCells, cellEq, gamY, listsOk, tupOf, takeOwn, SV.ret1, resAll, resL, resV, Nat.reduceEqDiff, ↓reduceIte, Nat.reduceAdd, Nat.reduceMul, Nat.reduceLeDiff, Nat.reduceLT, reduceCtorEq, labOk, Int.reduceBEq, Int.reduceBNe, Int.reduceToNat, Int.reduceLE, Int.reduceLT, Int.reduceEq, Nat.reduceDiv, Nat.reduceMod, Nat.reduceSub, Nat.reduceBEq, fitR, fitR1, fitR0, fitRL1, fitRL, hlt, w1, w2, i1, Int.toNat_natCast, c0, c1, c2, c3, revK_len, List.length_set, g1, g2, hs]
      exact ⟨k + 1, ⟨by omega, by omega⟩, by simp; omega⟩
    · have he := revK_end l k (by omega)
      simp (config := { maxSteps := 9000000 }) only [↓vyD, vyU, binS, SV.go1, SV.go0, mkRow, intsOf, boolsOf, strsOf, chunks, Row.rep, Row.cat, Row.sub, Row.put, Row.len, Row.get, Row.size, Row.flat, bnds, own0, own1, labsL, labsR, SV.labs, argsOf, entFr, SO.ev, St.of, keepSt, getAll, lookN, hasN, SV.cells, SV.one, SV.res1, SV.res0, SV.resP, SV.ok1, SV.ok0, SV.okN, SV.solid, SV.solid1, SV.solid0, SV.flat0, SV.nm, SV.nm1, SV.nm0, SV.noPtr1, SV.noPtr0, Cel.isFresh, fillP, setAt, partV, eqCells, cellEq, gamY, listsOk, tupOf, takeOwn, SV.ret1, resAll, resL, resV, Nat.reduceEqDiff, ↓reduceIte, Nat.reduceAdd, Nat.reduceMul, Nat.reduceLeDiff, Nat.reduceLT, reduceCtorEq, labOk, Int.reduceBEq, Int.reduceBNe, Int.reduceToNat, Int.reduceLE, Int.reduceLT, Int.reduceEq, Nat.reduceDiv, Nat.reduceMod, Nat.reduceSub, Nat.reduceBEq, fitR, fitR1, fitR0, fitRL1, fitRL, hlt, he]
/-! Digits, the lowest first. -/
def digR (n : Nat) : List UInt8 := if n < 10 then [UInt8.ofNat (48 + n)] else UInt8.ofNat (48 + n % 10) :: digR (n / 10)
termination_by n
decreasing_by omega
def decS (n : Nat) : List UInt8 := (digR n).reverse
theorem digR_lt {n : Nat} (h : n < 10) : digR n = [UInt8.ofNat (48 + n)] := by rw [digR, if_pos h]
theorem digR_ge {n : Nat} (h : ¬ n < 10) : digR n = UInt8.ofNat (48 + n % 10) :: digR (n / 10) := by rw [digR, if_neg h]
theorem digR_len : ∀ (k n : Nat), n < 10 ^ (k + 1) → (digR n).length ≤ k + 1
  | 0, n, h => by rw [digR_lt (by omega)]; simp
  | k + 1, n, h => by
    by_cases h1 : n < 10
    · rw [digR_lt h1]; simp
    · rw [digR_ge h1]
      have := digR_len k (n / 10) (by rw [Nat.pow_succ] at h; omega)
      simp only [List.length_cons]; omega
theorem digR_pos (n : Nat) : 1 ≤ (digR n).length := by
  by_cases h1 : n < 10
  · rw [digR_lt h1]; simp
  · rw [digR_ge h1]; simp
/-- The value of digits, the highest first. -/
def valD (l : List UInt8) : Nat := l.foldl (fun n c => 10 * n + (c.toNat - 48)) 0
theorem valD_snoc (l : List UInt8) (c : UInt8) : valD (l ++ [c]) = 10 * valD l + (c.toNat - 48) := by simp [valD]
theorem u8_dig {k : Nat} (h : k < 10) : (UInt8.ofNat (48 + k)).toNat = 48 + k := by rw [UInt8.toNat_ofNat']; omega
theorem valD_decS : ∀ n : Nat, valD (decS n) = n := by
  intro n
  induction n using Nat.strongRecOn with
  | _ n ih =>
    unfold decS
    by_cases h1 : n < 10
    · rw [digR_lt h1, List.reverse_singleton, show [UInt8.ofNat (48 + n)] = [] ++ [UInt8.ofNat (48 + n)] from rfl, valD_snoc, u8_dig h1]
      simp [valD]
    · have := ih (n / 10) (by omega)
      unfold decS at this
      rw [digR_ge h1, List.reverse_cons, valD_snoc, this, u8_dig (by omega)]
      omega
def digB (c : UInt8) : Bool := decide (48 ≤ c.toNat ∧ c.toNat ≤ 57)
/-- A numeral: digits, with no needless zero ahead. -/
def isDecB (s : List UInt8) : Bool := decide (1 ≤ s.length) && !(decide (1 < s.length) && decide ((s.getD 0 0).toNat = 48)) && s.all digB
theorem digB_u8 {k : Nat} (h : k < 10) : digB (UInt8.ofNat (48 + k)) = true := by unfold digB; rw [u8_dig h]; simp; omega
theorem digR_all : ∀ n : Nat, (digR n).all digB = true := by
  intro n
  induction n using Nat.strongRecOn with
  | _ n ih =>
    by_cases h1 : n < 10
    · rw [digR_lt h1, List.all_cons, digB_u8 h1]; rfl
    · rw [digR_ge h1, List.all_cons, ih (n / 10) (by omega), digB_u8 (by omega)]; rfl
/-- The first digit of a number from 1 on is no 0. -/
theorem digR_last : ∀ n : Nat, 0 < n → ∃ l c, digR n = l ++ [c] ∧ c.toNat ≠ 48 := by
  intro n
  induction n using Nat.strongRecOn with
  | _ n ih =>
    intro h0
    by_cases h1 : n < 10
    · exact ⟨[], UInt8.ofNat (48 + n), by rw [digR_lt h1]; rfl, by rw [u8_dig h1]; omega⟩
    · obtain ⟨l, c, h2, h3⟩ := ih (n / 10) (by omega) (by omega)
      exact ⟨UInt8.ofNat (48 + n % 10) :: l, c, by rw [digR_ge h1, h2]; rfl, h3⟩
theorem isDec_decS (n : Nat) : isDecB (decS n) = true := by
  have hl := digR_pos n
  have h1 : (decS n).length = (digR n).length := by simp [decS]
  have h2 : (decS n).all digB = true := by unfold decS; rw [List.all_reverse]; exact digR_all n
  have h3 : (decide (1 < (decS n).length) && decide (((decS n).getD 0 0).toNat = 48)) = false := by
    by_cases h0 : n < 10
    · rw [h1, digR_lt h0]; rfl
    · obtain ⟨l, c, h4, h5⟩ := digR_last n (by omega)
      have : (decS n).getD 0 0 = c := by unfold decS; rw [h4]; simp
      rw [this]
      simp [h5]
  unfold isDecB
  rw [h2, h3, h1]
  simp; omega
/-- A numeral is the one of its value. -/
theorem decS_valD : ∀ (l : List UInt8), l.all digB = true → (∀ c m, l.reverse = c :: m → m ≠ [] → c.toNat ≠ 48) → l ≠ [] → digR (valD l.reverse) = l
  | [], _, _, h => absurd rfl h
  | [c], h, _, _ => by
    simp only [List.all_cons, List.all_nil, Bool.and_true] at h
    have hc : 48 ≤ c.toNat ∧ c.toNat ≤ 57 := by unfold digB at h; simpa using h
    have hv : valD [c].reverse = c.toNat - 48 := by simp [valD]
    rw [hv, digR_lt (by omega), show 48 + (c.toNat - 48) = c.toNat by omega, UInt8.ofNat_toNat]
  | c :: d :: l, h, h0, _ => by
    simp only [List.all_cons, Bool.and_eq_true] at h
    obtain ⟨hc0, hd, hl⟩ := h
    have hc : 48 ≤ c.toNat ∧ c.toNat ≤ 57 := by unfold digB at hc0; simpa using hc0
    have ih := decS_valD (d :: l) (by simp [hd, hl]) (fun e m he hm => h0 e (m ++ [c]) (by rw [List.reverse_cons, he]; rfl) (by simp)) (by simp)
    have hv : valD (c :: d :: l).reverse = 10 * valD (d :: l).reverse + (c.toNat - 48) := by rw [List.reverse_cons, valD_snoc]
    have hpos : 0 < valD (d :: l).reverse := by
      rcases Nat.eq_zero_or_pos (valD (d :: l).reverse) with hz | hz
      · exfalso
        rw [hz, digR_lt (by omega)] at ih
        have h2 : d :: l = [UInt8.ofNat 48] := ih.symm
        have h3 := h0 (UInt8.ofNat 48) [c] (by rw [h2]; rfl) (by simp)
        exact h3 rfl
      · exact hz
    rw [hv, digR_ge (by omega), show (10 * valD (d :: l).reverse + (c.toNat - 48)) % 10 = c.toNat - 48 by omega, show (10 * valD (d :: l).reverse + (c.toNat - 48)) / 10 = valD (d :: l).reverse by omega, ih, show 48 + (c.toNat - 48) = c.toNat by omega, UInt8.ofNat_toNat]
theorem isDec_back {s : List UInt8} (h : isDecB s = true) : decS (valD s) = s := by
  unfold isDecB at h
  simp only [Bool.and_eq_true, decide_eq_true_eq, Bool.not_eq_true', Bool.and_eq_false_iff, decide_eq_false_iff_not] at h
  obtain ⟨⟨h1, h2⟩, h3⟩ := h
  have := decS_valD s.reverse (by rw [List.all_reverse]; exact h3) (fun c m he hm => by
    rw [List.reverse_reverse] at he
    subst he
    rcases h2 with h2 | h2
    · cases m with
      | nil => exact absurd rfl hm
      | cons _ _ => simp at h2
    · simpa using h2) (by intro he; rw [List.reverse_eq_nil_iff] at he; subst he; simp at h1)
  rw [List.reverse_reverse] at this
  unfold decS
  rw [this, List.reverse_reverse]
end Go.Proofs.YtidafhjdpklgbaaDoor
