/- hwref.Parse: numerals by lists of bits. -/
import Derived.Test.YtidafhjdpklgbaaDoorYDd
import Derived.Test.YtidafhjdpklgbaaDoorYShTrim
import Derived.Test.YtidafhjdpklgbaaDoorYBs
import Derived.Test.YtidafhjdpklgbaaDoorYBw
import Derived.Test.YtidafhjdpklgbaaDoorCTx
namespace Go.Proofs.YtidafhjdpklgbaaDoor
open Go.ChangeShapes Go.WideShapes Go.ChangeAt Go.RowKit Go.Joins Y
set_option linter.unusedSimpArgs false
set_option linter.unusedVariables false
set_option maxRecDepth 100000
set_option maxHeartbeats 40000000
/- Numerals compared; what strings.Trim leaves of one. -/
theorem gvalD_from : ∀ (l : List UInt8) (a : Nat), l.foldl (fun n c => 10 * n + (c.toNat - 48)) a = a * 10 ^ l.length + valD l
  | [], a => by simp [valD]
  | c :: l, a => by
    have h1 := gvalD_from l (10 * a + (c.toNat - 48))
    have h2 := gvalD_from l (c.toNat - 48)
    have h3 : valD (c :: l) = l.foldl (fun n c => 10 * n + (c.toNat - 48)) (c.toNat - 48) := by simp [valD]
    rw [List.foldl_cons, h1, h3, h2, List.length_cons, Nat.pow_succ, Nat.add_mul, ← Nat.add_assoc]
    congr 2
    rw [Nat.mul_comm 10 a, Nat.mul_assoc, Nat.mul_comm 10]
theorem gvalD_cons (c : UInt8) (l : List UInt8) : valD (c :: l) = (c.toNat - 48) * 10 ^ l.length + valD l := by
  have h2 := gvalD_from l (c.toNat - 48)
  have h3 : valD (c :: l) = l.foldl (fun n c => 10 * n + (c.toNat - 48)) (c.toNat - 48) := by simp [valD]
  rw [h3, h2]
theorem gdig {c : UInt8} (h : digB c = true) : 48 ≤ c.toNat ∧ c.toNat ≤ 57 := by unfold digB at h; simpa using h
theorem gvalD_lt : ∀ (l : List UInt8), l.all digB = true → valD l < 10 ^ l.length
  | [], _ => by simp [valD]
  | c :: l, h => by
    simp only [List.all_cons, Bool.and_eq_true] at h
    have ih := gvalD_lt l h.2
    have hc := gdig h.1
    rw [gvalD_cons, List.length_cons, Nat.pow_succ]
    have : (c.toNat - 48) * 10 ^ l.length ≤ 9 * 10 ^ l.length := Nat.mul_le_mul_right _ (by omega)
    omega
theorem less_eq : ∀ (l m : List UInt8), l.all digB = true → m.all digB = true → l.length = m.length → Op.bytesLess l m = decide (valD l < valD m) ∧ (l == m) = decide (valD l = valD m)
  | [], [], _, _, _ => by simp [Op.bytesLess]
  | [], _ :: _, _, _, h => by simp at h
  | _ :: _, [], _, _, h => by simp at h
  | c :: l, d :: m, hl, hm, hlen => by
    simp only [List.all_cons, Bool.and_eq_true] at hl hm
    have hc := gdig hl.1
    have hd := gdig hm.1
    have hlen' : l.length = m.length := by simpa using hlen
    have b1 := gvalD_lt l hl.2
    have b2 := gvalD_lt m hm.2
    obtain ⟨i1, i2⟩ := less_eq l m hl.2 hm.2 hlen'
    rw [gvalD_cons, gvalD_cons, hlen']
    rw [hlen'] at b1
    rcases Nat.lt_trichotomy c.toNat d.toNat with h1 | h1 | h1
    · have hlt : c < d := UInt8.lt_iff_toNat_lt.2 h1
      have hne : ¬ c = d := fun h => by subst h; omega
      have h3 : (c.toNat - 48 + 1) * 10 ^ m.length ≤ (d.toNat - 48) * 10 ^ m.length := Nat.mul_le_mul_right _ (by omega)
      rw [Nat.add_mul, Nat.one_mul] at h3
      rw [decide_eq_true (by omega), decide_eq_false (by omega)]
      simp [Op.bytesLess, hlt, hne]
    · have e : c = d := UInt8.toNat_inj.1 h1
      subst e
      have n1 : ¬ c < c := fun h => by have := UInt8.lt_iff_toNat_lt.1 h; omega
      constructor
      · simp only [Op.bytesLess, n1, decide_false, Bool.false_or, beq_self_eq_true, Bool.true_and, i1, decide_eq_decide]
        omega
      · have : ((c :: l) == (c :: m)) = (l == m) := by simp
        rw [this, i2, decide_eq_decide]
        omega
    · have hlt : ¬ c < d := fun h => by have := UInt8.lt_iff_toNat_lt.1 h; omega
      have hne : ¬ c = d := fun h => by subst h; omega
      have h3 : (d.toNat - 48 + 1) * 10 ^ m.length ≤ (c.toNat - 48) * 10 ^ m.length := Nat.mul_le_mul_right _ (by omega)
      rw [Nat.add_mul, Nat.one_mul] at h3
      rw [decide_eq_false (by omega), decide_eq_false (by omega)]
      simp [Op.bytesLess, hlt, hne]
def digits10 : List UInt8 := [48, 49, 50, 51, 52, 53, 54, 55, 56, 57]
theorem dig_mem (c : UInt8) : digits10.contains c = digB c := by
  have : ∀ k : Fin 256, digits10.contains (UInt8.ofNat k.val) = digB (UInt8.ofNat k.val) := by decide
  have h := this ⟨c.toNat, c.toNat_lt⟩
  simpa using h
theorem dropW_nil {p : UInt8 → Bool} : ∀ l : List UInt8, l.dropWhile p = [] ↔ l.all p = true
  | [] => by simp
  | c :: l => by
    rw [List.dropWhile_cons, List.all_cons]
    cases hp : p c with
    | true => simp [dropW_nil l]
    | false => simp
theorem trim_nil (s : List UInt8) : Lib.trimS s digits10 = [] ↔ s.all digB = true := by
  have hp : (fun x => digits10.contains x) = digB := funext dig_mem
  unfold Lib.trimS Lib.trimLeftS Lib.trimRightS
  rw [hp, dropW_nil, List.all_reverse]
  constructor
  · intro h
    have h2 : (s.reverse.dropWhile digB).all digB = true := h
    have h3 : s.reverse.dropWhile digB = [] := by
      cases hq : s.reverse.dropWhile digB with
      | nil => rfl
      | cons c r =>
        have h4 : digB c = false := by
          have := List.head?_dropWhile_not digB s.reverse
          rw [hq] at this
          simpa using this
        rw [hq, List.all_cons, h4] at h2
        cases h2
    rw [dropW_nil, List.all_reverse] at h3
    exact h3
  · intro h
    have : s.reverse.dropWhile digB = [] := by rw [dropW_nil, List.all_reverse]; exact h
    rw [this]; rfl
def trimS : Say
  | [.str s, .str c] => if c = digits10 then some (s.length ≤ 140737488355328, .str (Lib.trimS s c), none) else none
  | _ => none
theorem trim_ok : FOk Tryd.prog 10 trimS := by
  intro xs p r own h hp
  unfold trimS at h
  split at h
  case h_2 => cases h
  rename_i s c
  split at h
  case isFalse => cases h
  rename_i hc
  subst hc
  simp only [Option.some.injEq, Prod.mk.injEq] at h
  obtain ⟨rfl, rfl, rfl⟩ := h
  refine take_ok (by decide) (fun_is Tryd.func10 (by kernel_rfl) (by kernel_rfl)) fun A w vs hvs => ?_
  obtain ⟨u, v, rfl, hu, hv⟩ := args2 hvs
  rw [hu.str_inv, hv.str_inv]
  exact (Tryd.strings_Trim ⟨s.toArray⟩ ⟨digits10.toArray⟩ w (by show s.toArray.size ≤ _; simp; omega) (by decide) (ascii_of_all (by decide))).mono fun e w' ⟨he, hb⟩ => ⟨hb, _, he, fun E => Is.str _⟩
def gPs : List (Nat × Say) := [(10, trimS), (12, bprodS), (14, rwideS), (13, bitsS), (11, bplusS), (15, num2S)]
theorem gPs_ok : GamOk Tryd.prog (gamY gPs) := gam_ok (gam_cons trim_ok (gam_cons bprod_ok (gam_cons rwide_ok (gam_cons bits_ok (gam_cons bplus_ok (gam_cons num2_ok gam_nil))))))
def ten4 : List Bool := [false, true, false, true]
def parL (s : List UInt8) : Nat → List Bool
  | 0 => []
  | t + 1 => plusL (prodL (parL s t) ten4) (bitsL ((s.getD t 0).toNat - 48))
theorem parL_0 (s : List UInt8) : parL s 0 = [] := rfl
theorem parL_s (s : List UInt8) (t : Nat) : parL s (t + 1) = plusL (prodL (parL s t) ten4) (bitsL ((s.getD t 0).toNat - 48)) := rfl
attribute [irreducible] parL
theorem ten4_val : valL ten4 = 10 := by decide
theorem parL_val (s : List UInt8) : ∀ t, t ≤ s.length → valL (parL s t) = valD (s.take t)
  | 0, _ => by rw [parL_0]; simp [valL, valD]
  | t + 1, h => by
    rw [parL_s, plusL_val, prodL_val, bitsL_val, ten4_val, parL_val s t (by omega), valD_take (by omega)]
    omega
theorem prod_len {s : List UInt8} (hd : s.all digB = true) {t : Nat} (h : t ≤ s.length) (h39 : s.length ≤ 39) : (prodL (parL s t) ten4).length ≤ 133 := by
  have ht : Tight (prodL (parL s t) ten4) := tight_prod (.inr (by decide)) (by decide)
  refine tight_len ht ?_
  rw [prodL_val, ten4_val, parL_val s t h]
  have h1 : (s.take t).all digB = true := List.all_eq_true.2 fun x hx => (List.all_eq_true.1 hd) x (List.mem_of_mem_take hx)
  have h2 := gvalD_lt _ h1
  have h3 : 10 ^ (s.take t).length ≤ 10 ^ 39 := Nat.pow_le_pow_right (by omega) (by rw [List.length_take]; omega)
  omega
theorem parL_len {s : List UInt8} (hd : s.all digB = true) (h39 : s.length ≤ 39) : ∀ t, t ≤ s.length → (parL s t).length ≤ 200
  | 0, _ => by rw [parL_0]; simp
  | t + 1, h => by
    have h1 := prod_len hd (t := t) (by omega) h39
    have h2 := bits_le (n := (s.getD t 0).toNat - 48) (by have := (s.getD t 0).toNat_lt; omega)
    have h3 := plusL_len (prodL (parL s t) ten4) (bitsL ((s.getD t 0).toNat - 48))
    rw [parL_s]
    omega
def most39 : List UInt8 := [51, 52, 48, 50, 56, 50, 51, 54, 54, 57, 50, 48, 57, 51, 56, 52, 54, 51, 52, 54, 51, 51, 55, 52, 54, 48, 55, 52, 51, 49, 55, 54, 56, 50, 49, 49, 52, 53, 53]
theorem most_val : valD most39 = 340282366920938463463374607431768211455 := by decide
theorem most_all : most39.all digB = true := by decide
theorem big_40 {s : List UInt8} (hd : isDecB s = true) (h : 39 < s.length) : 340282366920938463463374607431768211456 ≤ valD s := by
  have ha := isDec_all hd
  cases s with
  | nil => simp at h
  | cons c l =>
    simp only [List.all_cons, Bool.and_eq_true] at ha
    have hc := gdig ha.1
    have hn : c.toNat ≠ 48 := fun hh => by
      unfold isDecB at hd
      simp only [Bool.and_eq_true, Bool.not_eq_true', Bool.and_eq_false_iff, decide_eq_false_iff_not, List.getD_cons_zero] at hd
      rcases hd.1.2 with h1 | h1
      · omega
      · exact h1 hh
    rw [gvalD_cons]
    have h3 : 10 ^ 39 ≤ 10 ^ l.length := Nat.pow_le_pow_right (by omega) (by simp at h; omega)
    have h4 : 1 * 10 ^ l.length ≤ (c.toNat - 48) * 10 ^ l.length := Nat.mul_le_mul_right _ (by omega)
    omega
theorem rpar_in (s : List UInt8) (hs : s.length ≤ 140737488355328) : vcFun (gamY gPs) y5 [.str s] none fun v o => fitR v (.tup [wd (parN s), .int .i64 (parE s)]) ∧ o = none := by
  have z0 := hl0
  have dq : ([48, 49, 50, 51, 52, 53, 54, 55, 56, 57] : List UInt8) = digits10 := rfl
  by_cases hn : s = []
  · subst hn
    have pN : parN [] = 0 := by decide
    have pE : parE [] = 3 := by decide
    simp (config := { maxSteps := 9000000 }) only [↓vyD, vyU, binS, SV.go1, SV.go0, mkRow, intsOf, boolsOf, strsOf, chunks, Row.rep, Row.cat, Row.sub, Row.put, Row.len, Row.get, Row.size, Row.flat, bnds, own0, own1, labsL, labsR, SV.labs, argsOf, entFr, SO.ev, St.of, keepSt, getAll, lookN, hasN, SV.cells, SV.one, SV.res1, SV.res0, SV.resP, SV.ok1, SV.ok0, SV.okN, SV.solid, SV.solid1, SV.solid0, SV.flat0, SV.nm, SV.nm1, SV.nm0, SV.noPtr1, SV.noPtr0, Cel.isFresh, fillP, setAt, partV, eqCells, cellEq, gamY, listsOk, tupOf, takeOwn, SV.ret1, resAll, resL, resV, Nat.reduceEqDiff, ↓reduceIte, Nat.reduceAdd, Nat.reduceMul, Nat.reduceLeDiff, Nat.reduceLT, reduceCtorEq, labOk, Int.reduceBEq, Int.reduceBNe, Int.reduceToNat, Int.reduceLE, Int.reduceLT, Int.reduceEq, Nat.reduceDiv, Nat.reduceMod, Nat.reduceSub, Nat.reduceBEq, fitR, fitR1, fitR0, fitRL1, fitRL, wd, wN_hl, OkW_hl, eq_hl, eq_h0, wN_0, OkW_0, cmpN_le0, cmpN_gt0, cmpN_lt0, cmpN_ge0, Int.toNat_natCast, y5, gPs, trimS, bprodS, rwideS, bitsS, bplusS, num2S, asB, pN, pE, z0]
  have hn' : (s == []) = false := by simpa using hn
  have hlen : 1 ≤ s.length := List.length_pos_iff.2 hn
  have ht := trim_nil s
  have q0 : (0 : Int) < (s.length : Int) := by omega
  cases hd : isDecB s with
  | false =>
    have pN : parN s = 0 := by unfold parN; rw [if_neg (by rw [hd]; simp)]
    have pE : parE s = 3 := by unfold parE; rw [if_neg (by rw [hd]; simp)]
    by_cases ha : s.all digB = true
    · have ht' := ht.2 ha
      have h48 : 1 < s.length ∧ (s.getD 0 0).toNat = 48 := by
        unfold isDecB at hd
        rw [ha] at hd
        simp only [Bool.and_true, Bool.and_eq_false_iff, decide_eq_false_iff_not, Bool.not_eq_false', Bool.and_eq_true, decide_eq_true_eq] at hd
        rcases hd with h | h
        · omega
        · exact h
      have k1 : ((((s.getD 0 0).toNat : Int)) == 48) = true := beq_iff_eq.2 (by omega)
      have k2 : (s == [48]) = false := beq_eq_false_iff_ne.2 fun h => by rw [h] at h48; simp at h48
      simp (config := { maxSteps := 9000000 }) only [↓vyD, vyU, binS, SV.go1, SV.go0, mkRow, intsOf, boolsOf, strsOf, chunks, Row.rep, Row.cat, Row.sub, Row.put, Row.len, Row.get, Row.size, Row.flat, bnds, own0, own1, labsL, labsR, SV.labs, argsOf, entFr, SO.ev, St.of, keepSt, getAll, lookN, hasN, SV.cells, SV.one, SV.res1, SV.res0, SV.resP, SV.ok1, SV.ok0, SV.okN, SV.solid, SV.solid1, SV.solid0, SV.flat0, SV.nm, SV.nm1, SV.nm0, SV.noPtr1, SV.noPtr0, Cel.isFresh, fillP, setAt, partV, eqCells, cellEq, gamY, listsOk, tupOf, takeOwn, SV.ret1, resAll, resL, resV, Nat.reduceEqDiff, ↓reduceIte, Nat.reduceAdd, Nat.reduceMul, Nat.reduceLeDiff, Nat.reduceLT, reduceCtorEq, labOk, Int.reduceBEq, Int.reduceBNe, Int.reduceToNat, Int.reduceLE, Int.reduceLT, Int.reduceEq, Nat.reduceDiv, Nat.reduceMod, Nat.reduceSub, Nat.reduceBEq, fitR, fitR1, fitR0, fitRL1, fitRL, wd, wN_hl, OkW_hl, eq_hl, eq_h0, wN_0, OkW_0, cmpN_le0, cmpN_gt0, cmpN_lt0, cmpN_ge0, Int.toNat_natCast, y5, gPs, trimS, bprodS, rwideS, bitsS, bplusS, num2S, asB, hs, hn', q0, dq, ht', k1, k2, pN, pE, z0, Int.toNat_zero, Int.le_refl, if_true]
    · have ht' : (Lib.trimS s digits10 == []) = false := beq_eq_false_iff_ne.2 fun h => ha (ht.1 h)
      simp (config := { maxSteps := 9000000 }) only [↓vyD, vyU, binS, SV.go1, SV.go0, mkRow, intsOf, boolsOf, strsOf, chunks, Row.rep, Row.cat, Row.sub, Row.put, Row.len, Row.get, Row.size, Row.flat, bnds, own0, own1, labsL, labsR, SV.labs, argsOf, entFr, SO.ev, St.of, keepSt, getAll, lookN, hasN, SV.cells, SV.one, SV.res1, SV.res0, SV.resP, SV.ok1, SV.ok0, SV.okN, SV.solid, SV.solid1, SV.solid0, SV.flat0, SV.nm, SV.nm1, SV.nm0, SV.noPtr1, SV.noPtr0, Cel.isFresh, fillP, setAt, partV, eqCells, cellEq, gamY, listsOk, tupOf, takeOwn, SV.ret1, resAll, resL, resV, Nat.reduceEqDiff, ↓reduceIte, Nat.reduceAdd, Nat.reduceMul, Nat.reduceLeDiff, Nat.reduceLT, reduceCtorEq, labOk, Int.reduceBEq, Int.reduceBNe, Int.reduceToNat, Int.reduceLE, Int.reduceLT, Int.reduceEq, Nat.reduceDiv, Nat.reduceMod, Nat.reduceSub, Nat.reduceBEq, fitR, fitR1, fitR0, fitRL1, fitRL, wd, wN_hl, OkW_hl, eq_hl, eq_h0, wN_0, OkW_0, cmpN_le0, cmpN_gt0, cmpN_lt0, cmpN_ge0, Int.toNat_natCast, y5, gPs, trimS, bprodS, rwideS, bitsS, bplusS, num2S, asB, hs, hn', q0, dq, ht', pN, pE, z0, if_true]
  | true =>
    have ha := isDec_all hd
    have ht' := ht.2 ha
    by_cases h48 : (s.getD 0 0).toNat = 48
    · have k1 : ((((s.getD 0 0).toNat : Int)) == 48) = true := beq_iff_eq.2 (by omega)
      have k2 : (s == [48]) = true := by
        have h1 : s.length = 1 := by
          unfold isDecB at hd
          simp only [Bool.and_eq_true, Bool.not_eq_true', Bool.and_eq_false_iff, decide_eq_false_iff_not] at hd
          rcases hd.1.2 with h | h
          · omega
          · exact absurd h48 h
        match s, h1 with
        | [c], _ =>
          have : c = 48 := UInt8.toNat_inj.1 (by simpa using h48)
          subst this; rfl
      simp (config := { maxSteps := 9000000 }) only [↓vyD, vyU, binS, SV.go1, SV.go0, mkRow, intsOf, boolsOf, strsOf, chunks, Row.rep, Row.cat, Row.sub, Row.put, Row.len, Row.get, Row.size, Row.flat, bnds, own0, own1, labsL, labsR, SV.labs, argsOf, entFr, SO.ev, St.of, keepSt, getAll, lookN, hasN, SV.cells, SV.one, SV.res1, SV.res0, SV.resP, SV.ok1, SV.ok0, SV.okN, SV.solid, SV.solid1, SV.solid0, SV.flat0, SV.nm, SV.nm1, SV.nm0, SV.noPtr1, SV.noPtr0, Cel.isFresh, fillP, setAt, partV, eqCells, cellEq, gamY, listsOk, tupOf, takeOwn, SV.ret1, resAll, resL, resV, Nat.reduceEqDiff, ↓reduceIte, Nat.reduceAdd, Nat.reduceMul, Nat.reduceLeDiff, Nat.reduceLT, reduceCtorEq, labOk, Int.reduceBEq, Int.reduceBNe, Int.reduceToNat, Int.reduceLE, Int.reduceLT, Int.reduceEq, Nat.reduceDiv, Nat.reduceMod, Nat.reduceSub, Nat.reduceBEq, fitR, fitR1, fitR0, fitRL1, fitRL, wd, wN_hl, OkW_hl, eq_hl, eq_h0, wN_0, OkW_0, cmpN_le0, cmpN_gt0, cmpN_lt0, cmpN_ge0, Int.toNat_natCast, y5, gPs, trimS, bprodS, rwideS, bitsS, bplusS, num2S, asB, hs, hn', q0, dq, ht', k1, k2, z0, Int.toNat_zero, Int.le_refl, if_true]
      refine loopG_intro (ι := Nat) (fun i => [(0, .str s), (2, .ptr 0 0), (29, .sl 3001 0), (30, .int .i64 s.length), (31, .int .i64 i)]) (fun _ => [(0, .var 24 [.int .u64 0, .int .u64 0]), (3001, .row 0 1000005 (.ints .u8 (s.map fun b => (b.toNat : Int))))]) (fun i => i ≤ s.length) (fun i => s.length - i) ⟨0, by omega, ?_, ?_, ?_⟩ fun i hi => ?_
      · simp (config := { maxSteps := 9000000 }) only [↓vyD, vyU, binS, SV.go1, SV.go0, mkRow, intsOf, boolsOf, strsOf, chunks, Row.rep, Row.cat, Row.sub, Row.put, Row.len, Row.get, Row.size, Row.flat, bnds, own0, own1, labsL, labsR, SV.labs, argsOf, entFr, SO.ev, St.of, keepSt, getAll, lookN, hasN, SV.cells, SV.one, SV.res1, SV.res0, SV.resP, SV.ok1, SV.ok0, SV.okN, SV.solid, SV.solid1, SV.solid0, SV.flat0, SV.nm, SV.nm1, SV.nm0, SV.noPtr1, SV.noPtr0, Cel.isFresh, fillP, setAt, partV, eqCells, cellEq, gamY, listsOk, tupOf, takeOwn, SV.ret1, resAll, resL, resV, Nat.reduceEqDiff, ↓reduceIte, Nat.reduceAdd, Nat.reduceMul, Nat.reduceLeDiff, Nat.reduceLT, reduceCtorEq, labOk, Int.reduceBEq, Int.reduceBNe, Int.reduceToNat, Int.reduceLE, Int.reduceLT, Int.reduceEq, Nat.reduceDiv, Nat.reduceMod, Nat.reduceSub, Nat.reduceBEq, fitR, fitR1, fitR0, fitRL1, fitRL, wd, wN_hl, OkW_hl, eq_hl, eq_h0, wN_0, OkW_0, cmpN_le0, cmpN_gt0, cmpN_lt0, cmpN_ge0, Int.toNat_natCast, asB]
      · simp (config := { maxSteps := 9000000 }) only [↓vyD, vyU, binS, SV.go1, SV.go0, mkRow, intsOf, boolsOf, strsOf, chunks, Row.rep, Row.cat, Row.sub, Row.put, Row.len, Row.get, Row.size, Row.flat, bnds, own0, own1, labsL, labsR, SV.labs, argsOf, entFr, SO.ev, St.of, keepSt, getAll, lookN, hasN, SV.cells, SV.one, SV.res1, SV.res0, SV.resP, SV.ok1, SV.ok0, SV.okN, SV.solid, SV.solid1, SV.solid0, SV.flat0, SV.nm, SV.nm1, SV.nm0, SV.noPtr1, SV.noPtr0, Cel.isFresh, fillP, setAt, partV, eqCells, cellEq, gamY, listsOk, tupOf, takeOwn, SV.ret1, resAll, resL, resV, Nat.reduceEqDiff, ↓reduceIte, Nat.reduceAdd, Nat.reduceMul, Nat.reduceLeDiff, Nat.reduceLT, reduceCtorEq, labOk, Int.reduceBEq, Int.reduceBNe, Int.reduceToNat, Int.reduceLE, Int.reduceLT, Int.reduceEq, Nat.reduceDiv, Nat.reduceMod, Nat.reduceSub, Nat.reduceBEq, fitR, fitR1, fitR0, fitRL1, fitRL, wd, wN_hl, OkW_hl, eq_hl, eq_h0, wN_0, OkW_0, cmpN_le0, cmpN_gt0, cmpN_lt0, cmpN_ge0, Int.toNat_natCast, asB, List.length_map, Int.natCast_zero, Int.ofNat_zero]
      · simp (config := { maxSteps := 9000000 }) only [↓vyD, vyU, binS, SV.go1, SV.go0, mkRow, intsOf, boolsOf, strsOf, chunks, Row.rep, Row.cat, Row.sub, Row.put, Row.len, Row.get, Row.size, Row.flat, bnds, own0, own1, labsL, labsR, SV.labs, argsOf, entFr, SO.ev, St.of, keepSt, getAll, lookN, hasN, SV.cells, SV.one, SV.res1, SV.res0, SV.resP, SV.ok1, SV.ok0, SV.okN, SV.solid, SV.solid1, SV.solid0, SV.flat0, SV.nm, SV.nm1, SV.nm0, SV.noPtr1, SV.noPtr0, Cel.isFresh, fillP, setAt, partV, eqCells, cellEq, gamY, listsOk, tupOf, takeOwn, SV.ret1, resAll, resL, resV, Nat.reduceEqDiff, ↓reduceIte, Nat.reduceAdd, Nat.reduceMul, Nat.reduceLeDiff, Nat.reduceLT, reduceCtorEq, labOk, Int.reduceBEq, Int.reduceBNe, Int.reduceToNat, Int.reduceLE, Int.reduceLT, Int.reduceEq, Nat.reduceDiv, Nat.reduceMod, Nat.reduceSub, Nat.reduceBEq, fitR, fitR1, fitR0, fitRL1, fitRL, wd, wN_hl, OkW_hl, eq_hl, eq_h0, wN_0, OkW_0, cmpN_le0, cmpN_gt0, cmpN_lt0, cmpN_ge0, Int.toNat_natCast, asB]
      by_cases hlt : (i : Int) < (s.length : Int)
      · have hlt' : i < s.length := by omega
        have c0 : (0 : Int) ≤ (i : Int) := by omega
        have b1 := i64_wrap (show I64 ((i : Int) + 1) by unfold I64; omega)
        have hg : (s.map fun b => (b.toNat : Int)).getD i 0 = ((s.getD i 0).toNat : Int) := by
          rw [List.getD_eq_getElem?_getD, List.getElem?_map, List.getElem?_eq_getElem hlt', List.getD_eq_getElem?_getD, List.getElem?_eq_getElem hlt']; rfl
        have hdi := gdig ((List.all_eq_true.1 ha) (s.getD i 0) (by rw [List.getD_eq_getElem?_getD, List.getElem?_eq_getElem hlt']; exact List.getElem_mem hlt'))
        have n1 : ¬ (((s.getD i 0).toNat : Int)) < 48 := by omega
        have n2 : ¬ (57 : Int) < (((s.getD i 0).toNat : Int)) := by omega
        simp (config := { maxSteps := 9000000 }) only [↓vyD, vyU, binS, SV.go1, SV.go0, mkRow, intsOf, boolsOf, strsOf, chunks, Row.rep, Row.cat, Row.sub, Row.put, Row.len, Row.get, Row.size, Row.flat, bnds, own0, own1, labsL, labsR, SV.labs, argsOf, entFr, SO.ev, St.of, keepSt, getAll, lookN, hasN, SV.cells, SV.one, SV.res1, SV.res0, SV.resP, SV.ok1, SV.ok0, SV.okN, SV.solid, SV.solid1, SV.solid0, SV.flat0, SV.nm, SV.nm1, SV.nm0, SV.noPtr1, SV.noPtr0, Cel.isFresh, fillP, setAt, partV, eqCells, cellEq, gamY, listsOk, tupOf, takeOwn, SV.ret1, resAll, resL, resV, Nat.reduceEqDiff, ↓reduceIte, Nat.reduceAdd, Nat.reduceMul, Nat.reduceLeDiff, Nat.reduceLT, reduceCtorEq, labOk, Int.reduceBEq, Int.reduceBNe, Int.reduceToNat, Int.reduceLE, Int.reduceLT, Int.reduceEq, Nat.reduceDiv, Nat.reduceMod, Nat.reduceSub, Nat.reduceBEq, fitR, fitR1, fitR0, fitRL1, fitRL, wd, wN_hl, OkW_hl, eq_hl, eq_h0, wN_0, OkW_0, cmpN_le0, cmpN_gt0, cmpN_lt0, cmpN_ge0, Int.toNat_natCast, gPs, trimS, bprodS, rwideS, bitsS, bplusS, num2S, asB, hlt, hlt', c0, b1, hg, n1, n2, List.length_map, Int.toNat_natCast, gt_iff_lt]
        exact ⟨i + 1, ⟨by omega, by omega⟩, by simp⟩
      have hiL : i = s.length := by omega
      subst hiL
      by_cases g39 : (39 : Int) < (s.length : Int)
      · have hbig := big_40 hd (by omega)
        have pN : parN s = 0 := if_neg (by omega)
        have pE : parE s = 2 := by unfold parE; rw [if_pos hd, if_neg (by omega)]
        simp (config := { maxSteps := 9000000 }) only [↓vyD, vyU, binS, SV.go1, SV.go0, mkRow, intsOf, boolsOf, strsOf, chunks, Row.rep, Row.cat, Row.sub, Row.put, Row.len, Row.get, Row.size, Row.flat, bnds, own0, own1, labsL, labsR, SV.labs, argsOf, entFr, SO.ev, St.of, keepSt, getAll, lookN, hasN, SV.cells, SV.one, SV.res1, SV.res0, SV.resP, SV.ok1, SV.ok0, SV.okN, SV.solid, SV.solid1, SV.solid0, SV.flat0, SV.nm, SV.nm1, SV.nm0, SV.noPtr1, SV.noPtr0, Cel.isFresh, fillP, setAt, partV, eqCells, cellEq, gamY, listsOk, tupOf, takeOwn, SV.ret1, resAll, resL, resV, Nat.reduceEqDiff, ↓reduceIte, Nat.reduceAdd, Nat.reduceMul, Nat.reduceLeDiff, Nat.reduceLT, reduceCtorEq, labOk, Int.reduceBEq, Int.reduceBNe, Int.reduceToNat, Int.reduceLE, Int.reduceLT, Int.reduceEq, Nat.reduceDiv, Nat.reduceMod, Nat.reduceSub, Nat.reduceBEq, fitR, fitR1, fitR0, fitRL1, fitRL, wd, wN_hl, OkW_hl, eq_hl, eq_h0, wN_0, OkW_0, cmpN_le0, cmpN_gt0, cmpN_lt0, cmpN_ge0, Int.toNat_natCast, gPs, trimS, bprodS, rwideS, bitsS, bplusS, num2S, asB, hlt, Int.lt_irrefl, g39, gt_iff_lt, pN, pE, z0, not_false_eq_true, not_true_eq_false]
      have hcmp : ∃ B : Bool, (s.length = 39 → (!(Op.bytesLess s most39 || s == most39)) = B) ∧ (valD s < 340282366920938463463374607431768211456 ↔ (s.length = 39 → B = false)) := by
        by_cases e39 : s.length = 39
        · obtain ⟨x1, x2⟩ := less_eq s most39 ha most_all (by rw [e39]; rfl)
          refine ⟨_, fun _ => rfl, ?_⟩
          rw [x1, x2, most_val]
          constructor
          · intro h _
            rcases Nat.lt_or_ge (valD s) 340282366920938463463374607431768211455 with h1 | h1
            · rw [decide_eq_true h1]; rfl
            · rw [decide_eq_true (show valD s = 340282366920938463463374607431768211455 by omega), Bool.or_true]; rfl
          · intro h
            have h1 := h e39
            simp only [Bool.not_eq_false', Bool.or_eq_true, decide_eq_true_eq] at h1
            omega
        · refine ⟨false, fun h => absurd h e39, fun _ _ => rfl, fun _ => ?_⟩
          have h2 := gvalD_lt s ha
          have h3 : 10 ^ s.length ≤ 10 ^ 38 := Nat.pow_le_pow_right (by omega) (by omega)
          omega
      obtain ⟨B, hB1, hB2⟩ := hcmp
      have hB1' : s.length = 39 → (!(Op.bytesLess s [51, 52, 48, 50, 56, 50, 51, 54, 54, 57, 50, 48, 57, 51, 56, 52, 54, 51, 52, 54, 51, 51, 55, 52, 54, 48, 55, 52, 51, 49, 55, 54, 56, 50, 49, 49, 52, 53, 53] || s == [51, 52, 48, 50, 56, 50, 51, 54, 54, 57, 50, 48, 57, 51, 56, 52, 54, 51, 52, 54, 51, 51, 55, 52, 54, 48, 55, 52, 51, 49, 55, 54, 56, 50, 49, 49, 52, 53, 53])) = B := hB1
      by_cases hv : valD s < 340282366920938463463374607431768211456
      · have pN : parN s = valD s := if_pos ⟨hd, hv⟩
        have pE : parE s = 0 := by unfold parE; rw [if_pos hd, if_pos hv]
        have hlen39 : s.length ≤ 39 := by omega
        have hz : ∀ K : Prop, (s.length = 39 → ((s.length : Int) == 39) = true → (!(Op.bytesLess s [51, 52, 48, 50, 56, 50, 51, 54, 54, 57, 50, 48, 57, 51, 56, 52, 54, 51, 52, 54, 51, 51, 55, 52, 54, 48, 55, 52, 51, 49, 55, 54, 56, 50, 49, 49, 52, 53, 53] || s == [51, 52, 48, 50, 56, 50, 51, 54, 54, 57, 50, 48, 57, 51, 56, 52, 54, 51, 52, 54, 51, 51, 55, 52, 54, 48, 55, 52, 51, 49, 55, 54, 56, 50, 49, 49, 52, 53, 53])) = false → K) → (((s.length : Int) == 39) = false → K) → K := fun K f g => by
          by_cases e : s.length = 39
          · exact f e (beq_iff_eq.2 (by omega)) (by rw [hB1' e]; exact hB2.1 hv e)
          · exact g (beq_eq_false_iff_ne.2 (by omega))
        refine hz _ (fun e u1 u2 => ?_) (fun u1 => ?_)
        · simp (config := { maxSteps := 9000000 }) only [↓vyD, vyU, binS, SV.go1, SV.go0, mkRow, intsOf, boolsOf, strsOf, chunks, Row.rep, Row.cat, Row.sub, Row.put, Row.len, Row.get, Row.size, Row.flat, bnds, own0, own1, labsL, labsR, SV.labs, argsOf, entFr, SO.ev, St.of, keepSt, getAll, lookN, hasN, SV.cells, SV.one, SV.res1, SV.res0, SV.resP, SV.ok1, SV.ok0, SV.okN, SV.solid, SV.solid1, SV.solid0, SV.flat0, SV.nm, SV.nm1, SV.nm0, SV.noPtr1, SV.noPtr0, Cel.isFresh, fillP, setAt, partV, eqCells, cellEq, gamY, listsOk, tupOf, takeOwn, SV.ret1, resAll, resL, resV, Nat.reduceEqDiff, ↓reduceIte, Nat.reduceAdd, Nat.reduceMul, Nat.reduceLeDiff, Nat.reduceLT, reduceCtorEq, labOk, Int.reduceBEq, Int.reduceBNe, Int.reduceToNat, Int.reduceLE, Int.reduceLT, Int.reduceEq, Nat.reduceDiv, Nat.reduceMod, Nat.reduceSub, Nat.reduceBEq, fitR, fitR1, fitR0, fitRL1, fitRL, wd, wN_hl, OkW_hl, eq_hl, eq_h0, wN_0, OkW_0, cmpN_le0, cmpN_gt0, cmpN_lt0, cmpN_ge0, Int.toNat_natCast, gPs, trimS, bprodS, rwideS, bitsS, bplusS, num2S, asB, hlt, Int.lt_irrefl, g39, gt_iff_lt, u1, u2, not_false_eq_true, not_true_eq_false]
          refine loopG_intro (ι := Nat) (fun t => [(0, .str s), (2, .ptr 0 0), (7, .rw (.bools (parL s t))), (62, .int .i64 s.length), (63, .int .i64 t)]) (fun _ => [(0, .var 24 [.int .u64 0, .int .u64 0])]) (fun t => t ≤ s.length) (fun t => s.length - t) ⟨0, by omega, ?_, ?_, ?_⟩ fun t ht2 => ?_
          · simp (config := { maxSteps := 9000000 }) only [↓vyD, vyU, binS, SV.go1, SV.go0, mkRow, intsOf, boolsOf, strsOf, chunks, Row.rep, Row.cat, Row.sub, Row.put, Row.len, Row.get, Row.size, Row.flat, bnds, own0, own1, labsL, labsR, SV.labs, argsOf, entFr, SO.ev, St.of, keepSt, getAll, lookN, hasN, SV.cells, SV.one, SV.res1, SV.res0, SV.resP, SV.ok1, SV.ok0, SV.okN, SV.solid, SV.solid1, SV.solid0, SV.flat0, SV.nm, SV.nm1, SV.nm0, SV.noPtr1, SV.noPtr0, Cel.isFresh, fillP, setAt, partV, eqCells, cellEq, gamY, listsOk, tupOf, takeOwn, SV.ret1, resAll, resL, resV, Nat.reduceEqDiff, ↓reduceIte, Nat.reduceAdd, Nat.reduceMul, Nat.reduceLeDiff, Nat.reduceLT, reduceCtorEq, labOk, Int.reduceBEq, Int.reduceBNe, Int.reduceToNat, Int.reduceLE, Int.reduceLT, Int.reduceEq, Nat.reduceDiv, Nat.reduceMod, Nat.reduceSub, Nat.reduceBEq, fitR, fitR1, fitR0, fitRL1, fitRL, wd, wN_hl, OkW_hl, eq_hl, eq_h0, wN_0, OkW_0, cmpN_le0, cmpN_gt0, cmpN_lt0, cmpN_ge0, Int.toNat_natCast, asB]
          · simp (config := { maxSteps := 9000000 }) only [↓vyD, vyU, binS, SV.go1, SV.go0, mkRow, intsOf, boolsOf, strsOf, chunks, Row.rep, Row.cat, Row.sub, Row.put, Row.len, Row.get, Row.size, Row.flat, bnds, own0, own1, labsL, labsR, SV.labs, argsOf, entFr, SO.ev, St.of, keepSt, getAll, lookN, hasN, SV.cells, SV.one, SV.res1, SV.res0, SV.resP, SV.ok1, SV.ok0, SV.okN, SV.solid, SV.solid1, SV.solid0, SV.flat0, SV.nm, SV.nm1, SV.nm0, SV.noPtr1, SV.noPtr0, Cel.isFresh, fillP, setAt, partV, eqCells, cellEq, gamY, listsOk, tupOf, takeOwn, SV.ret1, resAll, resL, resV, Nat.reduceEqDiff, ↓reduceIte, Nat.reduceAdd, Nat.reduceMul, Nat.reduceLeDiff, Nat.reduceLT, reduceCtorEq, labOk, Int.reduceBEq, Int.reduceBNe, Int.reduceToNat, Int.reduceLE, Int.reduceLT, Int.reduceEq, Nat.reduceDiv, Nat.reduceMod, Nat.reduceSub, Nat.reduceBEq, fitR, fitR1, fitR0, fitRL1, fitRL, wd, wN_hl, OkW_hl, eq_hl, eq_h0, wN_0, OkW_0, cmpN_le0, cmpN_gt0, cmpN_lt0, cmpN_ge0, Int.toNat_natCast, asB, parL_0, Int.natCast_zero, Int.ofNat_zero]
          · simp (config := { maxSteps := 9000000 }) only [↓vyD, vyU, binS, SV.go1, SV.go0, mkRow, intsOf, boolsOf, strsOf, chunks, Row.rep, Row.cat, Row.sub, Row.put, Row.len, Row.get, Row.size, Row.flat, bnds, own0, own1, labsL, labsR, SV.labs, argsOf, entFr, SO.ev, St.of, keepSt, getAll, lookN, hasN, SV.cells, SV.one, SV.res1, SV.res0, SV.resP, SV.ok1, SV.ok0, SV.okN, SV.solid, SV.solid1, SV.solid0, SV.flat0, SV.nm, SV.nm1, SV.nm0, SV.noPtr1, SV.noPtr0, Cel.isFresh, fillP, setAt, partV, eqCells, cellEq, gamY, listsOk, tupOf, takeOwn, SV.ret1, resAll, resL, resV, Nat.reduceEqDiff, ↓reduceIte, Nat.reduceAdd, Nat.reduceMul, Nat.reduceLeDiff, Nat.reduceLT, reduceCtorEq, labOk, Int.reduceBEq, Int.reduceBNe, Int.reduceToNat, Int.reduceLE, Int.reduceLT, Int.reduceEq, Nat.reduceDiv, Nat.reduceMod, Nat.reduceSub, Nat.reduceBEq, fitR, fitR1, fitR0, fitRL1, fitRL, wd, wN_hl, OkW_hl, eq_hl, eq_h0, wN_0, OkW_0, cmpN_le0, cmpN_gt0, cmpN_lt0, cmpN_ge0, Int.toNat_natCast, asB]
          have kl := parL_len ha hlen39 t ht2
          by_cases htl : (t : Int) < (s.length : Int)
          · have htl' : t < s.length := by omega
            have c0 : (0 : Int) ≤ (t : Int) := by omega
            have b1 := i64_wrap (show I64 ((t : Int) + 1) by unfold I64; omega)
            have hdi := gdig ((List.all_eq_true.1 ha) (s.getD t 0) (by rw [List.getD_eq_getElem?_getD, List.getElem?_eq_getElem htl']; exact List.getElem_mem htl'))
            have w8 : IntKind.u8.wrap (((s.getD t 0).toNat : Int) - 48) = ((s.getD t 0).toNat : Int) - 48 := by rw [IntKind.wrap_u8]; omega
            have w9 := i64_wrap (show I64 (((s.getD t 0).toNat : Int) - 48) by unfold I64; omega)
            have x0 : (0 : Int) ≤ ((s.getD t 0).toNat : Int) - 48 ∧ ((s.getD t 0).toNat : Int) - 48 ≤ 9223372036854775807 := by omega
            have nt : (((s.getD t 0).toNat : Int) - 48).toNat = (s.getD t 0).toNat - 48 := by omega
            have fD : Fits ((s.getD t 0).toNat - 48) := fits_lt.2 (by omega)
            have k1 : (parL s t).length ≤ 1048576 := by omega
            have k2 : (prodL (parL s t) ten4).length ≤ 4294967296 := by have := prod_len ha ht2 hlen39; omega
            have k3 : (bitsL ((s.getD t 0).toNat - 48)).length ≤ 4294967296 := by
              have := bits_le (n := (s.getD t 0).toNat - 48) (by omega)
              omega
            have hS := parL_s s t
            have dt : ([false, true, false, true] : List Bool) = ten4 := rfl
            have tl : ten4.length ≤ 1048576 := by decide
            simp (config := { maxSteps := 9000000 }) only [↓vyD, vyU, binS, SV.go1, SV.go0, mkRow, intsOf, boolsOf, strsOf, chunks, Row.rep, Row.cat, Row.sub, Row.put, Row.len, Row.get, Row.size, Row.flat, bnds, own0, own1, labsL, labsR, SV.labs, argsOf, entFr, SO.ev, St.of, keepSt, getAll, lookN, hasN, SV.cells, SV.one, SV.res1, SV.res0, SV.resP, SV.ok1, SV.ok0, SV.okN, SV.solid, SV.solid1, SV.solid0, SV.flat0, SV.nm, SV.nm1, SV.nm0, SV.noPtr1, SV.noPtr0, Cel.isFresh, fillP, setAt, partV, eqCells, cellEq, gamY, listsOk, tupOf, takeOwn, SV.ret1, resAll, resL, resV, Nat.reduceEqDiff, ↓reduceIte, Nat.reduceAdd, Nat.reduceMul, Nat.reduceLeDiff, Nat.reduceLT, reduceCtorEq, labOk, Int.reduceBEq, Int.reduceBNe, Int.reduceToNat, Int.reduceLE, Int.reduceLT, Int.reduceEq, Nat.reduceDiv, Nat.reduceMod, Nat.reduceSub, Nat.reduceBEq, fitR, fitR1, fitR0, fitRL1, fitRL, wd, wN_hl, OkW_hl, eq_hl, eq_h0, wN_0, OkW_0, cmpN_le0, cmpN_gt0, cmpN_lt0, cmpN_ge0, Int.toNat_natCast, gPs, trimS, bprodS, rwideS, bitsS, bplusS, num2S, asB, htl, htl', c0, b1, w8, w9, x0, nt, fD, k1, k2, k3, dt, tl, Int.toNat_natCast]
            exact ⟨t + 1, ⟨by omega, by omega⟩, hS.symm, by simp⟩
          · have htL : t = s.length := by omega
            subst htL
            have hvl := parL_val s s.length (Nat.le_refl _)
            rw [List.take_length] at hvl
            have hnum : numN (parL s s.length) = valD s := by unfold numN; rw [hvl, if_pos hv]
            have k4 : (parL s s.length).length ≤ 4294967296 := by omega
            simp (config := { maxSteps := 9000000 }) only [↓vyD, vyU, binS, SV.go1, SV.go0, mkRow, intsOf, boolsOf, strsOf, chunks, Row.rep, Row.cat, Row.sub, Row.put, Row.len, Row.get, Row.size, Row.flat, bnds, own0, own1, labsL, labsR, SV.labs, argsOf, entFr, SO.ev, St.of, keepSt, getAll, lookN, hasN, SV.cells, SV.one, SV.res1, SV.res0, SV.resP, SV.ok1, SV.ok0, SV.okN, SV.solid, SV.solid1, SV.solid0, SV.flat0, SV.nm, SV.nm1, SV.nm0, SV.noPtr1, SV.noPtr0, Cel.isFresh, fillP, setAt, partV, eqCells, cellEq, gamY, listsOk, tupOf, takeOwn, SV.ret1, resAll, resL, resV, Nat.reduceEqDiff, ↓reduceIte, Nat.reduceAdd, Nat.reduceMul, Nat.reduceLeDiff, Nat.reduceLT, reduceCtorEq, labOk, Int.reduceBEq, Int.reduceBNe, Int.reduceToNat, Int.reduceLE, Int.reduceLT, Int.reduceEq, Nat.reduceDiv, Nat.reduceMod, Nat.reduceSub, Nat.reduceBEq, fitR, fitR1, fitR0, fitRL1, fitRL, wd, wN_hl, OkW_hl, eq_hl, eq_h0, wN_0, OkW_0, cmpN_le0, cmpN_gt0, cmpN_lt0, cmpN_ge0, Int.toNat_natCast, gPs, trimS, bprodS, rwideS, bitsS, bplusS, num2S, asB, htl, Int.lt_irrefl, k4, hnum, pN, pE]
        · simp (config := { maxSteps := 9000000 }) only [↓vyD, vyU, binS, SV.go1, SV.go0, mkRow, intsOf, boolsOf, strsOf, chunks, Row.rep, Row.cat, Row.sub, Row.put, Row.len, Row.get, Row.size, Row.flat, bnds, own0, own1, labsL, labsR, SV.labs, argsOf, entFr, SO.ev, St.of, keepSt, getAll, lookN, hasN, SV.cells, SV.one, SV.res1, SV.res0, SV.resP, SV.ok1, SV.ok0, SV.okN, SV.solid, SV.solid1, SV.solid0, SV.flat0, SV.nm, SV.nm1, SV.nm0, SV.noPtr1, SV.noPtr0, Cel.isFresh, fillP, setAt, partV, eqCells, cellEq, gamY, listsOk, tupOf, takeOwn, SV.ret1, resAll, resL, resV, Nat.reduceEqDiff, ↓reduceIte, Nat.reduceAdd, Nat.reduceMul, Nat.reduceLeDiff, Nat.reduceLT, reduceCtorEq, labOk, Int.reduceBEq, Int.reduceBNe, Int.reduceToNat, Int.reduceLE, Int.reduceLT, Int.reduceEq, Nat.reduceDiv, Nat.reduceMod, Nat.reduceSub, Nat.reduceBEq, fitR, fitR1, fitR0, fitRL1, fitRL, wd, wN_hl, OkW_hl, eq_hl, eq_h0, wN_0, OkW_0, cmpN_le0, cmpN_gt0, cmpN_lt0, cmpN_ge0, Int.toNat_natCast, gPs, trimS, bprodS, rwideS, bitsS, bplusS, num2S, asB, hlt, Int.lt_irrefl, g39, gt_iff_lt, u1, not_false_eq_true, not_true_eq_false]
          refine loopG_intro (ι := Nat) (fun t => [(0, .str s), (2, .ptr 0 0), (7, .rw (.bools (parL s t))), (62, .int .i64 s.length), (63, .int .i64 t)]) (fun _ => [(0, .var 24 [.int .u64 0, .int .u64 0])]) (fun t => t ≤ s.length) (fun t => s.length - t) ⟨0, by omega, ?_, ?_, ?_⟩ fun t ht2 => ?_
          · simp (config := { maxSteps := 9000000 }) only [↓vyD, vyU, binS, SV.go1, SV.go0, mkRow, intsOf, boolsOf, strsOf, chunks, Row.rep, Row.cat, Row.sub, Row.put, Row.len, Row.get, Row.size, Row.flat, bnds, own0, own1, labsL, labsR, SV.labs, argsOf, entFr, SO.ev, St.of, keepSt, getAll, lookN, hasN, SV.cells, SV.one, SV.res1, SV.res0, SV.resP, SV.ok1, SV.ok0, SV.okN, SV.solid, SV.solid1, SV.solid0, SV.flat0, SV.nm, SV.nm1, SV.nm0, SV.noPtr1, SV.noPtr0, Cel.isFresh, fillP, setAt, partV, eqCells, cellEq, gamY, listsOk, tupOf, takeOwn, SV.ret1, resAll, resL, resV, Nat.reduceEqDiff, ↓reduceIte, Nat.reduceAdd, Nat.reduceMul, Nat.reduceLeDiff, Nat.reduceLT, reduceCtorEq, labOk, Int.reduceBEq, Int.reduceBNe, Int.reduceToNat, Int.reduceLE, Int.reduceLT, Int.reduceEq, Nat.reduceDiv, Nat.reduceMod, Nat.reduceSub, Nat.reduceBEq, fitR, fitR1, fitR0, fitRL1, fitRL, wd, wN_hl, OkW_hl, eq_hl, eq_h0, wN_0, OkW_0, cmpN_le0, cmpN_gt0, cmpN_lt0, cmpN_ge0, Int.toNat_natCast, asB]
          · simp (config := { maxSteps := 9000000 }) only [↓vyD, vyU, binS, SV.go1, SV.go0, mkRow, intsOf, boolsOf, strsOf, chunks, Row.rep, Row.cat, Row.sub, Row.put, Row.len, Row.get, Row.size, Row.flat, bnds, own0, own1, labsL, labsR, SV.labs, argsOf, entFr, SO.ev, St.of, keepSt, getAll, lookN, hasN, SV.cells, SV.one, SV.res1, SV.res0, SV.resP, SV.ok1, SV.ok0, SV.okN, SV.solid, SV.solid1, SV.solid0, SV.flat0, SV.nm, SV.nm1, SV.nm0, SV.noPtr1, SV.noPtr0, Cel.isFresh, fillP, setAt, partV, eqCells, cellEq, gamY, listsOk, tupOf, takeOwn, SV.ret1, resAll, resL, resV, Nat.reduceEqDiff, ↓reduceIte, Nat.reduceAdd, Nat.reduceMul, Nat.reduceLeDiff, Nat.reduceLT, reduceCtorEq, labOk, Int.reduceBEq, Int.reduceBNe, Int.reduceToNat, Int.reduceLE, Int.reduceLT, Int.reduceEq, Nat.reduceDiv, Nat.reduceMod, Nat.reduceSub, Nat.reduceBEq, fitR, fitR1, fitR0, fitRL1, fitRL, wd, wN_hl, OkW_hl, eq_hl, eq_h0, wN_0, OkW_0, cmpN_le0, cmpN_gt0, cmpN_lt0, cmpN_ge0, Int.toNat_natCast, asB, parL_0, Int.natCast_zero, Int.ofNat_zero]
          · simp (config := { maxSteps := 9000000 }) only [↓vyD, vyU, binS, SV.go1, SV.go0, mkRow, intsOf, boolsOf, strsOf, chunks, Row.rep, Row.cat, Row.sub, Row.put, Row.len, Row.get, Row.size, Row.flat, bnds, own0, own1, labsL, labsR, SV.labs, argsOf, entFr, SO.ev, St.of, keepSt, getAll, lookN, hasN, SV.cells, SV.one, SV.res1, SV.res0, SV.resP, SV.ok1, SV.ok0, SV.okN, SV.solid, SV.solid1, SV.solid0, SV.flat0, SV.nm, SV.nm1, SV.nm0, SV.noPtr1, SV.noPtr0, Cel.isFresh, fillP, setAt, partV, eqCells, cellEq, gamY, listsOk, tupOf, takeOwn, SV.ret1, resAll, resL, resV, Nat.reduceEqDiff, ↓reduceIte, Nat.reduceAdd, Nat.reduceMul, Nat.reduceLeDiff, Nat.reduceLT, reduceCtorEq, labOk, Int.reduceBEq, Int.reduceBNe, Int.reduceToNat, Int.reduceLE, Int.reduceLT, Int.reduceEq, Nat.reduceDiv, Nat.reduceMod, Nat.reduceSub, Nat.reduceBEq, fitR, fitR1, fitR0, fitRL1, fitRL, wd, wN_hl, OkW_hl, eq_hl, eq_h0, wN_0, OkW_0, cmpN_le0, cmpN_gt0, cmpN_lt0, cmpN_ge0, Int.toNat_natCast, asB]
          have kl := parL_len ha hlen39 t ht2
          by_cases htl : (t : Int) < (s.length : Int)
          · have htl' : t < s.length := by omega
            have c0 : (0 : Int) ≤ (t : Int) := by omega
            have b1 := i64_wrap (show I64 ((t : Int) + 1) by unfold I64; omega)
            have hdi := gdig ((List.all_eq_true.1 ha) (s.getD t 0) (by rw [List.getD_eq_getElem?_getD, List.getElem?_eq_getElem htl']; exact List.getElem_mem htl'))
            have w8 : IntKind.u8.wrap (((s.getD t 0).toNat : Int) - 48) = ((s.getD t 0).toNat : Int) - 48 := by rw [IntKind.wrap_u8]; omega
            have w9 := i64_wrap (show I64 (((s.getD t 0).toNat : Int) - 48) by unfold I64; omega)
            have x0 : (0 : Int) ≤ ((s.getD t 0).toNat : Int) - 48 ∧ ((s.getD t 0).toNat : Int) - 48 ≤ 9223372036854775807 := by omega
            have nt : (((s.getD t 0).toNat : Int) - 48).toNat = (s.getD t 0).toNat - 48 := by omega
            have fD : Fits ((s.getD t 0).toNat - 48) := fits_lt.2 (by omega)
            have k1 : (parL s t).length ≤ 1048576 := by omega
            have k2 : (prodL (parL s t) ten4).length ≤ 4294967296 := by have := prod_len ha ht2 hlen39; omega
            have k3 : (bitsL ((s.getD t 0).toNat - 48)).length ≤ 4294967296 := by
              have := bits_le (n := (s.getD t 0).toNat - 48) (by omega)
              omega
            have hS := parL_s s t
            have dt : ([false, true, false, true] : List Bool) = ten4 := rfl
            have tl : ten4.length ≤ 1048576 := by decide
            simp (config := { maxSteps := 9000000 }) only [↓vyD, vyU, binS, SV.go1, SV.go0, mkRow, intsOf, boolsOf, strsOf, chunks, Row.rep, Row.cat, Row.sub, Row.put, Row.len, Row.get, Row.size, Row.flat, bnds, own0, own1, labsL, labsR, SV.labs, argsOf, entFr, SO.ev, St.of, keepSt, getAll, lookN, hasN, SV.cells, SV.one, SV.res1, SV.res0, SV.resP, SV.ok1, SV.ok0, SV.okN, SV.solid, SV.solid1, SV.solid0, SV.flat0, SV.nm, SV.nm1, SV.nm0, SV.noPtr1, SV.noPtr0, Cel.isFresh, fillP, setAt, partV, eqCells, cellEq, gamY, listsOk, tupOf, takeOwn, SV.ret1, resAll, resL, resV, Nat.reduceEqDiff, ↓reduceIte, Nat.reduceAdd, Nat.reduceMul, Nat.reduceLeDiff, Nat.reduceLT, reduceCtorEq, labOk, Int.reduceBEq, Int.reduceBNe, Int.reduceToNat, Int.reduceLE, Int.reduceLT, Int.reduceEq, Nat.reduceDiv, Nat.reduceMod, Nat.reduceSub, Nat.reduceBEq, fitR, fitR1, fitR0, fitRL1, fitRL, wd, wN_hl, OkW_hl, eq_hl, eq_h0, wN_0, OkW_0, cmpN_le0, cmpN_gt0, cmpN_lt0, cmpN_ge0, Int.toNat_natCast, gPs, trimS, bprodS, rwideS, bitsS, bplusS, num2S, asB, htl, htl', c0, b1, w8, w9, x0, nt, fD, k1, k2, k3, dt, tl, Int.toNat_natCast]
            exact ⟨t + 1, ⟨by omega, by omega⟩, hS.symm, by simp⟩
          · have htL : t = s.length := by omega
            subst htL
            have hvl := parL_val s s.length (Nat.le_refl _)
            rw [List.take_length] at hvl
            have hnum : numN (parL s s.length) = valD s := by unfold numN; rw [hvl, if_pos hv]
            have k4 : (parL s s.length).length ≤ 4294967296 := by omega
            simp (config := { maxSteps := 9000000 }) only [↓vyD, vyU, binS, SV.go1, SV.go0, mkRow, intsOf, boolsOf, strsOf, chunks, Row.rep, Row.cat, Row.sub, Row.put, Row.len, Row.get, Row.size, Row.flat, bnds, own0, own1, labsL, labsR, SV.labs, argsOf, entFr, SO.ev, St.of, keepSt, getAll, lookN, hasN, SV.cells, SV.one, SV.res1, SV.res0, SV.resP, SV.ok1, SV.ok0, SV.okN, SV.solid, SV.solid1, SV.solid0, SV.flat0, SV.nm, SV.nm1, SV.nm0, SV.noPtr1, SV.noPtr0, Cel.isFresh, fillP, setAt, partV, eqCells, cellEq, gamY, listsOk, tupOf, takeOwn, SV.ret1, resAll, resL, resV, Nat.reduceEqDiff, ↓reduceIte, Nat.reduceAdd, Nat.reduceMul, Nat.reduceLeDiff, Nat.reduceLT, reduceCtorEq, labOk, Int.reduceBEq, Int.reduceBNe, Int.reduceToNat, Int.reduceLE, Int.reduceLT, Int.reduceEq, Nat.reduceDiv, Nat.reduceMod, Nat.reduceSub, Nat.reduceBEq, fitR, fitR1, fitR0, fitRL1, fitRL, wd, wN_hl, OkW_hl, eq_hl, eq_h0, wN_0, OkW_0, cmpN_le0, cmpN_gt0, cmpN_lt0, cmpN_ge0, Int.toNat_natCast, gPs, trimS, bprodS, rwideS, bitsS, bplusS, num2S, asB, htl, Int.lt_irrefl, k4, hnum, pN, pE]
      · have e39 : s.length = 39 := Classical.byContradiction fun h => hv (hB2.2 fun hh => absurd hh h)
        have pN : parN s = 0 := if_neg (by omega)
        have pE : parE s = 2 := by unfold parE; rw [if_pos hd, if_neg hv]
        have hBt : B = true := by
          cases B with
          | true => rfl
          | false => exact absurd (hB2.2 fun _ => rfl) hv
        have u1 : ((s.length : Int) == 39) = true := beq_iff_eq.2 (by omega)
        have u2 := hB1' e39
        rw [hBt] at u2
        simp (config := { maxSteps := 9000000 }) only [↓vyD, vyU, binS, SV.go1, SV.go0, mkRow, intsOf, boolsOf, strsOf, chunks, Row.rep, Row.cat, Row.sub, Row.put, Row.len, Row.get, Row.size, Row.flat, bnds, own0, own1, labsL, labsR, SV.labs, argsOf, entFr, SO.ev, St.of, keepSt, getAll, lookN, hasN, SV.cells, SV.one, SV.res1, SV.res0, SV.resP, SV.ok1, SV.ok0, SV.okN, SV.solid, SV.solid1, SV.solid0, SV.flat0, SV.nm, SV.nm1, SV.nm0, SV.noPtr1, SV.noPtr0, Cel.isFresh, fillP, setAt, partV, eqCells, cellEq, gamY, listsOk, tupOf, takeOwn, SV.ret1, resAll, resL, resV, Nat.reduceEqDiff, ↓reduceIte, Nat.reduceAdd, Nat.reduceMul, Nat.reduceLeDiff, Nat.reduceLT, reduceCtorEq, labOk, Int.reduceBEq, Int.reduceBNe, Int.reduceToNat, Int.reduceLE, Int.reduceLT, Int.reduceEq, Nat.reduceDiv, Nat.reduceMod, Nat.reduceSub, Nat.reduceBEq, fitR, fitR1, fitR0, fitRL1, fitRL, wd, wN_hl, OkW_hl, eq_hl, eq_h0, wN_0, OkW_0, cmpN_le0, cmpN_gt0, cmpN_lt0, cmpN_ge0, Int.toNat_natCast, gPs, trimS, bprodS, rwideS, bitsS, bplusS, num2S, asB, hlt, Int.lt_irrefl, g39, gt_iff_lt, u1, u2, pN, pE, z0, not_false_eq_true, not_true_eq_false]
    · have k1 : ((((s.getD 0 0).toNat : Int)) == 48) = false := beq_eq_false_iff_ne.2 (by omega)
      simp (config := { maxSteps := 9000000 }) only [↓vyD, vyU, binS, SV.go1, SV.go0, mkRow, intsOf, boolsOf, strsOf, chunks, Row.rep, Row.cat, Row.sub, Row.put, Row.len, Row.get, Row.size, Row.flat, bnds, own0, own1, labsL, labsR, SV.labs, argsOf, entFr, SO.ev, St.of, keepSt, getAll, lookN, hasN, SV.cells, SV.one, SV.res1, SV.res0, SV.resP, SV.ok1, SV.ok0, SV.okN, SV.solid, SV.solid1, SV.solid0, SV.flat0, SV.nm, SV.nm1, SV.nm0, SV.noPtr1, SV.noPtr0, Cel.isFresh, fillP, setAt, partV, eqCells, cellEq, gamY, listsOk, tupOf, takeOwn, SV.ret1, resAll, resL, resV, Nat.reduceEqDiff, ↓reduceIte, Nat.reduceAdd, Nat.reduceMul, Nat.reduceLeDiff, Nat.reduceLT, reduceCtorEq, labOk, Int.reduceBEq, Int.reduceBNe, Int.reduceToNat, Int.reduceLE, Int.reduceLT, Int.reduceEq, Nat.reduceDiv, Nat.reduceMod, Nat.reduceSub, Nat.reduceBEq, fitR, fitR1, fitR0, fitRL1, fitRL, wd, wN_hl, OkW_hl, eq_hl, eq_h0, wN_0, OkW_0, cmpN_le0, cmpN_gt0, cmpN_lt0, cmpN_ge0, Int.toNat_natCast, y5, gPs, trimS, bprodS, rwideS, bitsS, bplusS, num2S, asB, hs, hn', q0, dq, ht', k1, z0, Int.toNat_zero, Int.le_refl, if_true]
      refine loopG_intro (ι := Nat) (fun i => [(0, .str s), (2, .ptr 0 0), (29, .sl 3001 0), (30, .int .i64 s.length), (31, .int .i64 i)]) (fun _ => [(0, .var 24 [.int .u64 0, .int .u64 0]), (3001, .row 0 1000005 (.ints .u8 (s.map fun b => (b.toNat : Int))))]) (fun i => i ≤ s.length) (fun i => s.length - i) ⟨0, by omega, ?_, ?_, ?_⟩ fun i hi => ?_
      · simp (config := { maxSteps := 9000000 }) only [↓vyD, vyU, binS, SV.go1, SV.go0, mkRow, intsOf, boolsOf, strsOf, chunks, Row.rep, Row.cat, Row.sub, Row.put, Row.len, Row.get, Row.size, Row.flat, bnds, own0, own1, labsL, labsR, SV.labs, argsOf, entFr, SO.ev, St.of, keepSt, getAll, lookN, hasN, SV.cells, SV.one, SV.res1, SV.res0, SV.resP, SV.ok1, SV.ok0, SV.okN, SV.solid, SV.solid1, SV.solid0, SV.flat0, SV.nm, SV.nm1, SV.nm0, SV.noPtr1, SV.noPtr0, Cel.isFresh, fillP, setAt, partV, eqCells, cellEq, gamY, listsOk, tupOf, takeOwn, SV.ret1, resAll, resL, resV, Nat.reduceEqDiff, ↓reduceIte, Nat.reduceAdd, Nat.reduceMul, Nat.reduceLeDiff, Nat.reduceLT, reduceCtorEq, labOk, Int.reduceBEq, Int.reduceBNe, Int.reduceToNat, Int.reduceLE, Int.reduceLT, Int.reduceEq, Nat.reduceDiv, Nat.reduceMod, Nat.reduceSub, Nat.reduceBEq, fitR, fitR1, fitR0, fitRL1, fitRL, wd, wN_hl, OkW_hl, eq_hl, eq_h0, wN_0, OkW_0, cmpN_le0, cmpN_gt0, cmpN_lt0, cmpN_ge0, Int.toNat_natCast, asB]
      · simp (config := { maxSteps := 9000000 }) only [↓vyD, vyU, binS, SV.go1, SV.go0, mkRow, intsOf, boolsOf, strsOf, chunks, Row.rep, Row.cat, Row.sub, Row.put, Row.len, Row.get, Row.size, Row.flat, bnds, own0, own1, labsL, labsR, SV.labs, argsOf, entFr, SO.ev, St.of, keepSt, getAll, lookN, hasN, SV.cells, SV.one, SV.res1, SV.res0, SV.resP, SV.ok1, SV.ok0, SV.okN, SV.solid, SV.solid1, SV.solid0, SV.flat0, SV.nm, SV.nm1, SV.nm0, SV.noPtr1, SV.noPtr0, Cel.isFresh, fillP, setAt, partV, eqCells, cellEq, gamY, listsOk, tupOf, takeOwn, SV.ret1, resAll, resL, resV, Nat.reduceEqDiff, ↓reduceIte, Nat.reduceAdd, Nat.reduceMul, Nat.reduceLeDiff, Nat.reduceLT, reduceCtorEq, labOk, Int.reduceBEq, Int.reduceBNe, Int.reduceToNat, Int.reduceLE, Int.reduceLT, Int.reduceEq, Nat.reduceDiv, Nat.reduceMod, Nat.reduceSub, Nat.reduceBEq, fitR, fitR1, fitR0, fitRL1, fitRL, wd, wN_hl, OkW_hl, eq_hl, eq_h0, wN_0, OkW_0, cmpN_le0, cmpN_gt0, cmpN_lt0, cmpN_ge0, Int.toNat_natCast, asB, List.length_map, Int.natCast_zero, Int.ofNat_zero]
      · simp (config := { maxSteps := 9000000 }) only [↓vyD, vyU, binS, SV.go1, SV.go0, mkRow, intsOf, boolsOf, strsOf, chunks, Row.rep, Row.cat, Row.sub, Row.put, Row.len, Row.get, Row.size, Row.flat, bnds, own0, own1, labsL, labsR, SV.labs, argsOf, entFr, SO.ev, St.of, keepSt, getAll, lookN, hasN, SV.cells, SV.one, SV.res1, SV.res0, SV.resP, SV.ok1, SV.ok0, SV.okN, SV.solid, SV.solid1, SV.solid0, SV.flat0, SV.nm, SV.nm1, SV.nm0, SV.noPtr1, SV.noPtr0, Cel.isFresh, fillP, setAt, partV, eqCells, cellEq, gamY, listsOk, tupOf, takeOwn, SV.ret1, resAll, resL, resV, Nat.reduceEqDiff, ↓reduceIte, Nat.reduceAdd, Nat.reduceMul, Nat.reduceLeDiff, Nat.reduceLT, reduceCtorEq, labOk, Int.reduceBEq, Int.reduceBNe, Int.reduceToNat, Int.reduceLE, Int.reduceLT, Int.reduceEq, Nat.reduceDiv, Nat.reduceMod, Nat.reduceSub, Nat.reduceBEq, fitR, fitR1, fitR0, fitRL1, fitRL, wd, wN_hl, OkW_hl, eq_hl, eq_h0, wN_0, OkW_0, cmpN_le0, cmpN_gt0, cmpN_lt0, cmpN_ge0, Int.toNat_natCast, asB]
      by_cases hlt : (i : Int) < (s.length : Int)
      · have hlt' : i < s.length := by omega
        have c0 : (0 : Int) ≤ (i : Int) := by omega
        have b1 := i64_wrap (show I64 ((i : Int) + 1) by unfold I64; omega)
        have hg : (s.map fun b => (b.toNat : Int)).getD i 0 = ((s.getD i 0).toNat : Int) := by
          rw [List.getD_eq_getElem?_getD, List.getElem?_map, List.getElem?_eq_getElem hlt', List.getD_eq_getElem?_getD, List.getElem?_eq_getElem hlt']; rfl
        have hdi := gdig ((List.all_eq_true.1 ha) (s.getD i 0) (by rw [List.getD_eq_getElem?_getD, List.getElem?_eq_getElem hlt']; exact List.getElem_mem hlt'))
        have n1 : ¬ (((s.getD i 0).toNat : Int)) < 48 := by omega
        have n2 : ¬ (57 : Int) < (((s.getD i 0).toNat : Int)) := by omega
        simp (config := { maxSteps := 9000000 }) only [↓vyD, vyU, binS, SV.go1, SV.go0, mkRow, intsOf, boolsOf, strsOf, chunks, Row.rep, Row.cat, Row.sub, Row.put, Row.len, Row.get, Row.size, Row.flat, bnds, own0, own1, labsL, labsR, SV.labs, argsOf, entFr, SO.ev, St.of, keepSt, getAll, lookN, hasN, SV.cells, SV.one, SV.res1, SV.res0, SV.resP, SV.ok1, SV.ok0, SV.okN, SV.solid, SV.solid1, SV.solid0, SV.flat0, SV.nm, SV.nm1, SV.nm0, SV.noPtr1, SV.noPtr0, Cel.isFresh, fillP, setAt, partV, eqCells, cellEq, gamY, listsOk, tupOf, takeOwn, SV.ret1, resAll, resL, resV, Nat.reduceEqDiff, ↓reduceIte, Nat.reduceAdd, Nat.reduceMul, Nat.reduceLeDiff, Nat.reduceLT, reduceCtorEq, labOk, Int.reduceBEq, Int.reduceBNe, Int.reduceToNat, Int.reduceLE, Int.reduceLT, Int.reduceEq, Nat.reduceDiv, Nat.reduceMod, Nat.reduceSub, Nat.reduceBEq, fitR, fitR1, fitR0, fitRL1, fitRL, wd, wN_hl, OkW_hl, eq_hl, eq_h0, wN_0, OkW_0, cmpN_le0, cmpN_gt0, cmpN_lt0, cmpN_ge0, Int.toNat_natCast, gPs, trimS, bprodS, rwideS, bitsS, bplusS, num2S, asB, hlt, hlt', c0, b1, hg, n1, n2, List.length_map, Int.toNat_natCast, gt_iff_lt]
        exact ⟨i + 1, ⟨by omega, by omega⟩, by simp⟩
      have hiL : i = s.length := by omega
      subst hiL
      by_cases g39 : (39 : Int) < (s.length : Int)
      · have hbig := big_40 hd (by omega)
        have pN : parN s = 0 := if_neg (by omega)
        have pE : parE s = 2 := by unfold parE; rw [if_pos hd, if_neg (by omega)]
        simp (config := { maxSteps := 9000000 }) only [↓vyD, vyU, binS, SV.go1, SV.go0, mkRow, intsOf, boolsOf, strsOf, chunks, Row.rep, Row.cat, Row.sub, Row.put, Row.len, Row.get, Row.size, Row.flat, bnds, own0, own1, labsL, labsR, SV.labs, argsOf, entFr, SO.ev, St.of, keepSt, getAll, lookN, hasN, SV.cells, SV.one, SV.res1, SV.res0, SV.resP, SV.ok1, SV.ok0, SV.okN, SV.solid, SV.solid1, SV.solid0, SV.flat0, SV.nm, SV.nm1, SV.nm0, SV.noPtr1, SV.noPtr0, Cel.isFresh, fillP, setAt, partV, eqCells, cellEq, gamY, listsOk, tupOf, takeOwn, SV.ret1, resAll, resL, resV, Nat.reduceEqDiff, ↓reduceIte, Nat.reduceAdd, Nat.reduceMul, Nat.reduceLeDiff, Nat.reduceLT, reduceCtorEq, labOk, Int.reduceBEq, Int.reduceBNe, Int.reduceToNat, Int.reduceLE, Int.reduceLT, Int.reduceEq, Nat.reduceDiv, Nat.reduceMod, Nat.reduceSub, Nat.reduceBEq, fitR, fitR1, fitR0, fitRL1, fitRL, wd, wN_hl, OkW_hl, eq_hl, eq_h0, wN_0, OkW_0, cmpN_le0, cmpN_gt0, cmpN_lt0, cmpN_ge0, Int.toNat_natCast, gPs, trimS, bprodS, rwideS, bitsS, bplusS, num2S, asB, hlt, Int.lt_irrefl, g39, gt_iff_lt, pN, pE, z0, not_false_eq_true, not_true_eq_false]
      have hcmp : ∃ B : Bool, (s.length = 39 → (!(Op.bytesLess s most39 || s == most39)) = B) ∧ (valD s < 340282366920938463463374607431768211456 ↔ (s.length = 39 → B = false)) := by
        by_cases e39 : s.length = 39
        · obtain ⟨x1, x2⟩ := less_eq s most39 ha most_all (by rw [e39]; rfl)
          refine ⟨_, fun _ => rfl, ?_⟩
          rw [x1, x2, most_val]
          constructor
          · intro h _
            rcases Nat.lt_or_ge (valD s) 340282366920938463463374607431768211455 with h1 | h1
            · rw [decide_eq_true h1]; rfl
            · rw [decide_eq_true (show valD s = 340282366920938463463374607431768211455 by omega), Bool.or_true]; rfl
          · intro h
            have h1 := h e39
            simp only [Bool.not_eq_false', Bool.or_eq_true, decide_eq_true_eq] at h1
            omega
        · refine ⟨false, fun h => absurd h e39, fun _ _ => rfl, fun _ => ?_⟩
          have h2 := gvalD_lt s ha
          have h3 : 10 ^ s.length ≤ 10 ^ 38 := Nat.pow_le_pow_right (by omega) (by omega)
          omega
      obtain ⟨B, hB1, hB2⟩ := hcmp
      have hB1' : s.length = 39 → (!(Op.bytesLess s [51, 52, 48, 50, 56, 50, 51, 54, 54, 57, 50, 48, 57, 51, 56, 52, 54, 51, 52, 54, 51, 51, 55, 52, 54, 48, 55, 52, 51, 49, 55, 54, 56, 50, 49, 49, 52, 53, 53] || s == [51, 52, 48, 50, 56, 50, 51, 54, 54, 57, 50, 48, 57, 51, 56, 52, 54, 51, 52, 54, 51, 51, 55, 52, 54, 48, 55, 52, 51, 49, 55, 54, 56, 50, 49, 49, 52, 53, 53])) = B := hB1
      by_cases hv : valD s < 340282366920938463463374607431768211456
      · have pN : parN s = valD s := if_pos ⟨hd, hv⟩
        have pE : parE s = 0 := by unfold parE; rw [if_pos hd, if_pos hv]
        have hlen39 : s.length ≤ 39 := by omega
        have hz : ∀ K : Prop, (s.length = 39 → ((s.length : Int) == 39) = true → (!(Op.bytesLess s [51, 52, 48, 50, 56, 50, 51, 54, 54, 57, 50, 48, 57, 51, 56, 52, 54, 51, 52, 54, 51, 51, 55, 52, 54, 48, 55, 52, 51, 49, 55, 54, 56, 50, 49, 49, 52, 53, 53] || s == [51, 52, 48, 50, 56, 50, 51, 54, 54, 57, 50, 48, 57, 51, 56, 52, 54, 51, 52, 54, 51, 51, 55, 52, 54, 48, 55, 52, 51, 49, 55, 54, 56, 50, 49, 49, 52, 53, 53])) = false → K) → (((s.length : Int) == 39) = false → K) → K := fun K f g => by
          by_cases e : s.length = 39
          · exact f e (beq_iff_eq.2 (by omega)) (by rw [hB1' e]; exact hB2.1 hv e)
          · exact g (beq_eq_false_iff_ne.2 (by omega))
        refine hz _ (fun e u1 u2 => ?_) (fun u1 => ?_)
        · simp (config := { maxSteps := 9000000 }) only [↓vyD, vyU, binS, SV.go1, SV.go0, mkRow, intsOf, boolsOf, strsOf, chunks, Row.rep, Row.cat, Row.sub, Row.put, Row.len, Row.get, Row.size, Row.flat, bnds, own0, own1, labsL, labsR, SV.labs, argsOf, entFr, SO.ev, St.of, keepSt, getAll, lookN, hasN, SV.cells, SV.one, SV.res1, SV.res0, SV.resP, SV.ok1, SV.ok0, SV.okN, SV.solid, SV.solid1, SV.solid0, SV.flat0, SV.nm, SV.nm1, SV.nm0, SV.noPtr1, SV.noPtr0, Cel.isFresh, fillP, setAt, partV, eqCells, cellEq, gamY, listsOk, tupOf, takeOwn, SV.ret1, resAll, resL, resV, Nat.reduceEqDiff, ↓reduceIte, Nat.reduceAdd, Nat.reduceMul, Nat.reduceLeDiff, Nat.reduceLT, reduceCtorEq, labOk, Int.reduceBEq, Int.reduceBNe, Int.reduceToNat, Int.reduceLE, Int.reduceLT, Int.reduceEq, Nat.reduceDiv, Nat.reduceMod, Nat.reduceSub, Nat.reduceBEq, fitR, fitR1, fitR0, fitRL1, fitRL, wd, wN_hl, OkW_hl, eq_hl, eq_h0, wN_0, OkW_0, cmpN_le0, cmpN_gt0, cmpN_lt0, cmpN_ge0, Int.toNat_natCast, gPs, trimS, bprodS, rwideS, bitsS, bplusS, num2S, asB, hlt, Int.lt_irrefl, g39, gt_iff_lt, u1, u2, not_false_eq_true, not_true_eq_false]
          refine loopG_intro (ι := Nat) (fun t => [(0, .str s), (2, .ptr 0 0), (7, .rw (.bools (parL s t))), (62, .int .i64 s.length), (63, .int .i64 t)]) (fun _ => [(0, .var 24 [.int .u64 0, .int .u64 0])]) (fun t => t ≤ s.length) (fun t => s.length - t) ⟨0, by omega, ?_, ?_, ?_⟩ fun t ht2 => ?_
          · simp (config := { maxSteps := 9000000 }) only [↓vyD, vyU, binS, SV.go1, SV.go0, mkRow, intsOf, boolsOf, strsOf, chunks, Row.rep, Row.cat, Row.sub, Row.put, Row.len, Row.get, Row.size, Row.flat, bnds, own0, own1, labsL, labsR, SV.labs, argsOf, entFr, SO.ev, St.of, keepSt, getAll, lookN, hasN, SV.cells, SV.one, SV.res1, SV.res0, SV.resP, SV.ok1, SV.ok0, SV.okN, SV.solid, SV.solid1, SV.solid0, SV.flat0, SV.nm, SV.nm1, SV.nm0, SV.noPtr1, SV.noPtr0, Cel.isFresh, fillP, setAt, partV, eqCells, cellEq, gamY, listsOk, tupOf, takeOwn, SV.ret1, resAll, resL, resV, Nat.reduceEqDiff, ↓reduceIte, Nat.reduceAdd, Nat.reduceMul, Nat.reduceLeDiff, Nat.reduceLT, reduceCtorEq, labOk, Int.reduceBEq, Int.reduceBNe, Int.reduceToNat, Int.reduceLE, Int.reduceLT, Int.reduceEq, Nat.reduceDiv, Nat.reduceMod, Nat.reduceSub, Nat.reduceBEq, fitR, fitR1, fitR0, fitRL1, fitRL, wd, wN_hl, OkW_hl, eq_hl, eq_h0, wN_0, OkW_0, cmpN_le0, cmpN_gt0, cmpN_lt0, cmpN_ge0, Int.toNat_natCast, asB]
          · simp (config := { maxSteps := 9000000 }) only [↓vyD, vyU, binS, SV.go1, SV.go0, mkRow, intsOf, boolsOf, strsOf, chunks, Row.rep, Row.cat, Row.sub, Row.put, Row.len, Row.get, Row.size, Row.flat, bnds, own0, own1, labsL, labsR, SV.labs, argsOf, entFr, SO.ev, St.of, keepSt, getAll, lookN, hasN, SV.cells, SV.one, SV.res1, SV.res0, SV.resP, SV.ok1, SV.ok0, SV.okN, SV.solid, SV.solid1, SV.solid0, SV.flat0, SV.nm, SV.nm1, SV.nm0, SV.noPtr1, SV.noPtr0, Cel.isFresh, fillP, setAt, partV, eqCells, cellEq, gamY, listsOk, tupOf, takeOwn, SV.ret1, resAll, resL, resV, Nat.reduceEqDiff, ↓reduceIte, Nat.reduceAdd, Nat.reduceMul, Nat.reduceLeDiff, Nat.reduceLT, reduceCtorEq, labOk, Int.reduceBEq, Int.reduceBNe, Int.reduceToNat, Int.reduceLE, Int.reduceLT, Int.reduceEq, Nat.reduceDiv, Nat.reduceMod, Nat.reduceSub, Nat.reduceBEq, fitR, fitR1, fitR0, fitRL1, fitRL, wd, wN_hl, OkW_hl, eq_hl, eq_h0, wN_0, OkW_0, cmpN_le0, cmpN_gt0, cmpN_lt0, cmpN_ge0, Int.toNat_natCast, asB, parL_0, Int.natCast_zero, Int.ofNat_zero]
          · simp (config := { maxSteps := 9000000 }) only [↓vyD, vyU, binS, SV.go1, SV.go0, mkRow, intsOf, boolsOf, strsOf, chunks, Row.rep, Row.cat, Row.sub, Row.put, Row.len, Row.get, Row.size, Row.flat, bnds, own0, own1, labsL, labsR, SV.labs, argsOf, entFr, SO.ev, St.of, keepSt, getAll, lookN, hasN, SV.cells, SV.one, SV.res1, SV.res0, SV.resP, SV.ok1, SV.ok0, SV.okN, SV.solid, SV.solid1, SV.solid0, SV.flat0, SV.nm, SV.nm1, SV.nm0, SV.noPtr1, SV.noPtr0, Cel.isFresh, fillP, setAt, partV, eqCells, cellEq, gamY, listsOk, tupOf, takeOwn, SV.ret1, resAll, resL, resV, Nat.reduceEqDiff, ↓reduceIte, Nat.reduceAdd, Nat.reduceMul, Nat.reduceLeDiff, Nat.reduceLT, reduceCtorEq, labOk, Int.reduceBEq, Int.reduceBNe, Int.reduceToNat, Int.reduceLE, Int.reduceLT, Int.reduceEq, Nat.reduceDiv, Nat.reduceMod, Nat.reduceSub, Nat.reduceBEq, fitR, fitR1, fitR0, fitRL1, fitRL, wd, wN_hl, OkW_hl, eq_hl, eq_h0, wN_0, OkW_0, cmpN_le0, cmpN_gt0, cmpN_lt0, cmpN_ge0, Int.toNat_natCast, asB]
          have kl := parL_len ha hlen39 t ht2
          by_cases htl : (t : Int) < (s.length : Int)
          · have htl' : t < s.length := by omega
            have c0 : (0 : Int) ≤ (t : Int) := by omega
            have b1 := i64_wrap (show I64 ((t : Int) + 1) by unfold I64; omega)
            have hdi := gdig ((List.all_eq_true.1 ha) (s.getD t 0) (by rw [List.getD_eq_getElem?_getD, List.getElem?_eq_getElem htl']; exact List.getElem_mem htl'))
            have w8 : IntKind.u8.wrap (((s.getD t 0).toNat : Int) - 48) = ((s.getD t 0).toNat : Int) - 48 := by rw [IntKind.wrap_u8]; omega
            have w9 := i64_wrap (show I64 (((s.getD t 0).toNat : Int) - 48) by unfold I64; omega)
            have x0 : (0 : Int) ≤ ((s.getD t 0).toNat : Int) - 48 ∧ ((s.getD t 0).toNat : Int) - 48 ≤ 9223372036854775807 := by omega
            have nt : (((s.getD t 0).toNat : Int) - 48).toNat = (s.getD t 0).toNat - 48 := by omega
            have fD : Fits ((s.getD t 0).toNat - 48) := fits_lt.2 (by omega)
            have k1 : (parL s t).length ≤ 1048576 := by omega
            have k2 : (prodL (parL s t) ten4).length ≤ 4294967296 := by have := prod_len ha ht2 hlen39; omega
            have k3 : (bitsL ((s.getD t 0).toNat - 48)).length ≤ 4294967296 := by
              have := bits_le (n := (s.getD t 0).toNat - 48) (by omega)
              omega
            have hS := parL_s s t
            have dt : ([false, true, false, true] : List Bool) = ten4 := rfl
            have tl : ten4.length ≤ 1048576 := by decide
            simp (config := { maxSteps := 9000000 }) only [↓vyD, vyU, binS, SV.go1, SV.go0, mkRow, intsOf, boolsOf, strsOf, chunks, Row.rep, Row.cat, Row.sub, Row.put, Row.len, Row.get, Row.size, Row.flat, bnds, own0, own1, labsL, labsR, SV.labs, argsOf, entFr, SO.ev, St.of, keepSt, getAll, lookN, hasN, SV.cells, SV.one, SV.res1, SV.res0, SV.resP, SV.ok1, SV.ok0, SV.okN, SV.solid, SV.solid1, SV.solid0, SV.flat0, SV.nm, SV.nm1, SV.nm0, SV.noPtr1, SV.noPtr0, Cel.isFresh, fillP, setAt, partV, eqCells, cellEq, gamY, listsOk, tupOf, takeOwn, SV.ret1, resAll, resL, resV, Nat.reduceEqDiff, ↓reduceIte, Nat.reduceAdd, Nat.reduceMul, Nat.reduceLeDiff, Nat.reduceLT, reduceCtorEq, labOk, Int.reduceBEq, Int.reduceBNe, Int.reduceToNat, Int.reduceLE, Int.reduceLT, Int.reduceEq, Nat.reduceDiv, Nat.reduceMod, Nat.reduceSub, Nat.reduceBEq, fitR, fitR1, fitR0, fitRL1, fitRL, wd, wN_hl, OkW_hl, eq_hl, eq_h0, wN_0, OkW_0, cmpN_le0, cmpN_gt0, cmpN_lt0, cmpN_ge0, Int.toNat_natCast, gPs, trimS, bprodS, rwideS, bitsS, bplusS, num2S, asB, htl, htl', c0, b1, w8, w9, x0, nt, fD, k1, k2, k3, dt, tl, Int.toNat_natCast]
            exact ⟨t + 1, ⟨by omega, by omega⟩, hS.symm, by simp⟩
          · have htL : t = s.length := by omega
            subst htL
            have hvl := parL_val s s.length (Nat.le_refl _)
            rw [List.take_length] at hvl
            have hnum : numN (parL s s.length) = valD s := by unfold numN; rw [hvl, if_pos hv]
            have k4 : (parL s s.length).length ≤ 4294967296 := by omega
            simp (config := { maxSteps := 9000000 }) only [↓vyD, vyU, binS, SV.go1, SV.go0, mkRow, intsOf, boolsOf, strsOf, chunks, Row.rep, Row.cat, Row.sub, Row.put, Row.len, Row.get, Row.size, Row.flat, bnds, own0, own1, labsL, labsR, SV.labs, argsOf, entFr, SO.ev, St.of, keepSt, getAll, lookN, hasN, SV.cells, SV.one, SV.res1, SV.res0, SV.resP, SV.ok1, SV.ok0, SV.okN, SV.solid, SV.solid1, SV.solid0, SV.flat0, SV.nm, SV.nm1, SV.nm0, SV.noPtr1, SV.noPtr0, Cel.isFresh, fillP, setAt, partV, eqCells, cellEq, gamY, listsOk, tupOf, takeOwn, SV.ret1, resAll, resL, resV, Nat.reduceEqDiff, ↓reduceIte, Nat.reduceAdd, Nat.reduceMul, Nat.reduceLeDiff, Nat.reduceLT, reduceCtorEq, labOk, Int.reduceBEq, Int.reduceBNe, Int.reduceToNat, Int.reduceLE, Int.reduceLT, Int.reduceEq, Nat.reduceDiv, Nat.reduceMod, Nat.reduceSub, Nat.reduceBEq, fitR, fitR1, fitR0, fitRL1, fitRL, wd, wN_hl, OkW_hl, eq_hl, eq_h0, wN_0, OkW_0, cmpN_le0, cmpN_gt0, cmpN_lt0, cmpN_ge0, Int.toNat_natCast, gPs, trimS, bprodS, rwideS, bitsS, bplusS, num2S, asB, htl, Int.lt_irrefl, k4, hnum, pN, pE]
        · simp (config := { maxSteps := 9000000 }) only [↓vyD, vyU, binS, SV.go1, SV.go0, mkRow, intsOf, boolsOf, strsOf, chunks, Row.rep, Row.cat, Row.sub, Row.put, Row.len, Row.get, Row.size, Row.flat, bnds, own0, own1, labsL, labsR, SV.labs, argsOf, entFr, SO.ev, St.of, keepSt, getAll, lookN, hasN, SV.cells, SV.one, SV.res1, SV.res0, SV.resP, SV.ok1, SV.ok0, SV.okN, SV.solid, SV.solid1, SV.solid0, SV.flat0, SV.nm, SV.nm1, SV.nm0, SV.noPtr1, SV.noPtr0, Cel.isFresh, fillP, setAt, partV, eqCells, cellEq, gamY, listsOk, tupOf, takeOwn, SV.ret1, resAll, resL, resV, Nat.reduceEqDiff, ↓reduceIte, Nat.reduceAdd, Nat.reduceMul, Nat.reduceLeDiff, Nat.reduceLT, reduceCtorEq, labOk, Int.reduceBEq, Int.reduceBNe, Int.reduceToNat, Int.reduceLE, Int.reduceLT, Int.reduceEq, Nat.reduceDiv, Nat.reduceMod, Nat.reduceSub, Nat.reduceBEq, fitR, fitR1, fitR0, fitRL1, fitRL, wd, wN_hl, OkW_hl, eq_hl, eq_h0, wN_0, OkW_0, cmpN_le0, cmpN_gt0, cmpN_lt0, cmpN_ge0, Int.toNat_natCast, gPs, trimS, bprodS, rwideS, bitsS, bplusS, num2S, asB, hlt, Int.lt_irrefl, g39, gt_iff_lt, u1, not_false_eq_true, not_true_eq_false]
          refine loopG_intro (ι := Nat) (fun t => [(0, .str s), (2, .ptr 0 0), (7, .rw (.bools (parL s t))), (62, .int .i64 s.length), (63, .int .i64 t)]) (fun _ => [(0, .var 24 [.int .u64 0, .int .u64 0])]) (fun t => t ≤ s.length) (fun t => s.length - t) ⟨0, by omega, ?_, ?_, ?_⟩ fun t ht2 => ?_
          · simp (config := { maxSteps := 9000000 }) only [↓vyD, vyU, binS, SV.go1, SV.go0, mkRow, intsOf, boolsOf, strsOf, chunks, Row.rep, Row.cat, Row.sub, Row.put, Row.len, Row.get, Row.size, Row.flat, bnds, own0, own1, labsL, labsR, SV.labs, argsOf, entFr, SO.ev, St.of, keepSt, getAll, lookN, hasN, SV.cells, SV.one, SV.res1, SV.res0, SV.resP, SV.ok1, SV.ok0, SV.okN, SV.solid, SV.solid1, SV.solid0, SV.flat0, SV.nm, SV.nm1, SV.nm0, SV.noPtr1, SV.noPtr0, Cel.isFresh, fillP, setAt, partV, eqCells, cellEq, gamY, listsOk, tupOf, takeOwn, SV.ret1, resAll, resL, resV, Nat.reduceEqDiff, ↓reduceIte, Nat.reduceAdd, Nat.reduceMul, Nat.reduceLeDiff, Nat.reduceLT, reduceCtorEq, labOk, Int.reduceBEq, Int.reduceBNe, Int.reduceToNat, Int.reduceLE, Int.reduceLT, Int.reduceEq, Nat.reduceDiv, Nat.reduceMod, Nat.reduceSub, Nat.reduceBEq, fitR, fitR1, fitR0, fitRL1, fitRL, wd, wN_hl, OkW_hl, eq_hl, eq_h0, wN_0, OkW_0, cmpN_le0, cmpN_gt0, cmpN_lt0, cmpN_ge0, Int.toNat_natCast, asB]
          · simp (config := { maxSteps := 9000000 }) only [↓vyD, vyU, binS, SV.go1, SV.go0, mkRow, intsOf, boolsOf, strsOf, chunks, Row.rep, Row.cat, Row.sub, Row.put, Row.len, Row.get, Row.size, Row.flat, bnds, own0, own1, labsL, labsR, SV.labs, argsOf, entFr, SO.ev, St.of, keepSt, getAll, lookN, hasN, SV.cells, SV.one, SV.res1, SV.res0, SV.resP, SV.ok1, SV.ok0, SV.okN, SV.solid, SV.solid1, SV.solid0, SV.flat0, SV.nm, SV.nm1, SV.nm0, SV.noPtr1, SV.noPtr0, Cel.isFresh, fillP, setAt, partV, eqCells, cellEq, gamY, listsOk, tupOf, takeOwn, SV.ret1, resAll, resL, resV, Nat.reduceEqDiff, ↓reduceIte, Nat.reduceAdd, Nat.reduceMul, Nat.reduceLeDiff, Nat.reduceLT, reduceCtorEq, labOk, Int.reduceBEq, Int.reduceBNe, Int.reduceToNat, Int.reduceLE, Int.reduceLT, Int.reduceEq, Nat.reduceDiv, Nat.reduceMod, Nat.reduceSub, Nat.reduceBEq, fitR, fitR1, fitR0, fitRL1, fitRL, wd, wN_hl, OkW_hl, eq_hl, eq_h0, wN_0, OkW_0, cmpN_le0, cmpN_gt0, cmpN_lt0, cmpN_ge0, Int.toNat_natCast, asB, parL_0, Int.natCast_zero, Int.ofNat_zero]
          · simp (config := { maxSteps := 9000000 }) only [↓vyD, vyU, binS, SV.go1, SV.go0, mkRow, intsOf, boolsOf, strsOf, chunks, Row.rep, Row.cat, Row.sub, Row.put, Row.len, Row.get, Row.size, Row.flat, bnds, own0, own1, labsL, labsR, SV.labs, argsOf, entFr, SO.ev, St.of, keepSt, getAll, lookN, hasN, SV.cells, SV.one, SV.res1, SV.res0, SV.resP, SV.ok1, SV.ok0, SV.okN, SV.solid, SV.solid1, SV.solid0, SV.flat0, SV.nm, SV.nm1, SV.nm0, SV.noPtr1, SV.noPtr0, Cel.isFresh, fillP, setAt, partV, eqCells, cellEq, gamY, listsOk, tupOf, takeOwn, SV.ret1, resAll, resL, resV, Nat.reduceEqDiff, ↓reduceIte, Nat.reduceAdd, Nat.reduceMul, Nat.reduceLeDiff, Nat.reduceLT, reduceCtorEq, labOk, Int.reduceBEq, Int.reduceBNe, Int.reduceToNat, Int.reduceLE, Int.reduceLT, Int.reduceEq, Nat.reduceDiv, Nat.reduceMod, Nat.reduceSub, Nat.reduceBEq, fitR, fitR1, fitR0, fitRL1, fitRL, wd, wN_hl, OkW_hl, eq_hl, eq_h0, wN_0, OkW_0, cmpN_le0, cmpN_gt0, cmpN_lt0, cmpN_ge0, Int.toNat_natCast, asB]
          have kl := parL_len ha hlen39 t ht2
          by_cases htl : (t : Int) < (s.length : Int)
          · have htl' : t < s.length := by omega
            have c0 : (0 : Int) ≤ (t : Int) := by omega
            have b1 := i64_wrap (show I64 ((t : Int) + 1) by unfold I64; omega)
            have hdi := gdig ((List.all_eq_true.1 ha) (s.getD t 0) (by rw [List.getD_eq_getElem?_getD, List.getElem?_eq_getElem htl']; exact List.getElem_mem htl'))
            have w8 : IntKind.u8.wrap (((s.getD t 0).toNat : Int) - 48) = ((s.getD t 0).toNat : Int) - 48 := by rw [IntKind.wrap_u8]; omega
            have w9 := i64_wrap (show I64 (((s.getD t 0).toNat : Int) - 48) by unfold I64; omega)
            have x0 : (0 : Int) ≤ ((s.getD t 0).toNat : Int) - 48 ∧ ((s.getD t 0).toNat : Int) - 48 ≤ 9223372036854775807 := by omega
            have nt : (((s.getD t 0).toNat : Int) - 48).toNat = (s.getD t 0).toNat - 48 := by omega
            have fD : Fits ((s.getD t 0).toNat - 48) := fits_lt.2 (by omega)
            have k1 : (parL s t).length ≤ 1048576 := by omega
            have k2 : (prodL (parL s t) ten4).length ≤ 4294967296 := by have := prod_len ha ht2 hlen39; omega
            have k3 : (bitsL ((s.getD t 0).toNat - 48)).length ≤ 4294967296 := by
              have := bits_le (n := (s.getD t 0).toNat - 48) (by omega)
              omega
            have hS := parL_s s t
            have dt : ([false, true, false, true] : List Bool) = ten4 := rfl
            have tl : ten4.length ≤ 1048576 := by decide
            simp (config := { maxSteps := 9000000 }) only [↓vyD, vyU, binS, SV.go1, SV.go0, mkRow, intsOf, boolsOf, strsOf, chunks, Row.rep, Row.cat, Row.sub, Row.put, Row.len, Row.get, Row.size, Row.flat, bnds, own0, own1, labsL, labsR, SV.labs, argsOf, entFr, SO.ev, St.of, keepSt, getAll, lookN, hasN, SV.cells, SV.one, SV.res1, SV.res0, SV.resP, SV.ok1, SV.ok0, SV.okN, SV.solid, SV.solid1, SV.solid0, SV.flat0, SV.nm, SV.nm1, SV.nm0, SV.noPtr1, SV.noPtr0, Cel.isFresh, fillP, setAt, partV, eqCells, cellEq, gamY, listsOk, tupOf, takeOwn, SV.ret1, resAll, resL, resV, Nat.reduceEqDiff, ↓reduceIte, Nat.reduceAdd, Nat.reduceMul, Nat.reduceLeDiff, Nat.reduceLT, reduceCtorEq, labOk, Int.reduceBEq, Int.reduceBNe, Int.reduceToNat, Int.reduceLE, Int.reduceLT, Int.reduceEq, Nat.reduceDiv, Nat.reduceMod, Nat.reduceSub, Nat.reduceBEq, fitR, fitR1, fitR0, fitRL1, fitRL, wd, wN_hl, OkW_hl, eq_hl, eq_h0, wN_0, OkW_0, cmpN_le0, cmpN_gt0, cmpN_lt0, cmpN_ge0, Int.toNat_natCast, gPs, trimS, bprodS, rwideS, bitsS, bplusS, num2S, asB, htl, htl', c0, b1, w8, w9, x0, nt, fD, k1, k2, k3, dt, tl, Int.toNat_natCast]
            exact ⟨t + 1, ⟨by omega, by omega⟩, hS.symm, by simp⟩
          · have htL : t = s.length := by omega
            subst htL
            have hvl := parL_val s s.length (Nat.le_refl _)
            rw [List.take_length] at hvl
            have hnum : numN (parL s s.length) = valD s := by unfold numN; rw [hvl, if_pos hv]
            have k4 : (parL s s.length).length ≤ 4294967296 := by omega
            simp (config := { maxSteps := 9000000 }) only [↓vyD, vyU, binS, SV.go1, SV.go0, mkRow, intsOf, boolsOf, strsOf, chunks, Row.rep, Row.cat, Row.sub, Row.put, Row.len, Row.get, Row.size, Row.flat, bnds, own0, own1, labsL, labsR, SV.labs, argsOf, entFr, SO.ev, St.of, keepSt, getAll, lookN, hasN, SV.cells, SV.one, SV.res1, SV.res0, SV.resP, SV.ok1, SV.ok0, SV.okN, SV.solid, SV.solid1, SV.solid0, SV.flat0, SV.nm, SV.nm1, SV.nm0, SV.noPtr1, SV.noPtr0, Cel.isFresh, fillP, setAt, partV, eqCells, cellEq, gamY, listsOk, tupOf, takeOwn, SV.ret1, resAll, resL, resV, Nat.reduceEqDiff, ↓reduceIte, Nat.reduceAdd, Nat.reduceMul, Nat.reduceLeDiff, Nat.reduceLT, reduceCtorEq, labOk, Int.reduceBEq, Int.reduceBNe, Int.reduceToNat, Int.reduceLE, Int.reduceLT, Int.reduceEq, Nat.reduceDiv, Nat.reduceMod, Nat.reduceSub, Nat.reduceBEq, fitR, fitR1, fitR0, fitRL1, fitRL, wd, wN_hl, OkW_hl, eq_hl, eq_h0, wN_0, OkW_0, cmpN_le0, cmpN_gt0, cmpN_lt0, cmpN_ge0, Int.toNat_natCast, gPs, trimS, bprodS, rwideS, bitsS, bplusS, num2S, asB, htl, Int.lt_irrefl, k4, hnum, pN, pE]
      · have e39 : s.length = 39 := Classical.byContradiction fun h => hv (hB2.2 fun hh => absurd hh h)
        have pN : parN s = 0 := if_neg (by omega)
        have pE : parE s = 2 := by unfold parE; rw [if_pos hd, if_neg hv]
        have hBt : B = true := by
          cases B with
          | true => rfl
          | false => exact absurd (hB2.2 fun _ => rfl) hv
        have u1 : ((s.length : Int) == 39) = true := beq_iff_eq.2 (by omega)
        have u2 := hB1' e39
        rw [hBt] at u2
        simp (config := { maxSteps := 9000000 }) only [↓vyD, vyU, binS, SV.go1, SV.go0, mkRow, intsOf, boolsOf, strsOf, chunks, Row.rep, Row.cat, Row.sub, Row.put, Row.len, Row.get, Row.size, Row.flat, bnds, own0, own1, labsL, labsR, SV.labs, argsOf, entFr, SO.ev, St.of, keepSt, getAll, lookN, hasN, SV.cells, SV.one, SV.res1, SV.res0, SV.resP, SV.ok1, SV.ok0, SV.okN, SV.solid, SV.solid1, SV.solid0, SV.flat0, SV.nm, SV.nm1, SV.nm0, SV.noPtr1, SV.noPtr0, Cel.isFresh, fillP, setAt, partV, eqCells, cellEq, gamY, listsOk, tupOf, takeOwn, SV.ret1, resAll, resL, resV, Nat.reduceEqDiff, ↓reduceIte, Nat.reduceAdd, Nat.reduceMul, Nat.reduceLeDiff, Nat.reduceLT, reduceCtorEq, labOk, Int.reduceBEq, Int.reduceBNe, Int.reduceToNat, Int.reduceLE, Int.reduceLT, Int.reduceEq, Nat.reduceDiv, Nat.reduceMod, Nat.reduceSub, Nat.reduceBEq, fitR, fitR1, fitR0, fitRL1, fitRL, wd, wN_hl, OkW_hl, eq_hl, eq_h0, wN_0, OkW_0, cmpN_le0, cmpN_gt0, cmpN_lt0, cmpN_ge0, Int.toNat_natCast, gPs, trimS, bprodS, rwideS, bitsS, bplusS, num2S, asB, hlt, Int.lt_irrefl, g39, gt_iff_lt, u1, u2, pN, pE, z0, not_false_eq_true, not_true_eq_false]
def rparS : Say
  | [.str s] => some (s.length ≤ 140737488355328, .tup [wd (parN s), .int .i64 (parE s)], none)
  | _ => none
theorem rpar_ok : FOk Tryd.prog 5 rparS := by
  intro xs p r own h hp
  unfold rparS at h
  split at h
  case h_2 => cases h
  rename_i s
  simp only [Option.some.injEq, Prod.mk.injEq] at h
  obtain ⟨rfl, rfl, rfl⟩ := h
  refine fun_ok gPs_ok lawy_mixed y5_eq none ?_ (Nat.le_of_ble_eq_true rfl)
  exact rpar_in s hp
end Go.Proofs.YtidafhjdpklgbaaDoor
