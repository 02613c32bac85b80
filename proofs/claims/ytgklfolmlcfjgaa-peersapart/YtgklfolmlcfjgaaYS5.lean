/- What stat.Add and stat.Less do; what slices.Clone, Min, Max, Equal do. -/
import Derived.Test.YtgklfolmlcfjgaaYS3
import Derived.Test.YtgklfolmlcfjgaaYM3
import Derived.Test.YtgklfolmlcfjgaaYG
namespace Go.Proofs.Ytgklfolmlcfjgaa
open Go.ChangeShapes Go.WideShapes Go.ChangeAt Go.RowKit Go.Joins Y
set_option linter.unusedSimpArgs false
set_option linter.unusedVariables false
set_option maxRecDepth 100000
set_option maxHeartbeats 40000000
theorem listE_1 (n : Int) : listE [n] = if 0 ≤ n ∧ n ≤ 16777216 then 0 else 1 := by
  simp only [listE, List.length_cons, List.length_nil, List.all_cons, List.all_nil, Bool.and_true, valB, decide_eq_true_eq]
  simp
def bothE (a b c n : Int) : Int := if checkE a b c = 0 then listE [n] else checkE a b c
theorem bothE_0 {a b c n : Int} : bothE a b c n = 0 ↔ checkE a b c = 0 ∧ 0 ≤ n ∧ n ≤ 16777216 := by
  unfold bothE
  by_cases h : checkE a b c = 0
  · simp only [h, if_true, listE_1, true_and]; split <;> simp_all
  · simp [h]
def gB : List (Nat × Say) := [(111, checkS), (63, listS)]
theorem gB_ok : GamOk Try.prog (gamY gB) := gam_ok (gam_cons check_ok (gam_cons list_ok gam_nil))
def addE (a b c n : Int) : Int := if bothE a b c n = 0 then (if a = 64 then 2 else 0) else bothE a b c n
def addV (a b c n : Int) : SV := if addE a b c n = 0 then sv3 (a + 1) (b + n) (c + n * n) else sv3 0 0 0
theorem add_bd {a b c n : Int} (h : bothE a b c n = 0) : I64 (n * n) ∧ I64 (a + 1) ∧ I64 (b + n) ∧ I64 (c + n * n) ∧ I64 (a - 1) ∧ I64 (b - n) ∧ I64 (c - n * n) ∧ 0 ≤ n * n := by
  obtain ⟨h1, h2, h3⟩ := bothE_0.1 h
  obtain ⟨⟨h1, h2'⟩, ⟨h3', h4⟩, ⟨h5, h6⟩, h7⟩ := checkE_0.1 h1
  have := mul_bd h2 h3 h2 h3
  unfold I64
  omega
def lessE (a b c n : Int) : Int := if bothE a b c n = 0 then (if checkE (a - 1) (b - n) (c - n * n) = 0 then 0 else 4) else bothE a b c n
def lessV (a b c n : Int) : SV := if lessE a b c n = 0 then sv3 (a - 1) (b - n) (c - n * n) else sv3 0 0 0
/-! slices -/
/-- A list that may be empty: it may be nil, or not. -/
theorem fun_nil1 {P : Program} {f : Nat} {r0 : Row SV} {r : SV} {own : Option (Nat × Row SV)} (h0 : r0.len = 0 → FunOk P f [.nil] r own) (h1 : FunOk P f [.nn r0] r own) (hlt : f < 1000000 := by decide) : FunOk P f [.rw r0] r own := by
  refine .of hlt ⟨(h1.1 hlt).1, fun A w vs hlow hvs => ?_⟩
  obtain ⟨v, us, rfl, hv, hn⟩ := hvs.cons_inv
  obtain rfl := hn.nil_inv
  have hv' := hv
  cases hv with
  | rw0 _ ad c e1 e2 =>
    cases ad with
    | none =>
      obtain rfl := e2 rfl
      exact ((h0 e1).1 hlt).2 A w [_] hlow (All.cons .nil All.nil)
    | some ad => exact (h1.1 hlt).2 A w [_] hlow (All.cons (.nn _ _ _ _ hv') All.nil)
  | rw _ b o c vs e1 e2 e3 e4 e5 e6 e7 => exact (h1.1 hlt).2 A w [_] hlow (All.cons (.nn _ _ _ _ hv') All.nil)
theorem a_slnn (Γ : Gam) (lab e sz bytes : Nat) (x y : SO) (d g : Nat) (r' : Row SV) (m : Nat → Cel) : effM Γ lab (.app e sz bytes x y) [.sl d g, .nn r'] m = effM Γ lab (.app e sz bytes x y) [.sl d g, .rw r'] m := by
  simp only [effM]; rfl
def cloneS : Say
  | [x] => (asI x).map fun l => (l.length ≤ 17592186044416, .sl 0 0, some (3, .ints .i64 l))
  | _ => none
theorem clone_ok : FOk Try.prog 36 cloneS := by
  intro xs p r own h hp
  unfold cloneS at h
  split at h
  · rename_i x
    obtain ⟨l, hx, h⟩ := Option.map_eq_some_iff.1 h
    simp only [Prod.mk.injEq] at h
    obtain ⟨rfl, rfl, rfl⟩ := h
    refine fun_fit (ys := [.rw (.ints .i64 l)]) ?_ ⟨asI_fit hx, trivial⟩
    refine fun_nil1 (fun hl => ?_) ?_
    · obtain rfl : l = [] := List.eq_nil_of_length_eq_zero hl
      refine fun_ok (gam_ok gam_nil) lawy_mixed y36_eq (some 0) ?_ (Nat.le_of_ble_eq_true rfl)
      simp (config := { maxSteps := 9000000 }) only [↓vyD, vyU, binS, SV.go1, SV.go0, mkRow, intsOf, boolsOf, strsOf, chunks, Row.rep, Row.cat, Row.sub, Row.put, Row.len, Row.get, Row.size, Row.flat, bnds, own0, own1, labsL, labsR, SV.labs, argsOf, entFr, SO.ev, St.of, keepSt, getAll, lookN, hasN, SV.cells, SV.one, SV.res1, SV.res0, SV.resP, SV.ok1, SV.ok0, SV.okN, SV.solid, SV.solid1, SV.solid0, SV.flat0, SV.nm, SV.nm1, SV.nm0, SV.noPtr1, SV.noPtr0, Cel.isFresh, fillP, setAt, partV, eqCells, cellEq, gamY, listsOk, tupOf, takeOwn, SV.ret1, resAll, resL, resV, Nat.reduceEqDiff, ↓reduceIte, Nat.reduceAdd, Nat.reduceMul, Nat.reduceLeDiff, Nat.reduceLT, reduceCtorEq, labOk, Int.reduceBEq, Int.reduceBNe, Int.reduceToNat, Int.reduceLE, Int.reduceLT, Int.reduceEq, Nat.reduceDiv, Nat.reduceMod, Nat.reduceSub, Nat.reduceBEq, fitR, fitR1, fitR0, fitRL1, fitRL, y36, List.contains_nil]
    · refine fun_ok (gam_ok gam_nil) lawy_mixed y36_eq (some 0) ?_ (Nat.le_of_ble_eq_true rfl)
      simp (config := { maxSteps := 9000000 }) only [↓vyD, vyU, binS, SV.go1, SV.go0, mkRow, intsOf, boolsOf, strsOf, chunks, Row.rep, Row.cat, Row.sub, Row.put, Row.len, Row.get, Row.size, Row.flat, bnds, own0, own1, labsL, labsR, SV.labs, argsOf, entFr, SO.ev, St.of, keepSt, getAll, lookN, hasN, SV.cells, SV.one, SV.res1, SV.res0, SV.resP, SV.ok1, SV.ok0, SV.okN, SV.solid, SV.solid1, SV.solid0, SV.flat0, SV.nm, SV.nm1, SV.nm0, SV.noPtr1, SV.noPtr0, Cel.isFresh, fillP, setAt, partV, eqCells, cellEq, gamY, listsOk, tupOf, takeOwn, SV.ret1, resAll, resL, resV, Nat.reduceEqDiff, ↓reduceIte, Nat.reduceAdd, Nat.reduceMul, Nat.reduceLeDiff, Nat.reduceLT, reduceCtorEq, labOk, Int.reduceBEq, Int.reduceBNe, Int.reduceToNat, Int.reduceLE, Int.reduceLT, Int.reduceEq, Nat.reduceDiv, Nat.reduceMod, Nat.reduceSub, Nat.reduceBEq, fitR, fitR1, fitR0, fitRL1, fitRL, y36, List.contains_nil, ↓a_slnn]
      omega
  · cases h
def minL : List Int → Int
  | [] => 0
  | x :: l => l.foldl (fun a b => if b < a then b else a) x
def maxL : List Int → Int
  | [] => 0
  | x :: l => l.foldl (fun a b => if b > a then b else a) x
theorem minL_snoc {l : List Int} (h : l ≠ []) (x : Int) : minL (l ++ [x]) = if x < minL l then x else minL l := by
  cases l with
  | nil => exact absurd rfl h
  | cons y l => simp only [minL, List.cons_append, List.foldl_append, List.foldl_cons, List.foldl_nil]; split <;> rename_i hh <;> simp only [hh, if_true, if_false]
theorem maxL_snoc {l : List Int} (h : l ≠ []) (x : Int) : maxL (l ++ [x]) = if x > maxL l then x else maxL l := by
  cases l with
  | nil => exact absurd rfl h
  | cons y l => simp only [maxL, List.cons_append, List.foldl_append, List.foldl_cons, List.foldl_nil]; split <;> rename_i hh <;> simp only [hh, if_true, if_false]
theorem take_ne {l : List Int} {i : Nat} (h1 : 1 ≤ i) (h : i < l.length) : l.take i ≠ [] := fun h0 => by
  have := congrArg List.length h0
  rw [List.length_take, List.length_nil] at this
  omega
theorem min_loop {l : List Int} {i : Nat} (h1 : 1 ≤ i) (h : i < l.length) : minL (l.take (i + 1)) = if l.getD i 0 < minL (l.take i) then l.getD i 0 else minL (l.take i) := by
  rw [take_snoc h, minL_snoc (take_ne h1 h)]
theorem max_loop {l : List Int} {i : Nat} (h1 : 1 ≤ i) (h : i < l.length) : maxL (l.take (i + 1)) = if l.getD i 0 > maxL (l.take i) then l.getD i 0 else maxL (l.take i) := by
  rw [take_snoc h, maxL_snoc (take_ne h1 h)]
end Go.Proofs.Ytgklfolmlcfjgaa
