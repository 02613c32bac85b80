/- What slices.Sort does to a slice of our own; what rank's functions do. -/
import Derived.Sort.OwnSortedInts
import Derived.Test.YtlfhcjohkpdkoaaYT5
import Derived.Test.YtlfhcjohkpdkoaaYR5
import Derived.Test.YtlfhcjohkpdkoaaYShelf
namespace Go.Proofs.Ytlfhcjohkpdkoaa
open Go.ChangeShapes Go.WideShapes Go.ChangeAt Go.RowKit Go.Joins Y
set_option linter.unusedSimpArgs false
set_option linter.unusedVariables false
set_option maxRecDepth 100000
set_option maxHeartbeats 40000000
open Go.Sort
def sortL (l : List Int) : List Int := l.mergeSort fun x y => decide (x ≤ y)
theorem sortL_len (l : List Int) : (sortL l).length = l.length := List.length_mergeSort l
theorem sortL_perm (l : List Int) : (sortL l).Perm l := List.mergeSort_perm l _
theorem sortL_mem {l : List Int} {x : Int} : x ∈ sortL l ↔ x ∈ l := (sortL_perm l).mem_iff
theorem sortL_sorted (l : List Int) : (sortL l).Pairwise (· ≤ ·) := by
  have h := List.pairwise_mergeSort (le := fun x y : Int => decide (x ≤ y)) (fun a b c h1 h2 => by simp at h1 h2 ⊢; omega) (fun a b => by simp; omega) l
  exact h.imp fun h => by simpa using h
def sortS : Say
  | [.rw (.ints .i64 l)] => some (l.length < 4611686018427387904, .rw (.ints .i64 (sortL l)), none)
  | _ => none
theorem sort_ok : FOk Try.prog 1000097 sortS := by
  intro xs p r own h hp
  unfold sortS at h
  split at h
  case h_2 => cases h
  rename_i l
  simp only [Option.some.injEq, Prod.mk.injEq] at h
  obtain ⟨rfl, rfl, rfl⟩ := h
  refine ⟨fun h => absurd h (by decide), (fun _ _ => ⟨_, _, rfl, rfl, ?_⟩), (fun _ e r1 he => by cases he)⟩
  show WrOk Try.prog 97 _ _
  refine ⟨⟨_, Try.func97, of_decide_eq_true (by kernel_rfl), by kernel_rfl⟩, trivial, fun base e w v us _ _ _ hown hall => ?_⟩
  have hus : us = l.map (Value.int .i64) := by
    apply List.ext_getElem?
    intro j
    have h1 := hall.1
    simp only [Row.cells, List.length_map] at h1
    by_cases hj : j < l.length
    · have hj' : j < us.length := by omega
      have := hall.2 j (.int .i64 l[j]) us[j] (by simp [Row.cells, hj]) (List.getElem?_eq_getElem hj')
      rw [List.getElem?_eq_getElem hj', this.int_inv]
      simp [hj]
    · rw [List.getElem?_eq_none (by omega), List.getElem?_eq_none (by simp; omega)]
  have hcells : ∀ w' : World, All (E0 w' fun _ => False) (Row.ints .i64 (sortL l)).cells ((sortL l).map (Value.int .i64)) := fun w' => ⟨by simp [Row.cells], fun j x u hx hu => by
    simp only [Row.cells, List.getElem?_map] at hx hu
    cases hr : (sortL l)[j]? with
    | none => simp [hr] at hx
    | some i =>
      simp [hr] at hx hu
      subst hx hu
      exact .int _ _⟩
  have hown' : w.ownsRow base e 1 v l.length us := hown
  rcases hown'.2 with ⟨h0, h1⟩ | ⟨g, cap, cur, rfl, hbase, hb, hn, hcap, hsz, ht⟩
  · obtain rfl : l = [] := List.eq_nil_of_length_eq_zero (by simpa using h1)
    subst h0
    refine (Try.slices_Sort_int_none none 0 w).mono fun ex w' ⟨he, hw⟩ => ?_
    subst he hw
    have e0 : sortL [] = [] := by simp [sortL]
    rw [e0]
    exact ⟨rfl, ⟨rfl, rfl, rfl, Nat.le_refl _, fun _ _ _ => rfl⟩, us, hown, hall⟩
  · have ht' : cur.toList.take l.length = l.map (Value.int .i64) := by rw [Nat.mul_one] at ht; rw [ht, hus]
    have hblk : g < w.heap.size := (Array.getElem?_eq_some_iff.1 hb).1
    refine (Try.slices_Sort_int g 0 cap l w (holds_of_blockI hb ht') hblk hp).mono fun ex w' ⟨he, n, os, hw⟩ => ?_
    subst he hw
    have hg := grownBy_sortedI (w := w) (g := g) (n := n) (os := os) (sortL l).toArray
    refine ⟨rfl, ⟨hg.1, hg.2, hg.3, hg.4, fun k hk hne => hg.5 k hk (fun hh => hne (by rw [hh]; rfl))⟩, (sortL l).map (Value.int .i64), ?_, hcells _⟩
    have := ownsRow_sortedI (w := w) (base := base) (g := g) (cap := cap) (n := n) (e := e) (os := os) (cur := cur) (ss := l) (ts := sortL l) (sortL_len l) hbase hb hn hcap hsz
    have e1 : (Row.ints .i64 (sortL l) : Row SV).len = l.length := sortL_len l
    rw [e1]
    exact this
/-- Lists in a row. -/
def rowsV (ls : List (List Int)) : SV := .rw (.recs 1 (ls.map fun l => [.rw (.ints .i64 l)]))
theorem rows_get {ls : List (List Int)} {i : Nat} (h : i < ls.length) : (ls.map fun l => [SV.rw (.ints .i64 l)]).getD i [] = [.rw (.ints .i64 (ls.getD i []))] := by
  simp [List.getD_eq_getElem?_getD, h]
theorem flat_take {ls : List (List Int)} {i : Nat} (h : i < ls.length) : (ls.take (i + 1)).flatten = (ls.take i).flatten ++ ls.getD i [] := by
  rw [List.take_add_one, List.getElem?_eq_getElem h, List.flatten_append, List.getD_eq_getElem?_getD, List.getElem?_eq_getElem h]
  simp
theorem rows_labs : ∀ ls : List (List Int), labsLL (ls.map fun l => [SV.rw (.ints .i64 l)]) = []
  | [] => rfl
  | l :: ls => by simp [labsLL, labsL, SV.labs, labsR, rows_labs ls]
def asLL : SV → Option (List (List Int))
  | .rw (.recs 1 ls) => ls.mapM fun cs => match cs with | [c] => asI c | _ => none
  | _ => none
theorem concat_core (ls : List (List Int)) (hp : ls.length ≤ 4294967296) (hq : ls.flatten.length ≤ 4294967296) : FunOk Try.prog 80 [rowsV ls] (.sl 0 0) (some (3, .ints .i64 ls.flatten)) := by
  refine fun_ok (gam_ok gam_nil) lawy_mixed y80_eq (some 0) ?_ (Nat.le_of_ble_eq_true rfl)
  unfold rowsV
  generalize hr : (ls.map fun l => [SV.rw (.ints .i64 l)]) = rr
  have hrl : rr.length = ls.length := by rw [← hr]; simp
  simp (config := { maxSteps := 9000000 }) only [↓vyD, vyU, binS, SV.go1, SV.go0, mkRow, intsOf, boolsOf, strsOf, chunks, Row.rep, Row.cat, Row.sub, Row.put, Row.len, Row.get, Row.size, Row.flat, bnds, own0, own1, labsL, labsR, SV.labs, argsOf, entFr, SO.ev, St.of, keepSt, getAll, lookN, hasN, SV.cells, SV.one, SV.res1, SV.res0, SV.resP, SV.ok1, SV.ok0, SV.okN, SV.solid, SV.solid1, SV.solid0, SV.flat0, SV.nm, SV.nm1, SV.nm0, SV.noPtr1, SV.noPtr0, Cel.isFresh, fillP, setAt, partV, eqCells, cellEq, gamY, listsOk, tupOf, takeOwn, SV.ret1, resAll, resL, resV, Nat.reduceEqDiff, ↓reduceIte, Nat.reduceAdd, Nat.reduceMul, Nat.reduceLeDiff, Nat.reduceLT, reduceCtorEq, labOk, Int.reduceBEq, Int.reduceBNe, Int.reduceToNat, Int.reduceLE, Int.reduceLT, Int.reduceEq, Nat.reduceDiv, Nat.reduceMod, Nat.reduceSub, Nat.reduceBEq, fitR, fitR1, fitR0, fitRL1, fitRL, y80, hrl]
  refine loopG_intro (ι := Nat) (fun i => [(2, .sl 0 0), (3, .sl 1000 i), (7, .rw (.recs 1 rr)), (8, .int .i64 ls.length), (9, .int .i64 i)]) (fun i => [(0, .row 0 3 (.ints .i64 [])), (1000, .row i 3 (.ints .i64 (ls.take i).flatten))]) (fun i => i ≤ ls.length) (fun i => ls.length - i) ⟨0, by omega, ?_, ?_, ?_⟩ fun i hi => ?_
  · rw [← hr]
    simp (config := { maxSteps := 9000000 }) only [↓vyD, vyU, binS, SV.go1, SV.go0, mkRow, intsOf, boolsOf, strsOf, chunks, Row.rep, Row.cat, Row.sub, Row.put, Row.len, Row.get, Row.size, Row.flat, bnds, own0, own1, labsL, labsR, SV.labs, argsOf, entFr, SO.ev, St.of, keepSt, getAll, lookN, hasN, SV.cells, SV.one, SV.res1, SV.res0, SV.resP, SV.ok1, SV.ok0, SV.okN, SV.solid, SV.solid1, SV.solid0, SV.flat0, SV.nm, SV.nm1, SV.nm0, SV.noPtr1, SV.noPtr0, Cel.isFresh, fillP, setAt, partV, eqCells, cellEq, gamY, listsOk, tupOf, takeOwn, SV.ret1, resAll, resL, resV, Nat.reduceEqDiff, ↓reduceIte, Nat.reduceAdd, Nat.reduceMul, Nat.reduceLeDiff, Nat.reduceLT, reduceCtorEq, labOk, Int.reduceBEq, Int.reduceBNe, Int.reduceToNat, Int.reduceLE, Int.reduceLT, Int.reduceEq, Nat.reduceDiv, Nat.reduceMod, Nat.reduceSub, Nat.reduceBEq, fitR, fitR1, fitR0, fitRL1, fitRL, hrl]
    simp [labsR, rows_labs]
  · simp (config := { maxSteps := 9000000 }) only [↓vyD, vyU, binS, SV.go1, SV.go0, mkRow, intsOf, boolsOf, strsOf, chunks, Row.rep, Row.cat, Row.sub, Row.put, Row.len, Row.get, Row.size, Row.flat, bnds, own0, own1, labsL, labsR, SV.labs, argsOf, entFr, SO.ev, St.of, keepSt, getAll, lookN, hasN, SV.cells, SV.one, SV.res1, SV.res0, SV.resP, SV.ok1, SV.ok0, SV.okN, SV.solid, SV.solid1, SV.solid0, SV.flat0, SV.nm, SV.nm1, SV.nm0, SV.noPtr1, SV.noPtr0, Cel.isFresh, fillP, setAt, partV, eqCells, cellEq, gamY, listsOk, tupOf, takeOwn, SV.ret1, resAll, resL, resV, Nat.reduceEqDiff, ↓reduceIte, Nat.reduceAdd, Nat.reduceMul, Nat.reduceLeDiff, Nat.reduceLT, reduceCtorEq, labOk, Int.reduceBEq, Int.reduceBNe, Int.reduceToNat, Int.reduceLE, Int.reduceLT, Int.reduceEq, Nat.reduceDiv, Nat.reduceMod, Nat.reduceSub, Nat.reduceBEq, fitR, fitR1, fitR0, fitRL1, fitRL, hrl]
  · simp (config := { maxSteps := 9000000 }) only [↓vyD, vyU, binS, SV.go1, SV.go0, mkRow, intsOf, boolsOf, strsOf, chunks, Row.rep, Row.cat, Row.sub, Row.put, Row.len, Row.get, Row.size, Row.flat, bnds, own0, own1, labsL, labsR, SV.labs, argsOf, entFr, SO.ev, St.of, keepSt, getAll, lookN, hasN, SV.cells, SV.one, SV.res1, SV.res0, SV.resP, SV.ok1, SV.ok0, SV.okN, SV.solid, SV.solid1, SV.solid0, SV.flat0, SV.nm, SV.nm1, SV.nm0, SV.noPtr1, SV.noPtr0, Cel.isFresh, fillP, setAt, partV, eqCells, cellEq, gamY, listsOk, tupOf, takeOwn, SV.ret1, resAll, resL, resV, Nat.reduceEqDiff, ↓reduceIte, Nat.reduceAdd, Nat.reduceMul, Nat.reduceLeDiff, Nat.reduceLT, reduceCtorEq, labOk, Int.reduceBEq, Int.reduceBNe, Int.reduceToNat, Int.reduceLE, Int.reduceLT, Int.reduceEq, Nat.reduceDiv, Nat.reduceMod, Nat.reduceSub, Nat.reduceBEq, fitR, fitR1, fitR0, fitRL1, fitRL, hrl]
  · by_cases hlt : (i : Int) < (ls.length : Int)
    · have hlt' : i < ls.length := by omega
      have hg : rr.getD i [] = [.rw (.ints .i64 (ls.getD i []))] := by rw [← hr]; exact rows_get hlt'
      have b1 := i64_wrap (show I64 ((i : Int) + 1) by unfold I64; omega)
      have e1 := flat_take hlt'
      have e2 : ((ls.take i).flatten.length + (ls.getD i []).length) * 8 ≤ 140737488355328 := by
        have h1 := congrArg List.length (congrArg List.flatten (List.take_append_drop (i + 1) ls))
        rw [List.flatten_append, List.length_append, e1, List.length_append] at h1
        omega
      simp (config := { maxSteps := 9000000 }) only [↓vyD, vyU, binS, SV.go1, SV.go0, mkRow, intsOf, boolsOf, strsOf, chunks, Row.rep, Row.cat, Row.sub, Row.put, Row.len, Row.get, Row.size, Row.flat, bnds, own0, own1, labsL, labsR, SV.labs, argsOf, entFr, SO.ev, St.of, keepSt, getAll, lookN, hasN, SV.cells, SV.one, SV.res1, SV.res0, SV.resP, SV.ok1, SV.ok0, SV.okN, SV.solid, SV.solid1, SV.solid0, SV.flat0, SV.nm, SV.nm1, SV.nm0, SV.noPtr1, SV.noPtr0, Cel.isFresh, fillP, setAt, partV, eqCells, cellEq, gamY, listsOk, tupOf, takeOwn, SV.ret1, resAll, resL, resV, Nat.reduceEqDiff, ↓reduceIte, Nat.reduceAdd, Nat.reduceMul, Nat.reduceLeDiff, Nat.reduceLT, reduceCtorEq, labOk, Int.reduceBEq, Int.reduceBNe, Int.reduceToNat, Int.reduceLE, Int.reduceLT, Int.reduceEq, Nat.reduceDiv, Nat.reduceMod, Nat.reduceSub, Nat.reduceBEq, fitR, fitR1, fitR0, fitRL1, fitRL, hlt, hrl, hg, Int.toNat_natCast, b1, e2]
      refine ⟨by omega, i + 1, ⟨by omega, by omega⟩, ?_⟩
      rw [← hr]
      simp [labsR, rows_labs, e1]
    · have : i = ls.length := by omega
      subst this
      simp (config := { maxSteps := 9000000 }) only [↓vyD, vyU, binS, SV.go1, SV.go0, mkRow, intsOf, boolsOf, strsOf, chunks, Row.rep, Row.cat, Row.sub, Row.put, Row.len, Row.get, Row.size, Row.flat, bnds, own0, own1, labsL, labsR, SV.labs, argsOf, entFr, SO.ev, St.of, keepSt, getAll, lookN, hasN, SV.cells, SV.one, SV.res1, SV.res0, SV.resP, SV.ok1, SV.ok0, SV.okN, SV.solid, SV.solid1, SV.solid0, SV.flat0, SV.nm, SV.nm1, SV.nm0, SV.noPtr1, SV.noPtr0, Cel.isFresh, fillP, setAt, partV, eqCells, cellEq, gamY, listsOk, tupOf, takeOwn, SV.ret1, resAll, resL, resV, Nat.reduceEqDiff, ↓reduceIte, Nat.reduceAdd, Nat.reduceMul, Nat.reduceLeDiff, Nat.reduceLT, reduceCtorEq, labOk, Int.reduceBEq, Int.reduceBNe, Int.reduceToNat, Int.reduceLE, Int.reduceLT, Int.reduceEq, Nat.reduceDiv, Nat.reduceMod, Nat.reduceSub, Nat.reduceBEq, fitR, fitR1, fitR0, fitRL1, fitRL, hlt, List.take_length, List.contains_nil]
theorem rows_len : ∀ ms : List (List Int), ((.recs 1 (ms.map fun l => [SV.rw (.ints .i64 l)])) : Row SV).cells.length = ms.length
  | [] => rfl
  | m :: ms => by
    have := rows_len ms
    simp only [Row.cells, List.map_cons, List.flatten_cons, List.length_append, List.length_cons, List.length_nil] at this ⊢
    omega
/-- Other words for lists in a row. -/
theorem rows_fit {E : Env} {ls : List (List SV)} {ms : List (List Int)} {v : Value} (h : ls.mapM (fun cs => match cs with | [c] => asI c | _ => none) = some ms) (hi : Is E (.rw (.recs 1 ls)) v) : Is E (rowsV ms) v := by
  have key : ∀ {ls : List (List SV)} {ms : List (List Int)}, ls.mapM (fun cs => match cs with | [c] => asI c | _ => none) = some ms → ls.length = ms.length ∧ ∀ (j : Nat) x y, ls.flatten[j]? = some x → (ms.map fun l => [SV.rw (.ints .i64 l)]).flatten[j]? = some y → fitR0 x y := by
    intro ls
    induction ls with
    | nil => intro ms h; simp at h; subst h; simp
    | cons cs ls ih =>
      intro ms h
      simp only [List.mapM_cons, Option.bind_eq_bind, Option.pure_def] at h
      obtain ⟨l, hl, h⟩ := Option.bind_eq_some_iff.1 h
      obtain ⟨ms', hm, h⟩ := Option.bind_eq_some_iff.1 h
      simp only [Option.some.injEq] at h
      subst h
      split at hl
      · rename_i c
        obtain ⟨h1, h2⟩ := ih hm
        refine ⟨by simp [h1], fun j x y hx hy => ?_⟩
        cases j with
        | zero => simp at hx hy; subst hx hy; exact asI_fit0 hl
        | succ j => exact h2 j x y (by simpa using hx) (by simpa using hy)
      · cases hl
  obtain ⟨hl, hf⟩ := key h
  have hcl : ((.recs 1 (ms.map fun l => [SV.rw (.ints .i64 l)])) : Row SV).cells.length = ms.length := rows_len ms
  have e : ((.recs 1 ls) : Row SV).len = ((.recs 1 (ms.map fun l => [SV.rw (.ints .i64 l)])) : Row SV).len := by simp [Row.len, hl]
  cases hi with
  | rw0 _ ad c e1 e2 => exact .rw0 _ ad c (by rw [← e]; exact e1) e2
  | rw _ b o c vs e1 e2 e3 e4 e5 e6 e7 =>
    have hlen : vs.length = ls.length := by
      rw [e5]
      have hw : ∀ c ∈ ls, c.length = 1 := fun c hc => (e1 c hc).1
      simp only [Row.cells]
      clear e7 e6 e5 e4 e3 e2 e1 hcl e hf h hl
      induction ls with
      | nil => rfl
      | cons a ls ih => rw [List.flatten_cons, List.length_append, hw a (List.mem_cons_self ..), ih fun c hc => hw c (List.mem_cons_of_mem _ hc), List.length_cons]; omega
    rw [e]
    refine .rw _ b o c vs (fun c hc => ?_) (by rw [← e]; exact e2) e3 e4 (by rw [hcl, hlen, hl]) e6 fun j x u hx hu => ?_
    · obtain ⟨l, _, rfl⟩ := List.mem_map.1 hc
      simp [SV.one]
    · have hj : j < ((.recs 1 ls) : Row SV).cells.length := by rw [← e5]; exact (List.getElem?_eq_some_iff.1 hu).1
      exact fitR0_is (e7 j _ u (List.getElem?_eq_getElem hj) hu) (hf j _ x (List.getElem?_eq_getElem hj) hx)
def concatS : Say
  | [x] => (asLL x).map fun ls => (ls.length ≤ 4294967296 ∧ ls.flatten.length ≤ 4294967296, .sl 0 0, some (3, .ints .i64 ls.flatten))
  | _ => none
theorem concat_ok : FOk Try.prog 80 concatS := by
  intro xs p r own h hp
  unfold concatS at h
  split at h
  case h_2 => cases h
  rename_i x
  obtain ⟨ls, hx, h⟩ := Option.map_eq_some_iff.1 h
  simp only [Prod.mk.injEq] at h
  obtain ⟨rfl, rfl, rfl⟩ := h
  unfold asLL at hx
  split at hx
  · rename_i rs
    refine fun_args (concat_core ls hp.1 hp.2) fun w A vs hvs => ?_
    obtain ⟨v, us, rfl, hv, hn⟩ := hvs.cons_inv
    obtain rfl := hn.nil_inv
    exact All.cons (rows_fit hx hv) All.nil
  · cases hx
def gSo : List (Nat × Say) := [(80, concatS), (1000097, sortS)]
theorem gSo_ok : GamOk Try.prog (gamY gSo) := gam_ok (gam_cons concat_ok (gam_cons sort_ok gam_nil))
def sortedS : Say
  | [x_l] => (match asI x_l with | some l => some (l.length ≤ 4294967296, .sl 0 0, some (3, .ints .i64 (sortL l))) | _ => none)
  | _ => none
theorem sorted_ok : FOk Try.prog 76 sortedS := by
  intro xs p r own h hp
  unfold sortedS at h
  split at h
  case h_2 => cases h
  rename_i x_l
  split at h
  case h_2 => cases h
  rename_i l h_l
  simp only [Option.some.injEq, Prod.mk.injEq] at h
  obtain ⟨rfl, rfl, rfl⟩ := h
  refine fun_fit (ys := [.rw (.ints .i64 l)]) ?_ ⟨asI_fit h_l, trivial⟩
  clear h_l
  refine fun_ok gSo_ok lawy_mixed y76_eq (some 0) ?_ (Nat.le_of_ble_eq_true rfl)
  have h1 : l.length < 4611686018427387904 := by omega
  have h2 : (sortL l).length = l.length := sortL_len l
  simp (config := { maxSteps := 9000000 }) only [↓vyD, vyU, binS, SV.go1, SV.go0, mkRow, intsOf, boolsOf, strsOf, chunks, Row.rep, Row.cat, Row.sub, Row.put, Row.len, Row.get, Row.size, Row.flat, bnds, own0, own1, labsL, labsR, SV.labs, argsOf, entFr, SO.ev, St.of, keepSt, getAll, lookN, hasN, SV.cells, SV.one, SV.res1, SV.res0, SV.resP, SV.ok1, SV.ok0, SV.okN, SV.solid, SV.solid1, SV.solid0, SV.flat0, SV.nm, SV.nm1, SV.nm0, SV.noPtr1, SV.noPtr0, Cel.isFresh, fillP, setAt, partV, eqCells, cellEq, gamY, listsOk, tupOf, takeOwn, SV.ret1, resAll, resL, resV, Nat.reduceEqDiff, ↓reduceIte, Nat.reduceAdd, Nat.reduceMul, Nat.reduceLeDiff, Nat.reduceLT, reduceCtorEq, labOk, Int.reduceBEq, Int.reduceBNe, Int.reduceToNat, Int.reduceLE, Int.reduceLT, Int.reduceEq, Nat.reduceDiv, Nat.reduceMod, Nat.reduceSub, Nat.reduceBEq, fitR, fitR1, fitR0, fitRL1, fitRL, y76, gSo, concatS, sortS, asLL, asI, hp, h1, h2, List.mapM_cons, List.mapM_nil, Option.bind_eq_bind, Option.bind_some, Option.pure_def, List.flatten_cons, List.flatten_nil, List.append_nil, labsLL, List.contains_nil]
def gRS : List (Nat × Say) := [(65, listS), (76, sortedS)]
theorem gRS_ok : GamOk Try.prog (gamY gRS) := gam_ok (gam_cons list_ok (gam_cons sorted_ok gam_nil))
def rsortS : Say
  | [x_l] => (match asI x_l with | some l => some (True, .tup [.rw (.ints .i64 (if listE l = 0 then sortL l else [])), .int .i64 (listE l)], none) | _ => none)
  | _ => none
theorem rsort_ok : FOk Try.prog 44 rsortS := by
  intro xs p r own h hp
  unfold rsortS at h
  split at h
  case h_2 => cases h
  rename_i x_l
  split at h
  case h_2 => cases h
  rename_i l h_l
  simp only [Option.some.injEq, Prod.mk.injEq] at h
  obtain ⟨rfl, rfl, rfl⟩ := h
  refine fun_fit (ys := [.rw (.ints .i64 l)]) ?_ ⟨asI_fit h_l, trivial⟩
  clear h_l
  refine fun_ok gRS_ok lawy_mixed y44_eq none ?_ (Nat.le_of_ble_eq_true rfl)
  by_cases he : listE l = 0
  · obtain ⟨h64, hv⟩ := listE_0.1 he
    have h1 : l.length ≤ 4294967296 := by omega
    simp only [he, if_true]
    simp (config := { maxSteps := 9000000 }) only [↓vyD, vyU, binS, SV.go1, SV.go0, mkRow, intsOf, boolsOf, strsOf, chunks, Row.rep, Row.cat, Row.sub, Row.put, Row.len, Row.get, Row.size, Row.flat, bnds, own0, own1, labsL, labsR, SV.labs, argsOf, entFr, SO.ev, St.of, keepSt, getAll, lookN, hasN, SV.cells, SV.one, SV.res1, SV.res0, SV.resP, SV.ok1, SV.ok0, SV.okN, SV.solid, SV.solid1, SV.solid0, SV.flat0, SV.nm, SV.nm1, SV.nm0, SV.noPtr1, SV.noPtr0, Cel.isFresh, fillP, setAt, partV, eqCells, cellEq, gamY, listsOk, tupOf, takeOwn, SV.ret1, resAll, resL, resV, Nat.reduceEqDiff, ↓reduceIte, Nat.reduceAdd, Nat.reduceMul, Nat.reduceLeDiff, Nat.reduceLT, reduceCtorEq, labOk, Int.reduceBEq, Int.reduceBNe, Int.reduceToNat, Int.reduceLE, Int.reduceLT, Int.reduceEq, Nat.reduceDiv, Nat.reduceMod, Nat.reduceSub, Nat.reduceBEq, fitR, fitR1, fitR0, fitRL1, fitRL, y44, gRS, listS, sortedS, asI, he, h1]
  · simp only [he, if_false]
    have he' : (listE l != 0) = true := by simpa using he
    simp (config := { maxSteps := 9000000 }) only [↓vyD, vyU, binS, SV.go1, SV.go0, mkRow, intsOf, boolsOf, strsOf, chunks, Row.rep, Row.cat, Row.sub, Row.put, Row.len, Row.get, Row.size, Row.flat, bnds, own0, own1, labsL, labsR, SV.labs, argsOf, entFr, SO.ev, St.of, keepSt, getAll, lookN, hasN, SV.cells, SV.one, SV.res1, SV.res0, SV.resP, SV.ok1, SV.ok0, SV.okN, SV.solid, SV.solid1, SV.solid0, SV.flat0, SV.nm, SV.nm1, SV.nm0, SV.noPtr1, SV.noPtr0, Cel.isFresh, fillP, setAt, partV, eqCells, cellEq, gamY, listsOk, tupOf, takeOwn, SV.ret1, resAll, resL, resV, Nat.reduceEqDiff, ↓reduceIte, Nat.reduceAdd, Nat.reduceMul, Nat.reduceLeDiff, Nat.reduceLT, reduceCtorEq, labOk, Int.reduceBEq, Int.reduceBNe, Int.reduceToNat, Int.reduceLE, Int.reduceLT, Int.reduceEq, Nat.reduceDiv, Nat.reduceMod, Nat.reduceSub, Nat.reduceBEq, fitR, fitR1, fitR0, fitRL1, fitRL, y44, gRS, listS, sortedS, asI, he']
def qupS : Say
  | [.int .i64 a, .int .i64 b] => some (0 ≤ a ∧ a ≤ 4611686018427387904 ∧ 1 ≤ b ∧ b ≤ 1000, .int .i64 ((a + b - 1) / b), none)
  | _ => none
theorem qup_ok : FOk Try.prog 81 qupS := by
  intro xs p r own h hp
  unfold qupS at h
  split at h
  case h_2 => cases h
  rename_i a b
  simp only [Option.some.injEq, Prod.mk.injEq] at h
  obtain ⟨rfl, rfl, rfl⟩ := h
  refine fun_ok (gam_ok gam_nil) lawy_mixed y81_eq none ?_ (Nat.le_of_ble_eq_true rfl)
  obtain ⟨h1, h2, h3, h4⟩ := hp
  have c1 := i64_wrap (show I64 (a + b) by unfold I64; omega)
  have c2 := i64_wrap (show I64 (a + b - 1) by unfold I64; omega)
  have e1 : (a + b - 1).tdiv b = (a + b - 1) / b := Int.tdiv_eq_ediv_of_nonneg (by omega)
  have e2 : (a + b - 1) / b ≤ a + b - 1 := Int.ediv_le_self _ (by omega)
  have e3 : 0 ≤ (a + b - 1) / b := Int.ediv_nonneg (by omega) (by omega)
  have c3 := i64_wrap (show I64 ((a + b - 1) / b) by unfold I64; omega)
  have h0 : ¬ b = 0 := by omega
  simp (config := { maxSteps := 9000000 }) only [↓vyD, vyU, binS, SV.go1, SV.go0, mkRow, intsOf, boolsOf, strsOf, chunks, Row.rep, Row.cat, Row.sub, Row.put, Row.len, Row.get, Row.size, Row.flat, bnds, own0, own1, labsL, labsR, SV.labs, argsOf, entFr, SO.ev, St.of, keepSt, getAll, lookN, hasN, SV.cells, SV.one, SV.res1, SV.res0, SV.resP, SV.ok1, SV.ok0, SV.okN, SV.solid, SV.solid1, SV.solid0, SV.flat0, SV.nm, SV.nm1, SV.nm0, SV.noPtr1, SV.noPtr0, Cel.isFresh, fillP, setAt, partV, eqCells, cellEq, gamY, listsOk, tupOf, takeOwn, SV.ret1, resAll, resL, resV, Nat.reduceEqDiff, ↓reduceIte, Nat.reduceAdd, Nat.reduceMul, Nat.reduceLeDiff, Nat.reduceLT, reduceCtorEq, labOk, Int.reduceBEq, Int.reduceBNe, Int.reduceToNat, Int.reduceLE, Int.reduceLT, Int.reduceEq, Nat.reduceDiv, Nat.reduceMod, Nat.reduceSub, Nat.reduceBEq, fitR, fitR1, fitR0, fitRL1, fitRL, y81, c1, c2, e1, c3, h0, ne_eq, not_false_eq_true]
/-- The place of a part. -/
def placeN (n num den : Int) : Int := if (n * num + den - 1) / den > 1 then (n * num + den - 1) / den else 1
def rankE (l : List Int) (num den : Int) : Int := if listE l = 0 then (if den < 1 ∨ 1000 < den ∨ num < 0 ∨ den < num then 1 else if l.length = 0 then 4 else 0) else listE l
def rankV (l : List Int) (num den : Int) : Int := if rankE l num den = 0 then (sortL l).getD (placeN l.length num den - 1).toNat 0 else 0
theorem place_bd {n num den : Int} (hn : 1 ≤ n) (hd : 1 ≤ den) (h0 : 0 ≤ num) (h1 : num ≤ den) : 1 ≤ placeN n num den ∧ placeN n num den ≤ n := by
  have : (n * num + den - 1) / den ≤ n := by
    have h2 : (n * num + den - 1) / den < n + 1 := by
      rw [Int.ediv_lt_iff_lt_mul (by omega), Int.add_mul, Int.one_mul]
      have := Int.mul_le_mul_of_nonneg_left h1 (show 0 ≤ n by omega)
      omega
    omega
  unfold placeN
  split <;> omega
def gRk : List (Nat × Say) := [(65, listS), (76, sortedS), (81, qupS)]
theorem gRk_ok : GamOk Try.prog (gamY gRk) := gam_ok (gam_cons list_ok (gam_cons sorted_ok (gam_cons qup_ok gam_nil)))
def rrankS : Say
  | [x_l, .int .i64 num, .int .i64 den] => (match asI x_l with | some l => some (True, .tup [.int .i64 (rankV l num den), .int .i64 (rankE l num den)], none) | _ => none)
  | _ => none
theorem rrank_ok : FOk Try.prog 47 rrankS := by
  intro xs p r own h hp
  unfold rrankS at h
  split at h
  case h_2 => cases h
  rename_i x_l num den
  split at h
  case h_2 => cases h
  rename_i l h_l
  simp only [Option.some.injEq, Prod.mk.injEq] at h
  obtain ⟨rfl, rfl, rfl⟩ := h
  refine fun_fit (ys := [.rw (.ints .i64 l), .int .i64 num, .int .i64 den]) ?_ ⟨asI_fit h_l, fit_refl1 _ (by simp), fit_refl1 _ (by simp), trivial⟩
  clear h_l
  refine fun_ok gRk_ok lawy_mixed y47_eq none ?_ (Nat.le_of_ble_eq_true rfl)
  by_cases he : listE l = 0
  · obtain ⟨h64, hv⟩ := listE_0.1 he
    have h1 : l.length ≤ 4294967296 := by omega
    by_cases hd : den < 1 ∨ 1000 < den ∨ num < 0 ∨ den < num
    · have hE : rankE l num den = 1 := by rw [rankE, if_pos he, if_pos hd]
      have hV : rankV l num den = 0 := by rw [rankV, if_neg (by omega)]
      rw [hE, hV]
      by_cases d1 : den < 1
      · simp (config := { maxSteps := 9000000 }) only [↓vyD, vyU, binS, SV.go1, SV.go0, mkRow, intsOf, boolsOf, strsOf, chunks, Row.rep, Row.cat, Row.sub, Row.put, Row.len, Row.get, Row.size, Row.flat, bnds, own0, own1, labsL, labsR, SV.labs, argsOf, entFr, SO.ev, St.of, keepSt, getAll, lookN, hasN, SV.cells, SV.one, SV.res1, SV.res0, SV.resP, SV.ok1, SV.ok0, SV.okN, SV.solid, SV.solid1, SV.solid0, SV.flat0, SV.nm, SV.nm1, SV.nm0, SV.noPtr1, SV.noPtr0, Cel.isFresh, fillP, setAt, partV, eqCells, cellEq, gamY, listsOk, tupOf, takeOwn, SV.ret1, resAll, resL, resV, Nat.reduceEqDiff, ↓reduceIte, Nat.reduceAdd, Nat.reduceMul, Nat.reduceLeDiff, Nat.reduceLT, reduceCtorEq, labOk, Int.reduceBEq, Int.reduceBNe, Int.reduceToNat, Int.reduceLE, Int.reduceLT, Int.reduceEq, Nat.reduceDiv, Nat.reduceMod, Nat.reduceSub, Nat.reduceBEq, fitR, fitR1, fitR0, fitRL1, fitRL, y47, gRk, listS, sortedS, qupS, asI, he, d1]
      by_cases d2 : 1000 < den
      · simp (config := { maxSteps := 9000000 }) only [↓vyD, vyU, binS, SV.go1, SV.go0, mkRow, intsOf, boolsOf, strsOf, chunks, Row.rep, Row.cat, Row.sub, Row.put, Row.len, Row.get, Row.size, Row.flat, bnds, own0, own1, labsL, labsR, SV.labs, argsOf, entFr, SO.ev, St.of, keepSt, getAll, lookN, hasN, SV.cells, SV.one, SV.res1, SV.res0, SV.resP, SV.ok1, SV.ok0, SV.okN, SV.solid, SV.solid1, SV.solid0, SV.flat0, SV.nm, SV.nm1, SV.nm0, SV.noPtr1, SV.noPtr0, Cel.isFresh, fillP, setAt, partV, eqCells, cellEq, gamY, listsOk, tupOf, takeOwn, SV.ret1, resAll, resL, resV, Nat.reduceEqDiff, ↓reduceIte, Nat.reduceAdd, Nat.reduceMul, Nat.reduceLeDiff, Nat.reduceLT, reduceCtorEq, labOk, Int.reduceBEq, Int.reduceBNe, Int.reduceToNat, Int.reduceLE, Int.reduceLT, Int.reduceEq, Nat.reduceDiv, Nat.reduceMod, Nat.reduceSub, Nat.reduceBEq, fitR, fitR1, fitR0, fitRL1, fitRL, y47, gRk, listS, sortedS, qupS, asI, he, d1, d2]
      by_cases d3 : num < 0
      · simp (config := { maxSteps := 9000000 }) only [↓vyD, vyU, binS, SV.go1, SV.go0, mkRow, intsOf, boolsOf, strsOf, chunks, Row.rep, Row.cat, Row.sub, Row.put, Row.len, Row.get, Row.size, Row.flat, bnds, own0, own1, labsL, labsR, SV.labs, argsOf, entFr, SO.ev, St.of, keepSt, getAll, lookN, hasN, SV.cells, SV.one, SV.res1, SV.res0, SV.resP, SV.ok1, SV.ok0, SV.okN, SV.solid, SV.solid1, SV.solid0, SV.flat0, SV.nm, SV.nm1, SV.nm0, SV.noPtr1, SV.noPtr0, Cel.isFresh, fillP, setAt, partV, eqCells, cellEq, gamY, listsOk, tupOf, takeOwn, SV.ret1, resAll, resL, resV, Nat.reduceEqDiff, ↓reduceIte, Nat.reduceAdd, Nat.reduceMul, Nat.reduceLeDiff, Nat.reduceLT, reduceCtorEq, labOk, Int.reduceBEq, Int.reduceBNe, Int.reduceToNat, Int.reduceLE, Int.reduceLT, Int.reduceEq, Nat.reduceDiv, Nat.reduceMod, Nat.reduceSub, Nat.reduceBEq, fitR, fitR1, fitR0, fitRL1, fitRL, y47, gRk, listS, sortedS, qupS, asI, he, d1, d2, d3]
      have d4 : den < num := by omega
      simp (config := { maxSteps := 9000000 }) only [↓vyD, vyU, binS, SV.go1, SV.go0, mkRow, intsOf, boolsOf, strsOf, chunks, Row.rep, Row.cat, Row.sub, Row.put, Row.len, Row.get, Row.size, Row.flat, bnds, own0, own1, labsL, labsR, SV.labs, argsOf, entFr, SO.ev, St.of, keepSt, getAll, lookN, hasN, SV.cells, SV.one, SV.res1, SV.res0, SV.resP, SV.ok1, SV.ok0, SV.okN, SV.solid, SV.solid1, SV.solid0, SV.flat0, SV.nm, SV.nm1, SV.nm0, SV.noPtr1, SV.noPtr0, Cel.isFresh, fillP, setAt, partV, eqCells, cellEq, gamY, listsOk, tupOf, takeOwn, SV.ret1, resAll, resL, resV, Nat.reduceEqDiff, ↓reduceIte, Nat.reduceAdd, Nat.reduceMul, Nat.reduceLeDiff, Nat.reduceLT, reduceCtorEq, labOk, Int.reduceBEq, Int.reduceBNe, Int.reduceToNat, Int.reduceLE, Int.reduceLT, Int.reduceEq, Nat.reduceDiv, Nat.reduceMod, Nat.reduceSub, Nat.reduceBEq, fitR, fitR1, fitR0, fitRL1, fitRL, y47, gRk, listS, sortedS, qupS, asI, he, d1, d2, d3, d4]
    · have d1 : ¬ den < 1 := by omega
      have d2 : ¬ 1000 < den := by omega
      have d3 : ¬ num < 0 := by omega
      have d4 : ¬ den < num := by omega
      by_cases h0 : l.length = 0
      · have hE : rankE l num den = 4 := by rw [rankE, if_pos he, if_neg hd, if_pos h0]
        have hV : rankV l num den = 0 := by rw [rankV, if_neg (by omega)]
        have h0' : ((l.length : Int) == 0) = true := by simp [h0]
        rw [hE, hV]
        simp (config := { maxSteps := 9000000 }) only [↓vyD, vyU, binS, SV.go1, SV.go0, mkRow, intsOf, boolsOf, strsOf, chunks, Row.rep, Row.cat, Row.sub, Row.put, Row.len, Row.get, Row.size, Row.flat, bnds, own0, own1, labsL, labsR, SV.labs, argsOf, entFr, SO.ev, St.of, keepSt, getAll, lookN, hasN, SV.cells, SV.one, SV.res1, SV.res0, SV.resP, SV.ok1, SV.ok0, SV.okN, SV.solid, SV.solid1, SV.solid0, SV.flat0, SV.nm, SV.nm1, SV.nm0, SV.noPtr1, SV.noPtr0, Cel.isFresh, fillP, setAt, partV, eqCells, cellEq, gamY, listsOk, tupOf, takeOwn, SV.ret1, resAll, resL, resV, Nat.reduceEqDiff, ↓reduceIte, Nat.reduceAdd, Nat.reduceMul, Nat.reduceLeDiff, Nat.reduceLT, reduceCtorEq, labOk, Int.reduceBEq, Int.reduceBNe, Int.reduceToNat, Int.reduceLE, Int.reduceLT, Int.reduceEq, Nat.reduceDiv, Nat.reduceMod, Nat.reduceSub, Nat.reduceBEq, fitR, fitR1, fitR0, fitRL1, fitRL, y47, gRk, listS, sortedS, qupS, asI, he, d1, d2, d3, d4, h0']
      · have hE : rankE l num den = 0 := by rw [rankE, if_pos he, if_neg hd, if_neg h0]
        have hV : rankV l num den = (sortL l).getD (placeN l.length num den - 1).toNat 0 := by rw [rankV, if_pos hE]
        have h0' : ((l.length : Int) == 0) = false := by simpa using h0
        have m1 := mul_bd (show (0 : Int) ≤ l.length by omega) (show (l.length : Int) ≤ 64 by omega) (show 0 ≤ num by omega) (show num ≤ 1000 by omega)
        have c1 := i64_wrap (show I64 ((l.length : Int) * num) by unfold I64; omega)
        have q1 : 0 ≤ (l.length : Int) * num ∧ (l.length : Int) * num ≤ 4611686018427387904 ∧ 1 ≤ den ∧ den ≤ 1000 := by omega
        obtain ⟨p1, p2⟩ := place_bd (n := (l.length : Int)) (by omega) (show 1 ≤ den by omega) (show 0 ≤ num by omega) (by omega)
        have pe : (if ((l.length : Int) * num + den - 1) / den > 1 then ((l.length : Int) * num + den - 1) / den else 1) = placeN l.length num den := rfl
        have c2 := i64_wrap (show I64 (placeN l.length num den - 1) by unfold I64; omega)
        have sl := sortL_len l
        have g1 : (0 : Int) ≤ placeN l.length num den - 1 := by omega
        have g2 : placeN l.length num den - 1 < ((sortL l).length : Int) := by omega
        have g3 : (placeN l.length num den - 1).toNat < (sortL l).length := by omega
        rw [hE, hV]
        generalize placeN l.length num den = pl at *
        simp (config := { maxSteps := 9000000 }) only [↓vyD, vyU, binS, SV.go1, SV.go0, mkRow, intsOf, boolsOf, strsOf, chunks, Row.rep, Row.cat, Row.sub, Row.put, Row.len, Row.get, Row.size, Row.flat, bnds, own0, own1, labsL, labsR, SV.labs, argsOf, entFr, SO.ev, St.of, keepSt, getAll, lookN, hasN, SV.cells, SV.one, SV.res1, SV.res0, SV.resP, SV.ok1, SV.ok0, SV.okN, SV.solid, SV.solid1, SV.solid0, SV.flat0, SV.nm, SV.nm1, SV.nm0, SV.noPtr1, SV.noPtr0, Cel.isFresh, fillP, setAt, partV, eqCells, cellEq, gamY, listsOk, tupOf, takeOwn, SV.ret1, resAll, resL, resV, Nat.reduceEqDiff, ↓reduceIte, Nat.reduceAdd, Nat.reduceMul, Nat.reduceLeDiff, Nat.reduceLT, reduceCtorEq, labOk, Int.reduceBEq, Int.reduceBNe, Int.reduceToNat, Int.reduceLE, Int.reduceLT, Int.reduceEq, Nat.reduceDiv, Nat.reduceMod, Nat.reduceSub, Nat.reduceBEq, fitR, fitR1, fitR0, fitRL1, fitRL, y47, gRk, listS, sortedS, qupS, asI, he, h1, d1, d2, d3, d4, h0', c1, q1, pe, c2, g1, g2, g3]
  · have hE : rankE l num den = listE l := by rw [rankE, if_neg he]
    have hV : rankV l num den = 0 := by rw [rankV, if_neg (by omega)]
    rw [hE, hV]
    have he' : (listE l != 0) = true := by simpa using he
    simp (config := { maxSteps := 9000000 }) only [↓vyD, vyU, binS, SV.go1, SV.go0, mkRow, intsOf, boolsOf, strsOf, chunks, Row.rep, Row.cat, Row.sub, Row.put, Row.len, Row.get, Row.size, Row.flat, bnds, own0, own1, labsL, labsR, SV.labs, argsOf, entFr, SO.ev, St.of, keepSt, getAll, lookN, hasN, SV.cells, SV.one, SV.res1, SV.res0, SV.resP, SV.ok1, SV.ok0, SV.okN, SV.solid, SV.solid1, SV.solid0, SV.flat0, SV.nm, SV.nm1, SV.nm0, SV.noPtr1, SV.noPtr0, Cel.isFresh, fillP, setAt, partV, eqCells, cellEq, gamY, listsOk, tupOf, takeOwn, SV.ret1, resAll, resL, resV, Nat.reduceEqDiff, ↓reduceIte, Nat.reduceAdd, Nat.reduceMul, Nat.reduceLeDiff, Nat.reduceLT, reduceCtorEq, labOk, Int.reduceBEq, Int.reduceBNe, Int.reduceToNat, Int.reduceLE, Int.reduceLT, Int.reduceEq, Nat.reduceDiv, Nat.reduceMod, Nat.reduceSub, Nat.reduceBEq, fitR, fitR1, fitR0, fitRL1, fitRL, y47, gRk, listS, sortedS, qupS, asI, he']
end Go.Proofs.Ytlfhcjohkpdkoaa
