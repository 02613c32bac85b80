/- More kinds of arguments as the second walk knows them; equal words stand for one another. -/
import Derived.Test.YtgklfolmlcfjgaaYF
namespace Go.Proofs.Ytgklfolmlcfjgaa
open Go.ChangeShapes Go.WideShapes Go.ChangeAt Go.RowKit Go.Joins Go.Deep Y
set_option linter.unusedVariables false
/-- A word of 64 bits; lists of whole numbers. -/
def U64 (n : Int) : Prop := 0 ≤ n ∧ n ≤ 18446744073709551615
def U32 (n : Int) : Prop := 0 ≤ n ∧ n ≤ 4294967295
theorem u32_of {n : Int} (h : (Lit.int .u32 n).wf = true) : U32 n := by
  have := bounds_u32 h
  unfold U32; omega
def AllI (l : List Int) : Prop := ∀ x ∈ l, I64 x
theorem u64_of {n : Int} (h : (Lit.int .u64 n).wf = true) : U64 n := by
  have := bounds_u64 h
  unfold U64; omega
theorem u64_wrap {n : Int} (h : U64 n) : IntKind.u64.wrap n = n := by
  unfold U64 at h
  rw [IntKind.wrap_u64]; omega
theorem fit_refl0 (x : SV) : fitR0 x x := by cases x <;> simp [fitR0]
theorem fit_reflL : ∀ xs : List SV, fitRL xs xs
  | [] => trivial
  | x :: xs => ⟨fit_refl0 x, fit_reflL xs⟩
theorem fit_refl_agg (x : SV) : fitR1 x x := by
  cases x <;> simp [fitR1, fitR0, fit_reflL]
theorem is_agg2 {E : Env} {x y : SV} {u v : Value} (hx : Is E x u) (hy : Is E y v) : Is E (.agg [x, y]) (.agg #[u, v]) :=
  .agg [x, y] [u, v] rfl (All.cons hx (All.cons hy All.nil)).2
theorem is_agg3 {E : Env} {x y z : SV} {u v w : Value} (hx : Is E x u) (hy : Is E y v) (hz : Is E z w) : Is E (.agg [x, y, z]) (.agg #[u, v, w]) :=
  .agg [x, y, z] [u, v, w] rfl (All.cons hx (All.cons hy (All.cons hz All.nil))).2
section
variable {H : Type} {enc : TypeId × Value → H} {W : World} {base : Nat} {spare : Nat → Bool} {held : Bool} {P : Program} {r : Reach} {b0 : Nat}
theorem open_ints3 {t : TypeId} {f0 f1 f2 : Field} {v : Value} {d : DataW H} {p : List MemPlace} (hs : P.underlying t = some (.struct #[f0, f1, f2])) (hone : oneCellFields P #[f0, f1, f2] = true) (hC : P.cellsOf t = 3)
    (h0 : P.underlying f0.type = some (.int .i64)) (h1 : P.underlying f1.type = some (.int .i64)) (h2 : P.underlying f2.type = some (.int .i64))
    (hv : Value.okWide P W r b0 t v) (h : DataW.Trod enc P W base spare held t v d p) :
    ∃ a b c : Int, v = .agg #[.int .i64 a, .int .i64 b, .int .i64 c] ∧ I64 a ∧ I64 b ∧ I64 c := by
  obtain ⟨v0, v1, v2, y0, y1, y2, n, rfl, -, -, q0, q1, q2⟩ := open_agg3 hs hone hC hv h
  obtain ⟨a, ea, _, wa⟩ := DataW.trod_int h0 q0
  obtain ⟨b, eb, _, wb⟩ := DataW.trod_int h1 q1
  obtain ⟨c, ec, _, wc⟩ := DataW.trod_int h2 q2
  simp only [List.cons.injEq, and_true] at ea eb ec
  subst ea eb ec
  exact ⟨a, b, c, rfl, i64_of wa, i64_of wb, i64_of wc⟩
theorem open_win {t e : TypeId} {f0 f1 : Field} {v : Value} {d : DataW H} {p : List MemPlace} (hs : P.underlying t = some (.struct #[f0, f1])) (hone : oneCellFields P #[f0, f1] = true) (hC : P.cellsOf t = 2)
    (h0 : P.underlying f0.type = some (.int .i64)) (h1 : P.underlying f1.type = some (.slice e)) (he : P.underlying e = some (.int .i64)) (hc : P.cellsOf e = 1)
    (hv : Value.okWide P W r b0 t v) (h : DataW.Trod enc P W base spare held t v d p) :
    ∃ (a : Int) (u : Value) (l : List Int), v = .agg #[.int .i64 a, u] ∧ I64 a ∧ AllI l ∧ Is (E0 W fun _ => False) (.rw (.ints .i64 l)) u := by
  obtain ⟨v0, v1, y0, y1, n, rfl, -, -, q0, q1⟩ := open_agg2 hs hone hC hv h
  obtain ⟨a, ea, _, wa⟩ := DataW.trod_int h0 q0
  simp only [List.cons.injEq, and_true] at ea
  subst ea
  obtain ⟨l, hl, hi⟩ := open_ints1 h1 he hc q1
  exact ⟨a, v1, l, rfl, i64_of wa, hl, hi⟩
theorem open_words2 {t : TypeId} {f0 f1 : Field} {v : Value} {d : DataW H} {p : List MemPlace} (hs : P.underlying t = some (.struct #[f0, f1])) (hone : oneCellFields P #[f0, f1] = true) (hC : P.cellsOf t = 2)
    (h0 : P.underlying f0.type = some (.int .u64)) (h1 : P.underlying f1.type = some (.int .u64))
    (hv : Value.okWide P W r b0 t v) (h : DataW.Trod enc P W base spare held t v d p) :
    ∃ a b : Int, v = .agg #[.int .u64 a, .int .u64 b] ∧ U64 a ∧ U64 b := by
  obtain ⟨v0, v1, y0, y1, n, rfl, -, -, q0, q1⟩ := open_agg2 hs hone hC hv h
  obtain ⟨a, ea, _, wa⟩ := DataW.trod_int h0 q0
  obtain ⟨b, eb, _, wb⟩ := DataW.trod_int h1 q1
  simp only [List.cons.injEq, and_true] at ea eb
  subst ea eb
  exact ⟨a, b, rfl, u64_of wa, u64_of wb⟩
theorem weights_at {p : Nat → Bool} : ∀ (j : Nat) {ts us : List TypeId} {ds gs : List (DataW H)} {t : TypeId} {d : DataW H}, (DataW.weightsEach P (ts ++ us) (ds ++ gs)).all p = true → ts[j]? = some t → ds[j]? = some d → (d.weights P t).all p = true
  | 0, ts, us, ds, gs, t, d, h, h1, h2 => by
    cases ts with
    | nil => simp at h1
    | cons t' ts =>
      cases ds with
      | nil => simp at h2
      | cons d' ds =>
        simp only [List.getElem?_cons_zero, Option.some.injEq] at h1 h2
        subst h1 h2
        simp only [List.cons_append, DataW.weightsEach, List.all_append, Bool.and_eq_true] at h
        exact h.1
  | j + 1, ts, us, ds, gs, t, d, h, h1, h2 => by
    cases ts with
    | nil => simp at h1
    | cons t' ts =>
      cases ds with
      | nil => simp at h2
      | cons d' ds =>
        simp only [List.getElem?_cons_succ] at h1 h2
        simp only [List.cons_append, DataW.weightsEach, List.all_append, Bool.and_eq_true] at h
        exact weights_at j h.2 h1 h2
theorem open_str {t : TypeId} {v : Value} {d : DataW H} {p : List MemPlace} (ht : P.underlying t = some .string) (hv : Value.okWide P W r b0 t v) (h : DataW.Trod enc P W base spare held t v d p) (hw : (d.weights P t).all (· ≤ reachBytes) = true) :
    ∃ l : List UInt8, l.length ≤ 140737488351232 ∧ Is (E0 W fun _ => False) (.str l) v := by
  obtain ⟨s, rfl, rfl, _, _⟩ := Go.ChangeMaps.open_string ht hv h
  refine ⟨s.data.toList, ?_, ?_⟩
  · simp only [DataW.weights, List.all_cons, Bool.and_eq_true] at hw
    exact of_decide_eq_true hw.1
  · have := Is.str (E := E0 W fun _ => False) s.data.toList
    simpa using this
theorem open_beat {t : TypeId} {f0 f1 f2 : Field} {v : Value} {d : DataW H} {p : List MemPlace} (hs : P.underlying t = some (.struct #[f0, f1, f2])) (hone : oneCellFields P #[f0, f1, f2] = true) (hC : P.cellsOf t = 3)
    (h0 : P.underlying f0.type = some .string) (h1 : P.underlying f1.type = some (.int .i64)) (h2 : P.underlying f2.type = some (.int .i64))
    (hv : Value.okWide P W r b0 t v) (h : DataW.Trod enc P W base spare held t v d p) (hw : (d.weights P t).all (· ≤ reachBytes) = true) :
    ∃ (u : Value) (l : List UInt8) (b c : Int), v = .agg #[u, .int .i64 b, .int .i64 c] ∧ l.length ≤ 140737488351232 ∧ Is (E0 W fun _ => False) (.str l) u ∧ I64 b ∧ I64 c := by
  obtain ⟨v0, v1, v2, y0, y1, y2, n, rfl, rfl, -, q0, q1, q2⟩ := open_agg3 hs hone hC hv h
  obtain ⟨s, es, ex, _⟩ := DataW.trod_string h0 q0
  obtain ⟨b, eb, _, wb⟩ := DataW.trod_int h1 q1
  obtain ⟨c, ec, _, wc⟩ := DataW.trod_int h2 q2
  simp only [List.cons.injEq, and_true] at es eb ec
  subst es eb ec
  refine ⟨_, s.data.toList, b, c, rfl, ?_, ?_, i64_of wb, i64_of wc⟩
  · rw [ex] at hw
    simp only [DataW.weights, hs] at hw
    simp only [List.map_cons, DataW.weightsEach, List.all_append, Bool.and_eq_true] at hw
    have hw1 := hw.1
    simp only [DataW.weights, List.all_cons, Bool.and_eq_true] at hw1
    exact of_decide_eq_true hw1.1
  · have := Is.str (E := E0 W fun _ => False) s.data.toList
    simpa using this
end
end Go.Proofs.Ytgklfolmlcfjgaa
