/- Lists of lists of whole numbers among the arguments. -/
import Derived.Test.YtlfhcjohkpdkoaaYG
namespace Go.Proofs.Ytlfhcjohkpdkoaa
open Go.ChangeShapes Go.WideShapes Go.ChangeAt Go.RowKit Go.Joins Go.Deep Y
set_option linter.unusedVariables false
def mapR (l : List (List Int)) : List (List SV) := l.map fun r => [.rw (.ints .i64 r)]
def matR (l : List (List Int)) : Row SV := .recs 1 (mapR l)
theorem flat1 {α β : Type} (f : α → β) : ∀ l : List α, (l.map fun x => [f x]).flatten = l.map f
  | [] => rfl
  | x :: l => by simp [flat1 f l]
theorem bulk_one {H : Type} (d : DataW H) : 1 ≤ Rows.uptoBulk d := by
  cases d with
  | lit l => cases l <;> simp [Rows.uptoBulk]
  | nil => simp [Rows.uptoBulk]
  | ptr d => simp [Rows.uptoBulk]
  | slice elems spare => simp [Rows.uptoBulk]
  | agg parts => simp [Rows.uptoBulk]
  | iface t d => simp [Rows.uptoBulk]
  | map entries => simp [Rows.uptoBulk]
  | held h => simp [Rows.uptoBulk]
theorem bulk_len {H : Type} (l : List (DataW H)) : l.length ≤ Rows.uptoBulkAll l := by
  induction l with
  | nil => simp [Rows.uptoBulkAll]
  | cons x r ih => have := bulk_one x; simp only [Rows.uptoBulkAll, List.length_cons]; omega
theorem bulk_slice {H : Type} (elems spare : List (DataW H)) : elems.length ≤ Rows.uptoBulk (.slice elems spare) := by
  have h1 := bulk_len elems
  simp only [Rows.uptoBulk]
  omega
theorem bulk_part {H : Type} {d : DataW H} {l : List (DataW H)} (h : d ∈ l) : Rows.uptoBulk d ≤ Rows.uptoBulkAll l := by
  induction l with
  | nil => cases h
  | cons x r ih =>
    simp only [Rows.uptoBulkAll]
    cases List.mem_cons.1 h with
    | inl e => subst e; omega
    | inr e => have := ih e; omega
theorem bulk_all {H : Type} {l : List (DataW H)} (hk : Rows.uptoSmall H l = true) : Rows.uptoBulkAll l ≤ 1048576 := of_decide_eq_true hk
section
variable {H : Type} {enc : TypeId × Value → H} {W : World} {base : Nat} {spare : Nat → Bool} {held : Bool}
theorem open_rows {P : Program} {r : Reach} {b0 : Nat} {t e e2 : TypeId} {v : Value} {d : DataW H} {ps : List MemPlace} (ht : P.underlying t = some (.slice e)) (he : P.underlying e = some (.slice e2)) (he2 : P.underlying e2 = some (.int .i64)) (hc : P.cellsOf e = 1) (hc2 : P.cellsOf e2 = 1) (hval : Value.okWide P W r b0 t v) (h0 : DataW.Trod enc P W base spare held t v d ps) :
    ∃ l : List (List Int), (∀ x ∈ l, AllI x) ∧ Is (E0 W fun _ => False) (.rw (matR l)) v ∧ l.length ≤ Rows.uptoBulk d := by
  obtain ⟨ao, len, cap, rfl⟩ := okWide_slice ht hval
  obtain ⟨fuel, hf⟩ := h0
  have h : DataW.trod enc P W base spare held fuel t [.slice ao len cap] = some (d, ps) := by simpa [Value.cells] using hf
  rcases Go.Deep.open_slice1 ht hc h with ⟨h1, _⟩ | ⟨a, len', cap', m, n, V, D, Pl, h1, _, h3, h4, h5, h6, h7⟩
  · have hv : Value.slice ao len cap = .slice none 0 0 := by simpa using h1
    rw [hv]
    exact ⟨[], by simp, .rw0 _ none 0 rfl fun _ => rfl, by simp⟩
  · have hv : Value.slice ao len cap = .slice (some a) len' cap' := by simpa using h1
    rw [hv]
    have hd : d = .slice ((List.range len').map D) ((List.range (m - len')).map fun j => D (len' + j)) := (Prod.mk.inj h6).1
    have hm : len' ≤ m := by rw [h5]; split <;> omega
    have hV : ∀ i, i < len' → ∃ k : List Int, (∀ x ∈ k, I64 x) ∧ Is (E0 W fun _ => False) (.rw (.ints .i64 k)) (V i) := fun i hi => by
      obtain ⟨_, q⟩ := h7 i (by omega)
      exact open_ints1 he he2 hc2 q
    let f : Nat → List Int := fun i => if hi : i < len' then Classical.choose (hV i hi) else []
    have hf' : ∀ i, i < len' → (∀ x ∈ f i, I64 x) ∧ Is (E0 W fun _ => False) (.rw (.ints .i64 (f i))) (V i) := fun i hi => by
      have : f i = Classical.choose (hV i hi) := by simp only [f]; rw [dif_pos hi]
      rw [this]
      exact Classical.choose_spec (hV i hi)
    have hb0 : len' ≤ Rows.uptoBulk d := by
      rw [hd]
      have := bulk_slice ((List.range len').map D) ((List.range (m - len')).map fun j => D (len' + j))
      simpa using this
    refine ⟨(List.range len').map f, fun x hx => ?_, ?_, by simpa using hb0⟩
    · obtain ⟨i, hi, rfl⟩ := List.mem_map.1 hx
      exact (hf' i (List.mem_range.1 hi)).1
    · by_cases h0 : len' = 0
      · subst h0
        exact .rw0 _ (some a) cap' rfl fun h => by cases h
      · have hs : a.spot = none := by
          obtain ⟨q, _⟩ := h7 0 (by omega)
          simp only [Addr.add, if_true] at q
          cases hsp : a.spot with
          | none => rfl
          | some k =>
            exfalso
            unfold World.cell? at q
            split at q <;> simp [hsp] at q
        obtain ⟨b, off, sp⟩ := a
        simp only at hs
        subst hs
        have hcell : ∀ i, i < len' → W.cell? ⟨b, off + i, none⟩ = some (V i) := fun i hi => by
          obtain ⟨q, _⟩ := h7 i (by omega)
          rw [Addr.add_lit] at q
          exact q
        have hlen : (matR ((List.range len').map f)).len = len' := by simp [matR, mapR, Row.len]
        have hcells : (matR ((List.range len').map f)).cells = ((List.range len').map f).map fun r => SV.rw (.ints .i64 r) := flat1 _ _
        have hb : b < W.heap.size := World.block_lt_of_cell? W ⟨b, off + 0, none⟩ (hcell 0 (by omega))
        have := Is.rw (E := E0 W fun _ => False) (matR ((List.range len').map f)) b off cap' ((List.range len').map V) (fun c hc => by
            obtain ⟨x, _, rfl⟩ := List.mem_map.1 hc
            exact ⟨rfl, rfl⟩) (by rw [hlen]; exact h3) (fun h => h) hb (by rw [hcells]; simp) (fun j u hu => by
          by_cases hj : j < len'
          · rw [List.getElem?_map, List.getElem?_range hj] at hu
            simp only [Option.map_some, Option.some.injEq] at hu
            subst hu
            exact hcell j hj
          · rw [List.getElem?_eq_none (by simpa using hj)] at hu; cases hu) (fun j x u hx hu => by
          rw [hcells] at hx
          simp only [List.getElem?_map] at hx hu
          cases hr : (List.range len')[j]? with
          | none => simp [hr] at hx
          | some i =>
            simp [hr] at hx hu
            subst hx hu
            exact (hf' i (List.mem_range.1 (List.mem_of_getElem? hr))).2)
        rw [hlen] at this
        exact this
end
theorem mapR_len (l : List (List Int)) : (mapR l).length = l.length := by simp [mapR]
theorem mapR_get {l : List (List Int)} {i : Nat} (h : i < l.length) : (mapR l).getD i [] = [.rw (.ints .i64 (l.getD i []))] := by
  simp only [mapR, List.getD_eq_getElem?_getD, List.getElem?_map, List.getElem?_eq_getElem h, Option.map_some, Option.getD_some]
theorem mapR_labs (l : List (List Int)) : labsLL (mapR l) = [] := by
  induction l with
  | nil => rfl
  | cons r l ih => rw [mapR] at *; simp [List.map_cons, labsLL, labsL, SV.labs, labsR, ih]
end Go.Proofs.Ytlfhcjohkpdkoaa
