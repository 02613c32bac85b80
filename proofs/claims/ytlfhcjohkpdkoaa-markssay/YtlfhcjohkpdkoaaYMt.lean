/- Transcripts among the arguments: lists of a time and a bool. -/
import Derived.Test.YtlfhcjohkpdkoaaYG
namespace Go.Proofs.Ytlfhcjohkpdkoaa
open Go.ChangeShapes Go.WideShapes Go.ChangeAt Go.RowKit Go.Joins Go.Deep Y
set_option linter.unusedVariables false
def mapT (l : List (Int × Bool)) : List (List SV) := l.map fun p => [.int .i64 p.1, .bool p.2]
def AllT (l : List (Int × Bool)) : Prop := ∀ p ∈ l, I64 p.1
theorem mapT_len (l : List (Int × Bool)) : (mapT l).length = l.length := by simp [mapT]
theorem mapT_labs (l : List (Int × Bool)) : labsLL (mapT l) = [] := by
  induction l with
  | nil => rfl
  | cons r l ih => rw [mapT] at *; simp [List.map_cons, labsLL, labsL, SV.labs, ih]
theorem mapT_get {l : List (Int × Bool)} {i : Nat} (h : i < l.length) : (mapT l).getD i [] = [.int .i64 (l.getD i (0, false)).1, .bool (l.getD i (0, false)).2] := by
  simp only [mapT, List.getD_eq_getElem?_getD, List.getElem?_map, List.getElem?_eq_getElem h, Option.map_some, Option.getD_some]
theorem mapT_take (l : List (Int × Bool)) (k : Nat) : (mapT l).take k = mapT (l.take k) := by simp [mapT, List.map_take]
theorem mapT_drop (l : List (Int × Bool)) (k : Nat) : (mapT l).drop k = mapT (l.drop k) := by simp [mapT, List.map_drop]
theorem mapT_app (l : List (Int × Bool)) (t : Int) (b : Bool) : mapT l ++ [[.int .i64 t, .bool b]] = mapT (l ++ [(t, b)]) := by simp [mapT]
theorem mapT_nil : mapT [] = [] := rfl
theorem flat_len (l : List (Int × Bool)) : (mapT l).flatten.length = 2 * l.length := by
  induction l with
  | nil => rfl
  | cons p l ih => rw [mapT] at *; simp only [List.map_cons, List.flatten_cons, List.length_append, List.length_cons, List.length_nil, ih]; omega
theorem flat_get (l : List (Int × Bool)) : ∀ j, (mapT l).flatten[j]? = (l[j / 2]?).map fun p => if j % 2 = 0 then SV.int .i64 p.1 else .bool p.2 := by
  induction l with
  | nil => intro j; simp [mapT]
  | cons p l ih =>
    intro j
    have e : (mapT (p :: l)).flatten = SV.int .i64 p.1 :: SV.bool p.2 :: (mapT l).flatten := rfl
    rw [e]
    match j with
    | 0 => rfl
    | 1 => rfl
    | j + 2 =>
      rw [List.getElem?_cons_succ, List.getElem?_cons_succ, ih, show (j + 2) / 2 = j / 2 + 1 by omega, List.getElem?_cons_succ, show (j + 2) % 2 = j % 2 by omega]
def toT : List (List SV) → Option (List (Int × Bool))
  | [] => some []
  | [.int .i64 t, .bool b] :: r => (toT r).map ((t, b) :: ·)
  | _ => none
def asT : SV → Option (List (Int × Bool))
  | .rw (.recs 2 x) => toT x
  | .nn (.recs 2 x) => toT x
  | .nil => some []
  | _ => none
theorem toT_mapT (l : List (Int × Bool)) : toT (mapT l) = some l := by
  induction l with
  | nil => rfl
  | cons p l ih => rw [mapT] at *; simp [toT, ih]
theorem toT_eq : ∀ (x : List (List SV)) {l : List (Int × Bool)}, toT x = some l → x = mapT l
  | [], l, h => by simp only [toT, Option.some.injEq] at h; subst h; rfl
  | c :: r, l, h => by
    unfold toT at h
    split at h
    · rename_i e; cases e
    · rename_i t b r' e
      simp only [List.cons.injEq] at e
      obtain ⟨rfl, rfl⟩ := e
      cases hr : toT r with
      | none => rw [hr] at h; cases h
      | some m =>
        rw [hr] at h
        simp only [Option.map_some, Option.some.injEq] at h
        subst h
        rw [toT_eq r hr]; rfl
    · cases h
theorem asT_rw (l : List (Int × Bool)) : asT (.rw (.recs 2 (mapT l))) = some l := toT_mapT l
theorem asT_nn (l : List (Int × Bool)) : asT (.nn (.recs 2 (mapT l))) = some l := toT_mapT l
theorem asT_nil : asT .nil = some [] := rfl
theorem asT_fit {x : SV} {l : List (Int × Bool)} (h : asT x = some l) : fitR1 x (.rw (.recs 2 (mapT l))) := by
  unfold asT at h
  split at h
  · rw [toT_eq _ h]; simp [fitR1, fitR0]
  · rw [toT_eq _ h]; simp [fitR1, fitR0]
  · simp only [Option.some.injEq] at h; subst h; simp [fitR1, fitR0, Row.len, mapT]
  · cases h
section
variable {H : Type} {enc : TypeId × Value → H} {W : World} {base : Nat} {spare : Nat → Bool} {held : Bool}
theorem open_turns {P : Program} {r : Reach} {b0 : Nat} {t e : TypeId} {f0 f1 : Field} {v : Value} {d : DataW H} {ps : List MemPlace} (ht : P.underlying t = some (.slice e)) (he : P.underlying e = some (.struct #[f0, f1])) (hone : oneCellFields P #[f0, f1] = true) (hC : P.cellsOf e = 2)
    (h0 : P.underlying f0.type = some (.int .i64)) (h1 : P.underlying f1.type = some .bool) (hval : Value.okWide P W r b0 t v) (hd : DataW.Trod enc P W base spare held t v d ps) :
    ∃ l : List (Int × Bool), AllT l ∧ Is (E0 W fun _ => False) (.rw (.recs 2 (mapT l))) v := by
  obtain ⟨ao, len, cap, rfl⟩ := okWide_slice ht hval
  obtain ⟨fuel, hf⟩ := hd
  have h : DataW.trod enc P W base spare held fuel t [.slice ao len cap] = some (d, ps) := by simpa [Value.cells] using hf
  rcases Go.Deep.open_slice ht h with ⟨k1, _⟩ | ⟨a, len', cap', m, n, D, Pl, k1, _, k3, k4, k5, _, k7⟩
  · have hv : Value.slice ao len cap = .slice none 0 0 := by simpa using k1
    rw [hv]
    exact ⟨[], by simp [AllT], .rw0 _ none 0 rfl fun _ => rfl⟩
  · have hv : Value.slice ao len cap = .slice (some a) len' cap' := by simpa using k1
    rw [hv]
    have hm : len' ≤ m := by rw [k5]; split <;> omega
    obtain ⟨o0, c0⟩ := hone_of hone 0 f0 rfl
    obtain ⟨o1, c1⟩ := hone_of hone 1 f1 rfl
    have hV : ∀ i, i < len' → ∃ p : Int × Bool, I64 p.1 ∧ W.cell? ((a.add (i * 2)).add 0) = some (.int .i64 p.1) ∧ W.cell? ((a.add (i * 2)).add 1) = some (.bool p.2) := fun i hi => by
      obtain ⟨cs, q1, q2⟩ := k7 i (by omega)
      rw [hC] at q1
      obtain ⟨_, hlen, hc⟩ := World.cells?_some q1
      obtain ⟨y0, y1, n', _, _, g0, g1⟩ := trod_struct2 he q2
      match cs, hlen with
      | [u0, u1], _ =>
        rw [o0, c0] at g0
        rw [o1, c1] at g1
        obtain ⟨k, e0, _, w0⟩ := DataW.trod_int h0 (by simpa using g0)
        obtain ⟨b, e1, _⟩ := DataW.trod_bool h1 (by simpa using g1)
        simp only [List.cons.injEq, and_true] at e0 e1
        subst e0 e1
        exact ⟨(k, b), i64_of w0, hc 0 (by omega), hc 1 (by omega)⟩
    let f : Nat → Int × Bool := fun i => if hi : i < len' then Classical.choose (hV i hi) else (0, false)
    have hf' : ∀ i, i < len' → I64 (f i).1 ∧ W.cell? ((a.add (i * 2)).add 0) = some (.int .i64 (f i).1) ∧ W.cell? ((a.add (i * 2)).add 1) = some (.bool (f i).2) := fun i hi => by
      have : f i = Classical.choose (hV i hi) := by simp only [f]; rw [dif_pos hi]
      rw [this]
      exact Classical.choose_spec (hV i hi)
    refine ⟨(List.range len').map f, fun x hx => ?_, ?_⟩
    · obtain ⟨i, hi, rfl⟩ := List.mem_map.1 hx
      exact (hf' i (List.mem_range.1 hi)).1
    · by_cases hl0 : len' = 0
      · subst hl0
        exact .rw0 _ (some a) cap' rfl fun h => by cases h
      · have hs : a.spot = none := by
          obtain ⟨_, q, _⟩ := hf' 0 (by omega)
          simp only [Nat.zero_mul, Addr.add, if_true] at q
          cases hsp : a.spot with
          | none => rfl
          | some k =>
            exfalso
            unfold World.cell? at q
            split at q <;> simp [hsp] at q
        obtain ⟨b, off, sp⟩ := a
        simp only at hs
        subst hs
        have hcell : ∀ j, j < 2 * len' → W.cell? ⟨b, off + j, none⟩ = some (if j % 2 = 0 then .int .i64 (f (j / 2)).1 else .bool (f (j / 2)).2) := fun j hj => by
          obtain ⟨_, q0, q1⟩ := hf' (j / 2) (by omega)
          rw [Addr.add_lit, Addr.add_lit] at q0 q1
          by_cases h2 : j % 2 = 0
          · rw [if_pos h2, show off + j = off + j / 2 * 2 + 0 by omega]; exact q0
          · rw [if_neg h2, show off + j = off + j / 2 * 2 + 1 by omega]; exact q1
        have hlen : ((.recs 2 (mapT ((List.range len').map f))) : Row SV).len = len' := by simp [Row.len, mapT]
        have hcl : ((.recs 2 (mapT ((List.range len').map f))) : Row SV).cells.length = 2 * len' := by simp only [Row.cells, flat_len, List.length_map, List.length_range]
        have hb : b < W.heap.size := World.block_lt_of_cell? W ⟨b, off + 0, none⟩ (hcell 0 (by omega))
        have := Is.rw (E := E0 W fun _ => False) (.recs 2 (mapT ((List.range len').map f))) b off cap' ((List.range (2 * len')).map fun j => if j % 2 = 0 then .int .i64 (f (j / 2)).1 else .bool (f (j / 2)).2) (fun c hc => by
            obtain ⟨x, _, rfl⟩ := List.mem_map.1 hc
            exact ⟨rfl, rfl⟩) (by rw [hlen]; exact k3) (fun h => h) hb (by rw [hcl]; simp) (fun j u hu => by
          by_cases hj : j < 2 * len'
          · rw [List.getElem?_map, List.getElem?_range hj] at hu
            simp only [Option.map_some, Option.some.injEq] at hu
            subst hu
            exact hcell j hj
          · rw [List.getElem?_eq_none (by simpa using hj)] at hu; cases hu) (fun j x u hx hu => by
          by_cases hj : j < 2 * len'
          · rw [List.getElem?_map, List.getElem?_range hj] at hu
            simp only [Option.map_some, Option.some.injEq] at hu
            subst hu
            rw [Row.cells, flat_get, List.getElem?_map, List.getElem?_range (by omega)] at hx
            simp only [Option.map_some, Option.some.injEq] at hx
            subst hx
            split
            · exact .int _ _
            · exact .bool _
          · rw [List.getElem?_eq_none (by simpa using hj)] at hu; cases hu)
        rw [hlen] at this
        exact this
end
end Go.Proofs.Ytlfhcjohkpdkoaa
