/- What every law's last step uses, with the second walk: the arguments as the walk knows them. -/
import Derived.Test.YtgklfolmlcfjgaaRows
import Derived.WalkKit
import Derived.Deep.DeepHandedRow
import Derived.Lib.LaidTab
import Derived.ChangeMaps5
import Derived.Test.YtgklfolmlcfjgaaYB
import Derived.ProofKit
import Derived.OpenShut
import Derived.ShutString
import Derived.ChangeOld
import Derived.Below
import Derived.Carry
import Derived.Deep.Slices
import Derived.Lib.SmallJoins
namespace Go.Proofs.Ytgklfolmlcfjgaa
open Go.ChangeShapes Go.WideShapes Go.ChangeAt Go.RowKit Y
set_option linter.unusedVariables false
theorem lawy_own : ownKnob Try.prog.godebug = none := by kernel_rfl
theorem lawy_laid : laidOutB Try.prog = true := by kernel_rfl
theorem lawy_mixed : Try.prog.follows .mixedOrders = true := by kernel_rfl
theorem glb_tab {P : Program} {W : World} {name : String} {k : IntKind} {zs : List Int} {g : Nat} (T : Lib.TabIs P W name k zs) (hg : P.globalNamed name = some g) (h0 : 0 < zs.length) : g < W.heap.size ∧ ∀ (j : Nat) u, (zs.map (Value.int k))[j]? = some u → W.cell? ⟨g, j, none⟩ = some u := by
  refine ⟨World.block_lt_of_cell? W ⟨g, 0, none⟩ (T.cell hg 0 h0), fun j u hu => ?_⟩
  rw [List.getElem?_map] at hu
  obtain ⟨z, hz, rfl⟩ := Option.map_eq_some_iff.1 hu
  obtain ⟨hj, rfl⟩ := List.getElem?_eq_some_iff.1 hz
  rw [T.cell hg j hj]
  simp [List.getD, hj]
theorem lawy_glb (W : World) : GlbW W := fun g cs h => by simp [glbAt, glbL, lookG] at h
/-- A whole number of 64 bits. -/
def I64 (n : Int) : Prop := -9223372036854775808 ≤ n ∧ n ≤ 9223372036854775807
theorem i64_of {n : Int} (h : (Lit.int .i64 n).wf = true) : I64 n := by
  have := bounds_i64 h
  unfold I64
  omega
theorem i64_wrap {n : Int} (h : I64 n) : IntKind.i64.wrap n = n := by
  unfold I64 at h
  rw [IntKind.wrap_i64]; omega
section
variable {H : Type} {enc : TypeId × Value → H} {W : World} {base : Nat} {spare : Nat → Bool} {held : Bool}
/-- A list of whole numbers, as it is read. -/
theorem open_ints1 {P : Program} {fuel : Nat} {t e : TypeId} {v : Value} {x : DataW H × List MemPlace} (ht : P.underlying t = some (.slice e)) (he : P.underlying e = some (.int .i64)) (hc : P.cellsOf e = 1) (h : DataW.trod enc P W base spare held fuel t [v] = some x) :
    ∃ l : List Int, (∀ x ∈ l, I64 x) ∧ Is (E0 W fun _ => False) (.rw (.ints .i64 l)) v := by
  rcases Go.Deep.open_slice1 ht hc h with ⟨h1, _⟩ | ⟨a, len', cap', m, n, V, D, Pl, h1, _, h3, h4, h5, _, h7⟩
  · have hv : v = .slice none 0 0 := by simpa using h1
    rw [hv]
    exact ⟨[], by simp, .rw0 _ none 0 rfl fun _ => rfl⟩
  · have hv : v = .slice (some a) len' cap' := by simpa using h1
    rw [hv]
    have hm : len' ≤ m := by rw [h5]; split <;> omega
    have hV : ∀ i, i < len' → ∃ k, V i = .int .i64 k ∧ I64 k := fun i hi => by
      obtain ⟨_, q⟩ := h7 i (by omega)
      obtain ⟨k, q1, _, q3⟩ := DataW.trod_int he q
      simp only [List.cons.injEq, and_true] at q1
      exact ⟨k, q1, i64_of q3⟩
    let f : Nat → Int := fun i => match V i with | .int _ k => k | _ => 0
    have hf' : ∀ i, i < len' → V i = .int .i64 (f i) ∧ I64 (f i) := fun i hi => by
      obtain ⟨k, q1, q2⟩ := hV i hi
      have : f i = k := by simp [f, q1]
      rw [this]; exact ⟨q1, q2⟩
    refine ⟨(List.range len').map f, fun x hx => ?_, ?_⟩
    · obtain ⟨i, hi, rfl⟩ := List.mem_map.1 hx
      exact (hf' i (List.mem_range.1 hi)).2
    · by_cases h0 : len' = 0
      · subst h0
        exact .rw0 _ (some a) cap' rfl fun h => by cases h
      · have hs : a.spot = none := by
          obtain ⟨q, _⟩ := h7 0 (by omega)
          simp only [Addr.add, if_true] at q
          cases hsp : a.spot with
          | none => rfl
          | some k =>
            exfalso
            unfold World.cell? at q
            split at q <;> simp [hsp] at q
        obtain ⟨b, off, sp⟩ := a
        simp only at hs
        subst hs
        have hcell : ∀ i, i < len' → W.cell? ⟨b, off + i, none⟩ = some (.int .i64 (f i)) := fun i hi => by
          obtain ⟨q, _⟩ := h7 i (by omega)
          rw [Addr.add_lit, (hf' i hi).1] at q
          exact q
        have hlen : (Row.ints .i64 ((List.range len').map f) : Row SV).len = len' := by simp [Row.len]
        have hb : b < W.heap.size := World.block_lt_of_cell? W ⟨b, off + 0, none⟩ (hcell 0 (by omega))
        have := Is.rw (E := E0 W fun _ => False) (.ints .i64 ((List.range len').map f)) b off cap' ((List.range len').map fun i => .int .i64 (f i)) trivial (by rw [hlen]; exact h3) (fun h => h) hb (by simp [Row.cells]) (fun j u hu => by
          by_cases hj : j < len'
          · rw [List.getElem?_map, List.getElem?_range hj] at hu
            simp only [Option.map_some, Option.some.injEq] at hu
            subst hu
            exact hcell j hj
          · rw [List.getElem?_eq_none (by simpa using hj)] at hu; cases hu) (fun j x u hx hu => by
          simp only [Row.cells, List.getElem?_map] at hx hu
          cases hr : (List.range len')[j]? with
          | none => simp [hr] at hx
          | some i =>
            simp [hr] at hx hu
            subst hx hu
            exact .int _ _)
        rw [hlen] at this
        exact this
theorem open_ints {P : Program} {r : Reach} {b0 : Nat} {t e : TypeId} {v : Value} {d : DataW H} {ps : List MemPlace} (ht : P.underlying t = some (.slice e)) (he : P.underlying e = some (.int .i64)) (hc : P.cellsOf e = 1) (hval : Value.okWide P W r b0 t v) (h : DataW.Trod enc P W base spare held t v d ps) :
    ∃ l : List Int, (∀ x ∈ l, I64 x) ∧ Is (E0 W fun _ => False) (.rw (.ints .i64 l)) v := by
  obtain ⟨ao, len, cap, rfl⟩ := okWide_slice ht hval
  obtain ⟨fuel, hf⟩ := h
  exact open_ints1 ht he hc (by simpa [Value.cells] using hf)
/-- The places that are read lie in memory. -/
theorem places_lt {P : Program} {t : TypeId} {v : Value} {d : DataW H} {ps : List MemPlace} (h : DataW.Trod enc P W base spare held t v d ps) : ∀ x ∈ ps, x.block < W.heap.size :=
  DataW.TrodAll.lt (trodAll_mk1 h)
end
end Go.Proofs.Ytgklfolmlcfjgaa
