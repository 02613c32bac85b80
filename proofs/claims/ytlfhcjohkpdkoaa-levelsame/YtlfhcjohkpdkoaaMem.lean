/- Small laws of memory, of no program: what a cell reads, and that it may be written, behind a new block, a draw, a store elsewhere, a call that made memory. -/
import Derived.WalkKit
import Derived.WalkSpells
import Derived.WalkLawsBesides
import Derived.Lib.Hide
namespace Go.Proofs.Ytlfhcjohkpdkoaa
open Go.RowKit

theorem block_lt {w : World} {p : Addr} {v : Value} (h : w.cell? p = some v) : p.block < w.heap.size := by
  refine Nat.lt_of_not_le fun hn => ?_
  simp [World.cell?, Array.getElem?_eq_none hn] at h
theorem cell_up {w : World} {o : Obj} {p : Addr} {v : Value} (h : w.cell? p = some v) : (w.alloc o).cell? p = some v :=
  ((Below.cell ((Below.refl w.heap.size w).alloc (Nat.le_refl _) o) (block_lt h))).trans h
theorem cell_set {w : World} {p q : Addr} {v u : Value} (h : w.cell? p = some v) (hn : p.block ≠ q.block) : (w.setCell q u).cell? p = some v :=
  (World.cell?_of_block (w := w) (Below.heap_setCell w q u p.block hn)).trans h
theorem cell_drew {w : World} {p : Addr} {v : Value} (h : w.cell? p = some v) : w.drew.cell? p = some v := h
theorem cell_below {W w1 : World} {p : Addr} {v : Value} (hb : Below W.heap.size W w1) (h : W.cell? p = some v) : w1.cell? p = some v :=
  (hb.cell (block_lt h)).trans h
theorem frozen_up {w : World} {o : Obj} {p : Addr} {b : Bool} (hb : p.block < w.heap.size) (h : w.frozen? p = b) : (w.alloc o).frozen? p = b :=
  ((Below.frozen ((Below.refl w.heap.size w).alloc (Nat.le_refl _) o) hb)).trans h
theorem frozen_drew {w : World} {p : Addr} {b : Bool} (h : w.frozen? p = b) : w.drew.frozen? p = b := h
theorem frozen_set {w : World} {p q : Addr} {u : Value} {b : Bool} (h : w.frozen? p = b) (hn : p.block ≠ q.block) : (w.setCell q u).frozen? p = b :=
  (World.frozen?_of_block (w := w) (Below.heap_setCell w q u p.block hn)).trans h
theorem frozen_below {W w1 : World} {p : Addr} {b : Bool} (hb : Below W.heap.size W w1) (hl : p.block < W.heap.size) (h : W.frozen? p = b) : w1.frozen? p = b :=
  (hb.frozen hl).trans h
/-- Behind a call that made memory: all old cells and marks read as before. -/
theorem bcell {W w1 : World} (hb : Below W.heap.size W w1) : (∀ b o, b < W.heap.size → w1.cell? ⟨b, o, none⟩ = W.cell? ⟨b, o, none⟩) ∧ (∀ b o, b < W.heap.size → w1.frozen? ⟨b, o, none⟩ = W.frozen? ⟨b, o, none⟩) :=
  ⟨fun b o h => hb.cell (p := ⟨b, o, none⟩) h, fun b o h => hb.frozen (p := ⟨b, o, none⟩) h⟩
/-- Two words of one block, there, and free to be written. -/
def Pair (w : World) (b : Nat) (x y : Value) : Prop := w.cell? ⟨b, 0, none⟩ = some x ∧ w.cell? ⟨b, 1, none⟩ = some y ∧ w.frozen? ⟨b, 0, none⟩ = false ∧ w.frozen? ⟨b, 1, none⟩ = false
theorem Pair.lt {w : World} {b : Nat} {x y : Value} (h : Pair w b x y) : b < w.heap.size := block_lt h.1
theorem Pair.up {w : World} {b : Nat} {x y : Value} (h : Pair w b x y) (o : Obj) : Pair (w.alloc o) b x y :=
  ⟨cell_up h.1, cell_up h.2.1, frozen_up h.lt h.2.2.1, frozen_up h.lt h.2.2.2⟩
theorem Pair.drew {w : World} {b : Nat} {x y : Value} (h : Pair w b x y) : Pair w.drew b x y := h
theorem Pair.below {w w1 : World} {b : Nat} {x y : Value} (h : Pair w b x y) (hb : Below w.heap.size w w1) : Pair w1 b x y :=
  ⟨cell_below hb h.1, cell_below hb h.2.1, frozen_below hb h.lt h.2.2.1, frozen_below hb h.lt h.2.2.2⟩
theorem Pair.set {w : World} {b : Nat} {x y : Value} (h : Pair w b x y) {q : Addr} (u : Value) (hn : b ≠ q.block) : Pair (w.setCell q u) b x y :=
  ⟨cell_set h.1 hn, cell_set h.2.1 hn, frozen_set h.2.2.1 hn, frozen_set h.2.2.2 hn⟩
theorem Pair.new (w : World) (x y : Value) (t : TypeId) : Pair (w.alloc (.cells #[x, y] t)) w.heap.size x y := by
  refine ⟨by go_simp, by go_simp, by go_simp, by go_simp⟩
theorem Pair.new' (w : World) (n : Nat) (x y : Value) (t : TypeId) (hn : n = w.heap.size) : Pair (w.alloc (.cells #[x, y] t)) n x y := by subst hn; exact Pair.new w x y t
theorem Pair.up' {w : World} {o : Obj} {b : Nat} {x y : Value} (h : Pair w b x y) : Pair (w.alloc o) b x y := h.up o
theorem Pair.put {w : World} {b : Nat} {x y : Value} (h : Pair w b x y) (u v : Value) : Pair ((w.setCell ⟨b, 0, none⟩ u).setCell ⟨b, 1, none⟩ v) b u v := by
  obtain ⟨h0, h1, h2, h3⟩ := h
  have e : (w.setCell ⟨b, 0, none⟩ u).cell? ⟨b, 1, none⟩ = some y := (World.cell?_setCell_other _ _ _ _ (by simp)).trans h1
  exact ⟨(World.cell?_setCell_other _ _ _ _ (by simp)).trans (World.cell?_setCell_same _ _ _ h0), World.cell?_setCell_same _ _ _ e, by simp [h2], by simp [h3]⟩
/-- Three variables written anew: what they hold, and that nothing below has turned. -/
theorem stored3 {w0 w : World} {a0 a1 b0 b1 c0 c1 : Value} (A : Pair w w0.heap.size a0 a1) (B : Pair w (w0.heap.size + 1) b0 b1) (C : Pair w (w0.heap.size + 1 + 1) c0 c1) (bel : Below w0.heap.size w0 w) (u0 u1 v0 v1 t0 t1 : Value) :
    Pair ((((((w.setCell ⟨w0.heap.size, 0, none⟩ u0).setCell ⟨w0.heap.size, 1, none⟩ u1).setCell ⟨w0.heap.size + 1, 0, none⟩ v0).setCell ⟨w0.heap.size + 1, 1, none⟩ v1).setCell ⟨w0.heap.size + 1 + 1, 0, none⟩ t0).setCell ⟨w0.heap.size + 1 + 1, 1, none⟩ t1) w0.heap.size u0 u1 ∧
    Pair ((((((w.setCell ⟨w0.heap.size, 0, none⟩ u0).setCell ⟨w0.heap.size, 1, none⟩ u1).setCell ⟨w0.heap.size + 1, 0, none⟩ v0).setCell ⟨w0.heap.size + 1, 1, none⟩ v1).setCell ⟨w0.heap.size + 1 + 1, 0, none⟩ t0).setCell ⟨w0.heap.size + 1 + 1, 1, none⟩ t1) (w0.heap.size + 1) v0 v1 ∧
    Pair ((((((w.setCell ⟨w0.heap.size, 0, none⟩ u0).setCell ⟨w0.heap.size, 1, none⟩ u1).setCell ⟨w0.heap.size + 1, 0, none⟩ v0).setCell ⟨w0.heap.size + 1, 1, none⟩ v1).setCell ⟨w0.heap.size + 1 + 1, 0, none⟩ t0).setCell ⟨w0.heap.size + 1 + 1, 1, none⟩ t1) (w0.heap.size + 1 + 1) t0 t1 ∧
    Below w0.heap.size w0 ((((((w.setCell ⟨w0.heap.size, 0, none⟩ u0).setCell ⟨w0.heap.size, 1, none⟩ u1).setCell ⟨w0.heap.size + 1, 0, none⟩ v0).setCell ⟨w0.heap.size + 1, 1, none⟩ v1).setCell ⟨w0.heap.size + 1 + 1, 0, none⟩ t0).setCell ⟨w0.heap.size + 1 + 1, 1, none⟩ t1) := by
  have A1 := A.put u0 u1
  have B1 := (B.set (q := ⟨w0.heap.size, 0, none⟩) u0 (by simp)).set (q := ⟨w0.heap.size, 1, none⟩) u1 (by simp)
  have C1 := (C.set (q := ⟨w0.heap.size, 0, none⟩) u0 (by simp; omega)).set (q := ⟨w0.heap.size, 1, none⟩) u1 (by simp; omega)
  have A2 := (A1.set (q := ⟨w0.heap.size + 1, 0, none⟩) v0 (by simp)).set (q := ⟨w0.heap.size + 1, 1, none⟩) v1 (by simp)
  have B2 := B1.put v0 v1
  have C2 := (C1.set (q := ⟨w0.heap.size + 1, 0, none⟩) v0 (by simp)).set (q := ⟨w0.heap.size + 1, 1, none⟩) v1 (by simp)
  have A3 := (A2.set (q := ⟨w0.heap.size + 1 + 1, 0, none⟩) t0 (by simp; omega)).set (q := ⟨w0.heap.size + 1 + 1, 1, none⟩) t1 (by simp; omega)
  have B3 := (B2.set (q := ⟨w0.heap.size + 1 + 1, 0, none⟩) t0 (by simp)).set (q := ⟨w0.heap.size + 1 + 1, 1, none⟩) t1 (by simp)
  have C3 := C2.put t0 t1
  exact ⟨A3, B3, C3, (((((bel.setCell (by simp) _).setCell (by simp) _).setCell (by simp) _).setCell (by simp) _).setCell (by simp; omega) _).setCell (by simp; omega) _⟩
/-- 'Below' over a new block, a draw, a store into new memory, in one step each. -/
theorem bel_new {B : Nat} {w W : World} (h : Below B w W) (hB : B ≤ w.heap.size) (o : Obj) : Below B w (W.alloc o) := h.alloc (Nat.le_trans hB h.size) o
theorem bel_call {B : Nat} {w W w1 : World} (h : Below B w W) (hB : B ≤ w.heap.size) (hb : Below W.heap.size W w1) : Below B w w1 := h.trans (hb.mono (Nat.le_trans hB h.size))
end Go.Proofs.Ytlfhcjohkpdkoaa
