/- The contract of prod.Times: for every two numbers it returns the product, or ErrLarge, and writes nothing that was there. -/
import Derived.Test.YtlfhcjohkpdkoaaP1
import Derived.Test.YtlfhcjohkpdkoaaMulp
import Derived.Deep.RegionHeld3
import Derived.Deep.DrawnRows
import Derived.Deep.DeepCutAuto
namespace Go.Proofs.Ytlfhcjohkpdkoaa
open Go.RowKit
attribute [local go_sem ↓] Go.wp_at_zero Go.wp_at_succ
def TStart (w : World) (a b : Nat) (wx : World) : Prop :=
  Below w.heap.size w wx ∧ Pair wx w.heap.size (.int .u64 (hiN a)) (.int .u64 (loN a)) ∧ Pair wx (w.heap.size + 1) (.int .u64 (hiN b)) (.int .u64 (loN b)) ∧ Pair wx (w.heap.size + 1 + 1) (.int .u64 0) (.int .u64 0)
theorem tstart (w : World) (a b : Nat) : TStart w a b (((w.alloc (.cells #[.int .u64 (hiN a), .int .u64 (loN a)] 59)).alloc (.cells #[.int .u64 (hiN b), .int .u64 (loN b)] 59)).alloc (.cells #[.int .u64 0, .int .u64 0] 59)) := by
  refine ⟨(((Below.refl _ _).alloc (Nat.le_refl _) _).alloc (by simp) _).alloc (by simp; omega) _, ((Pair.new w _ _ _).up _).up _, ?_, ?_⟩
  · have := (Pair.new (w.alloc (.cells #[.int .u64 (hiN a), .int .u64 (loN a)] 59)) (.int .u64 (hiN b)) (.int .u64 (loN b)) 59).up (.cells #[.int .u64 0, .int .u64 0] 59)
    simpa using this
  · have := Pair.new ((w.alloc (.cells #[.int .u64 (hiN a), .int .u64 (loN a)] 59)).alloc (.cells #[.int .u64 (hiN b), .int .u64 (loN b)] 59)) (.int .u64 0) (.int .u64 0) 59
    simpa using this
def TMid (B : Nat) (w : World) (L R : Nat) (s6 s7 : Value) (wx : World) : Prop :=
  ∃ b6 b7, s6 = .pointer (some ⟨b6, 0, none⟩) ∧ s7 = .pointer (some ⟨b7, 0, none⟩) ∧ B ≤ b6 ∧ B ≤ b7 ∧ Below B w wx ∧ Pair wx b6 (.int .u64 (hiN L)) (.int .u64 (loN L)) ∧ Pair wx b7 (.int .u64 (hiN R)) (.int .u64 (loN R))
end Go.Proofs.Ytlfhcjohkpdkoaa
