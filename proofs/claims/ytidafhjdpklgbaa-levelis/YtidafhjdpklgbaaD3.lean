/- The contract of prod.Div: quotient and remainder of every two numbers, or ErrZero. -/
import Derived.Test.YtidafhjdpklgbaaD2
namespace Go.Proofs.Ytidafhjdpklgbaa
open Go.RowKit
theorem box4 (w : World) (a0 a1 b0 b1 c0 c1 d0 d1 : Value) (t : TypeId) :
    Below w.heap.size w ((((w.alloc (.cells #[a0, a1] t)).alloc (.cells #[b0, b1] t)).alloc (.cells #[c0, c1] t)).alloc (.cells #[d0, d1] t)) ∧
    Pair ((((w.alloc (.cells #[a0, a1] t)).alloc (.cells #[b0, b1] t)).alloc (.cells #[c0, c1] t)).alloc (.cells #[d0, d1] t)) w.heap.size a0 a1 ∧
    Pair ((((w.alloc (.cells #[a0, a1] t)).alloc (.cells #[b0, b1] t)).alloc (.cells #[c0, c1] t)).alloc (.cells #[d0, d1] t)) (w.heap.size + 1) b0 b1 ∧
    Pair ((((w.alloc (.cells #[a0, a1] t)).alloc (.cells #[b0, b1] t)).alloc (.cells #[c0, c1] t)).alloc (.cells #[d0, d1] t)) (w.heap.size + 1 + 1) c0 c1 ∧
    Pair ((((w.alloc (.cells #[a0, a1] t)).alloc (.cells #[b0, b1] t)).alloc (.cells #[c0, c1] t)).alloc (.cells #[d0, d1] t)) (w.heap.size + 1 + 1 + 1) d0 d1 := by
  obtain ⟨b, p1, p2, p3⟩ := box3 w a0 a1 b0 b1 c0 c1 t
  exact ⟨bel_new b (Nat.le_refl _) _, p1.up _, p2.up _, p3.up _, Pair.new' _ _ _ _ _ (by simp)⟩
theorem zero_words {b : Nat} (h : hiN b = 0) (h' : loN b = 0) : b = 0 := by have := words b; omega
end Go.Proofs.Ytidafhjdpklgbaa
