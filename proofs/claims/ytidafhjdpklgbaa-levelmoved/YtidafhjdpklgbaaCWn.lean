/- The functions' code in the short form, by the kernel. -/
import Derived.Test.YtidafhjdpklgbaaY1
import Derived.Test.YtidafhjdpklgbaaProg
import Derived.KernelRfl
namespace Go.Proofs.Ytidafhjdpklgbaa
open Y
set_option maxRecDepth 1000000
def y34 : SF := .mk 15 [.cell 2 (some 2)] (.seq (.reg 0 [.mk (some 2) none (.alloc 39 [.int .i64 0, .nil])] [0, 2]) (.seq (.reg 1 [.mk (some 3) none (.lit 3 1 (.ints .i64 []) [.int .i64 0] [(0, 1, .c (.int .i64 1))]), .mk (some 4) none (.mov (.t 0)), .mk (some 5) none (.call 30 true [.t 4]), .mk (some 6) none (.app 3 1 8 (.t 3) (.t 5)), .mk (some 0) none (.mov (.t 6))] [0, 2]) (.seq (.reg 2 [.mk (some 7) none (.mov (.t 0)), .mk (some 8) none (.mov (.t 0)), .mk (some 9) none (.len false (.t 8)), .mk (some 10) none (.bin .sub (.t 9) (.c (.int .i64 64))), .mk (some 11) none (.mx true (.c (.int .i64 0)) (.t 10)), .mk (some 12) none (.sub true 1 (.t 7) (some (.t 11)) none), .mk (some 0) none (.mov (.t 12))] [0, 2]) (.seq (.reg 3 [.mk (some 13) none (.mov (.t 0)), .mk (some 14) none (.build [.int .i64 0, .nil] [(0, 1, .c (.int .i64 64)), (1, 1, .t 13)]), .mk none none (.store 2 (.t 2) (.t 14) (some 0))] [0, 2]) .ret))))
theorem y34_eq : cFunc Try.prog 34 = some y34 := by kernel_rfl
end Go.Proofs.Ytidafhjdpklgbaa
