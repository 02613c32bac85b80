/- The functions' code in the short form, by the kernel. -/
import Derived.Test.YtidafhjdpklgbaaY1
import Derived.Test.YtidafhjdpklgbaaProg
import Derived.KernelRfl
namespace Go.Proofs.Ytidafhjdpklgbaa
open Y
set_option maxRecDepth 1000000
def y67 : SF := .mk 24 [.t 4] (.seq (.reg 0 [.mk (some 2) none (.box 59 (.t 0)), .mk (some 3) none (.box 59 (.t 1)), .mk (some 4) none (.mov (.c (.int .i64 0)))] [0, 1, 2, 3, 4, 5, 6, 18]) (.seq (.reg 1 [.mk (some 5) none (.mov (.c (.int .i64 (-1))))] [0, 1, 2, 3, 4, 5, 6, 18]) (.seq (.seq (.reg 2 [.mk (some 7) none (.load (some 2) (.t 3) (some 1)), .mk (some 8) none (.call 62 true [.t 7]), .mk (some 6) none (.mov (.t 8))] [0, 1, 2, 3, 4, 5, 6, 18]) (.block 0 (.loop 3 (.seq (.seq (.reg 3 [.mk (some 9) none (.mov (.t 6)), .mk (some 10) none (.len false (.t 9)), .mk (some 11) none (.bin .gtr (.t 10) (.c (.int .i64 0))), .mk (some 12) none (.mov (.t 11)), .mk (some 13) (some (12, true)) (.mov (.t 6)), .mk (some 14) (some (12, true)) (.load (some 2) (.t 2) (some 0)), .mk (some 15) (some (12, true)) (.call 62 true [.t 14]), .mk (some 16) (some (12, true)) (.call 88 true [.t 13, .t 15]), .mk (some 17) (some (12, true)) (.bin .leq (.t 16) (.c (.int .i64 0))), .mk (some 18) none (.pick (.t 12) (.t 17) (.c (.bool false)))] [0, 1, 2, 3, 4, 5, 6, 18]) (.cond (.t 18) .skip (.exit 0))) (.seq (.block 1 (.reg 5 [.mk (some 21) none (.mov (.t 5)), .mk (some 22) none (.bin .add (.t 21) (.c (.int .i64 1))), .mk (some 5) none (.mov (.t 22))] [0, 1, 2, 3, 4, 5, 6, 18])) (.reg 4 [.mk (some 19) none (.mov (.t 6)), .mk (some 20) none (.call 87 true [.t 19, .c (.int .i64 1)]), .mk (some 6) none (.mov (.t 20))] [0, 1, 2, 3, 4, 5, 6, 18])))))) (.seq (.reg 6 [.mk (some 23) none (.mov (.t 5)), .mk (some 4) none (.mov (.t 23))] [0, 1, 2, 3, 4, 5, 6, 18]) .ret))))
theorem y67_eq : cFunc Try.prog 67 = some y67 := by kernel_rfl
def y63 : SF := .mk 6 [.cell 2 (some 2)] (.seq (.reg 0 [.mk (some 2) none (.alloc 59 [.int .u64 0, .int .u64 0])] [0, 2]) (.seq (.reg 1 [.mk (some 3) none (.mov (.t 0)), .mk (some 4) none (.conv .u64 (.t 3)), .mk (some 5) none (.build [.int .u64 0, .int .u64 0] [(1, 1, .t 4)]), .mk none none (.store 2 (.t 2) (.t 5) (some 0))] [0, 2]) .ret))
theorem y63_eq : cFunc Try.prog 63 = some y63 := by kernel_rfl
end Go.Proofs.Ytidafhjdpklgbaa
