/- The functions' code in the short form, by the kernel. -/
import Derived.Test.YtgklfolmlcfjgaaY1
import Derived.Test.YtgklfolmlcfjgaaProg
import Derived.KernelRfl
namespace Go.Proofs.Ytgklfolmlcfjgaa
open Y
set_option maxRecDepth 1000000
def y50 : SF := .mk 5 [.t 2] (.seq (.reg 0 [.mk (some 2) none (.mov (.c (.bool false)))] [0, 2]) (.seq (.reg 1 [.mk (some 3) none (.mov (.t 0)), .mk (some 4) none (.call 52 true [.t 3, .c (.int .i64 0), .c (.int .i64 1073741824)]), .mk (some 2) none (.mov (.t 4))] [0, 2]) .ret))
theorem y50_eq : cFunc Try.prog 50 = some y50 := by kernel_rfl
end Go.Proofs.Ytgklfolmlcfjgaa
