/- The functions' code in the short form, by the kernel. -/
import Derived.Test.YtgklfolmlcfjgaaY1
import Derived.Test.YtgklfolmlcfjgaaProg
import Derived.KernelRfl
namespace Go.Proofs.Ytgklfolmlcfjgaa
open Y
set_option maxRecDepth 1000000
def y52 : SF := .mk 15 [.t 6] (.seq (.reg 0 [.mk (some 6) none (.mov (.c (.bool false)))] [0, 1, 2, 6]) (.seq (.reg 1 [.mk (some 7) none (.mov (.t 0)), .mk (some 8) none (.mov (.t 1)), .mk (some 9) none (.bin .geq (.t 7) (.t 8)), .mk (some 10) none (.mov (.t 9)), .mk (some 11) (some (10, true)) (.mov (.t 0)), .mk (some 12) (some (10, true)) (.mov (.t 2)), .mk (some 13) (some (10, true)) (.bin .leq (.t 11) (.t 12)), .mk (some 14) none (.pick (.t 10) (.t 13) (.c (.bool false))), .mk (some 6) none (.mov (.t 14))] [0, 1, 2, 6]) .ret))
theorem y52_eq : cFunc Try.prog 52 = some y52 := by kernel_rfl
end Go.Proofs.Ytgklfolmlcfjgaa
