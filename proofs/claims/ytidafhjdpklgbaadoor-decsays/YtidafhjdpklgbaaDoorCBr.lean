/- The functions' code in the short form, by the kernel. -/
import Derived.Test.YtidafhjdpklgbaaDoorY1
import Derived.Test.YtidafhjdpklgbaaDoorProg
import Derived.KernelRfl
namespace Go.Proofs.YtidafhjdpklgbaaDoor
open Y
set_option maxRecDepth 1000000
def y14 : SF := .mk 6 [.cell 2 (some 2)] (.seq (.reg 0 [.mk (some 2) none (.alloc 24 [.int .u64 0, .int .u64 0])] [0, 2]) (.seq (.reg 1 [.mk (some 3) none (.mov (.t 0)), .mk (some 4) none (.conv .u64 (.t 3)), .mk (some 5) none (.build [.int .u64 0, .int .u64 0] [(1, 1, .t 4)]), .mk none none (.store 2 (.t 2) (.t 5) (some 0))] [0, 2]) .ret))
theorem y14_eq : cFunc Tryd.prog 14 = some y14 := by kernel_rfl
end Go.Proofs.YtidafhjdpklgbaaDoor
