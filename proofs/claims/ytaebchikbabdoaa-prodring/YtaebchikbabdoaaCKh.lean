/- The functions' code in the short form, by the kernel. -/
import Derived.Test.YtaebchikbabdoaaY1
import Derived.Test.YtaebchikbabdoaaProg
import Derived.KernelRfl
namespace Go.Proofs.Ytaebchikbabdoaa
open Y
set_option maxRecDepth 1000000
def y34 : SF := .mk 7 [.cell 2 (some 2)] (.seq (.reg 0 [.mk (some 1) none (.box 24 (.t 0)), .mk (some 2) none (.alloc 24 [.int .u64 0, .int .u64 0])] [0, 1, 2]) (.seq (.reg 1 [.mk (some 3) none (.faddr 1 (.t 1)), .mk (some 4) none (.load none (.t 3) (some 0)), .mk (some 5) none (.bin .shr (.t 4) (.c (.int .u64 22))), .mk (some 6) none (.build [.int .u64 0, .int .u64 0] [(1, 1, .t 5)]), .mk none none (.store 2 (.t 2) (.t 6) (some 1))] [0, 1, 2]) .ret))
theorem y34_eq : cFunc Try.prog 34 = some y34 := by kernel_rfl
end Go.Proofs.Ytaebchikbabdoaa
