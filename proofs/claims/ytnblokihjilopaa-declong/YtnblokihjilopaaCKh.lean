/- The functions' code in the short form, by the kernel. -/
import Derived.Test.YtnblokihjilopaaY1
import Derived.Test.YtnblokihjilopaaProg
import Derived.KernelRfl
namespace Go.Proofs.Ytnblokihjilopaa
open Y
set_option maxRecDepth 1000000
end Go.Proofs.Ytnblokihjilopaa
