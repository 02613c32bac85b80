/- The functions' code in the short form, by the kernel. -/
import Derived.Test.YtlfhcjohkpdkoaaY1
import Derived.Test.YtlfhcjohkpdkoaaProg
import Derived.KernelRfl
namespace Go.Proofs.Ytlfhcjohkpdkoaa
open Y
set_option maxRecDepth 1000000
end Go.Proofs.Ytlfhcjohkpdkoaa
