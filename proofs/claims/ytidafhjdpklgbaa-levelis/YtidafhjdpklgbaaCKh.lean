/- The functions' code in the short form, by the kernel. -/
import Derived.Test.YtidafhjdpklgbaaY1
import Derived.Test.YtidafhjdpklgbaaProg
import Derived.KernelRfl
namespace Go.Proofs.Ytidafhjdpklgbaa
open Y
set_option maxRecDepth 1000000
end Go.Proofs.Ytidafhjdpklgbaa
