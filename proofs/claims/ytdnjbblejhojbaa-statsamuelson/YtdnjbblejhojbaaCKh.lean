/- The functions' code in the short form, by the kernel. -/
import Derived.Test.YtdnjbblejhojbaaY1
import Derived.Test.YtdnjbblejhojbaaProg
import Derived.KernelRfl
namespace Go.Proofs.Ytdnjbblejhojbaa
open Y
set_option maxRecDepth 1000000
end Go.Proofs.Ytdnjbblejhojbaa
