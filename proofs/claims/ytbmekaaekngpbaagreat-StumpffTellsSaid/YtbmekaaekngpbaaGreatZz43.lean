/- Texts of the seat, joined. -/
import Derived.Test.YtbmekaaekngpbaaGreatZz42
/- Package wave: sines and cosines. -/
namespace Go.Proofs.YtbmekaaekngpbaaGreat
open Go Go.RowKit
set_option linter.unusedSimpArgs false
set_option linter.unusedVariables false
set_option maxRecDepth 100000

theorem s0_v (c : Bool) (n : Int) : PureX Tryz.prog 35 #[ii 0] (rt (ivv (sV c n 0))) := (point_v 0).is (by kernel_rfl)
end Go.Proofs.YtbmekaaekngpbaaGreat
