import Derived.Test.YtmhppadblddjoabIMk
import Derived.Test.YtmhppadblddjoabLMarksOk
namespace Go.Proofs.Ytmhppadblddjoab
open Go.RowKit

theorem lawMarksOk_w (a : Option Addr) (len cap : Nat) (f g : Nat → Int) (w : World) (hlen : len ≤ 9223372036854775807) (hr : SRow w a len f g) :
    Calls Try.prog 4 #[.slice a len cap] w fun e w' => e = .returned (.bool true) ∧ Below w.heap.size w w' :=
  lawMarksOk_c a len cap f g w hlen hr (fun q w hl hr => implMarksOk_c q 0 len len f g w hl hr)

end Go.Proofs.Ytmhppadblddjoab
