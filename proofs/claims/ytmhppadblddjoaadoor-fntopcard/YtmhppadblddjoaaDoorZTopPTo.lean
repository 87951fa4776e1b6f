import Derived.Test.YtmhppadblddjoaaDoorZTopIAn
import Derived.Test.YtmhppadblddjoaaDoorZTopLTo
namespace Go.Proofs.YtmhppadblddjoaaDoor
open Go.RowKit

set_option maxRecDepth 100000 in
theorem lawTopM_c (a0 : Option Addr) (len0 cap0 : Nat) (w : World) (hb0 : Bytes w a0 len0) (hTab : Tab w) :
    Calls Tryd.prog 3 #[.slice a0 len0 cap0] w fun e w' => e = .returned (.bool true) ∧ Below w.heap.size w w' := by
  by_cases h0 : (1048576 : Int) < (len0 : Int)
  · clear hb0
    go_enter Tryd.func3, Tryd.ntmps3
    go_wp2
    go_ret
    exact ⟨rfl, Below.refl _ _⟩
  · exact top_in a0 len0 cap0 w (by omega) hb0 (fun s j m g o mv l h xv n T w hb hn hT HR => implAnswer_m s j m g o mv l h xv n T w hn hT HR (hTab.on hb))

end Go.Proofs.YtmhppadblddjoaaDoor

