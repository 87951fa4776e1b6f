import Derived.Test.YtmhppadblddjoaaDoorZTrueIFe
import Derived.Test.YtmhppadblddjoaaDoorZTrueLTr
import Derived.Test.YtmhppadblddjoaaDoorZTrueV4
namespace Go.Proofs.YtmhppadblddjoaaDoor
open Go.RowKit

set_option maxRecDepth 100000 in
theorem lawTrueM_c (a0 a1 : Option Addr) (len0 cap0 len1 cap1 : Nat) (w : World) (hb0 : Bytes w a0 len0) (hb1 : Bytes w a1 len1) (hV : Vars w) :
    Calls Tryd.prog 4 #[.slice a0 len0 cap0, .slice a1 len1 cap1] w fun e w' => e = .returned (.bool true) ∧ Below w.heap.size w w' := by
  by_cases h0 : (1048576 : Int) < (len0 : Int)
  · clear hb0 hb1
    go_enter Tryd.func4, Tryd.ntmps4
    go_wp2
    go_ret
    exact ⟨rfl, Below.refl _ _⟩
  · by_cases h1 : (1048576 : Int) < (len1 : Int)
    · clear hb0 hb1
      go_enter Tryd.func4, Tryd.ntmps4
      go_wp2
      go_ret
      exact ⟨rfl, Below.refl _ _⟩
    · exact true_in a0 a1 len0 cap0 len1 cap1 w (by omega) (by omega) hb0 hb1 (fun ad len cap f a s j m g o w hz hl hr => implFair_s ad len cap f a s j m g o w hl hr (hV.on hz)) (fun ad len cap f a x0 at2 n nc tf tc ar rn rc rd s j m g o w hz h1 h2 h3 h4 h5 h6 => implFelt_s ad len cap f a x0 at2 n nc tf tc ar rn rc rd s j m g o w h1 h2 h3 h4 h5 h6 (hV.on hz))

end Go.Proofs.YtmhppadblddjoaaDoor

