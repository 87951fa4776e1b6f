import Derived.Test.YtmhppadblddjoaaLRm
import Derived.Test.YtmhppadblddjoaaI3
namespace Go.Proofs.Ytmhppadblddjoaa
open Go.RowKit

set_option maxRecDepth 100000 in
theorem lawRoomM_c (a0 a1 : Option Addr) (len0 cap0 len1 cap1 : Nat) (w : World) (hb0 : Bytes w a0 len0) (hb1 : Bytes w a1 len1) :
    Calls Try.prog 6 #[.slice a0 len0 cap0, .slice a1 len1 cap1] w fun e w' => e = .returned (.bool true) ∧ Below w.heap.size w w' := by
  by_cases h0 : (1048576 : Int) < (len0 : Int)
  · clear hb0 hb1
    go_enter Try.func6, Try.ntmps6
    go_wp2
    go_ret
    exact ⟨rfl, Below.refl _ _⟩
  · by_cases h1 : (1048576 : Int) < (len1 : Int)
    · clear hb0 hb1
      go_enter Try.func6, Try.ntmps6
      go_wp2
      go_ret
      exact ⟨rfl, Below.refl _ _⟩
    · exact room_in a0 a1 len0 cap0 len1 cap1 w (by omega) (by omega) hb0 hb1 (fun s j m g o kn l h si la od c w => implRoom_c s j m g o kn l h si la od c w) (fun ad len cap f a kn l h si la od w hl hr => implNext_s ad len cap f a kn l h si la od w hl hr)

end Go.Proofs.Ytmhppadblddjoaa
