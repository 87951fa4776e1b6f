import Derived.Test.YtmhppadblddjoaaLWd
import Derived.Test.YtmhppadblddjoaaI3
namespace Go.Proofs.Ytmhppadblddjoaa
open Go.RowKit

set_option maxRecDepth 100000 in
theorem lawWideM_c (a0 a1 : Option Addr) (len0 cap0 len1 cap1 : Nat) (w : World) (hb0 : Bytes w a0 len0) (hb1 : Bytes w a1 len1) :
    Calls Try.prog 5 #[.slice a0 len0 cap0, .slice a1 len1 cap1] w fun e w' => e = .returned (.bool true) ∧ Below w.heap.size w w' := by
  by_cases h0 : (1048576 : Int) < (len0 : Int)
  · clear hb0 hb1
    go_enter Try.func5, Try.ntmps5
    go_wp2
    go_ret
    exact ⟨rfl, Below.refl _ _⟩
  · by_cases h1 : (1048576 : Int) < (len1 : Int)
    · clear hb0 hb1
      go_enter Try.func5, Try.ntmps5
      go_wp2
      go_ret
      exact ⟨rfl, Below.refl _ _⟩
    · exact wide_in a0 a1 len0 cap0 len1 cap1 w (by omega) (by omega) hb0 hb1 (fun ad len cap f a s j m g o c w hl hr => implWide_s ad len cap f a s j m g o c w hl hr) (fun ad len cap f a s j m g o c w hl hr => specWide_s ad len cap f a s j m g o c w hl hr)

end Go.Proofs.Ytmhppadblddjoaa
