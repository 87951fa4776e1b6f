import Derived.Test.YtmhppadblddjoabI3
import Derived.Test.YtmhppadblddjoabSp3
import Derived.Test.YtmhppadblddjoabLWide
namespace Go.Proofs.Ytmhppadblddjoab
open Go.RowKit

theorem lawWide_w (s j m g o : Int) (ad : Option Addr) (len cap : Nat) (f a : Nat → Int) (c : Int) (w : World) (hlen : len ≤ 9223372036854775807) (hrow : SRow w ad len f a) :
    Calls Try.prog 14 #[.agg #[.int .i64 s, .int .i64 j, .int .i64 m, .int .i64 g, .int .i64 o], .slice ad len cap, .int .i64 c] w fun e w' => e = .returned (.bool true) ∧ Below w.heap.size w w' :=
  lawWide_c ad len cap f a s j m g o c (wideA s j m g o f a len c) w hlen hrow (fun q w hl hr => specWide_c q 0 len len f a s j m g o c w hl hr) (fun q w hl hr => implWide_c q 0 len len f a s j m g o c w hl hr)

end Go.Proofs.Ytmhppadblddjoab
