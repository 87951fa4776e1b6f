import Derived.Test.YtmhppadblddjoabI3
import Derived.Test.YtmhppadblddjoabSp3
import Derived.Test.YtmhppadblddjoabLNext
namespace Go.Proofs.Ytmhppadblddjoab
open Go.RowKit

theorem lawNext_w (ad : Option Addr) (len cap : Nat) (f a : Nat → Int) (kn : Bool) (l h si la od : Int) (w : World) (hlen : len ≤ 9223372036854775807) (hrow : SRow w ad len f a) :
    Calls Try.prog 13 #[.slice ad len cap, .agg #[.bool kn, .int .i64 l, .int .i64 h, .int .i64 si, .int .i64 la, .int .i64 od]] w fun e w' => e = .returned (.bool true) ∧ Below w.heap.size w w' :=
  lawNext_c ad len cap f a kn l h si la od (nextA f a len kn l h) w hlen hrow (fun q w hl hr => specNext_c q 0 len len f a kn l h si la od w hl hr) (fun q w hl hr => implNext_c q 0 len len f a kn l h si la od w hl hr)

end Go.Proofs.Ytmhppadblddjoab
