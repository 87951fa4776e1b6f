import Derived.Test.YtmhppadblddjoabI3
import Derived.Test.YtmhppadblddjoabSp3
import Derived.Test.YtmhppadblddjoabLSurely
namespace Go.Proofs.Ytmhppadblddjoab
open Go.RowKit

theorem lawSurely_w (s j m g o : Int) (kn : Bool) (l h si la od : Int) (w : World) :
    Calls Try.prog 10 #[.agg #[.int .i64 s, .int .i64 j, .int .i64 m, .int .i64 g, .int .i64 o], .agg #[.bool kn, .int .i64 l, .int .i64 h, .int .i64 si, .int .i64 la, .int .i64 od]] w fun e w' => e = .returned (.bool true) ∧ Below w.heap.size w w' :=
  lawSurely_c s j m g o kn l h si la od (surelyA s j m g o kn l h).1 (surelyA s j m g o kn l h).2 w (fun w => specSurely_c s j m g o kn l h si la od w) (fun w => implSurely_c s j m g o kn l h si la od w)

end Go.Proofs.Ytmhppadblddjoab
