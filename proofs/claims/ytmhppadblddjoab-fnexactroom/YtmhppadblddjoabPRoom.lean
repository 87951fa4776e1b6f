import Derived.Test.YtmhppadblddjoabI3
import Derived.Test.YtmhppadblddjoabSp3
import Derived.Test.YtmhppadblddjoabLRoom
namespace Go.Proofs.Ytmhppadblddjoab
open Go.RowKit

theorem lawRoom_w (s j m g o : Int) (kn : Bool) (l h si la od : Int) (c : Int) (w : World) :
    Calls Try.prog 12 #[.agg #[.int .i64 s, .int .i64 j, .int .i64 m, .int .i64 g, .int .i64 o], .agg #[.bool kn, .int .i64 l, .int .i64 h, .int .i64 si, .int .i64 la, .int .i64 od], .int .i64 c] w fun e w' => e = .returned (.bool true) ∧ Below w.heap.size w w' :=
  lawRoom_c s j m g o kn l h si la od c (roomA s j m g o kn l h c) w (fun w => specRoom_c s j m g o kn l h si la od c w) (fun w => implRoom_c s j m g o kn l h si la od c w)

end Go.Proofs.Ytmhppadblddjoab
