import Derived.Test.YtmhppadblddjoacDoorIFa
import Derived.Test.YtmhppadblddjoacDoorV4
import Derived.Test.YtmhppadblddjoacDoorSp4
import Derived.Test.YtmhppadblddjoacDoorLFair
namespace Go.Proofs.YtmhppadblddjoacDoor
open Go.RowKit

theorem lawFair_w (s j m g o : Int) (ad : Option Addr) (len cap : Nat) (f a : Nat → Int) (w : World) (hlen : len ≤ 9223372036854775807) (hrow : SRow w ad len f a) (hV : Vars w) :
    Calls Tryd.prog 3 #[.agg #[.int .i64 s, .int .i64 j, .int .i64 m, .int .i64 g, .int .i64 o], .slice ad len cap] w fun e w' => e = .returned (.bool true) ∧ Below w.heap.size w w' :=
  lawFair_c ad len cap f a s j m g o (fairA s j m g o f a len) w hlen hrow (fun q w hl hr => specFair_c q 0 len len f a s j m g o w hl hr) (fun q w hz hl hr => implFair_s (some ⟨q, 0, none⟩) len len f a s j m g o w hl (Or.inr ⟨q, 0, rfl, hr⟩) (hV.on hz))

end Go.Proofs.YtmhppadblddjoacDoor
