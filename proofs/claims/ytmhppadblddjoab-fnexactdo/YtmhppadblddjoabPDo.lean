import Derived.Test.YtmhppadblddjoabIDoC
import Derived.Test.YtmhppadblddjoabLDo
namespace Go.Proofs.Ytmhppadblddjoab
open Go.RowKit

theorem lawDo_w (s j m g o : Int) (ad : Option Addr) (len cap : Nat) (f a : Nat → Int) (kn : Bool) (l h si la od op n : Int) (w : World) (hlen : len ≤ 9223372036854775807) (hrow : SRow w ad len f a) :
    Calls Try.prog 7 #[.agg #[.int .i64 s, .int .i64 j, .int .i64 m, .int .i64 g, .int .i64 o], .slice ad len cap, .agg #[.bool kn, .int .i64 l, .int .i64 h, .int .i64 si, .int .i64 la, .int .i64 od], .agg #[.int .i64 op, .int .i64 n]] w fun e w' => e = .returned (.bool true) ∧ Below w.heap.size w w' :=
  lawDo_c ad len cap f a s j m g o kn l h si la od op n (doA s j m g o len f a ⟨kn, l, h, si, la, od⟩ op n) w hlen hrow
    (fun q w hl hr => specDo_c q 0 len len f a s j m g o ⟨kn, l, h, si, la, od⟩ op n w hl hr)
    (fun q w hl hr => implDo_s (some ⟨q, 0, none⟩) len len f a s j m g o ⟨kn, l, h, si, la, od⟩ op n w hl (.inr ⟨q, 0, rfl, hr⟩))

end Go.Proofs.Ytmhppadblddjoab
