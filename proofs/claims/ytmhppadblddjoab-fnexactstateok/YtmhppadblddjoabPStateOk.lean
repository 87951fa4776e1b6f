import Derived.Test.YtmhppadblddjoabISt
import Derived.Test.YtmhppadblddjoabLStateOk
namespace Go.Proofs.Ytmhppadblddjoab
open Go.RowKit

theorem implStateOk_r (q len : Nat) (f g : Nat → Int) (kn : Bool) (l h si la od : Int) (w : World) (hl : len ≤ 1048576) (hr : Row2 w q 0 len f g) :
    Calls Try.prog 29 #[.slice (some ⟨q, 0, none⟩) len len, .agg #[.bool kn, .int .i64 l, .int .i64 h, .int .i64 si, .int .i64 la, .int .i64 od]] w fun e w' => e = .returned (.bool (stB (marksB f g len) len kn l h si la od)) ∧ Below w.heap.size w w' :=
  implStateOk_c _ len len (marksB f g len) kn l h si la od w hl (by intro w' hw'; exact implMarksOk_c q 0 len len f g w' hl (hr.on hw'))

theorem lawStateOk_w (a : Option Addr) (len cap : Nat) (f g : Nat → Int) (kn : Bool) (l h si la od : Int) (w : World) (hlen : len ≤ 9223372036854775807) (hr : SRow w a len f g) :
    Calls Try.prog 6 #[.slice a len cap, .agg #[.bool kn, .int .i64 l, .int .i64 h, .int .i64 si, .int .i64 la, .int .i64 od]] w fun e w' => e = .returned (.bool true) ∧ Below w.heap.size w w' :=
  lawStateOk_c a len cap f g kn l h si la od w hlen hr (fun q w hl hr => implStateOk_r q len f g kn l h si la od w hl hr)

end Go.Proofs.Ytmhppadblddjoab
