/- What the listed package variable holds, and that it is kept (a door seat: errors.As reads errors.errorType). -/
import Derived.Test.YtmhppadblddjoaaDoorW1
namespace Go.Proofs.YtmhppadblddjoaaDoor
open Go.RowKit

def Vars (w : World) : Prop := w.cell? ⟨0, 0, none⟩ = some (.iface 168 (.agg #[.pointer (some ⟨4, 86, none⟩)]))
theorem Vars.on {w w' : World} (h : Vars w) (hb : Below w.heap.size w w') : Vars w' := cellOn hb h

end Go.Proofs.YtmhppadblddjoaaDoor
