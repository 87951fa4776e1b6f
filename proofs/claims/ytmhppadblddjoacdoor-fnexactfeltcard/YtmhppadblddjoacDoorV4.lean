/- What the listed package variable holds, and that it is kept (a door seat: errors.As reads errors.errorType). -/
import Derived.Test.YtmhppadblddjoacDoorW1
namespace Go.Proofs.YtmhppadblddjoacDoor
open Go.RowKit

def Vars (w : World) : Prop := w.cell? ⟨0, 0, none⟩ = some (.iface 162 (.agg #[.pointer (some ⟨4, 71, none⟩)]))
theorem Vars.on {w w' : World} (h : Vars w) (hb : Below w.heap.size w w') : Vars w' := cellOn hb h

end Go.Proofs.YtmhppadblddjoacDoor
