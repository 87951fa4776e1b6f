/- From what the row lists to the table's cells; a world that meets it (rows that list the three tables of strconv and math/bits). -/
import Derived.Test.YtmhppadblddjoacDoorIAn
import Derived.Test.YtmhppadblddjoacDoorOpen
import Derived.Test.YtmhppadblddjoacDoorRows
import Derived.Test.YtmhppadblddjoacDoorTie
import Derived.ChangeSame
import Derived.ChangeVars
import Derived.JoinedOf
import Derived.RowKit
import Derived.RowKitTokens
import Derived.LaidLaws
import Derived.LaidHandle
import Derived.Stop.Joined
import Derived.Stop.LaidErr
import Derived.Lib.LaidTab
import Derived.Lib.LaidIn
namespace Go.Proofs.YtmhppadblddjoacDoor
open Go.ChangeShapes Go.WideShapes Go.RowKit

abbrev tabsL : List (String × DataW Unit) := [("math/bits.deBruijn32tab", Rows.laid_math_bits_deBruijn32tab), ("math/bits.deBruijn64tab", Rows.laid_math_bits_deBruijn64tab), ("internal/strconv.uint64pow10", Rows.laid_internal_strconv_uint64pow10)]
theorem tab_of_laid {W : World} (h : laidMetH Tryd.prog tabsL W) : Tab W := by
  have h' : laidMet Tryd.prog tabsL W := h
  have h3 : laidMet Tryd.prog [("internal/strconv.uint64pow10", Lib.tabData .u64 Lib.pow10Tab)] W := h'.tail.tail
  exact Lib.tabIs_of_head (g := 1) (t := 189) (e := 183) (n := 20) (by kernel_rfl) (by kernel_rfl) Tryd.underlying189 Tryd.underlying183 (by kernel_rfl) (by kernel_rfl) h3

/-- A datum that is an array of integers, as cells. -/
def datV : DataW Unit → Array Value
  | .agg l => (l.map fun | .lit (.int k z) => Value.int k z | _ => undef).toArray
  | _ => #[]
def putV (h : Array Obj) (g : Nat) (cs : Array Value) : Array Obj := h.modify g fun
  | .cells _ t frozen => .cells cs t frozen
  | o => o
theorem laidWorld_met (os : Os) (args : Array Value) : laidMetH Tryd.prog tabsL (({ World.holding Tryd.prog os ⟨#[], #[], []⟩ with heap := putV (putV (putV (World.holding Tryd.prog os ⟨#[], #[], []⟩).heap 2 (datV Rows.laid_math_bits_deBruijn32tab)) 3 (datV Rows.laid_math_bits_deBruijn64tab)) 1 (datV Rows.laid_internal_strconv_uint64pow10) } : World).forCall (fun _ _ => 0) ⟨#[], args, []⟩).memory :=
  laidMetH_of_parts (LaidIn.of_run [2, 3, 1] 8 (by kernel_rfl) (by kernel_rfl) (by kernel_rfl) (by kernel_rfl)).met (by kernel_rfl)

end Go.Proofs.YtmhppadblddjoacDoor
