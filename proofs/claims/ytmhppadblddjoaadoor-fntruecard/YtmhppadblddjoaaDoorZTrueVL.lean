import Derived.Test.YtmhppadblddjoaaDoorRows
import Derived.Test.YtmhppadblddjoaaDoorTie
import Derived.ChangeSame
import Derived.ChangeVars
import Derived.JoinedOf
import Derived.RowKit
import Derived.RowKitTokens
import Derived.LaidLaws
import Derived.LaidHandle
import Derived.Stop.Joined
import Derived.Test.YtmhppadblddjoaaDoorZTrueOpen
import Derived.Test.YtmhppadblddjoaaDoorZTrueV4
/- From what the row lists to the variable's cell; a world that meets it (rows that list errors.errorType alone). After the guide's worked example on errors.As. -/
namespace Go.Proofs.YtmhppadblddjoaaDoor
open Go.ChangeShapes Go.WideShapes Go.RowKit

theorem vEt : Tryd.prog.globalNamed "errors.errorType" = some 0 := by kernel_rfl
theorem vRt : (Tryd.prog.cutTypes.find? (·.1 == "internal/reflectlite.rtype")).map (·.2) = some 168 := by kernel_rfl
theorem vOne : ((List.range 220).filter fun t => Tryd.prog.rowNamed t [101, 114, 114, 111, 114]) = [86] := by kernel_rfl
theorem vSize : Tryd.prog.types.size = 220 := by kernel_rfl

theorem handle_of_laid {W : World} (h : laidMetH Tryd.prog [("errors.errorType", Rows.laid_errors_errorType)] W) : Vars W := by
  have h' : laidMet Tryd.prog [] W ∧ handlesMet Tryd.prog [("errors.errorType", Rows.laid_errors_errorType)] W := h
  obtain ⟨name, u, ty, e1, e2, e3, e4, e5⟩ := h'.2 _ (List.mem_singleton.2 rfl)
  have en : name = [101, 114, 114, 111, 114] := (Option.some.inj e1).symm
  subst en
  obtain rfl := Option.some.inj (vRt.symm.trans e2)
  have hm : ty ∈ (List.range 220).filter fun t => Tryd.prog.rowNamed t [101, 114, 114, 111, 114] := List.mem_filter.2 ⟨List.mem_range.2 (by rw [← vSize]; exact e3), e4⟩
  rw [vOne] at hm
  obtain rfl := List.mem_singleton.1 hm
  have hh : typeHandle Tryd.prog 86 = .pointer (some ⟨4, 86, none⟩) := by kernel_rfl
  rw [hh] at e5
  simpa [Vars] using World.var?_cell vEt e5 0

theorem laidWorld_met (os : Os) (args : Array Value) : laidMetH Tryd.prog [("errors.errorType", Rows.laid_errors_errorType)] (({ World.holding Tryd.prog os ⟨#[], #[], []⟩ with heap := (World.holding Tryd.prog os ⟨#[], #[], []⟩).heap.modify 0 fun | .cells _ t frozen => .cells #[.iface 168 (.agg #[.pointer (some ⟨4, 86, none⟩)])] t frozen | o => o } : World).forCall (fun _ _ => 0) ⟨#[], args, []⟩).memory :=
  laidMetH_of_parts (laidMet_nil _ _) (by kernel_rfl)

end Go.Proofs.YtmhppadblddjoaaDoor

