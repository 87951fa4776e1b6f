import Derived.Test.YtmhppadblddjoaaDoorEv
namespace Go.Proofs.YtmhppadblddjoaaDoor
open Go.RowKit

theorem infoEv : (Tryd.prog.info? 48).map (fun i => (i.zero, i.size, i.bytes)) = some (some (.agg #[.int .i64 0, .int .i64 0]), 2, 16) := by kernel_rfl

end Go.Proofs.YtmhppadblddjoaaDoor
