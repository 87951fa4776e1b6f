import Derived.Test.YtmhppadblddjoaaEv
namespace Go.Proofs.Ytmhppadblddjoaa
open Go.RowKit

theorem infoEv : (Try.prog.info? 34).map (fun i => (i.zero, i.size, i.bytes)) = some (some (.agg #[.int .i64 0, .int .i64 0]), 2, 16) := by kernel_rfl

end Go.Proofs.Ytmhppadblddjoaa
