/- What a box of the probe is made of. -/
import Derived.WalkKit
import Derived.Test.YtgjleeamhkolhaaGreatDoorRows
namespace Go.Proofs.YtgjleeamhkolhaaGreatDoor
open Go.RowKit

theorem pbox_info : (Tryz.prog.info? 195).map (fun i => (i.zero, i.size, i.bytes)) = some (some (.agg #[.int .i64 0, .int .i64 0, .int .i64 0, .int .i64 0, .int .i64 0, .int .i64 0]), 6, 48) := by kernel_rfl
end Go.Proofs.YtgjleeamhkolhaaGreatDoor
