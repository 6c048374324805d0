/- The boxes of a lane. -/
import Derived.Test.YtgjleeamhkolhaaGreatDoorPbTubeI
namespace Go.Proofs.YtgjleeamhkolhaaGreatDoor
open Go.RowKit

theorem lane_field (nm : ByteArray) (a : Option Addr) (n c : Nat) (w : World) : (Instr.field 220 (.agg #[.string nm, .slice a n c]) 1).run Tryz.prog w = .ok (.slice a n c) w := by
  simp [Instr.field, part, isAgg, asAgg, run_underlying Tryz.underlying220, run_underlying Tryz.underlying218, Result.andThen]
theorem lane_at (nm : ByteArray) (a : Option Addr) (cap : Nat) (l : List Bx) (w : World) :
    Calls Tryz.prog 151 #[.agg #[.string nm, .slice a l.length cap]] w fun e w' => e = .returned (.agg #[.string nm, .slice a l.length cap]) ∧ Below w.heap.size w w' := lane_any ⟨nm, a, 0, 0, cap, l⟩ w
end Go.Proofs.YtgjleeamhkolhaaGreatDoor
