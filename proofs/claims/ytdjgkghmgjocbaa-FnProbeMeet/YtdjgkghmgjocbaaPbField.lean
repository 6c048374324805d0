/- The boxes of a lane. -/
import Derived.Test.YtdjgkghmgjocbaaPbTubeI
namespace Go.Proofs.Ytdjgkghmgjocbaa
open Go.RowKit

theorem lane_field (nm : ByteArray) (a : Option Addr) (n c : Nat) (w : World) : (Instr.field 84 (.agg #[.string nm, .slice a n c]) 1).run Try.prog w = .ok (.slice a n c) w := by
  simp [Instr.field, part, isAgg, asAgg, run_underlying Try.underlying84, run_underlying Try.underlying82, Result.andThen]
theorem lane_at (nm : ByteArray) (a : Option Addr) (cap : Nat) (l : List Bx) (w : World) :
    Calls Try.prog 41 #[.agg #[.string nm, .slice a l.length cap]] w fun e w' => e = .returned (.agg #[.string nm, .slice a l.length cap]) ∧ Below w.heap.size w w' := lane_any ⟨nm, a, 0, 0, cap, l⟩ w
end Go.Proofs.Ytdjgkghmgjocbaa
