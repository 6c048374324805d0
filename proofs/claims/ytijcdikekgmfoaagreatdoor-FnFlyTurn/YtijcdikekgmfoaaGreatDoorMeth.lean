/- Which method a bound's interface finds. -/
import Derived.Test.YtijcdikekgmfoaaGreatDoorLawImpl
namespace Go.Proofs.YtijcdikekgmfoaaGreatDoor
open Go.RowKit

/-- The method of a step that is a bound. -/
theorem method_step (nm : String) (h : Tryz.prog.underlying 136 = some (.interface #[(nm, 139)])) (t : Stp) (w : World) : (method 341 44 t.val nm).run Tryz.prog w = .ok (169, t.val) w := by
  rw [Tryz.underlying136] at h
  simp only [Option.some.injEq, TypeDesc.interface.injEq, Array.mk.injEq, List.cons.injEq, Prod.mk.injEq, and_true] at h
  subst h
  kernel_rfl
/-- The method of a path's end that is a bound. -/
theorem method_end (nm : String) (h : Tryz.prog.underlying 136 = some (.interface #[(nm, 139)])) (fr b : Int) (w : World) : (method 341 163 (.agg #[.int .i64 fr, .int .i64 b]) nm).run Tryz.prog w = .ok (172, .agg #[.int .i64 fr, .int .i64 b]) w := by
  rw [Tryz.underlying136] at h
  simp only [Option.some.injEq, TypeDesc.interface.injEq, Array.mk.injEq, List.cons.injEq, Prod.mk.injEq, and_true] at h
  subst h
  kernel_rfl
end Go.Proofs.YtijcdikekgmfoaaGreatDoor
