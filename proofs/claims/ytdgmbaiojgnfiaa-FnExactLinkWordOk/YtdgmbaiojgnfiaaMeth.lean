/- Which method a bound's interface finds. -/
import Derived.Test.YtdgmbaiojgnfiaaLawImpl
namespace Go.Proofs.Ytdgmbaiojgnfiaa
open Go.RowKit

/-- The method of a step that is a bound. -/
theorem method_step (nm : String) (h : Try.prog.underlying 120 = some (.interface #[(nm, 123)])) (t : Stp) (w : World) : (method 255 100 t.val nm).run Try.prog w = .ok (127, t.val) w := by
  rw [Try.underlying120] at h
  simp only [Option.some.injEq, TypeDesc.interface.injEq, Array.mk.injEq, List.cons.injEq, Prod.mk.injEq, and_true] at h
  subst h
  kernel_rfl
/-- The method of a path's end that is a bound. -/
theorem method_end (nm : String) (h : Try.prog.underlying 120 = some (.interface #[(nm, 123)])) (fr b : Int) (w : World) : (method 255 134 (.agg #[.int .i64 fr, .int .i64 b]) nm).run Try.prog w = .ok (128, .agg #[.int .i64 fr, .int .i64 b]) w := by
  rw [Try.underlying120] at h
  simp only [Option.some.injEq, TypeDesc.interface.injEq, Array.mk.injEq, List.cons.injEq, Prod.mk.injEq, and_true] at h
  subst h
  kernel_rfl
end Go.Proofs.Ytdgmbaiojgnfiaa
