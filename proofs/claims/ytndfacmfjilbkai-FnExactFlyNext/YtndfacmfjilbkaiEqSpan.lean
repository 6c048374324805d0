/- The law's own comparison of two spans, by its contract. -/
import Derived.Test.YtndfacmfjilbkaiRows
import Derived.WalkKit
import Derived.WalkSpells
namespace Go.Proofs.Ytndfacmfjilbkai
open Go.RowKit

theorem eqSpan_same (x y : Int) (w : World) :
    Calls Try.prog 11 #[.agg #[.int .i64 x, .int .i64 y], .agg #[.int .i64 x, .int .i64 y]] w fun e w' => e = .returned (.bool true) ∧ Below w.heap.size w w' := by
  go_enter Try.func11, Try.ntmps11
  go_wp2
  go_ret
  exact ⟨rfl, ((Below.refl _ _).alloc (Nat.le_refl _) _).alloc (by simp) _⟩
end Go.Proofs.Ytndfacmfjilbkai
