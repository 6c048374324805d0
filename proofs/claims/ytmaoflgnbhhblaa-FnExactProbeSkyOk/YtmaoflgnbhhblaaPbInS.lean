/- l11In, by its contract. -/
import Derived.Test.YtmaoflgnbhhblaaRows
import Derived.Test.YtmaoflgnbhhblaaData
import Derived.WalkKit
import Derived.WalkSpells
namespace Go.Proofs.Ytmaoflgnbhhblaa
open Go.RowKit

theorem pin_any (n a b : Int) (w : World) :
    Calls Try.prog 25 #[.int .i64 n, .int .i64 a, .int .i64 b] w fun e w' => e = .returned (.bool (inB n a b)) ∧ w' = w := by
  by_cases h1 : a ≤ n
  · by_cases h2 : n ≤ b
    · go_enter Try.func25, Try.ntmps25
      go_wp2
      go_ret
      exact ⟨by simp [inB, h1, h2], rfl⟩
    · have h2' : decide (n ≤ b) = false := by simpa using h2
      go_enter Try.func25, Try.ntmps25
      go_wp2
      go_ret
      exact ⟨by simp [inB, h2'], rfl⟩
  · have h1' : decide (a ≤ n) = false := by simpa using h1
    go_enter Try.func25, Try.ntmps25
    go_wp2
    go_ret
    exact ⟨by simp [inB, h1'], rfl⟩

end Go.Proofs.Ytmaoflgnbhhblaa
