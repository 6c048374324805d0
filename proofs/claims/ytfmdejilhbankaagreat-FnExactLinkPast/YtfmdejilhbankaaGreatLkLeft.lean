/- What is left of a measure behind a text and a row. -/
import Derived.Test.YtfmdejilhbankaaGreatLkPt
import Derived.Test.YtfmdejilhbankaaGreatCopy2
import Derived.Test.YtfmdejilhbankaaGreatEq
namespace Go.Proofs.YtfmdejilhbankaaGreat
open Go.RowKit

/-- What is left of a measure behind a name and a list. -/
def leftN (left : Int) (z n : Nat) : Int := if left - z < 0 then -1 else leftB (left - z) n
theorem leftN_left (left : Int) (z n : Nat) (h1 : left ≤ 1048576) : -1 ≤ leftN left z n ∧ leftN left z n ≤ 1048576 := by
  unfold leftN leftB; split
  · omega
  · split <;> omega
theorem leftN_small {left : Int} {z n : Nat} (h1 : left ≤ 1048576) (h : 0 ≤ leftN left z n) : n ≤ 1048576 := by
  unfold leftN leftB at h; split at h
  · omega
  · split at h <;> omega
end Go.Proofs.YtfmdejilhbankaaGreat
