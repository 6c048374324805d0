/- An answer that is a path and whether there is one. -/
import Derived.Test.YtijcdikekgmfoaaGreatDoorPathKit
namespace Go.Proofs.YtijcdikekgmfoaaGreatDoor
open Go.RowKit

/-- A path, and true; or nothing, and false. -/
structure Ans where
  q : Int
  s : Int
  fr : Int
  b : Int
  l : List Stp
  ok : Bool
def Ans.no : Ans := { q := 0, s := 0, fr := 0, b := 0, l := [], ok := false }
/-- What is answered: in memory of the call's own. -/
def Gives (A : Ans) (w : World) (e : Ending) (w' : World) : Prop :=
  ∃ v, e = .returned (.tuple #[.agg #[.int .i64 A.q, .int .i64 A.s, v, .int .i64 A.fr, .int .i64 A.b], .bool A.ok]) ∧ w'.ownsRow w.heap.size 44 7 v A.l.length (stepCells A.l) ∧ Below w.heap.size w w'
theorem Gives.none {w w' : World} {e : Ending} (he : e = .returned (.tuple #[.agg #[.int .i64 0, .int .i64 0, .slice none 0 0, .int .i64 0, .int .i64 0], .bool false])) (hb : Below w.heap.size w w') : Gives .no w e w' :=
  ⟨_, he, World.ownsRow_nil _ _ _ _, hb⟩
end Go.Proofs.YtijcdikekgmfoaaGreatDoor
