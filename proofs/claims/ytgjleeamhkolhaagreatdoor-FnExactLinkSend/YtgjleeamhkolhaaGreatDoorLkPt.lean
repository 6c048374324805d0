/- A path as a value, and where it lies. Nothing of the program's text is named here. -/
import Derived.Test.YtgjleeamhkolhaaGreatDoorJ01
import Derived.Test.YtgjleeamhkolhaaGreatDoorPbBel
namespace Go.Proofs.YtgjleeamhkolhaaGreatDoor
open Go.RowKit

/-- A path, as an argument. -/
structure Pt where
  q : Int
  s : Int
  fr : Int
  b : Int
  a : Option Addr
  b0 : Nat
  o : Nat
  cap : Nat
  l : List Stp
abbrev Pt.val (p : Pt) : Value := .agg #[.int .i64 p.q, .int .i64 p.s, .slice p.a p.l.length p.cap, .int .i64 p.fr, .int .i64 p.b]
abbrev Pt.put (p : Pt) (g : Nat) : Pt := ⟨p.q, p.s, p.fr, p.b, some ⟨g, 0, none⟩, g, 0, p.l.length, p.l⟩
/-- Its steps lie there. -/
abbrev PtAt (w : World) (p : Pt) : Prop := StepsAt w p.a p.b0 p.o p.l
/-- Nothing. -/
def Pt.none (p : Pt) : Bool := (p.q == 0 && p.s == 0) && decide (p.l.length = 0) && (p.fr == 0) && (p.b == 0)
end Go.Proofs.YtgjleeamhkolhaaGreatDoor
