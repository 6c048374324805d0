/- What stays below behind one, two and three new blocks. -/
import Derived.Test.YtgjleeamhkolhaaGreatDoorData
namespace Go.Proofs.YtgjleeamhkolhaaGreatDoor
open Go.RowKit

theorem bel1 {w : World} (c1 : Obj) : Below w.heap.size w (w.alloc c1) := (Below.refl w.heap.size w).alloc (Nat.le_refl _) _
theorem bel2 {w : World} (c1 c2 : Obj) : Below w.heap.size w ((w.alloc c1).alloc c2) := (bel1 c1).alloc (by simp) _
theorem bel3 {w : World} (c1 c2 c3 : Obj) : Below w.heap.size w (((w.alloc c1).alloc c2).alloc c3) := (bel2 c1 c2).alloc (by simp; omega) _
end Go.Proofs.YtgjleeamhkolhaaGreatDoor
