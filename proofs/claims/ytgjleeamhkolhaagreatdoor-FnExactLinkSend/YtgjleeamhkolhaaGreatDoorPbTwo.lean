/- Two tubes, each in a block of its own. -/
import Derived.Test.YtgjleeamhkolhaaGreatDoorPbTubeK
namespace Go.Proofs.YtgjleeamhkolhaaGreatDoor
open Go.RowKit

/-- Two tubes that lie in blocks of their own. -/
structure TwoT (w W : World) (t u : Tb) : Prop where
  old : Below w.heap.size w W
  one : TubeIn W w.heap.size t
  two : TubeIn W (w.heap.size + 1) u
theorem TwoT.keep {w W W' : World} {t u : Tb} (h : TwoT w W t u) (hb : Below W.heap.size W W') : TwoT w W' t u := ⟨h.old.trans (hb.mono h.old.size), h.one.keep hb, h.two.keep hb⟩
theorem TwoT.new (w : World) (t u : Tb) (T : TypeId) : TwoT w ((w.alloc (.cells #[.string t.nm, .slice t.a t.l.length t.cap] T)).alloc (.cells #[.string u.nm, .slice u.a u.l.length u.cap] T)) t u :=
  ⟨bel2 _ _, (TubeIn.new w t T).keep (bel1 _), by have := TubeIn.new (w.alloc (.cells #[.string t.nm, .slice t.a t.l.length t.cap] T)) u T; rwa [World.size_alloc] at this⟩
theorem old_alloc {W : World} {B : Nat} (hB : B < W.heap.size) : ∀ (ob : Obj) (j : Nat), (W.alloc ob).cell? ⟨B, j, none⟩ = W.cell? ⟨B, j, none⟩ := fun ob j => (bel1 ob).cell (p := ⟨B, j, none⟩) hB
end Go.Proofs.YtgjleeamhkolhaaGreatDoor
