/- Tubes in a block of their own. Nothing of the program's text is named here. -/
import Derived.Test.YtgjleeamhkolhaaGreatDoorPbTube0
import Derived.Test.YtgjleeamhkolhaaGreatDoorPbSpan
namespace Go.Proofs.YtgjleeamhkolhaaGreatDoor
open Go.RowKit

theorem BoxesAt.set {w : World} {a : Option Addr} {b o : Nat} {l : List Bx} (h : BoxesAt w a b o l) {p : Addr} (hp : p.block ≠ b) (v : Value) : BoxesAt (w.setCell p v) a b o l where
  here := h.here
  lt hl := by have := h.lt hl; simpa [World.setCell] using this
  cell i s hi j u hu := by
    rw [World.cell?_setCell_other _ _ _ _ (by intro e; exact hp (by rw [e]))]
    exact h.cell i s hi j u hu

/-- A tube that lies in a block of its own. -/
structure TubeIn (W : World) (B : Nat) (t : Tb) : Prop where
  lt : B < W.heap.size
  c0 : W.cell? ⟨B, 0, none⟩ = some (.string t.nm)
  c1 : W.cell? ⟨B, 1, none⟩ = some (.slice t.a t.l.length t.cap)
theorem TubeIn.keep {W W' : World} {B : Nat} {t : Tb} (h : TubeIn W B t) (hb : Below W.heap.size W W') : TubeIn W' B t where
  lt := Nat.lt_of_lt_of_le h.lt hb.size
  c0 := (hb.cell (p := ⟨B, 0, none⟩) h.lt).trans h.c0
  c1 := (hb.cell (p := ⟨B, 1, none⟩) h.lt).trans h.c1
theorem TubeIn.new (w : World) (t : Tb) (T : TypeId) : TubeIn (w.alloc (.cells #[.string t.nm, .slice t.a t.l.length t.cap] T)) w.heap.size t where
  lt := by simp
  c0 := by simp [go_sem]
  c1 := by simp [go_sem]
/-- The same tube, its boxes in block g. -/
abbrev Tb.put (t : Tb) (g : Nat) : Tb := ⟨t.nm, some ⟨g, 0, none⟩, g, 0, t.l.length, t.l⟩

theorem there_put {w : World} {b o n : Nat} (h : w.there b o n) {p : Addr} (hp : p.block ≠ b) (v : Value) : (w.setCell p v).there b o n := fun j hj => by
  have hb := heap_setCell_other w p b v (fun e => hp e.symm)
  have h1 := h j hj
  rw [World.cell?_of_block (a := ⟨b, o + j, none⟩) hb, World.frozen?_of_block (a := ⟨b, o + j, none⟩) hb]
  exact h1
end Go.Proofs.YtgjleeamhkolhaaGreatDoor
