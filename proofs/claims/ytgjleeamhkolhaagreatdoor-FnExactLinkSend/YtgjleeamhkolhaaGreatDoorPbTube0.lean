/- Tubes, as they lie in memory. Nothing of the program's text is named here. -/
import Derived.Test.YtgjleeamhkolhaaGreatDoorPbData
namespace Go.Proofs.YtgjleeamhkolhaaGreatDoor
open Go.RowKit

/-- A tube: its name, and where its boxes lie. -/
structure Tb where
  nm : ByteArray
  a : Option Addr
  b : Nat
  o : Nat
  cap : Nat
  l : List Bx
abbrev Tb.val (t : Tb) : Value := .agg #[.string t.nm, .slice t.a t.l.length t.cap]
/-- Its boxes lie there. -/
structure TubeAt (w : World) (t : Tb) : Prop where
  at_ : BoxesAt w t.a t.b t.o t.l
theorem TubeAt.below {w w' : World} {t : Tb} (h : TubeAt w t) (hb : Below w.heap.size w w') : TubeAt w' t := ⟨h.at_.below hb h.at_.lt⟩
/-- Tubes lie in block b from offset o on, two cells each. -/
structure TubesAt (w : World) (a : Option Addr) (b o : Nat) (ts : List Tb) : Prop where
  here : ts ≠ [] → a = some ⟨b, o, none⟩
  lt : ts ≠ [] → b < w.heap.size
  cell : ∀ (i : Nat) (t : Tb), ts[i]? = some t → w.rangeAt b (o + i * 2) [.string t.nm, .slice t.a t.l.length t.cap]
  each : ∀ t ∈ ts, TubeAt w t
theorem TubesAt.below {w w' : World} {a : Option Addr} {b o : Nat} {ts : List Tb} (h : TubesAt w a b o ts) (hb : Below w.heap.size w w') : TubesAt w' a b o ts where
  here := h.here
  lt hl := Nat.lt_of_lt_of_le (h.lt hl) hb.size
  cell i t hi := range_below (h.cell i t hi) hb (h.lt (by intro e; subst e; simp at hi))
  each t ht := (h.each t ht).below hb
theorem TubesAt.two {w : World} {a : Option Addr} {b o : Nat} {ts : List Tb} (h : TubesAt w a b o ts) {i : Nat} {t : Tb} (hi : ts[i]? = some t) :
    w.cell? ⟨b, o + i * 2, none⟩ = some (.string t.nm) ∧ w.cell? ⟨b, o + i * 2 + 1, none⟩ = some (.slice t.a t.l.length t.cap) :=
  ⟨h.cell i t hi 0 _ rfl, h.cell i t hi 1 _ rfl⟩
end Go.Proofs.YtgjleeamhkolhaaGreatDoor
