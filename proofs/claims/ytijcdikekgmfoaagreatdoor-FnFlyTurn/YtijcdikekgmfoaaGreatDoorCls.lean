/- A class of worlds for regions that draw their order: what lay there lies there; callees may lay new blocks. -/
import Derived.WalkKit
import Derived.BigQuiet
namespace Go.Proofs.YtijcdikekgmfoaaGreatDoor
open Go.RowKit

/-- The worlds in which all that lay in w lies as it lay. -/
structure Cls (w : World) where
  it : World
  same : Below w.heap.size w it

theorem Cls.any (w : World) : Nonempty (Cls w) := ⟨⟨w, Below.refl _ _⟩⟩

/-- One walk of the lexical order serves every order, where the operations only read and the callees lay new blocks at most. -/
theorem wp_region_cls {P : Program} {id : Nat} {Q : Exit → Act → World → Prop} {a : Act} {w : World} {l : List Oper} (hm : P.follows .mixedOrders = true) (hB : Region.lexB .any l.toArray = true)
    (h : wpQuiet P l.toArray (fun w' => ∃ u : Cls w, w' = u.it) (fun a' => ∀ w', (∃ u : Cls w, w' = u.it) → Q .normal a' w') l a) : (Code.region id l.toArray true).wp P Q a w :=
  wp_region_quiet (C := fun w' => ∃ u : Cls w, w' = u.it) hm hB ⟨⟨{ w with drawn := w.drawn + 1 }, (Below.refl w.heap.size w).drew⟩, rfl⟩ (by simpa using h)

/-- A callee's contract, met in a world of the class. -/
theorem Calls.cls_of {P : Program} {f : FuncId} {args : Array Value} {w : World} {u : Cls w} {v : Value}
    (h : Calls P f args u.it fun e w' => e = .returned v ∧ Below u.it.heap.size u.it w') : Calls P f args u.it fun e w'' => e = .returned v ∧ ∃ m : Cls w, w'' = m.it :=
  h.mono fun _ w' ⟨he, hb⟩ => ⟨he, ⟨w', u.same.trans (hb.mono u.same.size)⟩, rfl⟩
theorem Calls.cls_of_same {P : Program} {f : FuncId} {args : Array Value} {w : World} {u : Cls w} {v : Value}
    (h : Calls P f args u.it fun e w' => e = .returned v ∧ w' = u.it) : Calls P f args u.it fun e w'' => e = .returned v ∧ ∃ m : Cls w, w'' = m.it :=
  h.mono fun _ _ ⟨he, hb⟩ => ⟨he, u, hb⟩

/-- A block that lay there reads as it did. -/
theorem Cls.cell {w : World} {b : Nat} (hb : b < w.heap.size) (u : Cls w) (o : Nat) : u.it.cell? ⟨b, o, none⟩ = w.cell? ⟨b, o, none⟩ := u.same.cell (p := ⟨b, o, none⟩) hb
end Go.Proofs.YtijcdikekgmfoaaGreatDoor
