/- Lists of numbers in memory. -/
import Derived.Test.YtijcdikekgmfoaaGreatDoorData
import Derived.Test.YtijcdikekgmfoaaGreatDoorRows
import Derived.Test.YtijcdikekgmfoaaGreatDoorCls
import Derived.WalkKit
import Derived.WalkSpells
namespace Go.Proofs.YtijcdikekgmfoaaGreatDoor
open Go.RowKit

/-- The numbers zs lie in block b from offset o on. -/
structure IntsAt (w : World) (a : Option Addr) (b o : Nat) (zs : List Int) : Prop where
  here : zs ≠ [] → a = some ⟨b, o, none⟩
  lt : zs ≠ [] → b < w.heap.size
  cell : ∀ (i : Nat) (z : Int), zs[i]? = some z → w.cell? ⟨b, o + i, none⟩ = some (.int .i64 z)

theorem IntsAt.below {w w' : World} {a : Option Addr} {b o B : Nat} {zs : List Int} (h : IntsAt w a b o zs) (hb : Below B w w') (hB : zs ≠ [] → b < B) : IntsAt w' a b o zs where
  here := h.here
  lt hl := Nat.lt_of_lt_of_le (h.lt hl) hb.size
  cell i z hi := by
    have hne : zs ≠ [] := by intro e; subst e; simp at hi
    rw [hb.cell (p := ⟨b, o + i, none⟩) (hB hne)]
    exact h.cell i z hi
theorem IntsAt.alloc {w : World} {a : Option Addr} {b o : Nat} {zs : List Int} (h : IntsAt w a b o zs) (ob : Obj) : IntsAt (w.alloc ob) a b o zs :=
  h.below ((Below.refl w.heap.size w).alloc (Nat.le_refl _) ob) h.lt

theorem int_info : (Tryz.prog.info? 3).map (fun i => (i.zero, i.size, i.bytes)) = some (some (.int .i64 0), 1, 8) := by kernel_rfl
end Go.Proofs.YtijcdikekgmfoaaGreatDoor
