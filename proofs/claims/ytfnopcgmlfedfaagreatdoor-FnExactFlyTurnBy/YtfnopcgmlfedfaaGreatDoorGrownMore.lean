/- Small laws of rows that grow, and of marks. -/
import Derived.Test.YtfnopcgmlfedfaaGreatDoorOwnMore
namespace Go.Proofs.YtfnopcgmlfedfaaGreatDoor
open Go.RowKit

theorem grown_set (W : World) (p : Addr) (v : Value) : W.grownBy (W.setCell p v) (some p.block) :=
  ⟨rfl, rfl, rfl, by simp [World.setCell], fun k _ hk => heap_setCell_other W p k v (fun e => hk (by rw [e]))⟩

theorem grown_over2 {a b c : World} {row : Option Nat} (h : a.grownBy b row) (k : b.grownBy c row) : a.grownBy c row :=
  ⟨k.os.trans h.os, k.tape.trans h.tape, k.output.trans h.output, Nat.le_trans h.size k.size, fun i hi hne => (k.block i (Nat.lt_of_lt_of_le hi h.size) hne).trans (h.block i hi hne)⟩

/-- The marks: numbers one behind another. -/
def markV (k0 : Int) (n : Nat) : List Value := (List.range n).map fun (j : Nat) => .int .i64 (k0 + (j : Int))
theorem markV_length (k0 : Int) (n : Nat) : (markV k0 n).length = n := by simp [markV]
theorem markV_get (k0 : Int) {n i : Nat} (h : i < n) : (markV k0 n)[i]? = some (.int .i64 (k0 + (i : Int))) := by simp [markV, h]
end Go.Proofs.YtfnopcgmlfedfaaGreatDoor
