/- The code of a refusal, by the contract of codeOf: of no error, and of a refusal. -/
import Derived.Test.YtgjleeamhkolhaaGreatDoorLkErrAs
import Derived.Test.YtgjleeamhkolhaaGreatDoorData
namespace Go.Proofs.YtgjleeamhkolhaaGreatDoor
open Go.RowKit

/-- The variable errors.errorType is laid. -/
def ErrT (w : World) : Prop := w.cell? ⟨0, 0, none⟩ = some (.iface 164 (.agg #[.pointer (some ⟨1, 69, none⟩)]))
theorem ErrT.lt {w : World} (h : ErrT w) : 0 < w.heap.size := by
  rcases Nat.eq_zero_or_pos w.heap.size with h0 | h1
  · unfold ErrT at h; simp [World.cell?, h0] at h
  · exact h1
theorem ErrT.below {w w' : World} (h : ErrT w) (hb : Below w.heap.size w w') : ErrT w' := (hb.cell (p := ⟨0, 0, none⟩) h.lt).trans h
/-- An error that is a refusal. -/
abbrev refV (c : Int) : Value := .iface 104 (.agg #[.int .i64 c])

set_option maxHeartbeats 1000000 in
theorem codeOf_none (w : World) : Calls Tryz.prog 34 #[.nilIface] w fun e w' => e = .returned (.int .i64 0) ∧ Below w.heap.size w w' := by
  have B0 := (Below.refl w.heap.size w).alloc (Nat.le_refl _) (.cells #[.int .i64 0] 104)
  go_enter Tryz.func34, Tryz.ntmps34
  go_wp2_with fail
  refine (as_none _ _).mono ?_
  rintro e w1 ⟨rfl, rfl⟩
  go_wp2
  go_ret
  exact ⟨rfl, B0⟩

set_option maxHeartbeats 1000000 in
theorem codeOf_ref (c : Int) (w : World) (hg : ErrT w) : Calls Tryz.prog 34 #[refV c] w fun e w' => e = .returned (.int .i64 c) ∧ Below w.heap.size w w' := by
  have B0 := (Below.refl w.heap.size w).alloc (Nat.le_refl _) (.cells #[.int .i64 0] 104)
  have hg1 : ErrT (w.alloc (.cells #[.int .i64 0] 104)) := hg.below B0
  have hc : (w.alloc (.cells #[.int .i64 0] 104)).cell? ⟨w.heap.size, 0, none⟩ = some (.int .i64 0) := by simp [go_sem]
  have hf : (w.alloc (.cells #[.int .i64 0] 104)).frozen? ⟨w.heap.size, 0, none⟩ = false := by simp [go_sem]
  go_enter Tryz.func34, Tryz.ntmps34
  go_wp2_with fail
  refine (as_refusal c ⟨w.heap.size, 0, none⟩ (.int .i64 0) _ hg1 hc hf).mono ?_
  rintro e w1 ⟨rfl, hw1⟩
  have c1 : w1.cell? ⟨w.heap.size, 0, none⟩ = some (.int .i64 c) := by
    rw [hw1]
    refine World.cell?_setCell_same _ _ _ (u := .int .i64 0) ?_
    rw [World.cell?_alloc_lt _ _ ⟨w.heap.size, 0, none⟩ (by simp; omega), World.cell?_alloc_lt _ _ ⟨w.heap.size, 0, none⟩ (by simp; omega), World.cell?_alloc_lt _ _ ⟨w.heap.size, 0, none⟩ (by simp; omega), World.cell?_alloc_lt _ _ ⟨w.heap.size, 0, none⟩ (by simp)]
    exact hc
  have B1 : Below w.heap.size w w1 := by
    rw [hw1]
    refine Below.setCell ?_ (show w.heap.size ≤ w.heap.size from Nat.le_refl _) _
    refine Below.alloc ?_ (by simp; omega) _
    refine Below.alloc ?_ (by simp; omega) _
    refine Below.alloc ?_ (by simp; omega) _
    refine Below.alloc ?_ (by simp) _
    exact B0
  clear hw1
  go_wp2
  go_ret
  exact ⟨rfl, B1⟩
end Go.Proofs.YtgjleeamhkolhaaGreatDoor
