/- The library's clone of a row of steps, by its contract. -/
import Derived.Test.YtijcdikekgmfoaaGreatDoorPathKit
namespace Go.Proofs.YtijcdikekgmfoaaGreatDoor
open Go.RowKit

set_option maxRecDepth 20000 in
set_option maxHeartbeats 1000000 in
theorem cloneS_any (b0 o cap : Nat) (l : List Stp) (w : World) (hl0 : 1 ≤ l.length) (hl : l.length ≤ 1048576) (hs : StepsAt w (some ⟨b0, o, none⟩) b0 o l) :
    Calls Tryz.prog 123 #[.slice (some ⟨b0, o, none⟩) l.length cap] w
      fun e w' => ∃ g gc, e = .returned (.slice (some ⟨g, 0, none⟩) l.length gc) ∧ w'.ownsRow w.heap.size 44 7 (.slice (some ⟨g, 0, none⟩) l.length gc) l.length (stepCells l) ∧ Below w.heap.size w w' := by
  obtain ⟨i0, hi, hz0, hz1, hz2⟩ := info_parts step_info
  have hE := owns_empty (w := w) (base := w.heap.size) (e := 44) (size := 7) (Nat.le_refl _)
  have hnew := steps_news (hs.alloc (.cells #[] 44))
  have hnil := Lib.run_eql_slice_nil (P := Tryz.prog) w 25 44 (some ⟨b0, o, none⟩) l.length cap 0 0 Tryz.underlying25
  go_enter Tryz.func123, Tryz.ntmps123
  go_wp2_with (at_builtin; refine wpList_append_own _ rfl (.tmp 5) (.tmp 6) 25 rfl w.heap.size 44 i0 (.agg #[.int .i64 0, .int .i64 0, .int .i64 0, .int .i64 0, .int .i64 0, .int .i64 0, .bool false]) 7 56 Tryz.underlying25 hi hz0 hz1 hz2 rfl (by decide) (.slice (some ⟨w.heap.size, 0, none⟩) 0 0) 0 [] rfl hE ⟨b0, o, none⟩ l.length cap (stepCells l) rfl (stepCells_length l) hnew (stepCells_one l) (by unfold maxLen; omega) (by omega) (by simp) ?_; intro v1 w1 hown1 hgrow1 hnil1)
  go_ret
  simp only [Nat.zero_add, List.nil_append] at hown1
  obtain ⟨g, gc, rfl, _, _⟩ := owns_some hown1 (by omega)
  exact ⟨g, gc, rfl, hown1, ((Below.refl w.heap.size w).alloc (Nat.le_refl _) _).grown hgrow1 (by simp) (fun k e => by simp [Value.ownBlock] at e; omega)⟩

end Go.Proofs.YtijcdikekgmfoaaGreatDoor
