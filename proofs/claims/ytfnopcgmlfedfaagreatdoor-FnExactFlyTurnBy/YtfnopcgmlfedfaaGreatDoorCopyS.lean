/- The specification's copy of a path, by its contract. -/
import Derived.Test.YtfnopcgmlfedfaaGreatDoorPathKit
namespace Go.Proofs.YtfnopcgmlfedfaaGreatDoor
open Go.RowKit

set_option maxRecDepth 20000 in
set_option maxHeartbeats 1000000 in
theorem copyS_any (q s fr b : Int) (a : Option Addr) (b0 o cap : Nat) (l : List Stp) (w : World) (hl0 : 1 ≤ l.length) (hl : l.length ≤ 1048576) (hs : StepsAt w a b0 o l) :
    Calls Tryz.prog 73 #[.agg #[.int .i64 q, .int .i64 s, .slice a l.length cap, .int .i64 fr, .int .i64 b]] w
      fun e w' => ∃ g gcap, e = .returned (.agg #[.int .i64 q, .int .i64 s, .slice (some ⟨g, 0, none⟩) l.length gcap, .int .i64 fr, .int .i64 b]) ∧
        w'.ownsRow w.heap.size 74 7 (.slice (some ⟨g, 0, none⟩) l.length gcap) l.length (stepCells l) ∧ Below w.heap.size w w' := by
  obtain ⟨i0, hi, hz0, hz1, hz2⟩ := info_parts step_info
  have hne : l ≠ [] := by intro e; subst e; simp at hl0
  obtain rfl := hs.here hne
  go_enter Tryz.func73, Tryz.ntmps73
  have hB0 := (BoxP.new w q s fr b (.slice (some ⟨b0, o, none⟩) l.length cap) 32)
  have hE := owns_empty (w := ((w.alloc (.cells #[.int .i64 q, .int .i64 s, .slice (some ⟨b0, o, none⟩) l.length cap, .int .i64 fr, .int .i64 b] 32)).alloc (.cells #[.int .i64 0, .int .i64 0, .slice none 0 0, .int .i64 0, .int .i64 0] 32))) (base := w.heap.size + 1 + 1) (e := 74) (size := 7) (by simp)
  simp only [World.size_alloc] at hE
  have hnew := steps_news (((hs.alloc (.cells #[.int .i64 q, .int .i64 s, .slice (some ⟨b0, o, none⟩) l.length cap, .int .i64 fr, .int .i64 b] 32)).alloc (.cells #[.int .i64 0, .int .i64 0, .slice none 0 0, .int .i64 0, .int .i64 0] 32)).alloc (.cells #[] 74))
  have hC : ∀ w4, (((w.alloc (.cells #[.int .i64 q, .int .i64 s, .slice (some ⟨b0, o, none⟩) l.length cap, .int .i64 fr, .int .i64 b] 32)).alloc (.cells #[.int .i64 0, .int .i64 0, .slice none 0 0, .int .i64 0, .int .i64 0] 32)).alloc (.cells #[] 74)).grownBy w4 (Value.slice (some ⟨w.heap.size + 1 + 1, 0, none⟩) 0 0).ownBlock →
      w4.cell? ⟨w.heap.size, 0, none⟩ = some (.int .i64 q) ∧ w4.cell? ⟨w.heap.size, 1, none⟩ = some (.int .i64 s) ∧ w4.cell? ⟨w.heap.size, 2, none⟩ = some (.slice (some ⟨b0, o, none⟩) l.length cap) ∧ w4.cell? ⟨w.heap.size, 3, none⟩ = some (.int .i64 fr) ∧ w4.cell? ⟨w.heap.size, 4, none⟩ = some (.int .i64 b) ∧
      w4.cell? ⟨w.heap.size + 1, 0, none⟩ = some (.int .i64 0) ∧ w4.cell? ⟨w.heap.size + 1, 1, none⟩ = some (.int .i64 0) ∧ w4.cell? ⟨w.heap.size + 1, 2, none⟩ = some (.slice none 0 0) ∧ w4.cell? ⟨w.heap.size + 1, 3, none⟩ = some (.int .i64 0) ∧ w4.cell? ⟨w.heap.size + 1, 4, none⟩ = some (.int .i64 0) := fun w4 hg => by
    have k0 : ∀ j, w4.cell? ⟨w.heap.size, j, none⟩ = _ := fun j => World.cell?_of_block (a := ⟨w.heap.size, j, none⟩) (hg.block w.heap.size (by simp; omega) (by simp [Value.ownBlock]; omega))
    have k1 : ∀ j, w4.cell? ⟨w.heap.size + 1, j, none⟩ = _ := fun j => World.cell?_of_block (a := ⟨w.heap.size + 1, j, none⟩) (hg.block (w.heap.size + 1) (by simp) (by simp [Value.ownBlock]))
    simp only [k0, k1]
    simp [go_sem]
  have hF : ∀ w4, (((w.alloc (.cells #[.int .i64 q, .int .i64 s, .slice (some ⟨b0, o, none⟩) l.length cap, .int .i64 fr, .int .i64 b] 32)).alloc (.cells #[.int .i64 0, .int .i64 0, .slice none 0 0, .int .i64 0, .int .i64 0] 32)).alloc (.cells #[] 74)).grownBy w4 (Value.slice (some ⟨w.heap.size + 1 + 1, 0, none⟩) 0 0).ownBlock →
      (∀ j, w4.frozen? ⟨w.heap.size, j, none⟩ = false) ∧ ∀ j, w4.frozen? ⟨w.heap.size + 1, j, none⟩ = false := fun w4 hg => by
    have k0 : ∀ j, w4.frozen? ⟨w.heap.size, j, none⟩ = _ := fun j => World.frozen?_of_block (a := ⟨w.heap.size, j, none⟩) (hg.block w.heap.size (by simp; omega) (by simp [Value.ownBlock]; omega))
    have k1 : ∀ j, w4.frozen? ⟨w.heap.size + 1, j, none⟩ = _ := fun j => World.frozen?_of_block (a := ⟨w.heap.size + 1, j, none⟩) (hg.block (w.heap.size + 1) (by simp) (by simp [Value.ownBlock]))
    simp only [k0, k1]
    simp [go_sem]
  go_wp2_with (at_builtin; refine wpList_append_own _ rfl (.tmp 3) (.tmp 5) 30 rfl (w.heap.size + 1 + 1) 74 i0 (.agg #[.int .i64 0, .int .i64 0, .int .i64 0, .int .i64 0, .int .i64 0, .int .i64 0, .bool false]) 7 56 Tryz.underlying30 hi hz0 hz1 hz2 rfl (by decide) (.slice (some ⟨w.heap.size + 1 + 1, 0, none⟩) 0 0) 0 [] rfl hE ⟨b0, o, none⟩ l.length cap (stepCells l) rfl (stepCells_length l) hnew (stepCells_one l) (by unfold maxLen; omega) (by omega) (by simp) ?_; intro v' w4 hown4 hgrow4 hnil4; simp only [Nat.zero_add, List.nil_append] at hown4; obtain ⟨g4, gc4, rfl, hg4, hgl4⟩ := owns_some hown4 (by omega); have c4 := hC w4 hgrow4; have f4 := hF w4 hgrow4; have z0 := c4.1; have z1 := c4.2.1; have z2 := c4.2.2.1; have z3 := c4.2.2.2.1; have z4 := c4.2.2.2.2.1; have y0 := c4.2.2.2.2.2.1; have y1 := c4.2.2.2.2.2.2.1; have y2 := c4.2.2.2.2.2.2.2.1; have y3 := c4.2.2.2.2.2.2.2.2.1; have y4 := c4.2.2.2.2.2.2.2.2.2)
  have HB4 : Below w.heap.size w w4 := ((((Below.refl w.heap.size w).alloc (Nat.le_refl _) _).alloc (by simp) _).alloc (by simp; omega) _).grown hgrow4 (by simp; omega) (fun k e => by simp [Value.ownBlock] at e; omega)
  refine bodyPost_ret (v := .agg #[.int .i64 q, .int .i64 s, .slice (some ⟨g4, 0, none⟩) l.length gc4, .int .i64 fr, .int .i64 b]) (by simp [results, Tryz.results73, go_sem, *]) rfl ⟨g4, gc4, rfl, ?_, ?_⟩
  · have hh : ∀ k, (Value.slice (some ⟨g4, 0, none⟩) l.length gc4).ownBlock = some k → k ≠ w.heap.size ∧ k ≠ w.heap.size + 1 := fun k e => by simp [Value.ownBlock] at e; omega
    iterate 6 (refine owns_set ?_ (fun k e => by first | exact (hh k e).1 | exact (hh k e).2) _ _)
    exact ⟨hown4.1, hown4.2.imp id fun ⟨g, cap, cur, h1, h2, h3⟩ => ⟨g, cap, cur, h1, by omega, h3⟩⟩
  · iterate 6 (refine Below.setCell ?_ (by simp <;> omega) _)
    exact HB4

end Go.Proofs.YtfnopcgmlfedfaaGreatDoor
