/- The library's clone of a row of steps, of an empty one too; a path in memory of its own. -/
import Derived.Maps.AppendAt
import Derived.Test.YtfcobpaaeijkoaaCloneS
import Derived.Test.YtfcobpaaeijkoaaPbBel
namespace Go.Proofs.Ytfcobpaaeijkoaa
open Go.RowKit

theorem blk9 {w : World} {B : Nat} {a b c d e f g h i : Value} {t : TypeId} (hb : w.heap[B]? = some (.cells #[a, b, c, d, e, f, g, h, i] t (0, 0))) :
    (w.cell? ⟨B, 0, none⟩ = some a ∧ w.cell? ⟨B, 1, none⟩ = some b ∧ w.cell? ⟨B, 2, none⟩ = some c ∧ w.cell? ⟨B, 3, none⟩ = some d ∧ w.cell? ⟨B, 4, none⟩ = some e ∧ w.cell? ⟨B, 5, none⟩ = some f ∧ w.cell? ⟨B, 6, none⟩ = some g ∧ w.cell? ⟨B, 7, none⟩ = some h ∧ w.cell? ⟨B, 8, none⟩ = some i) ∧ ∀ j, w.frozen? ⟨B, j, none⟩ = false := by
  refine ⟨⟨?_, ?_, ?_, ?_, ?_, ?_, ?_, ?_, ?_⟩, fun j => ?_⟩ <;> simp [World.cell?, World.frozen?, hb]
theorem owns_sliceL {w : World} {base e size n : Nat} {v : Value} {xs : List Value} (h : w.ownsRow base e size v n xs) : ∃ a c, v = .slice a n c := by
  rcases h.2 with ⟨rfl, rfl⟩ | ⟨g, cap, cur, rfl, _⟩
  · exact ⟨none, 0, rfl⟩
  · exact ⟨_, _, rfl⟩
theorem owns_lowerL {w : World} {base base' e size n : Nat} {v : Value} {xs : List Value} (h : w.ownsRow base e size v n xs) (hb : base' ≤ base) : w.ownsRow base' e size v n xs :=
  ⟨h.1, h.2.imp id fun ⟨g, cap, cur, h1, h2, h3⟩ => ⟨g, cap, cur, h1, Nat.le_trans hb h2, h3⟩⟩

set_option maxRecDepth 20000 in
set_option maxHeartbeats 1000000 in
theorem cloneS_all (b0 o cap : Nat) (l : List Stp) (w : World) (hl : l.length ≤ 1048576) (hs : StepsAt w (some ⟨b0, o, none⟩) b0 o l) :
    Calls Try.prog 59 #[.slice (some ⟨b0, o, none⟩) l.length cap] w
      fun e w' => ∃ v, e = .returned v ∧ w'.ownsRow w.heap.size 109 7 v l.length (stepCells l) ∧ Below w.heap.size w w' := by
  obtain ⟨i0, hi, hz0, hz1, hz2⟩ := info_parts step_info
  have hE := owns_empty (w := w) (base := w.heap.size) (e := 109) (size := 7) (Nat.le_refl _)
  have hnew := steps_news (hs.alloc (.cells #[] 109))
  have hnil := Lib.run_eql_slice_nil (P := Try.prog) w 28 109 (some ⟨b0, o, none⟩) l.length cap 0 0 Try.underlying28
  go_enter Try.func59, Try.ntmps59
  go_wp2_with (at_builtin; refine wpList_append_own _ rfl (.tmp 5) (.tmp 6) 28 rfl w.heap.size 109 i0 (.agg #[.int .i64 0, .int .i64 0, .int .i64 0, .int .i64 0, .int .i64 0, .int .i64 0, .bool false]) 7 56 Try.underlying28 hi hz0 hz1 hz2 rfl (by decide) (.slice (some ⟨w.heap.size, 0, none⟩) 0 0) 0 [] rfl hE ⟨b0, o, none⟩ l.length cap (stepCells l) rfl (stepCells_length l) hnew (stepCells_one l) (by unfold maxLen; omega) (by omega) (by simp) ?_; intro v1 w1 hown1 hgrow1 hnil1)
  go_ret
  simp only [Nat.zero_add, List.nil_append] at hown1
  exact ⟨_, rfl, hown1, ((Below.refl w.heap.size w).alloc (Nat.le_refl _) _).grown hgrow1 (by simp) (fun k e => by simp [Value.ownBlock] at e; omega)⟩

set_option maxRecDepth 20000 in
set_option maxHeartbeats 1000000 in
theorem pathCopied_any (q s fr b : Int) (b0 o cap : Nat) (l : List Stp) (w : World) (hl : l.length ≤ 1048576) (hs : StepsAt w (some ⟨b0, o, none⟩) b0 o l) :
    Calls Try.prog 52 #[.agg #[.int .i64 q, .int .i64 s, .slice (some ⟨b0, o, none⟩) l.length cap, .int .i64 fr, .int .i64 b]] w
      fun e w' => ∃ v, e = .returned (.agg #[.int .i64 q, .int .i64 s, v, .int .i64 fr, .int .i64 b]) ∧ w'.ownsRow w.heap.size 109 7 v l.length (stepCells l) ∧ Below w.heap.size w w' := by
  have P0 := (PathAt.new w q s fr b (.slice (some ⟨b0, o, none⟩) l.length cap)).keep (bel1 (.cells #[.int .i64 0, .int .i64 0, .slice none 0 0, .int .i64 0, .int .i64 0] 30)) (by simp)
  have Z0 := ResP.new (w.alloc (.cells #[.int .i64 q, .int .i64 s, .slice (some ⟨b0, o, none⟩) l.length cap, .int .i64 fr, .int .i64 b] 30))
  rw [World.size_alloc] at Z0
  go_enter Try.func52, Try.ntmps52
  go_wp2_with fail
  refine (cloneS_all b0 o cap l _ hl (hs.below (bel2 _ _) hs.lt)).mono ?_
  rintro e w1 ⟨v1, rfl, ho1, hb1⟩
  have P1 := P0.keep hb1 P0.lt
  have Z1 := Z0.keep hb1 Z0.lt
  have B1 : Below w.heap.size w w1 := (bel2 _ _).trans (hb1.mono (by simp; omega))
  obtain ⟨a1, c1, rfl⟩ := owns_sliceL ho1
  obtain ⟨⟨x0, x1, x2, x3, x4⟩, xf⟩ := P1.cells
  obtain ⟨⟨y0, y1, y2, y3, y4⟩, yf⟩ := Z1.cells
  go_wp2
  refine bodyPost_ret (v := .agg #[.int .i64 q, .int .i64 s, .slice a1 l.length c1, .int .i64 fr, .int .i64 b]) (by simp [results, Try.results52, go_sem, *]) rfl ⟨_, rfl, ?_, ?_⟩
  · have hh : ∀ k, (Value.ownBlock (.slice a1 l.length c1)) = some k → k ≠ w.heap.size ∧ k ≠ w.heap.size + 1 := fun k e => by have := owns_base ho1 k e; simp at this; omega
    repeat (refine owns_set ?_ (fun k e => by first | exact (hh k e).1 | exact (hh k e).2) _ _)
    exact owns_lowerL ho1 (by simp; omega)
  · repeat (refine Below.setCell ?_ (by simp) _)
    exact B1
end Go.Proofs.Ytfcobpaaeijkoaa
