/- The specification's l7Tail, by its contract. -/
import Derived.Deep.RegionHeld3
import Derived.Deep.AppendLies
import Derived.Test.YtfnopcgmlfedfaaGreatDoorPathKit
import Derived.Test.YtfnopcgmlfedfaaGreatDoorStepsTail
namespace Go.Proofs.YtfnopcgmlfedfaaGreatDoor
open Go.RowKit

set_option maxRecDepth 20000 in
set_option maxHeartbeats 4000000 in
theorem tailS_any (q s fr b : Int) (k : Nat) (a : Option Addr) (b0 o cap : Nat) (l : List Stp) (w : World) (hl : l.length ≤ 1048576) (hs : StepsAt w a b0 o l) (hcap : l.length ≤ cap) (hk : k < l.length) :
    Calls Tryz.prog 55 #[.agg #[.int .i64 q, .int .i64 s, .slice a l.length cap, .int .i64 fr, .int .i64 b], .int .i64 (k : Int)] w
      fun e w' => ∃ g gc, e = .returned (.agg #[.int .i64 q, .int .i64 s, .slice (some ⟨g, 0, none⟩) (l.length - k) gc, .int .i64 fr, .int .i64 b]) ∧
        w'.ownsRow w.heap.size 74 7 (.slice (some ⟨g, 0, none⟩) (l.length - k) gc) (l.length - k) (stepCells (l.drop k)) ∧ Below w.heap.size w w' := by
  obtain ⟨i0, hi, hz0, hz1, hz2⟩ := info_parts step_info
  have hne : l ≠ [] := by intro e; subst e; simp at hk
  obtain rfl := hs.here hne
  have k0 : (0 : Int) ≤ (k : Int) := by omega
  have k1 : (k : Int) < (l.length : Int) := by omega
  have k2 : (l.length : Int) ≤ (cap : Int) := by omega
  have k3 : (k : Int) ≤ (l.length : Int) := by omega
  have hck : ¬ cap = k := by omega
  obtain ⟨W1, hW1⟩ : ∃ W1, (w.alloc (.cells #[.int .i64 q, .int .i64 s, .slice (some ⟨b0, o, none⟩) l.length cap, .int .i64 fr, .int .i64 b] 32)).alloc (.cells #[.int .i64 0, .int .i64 0, .slice none 0 0, .int .i64 0, .int .i64 0] 32) = W1 := ⟨_, rfl⟩
  have hz1' : W1.heap.size = w.heap.size + 1 + 1 := by rw [← hW1]; simp
  have X1 : PathAt W1 w.heap.size q s fr b (.slice (some ⟨b0, o, none⟩) l.length cap) := by
    rw [← hW1]
    exact (PathAt.new w q s fr b _).keep ((Below.refl _ _).alloc (Nat.le_refl _) _) (PathAt.new w q s fr b _).lt
  have Z1 : PathAt W1 (w.heap.size + 1) 0 0 0 0 (.slice none 0 0) := by
    have := PathAt.new (w.alloc (.cells #[.int .i64 q, .int .i64 s, .slice (some ⟨b0, o, none⟩) l.length cap, .int .i64 fr, .int .i64 b] 32)) 0 0 0 0 (.slice none 0 0)
    rw [World.size_alloc, hW1] at this
    exact this
  have B1 : Below w.heap.size w W1 := by
    rw [← hW1]
    exact ((Below.refl _ _).alloc (Nat.le_refl _) _).alloc (by simp) _
  have hE : (W1.alloc (.cells #[] 74)).ownsRow W1.heap.size 74 7 (.slice (some ⟨W1.heap.size, 0, none⟩) 0 0) 0 [] := owns_empty (Nat.le_refl _)
  rw [hz1'] at hE
  have hs0 := (hs.below B1 hs.lt).alloc (.cells #[] 74)
  have hs1 : StepsAt (W1.alloc (.cells #[] 74)).drew (some ⟨b0, o, none⟩) b0 o l := hs0.below (Below.refl (W1.alloc (.cells #[] 74)).heap.size _).drew hs0.lt
  have hnew := steps_news (hs1.tail0 k)
  have hnl : (stepCells (l.drop k)).length = (l.length - k) * 7 := by rw [stepCells_length, List.length_drop]
  have KEEP : ∀ w4 : World, (W1.alloc (.cells #[] 74)).drew.grownBy w4 (Value.slice (some ⟨w.heap.size + 1 + 1, 0, none⟩) 0 0).ownBlock → PathAt w4 w.heap.size q s fr b (.slice (some ⟨b0, o, none⟩) l.length cap) ∧ PathAt w4 (w.heap.size + 1) 0 0 0 0 (.slice none 0 0) ∧ Below w.heap.size w w4 := fun w4 hg => by
    have al : Below W1.heap.size W1 (W1.alloc (.cells #[] 74)).drew := ((Below.refl _ _).alloc (Nat.le_refl _) _).drew
    refine ⟨(X1.keep al X1.lt).grown hg (fun e => ?_), (Z1.keep al Z1.lt).grown hg (fun e => ?_), (B1.trans (al.mono B1.size)).grown hg ?_ (fun j e => ?_)⟩
    · simp [Value.ownBlock] at e <;> omega
    · simp [Value.ownBlock] at e <;> omega
    · simp [World.drew]; omega
    · simp [Value.ownBlock] at e <;> omega
  obtain ⟨⟨x0, x1, x2, x3, x4⟩, _⟩ := X1.cells
  obtain ⟨⟨y0, y1, y2, y3, y4⟩, yf⟩ := Z1.cells
  go_enter Tryz.func55, Tryz.ntmps55
  go_wp2_with fail
  clear hW1
  go_region_held3 (fun w' => w'.cell? ⟨w.heap.size, 0, none⟩ = some (.int .i64 q) ∧ w'.cell? ⟨w.heap.size, 1, none⟩ = some (.int .i64 s) ∧ w'.cell? ⟨w.heap.size, 2, none⟩ = some (.slice (some ⟨b0, o, none⟩) l.length cap) ∧ w'.cell? ⟨w.heap.size, 3, none⟩ = some (.int .i64 fr) ∧ w'.cell? ⟨w.heap.size, 4, none⟩ = some (.int .i64 b))
    (first | (simp [go_sem, *]; done) | (simp [go_sem, World.cell?_alloc_lt, *]; done))
    ((refine step_append_lies _ (by rfl) _ _ _ (by rfl) (w.heap.size + 1 + 1) 74 i0 _ 7 56 Tryz.underlying30 hi hz0 hz1 hz2 rfl (by decide) (.slice (some ⟨w.heap.size + 1 + 1, 0, none⟩) 0 0) 0 [] (by rfl) hE.drew ⟨b0, o + k * 7, none⟩ (l.length - k) (cap - k) (stepCells (l.drop k)) (by rfl) hnl hnew (stepCells_one _) (by omega) (by unfold maxLen; omega) (by omega) (by simp; omega) (w.heap.size + 1 + 1 + 1) (by simp; omega) ?_; intro g gc w4 ho4 hg4 hat4 hlt4; obtain ⟨X4, Z4, B4⟩ := KEEP w4 hg4; have X4c := X4.cells; have Z4c := Z4.cells; have p0 := X4c.1.1; have p1 := X4c.1.2.1; have p2 := X4c.1.2.2.1; have p3 := X4c.1.2.2.2.1; have p4 := X4c.1.2.2.2.2; have r0 := Z4c.1.1; have r1 := Z4c.1.2.1; have r2 := Z4c.1.2.2.1; have r3 := Z4c.1.2.2.2.1; have r4 := Z4c.1.2.2.2.2; have rf := Z4c.2))
  clear X4 Z4 X4c Z4c p0 p1 p2 p3 p4 x0 x1 x2 x3 x4 y0 y1 y2 y3 y4 yf KEEP hnew hs0 hs1 hg4 hE X1 Z1
  simp only [Nat.zero_add, List.nil_append] at ho4
  go_wp2
  refine bodyPost_ret (v := .agg #[.int .i64 q, .int .i64 s, .slice (some ⟨g, 0, none⟩) (l.length - k) gc, .int .i64 fr, .int .i64 b]) (by simp [results, Tryz.results55, go_sem, *]) rfl ⟨g, gc, rfl, ?_, ?_⟩
  · have hh : ∀ j, (Value.slice (some ⟨g, 0, none⟩) (l.length - k) gc).ownBlock = some j → j ≠ w.heap.size + 1 := fun j e => by have := owns_base ho4 j e; omega
    iterate 5 (refine owns_set ?_ hh _ _)
    exact ⟨ho4.1, ho4.2.imp id fun ⟨g, cap, cur, h1, h2, h3⟩ => ⟨g, cap, cur, h1, by omega, h3⟩⟩
  · iterate 5 (refine Below.setCell ?_ (by show _ ≤ w.heap.size + 1; omega) _)
    exact B4
end Go.Proofs.YtfnopcgmlfedfaaGreatDoor
