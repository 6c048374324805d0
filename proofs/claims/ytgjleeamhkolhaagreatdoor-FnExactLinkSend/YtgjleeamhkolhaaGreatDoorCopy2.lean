/- The law's own measure and copy of a path, by their contracts. -/
import Derived.Test.YtgjleeamhkolhaaGreatDoorCopy
namespace Go.Proofs.YtgjleeamhkolhaaGreatDoor
open Go.RowKit


/-- A store anywhere leaves places that can be written. -/
theorem there_set {w : World} {b o n : Nat} (h : w.there b o n) (pb po : Nat) (v : Value) : (w.setCell ⟨pb, po, none⟩ v).there b o n := World.there_setCells h pb po [v]

theorem szSteps_any (a : Option Addr) (n cap : Nat) (left : Int) (w : World) (hn : n ≤ maxLen) (h0 : -1 ≤ left) (h1 : left ≤ 1048576) :
    Calls Tryz.prog 22 #[.slice a n cap, .int .i64 left] w fun e w' => e = .returned (.int .i64 (leftB left n)) ∧ w' = w := by
  unfold maxLen at hn
  by_cases h : left - n < 0
  · go_enter Tryz.func22, Tryz.ntmps22
    go_wp2
    go_ret
    exact ⟨by simp [leftB, h], rfl⟩
  · go_enter Tryz.func22, Tryz.ntmps22
    go_wp2
    go_ret
    exact ⟨by rw [leftB, if_neg (by omega)]; rfl, rfl⟩


theorem szPath_any (q s fr b : Int) (a : Option Addr) (n cap : Nat) (left : Int) (w : World) (hn : n ≤ maxLen) (h0 : -1 ≤ left) (h1 : left ≤ 1048576) :
    Calls Tryz.prog 6 #[.agg #[.int .i64 q, .int .i64 s, .slice a n cap, .int .i64 fr, .int .i64 b], .int .i64 left] w fun e w' => e = .returned (.int .i64 (leftB left n)) ∧ Below w.heap.size w w' := by
  have hb := (Below.refl w.heap.size w).alloc (Nat.le_refl _) (.cells #[.int .i64 q, .int .i64 s, .slice a n cap, .int .i64 fr, .int .i64 b] 29)
  obtain ⟨k0, _⟩ := leftB_left left n h0 h1
  by_cases h : leftB left n < 0
  · have e1 : leftB left n = -1 := by omega
    go_enter Tryz.func6, Tryz.ntmps6
    go_wp2_with (go_at_call 22; refine (szSteps_any _ _ _ _ _ hn h0 h1).mono ?_; rintro e w' ⟨rfl, rfl⟩)
    go_ret
    exact ⟨by rw [e1]; rfl, hb⟩
  · go_enter Tryz.func6, Tryz.ntmps6
    go_wp2_with (go_at_call 22; refine (szSteps_any _ _ _ _ _ hn h0 h1).mono ?_; rintro e w' ⟨rfl, rfl⟩)
    go_ret
    exact ⟨rfl, hb⟩

set_option maxHeartbeats 1000000 in
theorem toPath_more (q s fr b : Int) (a : Option Addr) (b0 o cap : Nat) (l : List Stp) (w : World) (hl : l.length ≤ 1048576) (hs : StepsAt w a b0 o l) :
    Calls Tryz.prog 9 #[.agg #[.int .i64 q, .int .i64 s, .slice a l.length cap, .int .i64 fr, .int .i64 b]] w
      fun e w' => ∃ g, e = .returned (.agg #[.int .i64 q, .int .i64 s, .slice (some ⟨g, 0, none⟩) l.length l.length, .int .i64 fr, .int .i64 b]) ∧ w.heap.size ≤ g ∧ g < w'.heap.size ∧ StepsAt w' (some ⟨g, 0, none⟩) g 0 l ∧ Below w.heap.size w w' ∧ ∀ i, i < l.length → w'.there g (i * 7) 7 := by
  go_enter Tryz.func9, Tryz.ntmps9
  go_wp2_with fail
  refine (toKind_any _ _ _).mono ?_
  rintro e w1 ⟨rfl, hb1⟩
  obtain ⟨hc1, hf1⟩ := old_cells hb1
  have hz1 := hb1.size
  simp at hz1
  have hb01 : Below w.heap.size w w1 := ((((Below.refl w.heap.size w).alloc (Nat.le_refl _) _).alloc (by simp) _).alloc (by simp; omega) _).trans (hb1.mono (by simp; omega))
  have hs1 := hs.below hb01 (fun h => hs.lt h)
  go_wp2_with fail
  refine (toSteps_more _ b0 o _ _ _ hl ?_).mono ?_
  · exact hs.below ((hb01.setCell (by simp; omega) _).setCell (by simp; omega) _) (fun h => hs.lt h)
  rintro e w2 ⟨g, rfl, hg1, hg2, hs2, hb2, hth⟩
  have HTH : Hid (∀ i, i < l.length → w2.there g (i * 7) 7) := hth
  clear hth
  obtain ⟨hc2, hf2⟩ := old_cells hb2
  have hz2 := hb2.size
  simp [World.setCell] at hz2 hg1
  have hb02 : Below w.heap.size w w2 := ((hb01.setCell (by simp; omega) _).setCell (by simp; omega) _).trans (hb2.mono (by simp [World.setCell]; omega))
  have hC1 : ∀ b o, b < w.heap.size + 3 → w1.cell? ⟨b, o, none⟩ = _ := fun b o h => hc1 b o (by simp; omega)
  have hF1 : ∀ b o, b < w.heap.size + 3 → w1.frozen? ⟨b, o, none⟩ = _ := fun b o h => hf1 b o (by simp; omega)
  have hC2 : ∀ b o, b < w.heap.size + 3 → w2.cell? ⟨b, o, none⟩ = _ := fun b o h => hc2 b o (by simp [World.setCell]; omega)
  have hF2 : ∀ b o, b < w.heap.size + 3 → w2.frozen? ⟨b, o, none⟩ = _ := fun b o h => hf2 b o (by simp [World.setCell]; omega)
  clear hc1 hf1 hc2 hf2
  have a3 : w2.cell? ⟨w.heap.size, 3, none⟩ = some (.int .i64 fr) := by rw [hC2 _ _ (by omega)]; simp [go_sem, hC1]
  have a4 : w2.cell? ⟨w.heap.size, 4, none⟩ = some (.int .i64 b) := by rw [hC2 _ _ (by omega)]; simp [go_sem, hC1]
  have o0 : w2.cell? ⟨w.heap.size + 1 + 1, 0, none⟩ = some (.int .i64 q) := by rw [hC2 _ _ (by omega)]; simp [go_sem, hC1]
  have o1 : w2.cell? ⟨w.heap.size + 1 + 1, 1, none⟩ = some (.int .i64 s) := by rw [hC2 _ _ (by omega)]; simp [go_sem, hC1]
  have o2 : w2.cell? ⟨w.heap.size + 1 + 1, 2, none⟩ = some (.slice none 0 0) := by rw [hC2 _ _ (by omega)]; simp [go_sem, hC1]
  have o3 : w2.cell? ⟨w.heap.size + 1 + 1, 3, none⟩ = some (.int .i64 0) := by rw [hC2 _ _ (by omega)]; simp [go_sem, hC1]
  have o4 : w2.cell? ⟨w.heap.size + 1 + 1, 4, none⟩ = some (.int .i64 0) := by rw [hC2 _ _ (by omega)]; simp [go_sem, hC1]
  have fo : ∀ j, w2.frozen? ⟨w.heap.size + 1 + 1, j, none⟩ = false := by intro j; rw [hF2 _ _ (by omega)]; simp [go_sem, hF1]
  have r0 : w2.cell? ⟨w.heap.size + 1, 0, none⟩ = some (.int .i64 0) := by rw [hC2 _ _ (by omega)]; simp [go_sem, hC1]
  have r1 : w2.cell? ⟨w.heap.size + 1, 1, none⟩ = some (.int .i64 0) := by rw [hC2 _ _ (by omega)]; simp [go_sem, hC1]
  have r2 : w2.cell? ⟨w.heap.size + 1, 2, none⟩ = some (.slice none 0 0) := by rw [hC2 _ _ (by omega)]; simp [go_sem, hC1]
  have r3 : w2.cell? ⟨w.heap.size + 1, 3, none⟩ = some (.int .i64 0) := by rw [hC2 _ _ (by omega)]; simp [go_sem, hC1]
  have r4 : w2.cell? ⟨w.heap.size + 1, 4, none⟩ = some (.int .i64 0) := by rw [hC2 _ _ (by omega)]; simp [go_sem, hC1]
  have fr1 : ∀ j, w2.frozen? ⟨w.heap.size + 1, j, none⟩ = false := by intro j; rw [hF2 _ _ (by omega)]; simp [go_sem, hF1]
  clear hC1 hC2 hF1 hF2 hs1 hb01 hb1 hs
  go_wp2
  refine bodyPost_ret (v := .agg #[.int .i64 q, .int .i64 s, .slice (some ⟨g, 0, none⟩) l.length l.length, .int .i64 fr, .int .i64 b]) (by simp [results, Tryz.results9, go_sem, *]) rfl ⟨g, rfl, by omega, ?_, ?_, ?_, ?_⟩
  · simpa [World.setCell] using hg2
  · iterate 8 (refine StepsAt.set ?_ (by simp; omega) _)
    exact hs2
  · iterate 8 (refine Below.setCell ?_ (by simp <;> omega) _)
    exact hb02
  · intro i hi
    iterate 8 (refine there_set ?_ _ _ _)
    exact HTH.out i hi

theorem toPath_any (q s fr b : Int) (a : Option Addr) (b0 o cap : Nat) (l : List Stp) (w : World) (hl : l.length ≤ 1048576) (hs : StepsAt w a b0 o l) :
    Calls Tryz.prog 9 #[.agg #[.int .i64 q, .int .i64 s, .slice a l.length cap, .int .i64 fr, .int .i64 b]] w
      fun e w' => ∃ g, e = .returned (.agg #[.int .i64 q, .int .i64 s, .slice (some ⟨g, 0, none⟩) l.length l.length, .int .i64 fr, .int .i64 b]) ∧ w.heap.size ≤ g ∧ g < w'.heap.size ∧ StepsAt w' (some ⟨g, 0, none⟩) g 0 l ∧ Below w.heap.size w w' :=
  (toPath_more q s fr b a b0 o cap l w hl hs).mono fun _ _ ⟨g, h1, h2, h3, h4, h5, _⟩ => ⟨g, h1, h2, h3, h4, h5⟩
end Go.Proofs.YtgjleeamhkolhaaGreatDoor
