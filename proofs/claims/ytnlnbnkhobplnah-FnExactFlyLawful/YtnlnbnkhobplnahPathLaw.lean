/- The walk of the law on FlyPathOk. -/
import Derived.Test.YtnlnbnkhobplnahCopy2
import Derived.Test.YtnlnbnkhobplnahEq
import Derived.Test.YtnlnbnkhobplnahSpec
import Derived.Test.YtnlnbnkhobplnahImplPath
import Derived.Deep.RegionHeld3
namespace Go.Proofs.Ytnlnbnkhobplnah
open Go.RowKit

theorem pathS_any (q s fr b : Int) (a : Option Addr) (b0 o cap : Nat) (l : List Stp) (w : World) (hl : l.length ≤ 1048576) (hs : StepsAt w a b0 o l) :
    Calls Try.prog 6 #[.agg #[.int .i64 q, .int .i64 s, .slice a l.length cap, .int .i64 fr, .int .i64 b]] w fun e w' => e = .returned (.bool (pathB q s fr b l)) ∧ Below w.heap.size w w' := by
  cases h : (kindB q s && inB l.length 1 40 && inB fr 0 b && decide (b ≤ 10000)) with
  | false =>
    have e1 : pathB q s fr b l = false := by unfold pathB; rw [h]; rfl
    rw [e1]
    exact pathS_no q s fr b a b0 o cap l w hl h
  | true =>
    have e1 : pathB q s fr b l = goodTo l l.length := by unfold pathB; rw [h]; rfl
    rw [e1]
    simp only [Bool.and_eq_true, decide_eq_true_eq] at h
    exact pathS_yes q s fr b a b0 o cap l w hs h.1.1.1 h.1.1.2 h.1.2 h.2

theorem pathLaw_big (q s fr b : Int) (a : Option Addr) (n cap : Nat) (w : World) (hn : n ≤ maxLen) (hbig : 1048576 < n) :
    Calls Try.prog 3 #[.agg #[.int .i64 q, .int .i64 s, .slice a n cap, .int .i64 fr, .int .i64 b]] w fun e w' => e = .returned (.bool true) ∧ Below w.heap.size w w' := by
  have e1 : leftB 1048576 n = -1 := by unfold leftB; rw [if_pos (by omega)]
  go_enter Try.func3, Try.ntmps3
  go_wp2_with (go_at_call 5; refine (szPath_any _ _ _ _ _ _ _ _ _ hn (by omega) (by omega)).mono ?_; rintro e w1 ⟨rfl, hb1⟩)
  go_ret
  exact ⟨rfl, ((Below.refl _ _).alloc (Nat.le_refl _) _).trans (hb1.mono (by simp))⟩

set_option maxHeartbeats 2000000 in
theorem pathLaw_any (hF : FollowSaid) (q s fr b : Int) (a : Option Addr) (b0 o cap : Nat) (l : List Stp) (w : World) (hl : l.length ≤ 1048576) (hs : StepsAt w a b0 o l) :
    Calls Try.prog 3 #[.agg #[.int .i64 q, .int .i64 s, .slice a l.length cap, .int .i64 fr, .int .i64 b]] w fun e w' => e = .returned (.bool true) ∧ Below w.heap.size w w' := by
  have e1 : 0 ≤ leftB 1048576 l.length := by unfold leftB; rw [if_neg (by omega)]; omega
  go_enter Try.func3, Try.ntmps3
  go_wp2_with fail
  refine (szPath_any _ _ _ _ _ _ _ _ _ (by unfold maxLen; omega) (by omega) (by omega)).mono ?_
  rintro e w1 ⟨rfl, hb1⟩
  have hb01 : Below w.heap.size w w1 := ((Below.refl _ _).alloc (Nat.le_refl _) _).trans (hb1.mono (by simp))
  have z1 : w.heap.size < w1.heap.size := by have := hb1.size; simp at this; omega
  have c0 : w1.cell? ⟨w.heap.size, 0, none⟩ = some (.int .i64 q) := by rw [hb1.cell (p := ⟨w.heap.size, 0, none⟩) (by simp)]; simp [go_sem]
  have c1 : w1.cell? ⟨w.heap.size, 1, none⟩ = some (.int .i64 s) := by rw [hb1.cell (p := ⟨w.heap.size, 1, none⟩) (by simp)]; simp [go_sem]
  have c2 : w1.cell? ⟨w.heap.size, 2, none⟩ = some (.slice a l.length cap) := by rw [hb1.cell (p := ⟨w.heap.size, 2, none⟩) (by simp)]; simp [go_sem]
  have c3 : w1.cell? ⟨w.heap.size, 3, none⟩ = some (.int .i64 fr) := by rw [hb1.cell (p := ⟨w.heap.size, 3, none⟩) (by simp)]; simp [go_sem]
  have c4 : w1.cell? ⟨w.heap.size, 4, none⟩ = some (.int .i64 b) := by rw [hb1.cell (p := ⟨w.heap.size, 4, none⟩) (by simp)]; simp [go_sem]
  clear hb1
  go_wp2_with fail
  refine (toPath_any _ _ _ _ _ b0 o _ _ _ hl (hs.below hb01 hs.lt)).mono ?_
  rintro e w2 ⟨g2, rfl, hg2, hg2', hs2, hb2⟩
  go_wp2_with fail
  refine (pathS_any _ _ _ _ _ g2 0 _ _ _ hl hs2).mono ?_
  rintro e w3 ⟨rfl, hb3⟩
  have hb13 : Below w1.heap.size w1 w3 := hb2.trans (hb3.mono hb2.size)
  have hb03 : Below w.heap.size w w3 := hb01.trans (hb13.mono (by omega))
  have z3 : w.heap.size < w3.heap.size := Nat.lt_of_lt_of_le z1 hb13.size
  have k3 : ∀ j, w3.cell? ⟨w.heap.size, j, none⟩ = w1.cell? ⟨w.heap.size, j, none⟩ := fun j => hb13.cell (p := ⟨w.heap.size, j, none⟩) z1
  have d0 := (k3 0).trans c0
  have d1 := (k3 1).trans c1
  have d2 := (k3 2).trans c2
  have d3 := (k3 3).trans c3
  have d4 := (k3 4).trans c4
  clear k3 c0 c1 c2 c3 c4 hb13 hb2 hb3 hs2
  go_wp2_with fail
  refine (toPath_any _ _ _ _ _ b0 o _ _ _ hl (hs.below hb03 hs.lt)).mono ?_
  rintro e w4 ⟨g4, rfl, hg4, hg4', hs4, hb4⟩
  have z4 := hb4.size
  have hb04 : Below w.heap.size w w4 := hb03.trans (hb4.mono (by omega))
  have k4 : ∀ j, w4.cell? ⟨w.heap.size, j, none⟩ = w3.cell? ⟨w.heap.size, j, none⟩ := fun j => hb4.cell (p := ⟨w.heap.size, j, none⟩) z3
  have m0 := (k4 0).trans d0
  have m1 := (k4 1).trans d1
  have m2 := (k4 2).trans d2
  have m3 := (k4 3).trans d3
  have m4 := (k4 4).trans d4
  clear k4 d0 d1 d2 d3 d4
  go_wp2_with fail
  refine (pathOk_any hF _ _ _ _ _ g4 0 _ _ _ hl (hs4.alloc _)).mono ?_
  rintro e w5 ⟨rfl, hb5⟩
  have z5 : w4.heap.size < w5.heap.size := by have := hb5.size; simp at this; omega
  have hb45 : Below w4.heap.size w4 w5 := ((Below.refl _ _).alloc (Nat.le_refl _) _).trans (hb5.mono (by simp))
  have hb05 : Below w.heap.size w w5 := hb04.trans (hb45.mono (by omega))
  have k5 : ∀ j, w5.cell? ⟨w.heap.size, j, none⟩ = w4.cell? ⟨w.heap.size, j, none⟩ := fun j => hb45.cell (p := ⟨w.heap.size, j, none⟩) (by show w.heap.size < _; omega)
  have n0 := (k5 0).trans m0
  have n1 := (k5 1).trans m1
  have n2 := (k5 2).trans m2
  have n3 := (k5 3).trans m3
  have n4 := (k5 4).trans m4
  have x0 : w5.cell? ⟨w4.heap.size, 0, none⟩ = some (.int .i64 q) := by rw [hb5.cell (p := ⟨w4.heap.size, 0, none⟩) (by simp)]; simp [go_sem]
  have x1 : w5.cell? ⟨w4.heap.size, 1, none⟩ = some (.int .i64 s) := by rw [hb5.cell (p := ⟨w4.heap.size, 1, none⟩) (by simp)]; simp [go_sem]
  have x2 : w5.cell? ⟨w4.heap.size, 2, none⟩ = some (.slice (some ⟨g4, 0, none⟩) l.length l.length) := by rw [hb5.cell (p := ⟨w4.heap.size, 2, none⟩) (by simp)]; simp [go_sem]
  have x3 : w5.cell? ⟨w4.heap.size, 3, none⟩ = some (.int .i64 fr) := by rw [hb5.cell (p := ⟨w4.heap.size, 3, none⟩) (by simp)]; simp [go_sem]
  have x4 : w5.cell? ⟨w4.heap.size, 4, none⟩ = some (.int .i64 b) := by rw [hb5.cell (p := ⟨w4.heap.size, 4, none⟩) (by simp)]; simp [go_sem]
  have hs5 := hs4.below hb45 (fun _ => hg4')
  have z05 : w.heap.size < w5.heap.size := by omega
  have hg5 : g4 < w5.drew.heap.size := Nat.lt_of_lt_of_le hg4' hb45.size
  have hs5d : StepsAt w5.drew (some ⟨g4, 0, none⟩) g4 0 l := hs5.below ((Below.refl w5.heap.size w5).drew) hs5.lt
  clear k5 m0 m1 m2 m3 m4 hb5 hs4
  go_wp2
  go_region_held3 (fun w' => w'.cell? ⟨w.heap.size, 0, none⟩ = some (.int .i64 q) ∧ w'.cell? ⟨w.heap.size, 1, none⟩ = some (.int .i64 s) ∧ w'.cell? ⟨w.heap.size, 2, none⟩ = some (.slice a l.length cap) ∧ w'.cell? ⟨w.heap.size, 3, none⟩ = some (.int .i64 fr) ∧ w'.cell? ⟨w.heap.size, 4, none⟩ = some (.int .i64 b) ∧
      w'.cell? ⟨w4.heap.size, 0, none⟩ = some (.int .i64 q) ∧ w'.cell? ⟨w4.heap.size, 1, none⟩ = some (.int .i64 s) ∧ w'.cell? ⟨w4.heap.size, 2, none⟩ = some (.slice (some ⟨g4, 0, none⟩) l.length l.length) ∧ w'.cell? ⟨w4.heap.size, 3, none⟩ = some (.int .i64 fr) ∧ w'.cell? ⟨w4.heap.size, 4, none⟩ = some (.int .i64 b))
    (simp [go_sem, *])
    (first
      | (go_at_call 7; refine (toPath_any _ _ _ _ _ b0 o _ _ _ hl (hs.below hb05.drew hs.lt)).mono ?_; rintro e w6 ⟨g6, rfl, hg6, hg6', hs6, hb6⟩; have y0 : ∀ j, w6.cell? ⟨w.heap.size, j, none⟩ = w5.cell? ⟨w.heap.size, j, none⟩ := fun j => hb6.cell (p := ⟨w.heap.size, j, none⟩) z05; have y1 : ∀ j, w6.cell? ⟨w4.heap.size, j, none⟩ = w5.cell? ⟨w4.heap.size, j, none⟩ := fun j => hb6.cell (p := ⟨w4.heap.size, j, none⟩) z5)
      | (go_at_call 9; refine (eqPath_same _ _ _ _ _ _ g4 0 _ g6 0 _ _ _ hl (hs5d.below hb6 (fun _ => hg5)) hs6).mono ?_; rintro e w7 ⟨rfl, hb7⟩; have y2 : ∀ j, w7.cell? ⟨w.heap.size, j, none⟩ = w6.cell? ⟨w.heap.size, j, none⟩ := fun j => hb7.cell (p := ⟨w.heap.size, j, none⟩) (Nat.lt_of_lt_of_le z05 hb6.size); have y3 : ∀ j, w7.cell? ⟨w4.heap.size, j, none⟩ = w6.cell? ⟨w4.heap.size, j, none⟩ := fun j => hb7.cell (p := ⟨w4.heap.size, j, none⟩) (Nat.lt_of_lt_of_le z5 hb6.size)))
  go_wp2
  go_ret
  exact ⟨rfl, hb05.drew.trans ((hb6.mono (by show w.heap.size ≤ w5.heap.size; omega)).trans (hb7.mono (by have := hb6.size; have h : w5.drew.heap.size = w5.heap.size := rfl; omega)))⟩
end Go.Proofs.Ytnlnbnkhobplnah
