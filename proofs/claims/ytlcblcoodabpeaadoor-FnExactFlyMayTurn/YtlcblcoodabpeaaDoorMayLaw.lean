/- The walk of the law on FlyMayTurn, over the contracts of both. -/
import Derived.Test.YtlcblcoodabpeaaDoorJ01
import Derived.Test.YtlcblcoodabpeaaDoorJ05
import Derived.Deep.RegionHeld3
import Derived.Deep.RegionWith
namespace Go.Proofs.YtlcblcoodabpeaaDoor
open Go.RowKit

/-- The boxes of the two arguments. -/
structure TwoB (w wr : World) (q s fr b : Int) (v : Value) (q' s' fr' b' : Int) (v' : Value) : Prop where
  old : Below w.heap.size w wr
  lt : w.heap.size + 1 < wr.heap.size
  p : wr.cell? ⟨w.heap.size, 0, none⟩ = some (.int .i64 q) ∧ wr.cell? ⟨w.heap.size, 1, none⟩ = some (.int .i64 s) ∧ wr.cell? ⟨w.heap.size, 2, none⟩ = some v ∧ wr.cell? ⟨w.heap.size, 3, none⟩ = some (.int .i64 fr) ∧ wr.cell? ⟨w.heap.size, 4, none⟩ = some (.int .i64 b)
  r : wr.cell? ⟨w.heap.size + 1, 0, none⟩ = some (.int .i64 q') ∧ wr.cell? ⟨w.heap.size + 1, 1, none⟩ = some (.int .i64 s') ∧ wr.cell? ⟨w.heap.size + 1, 2, none⟩ = some v' ∧ wr.cell? ⟨w.heap.size + 1, 3, none⟩ = some (.int .i64 fr') ∧ wr.cell? ⟨w.heap.size + 1, 4, none⟩ = some (.int .i64 b')
theorem TwoB.new (w : World) (q s fr b : Int) (v : Value) (q' s' fr' b' : Int) (v' : Value) (t t' : TypeId) : TwoB w ((w.alloc (.cells #[.int .i64 q, .int .i64 s, v, .int .i64 fr, .int .i64 b] t)).alloc (.cells #[.int .i64 q', .int .i64 s', v', .int .i64 fr', .int .i64 b'] t')) q s fr b v q' s' fr' b' v' :=
  ⟨((Below.refl _ _).alloc (Nat.le_refl _) _).alloc (by simp) _, by simp, by simp [go_sem], by simp [go_sem]⟩
theorem TwoB.below {w wr w2 : World} {q s fr b : Int} {v : Value} {q' s' fr' b' : Int} {v' : Value} (h : TwoB w wr q s fr b v q' s' fr' b' v') (hb : Below wr.heap.size wr w2) : TwoB w w2 q s fr b v q' s' fr' b' v' := by
  have c0 : ∀ j, w2.cell? ⟨w.heap.size, j, none⟩ = wr.cell? ⟨w.heap.size, j, none⟩ := fun j => hb.cell (p := ⟨w.heap.size, j, none⟩) (by have := h.lt; show w.heap.size < _; omega)
  have c1 : ∀ j, w2.cell? ⟨w.heap.size + 1, j, none⟩ = wr.cell? ⟨w.heap.size + 1, j, none⟩ := fun j => hb.cell (p := ⟨w.heap.size + 1, j, none⟩) h.lt
  refine ⟨h.old.trans (hb.mono h.old.size), Nat.lt_of_lt_of_le h.lt hb.size, ?_, ?_⟩
  · rw [c0, c0, c0, c0, c0]; exact h.p
  · rw [c1, c1, c1, c1, c1]; exact h.r

set_option maxRecDepth 20000 in
set_option maxHeartbeats 8000000 in
theorem mayLaw_any (m : Bool) (q s fr b : Int) (a : Option Addr) (b0 o cap : Nat) (l : List Stp) (q' s' fr' b' : Int) (a' : Option Addr) (b0' o' cap' : Nat) (l' : List Stp) (st nw : Int) (w : World) (hl : l.length ≤ maxLen) (hl' : l'.length ≤ maxLen) (hs : StepsAt w a b0 o l) (hs' : StepsAt w a' b0' o' l')
    (hS : l.length ≤ 1048576 → l'.length ≤ 1048576 → ∀ (g g' : Nat) (W : World), StepsAt W (some ⟨g, 0, none⟩) g 0 l → StepsAt W (some ⟨g', 0, none⟩) g' 0 l' → Calls Tryd.prog 15 #[.agg #[.int .i64 q, .int .i64 s, .slice (some ⟨g, 0, none⟩) l.length l.length, .int .i64 fr, .int .i64 b], .agg #[.int .i64 q', .int .i64 s', .slice (some ⟨g', 0, none⟩) l'.length l'.length, .int .i64 fr', .int .i64 b'], .int .i64 st, .int .i64 nw] W fun e w' => e = .returned (.bool m) ∧ Below W.heap.size W w')
    (hI : l.length ≤ 1048576 → l'.length ≤ 1048576 → ∀ (g g' : Nat) (W : World), StepsAt W (some ⟨g, 0, none⟩) g 0 l → StepsAt W (some ⟨g', 0, none⟩) g' 0 l' → Below w.heap.size w W → Calls Tryd.prog 16 #[.agg #[.int .i64 q, .int .i64 s, .slice (some ⟨g, 0, none⟩) l.length l.length, .int .i64 fr, .int .i64 b], .agg #[.int .i64 q', .int .i64 s', .slice (some ⟨g', 0, none⟩) l'.length l'.length, .int .i64 fr', .int .i64 b'], .int .i64 st, .int .i64 nw] W fun e w' => e = .returned (.bool m) ∧ Below W.heap.size W w') :
    Calls Tryd.prog 5 #[.agg #[.int .i64 q, .int .i64 s, .slice a l.length cap, .int .i64 fr, .int .i64 b], .agg #[.int .i64 q', .int .i64 s', .slice a' l'.length cap', .int .i64 fr', .int .i64 b'], .int .i64 st, .int .i64 nw] w fun e w' => e = .returned (.bool true) ∧ Below w.heap.size w w' := by
  have T0 := TwoB.new w q s fr b (.slice a l.length cap) q' s' fr' b' (.slice a' l'.length cap') 26 26
  obtain ⟨L1, hL1⟩ : ∃ L1, leftB 1048576 l.length = L1 := ⟨_, rfl⟩
  obtain ⟨hL1a, hL1b⟩ := leftB_left 1048576 l.length (by omega) (by omega)
  rw [hL1] at hL1a hL1b
  go_enter Tryd.func5, Tryd.ntmps5
  go_wp2_with fail
  refine (szPath_any _ _ _ _ _ _ _ _ _ hl (by omega) (by omega)).mono ?_
  rw [hL1]
  rintro e w1 ⟨rfl, hb1⟩
  have T1 := T0.below hb1
  clear hb1 T0
  by_cases h1 : L1 < 0
  · go_wp2
    go_ret
    exact ⟨rfl, T1.old⟩
  have hn1 : l.length ≤ 1048576 := by
    unfold leftB at hL1
    split at hL1 <;> omega
  obtain ⟨L2, hL2⟩ : ∃ L2, leftB L1 l'.length = L2 := ⟨_, rfl⟩
  obtain ⟨r0, r1, r2, r3, r4⟩ := T1.r
  go_wp2_with fail
  refine (szPath_any _ _ _ _ _ _ _ _ _ hl' (by omega) (by omega)).mono ?_
  rw [hL2]
  rintro e w2 ⟨rfl, hb2⟩
  have T2 := T1.below hb2
  clear hb2 T1 r0 r1 r2 r3 r4
  by_cases h2 : L2 < 0
  · go_wp2
    go_ret
    exact ⟨rfl, T2.old⟩
  have hn2 : l'.length ≤ 1048576 := by
    unfold leftB at hL2
    split at hL2 <;> omega
  have hS' := hS hn1 hn2
  have hI' := hI hn1 hn2
  clear hS hI hL1 hL2 hL1a hL1b
  obtain ⟨p0, p1, p2, p3, p4⟩ := T2.p
  obtain ⟨r0, r1, r2, r3, r4⟩ := T2.r
  have zr := T2.lt
  have zp : w.heap.size < w2.heap.size := by omega
  have hsd : StepsAt w2.drew a b0 o l := (hs.below T2.old hs.lt).below (Below.refl w2.heap.size w2).drew (hs.below T2.old hs.lt).lt
  have hsd' : StepsAt w2.drew a' b0' o' l' := (hs'.below T2.old hs'.lt).below (Below.refl w2.heap.size w2).drew (hs'.below T2.old hs'.lt).lt
  go_wp2
  go_region_held3 (fun w' => w'.cell? ⟨w.heap.size, 0, none⟩ = some (.int .i64 q) ∧ w'.cell? ⟨w.heap.size, 1, none⟩ = some (.int .i64 s) ∧ w'.cell? ⟨w.heap.size, 2, none⟩ = some (.slice a l.length cap) ∧ w'.cell? ⟨w.heap.size, 3, none⟩ = some (.int .i64 fr) ∧ w'.cell? ⟨w.heap.size, 4, none⟩ = some (.int .i64 b) ∧
      w'.cell? ⟨w.heap.size + 1, 0, none⟩ = some (.int .i64 q') ∧ w'.cell? ⟨w.heap.size + 1, 1, none⟩ = some (.int .i64 s') ∧ w'.cell? ⟨w.heap.size + 1, 2, none⟩ = some (.slice a' l'.length cap') ∧ w'.cell? ⟨w.heap.size + 1, 3, none⟩ = some (.int .i64 fr') ∧ w'.cell? ⟨w.heap.size + 1, 4, none⟩ = some (.int .i64 b'))
    (simp [go_sem, *])
    (first
      | (go_at_call_of 8 (Value.slice a l.length cap); refine (toPath_any _ _ _ _ _ b0 o _ _ _ hn1 hsd).mono ?_; rintro e w3 ⟨g3, rfl, hg3, hg3', hs3, hb3⟩; have n0 : ∀ j, w3.cell? ⟨w.heap.size, j, none⟩ = w2.cell? ⟨w.heap.size, j, none⟩ := fun j => hb3.cell (p := ⟨w.heap.size, j, none⟩) zp; have n1 : ∀ j, w3.cell? ⟨w.heap.size + 1, j, none⟩ = w2.cell? ⟨w.heap.size + 1, j, none⟩ := fun j => hb3.cell (p := ⟨w.heap.size + 1, j, none⟩) zr)
      | (go_at_call_of 8 (Value.slice a' l'.length cap'); refine (toPath_any _ _ _ _ _ b0' o' _ _ _ hn2 (hsd'.below hb3 hsd'.lt)).mono ?_; rintro e w4 ⟨g4, rfl, hg4, hg4', hs4, hb4⟩; have n2 : ∀ j, w4.cell? ⟨w.heap.size, j, none⟩ = w3.cell? ⟨w.heap.size, j, none⟩ := fun j => hb4.cell (p := ⟨w.heap.size, j, none⟩) (Nat.lt_of_lt_of_le zp hb3.size); have n3 : ∀ j, w4.cell? ⟨w.heap.size + 1, j, none⟩ = w3.cell? ⟨w.heap.size + 1, j, none⟩ := fun j => hb4.cell (p := ⟨w.heap.size + 1, j, none⟩) (Nat.lt_of_lt_of_le zr hb3.size))
      | (go_at_call 15; refine (hS' g3 g4 w4 (hs3.below hb4 (fun _ => hg3')) hs4).mono ?_; rintro e w5 ⟨rfl, hb5⟩; have n4 : ∀ j, w5.cell? ⟨w.heap.size, j, none⟩ = w4.cell? ⟨w.heap.size, j, none⟩ := fun j => hb5.cell (p := ⟨w.heap.size, j, none⟩) (Nat.lt_of_lt_of_le (Nat.lt_of_lt_of_le zp hb3.size) hb4.size); have n5 : ∀ j, w5.cell? ⟨w.heap.size + 1, j, none⟩ = w4.cell? ⟨w.heap.size + 1, j, none⟩ := fun j => hb5.cell (p := ⟨w.heap.size + 1, j, none⟩) (Nat.lt_of_lt_of_le (Nat.lt_of_lt_of_le zr hb3.size) hb4.size)))
  have B5 : Below w2.heap.size w2 w5 := (((Below.refl w2.heap.size w2).drew).trans hb3).trans ((hb4.mono hb3.size).trans (hb5.mono (Nat.le_trans hb3.size hb4.size)))
  have T5 := T2.below B5
  clear n0 n1 n2 n3 n4 n5 hb3 hb4 hb5 hs3 hs4 hsd hsd' hg3 hg3' hg4 hg4' p0 p1 p2 p3 p4 r0 r1 r2 r3 r4 T2 B5 zp zr hS'
  obtain ⟨p0, p1, p2, p3, p4⟩ := T5.p
  go_wp2_with fail
  refine (toPath_any _ _ _ _ _ b0 o _ _ _ hn1 (hs.below T5.old hs.lt)).mono ?_
  rintro e w6 ⟨g6, rfl, hg6, hg6', hs6, hb6⟩
  have T6 := T5.below hb6
  have X6 := PathAt.new w6 q s fr b (.slice (some ⟨g6, 0, none⟩) l.length l.length)
  have al6 : Below w6.heap.size w6 (w6.alloc (.cells #[.int .i64 q, .int .i64 s, .slice (some ⟨g6, 0, none⟩) l.length l.length, .int .i64 fr, .int .i64 b] 31)) := (Below.refl _ _).alloc (Nat.le_refl _) _
  have T6' := T6.below al6
  have hs6' := hs6.below al6 (fun _ => hg6')
  have hg6'' : g6 < (w6.alloc (.cells #[.int .i64 q, .int .i64 s, .slice (some ⟨g6, 0, none⟩) l.length l.length, .int .i64 fr, .int .i64 b] 31)).heap.size := Nat.lt_of_lt_of_le hg6' al6.size
  clear p0 p1 p2 p3 p4 T5 T6 al6 hb6 hs6 hg6 hg6'
  obtain ⟨r0, r1, r2, r3, r4⟩ := T6'.r
  go_wp2_with fail
  refine (toPath_any _ _ _ _ _ b0' o' _ _ _ hn2 (hs'.below T6'.old hs'.lt)).mono ?_
  rintro e w7 ⟨g7, rfl, hg7, hg7', hs7, hb7⟩
  have T7 := T6'.below hb7
  have X7 := X6.keep hb7 X6.lt
  have hs6'' := hs6'.below hb7 (fun _ => hg6'')
  have Y7 := PathAt.new w7 q' s' fr' b' (.slice (some ⟨g7, 0, none⟩) l'.length l'.length)
  have al7 : Below w7.heap.size w7 (w7.alloc (.cells #[.int .i64 q', .int .i64 s', .slice (some ⟨g7, 0, none⟩) l'.length l'.length, .int .i64 fr', .int .i64 b'] 31)) := (Below.refl _ _).alloc (Nat.le_refl _) _
  have T8 := T7.below al7
  have X8 := X7.keep al7 X7.lt
  have hg67 : g6 < w7.heap.size := Nat.lt_of_lt_of_le hg6'' hb7.size
  have hsx8 := hs6''.below al7 (fun _ => hg67)
  have hsy8 := hs7.below al7 (fun _ => hg7')
  have hg68 := Nat.lt_of_lt_of_le hg67 al7.size
  have hg78 := Nat.lt_of_lt_of_le hg7' al7.size
  clear r0 r1 r2 r3 r4 T6' T7 X6 X7 hb7 hs7 hg7 hg7' hs6' hs6'' hg6'' hg67 al7
  obtain ⟨⟨x0, x1, x2, x3, x4⟩, _⟩ := X8.cells
  obtain ⟨⟨y0, y1, y2, y3, y4⟩, _⟩ := Y7.cells
  go_wp2_with fail
  refine (hI' g6 g7 _ hsx8 hsy8 T8.old).mono ?_
  rintro e w9 ⟨rfl, hb9⟩
  have T9 := T8.below hb9
  have X9 := X8.keep hb9 X8.lt
  have Y9 := Y7.keep hb9 Y7.lt
  have hsx9 := hsx8.below hb9 (fun _ => hg68)
  have hsy9 := hsy8.below hb9 (fun _ => hg78)
  have hg69 := Nat.lt_of_lt_of_le hg68 hb9.size
  have hg79 := Nat.lt_of_lt_of_le hg78 hb9.size
  clear x0 x1 x2 x3 x4 y0 y1 y2 y3 y4 T8 X8 Y7 hsx8 hsy8 hg68 hg78 hb9 hI'
  obtain ⟨p0, p1, p2, p3, p4⟩ := T9.p
  obtain ⟨⟨x0, x1, x2, x3, x4⟩, _⟩ := X9.cells
  have zp : w.heap.size < w9.heap.size := by have := T9.lt; omega
  have zx := X9.lt
  have hsd : StepsAt w9.drew a b0 o l := (hs.below T9.old hs.lt).below (Below.refl w9.heap.size w9).drew (hs.below T9.old hs.lt).lt
  have hsxd : StepsAt w9.drew (some ⟨g6, 0, none⟩) g6 0 l := hsx9.below (Below.refl w9.heap.size w9).drew hsx9.lt
  generalize w6.heap.size = B6 at *
  generalize w7.heap.size = B7 at *
  go_wp2
  go_region_held3 (fun w' => w'.cell? ⟨w.heap.size, 0, none⟩ = some (.int .i64 q) ∧ w'.cell? ⟨w.heap.size, 1, none⟩ = some (.int .i64 s) ∧ w'.cell? ⟨w.heap.size, 2, none⟩ = some (.slice a l.length cap) ∧ w'.cell? ⟨w.heap.size, 3, none⟩ = some (.int .i64 fr) ∧ w'.cell? ⟨w.heap.size, 4, none⟩ = some (.int .i64 b) ∧
      w'.cell? ⟨B6, 0, none⟩ = some (.int .i64 q) ∧ w'.cell? ⟨B6, 1, none⟩ = some (.int .i64 s) ∧ w'.cell? ⟨B6, 2, none⟩ = some (.slice (some ⟨g6, 0, none⟩) l.length l.length) ∧ w'.cell? ⟨B6, 3, none⟩ = some (.int .i64 fr) ∧ w'.cell? ⟨B6, 4, none⟩ = some (.int .i64 b))
    (simp [go_sem, *])
    (first
      | (go_at_call 8; refine (toPath_any _ _ _ _ _ b0 o _ _ _ hn1 hsd).mono ?_; rintro e wa ⟨ga, rfl, hga, hga', hsa, hba⟩; have n0 : ∀ j, wa.cell? ⟨w.heap.size, j, none⟩ = w9.cell? ⟨w.heap.size, j, none⟩ := fun j => hba.cell (p := ⟨w.heap.size, j, none⟩) zp; have n1 : ∀ j, wa.cell? ⟨B6, j, none⟩ = w9.cell? ⟨B6, j, none⟩ := fun j => hba.cell (p := ⟨B6, j, none⟩) zx)
      | (go_at_call 10; refine (eqPath_same _ _ _ _ _ _ g6 0 _ ga 0 _ _ _ hn1 (hsxd.below hba (fun _ => hg69)) hsa).mono ?_; rintro e wb ⟨rfl, hbb⟩; have n2 : ∀ j, wb.cell? ⟨w.heap.size, j, none⟩ = wa.cell? ⟨w.heap.size, j, none⟩ := fun j => hbb.cell (p := ⟨w.heap.size, j, none⟩) (Nat.lt_of_lt_of_le zp hba.size); have n3 : ∀ j, wb.cell? ⟨B6, j, none⟩ = wa.cell? ⟨B6, j, none⟩ := fun j => hbb.cell (p := ⟨B6, j, none⟩) (Nat.lt_of_lt_of_le zx hba.size)))
  have Bb : Below w9.heap.size w9 wb := ((Below.refl w9.heap.size w9).drew).trans (hba.trans (hbb.mono hba.size))
  have Tb := T9.below Bb
  have Yb := Y9.keep Bb Y9.lt
  have hsyb := hsy9.below Bb (fun _ => hg79)
  have hg7b := Nat.lt_of_lt_of_le hg79 Bb.size
  clear n0 n1 n2 n3 hba hbb hsa hga hga' hsd hsxd hsx9 hsy9 hg69 hg79 zp zx p0 p1 p2 p3 p4 x0 x1 x2 x3 x4 T9 X9 Y9 Bb
  obtain ⟨r0, r1, r2, r3, r4⟩ := Tb.r
  obtain ⟨⟨y0, y1, y2, y3, y4⟩, _⟩ := Yb.cells
  have zr := Tb.lt
  have zy := Yb.lt
  have hsd : StepsAt wb.drew a' b0' o' l' := (hs'.below Tb.old hs'.lt).below (Below.refl wb.heap.size wb).drew (hs'.below Tb.old hs'.lt).lt
  have hsyd : StepsAt wb.drew (some ⟨g7, 0, none⟩) g7 0 l' := hsyb.below (Below.refl wb.heap.size wb).drew hsyb.lt
  go_wp2
  go_region_held3 (fun w' => w'.cell? ⟨w.heap.size + 1, 0, none⟩ = some (.int .i64 q') ∧ w'.cell? ⟨w.heap.size + 1, 1, none⟩ = some (.int .i64 s') ∧ w'.cell? ⟨w.heap.size + 1, 2, none⟩ = some (.slice a' l'.length cap') ∧ w'.cell? ⟨w.heap.size + 1, 3, none⟩ = some (.int .i64 fr') ∧ w'.cell? ⟨w.heap.size + 1, 4, none⟩ = some (.int .i64 b') ∧
      w'.cell? ⟨B7, 0, none⟩ = some (.int .i64 q') ∧ w'.cell? ⟨B7, 1, none⟩ = some (.int .i64 s') ∧ w'.cell? ⟨B7, 2, none⟩ = some (.slice (some ⟨g7, 0, none⟩) l'.length l'.length) ∧ w'.cell? ⟨B7, 3, none⟩ = some (.int .i64 fr') ∧ w'.cell? ⟨B7, 4, none⟩ = some (.int .i64 b'))
    (simp [go_sem, *])
    (first
      | (go_at_call 8; refine (toPath_any _ _ _ _ _ b0' o' _ _ _ hn2 hsd).mono ?_; rintro e wc ⟨gc, rfl, hgc, hgc', hsc, hbc⟩; have n0 : ∀ j, wc.cell? ⟨w.heap.size + 1, j, none⟩ = wb.cell? ⟨w.heap.size + 1, j, none⟩ := fun j => hbc.cell (p := ⟨w.heap.size + 1, j, none⟩) zr; have n1 : ∀ j, wc.cell? ⟨B7, j, none⟩ = wb.cell? ⟨B7, j, none⟩ := fun j => hbc.cell (p := ⟨B7, j, none⟩) zy)
      | (go_at_call 10; refine (eqPath_same _ _ _ _ _ _ g7 0 _ gc 0 _ _ _ hn2 (hsyd.below hbc (fun _ => hg7b)) hsc).mono ?_; rintro e wd ⟨rfl, hbd⟩; have n2 : ∀ j, wd.cell? ⟨w.heap.size + 1, j, none⟩ = wc.cell? ⟨w.heap.size + 1, j, none⟩ := fun j => hbd.cell (p := ⟨w.heap.size + 1, j, none⟩) (Nat.lt_of_lt_of_le zr hbc.size); have n3 : ∀ j, wd.cell? ⟨B7, j, none⟩ = wc.cell? ⟨B7, j, none⟩ := fun j => hbd.cell (p := ⟨B7, j, none⟩) (Nat.lt_of_lt_of_le zy hbc.size)))
  have Bd : Below wb.heap.size wb wd := ((Below.refl wb.heap.size wb).drew).trans (hbc.trans (hbd.mono hbc.size))
  have Td := Tb.below Bd
  clear n0 n1 n2 n3
  go_wp2
  go_ret
  exact ⟨rfl, Td.old⟩
end Go.Proofs.YtlcblcoodabpeaaDoor
