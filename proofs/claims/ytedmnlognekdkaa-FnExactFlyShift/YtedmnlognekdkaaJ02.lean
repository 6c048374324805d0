/- Joined texts: PathPic, ShiftLaw, CopyS, Move, AnyEnd, Cls, Reads, SLeaf, Spec, Shift, ILeaf. -/
import Derived.Deep.RegionHeld3
import Derived.WalkKit
import Derived.BigQuiet
import Derived.WalkSpells
import Derived.Test.YtedmnlognekdkaaRows
import Derived.Test.YtedmnlognekdkaaJ01
namespace Go.Proofs.Ytedmnlognekdkaa
open Go.RowKit

/-- Two paths with the same numbers in rows that calls own. -/
theorem eqOwned {A : Ans} {v v' : Value} {base base' : Nat} {w : World} (hA : A.l.length ≤ 1048576) (h : w.ownsRow base 43 7 v A.l.length (stepCells A.l)) (h' : w.ownsRow base' 43 7 v' A.l.length (stepCells A.l)) :
    Calls Try.prog 8 #[.agg #[.int .i64 A.q, .int .i64 A.s, v, .int .i64 A.fr, .int .i64 A.b], .agg #[.int .i64 A.q, .int .i64 A.s, v', .int .i64 A.fr, .int .i64 A.b]] w fun e w' => e = .returned (.bool true) ∧ Below w.heap.size w w' := by
  obtain ⟨a, b, cap, rfl, hs⟩ := steps_of h
  obtain ⟨a', b', cap', rfl, hs'⟩ := steps_of h'
  exact eqPath_same _ _ _ _ _ _ b 0 _ b' 0 _ _ _ hA hs hs'

/-- The picture of memory: B3, B5 the boxes of the two answers, r3, r5 their rows. -/
structure Pic (w wr : World) (q s fr b : Int) (va : Value) (A : Ans) (r3 B3 B5 r5 : Nat) (v3 v5 : Value) (M : List Stp) : Prop where
  box : BoxP w wr q s fr b va
  w0 : PathAt wr B3 A.q A.s A.fr A.b v3
  g0 : PathAt wr B5 A.q A.s A.fr A.b v5
  r3 : wr.ownsRow r3 43 7 v3 A.l.length (stepCells A.l)
  r5 : wr.ownsRow r5 43 7 v5 M.length (stepCells M)
section
variable {w wr w' : World} {q s fr b : Int} {va : Value} {A : Ans} {r3 B3 B5 r5 : Nat} {v3 v5 : Value} {M : List Stp}
theorem Pic.below (h : Pic w wr q s fr b va A r3 B3 B5 r5 v3 v5 M) (hb : Below wr.heap.size wr w') : Pic w w' q s fr b va A r3 B3 B5 r5 v3 v5 M :=
  ⟨h.box.below hb, h.w0.keep hb h.w0.lt, h.g0.keep hb h.g0.lt, owns_below h.r3 hb, owns_below h.r5 hb⟩
theorem Pic.eq (h : Pic w wr q s fr b va A r3 B3 B5 r5 v3 v5 A.l) (hA : A.l.length ≤ 1048576) :
    Calls Try.prog 8 #[.agg #[.int .i64 A.q, .int .i64 A.s, v5, .int .i64 A.fr, .int .i64 A.b], .agg #[.int .i64 A.q, .int .i64 A.s, v3, .int .i64 A.fr, .int .i64 A.b]] wr fun e w' => e = .returned (.bool true) ∧ Below wr.heap.size wr w' := eqOwned hA h.r5 h.r3
theorem pathAt_grown {P : Nat} {v : Value} {row : Option Nat} (h : PathAt wr P q s fr b v) (hg : wr.grownBy w' row) (hne : ∀ k, row = some k → k ≠ P) : PathAt w' P q s fr b v := h.grown hg (fun e => hne P e rfl)
theorem row_kept {base n : Nat} {v : Value} {xs : List Value} {row : Option Nat} (h : wr.ownsRow base 43 7 v n xs) (hg : wr.grownBy w' row) (hne : ∀ k k', row = some k → v.ownBlock = some k' → k ≠ k') : w'.ownsRow base 43 7 v n xs :=
  h.kept hg (by
    cases hv : v.ownBlock with
    | none => exact Or.inl rfl
    | some k => exact Or.inr (fun e => hne k k e.symm hv rfl))
theorem Pic.grown {row : Option Nat} (h : Pic w wr q s fr b va A r3 B3 B5 r5 v3 v5 M) (hg : wr.grownBy w' row) (h0 : ∀ k, row = some k → w.heap.size < k) (h3 : ∀ k, row = some k → k ≠ B3) (h5 : ∀ k, row = some k → k ≠ B5)
    (k3 : ∀ k k', row = some k → v3.ownBlock = some k' → k ≠ k') (k5 : ∀ k k', row = some k → v5.ownBlock = some k' → k ≠ k') : Pic w w' q s fr b va A r3 B3 B5 r5 v3 v5 M :=
  ⟨h.box.keep ((Below.refl _ _).grown hg h.box.lt (fun k e => by have := h0 k e; omega)), pathAt_grown h.w0 hg h3, pathAt_grown h.g0 hg h5, row_kept h.r3 hg k3, row_kept h.r5 hg k5⟩
theorem Pic.marked {M' : List Stp} (h : Pic w wr q s fr b va A r3 B3 B5 r5 v3 v5 M) (hg : wr.grownBy w' v5.ownBlock) (hr : w'.ownsRow r5 43 7 v5 M'.length (stepCells M')) (h0 : ∀ k, v5.ownBlock = some k → w.heap.size < k) (h3 : ∀ k, v5.ownBlock = some k → k ≠ B3) (h5 : ∀ k, v5.ownBlock = some k → k ≠ B5)
    (k3 : ∀ k k', v5.ownBlock = some k → v3.ownBlock = some k' → k ≠ k') : Pic w w' q s fr b va A r3 B3 B5 r5 v3 v5 M' :=
  ⟨h.box.keep ((Below.refl _ _).grown hg h.box.lt (fun k e => by have := h0 k e; omega)), pathAt_grown h.w0 hg h3, pathAt_grown h.g0 hg h5, row_kept h.r3 hg k3, hr⟩
end
end Go.Proofs.Ytedmnlognekdkaa

namespace Go.Proofs.Ytedmnlognekdkaa
open Go.RowKit

theorem shiftLaw_big (q s fr b d : Int) (a : Option Addr) (n cap : Nat) (w : World) (hn : n ≤ maxLen) (hbig : 1048576 < n) :
    Calls Try.prog 3 #[.agg #[.int .i64 q, .int .i64 s, .slice a n cap, .int .i64 fr, .int .i64 b], .int .i64 d] w fun e w' => e = .returned (.bool true) ∧ Below w.heap.size w w' := by
  have e1 : leftB 1048576 n = -1 := by unfold leftB; rw [if_pos (by omega)]
  go_enter Try.func3, Try.ntmps3
  go_wp2_with (go_at_call 4; refine (szPath_any _ _ _ _ _ _ _ _ _ hn (by omega) (by omega)).mono ?_; rintro e w1 ⟨rfl, hb1⟩)
  go_ret
  exact ⟨rfl, ((Below.refl _ _).alloc (Nat.le_refl _) _).trans (hb1.mono (by simp))⟩

set_option maxRecDepth 20000 in
set_option maxHeartbeats 8000000 in
theorem shiftLaw_any (A : Ans) (q s fr b d : Int) (a : Option Addr) (b0 o cap : Nat) (l : List Stp) (w : World) (hl : l.length ≤ 1048576) (hs : StepsAt w a b0 o l) (hA : A.l.length ≤ 1048576)
    (hS : ∀ (a : Option Addr) (b0 o cap : Nat) (W : World), StepsAt W a b0 o l → Calls Try.prog 5 #[.agg #[.int .i64 q, .int .i64 s, .slice a l.length cap, .int .i64 fr, .int .i64 b], .int .i64 d] W (Gives A W))
    (hI : ∀ (a : Option Addr) (b0 o cap : Nat) (W : World), StepsAt W a b0 o l → Calls Try.prog 7 #[.agg #[.int .i64 q, .int .i64 s, .slice a l.length cap, .int .i64 fr, .int .i64 b], .int .i64 d] W (Gives A W)) :
    Calls Try.prog 3 #[.agg #[.int .i64 q, .int .i64 s, .slice a l.length cap, .int .i64 fr, .int .i64 b], .int .i64 d] w fun e w' => e = .returned (.bool true) ∧ Below w.heap.size w w' := by
  have e1 : 0 ≤ leftB 1048576 l.length := by unfold leftB; rw [if_neg (by omega)]; omega
  have hB0 := BoxP.new w q s fr b (.slice a l.length cap) 26
  have hsB : ∀ {wr : World}, BoxP w wr q s fr b (.slice a l.length cap) → StepsAt wr a b0 o l := fun h => hs.below h.old hs.lt
  go_enter Try.func3, Try.ntmps3
  go_wp2_with fail
  refine (szPath_any _ _ _ _ _ _ _ _ _ (by unfold maxLen; omega) (by omega) (by omega)).mono ?_
  rintro e w1 ⟨rfl, hb1⟩
  have hB1 := hB0.below hb1
  clear hb1 hB0
  have c0 := hB1.p0
  have c1 := hB1.p1
  have c2 := hB1.p2
  have c3 := hB1.p3
  have c4 := hB1.p4
  go_wp2_with fail
  refine (toPath_any _ _ _ _ _ b0 o _ _ _ hl (hsB hB1)).mono ?_
  rintro e w2 ⟨g2, rfl, hg2, hg2', hs2, hb2⟩
  have hB2 := hB1.below hb2
  clear c0 c1 c2 c3 c4
  go_wp2_with fail
  refine (hS _ g2 0 _ _ hs2).mono ?_
  rintro e w3 ⟨v3, rfl, ho3, hb3⟩
  obtain ⟨a3, j3, k3, hv3, _⟩ := steps_of ho3
  subst hv3
  have hB3 := hB2.below hb3
  have z2 := hB2.lt
  have z3 := hB3.lt
  have o3 := owns_lt ho3
  have W3 := PathAt.new w3 A.q A.s A.fr A.b (.slice a3 A.l.length k3)
  have al3 : Below w3.heap.size w3 (w3.alloc (.cells #[.int .i64 A.q, .int .i64 A.s, (.slice a3 A.l.length k3), .int .i64 A.fr, .int .i64 A.b] 31)) := (Below.refl _ _).alloc (Nat.le_refl _) _
  have hB3' := hB3.below al3
  have ho3' := owns_below ho3 al3
  have s3 : (w3.alloc (.cells #[.int .i64 A.q, .int .i64 A.s, (.slice a3 A.l.length k3), .int .i64 A.fr, .int .i64 A.b] 31)).heap.size = w3.heap.size + 1 := World.size_alloc _ _
  clear hb2 hb3 hs2 hB1 hB2 hB3 al3 ho3 hg2 hg2'
  have c0 := hB3'.p0
  have c1 := hB3'.p1
  have c2 := hB3'.p2
  have c3 := hB3'.p3
  have c4 := hB3'.p4
  go_wp2_with fail
  refine (toPath_more _ _ _ _ _ b0 o _ _ _ hl (hsB hB3')).mono ?_
  rintro e w4 ⟨g4, rfl, hg4, hg4', hs4, hb4, hth4⟩
  rw [s3] at hg4
  have hB4 := hB3'.below hb4
  have ho4 := owns_below ho3' hb4
  have W4 := W3.keep hb4 W3.lt
  have X4 := PathAt.new w4 q s fr b (.slice (some ⟨g4, 0, none⟩) l.length l.length)
  have al4 : Below w4.heap.size w4 (w4.alloc (.cells #[.int .i64 q, .int .i64 s, .slice (some ⟨g4, 0, none⟩) l.length l.length, .int .i64 fr, .int .i64 b] 31)) := (Below.refl _ _).alloc (Nat.le_refl _) _
  have s4 : (w4.alloc (.cells #[.int .i64 q, .int .i64 s, .slice (some ⟨g4, 0, none⟩) l.length l.length, .int .i64 fr, .int .i64 b] 31)).heap.size = w4.heap.size + 1 := World.size_alloc _ _
  clear c0 c1 c2 c3 c4 hB3' W3 ho3' hb4 s3
  go_wp2_with fail
  refine (hI _ g4 0 _ _ (hs4.alloc _)).mono ?_
  rintro e w5 ⟨v5, rfl, ho5, hb5⟩
  obtain ⟨a5, j5, k5, hv5, _⟩ := steps_of ho5
  subst hv5
  have hb45 : Below w4.heap.size w4 w5 := al4.trans (hb5.mono (by rw [s4]; omega))
  have d5 : ∀ k, (Value.slice a5 A.l.length k5).ownBlock = some k → w4.heap.size < k ∧ k < w5.heap.size := fun k e => by have h1 := owns_base ho5 k e; have h2 := owns_lt ho5 k e; rw [s4] at h1; omega
  have G5 := PathAt.new w5 A.q A.s A.fr A.b (.slice a5 A.l.length k5)
  have al5 : Below w5.heap.size w5 (w5.alloc (.cells #[.int .i64 A.q, .int .i64 A.s, (.slice a5 A.l.length k5), .int .i64 A.fr, .int .i64 A.b] 31)) := (Below.refl _ _).alloc (Nat.le_refl _) _
  have hb45' : Below w4.heap.size w4 (w5.alloc (.cells #[.int .i64 A.q, .int .i64 A.s, (.slice a5 A.l.length k5), .int .i64 A.fr, .int .i64 A.b] 31)) := hb45.trans (al5.mono hb45.size)
  have X5 := (X4.keep hb5 X4.lt).keep al5 (X4.keep hb5 X4.lt).lt
  have P5 : Pic w (w5.alloc (.cells #[.int .i64 A.q, .int .i64 A.s, (.slice a5 A.l.length k5), .int .i64 A.fr, .int .i64 A.b] 31)) q s fr b (.slice a l.length cap) A w2.heap.size w3.heap.size w5.heap.size (w4.heap.size + 1) (.slice a3 A.l.length k3) (.slice a5 A.l.length k5) A.l := ⟨hB4.below hb45', W4.keep hb45' W4.lt, G5, owns_below ho4 hb45', by have := owns_below ho5 al5; rw [s4] at this; exact this⟩
  have hth5 : ∀ i, i < l.length → (w5.alloc (.cells #[.int .i64 A.q, .int .i64 A.s, (.slice a5 A.l.length k5), .int .i64 A.fr, .int .i64 A.b] 31)).there g4 (i * 7) 7 := fun i hi => there_below (hth4 i hi) hb45' hg4'
  have hs5 := hs4.below hb45' (fun _ => hg4')
  have z4 := W4.lt
  have z5 : w4.heap.size < w5.heap.size := Nat.lt_of_lt_of_le (by rw [s4]; omega) hb5.size
  have hgl5 : g4 < (w5.alloc (.cells #[.int .i64 A.q, .int .i64 A.s, (.slice a5 A.l.length k5), .int .i64 A.fr, .int .i64 A.b] 31)).heap.size := Nat.lt_of_lt_of_le hg4' hb45'.size
  clear hb5 hb45 hb45' al4 al5 X4 G5 ho4 ho5 hB4 W4 hs4 hth4
  obtain ⟨⟨m0, m1, m2, m3, m4⟩, _⟩ := P5.g0.cells
  obtain ⟨⟨n0, n1, n2, n3, n4⟩, _⟩ := P5.w0.cells
  go_wp2_with fail
  refine (P5.eq hA).mono ?_
  rintro e w6 ⟨rfl, hb6⟩
  have P6 := P5.below hb6
  have X6 := X5.keep hb6 X5.lt
  have hth6 : ∀ i, i < l.length → w6.there g4 (i * 7) 7 := fun i hi => there_below (hth5 i hi) hb6 hgl5
  have hs6 := hs5.below hb6 (fun _ => hgl5)
  have hg6 : g4 < w6.heap.size := Nat.lt_of_lt_of_le hgl5 hb6.size
  clear m0 m1 m2 m3 m4 n0 n1 n2 n3 n4 hb6 P5 X5 hth5 hs5 hgl5
  have c0 := P6.box.p0
  have c1 := P6.box.p1
  have c2 := P6.box.p2
  have c3 := P6.box.p3
  have c4 := P6.box.p4
  obtain ⟨⟨y0, y1, y2, y3, y4⟩, _⟩ := X6.cells
  have zc := P6.box.lt
  have zy := X6.lt
  have hs6d : StepsAt w6.drew (some ⟨g4, 0, none⟩) g4 0 l := hs6.below ((Below.refl w6.heap.size w6).drew) hs6.lt
  have hsd : StepsAt w6.drew a b0 o l := (hsB P6.box).below ((Below.refl w6.heap.size w6).drew) (hsB P6.box).lt
  have hg6d : g4 < w6.drew.heap.size := hg6
  go_wp2
  go_region_held3 (fun w' => w'.cell? ⟨w.heap.size, 0, none⟩ = some (.int .i64 q) ∧ w'.cell? ⟨w.heap.size, 1, none⟩ = some (.int .i64 s) ∧ w'.cell? ⟨w.heap.size, 2, none⟩ = some (.slice a l.length cap) ∧ w'.cell? ⟨w.heap.size, 3, none⟩ = some (.int .i64 fr) ∧ w'.cell? ⟨w.heap.size, 4, none⟩ = some (.int .i64 b) ∧
      w'.cell? ⟨w4.heap.size, 0, none⟩ = some (.int .i64 q) ∧ w'.cell? ⟨w4.heap.size, 1, none⟩ = some (.int .i64 s) ∧ w'.cell? ⟨w4.heap.size, 2, none⟩ = some (.slice (some ⟨g4, 0, none⟩) l.length l.length) ∧ w'.cell? ⟨w4.heap.size, 3, none⟩ = some (.int .i64 fr) ∧ w'.cell? ⟨w4.heap.size, 4, none⟩ = some (.int .i64 b))
    (simp [go_sem, *])
    (first
      | (go_at_call 6; refine (toPath_any _ _ _ _ _ b0 o _ _ _ hl hsd).mono ?_; rintro e w7 ⟨g7, rfl, hg7, hg7', hs7, hb7⟩; have n0 : ∀ j, w7.cell? ⟨w.heap.size, j, none⟩ = w6.cell? ⟨w.heap.size, j, none⟩ := fun j => hb7.cell (p := ⟨w.heap.size, j, none⟩) zc; have n1 : ∀ j, w7.cell? ⟨w4.heap.size, j, none⟩ = w6.cell? ⟨w4.heap.size, j, none⟩ := fun j => hb7.cell (p := ⟨w4.heap.size, j, none⟩) zy)
      | (go_at_call 8; refine (eqPath_same _ _ _ _ _ _ g4 0 _ g7 0 _ _ _ hl (hs6d.below hb7 (fun _ => hg6d)) hs7).mono ?_; rintro e w8 ⟨rfl, hb8⟩; have n2 : ∀ j, w8.cell? ⟨w.heap.size, j, none⟩ = w7.cell? ⟨w.heap.size, j, none⟩ := fun j => hb8.cell (p := ⟨w.heap.size, j, none⟩) (Nat.lt_of_lt_of_le zc hb7.size); have n3 : ∀ j, w8.cell? ⟨w4.heap.size, j, none⟩ = w7.cell? ⟨w4.heap.size, j, none⟩ := fun j => hb8.cell (p := ⟨w4.heap.size, j, none⟩) (Nat.lt_of_lt_of_le zy hb7.size)))
  have hb68 : Below w6.heap.size w6 w8 := ((Below.refl w6.heap.size w6).drew).trans (hb7.trans (hb8.mono hb7.size))
  have P8 := P6.below hb68
  have X8 := X6.keep hb68 X6.lt
  have hth8 : ∀ i, i < l.length → w8.there g4 (i * 7) 7 := fun i hi => there_below (hth6 i hi) hb68 hg6
  have hg8 : g4 < w8.heap.size := Nat.lt_of_lt_of_le hg6 hb68.size
  clear c0 c1 c2 c3 c4 y0 y1 y2 y3 y4 n0 n1 n2 n3 hb7 hb8 hs7 hs6d hsd hs6 hb68 P6 X6 hth6 hg6 zc zy hg7 hg7' hg6d
  obtain ⟨⟨y0, y1, y2, y3, y4⟩, _⟩ := X8.cells
  go_wp2_with fail
  refine (markPath_any _ _ _ _ _ g4 _ l.length _ hl (by omega) hg8 hth8).mono ?_
  rintro e w9 ⟨rfl, hg9⟩
  have P9 := P8.grown hg9 (fun k e => by cases e; omega) (fun k e => by cases e; omega) (fun k e => by cases e; omega) (fun k k' e e' => by cases e; have := o3 k' e'; omega) (fun k k' e e' => by cases e; have := (d5 k' e').1; omega)
  clear y0 y1 y2 y3 y4 X8 P8 hth8 hg8 hg9
  have hk9 : ¬ (1 + ((l.length * 7 : Nat) : Int) < 0) := by omega
  generalize hmk : (1 : Int) + ((l.length * 7 : Nat) : Int) = mk9 at hk9 ⊢
  clear hmk
  obtain ⟨⟨m0, m1, m2, m3, m4⟩, _⟩ := P9.g0.cells
  obtain ⟨⟨n0, n1, n2, n3, n4⟩, _⟩ := P9.w0.cells
  go_wp2_with fail
  refine (P9.eq hA).mono ?_
  rintro e w10 ⟨rfl, hb10⟩
  have P10 := P9.below hb10
  clear m0 m1 m2 m3 m4 n0 n1 n2 n3 n4 hb10 P9
  obtain ⟨⟨m0, m1, m2, m3, m4⟩, _⟩ := P10.g0.cells
  go_wp2_with fail
  refine (markPath_own _ _ _ _ 1 (.slice a5 A.l.length k5) _ A.l w10 hA (by omega) P10.r5).mono ?_
  rintro e w11 ⟨rfl, hr11, hg11⟩
  have P11 : Pic w w11 q s fr b (.slice a l.length cap) A w2.heap.size w3.heap.size w5.heap.size (w4.heap.size + 1) (.slice a3 A.l.length k3) (.slice a5 A.l.length k5) (markL 1 A.l.length) := P10.marked hg11 (by rw [markL_length]; exact hr11) (fun k e => by have := d5 k e; omega) (fun k e => by have := d5 k e; omega) (fun k e => by have := d5 k e; omega) (fun k k' e e' => by have := d5 k e; have := o3 k' e'; omega)
  clear hg11 hr11 P10 m0 m1 m2 m3 m4
  have hm11 : ¬ (1 + ((A.l.length * 7 : Nat) : Int) < 0) := by omega
  obtain ⟨mk, hmk⟩ : ∃ mk : Int, 1 + ((A.l.length * 7 : Nat) : Int) = mk := ⟨_, rfl⟩
  have HH : ∀ W : World, Pic w W q s fr b (.slice a l.length cap) A w2.heap.size w3.heap.size w5.heap.size (w4.heap.size + 1) (.slice a3 A.l.length k3) (.slice a5 A.l.length k5) (markL 1 A.l.length) →
      Calls Try.prog 10 #[.agg #[.int .i64 A.q, .int .i64 A.s, (.slice a5 A.l.length k5), .int .i64 A.fr, .int .i64 A.b], .int .i64 1] W fun e w' => e = .returned (.int .i64 mk) ∧ Below W.heap.size W w' := fun W hW => by rw [← hmk]; exact heldPath_own _ _ _ _ 1 (.slice a5 A.l.length k5) _ _ W hA (by omega) (by have := hW.r5; rw [markL_length] at this; exact this)
  rw [hmk] at hm11 ⊢
  clear hmk
  obtain ⟨⟨m0, m1, m2, m3, m4⟩, _⟩ := P11.g0.cells
  go_wp2_with fail
  refine (HH w11 P11).mono ?_
  rintro e w12 ⟨rfl, hb12⟩
  have P12 := P11.below hb12
  clear m0 m1 m2 m3 m4 P11 hb12
  have c0 := P12.box.p0
  have c1 := P12.box.p1
  have c2 := P12.box.p2
  have c3 := P12.box.p3
  have c4 := P12.box.p4
  go_wp2_with fail
  refine (toPath_any _ _ _ _ _ b0 o _ _ _ hl (hsB P12.box)).mono ?_
  rintro e w13 ⟨g13, rfl, hg13, hg13', hs13, hb13⟩
  have P13 := P12.below hb13
  clear hb13 P12 c0 c1 c2 c3 c4
  go_wp2_with fail
  refine (hI _ g13 0 _ _ hs13).mono ?_
  rintro e w14 ⟨v14, rfl, ho14, hb14⟩
  obtain ⟨a14, j14, k14, hv14, _⟩ := steps_of ho14
  subst hv14
  have P14 := (P13.below hb14).below ((Below.refl _ _).alloc (Nat.le_refl _) (.cells #[.int .i64 A.q, .int .i64 A.s, (.slice a14 A.l.length k14), .int .i64 A.fr, .int .i64 A.b] 31))
  have H14 := PathAt.new w14 A.q A.s A.fr A.b (.slice a14 A.l.length k14)
  have hr14 := owns_below ho14 ((Below.refl _ _).alloc (Nat.le_refl _) (.cells #[.int .i64 A.q, .int .i64 A.s, (.slice a14 A.l.length k14), .int .i64 A.fr, .int .i64 A.b] 31))
  clear hb14 P13 ho14
  obtain ⟨⟨m0, m1, m2, m3, m4⟩, _⟩ := H14.cells
  obtain ⟨⟨n0, n1, n2, n3, n4⟩, _⟩ := P14.w0.cells
  go_wp2_with fail
  refine (eqOwned hA hr14 P14.r3).mono ?_
  rintro e w15 ⟨rfl, hb15⟩
  have P15 := P14.below hb15
  clear m0 m1 m2 m3 m4 n0 n1 n2 n3 n4 H14 hr14 P14 hb15
  obtain ⟨⟨m0, m1, m2, m3, m4⟩, _⟩ := P15.g0.cells
  go_wp2_with fail
  refine (HH w15 P15).mono ?_
  rintro e w16 ⟨rfl, hb16⟩
  have P16 := P15.below hb16
  clear m0 m1 m2 m3 m4 hb16 P15 HH
  go_wp2
  go_ret
  exact ⟨rfl, P16.box.old⟩
end Go.Proofs.Ytedmnlognekdkaa

namespace Go.Proofs.Ytedmnlognekdkaa
open Go.RowKit

set_option maxRecDepth 20000 in
set_option maxHeartbeats 1000000 in
theorem copyS_any (q s fr b : Int) (a : Option Addr) (b0 o cap : Nat) (l : List Stp) (w : World) (hl0 : 1 ≤ l.length) (hl : l.length ≤ 1048576) (hs : StepsAt w a b0 o l) :
    Calls Try.prog 14 #[.agg #[.int .i64 q, .int .i64 s, .slice a l.length cap, .int .i64 fr, .int .i64 b]] w
      fun e w' => ∃ g gcap, e = .returned (.agg #[.int .i64 q, .int .i64 s, .slice (some ⟨g, 0, none⟩) l.length gcap, .int .i64 fr, .int .i64 b]) ∧
        w'.ownsRow w.heap.size 43 7 (.slice (some ⟨g, 0, none⟩) l.length gcap) l.length (stepCells l) ∧ Below w.heap.size w w' := by
  obtain ⟨i0, hi, hz0, hz1, hz2⟩ := info_parts step_info
  have hne : l ≠ [] := by intro e; subst e; simp at hl0
  obtain rfl := hs.here hne
  go_enter Try.func14, Try.ntmps14
  have hB0 := (BoxP.new w q s fr b (.slice (some ⟨b0, o, none⟩) l.length cap) 31)
  have hE := owns_empty (w := ((w.alloc (.cells #[.int .i64 q, .int .i64 s, .slice (some ⟨b0, o, none⟩) l.length cap, .int .i64 fr, .int .i64 b] 31)).alloc (.cells #[.int .i64 0, .int .i64 0, .slice none 0 0, .int .i64 0, .int .i64 0] 31))) (base := w.heap.size + 1 + 1) (e := 43) (size := 7) (by simp)
  simp only [World.size_alloc] at hE
  have hnew := steps_news (((hs.alloc (.cells #[.int .i64 q, .int .i64 s, .slice (some ⟨b0, o, none⟩) l.length cap, .int .i64 fr, .int .i64 b] 31)).alloc (.cells #[.int .i64 0, .int .i64 0, .slice none 0 0, .int .i64 0, .int .i64 0] 31)).alloc (.cells #[] 43))
  have hC : ∀ w4, (((w.alloc (.cells #[.int .i64 q, .int .i64 s, .slice (some ⟨b0, o, none⟩) l.length cap, .int .i64 fr, .int .i64 b] 31)).alloc (.cells #[.int .i64 0, .int .i64 0, .slice none 0 0, .int .i64 0, .int .i64 0] 31)).alloc (.cells #[] 43)).grownBy w4 (Value.slice (some ⟨w.heap.size + 1 + 1, 0, none⟩) 0 0).ownBlock →
      w4.cell? ⟨w.heap.size, 0, none⟩ = some (.int .i64 q) ∧ w4.cell? ⟨w.heap.size, 1, none⟩ = some (.int .i64 s) ∧ w4.cell? ⟨w.heap.size, 2, none⟩ = some (.slice (some ⟨b0, o, none⟩) l.length cap) ∧ w4.cell? ⟨w.heap.size, 3, none⟩ = some (.int .i64 fr) ∧ w4.cell? ⟨w.heap.size, 4, none⟩ = some (.int .i64 b) ∧
      w4.cell? ⟨w.heap.size + 1, 0, none⟩ = some (.int .i64 0) ∧ w4.cell? ⟨w.heap.size + 1, 1, none⟩ = some (.int .i64 0) ∧ w4.cell? ⟨w.heap.size + 1, 2, none⟩ = some (.slice none 0 0) ∧ w4.cell? ⟨w.heap.size + 1, 3, none⟩ = some (.int .i64 0) ∧ w4.cell? ⟨w.heap.size + 1, 4, none⟩ = some (.int .i64 0) := fun w4 hg => by
    have k0 : ∀ j, w4.cell? ⟨w.heap.size, j, none⟩ = _ := fun j => World.cell?_of_block (a := ⟨w.heap.size, j, none⟩) (hg.block w.heap.size (by simp; omega) (by simp [Value.ownBlock]; omega))
    have k1 : ∀ j, w4.cell? ⟨w.heap.size + 1, j, none⟩ = _ := fun j => World.cell?_of_block (a := ⟨w.heap.size + 1, j, none⟩) (hg.block (w.heap.size + 1) (by simp) (by simp [Value.ownBlock]))
    simp only [k0, k1]
    simp [go_sem]
  have hF : ∀ w4, (((w.alloc (.cells #[.int .i64 q, .int .i64 s, .slice (some ⟨b0, o, none⟩) l.length cap, .int .i64 fr, .int .i64 b] 31)).alloc (.cells #[.int .i64 0, .int .i64 0, .slice none 0 0, .int .i64 0, .int .i64 0] 31)).alloc (.cells #[] 43)).grownBy w4 (Value.slice (some ⟨w.heap.size + 1 + 1, 0, none⟩) 0 0).ownBlock →
      (∀ j, w4.frozen? ⟨w.heap.size, j, none⟩ = false) ∧ ∀ j, w4.frozen? ⟨w.heap.size + 1, j, none⟩ = false := fun w4 hg => by
    have k0 : ∀ j, w4.frozen? ⟨w.heap.size, j, none⟩ = _ := fun j => World.frozen?_of_block (a := ⟨w.heap.size, j, none⟩) (hg.block w.heap.size (by simp; omega) (by simp [Value.ownBlock]; omega))
    have k1 : ∀ j, w4.frozen? ⟨w.heap.size + 1, j, none⟩ = _ := fun j => World.frozen?_of_block (a := ⟨w.heap.size + 1, j, none⟩) (hg.block (w.heap.size + 1) (by simp) (by simp [Value.ownBlock]))
    simp only [k0, k1]
    simp [go_sem]
  go_wp2_with (at_builtin; refine wpList_append_own _ rfl (.tmp 3) (.tmp 5) 29 rfl (w.heap.size + 1 + 1) 43 i0 (.agg #[.int .i64 0, .int .i64 0, .int .i64 0, .int .i64 0, .int .i64 0, .int .i64 0, .bool false]) 7 56 Try.underlying29 hi hz0 hz1 hz2 rfl (by decide) (.slice (some ⟨w.heap.size + 1 + 1, 0, none⟩) 0 0) 0 [] rfl hE ⟨b0, o, none⟩ l.length cap (stepCells l) rfl (stepCells_length l) hnew (stepCells_one l) (by unfold maxLen; omega) (by omega) (by simp) ?_; intro v' w4 hown4 hgrow4 hnil4; simp only [Nat.zero_add, List.nil_append] at hown4; obtain ⟨g4, gc4, rfl, hg4, hgl4⟩ := owns_some hown4 (by omega); have c4 := hC w4 hgrow4; have f4 := hF w4 hgrow4; have z0 := c4.1; have z1 := c4.2.1; have z2 := c4.2.2.1; have z3 := c4.2.2.2.1; have z4 := c4.2.2.2.2.1; have y0 := c4.2.2.2.2.2.1; have y1 := c4.2.2.2.2.2.2.1; have y2 := c4.2.2.2.2.2.2.2.1; have y3 := c4.2.2.2.2.2.2.2.2.1; have y4 := c4.2.2.2.2.2.2.2.2.2)
  have HB4 : Below w.heap.size w w4 := ((((Below.refl w.heap.size w).alloc (Nat.le_refl _) _).alloc (by simp) _).alloc (by simp; omega) _).grown hgrow4 (by simp; omega) (fun k e => by simp [Value.ownBlock] at e; omega)
  refine bodyPost_ret (v := .agg #[.int .i64 q, .int .i64 s, .slice (some ⟨g4, 0, none⟩) l.length gc4, .int .i64 fr, .int .i64 b]) (by simp [results, Try.results14, go_sem, *]) rfl ⟨g4, gc4, rfl, ?_, ?_⟩
  · have hh : ∀ k, (Value.slice (some ⟨g4, 0, none⟩) l.length gc4).ownBlock = some k → k ≠ w.heap.size ∧ k ≠ w.heap.size + 1 := fun k e => by simp [Value.ownBlock] at e; omega
    iterate 6 (refine owns_set ?_ (fun k e => by first | exact (hh k e).1 | exact (hh k e).2) _ _)
    exact ⟨hown4.1, hown4.2.imp id fun ⟨g, cap, cur, h1, h2, h3⟩ => ⟨g, cap, cur, h1, by omega, h3⟩⟩
  · iterate 6 (refine Below.setCell ?_ (by simp <;> omega) _)
    exact HB4

end Go.Proofs.Ytedmnlognekdkaa

namespace Go.Proofs.Ytedmnlognekdkaa
open Go.RowKit

section
variable {P : Program} {ops : Array Oper} {md : Region.Mode} {Q : Exit → Act → World → Prop} {C : Array Bool → World → Prop} {N : Nat}

/-- What is asked of an operation that has been carried out: its value, and a world of the next class. -/
def moveUpon (P : Program) (C' : World → Prop) (v : Value) : Result Next → Prop
  | .ok (.value u) w' => u = v ∧ C' w'
  | .ok .skip w' => v = undef ∧ C' w'
  | .ok (.enter f args) w' => Calls P f args w' (fun e w'' => e = .returned v ∧ C' w'')
  | _ => False

/-- What has come up had all come up that it waits for. -/
def Closed (md : Region.Mode) (ops : Array Oper) (L : Array Bool) : Prop := ∀ j o, ops[j]? = some o → L.getD j false = true → ∀ e ∈ o.after, Region.binds md e = true → L.getD e.on false = true
theorem Closed.set {L : Array Bool} {i : Nat} (h : Closed md ops L) (hi : i ∈ Region.ready md ops L) : Closed md ops (L.setIfInBounds i true) := by
  obtain ⟨_, oi, hoi, hall⟩ := mem_ready.1 hi
  have up : ∀ k, L.getD k false = true → (L.setIfInBounds i true).getD k false = true := fun k hk => by
    by_cases e : i = k
    · subst e
      rcases Nat.lt_or_ge i L.size with h' | h'
      · simp [h']
      · simp [Array.getElem?_eq_none h'] at hk
    · rw [getD_set_ne false e]; exact hk
  intro j o ho hj e he hb
  by_cases hji : i = j
  · subst hji
    rw [hoi] at ho
    cases ho
    exact up _ (hall e he hb)
  · rw [getD_set_ne false hji] at hj
    exact up _ (h j o ho hj e he hb)
theorem Closed.start (n : Nat) : Closed md ops (Array.replicate n false) := by
  intro j o _ hj
  rcases Nat.lt_or_ge j n with h' | h'
  · simp [h'] at hj
  · simp [h'] at hj

/-- Operation i leaves v in its slot, whatever has come up ahead of it, and leads to the class in which it has come up too. -/
def Moves (P : Program) (md : Region.Mode) (ops : Array Oper) (C : Array Bool → World → Prop) (i : Nat) (o : Oper) (v : Value) (a : Act) : Prop :=
  (Region.wanted o (yielded ops a.tmps) = true ∧ ∀ L w, Closed md ops L → i ∈ Region.ready md ops L → C L w → moveUpon P (C (L.setIfInBounds i true)) v ((execOp a.eval o).run P w)) ∨
  (Region.wanted o (yielded ops a.tmps) = false ∧ v = undef ∧ ∀ L w, Closed md ops L → i ∈ Region.ready md ops L → C L w → C (L.setIfInBounds i true) w)

theorem Moves.of_same {i : Nat} {o : Oper} {v : Value} {a a' : Act} (h : Moves P md ops C i o v a) (he : execOp a'.eval o = execOp a.eval o)
    (hw : Region.wanted o (yielded ops a'.tmps) = Region.wanted o (yielded ops a.tmps)) : Moves P md ops C i o v a' := by
  unfold Moves at *
  rw [he, hw]
  exact h

/-- Whatever order is picked from here on, of the first N. -/
def anyM (P : Program) (md : Region.Mode) (ops : Array Oper) (C : Array Bool → World → Prop) (N : Nat) (fin : Array Bool → Act → Prop) : Nat → Array Bool → Act → Prop
  | 0, L, a => (∀ j ∈ Region.ready md ops L, N ≤ j) ∧ fin L a
  | n + 1, L, a => Region.ready md ops L ≠ [] ∧ ∀ i ∈ Region.ready md ops L, i < N ∧ ∃ o v, ops[i]? = some o ∧ Moves P md ops C i o v a ∧ anyM P md ops C N fin n (L.setIfInBounds i true) (a.put o.dst v)

theorem any_of_M {m : Nat} {fin : Array Bool → Act → Prop} (hfin : ∀ L a w, fin L a → C L w → wpAny P md ops Q m L a w) :
    ∀ (n : Nat) (L : Array Bool) (a : Act) (w : World), Closed md ops L → C L w → anyM P md ops C N fin n L a → wpAny P md ops Q (n + m) L a w
  | 0, L, a, w, _, hw, h => by rw [Nat.zero_add]; exact hfin L a w h.2 hw
  | n + 1, L, a, w, hcl, hw, h => by
    rw [show n + 1 + m = (n + m) + 1 by omega]
    refine ⟨fun e => absurd e h.1, fun i hi => ?_⟩
    obtain ⟨_, o, v, ho, hm, hk⟩ := h.2 i hi
    refine wpOp_step ho (fun K' hK => ?_)
    rcases hm with ⟨hwt, hm⟩ | ⟨hwt, rfl, hm⟩
    · rw [if_pos hwt]
      have h3 := hm L w hcl hi hw
      unfold Oper.wp
      generalize (execOp a.eval o).run P w = r at *
      cases r with
      | ok x w' =>
        cases x <;> simp only [moveUpon] at h3 <;> simp only [Oper.upon]
        case value u =>
          obtain ⟨e1, e2⟩ := h3
          rw [e1]
          exact hK _ _ (any_of_M hfin n _ _ _ (hcl.set hi) e2 hk)
        case skip =>
          obtain ⟨e1, e2⟩ := h3
          rw [← e1]
          exact hK _ _ (any_of_M hfin n _ _ _ (hcl.set hi) e2 hk)
        case enter f args =>
          exact h3.mono fun e w'' ⟨he, hw''⟩ => by subst he; exact hK _ _ (any_of_M hfin n _ _ _ (hcl.set hi) hw'' hk)
      | halt x w' => simp only [moveUpon] at h3
    · rw [if_neg (by rw [hwt]; exact Bool.false_ne_true)]
      exact hK _ _ (any_of_M hfin n _ _ _ (hcl.set hi) (hm L w hcl hi hw) hk)

/-- An operation that may come up now, and is apart from what does not wait for it, may be taken first. -/
theorem anyM_take {fin : Array Bool → Act → Prop} {i : Nat} {oi : Oper} {v : Value} (hi : ops[i]? = some oi) (hiN : i < N) (hsel : ∀ (j : Nat) (o : Oper) cs b, ops[j]? = some o → o.op ≠ .select cs b)
    (htail : ∀ L : Array Bool, Closed md ops L → L.getD i true = false → ∀ j ∈ Region.ready md ops L, j < N) :
    ∀ (n : Nat) (L : Array Bool) (a : Act), Closed md ops L →
      (∀ j oj, ops[j]? = some oj → j ≠ i → L.getD j true = false → (∀ e ∈ oj.after, Region.binds md e = true → e.on ≠ i) → oi.apart ops oj = true) →
      i ∈ Region.ready md ops L → Moves P md ops C i oi v a →
      anyM P md ops C N fin n (L.setIfInBounds i true) (a.put oi.dst v) → anyM P md ops C N fin (n + 1) L a := by
  intro n
  induction n with
  | zero =>
    intro L a hcl _ hr hy H
    refine ⟨fun e => (by rw [e] at hr; cases hr), fun j hj => ?_⟩
    by_cases hji : j = i
    · subst hji; exact ⟨hiN, oi, v, hi, hy, H⟩
    · have h1 := H.1 j (ready_mono hj hji)
      have h2 := htail L hcl (mem_ready.1 hr).1 j hj
      omega
  | succ n ih =>
    intro L a hcl hfree hr hy H
    refine ⟨fun e => (by rw [e] at hr; cases hr), fun j hj => ?_⟩
    by_cases hji : j = i
    · subst hji; exact ⟨hiN, oi, v, hi, hy, H⟩
    · obtain ⟨hjun, oj, hoj, hall⟩ := mem_ready.1 hj
      obtain ⟨hjN, o, u, ho, hyj, hk⟩ := H.2 j (ready_mono hj hji)
      rw [hoj] at ho
      cases ho
      have hun : L.getD i true = false := (mem_ready.1 hr).1
      have clash : L.getD i false = true → False := fun h1 => by
        rcases Nat.lt_or_ge i L.size with h' | h'
        · simp [h'] at hun h1; rw [hun] at h1; cases h1
        · simp [Array.getElem?_eq_none h'] at h1
      have hnot : ∀ e ∈ oj.after, Region.binds md e = true → e.on ≠ i := fun e he hb heq => clash (by have := hall e he hb; rwa [heq] at this)
      obtain ⟨a1, a2, a3⟩ := Oper.apart_spec (hfree j oj hoj hji hjun hnot)
      have hfree' : ∀ k ok, ops[k]? = some ok → k ≠ i → (L.setIfInBounds j true).getD k true = false → (∀ e ∈ ok.after, Region.binds md e = true → e.on ≠ i) → oi.apart ops ok = true := fun k ok hk hki hku hkn => hfree k ok hk hki (by
        by_cases hjk : j = k
        · subst hjk; exact hjun
        · rw [getD_set_ne true hjk] at hku; exact hku) hkn
      rw [Array.setIfInBounds_comm _ _ (Ne.symm hji), Act.put_comm a v _ a2] at hk
      exact ⟨hjN, oj, u, hoj, hyj.of_same (execOp_put oj (fun cs b => hsel j oj cs b hoj) a oi.dst v a1).symm (wanted_put oj a oi.dst v a1).symm,
        ih _ _ (hcl.set hj) hfree' (ready_mono hr (Ne.symm hji)) (hy.of_same (execOp_put oi (fun cs b => hsel i oi cs b hi) a oj.dst u a3) (wanted_put oi a oj.dst u a3)) hk⟩

/-- The lexical walk. -/
def wpMoves (P : Program) (md : Region.Mode) (ops : Array Oper) (C : Array Bool → World → Prop) (fin : Act → Prop) : List Oper → Nat → Act → Prop
  | [], _, a => fin a
  | o :: rest, k, a => ∃ v, Moves P md ops C k o v a ∧ wpMoves P md ops C fin rest (k + 1) (a.put o.dst v)
theorem wpMoves_nil {fin : Act → Prop} {k : Nat} {a : Act} (h : fin a) : wpMoves P md ops C fin [] k a := h
theorem wpMoves_mono {F G : Act → Prop} (hFG : ∀ a, F a → G a) : ∀ (l : List Oper) (k : Nat) (a : Act), wpMoves P md ops C F l k a → wpMoves P md ops C G l k a
  | [], _, _, h => hFG _ h
  | _ :: r, k, _, ⟨v, h1, h2⟩ => ⟨v, h1, wpMoves_mono hFG r (k + 1) _ h2⟩

/-- What is listed when n more are. -/
def listN (L : Array Bool) (k : Nat) : Nat → Array Bool
  | 0 => L
  | n + 1 => listN (L.setIfInBounds k true) (k + 1) n
/-- Operation t waits for operation i, by way of others too. -/
def waitT (md : Region.Mode) (ops : Array Oper) : Nat → Nat → Nat → Bool
  | 0, _, _ => false
  | n + 1, t, i => match ops[t]? with | some o => o.after.any fun e => Region.binds md e && (e.on == i || waitT md ops n e.on i) | none => false
theorem waitT_from {L : Array Bool} (hcl : Closed md ops L) : ∀ (n t i : Nat), waitT md ops n t i = true → (∀ o, ops[t]? = some o → ∀ e ∈ o.after, Region.binds md e = true → L.getD e.on false = true) → L.getD i false = true
  | 0, _, _, h, _ => by simp [waitT] at h
  | n + 1, t, i, h, hd => by
    unfold waitT at h
    cases ho : ops[t]? with
    | none => rw [ho] at h; cases h
    | some o =>
      rw [ho] at h
      simp only [Array.any_eq_true', Bool.and_eq_true, Bool.or_eq_true, beq_iff_eq] at h
      obtain ⟨e, he, hb, h3⟩ := h
      have h4 := hd o ho e he hb
      rcases h3 with rfl | h3
      · exact h4
      · exact waitT_from hcl n e.on i h3 (fun o' ho' => hcl e.on o' ho' h4)
theorem waitT_spec {n t i : Nat} {L : Array Bool} (hcl : Closed md ops L) (h : waitT md ops n t i = true) (ht : t ∈ Region.ready md ops L) : L.getD i false = true := by
  obtain ⟨_, o, ho, hall⟩ := mem_ready.1 ht
  exact waitT_from hcl n t i h (fun o' ho' => by rw [ho] at ho'; cases ho'; exact hall)
/-- The Bool over a region. -/
def lexM (md : Region.Mode) (ops : Array Oper) (N : Nat) : Nat → Nat → Array Bool → Bool
  | 0, _, L => (Region.ready md ops L).all fun j => decide (N ≤ j)
  | n + 1, k, L => (Region.ready md ops L).contains k && Region.free md ops L k && decide (k < N) && ((List.range ops.size).all fun t => decide (t < N) || waitT md ops 12 t k) && lexM md ops N n (k + 1) (L.setIfInBounds k true)

theorem anyM_lex {fin : Array Bool → Act → Prop} (hs : Region.noSelect ops = true) : ∀ (l : List Oper) (k : Nat) (L : Array Bool) (a : Act), Closed md ops L → (∀ j, j < l.length → l[j]? = ops[k + j]?) → lexM md ops N l.length k L = true →
    wpMoves P md ops C (fin (listN L k l.length)) l k a → anyM P md ops C N fin l.length L a
  | [], _, L, a, _, _, hB, h => by
    simp only [List.length_nil, lexM, List.all_eq_true, decide_eq_true_eq] at hB
    exact ⟨hB, h⟩
  | o :: l, k, L, a, hcl, hl, hB, h => by
    have h0 : ops[k]? = some o := by simpa using (hl 0 (by simp)).symm
    simp only [List.length_cons, lexM, Bool.and_eq_true, decide_eq_true_eq] at hB
    obtain ⟨⟨⟨⟨hr, hf⟩, hkN⟩, hwt⟩, hB'⟩ := hB
    obtain ⟨v, hy, hK⟩ := h
    have ih := anyM_lex hs l (k + 1) (L.setIfInBounds k true) (a.put o.dst v) (hcl.set (by simpa using hr)) (fun j hj => by have := hl (j + 1) (by simp; omega); simpa [Nat.add_assoc, Nat.add_comm 1 j] using this) hB' hK
    refine anyM_take h0 hkN (Region.noSelect_spec hs) (fun L' hcl' hL' j hj => ?_) l.length L a hcl (Region.free_spec h0 hf) (by simpa using hr) hy ih
    by_cases hjN : j < N
    · exact hjN
    · exfalso
      have hjs : j < ops.size := by
        obtain ⟨_, oj, hoj, _⟩ := mem_ready.1 hj
        exact (Array.getElem?_eq_some_iff.1 hoj).1
      have h1 := List.all_eq_true.1 hwt j (List.mem_range.2 hjs)
      simp only [Bool.or_eq_true, decide_eq_true_eq] at h1
      have h2 := waitT_spec hcl' (h1.resolve_left hjN) hj
      rcases Nat.lt_or_ge k L'.size with h' | h'
      · simp [h'] at hL' h2; rw [hL'] at h2; cases h2
      · simp [Array.getElem?_eq_none h'] at h2

/-- **The region**: the first N operations in any order, then what waits for all of them. -/
theorem wp_region_moves_at {id : Nat} {a : Act} {w : World} (N : Nat) (L0 L1 : Array Bool) (hm : P.follows .mixedOrders = true) (hs : Region.noSelect ops = true) (hN : N ≤ ops.size) (hL0 : Array.replicate ops.size false = L0) (hL1 : listN L0 0 N = L1)
    (hlex : lexM .any ops N N 0 L0 = true) (hC : C L0 w.drew)
    (h : wpMoves P .any ops C (fun a' => ∀ w', C L1 w' → wpAny P .any ops Q (ops.size - N) L1 a' w') (ops.toList.take N) 0 a) :
    (Code.region id ops true).wp P Q a w := by
  subst hL0 hL1
  have hlen : (ops.toList.take N).length = N := by rw [List.length_take, Array.length_toList]; omega
  refine wp_region_any hm ?_
  have key := anyM_lex (P := P) (C := C) (N := N) (md := .any) (fin := fun L a' => ∀ w', C L w' → wpAny P .any ops Q (ops.size - N) L a' w') hs (ops.toList.take N) 0 (Array.replicate ops.size false) a (Closed.start _)
    (fun j hj => by rw [hlen] at hj; rw [List.getElem?_take_of_lt hj]; simp) (by rw [hlen]; exact hlex)
  rw [hlen] at key
  have h2 := any_of_M (Q := Q) (m := ops.size - N) (fun L a' w' hf hw' => hf w' hw') N _ a w.drew (Closed.start _) hC (key h)
  rw [show N + (ops.size - N) = ops.size by omega] at h2
  exact h2

/-- All operations. -/
theorem wp_region_moves {id : Nat} {a : Act} {w : World} {l : List Oper} (L0 L1 : Array Bool) (hm : P.follows .mixedOrders = true) (hs : Region.noSelect l.toArray = true) (hL0 : Array.replicate l.length false = L0) (hL1 : listN L0 0 l.length = L1)
    (hlex : lexM .any l.toArray l.length l.length 0 L0 = true) (hC : C L0 w.drew) (he : Region.ready .any l.toArray L1 = [])
    (h : wpMoves P .any l.toArray C (fun a' => ∀ w', C L1 w' → Q .normal a' w') l 0 a) :
    (Code.region id l.toArray true).wp P Q a w := by
  refine wp_region_moves_at (C := C) l.length L0 L1 hm hs (by simp) (by simpa using hL0) hL1 hlex hC ?_
  simp only [List.take_length]
  refine wpMoves_mono (fun a' h' w' hw' => ?_) _ _ _ h
  simp only [List.size_toArray, Nat.sub_self]
  exact ⟨he, h' w' hw'⟩

/-- An operation that never enters a function. -/
def plainOp : Op → Bool
  | .move _ | .assign _ | .load _ _ | .fieldAddr _ _ _ | .indexAddr _ _ _ | .binOp _ _ _ _ _ | .unOp _ _ _ | .convert _ _ _ | .extract _ _ | .field _ _ _ | .index _ _ _ | .build _ _ | .pick _ _ _ => true
  | .call { callee := .builtin .len, .. } => true
  | _ => false
theorem val_noEnter {s : Sem Value} {w w' : World} {f : FuncId} {args : Array Value} : (do pure (Next.value (← s)) : Sem Next).run P w ≠ .ok (.enter f args) w' := by
  rw [Sem.run_bind]
  cases s.run P w with
  | ok v w2 => intro h; cases h
  | halt x w2 => intro h; cases h
theorem plain_noEnter {o : Oper} (hp : plainOp o.op = true) {ρ : Operand → Value} {w w' : World} {f : FuncId} {args : Array Value} : (execOp ρ o).run P w ≠ .ok (.enter f args) w' := by
  obtain ⟨dst, op, ty, gd, af, at_⟩ := o
  cases op <;> first
    | exact absurd hp Bool.false_ne_true
    | exact val_noEnter
    | (intro h; cases h)
    | (rename_i c
       obtain ⟨callee, cargs, ctys⟩ := c
       cases callee <;> first
         | exact absurd hp Bool.false_ne_true
         | (rename_i b
            cases b <;> first
              | exact absurd hp Bool.false_ne_true
              | exact val_noEnter (s := Builtin.len_ ctys ty (cargs.map ρ))))
    | (rename_i c x y
       show (do pure (Next.value (if ← asBool (ρ c) then ρ x else ρ y)) : Sem Next).run P w ≠ _
       rw [Sem.run_bind]
       cases (asBool (ρ c)).run P w with
       | ok v w2 => intro h; cases h
       | halt x w2 => intro h; cases h)

/-- Operations that only read, in a row: one walk in the class of all worlds that may be there. -/
theorem moves_quiet {fin : Act → Prop} {rest : List Oper} {U : World → Prop} (S : List Nat) (hU : ∀ L w, (∀ j ∈ S, L.getD j false = true) → C L w → U w) :
    ∀ (l : List Oper) (k : Nat) (a : Act), (l.all fun o => plainOp o.op) = true → ((List.range l.length).all fun j => S.all fun s => waitT md ops 12 (k + j) s) = true → (∀ j, k ≤ j → j < k + l.length → ∀ L w, C L w → C (L.setIfInBounds j true) w) →
      wpQuiet P ops U (fun a' => wpMoves P md ops C fin rest (k + l.length) a') l a → wpMoves P md ops C fin (l ++ rest) k a
  | [], k, a, _, _, _, h => h
  | o :: l, k, a, hp, hS, hcl, h => by
    simp only [List.all_cons, Bool.and_eq_true] at hp
    have hw0 : ∀ s ∈ S, waitT md ops 12 k s = true := by
      have h1 := List.all_eq_true.1 hS 0 (by simp)
      simpa using List.all_eq_true.1 h1
    have hS' : ((List.range l.length).all fun j => S.all fun s => waitT md ops 12 (k + 1 + j) s) = true := by
      refine List.all_eq_true.2 fun j hj => ?_
      have h1 := List.all_eq_true.1 hS (j + 1) (by simp at hj ⊢; exact hj)
      rwa [show k + (j + 1) = k + 1 + j by omega] at h1
    have hcl0 := hcl k (Nat.le_refl _) (by simp)
    have hcl' : ∀ j, k + 1 ≤ j → j < k + 1 + l.length → ∀ L w, C L w → C (L.setIfInBounds j true) w := fun j h1 h2 => hcl j (by omega) (by simp; omega)
    have hlen : k + (o :: l).length = k + 1 + l.length := by simp; omega
    rw [hlen] at h
    unfold wpQuiet at h
    split at h
    · rename_i hwt
      obtain ⟨v, hv, hk⟩ := h
      refine ⟨v, .inl ⟨hwt, fun L w hcL hr hC => ?_⟩, moves_quiet S hU l (k + 1) _ hp.2 hS' hcl' hk⟩
      have h3 := hv w (hU L w (fun s hs => waitT_spec hcL (hw0 s hs) hr) hC)
      unfold Oper.quietAt at h3
      have hne := @plain_noEnter P o hp.1 a.eval w
      generalize (execOp a.eval o).run P w = r at *
      cases r with
      | ok x w' =>
        cases x <;> simp only [Oper.quietUpon] at h3 <;> simp only [moveUpon]
        case value u =>
          obtain ⟨rfl, e2⟩ := h3
          exact ⟨e2, hcl0 L _ hC⟩
        case skip =>
          obtain ⟨rfl, e2⟩ := h3
          exact ⟨e2, hcl0 L _ hC⟩
        case enter f args => exact absurd rfl (hne (f := f) (args := args) (w' := w'))
      | halt x w' => simp only [Oper.quietUpon] at h3
    · rename_i hwt
      exact ⟨undef, .inr ⟨by simpa using hwt, rfl, fun L w _ _ hC => hcl0 L w hC⟩, moves_quiet S hU l (k + 1) _ hp.2 hS' hcl' h⟩

theorem wpQuiet_mono {U : World → Prop} {F G : Act → Prop} (hFG : ∀ a, F a → G a) : ∀ (l : List Oper) (a : Act), wpQuiet P ops U F l a → wpQuiet P ops U G l a
  | [], _, h => hFG _ h
  | o :: r, a, h => by
    unfold wpQuiet at *
    split
    · rename_i hw
      rw [if_pos hw] at h
      exact Oper.quiet_mono (fun a' h' => wpQuiet_mono hFG r a' h') h
    · rename_i hw
      rw [if_neg hw] at h
      exact wpQuiet_mono hFG r _ h

/-- An operation that turns the world. -/
theorem moves_one {fin : Act → Prop} {o : Oper} {rest : List Oper} {k : Nat} {a : Act} (v : Value) (hg : o.guard = none)
    (h : ∀ L w, Closed md ops L → k ∈ Region.ready md ops L → C L w → moveUpon P (C (L.setIfInBounds k true)) v ((execOp a.eval o).run P w)) (hr : wpMoves P md ops C fin rest (k + 1) (a.put o.dst v)) : wpMoves P md ops C fin (o :: rest) k a :=
  ⟨v, .inl ⟨by simp [Region.wanted, hg], h⟩, hr⟩
end
end Go.Proofs.Ytedmnlognekdkaa

namespace Go.Proofs.Ytedmnlognekdkaa
open Go.RowKit
section
variable {Q : Exit → Act → World → Prop}

/-- Nothing is left. -/
theorem any_end0 {l : List Oper} {a : Act} {w : World} {L1 : Array Bool} (he : Region.ready .any l.toArray L1 = []) (h : Q .normal a w) : wpAny Try.prog .any l.toArray Q (l.length - l.length) L1 a w := by
  rw [Nat.sub_self]
  exact ⟨he, h⟩
/-- One operation is left. -/
theorem any_end1 {ops : Array Oper} {N m : Nat} {a : Act} {w : World} {L1 : Array Bool} (ol : Oper) (hm : m = 1) (r0 : Region.ready .any ops L1 = [N]) (r1 : Region.ready .any ops (L1.setIfInBounds N true) = []) (hl : ops[N]? = some ol) (hgl : ol.guard = none)
    (h : ol.wp Try.prog a w (fun a3 w'' => Q .normal a3 w'') Q) : wpAny Try.prog .any ops Q m L1 a w := by
  subst hm
  refine ⟨fun e => (by rw [r0] at e; cases e), fun i hi => ?_⟩
  rw [r0] at hi
  obtain rfl : i = N := by simpa using hi
  refine wpOp_step (o := ol) hl (fun K' hK => ?_)
  rw [if_pos (by simp [Region.wanted, hgl])]
  exact Oper.wp_mono (fun a3 w'' h'' => hK _ _ ⟨r1, h''⟩) h
/-- One operation, and more. -/
theorem any_end2 {ops : Array Oper} {N m : Nat} {a : Act} {w : World} {L1 : Array Bool} (ol : Oper) (m' : Nat) (hm : m = m' + 1) (r0 : Region.ready .any ops L1 = [N]) (hl : ops[N]? = some ol) (hgl : ol.guard = none)
    (h : ol.wp Try.prog a w (wpAny Try.prog .any ops Q m' (L1.setIfInBounds N true)) Q) : wpAny Try.prog .any ops Q m L1 a w := by
  subst hm
  refine ⟨fun e => (by rw [r0] at e; cases e), fun i hi => ?_⟩
  rw [r0] at hi
  obtain rfl : i = N := by simpa using hi
  refine wpOp_step (o := ol) hl (fun K' hK => ?_)
  rw [if_pos (by simp [Region.wanted, hgl])]
  exact Oper.wp_mono (fun a3 w'' h'' => hK _ _ h'') h
end
end Go.Proofs.Ytedmnlognekdkaa

namespace Go.Proofs.Ytedmnlognekdkaa
open Go.RowKit

/-- The worlds in which all that lay in w lies as it lay. -/
structure Cls (w : World) where
  it : World
  same : Below w.heap.size w it

theorem Cls.any (w : World) : Nonempty (Cls w) := ⟨⟨w, Below.refl _ _⟩⟩

/-- One walk of the lexical order serves every order, where the operations only read and the callees lay new blocks at most. -/
theorem wp_region_cls {P : Program} {id : Nat} {Q : Exit → Act → World → Prop} {a : Act} {w : World} {l : List Oper} (hm : P.follows .mixedOrders = true) (hB : Region.lexB .any l.toArray = true)
    (h : wpQuiet P l.toArray (fun w' => ∃ u : Cls w, w' = u.it) (fun a' => ∀ w', (∃ u : Cls w, w' = u.it) → Q .normal a' w') l a) : (Code.region id l.toArray true).wp P Q a w :=
  wp_region_quiet (C := fun w' => ∃ u : Cls w, w' = u.it) hm hB ⟨⟨{ w with drawn := w.drawn + 1 }, (Below.refl w.heap.size w).drew⟩, rfl⟩ (by simpa using h)

/-- A callee's contract, met in a world of the class. -/
theorem Calls.cls_of {P : Program} {f : FuncId} {args : Array Value} {w : World} {u : Cls w} {v : Value}
    (h : Calls P f args u.it fun e w' => e = .returned v ∧ Below u.it.heap.size u.it w') : Calls P f args u.it fun e w'' => e = .returned v ∧ ∃ m : Cls w, w'' = m.it :=
  h.mono fun _ w' ⟨he, hb⟩ => ⟨he, ⟨w', u.same.trans (hb.mono u.same.size)⟩, rfl⟩
theorem Calls.cls_of_same {P : Program} {f : FuncId} {args : Array Value} {w : World} {u : Cls w} {v : Value}
    (h : Calls P f args u.it fun e w' => e = .returned v ∧ w' = u.it) : Calls P f args u.it fun e w'' => e = .returned v ∧ ∃ m : Cls w, w'' = m.it :=
  h.mono fun _ _ ⟨he, hb⟩ => ⟨he, u, hb⟩

/-- A block that lay there reads as it did. -/
theorem Cls.cell {w : World} {b : Nat} (hb : b < w.heap.size) (u : Cls w) (o : Nat) : u.it.cell? ⟨b, o, none⟩ = w.cell? ⟨b, o, none⟩ := u.same.cell (p := ⟨b, o, none⟩) hb
end Go.Proofs.Ytedmnlognekdkaa

namespace Go.Proofs.Ytedmnlognekdkaa
open Go.RowKit

section
variable {P : Program} {Q : Exit → Act → World → Prop}
theorem region_reads {id : Nat} {a : Act} {w : World} {l : List Oper} (N : Nat) (L0 L1 : Array Bool) (hm : P.follows .mixedOrders = true) (hs : Region.noSelect l.toArray = true) (hN : N ≤ l.length) (hL0 : Array.replicate l.length false = L0) (hL1 : listN L0 0 N = L1) (hlex : lexM .any l.toArray N N 0 L0 = true)
    (hp : ((l.take N).all fun o => plainOp o.op) = true)
    (h : wpQuiet P l.toArray (fun w' => ∃ u : Cls w, w' = u.it) (fun a' => wpAny P .any l.toArray Q (l.length - N) L1 a' w.drew) (l.take N) a) :
    (Code.region id l.toArray true).wp P Q a w := by
  refine wp_region_moves_at (C := fun _ w' => w' = w.drew) N L0 L1 hm hs (by simpa using hN) (by simpa using hL0) hL1 hlex rfl ?_
  have e3 : l.toArray.toList.take N = l.take N ++ [] := by simp
  rw [e3]
  refine moves_quiet (U := fun w' => ∃ u : Cls w, w' = u.it) [] (fun L w' _ h => ⟨⟨w', by subst h; exact (Below.refl _ _).drew⟩, rfl⟩) (l.take N) 0 a hp (by simp) (fun _ _ _ _ _ hC => hC) ?_
  refine wpQuiet_mono ?_ _ _ h
  intro a2 h3
  refine wpMoves_nil (fun w' hC => ?_)
  subst hC
  simpa using h3
end
end Go.Proofs.Ytedmnlognekdkaa

namespace Go.Proofs.Ytedmnlognekdkaa
open Go.RowKit

theorem in_any (n a b : Int) (w : World) :
    Calls Try.prog 13 #[.int .i64 n, .int .i64 a, .int .i64 b] w fun e w' => e = .returned (.bool (inB n a b)) ∧ w' = w := by
  by_cases h1 : a ≤ n
  · by_cases h2 : n ≤ b
    · go_enter Try.func13, Try.ntmps13
      go_wp2
      go_ret
      exact ⟨by simp [inB, h1, h2], rfl⟩
    · have h2' : decide (n ≤ b) = false := by simpa using h2
      go_enter Try.func13, Try.ntmps13
      go_wp2
      go_ret
      exact ⟨by simp [inB, h2'], rfl⟩
  · have h1' : decide (a ≤ n) = false := by simpa using h1
    go_enter Try.func13, Try.ntmps13
    go_wp2
    go_ret
    exact ⟨by simp [inB, h1'], rfl⟩

theorem stepOkS_any (x y lo hi fr b : Int) (ho : Bool) (w : World) :
    Calls Try.prog 24 #[.agg #[.int .i64 x, .int .i64 y, .int .i64 lo, .int .i64 hi, .int .i64 fr, .int .i64 b, .bool ho]] w fun e w' => e = .returned (.bool (stepB x y lo hi fr b)) ∧ Below w.heap.size w w' := by
  have hb := (Below.refl w.heap.size w).alloc (Nat.le_refl _) (.cells #[.int .i64 x, .int .i64 y, .int .i64 lo, .int .i64 hi, .int .i64 fr, .int .i64 b, .bool ho] 43)
  have er : stepB x y lo hi fr b = (inB x 0 15 && inB y 0 15 && inB lo 0 hi && decide (hi ≤ 6) && inB fr 0 b && decide (b ≤ 10000)) := by
    rw [Bool.eq_iff_iff]; simp [stepB, inB]; omega
  have ER : Hid (stepB x y lo hi fr b = (inB x 0 15 && inB y 0 15 && inB lo 0 hi && decide (hi ≤ 6) && inB fr 0 b && decide (b ≤ 10000))) := er
  clear er
  rcases Bool.eq_false_or_eq_true (inB x 0 15) with h1 | h1
  rcases Bool.eq_false_or_eq_true (inB y 0 15) with h2 | h2
  rcases Bool.eq_false_or_eq_true (inB lo 0 hi) with h3 | h3
  rcases Bool.eq_false_or_eq_true (decide (hi ≤ 6)) with h4 | h4
  rcases Bool.eq_false_or_eq_true (inB fr 0 b) with h5 | h5
  all_goals
    go_enter Try.func24, Try.ntmps24
    go_wp2_with (go_at_call 13; refine (in_any _ _ _ _).mono ?_; rintro e w' ⟨rfl, rfl⟩)
    go_ret
    exact ⟨by rw [ER.out]; simp [*], hb⟩

theorem folN (x y lo hi x' y' lo' hi' : Int) : folB x y lo hi x' y' lo' hi' = (((x != x') || (y != y')) && inB (wrap64 (x - x')) (-1) 1 && inB (wrap64 (y - y')) (-1) 1 && levB lo hi lo' hi') := by
  unfold folB bne; cases (x == x') <;> cases (y == y') <;> rfl

set_option maxHeartbeats 1000000 in
theorem nextS_any (x y lo hi fr b x' y' lo' hi' fr' b' : Int) (ho ho' : Bool) (w : World) :
    Calls Try.prog 25 #[.agg #[.int .i64 x, .int .i64 y, .int .i64 lo, .int .i64 hi, .int .i64 fr, .int .i64 b, .bool ho], .agg #[.int .i64 x', .int .i64 y', .int .i64 lo', .int .i64 hi', .int .i64 fr', .int .i64 b', .bool ho']] w
      fun e w' => e = .returned (.bool (folB x y lo hi x' y' lo' hi')) ∧ Below w.heap.size w w' := by
  have hb : ∀ c1 c2 : Array Value, Below w.heap.size w ((w.alloc (.cells c1 43)).alloc (.cells c2 43)) := fun c1 c2 => ((Below.refl w.heap.size w).alloc (Nat.le_refl _) _).alloc (by simp) _
  rcases Bool.eq_false_or_eq_true (inB (wrap64 (x - x')) (-1) 1) with h3 | h3
  rcases Bool.eq_false_or_eq_true (inB (wrap64 (y - y')) (-1) 1) with h4 | h4
  rcases (show ((x != x') = false ∧ (y != y') = false) ∨ ((x != x') = false ∧ (y != y') = true) ∨ (x != x') = true by cases (x != x') <;> cases (y != y') <;> simp) with ⟨h1, h2⟩ | ⟨h1, h2⟩ | h1
  rotate_left
  rcases Bool.eq_false_or_eq_true (decide (lo ≤ hi')) with h5 | h5
  rotate_left 2
  rcases Bool.eq_false_or_eq_true (decide (lo ≤ hi')) with h5 | h5
  all_goals
    go_enter Try.func25, Try.ntmps25
    go_wp2_with (go_at_call 13; refine (in_any _ _ _ _).mono ?_; rintro e w' ⟨rfl, rfl⟩)
    go_ret
    exact ⟨by rw [folN]; simp [levB, *], hb _ _⟩

theorem in_val (n a b : Int) (v : Bool) (w : World) (hv : inB n a b = v) :
    Calls Try.prog 13 #[.int .i64 n, .int .i64 a, .int .i64 b] w fun e w' => e = .returned (.bool v) ∧ w' = w := by
  rw [← hv]; exact in_any n a b w
end Go.Proofs.Ytedmnlognekdkaa

namespace Go.Proofs.Ytedmnlognekdkaa
open Go.RowKit

theorem kindS_any (q s : Int) (w : World) :
    Calls Try.prog 23 #[.agg #[.int .i64 q, .int .i64 s]] w fun e w' => e = .returned (.bool (kindB q s)) ∧ Below w.heap.size w w' := by
  have hb := (Below.refl w.heap.size w).alloc (Nat.le_refl _) (.cells #[.int .i64 q, .int .i64 s] 28)
  have ER : Hid (kindB q s = (inB q 1 s && decide (s ≤ 50))) := by
    show _ = _
    rw [Bool.eq_iff_iff]; simp [kindB, inB]; omega
  cases hk : inB q 1 s
  all_goals
    go_enter Try.func23, Try.ntmps23
    go_wp2_with (go_at_call 13; refine (in_any _ _ _ _).mono ?_; rintro e w' ⟨rfl, rfl⟩)
    go_ret
    exact ⟨by rw [ER.out, hk]; simp, hb⟩

set_option maxHeartbeats 2000000 in
theorem pathS_no (q s fr b : Int) (a : Option Addr) (_b0 _o cap : Nat) (l : List Stp) (w : World) (_hl : l.length ≤ 1048576)
    (hno : (kindB q s && inB l.length 1 40 && inB fr 0 b && decide (b ≤ 10000)) = false) :
    Calls Try.prog 12 #[.agg #[.int .i64 q, .int .i64 s, .slice a l.length cap, .int .i64 fr, .int .i64 b]] w fun e w' => e = .returned (.bool false) ∧ Below w.heap.size w w' := by
  rcases (show kindB q s = false ∨ (kindB q s = true ∧ inB l.length 1 40 = false) ∨ (kindB q s = true ∧ inB l.length 1 40 = true ∧ inB fr 0 b = false) ∨ (kindB q s = true ∧ inB l.length 1 40 = true ∧ inB fr 0 b = true ∧ 10000 < b) by
    by_cases h : b ≤ 10000
    · revert hno; cases kindB q s <;> cases inB l.length 1 40 <;> cases inB fr 0 b <;> simp [h]
    · have h' : 10000 < b := by omega
      cases kindB q s <;> cases inB l.length 1 40 <;> cases inB fr 0 b <;> simp [h']) with h1 | ⟨h1, h2⟩ | ⟨h1, h2, h3⟩ | ⟨h1, h2, h3, h4⟩
  all_goals
    clear hno
    go_enter Try.func12, Try.ntmps12
    go_wp2_with fail
    refine (kindS_any _ _ _).mono ?_
    rintro e w1 ⟨rfl, hb1⟩
    have hb01 : Below w.heap.size w w1 := ((Below.refl w.heap.size w).alloc (Nat.le_refl _) _).trans (hb1.mono (by simp))
    have c2 : w1.cell? ⟨w.heap.size, 2, none⟩ = some (.slice a l.length cap) := by rw [hb1.cell (p := ⟨w.heap.size, 2, none⟩) (by simp)]; simp [go_sem]
    have c3 : w1.cell? ⟨w.heap.size, 3, none⟩ = some (.int .i64 fr) := by rw [hb1.cell (p := ⟨w.heap.size, 3, none⟩) (by simp)]; simp [go_sem]
    have c4 : w1.cell? ⟨w.heap.size, 4, none⟩ = some (.int .i64 b) := by rw [hb1.cell (p := ⟨w.heap.size, 4, none⟩) (by simp)]; simp [go_sem]
    clear hb1
    go_wp2_with (go_at_call 13; refine (in_any _ _ _ _).mono ?_; rintro e w' ⟨rfl, rfl⟩)
    go_ret
    exact ⟨rfl, hb01⟩

theorem stepOkS_val (x y lo hi fr b : Int) (ho v : Bool) (w : World) (hv : stepB x y lo hi fr b = v) :
    Calls Try.prog 24 #[.agg #[.int .i64 x, .int .i64 y, .int .i64 lo, .int .i64 hi, .int .i64 fr, .int .i64 b, .bool ho]] w fun e w' => e = .returned (.bool v) ∧ Below w.heap.size w w' := by
  rw [← hv]; exact stepOkS_any x y lo hi fr b ho w

theorem nextS_val (x y lo hi fr b x' y' lo' hi' fr' b' : Int) (ho ho' v : Bool) (w : World) (hv : folB x y lo hi x' y' lo' hi' = v) :
    Calls Try.prog 25 #[.agg #[.int .i64 x, .int .i64 y, .int .i64 lo, .int .i64 hi, .int .i64 fr, .int .i64 b, .bool ho], .agg #[.int .i64 x', .int .i64 y', .int .i64 lo', .int .i64 hi', .int .i64 fr', .int .i64 b', .bool ho']] w
      fun e w' => e = .returned (.bool v) ∧ Below w.heap.size w w' := by
  rw [← hv]; exact nextS_any x y lo hi fr b x' y' lo' hi' fr' b' ho ho' w

set_option maxHeartbeats 4000000 in
theorem pathS_yes (q s fr b : Int) (a : Option Addr) (b0 o cap : Nat) (l : List Stp) (w : World) (hs : StepsAt w a b0 o l)
    (h1 : kindB q s = true) (h2 : inB l.length 1 40 = true) (h3 : inB fr 0 b = true) (h4 : b ≤ 10000) :
    Calls Try.prog 12 #[.agg #[.int .i64 q, .int .i64 s, .slice a l.length cap, .int .i64 fr, .int .i64 b]] w fun e w' => e = .returned (.bool (goodTo l l.length)) ∧ Below w.heap.size w w' := by
  have hn := (inB_iff _ _ _).1 h2
  go_enter Try.func12, Try.ntmps12
  go_wp2_with fail
  refine (kindS_any _ _ _).mono ?_
  rintro e w1 ⟨rfl, hb1⟩
  have hb01 : Below w.heap.size w w1 := ((Below.refl w.heap.size w).alloc (Nat.le_refl _) _).trans (hb1.mono (by simp))
  have hz : w.heap.size < w1.heap.size := by have := hb1.size; simp at this; omega
  have c2 : w1.cell? ⟨w.heap.size, 2, none⟩ = some (.slice a l.length cap) := by rw [hb1.cell (p := ⟨w.heap.size, 2, none⟩) (by simp)]; simp [go_sem]
  have c3 : w1.cell? ⟨w.heap.size, 3, none⟩ = some (.int .i64 fr) := by rw [hb1.cell (p := ⟨w.heap.size, 3, none⟩) (by simp)]; simp [go_sem]
  have c4 : w1.cell? ⟨w.heap.size, 4, none⟩ = some (.int .i64 b) := by rw [hb1.cell (p := ⟨w.heap.size, 4, none⟩) (by simp)]; simp [go_sem]
  clear hb1
  go_wp2_with (go_at_call 13; refine (in_any _ _ _ _).mono ?_; rintro e w' ⟨rfl, rfl⟩)
  clear c3 c4
  go_loopw [3] (fun v wr => ∃ k : Nat, k ≤ l.length ∧ v = .int .i64 k ∧ Below w.heap.size w wr ∧ w.heap.size < wr.heap.size ∧ wr.cell? ⟨w.heap.size, 2, none⟩ = some (.slice a l.length cap) ∧ goodTo l k = true) (fun v _ => l.length - (intOf v).toNat)
  case atStart => exact ⟨0, Nat.zero_le _, rfl, hb01, hz, c2, goodTo_zero l⟩
  case round =>
    clear hb01 hz c2 h1 h2 h3
    obtain ⟨k, hk, rfl, hb, hz, c2, hgood⟩ := hrel
    have HG : Hid (goodTo l k = true) := hgood
    clear hgood
    by_cases hlt : k < l.length
    · obtain ⟨t, htk⟩ : ∃ t, l[k]? = some t := ⟨l[k], List.getElem?_eq_getElem hlt⟩
      have hne : l ≠ [] := by intro e; subst e; simp at hlt
      obtain rfl := hs.here hne
      have hbw := hs.lt hne
      have hbx : b0 < wr.heap.size := Nat.lt_of_lt_of_le hbw hb.size
      obtain ⟨d0, d1, d2, d3, d4, d5, d6⟩ := (hs.below hb (fun _ => hbw)).seven htk
      have k0 : (0 : Int) ≤ (k : Int) := by omega
      have k1 : (k : Int) < (l.length : Int) := by omega
      have HT : Hid (l.getD k .zero = t) := by show _ = _; simp [List.getD, htk]
      have HS := (hs.below hb (fun _ => hbw))
      clear htk
      cases hok : stepB t.x t.y t.lo t.hi t.fr t.by_ with
      | false =>
        go_wp2
        have qn := Cls.any wr
        have q0 := Cls.cell hbx
        have q1 := Cls.cell hz
        refine wp_region_cls (by kernel_rfl) (by kernel_rfl) ?_
        repeat (go_big_quiet_step ((go_at_call 24; exact Calls.cls_of (stepOkS_val _ _ _ _ _ _ _ _ _ hok))))
        refine wpQuiet_nil ?_
        rintro _ ⟨u, rfl⟩
        go_wp2
        go_ret
        exact ⟨by rw [goodTo_not hlt (goodS_bad HT.out hok)]; rfl, hb.trans (u.same.mono hb.size)⟩
      | true =>
        have qn := Cls.any wr
        have q0 := Cls.cell hbx
        have q1 := Cls.cell hz
        rcases Nat.eq_zero_or_pos k with hk0 | hk0
        · have G1 : Hid (goodTo l (k + 1) = true) := by
            show _ = _
            subst hk0; rw [goodTo_succ, HG.out, goodS_first HT.out hok]; rfl
          subst hk0
          clear hk k0
          simp only [Nat.zero_mul, Nat.add_zero] at d0 d1 d2 d3 d4 d5 d6
          go_wp2
          refine wp_region_cls (by kernel_rfl) (by kernel_rfl) ?_
          repeat (go_big_quiet_step ((go_at_call 24; exact Calls.cls_of (stepOkS_val _ _ _ _ _ _ _ _ _ hok))))
          refine wpQuiet_nil ?_
          rintro _ ⟨u, rfl⟩
          go_wp2
          go_roundw
          case rel => exact ⟨0 + 1, by omega, by go_num, hb.trans (u.same.mono hb.size), Nat.lt_of_lt_of_le hz u.same.size, by rw [q1 u]; exact c2, G1.out⟩
          case measure => simp [intOf]; omega
        · obtain ⟨p, hpk⟩ : ∃ p, l[k - 1]? = some p := ⟨l[k - 1], List.getElem?_eq_getElem (by omega)⟩
          have HP : Hid (l.getD (k - 1) .zero = p) := by show _ = _; simp [List.getD, hpk]
          obtain ⟨m, rfl⟩ : ∃ m, k = m + 1 := ⟨k - 1, by omega⟩
          simp only [Nat.add_sub_cancel] at hpk HP
          obtain ⟨g0, g1, g2, g3, g4, g5, g6⟩ := HS.seven hpk
          clear hpk HS hk0
          cases hfo : folB p.x p.y p.lo p.hi t.x t.y t.lo t.hi with
          | false =>
            have G1 : Hid (goodTo l l.length = false) := by
              show _ = _
              exact goodTo_not hlt (goodS_next HT.out HP.out hok hfo)
            go_wp2
            refine wp_region_cls (by kernel_rfl) (by kernel_rfl) ?_
            repeat (go_big_quiet_step (first | (go_at_call 24; exact Calls.cls_of (stepOkS_val _ _ _ _ _ _ _ _ _ hok)) | (go_at_call 25; exact Calls.cls_of (nextS_val _ _ _ _ _ _ _ _ _ _ _ _ _ _ _ _ hfo))))
            refine wpQuiet_nil ?_
            rintro _ ⟨u, rfl⟩
            go_wp2
            go_ret
            exact ⟨by rw [G1.out]; rfl, hb.trans (u.same.mono hb.size)⟩
          | true =>
            have G1 : Hid (goodTo l (m + 1 + 1) = true) := by
              show _ = _
              rw [goodTo_succ, HG.out, goodS_next HT.out HP.out hok hfo]; rfl
            go_wp2
            refine wp_region_cls (by kernel_rfl) (by kernel_rfl) ?_
            repeat (go_big_quiet_step (first | (go_at_call 24; exact Calls.cls_of (stepOkS_val _ _ _ _ _ _ _ _ _ hok)) | (go_at_call 25; exact Calls.cls_of (nextS_val _ _ _ _ _ _ _ _ _ _ _ _ _ _ _ _ hfo))))
            refine wpQuiet_nil ?_
            rintro _ ⟨u, rfl⟩
            go_wp2
            go_roundw
            case rel => exact ⟨m + 1 + 1, by omega, by go_num, hb.trans (u.same.mono hb.size), Nat.lt_of_lt_of_le hz u.same.size, by rw [q1 u]; exact c2, G1.out⟩
            case measure => simp [intOf]; omega
    · obtain rfl : k = l.length := by omega
      go_wp2
      go_ret
      exact ⟨by rw [HG.out]; rfl, hb⟩

theorem pathS_any (q s fr b : Int) (a : Option Addr) (b0 o cap : Nat) (l : List Stp) (w : World) (hl : l.length ≤ 1048576) (hs : StepsAt w a b0 o l) :
    Calls Try.prog 12 #[.agg #[.int .i64 q, .int .i64 s, .slice a l.length cap, .int .i64 fr, .int .i64 b]] w fun e w' => e = .returned (.bool (pathB q s fr b l)) ∧ Below w.heap.size w w' := by
  cases h : (kindB q s && inB l.length 1 40 && inB fr 0 b && decide (b ≤ 10000)) with
  | false =>
    have e1 : pathB q s fr b l = false := by unfold pathB; rw [h]; rfl
    rw [e1]
    exact pathS_no q s fr b a b0 o cap l w hl h
  | true =>
    have e1 : pathB q s fr b l = goodTo l l.length := by unfold pathB; rw [h]; rfl
    rw [e1]
    simp only [Bool.and_eq_true, decide_eq_true_eq] at h
    exact pathS_yes q s fr b a b0 o cap l w hs h.1.1.1 h.1.1.2 h.1.2 h.2
end Go.Proofs.Ytedmnlognekdkaa

namespace Go.Proofs.Ytedmnlognekdkaa
open Go.RowKit

/-- A step, so many ticks later. -/
def Stp.later (t : Stp) (d : Int) : Stp := { t with fr := t.fr + d, by_ := t.by_ + d }
def laterTo (d : Int) (l : List Stp) (k : Nat) : List Stp := (l.take k).map (·.later d) ++ l.drop k
def laterL (d : Int) (l : List Stp) : List Stp := l.map (·.later d)
theorem laterTo_zero (d : Int) (l : List Stp) : laterTo d l 0 = l := by simp [laterTo]
theorem laterTo_all (d : Int) (l : List Stp) : laterTo d l l.length = laterL d l := by simp [laterTo, laterL]
theorem laterTo_length (d : Int) (l : List Stp) (k : Nat) : (laterTo d l k).length = l.length := by simp [laterTo]; omega
theorem laterTo_now (d : Int) {l : List Stp} {k : Nat} {t : Stp} (h : l[k]? = some t) : (laterTo d l k)[k]? = some t := by
  have hk := (List.getElem?_eq_some_iff.1 h).1
  unfold laterTo
  rw [List.getElem?_append_right (by simp; omega)]
  simp only [List.length_map, List.length_take, List.getElem?_drop]
  rw [show k + (k - min k l.length) = k by omega]
  exact h
theorem laterTo_succ (d : Int) {l : List Stp} {k : Nat} {t : Stp} (h : l[k]? = some t) : laterTo d l (k + 1) = (laterTo d l k).set k (t.later d) := by
  have hk := (List.getElem?_eq_some_iff.1 h).1
  apply List.ext_getElem?
  intro i
  by_cases e : i = k
  · subst e
    rw [List.getElem?_set_self (by rw [laterTo_length]; exact hk)]
    unfold laterTo
    rw [List.getElem?_append_left (by simp; omega), List.getElem?_map, List.getElem?_take_of_lt (by omega), h]
    rfl
  · rw [List.getElem?_set_ne (Ne.symm e)]
    unfold laterTo
    by_cases c : i < k
    · rw [List.getElem?_append_left (by simp; omega), List.getElem?_append_left (by simp; omega), List.getElem?_map, List.getElem?_map, List.getElem?_take_of_lt (by omega), List.getElem?_take_of_lt c]
    · rw [List.getElem?_append_right (by simp; omega), List.getElem?_append_right (by simp; omega)]
      simp only [List.length_map, List.length_take, List.getElem?_drop]
      congr 1
      omega

theorem some_get2 {α : Type} {r : Option α} {xs : List α} {n i : Nat} (h : r = xs[i]?) (hl : xs.length = n) (hi : i < n) : ∃ y, r = some y :=
  ⟨_, h.trans (List.getElem?_eq_getElem (by omega))⟩

/-- What lies while a path is shifted. -/
structure ShD (w wr : World) (Z X : Nat) (q s fr b : Int) (v : Value) (l : List Stp) : Prop where
  old : Below w.heap.size w wr
  ge : w.heap.size ≤ Z
  lt : Z < X
  res : PathAt wr Z 0 0 0 0 (.slice none 0 0)
  pa : PathAt wr X q s fr b v
  own : wr.ownsRow (Z + 1) 43 7 v l.length (stepCells l)
section
variable {w wr w' : World} {Z X : Nat} {q s fr b : Int} {v : Value} {l : List Stp}
theorem ShD.gX (h : ShD w wr Z X q s fr b v l) : ∀ k, v.ownBlock = some k → k ≠ X ∧ Z < k := fun k hk => ⟨row_not_path h.own h.pa k hk, owns_base h.own k hk⟩
theorem ShD.below (h : ShD w wr Z X q s fr b v l) (hb : Below wr.heap.size wr w') : ShD w w' Z X q s fr b v l :=
  ⟨h.old.trans (hb.mono h.old.size), h.ge, h.lt, h.res.keep hb h.res.lt, h.pa.keep hb h.pa.lt, owns_below h.own hb⟩
theorem ShD.drew (h : ShD w wr Z X q s fr b v l) : ShD w wr.drew Z X q s fr b v l := h.below (Below.refl _ _).drew
theorem ShD.put {g gc : Nat} (h : ShD w wr Z X q s fr b (.slice (some ⟨g, 0, none⟩) l.length gc) l) {i j : Nat} {t t' : Stp} {u : Value} (ht : l[i]? = some t) (hj : j < 7) (he : t'.cells = t.cells.set j u) :
    ShD w (wr.setCell ⟨g, i * 7 + j, none⟩ u) Z X q s fr b (.slice (some ⟨g, 0, none⟩) (l.set i t').length gc) (l.set i t') := by
  rw [List.length_set]
  obtain ⟨h1, h2⟩ := h.gX g rfl
  have hi : i < l.length := (List.getElem?_eq_some_iff.1 ht).1
  have hge := h.ge
  refine ⟨h.old.setCell (p := ⟨g, i * 7 + j, none⟩) (by show _ ≤ g; omega) u, h.ge, h.lt, h.res.set (by show Z ≠ g; omega) u, h.pa.set (by show X ≠ g; omega) u, ?_⟩
  have h3 := owns_put h.own (j := i * 7 + j) (by omega) u
  rw [stepCells_put l i j t t' u ht hj he] at h3
  simpa using h3
theorem ShD.setX (h : ShD w wr Z X q s fr b v l) (j : Nat) (u : Value) {q' s' fr' b' : Int} {v' : Value} {l' : List Stp}
    (he : #[Value.int .i64 q, .int .i64 s, v, .int .i64 fr, .int .i64 b].setIfInBounds j u = #[.int .i64 q', .int .i64 s', v', .int .i64 fr', .int .i64 b']) (ho : wr.ownsRow (Z + 1) 43 7 v' l'.length (stepCells l')) (hX : ∀ k, v'.ownBlock = some k → k ≠ X) :
    ShD w (wr.setCell ⟨X, j, none⟩ u) Z X q' s' fr' b' v' l' := by
  have hge := h.ge
  have hlt := h.lt
  refine ⟨h.old.setCell (p := ⟨X, j, none⟩) (by show _ ≤ X; omega) u, h.ge, h.lt, h.res.set (by show Z ≠ X; omega) u, ⟨?_⟩, owns_set ho hX j u⟩
  rw [heap_setCell_same _ X j _ _ u h.pa.it, he]
end

/-- Whether it can be shifted. -/
def shiftB (q s fr b : Int) (l : List Stp) (d : Int) : Bool := pathB q s fr b l && inB d (-10000) 10000 && pathB q s (fr + d) (b + d) (laterL d l)

theorem shift_no {q s fr b : Int} {l : List Stp} {d : Int} (_h : shiftB q s fr b l d = false) (a : Option Addr) (b0 o cap : Nat) (w : World) (hl : l.length ≤ 1048576) (hs : StepsAt w a b0 o l) (h2 : pathB q s fr b l = false ∨ inB d (-10000) 10000 = false) :
    Calls Try.prog 5 #[.agg #[.int .i64 q, .int .i64 s, .slice a l.length cap, .int .i64 fr, .int .i64 b], .int .i64 d] w
      fun e w' => e = .returned (.tuple #[.agg #[.int .i64 0, .int .i64 0, .slice none 0 0, .int .i64 0, .int .i64 0], .bool false]) ∧ Below w.heap.size w w' := by
  have P0 := PathAt.new (w.alloc (.cells #[.int .i64 q, .int .i64 s, .slice a l.length cap, .int .i64 fr, .int .i64 b] 31)) 0 0 0 0 (.slice none 0 0)
  rw [World.size_alloc] at P0
  have B0 : Below w.heap.size w ((w.alloc (.cells #[.int .i64 q, .int .i64 s, .slice a l.length cap, .int .i64 fr, .int .i64 b] 31)).alloc (.cells #[.int .i64 0, .int .i64 0, .slice none 0 0, .int .i64 0, .int .i64 0] 31)) := ((Below.refl _ _).alloc (Nat.le_refl _) _).alloc (by simp) _
  go_enter Try.func5, Try.ntmps5
  go_wp2_with fail
  refine (pathS_any q s fr b a b0 o cap l _ hl ((hs.alloc _).alloc _)).mono ?_
  rintro e w1 ⟨rfl, hb1⟩
  have P1 := P0.keep hb1 P0.lt
  have B1 := B0.trans (hb1.mono B0.size)
  obtain ⟨⟨f0, f1, f2, f3, f4⟩, ff⟩ := P1.cells
  clear hb1 P0 B0
  cases hp : pathB q s fr b l with
  | false =>
    go_wp2
    refine bodyPost_ret (v := .tuple #[.agg #[.int .i64 0, .int .i64 0, .slice none 0 0, .int .i64 0, .int .i64 0], .bool false]) (by simp [results, Try.results5, go_sem, *]) rfl ⟨rfl, ?_⟩
    iterate 5 (refine Below.setCell ?_ (by show _ ≤ w.heap.size + 1; omega) _)
    exact B1
  | true =>
    have h3 := h2.resolve_left (by rw [hp]; simp)
    go_wp2_with fail
    refine (in_any d (-10000) 10000 _).mono ?_
    rintro e wx ⟨rfl, rfl⟩
    rw [h3]
    go_wp2
    refine bodyPost_ret (v := .tuple #[.agg #[.int .i64 0, .int .i64 0, .slice none 0 0, .int .i64 0, .int .i64 0], .bool false]) (by simp [results, Try.results5, go_sem, *]) rfl ⟨rfl, ?_⟩
    iterate 5 (refine Below.setCell ?_ (by show _ ≤ w.heap.size + 1; omega) _)
    exact B1

/-- The ticks of an ok path. -/
theorem step_ticks {q s fr b : Int} {l : List Stp} (h : pathB q s fr b l = true) {k : Nat} {t : Stp} (ht : l[k]? = some t) : 0 ≤ t.fr ∧ t.fr ≤ t.by_ ∧ t.by_ ≤ 10000 := by
  have hk := (List.getElem?_eq_some_iff.1 ht).1
  have hd : l.getD k .zero = t := by rw [List.getD_eq_getElem?_getD, ht]; rfl
  unfold pathB at h
  simp only [Bool.and_eq_true] at h
  have h1 := goodTo_le h.2 (show k + 1 ≤ l.length by omega)
  rw [goodTo_succ, Bool.and_eq_true] at h1
  have h2 := h1.2
  unfold goodS at h2
  rw [Bool.and_eq_true, hd] at h2
  have h3 := h2.1
  unfold stepB at h3
  simp only [decide_eq_true_eq] at h3
  omega
theorem end_ticks {q s fr b : Int} {l : List Stp} (h : pathB q s fr b l = true) : 0 ≤ fr ∧ fr ≤ b ∧ b ≤ 10000 := by
  unfold pathB at h
  simp only [Bool.and_eq_true, inB_iff, decide_eq_true_eq] at h
  omega

set_option maxRecDepth 20000 in
set_option maxHeartbeats 4000000 in
theorem shift_yes (q s fr b d : Int) (a : Option Addr) (b0 o cap : Nat) (l : List Stp) (w : World) (hs : StepsAt w a b0 o l) (hp : pathB q s fr b l = true) (hd : inB d (-10000) 10000 = true) :
    Calls Try.prog 5 #[.agg #[.int .i64 q, .int .i64 s, .slice a l.length cap, .int .i64 fr, .int .i64 b], .int .i64 d] w
      fun e w' => (pathB q s (fr + d) (b + d) (laterL d l) = false ∧ e = .returned (.tuple #[.agg #[.int .i64 0, .int .i64 0, .slice none 0 0, .int .i64 0, .int .i64 0], .bool false]) ∧ Below w.heap.size w w') ∨
        (pathB q s (fr + d) (b + d) (laterL d l) = true ∧ ∃ g gc, e = .returned (.tuple #[.agg #[.int .i64 q, .int .i64 s, .slice (some ⟨g, 0, none⟩) l.length gc, .int .i64 (fr + d), .int .i64 (b + d)], .bool true]) ∧
          w'.ownsRow w.heap.size 43 7 (.slice (some ⟨g, 0, none⟩) l.length gc) l.length (stepCells (laterL d l)) ∧ Below w.heap.size w w') := by
  have hlen := path_len hp
  have het := end_ticks hp
  have hdr := (inB_iff _ _ _).1 hd
  have HP : Hid (pathB q s fr b l = true) := hp
  have P0 := PathAt.new (w.alloc (.cells #[.int .i64 q, .int .i64 s, .slice a l.length cap, .int .i64 fr, .int .i64 b] 31)) 0 0 0 0 (.slice none 0 0)
  rw [World.size_alloc] at P0
  have Q0 := PathAt.new w q s fr b (.slice a l.length cap)
  have B0 : Below w.heap.size w ((w.alloc (.cells #[.int .i64 q, .int .i64 s, .slice a l.length cap, .int .i64 fr, .int .i64 b] 31)).alloc (.cells #[.int .i64 0, .int .i64 0, .slice none 0 0, .int .i64 0, .int .i64 0] 31)) := ((Below.refl _ _).alloc (Nat.le_refl _) _).alloc (by simp) _
  have Q0' := Q0.keep ((Below.refl _ _).alloc (Nat.le_refl _) (.cells #[.int .i64 0, .int .i64 0, .slice none 0 0, .int .i64 0, .int .i64 0] 31)) Q0.lt
  go_enter Try.func5, Try.ntmps5
  go_wp2_with fail
  refine (pathS_any q s fr b a b0 o cap l _ (by omega) ((hs.alloc _).alloc _)).mono ?_
  rw [hp]
  rintro e w1 ⟨rfl, hb1⟩
  have P1 := P0.keep hb1 P0.lt
  have Q1 := Q0'.keep hb1 Q0'.lt
  have B1 := B0.trans (hb1.mono B0.size)
  clear hb1 P0 B0 Q0 Q0' hp
  go_wp2_with fail
  refine (in_any d (-10000) 10000 _).mono ?_
  rintro e wx ⟨rfl, rfl⟩
  rw [hd]
  clear hd
  obtain ⟨⟨g0, g1, g2, g3, g4⟩, gf⟩ := Q1.cells
  go_wp2_with fail
  refine (copyS_any q s fr b a b0 o cap l _ hlen.1 (by omega) (hs.below B1 hs.lt)).mono ?_
  rintro e w2 ⟨g, gc, rfl, ho2, hb2⟩
  have D1 : ShD w (w2.alloc (.cells #[.int .i64 q, .int .i64 s, .slice (some ⟨g, 0, none⟩) l.length gc, .int .i64 fr, .int .i64 b] 31)) (w.heap.size + 1) w2.heap.size q s fr b (.slice (some ⟨g, 0, none⟩) l.length gc) l := by
    have P2 := P1.keep hb2 P1.lt
    have B2 := B1.trans (hb2.mono B1.size)
    refine ⟨B2.alloc B2.size _, by omega, P2.lt, P2.keep ((Below.refl _ _).alloc (Nat.le_refl _) _) P2.lt, PathAt.new w2 q s fr b _, owns_below ⟨ho2.1, ho2.2.imp id fun ⟨g', cap', cur, h1, h2, h3⟩ => ⟨g', cap', cur, h1, ?_, h3⟩⟩ ((Below.refl _ _).alloc (Nat.le_refl _) _)⟩
    have := P1.lt
    omega
  clear P1 Q1 B1 ho2 hb2 g0 g1 g2 g3 g4 gf
  have D2 : ShD w (w2.alloc (.cells #[.int .i64 q, .int .i64 s, .slice (some ⟨g, 0, none⟩) l.length gc, .int .i64 fr, .int .i64 b] 31)) (w.heap.size + 1) w2.heap.size q s fr b (.slice (some ⟨g, 0, none⟩) (laterTo d l 0).length gc) (laterTo d l 0) := by
    rw [laterTo_zero]
    exact D1
  clear D1
  go_wp2
  generalize w2.heap.size = X at *
  go_loopw [7] (fun s7 wr => ∃ k : Nat, s7 = .int .i64 (k : Int) ∧ k ≤ l.length ∧ ShD w wr (w.heap.size + 1) X q s fr b (.slice (some ⟨g, 0, none⟩) (laterTo d l k).length gc) (laterTo d l k)) (fun s7 _ => l.length - (intOf s7).toNat)
  case atStart => exact ⟨0, rfl, by omega, D2⟩
  case round =>
    obtain ⟨k, rfl, hk, D3⟩ := hrel
    clear D2
    by_cases hlt : k < l.length
    · obtain ⟨t, ht⟩ : ∃ t, l[k]? = some t := ⟨_, List.getElem?_eq_getElem hlt⟩
      obtain ⟨t0, t1, t2⟩ := step_ticks HP.out ht
      have k0 : (0 : Int) ≤ (k : Int) := by omega
      have k1 : (k : Int) < (l.length : Int) := by omega
      have hnow := laterTo_now d ht
      have x4 := (D3.own.cellAt (k * 7 + 4) (by rw [laterTo_length]; omega)).trans (stepCells_at _ k t 4 hnow (by decide))
      have HT : Hid (l[k]? = some t) := ht
      have HNow : Hid ((laterTo d l k)[k]? = some t) := hnow
      obtain ⟨⟨e0, e1, e2, e3, e4⟩, ef⟩ := D3.pa.cells
      rw [laterTo_length] at e2
      have hgl : g < wr.heap.size := owns_lt D3.own g rfl
      clear ht hnow
      go_wp2
      have qn := Cls.any wr
      have q0 : ∀ u : Cls wr, u.it.cell? ⟨X, 2, none⟩ = some (.slice (some ⟨g, 0, none⟩) l.length gc) := fun u => (Cls.cell D3.pa.lt u 2).trans e2
      have y4 : ∀ u : Cls wr, u.it.cell? ⟨g, k * 7 + 4, none⟩ = some (.int .i64 t.fr) := fun u => (Cls.cell hgl u _).trans x4
      refine region_reads 13 _ _ (by kernel_rfl) (by kernel_rfl) (by decide) rfl rfl (by kernel_rfl) rfl ?_
      simp only [List.take_succ_cons, List.take_zero]
      repeat (go_big_quiet_step (fail))
      refine wpQuiet_nil ?_
      refine any_end1 (N := 13) _ rfl (by kernel_rfl) (by kernel_rfl) rfl rfl ?_
      obtain ⟨u0, hc⟩ := some_get2 (D3.own.cellAt (k * 7 + 4) (by rw [laterTo_length]; omega)) D3.own.1 (by rw [laterTo_length]; omega)
      have hf := D3.own.frozenAt
      have D4 := (D3.put (t' := { t with fr := t.fr + d }) HNow.out (j := 4) (u := .int .i64 (t.fr + d)) (by decide) rfl).drew
      clear q0 y4 qn e0 e1 e2 e3 e4 ef D3
      unfold Oper.wp
      go_simp
      clear hc hf x4
      generalize (wr.setCell ⟨g, k * 7 + 4, none⟩ (.int .i64 (t.fr + d))).drew = w4 at *
      have hnow : ((laterTo d l k).set k { t with fr := t.fr + d })[k]? = some { t with fr := t.fr + d } := List.getElem?_set_self (by rw [laterTo_length]; exact hlt)
      have x5 := (D4.own.cellAt (k * 7 + 5) (by rw [List.length_set, laterTo_length]; omega)).trans (stepCells_at _ k _ 5 hnow (by decide))
      have HNow2 : Hid (((laterTo d l k).set k { t with fr := t.fr + d })[k]? = some { t with fr := t.fr + d }) := hnow
      obtain ⟨⟨e0, e1, e2, e3, e4⟩, ef⟩ := D4.pa.cells
      rw [List.length_set, laterTo_length] at e2
      have hgl4 : g < w4.heap.size := owns_lt D4.own g rfl
      clear hnow hgl
      go_wp2
      have qn := Cls.any w4
      have q0 : ∀ u : Cls w4, u.it.cell? ⟨X, 2, none⟩ = some (.slice (some ⟨g, 0, none⟩) l.length gc) := fun u => (Cls.cell D4.pa.lt u 2).trans e2
      have y5 : ∀ u : Cls w4, u.it.cell? ⟨g, k * 7 + 5, none⟩ = some (.int .i64 t.by_) := fun u => (Cls.cell hgl4 u _).trans x5
      refine region_reads 13 _ _ (by kernel_rfl) (by kernel_rfl) (by decide) rfl rfl (by kernel_rfl) rfl ?_
      simp only [List.take_succ_cons, List.take_zero]
      repeat (go_big_quiet_step (fail))
      refine wpQuiet_nil ?_
      refine any_end1 (N := 13) _ rfl (by kernel_rfl) (by kernel_rfl) rfl rfl ?_
      obtain ⟨u0, hc⟩ := some_get2 (D4.own.cellAt (k * 7 + 5) (by rw [List.length_set, laterTo_length]; omega)) D4.own.1 (by rw [List.length_set, laterTo_length]; omega)
      have hf := D4.own.frozenAt
      have D5 := (D4.put (t' := t.later d) HNow2.out (j := 5) (u := .int .i64 (t.by_ + d)) (by decide) rfl).drew
      rw [List.set_set, ← laterTo_succ d HT.out] at D5
      clear q0 y5 qn e0 e1 e2 e3 e4 ef D4
      unfold Oper.wp
      go_simp
      clear hc hf x5
      generalize (w4.setCell ⟨g, k * 7 + 5, none⟩ (.int .i64 (t.by_ + d))).drew = w5 at *
      go_wp2
      go_roundw
      case rel => exact ⟨k + 1, by simp, by omega, D5⟩
      case measure => simp [intOf]; omega
    · obtain rfl : k = l.length := by omega
      rw [laterTo_all] at D3
      have hll : (laterL d l).length = l.length := by simp [laterL]
      have D6 := (D3.setX 3 (.int .i64 (fr + d)) (q' := q) (s' := s) (fr' := fr + d) (b' := b) (v' := .slice (some ⟨g, 0, none⟩) (laterL d l).length gc) rfl D3.own (fun k e => (D3.gX k e).1))
      have D7 := (D6.setX 4 (.int .i64 (b + d)) (q' := q) (s' := s) (fr' := fr + d) (b' := b + d) (v' := .slice (some ⟨g, 0, none⟩) (laterL d l).length gc) rfl D6.own (fun k e => (D6.gX k e).1))
      obtain ⟨⟨e0, e1, e2, e3, e4⟩, ef⟩ := D3.pa.cells
      rw [hll] at e2
      have hst := steps_owned D7.own
      have HD : Hid (ShD w ((wr.setCell ⟨X, 3, none⟩ (.int .i64 (fr + d))).setCell ⟨X, 4, none⟩ (.int .i64 (b + d))) (w.heap.size + 1) X q s (fr + d) (b + d) (.slice (some ⟨g, 0, none⟩) (laterL d l).length gc) (laterL d l)) := D7
      clear D6 D7 D3
      go_wp2_with fail
      have hcon := pathS_any q s (fr + d) (b + d) (some ⟨g, 0, none⟩) g 0 gc (laterL d l) _ (by omega) hst
      rw [hll] at hcon
      refine hcon.mono ?_
      rintro e w6 ⟨rfl, hb6⟩
      have D8 := HD.out.below hb6
      rw [hll] at D8
      clear hcon hst hb6 HD e0 e1 e2 e3 e4 ef
      obtain ⟨⟨e0, e1, e2, e3, e4⟩, ef⟩ := D8.pa.cells
      obtain ⟨⟨f0, f1, f2, f3, f4⟩, ff⟩ := D8.res.cells
      have hZX : w.heap.size + 1 ≠ X := by have := D8.lt; omega
      have hge := D8.ge
      cases hp2 : pathB q s (fr + d) (b + d) (laterL d l) with
      | false =>
        go_wp2
        refine bodyPost_ret (v := .tuple #[.agg #[.int .i64 0, .int .i64 0, .slice none 0 0, .int .i64 0, .int .i64 0], .bool false]) (by simp [results, Try.results5, go_sem, *]) rfl (.inl ⟨hp2, rfl, ?_⟩)
        iterate 5 (refine Below.setCell ?_ (by show _ ≤ w.heap.size + 1; omega) _)
        exact D8.old
      | true =>
        have hp2' : Hid (pathB q s (fr + d) (b + d) (laterL d l) = true) := hp2
        clear hp2
        go_wp2
        refine bodyPost_ret (v := .tuple #[.agg #[.int .i64 q, .int .i64 s, .slice (some ⟨g, 0, none⟩) l.length gc, .int .i64 (fr + d), .int .i64 (b + d)], .bool true]) (by simp [results, Try.results5, go_sem, *]) rfl (.inr ⟨hp2'.out, g, gc, rfl, ?_, ?_⟩)
        · have hh : ∀ k, (Value.slice (some ⟨g, 0, none⟩) l.length gc).ownBlock = some k → k ≠ w.heap.size + 1 := fun k e => by have := (D8.gX k e).2; omega
          have ho := D8.own
          rw [hll] at ho
          iterate 5 (refine owns_set ?_ hh _ _)
          exact ⟨ho.1, ho.2.imp id fun ⟨g, cap, cur, h1, h2, h3⟩ => ⟨g, cap, cur, h1, by omega, h3⟩⟩
        · iterate 5 (refine Below.setCell ?_ (by show _ ≤ w.heap.size + 1; omega) _)
          exact D8.old
end Go.Proofs.Ytedmnlognekdkaa

namespace Go.Proofs.Ytedmnlognekdkaa
open Go.RowKit

theorem onSide_any (n : Int) (w : World) :
    Calls Try.prog 39 #[.int .i64 n] w fun e w' => e = .returned (.bool (inB n 0 15)) ∧ w' = w := by
  by_cases h1 : 0 ≤ n
  · go_enter Try.func39, Try.ntmps39
    go_wp2
    go_ret
    have e1 : decide (n < 16) = inB n 0 15 := by by_cases h : n < 16 <;> simp [inB, h, h1] <;> omega
    exact ⟨by rw [← e1]; rfl, rfl⟩
  · have h1' : decide (0 ≤ n) = false := by simpa using h1
    go_enter Try.func39, Try.ntmps39
    go_wp2
    go_ret
    exact ⟨by simp [inB, h1'], rfl⟩

theorem ordered_any (a b c d : Int) (w : World) :
    Calls Try.prog 38 #[.int .i64 a, .int .i64 b, .int .i64 c, .int .i64 d] w fun e w' => e = .returned (.bool (ordB a b c d)) ∧ w' = w := by
  by_cases h1 : a ≤ b
  · by_cases h2 : b ≤ c
    · go_enter Try.func38, Try.ntmps38
      go_wp2
      go_ret
      exact ⟨by simp [ordB, h1, h2], rfl⟩
    · have e1 : ordB a b c d = false := by simp [ordB]; omega
      rw [e1]
      clear e1
      go_enter Try.func38, Try.ntmps38
      go_wp2
      go_ret
      exact ⟨rfl, rfl⟩
  · have e1 : ordB a b c d = false := by simp [ordB]; omega
    rw [e1]
    clear e1
    go_enter Try.func38, Try.ntmps38
    go_wp2
    go_ret
    exact ⟨rfl, rfl⟩

theorem isBeside_any (a b : Int) (w : World) :
    Calls Try.prog 41 #[.int .i64 a, .int .i64 b] w fun e w' => e = .returned (.bool (inB (wrap64 (a - b)) (-1) 1)) ∧ w' = w := by
  by_cases h1 : -1 ≤ wrap64 (a - b)
  · go_enter Try.func41, Try.ntmps41
    go_wp2
    go_ret
    exact ⟨by simp [inB, h1], rfl⟩
  · have h1' : decide (-1 ≤ wrap64 (a - b)) = false := by simpa using h1
    go_enter Try.func41, Try.ntmps41
    go_wp2
    go_ret
    exact ⟨by simp [inB, h1'], rfl⟩

theorem stepOk_any (x y lo hi fr b : Int) (ho : Bool) (w : World) :
    Calls Try.prog 35 #[.agg #[.int .i64 x, .int .i64 y, .int .i64 lo, .int .i64 hi, .int .i64 fr, .int .i64 b, .bool ho]] w fun e w' => e = .returned (.bool (stepB x y lo hi fr b)) ∧ Below w.heap.size w w' := by
  have hb := (Below.refl w.heap.size w).alloc (Nat.le_refl _) (.cells #[.int .i64 x, .int .i64 y, .int .i64 lo, .int .i64 hi, .int .i64 fr, .int .i64 b, .bool ho] 43)
  cases h1 : inB x 0 15 with
  | false =>
    have e1 : stepB x y lo hi fr b = false := by simp [stepB, inB] at *; omega
    rw [e1]; clear e1
    go_enter Try.func35, Try.ntmps35
    go_wp2_with (first | (go_at_call 39; refine (onSide_any _ _).mono ?_; rintro e w' ⟨rfl, rfl⟩) | (go_at_call 38; refine (ordered_any _ _ _ _ _).mono ?_; rintro e w' ⟨rfl, rfl⟩))
    go_ret
    exact ⟨rfl, hb⟩
  | true =>
  cases h2 : inB y 0 15 with
  | false =>
    have e1 : stepB x y lo hi fr b = false := by simp [stepB, inB] at *; omega
    rw [e1]; clear e1
    go_enter Try.func35, Try.ntmps35
    go_wp2_with (first | (go_at_call 39; refine (onSide_any _ _).mono ?_; rintro e w' ⟨rfl, rfl⟩) | (go_at_call 38; refine (ordered_any _ _ _ _ _).mono ?_; rintro e w' ⟨rfl, rfl⟩))
    go_ret
    exact ⟨rfl, hb⟩
  | true =>
  cases h3 : ordB 0 lo hi 6 with
  | false =>
    have e1 : stepB x y lo hi fr b = false := by simp [stepB, inB, ordB] at *; omega
    rw [e1]; clear e1
    go_enter Try.func35, Try.ntmps35
    go_wp2_with (first | (go_at_call 39; refine (onSide_any _ _).mono ?_; rintro e w' ⟨rfl, rfl⟩) | (go_at_call 38; refine (ordered_any _ _ _ _ _).mono ?_; rintro e w' ⟨rfl, rfl⟩))
    go_ret
    exact ⟨rfl, hb⟩
  | true =>
    have e1 : stepB x y lo hi fr b = ordB 0 fr b 10000 := by
      rw [Bool.eq_iff_iff]; simp [stepB, inB, ordB] at *; omega
    rw [e1]; clear e1
    go_enter Try.func35, Try.ntmps35
    go_wp2_with (first | (go_at_call 39; refine (onSide_any _ _).mono ?_; rintro e w' ⟨rfl, rfl⟩) | (go_at_call 38; refine (ordered_any _ _ _ _ _).mono ?_; rintro e w' ⟨rfl, rfl⟩))
    go_ret
    exact ⟨rfl, hb⟩

theorem sharesLevel_any (x y lo hi fr b x' y' lo' hi' fr' b' : Int) (ho ho' : Bool) (w : World) :
    Calls Try.prog 42 #[.agg #[.int .i64 x, .int .i64 y, .int .i64 lo, .int .i64 hi, .int .i64 fr, .int .i64 b, .bool ho], .agg #[.int .i64 x', .int .i64 y', .int .i64 lo', .int .i64 hi', .int .i64 fr', .int .i64 b', .bool ho']] w
      fun e w' => e = .returned (.bool (levB lo hi lo' hi')) ∧ Below w.heap.size w w' := by
  have hb := ((Below.refl w.heap.size w).alloc (Nat.le_refl _) (.cells #[.int .i64 x, .int .i64 y, .int .i64 lo, .int .i64 hi, .int .i64 fr, .int .i64 b, .bool ho] 43)).alloc (by simp) (.cells #[.int .i64 x', .int .i64 y', .int .i64 lo', .int .i64 hi', .int .i64 fr', .int .i64 b', .bool ho'] 43)
  by_cases h1 : lo ≤ hi'
  · go_enter Try.func42, Try.ntmps42
    go_wp2
    go_ret
    exact ⟨by simp [levB, h1], hb⟩
  · have h1' : decide (lo ≤ hi') = false := by simpa using h1
    go_enter Try.func42, Try.ntmps42
    go_wp2
    go_ret
    exact ⟨by simp [levB, h1'], hb⟩

set_option maxHeartbeats 1000000 in
theorem follows_any (x y lo hi fr b x' y' lo' hi' fr' b' : Int) (ho ho' : Bool) (w : World) :
    Calls Try.prog 37 #[.agg #[.int .i64 x, .int .i64 y, .int .i64 lo, .int .i64 hi, .int .i64 fr, .int .i64 b, .bool ho], .agg #[.int .i64 x', .int .i64 y', .int .i64 lo', .int .i64 hi', .int .i64 fr', .int .i64 b', .bool ho']] w
      fun e w' => e = .returned (.bool (folB x y lo hi x' y' lo' hi')) ∧ Below w.heap.size w w' := by
  have hb := ((Below.refl w.heap.size w).alloc (Nat.le_refl _) (.cells #[.int .i64 x, .int .i64 y, .int .i64 lo, .int .i64 hi, .int .i64 fr, .int .i64 b, .bool ho] 43)).alloc (by simp) (.cells #[.int .i64 x', .int .i64 y', .int .i64 lo', .int .i64 hi', .int .i64 fr', .int .i64 b', .bool ho'] 43)
  cases h1 : (x == x') <;> cases h2 : (y == y') <;> cases h3 : inB (wrap64 (x - x')) (-1) 1 <;> cases h4 : inB (wrap64 (y - y')) (-1) 1
  all_goals
    go_enter Try.func37, Try.ntmps37
    go_wp2_with (first | (go_at_call 41; refine (isBeside_any _ _ _).mono ?_; rintro e w' ⟨rfl, rfl⟩) | (go_at_call 42; refine (sharesLevel_any x y lo hi fr b x' y' lo' hi' fr' b' ho ho' _).mono ?_; rintro e w1 ⟨rfl, hb1⟩))
    go_ret
    first
      | exact ⟨by simp [folB, h1, h2, h3, h4], hb⟩
      | exact ⟨by simp [folB, h1, h2, h3, h4], hb.trans (hb1.mono (by simp; omega))⟩
end Go.Proofs.Ytedmnlognekdkaa
