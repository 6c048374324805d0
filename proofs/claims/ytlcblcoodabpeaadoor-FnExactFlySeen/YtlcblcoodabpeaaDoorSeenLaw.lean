/- The walk of the law on FlySeen, over the contracts of both FlySeens. -/
import Derived.Test.YtlcblcoodabpeaaDoorJ05
namespace Go.Proofs.YtlcblcoodabpeaaDoor
open Go.RowKit

theorem seenLaw_big (q s fr b st nw : Int) (a : Option Addr) (n cap : Nat) (w : World) (hn : n ≤ maxLen) (hbig : 1048576 < n) :
    Calls Tryd.prog 4 #[.agg #[.int .i64 q, .int .i64 s, .slice a n cap, .int .i64 fr, .int .i64 b], .int .i64 st, .int .i64 nw] w fun e w' => e = .returned (.bool true) ∧ Below w.heap.size w w' := by
  have e1 : leftB 1048576 n = -1 := by unfold leftB; rw [if_pos (by omega)]
  go_enter Tryd.func4, Tryd.ntmps4
  go_wp2_with (go_at_call 6; refine (szPath_any _ _ _ _ _ _ _ _ _ hn (by omega) (by omega)).mono ?_; rintro e w1 ⟨rfl, hb1⟩)
  go_ret
  exact ⟨rfl, ((Below.refl _ _).alloc (Nat.le_refl _) _).trans (hb1.mono (by simp))⟩

set_option maxRecDepth 20000 in
set_option maxHeartbeats 8000000 in
theorem seenLaw_any (A : Ans) (q s fr b st nw : Int) (a : Option Addr) (b0 o cap : Nat) (l : List Stp) (w : World) (hl : l.length ≤ 1048576) (hs : StepsAt w a b0 o l) (hA : A.l.length ≤ 1048576)
    (hS : ∀ (a : Option Addr) (b0 o cap : Nat) (W : World), l.length ≤ cap → Below w.heap.size w W → StepsAt W a b0 o l → Calls Tryd.prog 13 #[.agg #[.int .i64 q, .int .i64 s, .slice a l.length cap, .int .i64 fr, .int .i64 b], .int .i64 st, .int .i64 nw] W (Gives A W))
    (hI : ∀ (a : Option Addr) (b0 o cap : Nat) (W : World), l.length ≤ cap → Below w.heap.size w W → StepsAt W a b0 o l → Calls Tryd.prog 14 #[.agg #[.int .i64 q, .int .i64 s, .slice a l.length cap, .int .i64 fr, .int .i64 b], .int .i64 st, .int .i64 nw] W (Gives A W)) :
    Calls Tryd.prog 4 #[.agg #[.int .i64 q, .int .i64 s, .slice a l.length cap, .int .i64 fr, .int .i64 b], .int .i64 st, .int .i64 nw] w fun e w' => e = .returned (.bool true) ∧ Below w.heap.size w w' := by
  have e1 : 0 ≤ leftB 1048576 l.length := by unfold leftB; rw [if_neg (by omega)]; omega
  have hB0 := BoxP.new w q s fr b (.slice a l.length cap) 26
  have hsB : ∀ {wr : World}, BoxP w wr q s fr b (.slice a l.length cap) → StepsAt wr a b0 o l := fun h => hs.below h.old hs.lt
  go_enter Tryd.func4, Tryd.ntmps4
  go_wp2_with fail
  refine (szPath_any _ _ _ _ _ _ _ _ _ (by unfold maxLen; omega) (by omega) (by omega)).mono ?_
  rintro e w1 ⟨rfl, hb1⟩
  have hB1 := hB0.below hb1
  clear hb1 hB0
  have c0 := hB1.p0
  have c1 := hB1.p1
  have c2 := hB1.p2
  have c3 := hB1.p3
  have c4 := hB1.p4
  go_wp2_with fail
  refine (toPath_any _ _ _ _ _ b0 o _ _ _ hl (hsB hB1)).mono ?_
  rintro e w2 ⟨g2, rfl, hg2, hg2', hs2, hb2⟩
  have hB2 := hB1.below hb2
  clear c0 c1 c2 c3 c4
  go_wp2_with fail
  refine (hS _ g2 0 _ _ (Nat.le_refl _) hB2.old hs2).mono ?_
  rintro e w3 ⟨v3, rfl, ho3, hb3⟩
  obtain ⟨a3, j3, k3, hv3, _⟩ := steps_of ho3
  subst hv3
  have hB3 := hB2.below hb3
  have z2 := hB2.lt
  have z3 := hB3.lt
  have o3 := owns_lt ho3
  have W3 := PathAt.new w3 A.q A.s A.fr A.b (.slice a3 A.l.length k3)
  have al3 : Below w3.heap.size w3 (w3.alloc (.cells #[.int .i64 A.q, .int .i64 A.s, (.slice a3 A.l.length k3), .int .i64 A.fr, .int .i64 A.b] 31)) := (Below.refl _ _).alloc (Nat.le_refl _) _
  have hB3' := hB3.below al3
  have ho3' := owns_below ho3 al3
  have s3 : (w3.alloc (.cells #[.int .i64 A.q, .int .i64 A.s, (.slice a3 A.l.length k3), .int .i64 A.fr, .int .i64 A.b] 31)).heap.size = w3.heap.size + 1 := World.size_alloc _ _
  clear hb2 hb3 hs2 hB1 hB2 hB3 al3 ho3 hg2 hg2'
  have c0 := hB3'.p0
  have c1 := hB3'.p1
  have c2 := hB3'.p2
  have c3 := hB3'.p3
  have c4 := hB3'.p4
  go_wp2_with fail
  refine (toPath_more _ _ _ _ _ b0 o _ _ _ hl (hsB hB3')).mono ?_
  rintro e w4 ⟨g4, rfl, hg4, hg4', hs4, hb4, hth4⟩
  rw [s3] at hg4
  have hB4 := hB3'.below hb4
  have ho4 := owns_below ho3' hb4
  have W4 := W3.keep hb4 W3.lt
  have X4 := PathAt.new w4 q s fr b (.slice (some ⟨g4, 0, none⟩) l.length l.length)
  have al4 : Below w4.heap.size w4 (w4.alloc (.cells #[.int .i64 q, .int .i64 s, .slice (some ⟨g4, 0, none⟩) l.length l.length, .int .i64 fr, .int .i64 b] 31)) := (Below.refl _ _).alloc (Nat.le_refl _) _
  have s4 : (w4.alloc (.cells #[.int .i64 q, .int .i64 s, .slice (some ⟨g4, 0, none⟩) l.length l.length, .int .i64 fr, .int .i64 b] 31)).heap.size = w4.heap.size + 1 := World.size_alloc _ _
  clear c0 c1 c2 c3 c4 hB3' W3 ho3' hb4 s3
  go_wp2_with fail
  refine (hI _ g4 0 _ _ (Nat.le_refl _) (hB4.old.trans (al4.mono hB4.old.size)) (hs4.alloc _)).mono ?_
  rintro e w5 ⟨v5, rfl, ho5, hb5⟩
  obtain ⟨a5, j5, k5, hv5, _⟩ := steps_of ho5
  subst hv5
  have hb45 : Below w4.heap.size w4 w5 := al4.trans (hb5.mono (by rw [s4]; omega))
  have d5 : ∀ k, (Value.slice a5 A.l.length k5).ownBlock = some k → w4.heap.size < k ∧ k < w5.heap.size := fun k e => by have h1 := owns_base ho5 k e; have h2 := owns_lt ho5 k e; rw [s4] at h1; omega
  have G5 := PathAt.new w5 A.q A.s A.fr A.b (.slice a5 A.l.length k5)
  have al5 : Below w5.heap.size w5 (w5.alloc (.cells #[.int .i64 A.q, .int .i64 A.s, (.slice a5 A.l.length k5), .int .i64 A.fr, .int .i64 A.b] 31)) := (Below.refl _ _).alloc (Nat.le_refl _) _
  have hb45' : Below w4.heap.size w4 (w5.alloc (.cells #[.int .i64 A.q, .int .i64 A.s, (.slice a5 A.l.length k5), .int .i64 A.fr, .int .i64 A.b] 31)) := hb45.trans (al5.mono hb45.size)
  have X5 := (X4.keep hb5 X4.lt).keep al5 (X4.keep hb5 X4.lt).lt
  have P5 : Pic w (w5.alloc (.cells #[.int .i64 A.q, .int .i64 A.s, (.slice a5 A.l.length k5), .int .i64 A.fr, .int .i64 A.b] 31)) q s fr b (.slice a l.length cap) A w2.heap.size w3.heap.size w5.heap.size (w4.heap.size + 1) (.slice a3 A.l.length k3) (.slice a5 A.l.length k5) A.l := ⟨hB4.below hb45', W4.keep hb45' W4.lt, G5, owns_below ho4 hb45', by have := owns_below ho5 al5; rw [s4] at this; exact this⟩
  have hth5 : ∀ i, i < l.length → (w5.alloc (.cells #[.int .i64 A.q, .int .i64 A.s, (.slice a5 A.l.length k5), .int .i64 A.fr, .int .i64 A.b] 31)).there g4 (i * 7) 7 := fun i hi => there_below (hth4 i hi) hb45' hg4'
  have hs5 := hs4.below hb45' (fun _ => hg4')
  have z4 := W4.lt
  have z5 : w4.heap.size < w5.heap.size := Nat.lt_of_lt_of_le (by rw [s4]; omega) hb5.size
  have hgl5 : g4 < (w5.alloc (.cells #[.int .i64 A.q, .int .i64 A.s, (.slice a5 A.l.length k5), .int .i64 A.fr, .int .i64 A.b] 31)).heap.size := Nat.lt_of_lt_of_le hg4' hb45'.size
  clear hb5 hb45 hb45' al4 al5 X4 G5 ho4 ho5 hB4 W4 hs4 hth4
  obtain ⟨⟨m0, m1, m2, m3, m4⟩, _⟩ := P5.g0.cells
  obtain ⟨⟨n0, n1, n2, n3, n4⟩, _⟩ := P5.w0.cells
  go_wp2_with fail
  refine (P5.eq hA).mono ?_
  rintro e w6 ⟨rfl, hb6⟩
  have P6 := P5.below hb6
  have X6 := X5.keep hb6 X5.lt
  have hth6 : ∀ i, i < l.length → w6.there g4 (i * 7) 7 := fun i hi => there_below (hth5 i hi) hb6 hgl5
  have hs6 := hs5.below hb6 (fun _ => hgl5)
  have hg6 : g4 < w6.heap.size := Nat.lt_of_lt_of_le hgl5 hb6.size
  clear m0 m1 m2 m3 m4 n0 n1 n2 n3 n4 hb6 P5 X5 hth5 hs5 hgl5
  have c0 := P6.box.p0
  have c1 := P6.box.p1
  have c2 := P6.box.p2
  have c3 := P6.box.p3
  have c4 := P6.box.p4
  obtain ⟨⟨y0, y1, y2, y3, y4⟩, _⟩ := X6.cells
  have zc := P6.box.lt
  have zy := X6.lt
  have hs6d : StepsAt w6.drew (some ⟨g4, 0, none⟩) g4 0 l := hs6.below ((Below.refl w6.heap.size w6).drew) hs6.lt
  have hsd : StepsAt w6.drew a b0 o l := (hsB P6.box).below ((Below.refl w6.heap.size w6).drew) (hsB P6.box).lt
  have hg6d : g4 < w6.drew.heap.size := hg6
  go_wp2
  go_region_held3 (fun w' => w'.cell? ⟨w.heap.size, 0, none⟩ = some (.int .i64 q) ∧ w'.cell? ⟨w.heap.size, 1, none⟩ = some (.int .i64 s) ∧ w'.cell? ⟨w.heap.size, 2, none⟩ = some (.slice a l.length cap) ∧ w'.cell? ⟨w.heap.size, 3, none⟩ = some (.int .i64 fr) ∧ w'.cell? ⟨w.heap.size, 4, none⟩ = some (.int .i64 b) ∧
      w'.cell? ⟨w4.heap.size, 0, none⟩ = some (.int .i64 q) ∧ w'.cell? ⟨w4.heap.size, 1, none⟩ = some (.int .i64 s) ∧ w'.cell? ⟨w4.heap.size, 2, none⟩ = some (.slice (some ⟨g4, 0, none⟩) l.length l.length) ∧ w'.cell? ⟨w4.heap.size, 3, none⟩ = some (.int .i64 fr) ∧ w'.cell? ⟨w4.heap.size, 4, none⟩ = some (.int .i64 b))
    (simp [go_sem, *])
    (first
      | (go_at_call 8; refine (toPath_any _ _ _ _ _ b0 o _ _ _ hl hsd).mono ?_; rintro e w7 ⟨g7, rfl, hg7, hg7', hs7, hb7⟩; have n0 : ∀ j, w7.cell? ⟨w.heap.size, j, none⟩ = w6.cell? ⟨w.heap.size, j, none⟩ := fun j => hb7.cell (p := ⟨w.heap.size, j, none⟩) zc; have n1 : ∀ j, w7.cell? ⟨w4.heap.size, j, none⟩ = w6.cell? ⟨w4.heap.size, j, none⟩ := fun j => hb7.cell (p := ⟨w4.heap.size, j, none⟩) zy)
      | (go_at_call 10; refine (eqPath_same _ _ _ _ _ _ g4 0 _ g7 0 _ _ _ hl (hs6d.below hb7 (fun _ => hg6d)) hs7).mono ?_; rintro e w8 ⟨rfl, hb8⟩; have n2 : ∀ j, w8.cell? ⟨w.heap.size, j, none⟩ = w7.cell? ⟨w.heap.size, j, none⟩ := fun j => hb8.cell (p := ⟨w.heap.size, j, none⟩) (Nat.lt_of_lt_of_le zc hb7.size); have n3 : ∀ j, w8.cell? ⟨w4.heap.size, j, none⟩ = w7.cell? ⟨w4.heap.size, j, none⟩ := fun j => hb8.cell (p := ⟨w4.heap.size, j, none⟩) (Nat.lt_of_lt_of_le zy hb7.size)))
  have hb68 : Below w6.heap.size w6 w8 := ((Below.refl w6.heap.size w6).drew).trans (hb7.trans (hb8.mono hb7.size))
  have P8 := P6.below hb68
  have X8 := X6.keep hb68 X6.lt
  have hth8 : ∀ i, i < l.length → w8.there g4 (i * 7) 7 := fun i hi => there_below (hth6 i hi) hb68 hg6
  have hg8 : g4 < w8.heap.size := Nat.lt_of_lt_of_le hg6 hb68.size
  clear c0 c1 c2 c3 c4 y0 y1 y2 y3 y4 n0 n1 n2 n3 hb7 hb8 hs7 hs6d hsd hs6 hb68 P6 X6 hth6 hg6 zc zy hg7 hg7' hg6d
  obtain ⟨⟨y0, y1, y2, y3, y4⟩, _⟩ := X8.cells
  go_wp2_with fail
  refine (markPath_any _ _ _ _ _ g4 _ l.length _ hl (by omega) hg8 hth8).mono ?_
  rintro e w9 ⟨rfl, hg9⟩
  have P9 := P8.grown hg9 (fun k e => by cases e; omega) (fun k e => by cases e; omega) (fun k e => by cases e; omega) (fun k k' e e' => by cases e; have := o3 k' e'; omega) (fun k k' e e' => by cases e; have := (d5 k' e').1; omega)
  clear y0 y1 y2 y3 y4 X8 P8 hth8 hg8 hg9
  have hk9 : ¬ (1 + ((l.length * 7 : Nat) : Int) < 0) := by omega
  generalize hmk : (1 : Int) + ((l.length * 7 : Nat) : Int) = mk9 at hk9 ⊢
  clear hmk
  obtain ⟨⟨m0, m1, m2, m3, m4⟩, _⟩ := P9.g0.cells
  obtain ⟨⟨n0, n1, n2, n3, n4⟩, _⟩ := P9.w0.cells
  go_wp2_with fail
  refine (P9.eq hA).mono ?_
  rintro e w10 ⟨rfl, hb10⟩
  have P10 := P9.below hb10
  clear m0 m1 m2 m3 m4 n0 n1 n2 n3 n4 hb10 P9
  obtain ⟨⟨m0, m1, m2, m3, m4⟩, _⟩ := P10.g0.cells
  go_wp2_with fail
  refine (markPath_own _ _ _ _ 1 (.slice a5 A.l.length k5) _ A.l w10 hA (by omega) P10.r5).mono ?_
  rintro e w11 ⟨rfl, hr11, hg11⟩
  have P11 : Pic w w11 q s fr b (.slice a l.length cap) A w2.heap.size w3.heap.size w5.heap.size (w4.heap.size + 1) (.slice a3 A.l.length k3) (.slice a5 A.l.length k5) (markL 1 A.l.length) := P10.marked hg11 (by rw [markL_length]; exact hr11) (fun k e => by have := d5 k e; omega) (fun k e => by have := d5 k e; omega) (fun k e => by have := d5 k e; omega) (fun k k' e e' => by have := d5 k e; have := o3 k' e'; omega)
  clear hg11 hr11 P10 m0 m1 m2 m3 m4
  have hm11 : ¬ (1 + ((A.l.length * 7 : Nat) : Int) < 0) := by omega
  obtain ⟨mk, hmk⟩ : ∃ mk : Int, 1 + ((A.l.length * 7 : Nat) : Int) = mk := ⟨_, rfl⟩
  have HH : ∀ W : World, Pic w W q s fr b (.slice a l.length cap) A w2.heap.size w3.heap.size w5.heap.size (w4.heap.size + 1) (.slice a3 A.l.length k3) (.slice a5 A.l.length k5) (markL 1 A.l.length) →
      Calls Tryd.prog 12 #[.agg #[.int .i64 A.q, .int .i64 A.s, (.slice a5 A.l.length k5), .int .i64 A.fr, .int .i64 A.b], .int .i64 1] W fun e w' => e = .returned (.int .i64 mk) ∧ Below W.heap.size W w' := fun W hW => by rw [← hmk]; exact heldPath_own _ _ _ _ 1 (.slice a5 A.l.length k5) _ _ W hA (by omega) (by have := hW.r5; rw [markL_length] at this; exact this)
  rw [hmk] at hm11 ⊢
  clear hmk
  obtain ⟨⟨m0, m1, m2, m3, m4⟩, _⟩ := P11.g0.cells
  go_wp2_with fail
  refine (HH w11 P11).mono ?_
  rintro e w12 ⟨rfl, hb12⟩
  have P12 := P11.below hb12
  clear m0 m1 m2 m3 m4 P11 hb12
  have c0 := P12.box.p0
  have c1 := P12.box.p1
  have c2 := P12.box.p2
  have c3 := P12.box.p3
  have c4 := P12.box.p4
  go_wp2_with fail
  refine (toPath_any _ _ _ _ _ b0 o _ _ _ hl (hsB P12.box)).mono ?_
  rintro e w13 ⟨g13, rfl, hg13, hg13', hs13, hb13⟩
  have P13 := P12.below hb13
  clear hb13 P12 c0 c1 c2 c3 c4
  go_wp2_with fail
  refine (hI _ g13 0 _ _ (Nat.le_refl _) P13.box.old hs13).mono ?_
  rintro e w14 ⟨v14, rfl, ho14, hb14⟩
  obtain ⟨a14, j14, k14, hv14, _⟩ := steps_of ho14
  subst hv14
  have P14 := (P13.below hb14).below ((Below.refl _ _).alloc (Nat.le_refl _) (.cells #[.int .i64 A.q, .int .i64 A.s, (.slice a14 A.l.length k14), .int .i64 A.fr, .int .i64 A.b] 31))
  have H14 := PathAt.new w14 A.q A.s A.fr A.b (.slice a14 A.l.length k14)
  have hr14 := owns_below ho14 ((Below.refl _ _).alloc (Nat.le_refl _) (.cells #[.int .i64 A.q, .int .i64 A.s, (.slice a14 A.l.length k14), .int .i64 A.fr, .int .i64 A.b] 31))
  clear hb14 P13 ho14
  obtain ⟨⟨m0, m1, m2, m3, m4⟩, _⟩ := H14.cells
  obtain ⟨⟨n0, n1, n2, n3, n4⟩, _⟩ := P14.w0.cells
  go_wp2_with fail
  refine (eqOwned hA hr14 P14.r3).mono ?_
  rintro e w15 ⟨rfl, hb15⟩
  have P15 := P14.below hb15
  clear m0 m1 m2 m3 m4 n0 n1 n2 n3 n4 H14 hr14 P14 hb15
  obtain ⟨⟨m0, m1, m2, m3, m4⟩, _⟩ := P15.g0.cells
  go_wp2_with fail
  refine (HH w15 P15).mono ?_
  rintro e w16 ⟨rfl, hb16⟩
  have P16 := P15.below hb16
  clear m0 m1 m2 m3 m4 hb16 P15 HH
  go_wp2
  go_ret
  exact ⟨rfl, P16.box.old⟩
end Go.Proofs.YtlcblcoodabpeaaDoor
