/- The walk of the law on FlySpans, over the contract of the program's FlySpans. -/
import Derived.Test.YtndfacmfjilbkahSpanMark2
import Derived.Test.YtndfacmfjilbkahSpanSpec2
import Derived.Test.YtndfacmfjilbkahEq
import Derived.Deep.RegionHeld3
namespace Go.Proofs.Ytndfacmfjilbkah
open Go.RowKit

/-- The contract of the program's FlySpans. -/
def SpansSaid : Prop := ∀ (q s fr b : Int) (a : Option Addr) (b0 o cap : Nat) (l : List Stp) (w : World), l.length ≤ 1048576 → StepsAt w a b0 o l →
    Calls Try.prog 18 #[.agg #[.int .i64 q, .int .i64 s, .slice a l.length cap, .int .i64 fr, .int .i64 b]] w
      fun e w' => ∃ v, e = .returned (.tuple #[v, .bool (flyB q s fr b l)]) ∧ w'.ownsRow w.heap.size 75 2 v (flyL q s fr b l).length (spanCells (flyL q s fr b l)) ∧ Below w.heap.size w w'

theorem spanLaw_big (q s fr b : Int) (a : Option Addr) (n cap : Nat) (w : World) (hn : n ≤ maxLen) (hbig : 1048576 < n) :
    Calls Try.prog 5 #[.agg #[.int .i64 q, .int .i64 s, .slice a n cap, .int .i64 fr, .int .i64 b]] w fun e w' => e = .returned (.bool true) ∧ Below w.heap.size w w' := by
  have e1 : leftB 1048576 n = -1 := by unfold leftB; rw [if_pos (by omega)]
  go_enter Try.func5, Try.ntmps5
  go_wp2_with (go_at_call 8; refine (szPath_any _ _ _ _ _ _ _ _ _ hn (by omega) (by omega)).mono ?_; rintro e w1 ⟨rfl, hb1⟩)
  go_ret
  exact ⟨rfl, ((Below.refl _ _).alloc (Nat.le_refl _) _).trans (hb1.mono (by simp))⟩

theorem flyL_len (q s fr b : Int) (l : List Stp) (hl : l.length ≤ 1048575) : (flyL q s fr b l).length ≤ 1048576 := by
  unfold flyL
  split
  · unfold spansL
    split
    · simp; omega
    · simp
  · simp

set_option maxRecDepth 20000 in
set_option maxHeartbeats 8000000 in
theorem spanLaw_any (hI : SpansSaid) (q s fr b : Int) (a : Option Addr) (b0 o cap : Nat) (l : List Stp) (w : World) (hl : l.length ≤ 1048576) (hs : StepsAt w a b0 o l) :
    Calls Try.prog 5 #[.agg #[.int .i64 q, .int .i64 s, .slice a l.length cap, .int .i64 fr, .int .i64 b]] w fun e w' => e = .returned (.bool true) ∧ Below w.heap.size w w' := by
  have e1 : 0 ≤ leftB 1048576 l.length := by unfold leftB; rw [if_neg (by omega)]; omega
  have hL : (flyL q s fr b l).length ≤ 1048576 := by
    cases hp : pathB q s fr b l with
    | false => unfold flyL; rw [hp]; simp
    | true => exact flyL_len q s fr b l (by have := path_len hp; omega)
  have hB0 := BoxP.new w q s fr b (.slice a l.length cap) 26
  have hsB : ∀ {wr : World}, BoxP w wr q s fr b (.slice a l.length cap) → StepsAt wr a b0 o l := fun h => hs.below h.old hs.lt
  go_enter Try.func5, Try.ntmps5
  go_wp2_with fail
  refine (szPath_any _ _ _ _ _ _ _ _ _ (by unfold maxLen; omega) (by omega) (by omega)).mono ?_
  rintro e w1 ⟨rfl, hb1⟩
  have hB1 := hB0.below hb1
  clear hb1 hB0
  have c0 := hB1.p0
  have c1 := hB1.p1
  have c2 := hB1.p2
  have c3 := hB1.p3
  have c4 := hB1.p4
  go_wp2_with fail
  refine (toPath_any _ _ _ _ _ b0 o _ _ _ hl (hsB hB1)).mono ?_
  rintro e w2 ⟨g2, rfl, hg2, hg2', hs2, hb2⟩
  have hB2 := hB1.below hb2
  go_wp2_with fail
  refine (flySpansS_any _ _ _ _ _ g2 0 _ _ _ hl hs2).mono ?_
  rintro e w3 ⟨v3, rfl, ho3, hb3⟩
  have hB3 := hB2.below hb3
  have z2 := hB2.lt
  have z3 := hB3.lt
  have o3 := ho3.lt
  clear c0 c1 c2 c3 c4 hb2 hb3 hs2 hB1 hB2
  have c0 := hB3.p0
  have c1 := hB3.p1
  have c2 := hB3.p2
  have c3 := hB3.p3
  have c4 := hB3.p4
  go_wp2_with fail
  refine (toPath_more _ _ _ _ _ b0 o _ _ _ hl (hsB hB3)).mono ?_
  rintro e w4 ⟨g4, rfl, hg4, hg4', hs4, hb4, hth4⟩
  have hB4 := hB3.below hb4
  have ho4 := owns_below ho3 hb4
  have x4 := BoxP.new w4 q s fr b (.slice (some ⟨g4, 0, none⟩) l.length l.length) 32
  clear c0 c1 c2 c3 c4 hB3 hb4
  go_wp2_with fail
  refine (hI _ _ _ _ _ g4 0 _ _ _ hl (hs4.alloc _)).mono ?_
  rintro e w5 ⟨v5, rfl, ho5, hb5⟩
  have hal : Below w4.heap.size w4 (w4.alloc (.cells #[.int .i64 q, .int .i64 s, .slice (some ⟨g4, 0, none⟩) l.length l.length, .int .i64 fr, .int .i64 b] 32)) := (Below.refl _ _).alloc (Nat.le_refl _) _
  have hb45 : Below w4.heap.size w4 w5 := hal.trans (hb5.mono (by simp))
  have x5 := x4.below hb5
  have hB5 := hB4.below hb45
  have hr3 := owns_below ho4 hb45
  have hth5 : ∀ i, i < l.length → w5.there g4 (i * 7) 7 := fun i hi => there_below (hth4 i hi) hb45 hg4'
  have hs5 := hs4.below hb45 (fun _ => hg4')
  have d5 : ∀ k, v5.ownBlock = some k → w4.heap.size < k := fun k e => by have := (ho5.lt k e).1; simp at this; omega
  have hg5 : g4 < w5.heap.size := Nat.lt_of_lt_of_le hg4' hb45.size
  clear hb5 hb45 hal x4 ho4 hs4 hth4 hB4
  go_wp2_with fail
  refine (eqSpans_same (flyL q s fr b l) w5 hL ho5 hr3).mono ?_
  rintro e w6 ⟨rfl, hb6⟩
  have x6 := x5.below hb6
  have hB6 := hB5.below hb6
  have hr6 := owns_below hr3 hb6
  have ho6 := owns_below ho5 hb6
  have hth6 : ∀ i, i < l.length → w6.there g4 (i * 7) 7 := fun i hi => there_below (hth5 i hi) hb6 hg5
  have hs6 := hs5.below hb6 (fun _ => hg5)
  have hg6 : g4 < w6.heap.size := Nat.lt_of_lt_of_le hg5 hb6.size
  clear hb6 x5 hB5 hr3 ho5 hth5 hs5 hg5
  have c0 := hB6.p0
  have c1 := hB6.p1
  have c2 := hB6.p2
  have c3 := hB6.p3
  have c4 := hB6.p4
  have y0 := x6.p0
  have y1 := x6.p1
  have y2 := x6.p2
  have y3 := x6.p3
  have y4 := x6.p4
  have zc := hB6.lt
  have zy := x6.lt
  have hs6d : StepsAt w6.drew (some ⟨g4, 0, none⟩) g4 0 l := hs6.below ((Below.refl w6.heap.size w6).drew) hs6.lt
  have hsd : StepsAt w6.drew a b0 o l := (hsB hB6).below ((Below.refl w6.heap.size w6).drew) (hsB hB6).lt
  have hg6d : g4 < w6.drew.heap.size := hg6
  go_wp2
  go_region_held3 (fun w' => w'.cell? ⟨w.heap.size, 0, none⟩ = some (.int .i64 q) ∧ w'.cell? ⟨w.heap.size, 1, none⟩ = some (.int .i64 s) ∧ w'.cell? ⟨w.heap.size, 2, none⟩ = some (.slice a l.length cap) ∧ w'.cell? ⟨w.heap.size, 3, none⟩ = some (.int .i64 fr) ∧ w'.cell? ⟨w.heap.size, 4, none⟩ = some (.int .i64 b) ∧
      w'.cell? ⟨w4.heap.size, 0, none⟩ = some (.int .i64 q) ∧ w'.cell? ⟨w4.heap.size, 1, none⟩ = some (.int .i64 s) ∧ w'.cell? ⟨w4.heap.size, 2, none⟩ = some (.slice (some ⟨g4, 0, none⟩) l.length l.length) ∧ w'.cell? ⟨w4.heap.size, 3, none⟩ = some (.int .i64 fr) ∧ w'.cell? ⟨w4.heap.size, 4, none⟩ = some (.int .i64 b))
    (simp [go_sem, *])
    (first
      | (go_at_call 10; refine (toPath_any _ _ _ _ _ b0 o _ _ _ hl hsd).mono ?_; rintro e w7 ⟨g7, rfl, hg7, hg7', hs7, hb7⟩; have n0 : ∀ j, w7.cell? ⟨w.heap.size, j, none⟩ = w6.cell? ⟨w.heap.size, j, none⟩ := fun j => hb7.cell (p := ⟨w.heap.size, j, none⟩) zc; have n1 : ∀ j, w7.cell? ⟨w4.heap.size, j, none⟩ = w6.cell? ⟨w4.heap.size, j, none⟩ := fun j => hb7.cell (p := ⟨w4.heap.size, j, none⟩) zy)
      | (go_at_call 12; refine (eqPath_same _ _ _ _ _ _ g4 0 _ g7 0 _ _ _ hl (hs6d.below hb7 (fun _ => hg6d)) hs7).mono ?_; rintro e w8 ⟨rfl, hb8⟩; have n2 : ∀ j, w8.cell? ⟨w.heap.size, j, none⟩ = w7.cell? ⟨w.heap.size, j, none⟩ := fun j => hb8.cell (p := ⟨w.heap.size, j, none⟩) (Nat.lt_of_lt_of_le zc hb7.size); have n3 : ∀ j, w8.cell? ⟨w4.heap.size, j, none⟩ = w7.cell? ⟨w4.heap.size, j, none⟩ := fun j => hb8.cell (p := ⟨w4.heap.size, j, none⟩) (Nat.lt_of_lt_of_le zy hb7.size)))
  have hb68 : Below w6.heap.size w6 w8 := ((Below.refl w6.heap.size w6).drew).trans (hb7.trans (hb8.mono hb7.size))
  have hB8 := hB6.below hb68
  have x8 := x6.below hb68
  have hr8 := owns_below hr6 hb68
  have ho8 := owns_below ho6 hb68
  have hth8 : ∀ i, i < l.length → w8.there g4 (i * 7) 7 := fun i hi => there_below (hth6 i hi) hb68 hg6
  have hg8 : g4 < w8.heap.size := Nat.lt_of_lt_of_le hg6 hb68.size
  clear c0 c1 c2 c3 c4 y0 y1 y2 y3 y4 n0 n1 n2 n3 hb7 hb8 hs7 hs6d hsd hs6 hb68 hB6 x6 hr6 ho6 hth6 hg6 zc zy hg7 hg7' hg6d
  have y0 := x8.p0
  have y1 := x8.p1
  have y2 := x8.p2
  have y3 := x8.p3
  have y4 := x8.p4
  go_wp2_with fail
  refine (markPath_any _ _ _ _ _ g4 _ l.length _ hl (by omega) hg8 hth8).mono ?_
  rintro e w9 ⟨rfl, hg9⟩
  have z4 : w.heap.size < g4 := by omega
  have hB9 : BoxP w w9 q s fr b (.slice a l.length cap) := hB8.keep ((Below.refl _ _).grown hg9 hB8.lt (fun k e => by cases e; omega))
  have hr9 : w9.ownsRow w2.heap.size 75 2 v3 (flyL q s fr b l).length (spanCells (flyL q s fr b l)) := hr8.kept hg9 (by
    cases h3 : v3.ownBlock with
    | none => exact Or.inl rfl
    | some k => exact Or.inr (fun e => by cases e; have := (o3 g4 h3).2; omega))
  have ho9 : w9.ownsRow (w4.alloc (.cells #[.int .i64 q, .int .i64 s, .slice (some ⟨g4, 0, none⟩) l.length l.length, .int .i64 fr, .int .i64 b] 32)).heap.size 75 2 v5 (flyL q s fr b l).length (spanCells (flyL q s fr b l)) := ho8.kept hg9 (by
    cases h5 : v5.ownBlock with
    | none => exact Or.inl rfl
    | some k => exact Or.inr (fun e => by cases e; have := d5 g4 h5; omega))
  clear y0 y1 y2 y3 y4 x8 hB8 hr8 ho8 hth8 hg8 hg9
  have hk9 : ¬ (1 + ((l.length * 7 : Nat) : Int) < 0) := by omega
  generalize hmk : (1 : Int) + ((l.length * 7 : Nat) : Int) = mk9 at hk9 ⊢
  clear hmk
  go_wp2_with fail
  refine (eqSpans_same (flyL q s fr b l) w9 hL ho9 hr9).mono ?_
  rintro e w10 ⟨rfl, hb10⟩
  have hB10 := hB9.below hb10
  have hr10 := owns_below hr9 hb10
  have ho10 := owns_below ho9 hb10
  clear hb10 hB9 hr9 ho9
  go_wp2_with fail
  refine (markSpans_any 1 w10 hL (by omega) ho10).mono ?_
  rintro e w11 ⟨rfl, ho11, hg11, hz11⟩
  have hB11 : BoxP w w11 q s fr b (.slice a l.length cap) := hB10.keep ((Below.refl _ _).grown hg11 hB10.lt (fun k e => by have := d5 k e; omega))
  have hr11 : w11.ownsRow w2.heap.size 75 2 v3 (flyL q s fr b l).length (spanCells (flyL q s fr b l)) := hr10.kept hg11 (by
    cases h3 : v3.ownBlock with
    | none => exact Or.inl rfl
    | some k => exact Or.inr (fun e => by have := (o3 k h3).2; have := d5 k e.symm; omega))
  clear hg11 hB10 hr10 ho10 hz11
  have hm11 : ¬ (1 + (((flyL q s fr b l).length * 2 : Nat) : Int) < 0) := by omega
  obtain ⟨mk, hmk⟩ : ∃ mk : Int, 1 + (((flyL q s fr b l).length * 2 : Nat) : Int) = mk := ⟨_, rfl⟩
  have HH : ∀ W : World, W.ownsRow (w4.alloc (.cells #[.int .i64 q, .int .i64 s, .slice (some ⟨g4, 0, none⟩) l.length l.length, .int .i64 fr, .int .i64 b] 32)).heap.size 75 2 v5 (flyL q s fr b l).length (markV 1 ((flyL q s fr b l).length * 2)) →
      Calls Try.prog 22 #[v5, .int .i64 1] W fun e w' => e = .returned (.int .i64 mk) ∧ w' = W := fun W hW => by rw [← hmk]; exact heldSpans_any 1 W hL (by omega) hW
  rw [hmk] at hm11 ⊢
  clear hmk
  go_wp2_with fail
  refine (HH w11 ho11).mono ?_
  rintro e w12 ⟨rfl, rfl⟩
  have c0 := hB11.p0
  have c1 := hB11.p1
  have c2 := hB11.p2
  have c3 := hB11.p3
  have c4 := hB11.p4
  go_wp2_with fail
  refine (toPath_any _ _ _ _ _ b0 o _ _ _ hl (hsB hB11)).mono ?_
  rintro e w13 ⟨g13, rfl, hg13, hg13', hs13, hb13⟩
  have hB13 := hB11.below hb13
  have hr13 := owns_below hr11 hb13
  have ho13 := owns_below ho11 hb13
  clear hb13 hB11 hr11 ho11 c0 c1 c2 c3 c4
  go_wp2_with fail
  refine (hI _ _ _ _ _ g13 0 _ _ _ hl hs13).mono ?_
  rintro e w14 ⟨v14, rfl, ho14, hb14⟩
  have hB14 := hB13.below hb14
  have hr14 := owns_below hr13 hb14
  have hm14 := owns_below ho13 hb14
  clear hb14 hB13 hr13 ho13
  go_wp2_with fail
  refine (eqSpans_same (flyL q s fr b l) w14 hL ho14 hr14).mono ?_
  rintro e w15 ⟨rfl, hb15⟩
  have hB15 := hB14.below hb15
  have hm15 := owns_below hm14 hb15
  go_wp2_with fail
  refine (HH w15 hm15).mono ?_
  rintro e w16 ⟨rfl, rfl⟩
  go_wp2
  go_ret
  exact ⟨rfl, hB15.old⟩
end Go.Proofs.Ytndfacmfjilbkah
