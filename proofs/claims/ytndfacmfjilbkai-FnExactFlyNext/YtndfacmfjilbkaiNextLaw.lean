/- The walk of the law on FlyNext, over the contract of the program's FlySpans. -/
import Derived.Test.YtndfacmfjilbkaiNextFly
import Derived.Test.YtndfacmfjilbkaiNextSpec2
import Derived.Test.YtndfacmfjilbkaiCopy2
import Derived.Test.YtndfacmfjilbkaiEq
import Derived.Test.YtndfacmfjilbkaiEqSpan
import Derived.Deep.RegionHeld3
namespace Go.Proofs.Ytndfacmfjilbkai
open Go.RowKit

theorem nextLaw_big1 (q s fr b : Int) (a : Option Addr) (n cap : Nat) (c : Option Addr) (m ccap : Nat) (w : World) (hm : m ≤ maxLen) (hbig : 1048576 < m) :
    Calls Try.prog 3 #[.agg #[.int .i64 q, .int .i64 s, .slice a n cap, .int .i64 fr, .int .i64 b], .slice c m ccap] w fun e w' => e = .returned (.bool true) ∧ Below w.heap.size w w' := by
  unfold maxLen at hm
  go_enter Try.func3, Try.ntmps3
  go_wp2
  go_ret
  exact ⟨rfl, (Below.refl _ _).alloc (Nat.le_refl _) _⟩

theorem nextLaw_big2 (q s fr b : Int) (a : Option Addr) (n cap : Nat) (c : Option Addr) (m ccap : Nat) (w : World) (_hm : m ≤ 1048576) (hn : n ≤ maxLen) (hbig : 1048576 < n) :
    Calls Try.prog 3 #[.agg #[.int .i64 q, .int .i64 s, .slice a n cap, .int .i64 fr, .int .i64 b], .slice c m ccap] w fun e w' => e = .returned (.bool true) ∧ Below w.heap.size w w' := by
  have e1 : leftB 1048576 n = -1 := by unfold leftB; rw [if_pos (by omega)]
  go_enter Try.func3, Try.ntmps3
  go_wp2_with (go_at_call 6; refine (szPath_any _ _ _ _ _ _ _ _ _ hn (by omega) (by omega)).mono ?_; rintro e w1 ⟨rfl, hb1⟩)
  go_ret
  exact ⟨rfl, ((Below.refl _ _).alloc (Nat.le_refl _) _).trans (hb1.mono (by simp))⟩

set_option maxRecDepth 20000 in
set_option maxHeartbeats 4000000 in
theorem nextLaw_any (hI : SpansSaid) (q s fr b : Int) (a : Option Addr) (b0 o cap : Nat) (l : List Stp) (c : Option Addr) (cb co ccap : Nat) (zs : List Int) (w : World) (hl : l.length ≤ 1048576) (hm : zs.length ≤ 1048576) (hs : StepsAt w a b0 o l) (hz : IntsAt w c cb co zs) :
    Calls Try.prog 3 #[.agg #[.int .i64 q, .int .i64 s, .slice a l.length cap, .int .i64 fr, .int .i64 b], .slice c zs.length ccap] w fun e w' => e = .returned (.bool true) ∧ Below w.heap.size w w' := by
  have e1 : 0 ≤ leftB 1048576 l.length := by unfold leftB; rw [if_neg (by omega)]; omega
  go_enter Try.func3, Try.ntmps3
  go_wp2_with fail
  refine (szPath_any _ _ _ _ _ _ _ _ _ (by unfold maxLen; omega) (by omega) (by omega)).mono ?_
  rintro e w1 ⟨rfl, hb1⟩
  have hB1 := (BoxP.new w q s fr b (.slice a l.length cap) 26).below hb1
  clear hb1
  have c0 := hB1.p0
  have c1 := hB1.p1
  have c2 := hB1.p2
  have c3 := hB1.p3
  have c4 := hB1.p4
  go_wp2_with fail
  refine (toPath_any _ _ _ _ _ b0 o _ _ _ hl (hs.below hB1.old hs.lt)).mono ?_
  rintro e w2 ⟨g2, rfl, hg2, hg2', hs2, hb2⟩
  have hB2 := hB1.below hb2
  go_wp2_with fail
  refine (toInts_any _ cb co _ _ _ hm (hz.below hB2.old hz.lt)).mono ?_
  rintro e w3 ⟨g3, rfl, hg3, hg3', hz3, hb3⟩
  have hB3 := hB2.below hb3
  have hs3 := hs2.below hb3 (fun _ => hg2')
  obtain ⟨⟨y0, y1⟩, hy⟩ : ∃ y, goS q s fr b l zs = y := ⟨_, rfl⟩
  obtain ⟨yb, hyb⟩ : ∃ y, goB q s fr b l zs = y := ⟨_, rfl⟩
  have HS := flyNextS_any q s fr b (some ⟨g2, 0, none⟩) g2 0 l.length l (some ⟨g3, 0, none⟩) g3 0 zs.length zs w3 hl hm hs3 hz3
  rw [hy, hyb] at HS
  go_wp2_with fail
  refine HS.mono ?_
  rintro e w4 ⟨rfl, hb4⟩
  have hB4 := (hB3.below hb4).below ((Below.refl w4.heap.size w4).alloc (Nat.le_refl _) (.cells #[.int .i64 y0, .int .i64 y1] 30))
  have sp4 : (w4.alloc (.cells #[.int .i64 y0, .int .i64 y1] 30)).heap[w4.heap.size]? = some (.cells #[.int .i64 y0, .int .i64 y1] 30 (0, 0)) := heap_alloc_new w4 _
  clear c0 c1 c2 c3 c4 hs2 hs3 hz3 hb2 hb3 hb4 hB1 hB2 hB3 HS
  have c0 := hB4.p0
  have c1 := hB4.p1
  have c2 := hB4.p2
  have c3 := hB4.p3
  have c4 := hB4.p4
  go_wp2_with fail
  refine (toPath_any _ _ _ _ _ b0 o _ _ _ hl (hs.below hB4.old hs.lt)).mono ?_
  rintro e w5 ⟨g5, rfl, hg5, hg5', hs5, hb5⟩
  have hB5 := hB4.below hb5
  have sp5 := blk2_kept sp4 hb5
  clear c0 c1 c2 c3 c4 hB4 sp4
  go_wp2_with fail
  refine (toInts_any _ cb co _ _ _ hm ((hz.below hB5.old hz.lt).alloc _)).mono ?_
  rintro e w6 ⟨g6, rfl, hg6, hg6', hz6, hb6⟩
  have hX6 := (BoxP.new w5 q s fr b (.slice (some ⟨g5, 0, none⟩) l.length l.length) 36).below hb6
  have hB6 := hB5.below hX6.old
  have hs6 := hs5.below hX6.old (fun _ => hg5')
  have sp6 := blk2_kept sp5 hX6.old
  clear hb5 hb6 hs5 sp5
  have x0 := hX6.p0
  have x1 := hX6.p1
  have x2 := hX6.p2
  have x3 := hX6.p3
  have x4 := hX6.p4
  have HN := flyNext_any hI q s fr b (some ⟨g5, 0, none⟩) g5 0 l.length l (some ⟨g6, 0, none⟩) g6 0 zs.length zs w6 hl hm hs6 hz6
  rw [hy, hyb] at HN
  go_wp2_with fail
  refine HN.mono ?_
  rintro e w70 ⟨rfl, hb7⟩
  have hal : Below w70.heap.size w70 (w70.alloc (.cells #[.int .i64 y0, .int .i64 y1] 30)) := (Below.refl w70.heap.size w70).alloc (Nat.le_refl _) _
  have hB7 := (hB6.below hb7).below hal
  have hX7 := (hX6.below hb7).below hal
  have hs7 := (hs6.below hb7 (fun h => hs6.lt h)).alloc (.cells #[.int .i64 y0, .int .i64 y1] 30)
  have hz7 := (hz6.below hb7 (fun h => hz6.lt h)).alloc (.cells #[.int .i64 y0, .int .i64 y1] 30)
  have sp7 := blk2_kept (blk2_kept sp6 hb7) hal
  have sq7 : (w70.alloc (.cells #[.int .i64 y0, .int .i64 y1] 30)).heap[w70.heap.size]? = some (.cells #[.int .i64 y0, .int .i64 y1] 30 (0, 0)) := heap_alloc_new w70 _
  obtain ⟨s0, s1, _⟩ := blk2 sp7
  obtain ⟨t0, t1, _⟩ := blk2 sq7
  clear x0 x1 x2 x3 x4 hB6 hX6 hs6 hz6 hb7 hB5 HN sp6 hal
  have nn : (yb != yb) = false := by simp
  go_wp2_with fail
  refine (eqSpan_same y0 y1 _).mono ?_
  rintro e w7 ⟨rfl, hb8⟩
  have hB7 := hB7.below hb8
  have hX7 := hX7.below hb8
  have hs7 := hs7.below hb8 hs7.lt
  have hz7 := hz7.below hb8 hz7.lt
  clear s0 s1 t0 t1 sp7 sq7 hb8
  have c0 := hB7.p0
  have c1 := hB7.p1
  have c2 := hB7.p2
  have c3 := hB7.p3
  have c4 := hB7.p4
  have x0 := hX7.p0
  have x1 := hX7.p1
  have x2 := hX7.p2
  have x3 := hX7.p3
  have x4 := hX7.p4
  have zb := hB7.lt
  have zx := hX7.lt
  have hs7d : StepsAt w7.drew (some ⟨g5, 0, none⟩) g5 0 l := hs7.below ((Below.refl w7.heap.size w7).drew) hs7.lt
  have HO : Hid (Below w.heap.size w w7) := hB7.old
  go_wp2
  go_region_held3 (fun w' => w'.cell? ⟨w.heap.size, 0, none⟩ = some (.int .i64 q) ∧ w'.cell? ⟨w.heap.size, 1, none⟩ = some (.int .i64 s) ∧ w'.cell? ⟨w.heap.size, 2, none⟩ = some (.slice a l.length cap) ∧ w'.cell? ⟨w.heap.size, 3, none⟩ = some (.int .i64 fr) ∧ w'.cell? ⟨w.heap.size, 4, none⟩ = some (.int .i64 b) ∧
      w'.cell? ⟨w5.heap.size, 0, none⟩ = some (.int .i64 q) ∧ w'.cell? ⟨w5.heap.size, 1, none⟩ = some (.int .i64 s) ∧ w'.cell? ⟨w5.heap.size, 2, none⟩ = some (.slice (some ⟨g5, 0, none⟩) l.length l.length) ∧ w'.cell? ⟨w5.heap.size, 3, none⟩ = some (.int .i64 fr) ∧ w'.cell? ⟨w5.heap.size, 4, none⟩ = some (.int .i64 b))
    (simp [go_sem, *])
    (first
      | (go_at_call 8; refine (toPath_any _ _ _ _ _ b0 o _ _ _ hl (hs.below HO.out.drew hs.lt)).mono ?_; rintro e w8 ⟨g8, rfl, hg8, hg8', hs8, hb8⟩; have y0 : ∀ j, w8.cell? ⟨w.heap.size, j, none⟩ = w7.cell? ⟨w.heap.size, j, none⟩ := fun j => hb8.cell (p := ⟨w.heap.size, j, none⟩) zb; have y1 : ∀ j, w8.cell? ⟨w5.heap.size, j, none⟩ = w7.cell? ⟨w5.heap.size, j, none⟩ := fun j => hb8.cell (p := ⟨w5.heap.size, j, none⟩) zx)
      | (go_at_call 12; refine (eqPath_same _ _ _ _ _ _ g5 0 _ g8 0 _ _ _ hl (hs7d.below hb8 hs7d.lt) hs8).mono ?_; rintro e w9 ⟨rfl, hb9⟩; have y2 : ∀ j, w9.cell? ⟨w.heap.size, j, none⟩ = w8.cell? ⟨w.heap.size, j, none⟩ := fun j => hb9.cell (p := ⟨w.heap.size, j, none⟩) (Nat.lt_of_lt_of_le zb hb8.size); have y3 : ∀ j, w9.cell? ⟨w5.heap.size, j, none⟩ = w8.cell? ⟨w5.heap.size, j, none⟩ := fun j => hb9.cell (p := ⟨w5.heap.size, j, none⟩) (Nat.lt_of_lt_of_le zx hb8.size)))
  have hb79 : Below w7.heap.size w7 w9 := (Below.refl w7.heap.size w7).drew.trans ((show Below w7.heap.size w7.drew w8 from hb8).trans (hb9.mono hb8.size))
  have hO9 : Below w.heap.size w w9 := HO.out.trans (hb79.mono (Nat.le_of_lt zb))
  have hz9 := hz7.below hb79 (fun h => hz7.lt h)
  clear y0 y1 y2 y3
  go_wp2_with fail
  refine (toInts_any _ cb co _ _ _ hm (hz.below hO9 hz.lt)).mono ?_
  rintro e w10 ⟨g10, rfl, hg10, hg10', hz10, hb10⟩
  go_wp2_with fail
  refine (eqInts_same _ _ g6 0 _ g10 0 _ _ _ hm (hz9.below hb10 hz9.lt) hz10).mono ?_
  rintro e w11 ⟨rfl, hb11⟩
  go_wp2
  go_ret
  exact ⟨rfl, hO9.trans ((hb10.mono hO9.size).trans (hb11.mono (Nat.le_trans hO9.size hb10.size)))⟩
end Go.Proofs.Ytndfacmfjilbkai
