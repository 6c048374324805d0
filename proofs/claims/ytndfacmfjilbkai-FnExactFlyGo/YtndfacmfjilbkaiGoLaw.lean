/- The walk of the law on FlyGo, over the contracts of the program's FlySpans and FlyPathOk. -/
import Derived.Test.YtndfacmfjilbkaiGoImpl
import Derived.Test.YtndfacmfjilbkaiGoSpec
import Derived.Test.YtndfacmfjilbkaiIntMark
import Derived.Test.YtndfacmfjilbkaiSpanMark2
import Derived.Test.YtndfacmfjilbkaiEq
import Derived.Deep.RegionHeld3
namespace Go.Proofs.Ytndfacmfjilbkai
open Go.RowKit

theorem goLaw_big1 (q s fr b : Int) (a : Option Addr) (n cap : Nat) (c : Option Addr) (m ccap : Nat) (d : Option Addr) (k dcap : Nat) (w : World) (hm : m ≤ maxLen) (hbig : 1048576 < m) :
    Calls Try.prog 4 #[.agg #[.int .i64 q, .int .i64 s, .slice a n cap, .int .i64 fr, .int .i64 b], .slice c m ccap, .slice d k dcap] w fun e w' => e = .returned (.bool true) ∧ Below w.heap.size w w' := by
  unfold maxLen at hm
  go_enter Try.func4, Try.ntmps4
  go_wp2
  go_ret
  exact ⟨rfl, (Below.refl _ _).alloc (Nat.le_refl _) _⟩

theorem goLaw_big2 (q s fr b : Int) (a : Option Addr) (n cap : Nat) (c : Option Addr) (m ccap : Nat) (d : Option Addr) (k dcap : Nat) (w : World) (_hm : m ≤ 1048576) (hk : k ≤ maxLen) (hbig : 1048576 < k) :
    Calls Try.prog 4 #[.agg #[.int .i64 q, .int .i64 s, .slice a n cap, .int .i64 fr, .int .i64 b], .slice c m ccap, .slice d k dcap] w fun e w' => e = .returned (.bool true) ∧ Below w.heap.size w w' := by
  unfold maxLen at hk
  go_enter Try.func4, Try.ntmps4
  go_wp2
  go_ret
  exact ⟨rfl, (Below.refl _ _).alloc (Nat.le_refl _) _⟩

theorem goLaw_big3 (q s fr b : Int) (a : Option Addr) (n cap : Nat) (c : Option Addr) (m ccap : Nat) (d : Option Addr) (k dcap : Nat) (w : World) (_hm : m ≤ 1048576) (_hk : k ≤ 1048576) (hn : n ≤ maxLen) (hbig : 1048576 < n) :
    Calls Try.prog 4 #[.agg #[.int .i64 q, .int .i64 s, .slice a n cap, .int .i64 fr, .int .i64 b], .slice c m ccap, .slice d k dcap] w fun e w' => e = .returned (.bool true) ∧ Below w.heap.size w w' := by
  have e1 : leftB 1048576 n = -1 := by unfold leftB; rw [if_pos (by omega)]
  go_enter Try.func4, Try.ntmps4
  go_wp2_with (go_at_call 6; refine (szPath_any _ _ _ _ _ _ _ _ _ hn (by omega) (by omega)).mono ?_; rintro e w1 ⟨rfl, hb1⟩)
  go_ret
  exact ⟨rfl, ((Below.refl _ _).alloc (Nat.le_refl _) _).trans (hb1.mono (by simp))⟩

theorem flownL_len (q s fr b : Int) (l : List Stp) (zs asks : List Int) : (flownL q s fr b l zs asks).length ≤ 1048576 := by
  unfold flownL
  cases h : flownB q s fr b l zs asks with
  | false => simp
  | true =>
    unfold flownB lawB at h
    simp only [Bool.and_eq_true, decide_eq_true_eq] at h
    have := path_len h.1.1
    simp only [if_true]
    omega
theorem eqRows_same {v v' : Value} {base base' : Nat} (zs : List Int) (w : World) (hl : zs.length ≤ 1048576) (h : w.ownsRow base 3 1 v zs.length (intCells zs)) (h' : w.ownsRow base' 3 1 v' zs.length (intCells zs)) :
    Calls Try.prog 13 #[v, v'] w fun e w' => e = .returned (.bool true) ∧ Below w.heap.size w w' := by
  obtain ⟨a, g, cap, rfl, h1, _⟩ := ints_owned h
  obtain ⟨a', g', cap', rfl, h2, _⟩ := ints_owned h'
  exact eqInts_same a a' g 0 cap g' 0 cap' zs w hl h1 h2
theorem there_owned {w : World} {base n : Nat} {v : Value} {xs : List Value} (h : w.ownsRow base 3 1 v n xs) : ∃ a g cap, v = .slice a n cap ∧ (n ≠ 0 → a = some ⟨g, 0, none⟩ ∧ w.there g 0 n) ∧ (n ≠ 0 → v.ownBlock = some g) := by
  rcases h.2 with ⟨rfl, rfl⟩ | ⟨g, cap, cur, rfl, _, hh, h4, _, hs, _⟩
  · exact ⟨none, 0, 0, rfl, fun h => absurd rfl h, fun h => absurd rfl h⟩
  · exact ⟨some ⟨g, 0, none⟩, g, cap, rfl, fun _ => ⟨rfl, there_of_block hh _ _ (by omega)⟩, fun _ => rfl⟩
theorem there_grown {w w' : World} {g h o n : Nat} (ht : w.there g o n) (hg : w.grownBy w' (some h)) (hlt : g < w.heap.size) (hne : g ≠ h) : w'.there g o n := fun j hj => by
  have hb := hg.block g hlt (fun e => hne (by cases e; rfl))
  exact ⟨by rw [World.cell?_of_block (a := ⟨g, o + j, none⟩) hb]; exact (ht j hj).1, by rw [World.frozen?_of_block (a := ⟨g, o + j, none⟩) hb]; exact (ht j hj).2⟩

set_option maxRecDepth 20000 in
set_option maxHeartbeats 8000000 in
theorem goLaw_any (hI : SpansSaid) (hF : FollowSaid) (q s fr b : Int) (a : Option Addr) (b0 o cap : Nat) (l : List Stp) (c : Option Addr) (cb co ccap : Nat) (zs : List Int) (d : Option Addr) (db do_ dcap : Nat) (asks : List Int) (w : World) (hl : l.length ≤ 1048576) (hm : zs.length ≤ 1048576) (hk : asks.length ≤ 1048576) (hs : StepsAt w a b0 o l) (hz : IntsAt w c cb co zs) (ha : IntsAt w d db do_ asks) :
    Calls Try.prog 4 #[.agg #[.int .i64 q, .int .i64 s, .slice a l.length cap, .int .i64 fr, .int .i64 b], .slice c zs.length ccap, .slice d asks.length dcap] w fun e w' => e = .returned (.bool true) ∧ Below w.heap.size w w' := by
  have e1 : 0 ≤ leftB 1048576 l.length := by unfold leftB; rw [if_neg (by omega)]; omega
  have hL := flownL_len q s fr b l zs asks
  have hsB : ∀ {wr : World}, BoxP w wr q s fr b (.slice a l.length cap) → StepsAt wr a b0 o l := fun h => hs.below h.old hs.lt
  have hzB : ∀ {wr : World}, BoxP w wr q s fr b (.slice a l.length cap) → IntsAt wr c cb co zs := fun h => hz.below h.old hz.lt
  have haB : ∀ {wr : World}, BoxP w wr q s fr b (.slice a l.length cap) → IntsAt wr d db do_ asks := fun h => ha.below h.old ha.lt
  go_enter Try.func4, Try.ntmps4
  go_wp2_with fail
  refine (szPath_any _ _ _ _ _ _ _ _ _ (by unfold maxLen; omega) (by omega) (by omega)).mono ?_
  rintro e w1 ⟨rfl, hb1⟩
  have hB1 := (BoxP.new w q s fr b (.slice a l.length cap) 26).below hb1
  clear hb1
  have c0 := hB1.p0
  have c1 := hB1.p1
  have c2 := hB1.p2
  have c3 := hB1.p3
  have c4 := hB1.p4
  go_wp2_with fail
  refine (toPath_any _ _ _ _ _ b0 o _ _ _ hl (hsB hB1)).mono ?_
  rintro e w2 ⟨g2, rfl, hg2, hg2', hs2, hb2⟩
  have hB2 := hB1.below hb2
  go_wp2_with fail
  refine (toInts_any _ cb co _ _ _ hm (hzB hB2)).mono ?_
  rintro e w3 ⟨g3, rfl, hg3, hg3', hz3, hb3⟩
  have hB3 := hB2.below hb3
  have hs3 := hs2.below hb3 (fun _ => hg2')
  go_wp2_with fail
  refine (toInts_any _ db do_ _ _ _ hk (haB hB3)).mono ?_
  rintro e w4 ⟨g4, rfl, hg4, hg4', ha4, hb4⟩
  have hB4 := hB3.below hb4
  have hs4 := hs3.below hb4 hs3.lt
  have hz4 := hz3.below hb4 hz3.lt
  obtain ⟨yb, hyb⟩ : ∃ y, flownB q s fr b l zs asks = y := ⟨_, rfl⟩
  obtain ⟨F, hFd⟩ : ∃ y, flownL q s fr b l zs asks = y := ⟨_, rfl⟩
  have HS := flyGoS_any q s fr b (some ⟨g2, 0, none⟩) g2 0 l.length l g3 0 zs.length zs (some ⟨g4, 0, none⟩) g4 0 asks.length asks w4 hl hm hk hs4 hz4 ha4
  rw [hyb, hFd] at HS
  rw [hFd] at hL
  go_wp2_with fail
  refine HS.mono ?_
  rintro e w5 ⟨v5, rfl, ho5, hb5⟩
  have hB5 := hB4.below hb5
  have o5 := ho5.lt
  have z4 := hB4.lt
  have z5 := hB5.lt
  clear c0 c1 c2 c3 c4 hs2 hs3 hs4 hz3 hz4 ha4 hb2 hb3 hb4 hb5 hB1 hB2 hB3 hB4 HS
  have c0 := hB5.p0
  have c1 := hB5.p1
  have c2 := hB5.p2
  have c3 := hB5.p3
  have c4 := hB5.p4
  obtain ⟨v5a, v5g, v5c, rfl, _, _⟩ := ints_owned ho5
  go_wp2_with fail
  refine (toPath_more _ _ _ _ _ b0 o _ _ _ hl (hsB hB5)).mono ?_
  rintro e w6 ⟨g6, rfl, hg6, hg6', hs6, hb6, hth6⟩
  have hB6 := hB5.below hb6
  have ho6 := owns_below ho5 hb6
  have x6 := BoxP.new w6 q s fr b (.slice (some ⟨g6, 0, none⟩) l.length l.length) 36
  have hal6 : Below w6.heap.size w6 (w6.alloc (.cells #[.int .i64 q, .int .i64 s, .slice (some ⟨g6, 0, none⟩) l.length l.length, .int .i64 fr, .int .i64 b] 36)) := (Below.refl _ _).alloc (Nat.le_refl _) _
  clear c0 c1 c2 c3 c4 hB5 hb6 ho5
  go_wp2_with fail
  refine (toInts_more _ cb co _ _ _ hm (hzB (hB6.below hal6))).mono ?_
  rintro e w7 ⟨g7, rfl, hg7, hg7', hz7, hb7, ht7⟩
  have x7 := x6.below hb7
  have hB7 := hB6.below x7.old
  have hs7 := hs6.below x7.old (fun _ => hg6')
  have ho7 := owns_below ho6 x7.old
  have hth7 : ∀ i, i < l.length → w7.there g6 (i * 7) 7 := fun i hi => there_below (hth6 i hi) x7.old hg6'
  simp only [World.size_alloc] at hg7
  clear hb7 x6 hal6 hB6 hs6 ho6 hth6
  go_wp2_with fail
  refine (toInts_more _ db do_ _ _ _ hk (haB hB7)).mono ?_
  rintro e w8 ⟨g8, rfl, hg8, hg8', ha8, hb8, ht8⟩
  have x8 := x7.below hb8
  have hB8 := hB7.below hb8
  have hs8 := hs7.below hb8 hs7.lt
  have hz8 := hz7.below hb8 hz7.lt
  have ho8 := owns_below ho7 hb8
  have hth8 : ∀ i, i < l.length → w8.there g6 (i * 7) 7 := fun i hi => there_below (hth7 i hi) hb8 (by have := x7.lt; omega)
  have ht8' := there_below ht7 hb8 hg7'
  have z7 := x7.lt
  clear hb8 x7 hB7 hs7 hz7 ho7 hth7 ht7
  have x80 := x8.p0
  have x81 := x8.p1
  have x82 := x8.p2
  have x83 := x8.p3
  have x84 := x8.p4
  have HN := flyGo_any hI hF q s fr b (some ⟨g6, 0, none⟩) g6 0 l.length l g7 0 zs.length zs (some ⟨g8, 0, none⟩) g8 0 asks.length asks w8 hl hm hk (Nat.le_refl _) hs8 hz8 ha8
  rw [hyb, hFd] at HN
  go_wp2_with fail
  refine HN.mono ?_
  rintro e w9 ⟨v9, rfl, ho9, hb9⟩
  have x9 := x8.below hb9
  have hB9 := hB8.below hb9
  have hs9 := hs8.below hb9 hs8.lt
  have hz9 := hz8.below hb9 hz8.lt
  have ha9 := ha8.below hb9 ha8.lt
  have hr9 := owns_below ho8 hb9
  have hth9 : ∀ i, i < l.length → w9.there g6 (i * 7) 7 := fun i hi => there_below (hth8 i hi) hb9 (by have := x8.lt; omega)
  have ht9 := there_below ht8' hb9 (show g7 < w8.heap.size by omega)
  have hu9 := there_below ht8 hb9 hg8'
  have o9 : ∀ k, v9.ownBlock = some k → w8.heap.size ≤ k := fun k e => (ho9.lt k e).1
  obtain ⟨v9a, v9g, v9c, rfl, _, _⟩ := ints_owned ho9
  have z8 := x8.lt
  have z9 := hb9.size
  clear hb9 x8 hB8 hs8 hz8 ha8 ho8 hth8 ht8' ht8 x80 x81 x82 x83 x84 HN
  have nn : (yb != yb) = false := by simp
  go_wp2_with fail
  refine (eqRows_same F w9 hL ho9 hr9).mono ?_
  rintro e w10 ⟨rfl, hb10⟩
  have x10 := x9.below hb10
  have hB10 := hB9.below hb10
  have hs10 := hs9.below hb10 hs9.lt
  have hz10 := hz9.below hb10 hz9.lt
  have ha10 := ha9.below hb10 ha9.lt
  have hr10 := owns_below hr9 hb10
  have ho10 := owns_below ho9 hb10
  have lt6 : g6 < w9.heap.size := by omega
  have hth10 : ∀ i, i < l.length → w10.there g6 (i * 7) 7 := fun i hi => there_below (hth9 i hi) hb10 lt6
  have ht10 := there_below ht9 hb10 (show g7 < w9.heap.size by omega)
  have hu10 := there_below hu9 hb10 (show g8 < w9.heap.size by omega)
  have z10 := hb10.size
  clear hb10 x9 hB9 hs9 hz9 ha9 hr9 ho9 hth9 ht9 hu9
  have c0 := hB10.p0
  have c1 := hB10.p1
  have c2 := hB10.p2
  have c3 := hB10.p3
  have c4 := hB10.p4
  have y0 := x10.p0
  have y1 := x10.p1
  have y2 := x10.p2
  have y3 := x10.p3
  have y4 := x10.p4
  have zc := hB10.lt
  have zy := x10.lt
  have hs10d : StepsAt w10.drew (some ⟨g6, 0, none⟩) g6 0 l := hs10.below ((Below.refl w10.heap.size w10).drew) hs10.lt
  have hsd : StepsAt w10.drew a b0 o l := (hsB hB10).below ((Below.refl w10.heap.size w10).drew) (hsB hB10).lt
  go_wp2
  go_region_held3 (fun w' => w'.cell? ⟨w.heap.size, 0, none⟩ = some (.int .i64 q) ∧ w'.cell? ⟨w.heap.size, 1, none⟩ = some (.int .i64 s) ∧ w'.cell? ⟨w.heap.size, 2, none⟩ = some (.slice a l.length cap) ∧ w'.cell? ⟨w.heap.size, 3, none⟩ = some (.int .i64 fr) ∧ w'.cell? ⟨w.heap.size, 4, none⟩ = some (.int .i64 b) ∧
      w'.cell? ⟨w6.heap.size, 0, none⟩ = some (.int .i64 q) ∧ w'.cell? ⟨w6.heap.size, 1, none⟩ = some (.int .i64 s) ∧ w'.cell? ⟨w6.heap.size, 2, none⟩ = some (.slice (some ⟨g6, 0, none⟩) l.length l.length) ∧ w'.cell? ⟨w6.heap.size, 3, none⟩ = some (.int .i64 fr) ∧ w'.cell? ⟨w6.heap.size, 4, none⟩ = some (.int .i64 b))
    (simp [go_sem, *])
    (first
      | (go_at_call 8; refine (toPath_any _ _ _ _ _ b0 o _ _ _ hl hsd).mono ?_; rintro e w11 ⟨g11, rfl, hg11, hg11', hs11, hb11⟩; have n0 : ∀ j, w11.cell? ⟨w.heap.size, j, none⟩ = w10.cell? ⟨w.heap.size, j, none⟩ := fun j => hb11.cell (p := ⟨w.heap.size, j, none⟩) zc; have n1 : ∀ j, w11.cell? ⟨w6.heap.size, j, none⟩ = w10.cell? ⟨w6.heap.size, j, none⟩ := fun j => hb11.cell (p := ⟨w6.heap.size, j, none⟩) zy)
      | (go_at_call 12; refine (eqPath_same _ _ _ _ _ _ g6 0 _ g11 0 _ _ _ hl (hs10d.below hb11 hs10d.lt) hs11).mono ?_; rintro e w12 ⟨rfl, hb12⟩; have n2 : ∀ j, w12.cell? ⟨w.heap.size, j, none⟩ = w11.cell? ⟨w.heap.size, j, none⟩ := fun j => hb12.cell (p := ⟨w.heap.size, j, none⟩) (Nat.lt_of_lt_of_le zc hb11.size); have n3 : ∀ j, w12.cell? ⟨w6.heap.size, j, none⟩ = w11.cell? ⟨w6.heap.size, j, none⟩ := fun j => hb12.cell (p := ⟨w6.heap.size, j, none⟩) (Nat.lt_of_lt_of_le zy hb11.size)))
  have hb13 : Below w10.heap.size w10 w12 := ((Below.refl w10.heap.size w10).drew).trans (hb11.trans (hb12.mono hb11.size))
  have x12 := x10.below hb13
  have hB12 := hB10.below hb13
  have hz12 := hz10.below hb13 hz10.lt
  have ha12 := ha10.below hb13 ha10.lt
  have hr12 := owns_below hr10 hb13
  have ho12 := owns_below ho10 hb13
  have hth12 : ∀ i, i < l.length → w12.there g6 (i * 7) 7 := fun i hi => there_below (hth10 i hi) hb13 (by omega)
  have ht12 := there_below ht10 hb13 (show g7 < w10.heap.size by omega)
  have hu12 := there_below hu10 hb13 (show g8 < w10.heap.size by omega)
  have z12 := hb13.size
  clear c0 c1 c2 c3 c4 y0 y1 y2 y3 y4 n0 n1 n2 n3 hb11 hb12 hs11 hs10d hsd hs10 hb13 hB10 x10 hr10 ho10 hth10 ht10 hu10 hz10 ha10 zc zy hg11 hg11'
  go_wp2_with fail
  refine (toInts_any _ cb co _ _ _ hm (hzB hB12)).mono ?_
  rintro e w13 ⟨g13, rfl, hg13, hg13', hz13, hb13⟩
  go_wp2_with fail
  refine (eqInts_same _ _ g7 0 _ g13 0 _ _ _ hm (hz12.below hb13 hz12.lt) hz13).mono ?_
  rintro e w14 ⟨rfl, hb14⟩
  have hb14' : Below w12.heap.size w12 w14 := hb13.trans (hb14.mono hb13.size)
  have hB14 := hB12.below hb14'
  have ha14 := ha12.below hb14' ha12.lt
  go_wp2_with fail
  refine (toInts_any _ db do_ _ _ _ hk (haB hB14)).mono ?_
  rintro e w15 ⟨g15, rfl, hg15, hg15', ha15, hb15⟩
  go_wp2_with fail
  refine (eqInts_same _ _ g8 0 _ g15 0 _ _ _ hk (ha14.below hb15 ha14.lt) ha15).mono ?_
  rintro e w16 ⟨rfl, hb16⟩
  have hb17 : Below w12.heap.size w12 w16 := hb14'.trans ((hb15.trans (hb16.mono hb15.size)).mono hb14'.size)
  have x16 := x12.below hb17
  have hB16 := hB12.below hb17
  have hr16 := owns_below hr12 hb17
  have ho16 := owns_below ho12 hb17
  have hth16 : ∀ i, i < l.length → w16.there g6 (i * 7) 7 := fun i hi => there_below (hth12 i hi) hb17 (by omega)
  have ht16 := there_below ht12 hb17 (show g7 < w12.heap.size by omega)
  have hu16 := there_below hu12 hb17 (show g8 < w12.heap.size by omega)
  have z16 := hb17.size
  clear hb13 hb14 hb15 hb16 hb14' hb17 hB14 ha14 hz13 ha15 x12 hB12 hz12 ha12 hr12 ho12 hth12 ht12 hu12 hg13 hg13' hg15 hg15'
  have y0 := x16.p0
  have y1 := x16.p1
  have y2 := x16.p2
  have y3 := x16.p3
  have y4 := x16.p4
  go_wp2_with fail
  refine (markPath_any _ _ _ _ _ g6 _ l.length _ hl (by omega) (by omega) hth16).mono ?_
  rintro e w17 ⟨rfl, hg17⟩
  have z6w : w.heap.size < g6 := by omega
  have hB17 : BoxP w w17 q s fr b (.slice a l.length cap) := hB16.keep ((Below.refl _ _).grown hg17 hB16.lt (fun k e => by cases e; omega))
  have hr17 := owns_at hr16 (fun k e => hg17.block k (owns_lt hr16 k e) (fun e2 => by have := (o5 k e).2; cases e2; omega))
  have ho17 := owns_at ho16 (fun k e => hg17.block k (owns_lt ho16 k e) (fun e2 => by have := o9 k e; cases e2; omega))
  have ht17 := there_grown ht16 hg17 (show g7 < w16.heap.size by omega) (by omega)
  have hu17 := there_grown hu16 hg17 (show g8 < w16.heap.size by omega) (by omega)
  have z17 := hg17.size
  clear y0 y1 y2 y3 y4 x16 hB16 hr16 ho16 hth16 ht16 hu16 hg17
  have K1 : (0 : Int) ≤ 1 + ((l.length * 7 : Nat) : Int) ∧ 1 + ((l.length * 7 : Nat) : Int) ≤ 10000000 := by omega
  generalize (1 : Int) + ((l.length * 7 : Nat) : Int) = m1 at K1 ⊢
  go_wp2_with fail
  refine (markInts_any (some ⟨g7, 0, none⟩) g7 zs.length zs.length m1 w17 hm (by omega) (fun _ => ⟨rfl, ht17⟩)).mono ?_
  rintro e w18 ⟨rfl, hg18, _, _, _⟩
  have hB18 : BoxP w w18 q s fr b (.slice a l.length cap) := hB17.keep ((Below.refl _ _).grown hg18 hB17.lt (fun k e => by cases e; omega))
  have hr18 := owns_at hr17 (fun k e => hg18.block k (owns_lt hr17 k e) (fun e2 => by have := (o5 k e).2; cases e2; omega))
  have ho18 := owns_at ho17 (fun k e => hg18.block k (owns_lt ho17 k e) (fun e2 => by have := o9 k e; cases e2; omega))
  have hu18 := there_grown hu17 hg18 (show g8 < w17.heap.size by omega) (by omega)
  have z18 := hg18.size
  clear hB17 hr17 ho17 hu17 ht17 hg18
  have K2 : (0 : Int) ≤ m1 + (zs.length : Int) ∧ m1 + (zs.length : Int) ≤ 20000000 := by omega
  generalize m1 + (zs.length : Int) = m2 at K2 ⊢
  go_wp2_with fail
  refine (markInts_any (some ⟨g8, 0, none⟩) g8 asks.length asks.length m2 w18 hk (by omega) (fun _ => ⟨rfl, hu18⟩)).mono ?_
  rintro e w19 ⟨rfl, hg19, _, _, _⟩
  have hB19 : BoxP w w19 q s fr b (.slice a l.length cap) := hB18.keep ((Below.refl _ _).grown hg19 hB18.lt (fun k e => by cases e; omega))
  have hr19 := owns_at hr18 (fun k e => hg19.block k (owns_lt hr18 k e) (fun e2 => by have := (o5 k e).2; cases e2; omega))
  have ho19 := owns_at ho18 (fun k e => hg19.block k (owns_lt ho18 k e) (fun e2 => by have := o9 k e; cases e2; omega))
  have z19 := hg19.size
  clear hB18 hr18 ho18 hu18 hg19
  have K3 : (0 : Int) ≤ m2 + (asks.length : Int) := by omega
  generalize m2 + (asks.length : Int) = m3 at K3 ⊢
  have k3 : ¬ (m3 < 0) := by omega
  go_wp2_with fail
  refine (eqRows_same F w19 hL ho19 hr19).mono ?_
  rintro e w20 ⟨rfl, hb20⟩
  have hB20 := hB19.below hb20
  have hr20 := owns_below hr19 hb20
  have ho20 := owns_below ho19 hb20
  obtain ⟨_, g9, _, e9, hth20, hob⟩ := there_owned ho20
  cases e9
  have hne9 : F.length ≠ 0 → w8.heap.size ≤ g9 := fun h => o9 g9 (hob h)
  clear hb20 hB19 hr19 ho19
  go_wp2_with fail
  refine (markInts_any v9a g9 F.length v9c 1 w20 hL (by omega) hth20).mono ?_
  rintro e w21 ⟨rfl, hg21, _, hc21, hs21⟩
  have hB21 : BoxP w w21 q s fr b (.slice a l.length cap) := by
    by_cases h0 : F.length = 0
    · rw [hs21 h0]; exact hB20
    · exact hB20.keep ((Below.refl _ _).grown hg21 hB20.lt (fun k e => by have := hne9 h0; cases e; omega))
  have hr21 : w21.ownsRow w4.heap.size 3 1 (.slice v5a F.length v5c) F.length (intCells F) := by
    by_cases h0 : F.length = 0
    · rw [hs21 h0]; exact hr20
    · exact owns_at hr20 (fun k e => hg21.block k (owns_lt hr20 k e) (fun e2 => by have := (o5 k e).2; have := hne9 h0; cases e2; omega))
  clear hB20 hr20 ho20 hg21 hs21
  have hm21 : ¬ (1 + (F.length : Int) < 0) := by omega
  obtain ⟨mk, hmk⟩ : ∃ mk : Int, 1 + (F.length : Int) = mk := ⟨_, rfl⟩
  have HH : ∀ W : World, (∀ i, i < F.length → W.cell? ⟨g9, i, none⟩ = some (.int .i64 (1 + (i : Int)))) → Calls Try.prog 18 #[.slice v9a F.length v9c, .int .i64 1] W fun e w' => e = .returned (.int .i64 mk) ∧ w' = W := fun W hW => by
    rw [← hmk]; exact heldInts_any v9a g9 F.length v9c 1 W hL (by omega) (fun h => (hth20 h).1) hW
  rw [hmk] at hm21 ⊢
  clear hmk
  go_wp2_with fail
  refine (HH w21 hc21).mono ?_
  rintro e w22 ⟨rfl, rfl⟩
  have c0 := hB21.p0
  have c1 := hB21.p1
  have c2 := hB21.p2
  have c3 := hB21.p3
  have c4 := hB21.p4
  have hlt9 : F.length ≠ 0 → g9 < w22.heap.size := fun h => by
    have := hc21 0 (by omega)
    exact World.block_lt_of_cell? w22 ⟨g9, 0, none⟩ this
  go_wp2_with fail
  refine (toPath_any _ _ _ _ _ b0 o _ _ _ hl (hsB hB21)).mono ?_
  rintro e w23 ⟨g23, rfl, hg23, hg23', hs23, hb23⟩
  have hB23 := hB21.below hb23
  go_wp2_with fail
  refine (toInts_any _ cb co _ _ _ hm (hzB hB23)).mono ?_
  rintro e w24 ⟨g24, rfl, hg24, hg24', hz24, hb24⟩
  have hB24 := hB23.below hb24
  go_wp2_with fail
  refine (toInts_any _ db do_ _ _ _ hk (haB hB24)).mono ?_
  rintro e w25 ⟨g25, rfl, hg25, hg25', ha25, hb25⟩
  have hb26 : Below w22.heap.size w22 w25 := hb23.trans ((hb24.trans (hb25.mono hb24.size)).mono hb23.size)
  have hs25 := (hs23.below hb24 hs23.lt).below hb25 (fun h => by have := (hs23.below hb24 hs23.lt).lt h; omega)
  have hz25 := hz24.below hb25 hz24.lt
  have HN := flyGo_any hI hF q s fr b (some ⟨g23, 0, none⟩) g23 0 l.length l g24 0 zs.length zs (some ⟨g25, 0, none⟩) g25 0 asks.length asks w25 hl hm hk (Nat.le_refl _) hs25 hz25 ha25
  rw [hyb, hFd] at HN
  have hB25 := hB21.below hb26
  have hr25 := owns_below hr21 hb26
  clear c0 c1 c2 c3 c4 hB21 hB23 hB24 hr21
  go_wp2_with fail
  refine HN.mono ?_
  rintro e w26 ⟨v26, rfl, ho26, hb27⟩
  obtain ⟨v26a, v26g, v26c, rfl, _, _⟩ := ints_owned ho26
  have hr26 := owns_below hr25 hb27
  have hB26 := hB25.below hb27
  clear HN hs25 hz25 ha25 hz24 hs23
  go_wp2_with fail
  refine (eqRows_same F w26 hL ho26 hr26).mono ?_
  rintro e w27 ⟨rfl, hb28⟩
  have hb29 : Below w22.heap.size w22 w27 := hb26.trans ((hb27.trans (hb28.mono hb27.size)).mono hb26.size)
  have hB27 := hB26.below hb28
  have hc27 : ∀ i, i < F.length → w27.cell? ⟨g9, i, none⟩ = some (.int .i64 (1 + (i : Int))) := fun i hi => (hb29.cell (p := ⟨g9, i, none⟩) (hlt9 (by omega))).trans (hc21 i hi)
  go_wp2_with fail
  refine (HH w27 hc27).mono ?_
  rintro e w28 ⟨rfl, rfl⟩
  go_wp2
  go_ret
  exact ⟨rfl, hB27.old⟩
end Go.Proofs.Ytndfacmfjilbkai
