/- Joined texts: FlyRestI, SeenImpl, FlySeenI, StepsTail, TailS, RowPut0, AfterS, RsData, RestSpec, SeenSpec, WfPath, OwnAt, TubeI, RoomKey, BoxImpl, BoxImpl2, SmallI, BoxOwn, RsLaw. -/
import Derived.Deep.RegionHeld3
import Derived.Deep.AppendLies
import Derived.BigQuiet
import Derived.Maps.AppendAt
import Derived.WalkKit
import Derived.WalkSpells
import Derived.Deep.MidRow
import Derived.Deep.DeepCutAuto
import Derived.Test.YtijcdikekgmfoaaGreatDoorRows
import Derived.Test.YtijcdikekgmfoaaGreatDoorRestImpl
import Derived.Test.YtijcdikekgmfoaaGreatDoorSomeLeft
import Derived.Test.YtijcdikekgmfoaaGreatDoorHands
import Derived.Test.YtijcdikekgmfoaaGreatDoorData
import Derived.Test.YtijcdikekgmfoaaGreatDoorPathKit
import Derived.Test.YtijcdikekgmfoaaGreatDoorRestData
import Derived.Test.YtijcdikekgmfoaaGreatDoorGrownMore
import Derived.Test.YtijcdikekgmfoaaGreatDoorSpanSpec
import Derived.Test.YtijcdikekgmfoaaGreatDoorSpanLeaf
import Derived.Test.YtijcdikekgmfoaaGreatDoorLast
import Derived.Test.YtijcdikekgmfoaaGreatDoorNextSpec
import Derived.Test.YtijcdikekgmfoaaGreatDoorJ05
import Derived.Test.YtijcdikekgmfoaaGreatDoorPathAns
import Derived.Test.YtijcdikekgmfoaaGreatDoorJ04
import Derived.Test.YtijcdikekgmfoaaGreatDoorSpanSaid
import Derived.Test.YtijcdikekgmfoaaGreatDoorStepInfo
import Derived.Test.YtijcdikekgmfoaaGreatDoorBoxP
import Derived.Test.YtijcdikekgmfoaaGreatDoorOwnMore
import Derived.Test.YtijcdikekgmfoaaGreatDoorImplPath
namespace Go.Proofs.YtijcdikekgmfoaaGreatDoor
open Go.RowKit

set_option maxHeartbeats 2000000 in
set_option maxRecDepth 20000 in
theorem flyRestI_any (hI : SpansSaid) (q s fr b st en nw : Int) (a : Option Addr) (b0 o cap : Nat) (l : List Stp) (p : Addr) (w : World) (hl : l.length ≤ 1048576) (hs : StepsAt w a b0 o l) (hcap : l.length ≤ cap) (hg : Sent w p) :
    Calls Tryz.prog 18 #[.agg #[.int .i64 q, .int .i64 s, .slice a l.length cap, .int .i64 fr, .int .i64 b], .int .i64 st, .int .i64 en, .int .i64 nw] w (Gives (restA q s fr b l st en nw) w) := by
  have P0 := PathAt.new (w.alloc (.cells #[.int .i64 q, .int .i64 s, .slice a l.length cap, .int .i64 fr, .int .i64 b] 27)) 0 0 0 0 (.slice none 0 0)
  rw [World.size_alloc] at P0
  have B0 : Below w.heap.size w ((w.alloc (.cells #[.int .i64 q, .int .i64 s, .slice a l.length cap, .int .i64 fr, .int .i64 b] 27)).alloc (.cells #[.int .i64 0, .int .i64 0, .slice none 0 0, .int .i64 0, .int .i64 0] 27)) := ((Below.refl _ _).alloc (Nat.le_refl _) _).alloc (by simp) _
  have HC : ∀ W : World, StepsAt W a b0 o l → Calls Tryz.prog 64 #[.agg #[.int .i64 q, .int .i64 s, .slice a l.length cap, .int .i64 fr, .int .i64 b], .int .i64 st, .int .i64 en, .int .i64 nw] W (Hands (restA q s fr b l st en nw) W) := fun W hW => restOf_any hI q s fr b st en nw a b0 o cap l W hl hW hcap
  generalize restA q s fr b l st en nw = A at HC ⊢
  go_enter Tryz.func18, Tryz.ntmps18
  go_wp2_with fail
  refine (HC _ ((hs.alloc _).alloc _)).mono ?_
  rintro e w1 ⟨q5, s5, fr5, b5, a5, n5, c5, err5, rfl, hG, hb1⟩
  have P1 := P0.keep hb1 P0.lt
  have B1 := B0.trans (hb1.mono B0.size)
  have hg1 := hg.below B1
  have z1 := hb1.size
  simp only [World.size_alloc] at z1
  clear hb1 P0 B0
  rcases hG with ⟨ho, rfl, rfl, rfl, rfl, rfl, rfl, hr⟩ | ⟨hA, rfl, rfl, rfl, rfl, rfl, rfl, rfl, str, rfl⟩
  · simp only [World.size_alloc] at hr
    go_wp2_with fail
    refine (someLeft_yes _ _ _ _ _ _ _ p _ hg1).mono ?_
    rintro e w2 ⟨rfl, hb2⟩
    have P2 := P1.keep hb2 P1.lt
    have B2 := B1.trans (hb2.mono B1.size)
    have hr2 := owns_below hr hb2
    obtain ⟨⟨f0, f1, f2, f3, f4⟩, ff⟩ := P2.cells
    clear hb2 P1 B1
    clear hr HC
    go_wp2
    refine bodyPost_ret (v := .tuple #[.agg #[.int .i64 A.q, .int .i64 A.s, .slice a5 A.l.length c5, .int .i64 A.fr, .int .i64 A.b], .bool true]) (by simp [results, Tryz.results18, go_sem, *]) rfl ⟨_, by rw [ho], ?_, ?_⟩
    · have hh : ∀ k, (Value.slice a5 A.l.length c5).ownBlock = some k → k ≠ w.heap.size + 1 := fun k e => by have := owns_base hr2 k e; omega
      iterate 5 (refine owns_set ?_ hh _ _)
      exact ⟨hr2.1, hr2.2.imp id fun ⟨g, cap, cur, h1, h2, h3⟩ => ⟨g, cap, cur, h1, by omega, h3⟩⟩
    · iterate 5 (refine Below.setCell ?_ (by show _ ≤ w.heap.size + 1; omega) _)
      exact B2
  · go_wp2_with fail
    refine (someLeft_no _ _ _ _ _ _ _ str p _ hg1).mono ?_
    rintro e w2 ⟨rfl, hb2⟩
    have P2 := P1.keep hb2 P1.lt
    have B2 := B1.trans (hb2.mono B1.size)
    obtain ⟨⟨f0, f1, f2, f3, f4⟩, ff⟩ := P2.cells
    clear hb2 P1 B1
    subst hA
    go_wp2
    refine bodyPost_ret (v := .tuple #[.agg #[.int .i64 0, .int .i64 0, .slice none 0 0, .int .i64 0, .int .i64 0], .bool false]) (by simp [results, Tryz.results18, go_sem, *]) rfl (Gives.none rfl ?_)
    iterate 5 (refine Below.setCell ?_ (by show _ ≤ w.heap.size + 1; omega) _)
    exact B2
end Go.Proofs.YtijcdikekgmfoaaGreatDoor

namespace Go.Proofs.YtijcdikekgmfoaaGreatDoor
open Go.RowKit

set_option maxRecDepth 20000 in
set_option maxHeartbeats 4000000 in
theorem seenOf_any (hI : SpansSaid) (q s fr b st nw : Int) (a : Option Addr) (b0 o cap : Nat) (l : List Stp) (w : World) (hl : l.length ≤ 1048576) (hs : StepsAt w a b0 o l) (hcap : l.length ≤ cap) :
    Calls Tryz.prog 65 #[.agg #[.int .i64 q, .int .i64 s, .slice a l.length cap, .int .i64 fr, .int .i64 b], .int .i64 st, .int .i64 nw] w (Hands (seenA q s fr b l st nw) w) := by
  have Q0 := PathAt.new w q s fr b (.slice a l.length cap)
  have P0 := PathAt.new (w.alloc (.cells #[.int .i64 q, .int .i64 s, .slice a l.length cap, .int .i64 fr, .int .i64 b] 27)) 0 0 0 0 (.slice none 0 0)
  rw [World.size_alloc] at P0
  have Q1 := Q0.keep ((Below.refl _ _).alloc (Nat.le_refl _) (.cells #[.int .i64 0, .int .i64 0, .slice none 0 0, .int .i64 0, .int .i64 0] 27)) Q0.lt
  have B0 : Below w.heap.size w ((w.alloc (.cells #[.int .i64 q, .int .i64 s, .slice a l.length cap, .int .i64 fr, .int .i64 b] 27)).alloc (.cells #[.int .i64 0, .int .i64 0, .slice none 0 0, .int .i64 0, .int .i64 0] 27)) := ((Below.refl _ _).alloc (Nat.le_refl _) _).alloc (by simp) _
  have NO : ∀ (W : World) (str : ByteArray), seenA q s fr b l st nw = .no → Below w.heap.size w W → Hands (seenA q s fr b l st nw) w (.returned (.tuple #[.agg #[.int .i64 0, .int .i64 0, .slice none 0 0, .int .i64 0, .int .i64 0], nothingV str])) W := fun W str h hb =>
    ⟨0, 0, 0, 0, none, 0, 0, nothingV str, rfl, Or.inr ⟨h, rfl, rfl, rfl, rfl, rfl, rfl, rfl, str, rfl⟩, hb⟩
  go_enter Tryz.func65, Tryz.ntmps65
  cases hin : inStepB q s fr b l st nw with
  | false =>
    have HA : Hid (seenA q s fr b l st nw = .no) := by show _ = _; unfold seenA; rw [hin]; rfl
    go_wp2_with fail
    refine (canBe_no q s fr b st nw a b0 o cap l _ hl ((hs.alloc _).alloc _) hin).mono ?_
    rintro e w1 ⟨str, rfl, hb1⟩
    have P1 := P0.keep hb1 P0.lt
    have B1 := B0.trans (hb1.mono B0.size)
    obtain ⟨⟨f0, f1, f2, f3, f4⟩, ff⟩ := P1.cells
    clear hb1
    go_wp2
    refine bodyPost_ret (v := .tuple #[.agg #[.int .i64 0, .int .i64 0, .slice none 0 0, .int .i64 0, .int .i64 0], nothingV str]) (by simp [results, Tryz.results65, go_sem, *]) rfl (NO _ _ HA.out ?_)
    iterate 5 (refine Below.setCell ?_ (by show _ ≤ w.heap.size + 1; omega) _)
    exact B1
  | true =>
    have hin' := hin
    unfold inStepB at hin'
    simp only [Bool.and_eq_true] at hin'
    obtain ⟨⟨hp, hst⟩, hnw⟩ := hin'
    have hst' := (inB_iff _ _ _).1 hst
    have hnw' := (inB_iff _ _ _).1 hnw
    have hlen := path_len hp
    obtain ⟨k, rfl⟩ : ∃ k : Nat, st = (k : Int) := ⟨st.toNat, by omega⟩
    have hk : k < l.length := by omega
    have hfl : flyB q s fr b l = spanB q s fr b l := by unfold flyB; rw [hp]; rfl
    have hfL : flyL q s fr b l = spansL q s fr b l := by unfold flyL; rw [hp]; rfl
    have hIs : ∀ W : World, StepsAt W a b0 o l → Calls Tryz.prog 10 #[.agg #[.int .i64 q, .int .i64 s, .slice a l.length cap, .int .i64 fr, .int .i64 b]] W fun e w' => ∃ v, e = .returned (.tuple #[v, .bool (spanB q s fr b l)]) ∧ w'.ownsRow W.heap.size 56 2 v (spansL q s fr b l).length (spanCells (spansL q s fr b l)) ∧ Below W.heap.size W w' := fun W hW => by
      have := hI q s fr b a b0 o cap l W hl hW
      rw [hfl, hfL] at this
      exact this
    go_wp2_with fail
    refine (canBe_yes q s fr b k nw a b0 o cap l _ hl ((hs.alloc _).alloc _) hin).mono ?_
    rintro e w1 ⟨rfl, hb1⟩
    have P1 := P0.keep hb1 P0.lt
    have Q2 := Q1.keep hb1 Q1.lt
    have B1 := B0.trans (hb1.mono B0.size)
    have z1 := P1.lt
    obtain ⟨⟨c0, c1, c2, c3, c4⟩, _⟩ := Q2.cells
    clear hb1 P0 Q0 Q1 B0 hin hst hnw
    go_wp2_with fail
    refine (hIs _ (hs.below B1 hs.lt)).mono ?_
    rintro e w2 ⟨v2, rfl, ho2, hb2⟩
    have P3 := P1.keep hb2 P1.lt
    have Q4 := Q2.keep hb2 Q2.lt
    have B3 := B1.trans (hb2.mono B1.size)
    clear hb2 P1 Q2 B1 hIs c0 c1 c2 c3 c4
    obtain ⟨⟨f0, f1, f2, f3, f4⟩, ff⟩ := P3.cells
    cases hsb : spanB q s fr b l with
    | false =>
      have HA : Hid (seenA q s fr b l k nw = .no) := by show _ = _; unfold seenA; rw [hsb, Bool.and_false]; rfl
      go_wp2
      refine bodyPost_ret (v := .tuple #[.agg #[.int .i64 0, .int .i64 0, .slice none 0 0, .int .i64 0, .int .i64 0], nothingV ⟨#[116, 104, 101, 114, 101, 32, 119, 97, 115, 32, 110, 111, 32, 102, 108, 105, 103, 104, 116, 32, 97, 108, 111, 110, 103, 32, 105, 116]⟩]) (by simp [results, Tryz.results65, go_sem, *]) rfl (NO _ _ HA.out ?_)
      iterate 5 (refine Below.setCell ?_ (by show _ ≤ w.heap.size + 1; omega) _)
      exact B3
    | true =>
      obtain ⟨x, hx'⟩ : ∃ x, spanOf q s fr b l k = x := ⟨_, rfl⟩
      have hti : inStepB q s fr b l k nw = true := by unfold inStepB; rw [hp, (inB_iff _ _ _).2 hst', (inB_iff _ _ _).2 hnw']; rfl
      have HA : Hid (seenA q s fr b l k nw = canA q s (leftFr fr l k nw) b (leftL l k x.1 (mnB x.2 nw) nw)) := by
        show _ = _; unfold seenA; rw [hti, hsb, Int.toNat_natCast, hx']; rfl
      have hsl : (spansL q s fr b l).length = l.length + 1 := by unfold spansL; rw [if_pos hsb]; simp
      have hgx : (spansL q s fr b l)[k]? = some x := by unfold spansL; rw [if_pos hsb, List.getElem?_map, List.getElem?_range (by omega), ← hx']; rfl
      have hlo := span_lo hp hsb (Nat.le_of_lt hk)
      rw [hx'] at hlo
      have hy : mnB x.2 nw ≤ 10000 := by have := mnB_le x.2 nw; omega
      have hm0 : mxB x.1 0 = x.1 := mx_lo hlo
      rw [hsl] at ho2
      obtain ⟨g3, k3, rfl, _, hg3⟩ := owns_some ho2 (by omega)
      have r0 := (ho2.cellAt (k * 2) (by omega)).trans (spanCells_two hgx).1
      have r1 := (ho2.cellAt (k * 2 + 1) (by omega)).trans (spanCells_two hgx).2
      have k0 : (0 : Int) ≤ (k : Int) := by omega
      have k1 : (k : Int) < ((l.length + 1 : Nat) : Int) := by omega
      have k2 : (k : Int) < (l.length : Int) + 1 := by omega
      obtain ⟨⟨c0, c1, c2, c3, c4⟩, _⟩ := Q4.cells
      have hsd : StepsAt w2.drew a b0 o l := hs.below B3.drew hs.lt
      have zX : w.heap.size < w2.heap.size := Q4.lt
      have zZ : w.heap.size + 1 < w2.heap.size := P3.lt
      have HN : Hid (0 ≤ nw ∧ nw ≤ 10000) := hnw'
      have HP : Hid (pathB q s fr b l = true) := hp
      have MT : ∀ W : World, Calls Tryz.prog 97 #[.agg #[.int .i64 x.1, .int .i64 x.2], .agg #[.int .i64 0, .int .i64 nw]] W fun e w' => e = .returned (.agg #[.int .i64 x.1, .int .i64 (mnB x.2 nw)]) ∧ Below W.heap.size W w' := fun W => by have := meet_any x.1 x.2 0 nw W; rw [hm0] at this; exact this
      clear hnw' hst' hp NO ho2 hgx hsl hm0
      go_wp2
      go_region_held3 (fun w' => w'.cell? ⟨w.heap.size, 0, none⟩ = some (.int .i64 q) ∧ w'.cell? ⟨w.heap.size, 1, none⟩ = some (.int .i64 s) ∧ w'.cell? ⟨w.heap.size, 2, none⟩ = some (.slice a l.length cap) ∧ w'.cell? ⟨w.heap.size, 3, none⟩ = some (.int .i64 fr) ∧ w'.cell? ⟨w.heap.size, 4, none⟩ = some (.int .i64 b) ∧ w'.cell? ⟨g3, k * 2, none⟩ = some (.int .i64 x.1) ∧ w'.cell? ⟨g3, k * 2 + 1, none⟩ = some (.int .i64 x.2))
        (simp [go_sem, *])
        (first
          | (go_at_call 97; refine (MT _).mono ?_; rintro e w4 ⟨rfl, hb4⟩; have n2 : ∀ j, w4.cell? ⟨w.heap.size, j, none⟩ = w2.cell? ⟨w.heap.size, j, none⟩ := fun j => hb4.cell (p := ⟨w.heap.size, j, none⟩) zX; have n3 : ∀ j, w4.cell? ⟨g3, j, none⟩ = w2.cell? ⟨g3, j, none⟩ := fun j => hb4.cell (p := ⟨g3, j, none⟩) hg3)
          | (go_at_call 107; refine (left_any hI q s fr b x.1 (mnB x.2 nw) nw k a b0 o cap l w4 (hsd.below hb4 hsd.lt) hcap HP.out hk hlo hy HN.out).mono ?_; intro e w5 hL; obtain ⟨q5, s5, fr5, b5, a5, n5, c5, err5, rfl, hG, hb5⟩ := hL.hands; clear hL; have n4 : ∀ j, w5.cell? ⟨w.heap.size, j, none⟩ = w4.cell? ⟨w.heap.size, j, none⟩ := (fun j => hb5.cell (p := ⟨w.heap.size, j, none⟩) (Nat.lt_of_lt_of_le zX hb4.size)); have n5' : ∀ j, w5.cell? ⟨g3, j, none⟩ = w4.cell? ⟨g3, j, none⟩ := (fun j => hb5.cell (p := ⟨g3, j, none⟩) (Nat.lt_of_lt_of_le hg3 hb4.size)); have B5 : Below w2.heap.size w2 w5 := ((Below.refl w2.heap.size w2).drew).trans (hb4.trans (hb5.mono hb4.size)); have P5 := P3.keep B5 P3.lt; have P5c := P5.cells; have f0' := P5c.1.1; have f1' := P5c.1.2.1; have f2' := P5c.1.2.2.1; have f3' := P5c.1.2.2.2.1; have f4' := P5c.1.2.2.2.2; have ff' := P5c.2))
      have B6 := B3.trans (B5.mono B3.size)
      have zs4 := hb4.size
      clear n2 n3 n4 n5' r0 r1 c0 c1 c2 c3 c4 hb4 hb5 hsd f0 f1 f2 f3 f4 ff B5 P3 Q4 P5c MT
      go_wp2
      refine bodyPost_ret (v := .tuple #[.agg #[.int .i64 q5, .int .i64 s5, .slice a5 n5 c5, .int .i64 fr5, .int .i64 b5], err5]) (by simp [results, Tryz.results65, go_sem, *]) rfl ⟨q5, s5, fr5, b5, a5, n5, c5, err5, rfl, ?_, ?_⟩
      · rw [HA.out]
        refine LG.base (base := w4.heap.size) ?_ (by simp at zs4; omega)
        iterate 5 (refine LG.set ?_ (by simp at zs4; omega) _ _)
        exact hG
      · iterate 5 (refine Below.setCell ?_ (by show _ ≤ w.heap.size + 1; omega) _)
        exact B6
end Go.Proofs.YtijcdikekgmfoaaGreatDoor

namespace Go.Proofs.YtijcdikekgmfoaaGreatDoor
open Go.RowKit

set_option maxHeartbeats 2000000 in
set_option maxRecDepth 20000 in
theorem flySeenI_any (hI : SpansSaid) (q s fr b st nw : Int) (a : Option Addr) (b0 o cap : Nat) (l : List Stp) (p : Addr) (w : World) (hl : l.length ≤ 1048576) (hs : StepsAt w a b0 o l) (hcap : l.length ≤ cap) (hg : Sent w p) :
    Calls Tryz.prog 19 #[.agg #[.int .i64 q, .int .i64 s, .slice a l.length cap, .int .i64 fr, .int .i64 b], .int .i64 st, .int .i64 nw] w (Gives (seenA q s fr b l st nw) w) := by
  have P0 := PathAt.new (w.alloc (.cells #[.int .i64 q, .int .i64 s, .slice a l.length cap, .int .i64 fr, .int .i64 b] 27)) 0 0 0 0 (.slice none 0 0)
  rw [World.size_alloc] at P0
  have B0 : Below w.heap.size w ((w.alloc (.cells #[.int .i64 q, .int .i64 s, .slice a l.length cap, .int .i64 fr, .int .i64 b] 27)).alloc (.cells #[.int .i64 0, .int .i64 0, .slice none 0 0, .int .i64 0, .int .i64 0] 27)) := ((Below.refl _ _).alloc (Nat.le_refl _) _).alloc (by simp) _
  have HC : ∀ W : World, StepsAt W a b0 o l → Calls Tryz.prog 65 #[.agg #[.int .i64 q, .int .i64 s, .slice a l.length cap, .int .i64 fr, .int .i64 b], .int .i64 st, .int .i64 nw] W (Hands (seenA q s fr b l st nw) W) := fun W hW => seenOf_any hI q s fr b st nw a b0 o cap l W hl hW hcap
  generalize seenA q s fr b l st nw = A at HC ⊢
  go_enter Tryz.func19, Tryz.ntmps19
  go_wp2_with fail
  refine (HC _ ((hs.alloc _).alloc _)).mono ?_
  rintro e w1 ⟨q5, s5, fr5, b5, a5, n5, c5, err5, rfl, hG, hb1⟩
  have P1 := P0.keep hb1 P0.lt
  have B1 := B0.trans (hb1.mono B0.size)
  have hg1 := hg.below B1
  have z1 := hb1.size
  simp only [World.size_alloc] at z1
  clear hb1 P0 B0
  rcases hG with ⟨ho, rfl, rfl, rfl, rfl, rfl, rfl, hr⟩ | ⟨hA, rfl, rfl, rfl, rfl, rfl, rfl, rfl, str, rfl⟩
  · simp only [World.size_alloc] at hr
    go_wp2_with fail
    refine (someLeft_yes _ _ _ _ _ _ _ p _ hg1).mono ?_
    rintro e w2 ⟨rfl, hb2⟩
    have P2 := P1.keep hb2 P1.lt
    have B2 := B1.trans (hb2.mono B1.size)
    have hr2 := owns_below hr hb2
    obtain ⟨⟨f0, f1, f2, f3, f4⟩, ff⟩ := P2.cells
    clear hb2 P1 B1
    clear hr HC
    go_wp2
    refine bodyPost_ret (v := .tuple #[.agg #[.int .i64 A.q, .int .i64 A.s, .slice a5 A.l.length c5, .int .i64 A.fr, .int .i64 A.b], .bool true]) (by simp [results, Tryz.results19, go_sem, *]) rfl ⟨_, by rw [ho], ?_, ?_⟩
    · have hh : ∀ k, (Value.slice a5 A.l.length c5).ownBlock = some k → k ≠ w.heap.size + 1 := fun k e => by have := owns_base hr2 k e; omega
      iterate 5 (refine owns_set ?_ hh _ _)
      exact ⟨hr2.1, hr2.2.imp id fun ⟨g, cap, cur, h1, h2, h3⟩ => ⟨g, cap, cur, h1, by omega, h3⟩⟩
    · iterate 5 (refine Below.setCell ?_ (by show _ ≤ w.heap.size + 1; omega) _)
      exact B2
  · go_wp2_with fail
    refine (someLeft_no _ _ _ _ _ _ _ str p _ hg1).mono ?_
    rintro e w2 ⟨rfl, hb2⟩
    have P2 := P1.keep hb2 P1.lt
    have B2 := B1.trans (hb2.mono B1.size)
    obtain ⟨⟨f0, f1, f2, f3, f4⟩, ff⟩ := P2.cells
    clear hb2 P1 B1
    subst hA
    go_wp2
    refine bodyPost_ret (v := .tuple #[.agg #[.int .i64 0, .int .i64 0, .slice none 0 0, .int .i64 0, .int .i64 0], .bool false]) (by simp [results, Tryz.results19, go_sem, *]) rfl (Gives.none rfl ?_)
    iterate 5 (refine Below.setCell ?_ (by show _ ≤ w.heap.size + 1; omega) _)
    exact B2
end Go.Proofs.YtijcdikekgmfoaaGreatDoor

namespace Go.Proofs.YtijcdikekgmfoaaGreatDoor
open Go.RowKit

/-- The steps from one on lie where the later part of the row lies. -/
theorem StepsAt.tail0 {w : World} {a : Option Addr} {b o : Nat} {l : List Stp} (h : StepsAt w a b o l) (k : Nat) : StepsAt w (some ⟨b, o + k * 7, none⟩) b (o + k * 7) (l.drop k) where
  here _ := rfl
  lt hl := h.lt (by intro e; subst e; simp at hl)
  cell i s hi j u hu := by
    rw [List.getElem?_drop] at hi
    have := h.cell (k + i) s hi j u hu
    rw [show o + k * 7 + i * 7 + j = o + (k + i) * 7 + j by omega]
    exact this

end Go.Proofs.YtijcdikekgmfoaaGreatDoor

namespace Go.Proofs.YtijcdikekgmfoaaGreatDoor
open Go.RowKit

set_option maxRecDepth 20000 in
set_option maxHeartbeats 4000000 in
theorem tailS_any (q s fr b : Int) (k : Nat) (a : Option Addr) (b0 o cap : Nat) (l : List Stp) (w : World) (hl : l.length ≤ 1048576) (hs : StepsAt w a b0 o l) (hcap : l.length ≤ cap) (hk : k < l.length) :
    Calls Tryz.prog 68 #[.agg #[.int .i64 q, .int .i64 s, .slice a l.length cap, .int .i64 fr, .int .i64 b], .int .i64 (k : Int)] w
      fun e w' => ∃ g gc, e = .returned (.agg #[.int .i64 q, .int .i64 s, .slice (some ⟨g, 0, none⟩) (l.length - k) gc, .int .i64 fr, .int .i64 b]) ∧
        w'.ownsRow w.heap.size 44 7 (.slice (some ⟨g, 0, none⟩) (l.length - k) gc) (l.length - k) (stepCells (l.drop k)) ∧ Below w.heap.size w w' := by
  obtain ⟨i0, hi, hz0, hz1, hz2⟩ := info_parts step_info
  have hne : l ≠ [] := by intro e; subst e; simp at hk
  obtain rfl := hs.here hne
  have k0 : (0 : Int) ≤ (k : Int) := by omega
  have k1 : (k : Int) < (l.length : Int) := by omega
  have k2 : (l.length : Int) ≤ (cap : Int) := by omega
  have k3 : (k : Int) ≤ (l.length : Int) := by omega
  have hck : ¬ cap = k := by omega
  obtain ⟨W1, hW1⟩ : ∃ W1, (w.alloc (.cells #[.int .i64 q, .int .i64 s, .slice (some ⟨b0, o, none⟩) l.length cap, .int .i64 fr, .int .i64 b] 27)).alloc (.cells #[.int .i64 0, .int .i64 0, .slice none 0 0, .int .i64 0, .int .i64 0] 27) = W1 := ⟨_, rfl⟩
  have hz1' : W1.heap.size = w.heap.size + 1 + 1 := by rw [← hW1]; simp
  have X1 : PathAt W1 w.heap.size q s fr b (.slice (some ⟨b0, o, none⟩) l.length cap) := by
    rw [← hW1]
    exact (PathAt.new w q s fr b _).keep ((Below.refl _ _).alloc (Nat.le_refl _) _) (PathAt.new w q s fr b _).lt
  have Z1 : PathAt W1 (w.heap.size + 1) 0 0 0 0 (.slice none 0 0) := by
    have := PathAt.new (w.alloc (.cells #[.int .i64 q, .int .i64 s, .slice (some ⟨b0, o, none⟩) l.length cap, .int .i64 fr, .int .i64 b] 27)) 0 0 0 0 (.slice none 0 0)
    rw [World.size_alloc, hW1] at this
    exact this
  have B1 : Below w.heap.size w W1 := by
    rw [← hW1]
    exact ((Below.refl _ _).alloc (Nat.le_refl _) _).alloc (by simp) _
  have hE : (W1.alloc (.cells #[] 44)).ownsRow W1.heap.size 44 7 (.slice (some ⟨W1.heap.size, 0, none⟩) 0 0) 0 [] := owns_empty (Nat.le_refl _)
  rw [hz1'] at hE
  have hs0 := (hs.below B1 hs.lt).alloc (.cells #[] 44)
  have hs1 : StepsAt (W1.alloc (.cells #[] 44)).drew (some ⟨b0, o, none⟩) b0 o l := hs0.below (Below.refl (W1.alloc (.cells #[] 44)).heap.size _).drew hs0.lt
  have hnew := steps_news (hs1.tail0 k)
  have hnl : (stepCells (l.drop k)).length = (l.length - k) * 7 := by rw [stepCells_length, List.length_drop]
  have KEEP : ∀ w4 : World, (W1.alloc (.cells #[] 44)).drew.grownBy w4 (Value.slice (some ⟨w.heap.size + 1 + 1, 0, none⟩) 0 0).ownBlock → PathAt w4 w.heap.size q s fr b (.slice (some ⟨b0, o, none⟩) l.length cap) ∧ PathAt w4 (w.heap.size + 1) 0 0 0 0 (.slice none 0 0) ∧ Below w.heap.size w w4 := fun w4 hg => by
    have al : Below W1.heap.size W1 (W1.alloc (.cells #[] 44)).drew := ((Below.refl _ _).alloc (Nat.le_refl _) _).drew
    refine ⟨(X1.keep al X1.lt).grown hg (fun e => ?_), (Z1.keep al Z1.lt).grown hg (fun e => ?_), (B1.trans (al.mono B1.size)).grown hg ?_ (fun j e => ?_)⟩
    · simp [Value.ownBlock] at e <;> omega
    · simp [Value.ownBlock] at e <;> omega
    · simp [World.drew]; omega
    · simp [Value.ownBlock] at e <;> omega
  obtain ⟨⟨x0, x1, x2, x3, x4⟩, _⟩ := X1.cells
  obtain ⟨⟨y0, y1, y2, y3, y4⟩, yf⟩ := Z1.cells
  go_enter Tryz.func68, Tryz.ntmps68
  go_wp2_with fail
  clear hW1
  go_region_held3 (fun w' => w'.cell? ⟨w.heap.size, 0, none⟩ = some (.int .i64 q) ∧ w'.cell? ⟨w.heap.size, 1, none⟩ = some (.int .i64 s) ∧ w'.cell? ⟨w.heap.size, 2, none⟩ = some (.slice (some ⟨b0, o, none⟩) l.length cap) ∧ w'.cell? ⟨w.heap.size, 3, none⟩ = some (.int .i64 fr) ∧ w'.cell? ⟨w.heap.size, 4, none⟩ = some (.int .i64 b))
    (first | (simp [go_sem, *]; done) | (simp [go_sem, World.cell?_alloc_lt, *]; done))
    ((refine step_append_lies _ (by rfl) _ _ _ (by rfl) (w.heap.size + 1 + 1) 44 i0 _ 7 56 Tryz.underlying25 hi hz0 hz1 hz2 rfl (by decide) (.slice (some ⟨w.heap.size + 1 + 1, 0, none⟩) 0 0) 0 [] (by rfl) hE.drew ⟨b0, o + k * 7, none⟩ (l.length - k) (cap - k) (stepCells (l.drop k)) (by rfl) hnl hnew (stepCells_one _) (by omega) (by unfold maxLen; omega) (by omega) (by simp; omega) (w.heap.size + 1 + 1 + 1) (by simp; omega) ?_; intro g gc w4 ho4 hg4 hat4 hlt4; obtain ⟨X4, Z4, B4⟩ := KEEP w4 hg4; have X4c := X4.cells; have Z4c := Z4.cells; have p0 := X4c.1.1; have p1 := X4c.1.2.1; have p2 := X4c.1.2.2.1; have p3 := X4c.1.2.2.2.1; have p4 := X4c.1.2.2.2.2; have r0 := Z4c.1.1; have r1 := Z4c.1.2.1; have r2 := Z4c.1.2.2.1; have r3 := Z4c.1.2.2.2.1; have r4 := Z4c.1.2.2.2.2; have rf := Z4c.2))
  clear X4 Z4 X4c Z4c p0 p1 p2 p3 p4 x0 x1 x2 x3 x4 y0 y1 y2 y3 y4 yf KEEP hnew hs0 hs1 hg4 hE X1 Z1
  simp only [Nat.zero_add, List.nil_append] at ho4
  go_wp2
  refine bodyPost_ret (v := .agg #[.int .i64 q, .int .i64 s, .slice (some ⟨g, 0, none⟩) (l.length - k) gc, .int .i64 fr, .int .i64 b]) (by simp [results, Tryz.results68, go_sem, *]) rfl ⟨g, gc, rfl, ?_, ?_⟩
  · have hh : ∀ j, (Value.slice (some ⟨g, 0, none⟩) (l.length - k) gc).ownBlock = some j → j ≠ w.heap.size + 1 := fun j e => by have := owns_base ho4 j e; omega
    iterate 5 (refine owns_set ?_ hh _ _)
    exact ⟨ho4.1, ho4.2.imp id fun ⟨g, cap, cur, h1, h2, h3⟩ => ⟨g, cap, cur, h1, by omega, h3⟩⟩
  · iterate 5 (refine Below.setCell ?_ (by show _ ≤ w.heap.size + 1; omega) _)
    exact B4
end Go.Proofs.YtijcdikekgmfoaaGreatDoor

namespace Go.Proofs.YtijcdikekgmfoaaGreatDoor
open Go.RowKit

/-- One number of one step is written. -/
theorem row_put {w : World} {base g cap n : Nat} {l : List Stp} (h : w.ownsRow base 44 7 (.slice (some ⟨g, 0, none⟩) n cap) n (stepCells l)) {i j : Nat} {t t' : Stp} {u : Value} (ht : l[i]? = some t) (hj : j < 7) (he : t'.cells = t.cells.set j u) :
    (w.setCell ⟨g, i * 7 + j, none⟩ u).ownsRow base 44 7 (.slice (some ⟨g, 0, none⟩) n cap) n (stepCells (l.set i t')) := by
  have hi : i < l.length := (List.getElem?_eq_some_iff.1 ht).1
  have hn : l.length * 7 = n * 7 := by rw [← stepCells_length]; exact h.1
  rw [← stepCells_put l i j t t' u ht hj he]
  exact owns_put h (by omega) u
theorem row_put_set {w : World} {base g cap n : Nat} {l : List Stp} {i j : Nat} {t t' : Stp} {u : Value} (h : w.ownsRow base 44 7 (.slice (some ⟨g, 0, none⟩) n cap) n (stepCells (l.set i t))) (hi : i < l.length) (hj : j < 7) (he : t'.cells = t.cells.set j u) :
    (w.setCell ⟨g, i * 7 + j, none⟩ u).ownsRow base 44 7 (.slice (some ⟨g, 0, none⟩) n cap) n (stepCells (l.set i t')) := by
  have h1 := row_put h (j := j) (t := t) (t' := t') (u := u) (by rw [List.getElem?_set_self hi]) hj he
  rw [List.set_set] at h1
  exact h1
/-- All of one step is written. -/
theorem row_put7 {w : World} {base g cap n : Nat} {l : List Stp} (h : w.ownsRow base 44 7 (.slice (some ⟨g, 0, none⟩) n cap) n (stepCells l)) {i : Nat} {t : Stp} (ht : l[i]? = some t) (x y lo hi fr by_ : Int) (ho : Bool) :
    (((((((w.setCell ⟨g, i * 7, none⟩ (.int .i64 x)).setCell ⟨g, i * 7 + 1, none⟩ (.int .i64 y)).setCell ⟨g, i * 7 + 2, none⟩ (.int .i64 lo)).setCell ⟨g, i * 7 + 3, none⟩ (.int .i64 hi)).setCell ⟨g, i * 7 + 4, none⟩ (.int .i64 fr)).setCell ⟨g, i * 7 + 5, none⟩ (.int .i64 by_)).setCell ⟨g, i * 7 + 6, none⟩ (.bool ho)).ownsRow base 44 7 (.slice (some ⟨g, 0, none⟩) n cap) n (stepCells (l.set i { x := x, y := y, lo := lo, hi := hi, fr := fr, by_ := by_, ho := ho })) := by
  have hil : i < l.length := (List.getElem?_eq_some_iff.1 ht).1
  obtain ⟨a0, a1, a2, a3, a4, a5, a6⟩ := t
  have h0 := row_put h (j := 0) (t' := ⟨x, a1, a2, a3, a4, a5, a6⟩) (u := .int .i64 x) ht (by decide) rfl
  have h1 := row_put_set (t := ⟨x, a1, a2, a3, a4, a5, a6⟩) (t' := ⟨x, y, a2, a3, a4, a5, a6⟩) (j := 1) (u := .int .i64 y) h0 hil (by decide) rfl
  have h2 := row_put_set (t := ⟨x, y, a2, a3, a4, a5, a6⟩) (t' := ⟨x, y, lo, a3, a4, a5, a6⟩) (j := 2) (u := .int .i64 lo) h1 hil (by decide) rfl
  have h3 := row_put_set (t := ⟨x, y, lo, a3, a4, a5, a6⟩) (t' := ⟨x, y, lo, hi, a4, a5, a6⟩) (j := 3) (u := .int .i64 hi) h2 hil (by decide) rfl
  have h4 := row_put_set (t := ⟨x, y, lo, hi, a4, a5, a6⟩) (t' := ⟨x, y, lo, hi, fr, a5, a6⟩) (j := 4) (u := .int .i64 fr) h3 hil (by decide) rfl
  have h5 := row_put_set (t := ⟨x, y, lo, hi, fr, a5, a6⟩) (t' := ⟨x, y, lo, hi, fr, by_, a6⟩) (j := 5) (u := .int .i64 by_) h4 hil (by decide) rfl
  exact row_put_set (t := ⟨x, y, lo, hi, fr, by_, a6⟩) (t' := ⟨x, y, lo, hi, fr, by_, ho⟩) (j := 6) (u := .bool ho) h5 hil (by decide) rfl
/-- Steps that a call owns, as the walk meets them. -/
theorem steps_of {w : World} {base : Nat} {v : Value} {l : List Stp} (h : w.ownsRow base 44 7 v l.length (stepCells l)) : ∃ a b cap, v = .slice a l.length cap ∧ StepsAt w a b 0 l := by
  rcases h.2 with ⟨rfl, h0⟩ | ⟨g, cap, cur, rfl, _⟩
  · have : l = [] := List.eq_nil_of_length_eq_zero h0
    subst this
    exact ⟨none, 0, 0, rfl, ⟨fun h => absurd rfl h, fun h => absurd rfl h, fun i t hi => by simp at hi⟩⟩
  · exact ⟨some ⟨g, 0, none⟩, g, cap, rfl, steps_owned h⟩
end Go.Proofs.YtijcdikekgmfoaaGreatDoor

namespace Go.Proofs.YtijcdikekgmfoaaGreatDoor
open Go.RowKit

theorem grown_from_below {w w' : World} (h : Below w.heap.size w w') (row : Option Nat) : w.grownBy w' row := ⟨h.os, h.tape, h.output, h.size, fun k hk _ => h.block k hk⟩
theorem grown_new {a b : World} {row : Option Nat} (h : a.grownBy b row) {p : Addr} (hp : a.heap.size ≤ p.block) (v : Value) : a.grownBy (b.setCell p v) row :=
  ⟨h.os, h.tape, h.output, by simpa [World.setCell] using h.size, fun k hk hr => (heap_setCell_other b p k v (by omega)).trans (h.block k hk hr)⟩
theorem grown_at_row {a b : World} {g : Nat} (h : a.grownBy b (some g)) {p : Addr} (hp : p.block = g) (v : Value) : a.grownBy (b.setCell p v) (some g) := by
  have := grown_set b p v
  rw [hp] at this
  exact grown_over2 h this

set_option maxRecDepth 20000 in
set_option maxHeartbeats 4000000 in
theorem afterS_any (q s fr b nw : Int) (g gc base : Nat) (m : List Stp) (w : World) (hl : 1 ≤ m.length ∧ m.length ≤ 1048576) (ho : w.ownsRow base 44 7 (.slice (some ⟨g, 0, none⟩) m.length gc) m.length (stepCells m)) (hn : 0 ≤ nw ∧ nw ≤ 10000) :
    Calls Tryz.prog 71 #[.agg #[.int .i64 q, .int .i64 s, .slice (some ⟨g, 0, none⟩) m.length gc, .int .i64 fr, .int .i64 b], .int .i64 nw] w
      fun e w' => e = .returned (.agg #[.int .i64 q, .int .i64 s, .slice (some ⟨g, 0, none⟩) m.length gc, .int .i64 (afterFr fr m nw), .int .i64 b]) ∧ w'.ownsRow base 44 7 (.slice (some ⟨g, 0, none⟩) m.length gc) m.length (stepCells (afterL m nw)) ∧ w.grownBy w' (some g) := by
  obtain ⟨n0, n1⟩ := hn
  have hgl := owns_lt ho g rfl
  obtain ⟨W1, hW1⟩ : ∃ W1, (w.alloc (.cells #[.int .i64 q, .int .i64 s, .slice (some ⟨g, 0, none⟩) m.length gc, .int .i64 fr, .int .i64 b] 27)).alloc (.cells #[.int .i64 0, .int .i64 0, .slice none 0 0, .int .i64 0, .int .i64 0] 27) = W1 := ⟨_, rfl⟩
  have X1 : PathAt W1 w.heap.size q s fr b (.slice (some ⟨g, 0, none⟩) m.length gc) := by
    rw [← hW1]
    exact (PathAt.new w q s fr b _).keep ((Below.refl _ _).alloc (Nat.le_refl _) _) (PathAt.new w q s fr b _).lt
  have Z1 : PathAt W1 (w.heap.size + 1) 0 0 0 0 (.slice none 0 0) := by
    have := PathAt.new (w.alloc (.cells #[.int .i64 q, .int .i64 s, .slice (some ⟨g, 0, none⟩) m.length gc, .int .i64 fr, .int .i64 b] 27)) 0 0 0 0 (.slice none 0 0)
    rw [World.size_alloc, hW1] at this
    exact this
  have B1 : Below w.heap.size w W1 := by
    rw [← hW1]
    exact ((Below.refl _ _).alloc (Nat.le_refl _) _).alloc (by simp) _
  have ho1 := owns_below ho B1
  have hg1 : g < W1.heap.size := Nat.lt_of_lt_of_le hgl B1.size
  obtain ⟨⟨x0, x1, x2, x3, x4⟩, xf⟩ := X1.cells
  obtain ⟨⟨y0, y1, y2, y3, y4⟩, yf⟩ := Z1.cells
  by_cases h1 : 1 < m.length
  · obtain ⟨u1, hu⟩ : ∃ u, m[1]? = some u := ⟨_, List.getElem?_eq_getElem h1⟩
    have hud : m.getD 1 .zero = u1 := by rw [List.getD_eq_getElem?_getD, hu]; rfl
    obtain ⟨z, hz⟩ : ∃ z, mxB u1.fr (nw + 1) = z := ⟨_, rfl⟩
    have c11 : W1.cell? ⟨g, 11, none⟩ = some (.int .i64 u1.fr) := (ho1.cellAt 11 (by omega)).trans (stepCells_at _ 1 u1 4 hu (by decide))
    have HF : Hid (afterFr fr m nw = fr ∧ afterL m nw = m.set 1 { u1 with fr := z }) := by
      show _ ∧ _
      unfold afterFr afterL
      rw [if_pos h1, if_pos h1, hud, hz]
      exact ⟨rfl, rfl⟩
    have MX : ∀ (W : World), Calls Tryz.prog 41 #[.int .i64 u1.fr, .int .i64 (nw + 1)] W fun e w' => e = .returned (.int .i64 z) ∧ w' = W := fun W => by rw [← hz]; exact max_any _ _ _
    have m1 : (1 : Int) < (m.length : Int) := by omega
    have m0 : (0 : Int) < (m.length : Int) := by omega
    go_enter Tryz.func71, Tryz.ntmps71
    go_wp2
    clear hW1
    have qn := Cls.any W1
    have q1 := Cls.cell hg1
    have q2 := Cls.cell X1.lt
    refine wp_region_last (by kernel_rfl) (by simp) (by kernel_rfl) (by kernel_rfl) ?_
    simp only [initL, endL]
    repeat (go_big_quiet_step ((go_at_call 41; exact Calls.cls_of_same (MX _))))
    refine wpQuiet_nil ?_
    rintro _ ⟨u, rfl⟩
    have hou := owns_below ho1 u.same
    have XU := X1.keep u.same X1.lt
    have ZU := Z1.keep u.same Z1.lt
    have BU := B1.trans (u.same.mono B1.size)
    clear q1 q2 qn MX x0 x1 x2 x3 x4 xf y0 y1 y2 y3 y4 yf c11
    generalize u.it = U at *
    have t0 := (hou.cellAt 11 (by omega)).trans (stepCells_at _ 1 u1 4 hu (by decide))
    have tf := hou.frozenAt
    have HR := row_put hou (i := 1) (j := 4) (t' := { u1 with fr := z }) (u := .int .i64 z) hu (by decide) rfl
    obtain ⟨⟨x0, x1, x2, x3, x4⟩, xf⟩ := XU.cells
    obtain ⟨⟨y0, y1, y2, y3, y4⟩, yf⟩ := ZU.cells
    have HO : Hid ((U.setCell ⟨g, 11, none⟩ (.int .i64 z)).ownsRow base 44 7 (.slice (some ⟨g, 0, none⟩) m.length gc) m.length (stepCells (m.set 1 { u1 with fr := z }))) := HR
    have gn0 : g ≠ w.heap.size := by omega
    have gn1 : g ≠ w.heap.size + 1 := by omega
    clear HR hou ho1 ho hz
    go_wp2
    refine bodyPost_ret (v := .agg #[.int .i64 q, .int .i64 s, .slice (some ⟨g, 0, none⟩) m.length gc, .int .i64 fr, .int .i64 b]) (by simp [results, Tryz.results71, go_sem, *]) rfl ⟨by rw [HF.out.1], ?_, ?_⟩
    · rw [HF.out.2]
      have hh : ∀ j, (Value.slice (some ⟨g, 0, none⟩) m.length gc).ownBlock = some j → j ≠ w.heap.size + 1 := fun j e => by simp [Value.ownBlock] at e; omega
      iterate 5 (refine owns_set ?_ hh _ _)
      exact HO.out
    · iterate 5 (refine grown_new ?_ (by show _ ≤ w.heap.size + 1; omega) _)
      exact grown_at_row (grown_from_below BU _) rfl _
  · have HF : Hid (afterFr fr m nw = mxB fr (nw + 1) ∧ afterL m nw = m) := by
      show _ ∧ _
      unfold afterFr afterL
      rw [if_neg h1, if_neg h1]
      exact ⟨rfl, rfl⟩
    obtain ⟨z, hz⟩ : ∃ z, mxB fr (nw + 1) = z := ⟨_, rfl⟩
    have MX : ∀ (W : World), Calls Tryz.prog 41 #[.int .i64 fr, .int .i64 (nw + 1)] W fun e w' => e = .returned (.int .i64 z) ∧ w' = W := fun W => by rw [← hz]; exact max_any _ _ _
    have m1 : ¬ (1 : Int) < (m.length : Int) := by omega
    go_enter Tryz.func71, Tryz.ntmps71
    go_wp2_with fail
    refine (MX _).mono ?_
    rintro e w2 ⟨rfl, rfl⟩
    have BU : Hid (Below w.heap.size w w2) := B1
    have HO : Hid (w2.ownsRow base 44 7 (.slice (some ⟨g, 0, none⟩) m.length gc) m.length (stepCells m)) := ho1
    clear hW1 MX B1 ho1 ho
    go_wp2
    refine bodyPost_ret (v := .agg #[.int .i64 q, .int .i64 s, .slice (some ⟨g, 0, none⟩) m.length gc, .int .i64 z, .int .i64 b]) (by simp [results, Tryz.results71, go_sem, *]) rfl ⟨by rw [HF.out.1, hz], ?_, ?_⟩
    · rw [HF.out.2]
      have hh : ∀ j, (Value.slice (some ⟨g, 0, none⟩) m.length gc).ownBlock = some j → j ≠ w.heap.size + 1 := fun j e => by simp [Value.ownBlock] at e; omega
      have hx : ∀ j, (Value.slice (some ⟨g, 0, none⟩) m.length gc).ownBlock = some j → j ≠ w.heap.size := fun j e => by simp [Value.ownBlock] at e; omega
      iterate 5 (refine owns_set ?_ hh _ _)
      exact owns_set HO.out hx _ _
    · iterate 6 (refine grown_new ?_ (by first | (show _ ≤ w.heap.size + 1; omega) | (show _ ≤ w.heap.size; omega)) _)
      exact grown_from_below BU.out _

set_option maxRecDepth 20000 in
set_option maxHeartbeats 4000000 in
theorem canS_any (q s fr b : Int) (g gc base : Nat) (m : List Stp) (w : World) (hW : Wide q s fr b m) (ho : w.ownsRow base 44 7 (.slice (some ⟨g, 0, none⟩) m.length gc) m.length (stepCells m)) (_hbase : base ≤ w.heap.size) :
    Calls Tryz.prog 70 #[.agg #[.int .i64 q, .int .i64 s, .slice (some ⟨g, 0, none⟩) m.length gc, .int .i64 fr, .int .i64 b]] w
      fun e w' => Below w.heap.size w w' ∧ ∃ v, e = .returned (.tuple #[.agg #[.int .i64 (canA q s fr b m).q, .int .i64 (canA q s fr b m).s, v, .int .i64 (canA q s fr b m).fr, .int .i64 (canA q s fr b m).b], .bool (canA q s fr b m).ok]) ∧ w'.ownsRow base 44 7 v (canA q s fr b m).l.length (stepCells (canA q s fr b m).l) := by
  have hgl := owns_lt ho g rfl
  have hst := steps_owned ho
  have Q0 := PathAt.new w q s fr b (.slice (some ⟨g, 0, none⟩) m.length gc)
  have P0 := PathAt.new (w.alloc (.cells #[.int .i64 q, .int .i64 s, .slice (some ⟨g, 0, none⟩) m.length gc, .int .i64 fr, .int .i64 b] 27)) 0 0 0 0 (.slice none 0 0)
  rw [World.size_alloc] at P0
  have Q1 := Q0.keep ((Below.refl _ _).alloc (Nat.le_refl _) (.cells #[.int .i64 0, .int .i64 0, .slice none 0 0, .int .i64 0, .int .i64 0] 27)) Q0.lt
  have B0 : Below w.heap.size w ((w.alloc (.cells #[.int .i64 q, .int .i64 s, .slice (some ⟨g, 0, none⟩) m.length gc, .int .i64 fr, .int .i64 b] 27)).alloc (.cells #[.int .i64 0, .int .i64 0, .slice none 0 0, .int .i64 0, .int .i64 0] 27)) := ((Below.refl _ _).alloc (Nat.le_refl _) _).alloc (by simp) _
  go_enter Tryz.func70, Tryz.ntmps70
  go_wp2_with fail
  refine (spansS_wide _ _ _ _ _ g 0 _ _ _ ((hst.alloc _).alloc _) hW).mono ?_
  rintro e w1 ⟨v1, rfl, _, hb1⟩
  have P1 := P0.keep hb1 P0.lt
  have Q2 := Q1.keep hb1 Q1.lt
  have B1 := B0.trans (hb1.mono B0.size)
  have ho1 := owns_below ho B1
  obtain ⟨⟨x0, x1, x2, x3, x4⟩, xf⟩ := Q2.cells
  obtain ⟨⟨f0, f1, f2, f3, f4⟩, ff⟩ := P1.cells
  clear hb1 P0 Q0 Q1 B0 hst
  cases hsp : spanB q s fr b m with
  | false =>
    have HA : Hid (canA q s fr b m = .no) := by show _ = _; unfold canA; rw [hsp]; rfl
    go_wp2
    refine bodyPost_ret (v := .tuple #[.agg #[.int .i64 0, .int .i64 0, .slice none 0 0, .int .i64 0, .int .i64 0], .bool false]) (by simp [results, Tryz.results70, go_sem, *]) rfl ⟨?_, _, by rw [HA.out]; rfl, by rw [HA.out]; exact World.ownsRow_nil _ _ _ _⟩
    iterate 5 (refine Below.setCell ?_ (by show _ ≤ w.heap.size + 1; omega) _)
    exact B1
  | true =>
    have HA : Hid (canA q s fr b m = { q := q, s := s, fr := fr, b := b, l := m, ok := true }) := by show _ = _; unfold canA; rw [hsp]; rfl
    go_wp2
    refine bodyPost_ret (v := .tuple #[.agg #[.int .i64 q, .int .i64 s, .slice (some ⟨g, 0, none⟩) m.length gc, .int .i64 fr, .int .i64 b], .bool true]) (by simp [results, Tryz.results70, go_sem, *]) rfl ⟨?_, _, by rw [HA.out], ?_⟩
    · iterate 5 (refine Below.setCell ?_ (by show _ ≤ w.heap.size + 1; omega) _)
      exact B1
    · rw [HA.out]
      have hh : ∀ j, (Value.slice (some ⟨g, 0, none⟩) m.length gc).ownBlock = some j → j ≠ w.heap.size + 1 := fun j e => by simp [Value.ownBlock] at e; omega
      iterate 5 (refine owns_set ?_ hh _ _)
      exact ho1
end Go.Proofs.YtijcdikekgmfoaaGreatDoor

namespace Go.Proofs.YtijcdikekgmfoaaGreatDoor
open Go.RowKit

/-- What lies while the specification cuts a path. -/
structure RsD (w wr : World) (B : Nat) (q s fr b : Int) (v : Value) (m : List Stp) : Prop where
  old : Below w.heap.size w wr
  lt : w.heap.size + 1 < B
  pa : PathAt wr B q s fr b v
  res : PathAt wr (w.heap.size + 1) 0 0 0 0 (.slice none 0 0)
  own : wr.ownsRow (w.heap.size + 2) 44 7 v m.length (stepCells m)
section
variable {w wr w' : World} {B : Nat} {q s fr b : Int} {v : Value} {m : List Stp}
theorem RsD.gB (h : RsD w wr B q s fr b v m) : ∀ k, v.ownBlock = some k → k ≠ B ∧ w.heap.size + 1 < k := fun k hk => ⟨row_not_path h.own h.pa k hk, owns_base h.own k hk⟩
theorem RsD.below (h : RsD w wr B q s fr b v m) (hb : Below wr.heap.size wr w') : RsD w w' B q s fr b v m :=
  ⟨h.old.trans (hb.mono h.old.size), h.lt, h.pa.keep hb h.pa.lt, h.res.keep hb h.res.lt, owns_below h.own hb⟩
theorem RsD.put {g gc : Nat} (h : RsD w wr B q s fr b (.slice (some ⟨g, 0, none⟩) m.length gc) m) {i j : Nat} {t t' : Stp} {u : Value} (ht : m[i]? = some t) (hj : j < 7) (he : t'.cells = t.cells.set j u) :
    RsD w (wr.setCell ⟨g, i * 7 + j, none⟩ u) B q s fr b (.slice (some ⟨g, 0, none⟩) (m.set i t').length gc) (m.set i t') := by
  rw [List.length_set]
  obtain ⟨h1, h2⟩ := h.gB g rfl
  exact ⟨h.old.setCell (p := ⟨g, i * 7 + j, none⟩) (by show _ ≤ g; omega) u, h.lt, h.pa.set (by show B ≠ g; omega) u, h.res.set (by show w.heap.size + 1 ≠ g; omega) u, by have := row_put h.own ht hj he; rw [List.length_set]; exact this⟩
theorem RsD.after {g gc : Nat} {m' : List Stp} (h : RsD w wr B q s fr b (.slice (some ⟨g, 0, none⟩) m.length gc) m) (hl : m'.length = m.length) (hr : w'.ownsRow (w.heap.size + 2) 44 7 (.slice (some ⟨g, 0, none⟩) m.length gc) m.length (stepCells m')) (hg : wr.grownBy w' (some g)) :
    PathAt w' (w.heap.size + 1) 0 0 0 0 (.slice none 0 0) ∧ Below w.heap.size w w' ∧ w'.ownsRow (w.heap.size + 2) 44 7 (.slice (some ⟨g, 0, none⟩) m'.length gc) m'.length (stepCells m') := by
  obtain ⟨h1, h2⟩ := h.gB g rfl
  refine ⟨h.res.grown hg (fun e => by cases e; omega), h.old.grown hg h.old.size (fun j e => by cases e; omega), ?_⟩
  rw [hl]
  exact hr
end
theorem afterFr_enter (fr : Int) (m : List Stp) (x y nw : Int) : afterFr fr (enterL m x y) nw = afterFr fr m nw := by unfold afterFr; rw [enterL_length]
theorem owns_cap {w : World} {base e size n g cap : Nat} {xs : List Value} (h : w.ownsRow base e size (.slice (some ⟨g, 0, none⟩) n cap) n xs) : n ≤ cap := by
  rcases h.2 with ⟨h0, _⟩ | ⟨g', cap', cur, h1, h2, h3, h4, h5, h6, h7⟩
  · cases h0
  · simp only [Value.slice.injEq, Option.some.injEq, Addr.mk.injEq, and_true, true_and] at h1
    obtain ⟨rfl, rfl⟩ := h1
    omega
end Go.Proofs.YtijcdikekgmfoaaGreatDoor

namespace Go.Proofs.YtijcdikekgmfoaaGreatDoor
open Go.RowKit

set_option maxRecDepth 20000 in
set_option maxHeartbeats 8000000 in
theorem flyRestS_any (q s fr b st en nw : Int) (a : Option Addr) (b0 o cap : Nat) (l : List Stp) (w : World) (hl : l.length ≤ 1048576) (hs : StepsAt w a b0 o l) (hcap : l.length ≤ cap) :
    Calls Tryz.prog 22 #[.agg #[.int .i64 q, .int .i64 s, .slice a l.length cap, .int .i64 fr, .int .i64 b], .int .i64 st, .int .i64 en, .int .i64 nw] w (Gives (restA q s fr b l st en nw) w) := by
  have Q0 := PathAt.new w q s fr b (.slice a l.length cap)
  have P0 := PathAt.new (w.alloc (.cells #[.int .i64 q, .int .i64 s, .slice a l.length cap, .int .i64 fr, .int .i64 b] 27)) 0 0 0 0 (.slice none 0 0)
  rw [World.size_alloc] at P0
  have Q1 := Q0.keep ((Below.refl _ _).alloc (Nat.le_refl _) (.cells #[.int .i64 0, .int .i64 0, .slice none 0 0, .int .i64 0, .int .i64 0] 27)) Q0.lt
  have B0 : Below w.heap.size w ((w.alloc (.cells #[.int .i64 q, .int .i64 s, .slice a l.length cap, .int .i64 fr, .int .i64 b] 27)).alloc (.cells #[.int .i64 0, .int .i64 0, .slice none 0 0, .int .i64 0, .int .i64 0] 27)) := ((Below.refl _ _).alloc (Nat.le_refl _) _).alloc (by simp) _
  have NO : ∀ (W : World), restA q s fr b l st en nw = .no → Below w.heap.size w W → Gives (restA q s fr b l st en nw) w (.returned (.tuple #[.agg #[.int .i64 0, .int .i64 0, .slice none 0 0, .int .i64 0, .int .i64 0], .bool false])) W := fun W h hb => by rw [h]; exact Gives.none rfl hb
  go_enter Tryz.func22, Tryz.ntmps22
  go_wp2_with fail
  refine (pathS_any q s fr b a b0 o cap l _ hl ((hs.alloc _).alloc _)).mono ?_
  rintro e w1 ⟨rfl, hb1⟩
  have P1 := P0.keep hb1 P0.lt
  have Q2 := Q1.keep hb1 Q1.lt
  have B1 := B0.trans (hb1.mono B0.size)
  have z1 := P1.lt
  obtain ⟨⟨f0, f1, f2, f3, f4⟩, ff⟩ := P1.cells
  obtain ⟨⟨x0, x1, x2, x3, x4⟩, xf⟩ := Q2.cells
  clear hb1 P0 B0 Q0 Q1
  cases hp : pathB q s fr b l with
  | false =>
    have HA : Hid (restA q s fr b l st en nw = .no) := by show _ = _; unfold restA inStepB; rw [hp]; rfl
    go_wp2
    refine bodyPost_ret (v := .tuple #[.agg #[.int .i64 0, .int .i64 0, .slice none 0 0, .int .i64 0, .int .i64 0], .bool false]) (by simp [results, Tryz.results22, go_sem, *]) rfl (NO _ HA.out ?_)
    iterate 5 (refine Below.setCell ?_ (by show _ ≤ w.heap.size + 1; omega) _)
    exact B1
  | true =>
    have hlen := path_len hp
    go_wp2_with fail
    refine (in_any st 0 ((l.length : Int) - 1) _).mono ?_
    rintro e wx ⟨rfl, rfl⟩
    cases hst : inB st 0 ((l.length : Int) - 1) with
    | false =>
      have HA : Hid (restA q s fr b l st en nw = .no) := by show _ = _; unfold restA inStepB; rw [hp, hst]; rfl
      go_wp2
      refine bodyPost_ret (v := .tuple #[.agg #[.int .i64 0, .int .i64 0, .slice none 0 0, .int .i64 0, .int .i64 0], .bool false]) (by simp [results, Tryz.results22, go_sem, *]) rfl (NO _ HA.out ?_)
      iterate 5 (refine Below.setCell ?_ (by show _ ≤ w.heap.size + 1; omega) _)
      exact B1
    | true =>
      have hst' := (inB_iff _ _ _).1 hst
      obtain ⟨k, rfl⟩ : ∃ k : Nat, st = (k : Int) := ⟨st.toNat, by omega⟩
      have hk : k < l.length := by omega
      have k0 : (0 : Int) ≤ (k : Int) := by omega
      have k1 : (k : Int) < (l.length : Int) := by omega
      obtain ⟨m, hm⟩ : ∃ m, l.drop k = m := ⟨_, rfl⟩
      have hml : m.length = l.length - k := by rw [← hm, List.length_drop]
      have HP : Hid (pathB q s fr b l = true) := hp
      go_wp2_with fail
      refine (in_any nw en 10000 _).mono ?_
      rintro e wx2 ⟨rfl, rfl⟩
      cases hnw : inB nw en 10000 with
      | false =>
        have HA : Hid (restA q s fr b l k en nw = .no) := by
          show _ = _
          unfold restA inStepB
          rw [if_neg]
          intro h
          simp only [Bool.and_eq_true, inB_iff] at h
          have : inB nw en 10000 = true := (inB_iff _ _ _).2 (by omega)
          rw [hnw] at this; cases this
        go_wp2
        refine bodyPost_ret (v := .tuple #[.agg #[.int .i64 0, .int .i64 0, .slice none 0 0, .int .i64 0, .int .i64 0], .bool false]) (by simp [results, Tryz.results22, go_sem, *]) rfl (NO _ HA.out ?_)
        iterate 5 (refine Below.setCell ?_ (by show _ ≤ w.heap.size + 1; omega) _)
        exact B1
      | true =>
      have hnw' := (inB_iff _ _ _).1 hnw
      by_cases hen : en < 0
      · have HA : Hid (restA q s fr b l k en nw = .no) := by
          show _ = _
          unfold restA inStepB
          rw [if_neg]
          intro h
          simp only [Bool.and_eq_true, inB_iff] at h
          omega
        go_wp2
        refine bodyPost_ret (v := .tuple #[.agg #[.int .i64 0, .int .i64 0, .slice none 0 0, .int .i64 0, .int .i64 0], .bool false]) (by simp [results, Tryz.results22, go_sem, *]) rfl (NO _ HA.out ?_)
        iterate 5 (refine Below.setCell ?_ (by show _ ≤ w.heap.size + 1; omega) _)
        exact B1
      obtain ⟨t, ht⟩ : ∃ t, l.getD k .zero = t := ⟨_, rfl⟩
      have HN : Hid (0 ≤ nw ∧ nw ≤ 10000) := by show _ ∧ _; omega
      have HA : Hid (restA q s fr b l k en nw = canA q s (leftFr fr l k nw) b (leftL l k (mxB t.fr en) (mnB t.by_ en) nw)) := by
        show _ = _
        unfold restA inStepB
        rw [if_pos, Int.toNat_natCast, ht]
        simp only [Bool.and_eq_true, inB_iff]
        exact ⟨⟨⟨hp, hst'⟩, by omega⟩, by omega⟩
      have hsp := step_parts ((path_parts hp).2.2.2 k hk)
      rw [ht] at hsp
      have hx : 0 ≤ mxB t.fr en := by have := mxB_le t.fr en; omega
      have hy : mnB t.by_ en ≤ 10000 := by have := mnB_le t.by_ en; omega
      have htm : m[0]? = some t := by
        rw [← hm, List.getElem?_drop, Nat.add_zero]
        have := List.getElem?_eq_getElem hk
        rw [← ht, List.getD_eq_getElem?_getD, this]; rfl
      have htd : m.getD 0 .zero = t := by rw [List.getD_eq_getElem?_getD, htm]; rfl
      obtain ⟨n1, hn1⟩ : ∃ n1, mxB t.fr en = n1 := ⟨_, rfl⟩
      obtain ⟨n2, hn2⟩ : ∃ n2, mnB t.by_ en = n2 := ⟨_, rfl⟩
      rw [hn1, hn2] at HA
      rw [hn1] at hx
      rw [hn2] at hy
      have MX : ∀ (W : World), Calls Tryz.prog 41 #[.int .i64 t.fr, .int .i64 en] W fun e w' => e = .returned (.int .i64 n1) ∧ w' = W := fun W => by rw [← hn1]; exact max_any _ _ _
      have MN : ∀ (W : World), Calls Tryz.prog 40 #[.int .i64 t.by_, .int .i64 en] W fun e w' => e = .returned (.int .i64 n2) ∧ w' = W := fun W => by rw [← hn2]; exact min_any _ _ _
      have hne : l ≠ [] := by intro e; subst e; simp at hk
      have HEN : Hid (¬ en < 0) := hen
      clear NO hn1 hn2 hsp hp hst hst' hnw hnw'
      go_wp2_with fail
      refine (heldS_any q s fr b a b0 o cap l _ 0 0 _ [] _ hlen.1 hl ?_ ⟨fun h => absurd rfl h, fun h => absurd rfl h, fun i z hi => by simp at hi⟩ (by simp)).mono ?_
      · exact (hs.below B1 hs.lt).alloc _
      rintro e w2 ⟨g2, gc2, rfl, ho2, hb2⟩
      have al2 : Below wx2.heap.size wx2 (wx2.alloc (.cells #[] 3)) := (Below.refl _ _).alloc (Nat.le_refl _) _
      have hb2' : Below wx2.heap.size wx2 w2 := al2.trans (hb2.mono al2.size)
      have P2 := P1.keep hb2' P1.lt
      have B2 := B1.trans (hb2'.mono B1.size)
      rw [show ([] : List Int).length = 0 from rfl, heldL_zero] at ho2
      have hcap2 : l.length ≤ gc2 := owns_cap ho2
      clear hb2 hb2' al2 P1 Q2 B1 f0 f1 f2 f3 f4 ff x0 x1 x2 x3 x4 xf
      go_wp2_with fail
      refine (tailS_any q s fr b k (some ⟨g2, 0, none⟩) g2 0 gc2 l w2 hl (steps_owned ho2) hcap2 hk).mono ?_
      rintro e w3 ⟨g, gc, rfl, ho3, hb3⟩
      rw [hm] at ho3
      have D3 : RsD w (w3.alloc (.cells #[.int .i64 q, .int .i64 s, .slice (some ⟨g, 0, none⟩) (l.length - k) gc, .int .i64 fr, .int .i64 b] 27)) w3.heap.size q s fr b (.slice (some ⟨g, 0, none⟩) m.length gc) m := by
        have P3 := P2.keep hb3 P2.lt
        have B3 := B2.trans (hb3.mono B2.size)
        have z2 := P2.lt
        have ho3' : w3.ownsRow (w.heap.size + 2) 44 7 (.slice (some ⟨g, 0, none⟩) m.length gc) m.length (stepCells m) := by
          rw [hml]
          exact ⟨ho3.1, ho3.2.imp id fun ⟨g', cap', cur, h1, h2, h3⟩ => ⟨g', cap', cur, h1, by omega, h3⟩⟩
        exact ⟨B3.alloc B3.size _, P3.lt, by rw [hml]; exact PathAt.new w3 q s fr b _, P3.keep ((Below.refl _ _).alloc (Nat.le_refl _) _) P3.lt, owns_below ho3' ((Below.refl _ _).alloc (Nat.le_refl _) _)⟩
      clear ho2 ho3 hb3 P2 B2
      have l0 : (0 : Int) < ((l.length - k : Nat) : Int) := by omega
      go_wp2
      generalize w3.heap.size = B at *
      generalize w3.alloc (.cells #[.int .i64 q, .int .i64 s, .slice (some ⟨g, 0, none⟩) (l.length - k) gc, .int .i64 fr, .int .i64 b] 27) = W4 at *
      have hgl : g < W4.heap.size := owns_lt D3.own g rfl
      have hBl : B < W4.heap.size := D3.pa.lt
      obtain ⟨⟨e0, e1, e2, e3, e4⟩, ef⟩ := D3.pa.cells
      rw [hml] at e2
      have c4 : W4.cell? ⟨g, 4, none⟩ = some (.int .i64 t.fr) := (D3.own.cellAt 4 (by omega)).trans (stepCells_at _ 0 t 4 htm (by decide))
      have qn := Cls.any W4
      have q1 := Cls.cell hgl
      have q2 := Cls.cell hBl
      refine wp_region_last (by kernel_rfl) (by simp) (by kernel_rfl) (by kernel_rfl) ?_
      simp only [initL, endL]
      repeat (go_big_quiet_step ((go_at_call 41; exact Calls.cls_of_same (MX _))))
      refine wpQuiet_nil ?_
      rintro _ ⟨u, rfl⟩
      have D4 := D3.below u.same
      clear q1 q2 qn MX e0 e1 e2 e3 e4 ef c4 D3 hgl hBl
      generalize u.it = U at *
      have t0 := (D4.own.cellAt 4 (by omega)).trans (stepCells_at _ 0 t 4 htm (by decide))
      have tf := D4.own.frozenAt
      have D5 := D4.put (i := 0) (j := 4) (t' := { t with fr := n1 }) (u := .int .i64 n1) htm (by decide) rfl
      have D5' : RsD w (U.setCell ⟨g, 4, none⟩ (.int .i64 n1)) B q s fr b (.slice (some ⟨g, 0, none⟩) (m.set 0 { t with fr := n1 }).length gc) (m.set 0 { t with fr := n1 }) := D5
      clear D5 D4
      go_wp2
      clear t0 tf
      generalize U.setCell ⟨g, 4, none⟩ (.int .i64 n1) = W5 at *
      have hn0 : (m.set 0 { t with fr := n1 })[0]? = some { t with fr := n1 } := List.getElem?_set_self (by omega)
      have hgl : g < W5.heap.size := owns_lt D5'.own g rfl
      have hBl : B < W5.heap.size := D5'.pa.lt
      obtain ⟨⟨e0, e1, e2, e3, e4⟩, ef⟩ := D5'.pa.cells
      rw [List.length_set, hml] at e2
      have c5 : W5.cell? ⟨g, 5, none⟩ = some (.int .i64 t.by_) := (D5'.own.cellAt 5 (by rw [List.length_set]; omega)).trans (stepCells_at _ 0 { t with fr := n1 } 5 hn0 (by decide))
      have qn := Cls.any W5
      have q1 := Cls.cell hgl
      have q2 := Cls.cell hBl
      refine wp_region_last (by kernel_rfl) (by simp) (by kernel_rfl) (by kernel_rfl) ?_
      simp only [initL, endL]
      repeat (go_big_quiet_step ((go_at_call 40; exact Calls.cls_of_same (MN _))))
      refine wpQuiet_nil ?_
      rintro _ ⟨u2, rfl⟩
      have D6 := D5'.below u2.same
      clear q1 q2 qn MN e0 e1 e2 e3 e4 ef c5 D5' hgl hBl
      generalize u2.it = U2 at *
      have t0 := (D6.own.cellAt 5 (by rw [List.length_set]; omega)).trans (stepCells_at _ 0 { t with fr := n1 } 5 hn0 (by decide))
      have tf := D6.own.frozenAt
      have D7 : RsD w (U2.setCell ⟨g, 5, none⟩ (.int .i64 n2)) B q s fr b (.slice (some ⟨g, 0, none⟩) (enterL m n1 n2).length gc) (enterL m n1 n2) := by
        have D7 := D6.put (i := 0) (j := 5) (t' := { t with fr := n1, by_ := n2 }) (u := .int .i64 n2) hn0 (by decide) rfl
        rw [List.set_set] at D7
        unfold enterL
        rw [htd]
        exact D7
      obtain ⟨⟨e0, e1, e2, e3, e4⟩, ef⟩ := D6.pa.cells
      rw [List.length_set, hml] at e2
      have gnB : g ≠ B := (D6.gB g rfl).1
      clear D6
      have hel : (enterL m n1 n2).length = l.length - k := by rw [enterL_length, ← hm, List.length_drop]
      go_wp2_with fail
      clear t0 tf e0 e1 e2 e3 e4 ef
      generalize U2.setCell ⟨g, 5, none⟩ (.int .i64 n2) = W7 at *
      have hAf : Calls Tryz.prog 71 #[.agg #[.int .i64 q, .int .i64 s, .slice (some ⟨g, 0, none⟩) (l.length - k) gc, .int .i64 fr, .int .i64 b], .int .i64 nw] W7
          fun e w' => e = .returned (.agg #[.int .i64 q, .int .i64 s, .slice (some ⟨g, 0, none⟩) (l.length - k) gc, .int .i64 (leftFr fr l k nw), .int .i64 b]) ∧ PathAt w' (w.heap.size + 1) 0 0 0 0 (.slice none 0 0) ∧ Below w.heap.size w w' ∧ w'.ownsRow (w.heap.size + 2) 44 7 (.slice (some ⟨g, 0, none⟩) (leftL l k n1 n2 nw).length gc) (leftL l k n1 n2 nw).length (stepCells (leftL l k n1 n2 nw)) := by
        have hh := afterS_any q s fr b nw g gc (w.heap.size + 2) (enterL m n1 n2) W7 (by rw [hel]; omega) D7.own HN.out
        rw [afterFr_enter, hel] at hh
        refine hh.mono fun e w' ⟨he, hr, hg⟩ => ⟨?_, ?_⟩
        · rw [he]; unfold leftFr; rw [hm]
        · have := D7.after (m' := leftL l k n1 n2 nw) (by rw [leftL_length, hel]) (by rw [hel]; unfold leftL; rw [hm]; exact hr) hg
          exact this
      refine hAf.mono ?_
      rintro e w8 ⟨rfl, Z8, B8, ho8⟩
      have hlL : (leftL l k n1 n2 nw).length = l.length - k := leftL_length l k n1 n2 nw
      have hCa := canS_any q s (leftFr fr l k nw) b g gc (w.heap.size + 2) (leftL l k n1 n2 nw) w8 (left_wide HP.out hk hx hy HN.out.1) ho8 (by have := Z8.lt; omega)
      rw [hlL] at hCa
      clear hAf D7 ho8
      generalize canA q s (leftFr fr l k nw) b (leftL l k n1 n2 nw) = A at hCa HA
      go_wp2_with fail
      refine hCa.mono ?_
      rintro e w9 ⟨hb9, v9, rfl, ho9⟩
      obtain ⟨a9, j9, c9, hv9, _⟩ := steps_of ho9
      subst hv9
      have Z9 := Z8.keep hb9 Z8.lt
      have B9 := B8.trans (hb9.mono B8.size)
      obtain ⟨⟨f0, f1, f2, f3, f4⟩, ff⟩ := Z9.cells
      clear hb9 Z8 B8 hCa
      go_wp2
      refine bodyPost_ret (v := .tuple #[.agg #[.int .i64 A.q, .int .i64 A.s, .slice a9 A.l.length c9, .int .i64 A.fr, .int .i64 A.b], .bool A.ok]) (by simp [results, Tryz.results22, go_sem, *]) rfl ?_
      rw [HA.out]
      refine ⟨_, rfl, ?_, ?_⟩
      · have hh : ∀ j, (Value.slice a9 A.l.length c9).ownBlock = some j → j ≠ w.heap.size + 1 := fun j e => by have := owns_base ho9 j e; omega
        iterate 5 (refine owns_set ?_ hh _ _)
        exact ⟨ho9.1, ho9.2.imp id fun ⟨g, cap, cur, h1, h2, h3⟩ => ⟨g, cap, cur, h1, by omega, h3⟩⟩
      · iterate 5 (refine Below.setCell ?_ (by show _ ≤ w.heap.size + 1; omega) _)
        exact B9
end Go.Proofs.YtijcdikekgmfoaaGreatDoor

namespace Go.Proofs.YtijcdikekgmfoaaGreatDoor
open Go.RowKit

set_option maxRecDepth 20000 in
set_option maxHeartbeats 8000000 in
theorem flySeenS_any (q s fr b st nw : Int) (a : Option Addr) (b0 o cap : Nat) (l : List Stp) (w : World) (hl : l.length ≤ 1048576) (hs : StepsAt w a b0 o l) (hcap : l.length ≤ cap) :
    Calls Tryz.prog 23 #[.agg #[.int .i64 q, .int .i64 s, .slice a l.length cap, .int .i64 fr, .int .i64 b], .int .i64 st, .int .i64 nw] w (Gives (seenA q s fr b l st nw) w) := by
  have Q0 := PathAt.new w q s fr b (.slice a l.length cap)
  have P0 := PathAt.new (w.alloc (.cells #[.int .i64 q, .int .i64 s, .slice a l.length cap, .int .i64 fr, .int .i64 b] 27)) 0 0 0 0 (.slice none 0 0)
  rw [World.size_alloc] at P0
  have Q1 := Q0.keep ((Below.refl _ _).alloc (Nat.le_refl _) (.cells #[.int .i64 0, .int .i64 0, .slice none 0 0, .int .i64 0, .int .i64 0] 27)) Q0.lt
  have B0 : Below w.heap.size w ((w.alloc (.cells #[.int .i64 q, .int .i64 s, .slice a l.length cap, .int .i64 fr, .int .i64 b] 27)).alloc (.cells #[.int .i64 0, .int .i64 0, .slice none 0 0, .int .i64 0, .int .i64 0] 27)) := ((Below.refl _ _).alloc (Nat.le_refl _) _).alloc (by simp) _
  have NO : ∀ (W : World), seenA q s fr b l st nw = .no → Below w.heap.size w W → Gives (seenA q s fr b l st nw) w (.returned (.tuple #[.agg #[.int .i64 0, .int .i64 0, .slice none 0 0, .int .i64 0, .int .i64 0], .bool false])) W := fun W h hb => by rw [h]; exact Gives.none rfl hb
  go_enter Tryz.func23, Tryz.ntmps23
  go_wp2_with fail
  refine (pathS_any q s fr b a b0 o cap l _ hl ((hs.alloc _).alloc _)).mono ?_
  rintro e w1 ⟨rfl, hb1⟩
  have P1 := P0.keep hb1 P0.lt
  have Q2 := Q1.keep hb1 Q1.lt
  have B1 := B0.trans (hb1.mono B0.size)
  have z1 := P1.lt
  obtain ⟨⟨f0, f1, f2, f3, f4⟩, ff⟩ := P1.cells
  obtain ⟨⟨x0, x1, x2, x3, x4⟩, xf⟩ := Q2.cells
  clear hb1 P0 B0 Q0 Q1
  cases hp : pathB q s fr b l with
  | false =>
    have HA : Hid (seenA q s fr b l st nw = .no) := by show _ = _; unfold seenA inStepB; rw [hp]; rfl
    go_wp2
    refine bodyPost_ret (v := .tuple #[.agg #[.int .i64 0, .int .i64 0, .slice none 0 0, .int .i64 0, .int .i64 0], .bool false]) (by simp [results, Tryz.results23, go_sem, *]) rfl (NO _ HA.out ?_)
    iterate 5 (refine Below.setCell ?_ (by show _ ≤ w.heap.size + 1; omega) _)
    exact B1
  | true =>
    have hlen := path_len hp
    go_wp2_with fail
    refine (in_any st 0 ((l.length : Int) - 1) _).mono ?_
    rintro e wx ⟨rfl, rfl⟩
    cases hst : inB st 0 ((l.length : Int) - 1) with
    | false =>
      have HA : Hid (seenA q s fr b l st nw = .no) := by show _ = _; unfold seenA inStepB; rw [hp, hst]; rfl
      go_wp2
      refine bodyPost_ret (v := .tuple #[.agg #[.int .i64 0, .int .i64 0, .slice none 0 0, .int .i64 0, .int .i64 0], .bool false]) (by simp [results, Tryz.results23, go_sem, *]) rfl (NO _ HA.out ?_)
      iterate 5 (refine Below.setCell ?_ (by show _ ≤ w.heap.size + 1; omega) _)
      exact B1
    | true =>
      have hst' := (inB_iff _ _ _).1 hst
      obtain ⟨k, rfl⟩ : ∃ k : Nat, st = (k : Int) := ⟨st.toNat, by omega⟩
      have hk : k < l.length := by omega
      have k0 : (0 : Int) ≤ (k : Int) := by omega
      have k1 : (k : Int) < (l.length : Int) := by omega
      obtain ⟨m, hm⟩ : ∃ m, l.drop k = m := ⟨_, rfl⟩
      have hml : m.length = l.length - k := by rw [← hm, List.length_drop]
      have HP : Hid (pathB q s fr b l = true) := hp
      go_wp2_with fail
      refine (in_any nw 0 10000 _).mono ?_
      rintro e wx2 ⟨rfl, rfl⟩
      cases hnw : inB nw 0 10000 with
      | false =>
        have HA : Hid (seenA q s fr b l k nw = .no) := by show _ = _; unfold seenA inStepB; rw [hp, hst, hnw]; rfl
        go_wp2
        refine bodyPost_ret (v := .tuple #[.agg #[.int .i64 0, .int .i64 0, .slice none 0 0, .int .i64 0, .int .i64 0], .bool false]) (by simp [results, Tryz.results23, go_sem, *]) rfl (NO _ HA.out ?_)
        iterate 5 (refine Below.setCell ?_ (by show _ ≤ w.heap.size + 1; omega) _)
        exact B1
      | true =>
      have hti : inStepB q s fr b l k nw = true := by unfold inStepB; rw [hp, hst, hnw]; rfl
      have HN : Hid (0 ≤ nw ∧ nw ≤ 10000) := (inB_iff _ _ _).1 hnw
      go_wp2_with fail
      refine (spansS_wide q s fr b a b0 o cap l _ (hs.below B1 hs.lt) (Wide.of HP.out)).mono ?_
      rintro e w2 ⟨v2, rfl, ho2, hb2⟩
      have P2 := P1.keep hb2 P1.lt
      have Q3 := Q2.keep hb2 Q2.lt
      have B2 := B1.trans (hb2.mono B1.size)
      clear hb2 P1 Q2 B1 f0 f1 f2 f3 f4 ff x0 x1 x2 x3 x4 xf
      obtain ⟨⟨f0, f1, f2, f3, f4⟩, ff⟩ := P2.cells
      obtain ⟨⟨x0, x1, x2, x3, x4⟩, xf⟩ := Q3.cells
      cases hsb : spanB q s fr b l with
      | false =>
        have HA : Hid (seenA q s fr b l k nw = .no) := by show _ = _; unfold seenA; rw [hsb, Bool.and_false]; rfl
        have B1 := B2
        go_wp2
        refine bodyPost_ret (v := .tuple #[.agg #[.int .i64 0, .int .i64 0, .slice none 0 0, .int .i64 0, .int .i64 0], .bool false]) (by simp [results, Tryz.results23, go_sem, *]) rfl (NO _ HA.out ?_)
        iterate 5 (refine Below.setCell ?_ (by show _ ≤ w.heap.size + 1; omega) _)
        exact B1
      | true =>
      obtain ⟨x, hx'⟩ : ∃ x, spanOf q s fr b l k = x := ⟨_, rfl⟩
      obtain ⟨n1, hn1⟩ : ∃ n1, x.1 = n1 := ⟨_, rfl⟩
      obtain ⟨n2, hn2⟩ : ∃ n2, mnB x.2 nw = n2 := ⟨_, rfl⟩
      have HA : Hid (seenA q s fr b l k nw = canA q s (leftFr fr l k nw) b (leftL l k n1 n2 nw)) := by
        show _ = _; unfold seenA; rw [hti, hsb, Int.toNat_natCast, hx', hn1, hn2]; rfl
      have hsl : (spansL q s fr b l).length = l.length + 1 := by unfold spansL; rw [if_pos hsb]; simp
      have hgx : (spansL q s fr b l)[k]? = some x := by unfold spansL; rw [if_pos hsb, List.getElem?_map, List.getElem?_range (by omega), ← hx']; rfl
      have hx := span_lo HP.out hsb (Nat.le_of_lt hk)
      rw [hx', hn1] at hx
      have hy : n2 ≤ 10000 := by have := mnB_le x.2 nw; have := HN.out; omega
      have MN : ∀ (W : World), Calls Tryz.prog 40 #[.int .i64 x.2, .int .i64 nw] W fun e w' => e = .returned (.int .i64 n2) ∧ w' = W := fun W => by rw [← hn2]; exact min_any _ _ _
      rw [hsl] at ho2
      obtain ⟨g3, k3, rfl, _, hg3⟩ := owns_some ho2 (by omega)
      have r0 : w2.cell? ⟨g3, k * 2, none⟩ = some (.int .i64 n1) := by rw [← hn1]; exact (ho2.cellAt (k * 2) (by omega)).trans (spanCells_get _ k x hgx).1
      have r1 : w2.cell? ⟨g3, k * 2 + 1, none⟩ = some (.int .i64 x.2) := (ho2.cellAt (k * 2 + 1) (by omega)).trans (spanCells_get _ k x hgx).2
      have k1' : (k : Int) < ((l.length + 1 : Nat) : Int) := by omega
      have k2' : (k : Int) < (l.length : Int) + 1 := by omega
      obtain ⟨t, ht⟩ : ∃ t, l.getD k .zero = t := ⟨_, rfl⟩
      have htm : m[0]? = some t := by
        rw [← hm, List.getElem?_drop, Nat.add_zero]
        have := List.getElem?_eq_getElem hk
        rw [← ht, List.getD_eq_getElem?_getD, this]; rfl
      have htd : m.getD 0 .zero = t := by rw [List.getD_eq_getElem?_getD, htm]; rfl
      clear NO hn1 hn2 hx' hp hst hst' hnw hti hsb ho2 hgx hsl
      go_wp2_with fail
      refine (tailS_any q s fr b k a b0 o cap l w2 hl (hs.below B2 hs.lt) hcap hk).mono ?_
      rintro e w3 ⟨g, gc, rfl, ho3, hb3⟩
      rw [hm] at ho3
      have hgg : w2.heap.size ≤ g := owns_base ho3 g rfl
      have al3 : Below w2.heap.size w2 (w3.alloc (.cells #[.int .i64 q, .int .i64 s, .slice (some ⟨g, 0, none⟩) (l.length - k) gc, .int .i64 fr, .int .i64 b] 27)) := hb3.alloc hb3.size _
      have r0' := (al3.cell (p := ⟨g3, k * 2, none⟩) hg3).trans r0
      have r1' := (al3.cell (p := ⟨g3, k * 2 + 1, none⟩) hg3).trans r1
      have hg3' := Nat.lt_of_lt_of_le hg3 al3.size
      have D3 : RsD w (w3.alloc (.cells #[.int .i64 q, .int .i64 s, .slice (some ⟨g, 0, none⟩) (l.length - k) gc, .int .i64 fr, .int .i64 b] 27)) w3.heap.size q s fr b (.slice (some ⟨g, 0, none⟩) m.length gc) m := by
        have P3 := P2.keep hb3 P2.lt
        have B3 := B2.trans (hb3.mono B2.size)
        have z2 := P2.lt
        have ho3' : w3.ownsRow (w.heap.size + 2) 44 7 (.slice (some ⟨g, 0, none⟩) m.length gc) m.length (stepCells m) := by
          rw [hml]
          exact ⟨ho3.1, ho3.2.imp id fun ⟨g', cap', cur, h1, h2, h3⟩ => ⟨g', cap', cur, h1, by omega, h3⟩⟩
        exact ⟨B3.alloc B3.size _, P3.lt, by rw [hml]; exact PathAt.new w3 q s fr b _, P3.keep ((Below.refl _ _).alloc (Nat.le_refl _) _) P3.lt, owns_below ho3' ((Below.refl _ _).alloc (Nat.le_refl _) _)⟩
      clear ho3 hb3 P2 B2 Q3 r0 r1 al3 f0 f1 f2 f3 f4 ff x0 x1 x2 x3 x4 xf
      have l0 : (0 : Int) < ((l.length - k : Nat) : Int) := by omega
      go_wp2
      generalize w3.heap.size = B at *
      generalize w3.alloc (.cells #[.int .i64 q, .int .i64 s, .slice (some ⟨g, 0, none⟩) (l.length - k) gc, .int .i64 fr, .int .i64 b] 27) = W4 at *
      have hgl : g < W4.heap.size := owns_lt D3.own g rfl
      have hBl : B < W4.heap.size := D3.pa.lt
      obtain ⟨⟨e0, e1, e2, e3, e4⟩, ef⟩ := D3.pa.cells
      rw [hml] at e2
      have qn := Cls.any W4
      have q1 := Cls.cell hgl
      have q2 := Cls.cell hBl
      have q3 := Cls.cell hg3'
      refine wp_region_last (by kernel_rfl) (by simp) (by kernel_rfl) (by kernel_rfl) ?_
      simp only [initL, endL]
      repeat (go_big_quiet_step (fail))
      refine wpQuiet_nil ?_
      rintro _ ⟨u, rfl⟩
      have D4 := D3.below u.same
      have r2 := (u.same.cell (p := ⟨g3, k * 2 + 1, none⟩) hg3').trans r1'
      have hg4' := Nat.lt_of_lt_of_le hg3' u.same.size
      clear q1 q2 q3 qn e0 e1 e2 e3 e4 ef r0' r1' D3 hgl hBl hg3'
      generalize u.it = U at *
      have t0 := (D4.own.cellAt 4 (by omega)).trans (stepCells_at _ 0 t 4 htm (by decide))
      have tf := D4.own.frozenAt
      have D5 := D4.put (i := 0) (j := 4) (t' := { t with fr := n1 }) (u := .int .i64 n1) htm (by decide) rfl
      have D5' : RsD w (U.setCell ⟨g, 4, none⟩ (.int .i64 n1)) B q s fr b (.slice (some ⟨g, 0, none⟩) (m.set 0 { t with fr := n1 }).length gc) (m.set 0 { t with fr := n1 }) := D5
      have r3 : (U.setCell ⟨g, 4, none⟩ (.int .i64 n1)).cell? ⟨g3, k * 2 + 1, none⟩ = some (.int .i64 x.2) := by
        rw [World.cell?_setCell_other _ _ _ _ (by intro e; have := congrArg Addr.block e; simp at this; omega)]
        exact r2
      have hg5' : g3 < (U.setCell ⟨g, 4, none⟩ (.int .i64 n1)).heap.size := by simpa [World.setCell] using hg4'
      clear D5 D4 r2 hg4'
      go_wp2
      clear t0 tf
      generalize U.setCell ⟨g, 4, none⟩ (.int .i64 n1) = W5 at *
      have hn0 : (m.set 0 { t with fr := n1 })[0]? = some { t with fr := n1 } := List.getElem?_set_self (by omega)
      have hgl : g < W5.heap.size := owns_lt D5'.own g rfl
      have hBl : B < W5.heap.size := D5'.pa.lt
      obtain ⟨⟨e0, e1, e2, e3, e4⟩, ef⟩ := D5'.pa.cells
      rw [List.length_set, hml] at e2
      have qn := Cls.any W5
      have q1 := Cls.cell hgl
      have q2 := Cls.cell hBl
      have q3 := Cls.cell hg5'
      refine wp_region_last (by kernel_rfl) (by simp) (by kernel_rfl) (by kernel_rfl) ?_
      simp only [initL, endL]
      repeat (go_big_quiet_step ((go_at_call 40; exact Calls.cls_of_same (MN _))))
      refine wpQuiet_nil ?_
      rintro _ ⟨u2, rfl⟩
      have D6 := D5'.below u2.same
      clear q1 q2 q3 qn MN e0 e1 e2 e3 e4 ef r3 D5' hgl hBl hg5'
      generalize u2.it = U2 at *
      have t0 := (D6.own.cellAt 5 (by rw [List.length_set]; omega)).trans (stepCells_at _ 0 { t with fr := n1 } 5 hn0 (by decide))
      have tf := D6.own.frozenAt
      have D7 : RsD w (U2.setCell ⟨g, 5, none⟩ (.int .i64 n2)) B q s fr b (.slice (some ⟨g, 0, none⟩) (enterL m n1 n2).length gc) (enterL m n1 n2) := by
        have D7 := D6.put (i := 0) (j := 5) (t' := { t with fr := n1, by_ := n2 }) (u := .int .i64 n2) hn0 (by decide) rfl
        rw [List.set_set] at D7
        unfold enterL
        rw [htd]
        exact D7
      obtain ⟨⟨e0, e1, e2, e3, e4⟩, ef⟩ := D6.pa.cells
      rw [List.length_set, hml] at e2
      have gnB : g ≠ B := (D6.gB g rfl).1
      clear D6
      have hel : (enterL m n1 n2).length = l.length - k := by rw [enterL_length, ← hm, List.length_drop]
      go_wp2_with fail
      clear t0 tf e0 e1 e2 e3 e4 ef
      generalize U2.setCell ⟨g, 5, none⟩ (.int .i64 n2) = W7 at *
      have hAf : Calls Tryz.prog 71 #[.agg #[.int .i64 q, .int .i64 s, .slice (some ⟨g, 0, none⟩) (l.length - k) gc, .int .i64 fr, .int .i64 b], .int .i64 nw] W7
          fun e w' => e = .returned (.agg #[.int .i64 q, .int .i64 s, .slice (some ⟨g, 0, none⟩) (l.length - k) gc, .int .i64 (leftFr fr l k nw), .int .i64 b]) ∧ PathAt w' (w.heap.size + 1) 0 0 0 0 (.slice none 0 0) ∧ Below w.heap.size w w' ∧ w'.ownsRow (w.heap.size + 2) 44 7 (.slice (some ⟨g, 0, none⟩) (leftL l k n1 n2 nw).length gc) (leftL l k n1 n2 nw).length (stepCells (leftL l k n1 n2 nw)) := by
        have hh := afterS_any q s fr b nw g gc (w.heap.size + 2) (enterL m n1 n2) W7 (by rw [hel]; omega) D7.own HN.out
        rw [afterFr_enter, hel] at hh
        refine hh.mono fun e w' ⟨he, hr, hg⟩ => ⟨?_, ?_⟩
        · rw [he]; unfold leftFr; rw [hm]
        · have := D7.after (m' := leftL l k n1 n2 nw) (by rw [leftL_length, hel]) (by rw [hel]; unfold leftL; rw [hm]; exact hr) hg
          exact this
      refine hAf.mono ?_
      rintro e w8 ⟨rfl, Z8, B8, ho8⟩
      have hlL : (leftL l k n1 n2 nw).length = l.length - k := leftL_length l k n1 n2 nw
      have hCa := canS_any q s (leftFr fr l k nw) b g gc (w.heap.size + 2) (leftL l k n1 n2 nw) w8 (left_wide HP.out hk hx hy HN.out.1) ho8 (by have := Z8.lt; omega)
      rw [hlL] at hCa
      clear hAf D7 ho8
      generalize canA q s (leftFr fr l k nw) b (leftL l k n1 n2 nw) = A at hCa HA
      go_wp2_with fail
      refine hCa.mono ?_
      rintro e w9 ⟨hb9, v9, rfl, ho9⟩
      obtain ⟨a9, j9, c9, hv9, _⟩ := steps_of ho9
      subst hv9
      have Z9 := Z8.keep hb9 Z8.lt
      have B9 := B8.trans (hb9.mono B8.size)
      obtain ⟨⟨f0, f1, f2, f3, f4⟩, ff⟩ := Z9.cells
      clear hb9 Z8 B8 hCa
      go_wp2
      refine bodyPost_ret (v := .tuple #[.agg #[.int .i64 A.q, .int .i64 A.s, .slice a9 A.l.length c9, .int .i64 A.fr, .int .i64 A.b], .bool A.ok]) (by simp [results, Tryz.results23, go_sem, *]) rfl ?_
      rw [HA.out]
      refine ⟨_, rfl, ?_, ?_⟩
      · have hh : ∀ j, (Value.slice a9 A.l.length c9).ownBlock = some j → j ≠ w.heap.size + 1 := fun j e => by have := owns_base ho9 j e; omega
        iterate 5 (refine owns_set ?_ hh _ _)
        exact ⟨ho9.1, ho9.2.imp id fun ⟨g, cap, cur, h1, h2, h3⟩ => ⟨g, cap, cur, h1, by omega, h3⟩⟩
      · iterate 5 (refine Below.setCell ?_ (by show _ ≤ w.heap.size + 1; omega) _)
        exact B9
end Go.Proofs.YtijcdikekgmfoaaGreatDoor

namespace Go.Proofs.YtijcdikekgmfoaaGreatDoor
open Go.RowKit

theorem sameB_refl (t : Stp) : sameB t t = true := by simp [sameB]

set_option maxRecDepth 20000 in
set_option maxHeartbeats 4000000 in
theorem wfPath_same (q s fr b : Int) (a a' : Option Addr) (b0 o cap b0' o' cap' : Nat) (l : List Stp) (w : World) (hl : l.length ≤ 1048576) (hs : StepsAt w a b0 o l) (hs' : StepsAt w a' b0' o' l) :
    Calls Tryz.prog 24 #[.agg #[.int .i64 q, .int .i64 s, .slice a l.length cap, .int .i64 fr, .int .i64 b], .agg #[.int .i64 q, .int .i64 s, .slice a' l.length cap', .int .i64 fr, .int .i64 b]] w
      fun e w' => e = .returned (.bool true) ∧ Below w.heap.size w w' := by
  have P0 := PathAt.new (w.alloc (.cells #[.int .i64 q, .int .i64 s, .slice a l.length cap, .int .i64 fr, .int .i64 b] 27)) q s fr b (.slice a' l.length cap')
  rw [World.size_alloc] at P0
  have Q0 := (PathAt.new w q s fr b (.slice a l.length cap)).keep ((Below.refl _ _).alloc (Nat.le_refl _) (.cells #[.int .i64 q, .int .i64 s, .slice a' l.length cap', .int .i64 fr, .int .i64 b] 27)) (PathAt.new w q s fr b (.slice a l.length cap)).lt
  have B0 : Below w.heap.size w ((w.alloc (.cells #[.int .i64 q, .int .i64 s, .slice a l.length cap, .int .i64 fr, .int .i64 b] 27)).alloc (.cells #[.int .i64 q, .int .i64 s, .slice a' l.length cap', .int .i64 fr, .int .i64 b] 27)) := ((Below.refl _ _).alloc (Nat.le_refl _) _).alloc (by simp) _
  have nek := run_neq_kind q s q s
  rw [show kindEq q s q s = true by simp [kindEq]] at nek
  go_enter Tryz.func24, Tryz.ntmps24
  go_wp2
  clear nek
  go_loopw [5] (fun s5 wr => ∃ k : Nat, s5 = .int .i64 (k : Int) ∧ k ≤ l.length ∧ Below w.heap.size w wr ∧ PathAt wr w.heap.size q s fr b (.slice a l.length cap) ∧ PathAt wr (w.heap.size + 1) q s fr b (.slice a' l.length cap')) (fun s5 _ => l.length - (intOf s5).toNat)
  case atStart => exact ⟨0, rfl, by omega, B0, Q0, P0⟩
  case round =>
    clear P0 Q0 B0
    obtain ⟨k, rfl, hk, hb, Q, P⟩ := hrel
    obtain ⟨⟨p0, p1, p2, p3, p4⟩, _⟩ := Q.cells
    obtain ⟨⟨r0, r1, r2, r3, r4⟩, _⟩ := P.cells
    have k0 : (0 : Int) ≤ (k : Int) := by omega
    by_cases g1 : k < l.length
    · have k1 : (k : Int) < (l.length : Int) := by omega
      obtain ⟨t, ht⟩ : ∃ t, l[k]? = some t := ⟨_, List.getElem?_eq_getElem g1⟩
      have hne : l ≠ [] := by intro e; subst e; simp at g1
      obtain rfl := hs.here hne
      obtain rfl := hs'.here hne
      obtain ⟨c0, c1, c2, c3, c4, c5, c6⟩ := (hs.below hb hs.lt).seven ht
      obtain ⟨e0, e1, e2, e3, e4, e5, e6⟩ := (hs'.below hb hs'.lt).seven ht
      have nes := run_neq_step t t
      rw [sameB_refl] at nes
      have HB : Hid (Below w.heap.size w wr) := hb
      have HQ : Hid (PathAt wr w.heap.size q s fr b (.slice (some ⟨b0, o, none⟩) l.length cap)) := Q
      have HP : Hid (PathAt wr (w.heap.size + 1) q s fr b (.slice (some ⟨b0', o', none⟩) l.length cap')) := P
      clear ht hb Q P
      go_wp2
      go_quiet (fail)
      go_wp2
      go_roundw
      case rel => exact ⟨k + 1, by simp, by omega, HB.out.trans ⟨rfl, rfl, rfl, Nat.le_refl _, fun _ _ => rfl⟩, ⟨HQ.out.it⟩, ⟨HP.out.it⟩⟩
      case measure => simp [intOf]; omega
    · obtain rfl : k = l.length := by omega
      go_wp2
      go_ret
      exact ⟨rfl, hb⟩
end Go.Proofs.YtijcdikekgmfoaaGreatDoor

namespace Go.Proofs.YtijcdikekgmfoaaGreatDoor
open Go.RowKit

theorem own_slice {w : World} {base : Nat} {v : Value} {l : List Stp} (h : w.ownsRow base 44 7 v l.length (stepCells l)) : ∃ a b cap, v = .slice a l.length cap ∧ StepsAt w a b 0 l := by
  rcases h.2 with ⟨rfl, h0⟩ | ⟨g, cap, cur, rfl, _⟩
  · have : l = [] := List.eq_nil_of_length_eq_zero h0
    subst this
    exact ⟨none, 0, 0, rfl, ⟨fun h => absurd rfl h, fun h => absurd rfl h, fun i t hi => by simp at hi⟩⟩
  · exact ⟨some ⟨g, 0, none⟩, g, cap, rfl, steps_owned h⟩
theorem own_ints {w : World} {base : Nat} {v : Value} {zs : List Int} (h : w.ownsRow base 3 1 v zs.length (intCells zs)) : ∃ a b cap, v = .slice a zs.length cap ∧ IntsAt w a b 0 zs := by
  rcases h.2 with ⟨rfl, h0⟩ | ⟨g, cap, cur, rfl, _⟩
  · have : zs = [] := List.eq_nil_of_length_eq_zero h0
    subst this
    exact ⟨none, 0, 0, rfl, ⟨fun h => absurd rfl h, fun h => absurd rfl h, fun i t hi => by simp at hi⟩⟩
  · refine ⟨some ⟨g, 0, none⟩, g, cap, rfl, ⟨fun _ => rfl, fun _ => (h.lt g rfl).2, fun i z hi => ?_⟩⟩
    have hil := (List.getElem?_eq_some_iff.1 hi).1
    rw [Nat.zero_add]
    refine (h.cellAt i (by omega)).trans ?_
    simp [intCells, List.getElem?_map, hi]

/-- The ticks of the first flight are ticks. -/
theorem first_range {q s fr b : Int} {l : List Stp} {k : Nat} {z : Int} (h : ((flyL q s fr b l).map (·.1))[k]? = some z) : 0 ≤ z ∧ z ≤ 10000 := by
  unfold flyL at h
  split at h
  · rename_i hp
    unfold spansL at h
    split at h
    · rename_i hs
      rw [List.map_map, List.getElem?_map] at h
      obtain ⟨j, hj, rfl⟩ := Option.map_eq_some_iff.1 h
      have hj' := List.mem_range.1 (List.mem_of_getElem? hj)
      have h1 := span_lo hp hs (show j ≤ l.length by omega)
      refine ⟨h1, ?_⟩
      have hb := hs
      unfold spanB at hb
      have h2 := (Bool.and_eq_true_iff.1 hb).2
      simp only [bwdTo, List.all_eq_true, List.mem_range, someB, decide_eq_true_eq] at h2
      have h3 := h2 (l.length - j) (by omega)
      have h4 : (bwdS q s fr b l l.length (l.length - j)).2 ≤ 10000 := by
        have hf := fwd_range hp (l.length - (l.length - j))
        cases hm : l.length - j with
        | zero => rw [hm, Nat.sub_zero] at hf; simp only [bwdS]; exact hf.2
        | succ i =>
          rw [hm] at hf
          simp only [bwdS]
          have := mnB_le (fwdS q s fr b l (l.length - (i + 1))).2 ((bwdS q s fr b l l.length i).2 - q)
          omega
      show (bwdS q s fr b l l.length (l.length - j)).1 ≤ 10000
      omega
    · simp at h
  · simp at h

end Go.Proofs.YtijcdikekgmfoaaGreatDoor

namespace Go.Proofs.YtijcdikekgmfoaaGreatDoor
open Go.RowKit

theorem fbox_info : (Tryz.prog.info? 80).map (fun i => (i.zero, i.size, i.bytes)) = some (some (.agg #[.int .i64 0, .int .i64 0, .int .i64 0, .int .i64 0, .int .i64 0, .int .i64 0]), 6, 48) := by kernel_rfl
theorem rowC_snocF (l : List Bx) (s : Bx) : rowC (l ++ [s]) = rowC l ++ s.cells := by rw [rowC_append, rowC_one]
theorem six_newF (w : World) (s : Bx) (t : TypeId) : ∀ (j : Nat) (u : Value), s.cells[j]? = some u → (w.alloc (.cells #[.int .i64 s.x, .int .i64 s.y, .int .i64 s.lo, .int .i64 s.hi, .int .i64 s.in_, .int .i64 s.out] t)).cell? ((⟨w.heap.size, 0, none⟩ : Addr).add j) = some u := by
  intro j u hj
  match j, hj with
  | 0, hj => simp at hj; subst hj; simp [Addr.add, go_sem]
  | 1, hj => simp at hj; subst hj; simp [Addr.add, go_sem]
  | 2, hj => simp at hj; subst hj; simp [Addr.add, go_sem]
  | 3, hj => simp at hj; subst hj; simp [Addr.add, go_sem]
  | 4, hj => simp at hj; subst hj; simp [Addr.add, go_sem]
  | 5, hj => simp at hj; subst hj; simp [Addr.add, go_sem]

/-- What lies while the tube is laid: all that lay, the spans, the boxes up to now. -/
structure TbW (w wr : World) (N : Nat) (vs : Value) (F : List (Int × Int)) (v : Value) (m : List Bx) : Prop where
  old : Below w.heap.size w wr
  lt : N ≤ wr.heap.size
  sp : wr.ownsRow w.heap.size 56 2 vs F.length (spanCells F)
  spN : ∀ k, vs.ownBlock = some k → k < N
  own : wr.ownsRow N 80 6 v m.length (rowC m)
section
variable {w wr w' : World} {N : Nat} {vs v : Value} {F : List (Int × Int)} {m : List Bx}
theorem TbW.keep (h : TbW w wr N vs F v m) (hb : Below wr.heap.size wr w') : TbW w w' N vs F v m :=
  ⟨h.old.trans (hb.mono h.old.size), Nat.le_trans h.lt hb.size, owns_below h.sp hb, h.spN, owns_below h.own hb⟩
theorem TbW.push {v7 : Value} {t : Bx} (h : TbW w wr N vs F v m) (hN : w.heap.size ≤ N) (hg : wr.grownBy w' v.ownBlock) (ho : w'.ownsRow N 80 6 v7 (m.length + 1) (rowC m ++ t.cells)) : TbW w w' N vs F v7 (m ++ [t]) := by
  have hbase := owns_base h.own
  refine ⟨h.old.grown hg h.old.size (fun k e => by have := hbase k e; omega), Nat.le_trans h.lt hg.size, ?_, h.spN, ?_⟩
  · refine h.sp.kept hg ?_
    cases e : vs.ownBlock with
    | none => exact Or.inl rfl
    | some k => exact Or.inr (fun e2 => by have := h.spN k e; have := hbase k e2.symm; omega)
  · rw [rowC_snocF, List.length_append]
    exact ho
end
theorem spanCells_two' {F : List (Int × Int)} {k : Nat} (h : k < F.length) : (spanCells F)[k * 2]? = some (.int .i64 (F.getD k (0, 0)).1) ∧ (spanCells F)[k * 2 + 1]? = some (.int .i64 (F.getD k (0, 0)).2) :=
  spanCells_get F k _ (by rw [List.getD_eq_getElem?_getD, List.getElem?_eq_getElem h]; rfl)
theorem flyL_len {q s fr b : Int} {l : List Stp} (h : flyB q s fr b l = true) : (flyL q s fr b l).length = l.length + 1 := by
  unfold flyB at h
  obtain ⟨h1, h2⟩ := Bool.and_eq_true_iff.1 h
  unfold flyL spansL
  rw [if_pos h1, if_pos h2]
  simp
theorem fly_len {q s fr b : Int} {l : List Stp} (h : flyB q s fr b l = true) : l.length ≤ 40 := by
  unfold flyB at h
  have := path_len (Bool.and_eq_true_iff.1 h).1
  omega

set_option maxRecDepth 20000 in
set_option maxHeartbeats 4000000 in
theorem flyTubeI_any (hI : SpansSaid) (q s fr b : Int) (a : Option Addr) (b0 o cap : Nat) (l : List Stp) (w : World) (hl : l.length ≤ 1048576) (hs : StepsAt w a b0 o l) :
    Calls Tryz.prog 11 #[.agg #[.int .i64 q, .int .i64 s, .slice a l.length cap, .int .i64 fr, .int .i64 b]] w
      fun e w' => ∃ v, e = .returned v ∧ w'.ownsRow w.heap.size 80 6 v (tubeL q s fr b l).length (rowC (tubeL q s fr b l)) ∧ Below w.heap.size w w' := by
  obtain ⟨i0, hi, hz0, hz1, hz2⟩ := info_parts fbox_info
  have hr := fly_range q s fr b l
  have P0 := BoxP.new w q s fr b (.slice a l.length cap) 27
  go_enter Tryz.func11, Tryz.ntmps11
  go_wp2_with fail
  refine (hI _ _ _ _ _ b0 o _ _ _ hl (hs.below ((Below.refl _ _).alloc (Nat.le_refl _) _) hs.lt)).mono ?_
  rintro e w1 ⟨vs, rfl, hsp, hb1⟩
  have P1 := P0.below hb1
  have B1 : Below w.heap.size w w1 := ((Below.refl _ _).alloc (Nat.le_refl _) _).trans (hb1.mono (by simp))
  cases hf : flyB q s fr b l with
  | false =>
    have G : Hid (tubeL q s fr b l = []) := by show _ = _; unfold tubeL; rw [hf]; rfl
    go_wp2
    go_ret
    exact ⟨_, rfl, by rw [G.out]; exact World.ownsRow_nil _ _ _ _, B1⟩
  | true =>
    have G : Hid (tubeL q s fr b l = tubeTo (flyL q s fr b l) l l.length) := by show _ = _; unfold tubeL; rw [hf]; rfl
    have hF := flyL_len hf
    have h40 := fly_len hf
    obtain ⟨g, gc, rfl, hg1, hg2⟩ := owns_some hsp (by omega)
    rw [hF]
    generalize flyL q s fr b l = F at *
    have T1 : TbW w w1 w1.heap.size (.slice (some ⟨g, 0, none⟩) F.length gc) F (.slice none 0 0) (tubeTo F l 0) := ⟨B1, Nat.le_refl _, ⟨hsp.1, hsp.2.imp id fun ⟨g, cap, cur, h1, h2, h3⟩ => ⟨g, cap, cur, h1, Nat.le_trans (by simp) h2, h3⟩⟩, owns_lt hsp, World.ownsRow_nil _ _ _ _⟩
    have p2 := P1.p2
    go_wp2
    have hN : w.heap.size ≤ w1.heap.size := B1.size
    clear P0 P1 p2 hb1 B1 hsp
    generalize w1.heap.size = N at *
    go_loopw [5, 19] (fun v x wr => ∃ k : Nat, k ≤ l.length ∧ x = .int .i64 k ∧ TbW w wr N (.slice (some ⟨g, 0, none⟩) F.length gc) F v (tubeTo F l k)) (fun _ x _ => l.length - (intOf x).toNat)
    case atStart => exact ⟨0, Nat.zero_le _, rfl, T1⟩
    case round =>
      clear T1
      obtain ⟨k, hk, rfl, hT⟩ := hrel
      by_cases hlt : k < l.length
      · obtain ⟨t, ht⟩ : ∃ t, l[k]? = some t := ⟨l[k], List.getElem?_eq_getElem hlt⟩
        have hne : l ≠ [] := by intro e; subst e; simp at hlt
        obtain rfl := hs.here hne
        obtain ⟨c0, c1, c2, c3, c4, c5, c6⟩ := (hs.below hT.old hs.lt).seven ht
        have s0 := (hT.sp.cellAt (k * 2) (by omega)).trans (spanCells_two' (F := F) (k := k) (by omega)).1
        have s1 := (hT.sp.cellAt ((k + 1) * 2 + 1) (by omega)).trans (spanCells_two' (F := F) (k := k + 1) (by omega)).2
        have hgr := owns_lt hT.sp g rfl
        have k0 : (0 : Int) ≤ (k : Int) := by omega
        have k1 : (k : Int) < (l.length : Int) := by omega
        have k2 : (k : Int) + 1 < (l.length : Int) + 1 := by omega
        have k3 : (0 : Int) ≤ (k : Int) + 1 := by omega
        have k4 : (k : Int) < (l.length : Int) + 1 := by omega
        obtain ⟨hh1, hh2⟩ := hr (k + 1)
        have HB : Hid (tubeTo F l (k + 1) = tubeTo F l k ++ [⟨t.x, t.y, t.lo, t.hi, (F.getD k (0, 0)).1, (F.getD (k + 1) (0, 0)).2 - 1⟩]) := by
          show _ = _
          rw [tubeTo_succ]
          unfold tubeAt
          rw [List.getD_eq_getElem?_getD (l := l), ht]
          rfl
        have hlen := tubeTo_length F l k
        clear ht
        generalize hi1 : (F.getD k (0, 0)).1 = in1 at *
        generalize ho1 : (F.getD (k + 1) (0, 0)).2 = out1 at *
        clear hi1 ho1
        have wr1 : IntKind.i64.wrap (out1 - 1) = out1 - 1 := by rw [IntKind.wrap_i64]; omega
        go_wp2
        have T3 := ((hT.keep ((Below.refl wr.heap.size wr).alloc (Nat.le_refl _) (.cells #[.int .i64 t.x, .int .i64 t.y, .int .i64 t.lo, .int .i64 t.hi, .int .i64 t.fr, .int .i64 t.by_, .bool t.ho] 44))).keep ((Below.refl _ _).alloc (Nat.le_refl _) (.cells #[.int .i64 t.x, .int .i64 t.y, .int .i64 t.lo, .int .i64 t.hi, .int .i64 in1, .int .i64 (out1 - 1)] 80))).keep ((Below.refl _ _).drew)
        have hnw : ∀ (j : Nat) (u : Value), (Bx.cells ⟨t.x, t.y, t.lo, t.hi, in1, out1 - 1⟩)[j]? = some u → (((wr.alloc (.cells #[.int .i64 t.x, .int .i64 t.y, .int .i64 t.lo, .int .i64 t.hi, .int .i64 t.fr, .int .i64 t.by_, .bool t.ho] 44)).alloc (.cells #[.int .i64 t.x, .int .i64 t.y, .int .i64 t.lo, .int .i64 t.hi, .int .i64 in1, .int .i64 (out1 - 1)] 80)).drew).cell? ((⟨wr.heap.size + 1, 0, none⟩ : Addr).add j) = some u := by
          intro j u hj
          have := six_newF (wr.alloc (.cells #[.int .i64 t.x, .int .i64 t.y, .int .i64 t.lo, .int .i64 t.hi, .int .i64 t.fr, .int .i64 t.by_, .bool t.ho] 44)) ⟨t.x, t.y, t.lo, t.hi, in1, out1 - 1⟩ 80 j u hj
          rw [World.size_alloc] at this
          exact this
        have hvb := owns_lt hT.own
        have hNw := hT.lt
        go_region_held3 (fun w' => w'.cell? ⟨wr.heap.size, 0, none⟩ = some (.int .i64 t.x) ∧ w'.cell? ⟨wr.heap.size, 1, none⟩ = some (.int .i64 t.y) ∧ w'.cell? ⟨wr.heap.size, 2, none⟩ = some (.int .i64 t.lo) ∧ w'.cell? ⟨wr.heap.size, 3, none⟩ = some (.int .i64 t.hi) ∧ w'.cell? ⟨g, k * 2, none⟩ = some (.int .i64 in1))
          (simp [go_sem, World.cell?_alloc_lt, *])
          (first
            | (refine wp_append_own _ (.tmp 31) (.tmp 47) 37 rfl N 80 i0 (.agg #[.int .i64 0, .int .i64 0, .int .i64 0, .int .i64 0, .int .i64 0, .int .i64 0]) 6 48 Tryz.underlying37 hi hz0 hz1 hz2 rfl (by decide) u5 _ _ rfl T3.own ⟨wr.heap.size + 1, 0, none⟩ 1 1 (Bx.cells ⟨t.x, t.y, t.lo, t.hi, in1, out1 - 1⟩) rfl rfl hnw (by simp [Value.oneCell']) (by unfold maxLen; omega) (by omega) (by simp; omega) ?_; intro v7 w7 hown7 hgrow7 hnil7; have e0 : ∀ j, w7.cell? ⟨wr.heap.size, j, none⟩ = _ := (fun j => World.cell?_of_block (a := ⟨wr.heap.size, j, none⟩) (hgrow7.block wr.heap.size (by simp; omega) (fun e => by have := hvb _ e.symm; omega))); have e1 : ∀ j, w7.cell? ⟨g, j, none⟩ = _ := (fun j => World.cell?_of_block (a := ⟨g, j, none⟩) (hgrow7.block g (by simp; omega) (fun e => by have := hT.spN g rfl; have := owns_base hT.own _ e.symm; omega)))))
        go_wp2
        go_roundw
        case rel => exact ⟨k + 1, by omega, by go_num, by rw [HB.out]; exact T3.push hN hgrow7 hown7⟩
        case measure => simp [intOf]; omega
      · obtain rfl : k = l.length := by omega
        go_wp2
        go_ret
        obtain ⟨av, cv, rfl⟩ : ∃ a c, u5 = .slice a (tubeTo F l l.length).length c := by
          rcases hT.own.2 with ⟨rfl, h0⟩ | ⟨g, cap, cur, rfl, _⟩
          · exact ⟨none, 0, by rw [h0]⟩
          · exact ⟨_, _, rfl⟩
        refine ⟨_, rfl, ?_, hT.old⟩
        rw [G.out]
        exact ⟨hT.own.1, hT.own.2.imp id fun ⟨g, cap, cur, h1, h2, h3⟩ => ⟨g, cap, cur, h1, Nat.le_trans hN h2, h3⟩⟩
end Go.Proofs.YtijcdikekgmfoaaGreatDoor

namespace Go.Proofs.YtijcdikekgmfoaaGreatDoor
open Go.RowKit

theorem int_check (em : Bool) (n : Nat) (i : Int) (w : World) : (Instr.checkKey em (n + 1) 3 (.int .i64 i)).run Tryz.prog w = .ok () w := by
  simp [Instr.checkKey, run_underlying Tryz.underlying3, Result.andThen]
theorem int_equal (n : Nat) (i j : Int) (w : World) : (Op.equalIn (n + 1) 3 (.int .i64 i) (.int .i64 j)).run Tryz.prog w = .ok (i == j) w := by
  simp [Op.equalIn, run_underlying Tryz.underlying3, Result.andThen]
theorem int_part0 (i j : Int) (w : World) : (part 3 #[.int .i64 i, .int .i64 j] 0).run Tryz.prog w = .ok (.int .i64 i) w := by
  simp [part, isAgg, run_underlying Tryz.underlying3, Result.andThen]
theorem int_part1 (i j : Int) (w : World) : (part 3 #[.int .i64 i, .int .i64 j] 1).run Tryz.prog w = .ok (.int .i64 j) w := by
  simp [part, isAgg, run_underlying Tryz.underlying3, Result.andThen]

theorem cell_check (w : World) (em : Bool) (n : Nat) (i j : Int) : (Instr.checkKey em (n + 1 + 1) 87 (keyV i j)).run Tryz.prog w = .ok () w := by
  rw [Instr.checkKey]
  simp [run_underlying Tryz.underlying87, Result.andThen, int_check, int_part0, int_part1]
theorem cell_equal (w : World) (n : Nat) (i j i' j' : Int) : (Op.equalIn (n + 1 + 1) 87 (keyV i j) (keyV i' j')).run Tryz.prog w = .ok (decide (i = i' ∧ j = j')) w := by
  rw [Op.equalIn]
  by_cases h1 : i = i'
  · by_cases h2 : j = j'
    · simp [run_underlying Tryz.underlying87, Result.andThen, int_equal, int_part0, int_part1, h1, h2]
    · simp [run_underlying Tryz.underlying87, Result.andThen, int_equal, int_part0, int_part1, h1, h2]
  · simp [run_underlying Tryz.underlying87, Result.andThen, int_equal, int_part0, h1]
theorem cell_stays (w : World) (i j : Int) : (Instr.keyThatStays (keyV i j) (keyV i j)).run Tryz.prog w = .ok (keyV i j) w := by
  have h : Instr.sameBits (9998 + 1 + 1) (keyV i j) (keyV i j) = true := by simp [Instr.sameBits]
  simp [Instr.keyThatStays, h]

theorem cell_key : CellKey Tryz.prog 87 where
  check w em i j := cell_check w em 9998 i j
  equal w i j i' j' := cell_equal w 9998 i j i' j'
  stays w i j := cell_stays w i j
  plain := ⟨_, Tryz.underlying87⟩
end Go.Proofs.YtijcdikekgmfoaaGreatDoor

namespace Go.Proofs.YtijcdikekgmfoaaGreatDoor
open Go.RowKit

theorem roomOf_any (x y lo hi i o : Int) (w : World) :
    Calls Tryz.prog 60 #[.agg #[.int .i64 x, .int .i64 y, .int .i64 lo, .int .i64 hi, .int .i64 i, .int .i64 o]] w
      fun e w' => e = .returned (.agg #[.int .i64 x, .int .i64 y, .int .i64 lo, .int .i64 hi, .int .i64 i, .int .i64 o]) ∧ Below w.heap.size w w' := by
  go_enter Tryz.func60, Tryz.ntmps60
  go_wp2
  refine bodyPost_ret (v := .agg #[.int .i64 x, .int .i64 y, .int .i64 lo, .int .i64 hi, .int .i64 i, .int .i64 o]) (by simp [results, Tryz.results60, go_sem]) rfl ⟨rfl, ?_⟩
  exact ((Below.refl _ _).alloc (Nat.le_refl _) _).alloc (by simp) _

theorem spanIn_any (a b c d : Int) (w : World) :
    Calls Tryz.prog 104 #[.agg #[.int .i64 a, .int .i64 b], .agg #[.int .i64 c, .int .i64 d]] w fun e w' => e = .returned (.bool (decide (c ≤ a) && decide (b ≤ d))) ∧ Below w.heap.size w w' := by
  have hb : ∀ c1 c2 : Array Value, Below w.heap.size w ((w.alloc (.cells c1 56)).alloc (.cells c2 56)) := fun c1 c2 => ((Below.refl w.heap.size w).alloc (Nat.le_refl _) _).alloc (by simp) _
  rcases Bool.eq_false_or_eq_true (decide (c ≤ a)) with h1 | h1
  all_goals
    go_enter Tryz.func104, Tryz.ntmps104
    go_wp2
    go_ret
    exact ⟨by simp [h1], hb _ _⟩

theorem room_info : (Tryz.prog.info? 89).map (fun i => (i.zero, i.size, i.bytes)) = some (some (.agg #[.int .i64 0, .int .i64 0, .int .i64 0, .int .i64 0, .int .i64 0, .int .i64 0]), 6, 48) := by kernel_rfl
theorem rooms_zero (w : World) : (zeroValue 149).run Tryz.prog w = .ok (.slice none 0 0) w := by kernel_rfl

theorem six_new (w : World) (s : Bx) (t : TypeId) : ∀ (j : Nat) (u : Value), s.cells[j]? = some u → (w.alloc (.cells #[.int .i64 s.x, .int .i64 s.y, .int .i64 s.lo, .int .i64 s.hi, .int .i64 s.in_, .int .i64 s.out] t)).cell? ((⟨w.heap.size, 0, none⟩ : Addr).add j) = some u := by
  intro j u hj
  match j, hj with
  | 0, hj => simp at hj; subst hj; simp [Addr.add, go_sem]
  | 1, hj => simp at hj; subst hj; simp [Addr.add, go_sem]
  | 2, hj => simp at hj; subst hj; simp [Addr.add, go_sem]
  | 3, hj => simp at hj; subst hj; simp [Addr.add, go_sem]
  | 4, hj => simp at hj; subst hj; simp [Addr.add, go_sem]
  | 5, hj => simp at hj; subst hj; simp [Addr.add, go_sem]

theorem six_new2 (w : World) (s : Bx) (o : Obj) (t : TypeId) : ∀ (j : Nat) (u : Value), s.cells[j]? = some u → ((w.alloc o).alloc (.cells #[.int .i64 s.x, .int .i64 s.y, .int .i64 s.lo, .int .i64 s.hi, .int .i64 s.in_, .int .i64 s.out] t)).cell? ((⟨w.heap.size + 1, 0, none⟩ : Addr).add j) = some u := by
  intro j u hj
  have := six_new (w.alloc o) s t j u hj
  rwa [World.size_alloc] at this

set_option maxHeartbeats 2000000 in
set_option maxRecDepth 20000 in
theorem rooms_any (a : Option Addr) (b o cap : Nat) (l : List Bx) (w : World) (hl : l.length ≤ 1048576) (hs : BoxesAt w a b o l) :
    Calls Tryz.prog 62 #[.slice a l.length cap] w fun e w' => e = .returned (.map (some w.heap.size)) ∧ Groups w' w.heap.size (w.heap.size + 1) 89 l ∧ Below w.heap.size w w' := by
  obtain ⟨i0, hi, hz0, hz1, hz2⟩ := info_parts room_info
  have hmm := @run_makeMap Tryz.prog
  go_enter Tryz.func62, Tryz.ntmps62
  go_wp2
  clear hmm
  go_loopw [10] (fun v wr => ∃ k : Nat, k ≤ l.length ∧ v = .int .i64 k ∧ Below w.heap.size w wr ∧ Groups wr w.heap.size (w.heap.size + 1) 89 (l.take k)) (fun v _ => l.length - (intOf v).toNat)
  case atStart => exact ⟨0, Nat.zero_le _, rfl, (Below.refl _ _).alloc (Nat.le_refl _) _, Groups_made w _⟩
  case round =>
    obtain ⟨k, hk, rfl, hb, hG⟩ := hrel
    by_cases hlt : k < l.length
    · obtain ⟨s, hsk⟩ : ∃ s, l[k]? = some s := ⟨l[k], List.getElem?_eq_getElem hlt⟩
      have hne : l ≠ [] := by intro e; subst e; simp at hlt
      obtain rfl := hs.here hne
      have hbw := hs.lt hne
      obtain ⟨c0, c1, c2, c3, c4, c5⟩ := (hs.below hb (fun _ => hbw)).six hsk
      have k0 : (0 : Int) ≤ (k : Int) := by omega
      have k1 : (k : Int) < (l.length : Int) := by omega
      have HS : Hid (l[k]? = some s) := hsk
      clear hsk
      go_wp2_with fail
      refine (roomOf_any _ _ _ _ _ _ _).mono ?_
      rintro e w2 ⟨rfl, hb2⟩
      have hb02 : Below wr.heap.size wr w2 := ((Below.refl _ _).alloc (Nat.le_refl _) _).trans (hb2.mono (by simp))
      have hG2 := hG.below hb02
      clear hb2
      have hlk : (atC (l.take k) s.x s.y).length ≤ 1048576 := by
        have h1 : (atC (l.take k) s.x s.y).length ≤ (l.take k).length := List.length_filter_le _ _
        have h2 := List.length_take_le k l
        omega
      have hz := hG2.lt
      go_wp2_with (first
        | (refine wpList_mapEntry_cells _ rfl (.tmp 16) (.tmp 18) 92 rfl 87 149 89 cell_key Tryz.underlying92 (rooms_zero _) (w.heap.size + 1) w.heap.size (l.take k) rfl (hG2.below (((Below.refl _ _).alloc (Nat.le_refl _) _).alloc (by simp) _)) s.x s.y rfl ?_; intro v c w3 hown3 hgr3 hsz3 hback3)
        | (at_builtin; refine wpList_append_own_at _ rfl (.tmp 19) (.tmp 21) 149 rfl (w.heap.size + 1) 89 i0 (.agg #[.int .i64 0, .int .i64 0, .int .i64 0, .int .i64 0, .int .i64 0, .int .i64 0]) 6 48 Tryz.underlying149 hi hz0 hz1 hz2 rfl (by decide) v _ _ rfl hown3 ⟨w2.heap.size + 1, 0, none⟩ 1 1 s.cells rfl rfl (fun j u hj => hgr3.cell (six_new2 w2 s _ _ j u hj) (by rw [Addr.add_mid]; simp; omega)) (by simp [Value.oneCell']) (by unfold maxLen; omega) (by omega) (by rw [hsz3]; simp; omega) ?_; intro v' w4 hown4 hgrow4 hnil4 hat4)
        | (refine wpList_entryStore_cells _ rfl (.tmp 16) (.tmp 24) (.tmp 23) 92 rfl s hback3 rfl rfl rfl rfl rfl hgrow4 hown4 (hat4.imp id (fun h => ⟨_, h, Nat.le_refl _⟩)) ?_; intro w5 hG5 hgr5))
      go_roundw
      case rel =>
        refine ⟨k + 1, by omega, by go_num, ?_, ?_⟩
        · have b2 : Below w.heap.size w w2 := hb.trans (hb02.mono hb.size)
          have b3 := ((b2.alloc (by omega) (.cells #[.int .i64 s.x, .int .i64 s.y, .int .i64 s.lo, .int .i64 s.hi, .int .i64 s.in_, .int .i64 s.out] 89)).alloc (by simp; omega) (.cells #[.int .i64 s.x, .int .i64 s.y, .int .i64 s.lo, .int .i64 s.hi, .int .i64 s.in_, .int .i64 s.out] 89)).grown hgr3 (by simp; omega) (fun j e => by cases e; exact Nat.le_refl _)
          have b4 := b3.grown hgrow4 (by rw [hsz3]; simp; omega) (fun j e => by have := (hown3.lt j e).1; omega)
          exact b4.grown hgr5 (by have := hgrow4.size; rw [hsz3] at this; simp at this; omega) (fun j e => by cases e; exact Nat.le_refl _)
        · rw [List.take_add_one, HS.out]
          exact hG5
      case measure => simp [intOf]; omega
    · obtain rfl : k = l.length := by omega
      go_wp2
      go_ret
      refine ⟨rfl, ?_, hb⟩
      rw [List.take_length] at hG
      exact hG
end Go.Proofs.YtijcdikekgmfoaaGreatDoor

namespace Go.Proofs.YtijcdikekgmfoaaGreatDoor
open Go.RowKit

/-- The levels and the ticks are within those of s. -/
def levIn (s : Bx) (lo hi : Int) : Bool := decide (s.lo ≤ lo) && decide (hi ≤ s.hi)
def tickIn (s : Bx) (i o : Int) : Bool := decide (s.in_ ≤ i) && decide (o ≤ s.out)

theorem any_at (l : List Bx) (x y lo hi i o : Int) : (l.any fun s => coverB s ⟨x, y, lo, hi, i, o⟩) = (atC l x y).any fun s => levIn s lo hi && tickIn s i o := by
  unfold atC
  rw [List.any_filter]
  congr 1
  funext s
  unfold coverB levIn tickIn
  rw [Bool.eq_iff_iff]
  simp
  omega

theorem owns_boxes {w : World} {base : Nat} {e : TypeId} {v : Value} {m : List Bx} (h : w.ownsRow base e 6 v m.length (rowC m)) : ∃ a g cap, v = .slice a m.length cap ∧ BoxesAt w a g 0 m := by
  rcases h.2 with ⟨rfl, h0⟩ | ⟨g, cap, cur, rfl, hg, hh, hn, hc, hs, ht⟩
  · have : m = [] := List.length_eq_zero_iff.1 h0
    subst this
    exact ⟨none, 0, 0, rfl, ⟨fun h => absurd rfl h, fun h => absurd rfl h, fun i s hi => by simp at hi⟩⟩
  · refine ⟨some ⟨g, 0, none⟩, g, cap, rfl, ⟨fun _ => rfl, fun _ => lt_of_block hh, fun i s hi j u hu => ?_⟩⟩
    have h1 := rowC_get m i s hi j u hu
    rw [← ht] at h1
    rw [Nat.zero_add, cell_of_row w g (i * 6 + j) cur _ _ hh]
    rw [List.getElem?_take] at h1
    split at h1
    · simpa using h1
    · cases h1

theorem spanIn_val (a b c d : Int) (v : Bool) (w : World) (hv : (decide (c ≤ a) && decide (b ≤ d)) = v) :
    Calls Tryz.prog 104 #[.agg #[.int .i64 a, .int .i64 b], .agg #[.int .i64 c, .int .i64 d]] w fun e w' => e = .returned (.bool v) ∧ Below w.heap.size w w' := by
  rw [← hv]; exact spanIn_any a b c d w

set_option maxHeartbeats 2000000 in
set_option maxRecDepth 20000 in
theorem roomIn_any (x y lo hi i o : Int) (b base : Nat) (l : List Bx) (w : World) (hl : l.length ≤ 1048576) (hG : Groups w b base 89 l) :
    Calls Tryz.prog 61 #[.agg #[.int .i64 x, .int .i64 y, .int .i64 lo, .int .i64 hi, .int .i64 i, .int .i64 o], .map (some b)] w
      fun e w' => e = .returned (.bool (l.any fun s => coverB s ⟨x, y, lo, hi, i, o⟩)) ∧ Below w.heap.size w w' := by
  rw [any_at]
  have HM : Hid ((atC l x y).length ≤ 1048576) := by
    have h1 : (atC l x y).length ≤ l.length := List.length_filter_le _ _
    show _ ≤ _
    omega
  revert HM
  generalize hm : atC l x y = m
  intro HM
  go_enter Tryz.func61, Tryz.ntmps61
  go_wp2_with (at_lookup; refine wpList_lookup_cells _ rfl (.tmp 7) (.tmp 9) 92 rfl 87 149 89 cell_key Tryz.underlying92 (rooms_zero _) base b l rfl (hG.below ((Below.refl _ _).alloc (Nat.le_refl _) _)) x y rfl ?_; rw [hm]; intro v ho; obtain ⟨a1, g, cap, rfl, hs⟩ := owns_boxes ho; clear ho)
  go_loopw [12] (fun v wr => ∃ k : Nat, k ≤ m.length ∧ v = .int .i64 k ∧ Below (w.heap.size + 1) (w.alloc (.cells #[.int .i64 x, .int .i64 y, .int .i64 lo, .int .i64 hi, .int .i64 i, .int .i64 o] 89)) wr ∧ ((m.take k).any fun s => levIn s lo hi && tickIn s i o) = false) (fun v _ => m.length - (intOf v).toNat)
  case atStart => exact ⟨0, Nat.zero_le _, rfl, Below.refl _ _, rfl⟩
  case round =>
    obtain ⟨k, hk, rfl, hb, hno⟩ := hrel
    have HN : Hid (((m.take k).any fun s => levIn s lo hi && tickIn s i o) = false) := hno
    clear hno
    have hmm := HM.out
    have hbw0 : Below w.heap.size w wr := ((Below.refl _ _).alloc (Nat.le_refl _) _).trans (hb.mono (by omega))
    have hz0 : w.heap.size < wr.heap.size := by have := hb.size; simp at this; omega
    have r0 : wr.cell? ⟨w.heap.size, 0, none⟩ = some (.int .i64 x) := by rw [hb.cell (p := ⟨w.heap.size, 0, none⟩) (by simp)]; simp [go_sem]
    have r2 : wr.cell? ⟨w.heap.size, 2, none⟩ = some (.int .i64 lo) := by rw [hb.cell (p := ⟨w.heap.size, 2, none⟩) (by simp)]; simp [go_sem]
    have r3 : wr.cell? ⟨w.heap.size, 3, none⟩ = some (.int .i64 hi) := by rw [hb.cell (p := ⟨w.heap.size, 3, none⟩) (by simp)]; simp [go_sem]
    have r4 : wr.cell? ⟨w.heap.size, 4, none⟩ = some (.int .i64 i) := by rw [hb.cell (p := ⟨w.heap.size, 4, none⟩) (by simp)]; simp [go_sem]
    have r5 : wr.cell? ⟨w.heap.size, 5, none⟩ = some (.int .i64 o) := by rw [hb.cell (p := ⟨w.heap.size, 5, none⟩) (by simp)]; simp [go_sem]
    by_cases hlt : k < m.length
    · obtain ⟨s, hsk⟩ : ∃ s, m[k]? = some s := ⟨m[k], List.getElem?_eq_getElem hlt⟩
      have hne : m ≠ [] := by intro e; subst e; simp at hlt
      obtain rfl := hs.here hne
      have hbw := hs.lt hne
      simp at hbw
      obtain ⟨c0, c1, c2, c3, c4, c5⟩ := (hs.below hb (fun _ => hbw)).six hsk
      simp only [Nat.zero_add] at c0 c1 c2 c3 c4 c5
      have k0 : (0 : Int) ≤ (k : Int) := by omega
      have k1 : (k : Int) < (m.length : Int) := by omega
      have HS : Hid (m[k]? = some s) := hsk
      clear hsk
      cases h1 : levIn s lo hi with
      | false =>
        have hf : (levIn s lo hi && tickIn s i o) = false := by rw [h1]; rfl
        go_wp2_with fail
        refine (spanIn_val _ _ _ _ _ _ h1).mono ?_
        rintro e w2 ⟨rfl, hb2⟩
        have hb02 : Below wr.heap.size wr w2 := ((Below.refl _ _).alloc (Nat.le_refl _) _).trans (hb2.mono (by simp))
        go_wp2
        go_roundw
        case rel => exact ⟨k + 1, by omega, by go_num, hb.trans (hb02.mono (by omega)), by rw [any_take m (fun s => levIn s lo hi && tickIn s i o) HS.out, HN.out, hf]; rfl⟩
        case measure => simp [intOf]; omega
      | true =>
        go_wp2_with fail
        refine (spanIn_val _ _ _ _ _ _ h1).mono ?_
        rintro e w2 ⟨rfl, hb2⟩
        have hb02 : Below wr.heap.size wr w2 := ((Below.refl _ _).alloc (Nat.le_refl _) _).trans (hb2.mono (by simp))
        have d4 := (hb02.cell (p := ⟨w.heap.size, 4, none⟩) hz0).trans r4
        have d5 := (hb02.cell (p := ⟨w.heap.size, 5, none⟩) hz0).trans r5
        have e4 : w2.cell? ⟨wr.heap.size, 4, none⟩ = some (.int .i64 s.in_) := by rw [hb2.cell (p := ⟨wr.heap.size, 4, none⟩) (by simp)]; simp [go_sem]
        have e5 : w2.cell? ⟨wr.heap.size, 5, none⟩ = some (.int .i64 s.out) := by rw [hb2.cell (p := ⟨wr.heap.size, 5, none⟩) (by simp)]; simp [go_sem]
        clear hb2
        cases h2 : tickIn s i o with
        | false =>
          have hf : (levIn s lo hi && tickIn s i o) = false := by rw [h2, Bool.and_false]
          go_wp2_with fail
          refine (spanIn_val _ _ _ _ _ _ h2).mono ?_
          rintro e w3 ⟨rfl, hb3⟩
          go_wp2
          go_roundw
          case rel => exact ⟨k + 1, by omega, by go_num, (hb.trans (hb02.mono (by omega))).trans (hb3.mono (by have := hb02.size; omega)), by rw [any_take m (fun s => levIn s lo hi && tickIn s i o) HS.out, HN.out, hf]; rfl⟩
          case measure => simp [intOf]; omega
        | true =>
          have hf : (levIn s lo hi && tickIn s i o) = true := by rw [h1, h2]; rfl
          go_wp2_with fail
          refine (spanIn_val _ _ _ _ _ _ h2).mono ?_
          rintro e w3 ⟨rfl, hb3⟩
          go_wp2
          go_ret
          exact ⟨by rw [any_hit (f := fun s => levIn s lo hi && tickIn s i o) HS.out hf]; rfl, (hbw0.trans (hb02.mono (by omega))).trans (hb3.mono (by have := hb02.size; omega))⟩
    · obtain rfl : k = m.length := by omega
      go_wp2
      go_ret
      refine ⟨?_, hbw0⟩
      have e1 := HN.out
      rw [List.take_length] at e1
      rw [e1]; rfl
end Go.Proofs.YtijcdikekgmfoaaGreatDoor

namespace Go.Proofs.YtijcdikekgmfoaaGreatDoor
open Go.RowKit

theorem spanNone_any (a b : Int) (w : World) :
    Calls Tryz.prog 95 #[.agg #[.int .i64 a, .int .i64 b]] w fun e w' => e = .returned (.bool (decide (b < a))) ∧ Below w.heap.size w w' := by
  go_enter Tryz.func95, Tryz.ntmps95
  go_wp2
  go_ret
  exact ⟨rfl, (Below.refl _ _).alloc (Nat.le_refl _) _⟩
theorem spanNone_val (a b : Int) (v : Bool) (w : World) (hv : decide (b < a) = v) :
    Calls Tryz.prog 95 #[.agg #[.int .i64 a, .int .i64 b]] w fun e w' => e = .returned (.bool v) ∧ Below w.heap.size w w' := by
  rw [← hv]; exact spanNone_any a b w

theorem roomNone_any (x y lo hi i o : Int) (w : World) :
    Calls Tryz.prog 66 #[.agg #[.int .i64 x, .int .i64 y, .int .i64 lo, .int .i64 hi, .int .i64 i, .int .i64 o]] w fun e w' => e = .returned (.bool (noneB ⟨x, y, lo, hi, i, o⟩)) ∧ Below w.heap.size w w' := by
  have ER : Hid (noneB ⟨x, y, lo, hi, i, o⟩ = (decide (hi < lo) || decide (o < i))) := rfl
  have hb := (Below.refl w.heap.size w).alloc (Nat.le_refl _) (.cells #[.int .i64 x, .int .i64 y, .int .i64 lo, .int .i64 hi, .int .i64 i, .int .i64 o] 89)
  cases h1 : decide (hi < lo) with
  | true =>
    go_enter Tryz.func66, Tryz.ntmps66
    go_wp2_with fail
    refine (spanNone_val _ _ _ _ h1).mono ?_
    rintro e w1 ⟨rfl, hb1⟩
    go_wp2
    go_ret
    exact ⟨by rw [ER.out, h1]; rfl, hb.trans (hb1.mono (by simp))⟩
  | false =>
    go_enter Tryz.func66, Tryz.ntmps66
    go_wp2_with fail
    refine (spanNone_val _ _ _ _ h1).mono ?_
    rintro e w1 ⟨rfl, hb1⟩
    have c4 : w1.cell? ⟨w.heap.size, 4, none⟩ = some (.int .i64 i) := by rw [hb1.cell (p := ⟨w.heap.size, 4, none⟩) (by simp)]; simp [go_sem]
    have c5 : w1.cell? ⟨w.heap.size, 5, none⟩ = some (.int .i64 o) := by rw [hb1.cell (p := ⟨w.heap.size, 5, none⟩) (by simp)]; simp [go_sem]
    have hb01 : Below w.heap.size w w1 := hb.trans (hb1.mono (by simp))
    clear hb1
    go_wp2_with fail
    refine (spanNone_any _ _ _).mono ?_
    rintro e w2 ⟨rfl, hb2⟩
    go_wp2
    go_ret
    exact ⟨by rw [ER.out, h1]; rfl, hb01.trans (hb2.mono hb01.size)⟩
theorem roomNone_val (x y lo hi i o : Int) (v : Bool) (w : World) (hv : noneB ⟨x, y, lo, hi, i, o⟩ = v) :
    Calls Tryz.prog 66 #[.agg #[.int .i64 x, .int .i64 y, .int .i64 lo, .int .i64 hi, .int .i64 i, .int .i64 o]] w fun e w' => e = .returned (.bool v) ∧ Below w.heap.size w w' := by
  rw [← hv]; exact roomNone_any x y lo hi i o w
theorem roomIn_val (x y lo hi i o : Int) (b base : Nat) (l : List Bx) (v : Bool) (w : World) (hl : l.length ≤ 1048576) (hG : Groups w b base 89 l) (hv : (l.any fun s => coverB s ⟨x, y, lo, hi, i, o⟩) = v) :
    Calls Tryz.prog 61 #[.agg #[.int .i64 x, .int .i64 y, .int .i64 lo, .int .i64 hi, .int .i64 i, .int .i64 o], .map (some b)] w fun e w' => e = .returned (.bool v) ∧ Below w.heap.size w w' := by
  rw [← hv]; exact roomIn_any x y lo hi i o b base l w hl hG

set_option maxHeartbeats 4000000 in
set_option maxRecDepth 20000 in
theorem smallI_any (a a' : Option Addr) (b o cap b' o' cap' : Nat) (l m : List Bx) (w : World) (hl : l.length ≤ 1048576) (hm : m.length ≤ 1048576) (hs : BoxesAt w a b o l) (hs' : BoxesAt w a' b' o' m) :
    Calls Tryz.prog 20 #[.slice a l.length cap, .slice a' m.length cap'] w fun e w' => e = .returned (.bool (smallB l m)) ∧ Below w.heap.size w w' := by
  go_enter Tryz.func20, Tryz.ntmps20
  go_wp2_with fail
  refine (rooms_any _ b' o' _ _ _ hm hs').mono ?_
  rintro e w1 ⟨rfl, hG, hb1⟩
  go_wp2
  go_loopw [13] (fun v wr => ∃ k : Nat, k ≤ l.length ∧ v = .int .i64 k ∧ Below w1.heap.size w1 wr ∧ ((l.take k).all (foundB m)) = true) (fun v _ => l.length - (intOf v).toNat)
  case atStart => exact ⟨0, Nat.zero_le _, rfl, Below.refl _ _, rfl⟩
  case round =>
    obtain ⟨k, hk, rfl, hb, hall⟩ := hrel
    have HA : Hid (((l.take k).all (foundB m)) = true) := hall
    have hb0 : Below w.heap.size w wr := hb1.trans (hb.mono hb1.size)
    have hGr := hG.below hb
    clear hall
    by_cases hlt : k < l.length
    · obtain ⟨s, hsk⟩ : ∃ s, l[k]? = some s := ⟨l[k], List.getElem?_eq_getElem hlt⟩
      have hne : l ≠ [] := by intro e; subst e; simp at hlt
      obtain rfl := hs.here hne
      have hbw := hs.lt hne
      obtain ⟨c0, c1, c2, c3, c4, c5⟩ := (hs.below hb0 (fun _ => hbw)).six hsk
      have k0 : (0 : Int) ≤ (k : Int) := by omega
      have k1 : (k : Int) < (l.length : Int) := by omega
      have HS : Hid (l[k]? = some s) := hsk
      clear hsk
      go_wp2_with fail
      refine (roomOf_any _ _ _ _ _ _ _).mono ?_
      rintro e w2 ⟨rfl, hb2⟩
      have hb02 : Below wr.heap.size wr w2 := ((Below.refl _ _).alloc (Nat.le_refl _) _).trans (hb2.mono (by simp))
      clear hb2 c0 c1 c2 c3 c4 c5
      cases hn : noneB s with
      | true =>
        have hf : foundB m s = true := by unfold foundB; rw [hn]; rfl
        go_wp2_with fail
        refine (roomNone_val _ _ _ _ _ _ _ _ hn).mono ?_
        rintro e w3 ⟨rfl, hb3⟩
        have hb03 : Below wr.heap.size wr w3 := (hb02.alloc hb02.size _).trans (hb3.mono (by have := hb02.size; simp; omega))
        go_wp2
        go_roundw
        case rel => exact ⟨k + 1, by omega, by go_num, hb.trans (hb03.mono hb.size), by rw [all_take l (foundB m) HS.out, HA.out, hf]; rfl⟩
        case measure => simp [intOf]; omega
      | false =>
        go_wp2_with fail
        refine (roomNone_val _ _ _ _ _ _ _ _ hn).mono ?_
        rintro e w3 ⟨rfl, hb3⟩
        have hb03 : Below wr.heap.size wr w3 := (hb02.alloc hb02.size _).trans (hb3.mono (by have := hb02.size; simp; omega))
        have d0 : w3.cell? ⟨w2.heap.size, 0, none⟩ = some (.int .i64 s.x) := by rw [hb3.cell (p := ⟨w2.heap.size, 0, none⟩) (by simp)]; simp [go_sem]
        have d1 : w3.cell? ⟨w2.heap.size, 1, none⟩ = some (.int .i64 s.y) := by rw [hb3.cell (p := ⟨w2.heap.size, 1, none⟩) (by simp)]; simp [go_sem]
        have d2 : w3.cell? ⟨w2.heap.size, 2, none⟩ = some (.int .i64 s.lo) := by rw [hb3.cell (p := ⟨w2.heap.size, 2, none⟩) (by simp)]; simp [go_sem]
        have d3 : w3.cell? ⟨w2.heap.size, 3, none⟩ = some (.int .i64 s.hi) := by rw [hb3.cell (p := ⟨w2.heap.size, 3, none⟩) (by simp)]; simp [go_sem]
        have d4 : w3.cell? ⟨w2.heap.size, 4, none⟩ = some (.int .i64 s.in_) := by rw [hb3.cell (p := ⟨w2.heap.size, 4, none⟩) (by simp)]; simp [go_sem]
        have d5 : w3.cell? ⟨w2.heap.size, 5, none⟩ = some (.int .i64 s.out) := by rw [hb3.cell (p := ⟨w2.heap.size, 5, none⟩) (by simp)]; simp [go_sem]
        have hG3 := hGr.below hb03
        clear hb3
        cases hc : (m.any fun t => coverB t s) with
        | true =>
          have hf : foundB m s = true := by unfold foundB; rw [hc, Bool.or_true]
          go_wp2_with fail
          refine (roomIn_val _ _ _ _ _ _ _ _ _ _ _ hm hG3 hc).mono ?_
          rintro e w4 ⟨rfl, hb4⟩
          go_wp2
          go_roundw
          case rel => exact ⟨k + 1, by omega, by go_num, (hb.trans (hb03.mono hb.size)).trans (hb4.mono (by have := hb03.size; have := hb.size; omega)), by rw [all_take l (foundB m) HS.out, HA.out, hf]; rfl⟩
          case measure => simp [intOf]; omega
        | false =>
          have hf : foundB m s = false := by unfold foundB; rw [hn, hc]; rfl
          go_wp2_with fail
          refine (roomIn_val _ _ _ _ _ _ _ _ _ _ _ hm hG3 hc).mono ?_
          rintro e w4 ⟨rfl, hb4⟩
          go_wp2
          go_ret
          exact ⟨by rw [show smallB l m = false from all_miss HS.out hf]; rfl, (hb0.trans (hb03.mono hb0.size)).trans (hb4.mono (by have := hb03.size; have := hb0.size; omega))⟩
    · obtain rfl : k = l.length := by omega
      go_wp2
      go_ret
      refine ⟨?_, hb0⟩
      have e1 := HA.out
      rw [List.take_length] at e1
      rw [show smallB l m = true from e1]; rfl
end Go.Proofs.YtijcdikekgmfoaaGreatDoor

namespace Go.Proofs.YtijcdikekgmfoaaGreatDoor
open Go.RowKit

theorem boxes_owned {w : World} {base : Nat} {e : TypeId} {v : Value} {m : List Bx} (h : w.ownsRow base e 6 v m.length (rowC m)) : ∃ a g cap, v = .slice a m.length cap ∧ BoxesAt w a g 0 m := by
  rcases h.2 with ⟨rfl, h0⟩ | ⟨g, cap, cur, rfl, hg, hh, hn, hc, hs, ht⟩
  · have : m = [] := List.length_eq_zero_iff.1 h0
    subst this
    exact ⟨none, 0, 0, rfl, ⟨fun h => absurd rfl h, fun h => absurd rfl h, fun i s hi => by simp at hi⟩⟩
  · refine ⟨some ⟨g, 0, none⟩, g, cap, rfl, ⟨fun _ => rfl, fun _ => lt_of_block hh, fun i s hi j u hu => ?_⟩⟩
    have h1 := rowC_get m i s hi j u hu
    rw [← ht] at h1
    rw [Nat.zero_add, cell_of_row w g (i * 6 + j) cur _ _ hh]
    rw [List.getElem?_take] at h1
    split at h1
    · simpa using h1
    · cases h1

theorem path_some {q s fr b : Int} {l : List Stp} (h : pathB q s fr b l = true) : 1 ≤ l.length := by
  have := path_len h
  omega
theorem fly_some {q s fr b : Int} {l : List Stp} (h : flyB q s fr b l = true) {k : Nat} (_hk : k ≤ l.length) : (spanAt q s fr b l l.length k).1 ≤ (spanAt q s fr b l l.length k).2 := by
  have hs := (Bool.and_eq_true_iff.1 h).2
  unfold spanB at hs
  have h3 := (Bool.and_eq_true_iff.1 hs).2
  simp only [bwdTo, List.all_eq_true, List.mem_range, someB, decide_eq_true_eq] at h3
  exact h3 _ (by omega)

theorem tube_get {q s fr b : Int} {l : List Stp} (h : flyB q s fr b l = true) {k : Nat} (hk : k < l.length) :
    (tubeL q s fr b l)[k]? = some ⟨(l.getD k .zero).x, (l.getD k .zero).y, (l.getD k .zero).lo, (l.getD k .zero).hi, (spanAt q s fr b l l.length k).1, (spanAt q s fr b l l.length (k + 1)).2 - 1⟩ := by
  have htl : tubeL q s fr b l = tubeTo (flyL q s fr b l) l l.length := by unfold tubeL; rw [h]; rfl
  have e1 := map_at h (show k ≤ l.length by omega)
  have e2 := map_at h (show k + 1 ≤ l.length by omega)
  rw [htl]
  unfold tubeTo
  rw [List.getElem?_map, List.getElem?_range hk]
  simp only [Option.map_some, tubeAt, List.getD_eq_getElem?_getD, e1, e2, Option.getD_some]
end Go.Proofs.YtijcdikekgmfoaaGreatDoor

namespace Go.Proofs.YtijcdikekgmfoaaGreatDoor
open Go.RowKit

set_option maxRecDepth 20000 in
theorem p5_big (a0 : Option Addr) (n ccap : Nat) (w : World) (hn : n ≤ maxLen) (hb : 1048576 < n) : Calls Tryz.prog 4 #[.slice a0 n ccap] w fun e w' => e = .returned (.bool true) ∧ Below w.heap.size w w' := by
  have h1 : (1048576 : Int) < (n : Int) := by omega
  unfold maxLen at hn
  have h2 : (n : Int) ≤ 9223372036854775807 := by omega
  go_enter Tryz.func4, Tryz.ntmps4
  go_wp2
  go_ret
  exact ⟨rfl, Below.refl _ _⟩

theorem can_le (q s fr b x y nw : Int) (l : List Stp) (k : Nat) : (canA q s fr b (leftL l k x y nw)).l.length ≤ l.length := by
  unfold canA
  split
  · show (leftL l k x y nw).length ≤ _
    rw [leftL_length]; omega
  · simp [Ans.no]
theorem restA_le (q s fr b st en nw : Int) (l : List Stp) : (restA q s fr b l st en nw).l.length ≤ l.length := by
  unfold restA
  split
  · exact can_le _ _ _ _ _ _ _ _ _
  · simp [Ans.no]
theorem seenA_le (q s fr b st nw : Int) (l : List Stp) : (seenA q s fr b l st nw).l.length ≤ l.length := by
  unfold seenA
  split
  · exact can_le _ _ _ _ _ _ _ _ _
  · simp [Ans.no]
theorem can_no {q s fr b : Int} {m : List Stp} (h : (canA q s fr b m).ok = false) : canA q s fr b m = .no := by
  unfold canA at h ⊢
  split at h
  · simp at h
  · rename_i hc; rw [if_neg hc]
theorem seenA_no {q s fr b st nw : Int} {l : List Stp} (h : (seenA q s fr b l st nw).ok = false) : seenA q s fr b l st nw = .no := by
  unfold seenA at h ⊢
  split at h
  · rename_i hc; rw [if_pos hc]; exact can_no h
  · rename_i hc; rw [if_neg hc]
theorem tube_no : tubeL Ans.no.q Ans.no.s Ans.no.fr Ans.no.b Ans.no.l = [] := by decide

/-- What lies while the law looks: the path, what is left for one, what is left for anybody; the sentinel. -/
structure RlD (w wr : World) (P : Addr) (X : Nat) (q s fr b : Int) (a : Option Addr) (b0 o cap : Nat) (l : List Stp) (Y : Nat) (A : Ans) (ya : Option Addr) (yj yc : Nat) (V : Nat) (C : Ans) (va : Option Addr) (vj vc : Nat) : Prop where
  old : Below w.heap.size w wr
  sn : Sent wr P
  pa : PathAt wr X q s fr b (.slice a l.length cap)
  st : StepsAt wr a b0 o l
  pq : PathAt wr Y A.q A.s A.fr A.b (.slice ya A.l.length yc)
  sq : StepsAt wr ya yj 0 A.l
  pr : PathAt wr V C.q C.s C.fr C.b (.slice va C.l.length vc)
  sr : StepsAt wr va vj 0 C.l
theorem RlD.below {w wr w' : World} {P : Addr} {X : Nat} {q s fr b : Int} {a : Option Addr} {b0 o cap : Nat} {l : List Stp} {Y : Nat} {A : Ans} {ya : Option Addr} {yj yc V : Nat} {C : Ans} {va : Option Addr} {vj vc : Nat}
    (h : RlD w wr P X q s fr b a b0 o cap l Y A ya yj yc V C va vj vc) (hb : Below wr.heap.size wr w') : RlD w w' P X q s fr b a b0 o cap l Y A ya yj yc V C va vj vc :=
  ⟨h.old.trans (hb.mono h.old.size), h.sn.below hb, h.pa.keep hb h.pa.lt, h.st.below hb h.st.lt, h.pq.keep hb h.pq.lt, h.sq.below hb h.sq.lt, h.pr.keep hb h.pr.lt, h.sr.below hb h.sr.lt⟩

theorem tubeL_le (q s fr b : Int) (l : List Stp) : (tubeL q s fr b l).length ≤ l.length := by
  unfold tubeL
  split
  · simp [tubeTo_length]
  · simp
-- THE LAW
set_option maxRecDepth 20000 in
set_option maxHeartbeats 8000000 in
theorem p5_any (hI : SpansSaid) (hF : FollowSaid) (a0 : Option Addr) (cb co ccap : Nat) (zs0 : List Int) (P : Addr) (w : World) (hz : BytesAt w a0 cb co zs0) (hl : zs0.length ≤ 1048576) (hc : zs0.length ≤ ccap) (hg : Sent w P) :
    Calls Tryz.prog 4 #[.slice a0 zs0.length ccap] w fun e w' => e = .returned (.bool true) ∧ Below w.heap.size w w' := by
  have h1 : ¬ (1048576 : Int) < (zs0.length : Int) := by omega
  go_enter Tryz.func4, Tryz.ntmps4
  go_wp2_with fail
  refine (rest_draw a0 cb co ccap zs0 w hz hl hc).mono ?_
  rintro e w1 ⟨q, s, fr, b, a, b0, o, cap, l, k, en, nw, rfl, hll, hcap, hs1, hb1⟩
  clear hz h1 hl hc
  have hl : l.length ≤ 1048576 := by omega
  have X1 := PathAt.new w1 q s fr b (.slice a l.length cap)
  have hsX := hs1.alloc (.cells #[.int .i64 q, .int .i64 s, .slice a l.length cap, .int .i64 fr, .int .i64 b] 27)
  have B1 : Below w.heap.size w (w1.alloc (.cells #[.int .i64 q, .int .i64 s, .slice a l.length cap, .int .i64 fr, .int .i64 b] 27)) := hb1.alloc hb1.size _
  have g1 := hg.below B1
  clear hs1 hb1 hg
  have HA : Hid ((restA q s fr b l k en nw).ok = true → _) := fun h => rest_ends h
  have HC : Hid ((seenA q s fr b l k nw).ok = true → _) := fun h => seen_all h
  have HN : Hid ((seenA q s fr b l k nw).ok = false → tubeL (seenA q s fr b l k nw).q (seenA q s fr b l k nw).s (seenA q s fr b l k nw).fr (seenA q s fr b l k nw).b (seenA q s fr b l k nw).l = []) := fun h => by rw [seenA_no h]; exact tube_no
  have CI := fun W (hW : StepsAt W a b0 o l) (hg : Sent W P) => flyRestI_any hI q s fr b k en nw a b0 o cap l P W hl hW hcap hg
  have CS := fun W (hW : StepsAt W a b0 o l) => flyRestS_any q s fr b k en nw a b0 o cap l W hl hW hcap
  have DI := fun W (hW : StepsAt W a b0 o l) (hg : Sent W P) => flySeenI_any hI q s fr b k nw a b0 o cap l P W hl hW hcap hg
  have DS := fun W (hW : StepsAt W a b0 o l) => flySeenS_any q s fr b k nw a b0 o cap l W hl hW hcap
  have RI := fun t W (hW : StepsAt W a b0 o l) (hg : Sent W P) => flyRestI_any hI q s fr b k t nw a b0 o cap l P W hl hW hcap hg
  have lA := restA_le q s fr b k en nw l
  have lC := seenA_le q s fr b k nw l
  have lR := fun t => restA_le q s fr b k t nw l
  obtain ⟨RT, hRT⟩ : ∃ RT : Int → Ans, RT = fun t => restA q s fr b l k t nw := ⟨_, rfl⟩
  have eRT : ∀ t, restA q s fr b l k t nw = RT t := fun t => by rw [hRT]
  generalize eC : seenA q s fr b l k nw = C at *
  simp only [eRT] at HC RI lR
  generalize restA q s fr b l k en nw = A at HA CI CS lA
  clear eRT hRT eC
  go_wp2_with fail
  refine (CI _ hsX g1).mono ?_
  rintro e w2 ⟨v2, rfl, ho2, hb2⟩
  obtain ⟨a2, j2, c2, hv2, hs2⟩ := own_slice ho2
  subst hv2
  have Y2 := PathAt.new w2 A.q A.s A.fr A.b (.slice a2 A.l.length c2)
  have al2 : Below w2.heap.size w2 (w2.alloc (.cells #[.int .i64 A.q, .int .i64 A.s, .slice a2 A.l.length c2, .int .i64 A.fr, .int .i64 A.b] 27)) := (Below.refl _ _).alloc (Nat.le_refl _) _
  have X2 := (X1.keep hb2 X1.lt).keep al2 (X1.keep hb2 X1.lt).lt
  have hsX2 := (hsX.below hb2 hsX.lt).below al2 (hsX.below hb2 hsX.lt).lt
  have B2 := (B1.trans (hb2.mono B1.size)).trans (al2.mono (B1.trans (hb2.mono B1.size)).size)
  have g2 := (g1.below hb2).below al2
  have hsY2 := hs2.below al2 hs2.lt
  clear hb2 al2 X1 hsX B1 g1 ho2 hs2 CI
  obtain ⟨⟨x0, x1, x2, x3, x4⟩, _⟩ := X2.cells
  go_wp2_with fail
  refine (CS _ hsX2).mono ?_
  rintro e w3 ⟨v3, rfl, ho3, hb3⟩
  obtain ⟨a3, j3, c3, hv3, hs3⟩ := own_slice ho3
  subst hv3
  have Z3 := PathAt.new w3 A.q A.s A.fr A.b (.slice a3 A.l.length c3)
  have al3 : Below w3.heap.size w3 (w3.alloc (.cells #[.int .i64 A.q, .int .i64 A.s, .slice a3 A.l.length c3, .int .i64 A.fr, .int .i64 A.b] 27)) := (Below.refl _ _).alloc (Nat.le_refl _) _
  have BA := hb3.trans (al3.mono hb3.size)
  have X3 := X2.keep BA X2.lt
  have hsX3 := hsX2.below BA hsX2.lt
  have Y3 := Y2.keep BA Y2.lt
  have hsY3 := hsY2.below BA hsY2.lt
  have B3 := B2.trans (BA.mono B2.size)
  have g3 := g2.below BA
  have hsZ3 := hs3.below al3 hs3.lt
  clear hb3 al3 BA X2 hsX2 Y2 hsY2 B2 g2 ho3 hs3 CS x0 x1 x2 x3 x4
  obtain ⟨⟨x0, x1, x2, x3, x4⟩, _⟩ := X3.cells
  go_wp2_with fail
  refine (DI _ hsX3 g3).mono ?_
  rintro e w4 ⟨v4, rfl, ho4, hb4⟩
  obtain ⟨a4, j4, c4, hv4, hs4⟩ := own_slice ho4
  subst hv4
  have V4 := PathAt.new w4 C.q C.s C.fr C.b (.slice a4 C.l.length c4)
  have al4 : Below w4.heap.size w4 (w4.alloc (.cells #[.int .i64 C.q, .int .i64 C.s, .slice a4 C.l.length c4, .int .i64 C.fr, .int .i64 C.b] 27)) := (Below.refl _ _).alloc (Nat.le_refl _) _
  have BA := hb4.trans (al4.mono hb4.size)
  have Z4 := Z3.keep BA Z3.lt
  have hsZ4 := hsZ3.below BA hsZ3.lt
  have D4 : RlD w _ P w1.heap.size q s fr b a b0 o cap l w2.heap.size A a2 j2 c2 w4.heap.size C a4 j4 c4 :=
    ⟨B3.trans (BA.mono B3.size), g3.below BA, X3.keep BA X3.lt, hsX3.below BA hsX3.lt, Y3.keep BA Y3.lt, hsY3.below BA hsY3.lt, V4, hs4.below al4 hs4.lt⟩
  clear hb4 al4 BA X3 hsX3 Y3 hsY3 B3 g3 Z3 hsZ3 ho4 hs4 V4 DI x0 x1 x2 x3 x4
  obtain ⟨⟨x0, x1, x2, x3, x4⟩, _⟩ := D4.pa.cells
  go_wp2_with fail
  refine (DS _ D4.st).mono ?_
  rintro e w5 ⟨v5, rfl, ho5, hb5⟩
  obtain ⟨a5, j5, c5, hv5, hs5⟩ := own_slice ho5
  subst hv5
  have U5 := PathAt.new w5 C.q C.s C.fr C.b (.slice a5 C.l.length c5)
  have al5 : Below w5.heap.size w5 (w5.alloc (.cells #[.int .i64 C.q, .int .i64 C.s, .slice a5 C.l.length c5, .int .i64 C.fr, .int .i64 C.b] 27)) := (Below.refl _ _).alloc (Nat.le_refl _) _
  have BA := hb5.trans (al5.mono hb5.size)
  have Z5 := Z4.keep BA Z4.lt
  have hsZ5 := hsZ4.below BA hsZ4.lt
  have D5 := D4.below BA
  have hsU5 := hs5.below al5 hs5.lt
  clear hb5 al5 BA Z4 hsZ4 D4 ho5 hs5 DS x0 x1 x2 x3 x4
  obtain ⟨⟨y0, y1, y2, y3, y4⟩, _⟩ := D5.pq.cells
  obtain ⟨⟨z0, z1, z2, z3, z4⟩, _⟩ := Z5.cells
  have nok : (A.ok != A.ok) = false := by simp
  have noc : (C.ok != C.ok) = false := by simp
  go_wp2_with fail
  refine (wfPath_same A.q A.s A.fr A.b a2 a3 j2 0 c2 j3 0 c3 A.l _ (by omega) D5.sq hsZ5).mono ?_
  rintro e w6 ⟨rfl, hb6⟩
  have U6 := U5.keep hb6 U5.lt
  have hsU6 := hsU5.below hb6 hsU5.lt
  have D6 := D5.below hb6
  clear hb6 U5 hsU5 D5 Z5 hsZ5 y0 y1 y2 y3 y4 z0 z1 z2 z3 z4
  obtain ⟨⟨y0, y1, y2, y3, y4⟩, _⟩ := D6.pr.cells
  obtain ⟨⟨z0, z1, z2, z3, z4⟩, _⟩ := U6.cells
  go_wp2_with fail
  refine (wfPath_same C.q C.s C.fr C.b a4 a5 j4 0 c4 j5 0 c5 C.l _ (by omega) D6.sr hsU6).mono ?_
  rintro e w7 ⟨rfl, hb7⟩
  have D7 := D6.below hb7
  clear hb7 U6 hsU6 D6 y0 y1 y2 y3 y4 z0 z1 z2 z3 z4 nok noc
  generalize w1.heap.size = X at *
  generalize w2.heap.size = Y at *
  generalize w4.heap.size = V at *
  go_upto_if 82 with fail
  go_cut [8, 10, 12] (fun _ _ s12 wc => s12 = .bool C.ok ∧ RlD w wc P X q s fr b a b0 o cap l Y A a2 j2 c2 V C a4 j4 c4)
  case first =>
    cases hok : A.ok with
    | false =>
      go_wp2
      go_meet
      case rel => exact ⟨rfl, D7⟩
    | true =>
      obtain ⟨hfb, hal, hs0, hs1⟩ := HA.out hok
      have hpo := (flyL_at hfb).1
      have hFl := map_len hfb
      have m0 := map_at hfb (k := 0) (by omega)
      have m1 := map_at hfb (k := 1) (by omega)
      rw [hs0] at m0
      rcases hsp : spanAt A.q A.s A.fr A.b A.l A.l.length 1 with ⟨t1, t2⟩
      rw [hsp] at m1 hs1
      have hs1' : nw < t1 := hs1
      clear hs0 hs1 hsp hfb
      obtain ⟨⟨y0, y1, y2, y3, y4⟩, _⟩ := D7.pq.cells
      have CF := fun W (hW : StepsAt W a2 j2 0 A.l) => flyfirst_any hI A.q A.s A.fr A.b a2 j2 0 c2 A.l W (by omega) hW
      have CG := fun W (hW : StepsAt W a2 j2 0 A.l) => flylast_any hI A.q A.s A.fr A.b a2 j2 0 c2 A.l W (by omega) hW
      generalize flyL A.q A.s A.fr A.b A.l = F at *
      have f0 : (F.map (·.1))[0]? = some en := by rw [List.getElem?_map, m0]; rfl
      have f1 : (F.map (·.1))[1]? = some t1 := by rw [List.getElem?_map, m1]; rfl
      have l0 : (F.map (·.2))[0]? = some en := by rw [List.getElem?_map, m0]; rfl
      have lf : 2 ≤ (F.map (·.1)).length := by rw [List.length_map]; omega
      have ll : 1 ≤ (F.map (·.2)).length := by rw [List.length_map]; omega
      generalize F.map (·.1) = F1 at *
      generalize F.map (·.2) = F2 at *
      clear m0 m1 hFl
      go_wp2_with fail
      refine (CF _ D7.sq).mono ?_
      rintro e w8 ⟨v8, rfl, ho8, hb8⟩
      obtain ⟨a8, j8, c8, hv8, hi8⟩ := own_ints ho8
      subst hv8
      have D8 := D7.below hb8
      clear hb8 D7 ho8 CF y0 y1 y2 y3 y4
      obtain ⟨⟨y0, y1, y2, y3, y4⟩, _⟩ := D8.pq.cells
      go_wp2_with fail
      refine (CG _ D8.sq).mono ?_
      rintro e w9 ⟨v9, rfl, ho9, hb9⟩
      obtain ⟨a9, j9, c9, hv9, hi9⟩ := own_ints ho9
      subst hv9
      have D9 := D8.below hb9
      have hi89 := hi8.below hb9 hi8.lt
      clear hb9 D8 ho9 hi8 CG y0 y1 y2 y3 y4
      have n1 : F1 ≠ [] := by intro e; rw [e] at lf; simp at lf
      have n2 : F2 ≠ [] := by intro e; rw [e] at ll; simp at ll
      obtain rfl := hi89.here n1
      obtain rfl := hi9.here n2
      have c0 := hi89.cell 0 en f0
      have c1 := hi89.cell 1 t1 f1
      have c2' := hi9.cell 0 en l0
      simp only [Nat.zero_add] at c0 c1 c2'
      have i0 : (0 : Int) < (F1.length : Int) := by omega
      have i1 : (1 : Int) < (F1.length : Int) := by omega
      have i2 : (0 : Int) < (F2.length : Int) := by omega
      have nee : (en != en) = false := by simp
      have nle : ¬ t1 ≤ nw := by omega
      obtain ⟨⟨y0, y1, y2, y3, y4⟩, _⟩ := D9.pq.cells
      clear f0 f1 l0 n1 n2 lf ll hi89 hi9
      go_wp2_with fail
      refine (pathOk_any hF A.q A.s A.fr A.b a2 j2 0 c2 A.l _ (by omega) D9.sq).mono ?_
      rw [hpo]
      rintro e w10 ⟨rfl, hb10⟩
      have D10 := D9.below hb10
      clear hb10 D9 y0 y1 y2 y3 y4 c0 c1 c2'
      go_wp2
      go_meet
      case rel => exact ⟨rfl, D10⟩
  case rest =>
    obtain ⟨hs12, D11⟩ := hcut
    subst hs12
    clear D7 HA
    obtain ⟨⟨y0, y1, y2, y3, y4⟩, _⟩ := D11.pr.cells
    cases hok : C.ok with
    | false =>
      have hT := HN.out hok
      go_wp2_with fail
      refine (flyTubeI_any hI C.q C.s C.fr C.b a4 j4 0 c4 C.l _ (by omega) D11.sr).mono ?_
      rw [hT]
      rintro e w12 ⟨v12, rfl, ho12, hb12⟩
      obtain ⟨ta, tg, tc, rfl, _⟩ := boxes_owned ho12
      have D12 := D11.below hb12
      go_wp2
      go_ret
      exact ⟨rfl, D12.old⟩
    | true =>
      obtain ⟨hfb, hall, hsm⟩ := HC.out hok
      have hFl := map_len hfb
      have m0 := map_at hfb (k := 0) (by omega)
      have hso := fly_some hfb (k := 0) (by omega)
      have hrg := bwd_range (flyL_at hfb).1 C.l.length (C.l.length - 0)
      have hrg' : 0 ≤ (spanAt C.q C.s C.fr C.b C.l C.l.length 0).1 ∧ (spanAt C.q C.s C.fr C.b C.l C.l.length 0).2 ≤ 10000 := hrg
      clear hrg
      rcases hsp : spanAt C.q C.s C.fr C.b C.l C.l.length 0 with ⟨lo, hi⟩
      rw [hsp] at m0 hall hso hrg'
      have r1 : 0 ≤ lo := hrg'.1
      have r2 : hi ≤ 10000 := hrg'.2
      have r3 : lo ≤ hi := hso
      have HALL : Hid (∀ t, lo ≤ t → t ≤ hi → (RT t).ok = true ∧ smallB (tubeL (RT t).q (RT t).s (RT t).fr (RT t).b (RT t).l) (tubeL C.q C.s C.fr C.b C.l) = true) := fun t h1 h2 => hall t ⟨h1, h2⟩
      have HSC : Hid (smallB (tubeL C.q C.s C.fr C.b C.l) (tubeL q s fr b l) = true) := hsm
      clear hall hsm hso hrg' hsp HC HN
      have CF := fun W (hW : StepsAt W a4 j4 0 C.l) => hI C.q C.s C.fr C.b a4 j4 0 c4 C.l W (by omega) hW
      rw [hfb] at CF
      generalize flyL C.q C.s C.fr C.b C.l = F at *
      go_wp2_with fail
      refine (CF _ D11.sr).mono ?_
      rintro e w12 ⟨v12, rfl, ho12, hb12⟩
      have D12 := D11.below hb12
      obtain ⟨g, gc, rfl, hg1, hg2⟩ := owns_some ho12 (by omega)
      obtain ⟨u0, u1⟩ := spanCells_get F 0 _ m0
      simp only [Nat.zero_mul, Nat.zero_add] at u0 u1
      have i0 : (0 : Int) < (F.length : Int) := by omega
      have iN : 0 < F.length := by omega
      have gl := owns_lt ho12 g rfl
      have HO : Hid (∀ W : World, Below w12.heap.size w12 W → W.cell? ⟨g, 0, none⟩ = some (.int .i64 lo) ∧ W.cell? ⟨g, 1, none⟩ = some (.int .i64 hi)) := fun W hb => ⟨(hb.cell (p := ⟨g, 0, none⟩) gl).trans ((ho12.cellAt 0 (by omega)).trans u0), (hb.cell (p := ⟨g, 1, none⟩) gl).trans ((ho12.cellAt 1 (by omega)).trans u1)⟩
      clear ho12 hb12 hg1 hg2 D11 y0 y1 y2 y3 y4 CF m0 hfb u0 u1 gl hFl
      obtain ⟨k0, k1⟩ := HO.out w12 (Below.refl _ _)
      go_wp2
      clear k0 k1
      go_loopw [19] (fun v wr => ∃ t : Int, v = .int .i64 t ∧ lo ≤ t ∧ t ≤ 20000 ∧ Below w12.heap.size w12 wr ∧ RlD w wr P X q s fr b a b0 o cap l Y A a2 j2 c2 V C a4 j4 c4) (fun v _ => (hi + 1 - intOf v).toNat)
      case atStart => exact ⟨lo, rfl, Int.le_refl _, by omega, Below.refl _ _, D12⟩
      case round =>
        clear D12
        obtain ⟨t, rfl, t0, t1, hbw, D12⟩ := hrel
        obtain ⟨k0, k1⟩ := HO.out wr hbw
        by_cases htl : t ≤ hi
        · obtain ⟨hRo, hRs⟩ := HALL.out t t0 htl
          have HSM : Hid (smallB (tubeL (RT t).q (RT t).s (RT t).fr (RT t).b (RT t).l) (tubeL C.q C.s C.fr C.b C.l) = true) := hRs
          have CR := fun W (hW : StepsAt W a b0 o l) (hg : Sent W P) => RI t W hW hg
          have lG := lR t
          unfold Gives at CR
          rw [hRo] at CR
          clear hRs hRo
          generalize RT t = G at *
          obtain ⟨⟨x0, x1, x2, x3, x4⟩, _⟩ := D12.pa.cells
          go_wp2_with fail
          refine (CR _ D12.st D12.sn).mono ?_
          rintro e w13 ⟨v13, rfl, ho13, hb13⟩
          obtain ⟨ga, gj, gc', hv13, hs13⟩ := own_slice ho13
          subst hv13
          have G13 := PathAt.new w13 G.q G.s G.fr G.b (.slice ga G.l.length gc')
          have al13 : Below w13.heap.size w13 (w13.alloc (.cells #[.int .i64 G.q, .int .i64 G.s, .slice ga G.l.length gc', .int .i64 G.fr, .int .i64 G.b] 27)) := (Below.refl _ _).alloc (Nat.le_refl _) _
          have BA := hb13.trans (al13.mono hb13.size)
          have D13 := D12.below BA
          have hbw13 := hbw.trans (BA.mono hbw.size)
          have hsG := hs13.below al13 hs13.lt
          clear hb13 al13 BA ho13 hs13 CR D12 x0 x1 x2 x3 x4 k0 k1 hbw
          go_wp2_with fail
          generalize (w13.alloc (.cells #[.int .i64 G.q, .int .i64 G.s, .slice ga G.l.length gc', .int .i64 G.fr, .int .i64 G.b] 27)) = W0 at *
          generalize w13.heap.size = Z at *
          go_cut [162] (fun s162 wc => s162 = .bool false ∧ Below W0.heap.size W0 wc)
          case first =>
            have hP1 : ∀ W : World, Below W0.heap.size W0 W → PathAt W Z G.q G.s G.fr G.b (.slice ga G.l.length gc') ∧ StepsAt W ga gj 0 G.l := fun W hb => ⟨G13.keep hb G13.lt, hsG.below hb hsG.lt⟩
            have hP2 : ∀ W : World, Below W0.heap.size W0 W → PathAt W V C.q C.s C.fr C.b (.slice a4 C.l.length c4) ∧ StepsAt W a4 j4 0 C.l := fun W hb => ⟨D13.pr.keep hb D13.pr.lt, D13.sr.below hb D13.sr.lt⟩
            have DB : Below W0.heap.size W0 W0.drew := (Below.refl _ _).drew
            have hL1 : G.l.length ≤ 1048576 := by omega
            have hL2 : C.l.length ≤ 1048576 := by omega
            have hT1 : (tubeL G.q G.s G.fr G.b G.l).length ≤ 1048576 := Nat.le_trans (tubeL_le _ _ _ _ _) hL1
            have hT2 : (tubeL C.q C.s C.fr C.b C.l).length ≤ 1048576 := Nat.le_trans (tubeL_le _ _ _ _ _) hL2
            clear D13 hbw13 G13 hsG HALL HSC HO RI lR lG lC lA
            refine wp_region_any (by kernel_rfl) ?_
            change wpAny _ _ _ _ _ _ _ (World.drew _)
            refine wpAny_take (i := 0) (v := .bool true) rfl (by kernel_rfl) (by kernel_rfl) (by kernel_rfl) (fun _ _ _ h => h) (Or.inl ⟨by rfl, fun W => by go_simp⟩) ?_
            refine wpAny_take (i := 1) (v := .bool false) rfl (by kernel_rfl) (by kernel_rfl) (by kernel_rfl) (fun _ _ _ h => h) (Or.inl ⟨by rfl, fun W => by go_simp⟩) ?_
            refine wpAny_take (i := 2) (v := .bool false) rfl (by kernel_rfl) (by kernel_rfl) (by kernel_rfl) (fun _ _ _ h => h) (Or.inl ⟨by rfl, fun W => by go_simp⟩) ?_
            refine wpAny_ready (rs := [3, 5]) (by kernel_rfl) (by simp) ?_
            refine AllReady.cons rfl (fun K hK => ?_) ?_
            · obtain ⟨⟨e0, e1, e2, e3, e4⟩, ef⟩ := (hP1 _ DB).1.cells
              go_simp
              clear e0 e1 e2 e3 e4 ef
              refine hK _ _ ?_
              clear hK K
              refine wpAny_ready (rs := [4, 5]) (by kernel_rfl) (by simp) ?_
              refine AllReady.cons rfl (fun K hK => ?_) ?_
              · go_simp
                refine (flyTubeI_any hI G.q G.s G.fr G.b ga gj 0 gc' G.l _ hL1 (hP1 _ DB).2).mono ?_
                rintro e w2 ⟨v2, rfl, ho2, hb2⟩
                obtain ⟨ta, tg, tc, rfl, TB⟩ := boxes_owned ho2
                have D2 := DB.trans (hb2.mono DB.size)
                clear ho2 hb2
                refine hK _ _ ?_
                clear hK K
                refine wpAny_ready (rs := [5]) (by kernel_rfl) (by simp) ?_
                refine AllReady.cons rfl (fun K hK => ?_) ?_
                · obtain ⟨⟨e0, e1, e2, e3, e4⟩, ef⟩ := (hP2 _ D2).1.cells
                  go_simp
                  clear e0 e1 e2 e3 e4 ef
                  refine hK _ _ ?_
                  clear hK K
                  refine wpAny_ready (rs := [6]) (by kernel_rfl) (by simp) ?_
                  refine AllReady.cons rfl (fun K hK => ?_) ?_
                  · go_simp
                    refine (flyTubeI_any hI C.q C.s C.fr C.b a4 j4 0 c4 C.l _ hL2 (hP2 _ D2).2).mono ?_
                    rintro e w3 ⟨v3, rfl, ho3, hb3⟩
                    obtain ⟨ua, ug, uc, rfl, UB⟩ := boxes_owned ho3
                    have D3 := D2.trans (hb3.mono D2.size)
                    have TB3 := TB.below hb3 TB.lt
                    clear ho3 hb3 TB
                    refine hK _ _ ?_
                    clear hK K
                    refine wpAny_ready (rs := [7]) (by kernel_rfl) (by simp) ?_
                    refine AllReady.cons rfl (fun K hK => ?_) ?_
                    · go_simp
                      refine (smallI_any ta ua tg 0 tc ug 0 uc _ _ _ hT1 hT2 TB3 UB).mono ?_
                      rintro e w4 ⟨rfl, hb4⟩
                      rw [HSM.out]
                      have D4 := D3.trans (hb4.mono D3.size)
                      clear hb4 TB3 UB
                      refine hK _ _ ?_
                      clear hK K
                      refine wpAny_take (i := 8) (v := .bool false) rfl (by kernel_rfl) (by kernel_rfl) (by kernel_rfl) (fun _ _ _ h => h) (Or.inl ⟨by rfl, fun W => by go_simp⟩) ?_
                      refine wpAny_take (i := 9) (v := .bool false) rfl (by kernel_rfl) (by kernel_rfl) (by kernel_rfl) (fun _ _ _ h => h) (Or.inl ⟨by rfl, fun W => by go_simp⟩) ?_
                      refine wpAny_done (by kernel_rfl) ?_ _
                      go_wp2
                      go_meet
                      case rel => exact ⟨rfl, D4⟩
                    exact AllReady.nil
                  exact AllReady.nil
                exact AllReady.nil
              refine AllReady.cons rfl (fun K hK => ?_) ?_
              · obtain ⟨⟨e0, e1, e2, e3, e4⟩, ef⟩ := (hP2 _ DB).1.cells
                go_simp
                clear e0 e1 e2 e3 e4 ef
                refine hK _ _ ?_
                clear hK K
                refine wpAny_ready (rs := [4]) (by kernel_rfl) (by simp) ?_
                refine AllReady.cons rfl (fun K hK => ?_) ?_
                · go_simp
                  refine (flyTubeI_any hI G.q G.s G.fr G.b ga gj 0 gc' G.l _ hL1 (hP1 _ DB).2).mono ?_
                  rintro e w2 ⟨v2, rfl, ho2, hb2⟩
                  obtain ⟨ta, tg, tc, rfl, TB⟩ := boxes_owned ho2
                  have D2 := DB.trans (hb2.mono DB.size)
                  clear ho2 hb2
                  refine hK _ _ ?_
                  clear hK K
                  refine wpAny_ready (rs := [6]) (by kernel_rfl) (by simp) ?_
                  refine AllReady.cons rfl (fun K hK => ?_) ?_
                  · go_simp
                    refine (flyTubeI_any hI C.q C.s C.fr C.b a4 j4 0 c4 C.l _ hL2 (hP2 _ D2).2).mono ?_
                    rintro e w3 ⟨v3, rfl, ho3, hb3⟩
                    obtain ⟨ua, ug, uc, rfl, UB⟩ := boxes_owned ho3
                    have D3 := D2.trans (hb3.mono D2.size)
                    have TB3 := TB.below hb3 TB.lt
                    clear ho3 hb3 TB
                    refine hK _ _ ?_
                    clear hK K
                    refine wpAny_ready (rs := [7]) (by kernel_rfl) (by simp) ?_
                    refine AllReady.cons rfl (fun K hK => ?_) ?_
                    · go_simp
                      refine (smallI_any ta ua tg 0 tc ug 0 uc _ _ _ hT1 hT2 TB3 UB).mono ?_
                      rintro e w4 ⟨rfl, hb4⟩
                      rw [HSM.out]
                      have D4 := D3.trans (hb4.mono D3.size)
                      clear hb4 TB3 UB
                      refine hK _ _ ?_
                      clear hK K
                      refine wpAny_take (i := 8) (v := .bool false) rfl (by kernel_rfl) (by kernel_rfl) (by kernel_rfl) (fun _ _ _ h => h) (Or.inl ⟨by rfl, fun W => by go_simp⟩) ?_
                      refine wpAny_take (i := 9) (v := .bool false) rfl (by kernel_rfl) (by kernel_rfl) (by kernel_rfl) (fun _ _ _ h => h) (Or.inl ⟨by rfl, fun W => by go_simp⟩) ?_
                      refine wpAny_done (by kernel_rfl) ?_ _
                      go_wp2
                      go_meet
                      case rel => exact ⟨rfl, D4⟩
                    exact AllReady.nil
                  exact AllReady.nil
                exact AllReady.nil
              exact AllReady.nil
            refine AllReady.cons rfl (fun K hK => ?_) ?_
            · obtain ⟨⟨e0, e1, e2, e3, e4⟩, ef⟩ := (hP2 _ DB).1.cells
              go_simp
              clear e0 e1 e2 e3 e4 ef
              refine hK _ _ ?_
              clear hK K
              refine wpAny_ready (rs := [3]) (by kernel_rfl) (by simp) ?_
              refine AllReady.cons rfl (fun K hK => ?_) ?_
              · obtain ⟨⟨e0, e1, e2, e3, e4⟩, ef⟩ := (hP1 _ DB).1.cells
                go_simp
                clear e0 e1 e2 e3 e4 ef
                refine hK _ _ ?_
                clear hK K
                refine wpAny_ready (rs := [4]) (by kernel_rfl) (by simp) ?_
                refine AllReady.cons rfl (fun K hK => ?_) ?_
                · go_simp
                  refine (flyTubeI_any hI G.q G.s G.fr G.b ga gj 0 gc' G.l _ hL1 (hP1 _ DB).2).mono ?_
                  rintro e w2 ⟨v2, rfl, ho2, hb2⟩
                  obtain ⟨ta, tg, tc, rfl, TB⟩ := boxes_owned ho2
                  have D2 := DB.trans (hb2.mono DB.size)
                  clear ho2 hb2
                  refine hK _ _ ?_
                  clear hK K
                  refine wpAny_ready (rs := [6]) (by kernel_rfl) (by simp) ?_
                  refine AllReady.cons rfl (fun K hK => ?_) ?_
                  · go_simp
                    refine (flyTubeI_any hI C.q C.s C.fr C.b a4 j4 0 c4 C.l _ hL2 (hP2 _ D2).2).mono ?_
                    rintro e w3 ⟨v3, rfl, ho3, hb3⟩
                    obtain ⟨ua, ug, uc, rfl, UB⟩ := boxes_owned ho3
                    have D3 := D2.trans (hb3.mono D2.size)
                    have TB3 := TB.below hb3 TB.lt
                    clear ho3 hb3 TB
                    refine hK _ _ ?_
                    clear hK K
                    refine wpAny_ready (rs := [7]) (by kernel_rfl) (by simp) ?_
                    refine AllReady.cons rfl (fun K hK => ?_) ?_
                    · go_simp
                      refine (smallI_any ta ua tg 0 tc ug 0 uc _ _ _ hT1 hT2 TB3 UB).mono ?_
                      rintro e w4 ⟨rfl, hb4⟩
                      rw [HSM.out]
                      have D4 := D3.trans (hb4.mono D3.size)
                      clear hb4 TB3 UB
                      refine hK _ _ ?_
                      clear hK K
                      refine wpAny_take (i := 8) (v := .bool false) rfl (by kernel_rfl) (by kernel_rfl) (by kernel_rfl) (fun _ _ _ h => h) (Or.inl ⟨by rfl, fun W => by go_simp⟩) ?_
                      refine wpAny_take (i := 9) (v := .bool false) rfl (by kernel_rfl) (by kernel_rfl) (by kernel_rfl) (fun _ _ _ h => h) (Or.inl ⟨by rfl, fun W => by go_simp⟩) ?_
                      refine wpAny_done (by kernel_rfl) ?_ _
                      go_wp2
                      go_meet
                      case rel => exact ⟨rfl, D4⟩
                    exact AllReady.nil
                  exact AllReady.nil
                exact AllReady.nil
              exact AllReady.nil
            exact AllReady.nil
          case rest =>
            obtain ⟨hs162, hb14⟩ := hcut
            subst hs162
            have D14 := D13.below hb14
            have hbw14 := hbw13.trans (hb14.mono hbw13.size)
            clear D13 hbw13 G13 hsG hb14 HSM
            obtain ⟨k0, k1⟩ := HO.out wc hbw14
            have m1 : IntKind.i64.wrap (hi - lo) = hi - lo := by rw [IntKind.wrap_i64]; omega
            have m2 : (hi - lo).tdiv 5 = (hi - lo) / 5 := Int.tdiv_eq_ediv_of_nonneg (by omega)
            have m3 : 0 ≤ (hi - lo) / 5 := by omega
            have m4 : (hi - lo) / 5 ≤ 2000 := by omega
            go_wp2
            go_quiet (fail)
            go_wp2
            go_roundw
            case rel =>
              have hdr : Below wc.heap.size wc (wc.drewN nq) := ⟨rfl, rfl, rfl, Nat.le_refl _, fun _ _ => rfl⟩
              exact ⟨t + 1 + (hi - lo) / 5, by go_num, by omega, by omega, hbw14.trans (hdr.mono hbw14.size), D14.below hdr⟩
            case measure => simp [intOf]; omega
        · have HSM := HSC
          clear HALL HSC RI lR
          go_wp2_with fail
          have hP1 : ∀ W : World, Below wr.heap.size wr W → PathAt W V C.q C.s C.fr C.b (.slice a4 C.l.length c4) ∧ StepsAt W a4 j4 0 C.l := fun W hb => ⟨D12.pr.keep hb D12.pr.lt, D12.sr.below hb D12.sr.lt⟩
          have hP2 : ∀ W : World, Below wr.heap.size wr W → PathAt W X q s fr b (.slice a l.length cap) ∧ StepsAt W a b0 o l := fun W hb => ⟨D12.pa.keep hb D12.pa.lt, D12.st.below hb D12.st.lt⟩
          have DB : Below wr.heap.size wr wr.drew := (Below.refl _ _).drew
          have hL1 : C.l.length ≤ 1048576 := by omega
          have hL2 : l.length ≤ 1048576 := by omega
          have hT1 : (tubeL C.q C.s C.fr C.b C.l).length ≤ 1048576 := Nat.le_trans (tubeL_le _ _ _ _ _) hL1
          have hT2 : (tubeL q s fr b l).length ≤ 1048576 := Nat.le_trans (tubeL_le _ _ _ _ _) hL2
          clear k0 k1 HO hbw
          refine wp_region_any (by kernel_rfl) ?_
          change wpAny _ _ _ _ _ _ _ (World.drew _)
          refine wpAny_ready (rs := [0, 2]) (by kernel_rfl) (by simp) ?_
          refine AllReady.cons rfl (fun K hK => ?_) ?_
          · obtain ⟨⟨e0, e1, e2, e3, e4⟩, ef⟩ := (hP1 _ DB).1.cells
            go_simp
            clear e0 e1 e2 e3 e4 ef
            refine hK _ _ ?_
            clear hK K
            refine wpAny_ready (rs := [1, 2]) (by kernel_rfl) (by simp) ?_
            refine AllReady.cons rfl (fun K hK => ?_) ?_
            · go_simp
              refine (flyTubeI_any hI C.q C.s C.fr C.b a4 j4 0 c4 C.l _ hL1 (hP1 _ DB).2).mono ?_
              rintro e w2 ⟨v2, rfl, ho2, hb2⟩
              obtain ⟨ta, tg, tc, rfl, TB⟩ := boxes_owned ho2
              have D2 := DB.trans (hb2.mono DB.size)
              clear ho2 hb2
              refine hK _ _ ?_
              clear hK K
              refine wpAny_ready (rs := [2]) (by kernel_rfl) (by simp) ?_
              refine AllReady.cons rfl (fun K hK => ?_) ?_
              · obtain ⟨⟨e0, e1, e2, e3, e4⟩, ef⟩ := (hP2 _ D2).1.cells
                go_simp
                clear e0 e1 e2 e3 e4 ef
                refine hK _ _ ?_
                clear hK K
                refine wpAny_ready (rs := [3]) (by kernel_rfl) (by simp) ?_
                refine AllReady.cons rfl (fun K hK => ?_) ?_
                · go_simp
                  refine (flyTubeI_any hI q s fr b a b0 o cap l _ hL2 (hP2 _ D2).2).mono ?_
                  rintro e w3 ⟨v3, rfl, ho3, hb3⟩
                  obtain ⟨ua, ug, uc, rfl, UB⟩ := boxes_owned ho3
                  have D3 := D2.trans (hb3.mono D2.size)
                  have TB3 := TB.below hb3 TB.lt
                  clear ho3 hb3 TB
                  refine hK _ _ ?_
                  clear hK K
                  refine wpAny_ready (rs := [4]) (by kernel_rfl) (by simp) ?_
                  refine AllReady.cons rfl (fun K hK => ?_) ?_
                  · go_simp
                    refine (smallI_any ta ua tg 0 tc ug 0 uc _ _ _ hT1 hT2 TB3 UB).mono ?_
                    rintro e w4 ⟨rfl, hb4⟩
                    rw [HSM.out]
                    have D4 := D3.trans (hb4.mono D3.size)
                    clear hb4 TB3 UB
                    refine hK _ _ ?_
                    clear hK K
                    refine wpAny_take (i := 5) (v := .bool true) rfl (by kernel_rfl) (by kernel_rfl) (by kernel_rfl) (fun _ _ _ h => h) (Or.inl ⟨by rfl, fun W => by go_simp⟩) ?_
                    refine wpAny_done (by kernel_rfl) ?_ _
                    go_wp2
                    go_ret
                    exact ⟨rfl, D12.old.trans (D4.mono D12.old.size)⟩
                  exact AllReady.nil
                exact AllReady.nil
              exact AllReady.nil
            refine AllReady.cons rfl (fun K hK => ?_) ?_
            · obtain ⟨⟨e0, e1, e2, e3, e4⟩, ef⟩ := (hP2 _ DB).1.cells
              go_simp
              clear e0 e1 e2 e3 e4 ef
              refine hK _ _ ?_
              clear hK K
              refine wpAny_ready (rs := [1]) (by kernel_rfl) (by simp) ?_
              refine AllReady.cons rfl (fun K hK => ?_) ?_
              · go_simp
                refine (flyTubeI_any hI C.q C.s C.fr C.b a4 j4 0 c4 C.l _ hL1 (hP1 _ DB).2).mono ?_
                rintro e w2 ⟨v2, rfl, ho2, hb2⟩
                obtain ⟨ta, tg, tc, rfl, TB⟩ := boxes_owned ho2
                have D2 := DB.trans (hb2.mono DB.size)
                clear ho2 hb2
                refine hK _ _ ?_
                clear hK K
                refine wpAny_ready (rs := [3]) (by kernel_rfl) (by simp) ?_
                refine AllReady.cons rfl (fun K hK => ?_) ?_
                · go_simp
                  refine (flyTubeI_any hI q s fr b a b0 o cap l _ hL2 (hP2 _ D2).2).mono ?_
                  rintro e w3 ⟨v3, rfl, ho3, hb3⟩
                  obtain ⟨ua, ug, uc, rfl, UB⟩ := boxes_owned ho3
                  have D3 := D2.trans (hb3.mono D2.size)
                  have TB3 := TB.below hb3 TB.lt
                  clear ho3 hb3 TB
                  refine hK _ _ ?_
                  clear hK K
                  refine wpAny_ready (rs := [4]) (by kernel_rfl) (by simp) ?_
                  refine AllReady.cons rfl (fun K hK => ?_) ?_
                  · go_simp
                    refine (smallI_any ta ua tg 0 tc ug 0 uc _ _ _ hT1 hT2 TB3 UB).mono ?_
                    rintro e w4 ⟨rfl, hb4⟩
                    rw [HSM.out]
                    have D4 := D3.trans (hb4.mono D3.size)
                    clear hb4 TB3 UB
                    refine hK _ _ ?_
                    clear hK K
                    refine wpAny_take (i := 5) (v := .bool true) rfl (by kernel_rfl) (by kernel_rfl) (by kernel_rfl) (fun _ _ _ h => h) (Or.inl ⟨by rfl, fun W => by go_simp⟩) ?_
                    refine wpAny_done (by kernel_rfl) ?_ _
                    go_wp2
                    go_ret
                    exact ⟨rfl, D12.old.trans (D4.mono D12.old.size)⟩
                  exact AllReady.nil
                exact AllReady.nil
              exact AllReady.nil
            exact AllReady.nil
          refine AllReady.cons rfl (fun K hK => ?_) ?_
          · obtain ⟨⟨e0, e1, e2, e3, e4⟩, ef⟩ := (hP2 _ DB).1.cells
            go_simp
            clear e0 e1 e2 e3 e4 ef
            refine hK _ _ ?_
            clear hK K
            refine wpAny_ready (rs := [0]) (by kernel_rfl) (by simp) ?_
            refine AllReady.cons rfl (fun K hK => ?_) ?_
            · obtain ⟨⟨e0, e1, e2, e3, e4⟩, ef⟩ := (hP1 _ DB).1.cells
              go_simp
              clear e0 e1 e2 e3 e4 ef
              refine hK _ _ ?_
              clear hK K
              refine wpAny_ready (rs := [1]) (by kernel_rfl) (by simp) ?_
              refine AllReady.cons rfl (fun K hK => ?_) ?_
              · go_simp
                refine (flyTubeI_any hI C.q C.s C.fr C.b a4 j4 0 c4 C.l _ hL1 (hP1 _ DB).2).mono ?_
                rintro e w2 ⟨v2, rfl, ho2, hb2⟩
                obtain ⟨ta, tg, tc, rfl, TB⟩ := boxes_owned ho2
                have D2 := DB.trans (hb2.mono DB.size)
                clear ho2 hb2
                refine hK _ _ ?_
                clear hK K
                refine wpAny_ready (rs := [3]) (by kernel_rfl) (by simp) ?_
                refine AllReady.cons rfl (fun K hK => ?_) ?_
                · go_simp
                  refine (flyTubeI_any hI q s fr b a b0 o cap l _ hL2 (hP2 _ D2).2).mono ?_
                  rintro e w3 ⟨v3, rfl, ho3, hb3⟩
                  obtain ⟨ua, ug, uc, rfl, UB⟩ := boxes_owned ho3
                  have D3 := D2.trans (hb3.mono D2.size)
                  have TB3 := TB.below hb3 TB.lt
                  clear ho3 hb3 TB
                  refine hK _ _ ?_
                  clear hK K
                  refine wpAny_ready (rs := [4]) (by kernel_rfl) (by simp) ?_
                  refine AllReady.cons rfl (fun K hK => ?_) ?_
                  · go_simp
                    refine (smallI_any ta ua tg 0 tc ug 0 uc _ _ _ hT1 hT2 TB3 UB).mono ?_
                    rintro e w4 ⟨rfl, hb4⟩
                    rw [HSM.out]
                    have D4 := D3.trans (hb4.mono D3.size)
                    clear hb4 TB3 UB
                    refine hK _ _ ?_
                    clear hK K
                    refine wpAny_take (i := 5) (v := .bool true) rfl (by kernel_rfl) (by kernel_rfl) (by kernel_rfl) (fun _ _ _ h => h) (Or.inl ⟨by rfl, fun W => by go_simp⟩) ?_
                    refine wpAny_done (by kernel_rfl) ?_ _
                    go_wp2
                    go_ret
                    exact ⟨rfl, D12.old.trans (D4.mono D12.old.size)⟩
                  exact AllReady.nil
                exact AllReady.nil
              exact AllReady.nil
            exact AllReady.nil
          exact AllReady.nil
end Go.Proofs.YtijcdikekgmfoaaGreatDoor
