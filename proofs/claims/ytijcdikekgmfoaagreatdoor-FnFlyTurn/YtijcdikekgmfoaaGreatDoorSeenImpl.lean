/- The program's seenOf and somethingLeft, by their contracts. -/
import Derived.Test.YtijcdikekgmfoaaGreatDoorHands
import Derived.Deep.RegionHeld3
namespace Go.Proofs.YtijcdikekgmfoaaGreatDoor
open Go.RowKit

set_option maxRecDepth 20000 in
set_option maxHeartbeats 4000000 in
theorem seenOf_any (hI : SpansSaid) (q s fr b st nw : Int) (a : Option Addr) (b0 o cap : Nat) (l : List Stp) (w : World) (hl : l.length ≤ 1048576) (hs : StepsAt w a b0 o l) (hcap : l.length ≤ cap) :
    Calls Tryz.prog 65 #[.agg #[.int .i64 q, .int .i64 s, .slice a l.length cap, .int .i64 fr, .int .i64 b], .int .i64 st, .int .i64 nw] w (Hands (seenA q s fr b l st nw) w) := by
  have Q0 := PathAt.new w q s fr b (.slice a l.length cap)
  have P0 := PathAt.new (w.alloc (.cells #[.int .i64 q, .int .i64 s, .slice a l.length cap, .int .i64 fr, .int .i64 b] 27)) 0 0 0 0 (.slice none 0 0)
  rw [World.size_alloc] at P0
  have Q1 := Q0.keep ((Below.refl _ _).alloc (Nat.le_refl _) (.cells #[.int .i64 0, .int .i64 0, .slice none 0 0, .int .i64 0, .int .i64 0] 27)) Q0.lt
  have B0 : Below w.heap.size w ((w.alloc (.cells #[.int .i64 q, .int .i64 s, .slice a l.length cap, .int .i64 fr, .int .i64 b] 27)).alloc (.cells #[.int .i64 0, .int .i64 0, .slice none 0 0, .int .i64 0, .int .i64 0] 27)) := ((Below.refl _ _).alloc (Nat.le_refl _) _).alloc (by simp) _
  have NO : ∀ (W : World) (str : ByteArray), seenA q s fr b l st nw = .no → Below w.heap.size w W → Hands (seenA q s fr b l st nw) w (.returned (.tuple #[.agg #[.int .i64 0, .int .i64 0, .slice none 0 0, .int .i64 0, .int .i64 0], nothingV str])) W := fun W str h hb =>
    ⟨0, 0, 0, 0, none, 0, 0, nothingV str, rfl, Or.inr ⟨h, rfl, rfl, rfl, rfl, rfl, rfl, rfl, str, rfl⟩, hb⟩
  go_enter Tryz.func65, Tryz.ntmps65
  cases hin : inStepB q s fr b l st nw with
  | false =>
    have HA : Hid (seenA q s fr b l st nw = .no) := by show _ = _; unfold seenA; rw [hin]; rfl
    go_wp2_with fail
    refine (canBe_no q s fr b st nw a b0 o cap l _ hl ((hs.alloc _).alloc _) hin).mono ?_
    rintro e w1 ⟨str, rfl, hb1⟩
    have P1 := P0.keep hb1 P0.lt
    have B1 := B0.trans (hb1.mono B0.size)
    obtain ⟨⟨f0, f1, f2, f3, f4⟩, ff⟩ := P1.cells
    clear hb1
    go_wp2
    refine bodyPost_ret (v := .tuple #[.agg #[.int .i64 0, .int .i64 0, .slice none 0 0, .int .i64 0, .int .i64 0], nothingV str]) (by simp [results, Tryz.results65, go_sem, *]) rfl (NO _ _ HA.out ?_)
    iterate 5 (refine Below.setCell ?_ (by show _ ≤ w.heap.size + 1; omega) _)
    exact B1
  | true =>
    have hin' := hin
    unfold inStepB at hin'
    simp only [Bool.and_eq_true] at hin'
    obtain ⟨⟨hp, hst⟩, hnw⟩ := hin'
    have hst' := (inB_iff _ _ _).1 hst
    have hnw' := (inB_iff _ _ _).1 hnw
    have hlen := path_len hp
    obtain ⟨k, rfl⟩ : ∃ k : Nat, st = (k : Int) := ⟨st.toNat, by omega⟩
    have hk : k < l.length := by omega
    have hfl : flyB q s fr b l = spanB q s fr b l := by unfold flyB; rw [hp]; rfl
    have hfL : flyL q s fr b l = spansL q s fr b l := by unfold flyL; rw [hp]; rfl
    have hIs : ∀ W : World, StepsAt W a b0 o l → Calls Tryz.prog 10 #[.agg #[.int .i64 q, .int .i64 s, .slice a l.length cap, .int .i64 fr, .int .i64 b]] W fun e w' => ∃ v, e = .returned (.tuple #[v, .bool (spanB q s fr b l)]) ∧ w'.ownsRow W.heap.size 56 2 v (spansL q s fr b l).length (spanCells (spansL q s fr b l)) ∧ Below W.heap.size W w' := fun W hW => by
      have := hI q s fr b a b0 o cap l W hl hW
      rw [hfl, hfL] at this
      exact this
    go_wp2_with fail
    refine (canBe_yes q s fr b k nw a b0 o cap l _ hl ((hs.alloc _).alloc _) hin).mono ?_
    rintro e w1 ⟨rfl, hb1⟩
    have P1 := P0.keep hb1 P0.lt
    have Q2 := Q1.keep hb1 Q1.lt
    have B1 := B0.trans (hb1.mono B0.size)
    have z1 := P1.lt
    obtain ⟨⟨c0, c1, c2, c3, c4⟩, _⟩ := Q2.cells
    clear hb1 P0 Q0 Q1 B0 hin hst hnw
    go_wp2_with fail
    refine (hIs _ (hs.below B1 hs.lt)).mono ?_
    rintro e w2 ⟨v2, rfl, ho2, hb2⟩
    have P3 := P1.keep hb2 P1.lt
    have Q4 := Q2.keep hb2 Q2.lt
    have B3 := B1.trans (hb2.mono B1.size)
    clear hb2 P1 Q2 B1 hIs c0 c1 c2 c3 c4
    obtain ⟨⟨f0, f1, f2, f3, f4⟩, ff⟩ := P3.cells
    cases hsb : spanB q s fr b l with
    | false =>
      have HA : Hid (seenA q s fr b l k nw = .no) := by show _ = _; unfold seenA; rw [hsb, Bool.and_false]; rfl
      go_wp2
      refine bodyPost_ret (v := .tuple #[.agg #[.int .i64 0, .int .i64 0, .slice none 0 0, .int .i64 0, .int .i64 0], nothingV ⟨#[116, 104, 101, 114, 101, 32, 119, 97, 115, 32, 110, 111, 32, 102, 108, 105, 103, 104, 116, 32, 97, 108, 111, 110, 103, 32, 105, 116]⟩]) (by simp [results, Tryz.results65, go_sem, *]) rfl (NO _ _ HA.out ?_)
      iterate 5 (refine Below.setCell ?_ (by show _ ≤ w.heap.size + 1; omega) _)
      exact B3
    | true =>
      obtain ⟨x, hx'⟩ : ∃ x, spanOf q s fr b l k = x := ⟨_, rfl⟩
      have hti : inStepB q s fr b l k nw = true := by unfold inStepB; rw [hp, (inB_iff _ _ _).2 hst', (inB_iff _ _ _).2 hnw']; rfl
      have HA : Hid (seenA q s fr b l k nw = canA q s (leftFr fr l k nw) b (leftL l k x.1 (mnB x.2 nw) nw)) := by
        show _ = _; unfold seenA; rw [hti, hsb, Int.toNat_natCast, hx']; rfl
      have hsl : (spansL q s fr b l).length = l.length + 1 := by unfold spansL; rw [if_pos hsb]; simp
      have hgx : (spansL q s fr b l)[k]? = some x := by unfold spansL; rw [if_pos hsb, List.getElem?_map, List.getElem?_range (by omega), ← hx']; rfl
      have hlo := span_lo hp hsb (Nat.le_of_lt hk)
      rw [hx'] at hlo
      have hy : mnB x.2 nw ≤ 10000 := by have := mnB_le x.2 nw; omega
      have hm0 : mxB x.1 0 = x.1 := mx_lo hlo
      rw [hsl] at ho2
      obtain ⟨g3, k3, rfl, _, hg3⟩ := owns_some ho2 (by omega)
      have r0 := (ho2.cellAt (k * 2) (by omega)).trans (spanCells_two hgx).1
      have r1 := (ho2.cellAt (k * 2 + 1) (by omega)).trans (spanCells_two hgx).2
      have k0 : (0 : Int) ≤ (k : Int) := by omega
      have k1 : (k : Int) < ((l.length + 1 : Nat) : Int) := by omega
      have k2 : (k : Int) < (l.length : Int) + 1 := by omega
      obtain ⟨⟨c0, c1, c2, c3, c4⟩, _⟩ := Q4.cells
      have hsd : StepsAt w2.drew a b0 o l := hs.below B3.drew hs.lt
      have zX : w.heap.size < w2.heap.size := Q4.lt
      have zZ : w.heap.size + 1 < w2.heap.size := P3.lt
      have HN : Hid (0 ≤ nw ∧ nw ≤ 10000) := hnw'
      have HP : Hid (pathB q s fr b l = true) := hp
      have MT : ∀ W : World, Calls Tryz.prog 97 #[.agg #[.int .i64 x.1, .int .i64 x.2], .agg #[.int .i64 0, .int .i64 nw]] W fun e w' => e = .returned (.agg #[.int .i64 x.1, .int .i64 (mnB x.2 nw)]) ∧ Below W.heap.size W w' := fun W => by have := meet_any x.1 x.2 0 nw W; rw [hm0] at this; exact this
      clear hnw' hst' hp NO ho2 hgx hsl hm0
      go_wp2
      go_region_held3 (fun w' => w'.cell? ⟨w.heap.size, 0, none⟩ = some (.int .i64 q) ∧ w'.cell? ⟨w.heap.size, 1, none⟩ = some (.int .i64 s) ∧ w'.cell? ⟨w.heap.size, 2, none⟩ = some (.slice a l.length cap) ∧ w'.cell? ⟨w.heap.size, 3, none⟩ = some (.int .i64 fr) ∧ w'.cell? ⟨w.heap.size, 4, none⟩ = some (.int .i64 b) ∧ w'.cell? ⟨g3, k * 2, none⟩ = some (.int .i64 x.1) ∧ w'.cell? ⟨g3, k * 2 + 1, none⟩ = some (.int .i64 x.2))
        (simp [go_sem, *])
        (first
          | (go_at_call 97; refine (MT _).mono ?_; rintro e w4 ⟨rfl, hb4⟩; have n2 : ∀ j, w4.cell? ⟨w.heap.size, j, none⟩ = w2.cell? ⟨w.heap.size, j, none⟩ := fun j => hb4.cell (p := ⟨w.heap.size, j, none⟩) zX; have n3 : ∀ j, w4.cell? ⟨g3, j, none⟩ = w2.cell? ⟨g3, j, none⟩ := fun j => hb4.cell (p := ⟨g3, j, none⟩) hg3)
          | (go_at_call 107; refine (left_any hI q s fr b x.1 (mnB x.2 nw) nw k a b0 o cap l w4 (hsd.below hb4 hsd.lt) hcap HP.out hk hlo hy HN.out).mono ?_; intro e w5 hL; obtain ⟨q5, s5, fr5, b5, a5, n5, c5, err5, rfl, hG, hb5⟩ := hL.hands; clear hL; have n4 : ∀ j, w5.cell? ⟨w.heap.size, j, none⟩ = w4.cell? ⟨w.heap.size, j, none⟩ := (fun j => hb5.cell (p := ⟨w.heap.size, j, none⟩) (Nat.lt_of_lt_of_le zX hb4.size)); have n5' : ∀ j, w5.cell? ⟨g3, j, none⟩ = w4.cell? ⟨g3, j, none⟩ := (fun j => hb5.cell (p := ⟨g3, j, none⟩) (Nat.lt_of_lt_of_le hg3 hb4.size)); have B5 : Below w2.heap.size w2 w5 := ((Below.refl w2.heap.size w2).drew).trans (hb4.trans (hb5.mono hb4.size)); have P5 := P3.keep B5 P3.lt; have P5c := P5.cells; have f0' := P5c.1.1; have f1' := P5c.1.2.1; have f2' := P5c.1.2.2.1; have f3' := P5c.1.2.2.2.1; have f4' := P5c.1.2.2.2.2; have ff' := P5c.2))
      have B6 := B3.trans (B5.mono B3.size)
      have zs4 := hb4.size
      clear n2 n3 n4 n5' r0 r1 c0 c1 c2 c3 c4 hb4 hb5 hsd f0 f1 f2 f3 f4 ff B5 P3 Q4 P5c MT
      go_wp2
      refine bodyPost_ret (v := .tuple #[.agg #[.int .i64 q5, .int .i64 s5, .slice a5 n5 c5, .int .i64 fr5, .int .i64 b5], err5]) (by simp [results, Tryz.results65, go_sem, *]) rfl ⟨q5, s5, fr5, b5, a5, n5, c5, err5, rfl, ?_, ?_⟩
      · rw [HA.out]
        refine LG.base (base := w4.heap.size) ?_ (by simp at zs4; omega)
        iterate 5 (refine LG.set ?_ (by simp at zs4; omega) _ _)
        exact hG
      · iterate 5 (refine Below.setCell ?_ (by show _ ≤ w.heap.size + 1; omega) _)
        exact B6
end Go.Proofs.YtijcdikekgmfoaaGreatDoor
