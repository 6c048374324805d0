/- The program's restOf, by its contract. -/
import Derived.Test.YtijcdikekgmfoaaGreatDoorHands
import Derived.Test.YtijcdikekgmfoaaGreatDoorSpanWin
import Derived.Deep.RegionWith
namespace Go.Proofs.YtijcdikekgmfoaaGreatDoor
open Go.RowKit

set_option maxRecDepth 20000 in
set_option maxHeartbeats 4000000 in
theorem restOf_any (hI : SpansSaid) (q s fr b st en nw : Int) (a : Option Addr) (b0 o cap : Nat) (l : List Stp) (w : World) (hl : l.length ≤ 1048576) (hs : StepsAt w a b0 o l) (hcap : l.length ≤ cap) :
    Calls Tryz.prog 64 #[.agg #[.int .i64 q, .int .i64 s, .slice a l.length cap, .int .i64 fr, .int .i64 b], .int .i64 st, .int .i64 en, .int .i64 nw] w (Hands (restA q s fr b l st en nw) w) := by
  have Q0 := PathAt.new w q s fr b (.slice a l.length cap)
  have P0 := PathAt.new (w.alloc (.cells #[.int .i64 q, .int .i64 s, .slice a l.length cap, .int .i64 fr, .int .i64 b] 27)) 0 0 0 0 (.slice none 0 0)
  rw [World.size_alloc] at P0
  have Q1 := Q0.keep ((Below.refl _ _).alloc (Nat.le_refl _) (.cells #[.int .i64 0, .int .i64 0, .slice none 0 0, .int .i64 0, .int .i64 0] 27)) Q0.lt
  have B0 : Below w.heap.size w ((w.alloc (.cells #[.int .i64 q, .int .i64 s, .slice a l.length cap, .int .i64 fr, .int .i64 b] 27)).alloc (.cells #[.int .i64 0, .int .i64 0, .slice none 0 0, .int .i64 0, .int .i64 0] 27)) := ((Below.refl _ _).alloc (Nat.le_refl _) _).alloc (by simp) _
  have NO : ∀ (W : World) (str : ByteArray), restA q s fr b l st en nw = .no → Below w.heap.size w W → Hands (restA q s fr b l st en nw) w (.returned (.tuple #[.agg #[.int .i64 0, .int .i64 0, .slice none 0 0, .int .i64 0, .int .i64 0], nothingV str])) W := fun W str h hb =>
    ⟨0, 0, 0, 0, none, 0, 0, nothingV str, rfl, Or.inr ⟨h, rfl, rfl, rfl, rfl, rfl, rfl, rfl, str, rfl⟩, hb⟩
  go_enter Tryz.func64, Tryz.ntmps64
  cases hin : inStepB q s fr b l st nw with
  | false =>
    have HA : Hid (restA q s fr b l st en nw = .no) := by show _ = _; unfold restA; rw [hin]; rfl
    go_wp2_with fail
    refine (canBe_no q s fr b st nw a b0 o cap l _ hl ((hs.alloc _).alloc _) hin).mono ?_
    rintro e w1 ⟨str, rfl, hb1⟩
    have P1 := P0.keep hb1 P0.lt
    have B1 := B0.trans (hb1.mono B0.size)
    obtain ⟨⟨f0, f1, f2, f3, f4⟩, ff⟩ := P1.cells
    clear hb1
    go_wp2
    refine bodyPost_ret (v := .tuple #[.agg #[.int .i64 0, .int .i64 0, .slice none 0 0, .int .i64 0, .int .i64 0], nothingV str]) (by simp [results, Tryz.results64, go_sem, *]) rfl (NO _ _ HA.out ?_)
    iterate 5 (refine Below.setCell ?_ (by show _ ≤ w.heap.size + 1; omega) _)
    exact B1
  | true =>
    have hin' := hin
    unfold inStepB at hin'
    simp only [Bool.and_eq_true] at hin'
    obtain ⟨⟨hp, hst⟩, hnw⟩ := hin'
    have hst' := (inB_iff _ _ _).1 hst
    have hnw' := (inB_iff _ _ _).1 hnw
    have hlen := path_len hp
    obtain ⟨k, rfl⟩ : ∃ k : Nat, st = (k : Int) := ⟨st.toNat, by omega⟩
    have hk : k < l.length := by omega
    go_wp2_with fail
    refine (canBe_yes q s fr b k nw a b0 o cap l _ hl ((hs.alloc _).alloc _) hin).mono ?_
    rintro e w1 ⟨rfl, hb1⟩
    have P1 := P0.keep hb1 P0.lt
    have Q2 := Q1.keep hb1 Q1.lt
    have B1 := B0.trans (hb1.mono B0.size)
    have al : Below w1.heap.size w1 (w1.alloc (.cells #[.int .i64 en, .int .i64 en] 56)) := (Below.refl _ _).alloc (Nat.le_refl _) _
    have P2 := P1.keep al P1.lt
    have Q3 := Q2.keep al Q2.lt
    have B2 := B1.trans (al.mono B1.size)
    have E2 := heap_alloc_new w1 (.cells #[.int .i64 en, .int .i64 en] 56)
    have z1 := P1.lt
    clear hb1 P0 Q0 Q1 B0 P1 Q2 B1 al hin hst hnw
    go_wp2_with fail
    refine (inside_any en 0 nw _).mono ?_
    rintro e w2 ⟨rfl, hb2⟩
    have P3 := P2.keep hb2 P2.lt
    have Q4 := Q3.keep hb2 Q3.lt
    have B3 := B2.trans (hb2.mono B2.size)
    have E3 := (hb2.block _ (lt_of_block E2)).trans E2
    have z2 := lt_of_block E3
    clear hb2 P2 Q3 B2 E2
    obtain ⟨⟨f0, f1, f2, f3, f4⟩, ff⟩ := P3.cells
    cases hen : inB en 0 nw with
    | false =>
      have HA : Hid (restA q s fr b l k en nw = .no) := by show _ = _; unfold restA; rw [hen, Bool.and_false]; rfl
      go_wp2
      refine bodyPost_ret (v := .tuple #[.agg #[.int .i64 0, .int .i64 0, .slice none 0 0, .int .i64 0, .int .i64 0], nothingV ⟨#[105, 116, 32, 119, 97, 115, 32, 101, 110, 116, 101, 114, 101, 100, 32, 97, 116, 32, 110, 111, 32, 116, 105, 99, 107, 32, 117, 112, 32, 116, 111, 32, 110, 111, 119]⟩]) (by simp [results, Tryz.results64, go_sem, *]) rfl (NO _ _ HA.out ?_)
      iterate 5 (refine Below.setCell ?_ (by show _ ≤ w.heap.size + 1; omega) _)
      exact B3
    | true =>
      have hen' := (inB_iff _ _ _).1 hen
      obtain ⟨t, ht⟩ : ∃ t, l.getD k .zero = t := ⟨_, rfl⟩
      have hti : inStepB q s fr b l k nw = true := by unfold inStepB; rw [hp, (inB_iff _ _ _).2 hst', (inB_iff _ _ _).2 hnw']; rfl
      have HA : Hid (restA q s fr b l k en nw = canA q s (leftFr fr l k nw) b (leftL l k (mxB t.fr en) (mnB t.by_ en) nw)) := by
        show _ = _; unfold restA; rw [hti, hen, Int.toNat_natCast, ht]; rfl
      have hsp := step_parts ((path_parts hp).2.2.2 k hk)
      rw [ht] at hsp
      have hx : 0 ≤ mxB t.fr en := by have := mxB_le t.fr en; omega
      have hy : mnB t.by_ en ≤ 10000 := by have := mnB_le t.by_ en; omega
      have k0 : (0 : Int) ≤ (k : Int) := by omega
      have k1 : (k : Int) < ((l.length + 1 : Nat) : Int) := by omega
      have k2 : (k : Int) < (l.length : Int) + 1 := by omega
      have hlow : (winL fr b l (l.length + 1))[k]? = some (t.fr, t.by_) := by unfold winL; simp only [List.getElem?_map]; rw [List.getElem?_range (by omega)]; simp [lowB, highB, hk, ← ht]
      obtain ⟨⟨c0, c1, c2, c3, c4⟩, _⟩ := Q4.cells
      obtain ⟨y0, y1, _⟩ := blk2 E3
      have hsd : StepsAt w2.drew a b0 o l := hs.below B3.drew hs.lt
      have zX : w.heap.size < w2.heap.size := Q4.lt
      have zZ : w.heap.size + 1 < w2.heap.size := P3.lt
      have HN : Hid (0 ≤ nw ∧ nw ≤ 10000) := hnw'
      have HP : Hid (pathB q s fr b l = true) := hp
      clear hnw' hst' hen' hp NO
      go_wp2
      go_region_with (first
          | (go_at_call 43; refine (winds_any _ _ _ _ _ b0 o _ _ _ hl hsd).mono ?_; rintro e w3 ⟨v3, rfl, ho3, hb3⟩; obtain ⟨g3, k3, rfl, _, hg3⟩ := owns_some ho3 (by omega); have r0 := (ho3.cellAt (k * 2) (by omega)).trans (spanCells_two hlow).1; have r1 := (ho3.cellAt (k * 2 + 1) (by omega)).trans (spanCells_two hlow).2; have n0 : ∀ j, w3.cell? ⟨w.heap.size, j, none⟩ = w2.cell? ⟨w.heap.size, j, none⟩ := fun j => hb3.cell (p := ⟨w.heap.size, j, none⟩) zX; have n1 : ∀ j, w3.cell? ⟨w1.heap.size, j, none⟩ = w2.cell? ⟨w1.heap.size, j, none⟩ := fun j => hb3.cell (p := ⟨w1.heap.size, j, none⟩) z2)
          | (go_at_call 97; refine (meet_any _ _ _ _ _).mono ?_; rintro e w4 ⟨rfl, hb4⟩; have n2 : ∀ j, w4.cell? ⟨w.heap.size, j, none⟩ = w3.cell? ⟨w.heap.size, j, none⟩ := fun j => hb4.cell (p := ⟨w.heap.size, j, none⟩) (Nat.lt_of_lt_of_le zX hb3.size); have n3 : ∀ j, w4.cell? ⟨w1.heap.size, j, none⟩ = w3.cell? ⟨w1.heap.size, j, none⟩ := fun j => hb4.cell (p := ⟨w1.heap.size, j, none⟩) (Nat.lt_of_lt_of_le z2 hb3.size))
          | (go_at_call 107; refine (left_any hI q s fr b (mxB t.fr en) (mnB t.by_ en) nw k a b0 o cap l w4 ((hsd.below hb3 hsd.lt).below hb4 (hsd.below hb3 hsd.lt).lt) hcap HP.out hk hx hy HN.out).mono ?_; intro e w5 hL; obtain ⟨q5, s5, fr5, b5, a5, n5, c5, err5, rfl, hG, hb5⟩ := hL.hands; clear hL; have n4 : ∀ j, w5.cell? ⟨w.heap.size, j, none⟩ = w4.cell? ⟨w.heap.size, j, none⟩ := (fun j => hb5.cell (p := ⟨w.heap.size, j, none⟩) (Nat.lt_of_lt_of_le (Nat.lt_of_lt_of_le zX hb3.size) hb4.size)); have n5' : ∀ j, w5.cell? ⟨w1.heap.size, j, none⟩ = w4.cell? ⟨w1.heap.size, j, none⟩ := (fun j => hb5.cell (p := ⟨w1.heap.size, j, none⟩) (Nat.lt_of_lt_of_le (Nat.lt_of_lt_of_le z2 hb3.size) hb4.size)); have B5 : Below w2.heap.size w2 w5 := (((Below.refl w2.heap.size w2).drew).trans (hb3.trans (hb4.mono hb3.size))).trans (hb5.mono (Nat.le_trans hb3.size hb4.size)); have P5 := P3.keep B5 P3.lt; have P5c := P5.cells; have f0' := P5c.1.1; have f1' := P5c.1.2.1; have f2' := P5c.1.2.2.1; have f3' := P5c.1.2.2.2.1; have f4' := P5c.1.2.2.2.2; have ff' := P5c.2))
      all_goals (
        have zs4 : w2.heap.size ≤ w4.heap.size := Nat.le_trans hb3.size hb4.size
        have B6 := B3.trans (B5.mono B3.size)
        clear n0 n1 n2 n3 n4 n5' r0 r1 c0 c1 c2 c3 c4 y0 y1 hb3 hb4 hb5 ho3 hsd hlow f0 f1 f2 f3 f4 ff B5 P3 Q4 E3 P5c
        go_wp2
        refine bodyPost_ret (v := .tuple #[.agg #[.int .i64 q5, .int .i64 s5, .slice a5 n5 c5, .int .i64 fr5, .int .i64 b5], err5]) (by simp [results, Tryz.results64, go_sem, *]) rfl ⟨q5, s5, fr5, b5, a5, n5, c5, err5, rfl, ?_, ?_⟩
        · rw [HA.out]
          refine LG.base (base := w4.heap.size) ?_ (by omega)
          iterate 5 (refine LG.set ?_ (by omega) _ _)
          exact hG
        · iterate 5 (refine Below.setCell ?_ (by show _ ≤ w.heap.size + 1; omega) _)
          exact B6)
end Go.Proofs.YtijcdikekgmfoaaGreatDoor
