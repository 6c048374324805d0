/- Joined texts: Oth, TurnDraw, TurnMath, TurnData. -/
import Derived.Deep.DeepCutAuto
import Derived.Test.YtijcdikekgmfoaaGreatDoorJ05
import Derived.Test.YtijcdikekgmfoaaGreatDoorJ04
namespace Go.Proofs.YtijcdikekgmfoaaGreatDoor
open Go.RowKit

set_option maxRecDepth 20000 in
set_option maxHeartbeats 4000000 in
theorem other_3 (B : Nat) (R : Rdr) (p : Nat) (q s fr b : Int) (a : Option Addr) (b0 o cap : Nat) (l : List Stp) (w : World) (h : RdAt w B R p) (hp : p ≤ 999900000) (hl0 : 1 ≤ l.length) (hl : l.length ≤ 41) (hs : StepsAt w a b0 o l) (hbB : l ≠ [] → b0 ≠ B) (h0 : pickV R (p + 1) 4 ≠ 0) (h1 : pickV R (p + 1) 4 ≠ 1) (h2 : pickV R (p + 1) 4 ≠ 2) :
    Calls Tryz.prog 76 #[.pointer (some ⟨B, 0, none⟩), .agg #[.int .i64 q, .int .i64 s, .slice a l.length cap, .int .i64 fr, .int .i64 b]] w (OtherPost w B R p) := by
  have hB := lt_of_block h.blk
  have R0 := ((RdW.refl h).alloc (.cells #[.int .i64 q, .int .i64 s, .slice a l.length cap, .int .i64 fr, .int .i64 b] 27)).alloc (.cells #[.int .i64 0, .int .i64 0, .slice none 0 0, .int .i64 0, .int .i64 0] 27)
  have P0 := PathAt.new (w.alloc (.cells #[.int .i64 q, .int .i64 s, .slice a l.length cap, .int .i64 fr, .int .i64 b] 27)) 0 0 0 0 (.slice none 0 0)
  rw [World.size_alloc] at P0
  have Q0 := (PathAt.new w q s fr b (.slice a l.length cap)).keep ((Below.refl _ _).alloc (Nat.le_refl _) (.cells #[.int .i64 0, .int .i64 0, .slice none 0 0, .int .i64 0, .int .i64 0] 27)) (by simp)
  have b3 : ((l.length : Int) == 0) = false := beq_eq_false_iff_ne.2 (by omega)
  go_enter Tryz.func76, Tryz.ntmps76
  go_wp2_with fail
  refine (pick_any B R p (l.length : Int) _ R0.rd (by omega)).mono ?_
  rintro e w1 ⟨rfl, r1, g1, s1⟩
  have R1 := R0.more r1 g1
  have P1 := P0.grown g1 (by simp; omega)
  have Q1 := Q0.grown g1 (by simp; omega)
  have hs1 := ((hs.alloc (.cells #[.int .i64 q, .int .i64 s, .slice a l.length cap, .int .i64 fr, .int .i64 b] 27)).alloc (.cells #[.int .i64 0, .int .i64 0, .slice none 0 0, .int .i64 0, .int .i64 0] 27)).grown g1 (fun hn e => hbB hn (by cases e; rfl))
  obtain ⟨kn, hkn⟩ : ∃ kn : Nat, pickV R p (l.length : Int) = (kn : Int) := Int.eq_ofNat_of_zero_le (pickV_range h.rng (by omega) (by omega)).1
  have hk := (pickV_range (n := (l.length : Int)) h.rng (show p ≤ 1000000000 by omega) (by omega)).2
  rw [hkn] at hk ⊢
  have hz1 : w1.heap.size = w.heap.size + 1 + 1 := by rw [s1]; simp
  have Hz1 : Hid (w1.heap.size = w.heap.size + 1 + 1) := hz1
  clear hkn r1 g1 s1 R0 P0 Q0 hz1
  have k0 : (0 : Int) ≤ (kn : Int) := by omega
  have hkl : kn < l.length := by omega
  obtain ⟨⟨e0, e1, e2, e3, e4⟩, ef⟩ := Q1.cells
  go_wp2_with fail
  refine (copyS_any q s fr b a b0 o cap l _ hl0 (by omega) hs1).mono ?_
  rintro e w2 ⟨g, gc, rfl, ho2, hb2⟩
  have R2 := R1.below hb2
  have P2 := P1.keep hb2 P1.lt
  have ho2' : w2.ownsRow (w.heap.size + 1 + 1) 44 7 (.slice (some ⟨g, 0, none⟩) l.length gc) l.length (stepCells l) := by rw [← Hz1.out]; exact ho2
  have D1 : SpD w (w2.alloc (.cells #[.int .i64 q, .int .i64 s, (.slice (some ⟨g, 0, none⟩) l.length gc), .int .i64 fr, .int .i64 b] 27)) B R (p + 1) (w.heap.size + 1) w2.heap.size q s fr b (.slice (some ⟨g, 0, none⟩) l.length gc) l :=
    ⟨R2.alloc _, by omega, P2.lt, P2.keep ((Below.refl _ _).alloc (Nat.le_refl _) _) P2.lt, PathAt.new w2 q s fr b _, owns_below ho2' ((Below.refl _ _).alloc (Nat.le_refl _) _)⟩
  clear R1 P1 R2 P2 ho2 ho2' hb2 Q1 e0 e1 e2 e3 e4 ef hs1 Hz1
  go_wp2_with fail
  refine (pick_any B R (p + 1) 4 _ D1.rd.rd (by omega)).mono ?_
  rintro e w3 ⟨rfl, r3, g3, s3⟩
  have D2 := D1.more r3 g3
  clear D1 r3 g3 s3
  generalize w2.heap.size = X at *
  have hZX : w.heap.size + 1 ≠ X := by have := D2.lt; omega
  generalize pickV R (p + 1) 4 = m at *
  have g0 : (m == 0) = false := beq_eq_false_iff_ne.2 h0
  have g1 : (m == 1) = false := beq_eq_false_iff_ne.2 h1
  have g2 : (m == 2) = false := beq_eq_false_iff_ne.2 h2
  obtain ⟨⟨e0, e1, e2, e3, e4⟩, ef⟩ := D2.pa.cells
  obtain ⟨⟨f0, f1, f2, f3, f4⟩, ff⟩ := D2.res.cells
  go_wp2
  refine bodyPost_ret (v := .agg #[.int .i64 q, .int .i64 s, .slice (some ⟨g, 0, none⟩) l.length gc, .int .i64 fr, .int .i64 b]) (by simp [results, Tryz.results76, go_sem, f0, f1, f2, f3, f4]) rfl ?_
  exact D2.postO (by omega) (by omega)

set_option maxRecDepth 20000 in
set_option maxHeartbeats 4000000 in
theorem other_none (B : Nat) (R : Rdr) (p : Nat) (q s fr b : Int) (a : Option Addr) (b0 o cap : Nat) (l : List Stp) (w : World) (h : RdAt w B R p) (hp : p ≤ 999900000) (hl : l.length ≤ 41) (hs : StepsAt w a b0 o l) (hbB : l ≠ [] → b0 ≠ B) (hn : l = []) :
    Calls Tryz.prog 76 #[.pointer (some ⟨B, 0, none⟩), .agg #[.int .i64 q, .int .i64 s, .slice a l.length cap, .int .i64 fr, .int .i64 b]] w (OtherPost w B R p) := by
  subst hn
  have hB := lt_of_block h.blk
  have R0 := ((RdW.refl h).alloc (.cells #[.int .i64 q, .int .i64 s, .slice a ([] : List Stp).length cap, .int .i64 fr, .int .i64 b] 27)).alloc (.cells #[.int .i64 0, .int .i64 0, .slice none 0 0, .int .i64 0, .int .i64 0] 27)
  have P0 := PathAt.new (w.alloc (.cells #[.int .i64 q, .int .i64 s, .slice a ([] : List Stp).length cap, .int .i64 fr, .int .i64 b] 27)) 0 0 0 0 (.slice none 0 0)
  rw [World.size_alloc] at P0
  have Q0 := (PathAt.new w q s fr b (.slice a ([] : List Stp).length cap)).keep ((Below.refl _ _).alloc (Nat.le_refl _) (.cells #[.int .i64 0, .int .i64 0, .slice none 0 0, .int .i64 0, .int .i64 0] 27)) (by simp)
  obtain ⟨⟨e0, e1, e2, e3, e4⟩, ef⟩ := Q0.cells
  go_enter Tryz.func76, Tryz.ntmps76
  go_wp2_with fail
  refine (path_draw B R p _ R0.rd (by omega)).mono ?_
  rintro e w1 ⟨q', s', fr', b', v, l, p1, rfl, hl1, hl2, ho1, hp1, R1'⟩
  have R1 := R0.more R1'.rd R1'.gr
  have P1 := P0.grown R1'.gr (by simp; omega)
  clear e0 e1 e2 e3 e4 ef Q0 R0 P0 R1'
  obtain ⟨g, gc, rfl, hg1, hg2⟩ := owns_some ho1 (by omega)
  simp only [World.size_alloc] at hg1
  obtain ⟨⟨f0, f1, f2, f3, f4⟩, ff⟩ := P1.cells
  go_wp2
  refine bodyPost_ret (v := .agg #[.int .i64 q', .int .i64 s', .slice (some ⟨g, 0, none⟩) l.length gc, .int .i64 fr', .int .i64 b']) (by simp [results, Tryz.results76, go_sem, f0, f1, f2, f3, f4]) rfl ?_
  refine ⟨q', s', fr', b', _, l, p1, rfl, by omega, ?_, by omega, ?_⟩
  · have hh : ∀ k, (Value.slice (some ⟨g, 0, none⟩) l.length gc).ownBlock = some k → k ≠ w.heap.size + 1 := fun k e => by
      have e' : g = k := by simpa [Value.ownBlock] using e
      omega
    iterate 5 (refine owns_set ?_ hh _ _)
    exact ⟨ho1.1, ho1.2.imp id fun ⟨g, cap, cur, h1, h2, h3⟩ => ⟨g, cap, cur, h1, by simp only [World.size_alloc] at h2; omega, h3⟩⟩
  · iterate 5 (refine RdW.set ?_ (by omega) _ _)
    exact R1

theorem other_draw (B : Nat) (R : Rdr) (p : Nat) (q s fr b : Int) (a : Option Addr) (b0 o cap : Nat) (l : List Stp) (w : World) (h : RdAt w B R p) (hp : p ≤ 999900000) (hl : l.length ≤ 41) (hs : StepsAt w a b0 o l) (hbB : l ≠ [] → b0 ≠ B) :
    Calls Tryz.prog 76 #[.pointer (some ⟨B, 0, none⟩), .agg #[.int .i64 q, .int .i64 s, .slice a l.length cap, .int .i64 fr, .int .i64 b]] w (OtherPost w B R p) := by
  by_cases hn : l = []
  · exact other_none B R p q s fr b a b0 o cap l w h hp hl hs hbB hn
  · have hl0 : 1 ≤ l.length := List.length_pos_iff.2 hn
    by_cases h0 : pickV R (p + 1) 4 = 0
    · exact other_0 B R p q s fr b a b0 o cap l w h hp hl0 hl hs hbB h0
    · by_cases h1 : pickV R (p + 1) 4 = 1
      · exact other_1 B R p q s fr b a b0 o cap l w h hp hl0 hl hs hbB h1
      · by_cases h2 : pickV R (p + 1) 4 = 2
        · exact other_2 B R p q s fr b a b0 o cap l w h hp hl0 hl hs hbB h2
        · exact other_3 B R p q s fr b a b0 o cap l w h hp hl0 hl hs hbB h0 h1 h2
end Go.Proofs.YtijcdikekgmfoaaGreatDoor

namespace Go.Proofs.YtijcdikekgmfoaaGreatDoor
open Go.RowKit

theorem own_pathC {w : World} {base n : Nat} {v : Value} {l : List Stp} (h : w.ownsRow base 44 7 v n (stepCells l)) (hn : n = l.length) : ∃ a b0 cap, v = .slice a l.length cap ∧ l.length ≤ cap ∧ StepsAt w a b0 0 l ∧ (l ≠ [] → base ≤ b0 ∧ v.ownBlock = some b0) := by
  subst hn
  rcases h.2 with ⟨rfl, h0⟩ | ⟨g, cap, cur, rfl, hg, hh, hc, _⟩
  · have hl : l = [] := List.eq_nil_of_length_eq_zero h0
    subst hl
    exact ⟨none, 0, 0, rfl, Nat.le_refl _, ⟨fun h => absurd rfl h, fun h => absurd rfl h, fun i t hi => by simp at hi⟩, fun h => absurd rfl h⟩
  · exact ⟨_, g, cap, rfl, hc, steps_owned h, fun _ => ⟨hg, rfl⟩⟩
theorem PathAt.set5d {W : World} {H : Nat} {q0 s0 fr0 b0 : Int} {v0 : Value} (h : PathAt W H q0 s0 fr0 b0 v0) (q s fr b : Int) (v : Value) :
    PathAt (((((W.setCell ⟨H, 0, none⟩ (.int .i64 q)).setCell ⟨H, 1, none⟩ (.int .i64 s)).setCell ⟨H, 2, none⟩ v).setCell ⟨H, 3, none⟩ (.int .i64 fr)).setCell ⟨H, 4, none⟩ (.int .i64 b)) H q s fr b v := by
  have h1 := h.it
  refine ⟨?_⟩
  simp [World.setCell, Array.getElem?_modify, h1]
/-- The first path, as it lies while the second is drawn. -/
structure Td1 (w wr : World) (B : Nat) (R : Rdr) (p X : Nat) (q s fr b : Int) (a : Option Addr) (b0 o cap : Nat) (l : List Stp) : Prop where
  was : Below w.heap.size w wr
  rd : RdAt wr B R p
  r1 : PathAt wr w.heap.size 0 0 0 0 (.slice none 0 0)
  r2 : PathAt wr (w.heap.size + 1) 0 0 0 0 (.slice none 0 0)
  bge : w.heap.size + 1 < B
  ge : B < X
  pa : PathAt wr X q s fr b (.slice a l.length cap)
  st : StepsAt wr a b0 o l
  b0g : l ≠ [] → B < b0 ∧ b0 < X
section
variable {w wr w' : World} {B : Nat} {R : Rdr} {p p' X Y : Nat} {q s fr b q' s' fr' b' : Int} {a a' : Option Addr} {b0 o cap b0' o' cap' : Nat} {l l' : List Stp}
theorem Td1.more (h : Td1 w wr B R p X q s fr b a b0 o cap l) (hr : RdAt w' B R p') (hg : wr.grownBy w' (some B)) : Td1 w w' B R p' X q s fr b a b0 o cap l := by
  have h1 := h.bge
  have h2 := h.ge
  exact ⟨h.was.grown hg h.was.size (fun k e => by cases e; omega), hr, h.r1.grown hg (by simp; omega), h.r2.grown hg (by simp; omega), h.bge, h.ge, h.pa.grown hg (by simp; omega), h.st.grown hg (fun hl e => by have := h.b0g hl; cases e; omega), h.b0g⟩
theorem Td1.below (h : Td1 w wr B R p X q s fr b a b0 o cap l) (hb : Below wr.heap.size wr w') : Td1 w w' B R p X q s fr b a b0 o cap l :=
  ⟨h.was.trans (hb.mono h.was.size), h.rd.below hb (lt_of_block h.rd.blk), h.r1.keep hb h.r1.lt, h.r2.keep hb h.r2.lt, h.bge, h.ge, h.pa.keep hb h.pa.lt, h.st.below hb h.st.lt, h.b0g⟩
theorem Td1.setY (h : Td1 w wr B R p X q s fr b a b0 o cap l) (hY : X < Y) (j : Nat) (u : Value) : Td1 w (wr.setCell ⟨Y, j, none⟩ u) B R p X q s fr b a b0 o cap l := by
  have h1 := h.bge
  have h2 := h.ge
  have hg := grown_set wr ⟨Y, j, none⟩ u
  exact ⟨h.was.setCell (show w.heap.size ≤ Y by omega) u, h.rd.grown hg (by simp; omega) (fun k e => by cases e; show B ≤ Y; omega), h.r1.set (by show _ ≠ Y; omega) u, h.r2.set (by show _ ≠ Y; omega) u, h.bge, h.ge, h.pa.set (by show _ ≠ Y; omega) u, h.st.grown hg (fun hl e => by have := h.b0g hl; have e' : Y = b0 := (by simpa using e); omega), h.b0g⟩
/-- Both paths. -/
structure Td2 (w wr : World) (B : Nat) (R : Rdr) (p X Y : Nat) (q s fr b : Int) (a : Option Addr) (b0 o cap : Nat) (l : List Stp) (q' s' fr' b' : Int) (a' : Option Addr) (b0' o' cap' : Nat) (l' : List Stp) : Prop where
  one : Td1 w wr B R p X q s fr b a b0 o cap l
  geY : X < Y
  pb : PathAt wr Y q' s' fr' b' (.slice a' l'.length cap')
  st2 : StepsAt wr a' b0' o' l'
  b2 : l' ≠ [] → X < b0' ∧ b0' ≠ Y
theorem Td2.more (h : Td2 w wr B R p X Y q s fr b a b0 o cap l q' s' fr' b' a' b0' o' cap' l') (hr : RdAt w' B R p') (hg : wr.grownBy w' (some B)) : Td2 w w' B R p' X Y q s fr b a b0 o cap l q' s' fr' b' a' b0' o' cap' l' := by
  have h1 := h.one.bge
  have h2 := h.one.ge
  have h3 := h.geY
  exact ⟨h.one.more hr hg, h.geY, h.pb.grown hg (by simp; omega), h.st2.grown hg (fun hl e => by have := h.b2 hl; cases e; omega), h.b2⟩
theorem Td2.below (h : Td2 w wr B R p X Y q s fr b a b0 o cap l q' s' fr' b' a' b0' o' cap' l') (hb : Below wr.heap.size wr w') : Td2 w w' B R p X Y q s fr b a b0 o cap l q' s' fr' b' a' b0' o' cap' l' :=
  ⟨h.one.below hb, h.geY, h.pb.keep hb h.pb.lt, h.st2.below hb h.st2.lt, h.b2⟩
/-- The answer is laid. -/
theorem Td2.post (h : Td2 w wr B R p X Y q s fr b a b0 o cap l q' s' fr' b' a' b0' o' cap' l') :
    StepsAt ((((((((((wr.setCell ⟨w.heap.size, 0, none⟩ (.int .i64 q)).setCell ⟨w.heap.size, 1, none⟩ (.int .i64 s)).setCell ⟨w.heap.size, 2, none⟩ (.slice a l.length cap)).setCell ⟨w.heap.size, 3, none⟩ (.int .i64 fr)).setCell ⟨w.heap.size, 4, none⟩ (.int .i64 b)).setCell ⟨w.heap.size + 1, 0, none⟩ (.int .i64 q')).setCell ⟨w.heap.size + 1, 1, none⟩ (.int .i64 s')).setCell ⟨w.heap.size + 1, 2, none⟩ (.slice a' l'.length cap')).setCell ⟨w.heap.size + 1, 3, none⟩ (.int .i64 fr')).setCell ⟨w.heap.size + 1, 4, none⟩ (.int .i64 b')) a b0 o l ∧ StepsAt ((((((((((wr.setCell ⟨w.heap.size, 0, none⟩ (.int .i64 q)).setCell ⟨w.heap.size, 1, none⟩ (.int .i64 s)).setCell ⟨w.heap.size, 2, none⟩ (.slice a l.length cap)).setCell ⟨w.heap.size, 3, none⟩ (.int .i64 fr)).setCell ⟨w.heap.size, 4, none⟩ (.int .i64 b)).setCell ⟨w.heap.size + 1, 0, none⟩ (.int .i64 q')).setCell ⟨w.heap.size + 1, 1, none⟩ (.int .i64 s')).setCell ⟨w.heap.size + 1, 2, none⟩ (.slice a' l'.length cap')).setCell ⟨w.heap.size + 1, 3, none⟩ (.int .i64 fr')).setCell ⟨w.heap.size + 1, 4, none⟩ (.int .i64 b')) a' b0' o' l' ∧ Below w.heap.size w ((((((((((wr.setCell ⟨w.heap.size, 0, none⟩ (.int .i64 q)).setCell ⟨w.heap.size, 1, none⟩ (.int .i64 s)).setCell ⟨w.heap.size, 2, none⟩ (.slice a l.length cap)).setCell ⟨w.heap.size, 3, none⟩ (.int .i64 fr)).setCell ⟨w.heap.size, 4, none⟩ (.int .i64 b)).setCell ⟨w.heap.size + 1, 0, none⟩ (.int .i64 q')).setCell ⟨w.heap.size + 1, 1, none⟩ (.int .i64 s')).setCell ⟨w.heap.size + 1, 2, none⟩ (.slice a' l'.length cap')).setCell ⟨w.heap.size + 1, 3, none⟩ (.int .i64 fr')).setCell ⟨w.heap.size + 1, 4, none⟩ (.int .i64 b')) := by
  have h1 := h.one.bge
  have h2 := h.one.ge
  have h3 := h.geY
  refine ⟨?_, ?_, ?_⟩
  · iterate 10 (refine StepsAt.grown ?_ (grown_set _ _ _) (fun hl e => by have := h.one.b0g hl; simp at e; omega))
    exact h.one.st
  · iterate 10 (refine StepsAt.grown ?_ (grown_set _ _ _) (fun hl e => by have := h.b2 hl; simp at e; omega))
    exact h.st2
  · iterate 10 (refine Below.setCell ?_ (by simp) _)
    exact h.one.was
end
theorem fly_first {q s fr b : Int} {l : List Stp} (h : flyB q s fr b l = true) : ∃ x, (flyL q s fr b l)[0]? = some x ∧ 0 ≤ x.1 := by
  refine ⟨_, map_at h (Nat.zero_le _), ?_⟩
  obtain ⟨hp, _, _⟩ := flyL_at h
  have h1 := bounds_ok hp 0
  have h2 := fly_win h (Nat.zero_le _)
  omega

set_option maxRecDepth 20000 in
set_option maxHeartbeats 8000000 in
theorem turn_draw (a0 : Option Addr) (cb co ccap : Nat) (zs0 : List Int) (w : World) (hz : BytesAt w a0 cb co zs0) (hl : zs0.length ≤ 1048576) (hc : zs0.length ≤ ccap) :
    Calls Tryz.prog 27 #[.slice a0 zs0.length ccap] w fun e w' => ∃ q s fr b a b0 o cap l q' s' fr' b' a' b0' o' cap' l' t, e = .returned (.tuple #[.agg #[.int .i64 q, .int .i64 s, .slice a l.length cap, .int .i64 fr, .int .i64 b], .agg #[.int .i64 q', .int .i64 s', .slice a' l'.length cap', .int .i64 fr', .int .i64 b'], .int .i64 t]) ∧
      l.length ≤ 41 ∧ l.length ≤ cap ∧ StepsAt w' a b0 o l ∧ l'.length ≤ 46 ∧ l'.length ≤ cap' ∧ StepsAt w' a' b0' o' l' ∧ 0 ≤ t ∧ Below w.heap.size w w' := by
  have P0 := (PathAt.new w 0 0 0 0 (.slice none 0 0)).keep ((Below.refl _ _).alloc (Nat.le_refl _) (.cells #[.int .i64 0, .int .i64 0, .slice none 0 0, .int .i64 0, .int .i64 0] 27)) (by simp)
  have S0 := PathAt.new (w.alloc (.cells #[.int .i64 0, .int .i64 0, .slice none 0 0, .int .i64 0, .int .i64 0] 27)) 0 0 0 0 (.slice none 0 0)
  rw [World.size_alloc] at S0
  have hal : Below w.heap.size w ((w.alloc (.cells #[.int .i64 0, .int .i64 0, .slice none 0 0, .int .i64 0, .int .i64 0] 27)).alloc (.cells #[.int .i64 0, .int .i64 0, .slice none 0 0, .int .i64 0, .int .i64 0] 27)) := ((Below.refl _ _).alloc (Nat.le_refl _) _).alloc (by simp) _
  have hz' : BytesAt ((w.alloc (.cells #[.int .i64 0, .int .i64 0, .slice none 0 0, .int .i64 0, .int .i64 0] 27)).alloc (.cells #[.int .i64 0, .int .i64 0, .slice none 0 0, .int .i64 0, .int .i64 0] 27)) a0 cb co zs0 := ⟨hz.here, fun h => by have := hz.lt h; simp; omega, fun i z hi => by
    have hne : zs0 ≠ [] := by intro e; rw [e] at hi; simp at hi
    rw [World.cell?_of_block (w := w) (a := ⟨cb, co + i, none⟩) (hal.block cb (hz.lt hne))]
    exact hz.cell i z hi, hz.rng⟩
  go_enter Tryz.func27, Tryz.ntmps27
  go_wp2_with fail
  refine (open_any a0 cb co ccap zs0 _ hz' hl hc).mono ?_
  rintro e w1 ⟨R, rfl, r1, hb1, s1⟩
  simp only [World.size_alloc] at r1 s1 ⊢
  have P1 := P0.keep hb1 P0.lt
  have S1 := S0.keep hb1 S0.lt
  have B1 : Below w.heap.size w w1 := hal.trans (hb1.mono (by simp; omega))
  clear hb1 P0 S0 hz' hal hz hl hc
  go_wp2_with fail
  refine (seen_draw (w.heap.size + 1 + 1) R 0 _ r1 (by omega)).mono ?_
  rintro e w2 ⟨q, s, fr, b, a, b0, o, cap, l, k, en, t, rfl, hll, hcap, hs2, hb0, g2, ht0, p2, hp2, r2⟩
  have D2 : Td1 w (w2.alloc (.cells #[.int .i64 q, .int .i64 s, .slice a l.length cap, .int .i64 fr, .int .i64 b] 27)) (w.heap.size + 1 + 1) R p2 w2.heap.size q s fr b a b0 o cap l := by
    have g3 : w1.heap.size ≤ w2.heap.size := g2.size
    have al : Below w2.heap.size w2 (w2.alloc (.cells #[.int .i64 q, .int .i64 s, .slice a l.length cap, .int .i64 fr, .int .i64 b] 27)) := (Below.refl _ _).alloc (Nat.le_refl _) _
    have P3 := P1.grown g2 (by intro e; have e' := Option.some.inj e; omega)
    have S3 := S1.grown g2 (by intro e; have e' := Option.some.inj e; omega)
    have W2 : Below w.heap.size w w2 := B1.grown g2 B1.size (fun k e => by cases e; omega)
    exact ⟨W2.trans (al.mono W2.size), r2.below al (lt_of_block r2.blk), P3.keep al P3.lt, S3.keep al S3.lt, by omega, by omega, PathAt.new w2 q s fr b _, hs2.alloc _, fun hn => ⟨by have := hb0 hn; omega, hs2.lt hn⟩⟩
  clear P1 S1 B1 r1 hs2 hb0 g2 r2 s1
  have HT0 : Hid (0 ≤ t) := ht0
  clear ht0
  go_wp2_with fail
  obtain ⟨w3, hw3⟩ : ∃ w3, (w2.alloc (.cells #[.int .i64 q, .int .i64 s, .slice a l.length cap, .int .i64 fr, .int .i64 b] 27)) = w3 := ⟨_, rfl⟩
  obtain ⟨X, hX⟩ : ∃ X, w2.heap.size = X := ⟨_, rfl⟩
  rw [hw3, hX] at D2
  rw [hw3]
  rw [hX]
  clear hw3
  obtain ⟨B, hBB⟩ : ∃ B, w.heap.size + 1 + 1 = B := ⟨_, rfl⟩
  rw [hBB] at D2 ⊢
  clear hBB hX
  have hXl := D2.pa.lt
  refine (other_draw B R p2 q s fr b a b0 o cap l _ D2.rd (by omega) hll D2.st (fun hn => by have := D2.b0g hn; omega)).mono ?_
  rintro e w4 ⟨q', s', fr', b', v', l', p4, rfl, hl4, ho4, hp4, R4⟩
  obtain ⟨a', b0', cap', rfl, hcap4, hs4, hb4⟩ := own_pathC ho4 rfl
  have D4 := D2.more R4.rd R4.gr
  have hsz := R4.gr.size
  have D5 : Td2 w (w4.alloc (.cells #[.int .i64 q', .int .i64 s', .slice a' l'.length cap', .int .i64 fr', .int .i64 b'] 27)) B R p4 X w4.heap.size q s fr b a b0 o cap l q' s' fr' b' a' b0' 0 cap' l' :=
    ⟨D4.below ((Below.refl _ _).alloc (Nat.le_refl _) _), by omega, PathAt.new w4 q' s' fr' b' _, hs4.alloc _, fun hn => by have h1 := hb4 hn; have h2 := hs4.lt hn; omega⟩
  clear D2 D4 R4 ho4 hs4 hb4 hXl hsz
  go_wp2_with fail
  generalize (w4.alloc (.cells #[.int .i64 q', .int .i64 s', .slice a' l'.length cap', .int .i64 fr', .int .i64 b'] 27)) = w5 at *
  generalize w4.heap.size = Y at *
  refine (pick_any B R p4 16 _ D5.one.rd (by omega)).mono ?_
  rintro e w6 ⟨rfl, r6, g6, s6⟩
  have D6 := D5.more r6 g6
  clear D5 r6 g6 s6
  generalize pickV R p4 16 = m
  go_upto_if 27 with (fail)
  go_cut [] (fun wc => ∃ q' s' fr' b' a' b0' o' cap' l' p', p' ≤ 25000 ∧ l'.length ≤ 46 ∧ l'.length ≤ cap' ∧ Td2 w wc B R p' X Y q s fr b a b0 o cap l q' s' fr' b' a' b0' o' cap' l')
  case first =>
    by_cases h0 : m = 0
    · subst h0
      go_wp2_with fail
      refine (path_draw B R (p4 + 1) _ D6.one.rd (by omega)).mono ?_
      rintro e w7 ⟨q1, s1, fr1, b1, v1, l1, p7, rfl, hl71, hl72, ho7, hp7, R7⟩
      obtain ⟨a1, b01, cap1, rfl, hcap7, hs7, hb7⟩ := own_pathC ho7 rfl
      have D7 := D6.more R7.rd R7.gr
      have hY7 := D7.pb.lt
      clear D6 R7 ho7
      go_wp2_with fail
      refine (spoil_draw B R p7 q1 s1 fr1 b1 a1 b01 0 cap1 l1 _ D7.one.rd (by omega) hl71 hl72 hs7).mono ?_
      rintro e w8 ⟨q2, s2, fr2, b2, v2, l2, p8, rfl, hl8, ho8, hp8, R8⟩
      obtain ⟨a2, b02, cap2, rfl, hcap8, hs8, hb8⟩ := own_pathC ho8 rfl
      have D8 := D7.more R8.rd R8.gr
      have hXY := D8.geY
      have D9 : Td2 w (((((w8.setCell ⟨Y, 0, none⟩ (.int .i64 q2)).setCell ⟨Y, 1, none⟩ (.int .i64 s2)).setCell ⟨Y, 2, none⟩ (.slice a2 l2.length cap2)).setCell ⟨Y, 3, none⟩ (.int .i64 fr2)).setCell ⟨Y, 4, none⟩ (.int .i64 b2)) B R p8 X Y q s fr b a b0 o cap l q2 s2 fr2 b2 a2 b02 0 cap2 l2 :=
        ⟨((((D8.one.setY hXY 0 _).setY hXY 1 _).setY hXY 2 _).setY hXY 3 _).setY hXY 4 _, hXY, D8.pb.set5d q2 s2 fr2 b2 _, by
          iterate 5 (refine StepsAt.grown ?_ (grown_set _ _ _) (fun hl e => by have := (hb8 hl).1; simp at e; omega))
          exact hs8, fun hn => by have := (hb8 hn).1; omega⟩
      obtain ⟨⟨e0, e1, e2, e3, e4⟩, ef⟩ := D8.pb.cells
      clear D7 R8 ho8
      go_wp2
      go_meet
      case rel => exact ⟨q2, s2, fr2, b2, a2, b02, 0, cap2, l2, p8, by omega, by omega, hcap8, D9⟩
    · have h1 : (m == 0) = false := beq_eq_false_iff_ne.2 h0
      go_wp2
      go_meet
      case rel => exact ⟨q', s', fr', b', a', b0', 0, cap', l', p4 + 1, by omega, hl4, hcap4, D6⟩
  case rest =>
    clear D6 hcap4 hl4 hp4
    obtain ⟨q', s', fr', b', a', b0', o', cap', l', p6, hp6, hl4, hcap4, D6⟩ := hcut
    go_wp2_with fail
    refine (pick_any B R p6 2 _ D6.one.rd (by omega)).mono ?_
    rintro e w7 ⟨rfl, r7, g7, s7⟩
    have D7 := D6.more r7 g7
    clear D6 r7 g7 s7
    generalize pickV R p6 2 = m2
    obtain ⟨⟨e0, e1, e2, e3, e4⟩, ef⟩ := D7.one.pa.cells
    by_cases h0 : m2 = 0
    · subst h0
      by_cases hln : 0 < (l.length : Int)
      · go_wp2_with fail
        refine (flySpansS_any q s fr b a b0 o cap l _ (by omega) D7.one.st).mono ?_
        rintro e w8 ⟨v8, rfl, ho8, hb8⟩
        have D8 := D7.below hb8
        clear e0 e1 e2 e3 e4 ef D7
        cases hf : flyB q s fr b l with
        | false =>
          clear hf ho8 hln
          have n1 : X ≠ w.heap.size := by have := D8.one.bge; have := D8.one.ge; omega
          have n2 : X ≠ w.heap.size + 1 := by have := D8.one.bge; have := D8.one.ge; omega
          have n3 : Y ≠ w.heap.size := by have := D8.geY; have := D8.one.bge; have := D8.one.ge; omega
          have n4 : Y ≠ w.heap.size + 1 := by have := D8.geY; have := D8.one.bge; have := D8.one.ge; omega
          have n5 : w.heap.size + 1 ≠ w.heap.size := by omega
          go_wp2
          have DZ := D8.below ((Below.refl _ _).drew)
          refine wp_region_any (by kernel_rfl) ?_
          change wpAny _ _ _ _ _ _ _ (World.drew _)
          generalize World.drew w8 = uu at DZ ⊢
          refine wpAny_take (i := 2) (v := .int .i64 (t)) rfl (by kernel_rfl) (by kernel_rfl) (by kernel_rfl) (fun _ _ _ h => h) (Or.inl ⟨by rfl, fun W => by go_simp⟩) ?_
          refine wpAny_ready (rs := [0, 1]) (by kernel_rfl) (by simp) ?_
          refine AllReady.cons rfl (fun K hK => ?_) ?_
          · obtain ⟨⟨e0, e1, e2, e3, e4⟩, ef⟩ := DZ.one.pa.cells
            go_simp
            clear e0 e1 e2 e3 e4 ef
            refine hK _ _ ?_
            clear hK K
            refine wpAny_ready (rs := [1, 3]) (by kernel_rfl) (by simp) ?_
            refine AllReady.cons rfl (fun K hK => ?_) ?_
            · obtain ⟨⟨d0, d1, d2, d3, d4⟩, df⟩ := DZ.pb.cells
              go_simp
              clear d0 d1 d2 d3 d4 df
              refine hK _ _ ?_
              clear hK K
              refine wpAny_ready (rs := [3]) (by kernel_rfl) (by simp) ?_
              refine AllReady.cons rfl (fun K hK => ?_) ?_
              · obtain ⟨⟨f0, f1, f2, f3, f4⟩, ff⟩ := DZ.one.r1.cells
                go_simp
                clear f0 f1 f2 f3 f4 ff
                refine hK _ _ ?_
                clear hK K
                refine wpAny_ready (rs := [4]) (by kernel_rfl) (by simp) ?_
                refine AllReady.cons rfl (fun K hK => ?_) ?_
                · have g0 : (((((uu.setCell ⟨w.heap.size, 0, none⟩ (.int .i64 q)).setCell ⟨w.heap.size, 1, none⟩ (.int .i64 s)).setCell ⟨w.heap.size, 2, none⟩ (.slice a l.length cap)).setCell ⟨w.heap.size, 3, none⟩ (.int .i64 fr)).setCell ⟨w.heap.size, 4, none⟩ (.int .i64 b)).cell? ⟨w.heap.size + 1, 0, none⟩ = some (.int .i64 0) := by
                    iterate 5 (rw [World.cell?_setCell_other _ _ _ _ (by intro e; have h9 := congrArg Addr.block e; exact n5 (by first | exact h9 | exact h9.symm))])
                    exact DZ.one.r2.cells.1.1
                  have g1 : (((((uu.setCell ⟨w.heap.size, 0, none⟩ (.int .i64 q)).setCell ⟨w.heap.size, 1, none⟩ (.int .i64 s)).setCell ⟨w.heap.size, 2, none⟩ (.slice a l.length cap)).setCell ⟨w.heap.size, 3, none⟩ (.int .i64 fr)).setCell ⟨w.heap.size, 4, none⟩ (.int .i64 b)).cell? ⟨w.heap.size + 1, 1, none⟩ = some (.int .i64 0) := by
                    iterate 5 (rw [World.cell?_setCell_other _ _ _ _ (by intro e; have h9 := congrArg Addr.block e; exact n5 (by first | exact h9 | exact h9.symm))])
                    exact DZ.one.r2.cells.1.2.1
                  have g2 : (((((uu.setCell ⟨w.heap.size, 0, none⟩ (.int .i64 q)).setCell ⟨w.heap.size, 1, none⟩ (.int .i64 s)).setCell ⟨w.heap.size, 2, none⟩ (.slice a l.length cap)).setCell ⟨w.heap.size, 3, none⟩ (.int .i64 fr)).setCell ⟨w.heap.size, 4, none⟩ (.int .i64 b)).cell? ⟨w.heap.size + 1, 2, none⟩ = some (.slice none 0 0) := by
                    iterate 5 (rw [World.cell?_setCell_other _ _ _ _ (by intro e; have h9 := congrArg Addr.block e; exact n5 (by first | exact h9 | exact h9.symm))])
                    exact DZ.one.r2.cells.1.2.2.1
                  have g3 : (((((uu.setCell ⟨w.heap.size, 0, none⟩ (.int .i64 q)).setCell ⟨w.heap.size, 1, none⟩ (.int .i64 s)).setCell ⟨w.heap.size, 2, none⟩ (.slice a l.length cap)).setCell ⟨w.heap.size, 3, none⟩ (.int .i64 fr)).setCell ⟨w.heap.size, 4, none⟩ (.int .i64 b)).cell? ⟨w.heap.size + 1, 3, none⟩ = some (.int .i64 0) := by
                    iterate 5 (rw [World.cell?_setCell_other _ _ _ _ (by intro e; have h9 := congrArg Addr.block e; exact n5 (by first | exact h9 | exact h9.symm))])
                    exact DZ.one.r2.cells.1.2.2.2.1
                  have g4 : (((((uu.setCell ⟨w.heap.size, 0, none⟩ (.int .i64 q)).setCell ⟨w.heap.size, 1, none⟩ (.int .i64 s)).setCell ⟨w.heap.size, 2, none⟩ (.slice a l.length cap)).setCell ⟨w.heap.size, 3, none⟩ (.int .i64 fr)).setCell ⟨w.heap.size, 4, none⟩ (.int .i64 b)).cell? ⟨w.heap.size + 1, 4, none⟩ = some (.int .i64 0) := by
                    iterate 5 (rw [World.cell?_setCell_other _ _ _ _ (by intro e; have h9 := congrArg Addr.block e; exact n5 (by first | exact h9 | exact h9.symm))])
                    exact DZ.one.r2.cells.1.2.2.2.2
                  have gf : ∀ j, (((((uu.setCell ⟨w.heap.size, 0, none⟩ (.int .i64 q)).setCell ⟨w.heap.size, 1, none⟩ (.int .i64 s)).setCell ⟨w.heap.size, 2, none⟩ (.slice a l.length cap)).setCell ⟨w.heap.size, 3, none⟩ (.int .i64 fr)).setCell ⟨w.heap.size, 4, none⟩ (.int .i64 b)).frozen? ⟨w.heap.size + 1, j, none⟩ = false := fun j => by
                    iterate 5 (rw [World.frozen?_setCell])
                    exact DZ.one.r2.cells.2 j
                  go_simp
                  clear g0 g1 g2 g3 g4 gf
                  refine hK _ _ ?_
                  clear hK K
                  refine wpAny_take (i := 5) (v := .int .i64 (t)) rfl (by kernel_rfl) (by kernel_rfl) (by kernel_rfl) (fun _ _ _ h => h) (Or.inl ⟨by rfl, fun W => by go_simp⟩) ?_
                  refine wpAny_done (by kernel_rfl) ?_ _
                  go_wp2
                  obtain ⟨⟨f0, f1, f2, f3, f4⟩, ff⟩ := DZ.one.r1.cells
                  obtain ⟨⟨g0, g1, g2, g3, g4⟩, gf⟩ := DZ.one.r2.cells
                  refine bodyPost_ret (v := .tuple #[.agg #[.int .i64 q, .int .i64 s, .slice a l.length cap, .int .i64 fr, .int .i64 b], .agg #[.int .i64 q', .int .i64 s', .slice a' l'.length cap', .int .i64 fr', .int .i64 b'], .int .i64 (t)]) (by simp [results, Tryz.results27, go_sem, f0, f1, f2, f3, f4, g0, g1, g2, g3, g4]) rfl ?_
                  obtain ⟨h1, h2, h3⟩ := DZ.post
                  exact ⟨q, s, fr, b, a, b0, o, cap, l, q', s', fr', b', a', b0', o', cap', l', t, rfl, hll, hcap, h1, hl4, hcap4, h2, HT0.out, h3⟩
                exact AllReady.nil
              exact AllReady.nil
            refine AllReady.cons rfl (fun K hK => ?_) ?_
            · obtain ⟨⟨f0, f1, f2, f3, f4⟩, ff⟩ := DZ.one.r1.cells
              go_simp
              clear f0 f1 f2 f3 f4 ff
              refine hK _ _ ?_
              clear hK K
              refine wpAny_ready (rs := [1]) (by kernel_rfl) (by simp) ?_
              refine AllReady.cons rfl (fun K hK => ?_) ?_
              · have d0 : (((((uu.setCell ⟨w.heap.size, 0, none⟩ (.int .i64 q)).setCell ⟨w.heap.size, 1, none⟩ (.int .i64 s)).setCell ⟨w.heap.size, 2, none⟩ (.slice a l.length cap)).setCell ⟨w.heap.size, 3, none⟩ (.int .i64 fr)).setCell ⟨w.heap.size, 4, none⟩ (.int .i64 b)).cell? ⟨Y, 0, none⟩ = some (.int .i64 q') := by
                  iterate 5 (rw [World.cell?_setCell_other _ _ _ _ (by intro e; have h9 := congrArg Addr.block e; exact n3 (by first | exact h9 | exact h9.symm))])
                  exact DZ.pb.cells.1.1
                have d1 : (((((uu.setCell ⟨w.heap.size, 0, none⟩ (.int .i64 q)).setCell ⟨w.heap.size, 1, none⟩ (.int .i64 s)).setCell ⟨w.heap.size, 2, none⟩ (.slice a l.length cap)).setCell ⟨w.heap.size, 3, none⟩ (.int .i64 fr)).setCell ⟨w.heap.size, 4, none⟩ (.int .i64 b)).cell? ⟨Y, 1, none⟩ = some (.int .i64 s') := by
                  iterate 5 (rw [World.cell?_setCell_other _ _ _ _ (by intro e; have h9 := congrArg Addr.block e; exact n3 (by first | exact h9 | exact h9.symm))])
                  exact DZ.pb.cells.1.2.1
                have d2 : (((((uu.setCell ⟨w.heap.size, 0, none⟩ (.int .i64 q)).setCell ⟨w.heap.size, 1, none⟩ (.int .i64 s)).setCell ⟨w.heap.size, 2, none⟩ (.slice a l.length cap)).setCell ⟨w.heap.size, 3, none⟩ (.int .i64 fr)).setCell ⟨w.heap.size, 4, none⟩ (.int .i64 b)).cell? ⟨Y, 2, none⟩ = some (.slice a' l'.length cap') := by
                  iterate 5 (rw [World.cell?_setCell_other _ _ _ _ (by intro e; have h9 := congrArg Addr.block e; exact n3 (by first | exact h9 | exact h9.symm))])
                  exact DZ.pb.cells.1.2.2.1
                have d3 : (((((uu.setCell ⟨w.heap.size, 0, none⟩ (.int .i64 q)).setCell ⟨w.heap.size, 1, none⟩ (.int .i64 s)).setCell ⟨w.heap.size, 2, none⟩ (.slice a l.length cap)).setCell ⟨w.heap.size, 3, none⟩ (.int .i64 fr)).setCell ⟨w.heap.size, 4, none⟩ (.int .i64 b)).cell? ⟨Y, 3, none⟩ = some (.int .i64 fr') := by
                  iterate 5 (rw [World.cell?_setCell_other _ _ _ _ (by intro e; have h9 := congrArg Addr.block e; exact n3 (by first | exact h9 | exact h9.symm))])
                  exact DZ.pb.cells.1.2.2.2.1
                have d4 : (((((uu.setCell ⟨w.heap.size, 0, none⟩ (.int .i64 q)).setCell ⟨w.heap.size, 1, none⟩ (.int .i64 s)).setCell ⟨w.heap.size, 2, none⟩ (.slice a l.length cap)).setCell ⟨w.heap.size, 3, none⟩ (.int .i64 fr)).setCell ⟨w.heap.size, 4, none⟩ (.int .i64 b)).cell? ⟨Y, 4, none⟩ = some (.int .i64 b') := by
                  iterate 5 (rw [World.cell?_setCell_other _ _ _ _ (by intro e; have h9 := congrArg Addr.block e; exact n3 (by first | exact h9 | exact h9.symm))])
                  exact DZ.pb.cells.1.2.2.2.2
                go_simp
                clear d0 d1 d2 d3 d4
                refine hK _ _ ?_
                clear hK K
                refine wpAny_ready (rs := [4]) (by kernel_rfl) (by simp) ?_
                refine AllReady.cons rfl (fun K hK => ?_) ?_
                · have g0 : (((((uu.setCell ⟨w.heap.size, 0, none⟩ (.int .i64 q)).setCell ⟨w.heap.size, 1, none⟩ (.int .i64 s)).setCell ⟨w.heap.size, 2, none⟩ (.slice a l.length cap)).setCell ⟨w.heap.size, 3, none⟩ (.int .i64 fr)).setCell ⟨w.heap.size, 4, none⟩ (.int .i64 b)).cell? ⟨w.heap.size + 1, 0, none⟩ = some (.int .i64 0) := by
                    iterate 5 (rw [World.cell?_setCell_other _ _ _ _ (by intro e; have h9 := congrArg Addr.block e; exact n5 (by first | exact h9 | exact h9.symm))])
                    exact DZ.one.r2.cells.1.1
                  have g1 : (((((uu.setCell ⟨w.heap.size, 0, none⟩ (.int .i64 q)).setCell ⟨w.heap.size, 1, none⟩ (.int .i64 s)).setCell ⟨w.heap.size, 2, none⟩ (.slice a l.length cap)).setCell ⟨w.heap.size, 3, none⟩ (.int .i64 fr)).setCell ⟨w.heap.size, 4, none⟩ (.int .i64 b)).cell? ⟨w.heap.size + 1, 1, none⟩ = some (.int .i64 0) := by
                    iterate 5 (rw [World.cell?_setCell_other _ _ _ _ (by intro e; have h9 := congrArg Addr.block e; exact n5 (by first | exact h9 | exact h9.symm))])
                    exact DZ.one.r2.cells.1.2.1
                  have g2 : (((((uu.setCell ⟨w.heap.size, 0, none⟩ (.int .i64 q)).setCell ⟨w.heap.size, 1, none⟩ (.int .i64 s)).setCell ⟨w.heap.size, 2, none⟩ (.slice a l.length cap)).setCell ⟨w.heap.size, 3, none⟩ (.int .i64 fr)).setCell ⟨w.heap.size, 4, none⟩ (.int .i64 b)).cell? ⟨w.heap.size + 1, 2, none⟩ = some (.slice none 0 0) := by
                    iterate 5 (rw [World.cell?_setCell_other _ _ _ _ (by intro e; have h9 := congrArg Addr.block e; exact n5 (by first | exact h9 | exact h9.symm))])
                    exact DZ.one.r2.cells.1.2.2.1
                  have g3 : (((((uu.setCell ⟨w.heap.size, 0, none⟩ (.int .i64 q)).setCell ⟨w.heap.size, 1, none⟩ (.int .i64 s)).setCell ⟨w.heap.size, 2, none⟩ (.slice a l.length cap)).setCell ⟨w.heap.size, 3, none⟩ (.int .i64 fr)).setCell ⟨w.heap.size, 4, none⟩ (.int .i64 b)).cell? ⟨w.heap.size + 1, 3, none⟩ = some (.int .i64 0) := by
                    iterate 5 (rw [World.cell?_setCell_other _ _ _ _ (by intro e; have h9 := congrArg Addr.block e; exact n5 (by first | exact h9 | exact h9.symm))])
                    exact DZ.one.r2.cells.1.2.2.2.1
                  have g4 : (((((uu.setCell ⟨w.heap.size, 0, none⟩ (.int .i64 q)).setCell ⟨w.heap.size, 1, none⟩ (.int .i64 s)).setCell ⟨w.heap.size, 2, none⟩ (.slice a l.length cap)).setCell ⟨w.heap.size, 3, none⟩ (.int .i64 fr)).setCell ⟨w.heap.size, 4, none⟩ (.int .i64 b)).cell? ⟨w.heap.size + 1, 4, none⟩ = some (.int .i64 0) := by
                    iterate 5 (rw [World.cell?_setCell_other _ _ _ _ (by intro e; have h9 := congrArg Addr.block e; exact n5 (by first | exact h9 | exact h9.symm))])
                    exact DZ.one.r2.cells.1.2.2.2.2
                  have gf : ∀ j, (((((uu.setCell ⟨w.heap.size, 0, none⟩ (.int .i64 q)).setCell ⟨w.heap.size, 1, none⟩ (.int .i64 s)).setCell ⟨w.heap.size, 2, none⟩ (.slice a l.length cap)).setCell ⟨w.heap.size, 3, none⟩ (.int .i64 fr)).setCell ⟨w.heap.size, 4, none⟩ (.int .i64 b)).frozen? ⟨w.heap.size + 1, j, none⟩ = false := fun j => by
                    iterate 5 (rw [World.frozen?_setCell])
                    exact DZ.one.r2.cells.2 j
                  go_simp
                  clear g0 g1 g2 g3 g4 gf
                  refine hK _ _ ?_
                  clear hK K
                  refine wpAny_take (i := 5) (v := .int .i64 (t)) rfl (by kernel_rfl) (by kernel_rfl) (by kernel_rfl) (fun _ _ _ h => h) (Or.inl ⟨by rfl, fun W => by go_simp⟩) ?_
                  refine wpAny_done (by kernel_rfl) ?_ _
                  go_wp2
                  obtain ⟨⟨f0, f1, f2, f3, f4⟩, ff⟩ := DZ.one.r1.cells
                  obtain ⟨⟨g0, g1, g2, g3, g4⟩, gf⟩ := DZ.one.r2.cells
                  refine bodyPost_ret (v := .tuple #[.agg #[.int .i64 q, .int .i64 s, .slice a l.length cap, .int .i64 fr, .int .i64 b], .agg #[.int .i64 q', .int .i64 s', .slice a' l'.length cap', .int .i64 fr', .int .i64 b'], .int .i64 (t)]) (by simp [results, Tryz.results27, go_sem, f0, f1, f2, f3, f4, g0, g1, g2, g3, g4]) rfl ?_
                  obtain ⟨h1, h2, h3⟩ := DZ.post
                  exact ⟨q, s, fr, b, a, b0, o, cap, l, q', s', fr', b', a', b0', o', cap', l', t, rfl, hll, hcap, h1, hl4, hcap4, h2, HT0.out, h3⟩
                exact AllReady.nil
              exact AllReady.nil
            exact AllReady.nil
          refine AllReady.cons rfl (fun K hK => ?_) ?_
          · obtain ⟨⟨d0, d1, d2, d3, d4⟩, df⟩ := DZ.pb.cells
            go_simp
            clear d0 d1 d2 d3 d4 df
            refine hK _ _ ?_
            clear hK K
            refine wpAny_ready (rs := [0]) (by kernel_rfl) (by simp) ?_
            refine AllReady.cons rfl (fun K hK => ?_) ?_
            · obtain ⟨⟨e0, e1, e2, e3, e4⟩, ef⟩ := DZ.one.pa.cells
              go_simp
              clear e0 e1 e2 e3 e4 ef
              refine hK _ _ ?_
              clear hK K
              refine wpAny_ready (rs := [3]) (by kernel_rfl) (by simp) ?_
              refine AllReady.cons rfl (fun K hK => ?_) ?_
              · obtain ⟨⟨f0, f1, f2, f3, f4⟩, ff⟩ := DZ.one.r1.cells
                go_simp
                clear f0 f1 f2 f3 f4 ff
                refine hK _ _ ?_
                clear hK K
                refine wpAny_ready (rs := [4]) (by kernel_rfl) (by simp) ?_
                refine AllReady.cons rfl (fun K hK => ?_) ?_
                · have g0 : (((((uu.setCell ⟨w.heap.size, 0, none⟩ (.int .i64 q)).setCell ⟨w.heap.size, 1, none⟩ (.int .i64 s)).setCell ⟨w.heap.size, 2, none⟩ (.slice a l.length cap)).setCell ⟨w.heap.size, 3, none⟩ (.int .i64 fr)).setCell ⟨w.heap.size, 4, none⟩ (.int .i64 b)).cell? ⟨w.heap.size + 1, 0, none⟩ = some (.int .i64 0) := by
                    iterate 5 (rw [World.cell?_setCell_other _ _ _ _ (by intro e; have h9 := congrArg Addr.block e; exact n5 (by first | exact h9 | exact h9.symm))])
                    exact DZ.one.r2.cells.1.1
                  have g1 : (((((uu.setCell ⟨w.heap.size, 0, none⟩ (.int .i64 q)).setCell ⟨w.heap.size, 1, none⟩ (.int .i64 s)).setCell ⟨w.heap.size, 2, none⟩ (.slice a l.length cap)).setCell ⟨w.heap.size, 3, none⟩ (.int .i64 fr)).setCell ⟨w.heap.size, 4, none⟩ (.int .i64 b)).cell? ⟨w.heap.size + 1, 1, none⟩ = some (.int .i64 0) := by
                    iterate 5 (rw [World.cell?_setCell_other _ _ _ _ (by intro e; have h9 := congrArg Addr.block e; exact n5 (by first | exact h9 | exact h9.symm))])
                    exact DZ.one.r2.cells.1.2.1
                  have g2 : (((((uu.setCell ⟨w.heap.size, 0, none⟩ (.int .i64 q)).setCell ⟨w.heap.size, 1, none⟩ (.int .i64 s)).setCell ⟨w.heap.size, 2, none⟩ (.slice a l.length cap)).setCell ⟨w.heap.size, 3, none⟩ (.int .i64 fr)).setCell ⟨w.heap.size, 4, none⟩ (.int .i64 b)).cell? ⟨w.heap.size + 1, 2, none⟩ = some (.slice none 0 0) := by
                    iterate 5 (rw [World.cell?_setCell_other _ _ _ _ (by intro e; have h9 := congrArg Addr.block e; exact n5 (by first | exact h9 | exact h9.symm))])
                    exact DZ.one.r2.cells.1.2.2.1
                  have g3 : (((((uu.setCell ⟨w.heap.size, 0, none⟩ (.int .i64 q)).setCell ⟨w.heap.size, 1, none⟩ (.int .i64 s)).setCell ⟨w.heap.size, 2, none⟩ (.slice a l.length cap)).setCell ⟨w.heap.size, 3, none⟩ (.int .i64 fr)).setCell ⟨w.heap.size, 4, none⟩ (.int .i64 b)).cell? ⟨w.heap.size + 1, 3, none⟩ = some (.int .i64 0) := by
                    iterate 5 (rw [World.cell?_setCell_other _ _ _ _ (by intro e; have h9 := congrArg Addr.block e; exact n5 (by first | exact h9 | exact h9.symm))])
                    exact DZ.one.r2.cells.1.2.2.2.1
                  have g4 : (((((uu.setCell ⟨w.heap.size, 0, none⟩ (.int .i64 q)).setCell ⟨w.heap.size, 1, none⟩ (.int .i64 s)).setCell ⟨w.heap.size, 2, none⟩ (.slice a l.length cap)).setCell ⟨w.heap.size, 3, none⟩ (.int .i64 fr)).setCell ⟨w.heap.size, 4, none⟩ (.int .i64 b)).cell? ⟨w.heap.size + 1, 4, none⟩ = some (.int .i64 0) := by
                    iterate 5 (rw [World.cell?_setCell_other _ _ _ _ (by intro e; have h9 := congrArg Addr.block e; exact n5 (by first | exact h9 | exact h9.symm))])
                    exact DZ.one.r2.cells.1.2.2.2.2
                  have gf : ∀ j, (((((uu.setCell ⟨w.heap.size, 0, none⟩ (.int .i64 q)).setCell ⟨w.heap.size, 1, none⟩ (.int .i64 s)).setCell ⟨w.heap.size, 2, none⟩ (.slice a l.length cap)).setCell ⟨w.heap.size, 3, none⟩ (.int .i64 fr)).setCell ⟨w.heap.size, 4, none⟩ (.int .i64 b)).frozen? ⟨w.heap.size + 1, j, none⟩ = false := fun j => by
                    iterate 5 (rw [World.frozen?_setCell])
                    exact DZ.one.r2.cells.2 j
                  go_simp
                  clear g0 g1 g2 g3 g4 gf
                  refine hK _ _ ?_
                  clear hK K
                  refine wpAny_take (i := 5) (v := .int .i64 (t)) rfl (by kernel_rfl) (by kernel_rfl) (by kernel_rfl) (fun _ _ _ h => h) (Or.inl ⟨by rfl, fun W => by go_simp⟩) ?_
                  refine wpAny_done (by kernel_rfl) ?_ _
                  go_wp2
                  obtain ⟨⟨f0, f1, f2, f3, f4⟩, ff⟩ := DZ.one.r1.cells
                  obtain ⟨⟨g0, g1, g2, g3, g4⟩, gf⟩ := DZ.one.r2.cells
                  refine bodyPost_ret (v := .tuple #[.agg #[.int .i64 q, .int .i64 s, .slice a l.length cap, .int .i64 fr, .int .i64 b], .agg #[.int .i64 q', .int .i64 s', .slice a' l'.length cap', .int .i64 fr', .int .i64 b'], .int .i64 (t)]) (by simp [results, Tryz.results27, go_sem, f0, f1, f2, f3, f4, g0, g1, g2, g3, g4]) rfl ?_
                  obtain ⟨h1, h2, h3⟩ := DZ.post
                  exact ⟨q, s, fr, b, a, b0, o, cap, l, q', s', fr', b', a', b0', o', cap', l', t, rfl, hll, hcap, h1, hl4, hcap4, h2, HT0.out, h3⟩
                exact AllReady.nil
              exact AllReady.nil
            exact AllReady.nil
          exact AllReady.nil
        | true =>
          obtain ⟨x, hx, hx0⟩ := fly_first hf
          have hxl : 0 < (flyL q s fr b l).length := (List.getElem?_eq_some_iff.1 hx).1
          obtain ⟨y0, y1⟩ := spanCells_get _ 0 _ hx
          obtain ⟨g, gc, rfl, _, _⟩ := owns_some ho8 hxl
          have c0 := (ho8.cellAt 0 (by omega)).trans y0
          have HX0 : Hid (0 ≤ x.1) := hx0
          clear hx0 y0 y1 ho8 hx hf hln
          generalize (flyL q s fr b l).length = n at *
          have hn0 : (0 : Int) < (n : Int) := by omega
          have n1 : X ≠ w.heap.size := by have := D8.one.bge; have := D8.one.ge; omega
          have n2 : X ≠ w.heap.size + 1 := by have := D8.one.bge; have := D8.one.ge; omega
          have n3 : Y ≠ w.heap.size := by have := D8.geY; have := D8.one.bge; have := D8.one.ge; omega
          have n4 : Y ≠ w.heap.size + 1 := by have := D8.geY; have := D8.one.bge; have := D8.one.ge; omega
          have n5 : w.heap.size + 1 ≠ w.heap.size := by omega
          go_wp2
          have DZ := D8.below ((Below.refl _ _).drew)
          refine wp_region_any (by kernel_rfl) ?_
          change wpAny _ _ _ _ _ _ _ (World.drew _)
          generalize World.drew w8 = uu at DZ ⊢
          refine wpAny_take (i := 2) (v := .int .i64 (x.1)) rfl (by kernel_rfl) (by kernel_rfl) (by kernel_rfl) (fun _ _ _ h => h) (Or.inl ⟨by rfl, fun W => by go_simp⟩) ?_
          refine wpAny_ready (rs := [0, 1]) (by kernel_rfl) (by simp) ?_
          refine AllReady.cons rfl (fun K hK => ?_) ?_
          · obtain ⟨⟨e0, e1, e2, e3, e4⟩, ef⟩ := DZ.one.pa.cells
            go_simp
            clear e0 e1 e2 e3 e4 ef
            refine hK _ _ ?_
            clear hK K
            refine wpAny_ready (rs := [1, 3]) (by kernel_rfl) (by simp) ?_
            refine AllReady.cons rfl (fun K hK => ?_) ?_
            · obtain ⟨⟨d0, d1, d2, d3, d4⟩, df⟩ := DZ.pb.cells
              go_simp
              clear d0 d1 d2 d3 d4 df
              refine hK _ _ ?_
              clear hK K
              refine wpAny_ready (rs := [3]) (by kernel_rfl) (by simp) ?_
              refine AllReady.cons rfl (fun K hK => ?_) ?_
              · obtain ⟨⟨f0, f1, f2, f3, f4⟩, ff⟩ := DZ.one.r1.cells
                go_simp
                clear f0 f1 f2 f3 f4 ff
                refine hK _ _ ?_
                clear hK K
                refine wpAny_ready (rs := [4]) (by kernel_rfl) (by simp) ?_
                refine AllReady.cons rfl (fun K hK => ?_) ?_
                · have g0 : (((((uu.setCell ⟨w.heap.size, 0, none⟩ (.int .i64 q)).setCell ⟨w.heap.size, 1, none⟩ (.int .i64 s)).setCell ⟨w.heap.size, 2, none⟩ (.slice a l.length cap)).setCell ⟨w.heap.size, 3, none⟩ (.int .i64 fr)).setCell ⟨w.heap.size, 4, none⟩ (.int .i64 b)).cell? ⟨w.heap.size + 1, 0, none⟩ = some (.int .i64 0) := by
                    iterate 5 (rw [World.cell?_setCell_other _ _ _ _ (by intro e; have h9 := congrArg Addr.block e; exact n5 (by first | exact h9 | exact h9.symm))])
                    exact DZ.one.r2.cells.1.1
                  have g1 : (((((uu.setCell ⟨w.heap.size, 0, none⟩ (.int .i64 q)).setCell ⟨w.heap.size, 1, none⟩ (.int .i64 s)).setCell ⟨w.heap.size, 2, none⟩ (.slice a l.length cap)).setCell ⟨w.heap.size, 3, none⟩ (.int .i64 fr)).setCell ⟨w.heap.size, 4, none⟩ (.int .i64 b)).cell? ⟨w.heap.size + 1, 1, none⟩ = some (.int .i64 0) := by
                    iterate 5 (rw [World.cell?_setCell_other _ _ _ _ (by intro e; have h9 := congrArg Addr.block e; exact n5 (by first | exact h9 | exact h9.symm))])
                    exact DZ.one.r2.cells.1.2.1
                  have g2 : (((((uu.setCell ⟨w.heap.size, 0, none⟩ (.int .i64 q)).setCell ⟨w.heap.size, 1, none⟩ (.int .i64 s)).setCell ⟨w.heap.size, 2, none⟩ (.slice a l.length cap)).setCell ⟨w.heap.size, 3, none⟩ (.int .i64 fr)).setCell ⟨w.heap.size, 4, none⟩ (.int .i64 b)).cell? ⟨w.heap.size + 1, 2, none⟩ = some (.slice none 0 0) := by
                    iterate 5 (rw [World.cell?_setCell_other _ _ _ _ (by intro e; have h9 := congrArg Addr.block e; exact n5 (by first | exact h9 | exact h9.symm))])
                    exact DZ.one.r2.cells.1.2.2.1
                  have g3 : (((((uu.setCell ⟨w.heap.size, 0, none⟩ (.int .i64 q)).setCell ⟨w.heap.size, 1, none⟩ (.int .i64 s)).setCell ⟨w.heap.size, 2, none⟩ (.slice a l.length cap)).setCell ⟨w.heap.size, 3, none⟩ (.int .i64 fr)).setCell ⟨w.heap.size, 4, none⟩ (.int .i64 b)).cell? ⟨w.heap.size + 1, 3, none⟩ = some (.int .i64 0) := by
                    iterate 5 (rw [World.cell?_setCell_other _ _ _ _ (by intro e; have h9 := congrArg Addr.block e; exact n5 (by first | exact h9 | exact h9.symm))])
                    exact DZ.one.r2.cells.1.2.2.2.1
                  have g4 : (((((uu.setCell ⟨w.heap.size, 0, none⟩ (.int .i64 q)).setCell ⟨w.heap.size, 1, none⟩ (.int .i64 s)).setCell ⟨w.heap.size, 2, none⟩ (.slice a l.length cap)).setCell ⟨w.heap.size, 3, none⟩ (.int .i64 fr)).setCell ⟨w.heap.size, 4, none⟩ (.int .i64 b)).cell? ⟨w.heap.size + 1, 4, none⟩ = some (.int .i64 0) := by
                    iterate 5 (rw [World.cell?_setCell_other _ _ _ _ (by intro e; have h9 := congrArg Addr.block e; exact n5 (by first | exact h9 | exact h9.symm))])
                    exact DZ.one.r2.cells.1.2.2.2.2
                  have gf : ∀ j, (((((uu.setCell ⟨w.heap.size, 0, none⟩ (.int .i64 q)).setCell ⟨w.heap.size, 1, none⟩ (.int .i64 s)).setCell ⟨w.heap.size, 2, none⟩ (.slice a l.length cap)).setCell ⟨w.heap.size, 3, none⟩ (.int .i64 fr)).setCell ⟨w.heap.size, 4, none⟩ (.int .i64 b)).frozen? ⟨w.heap.size + 1, j, none⟩ = false := fun j => by
                    iterate 5 (rw [World.frozen?_setCell])
                    exact DZ.one.r2.cells.2 j
                  go_simp
                  clear g0 g1 g2 g3 g4 gf
                  refine hK _ _ ?_
                  clear hK K
                  refine wpAny_take (i := 5) (v := .int .i64 (x.1)) rfl (by kernel_rfl) (by kernel_rfl) (by kernel_rfl) (fun _ _ _ h => h) (Or.inl ⟨by rfl, fun W => by go_simp⟩) ?_
                  refine wpAny_done (by kernel_rfl) ?_ _
                  go_wp2
                  obtain ⟨⟨f0, f1, f2, f3, f4⟩, ff⟩ := DZ.one.r1.cells
                  obtain ⟨⟨g0, g1, g2, g3, g4⟩, gf⟩ := DZ.one.r2.cells
                  refine bodyPost_ret (v := .tuple #[.agg #[.int .i64 q, .int .i64 s, .slice a l.length cap, .int .i64 fr, .int .i64 b], .agg #[.int .i64 q', .int .i64 s', .slice a' l'.length cap', .int .i64 fr', .int .i64 b'], .int .i64 (x.1)]) (by simp [results, Tryz.results27, go_sem, f0, f1, f2, f3, f4, g0, g1, g2, g3, g4]) rfl ?_
                  obtain ⟨h1, h2, h3⟩ := DZ.post
                  exact ⟨q, s, fr, b, a, b0, o, cap, l, q', s', fr', b', a', b0', o', cap', l', x.1, rfl, hll, hcap, h1, hl4, hcap4, h2, HX0.out, h3⟩
                exact AllReady.nil
              exact AllReady.nil
            refine AllReady.cons rfl (fun K hK => ?_) ?_
            · obtain ⟨⟨f0, f1, f2, f3, f4⟩, ff⟩ := DZ.one.r1.cells
              go_simp
              clear f0 f1 f2 f3 f4 ff
              refine hK _ _ ?_
              clear hK K
              refine wpAny_ready (rs := [1]) (by kernel_rfl) (by simp) ?_
              refine AllReady.cons rfl (fun K hK => ?_) ?_
              · have d0 : (((((uu.setCell ⟨w.heap.size, 0, none⟩ (.int .i64 q)).setCell ⟨w.heap.size, 1, none⟩ (.int .i64 s)).setCell ⟨w.heap.size, 2, none⟩ (.slice a l.length cap)).setCell ⟨w.heap.size, 3, none⟩ (.int .i64 fr)).setCell ⟨w.heap.size, 4, none⟩ (.int .i64 b)).cell? ⟨Y, 0, none⟩ = some (.int .i64 q') := by
                  iterate 5 (rw [World.cell?_setCell_other _ _ _ _ (by intro e; have h9 := congrArg Addr.block e; exact n3 (by first | exact h9 | exact h9.symm))])
                  exact DZ.pb.cells.1.1
                have d1 : (((((uu.setCell ⟨w.heap.size, 0, none⟩ (.int .i64 q)).setCell ⟨w.heap.size, 1, none⟩ (.int .i64 s)).setCell ⟨w.heap.size, 2, none⟩ (.slice a l.length cap)).setCell ⟨w.heap.size, 3, none⟩ (.int .i64 fr)).setCell ⟨w.heap.size, 4, none⟩ (.int .i64 b)).cell? ⟨Y, 1, none⟩ = some (.int .i64 s') := by
                  iterate 5 (rw [World.cell?_setCell_other _ _ _ _ (by intro e; have h9 := congrArg Addr.block e; exact n3 (by first | exact h9 | exact h9.symm))])
                  exact DZ.pb.cells.1.2.1
                have d2 : (((((uu.setCell ⟨w.heap.size, 0, none⟩ (.int .i64 q)).setCell ⟨w.heap.size, 1, none⟩ (.int .i64 s)).setCell ⟨w.heap.size, 2, none⟩ (.slice a l.length cap)).setCell ⟨w.heap.size, 3, none⟩ (.int .i64 fr)).setCell ⟨w.heap.size, 4, none⟩ (.int .i64 b)).cell? ⟨Y, 2, none⟩ = some (.slice a' l'.length cap') := by
                  iterate 5 (rw [World.cell?_setCell_other _ _ _ _ (by intro e; have h9 := congrArg Addr.block e; exact n3 (by first | exact h9 | exact h9.symm))])
                  exact DZ.pb.cells.1.2.2.1
                have d3 : (((((uu.setCell ⟨w.heap.size, 0, none⟩ (.int .i64 q)).setCell ⟨w.heap.size, 1, none⟩ (.int .i64 s)).setCell ⟨w.heap.size, 2, none⟩ (.slice a l.length cap)).setCell ⟨w.heap.size, 3, none⟩ (.int .i64 fr)).setCell ⟨w.heap.size, 4, none⟩ (.int .i64 b)).cell? ⟨Y, 3, none⟩ = some (.int .i64 fr') := by
                  iterate 5 (rw [World.cell?_setCell_other _ _ _ _ (by intro e; have h9 := congrArg Addr.block e; exact n3 (by first | exact h9 | exact h9.symm))])
                  exact DZ.pb.cells.1.2.2.2.1
                have d4 : (((((uu.setCell ⟨w.heap.size, 0, none⟩ (.int .i64 q)).setCell ⟨w.heap.size, 1, none⟩ (.int .i64 s)).setCell ⟨w.heap.size, 2, none⟩ (.slice a l.length cap)).setCell ⟨w.heap.size, 3, none⟩ (.int .i64 fr)).setCell ⟨w.heap.size, 4, none⟩ (.int .i64 b)).cell? ⟨Y, 4, none⟩ = some (.int .i64 b') := by
                  iterate 5 (rw [World.cell?_setCell_other _ _ _ _ (by intro e; have h9 := congrArg Addr.block e; exact n3 (by first | exact h9 | exact h9.symm))])
                  exact DZ.pb.cells.1.2.2.2.2
                go_simp
                clear d0 d1 d2 d3 d4
                refine hK _ _ ?_
                clear hK K
                refine wpAny_ready (rs := [4]) (by kernel_rfl) (by simp) ?_
                refine AllReady.cons rfl (fun K hK => ?_) ?_
                · have g0 : (((((uu.setCell ⟨w.heap.size, 0, none⟩ (.int .i64 q)).setCell ⟨w.heap.size, 1, none⟩ (.int .i64 s)).setCell ⟨w.heap.size, 2, none⟩ (.slice a l.length cap)).setCell ⟨w.heap.size, 3, none⟩ (.int .i64 fr)).setCell ⟨w.heap.size, 4, none⟩ (.int .i64 b)).cell? ⟨w.heap.size + 1, 0, none⟩ = some (.int .i64 0) := by
                    iterate 5 (rw [World.cell?_setCell_other _ _ _ _ (by intro e; have h9 := congrArg Addr.block e; exact n5 (by first | exact h9 | exact h9.symm))])
                    exact DZ.one.r2.cells.1.1
                  have g1 : (((((uu.setCell ⟨w.heap.size, 0, none⟩ (.int .i64 q)).setCell ⟨w.heap.size, 1, none⟩ (.int .i64 s)).setCell ⟨w.heap.size, 2, none⟩ (.slice a l.length cap)).setCell ⟨w.heap.size, 3, none⟩ (.int .i64 fr)).setCell ⟨w.heap.size, 4, none⟩ (.int .i64 b)).cell? ⟨w.heap.size + 1, 1, none⟩ = some (.int .i64 0) := by
                    iterate 5 (rw [World.cell?_setCell_other _ _ _ _ (by intro e; have h9 := congrArg Addr.block e; exact n5 (by first | exact h9 | exact h9.symm))])
                    exact DZ.one.r2.cells.1.2.1
                  have g2 : (((((uu.setCell ⟨w.heap.size, 0, none⟩ (.int .i64 q)).setCell ⟨w.heap.size, 1, none⟩ (.int .i64 s)).setCell ⟨w.heap.size, 2, none⟩ (.slice a l.length cap)).setCell ⟨w.heap.size, 3, none⟩ (.int .i64 fr)).setCell ⟨w.heap.size, 4, none⟩ (.int .i64 b)).cell? ⟨w.heap.size + 1, 2, none⟩ = some (.slice none 0 0) := by
                    iterate 5 (rw [World.cell?_setCell_other _ _ _ _ (by intro e; have h9 := congrArg Addr.block e; exact n5 (by first | exact h9 | exact h9.symm))])
                    exact DZ.one.r2.cells.1.2.2.1
                  have g3 : (((((uu.setCell ⟨w.heap.size, 0, none⟩ (.int .i64 q)).setCell ⟨w.heap.size, 1, none⟩ (.int .i64 s)).setCell ⟨w.heap.size, 2, none⟩ (.slice a l.length cap)).setCell ⟨w.heap.size, 3, none⟩ (.int .i64 fr)).setCell ⟨w.heap.size, 4, none⟩ (.int .i64 b)).cell? ⟨w.heap.size + 1, 3, none⟩ = some (.int .i64 0) := by
                    iterate 5 (rw [World.cell?_setCell_other _ _ _ _ (by intro e; have h9 := congrArg Addr.block e; exact n5 (by first | exact h9 | exact h9.symm))])
                    exact DZ.one.r2.cells.1.2.2.2.1
                  have g4 : (((((uu.setCell ⟨w.heap.size, 0, none⟩ (.int .i64 q)).setCell ⟨w.heap.size, 1, none⟩ (.int .i64 s)).setCell ⟨w.heap.size, 2, none⟩ (.slice a l.length cap)).setCell ⟨w.heap.size, 3, none⟩ (.int .i64 fr)).setCell ⟨w.heap.size, 4, none⟩ (.int .i64 b)).cell? ⟨w.heap.size + 1, 4, none⟩ = some (.int .i64 0) := by
                    iterate 5 (rw [World.cell?_setCell_other _ _ _ _ (by intro e; have h9 := congrArg Addr.block e; exact n5 (by first | exact h9 | exact h9.symm))])
                    exact DZ.one.r2.cells.1.2.2.2.2
                  have gf : ∀ j, (((((uu.setCell ⟨w.heap.size, 0, none⟩ (.int .i64 q)).setCell ⟨w.heap.size, 1, none⟩ (.int .i64 s)).setCell ⟨w.heap.size, 2, none⟩ (.slice a l.length cap)).setCell ⟨w.heap.size, 3, none⟩ (.int .i64 fr)).setCell ⟨w.heap.size, 4, none⟩ (.int .i64 b)).frozen? ⟨w.heap.size + 1, j, none⟩ = false := fun j => by
                    iterate 5 (rw [World.frozen?_setCell])
                    exact DZ.one.r2.cells.2 j
                  go_simp
                  clear g0 g1 g2 g3 g4 gf
                  refine hK _ _ ?_
                  clear hK K
                  refine wpAny_take (i := 5) (v := .int .i64 (x.1)) rfl (by kernel_rfl) (by kernel_rfl) (by kernel_rfl) (fun _ _ _ h => h) (Or.inl ⟨by rfl, fun W => by go_simp⟩) ?_
                  refine wpAny_done (by kernel_rfl) ?_ _
                  go_wp2
                  obtain ⟨⟨f0, f1, f2, f3, f4⟩, ff⟩ := DZ.one.r1.cells
                  obtain ⟨⟨g0, g1, g2, g3, g4⟩, gf⟩ := DZ.one.r2.cells
                  refine bodyPost_ret (v := .tuple #[.agg #[.int .i64 q, .int .i64 s, .slice a l.length cap, .int .i64 fr, .int .i64 b], .agg #[.int .i64 q', .int .i64 s', .slice a' l'.length cap', .int .i64 fr', .int .i64 b'], .int .i64 (x.1)]) (by simp [results, Tryz.results27, go_sem, f0, f1, f2, f3, f4, g0, g1, g2, g3, g4]) rfl ?_
                  obtain ⟨h1, h2, h3⟩ := DZ.post
                  exact ⟨q, s, fr, b, a, b0, o, cap, l, q', s', fr', b', a', b0', o', cap', l', x.1, rfl, hll, hcap, h1, hl4, hcap4, h2, HX0.out, h3⟩
                exact AllReady.nil
              exact AllReady.nil
            exact AllReady.nil
          refine AllReady.cons rfl (fun K hK => ?_) ?_
          · obtain ⟨⟨d0, d1, d2, d3, d4⟩, df⟩ := DZ.pb.cells
            go_simp
            clear d0 d1 d2 d3 d4 df
            refine hK _ _ ?_
            clear hK K
            refine wpAny_ready (rs := [0]) (by kernel_rfl) (by simp) ?_
            refine AllReady.cons rfl (fun K hK => ?_) ?_
            · obtain ⟨⟨e0, e1, e2, e3, e4⟩, ef⟩ := DZ.one.pa.cells
              go_simp
              clear e0 e1 e2 e3 e4 ef
              refine hK _ _ ?_
              clear hK K
              refine wpAny_ready (rs := [3]) (by kernel_rfl) (by simp) ?_
              refine AllReady.cons rfl (fun K hK => ?_) ?_
              · obtain ⟨⟨f0, f1, f2, f3, f4⟩, ff⟩ := DZ.one.r1.cells
                go_simp
                clear f0 f1 f2 f3 f4 ff
                refine hK _ _ ?_
                clear hK K
                refine wpAny_ready (rs := [4]) (by kernel_rfl) (by simp) ?_
                refine AllReady.cons rfl (fun K hK => ?_) ?_
                · have g0 : (((((uu.setCell ⟨w.heap.size, 0, none⟩ (.int .i64 q)).setCell ⟨w.heap.size, 1, none⟩ (.int .i64 s)).setCell ⟨w.heap.size, 2, none⟩ (.slice a l.length cap)).setCell ⟨w.heap.size, 3, none⟩ (.int .i64 fr)).setCell ⟨w.heap.size, 4, none⟩ (.int .i64 b)).cell? ⟨w.heap.size + 1, 0, none⟩ = some (.int .i64 0) := by
                    iterate 5 (rw [World.cell?_setCell_other _ _ _ _ (by intro e; have h9 := congrArg Addr.block e; exact n5 (by first | exact h9 | exact h9.symm))])
                    exact DZ.one.r2.cells.1.1
                  have g1 : (((((uu.setCell ⟨w.heap.size, 0, none⟩ (.int .i64 q)).setCell ⟨w.heap.size, 1, none⟩ (.int .i64 s)).setCell ⟨w.heap.size, 2, none⟩ (.slice a l.length cap)).setCell ⟨w.heap.size, 3, none⟩ (.int .i64 fr)).setCell ⟨w.heap.size, 4, none⟩ (.int .i64 b)).cell? ⟨w.heap.size + 1, 1, none⟩ = some (.int .i64 0) := by
                    iterate 5 (rw [World.cell?_setCell_other _ _ _ _ (by intro e; have h9 := congrArg Addr.block e; exact n5 (by first | exact h9 | exact h9.symm))])
                    exact DZ.one.r2.cells.1.2.1
                  have g2 : (((((uu.setCell ⟨w.heap.size, 0, none⟩ (.int .i64 q)).setCell ⟨w.heap.size, 1, none⟩ (.int .i64 s)).setCell ⟨w.heap.size, 2, none⟩ (.slice a l.length cap)).setCell ⟨w.heap.size, 3, none⟩ (.int .i64 fr)).setCell ⟨w.heap.size, 4, none⟩ (.int .i64 b)).cell? ⟨w.heap.size + 1, 2, none⟩ = some (.slice none 0 0) := by
                    iterate 5 (rw [World.cell?_setCell_other _ _ _ _ (by intro e; have h9 := congrArg Addr.block e; exact n5 (by first | exact h9 | exact h9.symm))])
                    exact DZ.one.r2.cells.1.2.2.1
                  have g3 : (((((uu.setCell ⟨w.heap.size, 0, none⟩ (.int .i64 q)).setCell ⟨w.heap.size, 1, none⟩ (.int .i64 s)).setCell ⟨w.heap.size, 2, none⟩ (.slice a l.length cap)).setCell ⟨w.heap.size, 3, none⟩ (.int .i64 fr)).setCell ⟨w.heap.size, 4, none⟩ (.int .i64 b)).cell? ⟨w.heap.size + 1, 3, none⟩ = some (.int .i64 0) := by
                    iterate 5 (rw [World.cell?_setCell_other _ _ _ _ (by intro e; have h9 := congrArg Addr.block e; exact n5 (by first | exact h9 | exact h9.symm))])
                    exact DZ.one.r2.cells.1.2.2.2.1
                  have g4 : (((((uu.setCell ⟨w.heap.size, 0, none⟩ (.int .i64 q)).setCell ⟨w.heap.size, 1, none⟩ (.int .i64 s)).setCell ⟨w.heap.size, 2, none⟩ (.slice a l.length cap)).setCell ⟨w.heap.size, 3, none⟩ (.int .i64 fr)).setCell ⟨w.heap.size, 4, none⟩ (.int .i64 b)).cell? ⟨w.heap.size + 1, 4, none⟩ = some (.int .i64 0) := by
                    iterate 5 (rw [World.cell?_setCell_other _ _ _ _ (by intro e; have h9 := congrArg Addr.block e; exact n5 (by first | exact h9 | exact h9.symm))])
                    exact DZ.one.r2.cells.1.2.2.2.2
                  have gf : ∀ j, (((((uu.setCell ⟨w.heap.size, 0, none⟩ (.int .i64 q)).setCell ⟨w.heap.size, 1, none⟩ (.int .i64 s)).setCell ⟨w.heap.size, 2, none⟩ (.slice a l.length cap)).setCell ⟨w.heap.size, 3, none⟩ (.int .i64 fr)).setCell ⟨w.heap.size, 4, none⟩ (.int .i64 b)).frozen? ⟨w.heap.size + 1, j, none⟩ = false := fun j => by
                    iterate 5 (rw [World.frozen?_setCell])
                    exact DZ.one.r2.cells.2 j
                  go_simp
                  clear g0 g1 g2 g3 g4 gf
                  refine hK _ _ ?_
                  clear hK K
                  refine wpAny_take (i := 5) (v := .int .i64 (x.1)) rfl (by kernel_rfl) (by kernel_rfl) (by kernel_rfl) (fun _ _ _ h => h) (Or.inl ⟨by rfl, fun W => by go_simp⟩) ?_
                  refine wpAny_done (by kernel_rfl) ?_ _
                  go_wp2
                  obtain ⟨⟨f0, f1, f2, f3, f4⟩, ff⟩ := DZ.one.r1.cells
                  obtain ⟨⟨g0, g1, g2, g3, g4⟩, gf⟩ := DZ.one.r2.cells
                  refine bodyPost_ret (v := .tuple #[.agg #[.int .i64 q, .int .i64 s, .slice a l.length cap, .int .i64 fr, .int .i64 b], .agg #[.int .i64 q', .int .i64 s', .slice a' l'.length cap', .int .i64 fr', .int .i64 b'], .int .i64 (x.1)]) (by simp [results, Tryz.results27, go_sem, f0, f1, f2, f3, f4, g0, g1, g2, g3, g4]) rfl ?_
                  obtain ⟨h1, h2, h3⟩ := DZ.post
                  exact ⟨q, s, fr, b, a, b0, o, cap, l, q', s', fr', b', a', b0', o', cap', l', x.1, rfl, hll, hcap, h1, hl4, hcap4, h2, HX0.out, h3⟩
                exact AllReady.nil
              exact AllReady.nil
            exact AllReady.nil
          exact AllReady.nil
      · have hln2 := hln
        have n1 : X ≠ w.heap.size := by have := D7.one.bge; have := D7.one.ge; omega
        have n2 : X ≠ w.heap.size + 1 := by have := D7.one.bge; have := D7.one.ge; omega
        have n3 : Y ≠ w.heap.size := by have := D7.geY; have := D7.one.bge; have := D7.one.ge; omega
        have n4 : Y ≠ w.heap.size + 1 := by have := D7.geY; have := D7.one.bge; have := D7.one.ge; omega
        have n5 : w.heap.size + 1 ≠ w.heap.size := by omega
        go_wp2
        have DZ := D7.below ((Below.refl _ _).drew)
        refine wp_region_any (by kernel_rfl) ?_
        change wpAny _ _ _ _ _ _ _ (World.drew _)
        generalize World.drew w7 = uu at DZ ⊢
        refine wpAny_take (i := 2) (v := .int .i64 (t)) rfl (by kernel_rfl) (by kernel_rfl) (by kernel_rfl) (fun _ _ _ h => h) (Or.inl ⟨by rfl, fun W => by go_simp⟩) ?_
        refine wpAny_ready (rs := [0, 1]) (by kernel_rfl) (by simp) ?_
        refine AllReady.cons rfl (fun K hK => ?_) ?_
        · obtain ⟨⟨e0, e1, e2, e3, e4⟩, ef⟩ := DZ.one.pa.cells
          go_simp
          clear e0 e1 e2 e3 e4 ef
          refine hK _ _ ?_
          clear hK K
          refine wpAny_ready (rs := [1, 3]) (by kernel_rfl) (by simp) ?_
          refine AllReady.cons rfl (fun K hK => ?_) ?_
          · obtain ⟨⟨d0, d1, d2, d3, d4⟩, df⟩ := DZ.pb.cells
            go_simp
            clear d0 d1 d2 d3 d4 df
            refine hK _ _ ?_
            clear hK K
            refine wpAny_ready (rs := [3]) (by kernel_rfl) (by simp) ?_
            refine AllReady.cons rfl (fun K hK => ?_) ?_
            · obtain ⟨⟨f0, f1, f2, f3, f4⟩, ff⟩ := DZ.one.r1.cells
              go_simp
              clear f0 f1 f2 f3 f4 ff
              refine hK _ _ ?_
              clear hK K
              refine wpAny_ready (rs := [4]) (by kernel_rfl) (by simp) ?_
              refine AllReady.cons rfl (fun K hK => ?_) ?_
              · have g0 : (((((uu.setCell ⟨w.heap.size, 0, none⟩ (.int .i64 q)).setCell ⟨w.heap.size, 1, none⟩ (.int .i64 s)).setCell ⟨w.heap.size, 2, none⟩ (.slice a l.length cap)).setCell ⟨w.heap.size, 3, none⟩ (.int .i64 fr)).setCell ⟨w.heap.size, 4, none⟩ (.int .i64 b)).cell? ⟨w.heap.size + 1, 0, none⟩ = some (.int .i64 0) := by
                  iterate 5 (rw [World.cell?_setCell_other _ _ _ _ (by intro e; have h9 := congrArg Addr.block e; exact n5 (by first | exact h9 | exact h9.symm))])
                  exact DZ.one.r2.cells.1.1
                have g1 : (((((uu.setCell ⟨w.heap.size, 0, none⟩ (.int .i64 q)).setCell ⟨w.heap.size, 1, none⟩ (.int .i64 s)).setCell ⟨w.heap.size, 2, none⟩ (.slice a l.length cap)).setCell ⟨w.heap.size, 3, none⟩ (.int .i64 fr)).setCell ⟨w.heap.size, 4, none⟩ (.int .i64 b)).cell? ⟨w.heap.size + 1, 1, none⟩ = some (.int .i64 0) := by
                  iterate 5 (rw [World.cell?_setCell_other _ _ _ _ (by intro e; have h9 := congrArg Addr.block e; exact n5 (by first | exact h9 | exact h9.symm))])
                  exact DZ.one.r2.cells.1.2.1
                have g2 : (((((uu.setCell ⟨w.heap.size, 0, none⟩ (.int .i64 q)).setCell ⟨w.heap.size, 1, none⟩ (.int .i64 s)).setCell ⟨w.heap.size, 2, none⟩ (.slice a l.length cap)).setCell ⟨w.heap.size, 3, none⟩ (.int .i64 fr)).setCell ⟨w.heap.size, 4, none⟩ (.int .i64 b)).cell? ⟨w.heap.size + 1, 2, none⟩ = some (.slice none 0 0) := by
                  iterate 5 (rw [World.cell?_setCell_other _ _ _ _ (by intro e; have h9 := congrArg Addr.block e; exact n5 (by first | exact h9 | exact h9.symm))])
                  exact DZ.one.r2.cells.1.2.2.1
                have g3 : (((((uu.setCell ⟨w.heap.size, 0, none⟩ (.int .i64 q)).setCell ⟨w.heap.size, 1, none⟩ (.int .i64 s)).setCell ⟨w.heap.size, 2, none⟩ (.slice a l.length cap)).setCell ⟨w.heap.size, 3, none⟩ (.int .i64 fr)).setCell ⟨w.heap.size, 4, none⟩ (.int .i64 b)).cell? ⟨w.heap.size + 1, 3, none⟩ = some (.int .i64 0) := by
                  iterate 5 (rw [World.cell?_setCell_other _ _ _ _ (by intro e; have h9 := congrArg Addr.block e; exact n5 (by first | exact h9 | exact h9.symm))])
                  exact DZ.one.r2.cells.1.2.2.2.1
                have g4 : (((((uu.setCell ⟨w.heap.size, 0, none⟩ (.int .i64 q)).setCell ⟨w.heap.size, 1, none⟩ (.int .i64 s)).setCell ⟨w.heap.size, 2, none⟩ (.slice a l.length cap)).setCell ⟨w.heap.size, 3, none⟩ (.int .i64 fr)).setCell ⟨w.heap.size, 4, none⟩ (.int .i64 b)).cell? ⟨w.heap.size + 1, 4, none⟩ = some (.int .i64 0) := by
                  iterate 5 (rw [World.cell?_setCell_other _ _ _ _ (by intro e; have h9 := congrArg Addr.block e; exact n5 (by first | exact h9 | exact h9.symm))])
                  exact DZ.one.r2.cells.1.2.2.2.2
                have gf : ∀ j, (((((uu.setCell ⟨w.heap.size, 0, none⟩ (.int .i64 q)).setCell ⟨w.heap.size, 1, none⟩ (.int .i64 s)).setCell ⟨w.heap.size, 2, none⟩ (.slice a l.length cap)).setCell ⟨w.heap.size, 3, none⟩ (.int .i64 fr)).setCell ⟨w.heap.size, 4, none⟩ (.int .i64 b)).frozen? ⟨w.heap.size + 1, j, none⟩ = false := fun j => by
                  iterate 5 (rw [World.frozen?_setCell])
                  exact DZ.one.r2.cells.2 j
                go_simp
                clear g0 g1 g2 g3 g4 gf
                refine hK _ _ ?_
                clear hK K
                refine wpAny_take (i := 5) (v := .int .i64 (t)) rfl (by kernel_rfl) (by kernel_rfl) (by kernel_rfl) (fun _ _ _ h => h) (Or.inl ⟨by rfl, fun W => by go_simp⟩) ?_
                refine wpAny_done (by kernel_rfl) ?_ _
                go_wp2
                obtain ⟨⟨f0, f1, f2, f3, f4⟩, ff⟩ := DZ.one.r1.cells
                obtain ⟨⟨g0, g1, g2, g3, g4⟩, gf⟩ := DZ.one.r2.cells
                refine bodyPost_ret (v := .tuple #[.agg #[.int .i64 q, .int .i64 s, .slice a l.length cap, .int .i64 fr, .int .i64 b], .agg #[.int .i64 q', .int .i64 s', .slice a' l'.length cap', .int .i64 fr', .int .i64 b'], .int .i64 (t)]) (by simp [results, Tryz.results27, go_sem, f0, f1, f2, f3, f4, g0, g1, g2, g3, g4]) rfl ?_
                obtain ⟨h1, h2, h3⟩ := DZ.post
                exact ⟨q, s, fr, b, a, b0, o, cap, l, q', s', fr', b', a', b0', o', cap', l', t, rfl, hll, hcap, h1, hl4, hcap4, h2, HT0.out, h3⟩
              exact AllReady.nil
            exact AllReady.nil
          refine AllReady.cons rfl (fun K hK => ?_) ?_
          · obtain ⟨⟨f0, f1, f2, f3, f4⟩, ff⟩ := DZ.one.r1.cells
            go_simp
            clear f0 f1 f2 f3 f4 ff
            refine hK _ _ ?_
            clear hK K
            refine wpAny_ready (rs := [1]) (by kernel_rfl) (by simp) ?_
            refine AllReady.cons rfl (fun K hK => ?_) ?_
            · have d0 : (((((uu.setCell ⟨w.heap.size, 0, none⟩ (.int .i64 q)).setCell ⟨w.heap.size, 1, none⟩ (.int .i64 s)).setCell ⟨w.heap.size, 2, none⟩ (.slice a l.length cap)).setCell ⟨w.heap.size, 3, none⟩ (.int .i64 fr)).setCell ⟨w.heap.size, 4, none⟩ (.int .i64 b)).cell? ⟨Y, 0, none⟩ = some (.int .i64 q') := by
                iterate 5 (rw [World.cell?_setCell_other _ _ _ _ (by intro e; have h9 := congrArg Addr.block e; exact n3 (by first | exact h9 | exact h9.symm))])
                exact DZ.pb.cells.1.1
              have d1 : (((((uu.setCell ⟨w.heap.size, 0, none⟩ (.int .i64 q)).setCell ⟨w.heap.size, 1, none⟩ (.int .i64 s)).setCell ⟨w.heap.size, 2, none⟩ (.slice a l.length cap)).setCell ⟨w.heap.size, 3, none⟩ (.int .i64 fr)).setCell ⟨w.heap.size, 4, none⟩ (.int .i64 b)).cell? ⟨Y, 1, none⟩ = some (.int .i64 s') := by
                iterate 5 (rw [World.cell?_setCell_other _ _ _ _ (by intro e; have h9 := congrArg Addr.block e; exact n3 (by first | exact h9 | exact h9.symm))])
                exact DZ.pb.cells.1.2.1
              have d2 : (((((uu.setCell ⟨w.heap.size, 0, none⟩ (.int .i64 q)).setCell ⟨w.heap.size, 1, none⟩ (.int .i64 s)).setCell ⟨w.heap.size, 2, none⟩ (.slice a l.length cap)).setCell ⟨w.heap.size, 3, none⟩ (.int .i64 fr)).setCell ⟨w.heap.size, 4, none⟩ (.int .i64 b)).cell? ⟨Y, 2, none⟩ = some (.slice a' l'.length cap') := by
                iterate 5 (rw [World.cell?_setCell_other _ _ _ _ (by intro e; have h9 := congrArg Addr.block e; exact n3 (by first | exact h9 | exact h9.symm))])
                exact DZ.pb.cells.1.2.2.1
              have d3 : (((((uu.setCell ⟨w.heap.size, 0, none⟩ (.int .i64 q)).setCell ⟨w.heap.size, 1, none⟩ (.int .i64 s)).setCell ⟨w.heap.size, 2, none⟩ (.slice a l.length cap)).setCell ⟨w.heap.size, 3, none⟩ (.int .i64 fr)).setCell ⟨w.heap.size, 4, none⟩ (.int .i64 b)).cell? ⟨Y, 3, none⟩ = some (.int .i64 fr') := by
                iterate 5 (rw [World.cell?_setCell_other _ _ _ _ (by intro e; have h9 := congrArg Addr.block e; exact n3 (by first | exact h9 | exact h9.symm))])
                exact DZ.pb.cells.1.2.2.2.1
              have d4 : (((((uu.setCell ⟨w.heap.size, 0, none⟩ (.int .i64 q)).setCell ⟨w.heap.size, 1, none⟩ (.int .i64 s)).setCell ⟨w.heap.size, 2, none⟩ (.slice a l.length cap)).setCell ⟨w.heap.size, 3, none⟩ (.int .i64 fr)).setCell ⟨w.heap.size, 4, none⟩ (.int .i64 b)).cell? ⟨Y, 4, none⟩ = some (.int .i64 b') := by
                iterate 5 (rw [World.cell?_setCell_other _ _ _ _ (by intro e; have h9 := congrArg Addr.block e; exact n3 (by first | exact h9 | exact h9.symm))])
                exact DZ.pb.cells.1.2.2.2.2
              go_simp
              clear d0 d1 d2 d3 d4
              refine hK _ _ ?_
              clear hK K
              refine wpAny_ready (rs := [4]) (by kernel_rfl) (by simp) ?_
              refine AllReady.cons rfl (fun K hK => ?_) ?_
              · have g0 : (((((uu.setCell ⟨w.heap.size, 0, none⟩ (.int .i64 q)).setCell ⟨w.heap.size, 1, none⟩ (.int .i64 s)).setCell ⟨w.heap.size, 2, none⟩ (.slice a l.length cap)).setCell ⟨w.heap.size, 3, none⟩ (.int .i64 fr)).setCell ⟨w.heap.size, 4, none⟩ (.int .i64 b)).cell? ⟨w.heap.size + 1, 0, none⟩ = some (.int .i64 0) := by
                  iterate 5 (rw [World.cell?_setCell_other _ _ _ _ (by intro e; have h9 := congrArg Addr.block e; exact n5 (by first | exact h9 | exact h9.symm))])
                  exact DZ.one.r2.cells.1.1
                have g1 : (((((uu.setCell ⟨w.heap.size, 0, none⟩ (.int .i64 q)).setCell ⟨w.heap.size, 1, none⟩ (.int .i64 s)).setCell ⟨w.heap.size, 2, none⟩ (.slice a l.length cap)).setCell ⟨w.heap.size, 3, none⟩ (.int .i64 fr)).setCell ⟨w.heap.size, 4, none⟩ (.int .i64 b)).cell? ⟨w.heap.size + 1, 1, none⟩ = some (.int .i64 0) := by
                  iterate 5 (rw [World.cell?_setCell_other _ _ _ _ (by intro e; have h9 := congrArg Addr.block e; exact n5 (by first | exact h9 | exact h9.symm))])
                  exact DZ.one.r2.cells.1.2.1
                have g2 : (((((uu.setCell ⟨w.heap.size, 0, none⟩ (.int .i64 q)).setCell ⟨w.heap.size, 1, none⟩ (.int .i64 s)).setCell ⟨w.heap.size, 2, none⟩ (.slice a l.length cap)).setCell ⟨w.heap.size, 3, none⟩ (.int .i64 fr)).setCell ⟨w.heap.size, 4, none⟩ (.int .i64 b)).cell? ⟨w.heap.size + 1, 2, none⟩ = some (.slice none 0 0) := by
                  iterate 5 (rw [World.cell?_setCell_other _ _ _ _ (by intro e; have h9 := congrArg Addr.block e; exact n5 (by first | exact h9 | exact h9.symm))])
                  exact DZ.one.r2.cells.1.2.2.1
                have g3 : (((((uu.setCell ⟨w.heap.size, 0, none⟩ (.int .i64 q)).setCell ⟨w.heap.size, 1, none⟩ (.int .i64 s)).setCell ⟨w.heap.size, 2, none⟩ (.slice a l.length cap)).setCell ⟨w.heap.size, 3, none⟩ (.int .i64 fr)).setCell ⟨w.heap.size, 4, none⟩ (.int .i64 b)).cell? ⟨w.heap.size + 1, 3, none⟩ = some (.int .i64 0) := by
                  iterate 5 (rw [World.cell?_setCell_other _ _ _ _ (by intro e; have h9 := congrArg Addr.block e; exact n5 (by first | exact h9 | exact h9.symm))])
                  exact DZ.one.r2.cells.1.2.2.2.1
                have g4 : (((((uu.setCell ⟨w.heap.size, 0, none⟩ (.int .i64 q)).setCell ⟨w.heap.size, 1, none⟩ (.int .i64 s)).setCell ⟨w.heap.size, 2, none⟩ (.slice a l.length cap)).setCell ⟨w.heap.size, 3, none⟩ (.int .i64 fr)).setCell ⟨w.heap.size, 4, none⟩ (.int .i64 b)).cell? ⟨w.heap.size + 1, 4, none⟩ = some (.int .i64 0) := by
                  iterate 5 (rw [World.cell?_setCell_other _ _ _ _ (by intro e; have h9 := congrArg Addr.block e; exact n5 (by first | exact h9 | exact h9.symm))])
                  exact DZ.one.r2.cells.1.2.2.2.2
                have gf : ∀ j, (((((uu.setCell ⟨w.heap.size, 0, none⟩ (.int .i64 q)).setCell ⟨w.heap.size, 1, none⟩ (.int .i64 s)).setCell ⟨w.heap.size, 2, none⟩ (.slice a l.length cap)).setCell ⟨w.heap.size, 3, none⟩ (.int .i64 fr)).setCell ⟨w.heap.size, 4, none⟩ (.int .i64 b)).frozen? ⟨w.heap.size + 1, j, none⟩ = false := fun j => by
                  iterate 5 (rw [World.frozen?_setCell])
                  exact DZ.one.r2.cells.2 j
                go_simp
                clear g0 g1 g2 g3 g4 gf
                refine hK _ _ ?_
                clear hK K
                refine wpAny_take (i := 5) (v := .int .i64 (t)) rfl (by kernel_rfl) (by kernel_rfl) (by kernel_rfl) (fun _ _ _ h => h) (Or.inl ⟨by rfl, fun W => by go_simp⟩) ?_
                refine wpAny_done (by kernel_rfl) ?_ _
                go_wp2
                obtain ⟨⟨f0, f1, f2, f3, f4⟩, ff⟩ := DZ.one.r1.cells
                obtain ⟨⟨g0, g1, g2, g3, g4⟩, gf⟩ := DZ.one.r2.cells
                refine bodyPost_ret (v := .tuple #[.agg #[.int .i64 q, .int .i64 s, .slice a l.length cap, .int .i64 fr, .int .i64 b], .agg #[.int .i64 q', .int .i64 s', .slice a' l'.length cap', .int .i64 fr', .int .i64 b'], .int .i64 (t)]) (by simp [results, Tryz.results27, go_sem, f0, f1, f2, f3, f4, g0, g1, g2, g3, g4]) rfl ?_
                obtain ⟨h1, h2, h3⟩ := DZ.post
                exact ⟨q, s, fr, b, a, b0, o, cap, l, q', s', fr', b', a', b0', o', cap', l', t, rfl, hll, hcap, h1, hl4, hcap4, h2, HT0.out, h3⟩
              exact AllReady.nil
            exact AllReady.nil
          exact AllReady.nil
        refine AllReady.cons rfl (fun K hK => ?_) ?_
        · obtain ⟨⟨d0, d1, d2, d3, d4⟩, df⟩ := DZ.pb.cells
          go_simp
          clear d0 d1 d2 d3 d4 df
          refine hK _ _ ?_
          clear hK K
          refine wpAny_ready (rs := [0]) (by kernel_rfl) (by simp) ?_
          refine AllReady.cons rfl (fun K hK => ?_) ?_
          · obtain ⟨⟨e0, e1, e2, e3, e4⟩, ef⟩ := DZ.one.pa.cells
            go_simp
            clear e0 e1 e2 e3 e4 ef
            refine hK _ _ ?_
            clear hK K
            refine wpAny_ready (rs := [3]) (by kernel_rfl) (by simp) ?_
            refine AllReady.cons rfl (fun K hK => ?_) ?_
            · obtain ⟨⟨f0, f1, f2, f3, f4⟩, ff⟩ := DZ.one.r1.cells
              go_simp
              clear f0 f1 f2 f3 f4 ff
              refine hK _ _ ?_
              clear hK K
              refine wpAny_ready (rs := [4]) (by kernel_rfl) (by simp) ?_
              refine AllReady.cons rfl (fun K hK => ?_) ?_
              · have g0 : (((((uu.setCell ⟨w.heap.size, 0, none⟩ (.int .i64 q)).setCell ⟨w.heap.size, 1, none⟩ (.int .i64 s)).setCell ⟨w.heap.size, 2, none⟩ (.slice a l.length cap)).setCell ⟨w.heap.size, 3, none⟩ (.int .i64 fr)).setCell ⟨w.heap.size, 4, none⟩ (.int .i64 b)).cell? ⟨w.heap.size + 1, 0, none⟩ = some (.int .i64 0) := by
                  iterate 5 (rw [World.cell?_setCell_other _ _ _ _ (by intro e; have h9 := congrArg Addr.block e; exact n5 (by first | exact h9 | exact h9.symm))])
                  exact DZ.one.r2.cells.1.1
                have g1 : (((((uu.setCell ⟨w.heap.size, 0, none⟩ (.int .i64 q)).setCell ⟨w.heap.size, 1, none⟩ (.int .i64 s)).setCell ⟨w.heap.size, 2, none⟩ (.slice a l.length cap)).setCell ⟨w.heap.size, 3, none⟩ (.int .i64 fr)).setCell ⟨w.heap.size, 4, none⟩ (.int .i64 b)).cell? ⟨w.heap.size + 1, 1, none⟩ = some (.int .i64 0) := by
                  iterate 5 (rw [World.cell?_setCell_other _ _ _ _ (by intro e; have h9 := congrArg Addr.block e; exact n5 (by first | exact h9 | exact h9.symm))])
                  exact DZ.one.r2.cells.1.2.1
                have g2 : (((((uu.setCell ⟨w.heap.size, 0, none⟩ (.int .i64 q)).setCell ⟨w.heap.size, 1, none⟩ (.int .i64 s)).setCell ⟨w.heap.size, 2, none⟩ (.slice a l.length cap)).setCell ⟨w.heap.size, 3, none⟩ (.int .i64 fr)).setCell ⟨w.heap.size, 4, none⟩ (.int .i64 b)).cell? ⟨w.heap.size + 1, 2, none⟩ = some (.slice none 0 0) := by
                  iterate 5 (rw [World.cell?_setCell_other _ _ _ _ (by intro e; have h9 := congrArg Addr.block e; exact n5 (by first | exact h9 | exact h9.symm))])
                  exact DZ.one.r2.cells.1.2.2.1
                have g3 : (((((uu.setCell ⟨w.heap.size, 0, none⟩ (.int .i64 q)).setCell ⟨w.heap.size, 1, none⟩ (.int .i64 s)).setCell ⟨w.heap.size, 2, none⟩ (.slice a l.length cap)).setCell ⟨w.heap.size, 3, none⟩ (.int .i64 fr)).setCell ⟨w.heap.size, 4, none⟩ (.int .i64 b)).cell? ⟨w.heap.size + 1, 3, none⟩ = some (.int .i64 0) := by
                  iterate 5 (rw [World.cell?_setCell_other _ _ _ _ (by intro e; have h9 := congrArg Addr.block e; exact n5 (by first | exact h9 | exact h9.symm))])
                  exact DZ.one.r2.cells.1.2.2.2.1
                have g4 : (((((uu.setCell ⟨w.heap.size, 0, none⟩ (.int .i64 q)).setCell ⟨w.heap.size, 1, none⟩ (.int .i64 s)).setCell ⟨w.heap.size, 2, none⟩ (.slice a l.length cap)).setCell ⟨w.heap.size, 3, none⟩ (.int .i64 fr)).setCell ⟨w.heap.size, 4, none⟩ (.int .i64 b)).cell? ⟨w.heap.size + 1, 4, none⟩ = some (.int .i64 0) := by
                  iterate 5 (rw [World.cell?_setCell_other _ _ _ _ (by intro e; have h9 := congrArg Addr.block e; exact n5 (by first | exact h9 | exact h9.symm))])
                  exact DZ.one.r2.cells.1.2.2.2.2
                have gf : ∀ j, (((((uu.setCell ⟨w.heap.size, 0, none⟩ (.int .i64 q)).setCell ⟨w.heap.size, 1, none⟩ (.int .i64 s)).setCell ⟨w.heap.size, 2, none⟩ (.slice a l.length cap)).setCell ⟨w.heap.size, 3, none⟩ (.int .i64 fr)).setCell ⟨w.heap.size, 4, none⟩ (.int .i64 b)).frozen? ⟨w.heap.size + 1, j, none⟩ = false := fun j => by
                  iterate 5 (rw [World.frozen?_setCell])
                  exact DZ.one.r2.cells.2 j
                go_simp
                clear g0 g1 g2 g3 g4 gf
                refine hK _ _ ?_
                clear hK K
                refine wpAny_take (i := 5) (v := .int .i64 (t)) rfl (by kernel_rfl) (by kernel_rfl) (by kernel_rfl) (fun _ _ _ h => h) (Or.inl ⟨by rfl, fun W => by go_simp⟩) ?_
                refine wpAny_done (by kernel_rfl) ?_ _
                go_wp2
                obtain ⟨⟨f0, f1, f2, f3, f4⟩, ff⟩ := DZ.one.r1.cells
                obtain ⟨⟨g0, g1, g2, g3, g4⟩, gf⟩ := DZ.one.r2.cells
                refine bodyPost_ret (v := .tuple #[.agg #[.int .i64 q, .int .i64 s, .slice a l.length cap, .int .i64 fr, .int .i64 b], .agg #[.int .i64 q', .int .i64 s', .slice a' l'.length cap', .int .i64 fr', .int .i64 b'], .int .i64 (t)]) (by simp [results, Tryz.results27, go_sem, f0, f1, f2, f3, f4, g0, g1, g2, g3, g4]) rfl ?_
                obtain ⟨h1, h2, h3⟩ := DZ.post
                exact ⟨q, s, fr, b, a, b0, o, cap, l, q', s', fr', b', a', b0', o', cap', l', t, rfl, hll, hcap, h1, hl4, hcap4, h2, HT0.out, h3⟩
              exact AllReady.nil
            exact AllReady.nil
          exact AllReady.nil
        exact AllReady.nil
    · have h1 : (m2 == 0) = false := beq_eq_false_iff_ne.2 h0
      clear e0 e1 e2 e3 e4 ef
      have n1 : X ≠ w.heap.size := by have := D7.one.bge; have := D7.one.ge; omega
      have n2 : X ≠ w.heap.size + 1 := by have := D7.one.bge; have := D7.one.ge; omega
      have n3 : Y ≠ w.heap.size := by have := D7.geY; have := D7.one.bge; have := D7.one.ge; omega
      have n4 : Y ≠ w.heap.size + 1 := by have := D7.geY; have := D7.one.bge; have := D7.one.ge; omega
      have n5 : w.heap.size + 1 ≠ w.heap.size := by omega
      go_wp2
      have DZ := D7.below ((Below.refl _ _).drew)
      refine wp_region_any (by kernel_rfl) ?_
      change wpAny _ _ _ _ _ _ _ (World.drew _)
      generalize World.drew w7 = uu at DZ ⊢
      refine wpAny_take (i := 2) (v := .int .i64 (t)) rfl (by kernel_rfl) (by kernel_rfl) (by kernel_rfl) (fun _ _ _ h => h) (Or.inl ⟨by rfl, fun W => by go_simp⟩) ?_
      refine wpAny_ready (rs := [0, 1]) (by kernel_rfl) (by simp) ?_
      refine AllReady.cons rfl (fun K hK => ?_) ?_
      · obtain ⟨⟨e0, e1, e2, e3, e4⟩, ef⟩ := DZ.one.pa.cells
        go_simp
        clear e0 e1 e2 e3 e4 ef
        refine hK _ _ ?_
        clear hK K
        refine wpAny_ready (rs := [1, 3]) (by kernel_rfl) (by simp) ?_
        refine AllReady.cons rfl (fun K hK => ?_) ?_
        · obtain ⟨⟨d0, d1, d2, d3, d4⟩, df⟩ := DZ.pb.cells
          go_simp
          clear d0 d1 d2 d3 d4 df
          refine hK _ _ ?_
          clear hK K
          refine wpAny_ready (rs := [3]) (by kernel_rfl) (by simp) ?_
          refine AllReady.cons rfl (fun K hK => ?_) ?_
          · obtain ⟨⟨f0, f1, f2, f3, f4⟩, ff⟩ := DZ.one.r1.cells
            go_simp
            clear f0 f1 f2 f3 f4 ff
            refine hK _ _ ?_
            clear hK K
            refine wpAny_ready (rs := [4]) (by kernel_rfl) (by simp) ?_
            refine AllReady.cons rfl (fun K hK => ?_) ?_
            · have g0 : (((((uu.setCell ⟨w.heap.size, 0, none⟩ (.int .i64 q)).setCell ⟨w.heap.size, 1, none⟩ (.int .i64 s)).setCell ⟨w.heap.size, 2, none⟩ (.slice a l.length cap)).setCell ⟨w.heap.size, 3, none⟩ (.int .i64 fr)).setCell ⟨w.heap.size, 4, none⟩ (.int .i64 b)).cell? ⟨w.heap.size + 1, 0, none⟩ = some (.int .i64 0) := by
                iterate 5 (rw [World.cell?_setCell_other _ _ _ _ (by intro e; have h9 := congrArg Addr.block e; exact n5 (by first | exact h9 | exact h9.symm))])
                exact DZ.one.r2.cells.1.1
              have g1 : (((((uu.setCell ⟨w.heap.size, 0, none⟩ (.int .i64 q)).setCell ⟨w.heap.size, 1, none⟩ (.int .i64 s)).setCell ⟨w.heap.size, 2, none⟩ (.slice a l.length cap)).setCell ⟨w.heap.size, 3, none⟩ (.int .i64 fr)).setCell ⟨w.heap.size, 4, none⟩ (.int .i64 b)).cell? ⟨w.heap.size + 1, 1, none⟩ = some (.int .i64 0) := by
                iterate 5 (rw [World.cell?_setCell_other _ _ _ _ (by intro e; have h9 := congrArg Addr.block e; exact n5 (by first | exact h9 | exact h9.symm))])
                exact DZ.one.r2.cells.1.2.1
              have g2 : (((((uu.setCell ⟨w.heap.size, 0, none⟩ (.int .i64 q)).setCell ⟨w.heap.size, 1, none⟩ (.int .i64 s)).setCell ⟨w.heap.size, 2, none⟩ (.slice a l.length cap)).setCell ⟨w.heap.size, 3, none⟩ (.int .i64 fr)).setCell ⟨w.heap.size, 4, none⟩ (.int .i64 b)).cell? ⟨w.heap.size + 1, 2, none⟩ = some (.slice none 0 0) := by
                iterate 5 (rw [World.cell?_setCell_other _ _ _ _ (by intro e; have h9 := congrArg Addr.block e; exact n5 (by first | exact h9 | exact h9.symm))])
                exact DZ.one.r2.cells.1.2.2.1
              have g3 : (((((uu.setCell ⟨w.heap.size, 0, none⟩ (.int .i64 q)).setCell ⟨w.heap.size, 1, none⟩ (.int .i64 s)).setCell ⟨w.heap.size, 2, none⟩ (.slice a l.length cap)).setCell ⟨w.heap.size, 3, none⟩ (.int .i64 fr)).setCell ⟨w.heap.size, 4, none⟩ (.int .i64 b)).cell? ⟨w.heap.size + 1, 3, none⟩ = some (.int .i64 0) := by
                iterate 5 (rw [World.cell?_setCell_other _ _ _ _ (by intro e; have h9 := congrArg Addr.block e; exact n5 (by first | exact h9 | exact h9.symm))])
                exact DZ.one.r2.cells.1.2.2.2.1
              have g4 : (((((uu.setCell ⟨w.heap.size, 0, none⟩ (.int .i64 q)).setCell ⟨w.heap.size, 1, none⟩ (.int .i64 s)).setCell ⟨w.heap.size, 2, none⟩ (.slice a l.length cap)).setCell ⟨w.heap.size, 3, none⟩ (.int .i64 fr)).setCell ⟨w.heap.size, 4, none⟩ (.int .i64 b)).cell? ⟨w.heap.size + 1, 4, none⟩ = some (.int .i64 0) := by
                iterate 5 (rw [World.cell?_setCell_other _ _ _ _ (by intro e; have h9 := congrArg Addr.block e; exact n5 (by first | exact h9 | exact h9.symm))])
                exact DZ.one.r2.cells.1.2.2.2.2
              have gf : ∀ j, (((((uu.setCell ⟨w.heap.size, 0, none⟩ (.int .i64 q)).setCell ⟨w.heap.size, 1, none⟩ (.int .i64 s)).setCell ⟨w.heap.size, 2, none⟩ (.slice a l.length cap)).setCell ⟨w.heap.size, 3, none⟩ (.int .i64 fr)).setCell ⟨w.heap.size, 4, none⟩ (.int .i64 b)).frozen? ⟨w.heap.size + 1, j, none⟩ = false := fun j => by
                iterate 5 (rw [World.frozen?_setCell])
                exact DZ.one.r2.cells.2 j
              go_simp
              clear g0 g1 g2 g3 g4 gf
              refine hK _ _ ?_
              clear hK K
              refine wpAny_take (i := 5) (v := .int .i64 (t)) rfl (by kernel_rfl) (by kernel_rfl) (by kernel_rfl) (fun _ _ _ h => h) (Or.inl ⟨by rfl, fun W => by go_simp⟩) ?_
              refine wpAny_done (by kernel_rfl) ?_ _
              go_wp2
              obtain ⟨⟨f0, f1, f2, f3, f4⟩, ff⟩ := DZ.one.r1.cells
              obtain ⟨⟨g0, g1, g2, g3, g4⟩, gf⟩ := DZ.one.r2.cells
              refine bodyPost_ret (v := .tuple #[.agg #[.int .i64 q, .int .i64 s, .slice a l.length cap, .int .i64 fr, .int .i64 b], .agg #[.int .i64 q', .int .i64 s', .slice a' l'.length cap', .int .i64 fr', .int .i64 b'], .int .i64 (t)]) (by simp [results, Tryz.results27, go_sem, f0, f1, f2, f3, f4, g0, g1, g2, g3, g4]) rfl ?_
              obtain ⟨h1, h2, h3⟩ := DZ.post
              exact ⟨q, s, fr, b, a, b0, o, cap, l, q', s', fr', b', a', b0', o', cap', l', t, rfl, hll, hcap, h1, hl4, hcap4, h2, HT0.out, h3⟩
            exact AllReady.nil
          exact AllReady.nil
        refine AllReady.cons rfl (fun K hK => ?_) ?_
        · obtain ⟨⟨f0, f1, f2, f3, f4⟩, ff⟩ := DZ.one.r1.cells
          go_simp
          clear f0 f1 f2 f3 f4 ff
          refine hK _ _ ?_
          clear hK K
          refine wpAny_ready (rs := [1]) (by kernel_rfl) (by simp) ?_
          refine AllReady.cons rfl (fun K hK => ?_) ?_
          · have d0 : (((((uu.setCell ⟨w.heap.size, 0, none⟩ (.int .i64 q)).setCell ⟨w.heap.size, 1, none⟩ (.int .i64 s)).setCell ⟨w.heap.size, 2, none⟩ (.slice a l.length cap)).setCell ⟨w.heap.size, 3, none⟩ (.int .i64 fr)).setCell ⟨w.heap.size, 4, none⟩ (.int .i64 b)).cell? ⟨Y, 0, none⟩ = some (.int .i64 q') := by
              iterate 5 (rw [World.cell?_setCell_other _ _ _ _ (by intro e; have h9 := congrArg Addr.block e; exact n3 (by first | exact h9 | exact h9.symm))])
              exact DZ.pb.cells.1.1
            have d1 : (((((uu.setCell ⟨w.heap.size, 0, none⟩ (.int .i64 q)).setCell ⟨w.heap.size, 1, none⟩ (.int .i64 s)).setCell ⟨w.heap.size, 2, none⟩ (.slice a l.length cap)).setCell ⟨w.heap.size, 3, none⟩ (.int .i64 fr)).setCell ⟨w.heap.size, 4, none⟩ (.int .i64 b)).cell? ⟨Y, 1, none⟩ = some (.int .i64 s') := by
              iterate 5 (rw [World.cell?_setCell_other _ _ _ _ (by intro e; have h9 := congrArg Addr.block e; exact n3 (by first | exact h9 | exact h9.symm))])
              exact DZ.pb.cells.1.2.1
            have d2 : (((((uu.setCell ⟨w.heap.size, 0, none⟩ (.int .i64 q)).setCell ⟨w.heap.size, 1, none⟩ (.int .i64 s)).setCell ⟨w.heap.size, 2, none⟩ (.slice a l.length cap)).setCell ⟨w.heap.size, 3, none⟩ (.int .i64 fr)).setCell ⟨w.heap.size, 4, none⟩ (.int .i64 b)).cell? ⟨Y, 2, none⟩ = some (.slice a' l'.length cap') := by
              iterate 5 (rw [World.cell?_setCell_other _ _ _ _ (by intro e; have h9 := congrArg Addr.block e; exact n3 (by first | exact h9 | exact h9.symm))])
              exact DZ.pb.cells.1.2.2.1
            have d3 : (((((uu.setCell ⟨w.heap.size, 0, none⟩ (.int .i64 q)).setCell ⟨w.heap.size, 1, none⟩ (.int .i64 s)).setCell ⟨w.heap.size, 2, none⟩ (.slice a l.length cap)).setCell ⟨w.heap.size, 3, none⟩ (.int .i64 fr)).setCell ⟨w.heap.size, 4, none⟩ (.int .i64 b)).cell? ⟨Y, 3, none⟩ = some (.int .i64 fr') := by
              iterate 5 (rw [World.cell?_setCell_other _ _ _ _ (by intro e; have h9 := congrArg Addr.block e; exact n3 (by first | exact h9 | exact h9.symm))])
              exact DZ.pb.cells.1.2.2.2.1
            have d4 : (((((uu.setCell ⟨w.heap.size, 0, none⟩ (.int .i64 q)).setCell ⟨w.heap.size, 1, none⟩ (.int .i64 s)).setCell ⟨w.heap.size, 2, none⟩ (.slice a l.length cap)).setCell ⟨w.heap.size, 3, none⟩ (.int .i64 fr)).setCell ⟨w.heap.size, 4, none⟩ (.int .i64 b)).cell? ⟨Y, 4, none⟩ = some (.int .i64 b') := by
              iterate 5 (rw [World.cell?_setCell_other _ _ _ _ (by intro e; have h9 := congrArg Addr.block e; exact n3 (by first | exact h9 | exact h9.symm))])
              exact DZ.pb.cells.1.2.2.2.2
            go_simp
            clear d0 d1 d2 d3 d4
            refine hK _ _ ?_
            clear hK K
            refine wpAny_ready (rs := [4]) (by kernel_rfl) (by simp) ?_
            refine AllReady.cons rfl (fun K hK => ?_) ?_
            · have g0 : (((((uu.setCell ⟨w.heap.size, 0, none⟩ (.int .i64 q)).setCell ⟨w.heap.size, 1, none⟩ (.int .i64 s)).setCell ⟨w.heap.size, 2, none⟩ (.slice a l.length cap)).setCell ⟨w.heap.size, 3, none⟩ (.int .i64 fr)).setCell ⟨w.heap.size, 4, none⟩ (.int .i64 b)).cell? ⟨w.heap.size + 1, 0, none⟩ = some (.int .i64 0) := by
                iterate 5 (rw [World.cell?_setCell_other _ _ _ _ (by intro e; have h9 := congrArg Addr.block e; exact n5 (by first | exact h9 | exact h9.symm))])
                exact DZ.one.r2.cells.1.1
              have g1 : (((((uu.setCell ⟨w.heap.size, 0, none⟩ (.int .i64 q)).setCell ⟨w.heap.size, 1, none⟩ (.int .i64 s)).setCell ⟨w.heap.size, 2, none⟩ (.slice a l.length cap)).setCell ⟨w.heap.size, 3, none⟩ (.int .i64 fr)).setCell ⟨w.heap.size, 4, none⟩ (.int .i64 b)).cell? ⟨w.heap.size + 1, 1, none⟩ = some (.int .i64 0) := by
                iterate 5 (rw [World.cell?_setCell_other _ _ _ _ (by intro e; have h9 := congrArg Addr.block e; exact n5 (by first | exact h9 | exact h9.symm))])
                exact DZ.one.r2.cells.1.2.1
              have g2 : (((((uu.setCell ⟨w.heap.size, 0, none⟩ (.int .i64 q)).setCell ⟨w.heap.size, 1, none⟩ (.int .i64 s)).setCell ⟨w.heap.size, 2, none⟩ (.slice a l.length cap)).setCell ⟨w.heap.size, 3, none⟩ (.int .i64 fr)).setCell ⟨w.heap.size, 4, none⟩ (.int .i64 b)).cell? ⟨w.heap.size + 1, 2, none⟩ = some (.slice none 0 0) := by
                iterate 5 (rw [World.cell?_setCell_other _ _ _ _ (by intro e; have h9 := congrArg Addr.block e; exact n5 (by first | exact h9 | exact h9.symm))])
                exact DZ.one.r2.cells.1.2.2.1
              have g3 : (((((uu.setCell ⟨w.heap.size, 0, none⟩ (.int .i64 q)).setCell ⟨w.heap.size, 1, none⟩ (.int .i64 s)).setCell ⟨w.heap.size, 2, none⟩ (.slice a l.length cap)).setCell ⟨w.heap.size, 3, none⟩ (.int .i64 fr)).setCell ⟨w.heap.size, 4, none⟩ (.int .i64 b)).cell? ⟨w.heap.size + 1, 3, none⟩ = some (.int .i64 0) := by
                iterate 5 (rw [World.cell?_setCell_other _ _ _ _ (by intro e; have h9 := congrArg Addr.block e; exact n5 (by first | exact h9 | exact h9.symm))])
                exact DZ.one.r2.cells.1.2.2.2.1
              have g4 : (((((uu.setCell ⟨w.heap.size, 0, none⟩ (.int .i64 q)).setCell ⟨w.heap.size, 1, none⟩ (.int .i64 s)).setCell ⟨w.heap.size, 2, none⟩ (.slice a l.length cap)).setCell ⟨w.heap.size, 3, none⟩ (.int .i64 fr)).setCell ⟨w.heap.size, 4, none⟩ (.int .i64 b)).cell? ⟨w.heap.size + 1, 4, none⟩ = some (.int .i64 0) := by
                iterate 5 (rw [World.cell?_setCell_other _ _ _ _ (by intro e; have h9 := congrArg Addr.block e; exact n5 (by first | exact h9 | exact h9.symm))])
                exact DZ.one.r2.cells.1.2.2.2.2
              have gf : ∀ j, (((((uu.setCell ⟨w.heap.size, 0, none⟩ (.int .i64 q)).setCell ⟨w.heap.size, 1, none⟩ (.int .i64 s)).setCell ⟨w.heap.size, 2, none⟩ (.slice a l.length cap)).setCell ⟨w.heap.size, 3, none⟩ (.int .i64 fr)).setCell ⟨w.heap.size, 4, none⟩ (.int .i64 b)).frozen? ⟨w.heap.size + 1, j, none⟩ = false := fun j => by
                iterate 5 (rw [World.frozen?_setCell])
                exact DZ.one.r2.cells.2 j
              go_simp
              clear g0 g1 g2 g3 g4 gf
              refine hK _ _ ?_
              clear hK K
              refine wpAny_take (i := 5) (v := .int .i64 (t)) rfl (by kernel_rfl) (by kernel_rfl) (by kernel_rfl) (fun _ _ _ h => h) (Or.inl ⟨by rfl, fun W => by go_simp⟩) ?_
              refine wpAny_done (by kernel_rfl) ?_ _
              go_wp2
              obtain ⟨⟨f0, f1, f2, f3, f4⟩, ff⟩ := DZ.one.r1.cells
              obtain ⟨⟨g0, g1, g2, g3, g4⟩, gf⟩ := DZ.one.r2.cells
              refine bodyPost_ret (v := .tuple #[.agg #[.int .i64 q, .int .i64 s, .slice a l.length cap, .int .i64 fr, .int .i64 b], .agg #[.int .i64 q', .int .i64 s', .slice a' l'.length cap', .int .i64 fr', .int .i64 b'], .int .i64 (t)]) (by simp [results, Tryz.results27, go_sem, f0, f1, f2, f3, f4, g0, g1, g2, g3, g4]) rfl ?_
              obtain ⟨h1, h2, h3⟩ := DZ.post
              exact ⟨q, s, fr, b, a, b0, o, cap, l, q', s', fr', b', a', b0', o', cap', l', t, rfl, hll, hcap, h1, hl4, hcap4, h2, HT0.out, h3⟩
            exact AllReady.nil
          exact AllReady.nil
        exact AllReady.nil
      refine AllReady.cons rfl (fun K hK => ?_) ?_
      · obtain ⟨⟨d0, d1, d2, d3, d4⟩, df⟩ := DZ.pb.cells
        go_simp
        clear d0 d1 d2 d3 d4 df
        refine hK _ _ ?_
        clear hK K
        refine wpAny_ready (rs := [0]) (by kernel_rfl) (by simp) ?_
        refine AllReady.cons rfl (fun K hK => ?_) ?_
        · obtain ⟨⟨e0, e1, e2, e3, e4⟩, ef⟩ := DZ.one.pa.cells
          go_simp
          clear e0 e1 e2 e3 e4 ef
          refine hK _ _ ?_
          clear hK K
          refine wpAny_ready (rs := [3]) (by kernel_rfl) (by simp) ?_
          refine AllReady.cons rfl (fun K hK => ?_) ?_
          · obtain ⟨⟨f0, f1, f2, f3, f4⟩, ff⟩ := DZ.one.r1.cells
            go_simp
            clear f0 f1 f2 f3 f4 ff
            refine hK _ _ ?_
            clear hK K
            refine wpAny_ready (rs := [4]) (by kernel_rfl) (by simp) ?_
            refine AllReady.cons rfl (fun K hK => ?_) ?_
            · have g0 : (((((uu.setCell ⟨w.heap.size, 0, none⟩ (.int .i64 q)).setCell ⟨w.heap.size, 1, none⟩ (.int .i64 s)).setCell ⟨w.heap.size, 2, none⟩ (.slice a l.length cap)).setCell ⟨w.heap.size, 3, none⟩ (.int .i64 fr)).setCell ⟨w.heap.size, 4, none⟩ (.int .i64 b)).cell? ⟨w.heap.size + 1, 0, none⟩ = some (.int .i64 0) := by
                iterate 5 (rw [World.cell?_setCell_other _ _ _ _ (by intro e; have h9 := congrArg Addr.block e; exact n5 (by first | exact h9 | exact h9.symm))])
                exact DZ.one.r2.cells.1.1
              have g1 : (((((uu.setCell ⟨w.heap.size, 0, none⟩ (.int .i64 q)).setCell ⟨w.heap.size, 1, none⟩ (.int .i64 s)).setCell ⟨w.heap.size, 2, none⟩ (.slice a l.length cap)).setCell ⟨w.heap.size, 3, none⟩ (.int .i64 fr)).setCell ⟨w.heap.size, 4, none⟩ (.int .i64 b)).cell? ⟨w.heap.size + 1, 1, none⟩ = some (.int .i64 0) := by
                iterate 5 (rw [World.cell?_setCell_other _ _ _ _ (by intro e; have h9 := congrArg Addr.block e; exact n5 (by first | exact h9 | exact h9.symm))])
                exact DZ.one.r2.cells.1.2.1
              have g2 : (((((uu.setCell ⟨w.heap.size, 0, none⟩ (.int .i64 q)).setCell ⟨w.heap.size, 1, none⟩ (.int .i64 s)).setCell ⟨w.heap.size, 2, none⟩ (.slice a l.length cap)).setCell ⟨w.heap.size, 3, none⟩ (.int .i64 fr)).setCell ⟨w.heap.size, 4, none⟩ (.int .i64 b)).cell? ⟨w.heap.size + 1, 2, none⟩ = some (.slice none 0 0) := by
                iterate 5 (rw [World.cell?_setCell_other _ _ _ _ (by intro e; have h9 := congrArg Addr.block e; exact n5 (by first | exact h9 | exact h9.symm))])
                exact DZ.one.r2.cells.1.2.2.1
              have g3 : (((((uu.setCell ⟨w.heap.size, 0, none⟩ (.int .i64 q)).setCell ⟨w.heap.size, 1, none⟩ (.int .i64 s)).setCell ⟨w.heap.size, 2, none⟩ (.slice a l.length cap)).setCell ⟨w.heap.size, 3, none⟩ (.int .i64 fr)).setCell ⟨w.heap.size, 4, none⟩ (.int .i64 b)).cell? ⟨w.heap.size + 1, 3, none⟩ = some (.int .i64 0) := by
                iterate 5 (rw [World.cell?_setCell_other _ _ _ _ (by intro e; have h9 := congrArg Addr.block e; exact n5 (by first | exact h9 | exact h9.symm))])
                exact DZ.one.r2.cells.1.2.2.2.1
              have g4 : (((((uu.setCell ⟨w.heap.size, 0, none⟩ (.int .i64 q)).setCell ⟨w.heap.size, 1, none⟩ (.int .i64 s)).setCell ⟨w.heap.size, 2, none⟩ (.slice a l.length cap)).setCell ⟨w.heap.size, 3, none⟩ (.int .i64 fr)).setCell ⟨w.heap.size, 4, none⟩ (.int .i64 b)).cell? ⟨w.heap.size + 1, 4, none⟩ = some (.int .i64 0) := by
                iterate 5 (rw [World.cell?_setCell_other _ _ _ _ (by intro e; have h9 := congrArg Addr.block e; exact n5 (by first | exact h9 | exact h9.symm))])
                exact DZ.one.r2.cells.1.2.2.2.2
              have gf : ∀ j, (((((uu.setCell ⟨w.heap.size, 0, none⟩ (.int .i64 q)).setCell ⟨w.heap.size, 1, none⟩ (.int .i64 s)).setCell ⟨w.heap.size, 2, none⟩ (.slice a l.length cap)).setCell ⟨w.heap.size, 3, none⟩ (.int .i64 fr)).setCell ⟨w.heap.size, 4, none⟩ (.int .i64 b)).frozen? ⟨w.heap.size + 1, j, none⟩ = false := fun j => by
                iterate 5 (rw [World.frozen?_setCell])
                exact DZ.one.r2.cells.2 j
              go_simp
              clear g0 g1 g2 g3 g4 gf
              refine hK _ _ ?_
              clear hK K
              refine wpAny_take (i := 5) (v := .int .i64 (t)) rfl (by kernel_rfl) (by kernel_rfl) (by kernel_rfl) (fun _ _ _ h => h) (Or.inl ⟨by rfl, fun W => by go_simp⟩) ?_
              refine wpAny_done (by kernel_rfl) ?_ _
              go_wp2
              obtain ⟨⟨f0, f1, f2, f3, f4⟩, ff⟩ := DZ.one.r1.cells
              obtain ⟨⟨g0, g1, g2, g3, g4⟩, gf⟩ := DZ.one.r2.cells
              refine bodyPost_ret (v := .tuple #[.agg #[.int .i64 q, .int .i64 s, .slice a l.length cap, .int .i64 fr, .int .i64 b], .agg #[.int .i64 q', .int .i64 s', .slice a' l'.length cap', .int .i64 fr', .int .i64 b'], .int .i64 (t)]) (by simp [results, Tryz.results27, go_sem, f0, f1, f2, f3, f4, g0, g1, g2, g3, g4]) rfl ?_
              obtain ⟨h1, h2, h3⟩ := DZ.post
              exact ⟨q, s, fr, b, a, b0, o, cap, l, q', s', fr', b', a', b0', o', cap', l', t, rfl, hll, hcap, h1, hl4, hcap4, h2, HT0.out, h3⟩
            exact AllReady.nil
          exact AllReady.nil
        exact AllReady.nil
      exact AllReady.nil
end Go.Proofs.YtijcdikekgmfoaaGreatDoor

namespace Go.Proofs.YtijcdikekgmfoaaGreatDoor
open Go.RowKit

section
variable {q s fr b : Int} {l : List Stp} {k : Nat}

/-- Ticks from a place on that keep to the windows behind the first, and to the stays. -/
def Tail (q s fr b : Int) (l : List Stp) (k : Nat) (z : Nat → Int) : Prop :=
  (∀ j, 1 ≤ j → j ≤ l.length - k → lowB fr l (k + j) ≤ z j ∧ z j ≤ highB b l (k + j)) ∧ ∀ j, j < l.length - k → q ≤ z (j + 1) - z j ∧ z (j + 1) - z j ≤ mostB s l (k + j)
/-- Between two of them: the second one shifted, held within both. -/
def mixZ (x y : Nat → Int) (d : Int) (j : Nat) : Int := mnB (mxB (x j) (y j)) (mxB (mnB (x j) (y j)) (y j + d))
theorem mix_tail {x y : Nat → Int} (d : Int) (hx : Tail q s fr b l k x) (hy : Tail q s fr b l k y) : Tail q s fr b l k (mixZ x y d) := by
  refine ⟨fun j h1 h2 => ?_, fun j h => ?_⟩
  · have a := hx.1 j h1 h2
    have c := hy.1 j h1 h2
    unfold mixZ mxB mnB
    omega
  · have a := hx.2 j h
    have c := hy.2 j h
    unfold mixZ mxB mnB
    omega
theorem mix_at (x y : Nat → Int) {d : Int} (j : Nat) (h1 : x j ≤ y j + d) (h2 : d ≤ 0) : mixZ x y d j = y j + d := by
  unfold mixZ mxB mnB
  omega
theorem mix_up (x y : Nat → Int) {d : Int} (j : Nat) (h1 : y j + d ≤ x j) (h2 : 0 ≤ d) : mixZ x y d j = y j + d := by
  unfold mixZ mxB mnB
  omega
theorem mix_ge (x y : Nat → Int) {d v : Int} (j : Nat) (h1 : v ≤ mxB (x j) (y j)) (h2 : v ≤ y j + d) : v ≤ mixZ x y d j := by
  unfold mixZ mxB mnB at *
  omega
/-- The later of the two. -/
def topZ (x y : Nat → Int) (j : Nat) : Int := mxB (x j) (y j)
theorem top_tail {x y : Nat → Int} (hx : Tail q s fr b l k x) (hy : Tail q s fr b l k y) : Tail q s fr b l k (topZ x y) := by
  refine ⟨fun j h1 h2 => ?_, fun j h => ?_⟩
  · have a := hx.1 j h1 h2
    have c := hy.1 j h1 h2
    unfold topZ mxB
    omega
  · have a := hx.2 j h
    have c := hy.2 j h
    unfold topZ mxB
    omega

/-- Somebody who entered the step at e is there at t, and can go on. -/
def Here (q s fr b : Int) (l : List Stp) (k : Nat) (x y e t : Int) : Prop := (x ≤ e ∧ e ≤ y ∧ e ≤ t) ∧ ∃ z, z 0 = e ∧ t + 1 ≤ z 1 ∧ Tail q s fr b l k z

theorem here_between {x y e1 e2 e3 t1 t2 t3 : Int} (h1 : Here q s fr b l k x y e1 t1) (h3 : Here q s fr b l k x y e3 t3) (_ht : t2 ≤ t3) (he : e1 ≤ e2 ∧ e2 ≤ e3) (h2 : e2 ≤ t2) (hs : e3 - e2 ≤ t3 - t2) : Here q s fr b l k x y e2 t2 := by
  obtain ⟨⟨a1, a2, a3⟩, z1, z10, z11, hz1⟩ := h1
  obtain ⟨⟨c1, c2, c3⟩, z3, z30, z31, hz3⟩ := h3
  refine ⟨⟨by omega, by omega, h2⟩, mixZ z1 z3 (e2 - e3), ?_, ?_, mix_tail _ hz1 hz3⟩
  · rw [mix_at _ _ 0 (by omega) (by omega)]; omega
  · refine mix_ge _ _ 1 ?_ (by omega)
    have := mxB_le (z1 1) (z3 1)
    omega
/-- All who may have entered: the least and the greatest of them. -/
structure Ends (P : Int → Prop) (u v : Int) : Prop where
  lo : P u
  hi : P v
  all : ∀ e, P e → u ≤ e ∧ e ≤ v

section
variable {x y t1 t2 t3 L1 H1 L2 H2 L3 H3 : Int}
theorem here_some {e1 e3 : Int} (h1 : Here q s fr b l k x y e1 t1) (h3 : Here q s fr b l k x y e3 t3) (h12 : t1 ≤ t2) (h23 : t2 ≤ t3) : ∃ e, Here q s fr b l k x y e t2 := by
  by_cases c : e1 ≤ e3
  · have m := mxB_le e1 (e3 - (t3 - t2))
    have a := h1.1
    have d := h3.1
    exact ⟨mxB e1 (e3 - (t3 - t2)), here_between h1 h3 h23 (by omega) (by omega) (by omega)⟩
  · obtain ⟨⟨c1, c2, c3⟩, z3, z30, z31, hz3⟩ := h3
    have a := h1.1
    exact ⟨e3, ⟨⟨c1, c2, by omega⟩, z3, z30, by omega, hz3⟩⟩
theorem ends_mono (h1 : Ends (fun e => Here q s fr b l k x y e t1) L1 H1) (h2 : Ends (fun e => Here q s fr b l k x y e t2) L2 H2) (h12 : t1 ≤ t2) : L1 ≤ L2 ∧ H1 ≤ H2 ∧ L2 - L1 ≤ t2 - t1 ∧ H2 - H1 ≤ t2 - t1 := by
  have l1 := h1.lo
  have u1 := h1.hi
  have l2 := h2.lo
  have u2 := h2.hi
  refine ⟨?_, ?_, ?_, ?_⟩
  · by_cases c : L2 ≤ t1
    · obtain ⟨⟨c1, c2, c3⟩, z, z0, z1, hz⟩ := l2
      exact (h1.all L2 ⟨⟨c1, c2, c⟩, z, z0, by omega, hz⟩).1
    · have := l1.1.2.2
      omega
  · by_cases c : H1 ≤ L2
    · have := (h2.all H2 u2).1
      omega
    · obtain ⟨⟨c1, c2, c3⟩, z, z0, z1, hz⟩ := u1
      obtain ⟨⟨d1, d2, d3⟩, v, v0, v1, hv⟩ := l2
      refine (h2.all H1 ⟨⟨c1, c2, by omega⟩, topZ z v, ?_, ?_, top_tail hz hv⟩).2
      · have := mxB_le (z 0) (v 0)
        unfold topZ
        omega
      · have := mxB_le (z 1) (v 1)
        unfold topZ
        omega
  · by_cases c : L2 ≤ L1 + (t2 - t1)
    · omega
    · obtain ⟨⟨c1, c2, c3⟩, z, z0, z1, hz⟩ := l1
      obtain ⟨⟨d1, d2, d3⟩, v, v0, v1, hv⟩ := l2
      have := (h2.all (L1 + (t2 - t1)) ⟨⟨by omega, by omega, by omega⟩, mixZ v z (t2 - t1), ?_, ?_, mix_tail _ hv hz⟩).1
      · omega
      · rw [mix_up _ _ 0 (by omega) (by omega)]; omega
      · refine mix_ge _ _ 1 ?_ (by omega)
        have := mxB_le (v 1) (z 1)
        omega
  · by_cases c : H2 - (t2 - t1) ≤ H1
    · omega
    · obtain ⟨⟨c1, c2, c3⟩, z, z0, z1, hz⟩ := u1
      obtain ⟨⟨d1, d2, d3⟩, v, v0, v1, hv⟩ := u2
      have := (h1.all (H2 - (t2 - t1)) ⟨⟨by omega, by omega, by omega⟩, mixZ z v (t1 - t2), ?_, ?_, mix_tail _ hz hv⟩).2
      · omega
      · rw [mix_at _ _ 0 (by omega) (by omega)]; omega
      · refine mix_ge _ _ 1 ?_ (by omega)
        have := mxB_le (z 1) (v 1)
        omega
end
theorem mix_least (x y : Nat → Int) (d v : Int) (j : Nat) (h1 : v ≤ x j) (h2 : v ≤ y j) : v ≤ mixZ x y d j := by
  unfold mixZ mxB mnB
  omega
theorem here_same {x y e1 e2 e3 t : Int} (h1 : Here q s fr b l k x y e1 t) (h3 : Here q s fr b l k x y e3 t) (he : e1 ≤ e2 ∧ e2 ≤ e3) : Here q s fr b l k x y e2 t := by
  obtain ⟨⟨a1, a2, a3⟩, z1, z10, z11, hz1⟩ := h1
  obtain ⟨⟨c1, c2, c3⟩, z3, z30, z31, hz3⟩ := h3
  refine ⟨⟨by omega, by omega, by omega⟩, mixZ z1 z3 (e2 - e3), ?_, mix_least _ _ _ _ 1 z11 z31, mix_tail _ hz1 hz3⟩
  rw [mix_at _ _ 0 (by omega) (by omega)]; omega

/-- A flight of what is left, told of the path. -/
theorem left_here (hk : k < l.length) {x y nw : Int} (z : Nat → Int) : Keeps q s (leftFr fr l k nw) b (leftL l k x (mnB y nw) nw) z 0 (l.length - k) ↔ (x ≤ z 0 ∧ z 0 ≤ y ∧ z 0 ≤ nw) ∧ nw + 1 ≤ z 1 ∧ Tail q s fr b l k z := by
  rw [left_keeps hk]
  have m := mnB_le y nw
  constructor
  · rintro ⟨h0, h1, h2, h3⟩
    exact ⟨by omega, h1, h2, h3⟩
  · rintro ⟨h0, h1, h2, h3⟩
    exact ⟨by omega, h1, h2, h3⟩
variable {st nw : Int}
/-- Whether FlyRest leaves something. -/
theorem rest_here {en : Int} : (restA q s fr b l st en nw).ok = true ↔ pathB q s fr b l = true ∧ (0 ≤ st ∧ st.toNat < l.length) ∧ (0 ≤ nw ∧ nw ≤ 10000) ∧ 0 ≤ en ∧ Here q s fr b l st.toNat (l.getD st.toNat .zero).fr (l.getD st.toNat .zero).by_ en nw := by
  have m1 := mxB_le (l.getD st.toNat .zero).fr en
  have m2 := mnB_le (l.getD st.toNat .zero).by_ en
  constructor
  · intro h
    obtain ⟨hp, hk, hnw, hen, he, hsp⟩ := restA_is h
    obtain ⟨_, _, w1, w2⟩ := stepwin hp hk.2
    obtain ⟨z, hz⟩ := (left_fly hp hk.2 (by omega) (by omega) hnw.1).1 hsp
    obtain ⟨h0, h1, h2, h3⟩ := (left_keeps hk.2 _ _ nw z).1 hz
    exact ⟨hp, hk, hnw, hen.1, ⟨by omega, by omega, by omega⟩, z, by omega, h1, h2, h3⟩
  · rintro ⟨hp, hk, hnw, hen, ⟨a1, a2, a3⟩, z, z0, z1, hz⟩
    obtain ⟨_, _, w1, w2⟩ := stepwin hp hk.2
    have hsr : spanB q s (leftFr fr l st.toNat nw) b (leftL l st.toNat (mxB (l.getD st.toNat .zero).fr en) (mnB (l.getD st.toNat .zero).by_ en) nw) = true :=
      (left_fly hp hk.2 (by omega) (by omega) hnw.1).2 ⟨z, (left_keeps hk.2 _ _ nw z).2 ⟨by omega, z1, hz.1, hz.2⟩⟩
    unfold restA
    rw [if_pos (by simp only [inStepB, Bool.and_eq_true, inB_iff]; exact ⟨⟨⟨hp, by omega⟩, by omega⟩, by omega⟩)]
    unfold canA
    rw [if_pos hsr]
/-- The entries of all who may be there. -/
theorem seen_here (h : (seenA q s fr b l st nw).ok = true) : Ends (fun e => Here q s fr b l st.toNat (spanOf q s fr b l st.toNat).1 (spanOf q s fr b l st.toNat).2 e nw) (firstOf (seenA q s fr b l st nw)).1 (firstOf (seenA q s fr b l st nw)).2 := by
  obtain ⟨hfp, hk, hnw, he, hsp⟩ := seenA_is h
  obtain ⟨hp, hpf, _⟩ := flyL_at hfp
  rw [he]
  unfold firstOf
  dsimp only
  have hsb : spanB q s fr b l = true := by unfold flyB at hfp; rw [Bool.and_eq_true] at hfp; exact hfp.2
  have x0 : 0 ≤ (spanOf q s fr b l st.toNat).1 := span_lo hp hsb (by omega)
  obtain ⟨X, hX⟩ : ∃ X, (spanOf q s fr b l st.toNat).1 = X := ⟨_, rfl⟩
  obtain ⟨Y, hY⟩ : ∃ Y, (spanOf q s fr b l st.toNat).2 = Y := ⟨_, rfl⟩
  rw [hX, hY] at hsp
  rw [hX] at x0
  rw [hX, hY]
  obtain ⟨k, hkk⟩ : ∃ k, st.toNat = k := ⟨_, rfl⟩
  rw [hkk] at hk hsp ⊢
  have m2 := mnB_le Y nw
  have hpl := left_path hp hk.2 (x := X) (y := mnB Y nw) (nw := nw) (by omega) (by omega) hnw.1 hsp
  have hfl : flyB q s (leftFr fr l k nw) b (leftL l k X (mnB Y nw) nw) = true := by unfold flyB; rw [hpl, hsp]; rfl
  have hlen := leftL_length l k X (mnB Y nw) nw
  obtain ⟨p1, p2, _⟩ := flyL_at hfl
  have hqm' : ∀ i, q ≤ mostB s (leftL l k X (mnB Y nw) nw) i := fun i => most_quick p1 i
  have key : ∀ e, inP e (spanOf q s (leftFr fr l k nw) b (leftL l k X (mnB Y nw) nw) 0) ↔ Here q s fr b l k X Y e nw := fun e => by
    rw [show spanOf q s (leftFr fr l k nw) b (leftL l k X (mnB Y nw) nw) 0 = spanAt q s (leftFr fr l k nw) b (leftL l k X (mnB Y nw) nw) (leftL l k X (mnB Y nw) nw).length 0 from rfl, span_iff hqm' p2 (Nat.zero_le _), hlen]
    constructor
    · rintro ⟨z, hz, rfl⟩
      obtain ⟨a, c, d⟩ := (left_here hk.2 z).1 hz
      exact ⟨a, z, rfl, c, d⟩
    · rintro ⟨a, z, rfl, c, d⟩
      exact ⟨z, (left_here hk.2 z).2 ⟨a, c, d⟩, rfl⟩
  have n1 : (spanOf q s (leftFr fr l k nw) b (leftL l k X (mnB Y nw) nw) 0).1 ≤ (spanOf q s (leftFr fr l k nw) b (leftL l k X (mnB Y nw) nw) 0).2 := span_some hqm' p2 (k := 0)
  exact ⟨(key _).1 ⟨Int.le_refl _, n1⟩, (key _).1 ⟨n1, Int.le_refl _⟩, fun e he => (key e).2 he⟩
theorem seen_if (hf : flyB q s fr b l = true) (hk : 0 ≤ st ∧ st.toNat < l.length) (hn : 0 ≤ nw ∧ nw ≤ 10000) {e : Int} (h : Here q s fr b l st.toNat (spanOf q s fr b l st.toNat).1 (spanOf q s fr b l st.toNat).2 e nw) : (seenA q s fr b l st nw).ok = true := by
  obtain ⟨hp, hpf, _⟩ := flyL_at hf
  have hsb : spanB q s fr b l = true := by unfold flyB at hf; rw [Bool.and_eq_true] at hf; exact hf.2
  have x0 : 0 ≤ (spanOf q s fr b l st.toNat).1 := span_lo hp hsb (by omega)
  have m2 := mnB_le (spanOf q s fr b l st.toNat).2 nw
  obtain ⟨a, z, rfl, c, d⟩ := h
  unfold seenA
  rw [if_pos (by simp only [inStepB, Bool.and_eq_true, inB_iff]; exact ⟨⟨⟨hp, by omega⟩, hn⟩, hsb⟩)]
  unfold canA
  rw [if_pos ((left_fly hp hk.2 x0 (by omega) hn.1).2 ⟨z, (left_here hk.2 z).2 ⟨a, c, d⟩⟩)]
end

section
variable {q s fr b q' s' fr' b' : Int} {l l' : List Stp} {st : Int}
theorem may_is {nw : Int} : mayB q s fr b l q' s' fr' b' l' st nw = true ↔ st < (sharedN q s l q' s' l' : Int) ∧ (seenA q s fr b l st nw).ok = true ∧ (restA q' s' fr' b' l' st (firstOf (seenA q s fr b l st nw)).1 nw).ok = true ∧ (restA q' s' fr' b' l' st (firstOf (seenA q s fr b l st nw)).2 nw).ok = true := by
  unfold mayB
  simp only [Bool.and_eq_true, decide_eq_true_eq]
  exact ⟨fun ⟨⟨a, b⟩, c, d⟩ => ⟨a, b, c, d⟩, fun ⟨a, b, c, d⟩ => ⟨⟨a, b⟩, c, d⟩⟩
/-- The ticks at which all can turn have no gap. -/
theorem may_between {t1 t2 t3 : Int} (h1 : mayB q s fr b l q' s' fr' b' l' st t1 = true) (h3 : mayB q s fr b l q' s' fr' b' l' st t3 = true) (h12 : t1 ≤ t2) (h23 : t2 ≤ t3) : mayB q s fr b l q' s' fr' b' l' st t2 = true := by
  obtain ⟨hs1, ho1, ra1, rb1⟩ := may_is.1 h1
  obtain ⟨_, ho3, ra3, rb3⟩ := may_is.1 h3
  have e1 := seen_here ho1
  have e3 := seen_here ho3
  obtain ⟨hfp, hk, hn1, _, _⟩ := seenA_is ho1
  obtain ⟨_, _, hn3, _, _⟩ := seenA_is ho3
  obtain ⟨e, he⟩ := here_some e1.lo e3.lo h12 h23
  have ho2 := seen_if hfp hk (nw := t2) (by omega) he
  have e2 := seen_here ho2
  obtain ⟨m1, m2, m3, m4⟩ := ends_mono e1 e2 h12
  obtain ⟨k1, k2, k3, k4⟩ := ends_mono e2 e3 h23
  obtain ⟨hp', hk', _, g0, A1⟩ := rest_here.1 ra1
  obtain ⟨_, _, _, _, B1⟩ := rest_here.1 rb1
  obtain ⟨_, _, _, _, A3⟩ := rest_here.1 ra3
  obtain ⟨_, _, _, _, B3⟩ := rest_here.1 rb3
  have c2 := e2.lo.1
  have d2 := e2.hi.1
  have f1 := (e1.all _ e1.hi).1
  refine may_is.2 ⟨hs1, ho2, rest_here.2 ⟨hp', hk', by omega, by omega, ?_⟩, rest_here.2 ⟨hp', hk', by omega, by omega, ?_⟩⟩
  · exact here_between A1 A3 h23 ⟨m1, k1⟩ c2.2.2 k3
  · exact here_between B1 B3 h23 ⟨m2, k2⟩ d2.2.2 k4
/-- All who may be there can, if the first and the last can. -/
theorem may_each {t e : Int} (h : mayB q s fr b l q' s' fr' b' l' st t = true) (he : inP e (firstOf (seenA q s fr b l st t))) : (restA q' s' fr' b' l' st e t).ok = true := by
  obtain ⟨_, ho, ra, rb⟩ := may_is.1 h
  obtain ⟨hp', hk', hn, g0, A⟩ := rest_here.1 ra
  obtain ⟨_, _, _, g1, B⟩ := rest_here.1 rb
  have h1 := he.1
  exact rest_here.2 ⟨hp', hk', hn, by omega, here_same A B he⟩
end
end Go.Proofs.YtijcdikekgmfoaaGreatDoor

namespace Go.Proofs.YtijcdikekgmfoaaGreatDoor
open Go.RowKit

/-- All who may be in the first k boxes now can turn. -/
def turnTo (tb : List Bx) (f : Nat → Bool) (t : Int) (k : Nat) : Bool := (List.range k).all fun i => match tb[i]? with | some s => !inB t s.in_ s.out || f i | none => true
/-- Somebody may be under way now, and all who may be can turn. -/
def allT (tb : List Bx) (f : Nat → Bool) (t : Int) : Bool := turnTo tb f t tb.length && tb.any fun s => inB t s.in_ s.out
theorem turnTo_succ {tb : List Bx} {f : Nat → Bool} {t : Int} {k : Nat} {s : Bx} (h : tb[k]? = some s) : turnTo tb f t (k + 1) = (turnTo tb f t k && (!inB t s.in_ s.out || f k)) := by
  simp [turnTo, List.range_succ, List.all_append, h]
theorem turnTo_not {tb : List Bx} {f : Nat → Bool} {t : Int} {k : Nat} {s : Bx} (h : tb[k]? = some s) (hi : inB t s.in_ s.out = true) (hf : f k = false) : turnTo tb f t tb.length = false := by
  rw [turnTo, List.all_eq_false]
  exact ⟨k, List.mem_range.2 (List.getElem?_eq_some_iff.1 h).1, by simp [h, hi, hf]⟩
/-- r is the last of the ticks from fr on that are all so; -1, if fr itself is not. -/
def TurnIs (g : Int → Bool) (fr r : Int) : Prop := ∃ k : Nat, (∀ j : Nat, j < k → g (fr + j) = true) ∧ g (fr + k) = false ∧ r = if k = 0 then -1 else fr + k - 1
theorem TurnIs.one {g : Int → Bool} {fr r r' : Int} (h : TurnIs g fr r) (h' : TurnIs g fr r') : r = r' := by
  obtain ⟨k, h1, h2, rfl⟩ := h
  obtain ⟨k', h3, h4, rfl⟩ := h'
  have : k = k' := by
    rcases Nat.lt_trichotomy k k' with h | h | h
    · rw [h3 k h] at h2; cases h2
    · exact h
    · rw [h1 k' h] at h4; cases h4
  rw [this]
section
variable {q s fr b q' s' fr' b' : Int} {l l' : List Stp}
/-- What FlyTurnBy asks of a tick. -/
abbrev turnG (q s fr b : Int) (l : List Stp) (q' s' fr' b' : Int) (l' : List Stp) (t : Int) : Bool := allT (tubeL q s fr b l) (fun k => mayB q s fr b l q' s' fr' b' l' (k : Int) t) t
theorem tube_box {k : Nat} {x : Bx} (h : (tubeL q s fr b l)[k]? = some x) : flyB q s fr b l = true ∧ k < l.length ∧ x.in_ = (spanAt q s fr b l l.length k).1 ∧ x.out = (spanAt q s fr b l l.length (k + 1)).2 - 1 := by
  unfold tubeL at h
  split at h
  · rename_i hf
    unfold tubeTo at h
    rw [List.getElem?_map] at h
    cases hr : (List.range l.length)[k]? with
    | none => rw [hr] at h; cases h
    | some i =>
      obtain ⟨hk, hi⟩ := List.getElem?_eq_some_iff.1 hr
      rw [List.getElem_range] at hi
      rw [hr] at h
      simp only [Option.map_some, Option.some.injEq] at h
      subst hi
      rw [List.length_range] at hk
      have gd : ∀ i, i ≤ l.length → (flyL q s fr b l).getD i (0, 0) = spanAt q s fr b l l.length i := fun i hi => by
        rw [List.getD_eq_getElem?_getD, map_at hf hi]; rfl
      subst h
      unfold tubeAt
      exact ⟨hf, hk, by rw [← gd k (by omega)], by rw [← gd (k + 1) (by omega)]⟩
  · simp at h
/-- Nobody is under way ahead of the first tick, nor behind the last one that there is. -/
theorem turnG_range {t : Int} (h : turnG q s fr b l q' s' fr' b' l' t = true) : 0 ≤ t ∧ t ≤ 9999 ∧ pathB q' s' fr' b' l' = true := by
  unfold turnG allT at h
  simp only [Bool.and_eq_true, List.any_eq_true] at h
  obtain ⟨h1, x, hx, hin⟩ := h
  obtain ⟨k, hk⟩ := List.mem_iff_getElem?.1 hx
  obtain ⟨hf, hkl, e1, e2⟩ := tube_box hk
  have w1 := fly_win hf (k := k) (by omega)
  have w2 := fly_win hf (k := k + 1) (by omega)
  obtain ⟨hp, _, _⟩ := flyL_at hf
  have b1 := bounds_ok hp k
  have b2 := bounds_ok hp (k + 1)
  have hi := (inB_iff _ _ _).1 hin
  rw [e1, e2] at hi
  refine ⟨by omega, by omega, ?_⟩
  rw [turnTo, List.all_eq_true] at h1
  have hm := h1 k (List.mem_range.2 (List.getElem?_eq_some_iff.1 hk).1)
  simp only [hk, hin, Bool.not_true, Bool.false_or] at hm
  obtain ⟨_, _, hr, _⟩ := may_is.1 hm
  exact (rest_here.1 hr).1
end
end Go.Proofs.YtijcdikekgmfoaaGreatDoor
