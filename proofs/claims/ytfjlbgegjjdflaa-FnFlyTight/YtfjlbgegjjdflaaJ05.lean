/- Joined texts: Draw2, SpanLeaf, LawImpl, NextImpl, NextSpec2, ILeaf, Impl, ImplPath, Follow, Follow2. -/
import Derived.WalkKit
import Derived.WalkSpells
import Derived.Deep.RegionHeld3
import Derived.Maps.AppendAt
import Derived.RangeFuncNested
import Derived.RangeFuncBound
import Derived.RangeFuncCalls
import Derived.RangeFuncLeaves
import Derived.Shelf.Abstract
import Derived.Shelf.RegionOpen
import Derived.OwnWalkIn
import Derived.TacticsInMore
import Derived.LoopNIn
import Derived.LoopIn
import Derived.Stop.RegionWithIn
import Derived.Test.YtfjlbgegjjdflaaRows
import Derived.Test.YtfjlbgegjjdflaaJ04
import Derived.Test.YtfjlbgegjjdflaaJ01
import Derived.Test.YtfjlbgegjjdflaaJ02
import Derived.Test.YtfjlbgegjjdflaaJ03
namespace Go.Proofs.Ytfjlbgegjjdflaa
open Go.RowKit

theorem spoil_draw (B : Nat) (R : Rdr) (p : Nat) (q s fr b : Int) (a : Option Addr) (b0 o cap : Nat) (l : List Stp) (w : World) (h : RdAt w B R p) (hp : p ≤ 999900000) (hl0 : 1 ≤ l.length) (hl : l.length ≤ 40) (hs : StepsAt w a b0 o l) :
    Calls Try.prog 56 #[.pointer (some ⟨B, 0, none⟩), .agg #[.int .i64 q, .int .i64 s, .slice a l.length cap, .int .i64 fr, .int .i64 b]] w (SpoilPost w B R p) := by
  obtain ⟨h1, h2⟩ := pickV_range (n := 12) h.rng (show p + 1 ≤ 1000000000 by omega) (by omega)
  have h3 : pickV R (p + 1) 12 = 0 ∨ pickV R (p + 1) 12 = 1 ∨ pickV R (p + 1) 12 = 2 ∨ pickV R (p + 1) 12 = 3 ∨ pickV R (p + 1) 12 = 4 ∨ pickV R (p + 1) 12 = 5 ∨ pickV R (p + 1) 12 = 6 ∨ pickV R (p + 1) 12 = 7 ∨ pickV R (p + 1) 12 = 8 ∨ pickV R (p + 1) 12 = 9 ∨ pickV R (p + 1) 12 = 10 ∨ pickV R (p + 1) 12 = 11 := by omega
  rcases h3 with e | e | e | e | e | e | e | e | e | e | e | e
  · exact spoil_0 B R p q s fr b a b0 o cap l w h hp hl0 hl hs e
  · exact spoil_1 B R p q s fr b a b0 o cap l w h hp hl0 hl hs e
  · exact spoil_2 B R p q s fr b a b0 o cap l w h hp hl0 hl hs e
  · exact spoil_3 B R p q s fr b a b0 o cap l w h hp hl0 hl hs e
  · exact spoil_4 B R p q s fr b a b0 o cap l w h hp hl0 hl hs e
  · exact spoil_5 B R p q s fr b a b0 o cap l w h hp hl0 hl hs e
  · exact spoil_6 B R p q s fr b a b0 o cap l w h hp hl0 hl hs e
  · exact spoil_7 B R p q s fr b a b0 o cap l w h hp hl0 hl hs e
  · exact spoil_8 B R p q s fr b a b0 o cap l w h hp hl0 hl hs e
  · exact spoil_9 B R p q s fr b a b0 o cap l w h hp hl0 hl hs e
  · exact spoil_10 B R p q s fr b a b0 o cap l w h hp hl0 hl hs e
  · exact spoil_11 B R p q s fr b a b0 o cap l w h hp hl0 hl hs e

/-- What a path that is drawn late comes to. -/
def LatePost (w : World) (pv : Value) (e : Ending) (w' : World) : Prop :=
  Below w.heap.size w w' ∧ (e = .returned pv ∨ ∃ q s fr b g gc l, e = .returned (.agg #[.int .i64 q, .int .i64 s, .slice (some ⟨g, 0, none⟩) l.length gc, .int .i64 fr, .int .i64 b]) ∧ l.length ≤ 41 ∧
    w'.ownsRow w.heap.size 65 7 (.slice (some ⟨g, 0, none⟩) l.length gc) l.length (stepCells l))

theorem shift_any (q s fr b d : Int) (a : Option Addr) (b0 o cap : Nat) (l : List Stp) (w : World) (hl : l.length ≤ 1048576) (hs : StepsAt w a b0 o l) :
    Calls Try.prog 77 #[.agg #[.int .i64 q, .int .i64 s, .slice a l.length cap, .int .i64 fr, .int .i64 b], .int .i64 d] w
      fun e w' => Below w.heap.size w w' ∧ ((shiftB q s fr b l d = false ∧ e = .returned (.tuple #[.agg #[.int .i64 0, .int .i64 0, .slice none 0 0, .int .i64 0, .int .i64 0], .bool false])) ∨
        (shiftB q s fr b l d = true ∧ ∃ g gc, e = .returned (.tuple #[.agg #[.int .i64 q, .int .i64 s, .slice (some ⟨g, 0, none⟩) l.length gc, .int .i64 (fr + d), .int .i64 (b + d)], .bool true]) ∧
          w'.ownsRow w.heap.size 65 7 (.slice (some ⟨g, 0, none⟩) l.length gc) l.length (stepCells (laterL d l)))) := by
  cases h1 : pathB q s fr b l with
  | false =>
    have hf : shiftB q s fr b l d = false := by unfold shiftB; rw [h1]; rfl
    refine (shift_no hf a b0 o cap w hl hs (.inl h1)).mono ?_
    rintro e w' ⟨rfl, hb⟩
    exact ⟨hb, .inl ⟨hf, rfl⟩⟩
  | true =>
    cases h2 : inB d (-10000) 10000 with
    | false =>
      have hf : shiftB q s fr b l d = false := by unfold shiftB; rw [h1, h2]; rfl
      refine (shift_no hf a b0 o cap w hl hs (.inr h2)).mono ?_
      rintro e w' ⟨rfl, hb⟩
      exact ⟨hb, .inl ⟨hf, rfl⟩⟩
    | true =>
      have hf : shiftB q s fr b l d = pathB q s (fr + d) (b + d) (laterL d l) := by unfold shiftB; rw [h1, h2]; rfl
      refine (shift_yes q s fr b d a b0 o cap l w hs h1 h2).mono ?_
      rintro e w' (⟨h3, rfl, hb⟩ | ⟨h3, g, gc, rfl, ho, hb⟩)
      · exact ⟨hb, .inl ⟨hf.trans h3, rfl⟩⟩
      · exact ⟨hb, .inr ⟨hf.trans h3, g, gc, rfl, ho⟩⟩

set_option maxRecDepth 20000 in
set_option maxHeartbeats 4000000 in
theorem late_draw (q s fr b : Int) (a : Option Addr) (b0 o cap : Nat) (l : List Stp) (w : World) (hl : l.length ≤ 40) (hs : StepsAt w a b0 o l) :
    Calls Try.prog 57 #[.agg #[.int .i64 q, .int .i64 s, .slice a l.length cap, .int .i64 fr, .int .i64 b]] w (LatePost w (.agg #[.int .i64 q, .int .i64 s, .slice a l.length cap, .int .i64 fr, .int .i64 b])) := by
  have Q0 := PathAt.new w q s fr b (.slice a l.length cap)
  have Q1 := Q0.keep ((Below.refl _ _).alloc (Nat.le_refl _) (.cells #[.int .i64 0, .int .i64 0, .slice none 0 0, .int .i64 0, .int .i64 0] 27)) Q0.lt
  have P1 := PathAt.new (w.alloc (.cells #[.int .i64 q, .int .i64 s, .slice a l.length cap, .int .i64 fr, .int .i64 b] 27)) 0 0 0 0 (.slice none 0 0)
  rw [World.size_alloc] at P1
  have B1 : Below w.heap.size w ((w.alloc (.cells #[.int .i64 q, .int .i64 s, .slice a l.length cap, .int .i64 fr, .int .i64 b] 27)).alloc (.cells #[.int .i64 0, .int .i64 0, .slice none 0 0, .int .i64 0, .int .i64 0] 27)) := ((Below.refl _ _).alloc (Nat.le_refl _) _).alloc (by simp) _
  go_enter Try.func57, Try.ntmps57
  go_wp2
  go_loopw [3, 4] (fun s3 s4 wr => ∃ (m : Int) (k : Nat), s3 = .int .i64 m ∧ s4 = .int .i64 (k : Int) ∧ k ≤ l.length ∧ Below w.heap.size w wr ∧ PathAt wr w.heap.size q s fr b (.slice a l.length cap) ∧ PathAt wr (w.heap.size + 1) 0 0 0 0 (.slice none 0 0)) (fun _ s4 _ => l.length - (intOf s4).toNat)
  case atStart => exact ⟨b, 0, rfl, rfl, by omega, B1, Q1, P1⟩
  case round =>
    obtain ⟨m, k, rfl, rfl, hk, B2, Q2, P2⟩ := hrel
    clear Q0 Q1 P1 B1
    obtain ⟨⟨e0, e1, e2, e3, e4⟩, ef⟩ := Q2.cells
    by_cases hlt : k < l.length
    · obtain ⟨t, ht⟩ : ∃ t, l[k]? = some t := ⟨_, List.getElem?_eq_getElem hlt⟩
      have hne : l ≠ [] := by intro e; rw [e] at hlt; simp at hlt
      obtain rfl := hs.here hne
      have hs2 := hs.below B2 hs.lt
      obtain ⟨x0, x1, x2, x3, x4, x5, x6⟩ := hs2.seven ht
      have k0 : (0 : Int) ≤ (k : Int) := by omega
      have k1 : (k : Int) < (l.length : Int) := by omega
      go_wp2_with fail
      refine (max_any m t.by_ _).mono ?_
      rintro e wx ⟨rfl, rfl⟩
      generalize mxB m t.by_ = m2
      go_wp2
      go_roundw
      case rel => exact ⟨m2, k + 1, rfl, by simp, by omega, B2, Q2, P2⟩
      case measure => simp [intOf]; omega
    · obtain rfl : k = l.length := by omega
      go_wp2_with fail
      generalize wrap64 (10000 - m) = d
      refine (shift_any q s fr b d a b0 o cap l _ (by omega) (hs.below B2 hs.lt)).mono ?_
      rintro e w3 ⟨hb3, hor⟩
      have Q3 := Q2.keep hb3 Q2.lt
      have P3 := P2.keep hb3 P2.lt
      have B3 := B2.trans (hb3.mono B2.size)
      have hz2 := B2.size
      have hpl2 := P2.lt
      have hz3 := B3.size
      clear e0 e1 e2 e3 e4 ef Q2 P2
      rcases hor with ⟨h1, rfl⟩ | ⟨h1, g, gc, rfl, ho⟩
      · obtain ⟨⟨e0, e1, e2, e3, e4⟩, ef⟩ := Q3.cells
        obtain ⟨⟨f0, f1, f2, f3, f4⟩, ff⟩ := P3.cells
        have hq3 := Q3.lt
        have hp3 := P3.lt
        clear h1
        go_wp2
        refine bodyPost_ret (v := .agg #[.int .i64 q, .int .i64 s, .slice a l.length cap, .int .i64 fr, .int .i64 b]) (by simp [results, Try.results57, go_sem, *]) rfl ⟨?_, .inl rfl⟩
        refine Below.alloc ?_ (by simp [World.setCell]; omega) _
        iterate 5 (refine Below.setCell ?_ (by show _ ≤ w.heap.size + 1; omega) _)
        exact B3
      · obtain ⟨⟨e0, e1, e2, e3, e4⟩, ef⟩ := Q3.cells
        obtain ⟨⟨f0, f1, f2, f3, f4⟩, ff⟩ := P3.cells
        have hq3 := Q3.lt
        have hp3 := P3.lt
        clear h1
        have hll : (laterL d l).length = l.length := by simp [laterL]
        have HL : Hid ((laterL d l).length = l.length) := hll
        clear hll
        go_wp2
        refine bodyPost_ret (v := .agg #[.int .i64 q, .int .i64 s, .slice (some ⟨g, 0, none⟩) l.length gc, .int .i64 (fr + d), .int .i64 (b + d)]) (by simp [results, Try.results57, go_sem, *]) rfl ⟨?_, .inr ⟨q, s, fr + d, b + d, g, gc, laterL d l, by rw [HL.out], by rw [HL.out]; omega, ?_⟩⟩
        · refine Below.alloc ?_ (by simp [World.setCell]; omega) _
          iterate 5 (refine Below.setCell ?_ (by show _ ≤ w.heap.size + 1; omega) _)
          exact B3
        · rw [HL.out]
          have hh : ∀ k, (Value.slice (some ⟨g, 0, none⟩) l.length gc).ownBlock = some k → k ≠ w.heap.size + 1 := fun k e => by have := owns_base ho k e; omega
          refine owns_below ?_ ((Below.refl _ _).alloc (Nat.le_refl _) _)
          iterate 5 (refine owns_set ?_ hh _ _)
          exact ⟨ho.1, ho.2.imp id fun ⟨g, cap, cur, h1, h2, h3⟩ => ⟨g, cap, cur, h1, by omega, h3⟩⟩

/-- Steps that lie in a block of steps. -/
structure StepsIn (w : World) (a : Option Addr) (b o : Nat) (l : List Stp) : Prop where
  st : StepsAt w a b o l
  ty : l ≠ [] → ∃ cur, w.heap[b]? = some (.cells cur 65 (0, 0))

/-- What a drawn path comes to. -/
def AnyPost (w : World) (B : Nat) (R : Rdr) (p : Nat) (e : Ending) (w' : World) : Prop :=
  ∃ q s fr b a b0 o cap l p', e = .returned (.agg #[.int .i64 q, .int .i64 s, .slice a l.length cap, .int .i64 fr, .int .i64 b]) ∧ l.length ≤ 41 ∧ StepsIn w' a b0 o l ∧ (l ≠ [] → w.heap.size ≤ b0) ∧ p' ≤ p + 5300 ∧ RdW w w' B R p'

theorem steps_of_owned {w : World} {base n : Nat} {v : Value} {l : List Stp} (h : w.ownsRow base 65 7 v n (stepCells l)) (hn : n = l.length) : ∃ a b0 o cap, v = .slice a l.length cap ∧ StepsIn w a b0 o l ∧ (l ≠ [] → base ≤ b0) := by
  subst hn
  rcases h.2 with ⟨rfl, h0⟩ | ⟨g, cap, cur, rfl, hg, hh, _⟩
  · have hl : l = [] := List.eq_nil_of_length_eq_zero h0
    subst hl
    exact ⟨none, 0, 0, 0, rfl, ⟨⟨fun h => absurd rfl h, fun h => absurd rfl h, fun i t hi => by simp at hi⟩, fun h => absurd rfl h⟩, fun h => absurd rfl h⟩
  · exact ⟨_, g, 0, cap, rfl, ⟨steps_owned h, fun _ => ⟨cur, hh⟩⟩, fun _ => hg⟩
theorem StepsAt.grown {w w' : World} {a : Option Addr} {b o : Nat} {l : List Stp} {row : Option Nat} (h : StepsAt w a b o l) (hg : w.grownBy w' row) (hr : l ≠ [] → row ≠ some b) : StepsAt w' a b o l where
  here := h.here
  lt hl := Nat.lt_of_lt_of_le (h.lt hl) hg.size
  cell i s hi j v hv := by
    have hne : l ≠ [] := by intro e; subst e; simp at hi
    rw [World.cell?_of_block (w := w) (a := ⟨b, o + i * 7 + j, none⟩) (hg.block b (h.lt hne) (fun e => hr hne e.symm))]
    exact h.cell i s hi j v hv

theorem StepsIn.grown {w w' : World} {a : Option Addr} {b o : Nat} {l : List Stp} {row : Option Nat} (h : StepsIn w a b o l) (hg : w.grownBy w' row) (hr : l ≠ [] → row ≠ some b) : StepsIn w' a b o l :=
  ⟨h.st.grown hg hr, fun hl => by
    obtain ⟨cur, hc⟩ := h.ty hl
    exact ⟨cur, (hg.block b (lt_of_block hc) (fun e => hr hl e.symm)).trans hc⟩⟩
theorem StepsIn.below {w w' : World} {a : Option Addr} {b o : Nat} {l : List Stp} (h : StepsIn w a b o l) (hb : Below w.heap.size w w') : StepsIn w' a b o l :=
  h.grown (row := none) ⟨hb.os, hb.tape, hb.output, hb.size, fun k hk _ => hb.block k hk⟩ (fun _ e => by cases e)
theorem StepsIn.alloc {w : World} {a : Option Addr} {b o : Nat} {l : List Stp} (h : StepsIn w a b o l) (ob : Obj) : StepsIn (w.alloc ob) a b o l := h.below ((Below.refl _ _).alloc (Nat.le_refl _) ob)
theorem StepsIn.put {w : World} {a : Option Addr} {b o : Nat} {l : List Stp} (h : StepsIn w a b o l) {k j : Nat} (hk : l ≠ [] → k ≠ b) (v : Value) : StepsIn (w.setCell ⟨k, j, none⟩ v) a b o l :=
  h.grown (grown_set w ⟨k, j, none⟩ v) (fun hl e => hk hl (by cases e; rfl))

set_option maxRecDepth 20000 in
set_option maxHeartbeats 4000000 in
theorem any_draw (B : Nat) (R : Rdr) (p : Nat) (w : World) (h : RdAt w B R p) (hp : p ≤ 999800000) :
    Calls Try.prog 27 #[.pointer (some ⟨B, 0, none⟩)] w (AnyPost w B R p) := by
  have hB := lt_of_block h.blk
  have R0 := (RdW.refl h).alloc (.cells #[.int .i64 0, .int .i64 0, .slice none 0 0, .int .i64 0, .int .i64 0] 27)
  have P0 := PathAt.new w 0 0 0 0 (.slice none 0 0)
  go_enter Try.func27, Try.ntmps27
  go_wp2_with fail
  refine (path_draw B R p _ R0.rd (by omega)).mono ?_
  rintro e w1 ⟨q, s, fr, b, v, l, p1, rfl, hl1, hl2, ho1, hp1, R1'⟩
  have R1 := R0.more R1'.rd R1'.gr
  have P1 := P0.grown R1'.gr (by simp; omega)
  obtain ⟨a, b0, o, cap, rfl, hs1, hb0⟩ := steps_of_owned ho1 rfl
  have hne : l ≠ [] := by intro e; rw [e] at hl1; simp at hl1
  have hb1 := hb0 hne
  rw [World.size_alloc] at hb1
  obtain rfl := hs1.st.here hne
  clear R1' R0 P0 ho1 hb0
  have Q2 := PathAt.new w1 q s fr b (.slice (some ⟨b0, o, none⟩) l.length cap)
  have hz1 := P1.lt
  have R2 := R1.alloc (.cells #[.int .i64 q, .int .i64 s, .slice (some ⟨b0, o, none⟩) l.length cap, .int .i64 fr, .int .i64 b] 27)
  have P2 := P1.keep ((Below.refl _ _).alloc (Nat.le_refl _) (.cells #[.int .i64 q, .int .i64 s, .slice (some ⟨b0, o, none⟩) l.length cap, .int .i64 fr, .int .i64 b] 27)) P1.lt
  have hs2 := hs1.alloc (.cells #[.int .i64 q, .int .i64 s, .slice (some ⟨b0, o, none⟩) l.length cap, .int .i64 fr, .int .i64 b] 27)
  go_wp2_with fail
  refine (pick_any B R p1 12 _ R2.rd (by omega)).mono ?_
  rintro e w3 ⟨rfl, r3, g3, s3⟩
  have R3 := R2.more r3 g3
  have P3 := P2.grown g3 (by simp; omega)
  have Q3 := Q2.grown g3 (by simp; omega)
  have hs3 := hs2.grown g3 (fun _ => by simp; omega)
  clear R1 R2 P1 P2 Q2 hs1 hs2 r3 g3 s3
  generalize w1.heap.size = X at *
  generalize pickV R p1 12 = m
  obtain ⟨⟨e0, e1, e2, e3, e4⟩, ef⟩ := Q3.cells
  have hX : X ≠ w.heap.size := by omega
  by_cases h0 : m = 0
  · subst h0
    go_wp2_with fail
    refine (spoil_draw B R (p1 + 1) q s fr b (some ⟨b0, o, none⟩) b0 o cap l _ R3.rd (by omega) hl1 hl2 hs3.st).mono ?_
    rintro e w4 ⟨q', s', fr', b', v', l', p4, rfl, hl4, ho4, hp4, R4'⟩
    have R4 := R3.more R4'.rd R4'.gr
    have P4 := P3.grown R4'.gr (by simp; omega)
    have hz3 := P3.lt
    obtain ⟨a', c0, o', cap', rfl, hs4, hc0⟩ := steps_of_owned ho4 rfl
    clear R4' ho4 Q3 P3 R3 e0 e1 e2 e3 e4 ef
    obtain ⟨⟨f0, f1, f2, f3, f4⟩, ff⟩ := P4.cells
    go_wp2
    refine bodyPost_ret (v := .agg #[.int .i64 q', .int .i64 s', .slice a' l'.length cap', .int .i64 fr', .int .i64 b']) (by simp [results, Try.results27, go_sem, *]) rfl ⟨q', s', fr', b', a', c0, o', cap', l', p4, rfl, hl4, ?_, fun h => by have := hc0 h; have := R4.size; omega, by omega, ?_⟩
    · iterate 5 (refine StepsIn.put ?_ (fun h => by have := hc0 h; omega) _)
      exact hs4
    · iterate 5 (refine RdW.set ?_ (Nat.le_refl _) _ _)
      exact R4
  · have g0 : (m == 0) = false := beq_eq_false_iff_ne.2 h0
    by_cases h1 : m = 1
    · subst h1
      clear g0 h0
      go_wp2_with fail
      refine (late_draw q s fr b (some ⟨b0, o, none⟩) b0 o cap l _ hl2 hs3.st).mono ?_
      rintro e w4 ⟨hb4, hor⟩
      have R4 := R3.below hb4
      have P4 := P3.keep hb4 P3.lt
      have hz3 := P3.lt
      have hs4 := hs3.below hb4
      clear Q3 P3 e0 e1 e2 e3 e4 ef
      obtain ⟨⟨f0, f1, f2, f3, f4⟩, ff⟩ := P4.cells
      rcases hor with rfl | ⟨q', s', fr', b', g, gc, l', rfl, hl4, ho4⟩
      · go_wp2
        refine bodyPost_ret (v := .agg #[.int .i64 q, .int .i64 s, .slice (some ⟨b0, o, none⟩) l.length cap, .int .i64 fr, .int .i64 b]) (by simp [results, Try.results27, go_sem, *]) rfl ⟨q, s, fr, b, _, b0, o, cap, l, p1 + 1, rfl, by omega, ?_, fun _ => by omega, by omega, ?_⟩
        · iterate 5 (refine StepsIn.put ?_ (fun h => by omega) _)
          exact hs4
        · iterate 5 (refine RdW.set ?_ (Nat.le_refl _) _ _)
          exact R4
      · have hg := owns_base ho4 g rfl
        have hs5 : StepsIn w4 (some ⟨g, 0, none⟩) g 0 l' := ⟨steps_owned ho4, fun _ => by
          rcases ho4.2 with ⟨h0, _⟩ | ⟨g', cap', cur, h1, _, hh, _⟩
          · cases h0
          · cases h1; exact ⟨cur, hh⟩⟩
        clear ho4
        go_wp2
        refine bodyPost_ret (v := .agg #[.int .i64 q', .int .i64 s', .slice (some ⟨g, 0, none⟩) l'.length gc, .int .i64 fr', .int .i64 b']) (by simp [results, Try.results27, go_sem, *]) rfl ⟨q', s', fr', b', _, g, 0, gc, l', p1 + 1, rfl, hl4, ?_, fun _ => by omega, by omega, ?_⟩
        · iterate 5 (refine StepsIn.put ?_ (fun h => by omega) _)
          exact hs5
        · iterate 5 (refine RdW.set ?_ (Nat.le_refl _) _ _)
          exact R4
    · have g1 : (m == 1) = false := beq_eq_false_iff_ne.2 h1
      obtain ⟨⟨f0, f1, f2, f3, f4⟩, ff⟩ := P3.cells
      go_wp2
      refine bodyPost_ret (v := .agg #[.int .i64 q, .int .i64 s, .slice (some ⟨b0, o, none⟩) l.length cap, .int .i64 fr, .int .i64 b]) (by simp [results, Try.results27, go_sem, *]) rfl ⟨q, s, fr, b, _, b0, o, cap, l, p1 + 1, rfl, by omega, ?_, fun _ => by omega, by omega, ?_⟩
      · iterate 5 (refine StepsIn.put ?_ (fun h => by omega) _)
        exact hs3
      · iterate 5 (refine RdW.set ?_ (Nat.le_refl _) _ _)
        exact R3
end Go.Proofs.Ytfjlbgegjjdflaa

namespace Go.Proofs.Ytfjlbgegjjdflaa
open Go.RowKit

theorem mx_hi {a c : Int} (h : a < c) : mxB a c = c := by unfold mxB; rw [if_neg (by omega)]
theorem mx_lo {a c : Int} (h : c ≤ a) : mxB a c = a := by unfold mxB; split <;> omega
theorem mn_hi {b d : Int} (h : d < b) : mnB b d = d := by unfold mnB; rw [if_neg (by omega)]
theorem mn_lo {b d : Int} (h : b ≤ d) : mnB b d = b := by unfold mnB; split <;> omega
theorem three_bel {w : World} (c1 c2 c3 : Obj) : Below w.heap.size w (((w.alloc c1).alloc c2).alloc c3) := (((Below.refl w.heap.size w).alloc (Nat.le_refl _) _).alloc (by simp) _).alloc (by simp; omega) _

theorem meet_any (a b c d : Int) (w : World) :
    Calls Try.prog 69 #[.agg #[.int .i64 a, .int .i64 b], .agg #[.int .i64 c, .int .i64 d]] w fun e w' => e = .returned (.agg #[.int .i64 (mxB a c), .int .i64 (mnB b d)]) ∧ Below w.heap.size w w' := by
  go_enter Try.func69, Try.ntmps69
  go_wp2
  all_goals rename_i h1
  · rw [mx_hi h1, mn_hi h]
    exact bodyPost_ret (v := .agg #[.int .i64 c, .int .i64 d]) (by simp [results, Try.results69, go_sem]) rfl ⟨rfl, three_bel _ _ _⟩
  · rw [mx_hi h1, mn_lo h]
    exact bodyPost_ret (v := .agg #[.int .i64 c, .int .i64 b]) (by simp [results, Try.results69, go_sem]) rfl ⟨rfl, three_bel _ _ _⟩
  · rw [mx_lo h1, mn_hi h]
    exact bodyPost_ret (v := .agg #[.int .i64 a, .int .i64 d]) (by simp [results, Try.results69, go_sem]) rfl ⟨rfl, three_bel _ _ _⟩
  · rw [mx_lo h1, mn_lo h]
    exact bodyPost_ret (v := .agg #[.int .i64 a, .int .i64 b]) (by simp [results, Try.results69, go_sem]) rfl ⟨rfl, three_bel _ _ _⟩

set_option maxHeartbeats 2000000 in
set_option maxRecDepth 20000 in
theorem tightL_any (a b c d e f : Int) (w : World) (ha : -100000 ≤ a ∧ a ≤ 100000) (hb : -100000 ≤ b ∧ b ≤ 100000) (he : -100000 ≤ e ∧ e ≤ 100000) (hf : -100000 ≤ f ∧ f ≤ 100000) :
    Calls Try.prog 35 #[.agg #[.int .i64 a, .int .i64 b], .agg #[.int .i64 c, .int .i64 d], .agg #[.int .i64 e, .int .i64 f]] w
      fun x w' => x = .returned (.tuple #[.agg #[.int .i64 a, .int .i64 b], .agg #[.int .i64 (mxB c (a + e)), .int .i64 (mnB d (b + f))]]) ∧ Below w.heap.size w w' := by
  obtain ⟨a0, a1⟩ := ha
  obtain ⟨b0, b1⟩ := hb
  obtain ⟨e0, e1⟩ := he
  obtain ⟨f0, f1⟩ := hf
  have w0 : IntKind.i64.wrap (a + e) = a + e := by rw [IntKind.wrap_i64]; omega
  have w2 : IntKind.i64.wrap (b + f) = b + f := by rw [IntKind.wrap_i64]; omega
  go_enter Try.func35, Try.ntmps35
  go_wp2
  go_region_held3 (fun w' => w'.cell? ⟨w.heap.size, 0, none⟩ = some (.int .i64 a) ∧ w'.cell? ⟨w.heap.size, 1, none⟩ = some (.int .i64 b) ∧ w'.cell? ⟨w.heap.size + 1, 0, none⟩ = some (.int .i64 c) ∧ w'.cell? ⟨w.heap.size + 1, 1, none⟩ = some (.int .i64 d) ∧ w'.cell? ⟨w.heap.size + 1 + 1, 0, none⟩ = some (.int .i64 e) ∧ w'.cell? ⟨w.heap.size + 1 + 1, 1, none⟩ = some (.int .i64 f))
    (simp [go_sem, *])
    (first | (go_at_call 69; refine (meet_any _ _ _ _ _).mono ?_; rintro x w1 ⟨rfl, hb1⟩; obtain ⟨hc1, hf1⟩ := old_cells hb1; have r0 : w1.cell? ⟨w.heap.size + 1 + 1 + 1, 0, none⟩ = some (.int .i64 0) := (by rw [hc1 _ _ (by simp)]; simp [go_sem]); have r1 : w1.cell? ⟨w.heap.size + 1 + 1 + 1, 1, none⟩ = some (.int .i64 0) := (by rw [hc1 _ _ (by simp)]; simp [go_sem]); have r2 : w1.cell? ⟨w.heap.size + 1 + 1 + 1 + 1, 0, none⟩ = some (.int .i64 0) := (by rw [hc1 _ _ (by simp)]; simp [go_sem]); have r3 : w1.cell? ⟨w.heap.size + 1 + 1 + 1 + 1, 1, none⟩ = some (.int .i64 0) := (by rw [hc1 _ _ (by simp)]; simp [go_sem]); have r4 : ∀ j, w1.frozen? ⟨w.heap.size + 1 + 1 + 1, j, none⟩ = false := (by intro j; rw [hf1 _ _ (by simp)]; simp [go_sem]); have r5 : ∀ j, w1.frozen? ⟨w.heap.size + 1 + 1 + 1 + 1, j, none⟩ = false := (by intro j; rw [hf1 _ _ (by simp)]; simp [go_sem])))
  have hb01 : Below w.heap.size w w1 := (((three_bel _ _ _).alloc (by simp; omega) _).alloc (by simp; omega) _).drew.trans (hb1.mono (by simp [World.drew]; omega))
  clear hb1 hc1 hf1
  go_wp2
  refine bodyPost_ret (v := .tuple #[.agg #[.int .i64 a, .int .i64 b], .agg #[.int .i64 (mxB c (a + e)), .int .i64 (mnB d (b + f))]]) (by simp [results, Try.results35, go_sem, *]) rfl ⟨rfl, ?_⟩
  iterate 4 (refine Below.setCell ?_ (by simp; omega) _)
  exact hb01
set_option maxHeartbeats 2000000 in
set_option maxRecDepth 20000 in
theorem tightE_any (a b c d e f : Int) (w : World) (hc : -100000 ≤ c ∧ c ≤ 100000) (hd : -100000 ≤ d ∧ d ≤ 100000) (he : -100000 ≤ e ∧ e ≤ 100000) (hf : -100000 ≤ f ∧ f ≤ 100000) :
    Calls Try.prog 37 #[.agg #[.int .i64 a, .int .i64 b], .agg #[.int .i64 c, .int .i64 d], .agg #[.int .i64 e, .int .i64 f]] w
      fun x w' => x = .returned (.tuple #[.agg #[.int .i64 (mxB a (c - f)), .int .i64 (mnB b (d - e))], .agg #[.int .i64 c, .int .i64 d]]) ∧ Below w.heap.size w w' := by
  obtain ⟨c0, c1⟩ := hc
  obtain ⟨d0, d1⟩ := hd
  obtain ⟨e0, e1⟩ := he
  obtain ⟨f0, f1⟩ := hf
  have w0 : IntKind.i64.wrap (c - f) = c - f := by rw [IntKind.wrap_i64]; omega
  have w2 : IntKind.i64.wrap (d - e) = d - e := by rw [IntKind.wrap_i64]; omega
  go_enter Try.func37, Try.ntmps37
  go_wp2
  go_region_held3 (fun w' => w'.cell? ⟨w.heap.size, 0, none⟩ = some (.int .i64 a) ∧ w'.cell? ⟨w.heap.size, 1, none⟩ = some (.int .i64 b) ∧ w'.cell? ⟨w.heap.size + 1, 0, none⟩ = some (.int .i64 c) ∧ w'.cell? ⟨w.heap.size + 1, 1, none⟩ = some (.int .i64 d) ∧ w'.cell? ⟨w.heap.size + 1 + 1, 0, none⟩ = some (.int .i64 e) ∧ w'.cell? ⟨w.heap.size + 1 + 1, 1, none⟩ = some (.int .i64 f))
    (simp [go_sem, *])
    (first | (go_at_call 69; refine (meet_any _ _ _ _ _).mono ?_; rintro x w1 ⟨rfl, hb1⟩; obtain ⟨hc1, hf1⟩ := old_cells hb1; have r0 : w1.cell? ⟨w.heap.size + 1 + 1 + 1, 0, none⟩ = some (.int .i64 0) := (by rw [hc1 _ _ (by simp)]; simp [go_sem]); have r1 : w1.cell? ⟨w.heap.size + 1 + 1 + 1, 1, none⟩ = some (.int .i64 0) := (by rw [hc1 _ _ (by simp)]; simp [go_sem]); have r2 : w1.cell? ⟨w.heap.size + 1 + 1 + 1 + 1, 0, none⟩ = some (.int .i64 0) := (by rw [hc1 _ _ (by simp)]; simp [go_sem]); have r3 : w1.cell? ⟨w.heap.size + 1 + 1 + 1 + 1, 1, none⟩ = some (.int .i64 0) := (by rw [hc1 _ _ (by simp)]; simp [go_sem]); have r4 : ∀ j, w1.frozen? ⟨w.heap.size + 1 + 1 + 1, j, none⟩ = false := (by intro j; rw [hf1 _ _ (by simp)]; simp [go_sem]); have r5 : ∀ j, w1.frozen? ⟨w.heap.size + 1 + 1 + 1 + 1, j, none⟩ = false := (by intro j; rw [hf1 _ _ (by simp)]; simp [go_sem])))
  have hb01 : Below w.heap.size w w1 := (((three_bel _ _ _).alloc (by simp; omega) _).alloc (by simp; omega) _).drew.trans (hb1.mono (by simp [World.drew]; omega))
  clear hb1 hc1 hf1
  go_wp2
  refine bodyPost_ret (v := .tuple #[.agg #[.int .i64 (mxB a (c - f)), .int .i64 (mnB b (d - e))], .agg #[.int .i64 c, .int .i64 d]]) (by simp [results, Try.results37, go_sem, *]) rfl ⟨rfl, ?_⟩
  iterate 4 (refine Below.setCell ?_ (by simp; omega) _)
  exact hb01
theorem spanNo_any (a b : Int) (w : World) :
    Calls Try.prog 67 #[.agg #[.int .i64 a, .int .i64 b]] w fun e w' => e = .returned (.bool (decide (b < a))) ∧ Below w.heap.size w w' := by
  go_enter Try.func67, Try.ntmps67
  go_wp2
  go_ret
  exact ⟨rfl, (Below.refl _ _).alloc (Nat.le_refl _) _⟩
theorem spanNo_val (a b : Int) (v : Bool) (w : World) (hv : decide (b < a) = v) :
    Calls Try.prog 67 #[.agg #[.int .i64 a, .int .i64 b]] w fun e w' => e = .returned (.bool v) ∧ Below w.heap.size w w' := by
  rw [← hv]; exact spanNo_any a b w
end Go.Proofs.Ytfjlbgegjjdflaa

namespace Go.Proofs.Ytfjlbgegjjdflaa
open Go.RowKit

set_option maxHeartbeats 1000000 in
theorem stay_any (x y lo hi fr b q s : Int) (ho : Bool) (w : World) :
    Calls Try.prog 66 #[.agg #[.int .i64 x, .int .i64 y, .int .i64 lo, .int .i64 hi, .int .i64 fr, .int .i64 b, .bool ho], .agg #[.int .i64 q, .int .i64 s]] w
      fun e w' => e = .returned (.tuple #[.int .i64 q, .int .i64 (if ho then 10000 else s)]) ∧ Below w.heap.size w w' := by
  have hb : ∀ c1 c2 : Array Value, Below w.heap.size w ((w.alloc (.cells c1 65)).alloc (.cells c2 24)) := fun c1 c2 => ((Below.refl w.heap.size w).alloc (Nat.le_refl _) _).alloc (by simp) _
  cases ho with
  | true =>
    go_enter Try.func66, Try.ntmps66
    go_wp2
    go_ret2
    exact ⟨rfl, hb _ _⟩
  | false =>
    go_enter Try.func66, Try.ntmps66
    go_wp2
    go_quiet (fail)
    go_wp2
    go_ret2
    exact ⟨rfl, (hb _ _).trans ⟨rfl, rfl, rfl, Nat.le_refl _, fun _ _ => rfl⟩⟩

set_option maxHeartbeats 1000000 in
theorem windowS_any (x y lo hi fr b : Int) (ho : Bool) (w : World) :
    Calls Try.prog 104 #[.agg #[.int .i64 x, .int .i64 y, .int .i64 lo, .int .i64 hi, .int .i64 fr, .int .i64 b, .bool ho]] w
      fun e w' => e = .returned (.tuple #[.int .i64 fr, .int .i64 b]) ∧ Below w.heap.size w w' := by
  have hb : ∀ c1 : Array Value, Below w.heap.size w (w.alloc (.cells c1 65)) := fun c1 => (Below.refl w.heap.size w).alloc (Nat.le_refl _) _
  go_enter Try.func104, Try.ntmps104
  go_wp2
  go_quiet (fail)
  go_wp2
  go_ret2
  exact ⟨rfl, (hb _).trans ⟨rfl, rfl, rfl, Nat.le_refl _, fun _ _ => rfl⟩⟩

set_option maxHeartbeats 1000000 in
theorem windowE_any (fr b : Int) (w : World) :
    Calls Try.prog 105 #[.agg #[.int .i64 fr, .int .i64 b]] w
      fun e w' => e = .returned (.tuple #[.int .i64 fr, .int .i64 b]) ∧ Below w.heap.size w w' := by
  have hb : ∀ c1 : Array Value, Below w.heap.size w (w.alloc (.cells c1 107)) := fun c1 => (Below.refl w.heap.size w).alloc (Nat.le_refl _) _
  go_enter Try.func105, Try.ntmps105
  go_wp2
  go_quiet (fail)
  go_wp2
  go_ret2
  exact ⟨rfl, (hb _).trans ⟨rfl, rfl, rfl, Nat.le_refl _, fun _ _ => rfl⟩⟩

theorem bound_info : (Try.prog.info? 88).map (fun i => (i.zero, i.size, i.bytes)) = some (some .nilIface, 1, 16) := by kernel_rfl

/-- A step as a bound. -/
abbrev stepV (s : Stp) : Value := .iface 65 s.val
/-- What the list of bounds holds when k steps are in. -/
def bndTo (l : List Stp) (k : Nat) : List Value := (List.range k).map fun i => stepV (l.getD i .zero)
theorem bndTo_succ (l : List Stp) (k : Nat) : bndTo l (k + 1) = bndTo l k ++ [stepV (l.getD k .zero)] := by simp [bndTo, List.range_succ]
theorem bndTo_length (l : List Stp) (k : Nat) : (bndTo l k).length = k := by simp [bndTo]

theorem owns_from {w : World} {base e size n : Nat} {v : Value} {xs : List Value} (h : w.ownsRow base e size v n xs) : ∀ k, v.ownBlock = some k → base ≤ k := by
  intro k hk
  rcases h.2 with ⟨rfl, _⟩ | ⟨g, cap, cur, rfl, hg, _⟩
  · simp [Value.ownBlock] at hk
  · simp [Value.ownBlock] at hk; omega
theorem owns_mono {w : World} {base base' e size n : Nat} {v : Value} {xs : List Value} (h : w.ownsRow base e size v n xs) (hb : base' ≤ base) : w.ownsRow base' e size v n xs :=
  ⟨h.1, h.2.imp id fun ⟨g, cap, cur, h1, h2, h3⟩ => ⟨g, cap, cur, h1, Nat.le_trans hb h2, h3⟩⟩

set_option maxHeartbeats 2000000 in
theorem bounds_any (q s fr b : Int) (a : Option Addr) (b0 o cap : Nat) (l : List Stp) (w : World) (hl : l.length ≤ 1048576) (hs : StepsAt w a b0 o l) :
    Calls Try.prog 65 #[.agg #[.int .i64 q, .int .i64 s, .slice a l.length cap, .int .i64 fr, .int .i64 b]] w
      fun e w' => ∃ v, e = .returned v ∧ w'.ownsRow w.heap.size 88 1 v (l.length + 1) (bndTo l l.length ++ [.iface 107 (.agg #[.int .i64 fr, .int .i64 b])]) ∧ Below w.heap.size w w' := by
  obtain ⟨i0, hi, hz0, hz1, hz2⟩ := info_parts bound_info
  go_enter Try.func65, Try.ntmps65
  go_wp2
  go_loopw [3, 9] (fun u v wr => ∃ k : Nat, k ≤ l.length ∧ v = .int .i64 k ∧ BoxP w wr q s fr b (.slice a l.length cap) ∧ wr.ownsRow (w.heap.size + 1) 88 1 u k (bndTo l k)) (fun _ v _ => l.length - (intOf v).toNat)
  case atStart => exact ⟨0, Nat.zero_le _, rfl, BoxP.new w q s fr b _ _, World.ownsRow_nil _ _ _ _⟩
  case round =>
    obtain ⟨k, hk, rfl, hB, hown⟩ := hrel
    by_cases hlt : k < l.length
    · obtain ⟨t, htk⟩ : ∃ t, l[k]? = some t := ⟨l[k], List.getElem?_eq_getElem hlt⟩
      have hne : l ≠ [] := by intro e; subst e; simp at hlt
      obtain rfl := hs.here hne
      obtain ⟨d0, d1, d2, d3, d4, d5, d6⟩ := (hs.below hB.old hs.lt).seven htk
      have HT : Hid (l.getD k .zero = t) := by show _ = _; simp [List.getD, htk]
      clear htk
      have hz := hB.lt
      have c1 : ∀ (j : Nat) (u : Value), [stepV t][j]? = some u → ((wr.alloc (.cells #[.int .i64 t.x, .int .i64 t.y, .int .i64 t.lo, .int .i64 t.hi, .int .i64 t.fr, .int .i64 t.by_, .bool t.ho] 65)).alloc (.cells #[stepV t] 88)).cell? ((⟨wr.heap.size + 1, 0, none⟩ : Addr).add j) = some u := by
        intro j u hj
        match j, hj with
        | 0, hj => simp at hj; subst hj; simp [Addr.add, go_sem]
      have HC : Hid (∀ (j : Nat) (u : Value), [stepV t][j]? = some u → ((wr.alloc (.cells #[.int .i64 t.x, .int .i64 t.y, .int .i64 t.lo, .int .i64 t.hi, .int .i64 t.fr, .int .i64 t.by_, .bool t.ho] 65)).alloc (.cells #[stepV t] 88)).cell? ((⟨wr.heap.size + 1, 0, none⟩ : Addr).add j) = some u) := c1
      clear c1
      go_wp2_with (at_builtin; (refine wpList_append_own _ rfl _ _ 85 rfl (w.heap.size + 1) 88 i0 .nilIface 1 16 Try.underlying85 hi hz0 hz1 hz2 rfl (by decide) _ _ _ rfl ((hown.alloc _).alloc _) ⟨wr.heap.size + 1, 0, none⟩ 1 1 [stepV t] rfl rfl HC.out (by simp [Value.oneCell']) (by unfold maxLen; omega) (by omega) (by simp; omega) ?_); intro v' w1 hown' hgrow _)
      have hbel : Below (w.heap.size + 1) wr w1 := (((Below.refl (w.heap.size + 1) wr).alloc (by omega) _).alloc (by simp; omega) _).grown hgrow (by simp; omega) (owns_from hown)
      refine ⟨⟨k + 1, by omega, by go_num, hB.keep hbel, ?_⟩, by simp [intOf]; omega⟩
      rw [bndTo_succ, HT.out]
      exact hown'
    · obtain rfl : k = l.length := by omega
      have hz := hB.lt
      have p3 := hB.p3
      have p4 := hB.p4
      go_wp2_with (at_builtin; (refine wpList_append_own _ rfl _ _ 85 rfl (w.heap.size + 1) 88 i0 .nilIface 1 16 Try.underlying85 hi hz0 hz1 hz2 rfl (by decide) _ _ _ rfl (hown.alloc _) ⟨wr.heap.size, 0, none⟩ 1 1 [.iface 107 (.agg #[.int .i64 fr, .int .i64 b])] rfl rfl (cell_one_new _ _ _) (by simp [Value.oneCell']) (by unfold maxLen; omega) (by omega) (by simp; omega) ?_); intro v' w1 hown' hgrow _)
      have hbel : Below (w.heap.size + 1) wr w1 := ((Below.refl (w.heap.size + 1) wr).alloc (by omega) _).grown hgrow (by simp; omega) (owns_from hown)
      go_ret
      exact ⟨_, rfl, owns_mono hown' (by omega), (hB.keep hbel).old⟩
end Go.Proofs.Ytfjlbgegjjdflaa

namespace Go.Proofs.Ytfjlbgegjjdflaa
open Go.RowKit

theorem isIn_any (x1 x2 y1 y2 : Int) (w : World) :
    Calls Try.prog 83 #[.agg #[.int .i64 x1, .int .i64 x2], .agg #[.int .i64 y1, .int .i64 y2]] w fun e w' => e = .returned (.bool (decide (y1 ≤ x1) && decide (x2 ≤ y2))) ∧ Below w.heap.size w w' := by
  go_enter Try.func83, Try.ntmps83
  cases h : decide (y1 ≤ x1) with
  | false =>
    go_wp2
    go_ret
    exact ⟨rfl, ((Below.refl w.heap.size w).alloc (Nat.le_refl _) _).alloc (by simp) _⟩
  | true =>
    go_wp2
    go_ret
    exact ⟨rfl, ((Below.refl w.heap.size w).alloc (Nat.le_refl _) _).alloc (by simp) _⟩
theorem isIn_val (t y1 y2 : Int) (v : Bool) (w : World) (hv : inB t y1 y2 = v) :
    Calls Try.prog 83 #[.agg #[.int .i64 t, .int .i64 t], .agg #[.int .i64 y1, .int .i64 y2]] w fun e w' => e = .returned (.bool v) ∧ Below w.heap.size w w' := by
  rw [← hv]; exact isIn_any t t y1 y2 w

set_option maxRecDepth 20000 in
set_option maxHeartbeats 1000000 in
theorem behind_dead (q s fr b : Int) (a : Option Addr) (n cap : Nat) (a' : Option Addr) (cap' : Nat) (z : Int) (w : World) :
    Calls Try.prog 72 #[.agg #[.int .i64 q, .int .i64 s, .slice a n cap, .int .i64 fr, .int .i64 b], .slice a' 0 cap', .int .i64 z] w fun e w' => e = .returned (.slice none 0 0) ∧ Below w.heap.size w w' := by
  go_enter Try.func72, Try.ntmps72
  go_wp2
  obtain ⟨W1, hW1, hB1⟩ : ∃ W1, (w.alloc (.cells #[.int .i64 q, .int .i64 s, .slice a n cap, .int .i64 fr, .int .i64 b] 27)).alloc (.cells #[.int .i64 z, .int .i64 z] 38) = W1 ∧ Below w.heap.size w W1 :=
    ⟨_, rfl, ((Below.refl w.heap.size w).alloc (Nat.le_refl _) _).alloc (by simp) _⟩
  rw [hW1]
  clear hW1
  have qn := Cls.any W1
  refine wp_region_cls (by kernel_rfl) (by kernel_rfl) ?_
  repeat (go_big_quiet_step (fail))
  refine wpQuiet_nil ?_
  rintro _ ⟨u, rfl⟩
  have hb2 := hB1.trans (u.same.mono hB1.size)
  clear qn
  go_wp2
  go_ret
  exact ⟨rfl, hb2⟩

set_option maxRecDepth 20000 in
set_option maxHeartbeats 4000000 in
/-- A row of spans that a call owns, the piece from k on being what is open. -/
theorem behind_live (q s fr b : Int) (a : Option Addr) (b0 o cap : Nat) (l : List Stp) (g scap base k m cp : Nat) (R : List (Int × Int)) (z : Int) (w : World)
    (hl : l.length ≤ 1048576) (hs : StepsAt w a b0 o l) (hkm : k + m = l.length) (hcp : m + 1 ≤ cp) (hq : 1 ≤ q ∧ q ≤ 50) (hs0 : 1 ≤ s ∧ s ≤ 50) (e lf : Int × Int) (hb0 : l ≠ [] → b0 ≠ g)
    (he : R[k]? = some e) (hlf : m ≠ 0 → R[k + 1]? = some lf) (her : 0 ≤ e.1 ∧ e.2 ≤ 10000)
    (hown : w.ownsRow base 38 2 (.slice (some ⟨g, 0, none⟩) (l.length + 1) scap) (l.length + 1) (spanCells R)) :
    Calls Try.prog 72 #[.agg #[.int .i64 q, .int .i64 s, .slice a l.length cap, .int .i64 fr, .int .i64 b], .slice (some ⟨g, k * 2, none⟩) (m + 1) cp, .int .i64 z] w
      fun x w' => w.grownBy w' (some g) ∧
        ((inB z e.1 e.2 = false ∧ x = .returned (.slice none 0 0)) ∨
        (inB z e.1 e.2 = true ∧ m = 0 ∧ ∃ a' cp', x = .returned (.slice a' 0 cp')) ∨
        (inB z e.1 e.2 = true ∧ m ≠ 0 ∧ x = .returned (.slice (some ⟨g, (k + 1) * 2, none⟩) m (cp - 1)) ∧
          w'.ownsRow base 38 2 (.slice (some ⟨g, 0, none⟩) (l.length + 1) scap) (l.length + 1) (spanCells (R.set (k + 1) (mxB lf.1 (z + q), mnB lf.2 (z + mostB s l k)))))) := by
  have hgl := (hown.lt g rfl).2
  go_enter Try.func72, Try.ntmps72
  go_wp2
  obtain ⟨W1, hW1, hB1, hx1, hc0, hc1, hsz1⟩ : ∃ W1, (w.alloc (.cells #[.int .i64 q, .int .i64 s, .slice a l.length cap, .int .i64 fr, .int .i64 b] 27)).alloc (.cells #[.int .i64 z, .int .i64 z] 38) = W1 ∧ Below w.heap.size w W1 ∧
      PathAt W1 w.heap.size q s fr b (.slice a l.length cap) ∧ W1.cell? ⟨w.heap.size + 1, 0, none⟩ = some (.int .i64 z) ∧ W1.cell? ⟨w.heap.size + 1, 1, none⟩ = some (.int .i64 z) ∧ w.heap.size + 1 < W1.heap.size :=
    ⟨_, rfl, ((Below.refl w.heap.size w).alloc (Nat.le_refl _) _).alloc (by simp) _,
      (PathAt.new w q s fr b (.slice a l.length cap)).keep ((Below.refl (w.heap.size + 1) (w.alloc (.cells #[.int .i64 q, .int .i64 s, .slice a l.length cap, .int .i64 fr, .int .i64 b] 27))).alloc (by simp) _) (by omega),
      by simp [go_sem], by simp [go_sem], by simp⟩
  rw [hW1]
  clear hW1
  have ho1 := owns_below hown hB1
  obtain ⟨⟨p0, p1, p2, p3, p4⟩, pf⟩ := hx1.cells
  have x0 := (ho1.cellAt (k * 2) (by omega)).trans (spanCells_get _ _ _ he).1
  have x1 := (ho1.cellAt (k * 2 + 1) (by omega)).trans (spanCells_get _ _ _ he).2
  have hg1 : g < W1.heap.size := Nat.lt_of_lt_of_le hgl hB1.size
  cases hin : inB z e.1 e.2 with
  | false =>
    have HI : ∀ (u : Cls W1), Calls Try.prog 83 #[.agg #[.int .i64 z, .int .i64 z], .agg #[.int .i64 e.1, .int .i64 e.2]] u.it fun x w' => x = .returned (.bool false) ∧ Below u.it.heap.size u.it w' := fun u => isIn_val _ _ _ _ _ hin
    have qn := Cls.any W1
    have q1 := Cls.cell hg1
    have q2 := Cls.cell hsz1
    have mn : ((m : Int) + 1 == 0) = false := by simp; omega
    refine wp_region_cls (by kernel_rfl) (by kernel_rfl) ?_
    repeat (go_big_quiet_step ((go_at_call 83; exact Calls.cls_of (HI _))))
    refine wpQuiet_nil ?_
    rintro _ ⟨u, rfl⟩
    have hb2 := hB1.trans (u.same.mono hB1.size)
    clear qn q1 q2 HI
    have HN : Hid (inB z e.1 e.2 = false) := hin
    clear hin
    go_wp2
    go_ret
    exact ⟨⟨hb2.os, hb2.tape, hb2.output, hb2.size, fun i hi _ => hb2.block i hi⟩, .inl ⟨HN.out, rfl⟩⟩
  | true =>
    have hzr := (inB_iff _ _ _).1 hin
    have HI : ∀ (u : Cls W1), Calls Try.prog 83 #[.agg #[.int .i64 z, .int .i64 z], .agg #[.int .i64 e.1, .int .i64 e.2]] u.it fun x w' => x = .returned (.bool true) ∧ Below u.it.heap.size u.it w' := fun u => isIn_val _ _ _ _ _ hin
    have qn := Cls.any W1
    have q1 := Cls.cell hg1
    have q2 := Cls.cell hsz1
    have mn : ((m : Int) + 1 == 0) = false := by simp; omega
    refine wp_region_cls (by kernel_rfl) (by kernel_rfl) ?_
    repeat (go_big_quiet_step ((go_at_call 83; exact Calls.cls_of (HI _))))
    refine wpQuiet_nil ?_
    rintro _ ⟨u, rfl⟩
    have hb2 := hB1.trans (u.same.mono hB1.size)
    clear qn q1 q2 HI
    have HN : Hid (inB z e.1 e.2 = true) := hin
    clear hin
    rcases m with _ | m
    · by_cases hc : cp = 1
      · go_wp2
        go_ret
        exact ⟨⟨hb2.os, hb2.tape, hb2.output, hb2.size, fun i hi _ => hb2.block i hi⟩, .inr ⟨HN.out, _, _, rfl⟩⟩
      · go_wp2
        go_ret
        exact ⟨⟨hb2.os, hb2.tape, hb2.output, hb2.size, fun i hi _ => hb2.block i hi⟩, .inr ⟨HN.out, _, _, rfl⟩⟩
    · have hlf' := hlf (by omega)
      obtain ⟨t, ht⟩ : ∃ t, l[k]? = some t := ⟨l[k], List.getElem?_eq_getElem (by omega)⟩
      have hne : l ≠ [] := by intro e'; subst e'; simp at ht
      obtain rfl := hs.here hne
      have ho2 := owns_below ho1 u.same
      have hx2 := hx1.keep u.same hx1.lt
      have hs2 := hs.below hb2 hs.lt
      have d0 := (u.same.cell (p := ⟨w.heap.size + 1, 0, none⟩) hsz1).trans hc0
      have d1 := (u.same.cell (p := ⟨w.heap.size + 1, 1, none⟩) hsz1).trans hc1
      have hsz2 : w.heap.size + 1 < u.it.heap.size := Nat.lt_of_lt_of_le hsz1 u.same.size
      have hg2 : g < u.it.heap.size := Nat.lt_of_lt_of_le hg1 u.same.size
      clear hx1 hc0 hc1 p0 p1 p2 p3 p4 pf x0 x1 hs hlf
      generalize u.it = W2 at hb2 ho2 hx2 hs2 d0 d1 hsz2 hg2 ⊢
      clear u
      obtain ⟨⟨p0, p1, p2, p3, p4⟩, pf⟩ := hx2.cells
      obtain ⟨c0, c1, c2, c3, c4, c5, c6⟩ := hs2.seven ht
      have hbl := hs2.lt hne
      obtain ⟨mo, hmo⟩ : ∃ mo, mostB s l k = mo := ⟨_, rfl⟩
      have hmr : 1 ≤ mo ∧ mo ≤ 10000 := by rw [← hmo]; unfold mostB; split <;> omega
      have ST : ∀ (u : Cls W2), Calls Try.prog 66 #[.agg #[.int .i64 t.x, .int .i64 t.y, .int .i64 t.lo, .int .i64 t.hi, .int .i64 t.fr, .int .i64 t.by_, .bool t.ho], .agg #[.int .i64 q, .int .i64 s]] u.it fun x w' => x = .returned (.tuple #[.int .i64 q, .int .i64 mo]) ∧ Below u.it.heap.size u.it w' := fun u => by
        have := stay_any t.x t.y t.lo t.hi t.fr t.by_ q s t.ho u.it
        rwa [show (if t.ho then (10000 : Int) else s) = mo by rw [← hmo]; unfold mostB; rw [getD_is ht]] at this
      have hc : ¬ cp = 1 := by omega
      have hw1 : IntKind.i64.wrap ((l.length : Int) - ((m : Int) + 1)) = (k : Int) := by rw [IntKind.wrap_i64]; omega
      have k0 : (0 : Int) ≤ (k : Int) := by omega
      have k1 : (k : Int) < (l.length : Int) := by omega
      have mp : (0 : Int) < (m : Int) + 1 := by omega
      have qn := Cls.any W2
      have q1 := Cls.cell hbl
      have q2 := Cls.cell hx2.lt
      go_wp2
      refine wp_region_cls (by kernel_rfl) (by kernel_rfl) ?_
      repeat (go_big_quiet_step ((go_at_call 66; exact Calls.cls_of (ST _))))
      refine wpQuiet_nil ?_
      rintro _ ⟨u, rfl⟩
      have hb3 := hb2.trans (u.same.mono hb2.size)
      have ho3 := owns_below ho2 u.same
      have d0' := (u.same.cell (p := ⟨w.heap.size + 1, 0, none⟩) hsz2).trans d0
      have d1' := (u.same.cell (p := ⟨w.heap.size + 1, 1, none⟩) hsz2).trans d1
      have hsz3 : w.heap.size + 1 < u.it.heap.size := Nat.lt_of_lt_of_le hsz2 u.same.size
      have hg3 : g < u.it.heap.size := Nat.lt_of_lt_of_le hg2 u.same.size
      clear q1 q2 qn ST p0 p1 p2 p3 p4 pf c0 c1 c2 c3 c4 c5 c6 hx2 hs2 hbl d0 d1 hsz2 hg2 ho2 hb2
      generalize u.it = W3 at hb3 ho3 d0' d1' hsz3 hg3 ⊢
      clear u
      have y0 := (ho3.cellAt (k * 2 + 2) (by omega)).trans ((congrArg (fun i => (spanCells R)[i]?) (show k * 2 + 2 = (k + 1) * 2 by omega)).trans (spanCells_get _ _ _ hlf').1)
      have y1 := (ho3.cellAt (k * 2 + 2 + 1) (by omega)).trans ((congrArg (fun i => (spanCells R)[i]?) (show k * 2 + 2 + 1 = (k + 1) * 2 + 1 by omega)).trans (spanCells_get _ _ _ hlf').2)
      obtain ⟨n1, hn1⟩ : ∃ n1, mxB lf.1 (z + q) = n1 := ⟨_, rfl⟩
      obtain ⟨n2, hn2⟩ : ∃ n2, mnB lf.2 (z + mo) = n2 := ⟨_, rfl⟩
      have TL : ∀ (u : Cls W3), Calls Try.prog 35 #[.agg #[.int .i64 z, .int .i64 z], .agg #[.int .i64 lf.1, .int .i64 lf.2], .agg #[.int .i64 q, .int .i64 mo]] u.it fun x w' => x = .returned (.tuple #[.agg #[.int .i64 z, .int .i64 z], .agg #[.int .i64 n1, .int .i64 n2]]) ∧ Below u.it.heap.size u.it w' := fun u => by
        rw [← hn1, ← hn2]
        exact tightL_any z z lf.1 lf.2 q mo u.it (by omega) (by omega) (by omega) (by omega)
      have qn := Cls.any W3
      have q1 := Cls.cell hg3
      have q2 := Cls.cell hsz3
      go_wp2
      refine wp_region_last (by kernel_rfl) (by simp) (by kernel_rfl) (by kernel_rfl) ?_
      simp only [initL, endL]
      repeat (go_big_quiet_step ((go_at_call 35; exact Calls.cls_of (TL _))))
      refine wpQuiet_nil ?_
      rintro _ ⟨u2, rfl⟩
      have hownu := owns_below ho3 u2.same
      have hb4 := hb3.trans (u2.same.mono hb3.size)
      have hlen : (spanCells R).length = (l.length + 1) * 2 := ho3.1
      obtain ⟨v0, t0⟩ : ∃ v, u2.it.cell? ⟨g, k * 2 + 2, none⟩ = some v := ⟨_, (hownu.cellAt (k * 2 + 2) (by omega)).trans (List.getElem?_eq_getElem (by omega))⟩
      obtain ⟨v1, t1⟩ : ∃ v, u2.it.cell? ⟨g, k * 2 + 2 + 1, none⟩ = some v := ⟨_, (hownu.cellAt (k * 2 + 2 + 1) (by omega)).trans (List.getElem?_eq_getElem (by omega))⟩
      have tf := hownu.frozenAt
      have HO9 := owns_put (owns_put hownu (j := k * 2 + 2) (by omega) (.int .i64 n1)) (j := k * 2 + 2 + 1) (by omega) (.int .i64 n2)
      have ER : spanCells (R.set (k + 1) (mxB lf.1 (z + q), mnB lf.2 (z + mostB s l k))) = ((spanCells R).set (k * 2 + 2) (.int .i64 n1)).set (k * 2 + 2 + 1) (.int .i64 n2) := by
        rw [hmo, hn1, hn2, spanCells_set, show (k + 1) * 2 = k * 2 + 2 by omega]
      have gr : w.grownBy ((u2.it.setCell ⟨g, k * 2 + 2, none⟩ (.int .i64 n1)).setCell ⟨g, k * 2 + 2 + 1, none⟩ (.int .i64 n2)) (some g) := by
        have a0 : w.grownBy u2.it (some g) := ⟨hb4.os, hb4.tape, hb4.output, hb4.size, fun i hi _ => hb4.block i hi⟩
        exact grown_over2 (grown_over2 a0 (grown_set u2.it ⟨g, k * 2 + 2, none⟩ (.int .i64 n1))) (grown_set _ ⟨g, k * 2 + 2 + 1, none⟩ (.int .i64 n2))
      rw [← ER] at HO9
      have HO : Hid (((u2.it.setCell ⟨g, k * 2 + 2, none⟩ (.int .i64 n1)).setCell ⟨g, k * 2 + 2 + 1, none⟩ (.int .i64 n2)).ownsRow base 38 2 (.slice (some ⟨g, 0, none⟩) (l.length + 1) scap) (l.length + 1) (spanCells (R.set (k + 1) (mxB lf.1 (z + q), mnB lf.2 (z + mostB s l k))))) := HO9
      have HG : Hid (w.grownBy ((u2.it.setCell ⟨g, k * 2 + 2, none⟩ (.int .i64 n1)).setCell ⟨g, k * 2 + 2 + 1, none⟩ (.int .i64 n2)) (some g)) := gr
      clear q1 q2 qn TL HO9 gr ER hownu hn1 hn2 hmo ho3 ho1 hown
      go_wp2
      go_ret
      refine ⟨HG.out, .inr (.inr ⟨HN.out, by omega, ?_, HO.out⟩)⟩
      rw [show (k + 1) * 2 = k * 2 + 2 by omega]
      rfl
end Go.Proofs.Ytfjlbgegjjdflaa

namespace Go.Proofs.Ytfjlbgegjjdflaa
open Go.RowKit

theorem goS_no {q s fr b : Int} {l : List Stp} {zs : List Int} (h : goB q s fr b l zs = false) : goS q s fr b l zs = (0, 0) := by unfold goS; rw [h]; rfl
theorem goB_path {q s fr b : Int} {l : List Stp} {zs : List Int} (h : pathB q s fr b l = false) : goB q s fr b l zs = false := by unfold goB; rw [h]; rfl
theorem goB_long {q s fr b : Int} {l : List Stp} {zs : List Int} (h : l.length < zs.length) : goB q s fr b l zs = false := by
  unfold goB; rw [decide_eq_false (show ¬ zs.length ≤ l.length by omega)]; simp

theorem Span2.new (w : World) (t : TypeId) : (w.alloc (.cells #[.int .i64 0, .int .i64 0] t)).heap[w.heap.size]? = some (.cells #[.int .i64 0, .int .i64 0] t (0, 0)) := heap_alloc_new w _

set_option maxRecDepth 20000 in
set_option maxHeartbeats 1000000 in
theorem flyNextS_any (q s fr b : Int) (a : Option Addr) (b0 o cap : Nat) (l : List Stp) (c : Option Addr) (cb co ccap : Nat) (zs : List Int) (w : World) (hl : l.length ≤ 1048576) (hzl : zs.length ≤ 1048576) (hs : StepsAt w a b0 o l) (hz : IntsAt w c cb co zs) :
    Calls Try.prog 24 #[.agg #[.int .i64 q, .int .i64 s, .slice a l.length cap, .int .i64 fr, .int .i64 b], .slice c zs.length ccap] w
      fun e w' => e = .returned (.tuple #[.agg #[.int .i64 (goS q s fr b l zs).1, .int .i64 (goS q s fr b l zs).2], .bool (goB q s fr b l zs)]) ∧ Below w.heap.size w w' := by
  have hx0 := (PathAt.new w q s fr b (.slice a l.length cap)).keep ((Below.refl (w.heap.size + 1) (w.alloc (.cells #[.int .i64 q, .int .i64 s, .slice a l.length cap, .int .i64 fr, .int .i64 b] 27))).alloc (by simp) (.cells #[.int .i64 0, .int .i64 0] 38)) (by omega)
  have hr0 := Span2.new (w.alloc (.cells #[.int .i64 q, .int .i64 s, .slice a l.length cap, .int .i64 fr, .int .i64 b] 27)) 38
  simp only [World.size_alloc] at hr0
  have hbA : Below w.heap.size w ((w.alloc (.cells #[.int .i64 q, .int .i64 s, .slice a l.length cap, .int .i64 fr, .int .i64 b] 27)).alloc (.cells #[.int .i64 0, .int .i64 0] 38)) := ((Below.refl w.heap.size w).alloc (Nat.le_refl _) _).alloc (by simp) _
  go_enter Try.func24, Try.ntmps24
  go_wp2_with fail
  refine (pathS_any _ _ _ _ _ b0 o _ _ _ hl ((hs.alloc _).alloc _)).mono ?_
  rintro e w1 ⟨rfl, hb1⟩
  have hx1 := hx0.keep hb1 (by simp; omega)
  have hr1 := blk2_kept hr0 hb1
  have hb01 := hbA.trans (hb1.mono (by simp only [World.size_alloc]; omega))
  have sz1 : w.heap.size + 1 + 1 ≤ w1.heap.size := by simpa using hb1.size
  clear hx0 hr0 hb1
  obtain ⟨⟨p0, p1, p2, p3, p4⟩, pf⟩ := hx1.cells
  obtain ⟨r0, r1, rf⟩ := blk2 hr1
  cases hp : pathB q s fr b l with
  | false =>
    have e1 := goB_path (zs := zs) hp
    have E : Hid (goS q s fr b l zs = (0, 0) ∧ goB q s fr b l zs = false) := ⟨goS_no e1, e1⟩
    clear e1
    go_wp2
    refine bodyPost_ret (v := .tuple #[.agg #[.int .i64 0, .int .i64 0], .bool false]) (by simp [results, Try.results24, go_sem, *]) rfl ⟨by rw [E.out.1, E.out.2], ?_⟩
    iterate 2 (refine Below.setCell ?_ (by simp <;> omega) _)
    exact hb01
  | true =>
    by_cases hlen : zs.length ≤ l.length
    · have hpl := path_len hp
      obtain ⟨e1, e2⟩ := held_go hp hlen
      have n1 : ¬ ((l.length : Int) < (zs.length : Int)) := by omega
      have hs1 := hs.below hb01 hs.lt
      have hz1 := hz.below hb01 hz.lt
      go_wp2_with fail
      refine (heldS_any _ _ _ _ _ b0 o _ _ _ cb co _ _ _ hpl.1 hl hs1 hz1 hlen).mono ?_
      rintro e w2 ⟨g, gcap, rfl, hown2, hb2⟩
      have hs2 := steps_owned hown2
      have hr2 := blk2_kept hr1 hb2
      have hb02 := hb01.trans (hb2.mono (by omega))
      have hW := held_wide (Wide.of hp) zs hlen
      have hC := spansS_wide q s fr b (some ⟨g, 0, none⟩) g 0 gcap (heldL l zs zs.length) w2 hs2 hW
      rw [heldL_length, e1] at hC
      clear hx1 hr1 hb01 hb2 p0 p1 p2 p3 p4 pf r0 r1 rf hs1 hz1 hown2
      go_wp2_with fail
      refine hC.mono ?_
      rintro e w3 ⟨v, rfl, hown3, hb3⟩
      have hr3 := blk2_kept hr2 hb3
      have sz2 := hb02.size
      have sz3 := hb3.size
      have hb03 := hb02.trans (hb3.mono hb02.size)
      obtain ⟨r0, r1, rf⟩ := blk2 hr3
      clear hC hs2 hr2 hb02 hb3
      cases hg : goB q s fr b l zs with
      | false =>
        have E : Hid (goS q s fr b l zs = (0, 0) ∧ goB q s fr b l zs = false) := ⟨goS_no hg, hg⟩
        clear e1 e2
        go_wp2
        refine bodyPost_ret (v := .tuple #[.agg #[.int .i64 0, .int .i64 0], .bool false]) (by simp [results, Try.results24, go_sem, *]) rfl ⟨by rw [E.out.1, E.out.2], ?_⟩
        iterate 2 (refine Below.setCell ?_ (by simp <;> omega) _)
        exact hb03
      | true =>
        have hget := e2 hg
        have hL : (spansL q s fr b (heldL l zs zs.length)).length = l.length + 1 := by
          rw [hg] at e1
          unfold spansL
          rw [if_pos e1, heldL_length]
          simp
        rw [hL] at hown3
        obtain ⟨g3, c3, rfl, hg3, hg3'⟩ := owns_some hown3 (by omega)
        have x0 := (hown3.cellAt (zs.length * 2) (by omega)).trans (spanCells_get _ _ _ hget).1
        have x1 := (hown3.cellAt (zs.length * 2 + 1) (by omega)).trans (spanCells_get _ _ _ hget).2
        obtain ⟨⟨y0, y1⟩, hy⟩ : ∃ y, goS q s fr b l zs = y := ⟨_, rfl⟩
        rw [hy] at x0 x1
        have E : Hid (goS q s fr b l zs = (y0, y1) ∧ goB q s fr b l zs = true) := ⟨hy, hg⟩
        have m0 : (0 : Int) ≤ (zs.length : Int) := by omega
        have m1 : (zs.length : Int) < (l.length : Int) + 1 := by omega
        clear hget e1 e2 hy hown3 n1
        go_wp2
        refine bodyPost_ret (v := .tuple #[.agg #[.int .i64 y0, .int .i64 y1], .bool true]) (by simp [results, Try.results24, go_sem, *]) rfl ⟨by rw [E.out.1, E.out.2], ?_⟩
        iterate 2 (refine Below.setCell ?_ (by simp <;> omega) _)
        exact hb03
    · have e1 := goB_long (q := q) (s := s) (fr := fr) (b := b) (show l.length < zs.length by omega)
      have E : Hid (goS q s fr b l zs = (0, 0) ∧ goB q s fr b l zs = false) := ⟨goS_no e1, e1⟩
      clear e1
      have n1 : (l.length : Int) < (zs.length : Int) := by omega
      go_wp2
      refine bodyPost_ret (v := .tuple #[.agg #[.int .i64 0, .int .i64 0], .bool false]) (by simp [results, Try.results24, go_sem, *]) rfl ⟨by rw [E.out.1, E.out.2], ?_⟩
      iterate 2 (refine Below.setCell ?_ (by simp <;> omega) _)
      exact hb01
end Go.Proofs.Ytfjlbgegjjdflaa

namespace Go.Proofs.Ytfjlbgegjjdflaa
open Go.RowKit

theorem onSide_any (n : Int) (w : World) :
    Calls Try.prog 84 #[.int .i64 n] w fun e w' => e = .returned (.bool (inB n 0 15)) ∧ w' = w := by
  by_cases h1 : 0 ≤ n
  · go_enter Try.func84, Try.ntmps84
    go_wp2
    go_ret
    have e1 : decide (n < 16) = inB n 0 15 := by by_cases h : n < 16 <;> simp [inB, h, h1] <;> omega
    exact ⟨by rw [← e1]; rfl, rfl⟩
  · have h1' : decide (0 ≤ n) = false := by simpa using h1
    go_enter Try.func84, Try.ntmps84
    go_wp2
    go_ret
    exact ⟨by simp [inB, h1'], rfl⟩

theorem ordered_any (a b c d : Int) (w : World) :
    Calls Try.prog 82 #[.int .i64 a, .int .i64 b, .int .i64 c, .int .i64 d] w fun e w' => e = .returned (.bool (ordB a b c d)) ∧ w' = w := by
  by_cases h1 : a ≤ b
  · by_cases h2 : b ≤ c
    · go_enter Try.func82, Try.ntmps82
      go_wp2
      go_ret
      exact ⟨by simp [ordB, h1, h2], rfl⟩
    · have e1 : ordB a b c d = false := by simp [ordB]; omega
      rw [e1]
      clear e1
      go_enter Try.func82, Try.ntmps82
      go_wp2
      go_ret
      exact ⟨rfl, rfl⟩
  · have e1 : ordB a b c d = false := by simp [ordB]; omega
    rw [e1]
    clear e1
    go_enter Try.func82, Try.ntmps82
    go_wp2
    go_ret
    exact ⟨rfl, rfl⟩

theorem isBeside_any (a b : Int) (w : World) :
    Calls Try.prog 86 #[.int .i64 a, .int .i64 b] w fun e w' => e = .returned (.bool (inB (wrap64 (a - b)) (-1) 1)) ∧ w' = w := by
  by_cases h1 : -1 ≤ wrap64 (a - b)
  · go_enter Try.func86, Try.ntmps86
    go_wp2
    go_ret
    exact ⟨by simp [inB, h1], rfl⟩
  · have h1' : decide (-1 ≤ wrap64 (a - b)) = false := by simpa using h1
    go_enter Try.func86, Try.ntmps86
    go_wp2
    go_ret
    exact ⟨by simp [inB, h1'], rfl⟩

theorem stepOk_any (x y lo hi fr b : Int) (ho : Bool) (w : World) :
    Calls Try.prog 79 #[.agg #[.int .i64 x, .int .i64 y, .int .i64 lo, .int .i64 hi, .int .i64 fr, .int .i64 b, .bool ho]] w fun e w' => e = .returned (.bool (stepB x y lo hi fr b)) ∧ Below w.heap.size w w' := by
  have hb := (Below.refl w.heap.size w).alloc (Nat.le_refl _) (.cells #[.int .i64 x, .int .i64 y, .int .i64 lo, .int .i64 hi, .int .i64 fr, .int .i64 b, .bool ho] 65)
  cases h1 : inB x 0 15 with
  | false =>
    have e1 : stepB x y lo hi fr b = false := by simp [stepB, inB] at *; omega
    rw [e1]; clear e1
    go_enter Try.func79, Try.ntmps79
    go_wp2_with (first | (go_at_call 84; refine (onSide_any _ _).mono ?_; rintro e w' ⟨rfl, rfl⟩) | (go_at_call 82; refine (ordered_any _ _ _ _ _).mono ?_; rintro e w' ⟨rfl, rfl⟩))
    go_ret
    exact ⟨rfl, hb⟩
  | true =>
  cases h2 : inB y 0 15 with
  | false =>
    have e1 : stepB x y lo hi fr b = false := by simp [stepB, inB] at *; omega
    rw [e1]; clear e1
    go_enter Try.func79, Try.ntmps79
    go_wp2_with (first | (go_at_call 84; refine (onSide_any _ _).mono ?_; rintro e w' ⟨rfl, rfl⟩) | (go_at_call 82; refine (ordered_any _ _ _ _ _).mono ?_; rintro e w' ⟨rfl, rfl⟩))
    go_ret
    exact ⟨rfl, hb⟩
  | true =>
  cases h3 : ordB 0 lo hi 6 with
  | false =>
    have e1 : stepB x y lo hi fr b = false := by simp [stepB, inB, ordB] at *; omega
    rw [e1]; clear e1
    go_enter Try.func79, Try.ntmps79
    go_wp2_with (first | (go_at_call 84; refine (onSide_any _ _).mono ?_; rintro e w' ⟨rfl, rfl⟩) | (go_at_call 82; refine (ordered_any _ _ _ _ _).mono ?_; rintro e w' ⟨rfl, rfl⟩))
    go_ret
    exact ⟨rfl, hb⟩
  | true =>
    have e1 : stepB x y lo hi fr b = ordB 0 fr b 10000 := by
      rw [Bool.eq_iff_iff]; simp [stepB, inB, ordB] at *; omega
    rw [e1]; clear e1
    go_enter Try.func79, Try.ntmps79
    go_wp2_with (first | (go_at_call 84; refine (onSide_any _ _).mono ?_; rintro e w' ⟨rfl, rfl⟩) | (go_at_call 82; refine (ordered_any _ _ _ _ _).mono ?_; rintro e w' ⟨rfl, rfl⟩))
    go_ret
    exact ⟨rfl, hb⟩

theorem sharesLevel_any (x y lo hi fr b x' y' lo' hi' fr' b' : Int) (ho ho' : Bool) (w : World) :
    Calls Try.prog 87 #[.agg #[.int .i64 x, .int .i64 y, .int .i64 lo, .int .i64 hi, .int .i64 fr, .int .i64 b, .bool ho], .agg #[.int .i64 x', .int .i64 y', .int .i64 lo', .int .i64 hi', .int .i64 fr', .int .i64 b', .bool ho']] w
      fun e w' => e = .returned (.bool (levB lo hi lo' hi')) ∧ Below w.heap.size w w' := by
  have hb := ((Below.refl w.heap.size w).alloc (Nat.le_refl _) (.cells #[.int .i64 x, .int .i64 y, .int .i64 lo, .int .i64 hi, .int .i64 fr, .int .i64 b, .bool ho] 65)).alloc (by simp) (.cells #[.int .i64 x', .int .i64 y', .int .i64 lo', .int .i64 hi', .int .i64 fr', .int .i64 b', .bool ho'] 65)
  by_cases h1 : lo ≤ hi'
  · go_enter Try.func87, Try.ntmps87
    go_wp2
    go_ret
    exact ⟨by simp [levB, h1], hb⟩
  · have h1' : decide (lo ≤ hi') = false := by simpa using h1
    go_enter Try.func87, Try.ntmps87
    go_wp2
    go_ret
    exact ⟨by simp [levB, h1'], hb⟩

set_option maxHeartbeats 1000000 in
theorem follows_any (x y lo hi fr b x' y' lo' hi' fr' b' : Int) (ho ho' : Bool) (w : World) :
    Calls Try.prog 81 #[.agg #[.int .i64 x, .int .i64 y, .int .i64 lo, .int .i64 hi, .int .i64 fr, .int .i64 b, .bool ho], .agg #[.int .i64 x', .int .i64 y', .int .i64 lo', .int .i64 hi', .int .i64 fr', .int .i64 b', .bool ho']] w
      fun e w' => e = .returned (.bool (folB x y lo hi x' y' lo' hi')) ∧ Below w.heap.size w w' := by
  have hb := ((Below.refl w.heap.size w).alloc (Nat.le_refl _) (.cells #[.int .i64 x, .int .i64 y, .int .i64 lo, .int .i64 hi, .int .i64 fr, .int .i64 b, .bool ho] 65)).alloc (by simp) (.cells #[.int .i64 x', .int .i64 y', .int .i64 lo', .int .i64 hi', .int .i64 fr', .int .i64 b', .bool ho'] 65)
  cases h1 : (x == x') <;> cases h2 : (y == y') <;> cases h3 : inB (wrap64 (x - x')) (-1) 1 <;> cases h4 : inB (wrap64 (y - y')) (-1) 1
  all_goals
    go_enter Try.func81, Try.ntmps81
    go_wp2_with (first | (go_at_call 86; refine (isBeside_any _ _ _).mono ?_; rintro e w' ⟨rfl, rfl⟩) | (go_at_call 87; refine (sharesLevel_any x y lo hi fr b x' y' lo' hi' fr' b' ho ho' _).mono ?_; rintro e w1 ⟨rfl, hb1⟩))
    go_ret
    first
      | exact ⟨by simp [folB, h1, h2, h3, h4], hb⟩
      | exact ⟨by simp [folB, h1, h2, h3, h4], hb.trans (hb1.mono (by simp; omega))⟩
end Go.Proofs.Ytfjlbgegjjdflaa

namespace Go.Proofs.Ytfjlbgegjjdflaa
open Go.RowKit

theorem kindM_any (q s : Int) (w : World) :
    Calls Try.prog 78 #[.agg #[.int .i64 q, .int .i64 s]] w fun e w' => e = .returned (.bool (kindB q s)) ∧ Below w.heap.size w w' := by
  have hb := (Below.refl w.heap.size w).alloc (Nat.le_refl _) (.cells #[.int .i64 q, .int .i64 s] 24)
  by_cases h1 : 1 ≤ q
  · by_cases h2 : q ≤ s
    · go_enter Try.func78, Try.ntmps78
      go_wp2
      go_ret
      exact ⟨by simp [kindB, h1, h2], hb⟩
    · have e1 : kindB q s = false := by simp [kindB]; omega
      go_enter Try.func78, Try.ntmps78
      go_wp2
      go_ret
      exact ⟨by first | rfl | (rw [e1]; rfl), hb⟩
  · have e1 : kindB q s = false := by simp [kindB]; omega
    go_enter Try.func78, Try.ntmps78
    go_wp2
    go_ret
    exact ⟨by first | rfl | (rw [e1]; rfl), hb⟩

theorem kindIsOk_any (q s fr b : Int) (a : Option Addr) (n cap : Nat) (w : World) :
    Calls Try.prog 60 #[.agg #[.int .i64 q, .int .i64 s, .slice a n cap, .int .i64 fr, .int .i64 b]] w fun e w' => e = .returned (.bool (kindB q s)) ∧ Below w.heap.size w w' := by
  go_enter Try.func60, Try.ntmps60
  go_wp2_with (go_at_call 78; refine (kindM_any _ _ _).mono ?_; rintro e w1 ⟨rfl, hb1⟩)
  go_ret
  exact ⟨rfl, ((Below.refl _ _).alloc (Nat.le_refl _) _).trans (hb1.mono (by simp))⟩

theorem stepCount_any (q s fr b : Int) (a : Option Addr) (n cap : Nat) (w : World) (hn : n ≤ 1048576) :
    Calls Try.prog 61 #[.agg #[.int .i64 q, .int .i64 s, .slice a n cap, .int .i64 fr, .int .i64 b]] w fun e w' => e = .returned (.bool (inB n 1 40)) ∧ Below w.heap.size w w' := by
  have hb := (Below.refl w.heap.size w).alloc (Nat.le_refl _) (.cells #[.int .i64 q, .int .i64 s, .slice a n cap, .int .i64 fr, .int .i64 b] 27)
  by_cases h1 : (1 : Int) ≤ (n : Int)
  · have e1 : inB n 1 40 = decide ((n : Int) ≤ 40) := by simp [inB, h1]
    go_enter Try.func61, Try.ntmps61
    go_wp2
    go_ret
    exact ⟨by first | rfl | (rw [e1]; rfl), hb⟩
  · have e1 : inB n 1 40 = false := by simp [inB]; omega
    go_enter Try.func61, Try.ntmps61
    go_wp2
    go_ret
    exact ⟨by first | rfl | (rw [e1]; rfl), hb⟩

theorem endIsOk_any (q s fr b : Int) (a : Option Addr) (n cap : Nat) (w : World) :
    Calls Try.prog 64 #[.agg #[.int .i64 q, .int .i64 s, .slice a n cap, .int .i64 fr, .int .i64 b]] w fun e w' => e = .returned (.bool (ordB 0 fr b 10000)) ∧ Below w.heap.size w w' := by
  go_enter Try.func64, Try.ntmps64
  go_wp2_with (go_at_call 82; refine (ordered_any _ _ _ _ _).mono ?_; rintro e w' ⟨rfl, rfl⟩)
  go_ret
  exact ⟨rfl, (Below.refl _ _).alloc (Nat.le_refl _) _⟩

set_option maxHeartbeats 1000000 in
theorem stepsAreOk_any (q s fr b : Int) (a : Option Addr) (b0 o cap : Nat) (l : List Stp) (w : World) (hl : l.length ≤ 1048576) (hs : StepsAt w a b0 o l) :
    Calls Try.prog 62 #[.agg #[.int .i64 q, .int .i64 s, .slice a l.length cap, .int .i64 fr, .int .i64 b]] w fun e w' => e = .returned (.bool (okTo l l.length)) ∧ Below w.heap.size w w' := by
  go_enter Try.func62, Try.ntmps62
  go_wp2
  go_loopw [8] (fun v wr => ∃ k : Nat, k ≤ l.length ∧ v = .int .i64 k ∧ Below w.heap.size w wr ∧ okTo l k = true) (fun v _ => l.length - (intOf v).toNat)
  case atStart => exact ⟨0, Nat.zero_le _, rfl, (Below.refl _ _).alloc (Nat.le_refl _) _, rfl⟩
  case round =>
    obtain ⟨k, hk, rfl, hb, hgood⟩ := hrel
    have HG : Hid (okTo l k = true) := hgood
    clear hgood
    by_cases hlt : k < l.length
    · obtain ⟨t, htk⟩ : ∃ t, l[k]? = some t := ⟨l[k], List.getElem?_eq_getElem hlt⟩
      have hne : l ≠ [] := by intro e; subst e; simp at hlt
      obtain rfl := hs.here hne
      have hbw := hs.lt hne
      obtain ⟨d0, d1, d2, d3, d4, d5, d6⟩ := (hs.below hb (fun _ => hbw)).seven htk
      have HT : Hid (l.getD k .zero = t) := by show _ = _; simp [List.getD, htk]
      clear htk
      have HE : Hid (okS l k = stepB t.x t.y t.lo t.hi t.fr t.by_) := by show _ = _; unfold okS; rw [HT.out]
      cases hok : stepB t.x t.y t.lo t.hi t.fr t.by_ with
      | false =>
        have G1 : Hid (okTo l l.length = false) := all_not hlt (HE.out.trans hok)
        go_wp2_with (go_at_call 79; refine (stepOk_any _ _ _ _ _ _ _ _).mono ?_; rintro e w2 ⟨rfl, hb2⟩)
        go_ret
        exact ⟨by rw [G1.out]; rfl, (hb.alloc hb.size _).trans (hb2.mono (by have := hb.size; simp; omega))⟩
      | true =>
        have G1 : Hid (okTo l (k + 1) = true) := by show _ = _; unfold okTo; rw [all_succ]; have := HG.out; unfold okTo at this; rw [this, HE.out, hok]; rfl
        go_wp2_with (go_at_call 79; refine (stepOk_any _ _ _ _ _ _ _ _).mono ?_; rintro e w2 ⟨rfl, hb2⟩)
        go_roundw
        case rel => exact ⟨k + 1, by omega, by go_num, (hb.alloc hb.size _).trans (hb2.mono (by have := hb.size; simp; omega)), G1.out⟩
        case measure => simp [intOf]; omega
    · obtain rfl : k = l.length := by omega
      go_wp2
      go_ret
      exact ⟨by rw [HG.out]; rfl, hb⟩
end Go.Proofs.Ytfjlbgegjjdflaa

namespace Go.Proofs.Ytfjlbgegjjdflaa
open Go.RowKit

/-- What is asked of the check of two steps. -/
def FollowSaid : Prop := ∀ (q s fr b : Int) (a : Option Addr) (b0 o cap : Nat) (l : List Stp) (w : World), l.length ≤ 1048576 → StepsAt w a b0 o l →
    Calls Try.prog 63 #[.agg #[.int .i64 q, .int .i64 s, .slice a l.length cap, .int .i64 fr, .int .i64 b]] w fun e w' => e = .returned (.bool (folTo l (l.length - 1))) ∧ Below w.heap.size w w'

/-- The two blocks that the call itself laid: the path, and the list of checks. -/
structure Laid2 (w wr : World) (q s fr b : Int) (v : Value) : Prop where
  old : Below w.heap.size w wr
  size : w.heap.size + 2 ≤ wr.heap.size
  p0 : wr.cell? ⟨w.heap.size, 0, none⟩ = some (.int .i64 q)
  p1 : wr.cell? ⟨w.heap.size, 1, none⟩ = some (.int .i64 s)
  p2 : wr.cell? ⟨w.heap.size, 2, none⟩ = some v
  p3 : wr.cell? ⟨w.heap.size, 3, none⟩ = some (.int .i64 fr)
  p4 : wr.cell? ⟨w.heap.size, 4, none⟩ = some (.int .i64 b)
  f0 : wr.cell? ⟨w.heap.size + 1, 0, none⟩ = some (.func (.func 60) #[] #[])
  f1 : wr.cell? ⟨w.heap.size + 1, 1, none⟩ = some (.func (.func 61) #[] #[])
  f2 : wr.cell? ⟨w.heap.size + 1, 2, none⟩ = some (.func (.func 62) #[] #[])
  f3 : wr.cell? ⟨w.heap.size + 1, 3, none⟩ = some (.func (.func 63) #[] #[])
  f4 : wr.cell? ⟨w.heap.size + 1, 4, none⟩ = some (.func (.func 64) #[] #[])

theorem Laid2.below {w wr w2 : World} {q s fr b : Int} {v : Value} (h : Laid2 w wr q s fr b v) (hb : Below wr.heap.size wr w2) : Laid2 w w2 q s fr b v := by
  have z := h.size
  have c0 : ∀ j, w2.cell? ⟨w.heap.size, j, none⟩ = wr.cell? ⟨w.heap.size, j, none⟩ := fun j => hb.cell (p := ⟨w.heap.size, j, none⟩) (by show w.heap.size < _; omega)
  have c1 : ∀ j, w2.cell? ⟨w.heap.size + 1, j, none⟩ = wr.cell? ⟨w.heap.size + 1, j, none⟩ := fun j => hb.cell (p := ⟨w.heap.size + 1, j, none⟩) (by show w.heap.size + 1 < _; omega)
  exact ⟨h.old.trans (hb.mono (by omega)), Nat.le_trans z hb.size, (c0 _).trans h.p0, (c0 _).trans h.p1, (c0 _).trans h.p2, (c0 _).trans h.p3, (c0 _).trans h.p4,
    (c1 _).trans h.f0, (c1 _).trans h.f1, (c1 _).trans h.f2, (c1 _).trans h.f3, (c1 _).trans h.f4⟩

/-- The check at place i. -/
def chkB (q s fr b : Int) (l : List Stp) : Nat → Bool
  | 0 => kindB q s
  | 1 => inB l.length 1 40
  | 2 => okTo l l.length
  | 3 => folTo l (l.length - 1)
  | _ => ordB 0 fr b 10000
def chkTo (q s fr b : Int) (l : List Stp) (k : Nat) : Bool := (List.range k).all (chkB q s fr b l)
theorem chkTo_five (q s fr b : Int) (l : List Stp) : chkTo q s fr b l 5 = pathB q s fr b l := by
  rw [← checks_path]
  simp [chkTo, List.range_succ, chkB, Bool.and_assoc]

set_option maxHeartbeats 2000000 in
theorem pathOk_any (hF : FollowSaid) (q s fr b : Int) (a : Option Addr) (b0 o cap : Nat) (l : List Stp) (w : World) (hl : l.length ≤ 1048576) (hs : StepsAt w a b0 o l) :
    Calls Try.prog 31 #[.agg #[.int .i64 q, .int .i64 s, .slice a l.length cap, .int .i64 fr, .int .i64 b]] w fun e w' => e = .returned (.bool (pathB q s fr b l)) ∧ Below w.heap.size w w' := by
  have H5 : Hid (chkTo q s fr b l 5 = pathB q s fr b l) := chkTo_five q s fr b l
  go_enter Try.func31, Try.ntmps31
  go_wp2
  go_loopw [9] (fun v wr => ∃ k : Nat, k ≤ 5 ∧ v = .int .i64 k ∧ Laid2 w wr q s fr b (.slice a l.length cap) ∧ chkTo q s fr b l k = true) (fun v _ => 5 - (intOf v).toNat)
  case atStart =>
    refine ⟨0, by omega, rfl, ⟨((Below.refl _ _).alloc (Nat.le_refl _) _).alloc (by simp) _, by simp, ?_, ?_, ?_, ?_, ?_, ?_, ?_, ?_, ?_, ?_⟩, rfl⟩
    all_goals simp [go_sem]
  case round =>
    obtain ⟨k, hk, rfl, hL, hgood⟩ := hrel
    have HG : Hid (chkTo q s fr b l k = true) := hgood
    clear hgood
    have step : ∀ v, chkB q s fr b l k = v → Hid (chkTo q s fr b l (k + 1) = v) := fun v hv => by
      show _ = _
      have := HG.out
      unfold chkTo at *
      rw [all_succ, this, hv]; simp
    have stop : k < 5 → chkB q s fr b l k = false → Hid (pathB q s fr b l = false) := fun h hv => by
      show _ = _
      rw [← H5.out]
      exact all_not h hv
    have p0 := hL.p0
    have p1 := hL.p1
    have p2 := hL.p2
    have p3 := hL.p3
    have p4 := hL.p4
    have hs1 := hs.below hL.old hs.lt
    rcases (show k = 0 ∨ k = 1 ∨ k = 2 ∨ k = 3 ∨ k = 4 ∨ k = 5 by omega) with rfl | rfl | rfl | rfl | rfl | rfl
    · have f := hL.f0
      cases hv : kindB q s with
      | false =>
        have G := stop (by omega) hv
        clear step stop
        go_wp2_with (go_at_call 60; refine (kindIsOk_any _ _ _ _ _ _ _ _).mono ?_; rintro e w2 ⟨rfl, hb2⟩)
        go_ret
        exact ⟨by rw [G.out]; rfl, (hL.below hb2).old⟩
      | true =>
        have G := step _ hv
        clear step stop
        go_wp2_with (go_at_call 60; refine (kindIsOk_any _ _ _ _ _ _ _ _).mono ?_; rintro e w2 ⟨rfl, hb2⟩)
        go_roundw
        case rel => exact ⟨1, by omega, by go_num, hL.below hb2, G.out⟩
        case measure => simp [intOf]
    · have f := hL.f1
      cases hv : inB l.length 1 40 with
      | false =>
        have G := stop (by omega) hv
        clear step stop
        go_wp2_with (go_at_call 61; refine (stepCount_any _ _ _ _ _ _ _ _ hl).mono ?_; rintro e w2 ⟨rfl, hb2⟩)
        go_ret
        exact ⟨by rw [G.out]; rfl, (hL.below hb2).old⟩
      | true =>
        have G := step _ hv
        clear step stop
        go_wp2_with (go_at_call 61; refine (stepCount_any _ _ _ _ _ _ _ _ hl).mono ?_; rintro e w2 ⟨rfl, hb2⟩)
        go_roundw
        case rel => exact ⟨2, by omega, by go_num, hL.below hb2, G.out⟩
        case measure => simp [intOf]
    · have f := hL.f2
      cases hv : okTo l l.length with
      | false =>
        have G := stop (by omega) hv
        clear step stop
        go_wp2_with (go_at_call 62; refine (stepsAreOk_any _ _ _ _ _ b0 o _ _ _ hl hs1).mono ?_; rintro e w2 ⟨rfl, hb2⟩)
        go_ret
        exact ⟨by rw [G.out]; rfl, (hL.below hb2).old⟩
      | true =>
        have G := step _ hv
        clear step stop
        go_wp2_with (go_at_call 62; refine (stepsAreOk_any _ _ _ _ _ b0 o _ _ _ hl hs1).mono ?_; rintro e w2 ⟨rfl, hb2⟩)
        go_roundw
        case rel => exact ⟨3, by omega, by go_num, hL.below hb2, G.out⟩
        case measure => simp [intOf]
    · have f := hL.f3
      cases hv : folTo l (l.length - 1) with
      | false =>
        have G := stop (by omega) hv
        clear step stop
        go_wp2_with (go_at_call 63; refine (hF _ _ _ _ _ b0 o _ _ _ hl hs1).mono ?_; rintro e w2 ⟨rfl, hb2⟩)
        go_ret
        exact ⟨by rw [G.out]; rfl, (hL.below hb2).old⟩
      | true =>
        have G := step _ hv
        clear step stop
        go_wp2_with (go_at_call 63; refine (hF _ _ _ _ _ b0 o _ _ _ hl hs1).mono ?_; rintro e w2 ⟨rfl, hb2⟩)
        go_roundw
        case rel => exact ⟨4, by omega, by go_num, hL.below hb2, G.out⟩
        case measure => simp [intOf]
    · have f := hL.f4
      cases hv : ordB 0 fr b 10000 with
      | false =>
        have G := stop (by omega) hv
        clear step stop
        go_wp2_with (go_at_call 64; refine (endIsOk_any _ _ _ _ _ _ _ _).mono ?_; rintro e w2 ⟨rfl, hb2⟩)
        go_ret
        exact ⟨by rw [G.out]; rfl, (hL.below hb2).old⟩
      | true =>
        have G := step _ hv
        clear step stop
        go_wp2_with (go_at_call 64; refine (endIsOk_any _ _ _ _ _ _ _ _).mono ?_; rintro e w2 ⟨rfl, hb2⟩)
        go_roundw
        case rel => exact ⟨5, by omega, by go_num, hL.below hb2, G.out⟩
        case measure => simp [intOf]
    · clear step stop
      go_wp2
      go_ret
      exact ⟨by rw [← H5.out, HG.out]; rfl, hL.old⟩
end Go.Proofs.Ytfjlbgegjjdflaa

namespace Go.Proofs.Ytfjlbgegjjdflaa
open Go.RowKit Go.Shelf
attribute [local go_sem] Oper.semAt_some

/-- The j-th pair of steps. -/
def pairAt (l : List Stp) (j : Nat) : Stp × Stp := (l.getD j .zero, l.getD (j + 1) .zero)
/-- The first k pairs. -/
def pairsTo (l : List Stp) (k : Nat) : List (Stp × Stp) := (List.range k).map (pairAt l)
theorem pairsTo_succ (l : List Stp) (k : Nat) : pairsTo l (k + 1) = pairsTo l k ++ [pairAt l k] := by simp [pairsTo, List.range_succ]
theorem pairsTo_length (l : List Stp) (k : Nat) : (pairsTo l k).length = k := by simp [pairsTo]

abbrev encP (x : Stp × Stp) : Array Value := #[x.1.val, x.2.val]

set_option maxRecDepth 100000 in
set_option maxHeartbeats 2000000 in
theorem pairs1_in (n : Nat) (hn : 1 ≤ n) (lp Bs n₀ b0 o cap : Nat) (a : Option Addr) (l : List Stp) (hl : l.length ≤ 1048576) (hBs : Bs < n₀) (hb0 : l ≠ [] → b0 < n₀) (J Jx : List (Stp × Stp) → World → Prop) (hJ : ∀ s A, J s A → J s A.drew)
    (hY : ∀ pre x W, J pre W → pre.length < l.length → YieldAt Fence.wide (n - 1) Try.prog lp (encP x) W fun e W' =>
      (e = .returned (.bool true) ∧ J (pre ++ [x]) W' ∧ Below n₀ W W') ∨ (e = .returned (.bool false) ∧ Jx (pre ++ [x]) W'))
    (W : World) (hc : W.cell? ⟨Bs, 0, none⟩ = some (.slice a l.length cap)) (hs : StepsAt W a b0 o l) (h0 : J [] W) :
    CallsIn Fence.wide n Try.prog 85 #[.func (.yield lp) #[] #[], .pointer (some ⟨Bs, 0, none⟩)] W fun e W' => (∃ v, e = .returned v) ∧
      ((∃ ys, ys = pairsTo l (l.length - 1) ∧ J ys W') ∨ (∃ pre, (∃ k, k ≤ l.length - 1 ∧ pre = pairsTo l k) ∧ Jx pre W')) := by
  refine callsIn_of_wp Try.func85 rfl trivial ?_ rfl
  simp only [Try.ntmps85, List.size_toArray, List.length_cons, List.length_nil, Nat.reduceAdd, Nat.reduceSub, Array.replicate_succ, Array.replicate_zero, List.push_toArray, List.append_toArray, List.nil_append, List.cons_append]
  gi_wp2
  gi_loopw [3] (fun i wr => ∃ k : Nat, k ≤ l.length - 1 ∧ i = .int .i64 (k + 1 : Nat) ∧ J (pairsTo l k) wr ∧ Below n₀ W wr) (fun i _ => l.length - (intOf i).toNat)
  case atStart => exact ⟨0, Nat.zero_le _, rfl, h0, Below.refl _ _⟩
  case round =>
    obtain ⟨k, hk, rfl, hJs, hnx⟩ := hrel
    have hcx := (hnx.cell (p := ⟨Bs, 0, none⟩) hBs).trans hc
    by_cases hlt : k + 1 < l.length
    · obtain ⟨p, hpk⟩ : ∃ p, l[k]? = some p := ⟨l[k], List.getElem?_eq_getElem (by omega)⟩
      obtain ⟨t, htk⟩ : ∃ t, l[k + 1]? = some t := ⟨l[k + 1], List.getElem?_eq_getElem hlt⟩
      have hne : l ≠ [] := by intro e; subst e; simp at hlt
      obtain rfl := hs.here hne
      have hs' := hs.below hnx hb0
      obtain ⟨c0, c1, c2, c3, c4, c5, c6⟩ := hs'.seven hpk
      obtain ⟨d0, d1, d2, d3, d4, d5, d6⟩ := hs'.seven htk
      have HP : Hid (pairAt l k = (p, t)) := by show _ = _; simp [pairAt, List.getD, hpk, htk]
      obtain ⟨fn, tmps, assign, body, hy, hR⟩ := hY _ (p, t) wr.drew (hJ _ _ hJs) (by rw [pairsTo_length]; omega)
      dsimp only [encP] at hy
      have hR' := hR.mono (R' := fun e W' => ∃ bb : Bool, e = .returned (.bool bb) ∧ ((bb = true ∧ J (pairsTo l k ++ [(p, t)]) W' ∧ Below n₀ wr.drew W') ∨ (bb = false ∧ Jx (pairsTo l k ++ [(p, t)]) W'))) (by
        rintro e W' (⟨h1, h2, h3⟩ | ⟨h1, h2⟩)
        · exact ⟨true, h1, .inl ⟨rfl, h2, h3⟩⟩
        · exact ⟨false, h1, .inr ⟨rfl, h2⟩⟩)
      clear hpk htk hs' hY hR
      have k0 : (0 : Int) ≤ (k : Int) := by omega
      have k1 : (k : Int) + 1 < (l.length : Int) := by omega
      have k2 : (k : Int) < (l.length : Int) := by omega
      have k3 : k < l.length := by omega
      have k4 : (0 : Int) ≤ (k : Int) + 1 := by omega
      have k5 : IntKind.i64.wrap (k : Int) = (k : Int) := by rw [IntKind.wrap_i64]; omega
      gi_wp2
      gi_region_with (refine hR'.mono ?_; rintro e W3 ⟨bb, rfl, hor⟩)
      all_goals
        cases bb with
        | true =>
          obtain ⟨hJ3, hk3⟩ : J (pairsTo l k ++ [(p, t)]) W3 ∧ Below n₀ wr.drew W3 := by simpa using hor
          gi_wp2
          go_roundw
          case rel => exact ⟨k + 1, by omega, by go_num, by rw [pairsTo_succ, HP.out]; exact hJ3, hnx.drew.trans hk3⟩
          case measure => simp [intOf]; omega
        | false =>
          have hJx3 : Jx (pairsTo l k ++ [(p, t)]) W3 := by simpa using hor
          gi_wp2
          refine bodyPost_ret (results_none rfl _ _ _) rfl ?_
          exact ⟨⟨_, rfl⟩, .inr ⟨_, ⟨k + 1, by omega, by rw [pairsTo_succ, HP.out]⟩, hJx3⟩⟩
    · obtain rfl : k = l.length - 1 := by omega
      gi_wp2
      go_end0
      exact ⟨⟨_, rfl⟩, .inl ⟨_, rfl, hJs⟩⟩
end Go.Proofs.Ytfjlbgegjjdflaa

namespace Go.Proofs.Ytfjlbgegjjdflaa
open Go.RowKit Go.Shelf
attribute [local go_sem] Oper.semAt_some

set_option maxHeartbeats 1000000 in
theorem pairs_in (n : Nat) (a : Option Addr) (len cap : Nat) (w : World) :
    CallsIn Fence.wide n Try.prog 80 #[.slice a len cap] w fun e w' => e = .returned (.func (.func 85) #[] #[.pointer (some ⟨w.heap.size, 0, none⟩)]) ∧ w' = w.alloc (.cells #[.slice a len cap] 25) := by
  refine callsIn_of_wp Try.func80 rfl trivial ?_ rfl
  simp only [Try.ntmps80, List.size_toArray, List.length_cons, List.length_nil, Nat.reduceAdd, Nat.reduceSub, Array.replicate_succ, Array.replicate_zero, List.push_toArray, List.append_toArray, List.nil_append, List.cons_append]
  gi_wp2
  go_ret
  exact ⟨rfl, rfl⟩

theorem pairs_stops (n : Nat) (hn : 1 ≤ n) (Bs n₀ b0 o cap : Nat) (a : Option Addr) (l : List Stp) (hl : l.length ≤ 1048576) (w : World) (hBs : Bs < n₀) (hn₀ : n₀ ≤ w.heap.size)
    (hc : w.cell? ⟨Bs, 0, none⟩ = some (.slice a l.length cap)) (hs : StepsAt w a b0 o l) (hb0 : l ≠ [] → b0 < n₀) :
    SeqStopsK Fence.wide n Try.prog 85 #[.pointer (some ⟨Bs, 0, none⟩)] encP (Below n₀) (fun ys => ys = pairsTo l (l.length - 1)) (fun pre => ∃ k, k ≤ l.length - 1 ∧ pre = pairsTo l k) l.length w := fun lp J Jx W hW hJ _ hY h0 =>
  pairs1_in n hn lp Bs n₀ b0 o cap a l hl hBs hb0 J Jx (fun s A h => hJ s A A.drew none h ⟨rfl, rfl, rfl, Nat.le_refl _, fun _ _ _ => rfl⟩ (fun r e => by cases e)) hY W
    ((hW.cell (p := ⟨Bs, 0, none⟩) (Nat.lt_of_lt_of_le hBs hn₀)).trans hc) (hs.below hW (fun h => Nat.lt_of_lt_of_le (hb0 h) hn₀)) h0

/-- A block that holds one step. -/
def BoxS (W : World) (B : Nat) (s : Stp) : Prop := W.heap[B]? = some (.cells #[.int .i64 s.x, .int .i64 s.y, .int .i64 s.lo, .int .i64 s.hi, .int .i64 s.fr, .int .i64 s.by_, .bool s.ho] 65 (0, 0))
theorem BoxS.lt {W : World} {B : Nat} {s : Stp} (h : BoxS W B s) : B < W.heap.size := (Array.getElem?_eq_some_iff.1 h).1
theorem BoxS.kept {W W' : World} {row : Option Nat} {B : Nat} {s : Stp} (h : BoxS W B s) (hg : W.grownBy W' row) (hne : some B ≠ row) : BoxS W' B s := (hg.block B h.lt hne).trans h
theorem BoxS.alloc {W : World} {B : Nat} {s : Stp} (h : BoxS W B s) (ob : Obj) : BoxS (W.alloc ob) B s := (Below.heap_alloc W ob B h.lt).trans h
theorem BoxS.new (W : World) (s : Stp) : BoxS (W.alloc (.cells #[.int .i64 s.x, .int .i64 s.y, .int .i64 s.lo, .int .i64 s.hi, .int .i64 s.fr, .int .i64 s.by_, .bool s.ho] 65)) W.heap.size s := World.alloc_heap_new W _
theorem BoxS.own {X Y : World} {row : Option Nat} {B : Nat} {s : Stp} (h : BoxS X B s) (hg : X.grownBy Y row) (hr : ∀ r, row = some r → ∃ ob : Obj, X.heap[r]? = some ob ∧ ob.isCells = false) : BoxS Y B s :=
  h.kept hg (fun e' => by obtain ⟨ob, ho, hc⟩ := hr B e'.symm; rw [show X.heap[B]? = _ from h] at ho; cases ho; cases hc)
theorem BoxS.seven {W : World} {B : Nat} {s : Stp} (h : BoxS W B s) :
    W.cell? ⟨B, 0, none⟩ = some (.int .i64 s.x) ∧ W.cell? ⟨B, 1, none⟩ = some (.int .i64 s.y) ∧ W.cell? ⟨B, 2, none⟩ = some (.int .i64 s.lo) ∧ W.cell? ⟨B, 3, none⟩ = some (.int .i64 s.hi) ∧
    W.cell? ⟨B, 4, none⟩ = some (.int .i64 s.fr) ∧ W.cell? ⟨B, 5, none⟩ = some (.int .i64 s.by_) ∧ W.cell? ⟨B, 6, none⟩ = some (.bool s.ho) := by
  refine ⟨?_, ?_, ?_, ?_, ?_, ?_, ?_⟩ <;> simp [World.cell?, show W.heap[B]? = _ from h]

theorem keeps_below {W W' : World} (h : Below W.heap.size W W') : KeepsOthers W W' :=
  ⟨h.size, fun k _ hk _ => (h.block k (Array.getElem?_eq_some_iff.1 hk).1).trans hk⟩
theorem boxed_below {W W' : World} {B : Nat} {t : TypeId} {v : Value} (h : Boxed W B t v) (hb : Below W.heap.size W W') : Boxed W' B t v := (hb.block B h.lt).trans h

/-- A pair of which the second follows the first, as the program asks it. -/
def folP (x : Stp × Stp) : Bool := folB x.2.x x.2.y x.2.lo x.2.hi x.1.x x.1.y x.1.lo x.1.hi
theorem folTo_pairs (l : List Stp) (k : Nat) : folTo l k = (pairsTo l k).all folP := by
  simp only [folTo, pairsTo, List.all_map]
  rfl

set_option maxRecDepth 100000 in
set_option maxHeartbeats 4000000 in
theorem follow_any : FollowSaid := by
  intro q s fr b a b0 o cap l w hl hs
  refine (callsIn_wide (n := 4)).1 ?_
  refine callsIn_of_wp_marks Try.func63 rfl trivial ?_ rfl
  simp only [Try.ntmps63, List.size_toArray, List.length_cons, List.length_nil, Nat.reduceAdd, Nat.reduceSub, Array.replicate_succ, Array.replicate_zero, List.push_toArray, List.append_toArray, List.nil_append, List.cons_append]
  gi_wp2_with (refine ⟨trivial, ?_⟩; gi_at_call 80; refine (pairs_in _ _ _ _ _).mono ?_; rintro e w' ⟨rfl, rfl⟩)
  have bR := (Boxed.new (w.alloc (.cells #[.int .i64 q, .int .i64 s, .slice a l.length cap, .int .i64 fr, .int .i64 b] 27)) 4 (.bool false)).alloc (.cells #[.slice a l.length cap] 25)
  have bA := Boxed.new ((w.alloc (.cells #[.int .i64 q, .int .i64 s, .slice a l.length cap, .int .i64 fr, .int .i64 b] 27)).alloc (.cells #[.bool false] 4)) 25 (.slice a l.length cap)
  simp only [World.size_alloc] at bR bA
  have hB0 : Below w.heap.size w (((w.alloc (.cells #[.int .i64 q, .int .i64 s, .slice a l.length cap, .int .i64 fr, .int .i64 b] 27)).alloc (.cells #[.bool false] 4)).alloc (.cells #[.slice a l.length cap] 25)) := (((Below.refl _ w).alloc (Nat.le_refl _) _).alloc (by simp) _).alloc (by simp; omega) _
  have hsz : (((w.alloc (.cells #[.int .i64 q, .int .i64 s, .slice a l.length cap, .int .i64 fr, .int .i64 b] 27)).alloc (.cells #[.bool false] 4)).alloc (.cells #[.slice a l.length cap] 25)).heap.size = w.heap.size + 3 := by simp
  obtain ⟨W0, hW0⟩ : ∃ W0, (((w.alloc (.cells #[.int .i64 q, .int .i64 s, .slice a l.length cap, .int .i64 fr, .int .i64 b] 27)).alloc (.cells #[.bool false] 4)).alloc (.cells #[.slice a l.length cap] 25)) = W0 := ⟨_, rfl⟩
  rw [hW0] at bR bA hB0 hsz ⊢
  clear hW0
  refine wpIn_rangeFunc_ownH rfl (by omega) (gf := 85) (lb := #[.pointer (some ⟨w.heap.size + 1 + 1, 0, none⟩)]) rfl trivial (enters_of Try.func85 (by kernel_rfl) rfl)
    (pairs_stops _ (by omega) (w.heap.size + 1 + 1) W0.heap.size b0 o cap a l hl W0 (by omega) (Nat.le_refl _) bA.cell (hs.below hB0 hs.lt) (fun h => by have := hs.lt h; omega)) belowK_t (belowK_b (Nat.le_refl _)) (Below.refl _ _) (fun _ => rfl)
    (fun pre W => ((pre.all folP = true ∧ Boxed W (w.heap.size + 1) 4 (.bool false)) ∧ Boxed W (w.heap.size + 1 + 1) 25 (.slice a l.length cap)) ∧ Below w.heap.size w W)
    (fun c pre W => ((c = .ret ∧ pre.all folP = false) ∧ Boxed W (w.heap.size + 1) 4 (.bool false)) ∧ Below w.heap.size w W)
    (OwnFrom.and (OwnFrom.and (OwnFrom.and (ownFrom_pure _ _) (Own.from (boxed_own _ _ _) _)) (Own.from (boxed_own _ _ _) _)) (ownFrom_below (Nat.le_refl _) (by omega)))
    (fun c => OwnFrom.and (OwnFrom.and (ownFrom_pure _ _) (Own.from (boxed_own _ _ _) _)) (ownFrom_below (Nat.le_refl _) (by omega)))
    ⟨⟨⟨rfl, bR⟩, bA⟩, hB0⟩
    (fun x a' W => ∃ Bx By, w.heap.size + 1 < Bx ∧ w.heap.size + 1 < By ∧ BoxS W Bx x.1 ∧ BoxS W By x.2 ∧ a' = { tmps := #[.agg #[.int .i64 q, .int .i64 s, .slice a l.length cap, .int .i64 fr, .int .i64 b], .pointer (some ⟨w.heap.size, 0, none⟩), .pointer (some ⟨w.heap.size + 1, 0, none⟩), .pointer (some ⟨Bx, 0, none⟩), .pointer (some ⟨By, 0, none⟩), .pointer (some ⟨w.heap.size, 2, none⟩), .slice a l.length cap, .func (.func 85) #[] #[.pointer (some ⟨w.heap.size + 1 + 1, 0, none⟩)], x.1.val, x.2.val, undef, undef, undef, undef], defers := [] })
    (fun x a' _ X Y row hs' hg hr => by obtain ⟨Bx, By, h1, h2, h3, h4, h5⟩ := hs'; exact ⟨Bx, By, h1, h2, h3.own hg (fun r e => (hr r e).2), h4.own hg (fun r e => (hr r e).2), h5⟩)
    ?assign ?body ?done ?stop
  case assign =>
    rintro lp pre x W K ⟨⟨⟨hall, bR1⟩, bA1⟩, hB1⟩ hK
    have hW := bA1.lt
    gi_wp2
    exact hK _ _ (((KeepsOthers.alloc _ _).trans (KeepsOthers.alloc _ _)).from _) (((Below.refl _ W).alloc (by omega) _).alloc (by simp; omega) _) ⟨⟨⟨hall, (bR1.alloc _).alloc _⟩, (bA1.alloc _).alloc _⟩, (hB1.alloc hB1.size _).alloc (by simp; omega) _⟩
      ⟨W.heap.size, W.heap.size + 1, by omega, by omega, (BoxS.new W x.1).alloc _, by have := BoxS.new (W.alloc (.cells #[.int .i64 x.1.x, .int .i64 x.1.y, .int .i64 x.1.lo, .int .i64 x.1.hi, .int .i64 x.1.fr, .int .i64 x.1.by_, .bool x.1.ho] 65)) x.2; simpa using this, rfl⟩
  case body =>
    rintro lp pre x a' W _ _ ⟨⟨⟨hall, bR1⟩, bA1⟩, hB1⟩ ⟨Bx, By, hBx, hBy, bX, bY, rfl⟩ hlt
    obtain ⟨c0, c1, c2, c3, c4, c5, c6⟩ := bX.seven
    obtain ⟨d0, d1, d2, d3, d4, d5, d6⟩ := bY.seven
    have hW := bA1.lt
    have HA : Hid (pre.all folP = true) := hall
    clear hall
    cases hf : folB x.2.x x.2.y x.2.lo x.2.hi x.1.x x.1.y x.1.lo x.1.hi with
    | false =>
      have HE : Hid ((pre ++ [x]).all folP = false) := by show _ = _; rw [List.all_append, HA.out]; simp [folP, hf]
      gi_wp2_with (refine ⟨trivial, ?_⟩; gi_at_call 81; refine (CallsIn.inRound lp (callsIn_wide.2 (follows_any _ _ _ _ _ _ _ _ _ _ _ _ _ _ _))).mono ?_; rintro e w2 ⟨rfl, hb2⟩; have rc := (boxed_below bR1 hb2).cell; have rf := (boxed_below bR1 hb2).frozen)
      exact ⟨((keeps_below hb2).trans (KeepsOthers.setCell _ _ _)).from _, ⟨⟨rfl, HE.out⟩, (boxed_below bR1 hb2).set _⟩, (hB1.trans (hb2.mono hB1.size)).setCell (p := ⟨w.heap.size + 1, 0, none⟩) (by simp) _⟩
    | true =>
      have HE : Hid ((pre ++ [x]).all folP = true) := by show _ = _; rw [List.all_append, HA.out]; simp [folP, hf]
      gi_wp2_with (refine ⟨trivial, ?_⟩; gi_at_call 81; refine (CallsIn.inRound lp (callsIn_wide.2 (follows_any _ _ _ _ _ _ _ _ _ _ _ _ _ _ _))).mono ?_; rintro e w2 ⟨rfl, hb2⟩)
      exact ⟨(keeps_below hb2).from _, hb2.mono (by omega), ⟨⟨HE.out, boxed_below bR1 hb2⟩, boxed_below bA1 hb2⟩, hB1.trans (hb2.mono hB1.size)⟩
  case done =>
    rintro D zs W hD rfl ⟨⟨⟨hall, bR1⟩, bA1⟩, hB1⟩ hK
    have rc := bR1.cell
    have rf := bR1.frozen
    have HE : Hid (folTo l (l.length - 1) = true) := by show _ = _; rw [folTo_pairs]; exact hall
    clear hall
    gi_wp2
    have hK' := (KeepsOthers.setCell W ⟨w.heap.size + 1, 0, none⟩ (.bool true)).same D _ hK rfl
    refine ⟨by simp, .inl ⟨_, _, rfl, run_takeDeferred hK', ?_⟩⟩
    have hc5 := cell_kept (World.cell?_setCell_same' W ⟨w.heap.size + 1, 0, none⟩ (.bool true) (by rw [rc]; rfl)) (grownBy_putObj' _ D (.deferred none)) (fun r e => by cases e; exact ⟨_, hK', rfl⟩)
    refine ⟨.bool true, ?_, by rw [HE.out], (hB1.setCell (p := ⟨w.heap.size + 1, 0, none⟩) (by simp) _).trans (belowK_b (w := w) (Nat.le_refl _) _ D _ _ (by omega) hK' rfl rfl)⟩
    simp [results, Try.f63, go_sem, hc5]
  case stop =>
    rintro D c pre W hD ⟨k, hk, rfl⟩ ⟨⟨⟨rfl, hbad⟩, bR1⟩, hB1⟩ hK
    have HE : Hid (folTo l (l.length - 1) = false) := by
      show _ = _
      rw [← folTo_pairs] at hbad
      cases e : folTo l (l.length - 1) with
      | false => rfl
      | true =>
        exfalso
        simp only [folTo, List.all_eq_true, List.mem_range] at e
        have : folTo l k = true := by simp only [folTo, List.all_eq_true, List.mem_range]; exact fun i hi => e i (by omega)
        rw [this] at hbad
        cases hbad
    clear hbad
    gi_wp2
    refine ⟨by simp, .inl ⟨_, _, rfl, run_takeDeferred hK, ?_⟩⟩
    have hc5 := cell_kept bR1.cell (grownBy_putObj' _ D (.deferred none)) (fun r e => by cases e; exact ⟨_, hK, rfl⟩)
    refine ⟨.bool false, ?_, by rw [HE.out], hB1.trans (belowK_b (w := w) (Nat.le_refl _) W D _ _ (by omega) hK rfl rfl)⟩
    simp [results, Try.f63, go_sem, hc5]
end Go.Proofs.Ytfjlbgegjjdflaa
