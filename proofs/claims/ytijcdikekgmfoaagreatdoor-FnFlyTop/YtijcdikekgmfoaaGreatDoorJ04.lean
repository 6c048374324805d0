/- Joined texts: Draw2, NextImpl, NextSpec2, NextImpl2, GoData, LawSpec2, LawSpec3, GoSpec, SpanSpec2, Ends, Draw3, Draw40, WfAllow, EndMath, NextMath. -/
import Derived.Maps.AppendAt
import Derived.Deep.RegionHeld3
import Derived.BigQuiet
import Derived.Test.YtijcdikekgmfoaaGreatDoorJ03
import Derived.Test.YtijcdikekgmfoaaGreatDoorNextData
import Derived.Test.YtijcdikekgmfoaaGreatDoorSpanLeaf
import Derived.Test.YtijcdikekgmfoaaGreatDoorLawImpl
import Derived.Test.YtijcdikekgmfoaaGreatDoorSpanBack
import Derived.Test.YtijcdikekgmfoaaGreatDoorLast
import Derived.Test.YtijcdikekgmfoaaGreatDoorGrownMore
import Derived.Test.YtijcdikekgmfoaaGreatDoorNextSpec
import Derived.Test.YtijcdikekgmfoaaGreatDoorFollow2
import Derived.Test.YtijcdikekgmfoaaGreatDoorLawSpec
import Derived.Test.YtijcdikekgmfoaaGreatDoorBoxP
import Derived.Test.YtijcdikekgmfoaaGreatDoorSpanSpec
import Derived.Test.YtijcdikekgmfoaaGreatDoorSpanSaid
import Derived.Test.YtijcdikekgmfoaaGreatDoorSpanMath
import Derived.Test.YtijcdikekgmfoaaGreatDoorIntsAt
import Derived.Test.YtijcdikekgmfoaaGreatDoorLawData
import Derived.Test.YtijcdikekgmfoaaGreatDoorFlightMath
namespace Go.Proofs.YtijcdikekgmfoaaGreatDoor
open Go.RowKit

theorem spoil_draw (B : Nat) (R : Rdr) (p : Nat) (q s fr b : Int) (a : Option Addr) (b0 o cap : Nat) (l : List Stp) (w : World) (h : RdAt w B R p) (hp : p ≤ 999900000) (hl0 : 1 ≤ l.length) (hl : l.length ≤ 40) (hs : StepsAt w a b0 o l) :
    Calls Tryz.prog 78 #[.pointer (some ⟨B, 0, none⟩), .agg #[.int .i64 q, .int .i64 s, .slice a l.length cap, .int .i64 fr, .int .i64 b]] w (SpoilPost w B R p) := by
  obtain ⟨h1, h2⟩ := pickV_range (n := 12) h.rng (show p + 1 ≤ 1000000000 by omega) (by omega)
  have h3 : pickV R (p + 1) 12 = 0 ∨ pickV R (p + 1) 12 = 1 ∨ pickV R (p + 1) 12 = 2 ∨ pickV R (p + 1) 12 = 3 ∨ pickV R (p + 1) 12 = 4 ∨ pickV R (p + 1) 12 = 5 ∨ pickV R (p + 1) 12 = 6 ∨ pickV R (p + 1) 12 = 7 ∨ pickV R (p + 1) 12 = 8 ∨ pickV R (p + 1) 12 = 9 ∨ pickV R (p + 1) 12 = 10 ∨ pickV R (p + 1) 12 = 11 := by omega
  rcases h3 with e | e | e | e | e | e | e | e | e | e | e | e
  · exact spoil_0 B R p q s fr b a b0 o cap l w h hp hl0 hl hs e
  · exact spoil_1 B R p q s fr b a b0 o cap l w h hp hl0 hl hs e
  · exact spoil_2 B R p q s fr b a b0 o cap l w h hp hl0 hl hs e
  · exact spoil_3 B R p q s fr b a b0 o cap l w h hp hl0 hl hs e
  · exact spoil_4 B R p q s fr b a b0 o cap l w h hp hl0 hl hs e
  · exact spoil_5 B R p q s fr b a b0 o cap l w h hp hl0 hl hs e
  · exact spoil_6 B R p q s fr b a b0 o cap l w h hp hl0 hl hs e
  · exact spoil_7 B R p q s fr b a b0 o cap l w h hp hl0 hl hs e
  · exact spoil_8 B R p q s fr b a b0 o cap l w h hp hl0 hl hs e
  · exact spoil_9 B R p q s fr b a b0 o cap l w h hp hl0 hl hs e
  · exact spoil_10 B R p q s fr b a b0 o cap l w h hp hl0 hl hs e
  · exact spoil_11 B R p q s fr b a b0 o cap l w h hp hl0 hl hs e

/-- What a path that is drawn late comes to. -/
def LatePost (w : World) (pv : Value) (e : Ending) (w' : World) : Prop :=
  Below w.heap.size w w' ∧ (e = .returned pv ∨ ∃ q s fr b g gc l, e = .returned (.agg #[.int .i64 q, .int .i64 s, .slice (some ⟨g, 0, none⟩) l.length gc, .int .i64 fr, .int .i64 b]) ∧ l.length ≤ 41 ∧
    w'.ownsRow w.heap.size 44 7 (.slice (some ⟨g, 0, none⟩) l.length gc) l.length (stepCells l))

theorem shift_any (q s fr b d : Int) (a : Option Addr) (b0 o cap : Nat) (l : List Stp) (w : World) (hl : l.length ≤ 1048576) (hs : StepsAt w a b0 o l) :
    Calls Tryz.prog 116 #[.agg #[.int .i64 q, .int .i64 s, .slice a l.length cap, .int .i64 fr, .int .i64 b], .int .i64 d] w
      fun e w' => Below w.heap.size w w' ∧ ((shiftB q s fr b l d = false ∧ e = .returned (.tuple #[.agg #[.int .i64 0, .int .i64 0, .slice none 0 0, .int .i64 0, .int .i64 0], .bool false])) ∨
        (shiftB q s fr b l d = true ∧ ∃ g gc, e = .returned (.tuple #[.agg #[.int .i64 q, .int .i64 s, .slice (some ⟨g, 0, none⟩) l.length gc, .int .i64 (fr + d), .int .i64 (b + d)], .bool true]) ∧
          w'.ownsRow w.heap.size 44 7 (.slice (some ⟨g, 0, none⟩) l.length gc) l.length (stepCells (laterL d l)))) := by
  cases h1 : pathB q s fr b l with
  | false =>
    have hf : shiftB q s fr b l d = false := by unfold shiftB; rw [h1]; rfl
    refine (shift_no hf a b0 o cap w hl hs (.inl h1)).mono ?_
    rintro e w' ⟨rfl, hb⟩
    exact ⟨hb, .inl ⟨hf, rfl⟩⟩
  | true =>
    cases h2 : inB d (-10000) 10000 with
    | false =>
      have hf : shiftB q s fr b l d = false := by unfold shiftB; rw [h1, h2]; rfl
      refine (shift_no hf a b0 o cap w hl hs (.inr h2)).mono ?_
      rintro e w' ⟨rfl, hb⟩
      exact ⟨hb, .inl ⟨hf, rfl⟩⟩
    | true =>
      have hf : shiftB q s fr b l d = pathB q s (fr + d) (b + d) (laterL d l) := by unfold shiftB; rw [h1, h2]; rfl
      refine (shift_yes q s fr b d a b0 o cap l w hs h1 h2).mono ?_
      rintro e w' (⟨h3, rfl, hb⟩ | ⟨h3, g, gc, rfl, ho, hb⟩)
      · exact ⟨hb, .inl ⟨hf.trans h3, rfl⟩⟩
      · exact ⟨hb, .inr ⟨hf.trans h3, g, gc, rfl, ho⟩⟩

set_option maxRecDepth 20000 in
set_option maxHeartbeats 4000000 in
theorem late_draw (q s fr b : Int) (a : Option Addr) (b0 o cap : Nat) (l : List Stp) (w : World) (hl : l.length ≤ 40) (hs : StepsAt w a b0 o l) :
    Calls Tryz.prog 87 #[.agg #[.int .i64 q, .int .i64 s, .slice a l.length cap, .int .i64 fr, .int .i64 b]] w (LatePost w (.agg #[.int .i64 q, .int .i64 s, .slice a l.length cap, .int .i64 fr, .int .i64 b])) := by
  have Q0 := PathAt.new w q s fr b (.slice a l.length cap)
  have Q1 := Q0.keep ((Below.refl _ _).alloc (Nat.le_refl _) (.cells #[.int .i64 0, .int .i64 0, .slice none 0 0, .int .i64 0, .int .i64 0] 27)) Q0.lt
  have P1 := PathAt.new (w.alloc (.cells #[.int .i64 q, .int .i64 s, .slice a l.length cap, .int .i64 fr, .int .i64 b] 27)) 0 0 0 0 (.slice none 0 0)
  rw [World.size_alloc] at P1
  have B1 : Below w.heap.size w ((w.alloc (.cells #[.int .i64 q, .int .i64 s, .slice a l.length cap, .int .i64 fr, .int .i64 b] 27)).alloc (.cells #[.int .i64 0, .int .i64 0, .slice none 0 0, .int .i64 0, .int .i64 0] 27)) := ((Below.refl _ _).alloc (Nat.le_refl _) _).alloc (by simp) _
  go_enter Tryz.func87, Tryz.ntmps87
  go_wp2
  go_loopw [3, 4] (fun s3 s4 wr => ∃ (m : Int) (k : Nat), s3 = .int .i64 m ∧ s4 = .int .i64 (k : Int) ∧ k ≤ l.length ∧ Below w.heap.size w wr ∧ PathAt wr w.heap.size q s fr b (.slice a l.length cap) ∧ PathAt wr (w.heap.size + 1) 0 0 0 0 (.slice none 0 0)) (fun _ s4 _ => l.length - (intOf s4).toNat)
  case atStart => exact ⟨b, 0, rfl, rfl, by omega, B1, Q1, P1⟩
  case round =>
    obtain ⟨m, k, rfl, rfl, hk, B2, Q2, P2⟩ := hrel
    clear Q0 Q1 P1 B1
    obtain ⟨⟨e0, e1, e2, e3, e4⟩, ef⟩ := Q2.cells
    by_cases hlt : k < l.length
    · obtain ⟨t, ht⟩ : ∃ t, l[k]? = some t := ⟨_, List.getElem?_eq_getElem hlt⟩
      have hne : l ≠ [] := by intro e; rw [e] at hlt; simp at hlt
      obtain rfl := hs.here hne
      have hs2 := hs.below B2 hs.lt
      obtain ⟨x0, x1, x2, x3, x4, x5, x6⟩ := hs2.seven ht
      have k0 : (0 : Int) ≤ (k : Int) := by omega
      have k1 : (k : Int) < (l.length : Int) := by omega
      go_wp2_with fail
      refine (max_any m t.by_ _).mono ?_
      rintro e wx ⟨rfl, rfl⟩
      generalize mxB m t.by_ = m2
      go_wp2
      go_roundw
      case rel => exact ⟨m2, k + 1, rfl, by simp, by omega, B2, Q2, P2⟩
      case measure => simp [intOf]; omega
    · obtain rfl : k = l.length := by omega
      go_wp2_with fail
      generalize wrap64 (10000 - m) = d
      refine (shift_any q s fr b d a b0 o cap l _ (by omega) (hs.below B2 hs.lt)).mono ?_
      rintro e w3 ⟨hb3, hor⟩
      have Q3 := Q2.keep hb3 Q2.lt
      have P3 := P2.keep hb3 P2.lt
      have B3 := B2.trans (hb3.mono B2.size)
      have hz2 := B2.size
      have hpl2 := P2.lt
      have hz3 := B3.size
      clear e0 e1 e2 e3 e4 ef Q2 P2
      rcases hor with ⟨h1, rfl⟩ | ⟨h1, g, gc, rfl, ho⟩
      · obtain ⟨⟨e0, e1, e2, e3, e4⟩, ef⟩ := Q3.cells
        obtain ⟨⟨f0, f1, f2, f3, f4⟩, ff⟩ := P3.cells
        have hq3 := Q3.lt
        have hp3 := P3.lt
        clear h1
        go_wp2
        refine bodyPost_ret (v := .agg #[.int .i64 q, .int .i64 s, .slice a l.length cap, .int .i64 fr, .int .i64 b]) (by simp [results, Tryz.results87, go_sem, *]) rfl ⟨?_, .inl rfl⟩
        refine Below.alloc ?_ (by simp [World.setCell]; omega) _
        iterate 5 (refine Below.setCell ?_ (by show _ ≤ w.heap.size + 1; omega) _)
        exact B3
      · obtain ⟨⟨e0, e1, e2, e3, e4⟩, ef⟩ := Q3.cells
        obtain ⟨⟨f0, f1, f2, f3, f4⟩, ff⟩ := P3.cells
        have hq3 := Q3.lt
        have hp3 := P3.lt
        clear h1
        have hll : (laterL d l).length = l.length := by simp [laterL]
        have HL : Hid ((laterL d l).length = l.length) := hll
        clear hll
        go_wp2
        refine bodyPost_ret (v := .agg #[.int .i64 q, .int .i64 s, .slice (some ⟨g, 0, none⟩) l.length gc, .int .i64 (fr + d), .int .i64 (b + d)]) (by simp [results, Tryz.results87, go_sem, *]) rfl ⟨?_, .inr ⟨q, s, fr + d, b + d, g, gc, laterL d l, by rw [HL.out], by rw [HL.out]; omega, ?_⟩⟩
        · refine Below.alloc ?_ (by simp [World.setCell]; omega) _
          iterate 5 (refine Below.setCell ?_ (by show _ ≤ w.heap.size + 1; omega) _)
          exact B3
        · rw [HL.out]
          have hh : ∀ k, (Value.slice (some ⟨g, 0, none⟩) l.length gc).ownBlock = some k → k ≠ w.heap.size + 1 := fun k e => by have := owns_base ho k e; omega
          refine owns_below ?_ ((Below.refl _ _).alloc (Nat.le_refl _) _)
          iterate 5 (refine owns_set ?_ hh _ _)
          exact ⟨ho.1, ho.2.imp id fun ⟨g, cap, cur, h1, h2, h3⟩ => ⟨g, cap, cur, h1, by omega, h3⟩⟩

/-- Steps that lie in a block of steps. -/
structure StepsIn (w : World) (a : Option Addr) (b o : Nat) (l : List Stp) : Prop where
  st : StepsAt w a b o l
  ty : l ≠ [] → ∃ cur, w.heap[b]? = some (.cells cur 44 (0, 0))

/-- What a drawn path comes to. -/
def AnyPost (w : World) (B : Nat) (R : Rdr) (p : Nat) (e : Ending) (w' : World) : Prop :=
  ∃ q s fr b a b0 o cap l p', e = .returned (.agg #[.int .i64 q, .int .i64 s, .slice a l.length cap, .int .i64 fr, .int .i64 b]) ∧ l.length ≤ 41 ∧ StepsIn w' a b0 o l ∧ (l ≠ [] → w.heap.size ≤ b0) ∧ p' ≤ p + 5300 ∧ RdW w w' B R p'

theorem steps_of_owned {w : World} {base n : Nat} {v : Value} {l : List Stp} (h : w.ownsRow base 44 7 v n (stepCells l)) (hn : n = l.length) : ∃ a b0 o cap, v = .slice a l.length cap ∧ StepsIn w a b0 o l ∧ (l ≠ [] → base ≤ b0) := by
  subst hn
  rcases h.2 with ⟨rfl, h0⟩ | ⟨g, cap, cur, rfl, hg, hh, _⟩
  · have hl : l = [] := List.eq_nil_of_length_eq_zero h0
    subst hl
    exact ⟨none, 0, 0, 0, rfl, ⟨⟨fun h => absurd rfl h, fun h => absurd rfl h, fun i t hi => by simp at hi⟩, fun h => absurd rfl h⟩, fun h => absurd rfl h⟩
  · exact ⟨_, g, 0, cap, rfl, ⟨steps_owned h, fun _ => ⟨cur, hh⟩⟩, fun _ => hg⟩
theorem StepsAt.grown {w w' : World} {a : Option Addr} {b o : Nat} {l : List Stp} {row : Option Nat} (h : StepsAt w a b o l) (hg : w.grownBy w' row) (hr : l ≠ [] → row ≠ some b) : StepsAt w' a b o l where
  here := h.here
  lt hl := Nat.lt_of_lt_of_le (h.lt hl) hg.size
  cell i s hi j v hv := by
    have hne : l ≠ [] := by intro e; subst e; simp at hi
    rw [World.cell?_of_block (w := w) (a := ⟨b, o + i * 7 + j, none⟩) (hg.block b (h.lt hne) (fun e => hr hne e.symm))]
    exact h.cell i s hi j v hv

theorem StepsIn.grown {w w' : World} {a : Option Addr} {b o : Nat} {l : List Stp} {row : Option Nat} (h : StepsIn w a b o l) (hg : w.grownBy w' row) (hr : l ≠ [] → row ≠ some b) : StepsIn w' a b o l :=
  ⟨h.st.grown hg hr, fun hl => by
    obtain ⟨cur, hc⟩ := h.ty hl
    exact ⟨cur, (hg.block b (lt_of_block hc) (fun e => hr hl e.symm)).trans hc⟩⟩
theorem StepsIn.below {w w' : World} {a : Option Addr} {b o : Nat} {l : List Stp} (h : StepsIn w a b o l) (hb : Below w.heap.size w w') : StepsIn w' a b o l :=
  h.grown (row := none) ⟨hb.os, hb.tape, hb.output, hb.size, fun k hk _ => hb.block k hk⟩ (fun _ e => by cases e)
theorem StepsIn.alloc {w : World} {a : Option Addr} {b o : Nat} {l : List Stp} (h : StepsIn w a b o l) (ob : Obj) : StepsIn (w.alloc ob) a b o l := h.below ((Below.refl _ _).alloc (Nat.le_refl _) ob)
theorem StepsIn.put {w : World} {a : Option Addr} {b o : Nat} {l : List Stp} (h : StepsIn w a b o l) {k j : Nat} (hk : l ≠ [] → k ≠ b) (v : Value) : StepsIn (w.setCell ⟨k, j, none⟩ v) a b o l :=
  h.grown (grown_set w ⟨k, j, none⟩ v) (fun hl e => hk hl (by cases e; rfl))

def AnyPostC (w : World) (B : Nat) (R : Rdr) (p : Nat) (e : Ending) (w' : World) : Prop :=
  ∃ q s fr b a b0 o cap l p', e = .returned (.agg #[.int .i64 q, .int .i64 s, .slice a l.length cap, .int .i64 fr, .int .i64 b]) ∧ l.length ≤ 41 ∧ StepsIn w' a b0 o l ∧ (l ≠ [] → w.heap.size ≤ b0) ∧ p' ≤ p + 5300 ∧ RdW w w' B R p' ∧ l.length ≤ cap
theorem steps_of_ownedC {w : World} {base n : Nat} {v : Value} {l : List Stp} (h : w.ownsRow base 44 7 v n (stepCells l)) (hn : n = l.length) : ∃ a b0 o cap, v = .slice a l.length cap ∧ l.length ≤ cap ∧ StepsIn w a b0 o l ∧ (l ≠ [] → base ≤ b0) := by
  subst hn
  rcases h.2 with ⟨rfl, h0⟩ | ⟨g, cap, cur, rfl, hg, hh, hc, _⟩
  · have hl : l = [] := List.eq_nil_of_length_eq_zero h0
    subst hl
    exact ⟨none, 0, 0, 0, rfl, Nat.le_refl _, ⟨⟨fun h => absurd rfl h, fun h => absurd rfl h, fun i t hi => by simp at hi⟩, fun h => absurd rfl h⟩, fun h => absurd rfl h⟩
  · exact ⟨_, g, 0, cap, rfl, hc, ⟨steps_owned h, fun _ => ⟨cur, hh⟩⟩, fun _ => hg⟩

set_option maxRecDepth 20000 in
set_option maxHeartbeats 4000000 in
theorem any_drawC (B : Nat) (R : Rdr) (p : Nat) (w : World) (h : RdAt w B R p) (hp : p ≤ 999800000) :
    Calls Tryz.prog 34 #[.pointer (some ⟨B, 0, none⟩)] w (AnyPostC w B R p) := by
  have hB := lt_of_block h.blk
  have R0 := (RdW.refl h).alloc (.cells #[.int .i64 0, .int .i64 0, .slice none 0 0, .int .i64 0, .int .i64 0] 27)
  have P0 := PathAt.new w 0 0 0 0 (.slice none 0 0)
  go_enter Tryz.func34, Tryz.ntmps34
  go_wp2_with fail
  refine (path_draw B R p _ R0.rd (by omega)).mono ?_
  rintro e w1 ⟨q, s, fr, b, v, l, p1, rfl, hl1, hl2, ho1, hp1, R1'⟩
  have R1 := R0.more R1'.rd R1'.gr
  have P1 := P0.grown R1'.gr (by simp; omega)
  obtain ⟨a, b0, o, cap, rfl, hcap, hs1, hb0⟩ := steps_of_ownedC ho1 rfl
  have hne : l ≠ [] := by intro e; rw [e] at hl1; simp at hl1
  have hb1 := hb0 hne
  rw [World.size_alloc] at hb1
  obtain rfl := hs1.st.here hne
  clear R1' R0 P0 ho1 hb0
  have Q2 := PathAt.new w1 q s fr b (.slice (some ⟨b0, o, none⟩) l.length cap)
  have hz1 := P1.lt
  have R2 := R1.alloc (.cells #[.int .i64 q, .int .i64 s, .slice (some ⟨b0, o, none⟩) l.length cap, .int .i64 fr, .int .i64 b] 27)
  have P2 := P1.keep ((Below.refl _ _).alloc (Nat.le_refl _) (.cells #[.int .i64 q, .int .i64 s, .slice (some ⟨b0, o, none⟩) l.length cap, .int .i64 fr, .int .i64 b] 27)) P1.lt
  have hs2 := hs1.alloc (.cells #[.int .i64 q, .int .i64 s, .slice (some ⟨b0, o, none⟩) l.length cap, .int .i64 fr, .int .i64 b] 27)
  go_wp2_with fail
  refine (pick_any B R p1 12 _ R2.rd (by omega)).mono ?_
  rintro e w3 ⟨rfl, r3, g3, s3⟩
  have R3 := R2.more r3 g3
  have P3 := P2.grown g3 (by simp; omega)
  have Q3 := Q2.grown g3 (by simp; omega)
  have hs3 := hs2.grown g3 (fun _ => by simp; omega)
  clear R1 R2 P1 P2 Q2 hs1 hs2 r3 g3 s3
  generalize w1.heap.size = X at *
  generalize pickV R p1 12 = m
  obtain ⟨⟨e0, e1, e2, e3, e4⟩, ef⟩ := Q3.cells
  have hX : X ≠ w.heap.size := by omega
  by_cases h0 : m = 0
  · subst h0
    go_wp2_with fail
    refine (spoil_draw B R (p1 + 1) q s fr b (some ⟨b0, o, none⟩) b0 o cap l _ R3.rd (by omega) hl1 hl2 hs3.st).mono ?_
    rintro e w4 ⟨q', s', fr', b', v', l', p4, rfl, hl4, ho4, hp4, R4'⟩
    have R4 := R3.more R4'.rd R4'.gr
    have P4 := P3.grown R4'.gr (by simp; omega)
    have hz3 := P3.lt
    obtain ⟨a', c0, o', cap', rfl, hcap4, hs4, hc0⟩ := steps_of_ownedC ho4 rfl
    clear R4' ho4 Q3 P3 R3 e0 e1 e2 e3 e4 ef
    obtain ⟨⟨f0, f1, f2, f3, f4⟩, ff⟩ := P4.cells
    go_wp2
    refine bodyPost_ret (v := .agg #[.int .i64 q', .int .i64 s', .slice a' l'.length cap', .int .i64 fr', .int .i64 b']) (by simp [results, Tryz.results34, go_sem, *]) rfl ⟨q', s', fr', b', a', c0, o', cap', l', p4, rfl, hl4, ?_, fun h => by have := hc0 h; have := R4.size; omega, by omega, ?_, hcap4⟩
    · iterate 5 (refine StepsIn.put ?_ (fun h => by have := hc0 h; omega) _)
      exact hs4
    · iterate 5 (refine RdW.set ?_ (Nat.le_refl _) _ _)
      exact R4
  · have g0 : (m == 0) = false := beq_eq_false_iff_ne.2 h0
    by_cases h1 : m = 1
    · subst h1
      clear g0 h0
      go_wp2_with fail
      refine (late_draw q s fr b (some ⟨b0, o, none⟩) b0 o cap l _ hl2 hs3.st).mono ?_
      rintro e w4 ⟨hb4, hor⟩
      have R4 := R3.below hb4
      have P4 := P3.keep hb4 P3.lt
      have hz3 := P3.lt
      have hs4 := hs3.below hb4
      clear Q3 P3 e0 e1 e2 e3 e4 ef
      obtain ⟨⟨f0, f1, f2, f3, f4⟩, ff⟩ := P4.cells
      rcases hor with rfl | ⟨q', s', fr', b', g, gc, l', rfl, hl4, ho4⟩
      · go_wp2
        refine bodyPost_ret (v := .agg #[.int .i64 q, .int .i64 s, .slice (some ⟨b0, o, none⟩) l.length cap, .int .i64 fr, .int .i64 b]) (by simp [results, Tryz.results34, go_sem, *]) rfl ⟨q, s, fr, b, _, b0, o, cap, l, p1 + 1, rfl, by omega, ?_, fun _ => by omega, by omega, ?_, hcap⟩
        · iterate 5 (refine StepsIn.put ?_ (fun h => by omega) _)
          exact hs4
        · iterate 5 (refine RdW.set ?_ (Nat.le_refl _) _ _)
          exact R4
      · have hg := owns_base ho4 g rfl
        have hcap4 : l'.length ≤ gc := by
          rcases ho4.2 with ⟨h0, _⟩ | ⟨g', cap', cur, h1, _, _, hn, _⟩
          · cases h0
          · cases h1; exact hn
        have hs5 : StepsIn w4 (some ⟨g, 0, none⟩) g 0 l' := ⟨steps_owned ho4, fun _ => by
          rcases ho4.2 with ⟨h0, _⟩ | ⟨g', cap', cur, h1, _, hh, _⟩
          · cases h0
          · cases h1; exact ⟨cur, hh⟩⟩
        clear ho4
        go_wp2
        refine bodyPost_ret (v := .agg #[.int .i64 q', .int .i64 s', .slice (some ⟨g, 0, none⟩) l'.length gc, .int .i64 fr', .int .i64 b']) (by simp [results, Tryz.results34, go_sem, *]) rfl ⟨q', s', fr', b', _, g, 0, gc, l', p1 + 1, rfl, hl4, ?_, fun _ => by omega, by omega, ?_, hcap4⟩
        · iterate 5 (refine StepsIn.put ?_ (fun h => by omega) _)
          exact hs5
        · iterate 5 (refine RdW.set ?_ (Nat.le_refl _) _ _)
          exact R4
    · have g1 : (m == 1) = false := beq_eq_false_iff_ne.2 h1
      obtain ⟨⟨f0, f1, f2, f3, f4⟩, ff⟩ := P3.cells
      go_wp2
      refine bodyPost_ret (v := .agg #[.int .i64 q, .int .i64 s, .slice (some ⟨b0, o, none⟩) l.length cap, .int .i64 fr, .int .i64 b]) (by simp [results, Tryz.results34, go_sem, *]) rfl ⟨q, s, fr, b, _, b0, o, cap, l, p1 + 1, rfl, by omega, ?_, fun _ => by omega, by omega, ?_, hcap⟩
      · iterate 5 (refine StepsIn.put ?_ (fun h => by omega) _)
        exact hs3
      · iterate 5 (refine RdW.set ?_ (Nat.le_refl _) _ _)
        exact R3
theorem any_draw (B : Nat) (R : Rdr) (p : Nat) (w : World) (h : RdAt w B R p) (hp : p ≤ 999800000) :
    Calls Tryz.prog 34 #[.pointer (some ⟨B, 0, none⟩)] w (AnyPost w B R p) :=
  (any_drawC B R p w h hp).mono fun _ _ ⟨q, s, fr, b, a, b0, o, cap, l, p', h1, h2, h3, h4, h5, h6, _⟩ => ⟨q, s, fr, b, a, b0, o, cap, l, p', h1, h2, h3, h4, h5, h6⟩
end Go.Proofs.YtijcdikekgmfoaaGreatDoor

namespace Go.Proofs.YtijcdikekgmfoaaGreatDoor
open Go.RowKit

theorem isIn_any (x1 x2 y1 y2 : Int) (w : World) :
    Calls Tryz.prog 104 #[.agg #[.int .i64 x1, .int .i64 x2], .agg #[.int .i64 y1, .int .i64 y2]] w fun e w' => e = .returned (.bool (decide (y1 ≤ x1) && decide (x2 ≤ y2))) ∧ Below w.heap.size w w' := by
  go_enter Tryz.func104, Tryz.ntmps104
  cases h : decide (y1 ≤ x1) with
  | false =>
    go_wp2
    go_ret
    exact ⟨rfl, ((Below.refl w.heap.size w).alloc (Nat.le_refl _) _).alloc (by simp) _⟩
  | true =>
    go_wp2
    go_ret
    exact ⟨rfl, ((Below.refl w.heap.size w).alloc (Nat.le_refl _) _).alloc (by simp) _⟩
theorem isIn_val (t y1 y2 : Int) (v : Bool) (w : World) (hv : inB t y1 y2 = v) :
    Calls Tryz.prog 104 #[.agg #[.int .i64 t, .int .i64 t], .agg #[.int .i64 y1, .int .i64 y2]] w fun e w' => e = .returned (.bool v) ∧ Below w.heap.size w w' := by
  rw [← hv]; exact isIn_any t t y1 y2 w

set_option maxRecDepth 20000 in
set_option maxHeartbeats 1000000 in
theorem behind_dead (q s fr b : Int) (a : Option Addr) (n cap : Nat) (a' : Option Addr) (cap' : Nat) (z : Int) (w : World) :
    Calls Tryz.prog 89 #[.agg #[.int .i64 q, .int .i64 s, .slice a n cap, .int .i64 fr, .int .i64 b], .slice a' 0 cap', .int .i64 z] w fun e w' => e = .returned (.slice none 0 0) ∧ Below w.heap.size w w' := by
  go_enter Tryz.func89, Tryz.ntmps89
  go_wp2
  obtain ⟨W1, hW1, hB1⟩ : ∃ W1, (w.alloc (.cells #[.int .i64 q, .int .i64 s, .slice a n cap, .int .i64 fr, .int .i64 b] 27)).alloc (.cells #[.int .i64 z, .int .i64 z] 56) = W1 ∧ Below w.heap.size w W1 :=
    ⟨_, rfl, ((Below.refl w.heap.size w).alloc (Nat.le_refl _) _).alloc (by simp) _⟩
  rw [hW1]
  clear hW1
  have qn := Cls.any W1
  refine wp_region_cls (by kernel_rfl) (by kernel_rfl) ?_
  repeat (go_big_quiet_step (fail))
  refine wpQuiet_nil ?_
  rintro _ ⟨u, rfl⟩
  have hb2 := hB1.trans (u.same.mono hB1.size)
  clear qn
  go_wp2
  go_ret
  exact ⟨rfl, hb2⟩

set_option maxRecDepth 20000 in
set_option maxHeartbeats 4000000 in
/-- A row of spans that a call owns, the piece from k on being what is open. -/
theorem behind_live (q s fr b : Int) (a : Option Addr) (b0 o cap : Nat) (l : List Stp) (g scap base k m cp : Nat) (R : List (Int × Int)) (z : Int) (w : World)
    (hl : l.length ≤ 1048576) (hs : StepsAt w a b0 o l) (hkm : k + m = l.length) (hcp : m + 1 ≤ cp) (hq : 1 ≤ q ∧ q ≤ 50) (hs0 : 1 ≤ s ∧ s ≤ 50) (e lf : Int × Int) (hb0 : l ≠ [] → b0 ≠ g)
    (he : R[k]? = some e) (hlf : m ≠ 0 → R[k + 1]? = some lf) (her : 0 ≤ e.1 ∧ e.2 ≤ 10000)
    (hown : w.ownsRow base 56 2 (.slice (some ⟨g, 0, none⟩) (l.length + 1) scap) (l.length + 1) (spanCells R)) :
    Calls Tryz.prog 89 #[.agg #[.int .i64 q, .int .i64 s, .slice a l.length cap, .int .i64 fr, .int .i64 b], .slice (some ⟨g, k * 2, none⟩) (m + 1) cp, .int .i64 z] w
      fun x w' => w.grownBy w' (some g) ∧
        ((inB z e.1 e.2 = false ∧ x = .returned (.slice none 0 0)) ∨
        (inB z e.1 e.2 = true ∧ m = 0 ∧ ∃ a' cp', x = .returned (.slice a' 0 cp')) ∨
        (inB z e.1 e.2 = true ∧ m ≠ 0 ∧ x = .returned (.slice (some ⟨g, (k + 1) * 2, none⟩) m (cp - 1)) ∧
          w'.ownsRow base 56 2 (.slice (some ⟨g, 0, none⟩) (l.length + 1) scap) (l.length + 1) (spanCells (R.set (k + 1) (mxB lf.1 (z + q), mnB lf.2 (z + mostB s l k)))))) := by
  have hgl := (hown.lt g rfl).2
  go_enter Tryz.func89, Tryz.ntmps89
  go_wp2
  obtain ⟨W1, hW1, hB1, hx1, hc0, hc1, hsz1⟩ : ∃ W1, (w.alloc (.cells #[.int .i64 q, .int .i64 s, .slice a l.length cap, .int .i64 fr, .int .i64 b] 27)).alloc (.cells #[.int .i64 z, .int .i64 z] 56) = W1 ∧ Below w.heap.size w W1 ∧
      PathAt W1 w.heap.size q s fr b (.slice a l.length cap) ∧ W1.cell? ⟨w.heap.size + 1, 0, none⟩ = some (.int .i64 z) ∧ W1.cell? ⟨w.heap.size + 1, 1, none⟩ = some (.int .i64 z) ∧ w.heap.size + 1 < W1.heap.size :=
    ⟨_, rfl, ((Below.refl w.heap.size w).alloc (Nat.le_refl _) _).alloc (by simp) _,
      (PathAt.new w q s fr b (.slice a l.length cap)).keep ((Below.refl (w.heap.size + 1) (w.alloc (.cells #[.int .i64 q, .int .i64 s, .slice a l.length cap, .int .i64 fr, .int .i64 b] 27))).alloc (by simp) _) (by omega),
      by simp [go_sem], by simp [go_sem], by simp⟩
  rw [hW1]
  clear hW1
  have ho1 := owns_below hown hB1
  obtain ⟨⟨p0, p1, p2, p3, p4⟩, pf⟩ := hx1.cells
  have x0 := (ho1.cellAt (k * 2) (by omega)).trans (spanCells_get _ _ _ he).1
  have x1 := (ho1.cellAt (k * 2 + 1) (by omega)).trans (spanCells_get _ _ _ he).2
  have hg1 : g < W1.heap.size := Nat.lt_of_lt_of_le hgl hB1.size
  cases hin : inB z e.1 e.2 with
  | false =>
    have HI : ∀ (u : Cls W1), Calls Tryz.prog 104 #[.agg #[.int .i64 z, .int .i64 z], .agg #[.int .i64 e.1, .int .i64 e.2]] u.it fun x w' => x = .returned (.bool false) ∧ Below u.it.heap.size u.it w' := fun u => isIn_val _ _ _ _ _ hin
    have qn := Cls.any W1
    have q1 := Cls.cell hg1
    have q2 := Cls.cell hsz1
    have mn : ((m : Int) + 1 == 0) = false := by simp; omega
    refine wp_region_cls (by kernel_rfl) (by kernel_rfl) ?_
    repeat (go_big_quiet_step ((go_at_call 104; exact Calls.cls_of (HI _))))
    refine wpQuiet_nil ?_
    rintro _ ⟨u, rfl⟩
    have hb2 := hB1.trans (u.same.mono hB1.size)
    clear qn q1 q2 HI
    have HN : Hid (inB z e.1 e.2 = false) := hin
    clear hin
    go_wp2
    go_ret
    exact ⟨⟨hb2.os, hb2.tape, hb2.output, hb2.size, fun i hi _ => hb2.block i hi⟩, .inl ⟨HN.out, rfl⟩⟩
  | true =>
    have hzr := (inB_iff _ _ _).1 hin
    have HI : ∀ (u : Cls W1), Calls Tryz.prog 104 #[.agg #[.int .i64 z, .int .i64 z], .agg #[.int .i64 e.1, .int .i64 e.2]] u.it fun x w' => x = .returned (.bool true) ∧ Below u.it.heap.size u.it w' := fun u => isIn_val _ _ _ _ _ hin
    have qn := Cls.any W1
    have q1 := Cls.cell hg1
    have q2 := Cls.cell hsz1
    have mn : ((m : Int) + 1 == 0) = false := by simp; omega
    refine wp_region_cls (by kernel_rfl) (by kernel_rfl) ?_
    repeat (go_big_quiet_step ((go_at_call 104; exact Calls.cls_of (HI _))))
    refine wpQuiet_nil ?_
    rintro _ ⟨u, rfl⟩
    have hb2 := hB1.trans (u.same.mono hB1.size)
    clear qn q1 q2 HI
    have HN : Hid (inB z e.1 e.2 = true) := hin
    clear hin
    rcases m with _ | m
    · by_cases hc : cp = 1
      · go_wp2
        go_ret
        exact ⟨⟨hb2.os, hb2.tape, hb2.output, hb2.size, fun i hi _ => hb2.block i hi⟩, .inr ⟨HN.out, _, _, rfl⟩⟩
      · go_wp2
        go_ret
        exact ⟨⟨hb2.os, hb2.tape, hb2.output, hb2.size, fun i hi _ => hb2.block i hi⟩, .inr ⟨HN.out, _, _, rfl⟩⟩
    · have hlf' := hlf (by omega)
      obtain ⟨t, ht⟩ : ∃ t, l[k]? = some t := ⟨l[k], List.getElem?_eq_getElem (by omega)⟩
      have hne : l ≠ [] := by intro e'; subst e'; simp at ht
      obtain rfl := hs.here hne
      have ho2 := owns_below ho1 u.same
      have hx2 := hx1.keep u.same hx1.lt
      have hs2 := hs.below hb2 hs.lt
      have d0 := (u.same.cell (p := ⟨w.heap.size + 1, 0, none⟩) hsz1).trans hc0
      have d1 := (u.same.cell (p := ⟨w.heap.size + 1, 1, none⟩) hsz1).trans hc1
      have hsz2 : w.heap.size + 1 < u.it.heap.size := Nat.lt_of_lt_of_le hsz1 u.same.size
      have hg2 : g < u.it.heap.size := Nat.lt_of_lt_of_le hg1 u.same.size
      clear hx1 hc0 hc1 p0 p1 p2 p3 p4 pf x0 x1 hs hlf
      generalize u.it = W2 at hb2 ho2 hx2 hs2 d0 d1 hsz2 hg2 ⊢
      clear u
      obtain ⟨⟨p0, p1, p2, p3, p4⟩, pf⟩ := hx2.cells
      obtain ⟨c0, c1, c2, c3, c4, c5, c6⟩ := hs2.seven ht
      have hbl := hs2.lt hne
      obtain ⟨mo, hmo⟩ : ∃ mo, mostB s l k = mo := ⟨_, rfl⟩
      have hmr : 1 ≤ mo ∧ mo ≤ 10000 := by rw [← hmo]; unfold mostB; split <;> omega
      have ST : ∀ (u : Cls W2), Calls Tryz.prog 94 #[.agg #[.int .i64 t.x, .int .i64 t.y, .int .i64 t.lo, .int .i64 t.hi, .int .i64 t.fr, .int .i64 t.by_, .bool t.ho], .agg #[.int .i64 q, .int .i64 s]] u.it fun x w' => x = .returned (.tuple #[.int .i64 q, .int .i64 mo]) ∧ Below u.it.heap.size u.it w' := fun u => by
        have := stay_any t.x t.y t.lo t.hi t.fr t.by_ q s t.ho u.it
        rwa [show (if t.ho then (10000 : Int) else s) = mo by rw [← hmo]; unfold mostB; rw [getD_is ht]] at this
      have hc : ¬ cp = 1 := by omega
      have hw1 : IntKind.i64.wrap ((l.length : Int) - ((m : Int) + 1)) = (k : Int) := by rw [IntKind.wrap_i64]; omega
      have k0 : (0 : Int) ≤ (k : Int) := by omega
      have k1 : (k : Int) < (l.length : Int) := by omega
      have mp : (0 : Int) < (m : Int) + 1 := by omega
      have qn := Cls.any W2
      have q1 := Cls.cell hbl
      have q2 := Cls.cell hx2.lt
      go_wp2
      refine wp_region_cls (by kernel_rfl) (by kernel_rfl) ?_
      repeat (go_big_quiet_step ((go_at_call 94; exact Calls.cls_of (ST _))))
      refine wpQuiet_nil ?_
      rintro _ ⟨u, rfl⟩
      have hb3 := hb2.trans (u.same.mono hb2.size)
      have ho3 := owns_below ho2 u.same
      have d0' := (u.same.cell (p := ⟨w.heap.size + 1, 0, none⟩) hsz2).trans d0
      have d1' := (u.same.cell (p := ⟨w.heap.size + 1, 1, none⟩) hsz2).trans d1
      have hsz3 : w.heap.size + 1 < u.it.heap.size := Nat.lt_of_lt_of_le hsz2 u.same.size
      have hg3 : g < u.it.heap.size := Nat.lt_of_lt_of_le hg2 u.same.size
      clear q1 q2 qn ST p0 p1 p2 p3 p4 pf c0 c1 c2 c3 c4 c5 c6 hx2 hs2 hbl d0 d1 hsz2 hg2 ho2 hb2
      generalize u.it = W3 at hb3 ho3 d0' d1' hsz3 hg3 ⊢
      clear u
      have y0 := (ho3.cellAt (k * 2 + 2) (by omega)).trans ((congrArg (fun i => (spanCells R)[i]?) (show k * 2 + 2 = (k + 1) * 2 by omega)).trans (spanCells_get _ _ _ hlf').1)
      have y1 := (ho3.cellAt (k * 2 + 2 + 1) (by omega)).trans ((congrArg (fun i => (spanCells R)[i]?) (show k * 2 + 2 + 1 = (k + 1) * 2 + 1 by omega)).trans (spanCells_get _ _ _ hlf').2)
      obtain ⟨n1, hn1⟩ : ∃ n1, mxB lf.1 (z + q) = n1 := ⟨_, rfl⟩
      obtain ⟨n2, hn2⟩ : ∃ n2, mnB lf.2 (z + mo) = n2 := ⟨_, rfl⟩
      have TL : ∀ (u : Cls W3), Calls Tryz.prog 46 #[.agg #[.int .i64 z, .int .i64 z], .agg #[.int .i64 lf.1, .int .i64 lf.2], .agg #[.int .i64 q, .int .i64 mo]] u.it fun x w' => x = .returned (.tuple #[.agg #[.int .i64 z, .int .i64 z], .agg #[.int .i64 n1, .int .i64 n2]]) ∧ Below u.it.heap.size u.it w' := fun u => by
        rw [← hn1, ← hn2]
        exact tightL_any z z lf.1 lf.2 q mo u.it (by omega) (by omega) (by omega) (by omega)
      have qn := Cls.any W3
      have q1 := Cls.cell hg3
      have q2 := Cls.cell hsz3
      go_wp2
      refine wp_region_last (by kernel_rfl) (by simp) (by kernel_rfl) (by kernel_rfl) ?_
      simp only [initL, endL]
      repeat (go_big_quiet_step ((go_at_call 46; exact Calls.cls_of (TL _))))
      refine wpQuiet_nil ?_
      rintro _ ⟨u2, rfl⟩
      have hownu := owns_below ho3 u2.same
      have hb4 := hb3.trans (u2.same.mono hb3.size)
      have hlen : (spanCells R).length = (l.length + 1) * 2 := ho3.1
      obtain ⟨v0, t0⟩ : ∃ v, u2.it.cell? ⟨g, k * 2 + 2, none⟩ = some v := ⟨_, (hownu.cellAt (k * 2 + 2) (by omega)).trans (List.getElem?_eq_getElem (by omega))⟩
      obtain ⟨v1, t1⟩ : ∃ v, u2.it.cell? ⟨g, k * 2 + 2 + 1, none⟩ = some v := ⟨_, (hownu.cellAt (k * 2 + 2 + 1) (by omega)).trans (List.getElem?_eq_getElem (by omega))⟩
      have tf := hownu.frozenAt
      have HO9 := owns_put (owns_put hownu (j := k * 2 + 2) (by omega) (.int .i64 n1)) (j := k * 2 + 2 + 1) (by omega) (.int .i64 n2)
      have ER : spanCells (R.set (k + 1) (mxB lf.1 (z + q), mnB lf.2 (z + mostB s l k))) = ((spanCells R).set (k * 2 + 2) (.int .i64 n1)).set (k * 2 + 2 + 1) (.int .i64 n2) := by
        rw [hmo, hn1, hn2, spanCells_set, show (k + 1) * 2 = k * 2 + 2 by omega]
      have gr : w.grownBy ((u2.it.setCell ⟨g, k * 2 + 2, none⟩ (.int .i64 n1)).setCell ⟨g, k * 2 + 2 + 1, none⟩ (.int .i64 n2)) (some g) := by
        have a0 : w.grownBy u2.it (some g) := ⟨hb4.os, hb4.tape, hb4.output, hb4.size, fun i hi _ => hb4.block i hi⟩
        exact grown_over2 (grown_over2 a0 (grown_set u2.it ⟨g, k * 2 + 2, none⟩ (.int .i64 n1))) (grown_set _ ⟨g, k * 2 + 2 + 1, none⟩ (.int .i64 n2))
      rw [← ER] at HO9
      have HO : Hid (((u2.it.setCell ⟨g, k * 2 + 2, none⟩ (.int .i64 n1)).setCell ⟨g, k * 2 + 2 + 1, none⟩ (.int .i64 n2)).ownsRow base 56 2 (.slice (some ⟨g, 0, none⟩) (l.length + 1) scap) (l.length + 1) (spanCells (R.set (k + 1) (mxB lf.1 (z + q), mnB lf.2 (z + mostB s l k))))) := HO9
      have HG : Hid (w.grownBy ((u2.it.setCell ⟨g, k * 2 + 2, none⟩ (.int .i64 n1)).setCell ⟨g, k * 2 + 2 + 1, none⟩ (.int .i64 n2)) (some g)) := gr
      clear q1 q2 qn TL HO9 gr ER hownu hn1 hn2 hmo ho3 ho1 hown
      go_wp2
      go_ret
      refine ⟨HG.out, .inr (.inr ⟨HN.out, by omega, ?_, HO.out⟩)⟩
      rw [show (k + 1) * 2 = k * 2 + 2 by omega]
      rfl
end Go.Proofs.YtijcdikekgmfoaaGreatDoor

namespace Go.Proofs.YtijcdikekgmfoaaGreatDoor
open Go.RowKit

theorem goS_no {q s fr b : Int} {l : List Stp} {zs : List Int} (h : goB q s fr b l zs = false) : goS q s fr b l zs = (0, 0) := by unfold goS; rw [h]; rfl
theorem goB_path {q s fr b : Int} {l : List Stp} {zs : List Int} (h : pathB q s fr b l = false) : goB q s fr b l zs = false := by unfold goB; rw [h]; rfl
theorem goB_long {q s fr b : Int} {l : List Stp} {zs : List Int} (h : l.length < zs.length) : goB q s fr b l zs = false := by
  unfold goB; rw [decide_eq_false (show ¬ zs.length ≤ l.length by omega)]; simp

theorem Span2.new (w : World) (t : TypeId) : (w.alloc (.cells #[.int .i64 0, .int .i64 0] t)).heap[w.heap.size]? = some (.cells #[.int .i64 0, .int .i64 0] t (0, 0)) := heap_alloc_new w _

set_option maxRecDepth 20000 in
set_option maxHeartbeats 1000000 in
theorem flyNextS_any (q s fr b : Int) (a : Option Addr) (b0 o cap : Nat) (l : List Stp) (c : Option Addr) (cb co ccap : Nat) (zs : List Int) (w : World) (hl : l.length ≤ 1048576) (hzl : zs.length ≤ 1048576) (hs : StepsAt w a b0 o l) (hz : IntsAt w c cb co zs) :
    Calls Tryz.prog 39 #[.agg #[.int .i64 q, .int .i64 s, .slice a l.length cap, .int .i64 fr, .int .i64 b], .slice c zs.length ccap] w
      fun e w' => e = .returned (.tuple #[.agg #[.int .i64 (goS q s fr b l zs).1, .int .i64 (goS q s fr b l zs).2], .bool (goB q s fr b l zs)]) ∧ Below w.heap.size w w' := by
  have hx0 := (PathAt.new w q s fr b (.slice a l.length cap)).keep ((Below.refl (w.heap.size + 1) (w.alloc (.cells #[.int .i64 q, .int .i64 s, .slice a l.length cap, .int .i64 fr, .int .i64 b] 27))).alloc (by simp) (.cells #[.int .i64 0, .int .i64 0] 56)) (by omega)
  have hr0 := Span2.new (w.alloc (.cells #[.int .i64 q, .int .i64 s, .slice a l.length cap, .int .i64 fr, .int .i64 b] 27)) 56
  simp only [World.size_alloc] at hr0
  have hbA : Below w.heap.size w ((w.alloc (.cells #[.int .i64 q, .int .i64 s, .slice a l.length cap, .int .i64 fr, .int .i64 b] 27)).alloc (.cells #[.int .i64 0, .int .i64 0] 56)) := ((Below.refl w.heap.size w).alloc (Nat.le_refl _) _).alloc (by simp) _
  go_enter Tryz.func39, Tryz.ntmps39
  go_wp2_with fail
  refine (pathS_any _ _ _ _ _ b0 o _ _ _ hl ((hs.alloc _).alloc _)).mono ?_
  rintro e w1 ⟨rfl, hb1⟩
  have hx1 := hx0.keep hb1 (by simp; omega)
  have hr1 := blk2_kept hr0 hb1
  have hb01 := hbA.trans (hb1.mono (by simp only [World.size_alloc]; omega))
  have sz1 : w.heap.size + 1 + 1 ≤ w1.heap.size := by simpa using hb1.size
  clear hx0 hr0 hb1
  obtain ⟨⟨p0, p1, p2, p3, p4⟩, pf⟩ := hx1.cells
  obtain ⟨r0, r1, rf⟩ := blk2 hr1
  cases hp : pathB q s fr b l with
  | false =>
    have e1 := goB_path (zs := zs) hp
    have E : Hid (goS q s fr b l zs = (0, 0) ∧ goB q s fr b l zs = false) := ⟨goS_no e1, e1⟩
    clear e1
    go_wp2
    refine bodyPost_ret (v := .tuple #[.agg #[.int .i64 0, .int .i64 0], .bool false]) (by simp [results, Tryz.results39, go_sem, *]) rfl ⟨by rw [E.out.1, E.out.2], ?_⟩
    iterate 2 (refine Below.setCell ?_ (by simp <;> omega) _)
    exact hb01
  | true =>
    by_cases hlen : zs.length ≤ l.length
    · have hpl := path_len hp
      obtain ⟨e1, e2⟩ := held_go hp hlen
      have n1 : ¬ ((l.length : Int) < (zs.length : Int)) := by omega
      have hs1 := hs.below hb01 hs.lt
      have hz1 := hz.below hb01 hz.lt
      go_wp2_with fail
      refine (heldS_any _ _ _ _ _ b0 o _ _ _ cb co _ _ _ hpl.1 hl hs1 hz1 hlen).mono ?_
      rintro e w2 ⟨g, gcap, rfl, hown2, hb2⟩
      have hs2 := steps_owned hown2
      have hr2 := blk2_kept hr1 hb2
      have hb02 := hb01.trans (hb2.mono (by omega))
      have hW := held_wide (Wide.of hp) zs hlen
      have hC := spansS_wide q s fr b (some ⟨g, 0, none⟩) g 0 gcap (heldL l zs zs.length) w2 hs2 hW
      rw [heldL_length, e1] at hC
      clear hx1 hr1 hb01 hb2 p0 p1 p2 p3 p4 pf r0 r1 rf hs1 hz1 hown2
      go_wp2_with fail
      refine hC.mono ?_
      rintro e w3 ⟨v, rfl, hown3, hb3⟩
      have hr3 := blk2_kept hr2 hb3
      have sz2 := hb02.size
      have sz3 := hb3.size
      have hb03 := hb02.trans (hb3.mono hb02.size)
      obtain ⟨r0, r1, rf⟩ := blk2 hr3
      clear hC hs2 hr2 hb02 hb3
      cases hg : goB q s fr b l zs with
      | false =>
        have E : Hid (goS q s fr b l zs = (0, 0) ∧ goB q s fr b l zs = false) := ⟨goS_no hg, hg⟩
        clear e1 e2
        go_wp2
        refine bodyPost_ret (v := .tuple #[.agg #[.int .i64 0, .int .i64 0], .bool false]) (by simp [results, Tryz.results39, go_sem, *]) rfl ⟨by rw [E.out.1, E.out.2], ?_⟩
        iterate 2 (refine Below.setCell ?_ (by simp <;> omega) _)
        exact hb03
      | true =>
        have hget := e2 hg
        have hL : (spansL q s fr b (heldL l zs zs.length)).length = l.length + 1 := by
          rw [hg] at e1
          unfold spansL
          rw [if_pos e1, heldL_length]
          simp
        rw [hL] at hown3
        obtain ⟨g3, c3, rfl, hg3, hg3'⟩ := owns_some hown3 (by omega)
        have x0 := (hown3.cellAt (zs.length * 2) (by omega)).trans (spanCells_get _ _ _ hget).1
        have x1 := (hown3.cellAt (zs.length * 2 + 1) (by omega)).trans (spanCells_get _ _ _ hget).2
        obtain ⟨⟨y0, y1⟩, hy⟩ : ∃ y, goS q s fr b l zs = y := ⟨_, rfl⟩
        rw [hy] at x0 x1
        have E : Hid (goS q s fr b l zs = (y0, y1) ∧ goB q s fr b l zs = true) := ⟨hy, hg⟩
        have m0 : (0 : Int) ≤ (zs.length : Int) := by omega
        have m1 : (zs.length : Int) < (l.length : Int) + 1 := by omega
        clear hget e1 e2 hy hown3 n1
        go_wp2
        refine bodyPost_ret (v := .tuple #[.agg #[.int .i64 y0, .int .i64 y1], .bool true]) (by simp [results, Tryz.results39, go_sem, *]) rfl ⟨by rw [E.out.1, E.out.2], ?_⟩
        iterate 2 (refine Below.setCell ?_ (by simp <;> omega) _)
        exact hb03
    · have e1 := goB_long (q := q) (s := s) (fr := fr) (b := b) (show l.length < zs.length by omega)
      have E : Hid (goS q s fr b l zs = (0, 0) ∧ goB q s fr b l zs = false) := ⟨goS_no e1, e1⟩
      clear e1
      have n1 : (l.length : Int) < (zs.length : Int) := by omega
      go_wp2
      refine bodyPost_ret (v := .tuple #[.agg #[.int .i64 0, .int .i64 0], .bool false]) (by simp [results, Tryz.results39, go_sem, *]) rfl ⟨by rw [E.out.1, E.out.2], ?_⟩
      iterate 2 (refine Below.setCell ?_ (by simp <;> omega) _)
      exact hb01
end Go.Proofs.YtijcdikekgmfoaaGreatDoor

namespace Go.Proofs.YtijcdikekgmfoaaGreatDoor
open Go.RowKit

theorem begunB_congr {q s fr b : Int} {l : List Stp} {zs zs' : List Int} : ∀ {m : Nat}, (∀ i, i < m → zs.getD i 0 = zs'.getD i 0) → begunB q s fr b l zs m = begunB q s fr b l zs' m
  | 0, _ => rfl
  | m + 1, h => by
    rw [begunB, begunB, begunB_congr (fun i hi => h i (by omega)), h m (by omega)]
    have e : openA q s fr b l l.length (fun i => zs.getD i 0) m = openA q s fr b l l.length (fun i => zs'.getD i 0) m := by
      cases m with
      | zero => rfl
      | succ k => simp only [openA]; rw [h k (by omega)]
    rw [e]
theorem getD_snoc_lt (cs : List Int) (z : Int) {i : Nat} (h : i < cs.length) : (cs ++ [z]).getD i 0 = cs.getD i 0 := by
  rw [List.getD_eq_getElem?_getD, List.getD_eq_getElem?_getD, List.getElem?_append_left h]
theorem getD_snoc_eq (cs : List Int) (z : Int) : (cs ++ [z]).getD cs.length 0 = z := by
  rw [List.getD_eq_getElem?_getD, List.getElem?_append_right (Nat.le_refl _)]; simp
theorem openA_snoc (q s fr b : Int) (l : List Stp) (cs : List Int) (z : Int) {k : Nat} (hk : k ≤ cs.length) : openA q s fr b l l.length (fun i => (cs ++ [z]).getD i 0) k = openA q s fr b l l.length (fun i => cs.getD i 0) k := by
  cases k with
  | zero => rfl
  | succ m => simp only [openA]; rw [getD_snoc_lt cs z (by omega)]
theorem goB_snoc (q s fr b : Int) (l : List Stp) (cs : List Int) (z : Int) : goB q s fr b l (cs ++ [z]) = (goB q s fr b l cs && (inB z (openA q s fr b l l.length (fun i => cs.getD i 0) cs.length).1 (openA q s fr b l l.length (fun i => cs.getD i 0) cs.length).2 && decide (cs.length + 1 ≤ l.length))) := by
  unfold goB
  rw [List.length_append, List.length_singleton, begunB, getD_snoc_eq, openA_snoc q s fr b l cs z (Nat.le_refl _), begunB_congr (zs' := cs) (fun i hi => getD_snoc_lt cs z hi)]
  generalize inB z (openA q s fr b l l.length (fun i => cs.getD i 0) cs.length).1 (openA q s fr b l l.length (fun i => cs.getD i 0) cs.length).2 = B
  by_cases h1 : cs.length + 1 ≤ l.length
  · rw [decide_eq_true h1, decide_eq_true (show cs.length ≤ l.length by omega)]
    cases pathB q s fr b l <;> cases spanB q s fr b l <;> cases begunB q s fr b l cs cs.length <;> cases B <;> rfl
  · rw [decide_eq_false h1]
    cases pathB q s fr b l <;> cases spanB q s fr b l <;> simp

/-- What the variable of the closure holds when these ticks have come. -/
def OpenV (w : World) (q s fr b : Int) (l : List Stp) (base g scap : Nat) (cs : List Int) (v : Value) : Prop :=
  if goB q s fr b l cs then
    (∃ cp, l.length - cs.length + 1 ≤ cp ∧ v = .slice (some ⟨g, cs.length * 2, none⟩) (l.length - cs.length + 1) cp) ∧ w.ownsRow base 56 2 (.slice (some ⟨g, 0, none⟩) (l.length + 1) scap) (l.length + 1) (spanCells (rowG q s fr b l (fun i => cs.getD i 0) cs.length))
  else ∃ a cp, v = .slice a 0 cp
theorem OpenV.keep {w w' : World} {q s fr b : Int} {l : List Stp} {base g scap : Nat} {cs : List Int} {v : Value} (h : OpenV w q s fr b l base g scap cs v) (hb : goB q s fr b l cs = true → g < w.heap.size → w'.heap[g]? = w.heap[g]?) : OpenV w' q s fr b l base g scap cs v := by
  unfold OpenV at *
  split
  · rename_i hg
    rw [if_pos hg] at h
    refine ⟨h.1, h.2.1, h.2.2.imp id fun ⟨g', cap', cur, h1, h2, h3, h4⟩ => ⟨g', cap', cur, h1, h2, ?_, h4⟩⟩
    have e : g = g' := by cases h1; rfl
    subst e
    exact (hb hg (lt_of_block h3)).trans h3
  · rename_i hg
    rw [if_neg hg] at h
    exact h

theorem goB_parts {q s fr b : Int} {l : List Stp} {zs : List Int} (h : goB q s fr b l zs = true) : pathB q s fr b l = true ∧ spanB q s fr b l = true ∧ zs.length ≤ l.length ∧ ∀ k, k < zs.length → inP (zs.getD k 0) (openA q s fr b l l.length (fun i => zs.getD i 0) k) := by
  simp only [goB, Bool.and_eq_true, decide_eq_true_eq] at h
  exact ⟨h.1.1.1, h.1.1.2, h.1.2, (begunB_iff q s fr b l zs zs.length).1 h.2⟩
theorem open_range {q s fr b : Int} {l : List Stp} {zs : List Int} (h : goB q s fr b l zs = true) : 0 ≤ (openA q s fr b l l.length (fun i => zs.getD i 0) zs.length).1 ∧ (openA q s fr b l l.length (fun i => zs.getD i 0) zs.length).1 ≤ (openA q s fr b l l.length (fun i => zs.getD i 0) zs.length).2 ∧ (openA q s fr b l l.length (fun i => zs.getD i 0) zs.length).2 ≤ 10000 := by
  obtain ⟨hp, hsp, hz, hall⟩ := goB_parts h
  have hw := Wide.of hp
  rw [hw.span_fwd] at hsp
  have hso := open_some hw.quick hsp (fun i => zs.getD i 0) hz hall
  have w1 := span_win hw.quick hsp hz (openA_sub zs.length ⟨Int.le_refl _, hso⟩)
  have w2 := span_win hw.quick hsp hz (openA_sub zs.length ⟨hso, Int.le_refl _⟩)
  have := hw.win zs.length
  omega

theorem grown_of_below {w w' : World} {g : Nat} (h : Below w.heap.size w w') : w.grownBy w' (some g) := ⟨h.os, h.tape, h.output, h.size, fun i hi _ => h.block i hi⟩

theorem behind_st (q s fr b : Int) (a : Option Addr) (b0 o cap : Nat) (l : List Stp) (base g scap : Nat) (cs : List Int) (v : Value) (z : Int) (w : World) (hl : l.length ≤ 1048576) (hs : StepsAt w a b0 o l) (hb0 : l ≠ [] → b0 ≠ g) (hv : OpenV w q s fr b l base g scap cs v) :
    Calls Tryz.prog 89 #[.agg #[.int .i64 q, .int .i64 s, .slice a l.length cap, .int .i64 fr, .int .i64 b], v, .int .i64 z] w
      fun x w' => ∃ v', x = .returned v' ∧ (w.grownBy w' (some g) ∧ (goB q s fr b l cs = false → Below w.heap.size w w')) ∧ OpenV w' q s fr b l base g scap (cs ++ [z]) v' := by
  unfold OpenV at hv
  split at hv
  · rename_i hg
    obtain ⟨⟨cp, hcp, rfl⟩, hown⟩ := hv
    obtain ⟨hp, hsp, hz, hall⟩ := goB_parts hg
    have hk := kind_range hp
    have hr := open_range hg
    have hget := rowG_get q s fr b l (fun i => cs.getD i 0) cs.length cs.length hz
    rw [if_pos (Nat.le_refl _)] at hget
    refine (behind_live q s fr b a b0 o cap l g scap base cs.length (l.length - cs.length) cp _ z w hl hs (by omega) hcp (by omega) (by omega) _ (spanAt q s fr b l l.length (cs.length + 1)) hb0 hget ?_ ⟨hr.1, hr.2.2⟩ hown).mono ?_
    · intro hm
      have := rowG_get q s fr b l (fun i => cs.getD i 0) cs.length (cs.length + 1) (by omega)
      rwa [if_neg (by omega)] at this
    · rintro x w' ⟨hgr, h⟩
      have hsn := goB_snoc q s fr b l cs z
      rw [hg, Bool.true_and] at hsn
      rcases h with ⟨h1, rfl⟩ | ⟨h1, h2, a', cp', rfl⟩ | ⟨h1, h2, rfl, h3⟩
      · rw [h1, Bool.false_and] at hsn
        refine ⟨_, rfl, ⟨hgr, fun h => by rw [hg] at h; cases h⟩, ?_⟩
        unfold OpenV
        rw [if_neg (by rw [hsn]; simp)]
        exact ⟨_, _, rfl⟩
      · rw [decide_eq_false (show ¬ cs.length + 1 ≤ l.length by omega), Bool.and_false] at hsn
        refine ⟨_, rfl, ⟨hgr, fun h => by rw [hg] at h; cases h⟩, ?_⟩
        unfold OpenV
        rw [if_neg (by rw [hsn]; simp)]
        exact ⟨_, _, rfl⟩
      · rw [h1, decide_eq_true (show cs.length + 1 ≤ l.length by omega)] at hsn
        refine ⟨_, rfl, ⟨hgr, fun h => by rw [hg] at h; cases h⟩, ?_⟩
        unfold OpenV
        rw [if_pos (by rw [hsn]; rfl), List.length_append, List.length_singleton]
        refine ⟨⟨cp - 1, by omega, ?_⟩, ?_⟩
        · rw [show l.length - (cs.length + 1) + 1 = l.length - cs.length by omega]
        · rw [rowG_succ, getD_snoc_eq, rowG_congr (c' := fun i => cs.getD i 0) (fun i hi => getD_snoc_lt cs z hi)]
          exact h3
  · rename_i hg
    obtain ⟨a', cp, rfl⟩ := hv
    refine (behind_dead q s fr b a l.length cap a' cp z w).mono ?_
    rintro x w' ⟨rfl, hb⟩
    refine ⟨_, rfl, ⟨grown_of_below hb, fun _ => hb⟩, ?_⟩
    have hsn := goB_snoc q s fr b l cs z
    rw [Bool.not_eq_true] at hg
    rw [hg, Bool.false_and] at hsn
    unfold OpenV
    rw [if_neg (by rw [hsn]; simp)]
    exact ⟨_, _, rfl⟩

theorem goB_mono {q s fr b : Int} {l : List Stp} {cs : List Int} : ∀ (zs : List Int), goB q s fr b l (cs ++ zs) = true → goB q s fr b l cs = true := by
  intro zs
  induction zs generalizing cs with
  | nil => intro h; simpa using h
  | cons z zs ih =>
    intro h
    have h1 := ih (cs := cs ++ [z]) (by simpa using h)
    rw [goB_snoc, Bool.and_eq_true] at h1
    exact h1.1

/-- All blocks that lay, but two, lie as they lay. -/
structure Kept2 (g o : Nat) (w w' : World) : Prop where
  os : w'.os = w.os
  tape : w'.tape = w.tape
  output : w'.output = w.output
  size : w.heap.size ≤ w'.heap.size
  block : ∀ i, i < w.heap.size → i ≠ g → i ≠ o → w'.heap[i]? = w.heap[i]?
end Go.Proofs.YtijcdikekgmfoaaGreatDoor

namespace Go.Proofs.YtijcdikekgmfoaaGreatDoor
open Go.RowKit

/-- The tick of a span that is nearest to one. -/
def clampB (x : Int × Int) (z : Int) : Int := mnB (mxB x.1 z) x.2
theorem clampB_other {x : Int × Int} (h : x.1 ≤ x.2) (z : Int) : mxB x.1 (mnB z x.2) = clampB x z := by
  unfold clampB mxB mnB; repeat' split <;> omega
def tickA (x : Int × Int) : List Int → Int
  | [] => x.1
  | z :: _ => clampB x z
/-- The ticks when i have come behind what has begun. -/
def goAt (q s fr b : Int) (l : List Stp) (cs asks : List Int) : Nat → List Int
  | 0 => cs
  | i + 1 => goAt q s fr b l cs asks i ++ [tickA (goS q s fr b l (goAt q s fr b l cs asks i)) (asks.drop i)]
theorem goAt_length (q s fr b : Int) (l : List Stp) (cs asks : List Int) : ∀ i, (goAt q s fr b l cs asks i).length = cs.length + i
  | 0 => rfl
  | i + 1 => by rw [goAt, List.length_append, goAt_length q s fr b l cs asks i]; simp; omega
/-- How many come. -/
def goStop (q s fr b : Int) (l : List Stp) (cs asks : List Int) : Nat → Nat → Nat
  | 0, i => i
  | f + 1, i => if goB q s fr b l (goAt q s fr b l cs asks i) then goStop q s fr b l cs asks f (i + 1) else i
theorem goStop_is {q s fr b : Int} {l : List Stp} {cs asks : List Int} {n : Nat} (h : goB q s fr b l (goAt q s fr b l cs asks n) = false) (hall : ∀ j, j < n → goB q s fr b l (goAt q s fr b l cs asks j) = true) :
    ∀ (f i : Nat), i ≤ n → n ≤ i + f → goStop q s fr b l cs asks f i = n
  | 0, i, h1, h2 => by simp only [goStop]; omega
  | f + 1, i, h1, h2 => by
    rw [goStop]
    by_cases e : i = n
    · subst e
      rw [h]; rfl
    · rw [if_pos (hall i (by omega))]
      exact goStop_is h hall f (i + 1) (by omega) (by omega)
/-- The whole flight. -/
def goF (q s fr b : Int) (l : List Stp) (cs asks : List Int) : List Int := goAt q s fr b l cs asks (goStop q s fr b l cs asks (l.length + 1) 0)
theorem goF_is {q s fr b : Int} {l : List Stp} {cs asks : List Int} {n : Nat} (h : goB q s fr b l (goAt q s fr b l cs asks n) = false) (hall : ∀ j, j < n → goB q s fr b l (goAt q s fr b l cs asks j) = true) : goF q s fr b l cs asks = goAt q s fr b l cs asks n := by
  unfold goF
  rw [goStop_is h hall (l.length + 1) 0 (Nat.zero_le _) ?_]
  cases n with
  | zero => omega
  | succ m =>
    have := (goB_parts (hall m (by omega))).2.2.1
    rw [goAt_length] at this
    omega
/-- What FlyGo answers. -/
def flownB (q s fr b : Int) (l : List Stp) (cs asks : List Int) : Bool := lawB q s fr b l (goF q s fr b l cs asks)
def flownL (q s fr b : Int) (l : List Stp) (cs asks : List Int) : List Int := if flownB q s fr b l cs asks then goF q s fr b l cs asks else []
theorem lawB_len {q s fr b : Int} {l : List Stp} {zs : List Int} (h : zs.length ≠ l.length + 1) : lawB q s fr b l zs = false := by
  unfold lawB; rw [decide_eq_false h]; simp
theorem lawB_path {q s fr b : Int} {l : List Stp} {zs : List Int} (h : pathB q s fr b l = false) : lawB q s fr b l zs = false := by
  unfold lawB; rw [h]; rfl
theorem flown_no {q s fr b : Int} {l : List Stp} {cs asks : List Int} (h : flownB q s fr b l cs asks = false) : flownL q s fr b l cs asks = [] := by unfold flownL; rw [h]; rfl

/-- The cells of a list of numbers. -/
def intCells (zs : List Int) : List Value := zs.map (.int .i64 ·)
theorem intCells_length (zs : List Int) : (intCells zs).length = zs.length := by simp [intCells]
theorem intCells_get (zs : List Int) (i : Nat) (z : Int) (h : zs[i]? = some z) : (intCells zs)[i]? = some (.int .i64 z) := by simp [intCells, h]
theorem intCells_snoc (zs : List Int) (z : Int) : intCells (zs ++ [z]) = intCells zs ++ [.int .i64 z] := by simp [intCells]
theorem intCells_one (zs : List Int) : ∀ u ∈ intCells zs, u.oneCell' = true := by
  intro u hu
  simp only [intCells, List.mem_map] at hu
  obtain ⟨z, _, rfl⟩ := hu
  rfl
theorem ints_news {w : World} {b o : Nat} {zs : List Int} {a : Option Addr} (h : IntsAt w a b o zs) : ∀ j u, (intCells zs)[j]? = some u → w.cell? ((⟨b, o, none⟩ : Addr).add j) = some u := by
  intro j u hj
  have hlt : j < zs.length := by rw [← intCells_length]; exact (List.getElem?_eq_some_iff.1 hj).1
  obtain ⟨z, hz⟩ : ∃ z, zs[j]? = some z := ⟨zs[j], List.getElem?_eq_getElem hlt⟩
  rw [intCells_get zs j z hz] at hj
  cases hj
  rw [Addr.add_mid]
  exact h.cell j z hz
theorem ints_owned {w : World} {base e : Nat} {zs : List Int} {v : Value} (h : w.ownsRow base e 1 v zs.length (intCells zs)) : ∃ a g cap, v = .slice a zs.length cap ∧ IntsAt w a g 0 zs ∧ (zs ≠ [] → v.ownBlock = some g) := by
  rcases h.2 with ⟨h1, h2⟩ | ⟨g, cap, cur, rfl, _, hh, _⟩
  · subst h1
    have e0 : zs = [] := List.eq_nil_of_length_eq_zero h2
    subst e0
    exact ⟨none, 0, 0, rfl, ⟨fun h => absurd rfl h, fun h => absurd rfl h, fun i z hi => by simp at hi⟩, fun h => absurd rfl h⟩
  · refine ⟨some ⟨g, 0, none⟩, g, cap, rfl, ⟨fun _ => rfl, fun _ => lt_of_block hh, fun i z hi => ?_⟩, fun _ => rfl⟩
    have hl : i < zs.length := (List.getElem?_eq_some_iff.1 hi).1
    rw [Nat.zero_add]
    exact (h.cellAt i (by omega)).trans (intCells_get zs i z hi)
/-- A row does not lie in a block of another type. -/
theorem row_ne {w : World} {base e size n B : Nat} {v : Value} {xs : List Value} (h : w.ownsRow base e size v n xs) {C : Array Value} {t : TypeId} (hB : w.heap[B]? = some (.cells C t (0, 0))) (hne : t ≠ e) : v.ownBlock ≠ some B := by
  intro hv
  rcases h.2 with ⟨rfl, _⟩ | ⟨g, cap, cur, rfl, _, hh, _⟩
  · cases hv
  · cases hv
    rw [hB] at hh
    cases hh
    exact hne rfl
theorem row_ne_row {w : World} {base e size n base' e' size' n' g cap : Nat} {v : Value} {xs xs' : List Value} (h : w.ownsRow base e size v n xs) (h' : w.ownsRow base' e' size' (.slice (some ⟨g, 0, none⟩) n' cap) n' xs') (hne : e' ≠ e) : v.ownBlock ≠ some g := by
  rcases h'.2 with ⟨h1, _⟩ | ⟨g', cap', cur, h1, _, hh, _⟩
  · cases h1
  · cases h1
    exact row_ne h hh hne
end Go.Proofs.YtijcdikekgmfoaaGreatDoor

namespace Go.Proofs.YtijcdikekgmfoaaGreatDoor
open Go.RowKit


set_option maxHeartbeats 2000000 in
theorem lawS_no (q s fr b : Int) (a : Option Addr) (b0 o cap : Nat) (l : List Stp) (c : Option Addr) (m ccap : Nat) (w : World) (hl : l.length ≤ 1048576) (_hm : m ≤ 1048576) (hs : StepsAt w a b0 o l)
    (hno : (pathB q s fr b l && decide (m = l.length + 1)) = false) :
    Calls Tryz.prog 42 #[.agg #[.int .i64 q, .int .i64 s, .slice a l.length cap, .int .i64 fr, .int .i64 b], .slice c m ccap] w fun e w' => e = .returned (.bool false) ∧ Below w.heap.size w w' := by
  rcases (show pathB q s fr b l = false ∨ (pathB q s fr b l = true ∧ ((m : Int) != (l.length : Int) + 1) = true) by
    cases h : pathB q s fr b l with
    | false => exact .inl rfl
    | true => rw [h] at hno; simp at hno; exact .inr ⟨rfl, by simp; omega⟩) with h1 | ⟨h1, h2⟩
  all_goals
    clear hno
    go_enter Tryz.func42, Tryz.ntmps42
    go_wp2_with fail
    refine (pathS_any _ _ _ _ _ b0 o _ _ _ hl (hs.alloc _)).mono ?_
    rintro e w1 ⟨rfl, hb1⟩
    have hb01 : Below w.heap.size w w1 := ((Below.refl w.heap.size w).alloc (Nat.le_refl _) _).trans (hb1.mono (by simp))
    have c2 : w1.cell? ⟨w.heap.size, 2, none⟩ = some (.slice a l.length cap) := by rw [hb1.cell (p := ⟨w.heap.size, 2, none⟩) (by simp)]; simp [go_sem]
    clear hb1
    go_wp2
    go_ret
    exact ⟨rfl, hb01⟩

set_option maxHeartbeats 4000000 in
theorem lawS_yes (q s fr b : Int) (a : Option Addr) (b0 o cap : Nat) (l : List Stp) (c : Option Addr) (cb co ccap : Nat) (zs : List Int) (w : World) (hl : l.length ≤ 1048576) (hs : StepsAt w a b0 o l) (hz : IntsAt w c cb co zs)
    (hp : pathB q s fr b l = true) (hn : zs.length = l.length + 1) :
    Calls Tryz.prog 42 #[.agg #[.int .i64 q, .int .i64 s, .slice a l.length cap, .int .i64 fr, .int .i64 b], .slice c zs.length ccap] w fun e w' => e = .returned (.bool (tickTo q s fr b l zs (l.length + 1))) ∧ Below w.heap.size w w' := by
  have HL := path_len hp
  have hneq : ((zs.length : Int) != (l.length : Int) + 1) = false := by simp; omega
  have hzne : zs ≠ [] := by intro e; subst e; simp at hn
  obtain rfl := hz.here hzne
  have hcb := hz.lt hzne
  have HN : Hid (zs.length = l.length + 1) := hn
  clear hn
  go_enter Tryz.func42, Tryz.ntmps42
  go_wp2_with fail
  refine (pathS_any _ _ _ _ _ b0 o _ _ _ hl (hs.alloc _)).mono ?_
  rintro e w1 ⟨rfl, hb1⟩
  have hB1 := (BoxP.new w q s fr b (.slice a l.length cap) 27).below hb1
  have c2 := hB1.p2
  clear hb1
  go_wp2
  clear c2
  go_loopw [5] (fun v wr => ∃ k : Nat, k ≤ zs.length ∧ v = .int .i64 k ∧ BoxP w wr q s fr b (.slice a l.length cap) ∧ tickTo q s fr b l zs k = true) (fun v _ => zs.length - (intOf v).toNat)
  case atStart => exact ⟨0, Nat.zero_le _, rfl, hB1, tickTo_zero _ _ _ _ _ _⟩
  case round =>
    clear hB1
    obtain ⟨k, hk, rfl, hB, hgood⟩ := hrel
    have HG : Hid (tickTo q s fr b l zs k = true) := hgood
    clear hgood
    by_cases hlt : k < zs.length
    · have hkl : k ≤ l.length := by have := HN.out; omega
      obtain ⟨z, hzk⟩ : ∃ z, zs[k]? = some z := ⟨zs[k], List.getElem?_eq_getElem hlt⟩
      have HZ : Hid (zs.getD k 0 = z) := by show _ = _; simp [List.getD, hzk]
      have d0 := (hz.below hB.old hz.lt).cell k z hzk
      clear hzk
      have hcw : cb < wr.heap.size := Nat.lt_of_lt_of_le hcb hB.old.size
      have qn := Cls.any wr
      have q0 := Cls.cell hcw
      have q1 := Cls.cell hB.lt
      have hSu : ∀ u : Cls wr, StepsAt u.it a b0 o l := fun u => hs.below (hB.old.trans (u.same.mono hB.old.size)) hs.lt
      have p0 := hB.p0
      have p1 := hB.p1
      have p2 := hB.p2
      have p3 := hB.p3
      have p4 := hB.p4
      have k0 : (0 : Int) ≤ (k : Int) := by omega
      have k1 : (k : Int) < (zs.length : Int) := by omega
      cases hwin : inB z (lowB fr l k) (highB b l k) with
      | false =>
        have G1 : Hid (tickTo q s fr b l zs (l.length + 1) = false) := by
          refine tickTo_not (k := k) (by omega) ?_
          unfold tickS winS; rw [HZ.out, hwin]; rfl
        go_wp2
        refine wp_region_cls (by kernel_rfl) (by kernel_rfl) ?_
        repeat (go_big_quiet_step (first | (go_at_call 90; exact Calls.cls_of (low_any _ _ _ _ _ b0 o _ _ _ _ hl (hSu _))) | (go_at_call 91; exact Calls.cls_of (high_any _ _ _ _ _ b0 o _ _ _ _ hl (hSu _))) | (go_at_call 55; exact Calls.cls_of_same (in_val _ _ _ _ _ hwin))))
        refine wpQuiet_nil ?_
        rintro _ ⟨u, rfl⟩
        go_wp2
        go_ret
        exact ⟨by rw [G1.out]; rfl, (hB.below u.same).old⟩
      | true =>
        have HW : Hid (winS fr b l zs k = true) := by show _ = _; unfold winS; rw [HZ.out, hwin]
        have hzr : 0 ≤ z ∧ z ≤ 10000 := by have := win_range hp HW.out; rw [HZ.out] at this; exact this
        rcases Nat.eq_zero_or_pos k with hk0 | hk0
        · have G1 : Hid (tickTo q s fr b l zs (k + 1) = true) := by
            show _ = _; rw [tickTo_succ HG.out]; unfold tickS; rw [HW.out, hk0]; rfl
          subst hk0
          simp only [Nat.add_zero] at d0
          go_wp2
          refine wp_region_cls (by kernel_rfl) (by kernel_rfl) ?_
          repeat (go_big_quiet_step (first | (go_at_call 90; exact Calls.cls_of (low_any _ _ _ _ _ b0 o _ _ _ _ hl (hSu _))) | (go_at_call 91; exact Calls.cls_of (high_any _ _ _ _ _ b0 o _ _ _ _ hl (hSu _))) | (go_at_call 55; exact Calls.cls_of_same (in_val _ _ _ _ _ hwin))))
          refine wpQuiet_nil ?_
          rintro _ ⟨u, rfl⟩
          have hBu := hB.below u.same
          clear q0 q1 hSu p0 p1 p2 p3 p4 qn
          have qn := Cls.any u.it
          go_wp2
          refine wp_region_cls (by kernel_rfl) (by kernel_rfl) ?_
          repeat (go_big_quiet_step (fail))
          refine wpQuiet_nil ?_
          rintro _ ⟨u2, rfl⟩
          go_wp2
          go_roundw
          case rel => exact ⟨0 + 1, by omega, by go_num, hBu.below u2.same, G1.out⟩
          case measure => simp [intOf]; omega
        · obtain ⟨m, rfl⟩ : ∃ m, k = m + 1 := ⟨k - 1, by omega⟩
          obtain ⟨y, hyk⟩ : ∃ y, zs[m]? = some y := ⟨zs[m]'(by omega), List.getElem?_eq_getElem (by omega)⟩
          have HY : Hid (zs.getD m 0 = y) := by show _ = _; simp [List.getD, hyk]
          have g0 := (hz.below hB.old hz.lt).cell m y hyk
          clear hyk
          have hyr : 0 ≤ y ∧ y ≤ 10000 := by have := win_range hp (tickTo_win HG.out (show m < m + 1 by omega)); rw [HY.out] at this; exact this
          have hml : m < l.length := by omega
          cases hst : inB (z - y) q (mostB s l m) with
          | false =>
            have G1 : Hid (tickTo q s fr b l zs (l.length + 1) = false) := by
              refine tickTo_not (k := m + 1) (by omega) ?_
              unfold tickS stayS; rw [HW.out, Nat.add_sub_cancel, HZ.out, HY.out, hst]; simp
            go_wp2
            refine wp_region_cls (by kernel_rfl) (by kernel_rfl) ?_
            repeat (go_big_quiet_step (first | (go_at_call 90; exact Calls.cls_of (low_any _ _ _ _ _ b0 o _ _ _ _ hl (hSu _))) | (go_at_call 91; exact Calls.cls_of (high_any _ _ _ _ _ b0 o _ _ _ _ hl (hSu _))) | (go_at_call 55; exact Calls.cls_of_same (in_val _ _ _ _ _ hwin))))
            refine wpQuiet_nil ?_
            rintro _ ⟨u, rfl⟩
            have hBu := hB.below u.same
            have e0 := (q0 u (co + (m + 1))).trans d0
            have e1 := (q0 u (co + m)).trans g0
            clear q0 q1 hSu p0 p1 p2 p3 p4 qn d0 g0
            have qn := Cls.any u.it
            have q0 := Cls.cell (Nat.lt_of_lt_of_le hcw u.same.size)
            have q1 := Cls.cell hBu.lt
            have hSu : ∀ u2 : Cls u.it, StepsAt u2.it a b0 o l := fun u2 => hs.below (hBu.old.trans (u2.same.mono hBu.old.size)) hs.lt
            have p0 := hBu.p0
            have p1 := hBu.p1
            have p2 := hBu.p2
            have p3 := hBu.p3
            have p4 := hBu.p4
            go_wp2
            refine wp_region_cls (by kernel_rfl) (by kernel_rfl) ?_
            repeat (go_big_quiet_step (first | (go_at_call 92; exact Calls.cls_of (most_any _ _ _ _ _ b0 o _ _ m _ hl (hSu _) hml)) | (go_at_call 55; exact Calls.cls_of_same (in_val _ _ _ _ _ hst))))
            refine wpQuiet_nil ?_
            rintro _ ⟨u2, rfl⟩
            go_wp2
            go_ret
            exact ⟨by rw [G1.out]; rfl, (hBu.below u2.same).old⟩
          | true =>
            have G1 : Hid (tickTo q s fr b l zs (m + 1 + 1) = true) := by
              show _ = _; rw [tickTo_succ HG.out]
              unfold tickS stayS; rw [HW.out, Nat.add_sub_cancel, HZ.out, HY.out, hst]; simp
            go_wp2
            refine wp_region_cls (by kernel_rfl) (by kernel_rfl) ?_
            repeat (go_big_quiet_step (first | (go_at_call 90; exact Calls.cls_of (low_any _ _ _ _ _ b0 o _ _ _ _ hl (hSu _))) | (go_at_call 91; exact Calls.cls_of (high_any _ _ _ _ _ b0 o _ _ _ _ hl (hSu _))) | (go_at_call 55; exact Calls.cls_of_same (in_val _ _ _ _ _ hwin))))
            refine wpQuiet_nil ?_
            rintro _ ⟨u, rfl⟩
            have hBu := hB.below u.same
            have e0 := (q0 u (co + (m + 1))).trans d0
            have e1 := (q0 u (co + m)).trans g0
            clear q0 q1 hSu p0 p1 p2 p3 p4 qn d0 g0
            have qn := Cls.any u.it
            have q0 := Cls.cell (Nat.lt_of_lt_of_le hcw u.same.size)
            have q1 := Cls.cell hBu.lt
            have hSu : ∀ u2 : Cls u.it, StepsAt u2.it a b0 o l := fun u2 => hs.below (hBu.old.trans (u2.same.mono hBu.old.size)) hs.lt
            have p0 := hBu.p0
            have p1 := hBu.p1
            have p2 := hBu.p2
            have p3 := hBu.p3
            have p4 := hBu.p4
            go_wp2
            refine wp_region_cls (by kernel_rfl) (by kernel_rfl) ?_
            repeat (go_big_quiet_step (first | (go_at_call 92; exact Calls.cls_of (most_any _ _ _ _ _ b0 o _ _ m _ hl (hSu _) hml)) | (go_at_call 55; exact Calls.cls_of_same (in_val _ _ _ _ _ hst))))
            refine wpQuiet_nil ?_
            rintro _ ⟨u2, rfl⟩
            go_wp2
            go_roundw
            case rel => exact ⟨m + 1 + 1, by omega, by go_num, hBu.below u2.same, G1.out⟩
            case measure => simp [intOf]; omega
    · have hkl : k = l.length + 1 := by have := HN.out; omega
      go_wp2
      go_ret
      exact ⟨by rw [← hkl, HG.out]; rfl, hB.old⟩
end Go.Proofs.YtijcdikekgmfoaaGreatDoor

namespace Go.Proofs.YtijcdikekgmfoaaGreatDoor
open Go.RowKit

theorem lawS_any (q s fr b : Int) (a : Option Addr) (b0 o cap : Nat) (l : List Stp) (c : Option Addr) (cb co ccap : Nat) (zs : List Int) (w : World) (hl : l.length ≤ 1048576) (hm : zs.length ≤ 1048576) (hs : StepsAt w a b0 o l) (hz : IntsAt w c cb co zs) :
    Calls Tryz.prog 42 #[.agg #[.int .i64 q, .int .i64 s, .slice a l.length cap, .int .i64 fr, .int .i64 b], .slice c zs.length ccap] w fun e w' => e = .returned (.bool (lawB q s fr b l zs)) ∧ Below w.heap.size w w' := by
  cases h : (pathB q s fr b l && decide (zs.length = l.length + 1)) with
  | false =>
    have e1 : lawB q s fr b l zs = false := by unfold lawB; rw [h]; rfl
    rw [e1]
    exact lawS_no q s fr b a b0 o cap l c zs.length ccap w hl hm hs h
  | true =>
    have e1 : lawB q s fr b l zs = tickTo q s fr b l zs (l.length + 1) := by unfold lawB; rw [h]; rfl
    rw [e1]
    simp only [Bool.and_eq_true, decide_eq_true_eq] at h
    exact lawS_yes q s fr b a b0 o cap l c cb co ccap zs w hl hs hz h.1 h.2
end Go.Proofs.YtijcdikekgmfoaaGreatDoor

namespace Go.Proofs.YtijcdikekgmfoaaGreatDoor
open Go.RowKit

theorem one_new (w : World) (x : Value) (t : TypeId) : ∀ (j : Nat) (u : Value), [x][j]? = some u → (w.alloc (.cells #[x] t)).cell? ((⟨w.heap.size, 0, none⟩ : Addr).add j) = some u := by
  intro j u h
  rcases j with _ | j
  · simp at h
    subst h
    simp [go_sem]
  · simp at h

set_option maxRecDepth 20000 in
set_option maxHeartbeats 1000000 in
theorem flyGoS_any (q s fr b : Int) (a : Option Addr) (b0 o cap : Nat) (l : List Stp) (cb co ccap : Nat) (zs : List Int) (d : Option Addr) (db do_ dcap : Nat) (asks : List Int) (w : World) (hl : l.length ≤ 1048576) (hzl : zs.length ≤ 1048576) (hal : asks.length ≤ 1048576)
    (hs : StepsAt w a b0 o l) (hz : IntsAt w (some ⟨cb, co, none⟩) cb co zs) (ha : IntsAt w d db do_ asks) :
    Calls Tryz.prog 8 #[.agg #[.int .i64 q, .int .i64 s, .slice a l.length cap, .int .i64 fr, .int .i64 b], .slice (some ⟨cb, co, none⟩) zs.length ccap, .slice d asks.length dcap] w
      fun e w' => ∃ v, e = .returned (.tuple #[v, .bool (flownB q s fr b l zs asks)]) ∧ w'.ownsRow w.heap.size 3 1 v (flownL q s fr b l zs asks).length (intCells (flownL q s fr b l zs asks)) ∧ Below w.heap.size w w' := by
  obtain ⟨i0, hi, hz0, hz1, hz2⟩ := info_parts int_info
  have hP0 := PathAt.new w q s fr b (.slice a l.length cap)
  have hE := owns_empty (w := w.alloc (.cells #[.int .i64 q, .int .i64 s, .slice a l.length cap, .int .i64 fr, .int .i64 b] 27)) (base := w.heap.size + 1) (e := 3) (size := 1) (by simp)
  simp only [World.size_alloc] at hE
  have hnew := ints_news ((hz.alloc (.cells #[.int .i64 q, .int .i64 s, .slice a l.length cap, .int .i64 fr, .int .i64 b] 27)).alloc (.cells #[] 3))
  go_enter Tryz.func8, Tryz.ntmps8
  go_wp2_with (at_builtin; refine wpList_append_own _ rfl (.tmp 13) (.tmp 14) 28 rfl (w.heap.size + 1) 3 i0 (.int .i64 0) 1 8 Tryz.underlying28 hi hz0 hz1 hz2 rfl (by decide) (.slice (some ⟨w.heap.size + 1, 0, none⟩) 0 0) 0 [] rfl hE ⟨cb, co, none⟩ zs.length ccap (intCells zs) rfl (by rw [intCells_length, Nat.mul_one]) hnew (intCells_one zs) (by unfold maxLen; omega) (by omega) (by simp) ?_; intro v1 w1 hown1 hgrow1 hnil1; refine stopAt ?_)
  simp only [Nat.zero_add, List.nil_append] at hown1
  have hb01 : Below w.heap.size w w1 := (((Below.refl w.heap.size w).alloc (Nat.le_refl _) _).alloc (by simp) _).grown hgrow1 (by simp; omega) (fun k e => by simp [Value.ownBlock] at e; omega)
  have hP1 : PathAt w1 w.heap.size q s fr b (.slice a l.length cap) := ⟨(hgrow1.block w.heap.size (by simp; omega) (by simp [Value.ownBlock])).trans (hP0.keep ((Below.refl (w.heap.size + 1) _).alloc (by simp) (.cells #[] 3)) (by omega)).it⟩
  refine (show wpList _ _ _ _ _ _ from ?_)
  clear hP0 hE hnew hgrow1 hnil1
  have z1 := hb01.size
  have zp := hP1.lt
  obtain ⟨⟨p0, p1, p2, p3, p4⟩, pf⟩ := hP1.cells
  obtain ⟨av, gv, cv, rfl, _, _⟩ := ints_owned hown1
  go_wp2_with fail
  refine (pathS_any _ _ _ _ _ b0 o _ _ _ hl (hs.below hb01 hs.lt)).mono ?_
  rintro e w2 ⟨rfl, hb2⟩
  have hP2 := hP1.keep hb2 zp
  have hown2 := owns_below hown1 hb2
  have hb02 := hb01.trans (hb2.mono hb01.size)
  have z2 := hb02.size
  clear hP1 hown1 hb2 p0 p1 p2 p3 p4 pf
  obtain ⟨⟨p0, p1, p2, p3, p4⟩, pf⟩ := hP2.cells
  have wl : IntKind.i64.wrap ((l.length : Int) + 1) = (l.length : Int) + 1 := by rw [IntKind.wrap_i64]; omega
  cases hp : pathB q s fr b l with
  | false =>
    have E : Hid (flownB q s fr b l zs asks = false) := lawB_path hp
    go_wp2
    go_ret2
    refine ⟨_, by rw [E.out]; rfl, ?_, hb02.alloc hb02.size _⟩
    rw [flown_no E.out]
    exact owns_empty hb02.size
  | true =>
    by_cases hlen : zs.length ≤ l.length + 1
    · have hpl := path_len hp
      have n1 : ¬ ((l.length : Int) + 1 < (zs.length : Int)) := by omega
      go_wp2_with fail
      go_loopw [8, 9] (fun v u wr => ∃ i : Nat, u = .int .i64 i ∧ zs.length + i ≤ l.length + 1 ∧ PathAt wr w.heap.size q s fr b (.slice a l.length cap) ∧ Below w.heap.size w wr ∧ wr.ownsRow (w.heap.size + 1) 3 1 v (zs.length + i) (intCells (goAt q s fr b l zs asks i)) ∧ ∀ j, j < i → goB q s fr b l (goAt q s fr b l zs asks j) = true) (fun _ u _ => l.length + 2 - (intOf u).toNat)
      case atStart => exact ⟨0, rfl, by omega, hP2, hb02, hown2, fun j hj => by omega⟩
      case round =>
        clear hP2 hb02 hown2 p0 p1 p2 p3 p4 pf zp z1 z2 hb01 n1
        obtain ⟨i, rfl, hi1, hP, hb, hown, hall⟩ := hrel
        have hgl := goAt_length q s fr b l zs asks i
        obtain ⟨F, hF⟩ : ∃ F, goAt q s fr b l zs asks i = F := ⟨_, rfl⟩
        rw [hF] at hgl
        have hown' := hown
        rw [hF, ← hgl] at hown'
        obtain ⟨va, vg, vc, rfl, hv, _⟩ := ints_owned hown'
        obtain ⟨⟨p0, p1, p2, p3, p4⟩, pf⟩ := hP.cells
        have HGL : Hid (F.length = zs.length + i) := hgl
        have hf1 : F.length ≤ l.length + 1 := by omega
        clear hgl hi1 hown
        by_cases hle : F.length ≤ l.length
        · have k1 : (F.length : Int) ≤ (l.length : Int) := by omega
          have hs3 := hs.below hb hs.lt
          obtain ⟨⟨y0, y1⟩, hy⟩ : ∃ y, goS q s fr b l F = y := ⟨_, rfl⟩
          obtain ⟨yb, hyb⟩ : ∃ y, goB q s fr b l F = y := ⟨_, rfl⟩
          have HS := flyNextS_any q s fr b a b0 o cap l va vg 0 vc F wr hl (by omega) hs3 hv
          rw [hy, hyb] at HS
          go_wp2_with fail
          refine HS.mono ?_
          rintro e w3 ⟨rfl, hb3⟩
          have hal3 : Below w3.heap.size w3 (w3.alloc (.cells #[.int .i64 y0, .int .i64 y1] 56)) := (Below.refl w3.heap.size w3).alloc (Nat.le_refl _) _
          have hb4 : Below wr.heap.size wr (w3.alloc (.cells #[.int .i64 y0, .int .i64 y1] 56)) := hb3.trans (hal3.mono hb3.size)
          have hP4 := hP.keep hb4 hP.lt
          have hb04 := hb.trans (hb4.mono hb.size)
          have hown4 := owns_below hown' hb4
          have sp4 : (w3.alloc (.cells #[.int .i64 y0, .int .i64 y1] 56)).heap[w3.heap.size]? = some (.cells #[.int .i64 y0, .int .i64 y1] 56 (0, 0)) := heap_alloc_new w3 _
          obtain ⟨s0, s1, _⟩ := blk2 sp4
          have hlt4 : w3.heap.size < (w3.alloc (.cells #[.int .i64 y0, .int .i64 y1] 56)).heap.size := by simp
          have sz4 := hb04.size
          clear HS hb3 hal3 hb4 p0 p1 p2 p3 p4 pf hs3 hown' hP hb
          cases yb with
          | false =>
            have E : Hid (flownB q s fr b l zs asks = false) := by
              show _ = _
              unfold flownB
              rw [goF_is (n := i) (by rw [hF]; exact hyb) hall, hF]
              exact lawB_len (by omega)
            clear hall hyb hF
            go_wp2
            go_ret2
            refine ⟨_, by rw [E.out]; rfl, ?_, hb04.alloc hb04.size _⟩
            rw [flown_no E.out]
            have ho := owns_empty (e := 3) (size := 1) hb04.size
            rw [World.size_alloc] at ho
            exact ho
          | true =>
            have hyr : y0 ≤ y1 := by
              have h1 := open_range hyb
              have h2 : goS q s fr b l F = openA q s fr b l l.length (fun i => F.getD i 0) F.length := by unfold goS; rw [if_pos hyb]
              rw [← h2, hy] at h1
              exact h1.2.1
            have HALL : Hid (∀ j, j < i + 1 → goB q s fr b l (goAt q s fr b l zs asks j) = true) := by
              intro j hj
              by_cases e : j = i
              · subst e; rw [hF]; exact hyb
              · exact hall j (by omega)
            have HY : Hid (goS q s fr b l F = (y0, y1)) := hy
            have HF : Hid (goAt q s fr b l zs asks i = F) := hF
            clear hall hyb hy hF
            by_cases hia : i < asks.length
            · obtain ⟨z, hzi⟩ : ∃ z, asks[i]? = some z := ⟨asks[i], List.getElem?_eq_getElem hia⟩
              have hne : asks ≠ [] := by intro e; subst e; simp at hia
              obtain rfl := ha.here hne
              have ha4 := ha.below hb04 ha.lt
              have zc := ha4.cell i z hzi
              have hdl := ha4.lt hne
              obtain ⟨n1, hn1⟩ : ∃ n1, mxB y0 z = n1 := ⟨_, rfl⟩
              obtain ⟨n2, hn2⟩ : ∃ n2, mnB n1 y1 = n2 := ⟨_, rfl⟩
              have m0 : (0 : Int) ≤ (i : Int) := by omega
              have m1 : (i : Int) < (asks.length : Int) := by omega
              have TK : Hid (goAt q s fr b l zs asks (i + 1) = F ++ [n2]) := by
                show _ = _
                rw [goAt, HF.out, HY.out]
                have hd : asks.drop i = z :: asks.drop (i + 1) := by
                  rw [List.drop_eq_getElem_cons hia]
                  congr 1
                  rw [List.getElem?_eq_getElem hia] at hzi
                  exact Option.some.inj hzi
                rw [hd]
                show F ++ [clampB (y0, y1) z] = _
                unfold clampB
                rw [hn1, hn2]
              have mi : (i : Int) < (asks.length : Int) := m1
              go_wp2
              generalize w3.alloc (.cells #[.int .i64 y0, .int .i64 y1] 56) = W4 at *
              have MX : ∀ (u : Cls W4), Calls Tryz.prog 41 #[.int .i64 y0, .int .i64 z] u.it fun e w' => e = .returned (.int .i64 n1) ∧ w' = u.it := fun u => by rw [← hn1]; exact max_any _ _ _
              have MN : ∀ (u : Cls W4), Calls Tryz.prog 40 #[.int .i64 n1, .int .i64 y1] u.it fun e w' => e = .returned (.int .i64 n2) ∧ w' = u.it := fun u => by rw [← hn2]; exact min_any _ _ _
              have qn := Cls.any W4
              have q1 := Cls.cell hdl
              have q2 := Cls.cell hlt4
              clear hn1 hn2
              refine wp_region_cls (by kernel_rfl) (by kernel_rfl) ?_
              repeat (go_big_quiet_step (first | (go_at_call 41; exact Calls.cls_of_same (MX _)) | (go_at_call 40; exact Calls.cls_of_same (MN _))))
              refine wpQuiet_nil ?_
              rintro _ ⟨u, rfl⟩
              have hown5 := owns_below hown4 u.same
              have hb05 := hb04.trans (u.same.mono hb04.size)
              have hP5 := hP4.keep u.same hP4.lt
              clear q1 q2 qn MX MN ha4 hown4 hb04 hP4 sp4 s0 s1 hlt4 sz4 zc hdl
              generalize u.it = W5 at *
              have hal5 : Below W5.heap.size W5 (W5.alloc (.cells #[.int .i64 n2] 3)) := (Below.refl W5.heap.size W5).alloc (Nat.le_refl _) _
              have hown6 := owns_below hown5 hal5
              have hnew6 : ∀ (j : Nat) (u : Value), [Value.int .i64 n2][j]? = some u → (W5.alloc (.cells #[.int .i64 n2] 3)).cell? ((⟨W5.heap.size, 0, none⟩ : Addr).add j) = some u := one_new W5 _ _
              have sz5 := hb05.size
              go_wp2_with (at_builtin; refine wpList_append_own _ rfl (.tmp 62) (.tmp 64) 28 rfl (w.heap.size + 1) 3 i0 (.int .i64 0) 1 8 Tryz.underlying28 hi hz0 hz1 hz2 rfl (by decide) _ F.length (intCells F) rfl hown6 ⟨W5.heap.size, 0, none⟩ 1 1 [.int .i64 n2] rfl rfl hnew6 (by simp [Value.oneCell']) (by unfold maxLen; omega) (by omega) (by simp; have := hP5.lt; omega) ?_; intro v7 w7 hown7 hgrow7 hnil7)
              go_roundw
              case rel =>
                have hbase := owns_base hown6
                have hne7 : some w.heap.size ≠ (Value.slice va F.length vc).ownBlock := fun e => by have := hbase _ e.symm; omega
                have hP6 := hP5.keep hal5 hP5.lt
                refine ⟨i + 1, by go_num, by have := HGL.out; omega, ⟨(hgrow7.block _ hP6.lt hne7).trans hP6.it⟩, (hb05.alloc hb05.size _).grown hgrow7 (by simp; omega) (fun k e => by have := hbase k e; omega), ?_, HALL.out⟩
                rw [TK.out, intCells_snoc, ← Nat.add_assoc, ← HGL.out]
                exact hown7
              case measure => have := HGL.out; simp [intOf]; omega
            · have m1 : ¬ ((i : Int) < (asks.length : Int)) := by omega
              have hib : i ≤ 100 := by have := HGL.out; omega
              have TK : Hid (goAt q s fr b l zs asks (i + 1) = F ++ [y0]) := by
                show _ = _
                rw [goAt, HF.out, HY.out, List.drop_eq_nil_of_le (by omega)]
                rfl
              have hal5 : Below (w3.alloc (.cells #[.int .i64 y0, .int .i64 y1] 56)).heap.size (w3.alloc (.cells #[.int .i64 y0, .int .i64 y1] 56)) ((w3.alloc (.cells #[.int .i64 y0, .int .i64 y1] 56)).alloc (.cells #[.int .i64 y0] 3)) := (Below.refl _ _).alloc (Nat.le_refl _) _
              have hown6 := owns_below hown4 hal5
              have hnew6 := one_new (w3.alloc (.cells #[.int .i64 y0, .int .i64 y1] 56)) (.int .i64 y0) 3
              have hP6 := hP4.keep hal5 hP4.lt
              have HB4 : Hid (Below w.heap.size w (w3.alloc (.cells #[.int .i64 y0, .int .i64 y1] 56))) := hb04
              have sz6 : w.heap.size < w3.heap.size + 1 := by have := hP4.lt; simp at this; omega
              simp only [World.size_alloc] at hnew6
              clear hb04 hP4 hown4 sp4
              go_wp2_with (at_builtin; refine wpList_append_own _ rfl (.tmp 62) (.tmp 64) 28 rfl (w.heap.size + 1) 3 i0 (.int .i64 0) 1 8 Tryz.underlying28 hi hz0 hz1 hz2 rfl (by decide) _ F.length (intCells F) rfl hown6 ⟨w3.heap.size + 1, 0, none⟩ 1 1 [.int .i64 y0] rfl rfl hnew6 (by simp [Value.oneCell']) (by unfold maxLen; omega) (by omega) (by simp; omega) ?_; intro v7 w7 hown7 hgrow7 hnil7)
              go_roundw
              case rel =>
                have hbase := owns_base hown6
                have hne7 : some w.heap.size ≠ (Value.slice va F.length vc).ownBlock := fun e => by have := hbase _ e.symm; omega
                refine ⟨i + 1, by go_num, by have := HGL.out; omega, ⟨(hgrow7.block _ hP6.lt hne7).trans hP6.it⟩, (HB4.out.alloc HB4.out.size _).grown hgrow7 (by simp; omega) (fun k e => by have := hbase k e; omega), ?_, HALL.out⟩
                rw [TK.out, intCells_snoc, ← Nat.add_assoc, ← HGL.out]
                exact hown7
              case measure => have := HGL.out; simp [intOf]; omega
        · have k1 : ¬ ((F.length : Int) ≤ (l.length : Int)) := by omega
          have hFl : F.length = l.length + 1 := by omega
          have HFN : Hid (goF q s fr b l zs asks = F) := by
            show _ = _
            rw [goF_is (n := i) ?_ hall]
            · exact hF
            · rw [hF]
              exact goB_long (by omega)
          have hs3 := hs.below hb hs.lt
          have HL := lawS_any q s fr b a b0 o cap l va vg 0 vc F wr hl (by omega) hs3 hv
          obtain ⟨yb, hyb⟩ : ∃ y, lawB q s fr b l F = y := ⟨_, rfl⟩
          rw [hyb] at HL
          clear hFl hall hF
          go_wp2_with fail
          refine HL.mono ?_
          rintro e w3 ⟨rfl, hb3⟩
          have hown3 := owns_below hown' hb3
          have hb03 := hb.trans (hb3.mono hb.size)
          clear hown' hb3 HL hs3 p0 p1 p2 p3 p4 pf hP hb hv
          cases yb with
          | false =>
            have E : Hid (flownB q s fr b l zs asks = false) := by show _ = _; unfold flownB; rw [HFN.out]; exact hyb
            clear hyb
            go_wp2
            go_ret2
            refine ⟨_, by rw [E.out]; rfl, ?_, hb03.alloc hb03.size _⟩
            rw [flown_no E.out]
            exact owns_empty hb03.size
          | true =>
            have E : Hid (flownB q s fr b l zs asks = true) := by show _ = _; unfold flownB; rw [HFN.out]; exact hyb
            have E2 : Hid (flownL q s fr b l zs asks = F) := by show _ = _; unfold flownL; rw [E.out, HFN.out]; rfl
            clear hyb
            go_wp2
            go_ret2
            refine ⟨_, by rw [E.out]; rfl, ?_, hb03⟩
            rw [E2.out]
            exact ⟨hown3.1, hown3.2.imp id fun ⟨g, cap, cur, h1, h2, h3⟩ => ⟨g, cap, cur, h1, by omega, h3⟩⟩
    · have E : Hid (flownB q s fr b l zs asks = false) := by
        show _ = _
        unfold flownB
        rw [goF_is (n := 0) (goB_long (by simp only [goAt]; omega)) (fun j hj => by omega)]
        exact lawB_len (by simp only [goAt]; omega)
      have n1 : (l.length : Int) + 1 < (zs.length : Int) := by omega
      go_wp2
      go_ret2
      refine ⟨_, by rw [E.out]; rfl, ?_, hb02.alloc hb02.size _⟩
      rw [flown_no E.out]
      exact owns_empty hb02.size
end Go.Proofs.YtijcdikekgmfoaaGreatDoor

namespace Go.Proofs.YtijcdikekgmfoaaGreatDoor
open Go.RowKit

set_option maxRecDepth 20000 in
set_option maxHeartbeats 1000000 in
theorem flySpansS_any (q s fr b : Int) (a : Option Addr) (b0 o cap : Nat) (l : List Stp) (w : World) (hl : l.length ≤ 1048576) (hs : StepsAt w a b0 o l) :
    Calls Tryz.prog 80 #[.agg #[.int .i64 q, .int .i64 s, .slice a l.length cap, .int .i64 fr, .int .i64 b]] w
      fun e w' => ∃ v, e = .returned (.tuple #[v, .bool (flyB q s fr b l)]) ∧ w'.ownsRow w.heap.size 56 2 v (flyL q s fr b l).length (spanCells (flyL q s fr b l)) ∧ Below w.heap.size w w' := by
  have hB0 := BoxP.new w q s fr b (.slice a l.length cap) 27
  cases hp : pathB q s fr b l with
  | false =>
    have e1 : flyB q s fr b l = false := by unfold flyB; rw [hp]; rfl
    have e2 : flyL q s fr b l = [] := by unfold flyL; rw [hp]; rfl
    rw [e1, e2]
    go_enter Tryz.func80, Tryz.ntmps80
    go_wp2_with fail
    refine (pathS_any _ _ _ _ _ b0 o _ _ _ hl (hs.alloc _)).mono ?_
    rw [hp]
    rintro e w1 ⟨rfl, hb1⟩
    have hB1 := hB0.below hb1
    go_wp2
    go_ret2
    exact ⟨_, rfl, owns_empty hB1.old.size, hB1.old.alloc hB1.old.size _⟩
  | true =>
    have e1 : flyB q s fr b l = spanB q s fr b l := by unfold flyB; rw [hp]; rfl
    have e2 : flyL q s fr b l = spansL q s fr b l := by unfold flyL; rw [hp]; rfl
    rw [e1, e2]
    go_enter Tryz.func80, Tryz.ntmps80
    go_wp2_with fail
    refine (pathS_any _ _ _ _ _ b0 o _ _ _ hl (hs.alloc _)).mono ?_
    rw [hp]
    rintro e w1 ⟨rfl, hb1⟩
    have hB1 := hB0.below hb1
    have p0 := hB1.p0
    have p1 := hB1.p1
    have p2 := hB1.p2
    have p3 := hB1.p3
    have p4 := hB1.p4
    have z1 := hB1.lt
    clear hb1
    go_wp2_with fail
    refine (spansS_wide _ _ _ _ _ b0 o _ _ _ (hs.below hB1.old hs.lt) (Wide.of hp)).mono ?_
    rintro e w2 ⟨v, rfl, hown, hb2⟩
    go_wp2
    go_ret2
    exact ⟨_, rfl, ⟨hown.1, hown.2.imp id fun ⟨g, cap, cur, h1, h2, h3⟩ => ⟨g, cap, cur, h1, by omega, h3⟩⟩, hB1.old.trans (hb2.mono hB1.old.size)⟩
end Go.Proofs.YtijcdikekgmfoaaGreatDoor

namespace Go.Proofs.YtijcdikekgmfoaaGreatDoor
open Go.RowKit

theorem flyL_le (q s fr b : Int) (l : List Stp) : (flyL q s fr b l).length ≤ l.length + 1 := by
  unfold flyL
  split
  · unfold spansL
    split
    · simp
    · simp
  · simp

theorem row_ne3 {w : World} {base base' e e' size size' n n' : Nat} {v v' : Value} {xs xs' : List Value} (h : w.ownsRow base e size v n xs) (h' : w.ownsRow base' e' size' v' n' xs') (hne : e ≠ e') : ∀ k, v.ownBlock = some k → v'.ownBlock ≠ some k := by
  intro k hk hk'
  rcases h.2 with ⟨rfl, _⟩ | ⟨g, cap, cur, rfl, _, hh, _⟩
  · simp [Value.ownBlock] at hk
  · rcases h'.2 with ⟨rfl, _⟩ | ⟨g', cap', cur', rfl, _, hh', _⟩
    · simp [Value.ownBlock] at hk'
    · simp [Value.ownBlock] at hk hk'
      subst hk
      subst hk'
      rw [hh] at hh'
      have := congrArg (fun o => match o with | some (Obj.cells _ t _) => t | _ => 0) hh'
      exact hne (by simpa using this)
theorem owns_other1 {w w' : World} {base e size n : Nat} {v : Value} {xs : List Value} {row : Option Nat} (h : w.ownsRow base e size v n xs) (hg : w.grownBy w' row) (hr : ∀ k, v.ownBlock = some k → row ≠ some k) : w'.ownsRow base e size v n xs :=
  ⟨h.1, h.2.imp id fun ⟨g, cap, cur, h1, h2, h3, h4⟩ => ⟨g, cap, cur, h1, h2, (hg.block g (lt_of_block h3) (fun e => hr g (by rw [h1]; rfl) e.symm)).trans h3, h4⟩⟩

theorem lowP_any (x y : Int) (w : World) : Calls Tryz.prog 74 #[.agg #[.int .i64 x, .int .i64 y]] w fun e w' => e = .returned (.int .i64 x) ∧ Below w.heap.size w w' := by
  go_enter Tryz.func74, Tryz.ntmps74
  go_wp2
  go_ret
  exact ⟨rfl, by first | exact Below.refl _ _ | exact (Below.refl _ _).alloc (Nat.le_refl _) _⟩

set_option maxRecDepth 20000 in
set_option maxHeartbeats 4000000 in
theorem ticks_low (hI : SpansSaid) (q s fr b : Int) (a : Option Addr) (b0 o cap : Nat) (l : List Stp) (w : World) (hl : l.length ≤ 1048575) (hs : StepsAt w a b0 o l) :
    Calls Tryz.prog 73 #[.agg #[.int .i64 q, .int .i64 s, .slice a l.length cap, .int .i64 fr, .int .i64 b], .func (.func 74) #[] #[]] w
      fun e w' => ∃ v, e = .returned v ∧ w'.ownsRow w.heap.size 3 1 v ((flyL q s fr b l).map (·.1)).length (intCells ((flyL q s fr b l).map (·.1))) ∧ Below w.heap.size w w' := by
  obtain ⟨i0, hinf, hz0, hz1, hz2⟩ := info_parts int_info
  have B0 := (Below.refl w.heap.size w).alloc (Nat.le_refl _) (.cells #[.int .i64 q, .int .i64 s, .slice a l.length cap, .int .i64 fr, .int .i64 b] 27)
  go_enter Tryz.func73, Tryz.ntmps73
  go_wp2_with fail
  refine (hI q s fr b a b0 o cap l _ (by omega) (hs.alloc _)).mono ?_
  rintro e w1 ⟨v1, rfl, ho1, hb1⟩
  have hfl := flyL_le q s fr b l
  generalize flyB q s fr b l = ok
  obtain ⟨sp, hspE⟩ : ∃ sp, flyL q s fr b l = sp := ⟨_, rfl⟩
  rw [hspE] at ho1 hfl
  have HSP : Hid (flyL q s fr b l = sp) := hspE
  clear hspE
  have B1 := B0.trans (hb1.mono B0.size)
  clear B0 hb1
  have hsl : ∃ va vc, v1 = .slice va sp.length vc := by
    rcases ho1.2 with ⟨rfl, h0⟩ | ⟨g, c, cur, rfl, _⟩
    · exact ⟨none, 0, by rw [h0]⟩
    · exact ⟨_, c, rfl⟩
  obtain ⟨va, vc, rfl⟩ := hsl
  have ho2 : w1.ownsRow w.heap.size 56 2 (.slice va sp.length vc) sp.length (spanCells sp) := ⟨ho1.1, ho1.2.imp id fun ⟨g, cap, cur, h1, h2, h3⟩ => ⟨g, cap, cur, h1, by simp at h2; omega, h3⟩⟩
  clear ho1
  go_wp2
  go_loopw [7, 17] (fun s7 s17 wr => ∃ (v : Value) (k : Nat), s7 = v ∧ s17 = .int .i64 (k : Int) ∧ k ≤ sp.length ∧ Below w.heap.size w wr ∧ wr.ownsRow w.heap.size 3 1 v k (intCells ((sp.take k).map (·.1))) ∧ wr.ownsRow w.heap.size 56 2 (.slice va sp.length vc) sp.length (spanCells sp)) (fun _ s17 _ => sp.length - (intOf s17).toNat)
  case atStart => exact ⟨_, 0, rfl, rfl, by omega, B1, by simpa [intCells] using World.ownsRow_nil _ _ _ _, ho2⟩
  case round =>
    obtain ⟨v, k, rfl, rfl, hk, B2, ho3, hos⟩ := hrel
    clear ho2 B1
    have k0 : (0 : Int) ≤ (k : Int) := by omega
    by_cases hlt : k < sp.length
    · have k1 : (k : Int) < (sp.length : Int) := by omega
      obtain ⟨⟨lo, hi⟩, hsp⟩ : ∃ x, sp[k]? = some x := ⟨_, List.getElem?_eq_getElem hlt⟩
      obtain ⟨y0, y1⟩ := spanCells_get sp k _ hsp
      obtain ⟨g, gc, hgv, hg1, hg2⟩ := owns_some hos (by omega)
      cases hgv
      have x0 := (hos.cellAt (k * 2) (by omega)).trans y0
      have x1 := (hos.cellAt (k * 2 + 1) (by omega)).trans y1
      have HT : Hid ((sp.take (k + 1)).map (·.1) = (sp.take k).map (·.1) ++ [lo]) := by
        show _ = _
        rw [List.take_add_one, hsp]
        simp
      clear y0 y1 hsp
      go_wp2_with fail
      refine (lowP_any lo hi _).mono ?_
      rintro e w2 ⟨rfl, hb2⟩
      have hal := (Below.refl wr.heap.size wr).alloc (Nat.le_refl _) (.cells #[.int .i64 lo, .int .i64 hi] 56)
      have hb12 : Below wr.heap.size wr w2 := hal.trans (hb2.mono (by simp))
      have ho4 := owns_below (owns_below ho3 hb12) ((Below.refl _ _).alloc (Nat.le_refl _) (.cells #[.int .i64 lo] 3))
      have hos4 := owns_below (owns_below hos hb12) ((Below.refl _ _).alloc (Nat.le_refl _) (.cells #[.int .i64 lo] 3))
      have B3 := (B2.trans (hb12.mono B2.size)).alloc (Nat.le_trans B2.size hb12.size) (.cells #[.int .i64 lo] 3)
      have hnew := one_new w2 (.int .i64 lo) 3
      have hw2 : w.heap.size ≤ w2.heap.size := Nat.le_trans B2.size hb12.size
      clear ho3 hos x0 x1 hal hb2 hb12 B2
      go_wp2_with (at_builtin; refine wpList_append_own _ rfl (.tmp 21) (.tmp 25) 28 rfl w.heap.size 3 i0 (.int .i64 0) 1 8 Tryz.underlying28 hinf hz0 hz1 hz2 rfl (by decide) u7 k (intCells ((sp.take k).map (·.1))) rfl ho4 ⟨w2.heap.size, 0, none⟩ 1 1 [.int .i64 lo] rfl rfl hnew (by simp [Value.oneCell']) (by unfold maxLen; omega) (by omega) (by simp; omega) ?_; intro v6 w6 ho6 hg6 _)
      have hv5 := owns_base ho4
      have B6 := B3.grown hg6 (by simp; omega) hv5
      have hos6 := owns_other1 hos4 hg6 (fun k e => fun e' => row_ne3 hos4 ho4 (by decide) k e e')
      rw [← intCells_snoc, ← HT.out] at ho6
      go_roundw
      case rel => exact ⟨v6, k + 1, rfl, by simp, by omega, B6, ho6, hos6⟩
      case measure => simp [intOf]; omega
    · obtain rfl : k = sp.length := by omega
      have k1 : ¬ (sp.length : Int) < (sp.length : Int) := by omega
      go_wp2
      refine bodyPost_ret (v := u7) (by simp [results, Tryz.results73, go_sem]) rfl ⟨u7, rfl, ?_, B2⟩
      rw [List.take_length] at ho3
      rw [HSP.out]
      simpa using ho3

theorem flyfirst_any (hI : SpansSaid) (q s fr b : Int) (a : Option Addr) (b0 o cap : Nat) (l : List Stp) (w : World) (hl : l.length ≤ 1048575) (hs : StepsAt w a b0 o l) :
    Calls Tryz.prog 25 #[.agg #[.int .i64 q, .int .i64 s, .slice a l.length cap, .int .i64 fr, .int .i64 b]] w
      fun e w' => ∃ v, e = .returned v ∧ w'.ownsRow w.heap.size 3 1 v ((flyL q s fr b l).map (·.1)).length (intCells ((flyL q s fr b l).map (·.1))) ∧ Below w.heap.size w w' := by
  have B0 := (Below.refl w.heap.size w).alloc (Nat.le_refl _) (.cells #[.int .i64 q, .int .i64 s, .slice a l.length cap, .int .i64 fr, .int .i64 b] 27)
  go_enter Tryz.func25, Tryz.ntmps25
  go_wp2_with fail
  refine (ticks_low hI q s fr b a b0 o cap l _ hl (hs.alloc _)).mono ?_
  rintro e w1 ⟨v1, rfl, ho1, hb1⟩
  have B1 := B0.trans (hb1.mono B0.size)
  go_wp2
  refine bodyPost_ret (v := v1) (by simp [results, Tryz.results25, go_sem]) rfl ⟨v1, rfl, ⟨ho1.1, ho1.2.imp id fun ⟨g, cap, cur, h1, h2, h3⟩ => ⟨g, cap, cur, h1, by simp at h2; omega, h3⟩⟩, B1⟩

theorem highP_any (x y : Int) (w : World) : Calls Tryz.prog 75 #[.agg #[.int .i64 x, .int .i64 y]] w fun e w' => e = .returned (.int .i64 y) ∧ Below w.heap.size w w' := by
  go_enter Tryz.func75, Tryz.ntmps75
  go_wp2
  go_ret
  exact ⟨rfl, by first | exact Below.refl _ _ | exact (Below.refl _ _).alloc (Nat.le_refl _) _⟩

set_option maxRecDepth 20000 in
set_option maxHeartbeats 4000000 in
theorem ticks_high (hI : SpansSaid) (q s fr b : Int) (a : Option Addr) (b0 o cap : Nat) (l : List Stp) (w : World) (hl : l.length ≤ 1048575) (hs : StepsAt w a b0 o l) :
    Calls Tryz.prog 73 #[.agg #[.int .i64 q, .int .i64 s, .slice a l.length cap, .int .i64 fr, .int .i64 b], .func (.func 75) #[] #[]] w
      fun e w' => ∃ v, e = .returned v ∧ w'.ownsRow w.heap.size 3 1 v ((flyL q s fr b l).map (·.2)).length (intCells ((flyL q s fr b l).map (·.2))) ∧ Below w.heap.size w w' := by
  obtain ⟨i0, hinf, hz0, hz1, hz2⟩ := info_parts int_info
  have B0 := (Below.refl w.heap.size w).alloc (Nat.le_refl _) (.cells #[.int .i64 q, .int .i64 s, .slice a l.length cap, .int .i64 fr, .int .i64 b] 27)
  go_enter Tryz.func73, Tryz.ntmps73
  go_wp2_with fail
  refine (hI q s fr b a b0 o cap l _ (by omega) (hs.alloc _)).mono ?_
  rintro e w1 ⟨v1, rfl, ho1, hb1⟩
  have hfl := flyL_le q s fr b l
  generalize flyB q s fr b l = ok
  obtain ⟨sp, hspE⟩ : ∃ sp, flyL q s fr b l = sp := ⟨_, rfl⟩
  rw [hspE] at ho1 hfl
  have HSP : Hid (flyL q s fr b l = sp) := hspE
  clear hspE
  have B1 := B0.trans (hb1.mono B0.size)
  clear B0 hb1
  have hsl : ∃ va vc, v1 = .slice va sp.length vc := by
    rcases ho1.2 with ⟨rfl, h0⟩ | ⟨g, c, cur, rfl, _⟩
    · exact ⟨none, 0, by rw [h0]⟩
    · exact ⟨_, c, rfl⟩
  obtain ⟨va, vc, rfl⟩ := hsl
  have ho2 : w1.ownsRow w.heap.size 56 2 (.slice va sp.length vc) sp.length (spanCells sp) := ⟨ho1.1, ho1.2.imp id fun ⟨g, cap, cur, h1, h2, h3⟩ => ⟨g, cap, cur, h1, by simp at h2; omega, h3⟩⟩
  clear ho1
  go_wp2
  go_loopw [7, 17] (fun s7 s17 wr => ∃ (v : Value) (k : Nat), s7 = v ∧ s17 = .int .i64 (k : Int) ∧ k ≤ sp.length ∧ Below w.heap.size w wr ∧ wr.ownsRow w.heap.size 3 1 v k (intCells ((sp.take k).map (·.2))) ∧ wr.ownsRow w.heap.size 56 2 (.slice va sp.length vc) sp.length (spanCells sp)) (fun _ s17 _ => sp.length - (intOf s17).toNat)
  case atStart => exact ⟨_, 0, rfl, rfl, by omega, B1, by simpa [intCells] using World.ownsRow_nil _ _ _ _, ho2⟩
  case round =>
    obtain ⟨v, k, rfl, rfl, hk, B2, ho3, hos⟩ := hrel
    clear ho2 B1
    have k0 : (0 : Int) ≤ (k : Int) := by omega
    by_cases hlt : k < sp.length
    · have k1 : (k : Int) < (sp.length : Int) := by omega
      obtain ⟨⟨lo, hi⟩, hsp⟩ : ∃ x, sp[k]? = some x := ⟨_, List.getElem?_eq_getElem hlt⟩
      obtain ⟨y0, y1⟩ := spanCells_get sp k _ hsp
      obtain ⟨g, gc, hgv, hg1, hg2⟩ := owns_some hos (by omega)
      cases hgv
      have x0 := (hos.cellAt (k * 2) (by omega)).trans y0
      have x1 := (hos.cellAt (k * 2 + 1) (by omega)).trans y1
      have HT : Hid ((sp.take (k + 1)).map (·.2) = (sp.take k).map (·.2) ++ [hi]) := by
        show _ = _
        rw [List.take_add_one, hsp]
        simp
      clear y0 y1 hsp
      go_wp2_with fail
      refine (highP_any lo hi _).mono ?_
      rintro e w2 ⟨rfl, hb2⟩
      have hal := (Below.refl wr.heap.size wr).alloc (Nat.le_refl _) (.cells #[.int .i64 lo, .int .i64 hi] 56)
      have hb12 : Below wr.heap.size wr w2 := hal.trans (hb2.mono (by simp))
      have ho4 := owns_below (owns_below ho3 hb12) ((Below.refl _ _).alloc (Nat.le_refl _) (.cells #[.int .i64 hi] 3))
      have hos4 := owns_below (owns_below hos hb12) ((Below.refl _ _).alloc (Nat.le_refl _) (.cells #[.int .i64 hi] 3))
      have B3 := (B2.trans (hb12.mono B2.size)).alloc (Nat.le_trans B2.size hb12.size) (.cells #[.int .i64 hi] 3)
      have hnew := one_new w2 (.int .i64 hi) 3
      have hw2 : w.heap.size ≤ w2.heap.size := Nat.le_trans B2.size hb12.size
      clear ho3 hos x0 x1 hal hb2 hb12 B2
      go_wp2_with (at_builtin; refine wpList_append_own _ rfl (.tmp 21) (.tmp 25) 28 rfl w.heap.size 3 i0 (.int .i64 0) 1 8 Tryz.underlying28 hinf hz0 hz1 hz2 rfl (by decide) u7 k (intCells ((sp.take k).map (·.2))) rfl ho4 ⟨w2.heap.size, 0, none⟩ 1 1 [.int .i64 hi] rfl rfl hnew (by simp [Value.oneCell']) (by unfold maxLen; omega) (by omega) (by simp; omega) ?_; intro v6 w6 ho6 hg6 _)
      have hv5 := owns_base ho4
      have B6 := B3.grown hg6 (by simp; omega) hv5
      have hos6 := owns_other1 hos4 hg6 (fun k e => fun e' => row_ne3 hos4 ho4 (by decide) k e e')
      rw [← intCells_snoc, ← HT.out] at ho6
      go_roundw
      case rel => exact ⟨v6, k + 1, rfl, by simp, by omega, B6, ho6, hos6⟩
      case measure => simp [intOf]; omega
    · obtain rfl : k = sp.length := by omega
      have k1 : ¬ (sp.length : Int) < (sp.length : Int) := by omega
      go_wp2
      refine bodyPost_ret (v := u7) (by simp [results, Tryz.results73, go_sem]) rfl ⟨u7, rfl, ?_, B2⟩
      rw [List.take_length] at ho3
      rw [HSP.out]
      simpa using ho3

theorem flylast_any (hI : SpansSaid) (q s fr b : Int) (a : Option Addr) (b0 o cap : Nat) (l : List Stp) (w : World) (hl : l.length ≤ 1048575) (hs : StepsAt w a b0 o l) :
    Calls Tryz.prog 26 #[.agg #[.int .i64 q, .int .i64 s, .slice a l.length cap, .int .i64 fr, .int .i64 b]] w
      fun e w' => ∃ v, e = .returned v ∧ w'.ownsRow w.heap.size 3 1 v ((flyL q s fr b l).map (·.2)).length (intCells ((flyL q s fr b l).map (·.2))) ∧ Below w.heap.size w w' := by
  have B0 := (Below.refl w.heap.size w).alloc (Nat.le_refl _) (.cells #[.int .i64 q, .int .i64 s, .slice a l.length cap, .int .i64 fr, .int .i64 b] 27)
  go_enter Tryz.func26, Tryz.ntmps26
  go_wp2_with fail
  refine (ticks_high hI q s fr b a b0 o cap l _ hl (hs.alloc _)).mono ?_
  rintro e w1 ⟨v1, rfl, ho1, hb1⟩
  have B1 := B0.trans (hb1.mono B0.size)
  go_wp2
  refine bodyPost_ret (v := v1) (by simp [results, Tryz.results26, go_sem]) rfl ⟨v1, rfl, ⟨ho1.1, ho1.2.imp id fun ⟨g, cap, cur, h1, h2, h3⟩ => ⟨g, cap, cur, h1, by simp at h2; omega, h3⟩⟩, B1⟩

end Go.Proofs.YtijcdikekgmfoaaGreatDoor

namespace Go.Proofs.YtijcdikekgmfoaaGreatDoor
open Go.RowKit

theorem row_ne2 {w : World} {base base' e e' size size' n n' : Nat} {v v' : Value} {xs xs' : List Value} (h : w.ownsRow base e size v n xs) (h' : w.ownsRow base' e' size' v' n' xs') (hne : e ≠ e') : ∀ k, v.ownBlock = some k → v'.ownBlock ≠ some k := by
  intro k hk hk'
  rcases h.2 with ⟨rfl, _⟩ | ⟨g, cap, cur, rfl, _, hh, _⟩
  · simp [Value.ownBlock] at hk
  · rcases h'.2 with ⟨rfl, _⟩ | ⟨g', cap', cur', rfl, _, hh', _⟩
    · simp [Value.ownBlock] at hk'
    · simp [Value.ownBlock] at hk hk'
      subst hk
      subst hk'
      rw [hh] at hh'
      have := congrArg (fun o => match o with | some (Obj.cells _ t _) => t | _ => 0) hh'
      exact hne (by simpa using this)
theorem owns_other {w w' : World} {base e size n : Nat} {v : Value} {xs : List Value} {row : Option Nat} (h : w.ownsRow base e size v n xs) (hg : w.grownBy w' row) (hr : ∀ k, v.ownBlock = some k → row ≠ some k) : w'.ownsRow base e size v n xs :=
  ⟨h.1, h.2.imp id fun ⟨g, cap, cur, h1, h2, h3, h4⟩ => ⟨g, cap, cur, h1, h2, (hg.block g (lt_of_block h3) (fun e => hr g (by rw [h1]; rfl) e.symm)).trans h3, h4⟩⟩
/-- What the ticks that are asked for come to. -/
def AskedPost (w : World) (B : Nat) (R : Rdr) (p : Nat) (e : Ending) (w' : World) : Prop :=
  ∃ v zs p', e = .returned v ∧ zs.length ≤ 42 ∧ w'.ownsRow w.heap.size 3 1 v zs.length (intCells zs) ∧ p' ≤ p + 50 ∧ RdW w w' B R p'

set_option maxRecDepth 20000 in
set_option maxHeartbeats 4000000 in
theorem asked_draw (B : Nat) (R : Rdr) (p : Nat) (q s fr b : Int) (a : Option Addr) (b0 o cap : Nat) (l : List Stp) (w : World) (h : RdAt w B R p) (hp : p ≤ 999900000) (hl : l.length ≤ 41) (hs : StepsAt w a b0 o l) :
    Calls Tryz.prog 35 #[.pointer (some ⟨B, 0, none⟩), .agg #[.int .i64 q, .int .i64 s, .slice a l.length cap, .int .i64 fr, .int .i64 b]] w (AskedPost w B R p) := by
  obtain ⟨i0, hinf, hz0, hz1, hz2⟩ := info_parts int_info
  have hB := lt_of_block h.blk
  have hE := owns_empty (w := w.alloc (.cells #[.int .i64 q, .int .i64 s, .slice a l.length cap, .int .i64 fr, .int .i64 b] 27)) (base := w.heap.size + 1) (e := 3) (size := 1) (by simp)
  simp only [World.size_alloc] at hE
  have R0 := ((RdW.refl h).alloc (.cells #[.int .i64 q, .int .i64 s, .slice a l.length cap, .int .i64 fr, .int .i64 b] 27)).alloc (.cells #[] 3)
  go_enter Tryz.func35, Tryz.ntmps35
  go_wp2_with fail
  refine (flySpansS_any q s fr b a b0 o cap l _ (by omega) ((hs.alloc _).alloc _)).mono ?_
  rintro e w1 ⟨v1, rfl, ho1, hb1⟩
  have R1 := R0.below hb1
  have hE1 := owns_below hE hb1
  have hfl := flyL_le q s fr b l
  generalize flyB q s fr b l = ok
  generalize flyL q s fr b l = sp at *
  clear R0 hE hb1
  have hsl : ∃ va vc, v1 = .slice va sp.length vc := by
    rcases ho1.2 with ⟨rfl, h0⟩ | ⟨g, c, cur, rfl, _⟩
    · exact ⟨none, 0, by rw [h0]⟩
    · exact ⟨_, c, rfl⟩
  obtain ⟨va, vc, rfl⟩ := hsl
  go_wp2
  go_loopw [5, 8] (fun s5 s8 wr => ∃ (v : Value) (zs : List Int) (p' : Nat), s5 = v ∧ s8 = .int .i64 (zs.length : Int) ∧ zs.length ≤ sp.length ∧ p' ≤ p + zs.length ∧ RdW w wr B R p' ∧ wr.ownsRow (w.heap.size + 1) 3 1 v zs.length (intCells zs) ∧ wr.ownsRow (w.heap.size + 1) 56 2 (.slice va sp.length vc) sp.length (spanCells sp)) (fun _ s8 _ => sp.length - (intOf s8).toNat)
  case atStart => exact ⟨_, [], p, rfl, rfl, by simp, by simp, R1, hE1, ⟨ho1.1, ho1.2.imp id fun ⟨g, cap, cur, h1, h2, h3⟩ => ⟨g, cap, cur, h1, by simp at h2; omega, h3⟩⟩⟩
  case round =>
    obtain ⟨v, zs, p', rfl, rfl, hzl, hp', R2, ho2, hos⟩ := hrel
    clear R1 hE1 ho1
    have hk0 : (0 : Int) ≤ (zs.length : Int) := by omega
    cases ok with
    | false =>
      go_wp2
      refine bodyPost_ret (v := u5) (by simp [results, Tryz.results35, go_sem]) rfl ⟨u5, zs, p', rfl, by omega, ⟨ho2.1, ho2.2.imp id fun ⟨g, cap, cur, h1, h2, h3⟩ => ⟨g, cap, cur, h1, by omega, h3⟩⟩, by omega, R2⟩
    | true =>
      by_cases hlt : zs.length < sp.length
      · have k1 : (zs.length : Int) < (sp.length : Int) := by omega
        obtain ⟨⟨lo, hi⟩, hsp⟩ : ∃ x, sp[zs.length]? = some x := ⟨_, List.getElem?_eq_getElem hlt⟩
        obtain ⟨y0, y1⟩ := spanCells_get sp zs.length _ hsp
        obtain ⟨g, gc, hgv, hg1, hg2⟩ := owns_some hos (by omega)
        obtain ⟨hva, hvc⟩ : va = some ⟨g, 0, none⟩ ∧ vc = gc := by cases hgv; exact ⟨rfl, rfl⟩
        subst hva hvc
        have x0 := (hos.cellAt (zs.length * 2) (by omega)).trans y0
        have x1 := (hos.cellAt (zs.length * 2 + 1) (by omega)).trans y1
        have hgB : g ≠ B := by have := R2.lt; omega
        clear hgv y0 y1 hsp
        go_wp2
        obtain ⟨nn, hnn⟩ : ∃ nn, wrap64 (wrap64 (1 + hi) - lo) = nn := ⟨_, rfl⟩
        have qn := ClsR.any wr B
        have q0 : ∀ u : ClsR wr B, u.it.cell? ⟨g, zs.length * 2, none⟩ = some (.int .i64 lo) := fun u => (ClsR.cell hg2 hgB u _).trans x0
        have q1 : ∀ u : ClsR wr B, u.it.cell? ⟨g, zs.length * 2 + 1, none⟩ = some (.int .i64 hi) := fun u => (ClsR.cell hg2 hgB u _).trans x1
        refine region_mixes 19 21 22 #[.int .i64 (wrap64 (lo + pickV R p' nn))] 3 _ _ R2.rd (by kernel_rfl) (by kernel_rfl) (by decide) (by decide) (by decide) rfl rfl rfl rfl (by kernel_rfl) ?_
        refine mx_quiet 19 rfl (by omega) (by omega) ?_
        simp only [List.take_succ_cons, List.take_zero]
        repeat (go_big_quiet_step (fail))
        refine wpQuiet_nil ?_
        simp only [List.drop_succ_cons, List.drop_zero]
        refine mx_pick (by omega) (by decide) rfl nn (fun W' => by go_simp) ?_
        simp only [Act.put, List.setIfInBounds_toArray, List.set_cons_succ, List.set_cons_zero]
        refine mx_quiet 1 rfl (by omega) (by omega) ?_
        simp only [List.take_succ_cons, List.take_zero]
        repeat (go_big_quiet_step (fail))
        refine wpQuiet_nil ?_
        simp only [List.drop_succ_cons, List.drop_zero]
        refine mx_build (by decide) rfl 1 (fun W' => by go_simp) ?_
        simp only [Act.put, List.setIfInBounds_toArray, List.set_cons_succ, List.set_cons_zero]
        refine wpMoves_nil ?_
        intro w4 g4 s4 r4 b4
        have R4 := R2.more r4 g4
        have ho4 := owns_grown ho2 g4 (fun k e => by cases e; omega)
        have hos4 := owns_grown hos g4 (fun k e => by cases e; omega)
        clear q0 q1 qn x0 x1 hos ho2 r4 g4
        generalize wrap64 (lo + pickV R p' nn) = z at *
        refine any_end2 (N := 22) _ 1 rfl (by kernel_rfl) rfl rfl ?_
        have hnew : ∀ (j : Nat) (u : Value), [Value.int .i64 z][j]? = some u → w4.cell? ((⟨wr.heap.size, 0, none⟩ : Addr).add j) = some u := by
          intro j u hj
          rcases j with _ | j
          · simp at hj
            subst hj
            rw [show ((⟨wr.heap.size, 0, none⟩ : Addr).add 0) = ⟨wr.heap.size, 0, none⟩ from rfl, cell_of_row w4 _ 0 _ _ _ b4]
            rfl
          · simp at hj
        have hsz := R2.size
        refine wp_append_own w4 (.tmp 24) (.tmp 45) 28 rfl (w.heap.size + 1) 3 i0 (.int .i64 0) 1 8 Tryz.underlying28 hinf hz0 hz1 hz2 rfl (by decide) u5 zs.length (intCells zs) rfl ho4 ⟨wr.heap.size, 0, none⟩ 1 1 [.int .i64 z] rfl rfl hnew (by simp [Value.oneCell']) (by unfold maxLen; omega) (by omega) (by omega) ?_
        intro v6 w6 ho6 hg6 _
        have hv5 := owns_base ho4
        have R6 := R4.grown hg6 (fun k e => by have := hv5 k e; omega)
        have hos6 := owns_other hos4 hg6 (fun k e => fun e' => row_ne2 hos4 ho4 (by decide) k e e')
        rw [← intCells_snoc] at ho6
        refine any_end1 (N := 23) _ rfl (by kernel_rfl) (by kernel_rfl) rfl rfl ?_
        simp only [Act.put, List.setIfInBounds_toArray]
        unfold Oper.wp
        go_simp
        go_wp2
        go_roundw
        case rel => exact ⟨v6, zs ++ [z], p' + 1, rfl, by simp, by simp; omega, by simp; omega, R6, by simpa using ho6, hos6⟩
        case measure => simp [intOf]; omega
      · have k1 : ¬ (zs.length : Int) < (sp.length : Int) := by omega
        go_wp2
        refine bodyPost_ret (v := u5) (by simp [results, Tryz.results35, go_sem]) rfl ⟨u5, zs, p', rfl, by omega, ⟨ho2.1, ho2.2.imp id fun ⟨g, cap, cur, h1, h2, h3⟩ => ⟨g, cap, cur, h1, by omega, h3⟩⟩, by omega, R2⟩
end Go.Proofs.YtijcdikekgmfoaaGreatDoor

namespace Go.Proofs.YtijcdikekgmfoaaGreatDoor
open Go.RowKit

/-- The bytes zs lie in block b from offset o on. -/
structure BytesAt (w : World) (a : Option Addr) (b o : Nat) (zs : List Int) : Prop where
  here : zs ≠ [] → a = some ⟨b, o, none⟩
  lt : zs ≠ [] → b < w.heap.size
  cell : ∀ (i : Nat) (z : Int), zs[i]? = some z → w.cell? ⟨b, o + i, none⟩ = some (.int .u8 z)
  rng : ∀ (i : Nat) (z : Int), zs[i]? = some z → 0 ≤ z ∧ z < 256

theorem open_any (a : Option Addr) (b o cap : Nat) (zs : List Int) (w : World) (hz : BytesAt w a b o zs) (hl : zs.length ≤ 1048576) (hc : zs.length ≤ cap) :
    Calls Tryz.prog 33 #[.slice a zs.length cap] w fun e w' => ∃ R, e = .returned (.pointer (some ⟨w.heap.size, 0, none⟩)) ∧ RdAt w' w.heap.size R 0 ∧ Below w.heap.size w w' ∧ w'.heap.size = w.heap.size + 1 := by
  by_cases h : 2000 < zs.length
  · have hne : zs ≠ [] := by intro e; rw [e] at h; simp at h
    obtain rfl := hz.here hne
    have h1 : (2000 : Int) < (zs.length : Int) := by omega
    have h2 : (2000 : Int) ≤ (cap : Int) := by omega
    go_enter Tryz.func33, Tryz.ntmps33
    go_wp2
    go_ret
    refine ⟨⟨some ⟨b, o, none⟩, b, o, cap, zs.take 2000⟩, rfl, ?_, (Below.refl _ _).alloc (Nat.le_refl _) _, by simp⟩
    have hlt := hz.lt hne
    have hlen : (zs.take 2000).length = 2000 := by simp; omega
    refine ⟨by rw [hlen]; exact heap_alloc_new w _, fun _ => rfl, fun _ => hlt, fun i z hi => ?_, fun i z hi => ?_, by rw [hlen]; exact Nat.le_refl _⟩
    · have hi2 : i < 2000 := by rw [← hlen]; exact (List.getElem?_eq_some_iff.1 hi).1
      rw [List.getElem?_take_of_lt hi2] at hi
      rw [World.cell?_of_block (w := w) (a := ⟨b, o + i, none⟩) (Below.heap_alloc w _ b hlt)]
      exact hz.cell i z hi
    · have hi2 : i < 2000 := by rw [← hlen]; exact (List.getElem?_eq_some_iff.1 hi).1
      rw [List.getElem?_take_of_lt hi2] at hi
      exact hz.rng i z hi
  · have h1 : ¬ (2000 : Int) < (zs.length : Int) := by omega
    go_enter Tryz.func33, Tryz.ntmps33
    go_wp2
    go_ret
    refine ⟨rfl, ⟨⟨a, b, o, cap, zs⟩, ?_⟩, (Below.refl _ _).alloc (Nat.le_refl _) _, by simp⟩
    refine ⟨heap_alloc_new w _, hz.here, hz.lt, fun i z hi => ?_, hz.rng, by show zs.length ≤ 2000; omega⟩
    have hne : zs ≠ [] := by intro e; rw [e] at hi; simp at hi
    rw [World.cell?_of_block (w := w) (a := ⟨b, o + i, none⟩) (Below.heap_alloc w _ b (hz.lt hne))]
    exact hz.cell i z hi

theorem flown_len (q s fr b : Int) (l : List Stp) (cs asks : List Int) (hl : l.length ≤ 41) : (flownL q s fr b l cs asks).length ≤ 43 := by
  unfold flownL
  split
  · rename_i h
    by_cases e : (goF q s fr b l cs asks).length = l.length + 1
    · omega
    · unfold flownB at h
      rw [lawB_len e] at h
      cases h
  · simp

theorem IntsAt.put {w : World} {a : Option Addr} {b o : Nat} {zs : List Int} (h : IntsAt w a b o zs) {k j : Nat} (hk : zs ≠ [] → k ≠ b) (v : Value) : IntsAt (w.setCell ⟨k, j, none⟩ v) a b o zs where
  here := h.here
  lt hl := by have := h.lt hl; simpa [World.setCell] using this
  cell i z hi := by
    have hne : zs ≠ [] := by intro e; subst e; simp at hi
    rw [World.cell?_setCell_other _ _ _ _ (by intro e; have := congrArg Addr.block e; exact hk hne this)]
    exact h.cell i z hi

/-- What lies when a path has been drawn. -/
structure DrD (w w1 wr : World) (B : Nat) (R : Rdr) (p X : Nat) (q s fr b : Int) (a : Option Addr) (b0 o cap : Nat) (l : List Stp) : Prop where
  rd : RdW w1 wr B R p
  base : w1.heap.size = w.heap.size + 2
  isB : B = w.heap.size + 1
  old : Below w.heap.size w w1
  ge : w1.heap.size ≤ X
  res : PathAt wr w.heap.size 0 0 0 0 (.slice none 0 0)
  pa : PathAt wr X q s fr b (.slice a l.length cap)
  len : l.length ≤ 41
  st : StepsIn wr a b0 o l
  b0B : l ≠ [] → b0 ≠ B
section
variable {w w1 wr w' : World} {B : Nat} {R : Rdr} {p p' X : Nat} {q s fr b : Int} {a : Option Addr} {b0 o cap : Nat} {l : List Stp}
theorem DrD.more (h : DrD w w1 wr B R p X q s fr b a b0 o cap l) (hr : RdAt w' B R p') (hg : wr.grownBy w' (some B)) : DrD w w1 w' B R p' X q s fr b a b0 o cap l := by
  have h1 := h.base
  have h2 := h.isB
  have h3 := h.ge
  exact ⟨h.rd.more hr hg, h.base, h.isB, h.old, h.ge, h.res.grown hg (by simp; omega), h.pa.grown hg (by simp; omega), h.len, h.st.grown hg (fun hl e => h.b0B hl (by cases e; rfl)), h.b0B⟩
theorem DrD.below (h : DrD w w1 wr B R p X q s fr b a b0 o cap l) (hb : Below wr.heap.size wr w') : DrD w w1 w' B R p X q s fr b a b0 o cap l :=
  ⟨h.rd.below hb, h.base, h.isB, h.old, h.ge, h.res.keep hb h.res.lt, h.pa.keep hb h.pa.lt, h.len, h.st.below hb, h.b0B⟩
theorem DrD.drew (h : DrD w w1 wr B R p X q s fr b a b0 o cap l) : DrD w w1 wr.drew B R p X q s fr b a b0 o cap l := h.below (Below.refl _ _).drew
theorem DrD.alloc (h : DrD w w1 wr B R p X q s fr b a b0 o cap l) (ob : Obj) : DrD w w1 (wr.alloc ob) B R p X q s fr b a b0 o cap l := h.below ((Below.refl _ _).alloc (Nat.le_refl _) ob)
theorem DrD.was (h : DrD w w1 wr B R p X q s fr b a b0 o cap l) : Below w.heap.size w wr := by
  have h1 := h.base
  have h2 := h.isB
  have h3 := h.rd.gr
  exact h.old.trans ⟨h3.os, h3.tape, h3.output, h3.size, fun k hk => h3.block k (by omega) (fun e => by cases e; omega)⟩
theorem DrD.own (h : DrD w w1 wr B R p X q s fr b a b0 o cap l) {v : Value} {n : Nat} {xs : List Value} (ho : wr.ownsRow w1.heap.size 3 1 v n xs) (hg : wr.grownBy w' v.ownBlock) : DrD w w1 w' B R p X q s fr b a b0 o cap l := by
  have h1 := h.base
  have h2 := h.isB
  have h3 := h.ge
  have hv := owns_base ho
  have ne : ∀ {k : Nat} {cs : Array Value} {t : TypeId}, wr.heap[k]? = some (.cells cs t (0, 0)) → t ≠ 3 → v.ownBlock ≠ some k := fun hk ht e => by
    rcases ho.2 with ⟨rfl, _⟩ | ⟨g, cap, cur, rfl, _, hh, _⟩
    · simp [Value.ownBlock] at e
    · simp [Value.ownBlock] at e
      subst e
      rw [hk] at hh
      have := congrArg (fun o => match o with | some (Obj.cells _ t _) => t | _ => 0) hh
      exact ht (by simpa using this)
  refine ⟨h.rd.grown hg (fun k e => hv k e), h.base, h.isB, h.old, h.ge, h.res.grown hg (ne h.res.it (by decide)), h.pa.grown hg (ne h.pa.it (by decide)), h.len, h.st.grown hg (fun hl => by obtain ⟨cur, hc⟩ := h.st.ty hl; exact ne hc (by decide)), h.b0B⟩
theorem DrD.post (h : DrD w w1 wr B R p X q s fr b a b0 o cap l) {d : Option Addr} {dg do_ dcap : Nat} {zs : List Int} (hl : zs.length ≤ 1000) (hI : IntsAt wr d dg do_ zs) (hd : zs ≠ [] → dg ≠ w.heap.size) :
    ∃ q' s' fr' b' a' b0' o' cap' l' c db do' dc zs', Ending.returned (.tuple #[.agg #[.int .i64 q, .int .i64 s, .slice a l.length cap, .int .i64 fr, .int .i64 b], .slice d zs.length dcap]) = .returned (.tuple #[.agg #[.int .i64 q', .int .i64 s', .slice a' l'.length cap', .int .i64 fr', .int .i64 b'], .slice c zs'.length dc]) ∧
      l'.length ≤ 41 ∧ StepsAt (((((wr.setCell ⟨w.heap.size, 0, none⟩ (.int .i64 q)).setCell ⟨w.heap.size, 1, none⟩ (.int .i64 s)).setCell ⟨w.heap.size, 2, none⟩ (.slice a l.length cap)).setCell ⟨w.heap.size, 3, none⟩ (.int .i64 fr)).setCell ⟨w.heap.size, 4, none⟩ (.int .i64 b)) a' b0' o' l' ∧ zs'.length ≤ 1000 ∧
      IntsAt (((((wr.setCell ⟨w.heap.size, 0, none⟩ (.int .i64 q)).setCell ⟨w.heap.size, 1, none⟩ (.int .i64 s)).setCell ⟨w.heap.size, 2, none⟩ (.slice a l.length cap)).setCell ⟨w.heap.size, 3, none⟩ (.int .i64 fr)).setCell ⟨w.heap.size, 4, none⟩ (.int .i64 b)) c db do' zs' ∧
      Below w.heap.size w (((((wr.setCell ⟨w.heap.size, 0, none⟩ (.int .i64 q)).setCell ⟨w.heap.size, 1, none⟩ (.int .i64 s)).setCell ⟨w.heap.size, 2, none⟩ (.slice a l.length cap)).setCell ⟨w.heap.size, 3, none⟩ (.int .i64 fr)).setCell ⟨w.heap.size, 4, none⟩ (.int .i64 b)) := by
  have h1 := h.base
  have h2 := h.isB
  have h3 := h.rd.size
  have hne : l ≠ [] → w.heap.size ≠ b0 := fun hl e => by
    obtain ⟨cur, hc⟩ := h.st.ty hl
    rw [← e, h.res.it] at hc
    have := congrArg (fun o => match o with | some (Obj.cells _ t _) => t | _ => 0) hc
    simp at this
  refine ⟨q, s, fr, b, a, b0, o, cap, l, d, dg, do_, dcap, zs, rfl, h.len, ?_, hl, ?_, ?_⟩
  · iterate 5 (refine StepsAt.grown ?_ (grown_set _ _ _) (fun hl e => hne hl (by cases e; rfl)))
    exact h.st.st
  · iterate 5 (refine IntsAt.put ?_ (fun hl => Ne.symm (hd hl)) _)
    exact hI
  · iterate 5 (refine Below.setCell ?_ (show w.heap.size ≤ w.heap.size from Nat.le_refl _) _)
    exact h.was
end

end Go.Proofs.YtijcdikekgmfoaaGreatDoor

namespace Go.Proofs.YtijcdikekgmfoaaGreatDoor
open Go.RowKit

/-- As the laws ask it of the k-th step. -/
def okA (q s : Int) (l : List Stp) (zs : List Int) (k : Nat) : Bool :=
  !decide (zs.getD k 0 < (l.getD k .zero).fr) && !decide ((l.getD k .zero).by_ < zs.getD k 0) && !decide (wrap64 (zs.getD (k + 1) 0 - zs.getD k 0) < q) && ((l.getD k .zero).ho || !decide (s < wrap64 (zs.getD (k + 1) 0 - zs.getD k 0)))
def allowTo (q s : Int) (l : List Stp) (zs : List Int) (k : Nat) : Bool := (List.range k).all (okA q s l zs)
def allowB (q s fr b : Int) (l : List Stp) (zs : List Int) : Bool := decide (zs.length = l.length + 1) && allowTo q s l zs l.length && inB (zs.getD l.length 0) fr b
theorem allowTo_succ {q s : Int} {l : List Stp} {zs : List Int} {k : Nat} (h : allowTo q s l zs k = true) : allowTo q s l zs (k + 1) = okA q s l zs k := by
  unfold allowTo at *; rw [all_succ, h]; simp
theorem allowTo_not {q s : Int} {l : List Stp} {zs : List Int} {k n : Nat} (hk : k < n) (h : okA q s l zs k = false) : allowTo q s l zs n = false := all_not hk h

theorem blk7a {w : World} {S : Nat} {c0 c1 c2 c3 c4 c5 c6 : Value} {t : TypeId} (h : w.heap[S]? = some (.cells #[c0, c1, c2, c3, c4, c5, c6] t (0, 0))) :
    (w.cell? ⟨S, 0, none⟩ = some c0 ∧ w.cell? ⟨S, 1, none⟩ = some c1 ∧ w.cell? ⟨S, 2, none⟩ = some c2 ∧ w.cell? ⟨S, 3, none⟩ = some c3 ∧ w.cell? ⟨S, 4, none⟩ = some c4 ∧ w.cell? ⟨S, 5, none⟩ = some c5 ∧ w.cell? ⟨S, 6, none⟩ = some c6) ∧ ∀ j, w.frozen? ⟨S, j, none⟩ = false := by
  refine ⟨⟨?_, ?_, ?_, ?_, ?_, ?_, ?_⟩, fun j => ?_⟩ <;> simp [World.cell?, World.frozen?, h]

set_option maxRecDepth 20000 in
set_option maxHeartbeats 4000000 in
theorem allow_any (q s fr b : Int) (a : Option Addr) (b0 o cap : Nat) (l : List Stp) (c : Option Addr) (cb co ccap : Nat) (zs : List Int) (w : World) (hl : l.length ≤ 1048576) (hm : zs.length ≤ 1048576) (hs : StepsAt w a b0 o l) (hz : IntsAt w c cb co zs) :
    Calls Tryz.prog 14 #[.agg #[.int .i64 q, .int .i64 s, .slice a l.length cap, .int .i64 fr, .int .i64 b], .slice c zs.length ccap] w fun e w' => e = .returned (.bool (allowB q s fr b l zs)) ∧ Below w.heap.size w w' := by
  have Q0 := PathAt.new w q s fr b (.slice a l.length cap)
  have B0 := (Below.refl w.heap.size w).alloc (Nat.le_refl _) (.cells #[.int .i64 q, .int .i64 s, .slice a l.length cap, .int .i64 fr, .int .i64 b] 27)
  by_cases hlen : zs.length = l.length + 1
  · have hne : ((zs.length : Int) != (l.length : Int) + 1) = false := by simp; omega
    have hzn : zs ≠ [] := by intro e; rw [e] at hlen; simp at hlen
    obtain rfl := hz.here hzn
    have HA : Hid (allowB q s fr b l zs = (allowTo q s l zs l.length && inB (zs.getD l.length 0) fr b)) := by show _ = _; unfold allowB; rw [decide_eq_true hlen]; rfl
    go_enter Tryz.func14, Tryz.ntmps14
    go_wp2
    go_loopw [6] (fun s6 wr => ∃ k : Nat, s6 = .int .i64 (k : Int) ∧ k ≤ l.length ∧ Below w.heap.size w wr ∧ PathAt wr w.heap.size q s fr b (.slice a l.length cap) ∧ allowTo q s l zs k = true) (fun s6 _ => l.length - (intOf s6).toNat)
    case atStart => exact ⟨0, rfl, by omega, B0, Q0, rfl⟩
    case round =>
      obtain ⟨k, rfl, hk, B1, Q1, hgood⟩ := hrel
      have HG : Hid (allowTo q s l zs k = true) := hgood
      clear Q0 B0 hgood
      obtain ⟨⟨e0, e1, e2, e3, e4⟩, ef⟩ := Q1.cells
      have hlw := Q1.lt
      by_cases hlt : k < l.length
      · obtain ⟨t, ht⟩ : ∃ t, l[k]? = some t := ⟨_, List.getElem?_eq_getElem hlt⟩
        have hln : l ≠ [] := by intro e; rw [e] at hlt; simp at hlt
        obtain rfl := hs.here hln
        have hs2 := hs.below B1 hs.lt
        obtain ⟨x0, x1, x2, x3, x4, x5, x6⟩ := hs2.seven ht
        have hd : l.getD k .zero = t := by rw [List.getD_eq_getElem?_getD, ht]; rfl
        obtain ⟨z, hzk⟩ : ∃ z, zs[k]? = some z := ⟨_, List.getElem?_eq_getElem (by omega)⟩
        obtain ⟨z', hzk'⟩ : ∃ z, zs[k + 1]? = some z := ⟨_, List.getElem?_eq_getElem (by omega)⟩
        have hzd : zs.getD k 0 = z := by rw [List.getD_eq_getElem?_getD, hzk]; rfl
        have hzd' : zs.getD (k + 1) 0 = z' := by rw [List.getD_eq_getElem?_getD, hzk']; rfl
        have HO : Hid (okA q s l zs k = (!decide (z < t.fr) && !decide (t.by_ < z) && !decide (wrap64 (z' - z) < q) && (t.ho || !decide (s < wrap64 (z' - z))))) := by show _ = _; unfold okA; rw [hd, hzd, hzd']
        have hcl := hz.lt hzn
        have y0 := (B1.cell (p := ⟨cb, co + k, none⟩) hcl).trans (hz.cell k z hzk)
        have y1 := (B1.cell (p := ⟨cb, co + (k + 1), none⟩) hcl).trans (hz.cell (k + 1) z' hzk')
        have k0 : (0 : Int) ≤ (k : Int) := by omega
        have k1 : (k : Int) < (l.length : Int) := by omega
        have k2 : (k : Int) < (zs.length : Int) := by omega
        have k3 : (k : Int) + 1 < (zs.length : Int) := by omega
        have hw1 := B1.size
        clear hd hzd hzd' hzk hzk' ht hs2
        generalize hdd : wrap64 (z' - z) = dz at HO
        go_upto_region 8 with (fail)
        have bS := heap_alloc_new wr (.cells #[.int .i64 t.x, .int .i64 t.y, .int .i64 t.lo, .int .i64 t.hi, .int .i64 t.fr, .int .i64 t.by_, .bool t.ho] 44)
        have hal := (Below.refl wr.heap.size wr).alloc (Nat.le_refl _) (.cells #[.int .i64 t.x, .int .i64 t.y, .int .i64 t.lo, .int .i64 t.hi, .int .i64 t.fr, .int .i64 t.by_, .bool t.ho] 44)
        have B2 := B1.trans (hal.mono hw1)
        have Q2 := Q1.keep hal Q1.lt
        have y0' := (hal.cell (p := ⟨cb, co + k, none⟩) (Nat.lt_of_lt_of_le hcl hw1)).trans y0
        have y1' := (hal.cell (p := ⟨cb, co + (k + 1), none⟩) (Nat.lt_of_lt_of_le hcl hw1)).trans y1
        obtain ⟨⟨c0, c1, c2, c3, c4, c5, c6⟩, cf⟩ := blk7a bS
        clear e0 e1 e2 e3 e4 ef x0 x1 x2 x3 x4 x5 x6 y0 y1 bS Q1 B1 hal
        generalize (wr.alloc (.cells #[.int .i64 t.x, .int .i64 t.y, .int .i64 t.lo, .int .i64 t.hi, .int .i64 t.fr, .int .i64 t.by_, .bool t.ho] 44)) = W at *
        obtain ⟨⟨e0, e1, e2, e3, e4⟩, ef⟩ := Q2.cells
        generalize wr.heap.size = S at *
        by_cases h1 : z < t.fr
        · have HF : Hid (okA q s l zs k = false) := by show _ = _; rw [HO.out]; simp [h1]
          go_quiet (fail)
          go_wp2
          go_ret
          exact ⟨by rw [HA.out, allowTo_not hlt HF.out]; rfl, B2.trans ⟨rfl, rfl, rfl, Nat.le_refl _, fun _ _ => rfl⟩⟩
        · by_cases h2 : t.by_ < z
          · have HF : Hid (okA q s l zs k = false) := by show _ = _; rw [HO.out]; simp [h1, h2]
            go_quiet (fail)
            go_wp2
            go_ret
            exact ⟨by rw [HA.out, allowTo_not hlt HF.out]; rfl, B2.trans ⟨rfl, rfl, rfl, Nat.le_refl _, fun _ _ => rfl⟩⟩
          · by_cases h3 : dz < q
            · have HF : Hid (okA q s l zs k = false) := by show _ = _; rw [HO.out]; simp [h1, h2, h3]
              go_quiet (fail)
              go_wp2
              go_ret
              exact ⟨by rw [HA.out, allowTo_not hlt HF.out]; rfl, B2.trans ⟨rfl, rfl, rfl, Nat.le_refl _, fun _ _ => rfl⟩⟩
            · cases ho : t.ho with
              | true =>
                have HF : Hid (okA q s l zs k = true) := by show _ = _; rw [HO.out]; simp [h1, h2, h3, ho]
                rw [ho] at c6
                go_quiet (fail)
                go_wp2
                go_roundw
                case rel => exact ⟨k + 1, by simp, by omega, B2.trans ⟨rfl, rfl, rfl, Nat.le_refl _, fun _ _ => rfl⟩, ⟨Q2.it⟩, by rw [allowTo_succ HG.out]; exact HF.out⟩
                case measure => simp [intOf]; omega
              | false =>
                rw [ho] at c6
                by_cases h4 : s < dz
                · have HF : Hid (okA q s l zs k = false) := by show _ = _; rw [HO.out]; simp [h1, h2, h3, h4, ho]
                  go_quiet (fail)
                  go_wp2
                  go_ret
                  exact ⟨by rw [HA.out, allowTo_not hlt HF.out]; rfl, B2.trans ⟨rfl, rfl, rfl, Nat.le_refl _, fun _ _ => rfl⟩⟩
                · have HF : Hid (okA q s l zs k = true) := by show _ = _; rw [HO.out]; simp [h1, h2, h3, h4, ho]
                  go_quiet (fail)
                  go_wp2
                  go_roundw
                  case rel => exact ⟨k + 1, by simp, by omega, B2.trans ⟨rfl, rfl, rfl, Nat.le_refl _, fun _ _ => rfl⟩, ⟨Q2.it⟩, by rw [allowTo_succ HG.out]; exact HF.out⟩
                  case measure => simp [intOf]; omega
      · obtain rfl : k = l.length := by omega
        obtain ⟨z, hzk⟩ : ∃ z, zs[l.length]? = some z := ⟨_, List.getElem?_eq_getElem (by omega)⟩
        have hzd : zs.getD l.length 0 = z := by rw [List.getD_eq_getElem?_getD, hzk]; rfl
        have hcl := hz.lt hzn
        have y0 := (B1.cell (p := ⟨cb, co + l.length, none⟩) hcl).trans (hz.cell l.length z hzk)
        have HB : Hid (allowB q s fr b l zs = (decide (fr ≤ z) && decide (z ≤ b))) := by show _ = _; rw [HA.out, HG.out, hzd]; rfl
        have k2 : (l.length : Int) < (zs.length : Int) := by omega
        have k3 : (l.length : Int) < (l.length : Int) + 1 := by omega
        have k0 : (0 : Int) ≤ (l.length : Int) := by omega
        clear hzd hzk
        by_cases h1 : fr ≤ z
        · go_wp2
          go_quiet (fail)
          go_wp2
          go_ret
          exact ⟨by rw [HB.out, decide_eq_true h1]; rfl, B1.trans ⟨rfl, rfl, rfl, Nat.le_refl _, fun _ _ => rfl⟩⟩
        · have h1' : decide (fr ≤ z) = false := decide_eq_false h1
          have h1'' : z < fr := by omega
          go_wp2
          go_quiet (fail)
          go_wp2
          go_ret
          exact ⟨by rw [HB.out, decide_eq_false (by omega)]; rfl, B1.trans ⟨rfl, rfl, rfl, Nat.le_refl _, fun _ _ => rfl⟩⟩
  · have hne : ((zs.length : Int) != (l.length : Int) + 1) = true := by simp; omega
    have HA : Hid (allowB q s fr b l zs = false) := by show _ = _; unfold allowB; rw [decide_eq_false hlen]; rfl
    go_enter Tryz.func14, Tryz.ntmps14
    go_wp2
    go_ret
    exact ⟨by rw [HA.out]; rfl, B0⟩
end Go.Proofs.YtijcdikekgmfoaaGreatDoor

namespace Go.Proofs.YtijcdikekgmfoaaGreatDoor
open Go.RowKit

theorem lawB_keeps {q s fr b : Int} {l : List Stp} (hp : pathB q s fr b l = true) (zs : List Int) : lawB q s fr b l zs = true ↔ zs.length = l.length + 1 ∧ Keeps q s fr b l (fun k => zs.getD k 0) 0 l.length := by
  unfold lawB
  rw [hp, ← ticks_parts]
  simp only [Bool.true_and, Bool.and_eq_true, decide_eq_true_eq, winTo, stayTo, List.all_eq_true, List.mem_range, winS, stayS, inB_iff]
  constructor
  · rintro ⟨h1, h2, h3⟩
    exact ⟨h1, fun k _ hk => h2 k (by omega), fun k _ hk => h3 k hk⟩
  · rintro ⟨h1, h2, h3⟩
    exact ⟨h1, fun k hk => h2 k (by omega) (by omega), fun k hk => h3 k (by omega) hk⟩

theorem allowB_keeps {q s fr b : Int} {l : List Stp} (hp : pathB q s fr b l = true) (zs : List Int) : allowB q s fr b l zs = true ↔ zs.length = l.length + 1 ∧ Keeps q s fr b l (fun k => zs.getD k 0) 0 l.length := by
  unfold allowB allowTo
  simp only [Bool.and_eq_true, decide_eq_true_eq, List.all_eq_true, List.mem_range, inB_iff, okA, Bool.not_eq_true', decide_eq_false_iff_not, Bool.or_eq_true, Int.not_lt]
  have lo : ∀ k, k < l.length → lowB fr l k = (l.getD k .zero).fr ∧ highB b l k = (l.getD k .zero).by_ := fun k hk => by unfold lowB highB; rw [if_pos hk, if_pos hk]; exact ⟨rfl, rfl⟩
  have en : lowB fr l l.length = fr ∧ highB b l l.length = b := by unfold lowB highB; rw [if_neg (by omega), if_neg (by omega)]; exact ⟨rfl, rfl⟩
  constructor
  · rintro ⟨⟨h1, h2⟩, h3⟩
    have win : ∀ k, k ≤ l.length → lowB fr l k ≤ zs.getD k 0 ∧ zs.getD k 0 ≤ highB b l k := fun k hk => by
      rcases Nat.lt_or_ge k l.length with h | h
      · have := h2 k h
        rw [(lo k h).1, (lo k h).2]
        exact ⟨this.1.1.1, this.1.1.2⟩
      · obtain rfl : k = l.length := by omega
        rw [en.1, en.2]
        exact h3
    refine ⟨h1, fun k _ hk => win k hk, fun k _ hk => ?_⟩
    have w1 := win k (by omega)
    have w2 := win (k + 1) (by omega)
    have r1 := bounds_ok hp k
    have r2 := bounds_ok hp (k + 1)
    have hw : wrap64 (zs.getD (k + 1) 0 - zs.getD k 0) = zs.getD (k + 1) 0 - zs.getD k 0 := by unfold wrap64; omega
    have h4 := h2 k hk
    rw [hw] at h4
    refine ⟨h4.1.2, ?_⟩
    unfold mostB
    rcases h4.2 with h | h
    · rw [h]; show zs.getD (k + 1) 0 - zs.getD k 0 ≤ (10000 : Int); omega
    · cases (l.getD k .zero).ho with
      | true => show zs.getD (k + 1) 0 - zs.getD k 0 ≤ (10000 : Int); omega
      | false => exact h
  · rintro ⟨h1, h2, h3⟩
    refine ⟨⟨h1, fun k hk => ?_⟩, ?_⟩
    · have w1 : lowB fr l k ≤ zs.getD k 0 ∧ zs.getD k 0 ≤ highB b l k := h2 k (by omega) (by omega)
      have w2 : lowB fr l (k + 1) ≤ zs.getD (k + 1) 0 ∧ zs.getD (k + 1) 0 ≤ highB b l (k + 1) := h2 (k + 1) (by omega) (by omega)
      have r1 := bounds_ok hp k
      have r2 := bounds_ok hp (k + 1)
      have w3 := h3 k (by omega) hk
      have hw : wrap64 (zs.getD (k + 1) 0 - zs.getD k 0) = zs.getD (k + 1) 0 - zs.getD k 0 := by unfold wrap64; omega
      rw [hw]
      rw [(lo k hk).1, (lo k hk).2] at w1
      refine ⟨⟨⟨w1.1, w1.2⟩, w3.1⟩, ?_⟩
      have h4 := w3.2
      unfold mostB at h4
      cases ho : (l.getD k .zero).ho with
      | true => exact .inl rfl
      | false => rw [ho] at h4; exact .inr h4
    · have := h2 l.length (by omega) (by omega)
      rw [en.1, en.2] at this
      exact this
theorem allow_law {q s fr b : Int} {l : List Stp} (hp : pathB q s fr b l = true) (zs : List Int) : allowB q s fr b l zs = lawB q s fr b l zs := by
  rw [Bool.eq_iff_iff, allowB_keeps hp, lawB_keeps hp]

theorem flyL_at {q s fr b : Int} {l : List Stp} (h : flyB q s fr b l = true) : pathB q s fr b l = true ∧ fwdTo q s fr b l (l.length + 1) = true ∧ flyL q s fr b l = (List.range (l.length + 1)).map fun k => spanAt q s fr b l l.length k := by
  unfold flyB at h
  rw [Bool.and_eq_true] at h
  refine ⟨h.1, by rw [← span_fwd h.1]; exact h.2, ?_⟩
  unfold flyL
  rw [if_pos h.1]
  unfold spansL
  rw [if_pos h.2]
  rfl

/-- The earliest of all ticks make a flight. -/
theorem first_keeps {q s fr b : Int} {l : List Stp} (hm : ∀ k, q ≤ mostB s l k) {n : Nat} (hf : fwdTo q s fr b l (n + 1) = true) : Keeps q s fr b l (fun k => (spanAt q s fr b l n k).1) 0 n := by
  refine ⟨fun k _ hk => span_win hm hf hk ⟨Int.le_refl _, span_some hm hf⟩, fun k _ hk => ?_⟩
  obtain ⟨u, hu, hu1, hu2⟩ := span_next hm hf hk (t := (spanAt q s fr b l n k).1) ⟨Int.le_refl _, span_some hm hf⟩
  obtain ⟨z, hz, hzk⟩ := (span_iff hm hf (show k + 1 ≤ n by omega) (spanAt q s fr b l n (k + 1)).1).1 ⟨Int.le_refl _, span_some hm hf⟩
  have h1 := (span_iff hm hf (show k ≤ n by omega) (z k)).2 ⟨z, hz, rfl⟩
  have h2 := hz.2 k (by omega) hk
  rw [hzk] at h2
  have h3 := hu.1
  have h4 := h1.1
  constructor
  · show q ≤ (spanAt q s fr b l n (k + 1)).1 - (spanAt q s fr b l n k).1
    omega
  · show (spanAt q s fr b l n (k + 1)).1 - (spanAt q s fr b l n k).1 ≤ _
    omega
/-- The latest, too. -/
theorem last_keeps {q s fr b : Int} {l : List Stp} (hm : ∀ k, q ≤ mostB s l k) {n : Nat} (hf : fwdTo q s fr b l (n + 1) = true) : Keeps q s fr b l (fun k => (spanAt q s fr b l n k).2) 0 n := by
  refine ⟨fun k _ hk => span_win hm hf hk ⟨span_some hm hf, Int.le_refl _⟩, fun k _ hk => ?_⟩
  obtain ⟨u, hu, hu1, hu2⟩ := span_next hm hf hk (t := (spanAt q s fr b l n k).2) ⟨span_some hm hf, Int.le_refl _⟩
  obtain ⟨z, hz, hzk⟩ := (span_iff hm hf (show k + 1 ≤ n by omega) (spanAt q s fr b l n (k + 1)).2).1 ⟨span_some hm hf, Int.le_refl _⟩
  have h1 := (span_iff hm hf (show k ≤ n by omega) (z k)).2 ⟨z, hz, rfl⟩
  have h2 := hz.2 k (by omega) hk
  rw [hzk] at h2
  have h3 := hu.2
  have h4 := h1.2
  constructor
  · show q ≤ (spanAt q s fr b l n (k + 1)).2 - (spanAt q s fr b l n k).2
    omega
  · show (spanAt q s fr b l n (k + 1)).2 - (spanAt q s fr b l n k).2 ≤ _
    omega

theorem keeps_congr {q s fr b : Int} {l : List Stp} {z z' : Nat → Int} {n : Nat} (h : Keeps q s fr b l z 0 n) (he : ∀ k, k ≤ n → z' k = z k) : Keeps q s fr b l z' 0 n :=
  ⟨fun k h1 h2 => by rw [he k h2]; exact h.1 k h1 h2, fun k h1 h2 => by rw [he k (by omega), he (k + 1) (by omega)]; exact h.2 k h1 h2⟩
theorem map_at {q s fr b : Int} {l : List Stp} (h : flyB q s fr b l = true) {k : Nat} (hk : k ≤ l.length) : (flyL q s fr b l)[k]? = some (spanAt q s fr b l l.length k) := by
  rw [(flyL_at h).2.2]
  simp [show k < l.length + 1 by omega]
theorem map_len {q s fr b : Int} {l : List Stp} (h : flyB q s fr b l = true) : (flyL q s fr b l).length = l.length + 1 := by
  rw [(flyL_at h).2.2]
  simp
theorem first_allow {q s fr b : Int} {l : List Stp} (h : flyB q s fr b l = true) : allowB q s fr b l ((flyL q s fr b l).map (·.1)) = true := by
  obtain ⟨hp, hf, _⟩ := flyL_at h
  rw [allowB_keeps hp]
  refine ⟨by rw [List.length_map, map_len h], keeps_congr (first_keeps (most_quick hp) hf) (fun k hk => ?_)⟩
  rw [List.getD_eq_getElem?_getD, List.getElem?_map, map_at h hk]
  rfl
theorem last_allow {q s fr b : Int} {l : List Stp} (h : flyB q s fr b l = true) : allowB q s fr b l ((flyL q s fr b l).map (·.2)) = true := by
  obtain ⟨hp, hf, _⟩ := flyL_at h
  rw [allowB_keeps hp]
  refine ⟨by rw [List.length_map, map_len h], keeps_congr (last_keeps (most_quick hp) hf) (fun k hk => ?_)⟩
  rw [List.getD_eq_getElem?_getD, List.getElem?_map, map_at h hk]
  rfl
/-- Each tick of a flight that keeps to the path lies between them. -/
theorem between {q s fr b : Int} {l : List Stp} (h : flyB q s fr b l = true) {zs : List Int} (ha : allowB q s fr b l zs = true) {k : Nat} (hk : k ≤ l.length) : (spanAt q s fr b l l.length k).1 ≤ zs.getD k 0 ∧ zs.getD k 0 ≤ (spanAt q s fr b l l.length k).2 := by
  obtain ⟨hp, hf, _⟩ := flyL_at h
  exact (span_iff (most_quick hp) hf hk _).2 ⟨_, ((allowB_keeps hp zs).1 ha).2, rfl⟩
/-- Without a flight none keeps to it. -/
theorem no_flight {q s fr b : Int} {l : List Stp} (h : flyB q s fr b l = false) (zs : List Int) : lawB q s fr b l zs = false := by
  cases e : lawB q s fr b l zs with
  | false => rfl
  | true =>
    exfalso
    have hp : pathB q s fr b l = true := by unfold lawB at e; simp only [Bool.and_eq_true] at e; exact e.1.1
    have hk := ((lawB_keeps hp zs).1 e).2
    have hf := (fly_iff (most_quick hp) l.length).2 ⟨_, hk⟩
    unfold flyB at h
    rw [hp, span_fwd hp, hf] at h
    cases h
theorem no_list {q s fr b : Int} {l : List Stp} (h : flyB q s fr b l = false) : flyL q s fr b l = [] := by
  unfold flyB at h
  unfold flyL
  split
  · rename_i hp
    rw [hp, Bool.true_and] at h
    unfold spansL
    rw [h]
    rfl
  · rfl
end Go.Proofs.YtijcdikekgmfoaaGreatDoor

namespace Go.Proofs.YtijcdikekgmfoaaGreatDoor
open Go.RowKit

section
variable {q s fr b : Int} {l : List Stp}
/-- Each tick was open. -/
def Beg (q s fr b : Int) (l : List Stp) (cs : List Int) : Prop := ∀ k, k < cs.length → inP (cs.getD k 0) (openA q s fr b l l.length (fun i => cs.getD i 0) k)
theorem getD_left {cs ds : List Int} {k : Nat} (h : k < cs.length) : (cs ++ ds).getD k 0 = cs.getD k 0 := by
  rw [List.getD_eq_getElem?_getD, List.getD_eq_getElem?_getD, List.getElem?_append_left h]
theorem getD_last (cs : List Int) (t : Int) : (cs ++ [t]).getD cs.length 0 = t := by
  rw [List.getD_eq_getElem?_getD, List.getElem?_append_right (Nat.le_refl _), Nat.sub_self]; rfl
theorem openA_same {n : Nat} {c c' : Nat → Int} {k : Nat} (h : ∀ i, i < k → c i = c' i) : openA q s fr b l n c k = openA q s fr b l n c' k := by
  cases k with
  | zero => rfl
  | succ m => rw [openA, openA, h m (by omega)]
theorem beg_snoc {cs : List Int} {t : Int} (h : Beg q s fr b l cs) (ht : inP t (openA q s fr b l l.length (fun i => cs.getD i 0) cs.length)) : Beg q s fr b l (cs ++ [t]) := by
  intro k hk
  rw [List.length_append] at hk
  have hsame : openA q s fr b l l.length (fun i => (cs ++ [t]).getD i 0) k = openA q s fr b l l.length (fun i => cs.getD i 0) k := openA_same fun i hi => getD_left (by simp at hk; omega)
  rw [hsame]
  by_cases e : k = cs.length
  · subst e
    rw [getD_last]
    exact ht
  · have hlt : k < cs.length := by simp at hk; omega
    rw [getD_left hlt]
    exact h k hlt
theorem goB_of (hp : pathB q s fr b l = true) (hsp : spanB q s fr b l = true) {cs : List Int} (hl : cs.length ≤ l.length) (h : Beg q s fr b l cs) : goB q s fr b l cs = true := by
  simp only [goB, Bool.and_eq_true, decide_eq_true_eq]
  exact ⟨⟨⟨hp, hsp⟩, hl⟩, (begunB_iff q s fr b l cs cs.length).2 h⟩
theorem goAt_pre (cs asks : List Int) : ∀ (i k : Nat), k < cs.length → (goAt q s fr b l cs asks i).getD k 0 = cs.getD k 0
  | 0, _, _ => rfl
  | i + 1, k, hk => by rw [goAt, getD_left (by rw [goAt_length]; omega)]; exact goAt_pre cs asks i k hk
theorem goAt_beg (hp : pathB q s fr b l = true) (hsp : spanB q s fr b l = true) {cs : List Int} (h : Beg q s fr b l cs) : ∀ i, cs.length + i ≤ l.length + 1 → Beg q s fr b l (goAt q s fr b l cs [] i)
  | 0, _ => h
  | i + 1, hi => by
    have h1 := goAt_beg hp hsp h i (by omega)
    have hl : (goAt q s fr b l cs [] i).length ≤ l.length := by rw [goAt_length]; omega
    have hg := goB_of hp hsp hl h1
    have hw := Wide.of hp
    rw [goAt]
    refine beg_snoc h1 ?_
    rw [List.drop_nil]
    unfold goS
    rw [if_pos hg]
    refine ⟨Int.le_refl _, ?_⟩
    rw [hw.span_fwd] at hsp
    exact open_some hw.quick hsp _ hl h1
/-- What has begun, each tick open, is flown to its end. -/
theorem beg_flown (hp : pathB q s fr b l = true) (hsp : spanB q s fr b l = true) {cs : List Int} (h : Beg q s fr b l cs) (hl : cs.length ≤ l.length + 1) : flownB q s fr b l cs [] = true := by
  have hF : goF q s fr b l cs [] = goAt q s fr b l cs [] (l.length + 1 - cs.length) := by
    refine goF_is (goB_long (by rw [goAt_length]; omega)) fun j hj => ?_
    exact goB_of hp hsp (by rw [goAt_length]; omega) (goAt_beg hp hsp h j (by omega))
  unfold flownB
  rw [hF]
  have hb := goAt_beg hp hsp h (l.length + 1 - cs.length) (by omega)
  have hlen : (goAt q s fr b l cs [] (l.length + 1 - cs.length)).length = l.length + 1 := by rw [goAt_length]; omega
  generalize goAt q s fr b l cs [] (l.length + 1 - cs.length) = f at *
  rw [lawB_keeps hp]
  refine ⟨hlen, ?_⟩
  have hw := Wide.of hp
  rw [hw.span_fwd] at hsp
  obtain ⟨z, hz, h1, h2⟩ := (begun_iff hw.quick hsp (fun i => f.getD i 0) (Nat.le_refl l.length) (f.getD l.length 0)).1 ⟨fun k hk => hb k (by omega), hb l.length (by omega)⟩
  refine keeps_congr hz fun k hk => ?_
  by_cases e : k = l.length
  · subst e; exact h2.symm
  · exact (h1 k (by omega)).symm
/-- One tick more: flown just if it was open. -/
theorem next_flown {zs : List Int} (hg : goB q s fr b l zs = true) (t : Int) : flownB q s fr b l (zs ++ [t]) [] = inB t (goS q s fr b l zs).1 (goS q s fr b l zs).2 := by
  obtain ⟨hp, hsp, hl, hb⟩ := goB_parts hg
  have hS : goS q s fr b l zs = openA q s fr b l l.length (fun i => zs.getD i 0) zs.length := by unfold goS; rw [if_pos hg]
  rw [Bool.eq_iff_iff, inB_iff, hS]
  constructor
  · intro h
    unfold flownB at h
    rw [lawB_keeps hp] at h
    have hw := Wide.of hp
    rw [hw.span_fwd] at hsp
    refine ((begun_iff hw.quick hsp (fun i => zs.getD i 0) hl t).2 ⟨_, h.2, fun k hk => ?_, ?_⟩).2
    · unfold goF
      rw [goAt_pre _ _ _ _ (by simp; omega), getD_left hk]
    · unfold goF
      show (goAt q s fr b l (zs ++ [t]) [] _).getD zs.length 0 = t
      rw [goAt_pre _ _ _ _ (by simp), getD_last]
  · intro h
    exact beg_flown hp hsp (beg_snoc hb h) (by simp; omega)
/-- Nothing more: flown just if it is a whole flight. -/
theorem none_flown {zs : List Int} (hg : goB q s fr b l zs = false) : flownB q s fr b l zs [] = lawB q s fr b l zs := by
  unfold flownB
  rw [goF_is (n := 0) hg (fun j hj => by omega)]
  rfl
theorem none_list {zs : List Int} (hg : goB q s fr b l zs = false) : flownL q s fr b l zs [] = if lawB q s fr b l zs then zs else [] := by
  unfold flownL
  rw [none_flown hg, goF_is (n := 0) hg (fun j hj => by omega)]
  rfl
/-- What is flown may be flown. -/
theorem flown_allow {cs asks : List Int} (h : flownB q s fr b l cs asks = true) : allowB q s fr b l (flownL q s fr b l cs asks) = true := by
  have hp : pathB q s fr b l = true := by
    cases e : pathB q s fr b l with
    | true => rfl
    | false => unfold flownB at h; rw [lawB_path e] at h; cases h
  rw [allow_law hp]
  unfold flownL
  rw [if_pos h]
  exact h
theorem lawB_length {zs : List Int} (h : lawB q s fr b l zs = true) : zs.length = l.length + 1 := by
  by_cases e : zs.length = l.length + 1
  · exact e
  · rw [lawB_len e] at h; cases h
end
end Go.Proofs.YtijcdikekgmfoaaGreatDoor
