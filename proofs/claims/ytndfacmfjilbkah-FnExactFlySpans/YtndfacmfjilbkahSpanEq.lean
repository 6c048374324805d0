/- The law's own comparison of spans, and its marks in spans and steps, by their contracts. -/
import Derived.Test.YtndfacmfjilbkahSpanBack
import Derived.Test.YtndfacmfjilbkahCopy2
import Derived.Test.YtndfacmfjilbkahRows
import Derived.WalkKit
import Derived.WalkSpells
import Derived.Deep.RegionHeld3
namespace Go.Proofs.Ytndfacmfjilbkah
open Go.RowKit

/-- The cells of a list of spans lie in block b, two each. -/
structure SpAt (w : World) (a : Option Addr) (b : Nat) (l : List (Int × Int)) : Prop where
  here : l ≠ [] → a = some ⟨b, 0, none⟩
  lt : l ≠ [] → b < w.heap.size
  cell : ∀ (i : Nat) (s : Int × Int), l[i]? = some s → w.cell? ⟨b, i * 2, none⟩ = some (.int .i64 s.1) ∧ w.cell? ⟨b, i * 2 + 1, none⟩ = some (.int .i64 s.2)
theorem SpAt.below {w w' : World} {a : Option Addr} {b B : Nat} {l : List (Int × Int)} (h : SpAt w a b l) (hb : Below B w w') (hB : l ≠ [] → b < B) : SpAt w' a b l where
  here := h.here
  lt hl := Nat.lt_of_lt_of_le (h.lt hl) hb.size
  cell i s hi := by
    have hne : l ≠ [] := by intro e; subst e; simp at hi
    rw [hb.cell (p := ⟨b, i * 2, none⟩) (hB hne), hb.cell (p := ⟨b, i * 2 + 1, none⟩) (hB hne)]
    exact h.cell i s hi
/-- A row that is owned. -/
theorem owns_spans {w : World} {base : Nat} {e : TypeId} {v : Value} {m : List (Int × Int)} (h : w.ownsRow base e 2 v m.length (spanCells m)) : ∃ a g cap, v = .slice a m.length cap ∧ SpAt w a g m := by
  rcases h.2 with ⟨rfl, h0⟩ | ⟨g, cap, cur, rfl, _, hh, _⟩
  · have : m = [] := List.length_eq_zero_iff.1 h0
    subst this
    exact ⟨none, 0, 0, rfl, ⟨fun h => absurd rfl h, fun h => absurd rfl h, fun i s hi => by simp at hi⟩⟩
  · refine ⟨some ⟨g, 0, none⟩, g, cap, rfl, ⟨fun _ => rfl, fun _ => lt_of_block hh, fun i s hi => ?_⟩⟩
    have hl : i < m.length := (List.getElem?_eq_some_iff.1 hi).1
    obtain ⟨h1, h2⟩ := spanCells_get m i s hi
    exact ⟨(h.cellAt (i * 2) (by omega)).trans h1, (h.cellAt (i * 2 + 1) (by omega)).trans h2⟩

theorem eqSpan_same (x y : Int) (w : World) :
    Calls Try.prog 56 #[.agg #[.int .i64 x, .int .i64 y], .agg #[.int .i64 x, .int .i64 y]] w fun e w' => e = .returned (.bool true) ∧ Below w.heap.size w w' := by
  go_enter Try.func56, Try.ntmps56
  go_wp2
  go_ret
  exact ⟨rfl, ((Below.refl _ _).alloc (Nat.le_refl _) _).alloc (by simp) _⟩

set_option maxHeartbeats 1000000 in
theorem eqSpans_at (a a' : Option Addr) (b cap b' cap' : Nat) (l : List (Int × Int)) (w : World) (hl : l.length ≤ 1048576) (hs : SpAt w a b l) (hs' : SpAt w a' b' l) :
    Calls Try.prog 19 #[.slice a l.length cap, .slice a' l.length cap'] w fun e w' => e = .returned (.bool true) ∧ Below w.heap.size w w' := by
  go_enter Try.func19, Try.ntmps19
  go_wp2
  go_loopw [5] (fun v wr => ∃ k : Nat, k ≤ l.length ∧ v = .int .i64 k ∧ Below w.heap.size w wr) (fun v _ => l.length - (intOf v).toNat)
  case atStart => exact ⟨0, Nat.zero_le _, rfl, Below.refl _ _⟩
  case round =>
    obtain ⟨k, hk, rfl, hb⟩ := hrel
    by_cases hlt : k < l.length
    · obtain ⟨s, hsk⟩ : ∃ s, l[k]? = some s := ⟨l[k], List.getElem?_eq_getElem hlt⟩
      have hne : l ≠ [] := by intro e; subst e; simp at hlt
      obtain rfl := hs.here hne
      obtain rfl := hs'.here hne
      have hbw := hs.lt hne
      have hbw' := hs'.lt hne
      obtain ⟨c0, c1⟩ := (hs.below hb (fun _ => hbw)).cell k s hsk
      obtain ⟨d0, d1⟩ := (hs'.below hb (fun _ => hbw')).cell k s hsk
      have k0 : (0 : Int) ≤ (k : Int) := by omega
      have k1 : (k : Int) < (l.length : Int) := by omega
      have hbx : b < wr.heap.size := Nat.lt_of_lt_of_le hbw hb.size
      have hbx' : b' < wr.heap.size := Nat.lt_of_lt_of_le hbw' hb.size
      clear hsk
      go_wp2
      go_region_held3 (fun w' => w'.cell? ⟨b, k * 2, none⟩ = some (.int .i64 s.1) ∧ w'.cell? ⟨b, k * 2 + 1, none⟩ = some (.int .i64 s.2) ∧ w'.cell? ⟨b', k * 2, none⟩ = some (.int .i64 s.1) ∧ w'.cell? ⟨b', k * 2 + 1, none⟩ = some (.int .i64 s.2))
        (simp [go_sem, *])
        (first | (go_at_call 56; refine (eqSpan_same _ _ _).mono ?_; rintro e w1 ⟨rfl, hb1⟩; have hc1 : ∀ j, w1.cell? ⟨b, j, none⟩ = wr.cell? ⟨b, j, none⟩ := fun j => hb1.cell (p := ⟨b, j, none⟩) hbx; have hc2 : ∀ j, w1.cell? ⟨b', j, none⟩ = wr.cell? ⟨b', j, none⟩ := fun j => hb1.cell (p := ⟨b', j, none⟩) hbx'))
      go_wp2
      go_roundw
      case rel => exact ⟨k + 1, by omega, by go_num, hb.drew.trans (hb1.mono hb.size)⟩
      case measure => simp [intOf]; omega
    · go_wp2
      go_ret
      exact ⟨rfl, hb⟩
theorem eqSpans_same {v v' : Value} {base base' e : Nat} (l : List (Int × Int)) (w : World) (hl : l.length ≤ 1048576) (h : w.ownsRow base e 2 v l.length (spanCells l)) (h' : w.ownsRow base' e 2 v' l.length (spanCells l)) :
    Calls Try.prog 19 #[v, v'] w fun e w' => e = .returned (.bool true) ∧ Below w.heap.size w w' := by
  obtain ⟨a, g, cap, rfl, hs⟩ := owns_spans h
  obtain ⟨a', g', cap', rfl, hs'⟩ := owns_spans h'
  exact eqSpans_at a a' g cap g' cap' l w hl hs hs'

theorem grown_set (W : World) (p : Addr) (v : Value) : W.grownBy (W.setCell p v) (some p.block) :=
  ⟨rfl, rfl, rfl, by simp [World.setCell], fun k _ hk => heap_setCell_other W p k v (fun e => hk (by rw [e]))⟩

theorem grown_over2 {a b c : World} {row : Option Nat} (h : a.grownBy b row) (k : b.grownBy c row) : a.grownBy c row :=
  ⟨k.os.trans h.os, k.tape.trans h.tape, k.output.trans h.output, Nat.le_trans h.size k.size, fun i hi hne => (k.block i (Nat.lt_of_lt_of_le hi h.size) hne).trans (h.block i hi hne)⟩

/-- The marks: numbers one behind another. -/
def markV (k0 : Int) (n : Nat) : List Value := (List.range n).map fun (j : Nat) => .int .i64 (k0 + (j : Int))
/-- The row when i of its spans are marked. -/
def markTo (k0 : Int) (xs : List Value) (i : Nat) : List Value := markV k0 (i * 2) ++ xs.drop (i * 2)
theorem markTo_zero (k0 : Int) (xs : List Value) : markTo k0 xs 0 = xs := by simp [markTo, markV]
theorem markV_length (k0 : Int) (n : Nat) : (markV k0 n).length = n := by simp [markV]
theorem markV_get (k0 : Int) {n i : Nat} (h : i < n) : (markV k0 n)[i]? = some (.int .i64 (k0 + (i : Int))) := by simp [markV, h]
theorem markTo_all (k0 : Int) (xs : List Value) (n : Nat) (h : xs.length = n * 2) : markTo k0 xs n = markV k0 (n * 2) := by simp [markTo, ← h]
theorem markTo_length (k0 : Int) (xs : List Value) (i : Nat) (h : i * 2 ≤ xs.length) : (markTo k0 xs i).length = xs.length := by simp [markTo, markV_length]; omega
theorem markTo_succ (k0 : Int) (xs : List Value) (i : Nat) (h : i * 2 + 1 < xs.length) :
    markTo k0 xs (i + 1) = ((markTo k0 xs i).set (i * 2) (.int .i64 (k0 + ((i * 2 : Nat) : Int)))).set (i * 2 + 1) (.int .i64 (k0 + ((i * 2 + 1 : Nat) : Int))) := by
  have hl := markTo_length k0 xs i (by omega)
  have hl' := markTo_length k0 xs (i + 1) (by omega)
  apply List.ext_getElem?
  intro j
  have get : ∀ (m : Nat), (markTo k0 xs m)[j]? = if j < m * 2 then some (.int .i64 (k0 + (j : Int))) else xs[j]? := fun m => by
    unfold markTo
    by_cases hj : j < m * 2
    · rw [if_pos hj, List.getElem?_append_left (by rw [markV_length]; exact hj), markV_get k0 hj]
    · rw [if_neg hj, List.getElem?_append_right (by rw [markV_length]; omega), markV_length, List.getElem?_drop]
      congr 1
      omega
  by_cases e2 : i * 2 + 1 = j
  · rw [← e2, List.getElem?_set_self (by rw [List.length_set]; omega), e2, get, if_pos (by omega)]
  · rw [List.getElem?_set_ne e2]
    by_cases e1 : i * 2 = j
    · rw [← e1, List.getElem?_set_self (by omega), e1, get, if_pos (by omega)]
    · rw [List.getElem?_set_ne e1, get, get]
      by_cases hj : j < i * 2
      · rw [if_pos hj, if_pos (by omega)]
      · rw [if_neg hj, if_neg (by omega)]
end Go.Proofs.Ytndfacmfjilbkah
