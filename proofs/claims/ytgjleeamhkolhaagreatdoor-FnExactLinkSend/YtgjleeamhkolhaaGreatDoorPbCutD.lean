/- Rows of boxes that a call owns, and what a cut leaves of boxes. Nothing of the program's text is named here. -/
import Derived.Test.YtgjleeamhkolhaaGreatDoorJ07
import Derived.Test.YtgjleeamhkolhaaGreatDoorJ03
import Derived.Test.YtgjleeamhkolhaaGreatDoorPbTube0
namespace Go.Proofs.YtgjleeamhkolhaaGreatDoor
open Go.RowKit

/-- What is left of boxes from a tick on. -/
def cutL (n : Int) (l : List Bx) : List Bx := (l.filter fun s => decide (n ≤ s.out)).map fun s => { s with in_ := max s.in_ n }
theorem cutL_nil (n : Int) : cutL n [] = [] := rfl
theorem cutL_take {n : Int} {l : List Bx} {k : Nat} {s : Bx} (h : l[k]? = some s) : cutL n (l.take (k + 1)) = if n ≤ s.out then cutL n (l.take k) ++ [{ s with in_ := max s.in_ n }] else cutL n (l.take k) := by
  unfold cutL
  rw [List.take_add_one, h]
  by_cases hh : n ≤ s.out <;> simp [List.filter_append, hh]
theorem cutL_len (n : Int) (l : List Bx) : (cutL n l).length ≤ l.length := by
  unfold cutL; rw [List.length_map]; exact List.length_filter_le _ _
theorem cutL_len_take (n : Int) (l : List Bx) (k : Nat) : (cutL n (l.take k)).length ≤ l.length :=
  Nat.le_trans (cutL_len n _) (by rw [List.length_take]; omega)
theorem rowC_snoc (l : List Bx) (s : Bx) : rowC (l ++ [s]) = rowC l ++ s.cells := by rw [rowC_append, rowC_one]

/-- A row of boxes that a call owns, as a law reads and marks it. -/
structure RowB (w : World) (base : Nat) (a : Option Addr) (g : Nat) (m : List Bx) : Prop where
  at_ : BoxesAt w a g 0 m
  base : m ≠ [] → base ≤ g
  there : ∀ i, i < m.length → w.there g (i * 6) 6
theorem owns_rowB {w : World} {base : Nat} {e : TypeId} {v : Value} {m : List Bx} (h : w.ownsRow base e 6 v m.length (rowC m)) : ∃ a g cap, v = .slice a m.length cap ∧ RowB w base a g m := by
  rcases h.2 with ⟨rfl, h0⟩ | ⟨g, cap, cur, rfl, hg, hh, hn, hc, hs, ht⟩
  · have : m = [] := List.length_eq_zero_iff.1 h0
    subst this
    exact ⟨none, 0, 0, rfl, ⟨⟨fun h => absurd rfl h, fun h => absurd rfl h, fun i s hi => by simp at hi⟩, fun h => absurd rfl h, fun i hi => by simp at hi⟩⟩
  · refine ⟨some ⟨g, 0, none⟩, g, cap, rfl, ⟨⟨fun _ => rfl, fun _ => lt_of_block hh, fun i s hi j u hu => ?_⟩, fun _ => hg, fun i hi => there_of_block hh _ _ ?_⟩⟩
    · have h1 := rowC_get m i s hi j u hu
      rw [← ht] at h1
      rw [Nat.zero_add, cell_of_row w g (i * 6 + j) cur _ _ hh]
      rw [List.getElem?_take] at h1
      split at h1
      · simpa using h1
      · cases h1
    · have hl := h.1
      rw [← ht, List.length_take] at hl
      simp at hl
      omega
theorem RowB.keep {w w' : World} {base : Nat} {a : Option Addr} {g : Nat} {m : List Bx} (h : RowB w base a g m) (hb : Below w.heap.size w w') : RowB w' base a g m where
  at_ := h.at_.below hb h.at_.lt
  base := h.base
  there i hi := there_below (h.there i hi) hb (h.at_.lt (by intro e; subst e; simp at hi))

theorem BoxesAt.grown {w w' : World} {a : Option Addr} {b o : Nat} {l : List Bx} (h : BoxesAt w a b o l) {row : Option Nat} (hg : w.grownBy w' row) (hb : l ≠ [] → some b ≠ row) : BoxesAt w' a b o l where
  here := h.here
  lt hl := Nat.lt_of_lt_of_le (h.lt hl) hg.size
  cell i s hi j u hu := by
    have hne : l ≠ [] := by intro e; subst e; simp at hi
    rw [World.cell?_of_block (a := ⟨b, o + i * 6 + j, none⟩) (hg.block b (h.lt hne) (hb hne))]
    exact h.cell i s hi j u hu
theorem RowB.grown {w w' : World} {base : Nat} {a : Option Addr} {b : Nat} {m : List Bx} (h : RowB w base a b m) {row : Option Nat} (hg : w.grownBy w' row) (hb : m ≠ [] → some b ≠ row) : RowB w' base a b m where
  at_ := h.at_.grown hg hb
  base := h.base
  there i hi j hj := by
    have hne : m ≠ [] := by intro e; subst e; simp at hi
    have hbl := hg.block b (h.at_.lt hne) (hb hne)
    have h1 := h.there i hi j hj
    rw [World.cell?_of_block (a := ⟨b, i * 6 + j, none⟩) hbl, World.frozen?_of_block (a := ⟨b, i * 6 + j, none⟩) hbl]
    exact h1

/-- The block of a row, if it has one. -/
def rowOf {α : Type} (m : List α) (g : Nat) : Option Nat := if m.length = 0 then none else some g
theorem rowOf_pos {α : Type} {m : List α} {g : Nat} (h : 0 < m.length) : rowOf m g = some g := by unfold rowOf; rw [if_neg (by omega)]
theorem rowOf_ne {α : Type} {m : List α} {g B : Nat} (h : m ≠ [] → B ≠ g) : some B ≠ rowOf m g := by
  unfold rowOf
  split
  · simp
  · rename_i hn
    intro e
    exact h (by intro e2; subst e2; simp at hn) (Option.some.inj e)
/-- Six marks. -/
abbrev marks (k0 : Int) (m : Nat) : List Value := [.int .i64 (k0 + (m * 6 : Nat)), .int .i64 (k0 + (m * 6 : Nat) + 1), .int .i64 (k0 + (m * 6 : Nat) + 1 + 1), .int .i64 (k0 + (m * 6 : Nat) + 1 + 1 + 1), .int .i64 (k0 + (m * 6 : Nat) + 1 + 1 + 1 + 1), .int .i64 (k0 + (m * 6 : Nat) + 1 + 1 + 1 + 1 + 1)]

theorem six_newP (w : World) (s : Bx) (t : TypeId) : ∀ (j : Nat) (u : Value), s.cells[j]? = some u → (w.alloc (.cells #[.int .i64 s.x, .int .i64 s.y, .int .i64 s.lo, .int .i64 s.hi, .int .i64 s.in_, .int .i64 s.out] t)).cell? ((⟨w.heap.size, 0, none⟩ : Addr).add j) = some u := by
  intro j u hj
  match j, hj with
  | 0, hj => simp at hj; subst hj; simp [Addr.add, go_sem]
  | 1, hj => simp at hj; subst hj; simp [Addr.add, go_sem]
  | 2, hj => simp at hj; subst hj; simp [Addr.add, go_sem]
  | 3, hj => simp at hj; subst hj; simp [Addr.add, go_sem]
  | 4, hj => simp at hj; subst hj; simp [Addr.add, go_sem]
  | 5, hj => simp at hj; subst hj; simp [Addr.add, go_sem]
theorem six_new2P (w : World) (s : Bx) (o : Obj) (t : TypeId) : ∀ (j : Nat) (u : Value), s.cells[j]? = some u → ((w.alloc o).alloc (.cells #[.int .i64 s.x, .int .i64 s.y, .int .i64 s.lo, .int .i64 s.hi, .int .i64 s.in_, .int .i64 s.out] t)).cell? ((⟨w.heap.size + 1, 0, none⟩ : Addr).add j) = some u := by
  intro j u hj
  have := six_newP (w.alloc o) s t j u hj
  rwa [World.size_alloc] at this
end Go.Proofs.YtgjleeamhkolhaaGreatDoor
