/- Joined texts: PbTube0, PbCutD, PbInS, PbSpec1. -/
import Derived.WalkKit
import Derived.WalkSpells
import Derived.Test.YtfmdejilhbankaaGreatRows
import Derived.Test.YtfmdejilhbankaaGreatPbData
import Derived.Test.YtfmdejilhbankaaGreatGrp
import Derived.Test.YtfmdejilhbankaaGreatGrownMore
import Derived.Test.YtfmdejilhbankaaGreatData
namespace Go.Proofs.YtfmdejilhbankaaGreat
open Go.RowKit

/-- A tube: its name, and where its boxes lie. -/
structure Tb where
  nm : ByteArray
  a : Option Addr
  b : Nat
  o : Nat
  cap : Nat
  l : List Bx
abbrev Tb.val (t : Tb) : Value := .agg #[.string t.nm, .slice t.a t.l.length t.cap]
/-- Its boxes lie there. -/
structure TubeAt (w : World) (t : Tb) : Prop where
  at_ : BoxesAt w t.a t.b t.o t.l
theorem TubeAt.below {w w' : World} {t : Tb} (h : TubeAt w t) (hb : Below w.heap.size w w') : TubeAt w' t := ⟨h.at_.below hb h.at_.lt⟩
/-- Tubes lie in block b from offset o on, two cells each. -/
structure TubesAt (w : World) (a : Option Addr) (b o : Nat) (ts : List Tb) : Prop where
  here : ts ≠ [] → a = some ⟨b, o, none⟩
  lt : ts ≠ [] → b < w.heap.size
  cell : ∀ (i : Nat) (t : Tb), ts[i]? = some t → w.rangeAt b (o + i * 2) [.string t.nm, .slice t.a t.l.length t.cap]
  each : ∀ t ∈ ts, TubeAt w t
theorem TubesAt.below {w w' : World} {a : Option Addr} {b o : Nat} {ts : List Tb} (h : TubesAt w a b o ts) (hb : Below w.heap.size w w') : TubesAt w' a b o ts where
  here := h.here
  lt hl := Nat.lt_of_lt_of_le (h.lt hl) hb.size
  cell i t hi := range_below (h.cell i t hi) hb (h.lt (by intro e; subst e; simp at hi))
  each t ht := (h.each t ht).below hb
theorem TubesAt.two {w : World} {a : Option Addr} {b o : Nat} {ts : List Tb} (h : TubesAt w a b o ts) {i : Nat} {t : Tb} (hi : ts[i]? = some t) :
    w.cell? ⟨b, o + i * 2, none⟩ = some (.string t.nm) ∧ w.cell? ⟨b, o + i * 2 + 1, none⟩ = some (.slice t.a t.l.length t.cap) :=
  ⟨h.cell i t hi 0 _ rfl, h.cell i t hi 1 _ rfl⟩
end Go.Proofs.YtfmdejilhbankaaGreat

namespace Go.Proofs.YtfmdejilhbankaaGreat
open Go.RowKit

/-- What is left of boxes from a tick on. -/
def cutL (n : Int) (l : List Bx) : List Bx := (l.filter fun s => decide (n ≤ s.out)).map fun s => { s with in_ := max s.in_ n }
theorem cutL_nil (n : Int) : cutL n [] = [] := rfl
theorem cutL_take {n : Int} {l : List Bx} {k : Nat} {s : Bx} (h : l[k]? = some s) : cutL n (l.take (k + 1)) = if n ≤ s.out then cutL n (l.take k) ++ [{ s with in_ := max s.in_ n }] else cutL n (l.take k) := by
  unfold cutL
  rw [List.take_add_one, h]
  by_cases hh : n ≤ s.out <;> simp [List.filter_append, hh]
theorem cutL_len (n : Int) (l : List Bx) : (cutL n l).length ≤ l.length := by
  unfold cutL; rw [List.length_map]; exact List.length_filter_le _ _
theorem cutL_len_take (n : Int) (l : List Bx) (k : Nat) : (cutL n (l.take k)).length ≤ l.length :=
  Nat.le_trans (cutL_len n _) (by rw [List.length_take]; omega)
theorem rowC_snoc (l : List Bx) (s : Bx) : rowC (l ++ [s]) = rowC l ++ s.cells := by rw [rowC_append, rowC_one]

/-- A row of boxes that a call owns, as a law reads and marks it. -/
structure RowB (w : World) (base : Nat) (a : Option Addr) (g : Nat) (m : List Bx) : Prop where
  at_ : BoxesAt w a g 0 m
  base : m ≠ [] → base ≤ g
  there : ∀ i, i < m.length → w.there g (i * 6) 6
theorem owns_rowB {w : World} {base : Nat} {e : TypeId} {v : Value} {m : List Bx} (h : w.ownsRow base e 6 v m.length (rowC m)) : ∃ a g cap, v = .slice a m.length cap ∧ RowB w base a g m := by
  rcases h.2 with ⟨rfl, h0⟩ | ⟨g, cap, cur, rfl, hg, hh, hn, hc, hs, ht⟩
  · have : m = [] := List.length_eq_zero_iff.1 h0
    subst this
    exact ⟨none, 0, 0, rfl, ⟨⟨fun h => absurd rfl h, fun h => absurd rfl h, fun i s hi => by simp at hi⟩, fun h => absurd rfl h, fun i hi => by simp at hi⟩⟩
  · refine ⟨some ⟨g, 0, none⟩, g, cap, rfl, ⟨⟨fun _ => rfl, fun _ => lt_of_block hh, fun i s hi j u hu => ?_⟩, fun _ => hg, fun i hi => there_of_block hh _ _ ?_⟩⟩
    · have h1 := rowC_get m i s hi j u hu
      rw [← ht] at h1
      rw [Nat.zero_add, cell_of_row w g (i * 6 + j) cur _ _ hh]
      rw [List.getElem?_take] at h1
      split at h1
      · simpa using h1
      · cases h1
    · have hl := h.1
      rw [← ht, List.length_take] at hl
      simp at hl
      omega
theorem RowB.keep {w w' : World} {base : Nat} {a : Option Addr} {g : Nat} {m : List Bx} (h : RowB w base a g m) (hb : Below w.heap.size w w') : RowB w' base a g m where
  at_ := h.at_.below hb h.at_.lt
  base := h.base
  there i hi := there_below (h.there i hi) hb (h.at_.lt (by intro e; subst e; simp at hi))

theorem BoxesAt.grown {w w' : World} {a : Option Addr} {b o : Nat} {l : List Bx} (h : BoxesAt w a b o l) {row : Option Nat} (hg : w.grownBy w' row) (hb : l ≠ [] → some b ≠ row) : BoxesAt w' a b o l where
  here := h.here
  lt hl := Nat.lt_of_lt_of_le (h.lt hl) hg.size
  cell i s hi j u hu := by
    have hne : l ≠ [] := by intro e; subst e; simp at hi
    rw [World.cell?_of_block (a := ⟨b, o + i * 6 + j, none⟩) (hg.block b (h.lt hne) (hb hne))]
    exact h.cell i s hi j u hu
theorem RowB.grown {w w' : World} {base : Nat} {a : Option Addr} {b : Nat} {m : List Bx} (h : RowB w base a b m) {row : Option Nat} (hg : w.grownBy w' row) (hb : m ≠ [] → some b ≠ row) : RowB w' base a b m where
  at_ := h.at_.grown hg hb
  base := h.base
  there i hi j hj := by
    have hne : m ≠ [] := by intro e; subst e; simp at hi
    have hbl := hg.block b (h.at_.lt hne) (hb hne)
    have h1 := h.there i hi j hj
    rw [World.cell?_of_block (a := ⟨b, i * 6 + j, none⟩) hbl, World.frozen?_of_block (a := ⟨b, i * 6 + j, none⟩) hbl]
    exact h1

/-- The block of a row, if it has one. -/
def rowOf {α : Type} (m : List α) (g : Nat) : Option Nat := if m.length = 0 then none else some g
theorem rowOf_pos {α : Type} {m : List α} {g : Nat} (h : 0 < m.length) : rowOf m g = some g := by unfold rowOf; rw [if_neg (by omega)]
theorem rowOf_ne {α : Type} {m : List α} {g B : Nat} (h : m ≠ [] → B ≠ g) : some B ≠ rowOf m g := by
  unfold rowOf
  split
  · simp
  · rename_i hn
    intro e
    exact h (by intro e2; subst e2; simp at hn) (Option.some.inj e)
/-- Six marks. -/
abbrev marks (k0 : Int) (m : Nat) : List Value := [.int .i64 (k0 + (m * 6 : Nat)), .int .i64 (k0 + (m * 6 : Nat) + 1), .int .i64 (k0 + (m * 6 : Nat) + 1 + 1), .int .i64 (k0 + (m * 6 : Nat) + 1 + 1 + 1), .int .i64 (k0 + (m * 6 : Nat) + 1 + 1 + 1 + 1), .int .i64 (k0 + (m * 6 : Nat) + 1 + 1 + 1 + 1 + 1)]

theorem six_newP (w : World) (s : Bx) (t : TypeId) : ∀ (j : Nat) (u : Value), s.cells[j]? = some u → (w.alloc (.cells #[.int .i64 s.x, .int .i64 s.y, .int .i64 s.lo, .int .i64 s.hi, .int .i64 s.in_, .int .i64 s.out] t)).cell? ((⟨w.heap.size, 0, none⟩ : Addr).add j) = some u := by
  intro j u hj
  match j, hj with
  | 0, hj => simp at hj; subst hj; simp [Addr.add, go_sem]
  | 1, hj => simp at hj; subst hj; simp [Addr.add, go_sem]
  | 2, hj => simp at hj; subst hj; simp [Addr.add, go_sem]
  | 3, hj => simp at hj; subst hj; simp [Addr.add, go_sem]
  | 4, hj => simp at hj; subst hj; simp [Addr.add, go_sem]
  | 5, hj => simp at hj; subst hj; simp [Addr.add, go_sem]
theorem six_new2P (w : World) (s : Bx) (o : Obj) (t : TypeId) : ∀ (j : Nat) (u : Value), s.cells[j]? = some u → ((w.alloc o).alloc (.cells #[.int .i64 s.x, .int .i64 s.y, .int .i64 s.lo, .int .i64 s.hi, .int .i64 s.in_, .int .i64 s.out] t)).cell? ((⟨w.heap.size + 1, 0, none⟩ : Addr).add j) = some u := by
  intro j u hj
  have := six_newP (w.alloc o) s t j u hj
  rwa [World.size_alloc] at this
end Go.Proofs.YtfmdejilhbankaaGreat

namespace Go.Proofs.YtfmdejilhbankaaGreat
open Go.RowKit

theorem pin_any (n a b : Int) (w : World) :
    Calls Tryz.prog 75 #[.int .i64 n, .int .i64 a, .int .i64 b] w fun e w' => e = .returned (.bool (inB n a b)) ∧ w' = w := by
  by_cases h1 : a ≤ n
  · by_cases h2 : n ≤ b
    · go_enter Tryz.func75, Tryz.ntmps75
      go_wp2
      go_ret
      exact ⟨by simp [inB, h1, h2], rfl⟩
    · have h2' : decide (n ≤ b) = false := by simpa using h2
      go_enter Tryz.func75, Tryz.ntmps75
      go_wp2
      go_ret
      exact ⟨by simp [inB, h2'], rfl⟩
  · have h1' : decide (a ≤ n) = false := by simpa using h1
    go_enter Tryz.func75, Tryz.ntmps75
    go_wp2
    go_ret
    exact ⟨by simp [inB, h1'], rfl⟩

end Go.Proofs.YtfmdejilhbankaaGreat

namespace Go.Proofs.YtfmdejilhbankaaGreat
open Go.RowKit

theorem boxOkS_any (x y lo hi i o : Int) (w : World) :
    Calls Tryz.prog 129 #[.agg #[.int .i64 x, .int .i64 y, .int .i64 lo, .int .i64 hi, .int .i64 i, .int .i64 o]] w fun e w' => e = .returned (.bool (boxB ⟨x, y, lo, hi, i, o⟩)) ∧ Below w.heap.size w w' := by
  have hb := (Below.refl w.heap.size w).alloc (Nat.le_refl _) (.cells #[.int .i64 x, .int .i64 y, .int .i64 lo, .int .i64 hi, .int .i64 i, .int .i64 o] 133)
  have ER : Hid (boxB ⟨x, y, lo, hi, i, o⟩ = (inB x 0 15 && inB y 0 15 && inB lo 0 hi && decide (hi ≤ 6) && inB i 0 o && decide (o ≤ 10000))) := rfl
  rcases Bool.eq_false_or_eq_true (inB x 0 15) with h1 | h1
  rcases Bool.eq_false_or_eq_true (inB y 0 15) with h2 | h2
  rcases Bool.eq_false_or_eq_true (inB lo 0 hi) with h3 | h3
  rcases Bool.eq_false_or_eq_true (decide (hi ≤ 6)) with h4 | h4
  rcases Bool.eq_false_or_eq_true (inB i 0 o) with h5 | h5
  all_goals
    go_enter Tryz.func129, Tryz.ntmps129
    go_wp2_with (go_at_call 75; refine (pin_any _ _ _ _).mono ?_; rintro e w' ⟨rfl, rfl⟩)
    go_ret
    exact ⟨by rw [ER.out]; simp [*], hb⟩
theorem boxOkS_val (s : Bx) (v : Bool) (w : World) (hv : boxB s = v) :
    Calls Tryz.prog 129 #[s.val] w fun e w' => e = .returned (.bool v) ∧ Below w.heap.size w w' := by
  rw [← hv]; exact boxOkS_any s.x s.y s.lo s.hi s.in_ s.out w
end Go.Proofs.YtfmdejilhbankaaGreat
