/- What lies while a tube is spoilt: its copy, the boxes, the result, beside the reader. -/
import Derived.Test.YtdjgkghmgjocbaaTbD
namespace Go.Proofs.Ytdjgkghmgjocbaa
open Go.RowKit

theorem rowC_consB (t : Bx) (l : List Bx) : rowC (t :: l) = t.cells ++ rowC l := by simp [rowC]
theorem rowC_putB : ∀ (l : List Bx) (i j : Nat) (t t' : Bx) (u : Value), l[i]? = some t → j < 6 → t'.cells = t.cells.set j u → (rowC l).set (i * 6 + j) u = rowC (l.set i t')
  | [], i, _, _, _, _, h, _, _ => by simp at h
  | y :: ys, 0, j, t, t', u, h, hj, he => by
    simp at h
    subst h
    rw [List.set_cons_zero, rowC_consB, rowC_consB, he, Nat.zero_mul, Nat.zero_add, List.set_append_left _ _ (by simp; omega)]
  | y :: ys, i + 1, j, t, t', u, h, hj, he => by
    have ih := rowC_putB ys i j t t' u (by simpa using h) hj he
    rw [List.set_cons_succ, rowC_consB, rowC_consB, ← ih, List.set_append_right _ _ (by simp; omega)]
    congr 2
    simp
    omega

theorem owns_putB {w : World} {base e size n g cap : Nat} {xs : List Value} (h : w.ownsRow base e size (.slice (some ⟨g, 0, none⟩) n cap) n xs) {j : Nat} (_hj : j < n * size) (u : Value) :
    (w.setCell ⟨g, j, none⟩ u).ownsRow base e size (.slice (some ⟨g, 0, none⟩) n cap) n (xs.set j u) := by
  refine ⟨by rw [List.length_set]; exact h.1, ?_⟩
  rcases h.2 with ⟨h0, _⟩ | ⟨g', cap', cur, h1, h2, h3, h4, h5, h6, h7⟩
  · cases h0
  · simp only [Value.slice.injEq, Option.some.injEq, Addr.mk.injEq, and_true, true_and] at h1
    obtain ⟨rfl, rfl⟩ := h1
    refine Or.inr ⟨g, cap, _, rfl, h2, heap_setCell_same w g j cur e u h3, h4, h5, by rw [Array.size_setIfInBounds]; exact h6, ?_⟩
    rw [← h7, Array.toList_setIfInBounds, List.take_set]

structure SD (w W : World) (B : Nat) (R : Rdr) (p X : Nat) (nm : ByteArray) (v : Value) (l : List Bx) : Prop where
  rd : RdW w W B R p
  ge : w.heap.size + 1 < X
  tb : W.heap[X]? = some (.cells #[.string nm, v] 49 (0, 0))
  rs : W.heap[w.heap.size + 1]? = some (.cells #[.string ⟨#[]⟩, .slice none 0 0] 49 (0, 0))
  own : W.ownsRow (w.heap.size + 1 + 1) 59 6 v l.length (rowC l)
section
variable {w W W' : World} {B : Nat} {R : Rdr} {p X : Nat} {nm : ByteArray} {v : Value} {l : List Bx}
theorem row_not_tube {base n X : Nat} {v : Value} {xs : List Value} {cs : Array Value} (ho : W.ownsRow base 59 6 v n xs) (hp : W.heap[X]? = some (.cells cs 49 (0, 0))) : ∀ k, v.ownBlock = some k → k ≠ X := by
  intro k hk e
  subst e
  rcases ho.2 with ⟨rfl, _⟩ | ⟨g, cap, cur, rfl, _, hh, _⟩
  · simp [Value.ownBlock] at hk
  · simp [Value.ownBlock] at hk
    subst hk
    rw [hp] at hh
    have := congrArg (fun o => match o with | some (Obj.cells _ t _) => t | _ => 0) hh
    simp at this
theorem SD.more {p' : Nat} (h : SD w W B R p X nm v l) (hr : RdAt W' B R p') (hg : W.grownBy W' (some B)) : SD w W' B R p' X nm v l := by
  have hB := h.rd.lt
  have hY := h.ge
  exact ⟨h.rd.more hr hg, h.ge, h.rd.keep h.tb (by omega) hg, h.rd.keep h.rs (by omega) hg, owns_grownB h.own hg (fun k e => by cases e; omega)⟩
theorem SD.below (h : SD w W B R p X nm v l) (hb : Below W.heap.size W W') : SD w W' B R p X nm v l :=
  ⟨h.rd.below hb, h.ge, (hb.block _ (lt_of_block h.tb)).trans h.tb, (hb.block _ (lt_of_block h.rs)).trans h.rs, owns_below h.own hb⟩
theorem SD.alloc (h : SD w W B R p X nm v l) (ob : Obj) : SD w (W.alloc ob) B R p X nm v l := h.below ((Below.refl _ _).alloc (Nat.le_refl _) ob)
theorem SD.setNm (h : SD w W B R p X nm v l) (nm' : ByteArray) : SD w (W.setCell ⟨X, 0, none⟩ (.string nm')) B R p X nm' v l := by
  have hY := h.ge
  exact ⟨h.rd.set (by omega) 0 _, h.ge, blk2_set0 h.tb _, (heap_setCell_other _ ⟨X, 0, none⟩ _ _ (by show w.heap.size + 1 ≠ X; omega)).trans h.rs, owns_set h.own (row_not_tube h.own h.tb) 0 _⟩
theorem SD.tb7 (h : SD w W B R p X nm v l) {w7 : World} (hg : W.grownBy w7 v.ownBlock) : w7.heap[X]? = some (.cells #[.string nm, v] 49 (0, 0)) :=
  (hg.block _ (lt_of_block h.tb) (fun e => row_not_tube h.own h.tb X e.symm rfl)).trans h.tb
theorem SD.push (h : SD w W B R p X nm v l) {t : Bx} {w7 : World} {v7 : Value} (hg : W.grownBy w7 v.ownBlock) (ho : w7.ownsRow (w.heap.size + 1 + 1) 59 6 v7 (l.length + 1) (rowC l ++ t.cells)) :
    SD w (w7.setCell ⟨X, 1, none⟩ v7) B R p X nm v7 (l ++ [t]) := by
  have hB := h.rd.lt
  have hY := h.ge
  have hbase := owns_base h.own
  have ne : ∀ k, k < w.heap.size + 1 + 1 → some k ≠ v.ownBlock := fun k hk e => by have := hbase k e.symm; omega
  refine ⟨(h.rd.grown hg (fun k e => by have := hbase k e; omega)).set (by omega) 1 v7, h.ge, blk2_set1 (h.tb7 hg) v7, ?_, ?_⟩
  · rw [heap_setCell_other _ ⟨X, 1, none⟩ _ _ (by show w.heap.size + 1 ≠ X; omega)]
    exact (hg.block _ (lt_of_block h.rs) (ne _ (by omega))).trans h.rs
  · rw [rowC_snoc, List.length_append]
    exact owns_set ho (row_not_tube ho (h.tb7 hg)) _ _
theorem SD.put {g cap : Nat} (h : SD w W B R p X nm (.slice (some ⟨g, 0, none⟩) l.length cap) l) {i j : Nat} {t t' : Bx} {u : Value} (ht : l[i]? = some t) (hj : j < 6) (he : t'.cells = t.cells.set j u) :
    SD w (W.setCell ⟨g, i * 6 + j, none⟩ u) B R p X nm (.slice (some ⟨g, 0, none⟩) (l.set i t').length cap) (l.set i t') := by
  rw [List.length_set]
  have hil : i < l.length := (List.getElem?_eq_some_iff.1 ht).1
  have hgX : g ≠ X := row_not_tube h.own h.tb g rfl
  have hgb := owns_base h.own g rfl
  refine ⟨h.rd.set (by omega) _ u, h.ge, (heap_setCell_other _ ⟨g, i * 6 + j, none⟩ _ u (by show X ≠ g; omega)).trans h.tb, (heap_setCell_other _ ⟨g, i * 6 + j, none⟩ _ u (by show w.heap.size + 1 ≠ g; omega)).trans h.rs, ?_⟩
  rw [List.length_set, ← rowC_putB l i j t t' u ht hj he]
  exact owns_putB h.own (by have := rowC_length l; omega) u
theorem SD.drawn {p0 n : Nat} (h : SD w W B R p X nm v l) (hl : l.length ≤ 45) (hp : p ≤ p0 + n) :
    TubeDrawn w B R p0 n (.returned (.agg #[.string nm, v])) ((W.setCell ⟨w.heap.size + 1, 0, none⟩ (.string nm)).setCell ⟨w.heap.size + 1, 1, none⟩ v) := by
  refine ⟨nm, v, l, p, rfl, ?_, hl, hp, ?_⟩
  · have hh : ∀ k, v.ownBlock = some k → k ≠ w.heap.size + 1 := row_not_tube h.own h.rs
    exact owns_set (owns_set (owns_lowerB h.own (by omega)) hh _ _) hh _ _
  · exact (h.rd.set (by omega) _ _).set (by omega) _ _
end
end Go.Proofs.Ytdjgkghmgjocbaa
