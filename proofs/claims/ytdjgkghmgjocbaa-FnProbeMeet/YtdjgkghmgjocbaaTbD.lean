/- What lies while a tube is drawn: the tube, its boxes, one box, the result, beside the reader. -/
import Derived.Test.YtdjgkghmgjocbaaRdW11
import Derived.Test.YtdjgkghmgjocbaaPbCutD
import Derived.Test.YtdjgkghmgjocbaaOwnMore
import Derived.Test.YtdjgkghmgjocbaaRows
namespace Go.Proofs.Ytdjgkghmgjocbaa
open Go.RowKit

theorem owns_grownB {w w' : World} {base e size n : Nat} {v : Value} {xs : List Value} {row : Option Nat} (h : w.ownsRow base e size v n xs) (hg : w.grownBy w' row) (hr : ∀ k, row = some k → k < base) : w'.ownsRow base e size v n xs :=
  ⟨h.1, h.2.imp id fun ⟨g, cap, cur, h1, h2, h3, h4⟩ => ⟨g, cap, cur, h1, h2, (hg.block g (lt_of_block h3) (fun e => by have := hr g e.symm; omega)).trans h3, h4⟩⟩
theorem owns_lowerB {w : World} {base base' e size n : Nat} {v : Value} {xs : List Value} (h : w.ownsRow base e size v n xs) (hb : base' ≤ base) : w.ownsRow base' e size v n xs :=
  ⟨h.1, h.2.imp id fun ⟨g, cap, cur, h1, h2, h3⟩ => ⟨g, cap, cur, h1, Nat.le_trans hb h2, h3⟩⟩
theorem owns_sliceB {w : World} {base e size n : Nat} {v : Value} {xs : List Value} (h : w.ownsRow base e size v n xs) : ∃ a c, v = .slice a n c := by
  rcases h.2 with ⟨rfl, rfl⟩ | ⟨g, cap, cur, rfl, _⟩
  · exact ⟨none, 0, rfl⟩
  · exact ⟨_, _, rfl⟩

theorem pbox_inf : (Try.prog.info? 59).map (fun i => (i.zero, i.size, i.bytes)) = some (some (.agg #[.int .i64 0, .int .i64 0, .int .i64 0, .int .i64 0, .int .i64 0, .int .i64 0]), 6, 48) := by kernel_rfl

structure TD (w W : World) (B : Nat) (R : Rdr) (p Y : Nat) (nm : ByteArray) (v : Value) (l : List Bx) (s : Bx) : Prop where
  rd : RdW w W B R p
  ge : w.heap.size + 1 < Y
  tb : W.heap[w.heap.size + 1]? = some (.cells #[.string nm, v] 49 (0, 0))
  rs : W.heap[w.heap.size]? = some (.cells #[.string ⟨#[]⟩, .slice none 0 0] 49 (0, 0))
  bx : W.heap[Y]? = some (.cells #[.int .i64 s.x, .int .i64 s.y, .int .i64 s.lo, .int .i64 s.hi, .int .i64 s.in_, .int .i64 s.out] 59 (0, 0))
  own : W.ownsRow (Y + 1) 59 6 v l.length (rowC l)
section
variable {w W W' : World} {B : Nat} {R : Rdr} {p Y : Nat} {nm : ByteArray} {v : Value} {l : List Bx} {s : Bx}
theorem TD.more {p' : Nat} (h : TD w W B R p Y nm v l s) (hr : RdAt W' B R p') (hg : W.grownBy W' (some B)) : TD w W' B R p' Y nm v l s := by
  have hB := h.rd.lt
  have hY := h.ge
  exact ⟨h.rd.more hr hg, h.ge, h.rd.keep h.tb (by omega) hg, h.rd.keep h.rs (by omega) hg, h.rd.keep h.bx (by omega) hg, owns_grownB h.own hg (fun k e => by cases e; omega)⟩
theorem TD.below (h : TD w W B R p Y nm v l s) (hb : Below W.heap.size W W') : TD w W' B R p Y nm v l s :=
  ⟨h.rd.below hb, h.ge, (hb.block _ (lt_of_block h.tb)).trans h.tb, (hb.block _ (lt_of_block h.rs)).trans h.rs, (hb.block _ (lt_of_block h.bx)).trans h.bx, owns_below h.own hb⟩
theorem TD.alloc (h : TD w W B R p Y nm v l s) (ob : Obj) : TD w (W.alloc ob) B R p Y nm v l s := h.below ((Below.refl _ _).alloc (Nat.le_refl _) ob)
theorem TD.setY (h : TD w W B R p Y nm v l s) (j : Nat) (u : Value) {s' : Bx}
    (he : #[Value.int .i64 s.x, .int .i64 s.y, .int .i64 s.lo, .int .i64 s.hi, .int .i64 s.in_, .int .i64 s.out].setIfInBounds j u = #[.int .i64 s'.x, .int .i64 s'.y, .int .i64 s'.lo, .int .i64 s'.hi, .int .i64 s'.in_, .int .i64 s'.out]) :
    TD w (W.setCell ⟨Y, j, none⟩ u) B R p Y nm v l s' := by
  have hY := h.ge
  refine ⟨h.rd.set (by omega) j u, h.ge, (heap_setCell_other _ ⟨Y, j, none⟩ _ u (by show w.heap.size + 1 ≠ Y; omega)).trans h.tb, (heap_setCell_other _ ⟨Y, j, none⟩ _ u (by show w.heap.size ≠ Y; omega)).trans h.rs, ?_, owns_set h.own (fun k hk => by have := owns_base h.own k hk; omega) j u⟩
  rw [heap_setCell_same W Y j _ _ u h.bx, he]
theorem TD.push (h : TD w W B R p Y nm v l s) {t : Bx} {w7 : World} {v7 : Value} (hg : W.grownBy w7 v.ownBlock) (ho : w7.ownsRow (Y + 1) 59 6 v7 (l.length + 1) (rowC l ++ t.cells)) :
    TD w (w7.setCell ⟨w.heap.size + 1, 1, none⟩ v7) B R p Y nm v7 (l ++ [t]) s := by
  have hB := h.rd.lt
  have hY := h.ge
  have hbase := owns_base h.own
  have ne : ∀ k, k < Y + 1 → some k ≠ v.ownBlock := fun k hk e => by have := hbase k e.symm; omega
  have t7 := (hg.block _ (lt_of_block h.tb) (ne _ (by omega))).trans h.tb
  refine ⟨(h.rd.grown hg (fun k e => by have := hbase k e; omega)).set (by omega) 1 v7, h.ge, blk2_set1 t7 v7, ?_, ?_, ?_⟩
  · rw [heap_setCell_other _ ⟨w.heap.size + 1, 1, none⟩ _ _ (by show w.heap.size ≠ w.heap.size + 1; omega)]
    exact (hg.block _ (lt_of_block h.rs) (ne _ (by omega))).trans h.rs
  · rw [heap_setCell_other _ ⟨w.heap.size + 1, 1, none⟩ _ _ (by show Y ≠ w.heap.size + 1; omega)]
    exact (hg.block _ (lt_of_block h.bx) (ne _ (by omega))).trans h.bx
  · rw [rowC_snoc, List.length_append]
    exact owns_set ho (fun k e => by have := owns_base ho k e; omega) _ _
theorem TD.tb7 (h : TD w W B R p Y nm v l s) {w7 : World} (hg : W.grownBy w7 v.ownBlock) : w7.heap[w.heap.size + 1]? = some (.cells #[.string nm, v] 49 (0, 0)) :=
  (hg.block _ (lt_of_block h.tb) (fun e => by have := owns_base h.own _ e.symm; have := h.ge; omega)).trans h.tb
end

/-- A tube is answered: in memory of the call's own; at most n picks. -/
def TubeDrawn (w : World) (B : Nat) (R : Rdr) (p n : Nat) (e : Ending) (w' : World) : Prop :=
  ∃ (nm : ByteArray) (v : Value) (l : List Bx) (p' : Nat), e = .returned (.agg #[.string nm, v]) ∧ w'.ownsRow w.heap.size 59 6 v l.length (rowC l) ∧ l.length ≤ 45 ∧ p' ≤ p + n ∧ RdW w w' B R p'
theorem TD.drawn {w W : World} {B : Nat} {R : Rdr} {p Y : Nat} {nm : ByteArray} {v : Value} {l : List Bx} {s : Bx} {p0 n : Nat} (h : TD w W B R p Y nm v l s) (hl : l.length ≤ 45) (hp : p ≤ p0 + n) :
    TubeDrawn w B R p0 n (.returned (.agg #[.string nm, v])) ((W.setCell ⟨w.heap.size, 0, none⟩ (.string nm)).setCell ⟨w.heap.size, 1, none⟩ v) := by
  have hY := h.ge
  refine ⟨nm, v, l, p, rfl, ?_, hl, hp, ?_⟩
  · have hh : ∀ k, v.ownBlock = some k → k ≠ w.heap.size := fun k e => by have := owns_base h.own k e; omega
    exact owns_set (owns_set (owns_lowerB h.own (by omega)) hh _ _) hh _ _
  · exact (h.rd.set (Nat.le_refl _) _ _).set (Nat.le_refl _) _ _
end Go.Proofs.Ytdjgkghmgjocbaa
