/- The probe's reader in a world in which all else lies as it lay (as in Draw1, of l11Rd); blocks of six cells. -/
import Derived.Test.YtdjgkghmgjocbaaPick11
namespace Go.Proofs.Ytdjgkghmgjocbaa
open Go.RowKit

theorem RdAt.alloc {w : World} {B : Nat} {R : Rdr} {p : Nat} (h : RdAt w B R p) (ob : Obj) : RdAt (w.alloc ob) B R p :=
  h.below (k := w.heap.size) ((Below.refl _ _).alloc (Nat.le_refl _) ob) (lt_of_block h.blk)

/-- The reader, p bytes on, in a world in which all that lay in w, but the reader, lies as it lay. -/
structure RdW (w w' : World) (B : Nat) (R : Rdr) (p : Nat) : Prop where
  lt : B < w.heap.size
  rd : RdAt w' B R p
  gr : w.grownBy w' (some B)
section
variable {w w' w'' : World} {B : Nat} {R : Rdr} {p : Nat}
theorem RdW.refl (h : RdAt w B R p) : RdW w w B R p := ⟨lt_of_block h.blk, h, grown_refl _ _⟩
theorem RdW.size (h : RdW w w' B R p) : w.heap.size ≤ w'.heap.size := h.gr.size
theorem RdW.set (h : RdW w w' B R p) {k : Nat} (hk : w.heap.size ≤ k) (j : Nat) (v : Value) : RdW w (w'.setCell ⟨k, j, none⟩ v) B R p := by
  have := h.lt
  refine ⟨h.lt, h.rd.grown (grown_set w' ⟨k, j, none⟩ v) (by simp; omega) (fun i e => by cases e; show B ≤ k; omega), ⟨h.gr.os, h.gr.tape, h.gr.output, by simpa [World.setCell] using h.gr.size, fun i hi hne => ?_⟩⟩
  exact (heap_setCell_other w' ⟨k, j, none⟩ i v (by show i ≠ k; omega)).trans (h.gr.block i hi hne)
theorem RdW.grown (h : RdW w w' B R p) {row : Option Nat} (hg : w'.grownBy w'' row) (hr : ∀ k, row = some k → w.heap.size ≤ k) : RdW w w'' B R p := by
  have hl := h.lt
  have hs := h.gr.size
  refine ⟨h.lt, h.rd.grown hg (fun e => by have := hr _ e; omega) (fun k e => by have := hr _ e; omega), ⟨hg.os.trans h.gr.os, hg.tape.trans h.gr.tape, hg.output.trans h.gr.output, Nat.le_trans hs hg.size, fun i hi hne => ?_⟩⟩
  exact (hg.block i (by omega) (fun e => by have := hr i e.symm; omega)).trans (h.gr.block i hi hne)
theorem RdW.below (h : RdW w w' B R p) (hb : Below w'.heap.size w' w'') : RdW w w'' B R p :=
  h.grown (row := none) ⟨hb.os, hb.tape, hb.output, hb.size, fun k hk _ => hb.block k hk⟩ (fun k e => by cases e)
theorem RdW.alloc (h : RdW w w' B R p) (ob : Obj) : RdW w (w'.alloc ob) B R p := h.below ((Below.refl _ _).alloc (Nat.le_refl _) ob)
theorem RdW.drew (h : RdW w w' B R p) : RdW w w'.drew B R p := h.below (Below.refl _ _).drew
theorem RdW.more (h : RdW w w' B R p) {p' : Nat} (hr : RdAt w'' B R p') (hg : w'.grownBy w'' (some B)) : RdW w w'' B R p' := ⟨h.lt, hr, grown_over2 h.gr hg⟩
theorem RdW.keep (_h : RdW w w' B R p) {w0 : World} {b : Nat} {ob : Obj} (hb : w'.heap[b]? = some ob) (hne : b ≠ B) (hg : w'.grownBy w0 (some B)) : w0.heap[b]? = some ob :=
  (hg.block b (lt_of_block hb) (fun e => hne (by cases e; rfl))).trans hb
end

/-- A block of a box. -/
theorem blk6 {w : World} {B : Nat} {a b c d e f : Value} {t : TypeId} (h : w.heap[B]? = some (.cells #[a, b, c, d, e, f] t (0, 0))) :
    w.cell? ⟨B, 0, none⟩ = some a ∧ w.cell? ⟨B, 1, none⟩ = some b ∧ w.cell? ⟨B, 2, none⟩ = some c ∧ w.cell? ⟨B, 3, none⟩ = some d ∧ w.cell? ⟨B, 4, none⟩ = some e ∧ w.cell? ⟨B, 5, none⟩ = some f ∧ ∀ j, w.frozen? ⟨B, j, none⟩ = false :=
  ⟨by rw [cell_of_row w B 0 _ _ _ h]; rfl, by rw [cell_of_row w B 1 _ _ _ h]; rfl, by rw [cell_of_row w B 2 _ _ _ h]; rfl, by rw [cell_of_row w B 3 _ _ _ h]; rfl, by rw [cell_of_row w B 4 _ _ _ h]; rfl, by rw [cell_of_row w B 5 _ _ _ h]; rfl, fun j => frozen_of_row w B j _ _ h⟩
theorem blk6_set3 {w : World} {B : Nat} {a b c d e f : Value} {t : TypeId} (h : w.heap[B]? = some (.cells #[a, b, c, d, e, f] t (0, 0))) (v : Value) : (w.setCell ⟨B, 3, none⟩ v).heap[B]? = some (.cells #[a, b, c, v, e, f] t (0, 0)) := by rw [heap_setCell_same w B 3 _ _ v h]; rfl
theorem blk6_set5 {w : World} {B : Nat} {a b c d e f : Value} {t : TypeId} (h : w.heap[B]? = some (.cells #[a, b, c, d, e, f] t (0, 0))) (v : Value) : (w.setCell ⟨B, 5, none⟩ v).heap[B]? = some (.cells #[a, b, c, d, e, v] t (0, 0)) := by rw [heap_setCell_same w B 5 _ _ v h]; rfl
end Go.Proofs.Ytdjgkghmgjocbaa
