/- Boxes while a law is walked: a block that is known whole. Nothing of the program's text is named here. -/
import Derived.Test.YtfmdejilhbankaaGreatLkOwn
namespace Go.Proofs.YtfmdejilhbankaaGreat
open Go.RowKit

/-- The block B holds these cells. -/
structure Cbx (W : World) (B : Nat) (vs : Array Value) : Prop where
  it : ∃ T, W.heap[B]? = some (.cells vs T (0, 0))
section
variable {W W' : World} {B : Nat} {vs : Array Value}
theorem Cbx.lt (h : Cbx W B vs) : B < W.heap.size := by
  obtain ⟨T, h⟩ := h.it
  exact lt_of_block h
theorem Cbx.keep (h : Cbx W B vs) (hb : Below W.heap.size W W') : Cbx W' B vs := by
  have hl := h.lt
  obtain ⟨T, h⟩ := h.it
  exact ⟨T, (hb.block _ hl).trans h⟩
theorem Cbx.spared {S : List Nat} (h : Cbx W B vs) (hs : Spared S W W') (hn : B ∉ S) : Cbx W' B vs := by
  have hl := h.lt
  obtain ⟨T, h⟩ := h.it
  exact ⟨T, (hs.block _ hl hn).trans h⟩
theorem Cbx.new (w : World) (vs : Array Value) (T : TypeId) : Cbx (w.alloc (.cells vs T)) w.heap.size vs := ⟨T, heap_alloc_new w _⟩
theorem Cbx.c (h : Cbx W B vs) (j : Nat) : W.cell? ⟨B, j, none⟩ = vs[j]? := by
  obtain ⟨T, h⟩ := h.it
  simp [World.cell?, h]
theorem Cbx.f (h : Cbx W B vs) (j : Nat) : W.frozen? ⟨B, j, none⟩ = false := by
  obtain ⟨T, h⟩ := h.it
  simp [World.frozen?, h]
end
theorem nin_lt {S : List Nat} {b x : Nat} (h : ∀ k ∈ S, b ≤ k) (hx : x < b) : x ∉ S := fun hm => by have := h x hm; omega
theorem nin_ge {S : List Nat} {b x : Nat} (h : ∀ k ∈ S, k < b) (hx : b ≤ x) : x ∉ S := fun hm => by have := h x hm; omega
theorem nin_range {g hi k : Nat} (h : k < g ∨ hi ≤ k) : k ∉ List.range' g (hi - g) := by rw [List.mem_range'_1]; omega
theorem Spared.keepBelow {S : List Nat} {B : Nat} {a w w' : World} (h : Spared S w w') (h0 : Below B a w) (hB : B ≤ w.heap.size) (hS : ∀ k ∈ S, B ≤ k) : Below B a w' := h.toBelow h0 hB hS
theorem range_ge {g n B : Nat} (h : B ≤ g) : ∀ k ∈ List.range' g n, B ≤ k := fun k hk => by rw [List.mem_range'_1] at hk; omega
/-- A path's row, told as where its steps lie. -/
theorem row_at {W : World} {base : Nat} {q s fr b : Int} {a : Option Addr} {c : Nat} {l : List Stp} (h : W.ownsRow base 102 7 (.slice a l.length c) l.length (stepCells l)) : PtAt W ⟨q, s, fr, b, a, (Value.slice a l.length c).ownBlock.getD 0, 0, c, l⟩ :=
  PtOwn.at_ (p := ⟨q, s, fr, b, a, 0, 0, c, l⟩) h
end Go.Proofs.YtfmdejilhbankaaGreat
