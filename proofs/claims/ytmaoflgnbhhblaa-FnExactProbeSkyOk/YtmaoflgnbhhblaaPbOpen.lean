/- What an argument that can be read is made of: boxes, lists of boxes. -/
import Derived.Test.YtmaoflgnbhhblaaPbTube0
import Derived.Test.YtmaoflgnbhhblaaRows
import Derived.Deep.Slices
import Derived.ProofKit
namespace Go.Proofs.Ytmaoflgnbhhblaa
open Go.ChangeShapes Go.WideShapes Go.ChangeAt Go.RowKit

section
variable {H : Type} {enc : TypeId × Value → H} {w : World} {base : Nat} {spare : Nat → Bool} {held : Bool}

theorem bx_some {α : Type} {r : Option α} {xs : List α} {n i : Nat} (h : r = xs[i]?) (hl : xs.length = n) (hi : i < n) : ∃ y, r = some y :=
  ⟨xs[i]'(by omega), by rw [h]; exact List.getElem?_eq_getElem (by omega)⟩
theorem list6 {α : Type} {l : List α} (h : l.length = 6) : ∃ a b c d e f, l = [a, b, c, d, e, f] := by
  match l, h with
  | [a, b, c, d, e, f], _ => exact ⟨a, b, c, d, e, f, rfl⟩

theorem bx_cells_int : Try.prog.cellsOf 3 = 1 := by kernel_rfl
theorem cells_box : Try.prog.cellsOf 52 = 6 := by kernel_rfl

theorem open_box {fuel : Nat} {cs : List Value} {x : DataW H × List MemPlace} (h : DataW.trod enc Try.prog w base spare held fuel 52 cs = some x) : ∃ s : Bx, cs = s.cells := by
  obtain ⟨xs, n, _, _, hlen, hxl, hf⟩ := DataW.trod_struct Try.underlying52 h
  rw [cells_box] at hlen
  obtain ⟨c0, c1, c2, c3, c4, c5, rfl⟩ := list6 hlen
  obtain ⟨y0, h0⟩ := bx_some (hf 0 _ rfl) hxl (by decide)
  obtain ⟨y1, h1⟩ := bx_some (hf 1 _ rfl) hxl (by decide)
  obtain ⟨y2, h2⟩ := bx_some (hf 2 _ rfl) hxl (by decide)
  obtain ⟨y3, h3⟩ := bx_some (hf 3 _ rfl) hxl (by decide)
  obtain ⟨y4, h4⟩ := bx_some (hf 4 _ rfl) hxl (by decide)
  obtain ⟨y5, h5⟩ := bx_some (hf 5 _ rfl) hxl (by decide)
  obtain ⟨a0, e0, _⟩ := DataW.trod_int Try.underlying3 h0
  obtain ⟨a1, e1, _⟩ := DataW.trod_int Try.underlying3 h1
  obtain ⟨a2, e2, _⟩ := DataW.trod_int Try.underlying3 h2
  obtain ⟨a3, e3, _⟩ := DataW.trod_int Try.underlying3 h3
  obtain ⟨a4, e4, _⟩ := DataW.trod_int Try.underlying3 h4
  obtain ⟨a5, e5, _⟩ := DataW.trod_int Try.underlying3 h5
  simp [bx_cells_int] at e0 e1 e2 e3 e4 e5
  exact ⟨⟨a0, a1, a2, a3, a4, a5⟩, by rw [e0, e1, e2, e3, e4, e5]⟩

theorem open_boxes {fuel : Nat} {cs : List Value} {x : DataW H × List MemPlace} (h : DataW.trod enc Try.prog w base spare held fuel 30 cs = some x) :
    ∃ (a : Option Addr) (b o cap : Nat) (l : List Bx), cs = [.slice a l.length cap] ∧ l.length ≤ maxLen ∧ BoxesAt w a b o l := by
  rcases Go.Deep.open_slice Try.underlying30 h with ⟨rfl, _⟩ | ⟨a, len, cap, m, n, D, Pl, rfl, _, hl, hm, hmm, _, hx⟩
  · exact ⟨none, 0, 0, 0, [], rfl, by simp, ⟨fun h => absurd rfl h, fun h => absurd rfl h, fun i s hi => by simp at hi⟩⟩
  · have hml : len ≤ m := by rw [hmm]; split <;> omega
    rw [cells_box] at hx
    have h1 : ∀ i, i < len → ∃ s : Bx, w.cells? base (a.add (i * 6)) 6 = some s.cells := fun i hi => by
      obtain ⟨cs', hc, ht⟩ := hx i (by omega)
      obtain ⟨s, rfl⟩ := open_box ht
      exact ⟨s, hc⟩
    have : Inhabited Bx := ⟨.zero⟩
    obtain ⟨f, hf⟩ := Go.Deep.choose_lt h1
    obtain ⟨b, o, sp⟩ := a
    rcases Nat.eq_zero_or_pos len with e | h0
    · subst e
      exact ⟨some ⟨b, o, sp⟩, b, o, cap, [], rfl, by simp, ⟨fun h => absurd rfl h, fun h => absurd rfl h, fun i s hi => by simp at hi⟩⟩
    have hsp : sp = none := by
      obtain ⟨_, _, hget⟩ := World.cells?_some (hf 0 h0)
      have h2 := hget 0 (by omega)
      rw [Go.Deep.add_add] at h2
      exact World.cell?_spot (a := (⟨b, o, sp⟩ : Addr)) (v := .int .i64 (f 0).x) (by simpa [Addr.add] using h2)
    subst hsp
    have hcell : ∀ i, i < len → ∀ j v, (f i).cells[j]? = some v → w.cell? ⟨b, o + i * 6 + j, none⟩ = some v := fun i hi j v hv => by
      obtain ⟨_, hln, hget⟩ := World.cells?_some (hf i hi)
      have hj : j < 6 := by rw [← hln]; exact (List.getElem?_eq_some_iff.1 hv).1
      have h2 := hget j hj
      rw [hv, Go.Deep.add_add, Addr.add_mid] at h2
      rw [Nat.add_assoc]
      exact h2
    refine ⟨some ⟨b, o, none⟩, b, o, cap, (List.range len).map f, by simp, by simp; omega, ⟨fun _ => rfl, fun _ => World.block_lt_of_cell? w _ (hcell 0 h0 0 _ rfl), fun i s hi => ?_⟩⟩
    simp only [List.getElem?_map, Option.map_eq_some_iff] at hi
    obtain ⟨k, hk, rfl⟩ := hi
    obtain ⟨hil, rfl⟩ : i < len ∧ i = k := by
      rw [List.getElem?_eq_some_iff] at hk
      obtain ⟨h1, h2⟩ := hk
      simp at h1 h2
      exact ⟨h1, h2⟩
    exact fun j v hv => hcell i hil j v hv

set_option maxRecDepth 100000 in
theorem open_boxesArg {r : Reach} {b : Nat} {v : Value} {d : DataW H} {p : List MemPlace} (hv : Value.okWide Try.prog w r b 30 v) (h : DataW.Trod enc Try.prog w base spare held 30 v d p) :
    ∃ (a : Option Addr) (b0 o cap : Nat) (l : List Bx), v = .slice a l.length cap ∧ l.length ≤ maxLen ∧ BoxesAt w a b0 o l := by
  obtain ⟨a0, len, cap, rfl⟩ := okWide_slice Try.underlying30 hv
  obtain ⟨fuel, hf⟩ := h
  obtain ⟨a, b, o, cap', l, e, hl, hs⟩ := open_boxes hf
  simp [Value.cells] at e
  obtain ⟨rfl, rfl, rfl⟩ := e
  exact ⟨a0, b, o, cap, l, rfl, hl, hs⟩

set_option maxRecDepth 20000 in
theorem open_boxArg {r : Reach} {b : Nat} {v : Value} {d : DataW H} {p : List MemPlace} (hv : Value.okWide Try.prog w r b 52 v) (h : DataW.Trod enc Try.prog w base spare held 52 v d p) : ∃ s : Bx, v = s.val := by
  obtain ⟨cs, rfl, _⟩ := okWide_struct Try.underlying52 hv
  obtain ⟨fuel, hf⟩ := h
  obtain ⟨s, e⟩ := open_box hf
  refine ⟨s, ?_⟩
  simp [Value.cells] at e
  obtain ⟨cs⟩ := cs
  simp only at e
  subst e
  rfl
end
end Go.Proofs.Ytmaoflgnbhhblaa
