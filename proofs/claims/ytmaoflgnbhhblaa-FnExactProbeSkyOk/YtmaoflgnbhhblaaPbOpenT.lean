/- What an argument that can be read is made of: tubes, lists of tubes. -/
import Derived.Test.YtmaoflgnbhhblaaPbOpen
namespace Go.Proofs.Ytmaoflgnbhhblaa
open Go.ChangeShapes Go.WideShapes Go.ChangeAt Go.RowKit

section
variable {H : Type} {enc : TypeId × Value → H} {w : World} {base : Nat} {spare : Nat → Bool} {held : Bool}
theorem list2 {α : Type} {l : List α} (h : l.length = 2) : ∃ a b, l = [a, b] := by
  match l, h with
  | [a, b], _ => exact ⟨a, b, rfl⟩
theorem cells_tube : Try.prog.cellsOf 32 = 2 := by kernel_rfl
theorem cells_str : Try.prog.cellsOf 9 = 1 := by kernel_rfl
theorem cells_boxes : Try.prog.cellsOf 30 = 1 := by kernel_rfl

theorem open_tube {fuel : Nat} {cs : List Value} {x : DataW H × List MemPlace} (h : DataW.trod enc Try.prog w base spare held fuel 32 cs = some x) :
    ∃ t : Tb, cs = [.string t.nm, .slice t.a t.l.length t.cap] ∧ t.nm.size ≤ maxLen ∧ t.l.length ≤ maxLen ∧ TubeAt w t := by
  obtain ⟨xs, n, _, _, hlen, hxl, hf⟩ := DataW.trod_struct Try.underlying32 h
  rw [cells_tube] at hlen
  obtain ⟨c0, c1, rfl⟩ := list2 hlen
  obtain ⟨y0, h0⟩ := bx_some (hf 0 _ rfl) hxl (by decide)
  obtain ⟨y1, h1⟩ := bx_some (hf 1 _ rfl) hxl (by decide)
  obtain ⟨s, e0, _, hs0⟩ := DataW.trod_string Try.underlying9 h0
  obtain ⟨a, b, o, cap, l, e1, hl, hs⟩ := open_boxes h1
  simp [cells_str, cells_boxes] at e0 e1
  exact ⟨⟨s, a, b, o, cap, l⟩, by rw [e0, e1], hs0, hl, ⟨hs⟩⟩

set_option maxRecDepth 20000 in
theorem open_tubeArg {r : Reach} {b : Nat} {v : Value} {d : DataW H} {p : List MemPlace} (hv : Value.okWide Try.prog w r b 32 v) (h : DataW.Trod enc Try.prog w base spare held 32 v d p) :
    ∃ t : Tb, v = t.val ∧ t.nm.size ≤ maxLen ∧ t.l.length ≤ maxLen ∧ TubeAt w t := by
  obtain ⟨cs, rfl, _⟩ := okWide_struct Try.underlying32 hv
  obtain ⟨fuel, hf⟩ := h
  obtain ⟨t, e, hn, hl, hs⟩ := open_tube hf
  refine ⟨t, ?_, hn, hl, hs⟩
  simp [Value.cells] at e
  obtain ⟨cs⟩ := cs
  simp only at e
  subst e
  rfl

end
end Go.Proofs.Ytmaoflgnbhhblaa
