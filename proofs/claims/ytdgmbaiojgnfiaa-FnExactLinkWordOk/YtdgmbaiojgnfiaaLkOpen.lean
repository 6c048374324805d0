/- What an argument that can be read is made of: a word. -/
import Derived.Test.YtdgmbaiojgnfiaaOpen
import Derived.Test.YtdgmbaiojgnfiaaLkData
namespace Go.Proofs.Ytdgmbaiojgnfiaa
open Go.ChangeShapes Go.WideShapes Go.ChangeAt Go.RowKit

section
variable {H : Type} {enc : TypeId × Value → H} {w : World} {base : Nat} {spare : Nat → Bool} {held : Bool}
theorem list8 {α : Type} {l : List α} (h : l.length = 8) : ∃ a b c d e f g i, l = [a, b, c, d, e, f, g, i] := by
  match l, h with
  | [a, b, c, d, e, f, g, i], _ => exact ⟨a, b, c, d, e, f, g, i, rfl⟩
theorem cells_word : Try.prog.cellsOf 28 = 8 := by kernel_rfl
theorem cells_str : Try.prog.cellsOf 9 = 1 := by kernel_rfl

theorem open_word {fuel : Nat} {cs : List Value} {x : DataW H × List MemPlace} (h : DataW.trod enc Try.prog w base spare held fuel 28 cs = some x) :
    ∃ t : Wd, cs = [.int .i64 t.k, .string t.nm, .int .i64 t.n, .int .i64 t.p.q, .int .i64 t.p.s, .slice t.p.a t.p.l.length t.p.cap, .int .i64 t.p.fr, .int .i64 t.p.b] ∧ t.nm.size ≤ maxLen ∧ t.p.l.length ≤ maxLen ∧ PtAt w t.p := by
  obtain ⟨xs, n, _, _, hlen, hxl, hf⟩ := DataW.trod_struct Try.underlying28 h
  rw [cells_word] at hlen
  obtain ⟨c0, c1, c2, c3, c4, c5, c6, c7, rfl⟩ := list8 hlen
  obtain ⟨y0, h0⟩ := some_of_get (hf 0 _ rfl) hxl (by decide)
  obtain ⟨y1, h1⟩ := some_of_get (hf 1 _ rfl) hxl (by decide)
  obtain ⟨y2, h2⟩ := some_of_get (hf 2 _ rfl) hxl (by decide)
  obtain ⟨y3, h3⟩ := some_of_get (hf 3 _ rfl) hxl (by decide)
  obtain ⟨a0, e0, _⟩ := DataW.trod_int Try.underlying3 h0
  obtain ⟨nm, e1, _, hs1⟩ := DataW.trod_string Try.underlying9 h1
  obtain ⟨a2, e2, _⟩ := DataW.trod_int Try.underlying3 h2
  obtain ⟨q, s, fr, b, a, b0, o, cap, l, e3, hl, hs⟩ := open_path h3
  simp [cells_int, cells_str, cells_path] at e0 e1 e2 e3
  obtain ⟨e3, e4, e5, e6, e7⟩ := e3
  exact ⟨⟨a0, nm, a2, ⟨q, s, fr, b, a, b0, o, cap, l⟩⟩, by rw [e0, e1, e2, e3, e4, e5, e6, e7], hs1, hl, hs⟩

set_option maxRecDepth 20000 in
theorem open_wordArg {r : Reach} {b : Nat} {v : Value} {d : DataW H} {p : List MemPlace} (hv : Value.okWide Try.prog w r b 28 v) (h : DataW.Trod enc Try.prog w base spare held 28 v d p) :
    ∃ t : Wd, v = t.val ∧ t.nm.size ≤ maxLen ∧ t.p.l.length ≤ maxLen ∧ PtAt w t.p := by
  obtain ⟨cs, rfl, _⟩ := okWide_struct Try.underlying28 hv
  obtain ⟨fuel, hf⟩ := h
  obtain ⟨t, e, hn, hl, hs⟩ := open_word hf
  refine ⟨t, ?_, hn, hl, hs⟩
  simp [Value.cells] at e
  obtain ⟨cs⟩ := cs
  simp only at e
  subst e
  rfl
end
end Go.Proofs.Ytdgmbaiojgnfiaa
