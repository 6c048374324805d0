/- Joined texts: LkOpenB, LkOpen. -/
import Derived.Test.YtfcobpaaeijkoaaJ02
import Derived.Test.YtfcobpaaeijkoaaLkBookB
import Derived.Test.YtfcobpaaeijkoaaLkWd
namespace Go.Proofs.Ytfcobpaaeijkoaa
open Go.ChangeShapes Go.WideShapes Go.ChangeAt Go.RowKit

section
variable {H : Type} {enc : TypeId × Value → H} {w : World} {base : Nat} {spare : Nat → Bool} {held : Bool}
theorem list13 {α : Type} {l : List α} (h : l.length = 13) : ∃ a b c d e f g i j k m n o, l = [a, b, c, d, e, f, g, i, j, k, m, n, o] := by
  match l, h with
  | [a, b, c, d, e, f, g, i, j, k, m, n, o], _ => exact ⟨a, b, c, d, e, f, g, i, j, k, m, n, o, rfl⟩
theorem cells_held : Try.prog.cellsOf 81 = 13 := by kernel_rfl
theorem cells_helds : Try.prog.cellsOf 22 = 1 := by kernel_rfl
theorem cells_book : Try.prog.cellsOf 24 = 2 := by kernel_rfl
theorem cells_strB : Try.prog.cellsOf 9 = 1 := by kernel_rfl

theorem open_held {fuel : Nat} {cs : List Value} {x : DataW H × List MemPlace} (h : DataW.trod enc Try.prog w base spare held fuel 81 cs = some x) :
    ∃ t : Hd, cs = t.cl ∧ t.nm.size ≤ maxLen ∧ t.p.l.length ≤ maxLen ∧ t.x.l.length ≤ maxLen ∧ HdAt w t := by
  obtain ⟨xs, n, _, _, hlen, hxl, hf⟩ := DataW.trod_struct Try.underlying81 h
  rw [cells_held] at hlen
  obtain ⟨c0, c1, c2, c3, c4, c5, c6, c7, c8, c9, c10, c11, c12, rfl⟩ := list13 hlen
  obtain ⟨y0, h0⟩ := some_of_get (hf 0 _ rfl) hxl (by decide)
  obtain ⟨y1, h1⟩ := some_of_get (hf 1 _ rfl) hxl (by decide)
  obtain ⟨y2, h2⟩ := some_of_get (hf 2 _ rfl) hxl (by decide)
  obtain ⟨y3, h3⟩ := some_of_get (hf 3 _ rfl) hxl (by decide)
  obtain ⟨y4, h4⟩ := some_of_get (hf 4 _ rfl) hxl (by decide)
  obtain ⟨nm, e0, _, hs0⟩ := DataW.trod_string Try.underlying9 h0
  obtain ⟨a1, e1, _⟩ := DataW.trod_int Try.underlying3 h1
  obtain ⟨q, s, fr, b, a, b0, o, cap, l, e2, hl, hs⟩ := open_path h2
  obtain ⟨a3, e3, _⟩ := DataW.trod_int Try.underlying3 h3
  obtain ⟨q', s', fr', b', a', b0', o', cap', l', e4, hl', hs'⟩ := open_path h4
  simp [cells_int, cells_strB, cells_path] at e0 e1 e2 e3 e4
  obtain ⟨e2, e22, e23, e24, e25⟩ := e2
  obtain ⟨e4, e42, e43, e44, e45⟩ := e4
  exact ⟨⟨nm, a1, ⟨q, s, fr, b, a, b0, o, cap, l⟩, a3, ⟨q', s', fr', b', a', b0', o', cap', l'⟩⟩, by rw [e0, e1, e2, e22, e23, e24, e25, e3, e4, e42, e43, e44, e45], hs0, hl, hl', ⟨hs, hs'⟩⟩

theorem open_helds {fuel : Nat} {cs : List Value} {x : DataW H × List MemPlace} (h : DataW.trod enc Try.prog w base spare held fuel 22 cs = some x) :
    ∃ (a : Option Addr) (b o cap : Nat) (l : List Hd), cs = [.slice a l.length cap] ∧ l.length ≤ maxLen ∧ HdsAt w a b o l ∧ ∀ t ∈ l, t.nm.size ≤ maxLen ∧ t.p.l.length ≤ maxLen ∧ t.x.l.length ≤ maxLen := by
  rcases Go.Deep.open_slice Try.underlying22 h with ⟨rfl, _⟩ | ⟨a, len, cap, m, n, D, Pl, rfl, _, hl, hm, hmm, _, hx⟩
  · exact ⟨none, 0, 0, 0, [], rfl, by simp, ⟨fun h => absurd rfl h, fun h => absurd rfl h, fun i s hi => by simp at hi, fun t ht => by simp at ht⟩, fun t ht => by simp at ht⟩
  · have hml : len ≤ m := by rw [hmm]; split <;> omega
    rw [cells_held] at hx
    have h1 : ∀ i, i < len → ∃ s : Hd, w.cells? base (a.add (i * 13)) 13 = some s.cl ∧ (s.nm.size ≤ maxLen ∧ s.p.l.length ≤ maxLen ∧ s.x.l.length ≤ maxLen) ∧ HdAt w s := fun i hi => by
      obtain ⟨cs', hc, ht⟩ := hx i (by omega)
      obtain ⟨s, rfl, h1, h2, h3, h4⟩ := open_held ht
      exact ⟨s, hc, ⟨h1, h2, h3⟩, h4⟩
    have : Inhabited Hd := ⟨⟨⟨#[]⟩, 0, ⟨0, 0, 0, 0, none, 0, 0, 0, []⟩, 0, ⟨0, 0, 0, 0, none, 0, 0, 0, []⟩⟩⟩
    obtain ⟨f, hf⟩ := Go.Deep.choose_lt h1
    obtain ⟨b, o, sp⟩ := a
    rcases Nat.eq_zero_or_pos len with e | h0
    · subst e
      exact ⟨some ⟨b, o, sp⟩, b, o, cap, [], rfl, by simp, ⟨fun h => absurd rfl h, fun h => absurd rfl h, fun i s hi => by simp at hi, fun t ht => by simp at ht⟩, fun t ht => by simp at ht⟩
    have hsp : sp = none := by
      obtain ⟨_, _, hget⟩ := World.cells?_some (hf 0 h0).1
      have h2 := hget 0 (by omega)
      rw [Go.Deep.add_add] at h2
      exact World.cell?_spot (a := (⟨b, o, sp⟩ : Addr)) (v := .string (f 0).nm) (by simpa [Addr.add] using h2)
    subst hsp
    have hcell : ∀ i, i < len → ∀ j v, (f i).cl[j]? = some v → w.cell? ⟨b, o + i * 13 + j, none⟩ = some v := fun i hi j v hv => by
      obtain ⟨_, hln, hget⟩ := World.cells?_some (hf i hi).1
      have hj : j < 13 := by rw [← hln]; exact (List.getElem?_eq_some_iff.1 hv).1
      have h2 := hget j hj
      rw [hv, Go.Deep.add_add, Addr.add_mid] at h2
      rw [Nat.add_assoc]
      exact h2
    have hmem : ∀ t ∈ (List.range len).map f, ∃ i, i < len ∧ t = f i := fun t ht => by
      obtain ⟨i, hi, rfl⟩ := List.mem_map.1 ht
      exact ⟨i, by simpa using hi, rfl⟩
    refine ⟨some ⟨b, o, none⟩, b, o, cap, (List.range len).map f, by simp, by simp; omega, ⟨fun _ => rfl, fun _ => World.block_lt_of_cell? w _ (hcell 0 h0 0 _ rfl), fun i s hi => ?_, fun t ht => ?_⟩, fun t ht => ?_⟩
    · simp only [List.getElem?_map, Option.map_eq_some_iff] at hi
      obtain ⟨k, hk, rfl⟩ := hi
      obtain ⟨hil, rfl⟩ : i < len ∧ i = k := by
        rw [List.getElem?_eq_some_iff] at hk
        obtain ⟨h1, h2⟩ := hk
        simp at h1 h2
        exact ⟨h1, h2⟩
      exact fun j v hv => hcell i hil j v hv
    · obtain ⟨i, hi, rfl⟩ := hmem t ht
      exact (hf i hi).2.2
    · obtain ⟨i, hi, rfl⟩ := hmem t ht
      exact (hf i hi).2.1

theorem open_book {fuel : Nat} {cs : List Value} {x : DataW H × List MemPlace} (h : DataW.trod enc Try.prog w base spare held fuel 24 cs = some x) :
    ∃ t : Bk, cs = [.int .i64 t.la, .slice t.a t.ts.length t.cap] ∧ t.ts.length ≤ maxLen ∧ (∀ u ∈ t.ts, u.nm.size ≤ maxLen ∧ u.p.l.length ≤ maxLen ∧ u.x.l.length ≤ maxLen) ∧ BkAt w t := by
  obtain ⟨xs, n, _, _, hlen, hxl, hf⟩ := DataW.trod_struct Try.underlying24 h
  rw [cells_book] at hlen
  obtain ⟨c0, c1, rfl⟩ := list2 hlen
  obtain ⟨y0, h0⟩ := some_of_get (hf 0 _ rfl) hxl (by decide)
  obtain ⟨y1, h1⟩ := some_of_get (hf 1 _ rfl) hxl (by decide)
  obtain ⟨a0, e0, _⟩ := DataW.trod_int Try.underlying3 h0
  obtain ⟨a, b, o, cap, l, e1, hl, hs, ht⟩ := open_helds h1
  simp [cells_int, cells_helds] at e0 e1
  exact ⟨⟨a0, a, b, o, cap, l⟩, by rw [e0, e1], hl, ht, hs⟩

set_option maxRecDepth 20000 in
theorem open_bookArg {r : Reach} {b : Nat} {v : Value} {d : DataW H} {p : List MemPlace} (hv : Value.okWide Try.prog w r b 24 v) (h : DataW.Trod enc Try.prog w base spare held 24 v d p) :
    ∃ t : Bk, v = t.val ∧ t.ts.length ≤ maxLen ∧ (∀ u ∈ t.ts, u.nm.size ≤ maxLen ∧ u.p.l.length ≤ maxLen ∧ u.x.l.length ≤ maxLen) ∧ BkAt w t := by
  obtain ⟨cs, rfl, _⟩ := okWide_struct Try.underlying24 hv
  obtain ⟨fuel, hf⟩ := h
  obtain ⟨t, e, hn, hl, hs⟩ := open_book hf
  refine ⟨t, ?_, hn, hl, hs⟩
  simp [Value.cells] at e
  obtain ⟨cs⟩ := cs
  simp only at e
  subst e
  rfl
end
end Go.Proofs.Ytfcobpaaeijkoaa

namespace Go.Proofs.Ytfcobpaaeijkoaa
open Go.ChangeShapes Go.WideShapes Go.ChangeAt Go.RowKit

section
variable {H : Type} {enc : TypeId × Value → H} {w : World} {base : Nat} {spare : Nat → Bool} {held : Bool}
theorem list8 {α : Type} {l : List α} (h : l.length = 8) : ∃ a b c d e f g i, l = [a, b, c, d, e, f, g, i] := by
  match l, h with
  | [a, b, c, d, e, f, g, i], _ => exact ⟨a, b, c, d, e, f, g, i, rfl⟩
theorem cells_word : Try.prog.cellsOf 49 = 8 := by kernel_rfl
theorem cells_str : Try.prog.cellsOf 9 = 1 := by kernel_rfl

theorem open_word {fuel : Nat} {cs : List Value} {x : DataW H × List MemPlace} (h : DataW.trod enc Try.prog w base spare held fuel 49 cs = some x) :
    ∃ t : Wd, cs = [.int .i64 t.k, .string t.nm, .int .i64 t.n, .int .i64 t.p.q, .int .i64 t.p.s, .slice t.p.a t.p.l.length t.p.cap, .int .i64 t.p.fr, .int .i64 t.p.b] ∧ t.nm.size ≤ maxLen ∧ t.p.l.length ≤ maxLen ∧ PtAt w t.p := by
  obtain ⟨xs, n, _, _, hlen, hxl, hf⟩ := DataW.trod_struct Try.underlying49 h
  rw [cells_word] at hlen
  obtain ⟨c0, c1, c2, c3, c4, c5, c6, c7, rfl⟩ := list8 hlen
  obtain ⟨y0, h0⟩ := some_of_get (hf 0 _ rfl) hxl (by decide)
  obtain ⟨y1, h1⟩ := some_of_get (hf 1 _ rfl) hxl (by decide)
  obtain ⟨y2, h2⟩ := some_of_get (hf 2 _ rfl) hxl (by decide)
  obtain ⟨y3, h3⟩ := some_of_get (hf 3 _ rfl) hxl (by decide)
  obtain ⟨a0, e0, _⟩ := DataW.trod_int Try.underlying3 h0
  obtain ⟨nm, e1, _, hs1⟩ := DataW.trod_string Try.underlying9 h1
  obtain ⟨a2, e2, _⟩ := DataW.trod_int Try.underlying3 h2
  obtain ⟨q, s, fr, b, a, b0, o, cap, l, e3, hl, hs⟩ := open_path h3
  simp [cells_int, cells_str, cells_path] at e0 e1 e2 e3
  obtain ⟨e3, e4, e5, e6, e7⟩ := e3
  exact ⟨⟨a0, nm, a2, ⟨q, s, fr, b, a, b0, o, cap, l⟩⟩, by rw [e0, e1, e2, e3, e4, e5, e6, e7], hs1, hl, hs⟩

set_option maxRecDepth 20000 in
theorem open_wordArg {r : Reach} {b : Nat} {v : Value} {d : DataW H} {p : List MemPlace} (hv : Value.okWide Try.prog w r b 49 v) (h : DataW.Trod enc Try.prog w base spare held 49 v d p) :
    ∃ t : Wd, v = t.val ∧ t.nm.size ≤ maxLen ∧ t.p.l.length ≤ maxLen ∧ PtAt w t.p := by
  obtain ⟨cs, rfl, _⟩ := okWide_struct Try.underlying49 hv
  obtain ⟨fuel, hf⟩ := h
  obtain ⟨t, e, hn, hl, hs⟩ := open_word hf
  refine ⟨t, ?_, hn, hl, hs⟩
  simp [Value.cells] at e
  obtain ⟨cs⟩ := cs
  simp only at e
  subst e
  rfl
end
end Go.Proofs.Ytfcobpaaeijkoaa
