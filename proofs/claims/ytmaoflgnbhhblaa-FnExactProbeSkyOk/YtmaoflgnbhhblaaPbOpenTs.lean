/- What an argument that can be read is made of: lists of tubes. -/
import Derived.Test.YtmaoflgnbhhblaaPbOpenT
namespace Go.Proofs.Ytmaoflgnbhhblaa
open Go.ChangeShapes Go.WideShapes Go.ChangeAt Go.RowKit

section
variable {H : Type} {enc : TypeId × Value → H} {w : World} {base : Nat} {spare : Nat → Bool} {held : Bool}
theorem open_tubes {fuel : Nat} {cs : List Value} {x : DataW H × List MemPlace} (h : DataW.trod enc Try.prog w base spare held fuel 22 cs = some x) :
    ∃ (a : Option Addr) (b o cap : Nat) (l : List Tb), cs = [.slice a l.length cap] ∧ l.length ≤ maxLen ∧ TubesAt w a b o l ∧ ∀ t ∈ l, t.nm.size ≤ maxLen ∧ t.l.length ≤ maxLen := by
  rcases Go.Deep.open_slice Try.underlying22 h with ⟨rfl, _⟩ | ⟨a, len, cap, m, n, D, Pl, rfl, _, hl, hm, hmm, _, hx⟩
  · exact ⟨none, 0, 0, 0, [], rfl, by simp, ⟨fun h => absurd rfl h, fun h => absurd rfl h, fun i s hi => by simp at hi, fun t ht => by simp at ht⟩, fun t ht => by simp at ht⟩
  · have hml : len ≤ m := by rw [hmm]; split <;> omega
    rw [cells_tube] at hx
    have h1 : ∀ i, i < len → ∃ s : Tb, w.cells? base (a.add (i * 2)) 2 = some [.string s.nm, .slice s.a s.l.length s.cap] ∧ s.nm.size ≤ maxLen ∧ s.l.length ≤ maxLen ∧ TubeAt w s := fun i hi => by
      obtain ⟨cs', hc, ht⟩ := hx i (by omega)
      obtain ⟨s, rfl, h1, h2, h3⟩ := open_tube ht
      exact ⟨s, hc, h1, h2, h3⟩
    have : Inhabited Tb := ⟨⟨⟨#[]⟩, none, 0, 0, 0, []⟩⟩
    obtain ⟨f, hf⟩ := Go.Deep.choose_lt h1
    obtain ⟨b, o, sp⟩ := a
    rcases Nat.eq_zero_or_pos len with e | h0
    · subst e
      exact ⟨some ⟨b, o, sp⟩, b, o, cap, [], rfl, by simp, ⟨fun h => absurd rfl h, fun h => absurd rfl h, fun i s hi => by simp at hi, fun t ht => by simp at ht⟩, fun t ht => by simp at ht⟩
    have hsp : sp = none := by
      obtain ⟨_, _, hget⟩ := World.cells?_some (hf 0 h0).1
      have h2 := hget 0 (by omega)
      rw [Go.Deep.add_add] at h2
      exact World.cell?_spot (a := (⟨b, o, sp⟩ : Addr)) (v := .string (f 0).nm) (by simpa [Addr.add] using h2)
    subst hsp
    have hcell : ∀ i, i < len → ∀ j v, [Value.string (f i).nm, .slice (f i).a (f i).l.length (f i).cap][j]? = some v → w.cell? ⟨b, o + i * 2 + j, none⟩ = some v := fun i hi j v hv => by
      obtain ⟨_, hln, hget⟩ := World.cells?_some (hf i hi).1
      have hj : j < 2 := by rw [← hln]; exact (List.getElem?_eq_some_iff.1 hv).1
      have h2 := hget j hj
      rw [hv, Go.Deep.add_add, Addr.add_mid] at h2
      rw [Nat.add_assoc]
      exact h2
    have hmem : ∀ t ∈ (List.range len).map f, ∃ i, i < len ∧ t = f i := fun t ht => by
      obtain ⟨i, hi, rfl⟩ := List.mem_map.1 ht
      exact ⟨i, by simpa using hi, rfl⟩
    refine ⟨some ⟨b, o, none⟩, b, o, cap, (List.range len).map f, by simp, by simp; omega, ⟨fun _ => rfl, fun _ => World.block_lt_of_cell? w _ (hcell 0 h0 0 _ rfl), fun i s hi => ?_, fun t ht => ?_⟩, fun t ht => ?_⟩
    · simp only [List.getElem?_map, Option.map_eq_some_iff] at hi
      obtain ⟨k, hk, rfl⟩ := hi
      obtain ⟨hil, rfl⟩ : i < len ∧ i = k := by
        rw [List.getElem?_eq_some_iff] at hk
        obtain ⟨h1, h2⟩ := hk
        simp at h1 h2
        exact ⟨h1, h2⟩
      exact fun j v hv => hcell i hil j v hv
    · obtain ⟨i, hi, rfl⟩ := hmem t ht
      exact (hf i hi).2.2.2
    · obtain ⟨i, hi, rfl⟩ := hmem t ht
      exact ⟨(hf i hi).2.1, (hf i hi).2.2.1⟩

set_option maxRecDepth 100000 in
theorem open_tubesArg {r : Reach} {b : Nat} {v : Value} {d : DataW H} {p : List MemPlace} (hv : Value.okWide Try.prog w r b 22 v) (h : DataW.Trod enc Try.prog w base spare held 22 v d p) :
    ∃ (a : Option Addr) (b0 o cap : Nat) (l : List Tb), v = .slice a l.length cap ∧ (l.length ≤ maxLen ∧ ∀ t ∈ l, t.nm.size ≤ maxLen ∧ t.l.length ≤ maxLen) ∧ TubesAt w a b0 o l := by
  obtain ⟨a0, len, cap, rfl⟩ := okWide_slice Try.underlying22 hv
  obtain ⟨fuel, hf⟩ := h
  obtain ⟨a, b, o, cap', l, e, hl, hs, ht⟩ := open_tubes hf
  simp [Value.cells] at e
  obtain ⟨rfl, rfl, rfl⟩ := e
  exact ⟨a0, b, o, cap, l, rfl, ⟨hl, ht⟩, hs⟩
end
end Go.Proofs.Ytmaoflgnbhhblaa
