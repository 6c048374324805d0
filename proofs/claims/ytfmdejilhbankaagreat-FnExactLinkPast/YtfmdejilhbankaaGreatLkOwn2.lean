/- A book's row that a call owns: one more, one written anew, one taken out. -/
import Derived.Test.YtfmdejilhbankaaGreatLkMarkB
namespace Go.Proofs.YtfmdejilhbankaaGreat
open Go.RowKit

/-- Somebody whose lists a call owns, each in a block of its own. -/
structure HdOwn (W : World) (base : Nat) (u : Hd) : Prop where
  p : PtOwn W base u.p
  x : PtOwn W base u.x
  inn : ∀ k, u.p.sl.ownBlock = some k → u.x.sl.ownBlock ≠ some k
theorem HdOwn.below {W W' : World} {base : Nat} {u : Hd} (h : HdOwn W base u) (hb : Below W.heap.size W W') : HdOwn W' base u := ⟨owns_below h.p hb, owns_below h.x hb, h.inn⟩
theorem HdOwn.spared {W W' : World} {base : Nat} {u : Hd} {S : List Nat} (h : HdOwn W base u) (hs : Spared S W W') (hn : ∀ k ∈ u.blks, k ∉ S) : HdOwn W' base u :=
  ⟨hs.owns h.p (fun k hk => hn k (by simp [Hd.blks, hk])), hs.owns h.x (fun k hk => hn k (by simp [Hd.blks, hk])), h.inn⟩
theorem HdOwn.lt {W : World} {base : Nat} {u : Hd} (h : HdOwn W base u) : ∀ k ∈ u.blks, base ≤ k ∧ k < W.heap.size := fun k hk => by
  simp only [Hd.blks, List.mem_append, Option.mem_toList] at hk
  rcases hk with hk | hk
  · exact h.p.lt k hk
  · exact h.x.lt k hk
theorem owns_lowerO {w : World} {base base' e size n : Nat} {v : Value} {xs : List Value} (h : w.ownsRow base e size v n xs) (hb : base' ≤ base) : w.ownsRow base' e size v n xs :=
  ⟨h.1, h.2.imp id fun ⟨g, cap, cur, h1, h2, h3⟩ => ⟨g, cap, cur, h1, Nat.le_trans hb h2, h3⟩⟩
theorem HdOwn.lower {W : World} {base base' : Nat} {u : Hd} (h : HdOwn W base u) (hb : base' ≤ base) : HdOwn W base' u := ⟨owns_lowerO h.p hb, owns_lowerO h.x hb, h.inn⟩
theorem BkOwn.lower {W : World} {base base' : Nat} {v : Value} {us : List Hd} (h : BkOwn W base v us) (hb : base' ≤ base) : BkOwn W base' v us :=
  ⟨owns_lowerO h.row hb, fun u hu => ⟨owns_lowerO (h.each u hu).1 hb, owns_lowerO (h.each u hu).2 hb⟩, h.inn, h.two⟩
theorem BkOwn.hd {W : World} {base : Nat} {v : Value} {us : List Hd} (h : BkOwn W base v us) {u : Hd} (hu : u ∈ us) : HdOwn W base u := ⟨(h.each u hu).1, (h.each u hu).2, h.inn u hu⟩
/-- A row's block is no list's block. -/
theorem HdOwn.row {W : World} {base b n : Nat} {v : Value} {xs : List Value} {u : Hd} (h : HdOwn W base u) (hr : W.ownsRow b 52 13 v n xs) : ∀ k ∈ u.blks, v.ownBlock ≠ some k := fun k hk => by
  simp only [Hd.blks, List.mem_append, Option.mem_toList] at hk
  rcases hk with hk | hk
  · exact rows_two h.p hr (by decide) k hk
  · exact rows_two h.x hr (by decide) k hk
theorem HdOwn.grown {W W' : World} {base b n : Nat} {v : Value} {xs : List Value} {u : Hd} (h : HdOwn W base u) (hr : W.ownsRow b 52 13 v n xs) (hg : W.grownBy W' v.ownBlock) : HdOwn W' base u :=
  h.spared (S := v.ownBlock.toList) (Spared.grown hg (by simp)) (fun k hk hk' => h.row hr k hk (by simpa using hk'))
theorem BkOwn.nil (W : World) (base : Nat) : BkOwn W base (.slice none 0 0) [] := ⟨World.ownsRow_nil _ _ _ _, by simp, by simp, List.Pairwise.nil⟩
theorem BkOwn.push {W W' : World} {base : Nat} {v v' : Value} {us : List Hd} {u : Hd} (h : BkOwn W base v us) (ho : W'.ownsRow base 52 13 v' (us.length + 1) (hdCells us ++ u.cl)) (hg : W.grownBy W' v.ownBlock) (hu : HdOwn W base u) (ha : ∀ t ∈ us, HdApart t u) : BkOwn W' base v' (us ++ [u]) where
  row := by rw [hdCells_append, List.length_append]; simpa [hdCells] using ho
  each t ht := by
    rcases List.mem_append.1 ht with ht | ht
    · have := (h.hd ht).grown h.row hg
      exact ⟨this.p, this.x⟩
    · simp at ht
      subst ht
      have := hu.grown h.row hg
      exact ⟨this.p, this.x⟩
  inn t ht := by
    rcases List.mem_append.1 ht with ht | ht
    · exact h.inn t ht
    · simp at ht
      subst ht
      exact hu.inn
  two := by
    rw [List.pairwise_append]
    exact ⟨h.two, by simp, fun a ha' b hb => by simp at hb; subst hb; exact ha a ha'⟩
/-- Old lists lie apart from new ones. -/
theorem apart_new {W W2 : World} {base base' : Nat} {v : Value} {us : List Hd} {u : Hd} (h : BkOwn W base v us) (hu : HdOwn W2 base' u) (hb : W.heap.size ≤ base') : ∀ t ∈ us, HdApart t u := fun t ht k hk hk' => by
  have h1 := ((h.hd ht).lt k hk).2
  have h2 := (hu.lt k hk').1
  omega
end Go.Proofs.YtfmdejilhbankaaGreat
