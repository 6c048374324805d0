/- The law's own functions on books, by their contracts. -/
import Derived.Test.YtfmdejilhbankaaGreatLkBookT
import Derived.Test.YtfmdejilhbankaaGreatOwnMore
namespace Go.Proofs.YtfmdejilhbankaaGreat
open Go.RowKit

/-- A book. -/
structure Bk where
  la : Int
  a : Option Addr
  b : Nat
  o : Nat
  cap : Nat
  ts : List Hd
abbrev Bk.val (t : Bk) : Value := .agg #[.int .i64 t.la, .slice t.a t.ts.length t.cap]
abbrev BkAt (w : World) (t : Bk) : Prop := HdsAt w t.a t.b t.o t.ts
/-- A book's box. -/
structure BkIn (W : World) (B : Nat) (la : Int) (v : Value) : Prop where
  it : ∃ T, W.heap[B]? = some (.cells #[.int .i64 la, v] T (0, 0))
theorem BkIn.lt {W : World} {B : Nat} {la : Int} {v : Value} (h : BkIn W B la v) : B < W.heap.size := by
  obtain ⟨T, h⟩ := h.it
  exact lt_of_block h
theorem BkIn.keep {W W' : World} {B : Nat} {la : Int} {v : Value} (h : BkIn W B la v) (hb : Below W.heap.size W W') : BkIn W' B la v := by
  have hl := h.lt
  obtain ⟨T, h⟩ := h.it
  exact ⟨T, (hb.block _ hl).trans h⟩
theorem BkIn.new (w : World) (la : Int) (v : Value) (T : TypeId) : BkIn (w.alloc (.cells #[.int .i64 la, v] T)) w.heap.size la v := ⟨T, heap_alloc_new w _⟩
theorem BkIn.cells {W : World} {B : Nat} {la : Int} {v : Value} (h : BkIn W B la v) : W.cell? ⟨B, 0, none⟩ = some (.int .i64 la) ∧ W.cell? ⟨B, 1, none⟩ = some v ∧ ∀ j, W.frozen? ⟨B, j, none⟩ = false := by
  obtain ⟨T, h⟩ := h.it
  exact blk2 h

theorem szBook_any (t : Bk) (left : Int) (w : World) (hl : t.ts.length ≤ maxLen) (ht : ∀ u ∈ t.ts, u.nm.size ≤ maxLen ∧ u.p.l.length ≤ maxLen ∧ u.x.l.length ≤ maxLen) (h0 : -1 ≤ left) (h1 : left ≤ 1048576) (hs : BkAt w t) :
    Calls Tryz.prog 6 #[t.val, .int .i64 left] w fun e w' => e = .returned (.int .i64 (leftHs left t.ts)) ∧ Below w.heap.size w w' := by
  have K0 := bel1 (w := w) (.cells #[.int .i64 t.la, .slice t.a t.ts.length t.cap] 24)
  have hr : -1 ≤ leftHs left t.ts ∧ leftHs left t.ts ≤ 1048576 := by
    unfold leftHs
    have := leftB_left left t.ts.length h0 h1
    exact foldH_range _ _ this.1 this.2
  go_enter Tryz.func6, Tryz.ntmps6
  go_wp2_with fail
  refine (szHelds_any t.a t.b t.o t.cap t.ts left _ hl ht h0 h1 (hs.below K0)).mono ?_
  rintro e w1 ⟨rfl, hb1⟩
  generalize hx : leftHs left t.ts = x at *
  by_cases h2 : x < 0
  · have e1 : x = -1 := by omega
    have E1 : Hid (x = -1) := e1
    clear e1
    go_wp2
    go_ret
    exact ⟨by rw [hx, E1.out]; rfl, K0.trans (hb1.mono K0.size)⟩
  · go_wp2
    go_ret
    exact ⟨by rw [hx]; rfl, K0.trans (hb1.mono K0.size)⟩

set_option maxHeartbeats 1000000 in
theorem toBook_any (t : Bk) (w : World) (hl : t.ts.length ≤ 1048576) (hsm : ∀ u ∈ t.ts, u.p.l.length ≤ 1048576 ∧ u.x.l.length ≤ 1048576) (hs : BkAt w t) :
    Calls Tryz.prog 8 #[t.val] w fun e w' => ∃ g us, e = .returned (.agg #[.int .i64 t.la, .slice (some ⟨g, 0, none⟩) t.ts.length t.ts.length]) ∧ w.heap.size ≤ g ∧ HdsPut w' g t.ts us ∧ Below w.heap.size w w' := by
  have B0 := bel3 (w := w) (.cells #[.int .i64 t.la, .slice t.a t.ts.length t.cap] 24) (.cells #[.int .i64 0, .slice none 0 0] 29) (.cells #[.int .i64 t.la, .slice none 0 0] 29)
  go_enter Tryz.func8, Tryz.ntmps8
  go_wp2_with fail
  refine (toHelds_any t.a t.b t.o t.cap t.ts _ hl hsm (hs.below B0)).mono ?_
  rintro e w1 ⟨g, us, rfl, hg, hP, hb1⟩
  obtain ⟨hc1, hf1⟩ := old_cells hb1
  have r1 : ∀ j, w1.cell? ⟨w.heap.size + 1, j, none⟩ = _ := fun j => hc1 (w.heap.size + 1) j (by simp)
  have r2 : ∀ j, w1.cell? ⟨w.heap.size + 1 + 1, j, none⟩ = _ := fun j => hc1 (w.heap.size + 1 + 1) j (by simp)
  have f1 : ∀ j, w1.frozen? ⟨w.heap.size + 1, j, none⟩ = _ := fun j => hf1 (w.heap.size + 1) j (by simp)
  have f2 : ∀ j, w1.frozen? ⟨w.heap.size + 1 + 1, j, none⟩ = _ := fun j => hf1 (w.heap.size + 1 + 1) j (by simp)
  have B1 := B0.trans (hb1.mono B0.size)
  simp at hg
  clear hb1 hc1 hf1 B0
  go_wp2
  refine bodyPost_ret (v := .agg #[.int .i64 t.la, .slice (some ⟨g, 0, none⟩) t.ts.length t.ts.length]) (by simp [results, Tryz.results8, go_sem, *]) rfl ⟨g, us, rfl, by omega, ?_, ?_⟩
  · repeat (refine HdsPut.set ?_ (by simp; omega) _)
    exact hP
  · repeat (refine Below.setCell ?_ (by simp <;> omega) _)
    exact B1

theorem eqBook_same (la : Int) (a a' : Option Addr) (b o cap b' o' cap' : Nat) (us vs : List Hd) (w : World) (hl : us.length ≤ 1048576) (hk : us.map Hd.key = vs.map Hd.key) (hsm : ∀ t ∈ us, t.p.l.length ≤ 1048576 ∧ t.x.l.length ≤ 1048576) (hs : HdsAt w a b o us) (hs' : HdsAt w a' b' o' vs) :
    Calls Tryz.prog 10 #[.agg #[.int .i64 la, .slice a us.length cap], .agg #[.int .i64 la, .slice a' us.length cap']] w fun e w' => e = .returned (.bool true) ∧ Below w.heap.size w w' := by
  have K0 := bel2 (w := w) (.cells #[.int .i64 la, .slice a us.length cap] 29) (.cells #[.int .i64 la, .slice a' us.length cap'] 29)
  go_enter Tryz.func10, Tryz.ntmps10
  go_wp2_with fail
  refine (eqHelds_same a a' b o cap b' o' cap' us vs _ hl hk hsm (hs.below K0) (hs'.below K0)).mono ?_
  rintro e w1 ⟨rfl, hb1⟩
  go_wp2
  go_ret
  exact ⟨rfl, K0.trans (hb1.mono K0.size)⟩
end Go.Proofs.YtfmdejilhbankaaGreat
