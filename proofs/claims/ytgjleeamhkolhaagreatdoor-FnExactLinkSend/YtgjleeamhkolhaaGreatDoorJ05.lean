/- Joined texts: LkBookB, LkHeldB, LkMarkP, LkLawB, LkPtPut, LkStPut, SpanMark2, PathMark, LkMarkS, LkWd, LkEqW, LkMarkW, LkLawW, LkTwoX, LkOwn2, CloneS, LkCloneS, LkCopyS, LkHeldS, LkTwoQ, LkAnyI. -/
import Derived.Maps.AppendAt
import Derived.Laws.CopyOwn
import Derived.WalkKit
import Derived.Test.YtgjleeamhkolhaaGreatDoorRows
import Derived.Test.YtgjleeamhkolhaaGreatDoorJ04
import Derived.Test.YtgjleeamhkolhaaGreatDoorOwnMore
import Derived.Test.YtgjleeamhkolhaaGreatDoorLkPt
import Derived.Test.YtgjleeamhkolhaaGreatDoorPbBel
import Derived.Test.YtgjleeamhkolhaaGreatDoorSpanMath
namespace Go.Proofs.YtgjleeamhkolhaaGreatDoor
open Go.RowKit

/-- A book. -/
structure Bk where
  la : Int
  a : Option Addr
  b : Nat
  o : Nat
  cap : Nat
  ts : List Hd
abbrev Bk.val (t : Bk) : Value := .agg #[.int .i64 t.la, .slice t.a t.ts.length t.cap]
abbrev BkAt (w : World) (t : Bk) : Prop := HdsAt w t.a t.b t.o t.ts
/-- A book's box. -/
structure BkIn (W : World) (B : Nat) (la : Int) (v : Value) : Prop where
  it : ∃ T, W.heap[B]? = some (.cells #[.int .i64 la, v] T (0, 0))
theorem BkIn.lt {W : World} {B : Nat} {la : Int} {v : Value} (h : BkIn W B la v) : B < W.heap.size := by
  obtain ⟨T, h⟩ := h.it
  exact lt_of_block h
theorem BkIn.keep {W W' : World} {B : Nat} {la : Int} {v : Value} (h : BkIn W B la v) (hb : Below W.heap.size W W') : BkIn W' B la v := by
  have hl := h.lt
  obtain ⟨T, h⟩ := h.it
  exact ⟨T, (hb.block _ hl).trans h⟩
theorem BkIn.new (w : World) (la : Int) (v : Value) (T : TypeId) : BkIn (w.alloc (.cells #[.int .i64 la, v] T)) w.heap.size la v := ⟨T, heap_alloc_new w _⟩
theorem BkIn.cells {W : World} {B : Nat} {la : Int} {v : Value} (h : BkIn W B la v) : W.cell? ⟨B, 0, none⟩ = some (.int .i64 la) ∧ W.cell? ⟨B, 1, none⟩ = some v ∧ ∀ j, W.frozen? ⟨B, j, none⟩ = false := by
  obtain ⟨T, h⟩ := h.it
  exact blk2 h

theorem szBook_any (t : Bk) (left : Int) (w : World) (hl : t.ts.length ≤ maxLen) (ht : ∀ u ∈ t.ts, u.nm.size ≤ maxLen ∧ u.p.l.length ≤ maxLen ∧ u.x.l.length ≤ maxLen) (h0 : -1 ≤ left) (h1 : left ≤ 1048576) (hs : BkAt w t) :
    Calls Tryz.prog 5 #[t.val, .int .i64 left] w fun e w' => e = .returned (.int .i64 (leftHs left t.ts)) ∧ Below w.heap.size w w' := by
  have K0 := bel1 (w := w) (.cells #[.int .i64 t.la, .slice t.a t.ts.length t.cap] 24)
  have hr : -1 ≤ leftHs left t.ts ∧ leftHs left t.ts ≤ 1048576 := by
    unfold leftHs
    have := leftB_left left t.ts.length h0 h1
    exact foldH_range _ _ this.1 this.2
  go_enter Tryz.func5, Tryz.ntmps5
  go_wp2_with fail
  refine (szHelds_any t.a t.b t.o t.cap t.ts left _ hl ht h0 h1 (hs.below K0)).mono ?_
  rintro e w1 ⟨rfl, hb1⟩
  generalize hx : leftHs left t.ts = x at *
  by_cases h2 : x < 0
  · have e1 : x = -1 := by omega
    have E1 : Hid (x = -1) := e1
    clear e1
    go_wp2
    go_ret
    exact ⟨by rw [hx, E1.out]; rfl, K0.trans (hb1.mono K0.size)⟩
  · go_wp2
    go_ret
    exact ⟨by rw [hx]; rfl, K0.trans (hb1.mono K0.size)⟩

set_option maxHeartbeats 1000000 in
theorem toBook_any (t : Bk) (w : World) (hl : t.ts.length ≤ 1048576) (hsm : ∀ u ∈ t.ts, u.p.l.length ≤ 1048576 ∧ u.x.l.length ≤ 1048576) (hs : BkAt w t) :
    Calls Tryz.prog 8 #[t.val] w fun e w' => ∃ g us, e = .returned (.agg #[.int .i64 t.la, .slice (some ⟨g, 0, none⟩) t.ts.length t.ts.length]) ∧ w.heap.size ≤ g ∧ HdsPut w' g t.ts us ∧ Below w.heap.size w w' := by
  have B0 := bel3 (w := w) (.cells #[.int .i64 t.la, .slice t.a t.ts.length t.cap] 24) (.cells #[.int .i64 0, .slice none 0 0] 34) (.cells #[.int .i64 t.la, .slice none 0 0] 34)
  go_enter Tryz.func8, Tryz.ntmps8
  go_wp2_with fail
  refine (toHelds_any t.a t.b t.o t.cap t.ts _ hl hsm (hs.below B0)).mono ?_
  rintro e w1 ⟨g, us, rfl, hg, hP, hb1⟩
  obtain ⟨hc1, hf1⟩ := old_cells hb1
  have r1 : ∀ j, w1.cell? ⟨w.heap.size + 1, j, none⟩ = _ := fun j => hc1 (w.heap.size + 1) j (by simp)
  have r2 : ∀ j, w1.cell? ⟨w.heap.size + 1 + 1, j, none⟩ = _ := fun j => hc1 (w.heap.size + 1 + 1) j (by simp)
  have f1 : ∀ j, w1.frozen? ⟨w.heap.size + 1, j, none⟩ = _ := fun j => hf1 (w.heap.size + 1) j (by simp)
  have f2 : ∀ j, w1.frozen? ⟨w.heap.size + 1 + 1, j, none⟩ = _ := fun j => hf1 (w.heap.size + 1 + 1) j (by simp)
  have B1 := B0.trans (hb1.mono B0.size)
  simp at hg
  clear hb1 hc1 hf1 B0
  go_wp2
  refine bodyPost_ret (v := .agg #[.int .i64 t.la, .slice (some ⟨g, 0, none⟩) t.ts.length t.ts.length]) (by simp [results, Tryz.results8, go_sem, *]) rfl ⟨g, us, rfl, by omega, ?_, ?_⟩
  · repeat (refine HdsPut.set ?_ (by simp; omega) _)
    exact hP
  · repeat (refine Below.setCell ?_ (by simp <;> omega) _)
    exact B1

theorem eqBook_same (la : Int) (a a' : Option Addr) (b o cap b' o' cap' : Nat) (us vs : List Hd) (w : World) (hl : us.length ≤ 1048576) (hk : us.map Hd.key = vs.map Hd.key) (hsm : ∀ t ∈ us, t.p.l.length ≤ 1048576 ∧ t.x.l.length ≤ 1048576) (hs : HdsAt w a b o us) (hs' : HdsAt w a' b' o' vs) :
    Calls Tryz.prog 11 #[.agg #[.int .i64 la, .slice a us.length cap], .agg #[.int .i64 la, .slice a' us.length cap']] w fun e w' => e = .returned (.bool true) ∧ Below w.heap.size w w' := by
  have K0 := bel2 (w := w) (.cells #[.int .i64 la, .slice a us.length cap] 34) (.cells #[.int .i64 la, .slice a' us.length cap'] 34)
  go_enter Tryz.func11, Tryz.ntmps11
  go_wp2_with fail
  refine (eqHelds_same a a' b o cap b' o' cap' us vs _ hl hk hsm (hs.below K0) (hs'.below K0)).mono ?_
  rintro e w1 ⟨rfl, hb1⟩
  go_wp2
  go_ret
  exact ⟨rfl, K0.trans (hb1.mono K0.size)⟩
end Go.Proofs.YtgjleeamhkolhaaGreatDoor

namespace Go.Proofs.YtgjleeamhkolhaaGreatDoor
open Go.RowKit

set_option maxHeartbeats 8000000 in
set_option maxRecDepth 40000 in
theorem heldHelds_row (k0 : Int) (g cap base : Nat) (us : List Hd) (w : World) (hn : us.length ≤ 1048576) (hsm : ∀ u ∈ us, u.p.l.length ≤ 1048576 ∧ u.x.l.length ≤ 1048576) (hk : 0 ≤ k0 ∧ k0 + (totH us : Int) ≤ 900000000) (h : BkOwn w base (.slice (some ⟨g, 0, none⟩) us.length cap) (markHds k0 us)) :
    Calls Tryz.prog 44 #[.slice (some ⟨g, 0, none⟩) us.length cap, .int .i64 k0] w
      fun e w' => e = .returned (.int .i64 (k0 + (totH us : Int))) ∧ Below w.heap.size w w' := by
  obtain ⟨k1, k2⟩ := hk
  have R0 := h.row
  rw [markHds_length] at R0
  go_enter Tryz.func44, Tryz.ntmps44
  go_wp2
  go_loopw [1, 5] (fun v u wr => ∃ i : Nat, i ≤ us.length ∧ u = .int .i64 i ∧ v = .int .i64 (k0 + (totH (us.take i) : Int)) ∧ Below w.heap.size w wr) (fun _ u _ => us.length - (intOf u).toNat)
  case atStart => exact ⟨0, Nat.zero_le _, rfl, by simp [totH], Below.refl _ _⟩
  case round =>
    obtain ⟨i, hi, rfl, rfl, hb⟩ := hrel
    by_cases hlt : i < us.length
    · obtain ⟨u, hu⟩ : ∃ u, us[i]? = some u := ⟨_, List.getElem?_eq_getElem hlt⟩
      have hm := List.mem_of_getElem? hu
      have hnow := markHds_get us k0 i u hu
      have hmm := List.mem_of_getElem? hnow
      have R1 := owns_below R0 hb
      have hE := h.each _ hmm
      have hP0 := owns_below hE.1 hb
      have hX0 := owns_below hE.2 hb
      obtain ⟨hpl, hxl⟩ := hsm u hm
      have i0 : (0 : Int) ≤ (i : Int) := by omega
      have i1 : (i : Int) < (us.length : Int) := by omega
      have htot : totH (us.take i) + hdSz u ≤ totH us := by rw [← totH_take hu]; exact totH_take_le _ _
      have HT : Hid (totH (us.take (i + 1)) = totH (us.take i) + hdSz u) := totH_take hu
      generalize hK : k0 + (totH (us.take i) : Int) = K at *
      have hz : hdSz u = 3 + (4 + u.p.l.length * 7) + (4 + u.x.l.length * 7) := rfl
      obtain ⟨M, hM⟩ : ∃ M : Int, K + 1 + 1 + 1 + 1 + ((u.p.l.length * 7 : Nat) : Int) = M := ⟨_, rfl⟩
      obtain ⟨N, hN⟩ : ∃ N : Int, M + 1 + 1 + 1 + 1 + 1 + ((u.x.l.length * 7 : Nat) : Int) = N := ⟨_, rfl⟩
      have eu : markHd K u = (⟨mtOf K, K + 1, ⟨K + 1 + 1, K + 1 + 1 + 1, M, M + 1, u.p.a, u.p.b0, u.p.o, u.p.cap, markL (K + 1 + 1 + 1 + 1) u.p.l.length⟩, M + 1 + 1, ⟨M + 1 + 1 + 1, M + 1 + 1 + 1 + 1, N, N + 1, u.x.a, u.x.b0, u.x.o, u.x.cap, markL (M + 1 + 1 + 1 + 1 + 1) u.x.l.length⟩⟩ : Hd) := by
        unfold markHd markPt ptSz
        simp only [Hd.mk.injEq, Pt.mk.injEq, true_and, and_true]
        refine ⟨⟨by omega, by omega⟩, by omega, by omega, by omega, by omega, by omega, ?_⟩
        congr 1
        omega
      rw [eu] at hnow hP0 hX0
      replace hP0 : wr.ownsRow base 98 7 (.slice u.p.a (markL (K + 1 + 1 + 1 + 1) u.p.l.length).length u.p.cap) (markL (K + 1 + 1 + 1 + 1) u.p.l.length).length (stepCells (markL (K + 1 + 1 + 1 + 1) u.p.l.length)) := hP0
      replace hX0 : wr.ownsRow base 98 7 (.slice u.x.a (markL (M + 1 + 1 + 1 + 1 + 1) u.x.l.length).length u.x.cap) (markL (M + 1 + 1 + 1 + 1 + 1) u.x.l.length).length (stepCells (markL (M + 1 + 1 + 1 + 1 + 1) u.x.l.length)) := hX0
      have c0 : wr.cell? ⟨g, i * 13, none⟩ = some (.string (mtOf K)) := (R1.cellAt (i * 13) (by omega)).trans (hdCells_at _ i (⟨mtOf K, K + 1, ⟨K + 1 + 1, K + 1 + 1 + 1, M, M + 1, u.p.a, u.p.b0, u.p.o, u.p.cap, markL (K + 1 + 1 + 1 + 1) u.p.l.length⟩, M + 1 + 1, ⟨M + 1 + 1 + 1, M + 1 + 1 + 1 + 1, N, N + 1, u.x.a, u.x.b0, u.x.o, u.x.cap, markL (M + 1 + 1 + 1 + 1 + 1) u.x.l.length⟩⟩ : Hd) 0 hnow (by decide))
      have c1 : wr.cell? ⟨g, i * 13 + 1, none⟩ = some (.int .i64 (K + 1)) := (R1.cellAt (i * 13 + 1) (by omega)).trans (hdCells_at _ i (⟨mtOf K, K + 1, ⟨K + 1 + 1, K + 1 + 1 + 1, M, M + 1, u.p.a, u.p.b0, u.p.o, u.p.cap, markL (K + 1 + 1 + 1 + 1) u.p.l.length⟩, M + 1 + 1, ⟨M + 1 + 1 + 1, M + 1 + 1 + 1 + 1, N, N + 1, u.x.a, u.x.b0, u.x.o, u.x.cap, markL (M + 1 + 1 + 1 + 1 + 1) u.x.l.length⟩⟩ : Hd) 1 hnow (by decide))
      have c2 : wr.cell? ⟨g, i * 13 + 2, none⟩ = some (.int .i64 (K + 1 + 1)) := (R1.cellAt (i * 13 + 2) (by omega)).trans (hdCells_at _ i (⟨mtOf K, K + 1, ⟨K + 1 + 1, K + 1 + 1 + 1, M, M + 1, u.p.a, u.p.b0, u.p.o, u.p.cap, markL (K + 1 + 1 + 1 + 1) u.p.l.length⟩, M + 1 + 1, ⟨M + 1 + 1 + 1, M + 1 + 1 + 1 + 1, N, N + 1, u.x.a, u.x.b0, u.x.o, u.x.cap, markL (M + 1 + 1 + 1 + 1 + 1) u.x.l.length⟩⟩ : Hd) 2 hnow (by decide))
      have c3 : wr.cell? ⟨g, i * 13 + 3, none⟩ = some (.int .i64 (K + 1 + 1 + 1)) := (R1.cellAt (i * 13 + 3) (by omega)).trans (hdCells_at _ i (⟨mtOf K, K + 1, ⟨K + 1 + 1, K + 1 + 1 + 1, M, M + 1, u.p.a, u.p.b0, u.p.o, u.p.cap, markL (K + 1 + 1 + 1 + 1) u.p.l.length⟩, M + 1 + 1, ⟨M + 1 + 1 + 1, M + 1 + 1 + 1 + 1, N, N + 1, u.x.a, u.x.b0, u.x.o, u.x.cap, markL (M + 1 + 1 + 1 + 1 + 1) u.x.l.length⟩⟩ : Hd) 3 hnow (by decide))
      have c4 : wr.cell? ⟨g, i * 13 + 4, none⟩ = some (.slice u.p.a (markL (K + 1 + 1 + 1 + 1) u.p.l.length).length u.p.cap) := (R1.cellAt (i * 13 + 4) (by omega)).trans (hdCells_at _ i (⟨mtOf K, K + 1, ⟨K + 1 + 1, K + 1 + 1 + 1, M, M + 1, u.p.a, u.p.b0, u.p.o, u.p.cap, markL (K + 1 + 1 + 1 + 1) u.p.l.length⟩, M + 1 + 1, ⟨M + 1 + 1 + 1, M + 1 + 1 + 1 + 1, N, N + 1, u.x.a, u.x.b0, u.x.o, u.x.cap, markL (M + 1 + 1 + 1 + 1 + 1) u.x.l.length⟩⟩ : Hd) 4 hnow (by decide))
      have c5 : wr.cell? ⟨g, i * 13 + 5, none⟩ = some (.int .i64 M) := (R1.cellAt (i * 13 + 5) (by omega)).trans (hdCells_at _ i (⟨mtOf K, K + 1, ⟨K + 1 + 1, K + 1 + 1 + 1, M, M + 1, u.p.a, u.p.b0, u.p.o, u.p.cap, markL (K + 1 + 1 + 1 + 1) u.p.l.length⟩, M + 1 + 1, ⟨M + 1 + 1 + 1, M + 1 + 1 + 1 + 1, N, N + 1, u.x.a, u.x.b0, u.x.o, u.x.cap, markL (M + 1 + 1 + 1 + 1 + 1) u.x.l.length⟩⟩ : Hd) 5 hnow (by decide))
      have c6 : wr.cell? ⟨g, i * 13 + 6, none⟩ = some (.int .i64 (M + 1)) := (R1.cellAt (i * 13 + 6) (by omega)).trans (hdCells_at _ i (⟨mtOf K, K + 1, ⟨K + 1 + 1, K + 1 + 1 + 1, M, M + 1, u.p.a, u.p.b0, u.p.o, u.p.cap, markL (K + 1 + 1 + 1 + 1) u.p.l.length⟩, M + 1 + 1, ⟨M + 1 + 1 + 1, M + 1 + 1 + 1 + 1, N, N + 1, u.x.a, u.x.b0, u.x.o, u.x.cap, markL (M + 1 + 1 + 1 + 1 + 1) u.x.l.length⟩⟩ : Hd) 6 hnow (by decide))
      have c7 : wr.cell? ⟨g, i * 13 + 7, none⟩ = some (.int .i64 (M + 1 + 1)) := (R1.cellAt (i * 13 + 7) (by omega)).trans (hdCells_at _ i (⟨mtOf K, K + 1, ⟨K + 1 + 1, K + 1 + 1 + 1, M, M + 1, u.p.a, u.p.b0, u.p.o, u.p.cap, markL (K + 1 + 1 + 1 + 1) u.p.l.length⟩, M + 1 + 1, ⟨M + 1 + 1 + 1, M + 1 + 1 + 1 + 1, N, N + 1, u.x.a, u.x.b0, u.x.o, u.x.cap, markL (M + 1 + 1 + 1 + 1 + 1) u.x.l.length⟩⟩ : Hd) 7 hnow (by decide))
      have c8 : wr.cell? ⟨g, i * 13 + 8, none⟩ = some (.int .i64 (M + 1 + 1 + 1)) := (R1.cellAt (i * 13 + 8) (by omega)).trans (hdCells_at _ i (⟨mtOf K, K + 1, ⟨K + 1 + 1, K + 1 + 1 + 1, M, M + 1, u.p.a, u.p.b0, u.p.o, u.p.cap, markL (K + 1 + 1 + 1 + 1) u.p.l.length⟩, M + 1 + 1, ⟨M + 1 + 1 + 1, M + 1 + 1 + 1 + 1, N, N + 1, u.x.a, u.x.b0, u.x.o, u.x.cap, markL (M + 1 + 1 + 1 + 1 + 1) u.x.l.length⟩⟩ : Hd) 8 hnow (by decide))
      have c9 : wr.cell? ⟨g, i * 13 + 9, none⟩ = some (.int .i64 (M + 1 + 1 + 1 + 1)) := (R1.cellAt (i * 13 + 9) (by omega)).trans (hdCells_at _ i (⟨mtOf K, K + 1, ⟨K + 1 + 1, K + 1 + 1 + 1, M, M + 1, u.p.a, u.p.b0, u.p.o, u.p.cap, markL (K + 1 + 1 + 1 + 1) u.p.l.length⟩, M + 1 + 1, ⟨M + 1 + 1 + 1, M + 1 + 1 + 1 + 1, N, N + 1, u.x.a, u.x.b0, u.x.o, u.x.cap, markL (M + 1 + 1 + 1 + 1 + 1) u.x.l.length⟩⟩ : Hd) 9 hnow (by decide))
      have c10 : wr.cell? ⟨g, i * 13 + 10, none⟩ = some (.slice u.x.a (markL (M + 1 + 1 + 1 + 1 + 1) u.x.l.length).length u.x.cap) := (R1.cellAt (i * 13 + 10) (by omega)).trans (hdCells_at _ i (⟨mtOf K, K + 1, ⟨K + 1 + 1, K + 1 + 1 + 1, M, M + 1, u.p.a, u.p.b0, u.p.o, u.p.cap, markL (K + 1 + 1 + 1 + 1) u.p.l.length⟩, M + 1 + 1, ⟨M + 1 + 1 + 1, M + 1 + 1 + 1 + 1, N, N + 1, u.x.a, u.x.b0, u.x.o, u.x.cap, markL (M + 1 + 1 + 1 + 1 + 1) u.x.l.length⟩⟩ : Hd) 10 hnow (by decide))
      have c11 : wr.cell? ⟨g, i * 13 + 11, none⟩ = some (.int .i64 N) := (R1.cellAt (i * 13 + 11) (by omega)).trans (hdCells_at _ i (⟨mtOf K, K + 1, ⟨K + 1 + 1, K + 1 + 1 + 1, M, M + 1, u.p.a, u.p.b0, u.p.o, u.p.cap, markL (K + 1 + 1 + 1 + 1) u.p.l.length⟩, M + 1 + 1, ⟨M + 1 + 1 + 1, M + 1 + 1 + 1 + 1, N, N + 1, u.x.a, u.x.b0, u.x.o, u.x.cap, markL (M + 1 + 1 + 1 + 1 + 1) u.x.l.length⟩⟩ : Hd) 11 hnow (by decide))
      have c12 : wr.cell? ⟨g, i * 13 + 12, none⟩ = some (.int .i64 (N + 1)) := (R1.cellAt (i * 13 + 12) (by omega)).trans (hdCells_at _ i (⟨mtOf K, K + 1, ⟨K + 1 + 1, K + 1 + 1 + 1, M, M + 1, u.p.a, u.p.b0, u.p.o, u.p.cap, markL (K + 1 + 1 + 1 + 1) u.p.l.length⟩, M + 1 + 1, ⟨M + 1 + 1 + 1, M + 1 + 1 + 1 + 1, N, N + 1, u.x.a, u.x.b0, u.x.o, u.x.cap, markL (M + 1 + 1 + 1 + 1 + 1) u.x.l.length⟩⟩ : Hd) 12 hnow (by decide))
      rw [markL_length] at hP0 hX0 c4 c10
      have hgl : g < wr.heap.size := (R1.lt g rfl).2
      have EK : Hid (k0 + (totH (us.take i) : Int) = K) := hK
      have EZ : Hid (hdSz u = 3 + (4 + u.p.l.length * 7) + (4 + u.x.l.length * 7)) := hz
      have EM : Hid (K + 1 + 1 + 1 + 1 + ((u.p.l.length * 7 : Nat) : Int) = M) := hM
      have EN : Hid (M + 1 + 1 + 1 + 1 + 1 + ((u.x.l.length * 7 : Nat) : Int) = N) := hN
      have HP : Hid (wr.ownsRow base 98 7 (.slice u.p.a u.p.l.length u.p.cap) u.p.l.length (stepCells (markL (K + 1 + 1 + 1 + 1) u.p.l.length))) := hP0
      have HX : Hid (wr.ownsRow base 98 7 (.slice u.x.a u.x.l.length u.x.cap) u.x.l.length (stepCells (markL (M + 1 + 1 + 1 + 1 + 1) u.x.l.length))) := hX0
      have b2 : 0 ≤ K := by omega
      have b4 : K ≤ 900000000 := by omega
      have m0 : 0 ≤ M := by omega
      have m1 : M ≤ 910000000 := by omega
      have n0 : 0 ≤ N := by omega
      have n1 : N ≤ 920000000 := by omega
      have tt : ((mtOf K).toList == (mtOf K).toList) = true := by simp
      clear hnow hu hP0 hX0 R1 hK hz hmm htot hM hN eu hE
      go_wp2_with fail
      have D1 : Below wr.heap.size wr wr.drew := (Below.refl _ _).drew
      go_region_held3 (fun w' => w'.cell? ⟨g, i * 13, none⟩ = some (.string (mtOf K)))
        (simp [go_sem, *])
        (first
          | (go_at_call 75; refine (markText_any K _ b2 (by omega)).mono ?_; rintro e w1 ⟨rfl, hb0⟩; have hb1 := D1.trans hb0; have d0 := (hb1.cell (p := ⟨g, i * 13, none⟩) hgl).trans c0)
          | fail)
      replace c0 := (hb1.cell (p := ⟨g, i * 13, none⟩) hgl).trans c0
      replace c1 := (hb1.cell (p := ⟨g, i * 13 + 1, none⟩) hgl).trans c1
      replace c2 := (hb1.cell (p := ⟨g, i * 13 + 2, none⟩) hgl).trans c2
      replace c3 := (hb1.cell (p := ⟨g, i * 13 + 3, none⟩) hgl).trans c3
      replace c4 := (hb1.cell (p := ⟨g, i * 13 + 4, none⟩) hgl).trans c4
      replace c5 := (hb1.cell (p := ⟨g, i * 13 + 5, none⟩) hgl).trans c5
      replace c6 := (hb1.cell (p := ⟨g, i * 13 + 6, none⟩) hgl).trans c6
      replace c7 := (hb1.cell (p := ⟨g, i * 13 + 7, none⟩) hgl).trans c7
      replace c8 := (hb1.cell (p := ⟨g, i * 13 + 8, none⟩) hgl).trans c8
      replace c9 := (hb1.cell (p := ⟨g, i * 13 + 9, none⟩) hgl).trans c9
      replace c10 := (hb1.cell (p := ⟨g, i * 13 + 10, none⟩) hgl).trans c10
      replace c11 := (hb1.cell (p := ⟨g, i * 13 + 11, none⟩) hgl).trans c11
      replace c12 := (hb1.cell (p := ⟨g, i * 13 + 12, none⟩) hgl).trans c12
      have B1 := hb.trans (hb1.mono hb.size)
      have HP1 := owns_below HP.out hb1
      have HX1 := owns_below HX.out hb1
      have KP1 : Hid (w1.ownsRow base 98 7 (.slice u.p.a u.p.l.length u.p.cap) u.p.l.length (stepCells (markL (K + 1 + 1 + 1 + 1) u.p.l.length))) := HP1
      have KX1 : Hid (w1.ownsRow base 98 7 (.slice u.x.a u.x.l.length u.x.cap) u.x.l.length (stepCells (markL (M + 1 + 1 + 1 + 1 + 1) u.x.l.length))) := HX1
      clear HP HX HP1 HX1 hb1
      go_wp2_with fail
      refine (heldSteps_all (K + 1 + 1 + 1 + 1) _ base u.p.l.length _ hpl ⟨by omega, by omega⟩ KP1.out).mono ?_
      rintro e w2 ⟨rfl, rfl⟩
      rw [EM.out]
      go_wp2_with fail
      refine (heldSteps_all (M + 1 + 1 + 1 + 1 + 1) _ base u.x.l.length _ hxl ⟨by omega, by omega⟩ KX1.out).mono ?_
      rintro e w3 ⟨rfl, rfl⟩
      rw [EN.out]
      go_wp2
      go_roundw
      case rel =>
        have e1 := EM.out
        have e2 := EN.out
        have e3 := EZ.out
        have e4 := EK.out
        have e5 := HT.out
        exact ⟨i + 1, by omega, by go_num, by congr 1; omega, B1⟩
      case measure => simp [intOf]; omega
    · obtain rfl : i = us.length := by omega
      go_wp2
      go_ret
      exact ⟨by rw [List.take_length]; rfl, hb⟩

theorem markHelds_own (k0 : Int) (v : Value) (base : Nat) (us : List Hd) (w : World) (hn : us.length ≤ 1048576) (hsm : ∀ u ∈ us, u.p.l.length ≤ 1048576 ∧ u.x.l.length ≤ 1048576) (hk : 0 ≤ k0 ∧ k0 + (totH us : Int) ≤ 900000000) (h : BkOwn w base v us) :
    Calls Tryz.prog 42 #[v, .int .i64 k0] w fun e w' => e = .returned (.int .i64 (k0 + (totH us : Int))) ∧ BkOwn w' base v (markHds k0 us) ∧ Spared (bkBlks v us) w w' := by
  rcases h.row.2 with ⟨rfl, h0⟩ | ⟨g, cap, cur, rfl, _⟩
  · have : us = [] := List.eq_nil_of_length_eq_zero h0
    subst this
    refine (markHelds_nil k0 w).mono ?_
    rintro e w1 ⟨rfl, rfl⟩
    exact ⟨by simp [totH], h, Spared.refl _ _⟩
  · exact markHelds_row k0 g cap base us w hn hsm hk h
theorem heldHelds_own (k0 : Int) (v : Value) (base : Nat) (us : List Hd) (w : World) (hn : us.length ≤ 1048576) (hsm : ∀ u ∈ us, u.p.l.length ≤ 1048576 ∧ u.x.l.length ≤ 1048576) (hk : 0 ≤ k0 ∧ k0 + (totH us : Int) ≤ 900000000) (h : BkOwn w base v (markHds k0 us)) :
    Calls Tryz.prog 44 #[v, .int .i64 k0] w fun e w' => e = .returned (.int .i64 (k0 + (totH us : Int))) ∧ Below w.heap.size w w' := by
  have h1 := h.row
  rw [markHds_length] at h1
  rcases h1.2 with ⟨rfl, h0⟩ | ⟨g, cap, cur, rfl, _⟩
  · have : us = [] := List.eq_nil_of_length_eq_zero h0
    subst this
    refine (heldHelds_nil k0 w).mono ?_
    rintro e w1 ⟨rfl, rfl⟩
    exact ⟨by simp [totH], Below.refl _ _⟩
  · exact heldHelds_row k0 g cap base us w hn hsm hk h
theorem own_slice {W : World} {base e size n : Nat} {v : Value} {xs : List Value} (h : W.ownsRow base e size v n xs) : ∃ a c, v = .slice a n c := by
  rcases h.2 with ⟨rfl, rfl⟩ | ⟨g, cap, cur, rfl, _⟩
  · exact ⟨none, 0, rfl⟩
  · exact ⟨_, _, rfl⟩

theorem markBook_own (la k0 : Int) (v : Value) (base : Nat) (us : List Hd) (w : World) (hn : us.length ≤ 1048576) (hsm : ∀ u ∈ us, u.p.l.length ≤ 1048576 ∧ u.x.l.length ≤ 1048576) (hk : 0 ≤ k0 ∧ k0 + (totH us : Int) ≤ 900000000) (h : BkOwn w base v us) :
    Calls Tryz.prog 14 #[.agg #[.int .i64 la, v], .int .i64 k0] w fun e w' => e = .returned (.int .i64 (k0 + (totH us : Int))) ∧ BkOwn w' base v (markHds k0 us) ∧ Spared (bkBlks v us) w w' := by
  obtain ⟨a, c, rfl⟩ := own_slice h.row
  have K0 := bel1 (w := w) (.cells #[.int .i64 la, .slice a us.length c] 34)
  go_enter Tryz.func14, Tryz.ntmps14
  go_wp2_with fail
  refine (markHelds_own k0 _ base us _ hn hsm hk (h.below K0)).mono ?_
  rintro e w1 ⟨rfl, h1, s1⟩
  go_wp2
  go_ret
  exact ⟨rfl, h1, (Spared.below K0).trans s1⟩
theorem heldBook_own (la k0 : Int) (v : Value) (base : Nat) (us : List Hd) (w : World) (hn : us.length ≤ 1048576) (hsm : ∀ u ∈ us, u.p.l.length ≤ 1048576 ∧ u.x.l.length ≤ 1048576) (hk : 0 ≤ k0 ∧ k0 + (totH us : Int) ≤ 900000000) (h : BkOwn w base v (markHds k0 us)) :
    Calls Tryz.prog 17 #[.agg #[.int .i64 la, v], .int .i64 k0] w fun e w' => e = .returned (.int .i64 (k0 + (totH us : Int))) ∧ Below w.heap.size w w' := by
  obtain ⟨a, c, rfl⟩ := own_slice h.row
  have K0 := bel1 (w := w) (.cells #[.int .i64 la, .slice a (markHds k0 us).length c] 34)
  have hpos : ¬ k0 + (totH us : Int) < 0 := by omega
  have e1 : Hid ((markHds k0 us).length = us.length) := markHds_length us k0
  go_enter Tryz.func17, Tryz.ntmps17
  go_wp2_with fail
  refine (heldHelds_own k0 _ base us _ hn hsm hk (h.below K0)).mono ?_
  rintro e w1 ⟨rfl, hb1⟩
  generalize hX : k0 + (totH us : Int) = X at *
  go_wp2
  go_ret
  exact ⟨by rw [hX]; rfl, K0.trans (hb1.mono K0.size)⟩
end Go.Proofs.YtgjleeamhkolhaaGreatDoor

namespace Go.Proofs.YtgjleeamhkolhaaGreatDoor
open Go.RowKit

set_option maxHeartbeats 4000000 in
set_option maxRecDepth 20000 in
theorem markSteps_put (k0 : Int) (g cap n : Nat) (w : World) (hn : n ≤ 1048576) (hk : 0 ≤ k0 ∧ k0 ≤ 1000000000) (hth : ∀ i, i < n → w.there g (i * 7) 7) :
    Calls Tryz.prog 43 #[.slice (some ⟨g, 0, none⟩) n cap, .int .i64 k0] w
      fun e w' => e = .returned (.int .i64 (k0 + ((n * 7 : Nat) : Int))) ∧ w.grownBy w' (some g) ∧ w'.heap.size = w.heap.size ∧ ∀ b o n, w.there b o n → w'.there b o n := by
  obtain ⟨k1, k2⟩ := hk
  go_enter Tryz.func43, Tryz.ntmps43
  go_wp2
  go_loopw [1, 5] (fun v u wr => ∃ i : Nat, i ≤ n ∧ u = .int .i64 i ∧ v = .int .i64 (k0 + ((i * 7 : Nat) : Int)) ∧ (∀ j, j < n → wr.there g (j * 7) 7) ∧ w.grownBy wr (some g) ∧ wr.heap.size = w.heap.size ∧ ∀ b o n, w.there b o n → wr.there b o n) (fun _ u _ => n - (intOf u).toNat)
  case atStart => exact ⟨0, Nat.zero_le _, rfl, by simp, hth, ⟨rfl, rfl, rfl, Nat.le_refl _, fun _ _ _ => rfl⟩, rfl, fun _ _ _ h => h⟩
  case round =>
    clear hth
    obtain ⟨i, hi, rfl, rfl, hth, hg, hz, hev⟩ := hrel
    by_cases hlt : i < n
    · have ht := hth i hlt
      obtain ⟨v0, c0⟩ := Option.isSome_iff_exists.1 (ht 0 (by omega)).1
      obtain ⟨v1, c1⟩ := Option.isSome_iff_exists.1 (ht 1 (by omega)).1
      obtain ⟨v2, c2⟩ := Option.isSome_iff_exists.1 (ht 2 (by omega)).1
      obtain ⟨v3, c3⟩ := Option.isSome_iff_exists.1 (ht 3 (by omega)).1
      obtain ⟨v4, c4⟩ := Option.isSome_iff_exists.1 (ht 4 (by omega)).1
      obtain ⟨v5, c5⟩ := Option.isSome_iff_exists.1 (ht 5 (by omega)).1
      obtain ⟨v6, c6⟩ := Option.isSome_iff_exists.1 (ht 6 (by omega)).1
      have f0 := (ht 0 (by omega)).2
      have f1 := (ht 1 (by omega)).2
      have f2 := (ht 2 (by omega)).2
      have f3 := (ht 3 (by omega)).2
      have f4 := (ht 4 (by omega)).2
      have f5 := (ht 5 (by omega)).2
      have f6 := (ht 6 (by omega)).2
      rw [Nat.add_zero] at c0 f0
      have i0 : (0 : Int) ≤ (i : Int) := by omega
      have i1 : (i : Int) < (n : Int) := by omega
      have HT : Hid (∀ j, j < n → wr.there g (j * 7) 7) := hth
      have HG : Hid (w.grownBy wr (some g)) := hg
      have HZ : Hid (wr.heap.size = w.heap.size) := hz
      have HV : Hid (∀ b o n, w.there b o n → wr.there b o n) := hev
      clear ht hth hg hz hev
      generalize hK : k0 + ((i * 7 : Nat) : Int) = K
      have b1 : 0 ≤ K ∧ K ≤ 10000000000 := by omega
      obtain ⟨b2, b3⟩ := b1
      have EK : Hid (k0 + ((i * 7 : Nat) : Int) = K) := hK
      clear hK
      go_wp2
      go_roundw
      case rel =>
        have hK := EK.out
        refine ⟨i + 1, by omega, by go_num, by congr 1; omega, ?_, ?_, by simpa [World.setCell] using HZ.out, ?_⟩
        · intro j hj
          iterate 7 (refine there_set ?_ _ _ _)
          exact HT.out j hj
        · exact grown_over2 HG.out (grown_over2 (grown_over2 (grown_over2 (grown_over2 (grown_over2 (grown_over2 (grown_set wr ⟨g, i * 7, none⟩ _) (grown_set _ ⟨g, i * 7 + 1, none⟩ _)) (grown_set _ ⟨g, i * 7 + 2, none⟩ _)) (grown_set _ ⟨g, i * 7 + 3, none⟩ _)) (grown_set _ ⟨g, i * 7 + 4, none⟩ _)) (grown_set _ ⟨g, i * 7 + 5, none⟩ _)) (grown_set _ ⟨g, i * 7 + 6, none⟩ _))
        · intro b o n hbn
          iterate 7 (refine there_set ?_ _ _ _)
          exact HV.out b o n hbn
      case measure => simp [intOf]; omega
    · obtain rfl : i = n := by omega
      go_wp2
      go_ret
      exact ⟨rfl, hg, hz, hev⟩

/-- A row of those who hold something that can be written, with the lists of their paths; all of it from g up to hi. -/
structure MkPut (W : World) (g hi : Nat) (us : List Hd) : Prop where
  lt : g < hi
  le : hi ≤ W.heap.size
  there : ∀ i, i < us.length → W.there g (i * 13) 13
  sl : ∀ (i : Nat) (u : Hd), us[i]? = some u → W.cell? ⟨g, i * 13 + 4, none⟩ = some (.slice (some ⟨u.p.b0, 0, none⟩) u.p.l.length u.p.cap) ∧ W.cell? ⟨g, i * 13 + 10, none⟩ = some (.slice (some ⟨u.x.b0, 0, none⟩) u.x.l.length u.x.cap)
  pt : ∀ u ∈ us, (g < u.p.b0 ∧ u.p.b0 < hi ∧ ∀ i, i < u.p.l.length → W.there u.p.b0 (i * 7) 7) ∧ (g < u.x.b0 ∧ u.x.b0 < hi ∧ ∀ i, i < u.x.l.length → W.there u.x.b0 (i * 7) 7)
theorem MkPut.of {W : World} {g : Nat} {ts us : List Hd} (h : HdsPut W g ts us) : MkPut W g W.heap.size us := by
  have back : ∀ (i : Nat) (u : Hd), us[i]? = some u → ∃ t, HdPut W g t u ∧ W.rangeAt g (i * 13) u.cl := fun i u hu => by
    have hil : i < ts.length := by have := (List.getElem?_eq_some_iff.1 hu).1; have := h.len; omega
    obtain ⟨u', q1, q2, q3⟩ := h.at_ i ts[i] (List.getElem?_eq_getElem hil)
    rw [hu] at q1
    cases q1
    exact ⟨_, q2, q3⟩
  refine ⟨h.lt, Nat.le_refl _, fun i hi => h.there i (by have := h.len; omega), fun i u hu => ?_, fun u hu => ?_⟩
  · obtain ⟨t, q2, q3⟩ := back i u hu
    obtain ⟨a, b, rfl, _⟩ := q2.it
    exact ⟨q3 4 _ rfl, q3 10 _ rfl⟩
  · obtain ⟨i, hi⟩ := List.mem_iff_getElem?.1 hu
    obtain ⟨t, q2, q3⟩ := back i u hi
    obtain ⟨a, b, rfl, h1, h2, h3, h4, h5, h6⟩ := q2.it
    exact ⟨⟨h1, h3, h5⟩, ⟨h2, h4, h6⟩⟩
theorem MkPut.below {W W' : World} {g hi : Nat} {us : List Hd} (h : MkPut W g hi us) (hb : Below W.heap.size W W') : MkPut W' g hi us where
  lt := h.lt
  le := Nat.le_trans h.le hb.size
  there i hi' := there_below (h.there i hi') hb (Nat.lt_of_lt_of_le h.lt h.le)
  sl i u hu := ⟨(hb.cell (p := ⟨g, i * 13 + 4, none⟩) (Nat.lt_of_lt_of_le h.lt h.le)).trans (h.sl i u hu).1, (hb.cell (p := ⟨g, i * 13 + 10, none⟩) (Nat.lt_of_lt_of_le h.lt h.le)).trans (h.sl i u hu).2⟩
  pt u hu := by
    obtain ⟨⟨a1, a2, a3⟩, b1, b2, b3⟩ := h.pt u hu
    have := h.le
    exact ⟨⟨a1, a2, fun i hi' => there_below (a3 i hi') hb (by omega)⟩, b1, b2, fun i hi' => there_below (b3 i hi') hb (by omega)⟩
theorem MkPut.set {W : World} {g hi : Nat} {us : List Hd} (h : MkPut W g hi us) (i c : Nat) (hc : c < 13) (h4 : c ≠ 4) (h10 : c ≠ 10) (v : Value) : MkPut (W.setCell ⟨g, i * 13 + c, none⟩ v) g hi us where
  lt := h.lt
  le := by simpa [World.setCell] using h.le
  there j hj := there_set (h.there j hj) _ _ _
  sl j u hu := by
    refine ⟨?_, ?_⟩
    · exact (World.cell?_setCell_other W ⟨g, i * 13 + c, none⟩ ⟨g, j * 13 + 4, none⟩ v (by intro e; have e2 : i * 13 + c = j * 13 + 4 := congrArg Addr.off e; omega)).trans (h.sl j u hu).1
    · exact (World.cell?_setCell_other W ⟨g, i * 13 + c, none⟩ ⟨g, j * 13 + 10, none⟩ v (by intro e; have e2 : i * 13 + c = j * 13 + 10 := congrArg Addr.off e; omega)).trans (h.sl j u hu).2
  pt u hu := by
    obtain ⟨⟨a1, a2, a3⟩, b1, b2, b3⟩ := h.pt u hu
    exact ⟨⟨a1, a2, fun i hi' => there_set (a3 i hi') _ _ _⟩, b1, b2, fun i hi' => there_set (b3 i hi') _ _ _⟩
theorem MkPut.grown {W W' : World} {g hi b : Nat} {us : List Hd} (h : MkPut W g hi us) (hg : W.grownBy W' (some b)) (hb : g < b) (hv : ∀ b o n, W.there b o n → W'.there b o n) : MkPut W' g hi us where
  lt := h.lt
  le := Nat.le_trans h.le hg.size
  there j hj := hv _ _ _ (h.there j hj)
  sl j u hu := by
    have hk : W'.heap[g]? = W.heap[g]? := hg.block g (Nat.lt_of_lt_of_le h.lt h.le) (fun e => by cases e; omega)
    exact ⟨(World.cell?_of_block (a := ⟨g, j * 13 + 4, none⟩) hk).trans (h.sl j u hu).1, (World.cell?_of_block (a := ⟨g, j * 13 + 10, none⟩) hk).trans (h.sl j u hu).2⟩
  pt u hu := by
    obtain ⟨⟨a1, a2, a3⟩, b1, b2, b3⟩ := h.pt u hu
    exact ⟨⟨a1, a2, fun i hi' => hv _ _ _ (a3 i hi')⟩, b1, b2, fun i hi' => hv _ _ _ (b3 i hi')⟩

theorem in_range {g hi k : Nat} (h1 : g ≤ k) (h2 : k < hi) : k ∈ List.range' g (hi - g) := by rw [List.mem_range'_1]; omega
set_option maxHeartbeats 8000000 in
set_option maxRecDepth 40000 in
theorem markHelds_put (k0 : Int) (g hi cap : Nat) (us : List Hd) (w : World) (hn : us.length ≤ 1048576) (hsm : ∀ u ∈ us, u.p.l.length ≤ 1048576 ∧ u.x.l.length ≤ 1048576) (hk : 0 ≤ k0 ∧ k0 + (totH us : Int) ≤ 900000000) (h : MkPut w g hi us) :
    Calls Tryz.prog 42 #[.slice (some ⟨g, 0, none⟩) us.length cap, .int .i64 k0] w
      fun e w' => e = .returned (.int .i64 (k0 + (totH us : Int))) ∧ Spared (List.range' g (hi - g)) w w' := by
  obtain ⟨k1, k2⟩ := hk
  go_enter Tryz.func42, Tryz.ntmps42
  go_wp2
  go_loopw [1, 5] (fun v u wr => ∃ i : Nat, i ≤ us.length ∧ u = .int .i64 i ∧ v = .int .i64 (k0 + (totH (us.take i) : Int)) ∧ MkPut wr g hi us ∧ Spared (List.range' g (hi - g)) w wr) (fun _ u _ => us.length - (intOf u).toNat)
  case atStart => exact ⟨0, Nat.zero_le _, rfl, by simp [totH], h, Spared.refl _ _⟩
  case round =>
    clear h
    obtain ⟨i, hi', rfl, rfl, ho, hg⟩ := hrel
    by_cases hlt : i < us.length
    · obtain ⟨u, hu⟩ : ∃ u, us[i]? = some u := ⟨_, List.getElem?_eq_getElem hlt⟩
      have hm := List.mem_of_getElem? hu
      obtain ⟨hpl, hxl⟩ := hsm u hm
      have HU : Hid (us[i]? = some u) := hu
      have HO : Hid (MkPut wr g hi us) := ho
      have HG : Hid (Spared (List.range' g (hi - g)) w wr) := hg
      have hgl : g < wr.heap.size := Nat.lt_of_lt_of_le ho.lt ho.le
      have hgh : g < hi := ho.lt
      have i0 : (0 : Int) ≤ (i : Int) := by omega
      have i1 : (i : Int) < (us.length : Int) := by omega
      have htot : totH (us.take i) + hdSz u ≤ totH us := by rw [← totH_take hu]; exact totH_take_le _ _
      have HT : Hid (totH (us.take (i + 1)) = totH (us.take i) + hdSz u) := totH_take hu
      generalize hK : k0 + (totH (us.take i) : Int) = K at *
      have hz : hdSz u = 3 + (4 + u.p.l.length * 7) + (4 + u.x.l.length * 7) := rfl
      have b2 : 0 ≤ K := by omega
      have b3 : K + (hdSz u : Int) ≤ 900000000 := by omega
      have b4 : K ≤ 900000000 := by omega
      have EK : Hid (k0 + (totH (us.take i) : Int) = K) := hK
      have EZ : Hid (hdSz u = 3 + (4 + u.p.l.length * 7) + (4 + u.x.l.length * 7)) := hz
      have EB : Hid (K + (hdSz u : Int) ≤ 900000000) := b3
      clear ho hg hu hK hz b3 htot k1 k2
      obtain ⟨y0, c0⟩ := Option.isSome_iff_exists.1 ((HO.out.there i hlt) 0 (by omega)).1
      have f0 := ((HO.out.there i hlt) 0 (by omega)).2
      obtain ⟨y1, c1⟩ := Option.isSome_iff_exists.1 ((HO.out.there i hlt) 1 (by omega)).1
      have f1 := ((HO.out.there i hlt) 1 (by omega)).2
      obtain ⟨y2, c2⟩ := Option.isSome_iff_exists.1 ((HO.out.there i hlt) 2 (by omega)).1
      have f2 := ((HO.out.there i hlt) 2 (by omega)).2
      obtain ⟨y3, c3⟩ := Option.isSome_iff_exists.1 ((HO.out.there i hlt) 3 (by omega)).1
      have f3 := ((HO.out.there i hlt) 3 (by omega)).2
      obtain ⟨y5, c5⟩ := Option.isSome_iff_exists.1 ((HO.out.there i hlt) 5 (by omega)).1
      have f5 := ((HO.out.there i hlt) 5 (by omega)).2
      obtain ⟨y6, c6⟩ := Option.isSome_iff_exists.1 ((HO.out.there i hlt) 6 (by omega)).1
      have f6 := ((HO.out.there i hlt) 6 (by omega)).2
      obtain ⟨y7, c7⟩ := Option.isSome_iff_exists.1 ((HO.out.there i hlt) 7 (by omega)).1
      have f7 := ((HO.out.there i hlt) 7 (by omega)).2
      obtain ⟨y8, c8⟩ := Option.isSome_iff_exists.1 ((HO.out.there i hlt) 8 (by omega)).1
      have f8 := ((HO.out.there i hlt) 8 (by omega)).2
      obtain ⟨y9, c9⟩ := Option.isSome_iff_exists.1 ((HO.out.there i hlt) 9 (by omega)).1
      have f9 := ((HO.out.there i hlt) 9 (by omega)).2
      obtain ⟨y11, c11⟩ := Option.isSome_iff_exists.1 ((HO.out.there i hlt) 11 (by omega)).1
      have f11 := ((HO.out.there i hlt) 11 (by omega)).2
      obtain ⟨y12, c12⟩ := Option.isSome_iff_exists.1 ((HO.out.there i hlt) 12 (by omega)).1
      have f12 := ((HO.out.there i hlt) 12 (by omega)).2
      obtain ⟨c4, c10⟩ := HO.out.sl i u HU.out
      rw [Nat.add_zero] at c0 f0
      go_wp2_with fail
      refine (markText_any K _ b2 (by omega)).mono ?_
      rintro e w1 ⟨rfl, hb1⟩
      have Q1 := HO.out.below hb1
      have HQ1 : Hid (MkPut w1 g hi us) := Q1
      have HS1 : Hid (Spared (List.range' g (hi - g)) wr w1) := Spared.below hb1
      clear c0 c1 c2 c3 c4 c5 c6 c7 c8 c9 c10 c11 c12 f0 f1 f2 f3 f5 f6 f7 f8 f9 f11 f12
      clear Q1 hb1
      obtain ⟨y0, c0⟩ := Option.isSome_iff_exists.1 ((HQ1.out.there i hlt) 0 (by omega)).1
      have f0 := ((HQ1.out.there i hlt) 0 (by omega)).2
      obtain ⟨y1, c1⟩ := Option.isSome_iff_exists.1 ((HQ1.out.there i hlt) 1 (by omega)).1
      have f1 := ((HQ1.out.there i hlt) 1 (by omega)).2
      obtain ⟨y2, c2⟩ := Option.isSome_iff_exists.1 ((HQ1.out.there i hlt) 2 (by omega)).1
      have f2 := ((HQ1.out.there i hlt) 2 (by omega)).2
      obtain ⟨y3, c3⟩ := Option.isSome_iff_exists.1 ((HQ1.out.there i hlt) 3 (by omega)).1
      have f3 := ((HQ1.out.there i hlt) 3 (by omega)).2
      obtain ⟨y5, c5⟩ := Option.isSome_iff_exists.1 ((HQ1.out.there i hlt) 5 (by omega)).1
      have f5 := ((HQ1.out.there i hlt) 5 (by omega)).2
      obtain ⟨y6, c6⟩ := Option.isSome_iff_exists.1 ((HQ1.out.there i hlt) 6 (by omega)).1
      have f6 := ((HQ1.out.there i hlt) 6 (by omega)).2
      obtain ⟨y7, c7⟩ := Option.isSome_iff_exists.1 ((HQ1.out.there i hlt) 7 (by omega)).1
      have f7 := ((HQ1.out.there i hlt) 7 (by omega)).2
      obtain ⟨y8, c8⟩ := Option.isSome_iff_exists.1 ((HQ1.out.there i hlt) 8 (by omega)).1
      have f8 := ((HQ1.out.there i hlt) 8 (by omega)).2
      obtain ⟨y9, c9⟩ := Option.isSome_iff_exists.1 ((HQ1.out.there i hlt) 9 (by omega)).1
      have f9 := ((HQ1.out.there i hlt) 9 (by omega)).2
      obtain ⟨y11, c11⟩ := Option.isSome_iff_exists.1 ((HQ1.out.there i hlt) 11 (by omega)).1
      have f11 := ((HQ1.out.there i hlt) 11 (by omega)).2
      obtain ⟨y12, c12⟩ := Option.isSome_iff_exists.1 ((HQ1.out.there i hlt) 12 (by omega)).1
      have f12 := ((HQ1.out.there i hlt) 12 (by omega)).2
      obtain ⟨c4, c10⟩ := HQ1.out.sl i u HU.out
      rw [Nat.add_zero] at c0 f0
      go_wp2_with fail
      have Q2 := ((((HQ1.out).set i 0 (by omega) (by omega) (by omega) (.string (mtOf K))).set i 1 (by omega) (by omega) (by omega) (.int .i64 (K + 1))).set i 2 (by omega) (by omega) (by omega) (.int .i64 (K + 1 + 1))).set i 3 (by omega) (by omega) (by omega) (.int .i64 (K + 1 + 1 + 1))
      refine (markSteps_put (K + 1 + 1 + 1 + 1) u.p.b0 u.p.cap u.p.l.length _ hpl ⟨by omega, by omega⟩ (Q2.pt u hm).1.2.2).mono ?_
      rintro e w3 ⟨rfl, g3, _, v3⟩
      have p3 := (Q2.pt u hm).1
      have HQ3 : Hid (MkPut w3 g hi us) := Q2.grown g3 p3.1 v3
      have HS3 : Hid (Spared (List.range' g (hi - g)) wr w3) := HS1.out.trans ((Spared.grown (grown_over2 (grown_over2 (grown_over2 (grown_set w1 ⟨g, i * 13 + 0, none⟩ (.string (mtOf K))) (grown_set _ ⟨g, i * 13 + 1, none⟩ (.int .i64 (K + 1)))) (grown_set _ ⟨g, i * 13 + 2, none⟩ (.int .i64 (K + 1 + 1)))) (grown_set _ ⟨g, i * 13 + 3, none⟩ (.int .i64 (K + 1 + 1 + 1)))) (fun k hk => by cases hk; exact in_range (Nat.le_refl _) hgh)).trans (Spared.grown g3 (fun k hk => by cases hk; exact in_range (by omega) p3.2.1)))
      clear c0 c1 c2 c3 c4 c5 c6 c7 c8 c9 c10 c11 c12 f0 f1 f2 f3 f5 f6 f7 f8 f9 f11 f12
      clear Q2 g3 v3 p3
      obtain ⟨y0, c0⟩ := Option.isSome_iff_exists.1 ((HQ3.out.there i hlt) 0 (by omega)).1
      have f0 := ((HQ3.out.there i hlt) 0 (by omega)).2
      obtain ⟨y1, c1⟩ := Option.isSome_iff_exists.1 ((HQ3.out.there i hlt) 1 (by omega)).1
      have f1 := ((HQ3.out.there i hlt) 1 (by omega)).2
      obtain ⟨y2, c2⟩ := Option.isSome_iff_exists.1 ((HQ3.out.there i hlt) 2 (by omega)).1
      have f2 := ((HQ3.out.there i hlt) 2 (by omega)).2
      obtain ⟨y3, c3⟩ := Option.isSome_iff_exists.1 ((HQ3.out.there i hlt) 3 (by omega)).1
      have f3 := ((HQ3.out.there i hlt) 3 (by omega)).2
      obtain ⟨y5, c5⟩ := Option.isSome_iff_exists.1 ((HQ3.out.there i hlt) 5 (by omega)).1
      have f5 := ((HQ3.out.there i hlt) 5 (by omega)).2
      obtain ⟨y6, c6⟩ := Option.isSome_iff_exists.1 ((HQ3.out.there i hlt) 6 (by omega)).1
      have f6 := ((HQ3.out.there i hlt) 6 (by omega)).2
      obtain ⟨y7, c7⟩ := Option.isSome_iff_exists.1 ((HQ3.out.there i hlt) 7 (by omega)).1
      have f7 := ((HQ3.out.there i hlt) 7 (by omega)).2
      obtain ⟨y8, c8⟩ := Option.isSome_iff_exists.1 ((HQ3.out.there i hlt) 8 (by omega)).1
      have f8 := ((HQ3.out.there i hlt) 8 (by omega)).2
      obtain ⟨y9, c9⟩ := Option.isSome_iff_exists.1 ((HQ3.out.there i hlt) 9 (by omega)).1
      have f9 := ((HQ3.out.there i hlt) 9 (by omega)).2
      obtain ⟨y11, c11⟩ := Option.isSome_iff_exists.1 ((HQ3.out.there i hlt) 11 (by omega)).1
      have f11 := ((HQ3.out.there i hlt) 11 (by omega)).2
      obtain ⟨y12, c12⟩ := Option.isSome_iff_exists.1 ((HQ3.out.there i hlt) 12 (by omega)).1
      have f12 := ((HQ3.out.there i hlt) 12 (by omega)).2
      obtain ⟨c4, c10⟩ := HQ3.out.sl i u HU.out
      rw [Nat.add_zero] at c0 f0
      obtain ⟨M, hM⟩ : ∃ M : Int, K + 1 + 1 + 1 + 1 + ((u.p.l.length * 7 : Nat) : Int) = M := ⟨_, rfl⟩
      rw [hM]
      have EM : Hid (K + 1 + 1 + 1 + 1 + ((u.p.l.length * 7 : Nat) : Int) = M) := hM
      have bz := EZ.out
      have bb := EB.out
      have m0 : 0 ≤ M := by omega
      have m1 : M ≤ 910000000 := by omega
      clear hM bz bb
      go_wp2_with fail
      have Q4 := (((((HQ3.out).set i 5 (by omega) (by omega) (by omega) (.int .i64 (M))).set i 6 (by omega) (by omega) (by omega) (.int .i64 (M + 1))).set i 7 (by omega) (by omega) (by omega) (.int .i64 (M + 1 + 1))).set i 8 (by omega) (by omega) (by omega) (.int .i64 (M + 1 + 1 + 1))).set i 9 (by omega) (by omega) (by omega) (.int .i64 (M + 1 + 1 + 1 + 1))
      refine (markSteps_put (M + 1 + 1 + 1 + 1 + 1) u.x.b0 u.x.cap u.x.l.length _ hxl ⟨by omega, by omega⟩ (Q4.pt u hm).2.2.2).mono ?_
      rintro e w5 ⟨rfl, g5, _, v5⟩
      have p5 := (Q4.pt u hm).2
      have HQ5 : Hid (MkPut w5 g hi us) := Q4.grown g5 p5.1 v5
      have HS5 : Hid (Spared (List.range' g (hi - g)) wr w5) := HS3.out.trans ((Spared.grown (grown_over2 (grown_over2 (grown_over2 (grown_over2 (grown_set w3 ⟨g, i * 13 + 5, none⟩ (.int .i64 (M))) (grown_set _ ⟨g, i * 13 + 6, none⟩ (.int .i64 (M + 1)))) (grown_set _ ⟨g, i * 13 + 7, none⟩ (.int .i64 (M + 1 + 1)))) (grown_set _ ⟨g, i * 13 + 8, none⟩ (.int .i64 (M + 1 + 1 + 1)))) (grown_set _ ⟨g, i * 13 + 9, none⟩ (.int .i64 (M + 1 + 1 + 1 + 1)))) (fun k hk => by cases hk; exact in_range (Nat.le_refl _) hgh)).trans (Spared.grown g5 (fun k hk => by cases hk; exact in_range (by omega) p5.2.1)))
      clear c0 c1 c2 c3 c4 c5 c6 c7 c8 c9 c10 c11 c12 f0 f1 f2 f3 f5 f6 f7 f8 f9 f11 f12
      clear Q4 g5 v5 p5
      obtain ⟨y0, c0⟩ := Option.isSome_iff_exists.1 ((HQ5.out.there i hlt) 0 (by omega)).1
      have f0 := ((HQ5.out.there i hlt) 0 (by omega)).2
      obtain ⟨y1, c1⟩ := Option.isSome_iff_exists.1 ((HQ5.out.there i hlt) 1 (by omega)).1
      have f1 := ((HQ5.out.there i hlt) 1 (by omega)).2
      obtain ⟨y2, c2⟩ := Option.isSome_iff_exists.1 ((HQ5.out.there i hlt) 2 (by omega)).1
      have f2 := ((HQ5.out.there i hlt) 2 (by omega)).2
      obtain ⟨y3, c3⟩ := Option.isSome_iff_exists.1 ((HQ5.out.there i hlt) 3 (by omega)).1
      have f3 := ((HQ5.out.there i hlt) 3 (by omega)).2
      obtain ⟨y5, c5⟩ := Option.isSome_iff_exists.1 ((HQ5.out.there i hlt) 5 (by omega)).1
      have f5 := ((HQ5.out.there i hlt) 5 (by omega)).2
      obtain ⟨y6, c6⟩ := Option.isSome_iff_exists.1 ((HQ5.out.there i hlt) 6 (by omega)).1
      have f6 := ((HQ5.out.there i hlt) 6 (by omega)).2
      obtain ⟨y7, c7⟩ := Option.isSome_iff_exists.1 ((HQ5.out.there i hlt) 7 (by omega)).1
      have f7 := ((HQ5.out.there i hlt) 7 (by omega)).2
      obtain ⟨y8, c8⟩ := Option.isSome_iff_exists.1 ((HQ5.out.there i hlt) 8 (by omega)).1
      have f8 := ((HQ5.out.there i hlt) 8 (by omega)).2
      obtain ⟨y9, c9⟩ := Option.isSome_iff_exists.1 ((HQ5.out.there i hlt) 9 (by omega)).1
      have f9 := ((HQ5.out.there i hlt) 9 (by omega)).2
      obtain ⟨y11, c11⟩ := Option.isSome_iff_exists.1 ((HQ5.out.there i hlt) 11 (by omega)).1
      have f11 := ((HQ5.out.there i hlt) 11 (by omega)).2
      obtain ⟨y12, c12⟩ := Option.isSome_iff_exists.1 ((HQ5.out.there i hlt) 12 (by omega)).1
      have f12 := ((HQ5.out.there i hlt) 12 (by omega)).2
      obtain ⟨c4, c10⟩ := HQ5.out.sl i u HU.out
      rw [Nat.add_zero] at c0 f0
      obtain ⟨N, hN⟩ : ∃ N : Int, M + 1 + 1 + 1 + 1 + 1 + ((u.x.l.length * 7 : Nat) : Int) = N := ⟨_, rfl⟩
      rw [hN]
      have EN : Hid (M + 1 + 1 + 1 + 1 + 1 + ((u.x.l.length * 7 : Nat) : Int) = N) := hN
      have bz := EZ.out
      have bb := EB.out
      have n0 : 0 ≤ N := by omega
      have n1 : N ≤ 920000000 := by omega
      clear hN bz bb
      go_wp2
      go_roundw
      case rel =>
        have e1 := EM.out
        have e2 := EN.out
        have e3 := EZ.out
        have e4 := EK.out
        have e5 := HT.out
        exact ⟨i + 1, by omega, by go_num, by congr 1; omega, ((HQ5.out).set i 11 (by omega) (by omega) (by omega) (.int .i64 (N))).set i 12 (by omega) (by omega) (by omega) (.int .i64 (N + 1)), HG.out.trans (HS5.out.trans (Spared.grown (grown_over2 (grown_set w5 ⟨g, i * 13 + 11, none⟩ (.int .i64 (N))) (grown_set _ ⟨g, i * 13 + 12, none⟩ (.int .i64 (N + 1)))) (fun k hk => by cases hk; exact in_range (Nat.le_refl _) hgh)))⟩
      case measure => simp [intOf]; omega
    · obtain rfl : i = us.length := by omega
      go_wp2
      go_ret
      exact ⟨by rw [List.take_length]; rfl, hg⟩

theorem markBook_put (la k0 : Int) (g hi cap : Nat) (us : List Hd) (w : World) (hn : us.length ≤ 1048576) (hsm : ∀ u ∈ us, u.p.l.length ≤ 1048576 ∧ u.x.l.length ≤ 1048576) (hk : 0 ≤ k0 ∧ k0 + (totH us : Int) ≤ 900000000) (h : MkPut w g hi us) :
    Calls Tryz.prog 14 #[.agg #[.int .i64 la, .slice (some ⟨g, 0, none⟩) us.length cap], .int .i64 k0] w fun e w' => e = .returned (.int .i64 (k0 + (totH us : Int))) ∧ Spared (List.range' g (hi - g)) w w' := by
  have K0 := bel1 (w := w) (.cells #[.int .i64 la, .slice (some ⟨g, 0, none⟩) us.length cap] 34)
  go_enter Tryz.func14, Tryz.ntmps14
  go_wp2_with fail
  refine (markHelds_put k0 g hi cap us _ hn hsm hk (h.below K0)).mono ?_
  rintro e w1 ⟨rfl, s1⟩
  go_wp2
  go_ret
  exact ⟨rfl, (Spared.below K0).trans s1⟩
end Go.Proofs.YtgjleeamhkolhaaGreatDoor

namespace Go.Proofs.YtgjleeamhkolhaaGreatDoor
open Go.RowKit

/-- All blocks but those from lo up to hi are as they were. -/
abbrev Iv (lo hi : Nat) (W W' : World) : Prop := Spared (List.range' lo (hi - lo)) W W'
theorem Iv.out {lo hi k : Nat} (h : k < lo ∨ hi ≤ k) : k ∉ List.range' lo (hi - lo) := nin_range h
theorem Iv.below {lo hi : Nat} {W W' : World} (h : Below W.heap.size W W') : Iv lo hi W W' := Spared.below h
theorem Iv.toBelow {lo hi B : Nat} {a w w' : World} (h : Iv lo hi w w') (h0 : Below B a w) (hB : B ≤ w.heap.size) (hl : B ≤ lo) : Below B a w' := Spared.toBelow h h0 hB (range_ge hl)
theorem Cbx.iv {lo hi B : Nat} {W W' : World} {vs : Array Value} (h : Cbx W B vs) (hs : Iv lo hi W W') (hn : B < lo ∨ hi ≤ B) : Cbx W' B vs := h.spared hs (Iv.out hn)
theorem Iv.of {S : List Nat} {lo hi : Nat} {W W' : World} (h : Spared S W W') (hS : ∀ k ∈ S, lo ≤ k ∧ k < hi) : Iv lo hi W W' := h.mono (fun k hk => in_range (hS k hk).1 (hS k hk).2)

theorem hdSz_key {t u : Hd} (h : t.key = u.key) : hdSz t = hdSz u := by
  simp only [Hd.key, Pt.key, Prod.mk.injEq] at h
  unfold hdSz ptSz
  rw [h.2.2.1.2.2.2.2, h.2.2.2.2.2.2.2.2]
theorem totH_keys : ∀ {us vs : List Hd}, us.map Hd.key = vs.map Hd.key → totH us = totH vs
  | [], [], _ => rfl
  | [], _ :: _, h => by simp at h
  | _ :: _, [], h => by simp at h
  | u :: us, v :: vs, h => by
    simp only [List.map_cons, List.cons.injEq] at h
    simp only [totH]
    rw [hdSz_key h.1, totH_keys h.2]
theorem len_keys {us vs : List Hd} (h : us.map Hd.key = vs.map Hd.key) : us.length = vs.length := by simpa using congrArg List.length h
theorem small_keys {us vs : List Hd} (h : us.map Hd.key = vs.map Hd.key) (hs : ∀ t ∈ vs, t.p.l.length ≤ 1048576 ∧ t.x.l.length ≤ 1048576) : ∀ t ∈ us, t.p.l.length ≤ 1048576 ∧ t.x.l.length ≤ 1048576 := fun t ht => by
  obtain ⟨i, hi⟩ := List.mem_iff_getElem?.1 ht
  have e : (us.map Hd.key)[i]? = some t.key := by rw [List.getElem?_map, hi]; rfl
  rw [h, List.getElem?_map] at e
  obtain ⟨v, hv, he⟩ := Option.map_eq_some_iff.1 e
  have := hs v (List.mem_of_getElem? hv)
  simp only [Hd.key, Pt.key, Prod.mk.injEq] at he
  rw [← he.2.2.1.2.2.2.2, ← he.2.2.2.2.2.2.2.2]
  exact this

/-! ### The copy of a book -/
structure BkPut (W : World) (g hi : Nat) (ts : List Hd) : Prop where
  it : ∃ us, HdsPut W g ts us ∧ MkPut W g hi us
section
variable {W W' : World} {g hi : Nat} {ts : List Hd}
theorem BkPut.below (h : BkPut W g hi ts) (hb : Below W.heap.size W W') : BkPut W' g hi ts := by
  obtain ⟨us, h1, h2⟩ := h.it
  exact ⟨us, h1.below hb, h2.below hb⟩
theorem BkPut.lt (h : BkPut W g hi ts) : g < hi ∧ hi ≤ W.heap.size := by
  obtain ⟨us, _, h2⟩ := h.it
  exact ⟨h2.lt, h2.le⟩
theorem BkPut.eq {g' hi' : Nat} (la : Int) (h : BkPut W g hi ts) (h' : BkPut W g' hi' ts) (hl : ts.length ≤ 1048576) (hs : ∀ t ∈ ts, t.p.l.length ≤ 1048576 ∧ t.x.l.length ≤ 1048576) :
    Calls Tryz.prog 11 #[.agg #[.int .i64 la, .slice (some ⟨g, 0, none⟩) ts.length ts.length], .agg #[.int .i64 la, .slice (some ⟨g', 0, none⟩) ts.length ts.length]] W fun e w' => e = .returned (.bool true) ∧ Below W.heap.size W w' := by
  obtain ⟨us, h1, _⟩ := h.it
  obtain ⟨vs, h3, _⟩ := h'.it
  have := eqBook_same la (some ⟨g, 0, none⟩) (some ⟨g', 0, none⟩) g 0 ts.length g' 0 ts.length us vs W (by rw [h1.len]; exact hl) (h1.copied.keys.trans h3.copied.keys.symm) (h1.copied.small hs) h1.rows h3.rows
  rw [h1.len] at this
  exact this
theorem BkPut.mark (la k0 : Int) (h : BkPut W g hi ts) (hl : ts.length ≤ 1048576) (hs : ∀ t ∈ ts, t.p.l.length ≤ 1048576 ∧ t.x.l.length ≤ 1048576) (hk : 0 ≤ k0 ∧ k0 + (totH ts : Int) ≤ 900000000) :
    Calls Tryz.prog 14 #[.agg #[.int .i64 la, .slice (some ⟨g, 0, none⟩) ts.length ts.length], .int .i64 k0] W fun e w' => e = .returned (.int .i64 (k0 + (totH ts : Int))) ∧ Iv g hi W w' := by
  obtain ⟨us, h1, h2⟩ := h.it
  have e := totH_keys h1.copied.keys
  have := markBook_put la k0 g hi ts.length us W (by rw [h1.len]; exact hl) (h1.copied.small hs) (by rw [e]; exact hk) h2
  rw [h1.len, e] at this
  exact this
theorem BkPut.iv {lo' hi' : Nat} (h : BkPut W g hi ts) (hs : Iv lo' hi' W W') (hd : hi ≤ lo' ∨ hi' ≤ g) : BkPut W' g hi ts := by
  obtain ⟨us, h1, h2⟩ := h.it
  have hk : ∀ k, g ≤ k → k < hi → W'.heap[k]? = W.heap[k]? := fun k a b => hs.block k (Nat.lt_of_lt_of_le b h2.le) (Iv.out (by omega))
  have hg := hk g (Nat.le_refl _) h2.lt
  have th : ∀ {b o n : Nat}, g ≤ b → b < hi → W.there b o n → W'.there b o n := fun {b o n} a b' ht j hj => ⟨by rw [World.cell?_of_block (a := ⟨b, o + j, none⟩) (hk b a b')]; exact (ht j hj).1, by rw [World.frozen?_of_block (a := ⟨b, o + j, none⟩) (hk b a b')]; exact (ht j hj).2⟩
  refine ⟨us, ⟨Nat.lt_of_lt_of_le h1.lt hs.size, h1.len, fun i hi' => th (Nat.le_refl _) h2.lt (h1.there i hi'), fun i t hi' => ?_⟩, ⟨h2.lt, Nat.le_trans h2.le hs.size, fun i hi' => th (Nat.le_refl _) h2.lt (h2.there i hi'), fun i u hu => ?_, fun u hu => ?_⟩⟩
  · obtain ⟨u, q1, q2, q3⟩ := h1.at_ i t hi'
    have hmem := h2.pt u (List.mem_of_getElem? q1)
    refine ⟨u, q1, ⟨?_, ?_⟩, fun j v hv => by rw [World.cell?_of_block (a := ⟨g, i * 13 + j, none⟩) hg]; exact q3 j v hv⟩
    · obtain ⟨a, b, rfl, r1, r2, r3, r4, r5, r6⟩ := q2.it
      exact ⟨a, b, rfl, r1, r2, Nat.lt_of_lt_of_le r3 hs.size, Nat.lt_of_lt_of_le r4 hs.size, fun i hi' => th (Nat.le_of_lt hmem.1.1) hmem.1.2.1 (r5 i hi'), fun i hi' => th (Nat.le_of_lt hmem.2.1) hmem.2.2.1 (r6 i hi')⟩
    · obtain ⟨a, b, rfl, _⟩ := q2.it
      have k1 := hk a (Nat.le_of_lt hmem.1.1) hmem.1.2.1
      have k2 := hk b (Nat.le_of_lt hmem.2.1) hmem.2.2.1
      exact ⟨⟨q2.at_.p.here, fun hn => Nat.lt_of_lt_of_le (q2.at_.p.lt hn) hs.size, fun i s hi' j v hv => by rw [World.cell?_of_block (w := W) (a := ⟨a, 0 + i * 7 + j, none⟩) k1]; exact q2.at_.p.cell i s hi' j v hv⟩,
        ⟨q2.at_.x.here, fun hn => Nat.lt_of_lt_of_le (q2.at_.x.lt hn) hs.size, fun i s hi' j v hv => by rw [World.cell?_of_block (w := W) (a := ⟨b, 0 + i * 7 + j, none⟩) k2]; exact q2.at_.x.cell i s hi' j v hv⟩⟩
  · exact ⟨(World.cell?_of_block (a := ⟨g, i * 13 + 4, none⟩) hg).trans (h2.sl i u hu).1, (World.cell?_of_block (a := ⟨g, i * 13 + 10, none⟩) hg).trans (h2.sl i u hu).2⟩
  · have hmem := h2.pt u hu
    exact ⟨⟨hmem.1.1, hmem.1.2.1, fun i hi' => th (Nat.le_of_lt hmem.1.1) hmem.1.2.1 (hmem.1.2.2 i hi')⟩, hmem.2.1, hmem.2.2.1, fun i hi' => th (Nat.le_of_lt hmem.2.1) hmem.2.2.1 (hmem.2.2.2 i hi')⟩
end
theorem toBook_put (t : Bk) (w : World) (hl : t.ts.length ≤ 1048576) (hsm : ∀ u ∈ t.ts, u.p.l.length ≤ 1048576 ∧ u.x.l.length ≤ 1048576) (hs : BkAt w t) :
    Calls Tryz.prog 8 #[t.val] w fun e w' => ∃ g, e = .returned (.agg #[.int .i64 t.la, .slice (some ⟨g, 0, none⟩) t.ts.length t.ts.length]) ∧ w.heap.size ≤ g ∧ BkPut w' g w'.heap.size t.ts ∧ Below w.heap.size w w' :=
  (toBook_any t w hl hsm hs).mono fun _ _ ⟨g, us, h1, h2, h3, h4⟩ => ⟨g, h1, h2, ⟨us, h3, MkPut.of h3⟩, h4⟩

/-! ### An answer that is a book -/
abbrev HKey := ByteArray × Int × (Int × Int × Int × Int × List Stp) × Int × (Int × Int × Int × Int × List Stp)
def totK : List HKey → Nat
  | [] => 0
  | k :: ks => 3 + (4 + k.2.2.1.2.2.2.2.length * 7) + (4 + k.2.2.2.2.2.2.2.2.length * 7) + totK ks
theorem totK_of : ∀ us : List Hd, totK (us.map Hd.key) = totH us
  | [] => rfl
  | u :: us => by simp only [List.map_cons, totK, totH, totK_of us]; rfl
def smallK (ks : List HKey) : Prop := ∀ k ∈ ks, k.2.2.1.2.2.2.2.length ≤ 1048576 ∧ k.2.2.2.2.2.2.2.2.length ≤ 1048576
theorem smallK_of {us : List Hd} (h : smallK (us.map Hd.key)) : ∀ u ∈ us, u.p.l.length ≤ 1048576 ∧ u.x.l.length ≤ 1048576 := fun u hu => h u.key (List.mem_map_of_mem hu)
structure BkAns (W : World) (lo hi : Nat) (v : Value) (ks : List HKey) : Prop where
  it : ∃ us, BkOwn W lo v us ∧ us.map Hd.key = ks ∧ ∀ k ∈ bkBlks v us, k < hi
section
variable {W W' : World} {lo hi : Nat} {v : Value} {ks : List HKey}
theorem BkAns.of {us : List Hd} (h : BkOwn W lo v us) : BkAns W lo W.heap.size v (us.map Hd.key) := ⟨us, h, rfl, fun k hk => (h.lt k hk).2⟩
theorem BkAns.below (h : BkAns W lo hi v ks) (hb : Below W.heap.size W W') : BkAns W' lo hi v ks := by
  obtain ⟨us, h1, h2, h3⟩ := h.it
  exact ⟨us, h1.below hb, h2, h3⟩
theorem BkAns.iv {lo' hi' : Nat} (h : BkAns W lo hi v ks) (hs : Iv lo' hi' W W') (hd : hi ≤ lo' ∨ hi' ≤ lo) : BkAns W' lo hi v ks := by
  obtain ⟨us, h1, h2, h3⟩ := h.it
  exact ⟨us, h1.spared hs (fun k hk => Iv.out (by have := h3 k hk; have := (h1.lt k hk).1; omega)), h2, h3⟩
theorem BkAns.slice (h : BkAns W lo hi v ks) : ∃ a c, v = .slice a ks.length c := by
  obtain ⟨us, h1, rfl, _⟩ := h.it
  obtain ⟨a, c, e⟩ := own_slice h1.row
  exact ⟨a, c, by rw [List.length_map]; exact e⟩
theorem BkAns.eq {lo' hi' : Nat} {v' : Value} (la : Int) (h : BkAns W lo hi v ks) (h' : BkAns W lo' hi' v' ks) (hl : ks.length ≤ 1048576) (hs : smallK ks) :
    Calls Tryz.prog 11 #[.agg #[.int .i64 la, v], .agg #[.int .i64 la, v']] W fun e w' => e = .returned (.bool true) ∧ Below W.heap.size W w' := by
  obtain ⟨us, h1, h2, _⟩ := h.it
  obtain ⟨vs, h3, h4, _⟩ := h'.it
  obtain ⟨a, g, cap, rfl, hA⟩ := h1.at_
  obtain ⟨a', g', cap', rfl, hB⟩ := h3.at_
  have hlen : us.length = vs.length := len_keys (h2.trans h4.symm)
  have hul : us.length = ks.length := by rw [← h2, List.length_map]
  have := eqBook_same la a a' g 0 cap g' 0 cap' (us.map Hd.at0) (vs.map Hd.at0) W (by rw [List.length_map, hul]; exact hl) (by rw [at0_keys, at0_keys, h2, h4]) (fun t ht => by
    obtain ⟨u, hu, rfl⟩ := List.mem_map.1 ht
    exact smallK_of (by rw [h2]; exact hs) u hu) hA hB
  rw [List.length_map] at this
  rw [← hlen]
  exact this
/-- Marked. -/
structure BkMk (W : World) (lo hi : Nat) (k0 : Int) (v : Value) (ks : List HKey) : Prop where
  it : ∃ us, BkOwn W lo v (markHds k0 us) ∧ us.map Hd.key = ks ∧ ∀ k ∈ bkBlks v us, k < hi
theorem bkBlks_mark (v : Value) (k0 : Int) (us : List Hd) : bkBlks v (markHds k0 us) = bkBlks v us := by unfold bkBlks; rw [markHds_blks]
theorem BkMk.below {k0 : Int} (h : BkMk W lo hi k0 v ks) (hb : Below W.heap.size W W') : BkMk W' lo hi k0 v ks := by
  obtain ⟨us, h1, h2, h3⟩ := h.it
  exact ⟨us, h1.below hb, h2, h3⟩
theorem BkMk.iv {lo' hi' : Nat} {k0 : Int} (h : BkMk W lo hi k0 v ks) (hs : Iv lo' hi' W W') (hd : hi ≤ lo' ∨ hi' ≤ lo) : BkMk W' lo hi k0 v ks := by
  obtain ⟨us, h1, h2, h3⟩ := h.it
  exact ⟨us, h1.spared hs (fun k hk => Iv.out (by have := (h1.lt k hk).1; rw [bkBlks_mark] at hk; have := h3 k hk; omega)), h2, h3⟩
theorem BkAns.mark (la k0 : Int) (h : BkAns W lo hi v ks) (hl : ks.length ≤ 1048576) (hs : smallK ks) (hk : 0 ≤ k0 ∧ k0 + (totK ks : Int) ≤ 900000000) :
    Calls Tryz.prog 14 #[.agg #[.int .i64 la, v], .int .i64 k0] W fun e w' => e = .returned (.int .i64 (k0 + (totK ks : Int))) ∧ BkMk w' lo hi k0 v ks ∧ Iv lo hi W w' := by
  obtain ⟨us, h1, rfl, h3⟩ := h.it
  rw [totK_of] at hk ⊢
  rw [List.length_map] at hl
  refine (markBook_own la k0 v lo us W hl (smallK_of hs) hk h1).mono ?_
  rintro e w' ⟨h4, h5, h6⟩
  exact ⟨h4, ⟨us, h5, rfl, h3⟩, Iv.of h6 (fun k hk => ⟨(h1.lt k hk).1, h3 k hk⟩)⟩
theorem BkMk.held {k0 : Int} (la : Int) (h : BkMk W lo hi k0 v ks) (hl : ks.length ≤ 1048576) (hs : smallK ks) (hk : 0 ≤ k0 ∧ k0 + (totK ks : Int) ≤ 900000000) :
    Calls Tryz.prog 17 #[.agg #[.int .i64 la, v], .int .i64 k0] W fun e w' => e = .returned (.int .i64 (k0 + (totK ks : Int))) ∧ Below W.heap.size W w' := by
  obtain ⟨us, h1, rfl, h3⟩ := h.it
  rw [totK_of] at hk ⊢
  rw [List.length_map] at hl
  exact heldBook_own la k0 v lo us W hl (smallK_of hs) hk h1
end
/-- What a measure that is left says of the marks. -/
theorem tot_left : ∀ (ts : List Hd) (left : Int), -1 ≤ left → left ≤ 1048576 → 0 ≤ ts.foldl leftH left → (totH ts : Int) ≤ 11 * (ts.length : Int) + 7 * (left - ts.foldl leftH left)
  | [], left, _, _, _ => by simp [totH]
  | t :: ts, left, h0, h1, h => by
    rw [List.foldl_cons] at h
    have hr := leftH_left left t h1
    have ht : 0 ≤ leftH left t := by
      rcases Int.lt_or_le (leftH left t) 0 with hn | hn
      · rw [foldH_neg ts _ (by omega)] at h; omega
      · exact hn
    have ih := tot_left ts (leftH left t) hr.1 hr.2 h
    have hsz : (hdSz t : Int) ≤ 11 + 7 * (left - leftH left t) := by
      unfold leftH leftN leftB at ht ⊢
      unfold hdSz ptSz
      repeat' split at ht
      all_goals (repeat' split)
      all_goals omega
    simp only [totH, List.length_cons, List.foldl_cons]
    push_cast
    omega
theorem tot_book {ts : List Hd} {left : Int} (h0 : -1 ≤ left) (h1 : left ≤ 1048576) (h : ¬ leftHs left ts < 0) : ts.length ≤ 1048576 ∧ (∀ t ∈ ts, t.p.l.length ≤ 1048576 ∧ t.x.l.length ≤ 1048576) ∧ (totH ts : Int) ≤ 20000000 ∧ -1 ≤ leftHs left ts ∧ leftHs left ts ≤ 1048576 := by
  have hx := leftB_left left ts.length h0 h1
  have hr := foldH_range ts (leftB left ts.length) hx.1 hx.2
  unfold leftHs at h ⊢
  have hb : ¬ leftB left ts.length < 0 := by
    intro hn
    rw [foldH_neg ts _ (by omega)] at h
    omega
  have hl : (ts.length : Int) ≤ 1048576 := by
    unfold leftB at hb
    split at hb
    · omega
    · omega
  have := tot_left ts (leftB left ts.length) hx.1 hx.2 (by omega)
  exact ⟨by omega, foldH_small ts _ hx.1 hx.2 (by omega), by omega, hr.1, hr.2⟩
end Go.Proofs.YtgjleeamhkolhaaGreatDoor

namespace Go.Proofs.YtgjleeamhkolhaaGreatDoor
open Go.RowKit

/-- The steps of a path that can be written. -/
structure PtPut (W : World) (g n : Nat) : Prop where
  lt : g < W.heap.size
  there : ∀ i, i < n → W.there g (i * 7) 7
theorem PtPut.below {W W' : World} {g n : Nat} (h : PtPut W g n) (hb : Below W.heap.size W W') : PtPut W' g n := ⟨Nat.lt_of_lt_of_le h.lt hb.size, fun i hi => there_below (h.there i hi) hb h.lt⟩
theorem PtPut.spared {W W' : World} {g n : Nat} {S : List Nat} (h : PtPut W g n) (hs : Spared S W W') (hn : g ∉ S) : PtPut W' g n := by
  have hb := hs.block g h.lt hn
  exact ⟨Nat.lt_of_lt_of_le h.lt hs.size, fun i hi j hj => ⟨by rw [World.cell?_of_block (a := ⟨g, i * 7 + j, none⟩) hb]; exact (h.there i hi j hj).1, by rw [World.frozen?_of_block (a := ⟨g, i * 7 + j, none⟩) hb]; exact (h.there i hi j hj).2⟩⟩
end Go.Proofs.YtgjleeamhkolhaaGreatDoor

namespace Go.Proofs.YtgjleeamhkolhaaGreatDoor
open Go.RowKit

structure StPut (W : World) (g hi : Nat) (l : List Stp) : Prop where
  lt : g < hi
  le : hi ≤ W.heap.size
  at_ : StepsAt W (some ⟨g, 0, none⟩) g 0 l
  put : PtPut W g l.length
section
variable {W W' : World} {g hi : Nat} {l : List Stp}
theorem StPut.below (h : StPut W g hi l) (hb : Below W.heap.size W W') : StPut W' g hi l := ⟨h.lt, Nat.le_trans h.le hb.size, h.at_.below hb h.at_.lt, h.put.below hb⟩
theorem StPut.iv {lo' hi' : Nat} (h : StPut W g hi l) (hs : Iv lo' hi' W W') (hd : hi ≤ lo' ∨ hi' ≤ g) : StPut W' g hi l := by
  have hg := hs.block g (Nat.lt_of_lt_of_le h.lt h.le) (Iv.out (by have := h.lt; omega))
  exact ⟨h.lt, Nat.le_trans h.le hs.size, ⟨h.at_.here, fun hn => Nat.lt_of_lt_of_le (h.at_.lt hn) hs.size, fun i s hi' j v hv => by rw [World.cell?_of_block (w := W) (a := ⟨g, 0 + i * 7 + j, none⟩) hg]; exact h.at_.cell i s hi' j v hv⟩, h.put.spared hs (Iv.out (by have := h.lt; omega))⟩
end
theorem StPut.range {g hi : Nat} {W W' : World} (h : Spared [g] W W') (hlt : g < hi) : Iv g hi W W' := Iv.of h (fun k hk => by simp at hk; omega)
theorem toPath_put (p : Pt) (w : World) (hl : p.l.length ≤ 1048576) (h : PtAt w p) :
    Calls Tryz.prog 9 #[p.val] w fun e w' => ∃ g, e = .returned (p.put g).val ∧ w.heap.size ≤ g ∧ StPut w' g w'.heap.size p.l ∧ Below w.heap.size w w' :=
  (toPath_more _ _ _ _ _ p.b0 p.o _ _ w hl h).mono fun _ _ ⟨g, h1, h2, h3, h4, h5, h6⟩ => ⟨g, h1, h2, ⟨h3, Nat.le_refl _, h4, ⟨h3, h6⟩⟩, h5⟩
theorem eqPath_put (p : Pt) {W : World} {g hi g' hi' : Nat} (h : StPut W g hi p.l) (h' : StPut W g' hi' p.l) (hl : p.l.length ≤ 1048576) :
    Calls Tryz.prog 13 #[(p.put g).val, (p.put g').val] W fun e w' => e = .returned (.bool true) ∧ Below W.heap.size W w' :=
  eqPath_same _ _ _ _ _ _ g 0 _ g' 0 _ _ _ hl h.at_ h'.at_
end Go.Proofs.YtgjleeamhkolhaaGreatDoor

namespace Go.Proofs.YtgjleeamhkolhaaGreatDoor
open Go.RowKit

theorem markPath_any (q s fr b k0 : Int) (g cap n : Nat) (w : World) (hn : n ≤ 1048576) (hk : 0 ≤ k0 ∧ k0 ≤ 1000) (hgw : g < w.heap.size) (hth : ∀ i, i < n → w.there g (i * 7) 7) :
    Calls Tryz.prog 15 #[.agg #[.int .i64 q, .int .i64 s, .slice (some ⟨g, 0, none⟩) n cap, .int .i64 fr, .int .i64 b], .int .i64 k0] w
      fun e w' => e = .returned (.int .i64 (k0 + ((n * 7 : Nat) : Int))) ∧ w.grownBy w' (some g) := by
  have hal := World.grownBy_alloc w (.cells #[.int .i64 q, .int .i64 s, .slice (some ⟨g, 0, none⟩) n cap, .int .i64 fr, .int .i64 b] 38) (some g)
  go_enter Tryz.func15, Tryz.ntmps15
  go_wp2_with fail
  refine (markSteps_any _ g _ n _ hn hk (fun i hi => there_below (hth i hi) ((Below.refl _ _).alloc (Nat.le_refl _) _) hgw)).mono ?_
  rintro e w1 ⟨rfl, hg1, hz1⟩
  go_wp2
  go_ret
  exact ⟨rfl, grown_over2 hal hg1⟩
end Go.Proofs.YtgjleeamhkolhaaGreatDoor

namespace Go.Proofs.YtgjleeamhkolhaaGreatDoor
open Go.RowKit

theorem markPath_own (q s fr b k0 : Int) (v : Value) (base : Nat) (l : List Stp) (w : World) (hn : l.length ≤ 1048576) (hk : 0 ≤ k0 ∧ k0 ≤ 1000) (h : w.ownsRow base 98 7 v l.length (stepCells l)) :
    Calls Tryz.prog 15 #[.agg #[.int .i64 q, .int .i64 s, v, .int .i64 fr, .int .i64 b], .int .i64 k0] w
      fun e w' => e = .returned (.int .i64 (k0 + ((l.length * 7 : Nat) : Int))) ∧ w'.ownsRow base 98 7 v l.length (stepCells (markL k0 l.length)) ∧ w.grownBy w' v.ownBlock := by
  have hal := World.grownBy_alloc w (.cells #[.int .i64 q, .int .i64 s, v, .int .i64 fr, .int .i64 b] 38) v.ownBlock
  have ho := owns_below h ((Below.refl _ _).alloc (Nat.le_refl _) (.cells #[.int .i64 q, .int .i64 s, v, .int .i64 fr, .int .i64 b] 38))
  go_enter Tryz.func15, Tryz.ntmps15
  rcases h.2 with ⟨rfl, h0⟩ | ⟨g, cap, cur, rfl, _⟩
  · have : l = [] := List.eq_nil_of_length_eq_zero h0
    subst this
    go_wp2_with fail
    refine (markSteps_nil _ _).mono ?_
    rintro e w1 ⟨rfl, rfl⟩
    go_wp2
    go_ret
    exact ⟨by simp, World.ownsRow_nil _ _ _ _, hal⟩
  · go_wp2_with fail
    refine (markSteps_row _ g cap base l _ hn hk ho).mono ?_
    rintro e w1 ⟨rfl, ho1, hg1⟩
    go_wp2
    go_ret
    exact ⟨rfl, ho1, grown_over2 hal hg1⟩

theorem heldPath_own (q s fr b k0 : Int) (v : Value) (base n : Nat) (w : World) (hn : n ≤ 1048576) (hk : 0 ≤ k0 ∧ k0 ≤ 1000) (h : w.ownsRow base 98 7 v n (stepCells (markL k0 n))) :
    Calls Tryz.prog 45 #[.agg #[.int .i64 q, .int .i64 s, v, .int .i64 fr, .int .i64 b], .int .i64 k0] w
      fun e w' => e = .returned (.int .i64 (k0 + ((n * 7 : Nat) : Int))) ∧ Below w.heap.size w w' := by
  have ho := owns_below h ((Below.refl _ _).alloc (Nat.le_refl _) (.cells #[.int .i64 q, .int .i64 s, v, .int .i64 fr, .int .i64 b] 38))
  have hneg : ¬ (k0 + ((n * 7 : Nat) : Int) < 0) := by omega
  go_enter Tryz.func45, Tryz.ntmps45
  rcases h.2 with ⟨rfl, rfl⟩ | ⟨g, cap, cur, rfl, _⟩
  · have hk0 : ¬ (k0 < 0) := by omega
    go_wp2_with fail
    refine (heldSteps_nil _ _).mono ?_
    rintro e w1 ⟨rfl, rfl⟩
    go_wp2
    go_ret
    exact ⟨by simp, (Below.refl _ _).alloc (Nat.le_refl _) _⟩
  · generalize hM : k0 + ((n * 7 : Nat) : Int) = M at hneg ⊢
    go_wp2_with fail
    refine (heldSteps_row _ g cap base n _ hn hk ho).mono ?_
    rw [hM]
    rintro e w1 ⟨rfl, rfl⟩
    go_wp2
    go_ret
    exact ⟨rfl, (Below.refl _ _).alloc (Nat.le_refl _) _⟩
end Go.Proofs.YtgjleeamhkolhaaGreatDoor

namespace Go.Proofs.YtgjleeamhkolhaaGreatDoor
open Go.RowKit

theorem markPath_farG (q s fr b k0 : Int) (v : Value) (base : Nat) (l : List Stp) (w : World) (hn : l.length ≤ 1048576) (hk : 0 ≤ k0 ∧ k0 ≤ 900000000) (h : w.ownsRow base 98 7 v l.length (stepCells l)) :
    Calls Tryz.prog 15 #[.agg #[.int .i64 q, .int .i64 s, v, .int .i64 fr, .int .i64 b], .int .i64 k0] w
      fun e w' => e = .returned (.int .i64 (k0 + ((l.length * 7 : Nat) : Int))) ∧ w'.ownsRow base 98 7 v l.length (stepCells (markL k0 l.length)) ∧ w.grownBy w' v.ownBlock := by
  obtain ⟨a, c, rfl⟩ : ∃ a c, v = .slice a l.length c := by
    rcases h.2 with ⟨rfl, h0⟩ | ⟨g, cap, cur, rfl, _⟩
    · exact ⟨none, 0, by rw [h0]⟩
    · exact ⟨_, _, rfl⟩
  have hal := World.grownBy_alloc w (.cells #[.int .i64 q, .int .i64 s, .slice a l.length c, .int .i64 fr, .int .i64 b] 38) (Value.slice a l.length c).ownBlock
  have ho := owns_below h ((Below.refl _ _).alloc (Nat.le_refl _) (.cells #[.int .i64 q, .int .i64 s, .slice a l.length c, .int .i64 fr, .int .i64 b] 38))
  go_enter Tryz.func15, Tryz.ntmps15
  go_wp2_with fail
  refine (markSteps_all k0 _ base l _ hn ⟨hk.1, by omega⟩ ho).mono ?_
  rintro e w1 ⟨rfl, ho1, hg1⟩
  go_wp2
  go_ret
  exact ⟨rfl, ho1, grown_over2 hal hg1⟩
theorem heldPath_far (q s fr b k0 : Int) (v : Value) (base n : Nat) (w : World) (hn : n ≤ 1048576) (hk : 0 ≤ k0 ∧ k0 ≤ 900000000) (h : w.ownsRow base 98 7 v n (stepCells (markL k0 n))) :
    Calls Tryz.prog 45 #[.agg #[.int .i64 q, .int .i64 s, v, .int .i64 fr, .int .i64 b], .int .i64 k0] w
      fun e w' => e = .returned (.int .i64 (k0 + ((n * 7 : Nat) : Int))) ∧ Below w.heap.size w w' := by
  obtain ⟨a, c, rfl⟩ : ∃ a c, v = .slice a n c := by
    rcases h.2 with ⟨rfl, h0⟩ | ⟨g, cap, cur, rfl, _⟩
    · exact ⟨none, 0, by rw [h0]⟩
    · exact ⟨_, _, rfl⟩
  have hal := (Below.refl w.heap.size w).alloc (Nat.le_refl _) (.cells #[.int .i64 q, .int .i64 s, .slice a n c, .int .i64 fr, .int .i64 b] 38)
  have ho := owns_below h hal
  have hp : ¬ k0 + ((n * 7 : Nat) : Int) < 0 := by omega
  go_enter Tryz.func45, Tryz.ntmps45
  go_wp2_with fail
  refine (heldSteps_all k0 _ base n _ hn ⟨hk.1, by omega⟩ ho).mono ?_
  rintro e w1 ⟨rfl, rfl⟩
  generalize hX : k0 + ((n * 7 : Nat) : Int) = X at *
  go_wp2
  go_ret
  exact ⟨by rw [hX]; rfl, hal⟩
end Go.Proofs.YtgjleeamhkolhaaGreatDoor

namespace Go.Proofs.YtgjleeamhkolhaaGreatDoor
open Go.RowKit

/-- A word. -/
structure Wd where
  k : Int
  nm : ByteArray
  n : Int
  p : Pt
abbrev Wd.val (t : Wd) : Value := .agg #[.int .i64 t.k, .string t.nm, .int .i64 t.n, .int .i64 t.p.q, .int .i64 t.p.s, .slice t.p.a t.p.l.length t.p.cap, .int .i64 t.p.fr, .int .i64 t.p.b]
abbrev Wd.put (t : Wd) (g : Nat) : Wd := ⟨t.k, t.nm, t.n, t.p.put g⟩

/-- A word's box. -/
structure WdIn (W : World) (B : Nat) (t : Wd) : Prop where
  lt : B < W.heap.size
  c0 : W.cell? ⟨B, 0, none⟩ = some (.int .i64 t.k)
  c1 : W.cell? ⟨B, 1, none⟩ = some (.string t.nm)
  c2 : W.cell? ⟨B, 2, none⟩ = some (.int .i64 t.n)
  c3 : W.cell? ⟨B, 3, none⟩ = some (.int .i64 t.p.q)
  c4 : W.cell? ⟨B, 4, none⟩ = some (.int .i64 t.p.s)
  c5 : W.cell? ⟨B, 5, none⟩ = some (.slice t.p.a t.p.l.length t.p.cap)
  c6 : W.cell? ⟨B, 6, none⟩ = some (.int .i64 t.p.fr)
  c7 : W.cell? ⟨B, 7, none⟩ = some (.int .i64 t.p.b)
theorem WdIn.keep {W W' : World} {B N : Nat} {t : Wd} (h : WdIn W B t) (hb : Below N W W') (hN : B < N) : WdIn W' B t where
  lt := Nat.lt_of_lt_of_le h.lt hb.size
  c0 := (hb.cell (p := ⟨B, 0, none⟩) hN).trans h.c0
  c1 := (hb.cell (p := ⟨B, 1, none⟩) hN).trans h.c1
  c2 := (hb.cell (p := ⟨B, 2, none⟩) hN).trans h.c2
  c3 := (hb.cell (p := ⟨B, 3, none⟩) hN).trans h.c3
  c4 := (hb.cell (p := ⟨B, 4, none⟩) hN).trans h.c4
  c5 := (hb.cell (p := ⟨B, 5, none⟩) hN).trans h.c5
  c6 := (hb.cell (p := ⟨B, 6, none⟩) hN).trans h.c6
  c7 := (hb.cell (p := ⟨B, 7, none⟩) hN).trans h.c7
theorem WdIn.new (w : World) (t : Wd) (T : TypeId) : WdIn (w.alloc (.cells #[.int .i64 t.k, .string t.nm, .int .i64 t.n, .int .i64 t.p.q, .int .i64 t.p.s, .slice t.p.a t.p.l.length t.p.cap, .int .i64 t.p.fr, .int .i64 t.p.b] T)) w.heap.size t where
  lt := by simp
  c0 := by simp [go_sem]
  c1 := by simp [go_sem]
  c2 := by simp [go_sem]
  c3 := by simp [go_sem]
  c4 := by simp [go_sem]
  c5 := by simp [go_sem]
  c6 := by simp [go_sem]
  c7 := by simp [go_sem]
end Go.Proofs.YtgjleeamhkolhaaGreatDoor

namespace Go.Proofs.YtgjleeamhkolhaaGreatDoor
open Go.RowKit

theorem eqWord_same (t u : Wd) (w : World) (h1 : t.k = u.k) (h2 : t.nm = u.nm) (h3 : t.n = u.n) (h4 : t.p.q = u.p.q) (h5 : t.p.s = u.p.s) (h6 : t.p.fr = u.p.fr) (h7 : t.p.b = u.p.b) (h8 : t.p.l = u.p.l) (hl : t.p.l.length ≤ 1048576) (ht : PtAt w t.p) (hu : PtAt w u.p) :
    Calls Tryz.prog 12 #[t.val, u.val] w fun e w' => e = .returned (.bool true) ∧ Below w.heap.size w w' := by
  obtain ⟨k, nm, n, q, s, fr, b, a, b0, o, cap, l⟩ := t
  obtain ⟨k', nm', n', q', s', fr', b', a', b0', o', cap', l'⟩ := u
  simp only at h1 h2 h3 h4 h5 h6 h7 h8 hl ht hu
  subst h1 h2 h3 h4 h5 h6 h7 h8
  go_enter Tryz.func12, Tryz.ntmps12
  go_wp2_with fail
  refine (eqPath_same _ _ _ _ _ _ b0 o _ b0' o' _ l _ hl (ht.below (bel2 _ _) ht.lt) (hu.below (bel2 _ _) hu.lt)).mono ?_
  rintro e w1 ⟨rfl, hb1⟩
  go_wp2
  go_ret
  exact ⟨rfl, (bel2 _ _).trans (hb1.mono (by simp; omega))⟩
end Go.Proofs.YtgjleeamhkolhaaGreatDoor

namespace Go.Proofs.YtgjleeamhkolhaaGreatDoor
open Go.RowKit

theorem markPath_far (q s fr b k0 : Int) (v : Value) (base : Nat) (l : List Stp) (w : World) (hn : l.length ≤ 1048576) (hk : 0 ≤ k0 ∧ k0 ≤ 900000000) (h : w.ownsRow base 98 7 v l.length (stepCells l)) :
    Calls Tryz.prog 15 #[.agg #[.int .i64 q, .int .i64 s, v, .int .i64 fr, .int .i64 b], .int .i64 k0] w
      fun e w' => e = .returned (.int .i64 (k0 + ((l.length * 7 : Nat) : Int))) ∧ w'.ownsRow base 98 7 v l.length (stepCells (markL k0 l.length)) ∧ Spared v.ownBlock.toList w w' :=
  (markPath_farG q s fr b k0 v base l w hn hk h).mono fun _ _ ⟨h1, h2, h3⟩ => ⟨h1, h2, Spared.grown h3 (by simp)⟩
theorem markWord_own (k n q s fr b k0 : Int) (nm : ByteArray) (v : Value) (base : Nat) (l : List Stp) (w : World) (hn : l.length ≤ 1048576) (hk : 0 ≤ k0 ∧ k0 ≤ 900000000) (h : w.ownsRow base 98 7 v l.length (stepCells l)) :
    Calls Tryz.prog 16 #[.agg #[.int .i64 k, .string nm, .int .i64 n, .int .i64 q, .int .i64 s, v, .int .i64 fr, .int .i64 b], .int .i64 k0] w
      fun e w' => e = .returned (.int .i64 (k0 + ((l.length * 7 : Nat) : Int))) ∧ w'.ownsRow base 98 7 v l.length (stepCells (markL k0 l.length)) ∧ Spared v.ownBlock.toList w w' := by
  obtain ⟨a, c, rfl⟩ := own_slice h
  have K0 := bel1 (w := w) (.cells #[.int .i64 k, .string nm, .int .i64 n, .int .i64 q, .int .i64 s, .slice a l.length c, .int .i64 fr, .int .i64 b] 40)
  go_enter Tryz.func16, Tryz.ntmps16
  go_wp2_with fail
  refine (markPath_far q s fr b k0 _ base l _ hn hk (owns_below h K0)).mono ?_
  rintro e w1 ⟨rfl, h1, s1⟩
  go_wp2
  go_ret
  exact ⟨rfl, h1, (Spared.below K0).trans s1⟩
theorem heldWord_own (k n q s fr b k0 : Int) (nm : ByteArray) (v : Value) (base m : Nat) (w : World) (hn : m ≤ 1048576) (hk : 0 ≤ k0 ∧ k0 ≤ 900000000) (h : w.ownsRow base 98 7 v m (stepCells (markL k0 m))) :
    Calls Tryz.prog 18 #[.agg #[.int .i64 k, .string nm, .int .i64 n, .int .i64 q, .int .i64 s, v, .int .i64 fr, .int .i64 b], .int .i64 k0] w
      fun e w' => e = .returned (.int .i64 (k0 + ((m * 7 : Nat) : Int))) ∧ Below w.heap.size w w' := by
  obtain ⟨a, c, rfl⟩ := own_slice h
  have K0 := bel1 (w := w) (.cells #[.int .i64 k, .string nm, .int .i64 n, .int .i64 q, .int .i64 s, .slice a m c, .int .i64 fr, .int .i64 b] 40)
  have hp : ¬ k0 + ((m * 7 : Nat) : Int) < 0 := by omega
  go_enter Tryz.func18, Tryz.ntmps18
  go_wp2_with fail
  refine (heldPath_far q s fr b k0 _ base m _ hn hk (owns_below h K0)).mono ?_
  rintro e w1 ⟨rfl, hb1⟩
  generalize hX : k0 + ((m * 7 : Nat) : Int) = X at *
  go_wp2
  go_ret
  exact ⟨by rw [hX]; rfl, K0.trans (hb1.mono K0.size)⟩

theorem markPath_put (q s fr b k0 : Int) (g cap n : Nat) (w : World) (hn : n ≤ 1048576) (hk : 0 ≤ k0 ∧ k0 ≤ 900000000) (h : PtPut w g n) :
    Calls Tryz.prog 15 #[.agg #[.int .i64 q, .int .i64 s, .slice (some ⟨g, 0, none⟩) n cap, .int .i64 fr, .int .i64 b], .int .i64 k0] w
      fun e w' => e = .returned (.int .i64 (k0 + ((n * 7 : Nat) : Int))) ∧ Spared [g] w w' := by
  have K0 := bel1 (w := w) (.cells #[.int .i64 q, .int .i64 s, .slice (some ⟨g, 0, none⟩) n cap, .int .i64 fr, .int .i64 b] 38)
  go_enter Tryz.func15, Tryz.ntmps15
  go_wp2_with fail
  refine (markSteps_put k0 g cap n _ hn ⟨hk.1, by omega⟩ (h.below K0).there).mono ?_
  rintro e w1 ⟨rfl, g1, _, _⟩
  go_wp2
  go_ret
  exact ⟨rfl, (Spared.below K0).trans (Spared.grown g1 (fun k hk => by cases hk; simp))⟩
theorem markWord_put (k n' q s fr b k0 : Int) (nm : ByteArray) (g cap n : Nat) (w : World) (hn : n ≤ 1048576) (hk : 0 ≤ k0 ∧ k0 ≤ 900000000) (h : PtPut w g n) :
    Calls Tryz.prog 16 #[.agg #[.int .i64 k, .string nm, .int .i64 n', .int .i64 q, .int .i64 s, .slice (some ⟨g, 0, none⟩) n cap, .int .i64 fr, .int .i64 b], .int .i64 k0] w
      fun e w' => e = .returned (.int .i64 (k0 + ((n * 7 : Nat) : Int))) ∧ Spared [g] w w' := by
  have K0 := bel1 (w := w) (.cells #[.int .i64 k, .string nm, .int .i64 n', .int .i64 q, .int .i64 s, .slice (some ⟨g, 0, none⟩) n cap, .int .i64 fr, .int .i64 b] 40)
  go_enter Tryz.func16, Tryz.ntmps16
  go_wp2_with fail
  refine (markPath_put q s fr b k0 g cap n _ hn hk (h.below K0)).mono ?_
  rintro e w1 ⟨rfl, s1⟩
  go_wp2
  go_ret
  exact ⟨rfl, (Spared.below K0).trans s1⟩
end Go.Proofs.YtgjleeamhkolhaaGreatDoor

namespace Go.Proofs.YtgjleeamhkolhaaGreatDoor
open Go.RowKit

theorem markPath_iv (p : Pt) (k0 : Int) {W : World} {g hi : Nat} (h : StPut W g hi p.l) (hl : p.l.length ≤ 1048576) (hk : 0 ≤ k0 ∧ k0 ≤ 900000000) :
    Calls Tryz.prog 15 #[(p.put g).val, .int .i64 k0] W fun e w' => e = .returned (.int .i64 (k0 + ((p.l.length * 7 : Nat) : Int))) ∧ Iv g hi W w' :=
  (markPath_put _ _ _ _ k0 g _ _ W hl hk h.put).mono fun _ _ ⟨h1, h2⟩ => ⟨h1, StPut.range h2 h.lt⟩

/-! ### An answer that is a word -/
structure WdAns (W : World) (lo hi : Nat) (a : Option Addr) (c : Nat) (l : List Stp) : Prop where
  row : W.ownsRow lo 98 7 (.slice a l.length c) l.length (stepCells l)
  lt : ∀ k, (Value.slice a l.length c).ownBlock = some k → k < hi
section
variable {W W' : World} {lo hi : Nat} {a : Option Addr} {c : Nat} {l : List Stp}
theorem WdAns.of (h : W.ownsRow lo 98 7 (.slice a l.length c) l.length (stepCells l)) : WdAns W lo W.heap.size a c l := ⟨h, owns_lt h⟩
theorem WdAns.below (h : WdAns W lo hi a c l) (hb : Below W.heap.size W W') : WdAns W' lo hi a c l := ⟨owns_below h.row hb, h.lt⟩
theorem WdAns.iv {lo' hi' : Nat} (h : WdAns W lo hi a c l) (hs : Iv lo' hi' W W') (hd : hi ≤ lo' ∨ hi' ≤ lo) : WdAns W' lo hi a c l :=
  ⟨hs.owns h.row (fun k hk => Iv.out (by have := h.lt k hk; have := owns_base h.row k hk; omega)), h.lt⟩
theorem WdAns.eq {lo' hi' : Nat} {a' : Option Addr} {c' : Nat} (k n q s fr b : Int) (nm : ByteArray) (h : WdAns W lo hi a c l) (h' : WdAns W lo' hi' a' c' l) (hl : l.length ≤ 1048576) :
    Calls Tryz.prog 12 #[.agg #[.int .i64 k, .string nm, .int .i64 n, .int .i64 q, .int .i64 s, .slice a l.length c, .int .i64 fr, .int .i64 b], .agg #[.int .i64 k, .string nm, .int .i64 n, .int .i64 q, .int .i64 s, .slice a' l.length c', .int .i64 fr, .int .i64 b]] W fun e w' => e = .returned (.bool true) ∧ Below W.heap.size W w' :=
  eqWord_same ⟨k, nm, n, ⟨q, s, fr, b, a, _, 0, c, l⟩⟩ ⟨k, nm, n, ⟨q, s, fr, b, a', _, 0, c', l⟩⟩ W rfl rfl rfl rfl rfl rfl rfl rfl hl (row_at h.row) (row_at h'.row)
/-- Marked. -/
structure WdMk (W : World) (lo : Nat) (hi : Nat) (k0 : Int) (a : Option Addr) (c m : Nat) : Prop where
  row : W.ownsRow lo 98 7 (.slice a m c) m (stepCells (markL k0 m))
  lt : ∀ k, (Value.slice a m c).ownBlock = some k → k < hi
theorem WdMk.below {k0 : Int} {m : Nat} (h : WdMk W lo hi k0 a c m) (hb : Below W.heap.size W W') : WdMk W' lo hi k0 a c m := ⟨owns_below h.row hb, h.lt⟩
theorem WdMk.iv {lo' hi' m : Nat} {k0 : Int} (h : WdMk W lo hi k0 a c m) (hs : Iv lo' hi' W W') (hd : hi ≤ lo' ∨ hi' ≤ lo) : WdMk W' lo hi k0 a c m :=
  ⟨hs.owns h.row (fun k hk => Iv.out (by have := h.lt k hk; have := owns_base h.row k hk; omega)), h.lt⟩
theorem WdAns.mark (k n q s fr b k0 : Int) (nm : ByteArray) (h : WdAns W lo hi a c l) (hl : l.length ≤ 1048576) (hk : 0 ≤ k0 ∧ k0 ≤ 900000000) :
    Calls Tryz.prog 16 #[.agg #[.int .i64 k, .string nm, .int .i64 n, .int .i64 q, .int .i64 s, .slice a l.length c, .int .i64 fr, .int .i64 b], .int .i64 k0] W fun e w' => e = .returned (.int .i64 (k0 + ((l.length * 7 : Nat) : Int))) ∧ WdMk w' lo hi k0 a c l.length ∧ Iv lo hi W w' :=
  (markWord_own k n q s fr b k0 nm _ lo l W hl hk h.row).mono fun _ _ ⟨h1, h2, h3⟩ => ⟨h1, ⟨h2, h.lt⟩, Iv.of h3 (fun k hk => by simp at hk; exact ⟨owns_base h.row k hk, h.lt k hk⟩)⟩
theorem WdMk.held {m : Nat} (k n q s fr b k0 : Int) (nm : ByteArray) (h : WdMk W lo hi k0 a c m) (hl : m ≤ 1048576) (hk : 0 ≤ k0 ∧ k0 ≤ 900000000) :
    Calls Tryz.prog 18 #[.agg #[.int .i64 k, .string nm, .int .i64 n, .int .i64 q, .int .i64 s, .slice a m c, .int .i64 fr, .int .i64 b], .int .i64 k0] W fun e w' => e = .returned (.int .i64 (k0 + ((m * 7 : Nat) : Int))) ∧ Below W.heap.size W w' :=
  heldWord_own k n q s fr b k0 nm _ lo m W hl hk h.row
end
end Go.Proofs.YtgjleeamhkolhaaGreatDoor

namespace Go.Proofs.YtgjleeamhkolhaaGreatDoor
open Go.RowKit

structure TwoX (w w0 V : World) (A B : Array Value) : Prop where
  old : Below w.heap.size w V
  now : Below w0.heap.size w0 V
  one : Cbx V w.heap.size A
  two : Cbx V (w.heap.size + 1) B
theorem TwoX.keep {w w0 V V' : World} {A B : Array Value} (h : TwoX w w0 V A B) (hb : Below V.heap.size V V') : TwoX w w0 V' A B := ⟨h.old.trans (hb.mono h.old.size), h.now.trans (hb.mono h.now.size), h.one.keep hb, h.two.keep hb⟩
end Go.Proofs.YtgjleeamhkolhaaGreatDoor

namespace Go.Proofs.YtgjleeamhkolhaaGreatDoor
open Go.RowKit

/-- Somebody whose lists a call owns, each in a block of its own. -/
structure HdOwn (W : World) (base : Nat) (u : Hd) : Prop where
  p : PtOwn W base u.p
  x : PtOwn W base u.x
  inn : ∀ k, u.p.sl.ownBlock = some k → u.x.sl.ownBlock ≠ some k
theorem HdOwn.below {W W' : World} {base : Nat} {u : Hd} (h : HdOwn W base u) (hb : Below W.heap.size W W') : HdOwn W' base u := ⟨owns_below h.p hb, owns_below h.x hb, h.inn⟩
theorem HdOwn.spared {W W' : World} {base : Nat} {u : Hd} {S : List Nat} (h : HdOwn W base u) (hs : Spared S W W') (hn : ∀ k ∈ u.blks, k ∉ S) : HdOwn W' base u :=
  ⟨hs.owns h.p (fun k hk => hn k (by simp [Hd.blks, hk])), hs.owns h.x (fun k hk => hn k (by simp [Hd.blks, hk])), h.inn⟩
theorem HdOwn.lt {W : World} {base : Nat} {u : Hd} (h : HdOwn W base u) : ∀ k ∈ u.blks, base ≤ k ∧ k < W.heap.size := fun k hk => by
  simp only [Hd.blks, List.mem_append, Option.mem_toList] at hk
  rcases hk with hk | hk
  · exact h.p.lt k hk
  · exact h.x.lt k hk
theorem owns_lowerO {w : World} {base base' e size n : Nat} {v : Value} {xs : List Value} (h : w.ownsRow base e size v n xs) (hb : base' ≤ base) : w.ownsRow base' e size v n xs :=
  ⟨h.1, h.2.imp id fun ⟨g, cap, cur, h1, h2, h3⟩ => ⟨g, cap, cur, h1, Nat.le_trans hb h2, h3⟩⟩
theorem HdOwn.lower {W : World} {base base' : Nat} {u : Hd} (h : HdOwn W base u) (hb : base' ≤ base) : HdOwn W base' u := ⟨owns_lowerO h.p hb, owns_lowerO h.x hb, h.inn⟩
theorem BkOwn.lower {W : World} {base base' : Nat} {v : Value} {us : List Hd} (h : BkOwn W base v us) (hb : base' ≤ base) : BkOwn W base' v us :=
  ⟨owns_lowerO h.row hb, fun u hu => ⟨owns_lowerO (h.each u hu).1 hb, owns_lowerO (h.each u hu).2 hb⟩, h.inn, h.two⟩
theorem BkOwn.hd {W : World} {base : Nat} {v : Value} {us : List Hd} (h : BkOwn W base v us) {u : Hd} (hu : u ∈ us) : HdOwn W base u := ⟨(h.each u hu).1, (h.each u hu).2, h.inn u hu⟩
/-- A row's block is no list's block. -/
theorem HdOwn.row {W : World} {base b n : Nat} {v : Value} {xs : List Value} {u : Hd} (h : HdOwn W base u) (hr : W.ownsRow b 63 13 v n xs) : ∀ k ∈ u.blks, v.ownBlock ≠ some k := fun k hk => by
  simp only [Hd.blks, List.mem_append, Option.mem_toList] at hk
  rcases hk with hk | hk
  · exact rows_two h.p hr (by decide) k hk
  · exact rows_two h.x hr (by decide) k hk
theorem HdOwn.grown {W W' : World} {base b n : Nat} {v : Value} {xs : List Value} {u : Hd} (h : HdOwn W base u) (hr : W.ownsRow b 63 13 v n xs) (hg : W.grownBy W' v.ownBlock) : HdOwn W' base u :=
  h.spared (S := v.ownBlock.toList) (Spared.grown hg (by simp)) (fun k hk hk' => h.row hr k hk (by simpa using hk'))
theorem BkOwn.nil (W : World) (base : Nat) : BkOwn W base (.slice none 0 0) [] := ⟨World.ownsRow_nil _ _ _ _, by simp, by simp, List.Pairwise.nil⟩
theorem BkOwn.push {W W' : World} {base : Nat} {v v' : Value} {us : List Hd} {u : Hd} (h : BkOwn W base v us) (ho : W'.ownsRow base 63 13 v' (us.length + 1) (hdCells us ++ u.cl)) (hg : W.grownBy W' v.ownBlock) (hu : HdOwn W base u) (ha : ∀ t ∈ us, HdApart t u) : BkOwn W' base v' (us ++ [u]) where
  row := by rw [hdCells_append, List.length_append]; simpa [hdCells] using ho
  each t ht := by
    rcases List.mem_append.1 ht with ht | ht
    · have := (h.hd ht).grown h.row hg
      exact ⟨this.p, this.x⟩
    · simp at ht
      subst ht
      have := hu.grown h.row hg
      exact ⟨this.p, this.x⟩
  inn t ht := by
    rcases List.mem_append.1 ht with ht | ht
    · exact h.inn t ht
    · simp at ht
      subst ht
      exact hu.inn
  two := by
    rw [List.pairwise_append]
    exact ⟨h.two, by simp, fun a ha' b hb => by simp at hb; subst hb; exact ha a ha'⟩
/-- Old lists lie apart from new ones. -/
theorem apart_new {W W2 : World} {base base' : Nat} {v : Value} {us : List Hd} {u : Hd} (h : BkOwn W base v us) (hu : HdOwn W2 base' u) (hb : W.heap.size ≤ base') : ∀ t ∈ us, HdApart t u := fun t ht k hk hk' => by
  have h1 := ((h.hd ht).lt k hk).2
  have h2 := (hu.lt k hk').1
  omega
end Go.Proofs.YtgjleeamhkolhaaGreatDoor

namespace Go.Proofs.YtgjleeamhkolhaaGreatDoor
open Go.RowKit

set_option maxRecDepth 20000 in
set_option maxHeartbeats 1000000 in
theorem cloneS_any (b0 o cap : Nat) (l : List Stp) (w : World) (hl0 : 1 ≤ l.length) (hl : l.length ≤ 1048576) (hs : StepsAt w (some ⟨b0, o, none⟩) b0 o l) :
    Calls Tryz.prog 102 #[.slice (some ⟨b0, o, none⟩) l.length cap] w
      fun e w' => ∃ g gc, e = .returned (.slice (some ⟨g, 0, none⟩) l.length gc) ∧ w'.ownsRow w.heap.size 98 7 (.slice (some ⟨g, 0, none⟩) l.length gc) l.length (stepCells l) ∧ Below w.heap.size w w' := by
  obtain ⟨i0, hi, hz0, hz1, hz2⟩ := info_parts step_info
  have hE := owns_empty (w := w) (base := w.heap.size) (e := 98) (size := 7) (Nat.le_refl _)
  have hnew := steps_news (hs.alloc (.cells #[] 98))
  have hnil := Lib.run_eql_slice_nil (P := Tryz.prog) w 36 98 (some ⟨b0, o, none⟩) l.length cap 0 0 Tryz.underlying36
  go_enter Tryz.func102, Tryz.ntmps102
  go_wp2_with (at_builtin; refine wpList_append_own _ rfl (.tmp 5) (.tmp 6) 36 rfl w.heap.size 98 i0 (.agg #[.int .i64 0, .int .i64 0, .int .i64 0, .int .i64 0, .int .i64 0, .int .i64 0, .bool false]) 7 56 Tryz.underlying36 hi hz0 hz1 hz2 rfl (by decide) (.slice (some ⟨w.heap.size, 0, none⟩) 0 0) 0 [] rfl hE ⟨b0, o, none⟩ l.length cap (stepCells l) rfl (stepCells_length l) hnew (stepCells_one l) (by unfold maxLen; omega) (by omega) (by simp) ?_; intro v1 w1 hown1 hgrow1 hnil1)
  go_ret
  simp only [Nat.zero_add, List.nil_append] at hown1
  obtain ⟨g, gc, rfl, _, _⟩ := owns_some hown1 (by omega)
  exact ⟨g, gc, rfl, hown1, ((Below.refl w.heap.size w).alloc (Nat.le_refl _) _).grown hgrow1 (by simp) (fun k e => by simp [Value.ownBlock] at e; omega)⟩

end Go.Proofs.YtgjleeamhkolhaaGreatDoor

namespace Go.Proofs.YtgjleeamhkolhaaGreatDoor
open Go.RowKit

theorem blk9 {w : World} {B : Nat} {a b c d e f g h i : Value} {t : TypeId} (hb : w.heap[B]? = some (.cells #[a, b, c, d, e, f, g, h, i] t (0, 0))) :
    (w.cell? ⟨B, 0, none⟩ = some a ∧ w.cell? ⟨B, 1, none⟩ = some b ∧ w.cell? ⟨B, 2, none⟩ = some c ∧ w.cell? ⟨B, 3, none⟩ = some d ∧ w.cell? ⟨B, 4, none⟩ = some e ∧ w.cell? ⟨B, 5, none⟩ = some f ∧ w.cell? ⟨B, 6, none⟩ = some g ∧ w.cell? ⟨B, 7, none⟩ = some h ∧ w.cell? ⟨B, 8, none⟩ = some i) ∧ ∀ j, w.frozen? ⟨B, j, none⟩ = false := by
  refine ⟨⟨?_, ?_, ?_, ?_, ?_, ?_, ?_, ?_, ?_⟩, fun j => ?_⟩ <;> simp [World.cell?, World.frozen?, hb]
theorem owns_sliceL {w : World} {base e size n : Nat} {v : Value} {xs : List Value} (h : w.ownsRow base e size v n xs) : ∃ a c, v = .slice a n c := by
  rcases h.2 with ⟨rfl, rfl⟩ | ⟨g, cap, cur, rfl, _⟩
  · exact ⟨none, 0, rfl⟩
  · exact ⟨_, _, rfl⟩
theorem owns_lowerL {w : World} {base base' e size n : Nat} {v : Value} {xs : List Value} (h : w.ownsRow base e size v n xs) (hb : base' ≤ base) : w.ownsRow base' e size v n xs :=
  ⟨h.1, h.2.imp id fun ⟨g, cap, cur, h1, h2, h3⟩ => ⟨g, cap, cur, h1, Nat.le_trans hb h2, h3⟩⟩

set_option maxRecDepth 20000 in
set_option maxHeartbeats 1000000 in
theorem cloneS_all (b0 o cap : Nat) (l : List Stp) (w : World) (hl : l.length ≤ 1048576) (hs : StepsAt w (some ⟨b0, o, none⟩) b0 o l) :
    Calls Tryz.prog 102 #[.slice (some ⟨b0, o, none⟩) l.length cap] w
      fun e w' => ∃ v, e = .returned v ∧ w'.ownsRow w.heap.size 98 7 v l.length (stepCells l) ∧ Below w.heap.size w w' := by
  obtain ⟨i0, hi, hz0, hz1, hz2⟩ := info_parts step_info
  have hE := owns_empty (w := w) (base := w.heap.size) (e := 98) (size := 7) (Nat.le_refl _)
  have hnew := steps_news (hs.alloc (.cells #[] 98))
  have hnil := Lib.run_eql_slice_nil (P := Tryz.prog) w 36 98 (some ⟨b0, o, none⟩) l.length cap 0 0 Tryz.underlying36
  go_enter Tryz.func102, Tryz.ntmps102
  go_wp2_with (at_builtin; refine wpList_append_own _ rfl (.tmp 5) (.tmp 6) 36 rfl w.heap.size 98 i0 (.agg #[.int .i64 0, .int .i64 0, .int .i64 0, .int .i64 0, .int .i64 0, .int .i64 0, .bool false]) 7 56 Tryz.underlying36 hi hz0 hz1 hz2 rfl (by decide) (.slice (some ⟨w.heap.size, 0, none⟩) 0 0) 0 [] rfl hE ⟨b0, o, none⟩ l.length cap (stepCells l) rfl (stepCells_length l) hnew (stepCells_one l) (by unfold maxLen; omega) (by omega) (by simp) ?_; intro v1 w1 hown1 hgrow1 hnil1)
  go_ret
  simp only [Nat.zero_add, List.nil_append] at hown1
  exact ⟨_, rfl, hown1, ((Below.refl w.heap.size w).alloc (Nat.le_refl _) _).grown hgrow1 (by simp) (fun k e => by simp [Value.ownBlock] at e; omega)⟩

set_option maxRecDepth 20000 in
set_option maxHeartbeats 1000000 in
theorem pathCopied_any (q s fr b : Int) (b0 o cap : Nat) (l : List Stp) (w : World) (hl : l.length ≤ 1048576) (hs : StepsAt w (some ⟨b0, o, none⟩) b0 o l) :
    Calls Tryz.prog 69 #[.agg #[.int .i64 q, .int .i64 s, .slice (some ⟨b0, o, none⟩) l.length cap, .int .i64 fr, .int .i64 b]] w
      fun e w' => ∃ v, e = .returned (.agg #[.int .i64 q, .int .i64 s, v, .int .i64 fr, .int .i64 b]) ∧ w'.ownsRow w.heap.size 98 7 v l.length (stepCells l) ∧ Below w.heap.size w w' := by
  have P0 := (PathAt.new w q s fr b (.slice (some ⟨b0, o, none⟩) l.length cap)).keep (bel1 (.cells #[.int .i64 0, .int .i64 0, .slice none 0 0, .int .i64 0, .int .i64 0] 38)) (by simp)
  have Z0 := ResP.new (w.alloc (.cells #[.int .i64 q, .int .i64 s, .slice (some ⟨b0, o, none⟩) l.length cap, .int .i64 fr, .int .i64 b] 38))
  rw [World.size_alloc] at Z0
  go_enter Tryz.func69, Tryz.ntmps69
  go_wp2_with fail
  refine (cloneS_all b0 o cap l _ hl (hs.below (bel2 _ _) hs.lt)).mono ?_
  rintro e w1 ⟨v1, rfl, ho1, hb1⟩
  have P1 := P0.keep hb1 P0.lt
  have Z1 := Z0.keep hb1 Z0.lt
  have B1 : Below w.heap.size w w1 := (bel2 _ _).trans (hb1.mono (by simp; omega))
  obtain ⟨a1, c1, rfl⟩ := owns_sliceL ho1
  obtain ⟨⟨x0, x1, x2, x3, x4⟩, xf⟩ := P1.cells
  obtain ⟨⟨y0, y1, y2, y3, y4⟩, yf⟩ := Z1.cells
  go_wp2
  refine bodyPost_ret (v := .agg #[.int .i64 q, .int .i64 s, .slice a1 l.length c1, .int .i64 fr, .int .i64 b]) (by simp [results, Tryz.results69, go_sem, *]) rfl ⟨_, rfl, ?_, ?_⟩
  · have hh : ∀ k, (Value.ownBlock (.slice a1 l.length c1)) = some k → k ≠ w.heap.size ∧ k ≠ w.heap.size + 1 := fun k e => by have := owns_base ho1 k e; simp at this; omega
    repeat (refine owns_set ?_ (fun k e => by first | exact (hh k e).1 | exact (hh k e).2) _ _)
    exact owns_lowerL ho1 (by simp; omega)
  · repeat (refine Below.setCell ?_ (by simp) _)
    exact B1
end Go.Proofs.YtgjleeamhkolhaaGreatDoor

namespace Go.Proofs.YtgjleeamhkolhaaGreatDoor
open Go.RowKit

set_option maxRecDepth 20000 in
set_option maxHeartbeats 1000000 in
theorem copyS_all (q s fr b : Int) (b0 o cap : Nat) (l : List Stp) (w : World) (hl : l.length ≤ 1048576) (hs : StepsAt w (some ⟨b0, o, none⟩) b0 o l) :
    Calls Tryz.prog 30 #[.agg #[.int .i64 q, .int .i64 s, .slice (some ⟨b0, o, none⟩) l.length cap, .int .i64 fr, .int .i64 b]] w
      fun e w' => ∃ v, e = .returned (.agg #[.int .i64 q, .int .i64 s, v, .int .i64 fr, .int .i64 b]) ∧
        w'.ownsRow w.heap.size 98 7 v l.length (stepCells l) ∧ Below w.heap.size w w' := by
  obtain ⟨i0, hi, hz0, hz1, hz2⟩ := info_parts step_info
  go_enter Tryz.func30, Tryz.ntmps30
  have hB0 := (BoxP.new w q s fr b (.slice (some ⟨b0, o, none⟩) l.length cap) 38)
  have hE := owns_empty (w := ((w.alloc (.cells #[.int .i64 q, .int .i64 s, .slice (some ⟨b0, o, none⟩) l.length cap, .int .i64 fr, .int .i64 b] 38)).alloc (.cells #[.int .i64 0, .int .i64 0, .slice none 0 0, .int .i64 0, .int .i64 0] 38))) (base := w.heap.size + 1 + 1) (e := 98) (size := 7) (by simp)
  simp only [World.size_alloc] at hE
  have hnew := steps_news (((hs.alloc (.cells #[.int .i64 q, .int .i64 s, .slice (some ⟨b0, o, none⟩) l.length cap, .int .i64 fr, .int .i64 b] 38)).alloc (.cells #[.int .i64 0, .int .i64 0, .slice none 0 0, .int .i64 0, .int .i64 0] 38)).alloc (.cells #[] 98))
  have hC : ∀ w4, (((w.alloc (.cells #[.int .i64 q, .int .i64 s, .slice (some ⟨b0, o, none⟩) l.length cap, .int .i64 fr, .int .i64 b] 38)).alloc (.cells #[.int .i64 0, .int .i64 0, .slice none 0 0, .int .i64 0, .int .i64 0] 38)).alloc (.cells #[] 98)).grownBy w4 (Value.slice (some ⟨w.heap.size + 1 + 1, 0, none⟩) 0 0).ownBlock →
      w4.cell? ⟨w.heap.size, 0, none⟩ = some (.int .i64 q) ∧ w4.cell? ⟨w.heap.size, 1, none⟩ = some (.int .i64 s) ∧ w4.cell? ⟨w.heap.size, 2, none⟩ = some (.slice (some ⟨b0, o, none⟩) l.length cap) ∧ w4.cell? ⟨w.heap.size, 3, none⟩ = some (.int .i64 fr) ∧ w4.cell? ⟨w.heap.size, 4, none⟩ = some (.int .i64 b) ∧
      w4.cell? ⟨w.heap.size + 1, 0, none⟩ = some (.int .i64 0) ∧ w4.cell? ⟨w.heap.size + 1, 1, none⟩ = some (.int .i64 0) ∧ w4.cell? ⟨w.heap.size + 1, 2, none⟩ = some (.slice none 0 0) ∧ w4.cell? ⟨w.heap.size + 1, 3, none⟩ = some (.int .i64 0) ∧ w4.cell? ⟨w.heap.size + 1, 4, none⟩ = some (.int .i64 0) := fun w4 hg => by
    have k0 : ∀ j, w4.cell? ⟨w.heap.size, j, none⟩ = _ := fun j => World.cell?_of_block (a := ⟨w.heap.size, j, none⟩) (hg.block w.heap.size (by simp; omega) (by simp [Value.ownBlock]; omega))
    have k1 : ∀ j, w4.cell? ⟨w.heap.size + 1, j, none⟩ = _ := fun j => World.cell?_of_block (a := ⟨w.heap.size + 1, j, none⟩) (hg.block (w.heap.size + 1) (by simp) (by simp [Value.ownBlock]))
    simp only [k0, k1]
    simp [go_sem]
  have hF : ∀ w4, (((w.alloc (.cells #[.int .i64 q, .int .i64 s, .slice (some ⟨b0, o, none⟩) l.length cap, .int .i64 fr, .int .i64 b] 38)).alloc (.cells #[.int .i64 0, .int .i64 0, .slice none 0 0, .int .i64 0, .int .i64 0] 38)).alloc (.cells #[] 98)).grownBy w4 (Value.slice (some ⟨w.heap.size + 1 + 1, 0, none⟩) 0 0).ownBlock →
      (∀ j, w4.frozen? ⟨w.heap.size, j, none⟩ = false) ∧ ∀ j, w4.frozen? ⟨w.heap.size + 1, j, none⟩ = false := fun w4 hg => by
    have k0 : ∀ j, w4.frozen? ⟨w.heap.size, j, none⟩ = _ := fun j => World.frozen?_of_block (a := ⟨w.heap.size, j, none⟩) (hg.block w.heap.size (by simp; omega) (by simp [Value.ownBlock]; omega))
    have k1 : ∀ j, w4.frozen? ⟨w.heap.size + 1, j, none⟩ = _ := fun j => World.frozen?_of_block (a := ⟨w.heap.size + 1, j, none⟩) (hg.block (w.heap.size + 1) (by simp) (by simp [Value.ownBlock]))
    simp only [k0, k1]
    simp [go_sem]
  go_wp2_with (at_builtin; refine wpList_append_own _ rfl (.tmp 3) (.tmp 5) 36 rfl (w.heap.size + 1 + 1) 98 i0 (.agg #[.int .i64 0, .int .i64 0, .int .i64 0, .int .i64 0, .int .i64 0, .int .i64 0, .bool false]) 7 56 Tryz.underlying36 hi hz0 hz1 hz2 rfl (by decide) (.slice (some ⟨w.heap.size + 1 + 1, 0, none⟩) 0 0) 0 [] rfl hE ⟨b0, o, none⟩ l.length cap (stepCells l) rfl (stepCells_length l) hnew (stepCells_one l) (by unfold maxLen; omega) (by omega) (by simp) ?_; intro v' w4 hown4 hgrow4 hnil4; simp only [Nat.zero_add, List.nil_append] at hown4; obtain ⟨a4, gc4, rfl⟩ := owns_sliceL hown4; have c4 := hC w4 hgrow4; have f4 := hF w4 hgrow4; have z0 := c4.1; have z1 := c4.2.1; have z2 := c4.2.2.1; have z3 := c4.2.2.2.1; have z4 := c4.2.2.2.2.1; have y0 := c4.2.2.2.2.2.1; have y1 := c4.2.2.2.2.2.2.1; have y2 := c4.2.2.2.2.2.2.2.1; have y3 := c4.2.2.2.2.2.2.2.2.1; have y4 := c4.2.2.2.2.2.2.2.2.2)
  have HB4 : Below w.heap.size w w4 := ((((Below.refl w.heap.size w).alloc (Nat.le_refl _) _).alloc (by simp) _).alloc (by simp; omega) _).grown hgrow4 (by simp; omega) (fun k e => by simp [Value.ownBlock] at e; omega)
  refine bodyPost_ret (v := .agg #[.int .i64 q, .int .i64 s, .slice a4 l.length gc4, .int .i64 fr, .int .i64 b]) (by simp [results, Tryz.results30, go_sem, *]) rfl ⟨_, rfl, ?_, ?_⟩
  · have hh : ∀ k, (Value.slice a4 l.length gc4).ownBlock = some k → k ≠ w.heap.size ∧ k ≠ w.heap.size + 1 := fun k e => by have := owns_base hown4 k e; omega
    iterate 6 (refine owns_set ?_ (fun k e => by first | exact (hh k e).1 | exact (hh k e).2) _ _)
    exact ⟨hown4.1, hown4.2.imp id fun ⟨g, cap, cur, h1, h2, h3⟩ => ⟨g, cap, cur, h1, by omega, h3⟩⟩
  · iterate 6 (refine Below.setCell ?_ (by simp <;> omega) _)
    exact HB4

end Go.Proofs.YtgjleeamhkolhaaGreatDoor

namespace Go.Proofs.YtgjleeamhkolhaaGreatDoor
open Go.RowKit

set_option maxRecDepth 20000 in
set_option maxHeartbeats 1000000 in
theorem copyS_nil (q s fr b : Int) (cap : Nat) (w : World) :
    Calls Tryz.prog 30 #[.agg #[.int .i64 q, .int .i64 s, .slice none 0 cap, .int .i64 fr, .int .i64 b]] w
      fun e w' => ∃ v, e = .returned (.agg #[.int .i64 q, .int .i64 s, v, .int .i64 fr, .int .i64 b]) ∧
        w'.ownsRow w.heap.size 98 7 v 0 [] ∧ Below w.heap.size w w' := by
  go_enter Tryz.func30, Tryz.ntmps30
  go_wp2
  refine bodyPost_ret (v := .agg #[.int .i64 q, .int .i64 s, .slice (some ⟨w.heap.size + 1 + 1, 0, none⟩) 0 0, .int .i64 fr, .int .i64 b]) (by simp [results, Tryz.results30, go_sem]) rfl ⟨_, rfl, ?_, bel3 _ _ _⟩
  have hF := owns_empty (w := (w.alloc (.cells #[.int .i64 q, .int .i64 s, .slice (some ⟨w.heap.size + 1 + 1, 0, none⟩) 0 0, .int .i64 fr, .int .i64 b] 38)).alloc (.cells #[.int .i64 q, .int .i64 s, .slice (some ⟨w.heap.size + 1 + 1, 0, none⟩) 0 0, .int .i64 fr, .int .i64 b] 38)) (base := w.heap.size) (e := 98) (size := 7) (by simp; omega)
  simp only [World.size_alloc] at hF
  exact hF
set_option maxRecDepth 20000 in
set_option maxHeartbeats 1000000 in
theorem copyS_none (q s fr b : Int) (x : Addr) (cap : Nat) (w : World) :
    Calls Tryz.prog 30 #[.agg #[.int .i64 q, .int .i64 s, .slice (some x) 0 cap, .int .i64 fr, .int .i64 b]] w
      fun e w' => ∃ v, e = .returned (.agg #[.int .i64 q, .int .i64 s, v, .int .i64 fr, .int .i64 b]) ∧
        w'.ownsRow w.heap.size 98 7 v 0 [] ∧ Below w.heap.size w w' := by
  go_enter Tryz.func30, Tryz.ntmps30
  go_wp2
  refine bodyPost_ret (v := .agg #[.int .i64 q, .int .i64 s, .slice (some ⟨w.heap.size + 1 + 1, 0, none⟩) 0 0, .int .i64 fr, .int .i64 b]) (by simp [results, Tryz.results30, go_sem]) rfl ⟨_, rfl, ?_, bel3 _ _ _⟩
  have hF := owns_empty (w := (w.alloc (.cells #[.int .i64 q, .int .i64 s, .slice (some ⟨w.heap.size + 1 + 1, 0, none⟩) 0 0, .int .i64 fr, .int .i64 b] 38)).alloc (.cells #[.int .i64 q, .int .i64 s, .slice (some ⟨w.heap.size + 1 + 1, 0, none⟩) 0 0, .int .i64 fr, .int .i64 b] 38)) (base := w.heap.size) (e := 98) (size := 7) (by simp; omega)
  simp only [World.size_alloc] at hF
  exact hF
/-- Of any path. -/
theorem copyS_pt (p : Pt) (w : World) (hl : p.l.length ≤ 1048576) (hs : PtAt w p) :
    Calls Tryz.prog 30 #[p.val] w fun e w' => ∃ a c, e = .returned (.agg #[.int .i64 p.q, .int .i64 p.s, .slice a p.l.length c, .int .i64 p.fr, .int .i64 p.b]) ∧ w'.ownsRow w.heap.size 98 7 (.slice a p.l.length c) p.l.length (stepCells p.l) ∧ Below w.heap.size w w' := by
  obtain ⟨q, s, fr, b, a, b0, o, cap, l⟩ := p
  simp only at hl hs ⊢
  by_cases hne : l = []
  · subst hne
    cases a with
    | none =>
      refine (copyS_nil q s fr b cap w).mono ?_
      rintro e w' ⟨v, rfl, ho, hb⟩
      obtain ⟨a, c, rfl⟩ := owns_sliceL ho
      exact ⟨a, c, rfl, ho, hb⟩
    | some x =>
      obtain ⟨xb, xo, xs⟩ := x
      refine (copyS_none q s fr b ⟨xb, xo, xs⟩ cap w).mono ?_
      rintro e w' ⟨v, rfl, ho, hb⟩
      obtain ⟨a, c, rfl⟩ := owns_sliceL ho
      exact ⟨a, c, rfl, ho, hb⟩
  · have e : a = some ⟨b0, o, none⟩ := hs.here hne
    subst e
    refine (copyS_all q s fr b b0 o cap l w hl hs).mono ?_
    rintro e w' ⟨v, rfl, ho, hb⟩
    obtain ⟨a, c, rfl⟩ := owns_sliceL ho
    exact ⟨a, c, rfl, ho, hb⟩

theorem bx_set {W : World} {B : Nat} {vs : Array Value} (h : Cbx W B vs) (j : Nat) (v : Value) : Cbx (W.setCell ⟨B, j, none⟩ v) B (vs.setIfInBounds j v) := by
  obtain ⟨T, h⟩ := h.it
  exact ⟨T, heap_setCell_same W B j vs T v h⟩
theorem bx_other {W : World} {B P : Nat} {vs : Array Value} (h : Cbx W B vs) (hne : B ≠ P) (j : Nat) (v : Value) : Cbx (W.setCell ⟨P, j, none⟩ v) B vs := by
  obtain ⟨T, h⟩ := h.it
  exact ⟨T, by rw [heap_setCell_other W ⟨P, j, none⟩ B v hne]; exact h⟩

set_option maxRecDepth 20000 in
set_option maxHeartbeats 4000000 in
theorem heldS_any (t : Hd) (w : World) (hl : t.p.l.length ≤ 1048576) (hz : t.x.l.length ≤ 1048576) (h : HdAt w t) :
    Calls Tryz.prog 56 #[t.val] w fun e w' => ∃ u : Hd, e = .returned u.val ∧ u.key = t.key ∧ HdOwn w' w.heap.size u ∧ Below w.heap.size w w' := by
  obtain ⟨W0, hW0⟩ : ∃ W0, (w.alloc (.cells #[.string t.nm, .int .i64 t.n, .int .i64 t.p.q, .int .i64 t.p.s, .slice t.p.a t.p.l.length t.p.cap, .int .i64 t.p.fr, .int .i64 t.p.b, .int .i64 t.sn, .int .i64 t.x.q, .int .i64 t.x.s, .slice t.x.a t.x.l.length t.x.cap, .int .i64 t.x.fr, .int .i64 t.x.b] 63)).alloc (.cells #[.string ⟨#[]⟩, .int .i64 0, .int .i64 0, .int .i64 0, .slice none 0 0, .int .i64 0, .int .i64 0, .int .i64 0, .int .i64 0, .int .i64 0, .slice none 0 0, .int .i64 0, .int .i64 0] 63) = W0 := ⟨_, rfl⟩
  have B0 : Below w.heap.size w W0 := by rw [← hW0]; exact bel2 _ _
  have X0 : Cbx W0 w.heap.size #[.string t.nm, .int .i64 t.n, .int .i64 t.p.q, .int .i64 t.p.s, .slice t.p.a t.p.l.length t.p.cap, .int .i64 t.p.fr, .int .i64 t.p.b, .int .i64 t.sn, .int .i64 t.x.q, .int .i64 t.x.s, .slice t.x.a t.x.l.length t.x.cap, .int .i64 t.x.fr, .int .i64 t.x.b] := by rw [← hW0]; exact (Cbx.new w #[.string t.nm, .int .i64 t.n, .int .i64 t.p.q, .int .i64 t.p.s, .slice t.p.a t.p.l.length t.p.cap, .int .i64 t.p.fr, .int .i64 t.p.b, .int .i64 t.sn, .int .i64 t.x.q, .int .i64 t.x.s, .slice t.x.a t.x.l.length t.x.cap, .int .i64 t.x.fr, .int .i64 t.x.b] 63).keep (bel1 _)
  have Y0 : Cbx W0 (w.heap.size + 1) #[.string ⟨#[]⟩, .int .i64 0, .int .i64 0, .int .i64 0, .slice none 0 0, .int .i64 0, .int .i64 0, .int .i64 0, .int .i64 0, .int .i64 0, .slice none 0 0, .int .i64 0, .int .i64 0] := by rw [← hW0]; have h := Cbx.new (w.alloc (.cells #[.string t.nm, .int .i64 t.n, .int .i64 t.p.q, .int .i64 t.p.s, .slice t.p.a t.p.l.length t.p.cap, .int .i64 t.p.fr, .int .i64 t.p.b, .int .i64 t.sn, .int .i64 t.x.q, .int .i64 t.x.s, .slice t.x.a t.x.l.length t.x.cap, .int .i64 t.x.fr, .int .i64 t.x.b] 63)) #[.string ⟨#[]⟩, .int .i64 0, .int .i64 0, .int .i64 0, .slice none 0 0, .int .i64 0, .int .i64 0, .int .i64 0, .int .i64 0, .int .i64 0, .slice none 0 0, .int .i64 0, .int .i64 0] 63; simpa using h
  have c0 : W0.cell? ⟨w.heap.size, 0, none⟩ = some (.string t.nm) := X0.c 0
  have c1 : W0.cell? ⟨w.heap.size, 1, none⟩ = some (.int .i64 t.n) := X0.c 1
  have c2 : W0.cell? ⟨w.heap.size, 2, none⟩ = some (.int .i64 t.p.q) := X0.c 2
  have c3 : W0.cell? ⟨w.heap.size, 3, none⟩ = some (.int .i64 t.p.s) := X0.c 3
  have c4 : W0.cell? ⟨w.heap.size, 4, none⟩ = some (.slice t.p.a t.p.l.length t.p.cap) := X0.c 4
  have c5 : W0.cell? ⟨w.heap.size, 5, none⟩ = some (.int .i64 t.p.fr) := X0.c 5
  have c6 : W0.cell? ⟨w.heap.size, 6, none⟩ = some (.int .i64 t.p.b) := X0.c 6
  have c7 : W0.cell? ⟨w.heap.size, 7, none⟩ = some (.int .i64 t.sn) := X0.c 7
  have c8 : W0.cell? ⟨w.heap.size, 8, none⟩ = some (.int .i64 t.x.q) := X0.c 8
  have c9 : W0.cell? ⟨w.heap.size, 9, none⟩ = some (.int .i64 t.x.s) := X0.c 9
  have c10 : W0.cell? ⟨w.heap.size, 10, none⟩ = some (.slice t.x.a t.x.l.length t.x.cap) := X0.c 10
  have c11 : W0.cell? ⟨w.heap.size, 11, none⟩ = some (.int .i64 t.x.fr) := X0.c 11
  have c12 : W0.cell? ⟨w.heap.size, 12, none⟩ = some (.int .i64 t.x.b) := X0.c 12
  go_enter Tryz.func56, Tryz.ntmps56
  go_wp2_with fail
  refine (copyS_pt t.p _ hl ((h.below B0).p)).mono ?_
  rintro e w2 ⟨a2, k2, rfl, o2, hb2⟩
  have X2 := X0.keep hb2
  have Y2 := Y0.keep hb2
  have zW := Y0.lt
  have B2 := B0.trans (hb2.mono B0.size)
  clear hW0 X0 Y0 c0 c1 c2 c3 c4 c5 c6 c7 c8 c9 c10 c11 c12
  have c0 : w2.cell? ⟨w.heap.size, 0, none⟩ = some (.string t.nm) := X2.c 0
  have c1 : w2.cell? ⟨w.heap.size, 1, none⟩ = some (.int .i64 t.n) := X2.c 1
  have c2 : w2.cell? ⟨w.heap.size, 2, none⟩ = some (.int .i64 t.p.q) := X2.c 2
  have c3 : w2.cell? ⟨w.heap.size, 3, none⟩ = some (.int .i64 t.p.s) := X2.c 3
  have c4 : w2.cell? ⟨w.heap.size, 4, none⟩ = some (.slice t.p.a t.p.l.length t.p.cap) := X2.c 4
  have c5 : w2.cell? ⟨w.heap.size, 5, none⟩ = some (.int .i64 t.p.fr) := X2.c 5
  have c6 : w2.cell? ⟨w.heap.size, 6, none⟩ = some (.int .i64 t.p.b) := X2.c 6
  have c7 : w2.cell? ⟨w.heap.size, 7, none⟩ = some (.int .i64 t.sn) := X2.c 7
  have c8 : w2.cell? ⟨w.heap.size, 8, none⟩ = some (.int .i64 t.x.q) := X2.c 8
  have c9 : w2.cell? ⟨w.heap.size, 9, none⟩ = some (.int .i64 t.x.s) := X2.c 9
  have c10 : w2.cell? ⟨w.heap.size, 10, none⟩ = some (.slice t.x.a t.x.l.length t.x.cap) := X2.c 10
  have c11 : w2.cell? ⟨w.heap.size, 11, none⟩ = some (.int .i64 t.x.fr) := X2.c 11
  have c12 : w2.cell? ⟨w.heap.size, 12, none⟩ = some (.int .i64 t.x.b) := X2.c 12
  have xf := X2.f
  have z2 := B0.size
  have hx2 : ∀ W : World, Below w.heap.size w W → PtAt W t.x := fun W hb => (h.below hb).x
  have L2 := owns_lt o2
  have L2b := owns_base o2
  have ze := X2.lt
  have zy := Y2.lt
  go_wp2_with fail
  refine (copyS_pt t.x _ hz (hx2 _ (by
    iterate 5 (refine Below.setCell ?_ (by simp) _)
    exact B2))).mono ?_
  rintro e w3 ⟨a3, k3, rfl, o3, hb3⟩
  obtain ⟨hc3, hf3⟩ := old_cells hb3
  have r0 : ∀ j, w3.cell? ⟨w.heap.size, j, none⟩ = _ := fun j => hc3 w.heap.size j (by simpa [World.setCell] using ze)
  have r1 : ∀ j, w3.cell? ⟨w.heap.size + 1, j, none⟩ = _ := fun j => hc3 (w.heap.size + 1) j (by simpa [World.setCell] using zy)
  have f0 : ∀ j, w3.frozen? ⟨w.heap.size, j, none⟩ = _ := fun j => hf3 w.heap.size j (by simpa [World.setCell] using ze)
  have f1 : ∀ j, w3.frozen? ⟨w.heap.size + 1, j, none⟩ = _ := fun j => hf3 (w.heap.size + 1) j (by simpa [World.setCell] using zy)
  have yf := Y2.f
  have y0 : w2.cell? ⟨w.heap.size + 1, 0, none⟩ = some (.string ⟨#[]⟩) := Y2.c 0
  have y1 : w2.cell? ⟨w.heap.size + 1, 1, none⟩ = some (.int .i64 0) := Y2.c 1
  have y2 : w2.cell? ⟨w.heap.size + 1, 2, none⟩ = some (.int .i64 0) := Y2.c 2
  have y3 : w2.cell? ⟨w.heap.size + 1, 3, none⟩ = some (.int .i64 0) := Y2.c 3
  have y4 : w2.cell? ⟨w.heap.size + 1, 4, none⟩ = some (.slice none 0 0) := Y2.c 4
  have y5 : w2.cell? ⟨w.heap.size + 1, 5, none⟩ = some (.int .i64 0) := Y2.c 5
  have y6 : w2.cell? ⟨w.heap.size + 1, 6, none⟩ = some (.int .i64 0) := Y2.c 6
  have y7 : w2.cell? ⟨w.heap.size + 1, 7, none⟩ = some (.int .i64 0) := Y2.c 7
  have y8 : w2.cell? ⟨w.heap.size + 1, 8, none⟩ = some (.int .i64 0) := Y2.c 8
  have y9 : w2.cell? ⟨w.heap.size + 1, 9, none⟩ = some (.int .i64 0) := Y2.c 9
  have y10 : w2.cell? ⟨w.heap.size + 1, 10, none⟩ = some (.slice none 0 0) := Y2.c 10
  have y11 : w2.cell? ⟨w.heap.size + 1, 11, none⟩ = some (.int .i64 0) := Y2.c 11
  have y12 : w2.cell? ⟨w.heap.size + 1, 12, none⟩ = some (.int .i64 0) := Y2.c 12
  have ne2 : ∀ k, (Value.slice a2 t.p.l.length k2).ownBlock = some k → k ≠ w.heap.size := fun k e => by have := L2b k e; omega
  have ne2' : ∀ k, (Value.slice a2 t.p.l.length k2).ownBlock = some k → k ≠ w.heap.size + 1 := fun k e => by have := L2b k e; omega
  have z3 : ∀ k, (Value.slice a3 t.x.l.length k3).ownBlock = some k → w2.heap.size ≤ k := fun k e => by have := owns_base o3 k e; simpa [World.setCell] using this
  have ne3 : ∀ k, (Value.slice a3 t.x.l.length k3).ownBlock = some k → k ≠ w.heap.size := fun k e => by have := z3 k e; omega
  have ne3' : ∀ k, (Value.slice a3 t.x.l.length k3).ownBlock = some k → k ≠ w.heap.size + 1 := fun k e => by have := z3 k e; omega
  have O2 := owns_below (owns_set (owns_set (owns_set (owns_set (owns_set o2 ne2 2 (.int .i64 t.p.q)) ne2 3 (.int .i64 t.p.s)) ne2 4 (.slice a2 t.p.l.length k2)) ne2 5 (.int .i64 t.p.fr)) ne2 6 (.int .i64 t.p.b)) hb3
  have B3 : Below w.heap.size w w3 := by
    refine Below.trans (b := ((((w2.setCell ⟨w.heap.size, 2, none⟩ (.int .i64 t.p.q)).setCell ⟨w.heap.size, 3, none⟩ (.int .i64 t.p.s)).setCell ⟨w.heap.size, 4, none⟩ (.slice a2 t.p.l.length k2)).setCell ⟨w.heap.size, 5, none⟩ (.int .i64 t.p.fr)).setCell ⟨w.heap.size, 6, none⟩ (.int .i64 t.p.b)) ?_ (hb3.mono (by simp [World.setCell]; omega))
    iterate 5 (refine Below.setCell ?_ (by simp) _)
    exact B2
  have HN : Hid (∀ k, (Value.slice a2 t.p.l.length k2).ownBlock = some k → (Value.slice a3 t.x.l.length k3).ownBlock ≠ some k) := fun k e e' => by have := L2 k e; have := z3 k e'; omega
  have zz : w.heap.size ≤ w2.heap.size := by omega
  have O3 := owns_lowerO (base' := w.heap.size) o3 (by simpa [World.setCell] using zz)
  have O2' := owns_lowerO (base' := w.heap.size) O2 (by omega)
  clear hc3 hf3 hb3 o3 o2 O2 L2 L2b z3 X2 Y2
  go_wp2
  refine bodyPost_ret (v := .agg #[.string t.nm, .int .i64 t.n, .int .i64 t.p.q, .int .i64 t.p.s, .slice a2 t.p.l.length k2, .int .i64 t.p.fr, .int .i64 t.p.b, .int .i64 t.sn, .int .i64 t.x.q, .int .i64 t.x.s, .slice a3 t.x.l.length k3, .int .i64 t.x.fr, .int .i64 t.x.b]) (by simp [results, Tryz.results56, go_sem, *]) rfl ⟨⟨t.nm, t.n, ⟨t.p.q, t.p.s, t.p.fr, t.p.b, a2, 0, 0, k2, t.p.l⟩, t.sn, ⟨t.x.q, t.x.s, t.x.fr, t.x.b, a3, 0, 0, k3, t.x.l⟩⟩, rfl, rfl, ⟨?_, ?_, HN.out⟩, ?_⟩
  · iterate 13 (refine owns_set ?_ ne2' _ _)
    iterate 5 (refine owns_set ?_ ne2 _ _)
    exact O2'
  · iterate 13 (refine owns_set ?_ ne3' _ _)
    iterate 5 (refine owns_set ?_ ne3 _ _)
    exact O3
  · iterate 18 (refine Below.setCell ?_ (by simp) _)
    exact B3
end Go.Proofs.YtgjleeamhkolhaaGreatDoor

namespace Go.Proofs.YtgjleeamhkolhaaGreatDoor
open Go.RowKit

theorem Cbx.ex {W : World} {B : Nat} {vs : Array Value} (h : Cbx W B vs) (j : Nat) (hj : j < vs.size) : ∃ v, W.cell? ⟨B, j, none⟩ = some v := ⟨vs[j], by rw [h.c j, Array.getElem?_eq_getElem hj]⟩
structure TwoQ (w w0 V : World) (A B : Array Value) (K : Nat) (C : Array Value) (L : Nat) (D : Array Value) : Prop where
  both : TwoX w w0 V A B
  boxK : Cbx V K C
  boxL : Cbx V L D
  k : w.heap.size + 1 < K
  k0 : w0.heap.size ≤ K
  l : w.heap.size + 1 < L
  l0 : w0.heap.size ≤ L
  ne : K ≠ L
theorem TwoQ.putK {w w0 V : World} {A B C D : Array Value} {K L : Nat} (h : TwoQ w w0 V A B K C L D) (j : Nat) (v : Value) : TwoQ w w0 (V.setCell ⟨K, j, none⟩ v) A B K (C.setIfInBounds j v) L D := by
  have hk := h.k
  exact ⟨⟨h.both.old.setCell (by show _ ≤ K; omega) _, h.both.now.setCell h.k0 _, bx_other h.both.one (by omega) j v, bx_other h.both.two (by omega) j v⟩, bx_set h.boxK j v, bx_other h.boxL (Ne.symm h.ne) j v, h.k, h.k0, h.l, h.l0, h.ne⟩
theorem TwoQ.putL {w w0 V : World} {A B C D : Array Value} {K L : Nat} (h : TwoQ w w0 V A B K C L D) (j : Nat) (v : Value) : TwoQ w w0 (V.setCell ⟨L, j, none⟩ v) A B K C L (D.setIfInBounds j v) := by
  have hk := h.l
  exact ⟨⟨h.both.old.setCell (by show _ ≤ L; omega) _, h.both.now.setCell h.l0 _, bx_other h.both.one (by omega) j v, bx_other h.both.two (by omega) j v⟩, bx_other h.boxK h.ne j v, bx_set h.boxL j v, h.k, h.k0, h.l, h.l0, h.ne⟩
theorem iv_put (V : World) (K j : Nat) (v : Value) : Iv K (K + 1) V (V.setCell ⟨K, j, none⟩ v) := Iv.of (S := [K]) (Spared.grown (grown_set V ⟨K, j, none⟩ v) (by simp)) (fun k hk => by simp at hk; omega)
theorem iv_row (V : World) (K : Nat) (cs : Array Value) : Iv K (K + 1) V (V.setRow K cs) := Iv.of (S := [K]) ⟨rfl, rfl, rfl, by simp, fun k _ hn => setRow_other V K k cs (by simpa using hn)⟩ (fun k hk => by simp at hk; omega)
theorem Cbx.rowIn {V : World} {K : Nat} {old : Array Value} (h : Cbx V K old) (cs : Array Value) : Cbx (V.setRow K cs) K cs := by
  obtain ⟨T, h⟩ := h.it
  exact ⟨T, setRow_heap V K old cs T _ h⟩
theorem Cbx.rowOff {V : World} {B K : Nat} {vs : Array Value} (h : Cbx V B vs) (hne : B ≠ K) (cs : Array Value) : Cbx (V.setRow K cs) B vs := by
  obtain ⟨T, h⟩ := h.it
  exact ⟨T, (setRow_other V K B cs hne).trans h⟩
theorem TwoQ.rowK {w w0 V : World} {A B C D : Array Value} {K L : Nat} (h : TwoQ w w0 V A B K C L D) (cs : Array Value) : TwoQ w w0 (V.setRow K cs) A B K cs L D := by
  have hk := h.k
  have hs := h.both.old.size
  exact ⟨⟨below_setRow h.both.old (by omega) cs, below_setRow h.both.now h.k0 cs, h.both.one.rowOff (by omega) cs, h.both.two.rowOff (by omega) cs⟩, h.boxK.rowIn cs, h.boxL.rowOff (Ne.symm h.ne) cs, h.k, h.k0, h.l, h.l0, h.ne⟩
theorem TwoQ.rowL {w w0 V : World} {A B C D : Array Value} {K L : Nat} (h : TwoQ w w0 V A B K C L D) (cs : Array Value) : TwoQ w w0 (V.setRow L cs) A B K C L cs := by
  have hk := h.l
  have hs := h.both.old.size
  exact ⟨⟨below_setRow h.both.old (by omega) cs, below_setRow h.both.now h.l0 cs, h.both.one.rowOff (by omega) cs, h.both.two.rowOff (by omega) cs⟩, h.boxK.rowOff h.ne cs, h.boxL.rowIn cs, h.k, h.k0, h.l, h.l0, h.ne⟩
end Go.Proofs.YtgjleeamhkolhaaGreatDoor

namespace Go.Proofs.YtgjleeamhkolhaaGreatDoor
open Go.RowKit

section
variable {P : Program} {ops : Array Oper} {Q : Exit → Act → World → Prop} {md : Region.Mode}

/-- Each of these operations, come up behind all that it waits for, keeps the invariant. -/
def StepsOk (P : Program) (md : Region.Mode) (ops : Array Oper) (Q : Exit → Act → World → Prop) (I : (Nat → Prop) → Act → World → Prop) (l : List Nat) : Prop :=
  ∀ i ∈ l, ∃ o, ops[i]? = some o ∧ ∀ (L : Nat → Prop) (a : Act) (w : World), ¬ L i → (∀ e ∈ o.after, Region.binds md e = true → L e.on) → I L a w → wpOp P ops Q i (I (fun j => j = i ∨ L j)) a w
theorem StepsOk.nil {I : (Nat → Prop) → Act → World → Prop} : StepsOk P md ops Q I [] := fun _ h => by cases h
theorem StepsOk.cons {I : (Nat → Prop) → Act → World → Prop} {i : Nat} {o : Oper} {l : List Nat} (ho : ops[i]? = some o)
    (h : ∀ (L : Nat → Prop) (a : Act) (w : World), ¬ L i → (∀ j, (o.after.any fun e => Region.binds md e && e.on == j) = true → L j) → I L a w → ∀ K' : Act → World → Prop, (∀ a w, I (fun j => j = i ∨ L j) a w → K' a w) → if Region.wanted o (yielded ops a.tmps) = true then Oper.wp P o a w K' Q else K' (a.put o.dst undef) w)
    (hs : StepsOk P md ops Q I l) : StepsOk P md ops Q I (i :: l) := fun j hj => by
  rcases List.mem_cons.1 hj with rfl | hj
  · refine ⟨o, ho, fun L a w hL hd hI => wpOp_step ho (h L a w hL (fun j hj => ?_) hI)⟩
    rw [Array.any_eq_true] at hj
    obtain ⟨k, hk, hb⟩ := hj
    simp only [Bool.and_eq_true, beq_iff_eq] at hb
    exact hb.2 ▸ hd _ (Array.getElem_mem hk) hb.1
  · exact hs j hj

theorem count_set (p p' : Nat → Bool) (i : Nat) (hp : p i = true) (hp' : p' i = false) (he : ∀ j, j ≠ i → p' j = p j) : ∀ n, i < n → (List.range n).countP p' + 1 = (List.range n).countP p
  | 0, h => by omega
  | n + 1, h => by
    rw [List.range_succ, List.countP_append, List.countP_append]
    by_cases e : i = n
    · subst e
      have h1 : (List.range i).countP p' = (List.range i).countP p := List.countP_congr (fun j hj => by rw [he j (by have := List.mem_range.1 hj; omega)])
      rw [h1]
      simp [hp, hp']
    · have := count_set p p' i hp hp' he n (by omega)
      have h2 : ([n] : List Nat).countP p' = ([n] : List Nat).countP p := by simp [he n (Ne.symm e)]
      omega
/-- What has come up. -/
def upL (listed : Array Bool) (j : Nat) : Prop := listed.getD j false = true
theorem upL_set {listed : Array Bool} {i : Nat} (hi : i < listed.size) : upL (listed.setIfInBounds i true) = fun j => j = i ∨ upL listed j := by
  funext j
  unfold upL
  by_cases e : j = i
  · subst e
    simp [Array.getD_eq_getD_getElem?, hi]
  · rw [Array.getD_eq_getD_getElem?, Array.getElem?_setIfInBounds_ne (Ne.symm e), ← Array.getD_eq_getD_getElem?]
    simp [e]

/-- By an invariant that each operation keeps; the last one waits for all others. -/
theorem any_inv (tl : Nat) (hn : ops.size = tl + 1)
    (hord : ((List.range (tl + 1)).all fun i => match ops[i]? with | some o => o.after.all (fun e => !Region.binds md e || decide (e.on < i)) | none => false) = true)
    (hlast : ((List.range tl).all fun j => match ops[tl]? with | some o => o.after.any (fun e => Region.binds md e && e.on == j) | none => false) = true)
    (I : (Nat → Prop) → Act → World → Prop) (hsteps : StepsOk P md ops Q I (List.range tl))
    (htl : ∀ (fuel : Nat) (a : Act) (w : World), I (fun j => j < tl) a w → wpAny P md ops Q (fuel + 1) ((Array.replicate tl true).push false) a w) :
    ∀ (e : Nat) (listed : Array Bool) (a : Act) (w : World), listed.size = tl + 1 → listed.getD tl true = false → (List.range tl).countP (fun j => !listed.getD j true) ≤ e → I (upL listed) a w → wpAny P md ops Q (e + 1) listed a w := by
  intro e
  induction e with
  | zero =>
    intro listed a w hs ht hc hI
    have hall : ∀ j, j < tl → listed.getD j true = true := fun j hj => by
      have := List.countP_eq_zero.1 (Nat.le_zero.1 hc) j (List.mem_range.2 hj)
      simpa using this
    have e1 : listed = (Array.replicate tl true).push false := by
      apply Array.ext
      · simp [hs]
      · intro i h1 h2
        by_cases hi : i < tl
        · have := hall i hi
          rw [Array.getD_eq_getD_getElem?, Array.getElem?_eq_getElem h1] at this
          rw [Array.getElem_push_lt (by simpa using hi)]
          simpa using this
        · obtain rfl : i = tl := by omega
          rw [Array.getD_eq_getD_getElem?, Array.getElem?_eq_getElem h1] at ht
          simpa [Array.getElem_push] using ht
    have e2 : upL listed = fun j => j < tl := by
      funext j
      unfold upL
      apply propext
      constructor
      · intro hj
        by_cases h1 : j < tl
        · exact h1
        · by_cases h2 : j = tl
          · subst h2
            rw [Array.getD_eq_getD_getElem?, Array.getElem?_eq_getElem (by omega)] at ht hj
            simp at ht hj
            rw [ht] at hj
            cases hj
          · rw [Array.getD_eq_getD_getElem?, Array.getElem?_eq_none (by omega)] at hj
            cases hj
      · intro h1
        have := hall j h1
        rw [Array.getD_eq_getD_getElem?, Array.getElem?_eq_getElem (by omega)] at this ⊢
        simpa using this
    rw [e2] at hI
    rw [e1]
    exact htl 0 a w hI
  | succ e ih =>
    intro listed a w hs ht hc hI
    by_cases hz : (List.range tl).countP (fun j => !listed.getD j true) = 0
    · have hall : ∀ j, j < tl → listed.getD j true = true := fun j hj => by
        have := List.countP_eq_zero.1 hz j (List.mem_range.2 hj)
        simpa using this
      have e1 : listed = (Array.replicate tl true).push false := by
        apply Array.ext
        · simp [hs]
        · intro i h1 h2
          by_cases hi : i < tl
          · have := hall i hi
            rw [Array.getD_eq_getD_getElem?, Array.getElem?_eq_getElem h1] at this
            rw [Array.getElem_push_lt (by simpa using hi)]
            simpa using this
          · obtain rfl : i = tl := by omega
            rw [Array.getD_eq_getD_getElem?, Array.getElem?_eq_getElem h1] at ht
            simpa [Array.getElem_push] using ht
      have e2 : upL listed = fun j => j < tl := by
        funext j
        unfold upL
        apply propext
        constructor
        · intro hj
          by_cases h1 : j < tl
          · exact h1
          · by_cases h2 : j = tl
            · subst h2
              rw [Array.getD_eq_getD_getElem?, Array.getElem?_eq_getElem (by omega)] at ht hj
              simp at ht hj
              rw [ht] at hj
              cases hj
            · rw [Array.getD_eq_getD_getElem?, Array.getElem?_eq_none (by omega)] at hj
              cases hj
        · intro h1
          have := hall j h1
          rw [Array.getD_eq_getD_getElem?, Array.getElem?_eq_getElem (by omega)] at this ⊢
          simpa using this
      rw [e2] at hI
      rw [e1]
      exact htl (e + 1) a w hI
    · have hex : ∃ j, j < tl ∧ listed.getD j true = false := by
        rcases Nat.eq_zero_or_pos ((List.range tl).countP (fun j => !listed.getD j true)) with h0 | h0
        · exact absurd h0 hz
        · obtain ⟨j, hj, hb⟩ := List.countP_pos_iff.1 h0
          exact ⟨j, List.mem_range.1 hj, by simpa using hb⟩
      have hready : Region.ready md ops listed ≠ [] := by
        -- the least that has not come up
        have key : ∀ n, (∃ j, j < n ∧ j < tl ∧ listed.getD j true = false) → ∃ j, j ∈ Region.ready md ops listed := by
          intro n
          induction n with
          | zero => rintro ⟨j, h, _⟩; omega
          | succ n ihn =>
            rintro ⟨j, hj, hjt, hjf⟩
            by_cases hex' : ∃ j, j < n ∧ j < tl ∧ listed.getD j true = false
            · exact ihn hex'
            · have ejn : j = n := by
                by_cases h1 : j < n
                · exact absurd ⟨j, h1, hjt, hjf⟩ hex'
                · omega
              subst ejn
              have ho := List.all_eq_true.1 hord j (List.mem_range.2 (by omega))
              refine ⟨j, mem_ready.2 ⟨hjf, ?_⟩⟩
              cases hop : ops[j]? with
              | none => rw [hop] at ho; cases ho
              | some o =>
                rw [hop] at ho
                simp only [Array.all_eq_true_iff_forall_mem, Bool.or_eq_true, Bool.not_eq_true', decide_eq_true_eq] at ho
                refine ⟨o, rfl, fun x hx hb => ?_⟩
                have hlt : x.on < j := by
                  rcases ho x hx with h1 | h1
                  · rw [hb] at h1; cases h1
                  · exact h1
                have hn' : ¬ listed.getD x.on true = false := fun h => hex' ⟨x.on, hlt, by omega, h⟩
                have ht' : listed.getD x.on true = true := by simpa using hn'
                rw [Array.getD_eq_getD_getElem?, Array.getElem?_eq_getElem (by omega)] at ht' ⊢
                simpa using ht'
        obtain ⟨j, hj, hjf⟩ := hex
        obtain ⟨k, hk⟩ := key tl ⟨j, hj, hj, hjf⟩
        intro h
        rw [h] at hk
        cases hk
      refine ⟨fun h => absurd h hready, fun i hi => ?_⟩
      obtain ⟨hif, o, hio, hdep⟩ := mem_ready.1 hi
      have hilt : i < tl + 1 := by
        have := (Array.getElem?_eq_some_iff.1 hio).1
        omega
      have hitl : i < tl := by
        rcases Nat.lt_or_ge i tl with h | h
        · exact h
        · exfalso
          obtain rfl : i = tl := by omega
          obtain ⟨j, hj, hjf⟩ := hex
          have hl := List.all_eq_true.1 hlast j (List.mem_range.2 hj)
          rw [hio] at hl
          simp only [Array.any_eq_true, Bool.and_eq_true, beq_iff_eq] at hl
          obtain ⟨k, hk, hb, hon⟩ := hl
          have := hdep _ (Array.getElem_mem hk) hb
          rw [hon] at this
          rw [Array.getD_eq_getD_getElem?, Array.getElem?_eq_getElem (by omega)] at this hjf
          simp at this hjf
          rw [this] at hjf
          cases hjf
      obtain ⟨o', ho', hst⟩ := hsteps i (List.mem_range.2 hitl)
      obtain rfl : o = o' := Option.some.inj (hio.symm.trans ho')
      have hnot : ¬ upL listed i := fun h => by
        unfold upL at h
        rw [Array.getD_eq_getD_getElem?, Array.getElem?_eq_getElem (by omega)] at h hif
        simp at h hif
        rw [h] at hif
        cases hif
      refine wpOp_mono (fun a' w' hI' => ?_) (hst (upL listed) a w hnot (fun x hx hb => hdep x hx hb) hI)
      rw [← upL_set (by omega)] at hI'
      refine ih _ _ _ (by simp [hs]) ?_ ?_ hI'
      · rw [Array.getD_eq_getD_getElem?, Array.getElem?_setIfInBounds_ne (by omega), ← Array.getD_eq_getD_getElem?]
        exact ht
      · have hcs := count_set (fun j => !listed.getD j true) (fun j => !(listed.setIfInBounds i true).getD j true) i (by simp [hif]) (by simp [Array.getD_eq_getD_getElem?, show i < listed.size by omega]) (fun j hj => by
          show (!(listed.setIfInBounds i true).getD j true) = !listed.getD j true
          rw [Array.getD_eq_getD_getElem?, Array.getElem?_setIfInBounds_ne (Ne.symm hj), ← Array.getD_eq_getD_getElem?]) tl hitl
        omega
theorem region_inv {id : Nat} {a : Act} {w : World} (tl : Nat) (hm : P.follows .mixedOrders = true) (hn : ops.size = tl + 1)
    (hord : ((List.range (tl + 1)).all fun i => match ops[i]? with | some o => o.after.all (fun e => !Region.binds .any e || decide (e.on < i)) | none => false) = true)
    (hlast : ((List.range tl).all fun j => match ops[tl]? with | some o => o.after.any (fun e => Region.binds .any e && e.on == j) | none => false) = true)
    (I : (Nat → Prop) → Act → World → Prop) (h0 : I (fun _ => False) a w.drew) (hsteps : StepsOk P .any ops Q I (List.range tl))
    (htl : ∀ (fuel : Nat) (a : Act) (w : World), I (fun j => j < tl) a w → wpAny P .any ops Q (fuel + 1) ((Array.replicate tl true).push false) a w) :
    (Code.region id ops true).wp P Q a w := by
  refine wp_region_any hm ?_
  have e0 : upL (Array.replicate ops.size false) = fun _ => False := by
    funext j
    unfold upL
    apply propext
    constructor
    · intro h
      rw [Array.getD_eq_getD_getElem?] at h
      by_cases hj : j < ops.size
      · simp [hj] at h
      · simp [hj] at h
    · exact fun h => h.elim
  have := any_inv tl hn hord hlast I hsteps htl tl (Array.replicate ops.size false) a w.drew (by simp [hn]) (by simp [Array.getD_eq_getD_getElem?, hn]) (by have := List.countP_le_length (p := fun j => !(Array.replicate ops.size false).getD j true) (l := List.range tl); simpa using this) (by rw [e0]; exact h0)
  rw [hn]
  rw [hn] at this
  exact this
end
end Go.Proofs.YtgjleeamhkolhaaGreatDoor
