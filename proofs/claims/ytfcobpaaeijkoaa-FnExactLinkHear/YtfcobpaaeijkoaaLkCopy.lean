/- The law's own functions on words, by their contracts. -/
import Derived.Test.YtfcobpaaeijkoaaLkLeft
import Derived.Test.YtfcobpaaeijkoaaLkWd
namespace Go.Proofs.Ytfcobpaaeijkoaa
open Go.RowKit

theorem szWord_any (t : Wd) (left : Int) (w : World) (hn : t.nm.size ≤ maxLen) (hl : t.p.l.length ≤ maxLen) (h0 : -1 ≤ left) (h1 : left ≤ 1048576) :
    Calls Try.prog 14 #[t.val, .int .i64 left] w fun e w' => e = .returned (.int .i64 (leftN left t.nm.size t.p.l.length)) ∧ Below w.heap.size w w' := by
  have wr : IntKind.i64.wrap (left - (t.nm.size : Int)) = left - t.nm.size := by unfold maxLen at hn; rw [IntKind.wrap_i64]; omega
  by_cases h : left - t.nm.size < 0
  · have G : Hid (leftN left t.nm.size t.p.l.length = -1) := by show _ = _; unfold leftN; rw [if_pos h]
    go_enter Try.func14, Try.ntmps14
    go_wp2
    go_ret
    exact ⟨by rw [G.out]; rfl, bel1 _⟩
  · have G : Hid (leftN left t.nm.size t.p.l.length = leftB (left - t.nm.size) t.p.l.length) := by show _ = _; unfold leftN; rw [if_neg h]
    have hx := leftB_left (left - t.nm.size) t.p.l.length (by omega) (by omega)
    have h0' : -1 ≤ left - (t.nm.size : Int) := by omega
    have h1' : left - (t.nm.size : Int) ≤ 1048576 := by omega
    by_cases h2 : leftB (left - t.nm.size) t.p.l.length < 0
    · have G2 : Hid (leftB (left - t.nm.size) t.p.l.length = -1) := by show _ = _; omega
      go_enter Try.func14, Try.ntmps14
      go_wp2_with fail
      refine (szPath_any _ _ _ _ _ _ _ _ _ hl h0' h1').mono ?_
      rintro e w1 ⟨rfl, hb1⟩
      go_wp2
      go_ret
      exact ⟨by rw [G.out, G2.out]; rfl, (bel1 _).trans (hb1.mono (by simp))⟩
    · go_enter Try.func14, Try.ntmps14
      go_wp2_with fail
      refine (szPath_any _ _ _ _ _ _ _ _ _ hl h0' h1').mono ?_
      rintro e w1 ⟨rfl, hb1⟩
      go_wp2
      go_ret
      exact ⟨by rw [G.out]; rfl, (bel1 _).trans (hb1.mono (by simp))⟩

set_option maxHeartbeats 1000000 in
theorem toWord_any (t : Wd) (w : World) (hl : t.p.l.length ≤ 1048576) (h : PtAt w t.p) :
    Calls Try.prog 16 #[t.val] w fun e w' => ∃ g, e = .returned (t.put g).val ∧ w.heap.size ≤ g ∧ g < w'.heap.size ∧ PtAt w' (t.p.put g) ∧ Below w.heap.size w w' ∧ ∀ i, i < t.p.l.length → w'.there g (i * 7) 7 := by
  go_enter Try.func16, Try.ntmps16
  go_wp2_with fail
  refine (toPath_more _ _ _ _ _ t.p.b0 t.p.o _ _ _ hl (h.below (bel3 _ _ _) h.lt)).mono ?_
  rintro e w1 ⟨g, rfl, hg, hg', hs1, hb1, hth1⟩
  obtain ⟨hc1, hf1⟩ := old_cells hb1
  have r1 : ∀ j, w1.cell? ⟨w.heap.size + 1, j, none⟩ = _ := fun j => hc1 (w.heap.size + 1) j (by simp)
  have r2 : ∀ j, w1.cell? ⟨w.heap.size + 1 + 1, j, none⟩ = _ := fun j => hc1 (w.heap.size + 1 + 1) j (by simp)
  have f1 : ∀ j, w1.frozen? ⟨w.heap.size + 1, j, none⟩ = _ := fun j => hf1 (w.heap.size + 1) j (by simp)
  have f2 : ∀ j, w1.frozen? ⟨w.heap.size + 1 + 1, j, none⟩ = _ := fun j => hf1 (w.heap.size + 1 + 1) j (by simp)
  have B1 : Below w.heap.size w w1 := (bel3 _ _ _).trans (hb1.mono (by simp; omega))
  simp at hg
  clear hb1 hc1 hf1
  go_wp2
  refine bodyPost_ret (v := (t.put g).val) (by simp [results, Try.results16, go_sem, *]) rfl ⟨g, rfl, by omega, by simpa [World.setCell] using hg', ?_, ?_, ?_⟩
  · repeat (refine StepsAt.set ?_ (by simp <;> omega) _)
    exact hs1
  · repeat (refine Below.setCell ?_ (by simp <;> omega) _)
    exact B1
  · intro i hi
    repeat (refine there_set ?_ _ _ _)
    exact hth1 i hi

theorem eqWord_same (t u : Wd) (w : World) (h1 : t.k = u.k) (h2 : t.nm = u.nm) (h3 : t.n = u.n) (h4 : t.p.q = u.p.q) (h5 : t.p.s = u.p.s) (h6 : t.p.fr = u.p.fr) (h7 : t.p.b = u.p.b) (h8 : t.p.l = u.p.l) (hl : t.p.l.length ≤ 1048576) (ht : PtAt w t.p) (hu : PtAt w u.p) :
    Calls Try.prog 9 #[t.val, u.val] w fun e w' => e = .returned (.bool true) ∧ Below w.heap.size w w' := by
  obtain ⟨k, nm, n, q, s, fr, b, a, b0, o, cap, l⟩ := t
  obtain ⟨k', nm', n', q', s', fr', b', a', b0', o', cap', l'⟩ := u
  simp only at h1 h2 h3 h4 h5 h6 h7 h8 hl ht hu
  subst h1 h2 h3 h4 h5 h6 h7 h8
  go_enter Try.func9, Try.ntmps9
  go_wp2_with fail
  refine (eqPath_same _ _ _ _ _ _ b0 o _ b0' o' _ l _ hl (ht.below (bel2 _ _) ht.lt) (hu.below (bel2 _ _) hu.lt)).mono ?_
  rintro e w1 ⟨rfl, hb1⟩
  go_wp2
  go_ret
  exact ⟨rfl, (bel2 _ _).trans (hb1.mono (by simp; omega))⟩
end Go.Proofs.Ytfcobpaaeijkoaa
