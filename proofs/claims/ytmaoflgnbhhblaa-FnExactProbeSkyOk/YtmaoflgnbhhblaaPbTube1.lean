/- The law's own functions on tubes, by their contracts. -/
import Derived.Test.YtmaoflgnbhhblaaPbCopy
import Derived.Test.YtmaoflgnbhhblaaPbEq
import Derived.Test.YtmaoflgnbhhblaaPbTubeK
namespace Go.Proofs.Ytmaoflgnbhhblaa
open Go.RowKit

/-- What is left of a measure behind a tube. -/
def leftT (left : Int) (t : Tb) : Int := if left - t.nm.size < 0 then -1 else leftB (left - t.nm.size) t.l.length
theorem leftT_left (left : Int) (t : Tb) (h1 : left ≤ 1048576) : -1 ≤ leftT left t ∧ leftT left t ≤ 1048576 := by
  unfold leftT leftB; split
  · omega
  · split <;> omega
theorem leftT_small {left : Int} {t : Tb} (h1 : left ≤ 1048576) (h : 0 ≤ leftT left t) : t.l.length ≤ 1048576 := by
  unfold leftT leftB at h; split at h
  · omega
  · split at h <;> omega

theorem szTube_any (t : Tb) (left : Int) (w : World) (hn : t.nm.size ≤ maxLen) (hl : t.l.length ≤ maxLen) (h0 : -1 ≤ left) (h1 : left ≤ 1048576) :
    Calls Try.prog 9 #[t.val, .int .i64 left] w fun e w' => e = .returned (.int .i64 (leftT left t)) ∧ Below w.heap.size w w' := by
  have wr : IntKind.i64.wrap (left - (t.nm.size : Int)) = left - t.nm.size := by unfold maxLen at hn; rw [IntKind.wrap_i64]; omega
  by_cases h : left - t.nm.size < 0
  · have G : Hid (leftT left t = -1) := by show _ = _; unfold leftT; rw [if_pos h]
    go_enter Try.func9, Try.ntmps9
    go_wp2
    go_ret
    exact ⟨by rw [G.out]; rfl, bel1 _⟩
  · have G : Hid (leftT left t = leftB (left - t.nm.size) t.l.length) := by show _ = _; unfold leftT; rw [if_neg h]
    have hx := leftB_left (left - t.nm.size) t.l.length (by omega) (by omega)
    have h0' : -1 ≤ left - (t.nm.size : Int) := by omega
    have h1' : left - (t.nm.size : Int) ≤ 1048576 := by omega
    by_cases h2 : leftB (left - t.nm.size) t.l.length < 0
    · have G2 : Hid (leftB (left - t.nm.size) t.l.length = -1) := by show _ = _; omega
      go_enter Try.func9, Try.ntmps9
      go_wp2_with (go_at_call 17; refine (szPboxes_any _ _ _ _ _ hl h0' h1').mono ?_; rintro e w1 ⟨rfl, rfl⟩)
      go_ret
      exact ⟨by rw [G.out, G2.out]; rfl, bel1 _⟩
    · go_enter Try.func9, Try.ntmps9
      go_wp2_with (go_at_call 17; refine (szPboxes_any _ _ _ _ _ hl h0' h1').mono ?_; rintro e w1 ⟨rfl, rfl⟩)
      go_ret
      exact ⟨by rw [G.out]; rfl, bel1 _⟩

set_option maxHeartbeats 1000000 in
theorem toTube_more (t : Tb) (w : World) (hl : t.l.length ≤ 1048576) (h : TubeAt w t) :
    Calls Try.prog 11 #[t.val] w fun e w' => ∃ g, e = .returned (t.put g).val ∧ w.heap.size ≤ g ∧ g < w'.heap.size ∧ TubeAt w' (t.put g) ∧ Below w.heap.size w w' ∧ ∀ i, i < t.l.length → w'.there g (i * 6) 6 := by
  go_enter Try.func11, Try.ntmps11
  go_wp2_with fail
  refine (toPboxes_more _ t.b t.o _ _ _ hl (h.at_.below (bel3 _ _ _) h.at_.lt)).mono ?_
  rintro e w1 ⟨g, rfl, hg, hg', hs1, hb1, hth1⟩
  obtain ⟨hc1, hf1⟩ := old_cells hb1
  have r1 : ∀ j, w1.cell? ⟨w.heap.size + 1, j, none⟩ = _ := fun j => hc1 (w.heap.size + 1) j (by simp)
  have r2 : ∀ j, w1.cell? ⟨w.heap.size + 1 + 1, j, none⟩ = _ := fun j => hc1 (w.heap.size + 1 + 1) j (by simp)
  have f1 : ∀ j, w1.frozen? ⟨w.heap.size + 1, j, none⟩ = _ := fun j => hf1 (w.heap.size + 1) j (by simp)
  have f2 : ∀ j, w1.frozen? ⟨w.heap.size + 1 + 1, j, none⟩ = _ := fun j => hf1 (w.heap.size + 1 + 1) j (by simp)
  have B1 : Below w.heap.size w w1 := (bel3 _ _ _).trans (hb1.mono (by simp; omega))
  simp at hg
  clear hb1 hc1 hf1
  go_wp2
  refine bodyPost_ret (v := (t.put g).val) (by simp [results, Try.results11, go_sem, *]) rfl ⟨g, rfl, by omega, by simpa [World.setCell] using hg', ⟨?_⟩, ?_, ?_⟩
  · iterate 3 (refine BoxesAt.set ?_ (by simp <;> omega) _)
    exact hs1
  · iterate 3 (refine Below.setCell ?_ (by simp <;> omega) _)
    exact B1
  · intro i hi
    iterate 3 (refine there_put ?_ (by simp <;> omega) _)
    exact hth1 i hi
theorem toTube_any (t : Tb) (w : World) (hl : t.l.length ≤ 1048576) (h : TubeAt w t) :
    Calls Try.prog 11 #[t.val] w fun e w' => ∃ g, e = .returned (t.put g).val ∧ w.heap.size ≤ g ∧ g < w'.heap.size ∧ TubeAt w' (t.put g) ∧ Below w.heap.size w w' :=
  (toTube_more t w hl h).mono fun _ _ ⟨g, h1, h2, h3, h4, h5, _⟩ => ⟨g, h1, h2, h3, h4, h5⟩

theorem eqTube_same (t u : Tb) (w : World) (hn : t.nm = u.nm) (hl : t.l = u.l) (hle : t.l.length ≤ 1048576) (ht : TubeAt w t) (hu : TubeAt w u) :
    Calls Try.prog 16 #[t.val, u.val] w fun e w' => e = .returned (.bool true) ∧ Below w.heap.size w w' := by
  obtain ⟨nm, a, b, o, cap, l⟩ := t
  obtain ⟨nm', a', b', o', cap', l'⟩ := u
  simp only at hn hl hle
  subst hn hl
  go_enter Try.func16, Try.ntmps16
  go_wp2_with fail
  refine (eqPboxes_same _ _ b o _ b' o' _ l _ hle (ht.at_.below (bel2 _ _) ht.at_.lt) (hu.at_.below (bel2 _ _) hu.at_.lt)).mono ?_
  rintro e w1 ⟨rfl, hb1⟩
  go_wp2
  go_ret
  exact ⟨rfl, (bel2 _ _).trans (hb1.mono (by simp; omega))⟩
end Go.Proofs.Ytmaoflgnbhhblaa
