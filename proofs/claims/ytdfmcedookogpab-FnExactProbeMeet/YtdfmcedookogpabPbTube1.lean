/- The law's own functions on tubes, by their contracts. -/
import Derived.Test.YtdfmcedookogpabPbCopy
import Derived.Test.YtdfmcedookogpabPbEq
import Derived.Test.YtdfmcedookogpabPbTube0
import Derived.Test.YtdfmcedookogpabPbSpan
namespace Go.Proofs.Ytdfmcedookogpab
open Go.RowKit

theorem BoxesAt.set {w : World} {a : Option Addr} {b o : Nat} {l : List Bx} (h : BoxesAt w a b o l) {p : Addr} (hp : p.block ≠ b) (v : Value) : BoxesAt (w.setCell p v) a b o l where
  here := h.here
  lt hl := by have := h.lt hl; simpa [World.setCell] using this
  cell i s hi j u hu := by
    rw [World.cell?_setCell_other _ _ _ _ (by intro e; exact hp (by rw [e]))]
    exact h.cell i s hi j u hu

/-- A tube that lies in a block of its own. -/
structure TubeIn (W : World) (B : Nat) (t : Tb) : Prop where
  lt : B < W.heap.size
  c0 : W.cell? ⟨B, 0, none⟩ = some (.string t.nm)
  c1 : W.cell? ⟨B, 1, none⟩ = some (.slice t.a t.l.length t.cap)
theorem TubeIn.keep {W W' : World} {B : Nat} {t : Tb} (h : TubeIn W B t) (hb : Below W.heap.size W W') : TubeIn W' B t where
  lt := Nat.lt_of_lt_of_le h.lt hb.size
  c0 := (hb.cell (p := ⟨B, 0, none⟩) h.lt).trans h.c0
  c1 := (hb.cell (p := ⟨B, 1, none⟩) h.lt).trans h.c1
theorem TubeIn.new (w : World) (t : Tb) (T : TypeId) : TubeIn (w.alloc (.cells #[.string t.nm, .slice t.a t.l.length t.cap] T)) w.heap.size t where
  lt := by simp
  c0 := by simp [go_sem]
  c1 := by simp [go_sem]
/-- The same tube, its boxes in block g. -/
abbrev Tb.put (t : Tb) (g : Nat) : Tb := ⟨t.nm, some ⟨g, 0, none⟩, g, 0, t.l.length, t.l⟩

/-- What is left of a measure behind a tube. -/
def leftT (left : Int) (t : Tb) : Int := if left - t.nm.size < 0 then -1 else leftB (left - t.nm.size) t.l.length
theorem leftT_left (left : Int) (t : Tb) (h1 : left ≤ 1048576) : -1 ≤ leftT left t ∧ leftT left t ≤ 1048576 := by
  unfold leftT leftB; split
  · omega
  · split <;> omega
theorem leftT_small {left : Int} {t : Tb} (h1 : left ≤ 1048576) (h : 0 ≤ leftT left t) : t.l.length ≤ 1048576 := by
  unfold leftT leftB at h; split at h
  · omega
  · split at h <;> omega

theorem szTube_any (t : Tb) (left : Int) (w : World) (hn : t.nm.size ≤ maxLen) (hl : t.l.length ≤ maxLen) (h0 : -1 ≤ left) (h1 : left ≤ 1048576) :
    Calls Try.prog 4 #[t.val, .int .i64 left] w fun e w' => e = .returned (.int .i64 (leftT left t)) ∧ Below w.heap.size w w' := by
  have wr : IntKind.i64.wrap (left - (t.nm.size : Int)) = left - t.nm.size := by unfold maxLen at hn; rw [IntKind.wrap_i64]; omega
  by_cases h : left - t.nm.size < 0
  · have G : Hid (leftT left t = -1) := by show _ = _; unfold leftT; rw [if_pos h]
    go_enter Try.func4, Try.ntmps4
    go_wp2
    go_ret
    exact ⟨by rw [G.out]; rfl, bel1 _⟩
  · have G : Hid (leftT left t = leftB (left - t.nm.size) t.l.length) := by show _ = _; unfold leftT; rw [if_neg h]
    have hx := leftB_left (left - t.nm.size) t.l.length (by omega) (by omega)
    have h0' : -1 ≤ left - (t.nm.size : Int) := by omega
    have h1' : left - (t.nm.size : Int) ≤ 1048576 := by omega
    by_cases h2 : leftB (left - t.nm.size) t.l.length < 0
    · have G2 : Hid (leftB (left - t.nm.size) t.l.length = -1) := by show _ = _; omega
      go_enter Try.func4, Try.ntmps4
      go_wp2_with (go_at_call 10; refine (szPboxes_any _ _ _ _ _ hl h0' h1').mono ?_; rintro e w1 ⟨rfl, rfl⟩)
      go_ret
      exact ⟨by rw [G.out, G2.out]; rfl, bel1 _⟩
    · go_enter Try.func4, Try.ntmps4
      go_wp2_with (go_at_call 10; refine (szPboxes_any _ _ _ _ _ hl h0' h1').mono ?_; rintro e w1 ⟨rfl, rfl⟩)
      go_ret
      exact ⟨by rw [G.out]; rfl, bel1 _⟩

theorem there_put {w : World} {b o n : Nat} (h : w.there b o n) {p : Addr} (hp : p.block ≠ b) (v : Value) : (w.setCell p v).there b o n := fun j hj => by
  have hb := heap_setCell_other w p b v (fun e => hp e.symm)
  have h1 := h j hj
  rw [World.cell?_of_block (a := ⟨b, o + j, none⟩) hb, World.frozen?_of_block (a := ⟨b, o + j, none⟩) hb]
  exact h1

set_option maxHeartbeats 1000000 in
theorem toTube_more (t : Tb) (w : World) (hl : t.l.length ≤ 1048576) (h : TubeAt w t) :
    Calls Try.prog 6 #[t.val] w fun e w' => ∃ g, e = .returned (t.put g).val ∧ w.heap.size ≤ g ∧ g < w'.heap.size ∧ TubeAt w' (t.put g) ∧ Below w.heap.size w w' ∧ ∀ i, i < t.l.length → w'.there g (i * 6) 6 := by
  go_enter Try.func6, Try.ntmps6
  go_wp2_with fail
  refine (toPboxes_more _ t.b t.o _ _ _ hl (h.at_.below (bel3 _ _ _) h.at_.lt)).mono ?_
  rintro e w1 ⟨g, rfl, hg, hg', hs1, hb1, hth1⟩
  obtain ⟨hc1, hf1⟩ := old_cells hb1
  have r1 : ∀ j, w1.cell? ⟨w.heap.size + 1, j, none⟩ = _ := fun j => hc1 (w.heap.size + 1) j (by simp)
  have r2 : ∀ j, w1.cell? ⟨w.heap.size + 1 + 1, j, none⟩ = _ := fun j => hc1 (w.heap.size + 1 + 1) j (by simp)
  have f1 : ∀ j, w1.frozen? ⟨w.heap.size + 1, j, none⟩ = _ := fun j => hf1 (w.heap.size + 1) j (by simp)
  have f2 : ∀ j, w1.frozen? ⟨w.heap.size + 1 + 1, j, none⟩ = _ := fun j => hf1 (w.heap.size + 1 + 1) j (by simp)
  have B1 : Below w.heap.size w w1 := (bel3 _ _ _).trans (hb1.mono (by simp; omega))
  simp at hg
  clear hb1 hc1 hf1
  go_wp2
  refine bodyPost_ret (v := (t.put g).val) (by simp [results, Try.results6, go_sem, *]) rfl ⟨g, rfl, by omega, by simpa [World.setCell] using hg', ⟨?_⟩, ?_, ?_⟩
  · iterate 3 (refine BoxesAt.set ?_ (by simp <;> omega) _)
    exact hs1
  · iterate 3 (refine Below.setCell ?_ (by simp <;> omega) _)
    exact B1
  · intro i hi
    iterate 3 (refine there_put ?_ (by simp <;> omega) _)
    exact hth1 i hi
theorem toTube_any (t : Tb) (w : World) (hl : t.l.length ≤ 1048576) (h : TubeAt w t) :
    Calls Try.prog 6 #[t.val] w fun e w' => ∃ g, e = .returned (t.put g).val ∧ w.heap.size ≤ g ∧ g < w'.heap.size ∧ TubeAt w' (t.put g) ∧ Below w.heap.size w w' :=
  (toTube_more t w hl h).mono fun _ _ ⟨g, h1, h2, h3, h4, h5, _⟩ => ⟨g, h1, h2, h3, h4, h5⟩

theorem eqTube_same (t u : Tb) (w : World) (hn : t.nm = u.nm) (hl : t.l = u.l) (hle : t.l.length ≤ 1048576) (ht : TubeAt w t) (hu : TubeAt w u) :
    Calls Try.prog 9 #[t.val, u.val] w fun e w' => e = .returned (.bool true) ∧ Below w.heap.size w w' := by
  obtain ⟨nm, a, b, o, cap, l⟩ := t
  obtain ⟨nm', a', b', o', cap', l'⟩ := u
  simp only at hn hl hle
  subst hn hl
  go_enter Try.func9, Try.ntmps9
  go_wp2_with fail
  refine (eqPboxes_same _ _ b o _ b' o' _ l _ hle (ht.at_.below (bel2 _ _) ht.at_.lt) (hu.at_.below (bel2 _ _) hu.at_.lt)).mono ?_
  rintro e w1 ⟨rfl, hb1⟩
  go_wp2
  go_ret
  exact ⟨rfl, (bel2 _ _).trans (hb1.mono (by simp; omega))⟩
end Go.Proofs.Ytdfmcedookogpab
