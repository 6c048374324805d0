/- Stores into a row of steps that a call owns. -/
import Derived.Test.YtfnopcgmlfedfaaGreatDoorPathKit
namespace Go.Proofs.YtfnopcgmlfedfaaGreatDoor
open Go.RowKit

/-- One number of one step is written. -/
theorem row_put {w : World} {base g cap n : Nat} {l : List Stp} (h : w.ownsRow base 74 7 (.slice (some ⟨g, 0, none⟩) n cap) n (stepCells l)) {i j : Nat} {t t' : Stp} {u : Value} (ht : l[i]? = some t) (hj : j < 7) (he : t'.cells = t.cells.set j u) :
    (w.setCell ⟨g, i * 7 + j, none⟩ u).ownsRow base 74 7 (.slice (some ⟨g, 0, none⟩) n cap) n (stepCells (l.set i t')) := by
  have hi : i < l.length := (List.getElem?_eq_some_iff.1 ht).1
  have hn : l.length * 7 = n * 7 := by rw [← stepCells_length]; exact h.1
  rw [← stepCells_put l i j t t' u ht hj he]
  exact owns_put h (by omega) u
theorem row_put_set {w : World} {base g cap n : Nat} {l : List Stp} {i j : Nat} {t t' : Stp} {u : Value} (h : w.ownsRow base 74 7 (.slice (some ⟨g, 0, none⟩) n cap) n (stepCells (l.set i t))) (hi : i < l.length) (hj : j < 7) (he : t'.cells = t.cells.set j u) :
    (w.setCell ⟨g, i * 7 + j, none⟩ u).ownsRow base 74 7 (.slice (some ⟨g, 0, none⟩) n cap) n (stepCells (l.set i t')) := by
  have h1 := row_put h (j := j) (t := t) (t' := t') (u := u) (by rw [List.getElem?_set_self hi]) hj he
  rw [List.set_set] at h1
  exact h1
/-- All of one step is written. -/
theorem row_put7 {w : World} {base g cap n : Nat} {l : List Stp} (h : w.ownsRow base 74 7 (.slice (some ⟨g, 0, none⟩) n cap) n (stepCells l)) {i : Nat} {t : Stp} (ht : l[i]? = some t) (x y lo hi fr by_ : Int) (ho : Bool) :
    (((((((w.setCell ⟨g, i * 7, none⟩ (.int .i64 x)).setCell ⟨g, i * 7 + 1, none⟩ (.int .i64 y)).setCell ⟨g, i * 7 + 2, none⟩ (.int .i64 lo)).setCell ⟨g, i * 7 + 3, none⟩ (.int .i64 hi)).setCell ⟨g, i * 7 + 4, none⟩ (.int .i64 fr)).setCell ⟨g, i * 7 + 5, none⟩ (.int .i64 by_)).setCell ⟨g, i * 7 + 6, none⟩ (.bool ho)).ownsRow base 74 7 (.slice (some ⟨g, 0, none⟩) n cap) n (stepCells (l.set i { x := x, y := y, lo := lo, hi := hi, fr := fr, by_ := by_, ho := ho })) := by
  have hil : i < l.length := (List.getElem?_eq_some_iff.1 ht).1
  obtain ⟨a0, a1, a2, a3, a4, a5, a6⟩ := t
  have h0 := row_put h (j := 0) (t' := ⟨x, a1, a2, a3, a4, a5, a6⟩) (u := .int .i64 x) ht (by decide) rfl
  have h1 := row_put_set (t := ⟨x, a1, a2, a3, a4, a5, a6⟩) (t' := ⟨x, y, a2, a3, a4, a5, a6⟩) (j := 1) (u := .int .i64 y) h0 hil (by decide) rfl
  have h2 := row_put_set (t := ⟨x, y, a2, a3, a4, a5, a6⟩) (t' := ⟨x, y, lo, a3, a4, a5, a6⟩) (j := 2) (u := .int .i64 lo) h1 hil (by decide) rfl
  have h3 := row_put_set (t := ⟨x, y, lo, a3, a4, a5, a6⟩) (t' := ⟨x, y, lo, hi, a4, a5, a6⟩) (j := 3) (u := .int .i64 hi) h2 hil (by decide) rfl
  have h4 := row_put_set (t := ⟨x, y, lo, hi, a4, a5, a6⟩) (t' := ⟨x, y, lo, hi, fr, a5, a6⟩) (j := 4) (u := .int .i64 fr) h3 hil (by decide) rfl
  have h5 := row_put_set (t := ⟨x, y, lo, hi, fr, a5, a6⟩) (t' := ⟨x, y, lo, hi, fr, by_, a6⟩) (j := 5) (u := .int .i64 by_) h4 hil (by decide) rfl
  exact row_put_set (t := ⟨x, y, lo, hi, fr, by_, a6⟩) (t' := ⟨x, y, lo, hi, fr, by_, ho⟩) (j := 6) (u := .bool ho) h5 hil (by decide) rfl
/-- Steps that a call owns, as the walk meets them. -/
theorem steps_of {w : World} {base : Nat} {v : Value} {l : List Stp} (h : w.ownsRow base 74 7 v l.length (stepCells l)) : ∃ a b cap, v = .slice a l.length cap ∧ StepsAt w a b 0 l := by
  rcases h.2 with ⟨rfl, h0⟩ | ⟨g, cap, cur, rfl, _⟩
  · have : l = [] := List.eq_nil_of_length_eq_zero h0
    subst this
    exact ⟨none, 0, 0, rfl, ⟨fun h => absurd rfl h, fun h => absurd rfl h, fun i t hi => by simp at hi⟩⟩
  · exact ⟨some ⟨g, 0, none⟩, g, cap, rfl, steps_owned h⟩
end Go.Proofs.YtfnopcgmlfedfaaGreatDoor
