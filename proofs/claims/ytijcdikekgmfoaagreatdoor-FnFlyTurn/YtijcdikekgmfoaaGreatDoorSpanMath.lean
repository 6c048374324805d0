/- Of spans: where the way forward leaves something everywhere, so does the way back. -/
import Derived.Test.YtijcdikekgmfoaaGreatDoorSpanData
namespace Go.Proofs.YtijcdikekgmfoaaGreatDoor
open Go.RowKit

theorem most_quick {q s fr b : Int} {l : List Stp} (h : pathB q s fr b l = true) (k : Nat) : q ≤ mostB s l k := by
  have := kind_range h
  unfold mostB; split <;> omega

theorem bwd_in {q s fr b : Int} {l : List Stp} (hp : pathB q s fr b l = true) {n : Nat} (hf : fwdTo q s fr b l (n + 1) = true) : ∀ j, j ≤ n →
    (bwdS q s fr b l n j).1 ≤ (bwdS q s fr b l n j).2 ∧ (fwdS q s fr b l (n - j)).1 ≤ (bwdS q s fr b l n j).1 ∧ (bwdS q s fr b l n j).2 ≤ (fwdS q s fr b l (n - j)).2
  | 0, _ => by
    have := fwdTo_at hf (show n < n + 1 by omega)
    exact ⟨this, Int.le_refl _, Int.le_refl _⟩
  | j + 1, hj => by
    obtain ⟨h1, h2, h3⟩ := bwd_in hp hf j (by omega)
    obtain ⟨k, hk⟩ : ∃ k, n - (j + 1) = k ∧ n - j = k + 1 := ⟨n - (j + 1), rfl, by omega⟩
    rw [hk.2] at h2 h3
    have h0 := fwdTo_at hf (show k < n + 1 by omega)
    have hm := most_quick hp k
    simp only [fwdS] at h2 h3
    have m1 := mxB_le (lowB fr l (k + 1)) ((fwdS q s fr b l k).1 + q)
    have m2 := mnB_le (highB b l (k + 1)) ((fwdS q s fr b l k).2 + mostB s l k)
    simp only [bwdS]
    rw [hk.1]
    have m3 := mxB_le (fwdS q s fr b l k).1 ((bwdS q s fr b l n j).1 - mostB s l k)
    have m4 := mnB_le (fwdS q s fr b l k).2 ((bwdS q s fr b l n j).2 - q)
    refine ⟨?_, ?_, ?_⟩ <;> omega

theorem bwd_all {q s fr b : Int} {l : List Stp} (hp : pathB q s fr b l = true) {n : Nat} (hf : fwdTo q s fr b l (n + 1) = true) {k : Nat} (hk : k ≤ n + 1) : bwdTo q s fr b l n k = true := by
  unfold bwdTo
  rw [List.all_eq_true]
  intro i hi
  have := (bwd_in hp hf i (by have := List.mem_range.1 hi; omega)).1
  simpa [someB] using this

theorem span_fwd {q s fr b : Int} {l : List Stp} (hp : pathB q s fr b l = true) : spanB q s fr b l = fwdTo q s fr b l (l.length + 1) := by
  unfold spanB
  cases h : fwdTo q s fr b l (l.length + 1) with
  | false => rfl
  | true => rw [bwd_all hp h (Nat.le_refl _)]; rfl

/-- Windows within the ticks that there are: of a path that is ok, or of one that is ok but for its windows. -/
structure Wide (q s fr b : Int) (l : List Stp) : Prop where
  kind : 1 ≤ q ∧ q ≤ s ∧ s ≤ 50
  len : 1 ≤ l.length ∧ l.length ≤ 40
  win : ∀ k, 0 ≤ lowB fr l k ∧ highB b l k ≤ 10000
theorem Wide.of {q s fr b : Int} {l : List Stp} (h : pathB q s fr b l = true) : Wide q s fr b l := ⟨kind_range h, path_len h, bounds_ok h⟩
theorem Wide.fwd_range {q s fr b : Int} {l : List Stp} (h : Wide q s fr b l) (k : Nat) : 0 ≤ (fwdS q s fr b l k).1 ∧ (fwdS q s fr b l k).2 ≤ 10000 := by
  have hb := h.win k
  cases k with
  | zero => exact hb
  | succ m =>
    have h1 := mxB_le (lowB fr l (m + 1)) ((fwdS q s fr b l m).1 + q)
    have h2 := mnB_le (highB b l (m + 1)) ((fwdS q s fr b l m).2 + mostB s l m)
    simp only [fwdS]
    omega
theorem Wide.most_range {q s fr b : Int} {l : List Stp} (h : Wide q s fr b l) (k : Nat) : 1 ≤ mostB s l k ∧ mostB s l k ≤ 10000 := by
  have := h.kind
  unfold mostB; split <;> omega
theorem Wide.quick {q s fr b : Int} {l : List Stp} (h : Wide q s fr b l) (k : Nat) : q ≤ mostB s l k := by
  have := h.kind
  unfold mostB; split <;> omega
theorem Wide.bwd_in {q s fr b : Int} {l : List Stp} (hp : Wide q s fr b l) {n : Nat} (hf : fwdTo q s fr b l (n + 1) = true) : ∀ j, j ≤ n →
    (bwdS q s fr b l n j).1 ≤ (bwdS q s fr b l n j).2 ∧ (fwdS q s fr b l (n - j)).1 ≤ (bwdS q s fr b l n j).1 ∧ (bwdS q s fr b l n j).2 ≤ (fwdS q s fr b l (n - j)).2
  | 0, _ => by
    have := fwdTo_at hf (show n < n + 1 by omega)
    exact ⟨this, Int.le_refl _, Int.le_refl _⟩
  | j + 1, hj => by
    obtain ⟨h1, h2, h3⟩ := hp.bwd_in hf j (by omega)
    obtain ⟨k, hk⟩ : ∃ k, n - (j + 1) = k ∧ n - j = k + 1 := ⟨n - (j + 1), rfl, by omega⟩
    rw [hk.2] at h2 h3
    have h0 := fwdTo_at hf (show k < n + 1 by omega)
    have hm := hp.quick k
    simp only [fwdS] at h2 h3
    have m1 := mxB_le (lowB fr l (k + 1)) ((fwdS q s fr b l k).1 + q)
    have m2 := mnB_le (highB b l (k + 1)) ((fwdS q s fr b l k).2 + mostB s l k)
    simp only [bwdS]
    rw [hk.1]
    have m3 := mxB_le (fwdS q s fr b l k).1 ((bwdS q s fr b l n j).1 - mostB s l k)
    have m4 := mnB_le (fwdS q s fr b l k).2 ((bwdS q s fr b l n j).2 - q)
    refine ⟨?_, ?_, ?_⟩ <;> omega
theorem Wide.span_fwd {q s fr b : Int} {l : List Stp} (hp : Wide q s fr b l) : spanB q s fr b l = fwdTo q s fr b l (l.length + 1) := by
  unfold spanB
  cases h : fwdTo q s fr b l (l.length + 1) with
  | false => rfl
  | true =>
    have : bwdTo q s fr b l l.length (l.length + 1) = true := by
      unfold bwdTo
      rw [List.all_eq_true]
      intro i hi
      have := (hp.bwd_in h i (by have := List.mem_range.1 hi; omega)).1
      simpa [someB] using this
    rw [this]; rfl

/-- What FlySpans tells. -/
def flyL (q s fr b : Int) (l : List Stp) : List (Int × Int) := if pathB q s fr b l then spansL q s fr b l else []
def flyB (q s fr b : Int) (l : List Stp) : Bool := pathB q s fr b l && spanB q s fr b l
end Go.Proofs.YtijcdikekgmfoaaGreatDoor
