/- Joined texts: SpanData, SpanMath. -/
import Derived.Test.YtgjleeamhkolhaaGreatDoorLawData
namespace Go.Proofs.YtgjleeamhkolhaaGreatDoor
open Go.RowKit

def mxB (a b : Int) : Int := if b < a then a else b
def mnB (a b : Int) : Int := if a < b then a else b
theorem mxB_le (a b : Int) : a ≤ mxB a b ∧ b ≤ mxB a b ∧ (mxB a b = a ∨ mxB a b = b) := by unfold mxB; split <;> omega
theorem mnB_le (a b : Int) : mnB a b ≤ a ∧ mnB a b ≤ b ∧ (mnB a b = a ∨ mnB a b = b) := by unfold mnB; split <;> omega

def fwdS (q s fr b : Int) (l : List Stp) : Nat → Int × Int
  | 0 => (lowB fr l 0, highB b l 0)
  | k + 1 => (mxB (lowB fr l (k + 1)) ((fwdS q s fr b l k).1 + q), mnB (highB b l (k + 1)) ((fwdS q s fr b l k).2 + mostB s l k))
def bwdS (q s fr b : Int) (l : List Stp) (n : Nat) : Nat → Int × Int
  | 0 => fwdS q s fr b l n
  | j + 1 => (mxB (fwdS q s fr b l (n - (j + 1))).1 ((bwdS q s fr b l n j).1 - mostB s l (n - (j + 1))), mnB (fwdS q s fr b l (n - (j + 1))).2 ((bwdS q s fr b l n j).2 - q))
def someB (x : Int × Int) : Bool := decide (x.1 ≤ x.2)
def fwdTo (q s fr b : Int) (l : List Stp) (k : Nat) : Bool := (List.range k).all fun i => someB (fwdS q s fr b l i)
def bwdTo (q s fr b : Int) (l : List Stp) (n k : Nat) : Bool := (List.range k).all fun i => someB (bwdS q s fr b l n i)
def spanB (q s fr b : Int) (l : List Stp) : Bool := fwdTo q s fr b l (l.length + 1) && bwdTo q s fr b l l.length (l.length + 1)
def spansL (q s fr b : Int) (l : List Stp) : List (Int × Int) := if spanB q s fr b l then (List.range (l.length + 1)).map fun k => bwdS q s fr b l l.length (l.length - k) else []

abbrev spanC (x : Int × Int) : List Value := [.int .i64 x.1, .int .i64 x.2]
def spanCells (xs : List (Int × Int)) : List Value := xs.flatMap spanC
theorem spanCells_snoc (xs : List (Int × Int)) (x : Int × Int) : spanCells (xs ++ [x]) = spanCells xs ++ spanC x := by simp [spanCells]
theorem spanCells_get (xs : List (Int × Int)) : ∀ (i : Nat) (x : Int × Int), xs[i]? = some x → (spanCells xs)[i * 2]? = some (.int .i64 x.1) ∧ (spanCells xs)[i * 2 + 1]? = some (.int .i64 x.2) := by
  induction xs with
  | nil => intro i x h; simp at h
  | cons y ys ih =>
    intro i x h
    cases i with
    | zero => simp at h; subst h; simp [spanCells]
    | succ m =>
      simp at h
      obtain ⟨h1, h2⟩ := ih m x h
      have e : spanCells (y :: ys) = .int .i64 y.1 :: .int .i64 y.2 :: spanCells ys := by simp [spanCells]
      rw [e]
      refine ⟨?_, ?_⟩
      · rw [show (m + 1) * 2 = m * 2 + 1 + 1 by omega]; simpa using h1
      · rw [show (m + 1) * 2 + 1 = (m * 2 + 1) + 1 + 1 by omega]; simpa using h2

def fwdL (q s fr b : Int) (l : List Stp) (k : Nat) : List (Int × Int) := (List.range k).map (fwdS q s fr b l)
theorem fwdL_succ (q s fr b : Int) (l : List Stp) (k : Nat) : fwdL q s fr b l (k + 1) = fwdL q s fr b l k ++ [fwdS q s fr b l k] := by simp [fwdL, List.range_succ]
theorem fwdL_get (q s fr b : Int) (l : List Stp) (k i : Nat) (h : i < k) : (fwdL q s fr b l k)[i]? = some (fwdS q s fr b l i) := by simp [fwdL, h]

theorem fwd_range {q s fr b : Int} {l : List Stp} (h : pathB q s fr b l = true) (k : Nat) : 0 ≤ (fwdS q s fr b l k).1 ∧ (fwdS q s fr b l k).2 ≤ 10000 := by
  have hb := bounds_ok h k
  cases k with
  | zero => exact hb
  | succ m =>
    have h1 := mxB_le (lowB fr l (m + 1)) ((fwdS q s fr b l m).1 + q)
    have h2 := mnB_le (highB b l (m + 1)) ((fwdS q s fr b l m).2 + mostB s l m)
    simp only [fwdS]
    omega
theorem kind_range {q s fr b : Int} {l : List Stp} (h : pathB q s fr b l = true) : 1 ≤ q ∧ q ≤ s ∧ s ≤ 50 := by
  simp only [pathB, Bool.and_eq_true, decide_eq_true_eq, kindB] at h
  exact h.1.1.1.1
theorem most_range {q s fr b : Int} {l : List Stp} (h : pathB q s fr b l = true) (k : Nat) : 1 ≤ mostB s l k ∧ mostB s l k ≤ 10000 := by
  have := kind_range h
  unfold mostB; split <;> omega
theorem fwdTo_at {q s fr b : Int} {l : List Stp} {k i : Nat} (h : fwdTo q s fr b l k = true) (hi : i < k) : (fwdS q s fr b l i).1 ≤ (fwdS q s fr b l i).2 := by
  simp only [fwdTo, List.all_eq_true, List.mem_range, someB, decide_eq_true_eq] at h
  exact h i hi
theorem fwdTo_succ {q s fr b : Int} {l : List Stp} {k : Nat} (h : fwdTo q s fr b l k = true) : fwdTo q s fr b l (k + 1) = someB (fwdS q s fr b l k) := by
  unfold fwdTo at *; rw [all_succ, h]; simp
theorem fwdTo_not {q s fr b : Int} {l : List Stp} {k n : Nat} (hk : k < n) (h : someB (fwdS q s fr b l k) = false) : fwdTo q s fr b l n = false := all_not hk h
end Go.Proofs.YtgjleeamhkolhaaGreatDoor

namespace Go.Proofs.YtgjleeamhkolhaaGreatDoor
open Go.RowKit

theorem most_quick {q s fr b : Int} {l : List Stp} (h : pathB q s fr b l = true) (k : Nat) : q ≤ mostB s l k := by
  have := kind_range h
  unfold mostB; split <;> omega

theorem bwd_in {q s fr b : Int} {l : List Stp} (hp : pathB q s fr b l = true) {n : Nat} (hf : fwdTo q s fr b l (n + 1) = true) : ∀ j, j ≤ n →
    (bwdS q s fr b l n j).1 ≤ (bwdS q s fr b l n j).2 ∧ (fwdS q s fr b l (n - j)).1 ≤ (bwdS q s fr b l n j).1 ∧ (bwdS q s fr b l n j).2 ≤ (fwdS q s fr b l (n - j)).2
  | 0, _ => by
    have := fwdTo_at hf (show n < n + 1 by omega)
    exact ⟨this, Int.le_refl _, Int.le_refl _⟩
  | j + 1, hj => by
    obtain ⟨h1, h2, h3⟩ := bwd_in hp hf j (by omega)
    obtain ⟨k, hk⟩ : ∃ k, n - (j + 1) = k ∧ n - j = k + 1 := ⟨n - (j + 1), rfl, by omega⟩
    rw [hk.2] at h2 h3
    have h0 := fwdTo_at hf (show k < n + 1 by omega)
    have hm := most_quick hp k
    simp only [fwdS] at h2 h3
    have m1 := mxB_le (lowB fr l (k + 1)) ((fwdS q s fr b l k).1 + q)
    have m2 := mnB_le (highB b l (k + 1)) ((fwdS q s fr b l k).2 + mostB s l k)
    simp only [bwdS]
    rw [hk.1]
    have m3 := mxB_le (fwdS q s fr b l k).1 ((bwdS q s fr b l n j).1 - mostB s l k)
    have m4 := mnB_le (fwdS q s fr b l k).2 ((bwdS q s fr b l n j).2 - q)
    refine ⟨?_, ?_, ?_⟩ <;> omega

theorem bwd_all {q s fr b : Int} {l : List Stp} (hp : pathB q s fr b l = true) {n : Nat} (hf : fwdTo q s fr b l (n + 1) = true) {k : Nat} (hk : k ≤ n + 1) : bwdTo q s fr b l n k = true := by
  unfold bwdTo
  rw [List.all_eq_true]
  intro i hi
  have := (bwd_in hp hf i (by have := List.mem_range.1 hi; omega)).1
  simpa [someB] using this

theorem span_fwd {q s fr b : Int} {l : List Stp} (hp : pathB q s fr b l = true) : spanB q s fr b l = fwdTo q s fr b l (l.length + 1) := by
  unfold spanB
  cases h : fwdTo q s fr b l (l.length + 1) with
  | false => rfl
  | true => rw [bwd_all hp h (Nat.le_refl _)]; rfl

structure Wide (q s fr b : Int) (l : List Stp) : Prop where
  kind : 1 ≤ q ∧ q ≤ s ∧ s ≤ 50
  len : 1 ≤ l.length ∧ l.length ≤ 40
  win : ∀ k, 0 ≤ lowB fr l k ∧ highB b l k ≤ 10000
theorem Wide.of {q s fr b : Int} {l : List Stp} (h : pathB q s fr b l = true) : Wide q s fr b l := ⟨kind_range h, path_len h, bounds_ok h⟩
theorem Wide.fwd_range {q s fr b : Int} {l : List Stp} (h : Wide q s fr b l) (k : Nat) : 0 ≤ (fwdS q s fr b l k).1 ∧ (fwdS q s fr b l k).2 ≤ 10000 := by
  have hb := h.win k
  cases k with
  | zero => exact hb
  | succ m =>
    have h1 := mxB_le (lowB fr l (m + 1)) ((fwdS q s fr b l m).1 + q)
    have h2 := mnB_le (highB b l (m + 1)) ((fwdS q s fr b l m).2 + mostB s l m)
    simp only [fwdS]
    omega
theorem Wide.most_range {q s fr b : Int} {l : List Stp} (h : Wide q s fr b l) (k : Nat) : 1 ≤ mostB s l k ∧ mostB s l k ≤ 10000 := by
  have := h.kind
  unfold mostB; split <;> omega
theorem Wide.quick {q s fr b : Int} {l : List Stp} (h : Wide q s fr b l) (k : Nat) : q ≤ mostB s l k := by
  have := h.kind
  unfold mostB; split <;> omega
theorem Wide.bwd_in {q s fr b : Int} {l : List Stp} (hp : Wide q s fr b l) {n : Nat} (hf : fwdTo q s fr b l (n + 1) = true) : ∀ j, j ≤ n →
    (bwdS q s fr b l n j).1 ≤ (bwdS q s fr b l n j).2 ∧ (fwdS q s fr b l (n - j)).1 ≤ (bwdS q s fr b l n j).1 ∧ (bwdS q s fr b l n j).2 ≤ (fwdS q s fr b l (n - j)).2
  | 0, _ => by
    have := fwdTo_at hf (show n < n + 1 by omega)
    exact ⟨this, Int.le_refl _, Int.le_refl _⟩
  | j + 1, hj => by
    obtain ⟨h1, h2, h3⟩ := hp.bwd_in hf j (by omega)
    obtain ⟨k, hk⟩ : ∃ k, n - (j + 1) = k ∧ n - j = k + 1 := ⟨n - (j + 1), rfl, by omega⟩
    rw [hk.2] at h2 h3
    have h0 := fwdTo_at hf (show k < n + 1 by omega)
    have hm := hp.quick k
    simp only [fwdS] at h2 h3
    have m1 := mxB_le (lowB fr l (k + 1)) ((fwdS q s fr b l k).1 + q)
    have m2 := mnB_le (highB b l (k + 1)) ((fwdS q s fr b l k).2 + mostB s l k)
    simp only [bwdS]
    rw [hk.1]
    have m3 := mxB_le (fwdS q s fr b l k).1 ((bwdS q s fr b l n j).1 - mostB s l k)
    have m4 := mnB_le (fwdS q s fr b l k).2 ((bwdS q s fr b l n j).2 - q)
    refine ⟨?_, ?_, ?_⟩ <;> omega
theorem Wide.span_fwd {q s fr b : Int} {l : List Stp} (hp : Wide q s fr b l) : spanB q s fr b l = fwdTo q s fr b l (l.length + 1) := by
  unfold spanB
  cases h : fwdTo q s fr b l (l.length + 1) with
  | false => rfl
  | true =>
    have : bwdTo q s fr b l l.length (l.length + 1) = true := by
      unfold bwdTo
      rw [List.all_eq_true]
      intro i hi
      have := (hp.bwd_in h i (by have := List.mem_range.1 hi; omega)).1
      simpa [someB] using this
    rw [this]; rfl

def flyL (q s fr b : Int) (l : List Stp) : List (Int × Int) := if pathB q s fr b l then spansL q s fr b l else []
def flyB (q s fr b : Int) (l : List Stp) : Bool := pathB q s fr b l && spanB q s fr b l
end Go.Proofs.YtgjleeamhkolhaaGreatDoor
