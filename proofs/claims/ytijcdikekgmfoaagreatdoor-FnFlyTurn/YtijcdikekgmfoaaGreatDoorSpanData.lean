/- Plain data of spans: forward, then back. -/
import Derived.Test.YtijcdikekgmfoaaGreatDoorLawData
namespace Go.Proofs.YtijcdikekgmfoaaGreatDoor
open Go.RowKit

def mxB (a b : Int) : Int := if b < a then a else b
def mnB (a b : Int) : Int := if a < b then a else b
theorem mxB_le (a b : Int) : a ≤ mxB a b ∧ b ≤ mxB a b ∧ (mxB a b = a ∨ mxB a b = b) := by unfold mxB; split <;> omega
theorem mnB_le (a b : Int) : mnB a b ≤ a ∧ mnB a b ≤ b ∧ (mnB a b = a ∨ mnB a b = b) := by unfold mnB; split <;> omega

/-- Forward: the least and the greatest k-th tick, by the ticks ahead of it. -/
def fwdS (q s fr b : Int) (l : List Stp) : Nat → Int × Int
  | 0 => (lowB fr l 0, highB b l 0)
  | k + 1 => (mxB (lowB fr l (k + 1)) ((fwdS q s fr b l k).1 + q), mnB (highB b l (k + 1)) ((fwdS q s fr b l k).2 + mostB s l k))
/-- Back: j ticks ahead of the last one. -/
def bwdS (q s fr b : Int) (l : List Stp) (n : Nat) : Nat → Int × Int
  | 0 => fwdS q s fr b l n
  | j + 1 => (mxB (fwdS q s fr b l (n - (j + 1))).1 ((bwdS q s fr b l n j).1 - mostB s l (n - (j + 1))), mnB (fwdS q s fr b l (n - (j + 1))).2 ((bwdS q s fr b l n j).2 - q))
def someB (x : Int × Int) : Bool := decide (x.1 ≤ x.2)
def fwdTo (q s fr b : Int) (l : List Stp) (k : Nat) : Bool := (List.range k).all fun i => someB (fwdS q s fr b l i)
def bwdTo (q s fr b : Int) (l : List Stp) (n k : Nat) : Bool := (List.range k).all fun i => someB (bwdS q s fr b l n i)
/-- There is a flight along the path. -/
def spanB (q s fr b : Int) (l : List Stp) : Bool := fwdTo q s fr b l (l.length + 1) && bwdTo q s fr b l l.length (l.length + 1)
/-- The spans. -/
def spansL (q s fr b : Int) (l : List Stp) : List (Int × Int) := if spanB q s fr b l then (List.range (l.length + 1)).map fun k => bwdS q s fr b l l.length (l.length - k) else []

abbrev spanC (x : Int × Int) : List Value := [.int .i64 x.1, .int .i64 x.2]
/-- The cells of a list of spans. -/
def spanCells (xs : List (Int × Int)) : List Value := xs.flatMap spanC
theorem spanCells_snoc (xs : List (Int × Int)) (x : Int × Int) : spanCells (xs ++ [x]) = spanCells xs ++ spanC x := by simp [spanCells]
theorem spanCells_length (xs : List (Int × Int)) : (spanCells xs).length = xs.length * 2 := by
  induction xs with
  | nil => rfl
  | cons x xs ih => simp only [spanCells, List.flatMap_cons, List.length_append] at *; rw [ih]; simp; omega
theorem spanCells_get (xs : List (Int × Int)) : ∀ (i : Nat) (x : Int × Int), xs[i]? = some x → (spanCells xs)[i * 2]? = some (.int .i64 x.1) ∧ (spanCells xs)[i * 2 + 1]? = some (.int .i64 x.2) := by
  induction xs with
  | nil => intro i x h; simp at h
  | cons y ys ih =>
    intro i x h
    cases i with
    | zero => simp at h; subst h; simp [spanCells]
    | succ m =>
      simp at h
      obtain ⟨h1, h2⟩ := ih m x h
      have e : spanCells (y :: ys) = .int .i64 y.1 :: .int .i64 y.2 :: spanCells ys := by simp [spanCells]
      rw [e]
      refine ⟨?_, ?_⟩
      · rw [show (m + 1) * 2 = m * 2 + 1 + 1 by omega]; simpa using h1
      · rw [show (m + 1) * 2 + 1 = (m * 2 + 1) + 1 + 1 by omega]; simpa using h2

/-- The first k spans, forward. -/
def fwdL (q s fr b : Int) (l : List Stp) (k : Nat) : List (Int × Int) := (List.range k).map (fwdS q s fr b l)
theorem fwdL_succ (q s fr b : Int) (l : List Stp) (k : Nat) : fwdL q s fr b l (k + 1) = fwdL q s fr b l k ++ [fwdS q s fr b l k] := by simp [fwdL, List.range_succ]
theorem fwdL_length (q s fr b : Int) (l : List Stp) (k : Nat) : (fwdL q s fr b l k).length = k := by simp [fwdL]
theorem fwdL_get (q s fr b : Int) (l : List Stp) (k i : Nat) (h : i < k) : (fwdL q s fr b l k)[i]? = some (fwdS q s fr b l i) := by simp [fwdL, h]

theorem fwd_range {q s fr b : Int} {l : List Stp} (h : pathB q s fr b l = true) (k : Nat) : 0 ≤ (fwdS q s fr b l k).1 ∧ (fwdS q s fr b l k).2 ≤ 10000 := by
  have hb := bounds_ok h k
  cases k with
  | zero => exact hb
  | succ m =>
    have h1 := mxB_le (lowB fr l (m + 1)) ((fwdS q s fr b l m).1 + q)
    have h2 := mnB_le (highB b l (m + 1)) ((fwdS q s fr b l m).2 + mostB s l m)
    simp only [fwdS]
    omega
theorem kind_range {q s fr b : Int} {l : List Stp} (h : pathB q s fr b l = true) : 1 ≤ q ∧ q ≤ s ∧ s ≤ 50 := by
  simp only [pathB, Bool.and_eq_true, decide_eq_true_eq, kindB] at h
  exact h.1.1.1.1
theorem most_range {q s fr b : Int} {l : List Stp} (h : pathB q s fr b l = true) (k : Nat) : 1 ≤ mostB s l k ∧ mostB s l k ≤ 10000 := by
  have := kind_range h
  unfold mostB; split <;> omega
theorem fwdTo_at {q s fr b : Int} {l : List Stp} {k i : Nat} (h : fwdTo q s fr b l k = true) (hi : i < k) : (fwdS q s fr b l i).1 ≤ (fwdS q s fr b l i).2 := by
  simp only [fwdTo, List.all_eq_true, List.mem_range, someB, decide_eq_true_eq] at h
  exact h i hi
theorem fwdTo_succ {q s fr b : Int} {l : List Stp} {k : Nat} (h : fwdTo q s fr b l k = true) : fwdTo q s fr b l (k + 1) = someB (fwdS q s fr b l k) := by
  unfold fwdTo at *; rw [all_succ, h]; simp
theorem fwdTo_not {q s fr b : Int} {l : List Stp} {k n : Nat} (hk : k < n) (h : someB (fwdS q s fr b l k) = false) : fwdTo q s fr b l n = false := all_not hk h
end Go.Proofs.YtijcdikekgmfoaaGreatDoor
