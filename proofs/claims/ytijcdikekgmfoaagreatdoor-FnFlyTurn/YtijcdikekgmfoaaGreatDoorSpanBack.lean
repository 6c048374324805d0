/- Spans on the way back, as a row that is written in place. -/
import Derived.Test.YtijcdikekgmfoaaGreatDoorSpanMath
import Derived.Test.YtijcdikekgmfoaaGreatDoorOwnMore
namespace Go.Proofs.YtijcdikekgmfoaaGreatDoor
open Go.RowKit

/-- The row when j ticks ahead of the last one are done. -/
def backL (q s fr b : Int) (l : List Stp) (n j : Nat) : List (Int × Int) := (List.range (n + 1)).map fun i => if n - j ≤ i then bwdS q s fr b l n (n - i) else fwdS q s fr b l i

theorem backL_length (q s fr b : Int) (l : List Stp) (n j : Nat) : (backL q s fr b l n j).length = n + 1 := by simp [backL]
theorem backL_get (q s fr b : Int) (l : List Stp) (n j i : Nat) (h : i < n + 1) : (backL q s fr b l n j)[i]? = some (if n - j ≤ i then bwdS q s fr b l n (n - i) else fwdS q s fr b l i) := by simp [backL, h]
theorem backL_zero (q s fr b : Int) (l : List Stp) (n : Nat) : backL q s fr b l n 0 = fwdL q s fr b l (n + 1) := by
  unfold backL fwdL
  apply List.map_congr_left
  intro i hi
  have hi' := List.mem_range.1 hi
  by_cases h : n - 0 ≤ i
  · have e : i = n := by omega
    rw [if_pos h, e, Nat.sub_self]; rfl
  · rw [if_neg h]
theorem backL_all {q s fr b : Int} {l : List Stp} (h : spanB q s fr b l = true) : backL q s fr b l l.length l.length = spansL q s fr b l := by
  unfold backL spansL
  rw [if_pos h]
  apply List.map_congr_left
  intro i _
  rw [if_pos (by omega)]
theorem backL_now (q s fr b : Int) (l : List Stp) (n j : Nat) (h : j < n) : (backL q s fr b l n j)[n - (j + 1)]? = some (fwdS q s fr b l (n - (j + 1))) := by
  rw [backL_get _ _ _ _ _ _ _ _ (by omega), if_neg (by omega)]
theorem backL_next (q s fr b : Int) (l : List Stp) (n j : Nat) (h : j < n) : (backL q s fr b l n j)[n - (j + 1) + 1]? = some (bwdS q s fr b l n j) := by
  rw [backL_get _ _ _ _ _ _ _ _ (by omega), if_pos (by omega)]
  congr 2
  omega
theorem backL_succ (q s fr b : Int) (l : List Stp) (n j : Nat) (h : j < n) : backL q s fr b l n (j + 1) = (backL q s fr b l n j).set (n - (j + 1)) (bwdS q s fr b l n (j + 1)) := by
  apply List.ext_getElem?
  intro i
  by_cases hi : i < n + 1
  · rw [backL_get _ _ _ _ _ _ _ _ hi]
    by_cases e : n - (j + 1) = i
    · rw [← e, List.getElem?_set_self (by rw [backL_length]; omega), if_pos (by omega)]
      congr 2
      omega
    · rw [List.getElem?_set_ne e, backL_get _ _ _ _ _ _ _ _ hi]
      by_cases h2 : n - j ≤ i
      · rw [if_pos h2, if_pos (by omega)]
      · rw [if_neg h2, if_neg (by omega)]
  · rw [List.getElem?_eq_none (by rw [backL_length]; omega), List.getElem?_eq_none (by rw [List.length_set, backL_length]; omega)]

theorem spanCells_set : ∀ (xs : List (Int × Int)) (i : Nat) (x : Int × Int), spanCells (xs.set i x) = ((spanCells xs).set (i * 2) (.int .i64 x.1)).set (i * 2 + 1) (.int .i64 x.2)
  | [], i, x => by simp [spanCells]
  | y :: ys, 0, x => by simp [spanCells]
  | y :: ys, i + 1, x => by
    have ih := spanCells_set ys i x
    have e : ∀ zs : List (Int × Int), spanCells (y :: zs) = .int .i64 y.1 :: .int .i64 y.2 :: spanCells zs := fun zs => by simp [spanCells]
    rw [List.set_cons_succ, e, e, ih, show (i + 1) * 2 = i * 2 + 1 + 1 by omega]
    simp

/-- A store into a row that a call owns. -/
theorem owns_put {w : World} {base e size n g cap : Nat} {xs : List Value} (h : w.ownsRow base e size (.slice (some ⟨g, 0, none⟩) n cap) n xs) {j : Nat} (_hj : j < n * size) (u : Value) :
    (w.setCell ⟨g, j, none⟩ u).ownsRow base e size (.slice (some ⟨g, 0, none⟩) n cap) n (xs.set j u) := by
  refine ⟨by rw [List.length_set]; exact h.1, ?_⟩
  rcases h.2 with ⟨h0, _⟩ | ⟨g', cap', cur, h1, h2, h3, h4, h5, h6, h7⟩
  · cases h0
  · simp only [Value.slice.injEq, Option.some.injEq, Addr.mk.injEq, and_true, true_and] at h1
    obtain ⟨rfl, rfl⟩ := h1
    refine Or.inr ⟨g, cap, _, rfl, h2, heap_setCell_same w g j cur e u h3, h4, h5, by rw [Array.size_setIfInBounds]; exact h6, ?_⟩
    rw [← h7, Array.toList_setIfInBounds, List.take_set]
end Go.Proofs.YtijcdikekgmfoaaGreatDoor
