/- A path's tube, as a list of boxes. -/
import Derived.Test.YtgjleeamhkolhaaGreatDoorSpanMath
import Derived.Test.YtgjleeamhkolhaaGreatDoorBoxData
import Derived.Test.YtgjleeamhkolhaaGreatDoorGrp
namespace Go.Proofs.YtgjleeamhkolhaaGreatDoor
open Go.RowKit

/-- The box of a step. -/
def tubeAt (F : List (Int × Int)) (l : List Stp) (k : Nat) : Bx := ⟨(l.getD k .zero).x, (l.getD k .zero).y, (l.getD k .zero).lo, (l.getD k .zero).hi, (F.getD k (0, 0)).1, (F.getD (k + 1) (0, 0)).2 - 1⟩
/-- The first k boxes. -/
def tubeTo (F : List (Int × Int)) (l : List Stp) (k : Nat) : List Bx := (List.range k).map (tubeAt F l)
theorem tubeTo_length (F : List (Int × Int)) (l : List Stp) (k : Nat) : (tubeTo F l k).length = k := by simp [tubeTo]
theorem tubeTo_succ (F : List (Int × Int)) (l : List Stp) (k : Nat) : tubeTo F l (k + 1) = tubeTo F l k ++ [tubeAt F l k] := by simp [tubeTo, List.range_succ]
/-- The tube. -/
def tubeL (q s fr b : Int) (l : List Stp) : List Bx := if flyB q s fr b l then tubeTo (flyL q s fr b l) l l.length else []

theorem bwd_range {q s fr b : Int} {l : List Stp} (h : pathB q s fr b l = true) (n j : Nat) : 0 ≤ (bwdS q s fr b l n j).1 ∧ (bwdS q s fr b l n j).2 ≤ 10000 := by
  cases j with
  | zero => exact fwd_range h n
  | succ j =>
    have hf := fwd_range h (n - (j + 1))
    have h1 := mxB_le (fwdS q s fr b l (n - (j + 1))).1 ((bwdS q s fr b l n j).1 - mostB s l (n - (j + 1)))
    have h2 := mnB_le (fwdS q s fr b l (n - (j + 1))).2 ((bwdS q s fr b l n j).2 - q)
    simp only [bwdS]
    omega
/-- The spans lie within 0 .. 10000. -/
theorem fly_range (q s fr b : Int) (l : List Stp) (k : Nat) : 0 ≤ ((flyL q s fr b l).getD k (0, 0)).2 ∧ ((flyL q s fr b l).getD k (0, 0)).2 ≤ 10000 := by
  cases hp : pathB q s fr b l with
  | false => unfold flyL; rw [hp]; simp
  | true =>
    cases hs : spanB q s fr b l with
    | false => unfold flyL spansL; rw [hp, hs]; simp
    | true =>
      unfold flyL spansL
      rw [hp, hs]
      simp only [if_true]
      by_cases hk : k < l.length + 1
      · have e : ((List.range (l.length + 1)).map fun k => bwdS q s fr b l l.length (l.length - k)).getD k (0, 0) = bwdS q s fr b l l.length (l.length - k) := by
          rw [List.getD_eq_getElem?_getD]
          simp [hk]
        rw [e]
        have h1 := bwd_range hp l.length (l.length - k)
        have h2 : (bwdS q s fr b l l.length (l.length - k)).1 ≤ (bwdS q s fr b l l.length (l.length - k)).2 := by
          unfold spanB at hs
          have h3 := (Bool.and_eq_true_iff.1 hs).2
          simp only [bwdTo, List.all_eq_true, List.mem_range, someB, decide_eq_true_eq] at h3
          exact h3 _ (by omega)
        omega
      · have e : ((List.range (l.length + 1)).map fun k => bwdS q s fr b l l.length (l.length - k)).getD k (0, 0) = (0, 0) := by
          rw [List.getD_eq_getElem?_getD]
          simp [hk]
        rw [e]
        simp
end Go.Proofs.YtgjleeamhkolhaaGreatDoor
