/- Plain data: the program's checks of a path, and that they come to what the specification asks. -/
import Derived.Test.YtijcdikekgmfoaaGreatDoorData
namespace Go.Proofs.YtijcdikekgmfoaaGreatDoor
open Go.RowKit

/-- The i-th step is within its bounds. -/
def okS (l : List Stp) (i : Nat) : Bool := stepB (l.getD i .zero).x (l.getD i .zero).y (l.getD i .zero).lo (l.getD i .zero).hi (l.getD i .zero).fr (l.getD i .zero).by_
def okTo (l : List Stp) (k : Nat) : Bool := (List.range k).all (okS l)
/-- The (i + 1)-th step follows the i-th, as the program asks it. -/
def folS (l : List Stp) (i : Nat) : Bool :=
  folB (l.getD (i + 1) .zero).x (l.getD (i + 1) .zero).y (l.getD (i + 1) .zero).lo (l.getD (i + 1) .zero).hi (l.getD i .zero).x (l.getD i .zero).y (l.getD i .zero).lo (l.getD i .zero).hi
def folTo (l : List Stp) (k : Nat) : Bool := (List.range k).all (folS l)

theorem all_succ (f : Nat → Bool) (k : Nat) : (List.range (k + 1)).all f = ((List.range k).all f && f k) := by
  simp [List.range_succ, List.all_append]
theorem all_not {f : Nat → Bool} {k n : Nat} (hk : k < n) (h : f k = false) : (List.range n).all f = false := by
  simp; exact ⟨k, hk, h⟩

theorem wrap64_small (x : Int) (h0 : -100 ≤ x) (h1 : x ≤ 100) : wrap64 x = x := by
  simp only [wrap64]; omega

theorem fol_comm {p t : Stp} (hp : stepB p.x p.y p.lo p.hi p.fr p.by_ = true) (ht : stepB t.x t.y t.lo t.hi t.fr t.by_ = true) :
    folB t.x t.y t.lo t.hi p.x p.y p.lo p.hi = folB p.x p.y p.lo p.hi t.x t.y t.lo t.hi := by
  simp only [stepB, decide_eq_true_eq] at hp ht
  unfold folB inB levB
  rw [wrap64_small (t.x - p.x) (by omega) (by omega), wrap64_small (t.y - p.y) (by omega) (by omega), wrap64_small (p.x - t.x) (by omega) (by omega), wrap64_small (p.y - t.y) (by omega) (by omega)]
  rw [Bool.eq_iff_iff]
  simp
  omega

/-- The program's five checks come to the specification's test. -/
theorem checks_path (q s fr b : Int) (l : List Stp) :
    (kindB q s && inB l.length 1 40 && okTo l l.length && folTo l (l.length - 1) && ordB 0 fr b 10000) = pathB q s fr b l := by
  have e1 : ordB 0 fr b 10000 = (inB fr 0 b && decide (b ≤ 10000)) := by rw [Bool.eq_iff_iff]; simp [ordB, inB]; omega
  have e2 : (okTo l l.length && folTo l (l.length - 1)) = goodTo l l.length := by
    rw [Bool.eq_iff_iff]
    simp only [okTo, folTo, goodTo, Bool.and_eq_true, List.all_eq_true, List.mem_range]
    constructor
    · rintro ⟨h1, h2⟩ i hi
      unfold goodS
      have k1 : stepB _ _ _ _ _ _ = true := h1 i hi
      rw [k1]
      cases i with
      | zero => rfl
      | succ m =>
        have k2 : stepB _ _ _ _ _ _ = true := h1 m (by omega)
        have k3 : folB _ _ _ _ _ _ _ _ = true := h2 m (by omega)
        rw [fol_comm k2 k1] at k3
        simp only [Nat.add_sub_cancel]
        rw [k3]; simp
    · intro h
      have h1 : ∀ i, i < l.length → okS l i = true := fun i hi => by
        have := h i hi
        unfold goodS at this
        exact (Bool.and_eq_true_iff.1 this).1
      refine ⟨h1, fun i hi => ?_⟩
      have := (Bool.and_eq_true_iff.1 (h (i + 1) (by omega))).2
      simp only [Nat.add_sub_cancel] at this
      have k0 : decide (i + 1 = 0) = false := by simp
      rw [k0, Bool.false_or] at this
      unfold folS
      rw [fol_comm (h1 i (by omega)) (h1 (i + 1) (by omega))]
      exact this
  unfold pathB
  rw [e1, ← e2]
  cases kindB q s <;> cases inB l.length 1 40 <;> cases okTo l l.length <;> cases folTo l (l.length - 1) <;> cases inB fr 0 b <;> cases decide (b ≤ 10000) <;> rfl
end Go.Proofs.YtijcdikekgmfoaaGreatDoor
