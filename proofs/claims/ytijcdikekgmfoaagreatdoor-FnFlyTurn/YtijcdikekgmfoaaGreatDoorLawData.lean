/- Plain data of flights: windows and stays. -/
import Derived.Test.YtijcdikekgmfoaaGreatDoorData
import Derived.Test.YtijcdikekgmfoaaGreatDoorData2
namespace Go.Proofs.YtijcdikekgmfoaaGreatDoor
open Go.RowKit

def lowB (fr : Int) (l : List Stp) (k : Nat) : Int := if k < l.length then (l.getD k .zero).fr else fr
def highB (b : Int) (l : List Stp) (k : Nat) : Int := if k < l.length then (l.getD k .zero).by_ else b
def mostB (s : Int) (l : List Stp) (k : Nat) : Int := if (l.getD k .zero).ho then 10000 else s
/-- The k-th tick is within its window. -/
def winS (fr b : Int) (l : List Stp) (zs : List Int) (k : Nat) : Bool := inB (zs.getD k 0) (lowB fr l k) (highB b l k)
/-- From the k-th tick to the next there are as many ticks as there may be. -/
def stayS (q s : Int) (l : List Stp) (zs : List Int) (k : Nat) : Bool := inB (zs.getD (k + 1) 0 - zs.getD k 0) q (mostB s l k)
/-- As the specification asks it of the k-th tick. -/
def tickS (q s fr b : Int) (l : List Stp) (zs : List Int) (k : Nat) : Bool := winS fr b l zs k && (decide (k = 0) || stayS q s l zs (k - 1))
def tickTo (q s fr b : Int) (l : List Stp) (zs : List Int) (k : Nat) : Bool := (List.range k).all (tickS q s fr b l zs)
def winTo (fr b : Int) (l : List Stp) (zs : List Int) (k : Nat) : Bool := (List.range k).all (winS fr b l zs)
def stayTo (q s : Int) (l : List Stp) (zs : List Int) (k : Nat) : Bool := (List.range k).all (stayS q s l zs)
/-- A flight keeps to a path. -/
def lawB (q s fr b : Int) (l : List Stp) (zs : List Int) : Bool := pathB q s fr b l && decide (zs.length = l.length + 1) && tickTo q s fr b l zs (l.length + 1)

theorem ticks_parts (q s fr b : Int) (l : List Stp) (zs : List Int) (n : Nat) : (winTo fr b l zs (n + 1) && stayTo q s l zs n) = tickTo q s fr b l zs (n + 1) := by
  rw [Bool.eq_iff_iff]
  simp only [winTo, stayTo, tickTo, Bool.and_eq_true, List.all_eq_true, List.mem_range]
  constructor
  · rintro ⟨h1, h2⟩ i hi
    unfold tickS
    rw [h1 i hi]
    cases i with
    | zero => rfl
    | succ m =>
      have k := h2 m (by omega)
      simp only [Nat.add_sub_cancel]
      rw [k]; simp
  · intro h
    refine ⟨fun i hi => (Bool.and_eq_true_iff.1 (h i hi)).1, fun i hi => ?_⟩
    have := (Bool.and_eq_true_iff.1 (h (i + 1) (by omega))).2
    simpa using this

/-- Of a path that is ok: its windows lie between 0 and 10000. -/
theorem bounds_ok {q s fr b : Int} {l : List Stp} (h : pathB q s fr b l = true) (k : Nat) : 0 ≤ lowB fr l k ∧ highB b l k ≤ 10000 := by
  simp only [pathB, Bool.and_eq_true, decide_eq_true_eq] at h
  obtain ⟨⟨⟨⟨_, _⟩, h3⟩, h4⟩, h5⟩ := h
  have h3' := (inB_iff _ _ _).1 h3
  unfold lowB highB
  by_cases hk : k < l.length
  · rw [if_pos hk, if_pos hk]
    simp only [goodTo, List.all_eq_true, List.mem_range] at h5
    have := (Bool.and_eq_true_iff.1 (h5 k hk)).1
    simp only [stepB, decide_eq_true_eq] at this
    omega
  · rw [if_neg hk, if_neg hk]
    omega
theorem win_range {q s fr b : Int} {l : List Stp} {zs : List Int} {k : Nat} (h : pathB q s fr b l = true) (hw : winS fr b l zs k = true) : 0 ≤ zs.getD k 0 ∧ zs.getD k 0 ≤ 10000 := by
  have h1 := bounds_ok h k
  have h2 := (inB_iff _ _ _).1 hw
  omega
theorem path_len {q s fr b : Int} {l : List Stp} (h : pathB q s fr b l = true) : 1 ≤ l.length ∧ l.length ≤ 40 := by
  simp only [pathB, Bool.and_eq_true, decide_eq_true_eq] at h
  have := (inB_iff _ _ _).1 h.1.1.1.2
  omega
theorem tickTo_zero (q s fr b : Int) (l : List Stp) (zs : List Int) : tickTo q s fr b l zs 0 = true := rfl
theorem tickTo_succ {q s fr b : Int} {l : List Stp} {zs : List Int} {k : Nat} (h : tickTo q s fr b l zs k = true) : tickTo q s fr b l zs (k + 1) = tickS q s fr b l zs k := by
  unfold tickTo at *; rw [all_succ, h]; simp
theorem tickTo_win {q s fr b : Int} {l : List Stp} {zs : List Int} {k i : Nat} (h : tickTo q s fr b l zs k = true) (hi : i < k) : winS fr b l zs i = true := by
  simp only [tickTo, List.all_eq_true, List.mem_range] at h
  exact (Bool.and_eq_true_iff.1 (h i hi)).1
theorem tickTo_not {q s fr b : Int} {l : List Stp} {zs : List Int} {k n : Nat} (hk : k < n) (h : tickS q s fr b l zs k = false) : tickTo q s fr b l zs n = false := all_not hk h
end Go.Proofs.YtijcdikekgmfoaaGreatDoor
