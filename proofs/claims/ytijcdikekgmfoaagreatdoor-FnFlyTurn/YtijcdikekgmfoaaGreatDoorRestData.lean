/- Plain data of what is left of a path. -/
import Derived.Test.YtijcdikekgmfoaaGreatDoorSpanMath
import Derived.Test.YtijcdikekgmfoaaGreatDoorPathAns
namespace Go.Proofs.YtijcdikekgmfoaaGreatDoor
open Go.RowKit

/-- The first step was entered within these ticks. -/
def enterL (m : List Stp) (x y : Int) : List Stp := m.set 0 { m.getD 0 .zero with fr := x, by_ := y }
/-- The first step is not left up to a tick. -/
def afterL (m : List Stp) (nw : Int) : List Stp := if 1 < m.length then m.set 1 { m.getD 1 .zero with fr := mxB (m.getD 1 .zero).fr (nw + 1) } else m
def afterFr (fr : Int) (m : List Stp) (nw : Int) : Int := if 1 < m.length then fr else mxB fr (nw + 1)
/-- What is left, entered within x .. y, seen at nw. -/
def leftL (l : List Stp) (k : Nat) (x y nw : Int) : List Stp := afterL (enterL (l.drop k) x y) nw
def leftFr (fr : Int) (l : List Stp) (k : Nat) (nw : Int) : Int := afterFr fr (l.drop k) nw
/-- A path, if there is a flight along it. -/
def canA (q s fr b : Int) (m : List Stp) : Ans := if spanB q s fr b m then { q := q, s := s, fr := fr, b := b, l := m, ok := true } else .no
/-- Somebody can be in that step now. -/
def inStepB (q s fr b : Int) (l : List Stp) (st nw : Int) : Bool := pathB q s fr b l && inB st 0 ((l.length : Int) - 1) && inB nw 0 10000
/-- What FlyRest answers. -/
def restA (q s fr b : Int) (l : List Stp) (st en nw : Int) : Ans :=
  if inStepB q s fr b l st nw && inB en 0 nw then canA q s (leftFr fr l st.toNat nw) b (leftL l st.toNat (mxB (l.getD st.toNat .zero).fr en) (mnB (l.getD st.toNat .zero).by_ en) nw) else .no
/-- The span of a place. -/
def spanOf (q s fr b : Int) (l : List Stp) (k : Nat) : Int × Int := bwdS q s fr b l l.length (l.length - k)
/-- What FlySeen answers. -/
def seenA (q s fr b : Int) (l : List Stp) (st nw : Int) : Ans :=
  if inStepB q s fr b l st nw && spanB q s fr b l then canA q s (leftFr fr l st.toNat nw) b (leftL l st.toNat (spanOf q s fr b l st.toNat).1 (mnB (spanOf q s fr b l st.toNat).2 nw) nw) else .no

theorem enterL_length (m : List Stp) (x y : Int) : (enterL m x y).length = m.length := by simp [enterL]
theorem afterL_length (m : List Stp) (nw : Int) : (afterL m nw).length = m.length := by unfold afterL; split <;> simp
theorem leftL_length (l : List Stp) (k : Nat) (x y nw : Int) : (leftL l k x y nw).length = l.length - k := by unfold leftL; rw [afterL_length, enterL_length, List.length_drop]
theorem set_getD {m : List Stp} {i j : Nat} {t : Stp} (hj : j < m.length) : (m.set i t).getD j .zero = if i = j then t else m.getD j .zero := by
  simp only [List.getD_eq_getElem?_getD]
  split
  · rename_i h; subst h; rw [List.getElem?_set_self hj]; rfl
  · rename_i h; rw [List.getElem?_set_ne h]

theorem enterL_getD {m : List Stp} (x y : Int) {j : Nat} (hj : j < m.length) : (enterL m x y).getD j .zero = if j = 0 then { m.getD 0 .zero with fr := x, by_ := y } else m.getD j .zero := by
  unfold enterL; rw [set_getD hj]; split <;> rename_i h
  · rw [if_pos h.symm]
  · rw [if_neg (fun e => h e.symm)]
theorem afterL_getD {m : List Stp} (nw : Int) {j : Nat} (hj : j < m.length) : (afterL m nw).getD j .zero = if j = 1 then { m.getD 1 .zero with fr := mxB (m.getD 1 .zero).fr (nw + 1) } else m.getD j .zero := by
  unfold afterL
  by_cases h : 1 < m.length
  · rw [if_pos h, set_getD hj]; split <;> rename_i h
    · rw [if_pos h.symm]
    · rw [if_neg (fun e => h e.symm)]
  · rw [if_neg h, if_neg (by omega)]
theorem drop_getD (l : List Stp) (k j : Nat) : (l.drop k).getD j .zero = l.getD (k + j) .zero := by simp [List.getD_eq_getElem?_getD, List.getElem?_drop]
theorem leftL_getD {l : List Stp} {k : Nat} (x y nw : Int) {j : Nat} (hj : k + j < l.length) :
    (leftL l k x y nw).getD j .zero = if j = 0 then { l.getD k .zero with fr := x, by_ := y } else if j = 1 then { l.getD (k + 1) .zero with fr := mxB (l.getD (k + 1) .zero).fr (nw + 1) } else l.getD (k + j) .zero := by
  unfold leftL
  rw [afterL_getD nw (by rw [enterL_length, List.length_drop]; omega)]
  by_cases h1 : j = 1
  · subst h1
    rw [if_pos rfl, if_neg (by decide), if_pos rfl, enterL_getD x y (by rw [List.length_drop]; omega), if_neg (by decide), drop_getD]
  · rw [if_neg h1, enterL_getD x y (by rw [List.length_drop]; omega)]
    by_cases h0 : j = 0
    · subst h0
      rw [if_pos rfl, if_pos rfl, drop_getD, Nat.add_zero]
    · rw [if_neg h0, if_neg h0, if_neg h1, drop_getD]
/-- It is as it was but for its ticks. -/
theorem leftL_same {l : List Stp} {k : Nat} (x y nw : Int) {j : Nat} (hj : k + j < l.length) :
    ((leftL l k x y nw).getD j .zero).x = (l.getD (k + j) .zero).x ∧ ((leftL l k x y nw).getD j .zero).y = (l.getD (k + j) .zero).y ∧ ((leftL l k x y nw).getD j .zero).lo = (l.getD (k + j) .zero).lo ∧ ((leftL l k x y nw).getD j .zero).hi = (l.getD (k + j) .zero).hi := by
  rw [leftL_getD x y nw hj]
  split
  · rename_i h; subst h; exact ⟨rfl, rfl, rfl, rfl⟩
  · split
    · rename_i h; subst h; exact ⟨rfl, rfl, rfl, rfl⟩
    · exact ⟨rfl, rfl, rfl, rfl⟩

theorem path_parts {q s fr b : Int} {l : List Stp} (h : pathB q s fr b l = true) : kindB q s = true ∧ (1 ≤ l.length ∧ l.length ≤ 40) ∧ (0 ≤ fr ∧ fr ≤ b ∧ b ≤ 10000) ∧ ∀ i, i < l.length → goodS l i = true := by
  have hl := path_len h
  simp only [pathB, Bool.and_eq_true, decide_eq_true_eq, goodTo, List.all_eq_true, List.mem_range] at h
  obtain ⟨⟨⟨⟨h1, _⟩, h3⟩, h4⟩, h5⟩ := h
  have h3' := (inB_iff _ _ _).1 h3
  exact ⟨h1, hl, ⟨h3'.1, h3'.2, h4⟩, h5⟩
theorem step_parts {l : List Stp} {i : Nat} (h : goodS l i = true) : 0 ≤ (l.getD i .zero).fr ∧ (l.getD i .zero).fr ≤ (l.getD i .zero).by_ ∧ (l.getD i .zero).by_ ≤ 10000 := by
  unfold goodS at h
  have h1 := (Bool.and_eq_true_iff.1 h).1
  simp only [stepB, decide_eq_true_eq] at h1
  omega

theorem left_wide {q s fr b : Int} {l : List Stp} (hp : pathB q s fr b l = true) {k : Nat} (hk : k < l.length) {x y nw : Int} (hx : 0 ≤ x) (hy : y ≤ 10000) (hn : 0 ≤ nw) : Wide q s (leftFr fr l k nw) b (leftL l k x y nw) where
  kind := kind_range hp
  len := by have := path_len hp; rw [leftL_length]; omega
  win i := by
    obtain ⟨_, _, h3, h4⟩ := path_parts hp
    unfold lowB highB
    rw [leftL_length]
    by_cases hi : i < l.length - k
    · rw [if_pos hi, if_pos hi, leftL_getD x y nw (by omega)]
      split
      · exact ⟨hx, hy⟩
      · split
        · have h5 := step_parts (h4 (k + 1) (by omega))
          have h6 := mxB_le (l.getD (k + 1) .zero).fr (nw + 1)
          exact ⟨by show 0 ≤ mxB _ _; omega, by show (l.getD (k + 1) .zero).by_ ≤ 10000; omega⟩
        · have h5 := step_parts (h4 (k + i) (by omega))
          omega
    · rw [if_neg hi, if_neg hi]
      refine ⟨?_, by omega⟩
      unfold leftFr afterFr
      split
      · omega
      · have h6 := mxB_le fr (nw + 1); omega

theorem span_windows {q s fr b : Int} {l : List Stp} (h : spanB q s fr b l = true) {i : Nat} (hi : i ≤ l.length) : lowB fr l i ≤ highB b l i := by
  unfold spanB at h
  have h1 := fwdTo_at (Bool.and_eq_true_iff.1 h).1 (show i < l.length + 1 by omega)
  cases i with
  | zero => exact h1
  | succ m =>
    have h2 := mxB_le (lowB fr l (m + 1)) ((fwdS q s fr b l m).1 + q)
    have h3 := mnB_le (highB b l (m + 1)) ((fwdS q s fr b l m).2 + mostB s l m)
    simp only [fwdS] at h1
    omega

theorem left_path {q s fr b : Int} {l : List Stp} (hp : pathB q s fr b l = true) {k : Nat} (hk : k < l.length) {x y nw : Int} (hx : 0 ≤ x) (hy : y ≤ 10000) (hn : 0 ≤ nw) (h : spanB q s (leftFr fr l k nw) b (leftL l k x y nw) = true) :
    pathB q s (leftFr fr l k nw) b (leftL l k x y nw) = true := by
  have hW := left_wide hp hk hx hy hn
  obtain ⟨h1, h2, h3, h4⟩ := path_parts hp
  have hlen := leftL_length l k x y nw
  have e1 : inB ((leftL l k x y nw).length : Int) 1 40 = true := (inB_iff _ _ _).2 (by have := hW.len; omega)
  have we := hW.win (l.length - k)
  have wl := span_windows h (i := l.length - k) (by rw [hlen]; exact Nat.le_refl _)
  have el : lowB (leftFr fr l k nw) (leftL l k x y nw) (l.length - k) = leftFr fr l k nw := by unfold lowB; rw [hlen, if_neg (by omega)]
  have eh : highB b (leftL l k x y nw) (l.length - k) = b := by unfold highB; rw [hlen, if_neg (by omega)]
  rw [el, eh] at wl we
  have e2 : inB (leftFr fr l k nw) 0 b = true := (inB_iff _ _ _).2 (by omega)
  have e3 : goodTo (leftL l k x y nw) (leftL l k x y nw).length = true := by
    simp only [goodTo, List.all_eq_true, List.mem_range]
    intro i hi
    rw [hlen] at hi
    have wi := hW.win i
    have wl := span_windows h (i := i) (by rw [hlen]; omega)
    unfold lowB highB at wi wl
    rw [hlen, if_pos hi, if_pos hi] at wi wl
    have hg := h4 (k + i) (by omega)
    obtain ⟨s1, s2, s3, s4⟩ := leftL_same (l := l) (k := k) x y nw (j := i) (by omega)
    unfold goodS at hg ⊢
    obtain ⟨g1, g2⟩ := Bool.and_eq_true_iff.1 hg
    refine Bool.and_eq_true_iff.2 ⟨?_, ?_⟩
    · simp only [stepB, decide_eq_true_eq] at g1 ⊢
      rw [s1, s2, s3, s4]
      omega
    · cases i with
      | zero => rfl
      | succ m =>
        obtain ⟨r1, r2, r3, r4⟩ := leftL_same (l := l) (k := k) x y nw (j := m) (by omega)
        rw [show k + (m + 1) - 1 = k + m by omega] at g2
        have hne : decide (k + (m + 1) = 0) = false := by simp
        rw [hne, Bool.false_or] at g2
        rw [show m + 1 - 1 = m by omega, s1, s2, s3, s4, r1, r2, r3, r4, g2]
        simp
  unfold pathB
  rw [h1, e1, e2, e3, show decide (b ≤ 10000) = true by simp; omega]
  rfl
/-- The ticks of a span. -/
theorem span_lo {q s fr b : Int} {l : List Stp} (hp : pathB q s fr b l = true) (_h : spanB q s fr b l = true) {k : Nat} (hk : k ≤ l.length) : 0 ≤ (spanOf q s fr b l k).1 := by
  unfold spanOf
  have hf := fwd_range hp k
  by_cases e : k = l.length
  · subst e; rw [Nat.sub_self]; exact hf.1
  · obtain ⟨j, hj⟩ : ∃ j, l.length - k = j + 1 := ⟨l.length - k - 1, by omega⟩
    rw [hj]
    simp only [bwdS]
    rw [show l.length - (j + 1) = k by omega]
    have := mxB_le (fwdS q s fr b l k).1 ((bwdS q s fr b l l.length j).1 - mostB s l k)
    omega
end Go.Proofs.YtijcdikekgmfoaaGreatDoor
