/- When two tubes come too near first: pair by pair. Nothing of the program's text is named here. -/
import Derived.Test.YtgjleeamhkolhaaGreatDoorPbTubeS
namespace Go.Proofs.YtgjleeamhkolhaaGreatDoor
open Go.RowKit

/-- The box at a place. -/
def bxAt (l : List Bx) (i : Nat) : Bx := l.getD i .zero
theorem bxAt_get {l : List Bx} {i : Nat} {s : Bx} (h : l[i]? = some s) : bxAt l i = s := by simp [bxAt, List.getD, h]
/-- What was found up to now: the tick and the two places. -/
abbrev Cl := Option (Int × Nat × Nat)
/-- One pair more. -/
def meetStep (l m : List Bx) (st : Cl) (p : Nat × Nat) : Cl :=
  if closeB (bxAt l p.1) (bxAt m p.2) && (match st with | none => true | some x => decide (closeT (bxAt l p.1) (bxAt m p.2) < x.1)) then some (closeT (bxAt l p.1) (bxAt m p.2), p.1, p.2) else st
def meetOf (l m : List Bx) (ps : List (Nat × Nat)) : Cl := ps.foldl (meetStep l m) none
theorem meetOf_nil (l m : List Bx) : meetOf l m [] = none := rfl
theorem meetOf_snoc (l m : List Bx) (ps : List (Nat × Nat)) (p : Nat × Nat) : meetOf l m (ps ++ [p]) = meetStep l m (meetOf l m ps) p := by simp [meetOf, List.foldl_append]
/-- The pairs of the first n of the one. -/
def pairsN (k : Nat) : Nat → List (Nat × Nat)
  | 0 => []
  | n + 1 => pairsN k n ++ (List.range k).map fun j => (n, j)
/-- The pairs of the first n, and the first j of the next. -/
def pairsJ (k n j : Nat) : List (Nat × Nat) := pairsN k n ++ (List.range j).map fun i => (n, i)
theorem pairsJ_zero (k n : Nat) : pairsJ k n 0 = pairsN k n := by simp [pairsJ]
theorem pairsJ_succ (k n j : Nat) : pairsJ k n (j + 1) = pairsJ k n j ++ [(n, j)] := by simp [pairsJ, List.range_succ]
theorem pairsJ_all (k n : Nat) : pairsJ k n k = pairsN k (n + 1) := rfl
theorem pairsN_length (k : Nat) : ∀ n, (pairsN k n).length = n * k
  | 0 => by simp [pairsN]
  | n + 1 => by simp [pairsN, pairsN_length k n, Nat.succ_mul]
theorem pairsN_mem {k n : Nat} {p : Nat × Nat} (h : p ∈ pairsN k n) : p.1 < n ∧ p.2 < k := by
  induction n with
  | zero => simp [pairsN] at h
  | succ n ih =>
    rcases List.mem_append.1 h with h | h
    · have := ih h; omega
    · obtain ⟨j, hj, rfl⟩ := List.mem_map.1 h
      simp at hj
      exact ⟨Nat.lt_succ_self n, hj⟩
/-- What two tubes answer. -/
def meetTB (t u : Tb) : Cl := if tubeB t && tubeB u then meetOf t.l u.l (pairsN u.l.length t.l.length) else none
/-- The clash as cells. -/
def clashC (x y : ByteArray) : Cl → Array Value
  | none => #[.string ⟨#[]⟩, .string ⟨#[]⟩, .int .i64 0, .int .i64 0, .int .i64 0]
  | some (t, i, j) => #[.string x, .string y, .int .i64 t, .int .i64 i, .int .i64 j]
theorem step_no1 {l m : List Bx} {st : Cl} {p : Nat × Nat} (h : closeB (bxAt l p.1) (bxAt m p.2) = false) : meetStep l m st p = st := by unfold meetStep; simp [h]
theorem step_no2 {l m : List Bx} {x : Int × Nat × Nat} {p : Nat × Nat} (h : x.1 ≤ closeT (bxAt l p.1) (bxAt m p.2)) : meetStep l m (some x) p = some x := by
  unfold meetStep
  simp
  intro _ h2
  omega
theorem step_yes1 {l m : List Bx} {p : Nat × Nat} (h : closeB (bxAt l p.1) (bxAt m p.2) = true) : meetStep l m none p = some (closeT (bxAt l p.1) (bxAt m p.2), p.1, p.2) := by unfold meetStep; simp [h]
theorem step_yes2 {l m : List Bx} {x : Int × Nat × Nat} {p : Nat × Nat} (h : closeB (bxAt l p.1) (bxAt m p.2) = true) (h2 : closeT (bxAt l p.1) (bxAt m p.2) < x.1) : meetStep l m (some x) p = some (closeT (bxAt l p.1) (bxAt m p.2), p.1, p.2) := by
  unfold meetStep; simp [h, h2]
/-- The first tick of any of the boxes. -/
def beginB (l : List Bx) : Int := l.foldl (fun x s => min x s.in_) 10001
theorem beginB_take (l : List Bx) {k : Nat} {s : Bx} (h : l[k]? = some s) : (l.take (k + 1)).foldl (fun x (s : Bx) => min x s.in_) 10001 = min ((l.take k).foldl (fun x (s : Bx) => min x s.in_) 10001) s.in_ := by
  rw [List.take_add_one, h]; simp [List.foldl_append]
theorem foldmin_le : ∀ (l : List Bx) (x : Int), l.foldl (fun x (s : Bx) => min x s.in_) x ≤ x ∧ ∀ s ∈ l, l.foldl (fun x (s : Bx) => min x s.in_) x ≤ s.in_
  | [], x => ⟨Int.le_refl x, fun s hs => by simp at hs⟩
  | t :: l, x => by
    rw [List.foldl_cons]
    obtain ⟨h1, h2⟩ := foldmin_le l (min x t.in_)
    refine ⟨by omega, fun s hs => ?_⟩
    rcases List.mem_cons.1 hs with rfl | hs
    · omega
    · exact h2 s hs
theorem begin_le {l : List Bx} {i : Nat} (h : i < l.length) : beginB l ≤ (bxAt l i).in_ := by
  have hi : l[i]? = some l[i] := List.getElem?_eq_getElem h
  rw [bxAt_get hi]
  exact (foldmin_le l 10001).2 _ (List.mem_of_getElem? hi)
/-- No pair comes too near ahead of the earliest beginning. -/
theorem close_begin {l m : List Bx} {i j : Nat} (hi : i < l.length) (hj : j < m.length) (h : closeB (bxAt l i) (bxAt m j) = true) : max (beginB l) (beginB m) ≤ closeT (bxAt l i) (bxAt m j) := by
  have h1 := begin_le hi
  have h2 := begin_le hj
  unfold closeB at h
  unfold closeT
  rw [if_pos h]
  omega
/-- Once the earliest is found, nothing turns it. -/
theorem meet_stays {l m : List Bx} (x : Int × Nat × Nat) (hx : x.1 ≤ max (beginB l) (beginB m)) : ∀ (ps : List (Nat × Nat)), (∀ p ∈ ps, p.1 < l.length ∧ p.2 < m.length) → ps.foldl (meetStep l m) (some x) = some x
  | [], _ => rfl
  | p :: ps, h => by
    rw [List.foldl_cons]
    have hp := h p (by simp)
    have : meetStep l m (some x) p = some x := by
      cases hc : closeB (bxAt l p.1) (bxAt m p.2) with
      | false => exact step_no1 hc
      | true => exact step_no2 (by have := close_begin hp.1 hp.2 hc; omega)
    rw [this]
    exact meet_stays x hx ps fun q hq => h q (by simp [hq])
theorem meet_early {l m : List Bx} {pre post : List (Nat × Nat)} {x : Int × Nat × Nat} (hp : ∀ p ∈ pre ++ post, p.1 < l.length ∧ p.2 < m.length) (h : meetOf l m pre = some x) (hx : x.1 ≤ max (beginB l) (beginB m)) : meetOf l m (pre ++ post) = some x := by
  unfold meetOf at *
  rw [List.foldl_append, h]
  exact meet_stays x hx post fun p hq => hp p (by simp [hq])

/-- A block of a clash. -/
theorem blk5 {w : World} {B : Nat} {a b c d e : Value} {t : TypeId} (h : w.heap[B]? = some (.cells #[a, b, c, d, e] t (0, 0))) :
    w.cell? ⟨B, 0, none⟩ = some a ∧ w.cell? ⟨B, 1, none⟩ = some b ∧ w.cell? ⟨B, 2, none⟩ = some c ∧ w.cell? ⟨B, 3, none⟩ = some d ∧ w.cell? ⟨B, 4, none⟩ = some e ∧ ∀ j, w.frozen? ⟨B, j, none⟩ = false :=
  ⟨by rw [cell_of_row w B 0 _ _ _ h]; rfl, by rw [cell_of_row w B 1 _ _ _ h]; rfl, by rw [cell_of_row w B 2 _ _ _ h]; rfl, by rw [cell_of_row w B 3 _ _ _ h]; rfl, by rw [cell_of_row w B 4 _ _ _ h]; rfl, fun j => frozen_of_row w B j _ _ h⟩
theorem blk5_set {w : World} {B : Nat} {a b c d e : Value} {t : TypeId} (h : w.heap[B]? = some (.cells #[a, b, c, d, e] t (0, 0))) (a' b' c' d' e' : Value) :
    (((((w.setCell ⟨B, 0, none⟩ a').setCell ⟨B, 1, none⟩ b').setCell ⟨B, 2, none⟩ c').setCell ⟨B, 3, none⟩ d').setCell ⟨B, 4, none⟩ e').heap[B]? = some (.cells #[a', b', c', d', e'] t (0, 0)) := by
  have h1 := heap_setCell_same w B 0 _ _ a' h
  have h2 := heap_setCell_same _ B 1 _ _ b' h1
  have h3 := heap_setCell_same _ B 2 _ _ c' h2
  have h4 := heap_setCell_same _ B 3 _ _ d' h3
  have h5 := heap_setCell_same _ B 4 _ _ e' h4
  rw [h5]; rfl
theorem clashC_some (x y : ByteArray) (st : Cl) : ∃ a b c d e, clashC x y st = #[a, b, c, d, e] ∧ c = .int .i64 (match st with | none => 0 | some z => z.1) := by
  cases st with
  | none => exact ⟨_, _, _, _, _, rfl, rfl⟩
  | some z => exact ⟨_, _, _, _, _, rfl, rfl⟩
end Go.Proofs.YtgjleeamhkolhaaGreatDoor
