/- The mathematics of the law on ProbeMeet: what is told is the first tick, and it is the same the other way round. Nothing of the program's text is named here. -/
import Derived.Test.YtdjgkghmgjocbaaPbMeetD
namespace Go.Proofs.Ytdjgkghmgjocbaa
open Go.RowKit

/-- Too near at a tick, by the definition. -/
def nearAtB (a b : Bx) (t : Int) : Bool := decide (a.in_ ≤ t) && decide (t ≤ a.out) && decide (b.in_ ≤ t) && decide (t ≤ b.out) && besideB a b
theorem nearAt_close {a b : Bx} {t : Int} (ha : boxB a = true) (hb : boxB b = true) (h : nearAtB a b t = true) : closeB a b = true ∧ closeT a b ≤ t := by
  simp [nearAtB] at h
  obtain ⟨⟨⟨⟨h1, h2⟩, h3⟩, h4⟩, h5⟩ := h
  have hc : (boxB a && boxB b && nearB a b) = true := by simp [ha, hb, nearB, h5]; omega
  refine ⟨hc, ?_⟩
  unfold closeT
  rw [if_pos hc]
  omega
theorem close_nearAt {a b : Bx} (h : closeB a b = true) : nearAtB a b (closeT a b) = true := by
  have h' := h
  unfold closeB at h
  unfold closeT
  rw [if_pos h]
  simp [nearB, boxB_iff] at h
  simp [nearAtB, h]
  omega
/-- The tick at which two come too near first is the beginning of one of them. -/
theorem closeT_in {a b : Bx} (h : closeB a b = true) : closeT a b = a.in_ ∨ closeT a b = b.in_ := by
  unfold closeB at h
  unfold closeT
  rw [if_pos h]
  omega
theorem beside_swap (a b : Bx) : besideB a b = besideB b a := by
  rw [Bool.eq_iff_iff]; simp [besideB, inB]; omega
theorem close_swap (a b : Bx) : closeB a b = closeB b a := by
  unfold closeB nearB
  rw [beside_swap a b]
  rw [Bool.eq_iff_iff]; simp; constructor <;> (intro h; simp [h])
theorem closeT_swap (a b : Bx) : closeT a b = closeT b a := by
  have h := close_swap a b
  unfold closeB at h
  unfold closeT
  rw [h, Int.max_comm]

/-- What the fold keeps. -/
structure Found (l m : List Bx) (ps : List (Nat × Nat)) (x : Int × Nat × Nat) : Prop where
  mem : (x.2.1, x.2.2) ∈ ps
  near : closeB (bxAt l x.2.1) (bxAt m x.2.2) = true
  tick : x.1 = closeT (bxAt l x.2.1) (bxAt m x.2.2)
  least : ∀ p ∈ ps, closeB (bxAt l p.1) (bxAt m p.2) = true → x.1 ≤ closeT (bxAt l p.1) (bxAt m p.2)
/-- What is said of a list of pairs and what was found in it. -/
def Said (l m : List Bx) (ps : List (Nat × Nat)) : Cl → Prop
  | none => ∀ p ∈ ps, closeB (bxAt l p.1) (bxAt m p.2) = false
  | some x => Found l m ps x
theorem said_step {l m : List Bx} {ps : List (Nat × Nat)} {st : Cl} (p : Nat × Nat) (ih : Said l m ps st) : Said l m (ps ++ [p]) (meetStep l m st p) := by
  cases st with
  | none =>
    have ih : ∀ p ∈ ps, closeB (bxAt l p.1) (bxAt m p.2) = false := ih
    cases hc : closeB (bxAt l p.1) (bxAt m p.2) with
    | false =>
      rw [step_no1 hc]
      intro q hq
      rcases List.mem_append.1 hq with hq | hq
      · exact ih q hq
      · rw [List.mem_singleton.1 hq]; exact hc
    | true =>
      rw [step_yes1 hc]
      refine ⟨by simp, hc, rfl, fun q hq hcq => ?_⟩
      rcases List.mem_append.1 hq with hq | hq
      · rw [ih q hq] at hcq; exact absurd hcq (by simp)
      · rw [List.mem_singleton.1 hq]; exact Int.le_refl _
  | some x =>
    have ih : Found l m ps x := ih
    cases hc : closeB (bxAt l p.1) (bxAt m p.2) with
    | false =>
      rw [step_no1 hc]
      refine ⟨List.mem_append.2 (.inl ih.mem), ih.near, ih.tick, fun q hq hcq => ?_⟩
      rcases List.mem_append.1 hq with hq | hq
      · exact ih.least q hq hcq
      · rw [List.mem_singleton.1 hq, hc] at hcq; exact absurd hcq (by simp)
    | true =>
      by_cases hlt : closeT (bxAt l p.1) (bxAt m p.2) < x.1
      · rw [step_yes2 hc hlt]
        refine ⟨by simp, hc, rfl, fun q hq hcq => ?_⟩
        rcases List.mem_append.1 hq with hq | hq
        · have := ih.least q hq hcq
          simp only
          omega
        · rw [List.mem_singleton.1 hq]; exact Int.le_refl _
      · rw [step_no2 (by omega)]
        refine ⟨List.mem_append.2 (.inl ih.mem), ih.near, ih.tick, fun q hq hcq => ?_⟩
        rcases List.mem_append.1 hq with hq | hq
        · exact ih.least q hq hcq
        · rw [List.mem_singleton.1 hq]; omega
theorem said_fold {l m : List Bx} : ∀ (qs pre : List (Nat × Nat)) (st : Cl), Said l m pre st → Said l m (pre ++ qs) (qs.foldl (meetStep l m) st)
  | [], pre, st, h => by simpa using h
  | q :: qs, pre, st, h => by
    have := said_fold qs (pre ++ [q]) _ (said_step q h)
    simpa using this
theorem meetOf_said (l m : List Bx) (ps : List (Nat × Nat)) : Said l m ps (meetOf l m ps) := by
  have := said_fold (l := l) (m := m) ps [] none (fun p hp => by simp at hp)
  simpa [meetOf] using this
theorem mem_pairsN {k n i j : Nat} (hi : i < n) (hj : j < k) : (i, j) ∈ pairsN k n := by
  induction n with
  | zero => omega
  | succ n ih =>
    refine List.mem_append.2 ?_
    by_cases h : i < n
    · exact .inl (ih h)
    · refine .inr (List.mem_map.2 ⟨j, by simpa using hj, ?_⟩)
      have : i = n := by omega
      rw [this]
theorem meetTB_some {t u : Tb} {x : Int × Nat × Nat} (h : meetTB t u = some x) : tubeB t = true ∧ tubeB u = true ∧ x.2.1 < t.l.length ∧ x.2.2 < u.l.length ∧ Found t.l u.l (pairsN u.l.length t.l.length) x := by
  unfold meetTB at h
  by_cases hb : (tubeB t && tubeB u) = true
  · rw [if_pos hb] at h
    have := meetOf_said t.l u.l (pairsN u.l.length t.l.length)
    rw [h] at this
    have this : Found _ _ _ _ := this
    have hm := pairsN_mem this.mem
    simp at hb
    exact ⟨hb.1, hb.2, hm.1, hm.2, this⟩
  · rw [if_neg hb] at h
    exact absurd h (by simp)
theorem meetTB_none {t u : Tb} (h : meetTB t u = none) (ht : tubeB t = true) (hu : tubeB u = true) {i j : Nat} (hi : i < t.l.length) (hj : j < u.l.length) : closeB (bxAt t.l i) (bxAt u.l j) = false := by
  unfold meetTB at h
  rw [if_pos (by simp [ht, hu])] at h
  have := meetOf_said t.l u.l (pairsN u.l.length t.l.length)
  rw [h] at this
  exact this (i, j) (mem_pairsN hi hj)
/-- Told the other way round it is the same tick. -/
theorem meetTB_swap (t u : Tb) : (meetTB t u).map (·.1) = (meetTB u t).map (·.1) := by
  cases h1 : meetTB t u with
  | none =>
    cases h2 : meetTB u t with
    | none => rfl
    | some y =>
      obtain ⟨a, b, c, d, e⟩ := meetTB_some h2
      have := meetTB_none h1 b a d c
      rw [close_swap, e.near] at this
      exact absurd this (by simp)
  | some x =>
    obtain ⟨a, b, c, d, e⟩ := meetTB_some h1
    cases h2 : meetTB u t with
    | none =>
      have := meetTB_none h2 b a d c
      rw [close_swap, e.near] at this
      exact absurd this (by simp)
    | some y =>
      obtain ⟨_, _, c', d', e'⟩ := meetTB_some h2
      have l1 := e.least (y.2.2, y.2.1) (mem_pairsN d' c') (by rw [close_swap]; exact e'.near)
      have l2 := e'.least (x.2.2, x.2.1) (mem_pairsN d c) (by rw [close_swap]; exact e.near)
      rw [closeT_swap] at l1 l2
      have t1 := e.tick
      have t2 := e'.tick
      simp only at l1 l2
      simp only [Option.map_some]
      congr 1
      omega
/-- At no tick ahead of it. -/
theorem meet_none_ahead {t u : Tb} {x : Int × Nat × Nat} (h : meetTB t u = some x) (ht : t.l.all boxB = true) (hu : u.l.all boxB = true) {k : Int} (hk : k < x.1) {i j : Nat} (hi : i < t.l.length) (hj : j < u.l.length) : nearAtB (bxAt t.l i) (bxAt u.l j) k = false := by
  obtain ⟨_, _, _, _, e⟩ := meetTB_some h
  cases hn : nearAtB (bxAt t.l i) (bxAt u.l j) k with
  | false => rfl
  | true =>
    have gi : t.l[i]? = some t.l[i] := List.getElem?_eq_getElem hi
    have gj : u.l[j]? = some u.l[j] := List.getElem?_eq_getElem hj
    have bi : boxB (bxAt t.l i) = true := by rw [bxAt_get gi]; exact List.all_eq_true.1 ht _ (List.getElem_mem hi)
    have bj : boxB (bxAt u.l j) = true := by rw [bxAt_get gj]; exact List.all_eq_true.1 hu _ (List.getElem_mem hj)
    obtain ⟨c1, c2⟩ := nearAt_close bi bj hn
    have := e.least (i, j) (mem_pairsN hi hj) c1
    simp only at this
    omega
/-- Where nothing is told, they come too near at no tick. -/
theorem meet_never {t u : Tb} (h : meetTB t u = none) (h1 : tubeB t = true) (h2 : tubeB u = true) (ht : t.l.all boxB = true) (hu : u.l.all boxB = true) (k : Int) {i j : Nat} (hi : i < t.l.length) (hj : j < u.l.length) : nearAtB (bxAt t.l i) (bxAt u.l j) k = false := by
  cases hn : nearAtB (bxAt t.l i) (bxAt u.l j) k with
  | false => rfl
  | true =>
    have gi : t.l[i]? = some t.l[i] := List.getElem?_eq_getElem hi
    have gj : u.l[j]? = some u.l[j] := List.getElem?_eq_getElem hj
    have bi : boxB (bxAt t.l i) = true := by rw [bxAt_get gi]; exact List.all_eq_true.1 ht _ (List.getElem_mem hi)
    have bj : boxB (bxAt u.l j) = true := by rw [bxAt_get gj]; exact List.all_eq_true.1 hu _ (List.getElem_mem hj)
    obtain ⟨c1, _⟩ := nearAt_close bi bj hn
    have := meetTB_none h h1 h2 hi hj
    rw [c1] at this
    exact absurd this (by simp)
end Go.Proofs.Ytdjgkghmgjocbaa
