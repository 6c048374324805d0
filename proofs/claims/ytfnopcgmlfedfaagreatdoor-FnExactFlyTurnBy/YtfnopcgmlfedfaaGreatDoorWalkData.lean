/- The program's two ways along a row of spans, as a fold over steps; and that they come to what the specification's ways come to. -/
import Derived.Test.YtfnopcgmlfedfaaGreatDoorSpanBack
import Derived.Test.YtfnopcgmlfedfaaGreatDoorSpanWin
import Derived.Test.YtfnopcgmlfedfaaGreatDoorSeqAll
namespace Go.Proofs.YtfnopcgmlfedfaaGreatDoor
open Go.RowKit

/-- What a step does to when it is entered, and when it is left: forward, or back. -/
def tightB (d : Bool) (q mo : Int) (e lf : Int × Int) : (Int × Int) × (Int × Int) :=
  if d then (e, (mxB lf.1 (e.1 + q), mnB lf.2 (e.2 + mo))) else ((mxB e.1 (lf.1 - mo), mnB e.2 (lf.2 - q)), lf)
def stayMost (s : Int) (t : Stp) : Int := if t.ho then 10000 else s
def tightR (d : Bool) (q s : Int) (r : List (Int × Int)) (x : Nat × Stp) : (Int × Int) × (Int × Int) := tightB d q (stayMost s x.2) (r.getD x.1 (0, 0)) (r.getD (x.1 + 1) (0, 0))
def rowStep (d : Bool) (q s : Int) (r : List (Int × Int)) (x : Nat × Stp) : List (Int × Int) := (r.set x.1 (tightR d q s r x).1).set (x.1 + 1) (tightR d q s r x).2
def okStep (d : Bool) (q s : Int) (r : List (Int × Int)) (x : Nat × Stp) : Bool := someB (tightR d q s r x).1 && someB (tightR d q s r x).2
/-- The row, and whether nothing was left empty. -/
def foldW (d : Bool) (q s : Int) {l : List Stp} (r : List (Int × Int)) (pre : List (El l)) : List (Int × Int) × Bool := pre.foldl (fun a x => (rowStep d q s a.1 x.1, a.2 && okStep d q s a.1 x.1)) (r, true)

theorem foldW_snoc (d : Bool) (q s : Int) {l : List Stp} (r : List (Int × Int)) (pre : List (El l)) (x : El l) :
    foldW d q s r (pre ++ [x]) = (rowStep d q s (foldW d q s r pre).1 x.1, (foldW d q s r pre).2 && okStep d q s (foldW d q s r pre).1 x.1) := by
  simp [foldW, List.foldl_append]
theorem fold_off (d : Bool) (q s : Int) {l : List Stp} : ∀ (post : List (El l)) (a : List (Int × Int) × Bool), a.2 = false → (post.foldl (fun a x => (rowStep d q s a.1 x.1, a.2 && okStep d q s a.1 x.1)) a).2 = false
  | [], _, h => h
  | x :: r, a, h => fold_off d q s r _ (by show (a.2 && _) = false; rw [h]; rfl)
theorem foldW_off (d : Bool) (q s : Int) {l : List Stp} (r : List (Int × Int)) (pre post : List (El l)) (h : (foldW d q s r pre).2 = false) : (foldW d q s r (pre ++ post)).2 = false := by
  unfold foldW
  rw [List.foldl_append]
  exact fold_off d q s post _ h

/-- A row of n + 1 spans, none of them empty, all within 0 and 10000. -/
structure GoodRow (n : Nat) (r : List (Int × Int)) : Prop where
  len : r.length = n + 1
  at_ : ∀ (i : Nat) (x : Int × Int), r[i]? = some x → 0 ≤ x.1 ∧ x.1 ≤ x.2 ∧ x.2 ≤ 10000
theorem GoodRow.getD {n : Nat} {r : List (Int × Int)} (h : GoodRow n r) {i : Nat} (hi : i ≤ n) : r[i]? = some (r.getD i (0, 0)) := by
  rw [List.getD_eq_getElem?_getD, List.getElem?_eq_getElem (by rw [h.len]; omega)]; rfl
theorem GoodRow.tight {n : Nat} {r : List (Int × Int)} (h : GoodRow n r) {d : Bool} {q s : Int} {x : Nat × Stp} (hx : x.1 < n) (hok : okStep d q s r x = true) :
    (0 ≤ (tightR d q s r x).1.1 ∧ (tightR d q s r x).1.1 ≤ (tightR d q s r x).1.2 ∧ (tightR d q s r x).1.2 ≤ 10000) ∧ (0 ≤ (tightR d q s r x).2.1 ∧ (tightR d q s r x).2.1 ≤ (tightR d q s r x).2.2 ∧ (tightR d q s r x).2.2 ≤ 10000) := by
  have h1 := h.at_ _ _ (h.getD (show x.1 ≤ n by omega))
  have h2 := h.at_ _ _ (h.getD (show x.1 + 1 ≤ n by omega))
  unfold okStep at hok
  simp only [someB, Bool.and_eq_true, decide_eq_true_eq] at hok
  unfold tightR tightB at *
  cases d with
  | true =>
    simp only [if_true] at *
    have m1 := mxB_le (r.getD (x.1 + 1) (0, 0)).1 ((r.getD x.1 (0, 0)).1 + q)
    have m2 := mnB_le (r.getD (x.1 + 1) (0, 0)).2 ((r.getD x.1 (0, 0)).2 + stayMost s x.2)
    omega
  | false =>
    simp only [Bool.false_eq_true, if_false] at *
    have m1 := mxB_le (r.getD x.1 (0, 0)).1 ((r.getD (x.1 + 1) (0, 0)).1 - stayMost s x.2)
    have m2 := mnB_le (r.getD x.1 (0, 0)).2 ((r.getD (x.1 + 1) (0, 0)).2 - q)
    omega
theorem GoodRow.step {n : Nat} {r : List (Int × Int)} (h : GoodRow n r) {d : Bool} {q s : Int} {x : Nat × Stp} (hx : x.1 < n) (hok : okStep d q s r x = true) : GoodRow n (rowStep d q s r x) where
  len := by unfold rowStep; rw [List.length_set, List.length_set]; exact h.len
  at_ i y hy := by
    obtain ⟨t1, t2⟩ := h.tight hx hok
    unfold rowStep at hy
    by_cases e2 : x.1 + 1 = i
    · subst e2
      rw [List.getElem?_set_self (by rw [List.length_set, h.len]; omega)] at hy
      cases hy
      exact t2
    · rw [List.getElem?_set_ne e2] at hy
      by_cases e1 : x.1 = i
      · subst e1
        rw [List.getElem?_set_self (by rw [h.len]; omega)] at hy
        cases hy
        exact t1
      · rw [List.getElem?_set_ne e1] at hy
        exact h.at_ i y hy

/-- The row when k steps are walked forward. -/
def mixL (q s fr b : Int) (l : List Stp) (k : Nat) : List (Int × Int) := (List.range (l.length + 1)).map fun i => if i ≤ k then fwdS q s fr b l i else (lowB fr l i, highB b l i)
theorem mixL_length (q s fr b : Int) (l : List Stp) (k : Nat) : (mixL q s fr b l k).length = l.length + 1 := by simp [mixL]
theorem mixL_get (q s fr b : Int) (l : List Stp) (k i : Nat) (h : i < l.length + 1) : (mixL q s fr b l k)[i]? = some (if i ≤ k then fwdS q s fr b l i else (lowB fr l i, highB b l i)) := by simp [mixL, h]
theorem mixL_zero (q s fr b : Int) (l : List Stp) : mixL q s fr b l 0 = winL fr b l (l.length + 1) := by
  unfold mixL winL
  apply List.map_congr_left
  intro i _
  by_cases h : i ≤ 0
  · have e : i = 0 := by omega
    subst e
    rfl
  · rw [if_neg h]
theorem mixL_all (q s fr b : Int) (l : List Stp) : mixL q s fr b l l.length = fwdL q s fr b l (l.length + 1) := by
  unfold mixL fwdL
  apply List.map_congr_left
  intro i hi
  rw [if_pos (by have := List.mem_range.1 hi; omega)]
theorem getD_of {r : List (Int × Int)} {i : Nat} {x : Int × Int} (h : r[i]? = some x) : r.getD i (0, 0) = x := by rw [List.getD_eq_getElem?_getD, h]; rfl
theorem stayMost_at {s : Int} {l : List Stp} {k : Nat} {t : Stp} (h : l[k]? = some t) : stayMost s t = mostB s l k := by
  unfold stayMost mostB; rw [show l.getD k .zero = t by rw [List.getD_eq_getElem?_getD, h]; rfl]

theorem mixL_tight {q s fr b : Int} {l : List Stp} {k : Nat} {t : Stp} (h : l[k]? = some t) : tightR true q s (mixL q s fr b l k) (k, t) = (fwdS q s fr b l k, fwdS q s fr b l (k + 1)) := by
  have hk : k < l.length := (List.getElem?_eq_some_iff.1 h).1
  have e1 := getD_of (mixL_get q s fr b l k k (by omega))
  have e2 := getD_of (mixL_get q s fr b l k (k + 1) (by omega))
  rw [if_pos (Nat.le_refl _)] at e1
  rw [if_neg (by omega)] at e2
  unfold tightR tightB
  simp only [if_true]
  rw [e1, e2, stayMost_at h]
  rfl
theorem mixL_step {q s fr b : Int} {l : List Stp} {k : Nat} {t : Stp} (h : l[k]? = some t) : rowStep true q s (mixL q s fr b l k) (k, t) = mixL q s fr b l (k + 1) := by
  have hk : k < l.length := (List.getElem?_eq_some_iff.1 h).1
  unfold rowStep
  rw [mixL_tight h]
  apply List.ext_getElem?
  intro i
  by_cases hi : i < l.length + 1
  · rw [mixL_get _ _ _ _ _ _ _ hi]
    by_cases e2 : k + 1 = i
    · subst e2
      rw [List.getElem?_set_self (by rw [List.length_set, mixL_length]; omega), if_pos (Nat.le_refl _)]
    · rw [List.getElem?_set_ne e2]
      by_cases e1 : k = i
      · subst e1
        rw [List.getElem?_set_self (by rw [mixL_length]; omega), if_pos (by omega)]
      · rw [List.getElem?_set_ne e1, mixL_get _ _ _ _ _ _ _ hi]
        by_cases h3 : i ≤ k
        · rw [if_pos h3, if_pos (by omega)]
        · rw [if_neg h3, if_neg (by omega)]
  · rw [List.getElem?_eq_none (by simp [mixL_length]; omega), List.getElem?_eq_none (by rw [mixL_length]; omega)]

theorem first_some {q s fr b : Int} {l : List Stp} (hp : pathB q s fr b l = true) (i : Nat) : 0 ≤ lowB fr l i ∧ lowB fr l i ≤ highB b l i ∧ highB b l i ≤ 10000 := by
  simp only [pathB, Bool.and_eq_true, decide_eq_true_eq] at hp
  obtain ⟨⟨⟨⟨_, _⟩, h3⟩, h4⟩, h5⟩ := hp
  have h3' := (inB_iff _ _ _).1 h3
  unfold lowB highB
  by_cases hk : i < l.length
  · rw [if_pos hk, if_pos hk]
    simp only [goodTo, List.all_eq_true, List.mem_range] at h5
    have := (Bool.and_eq_true_iff.1 (h5 i hk)).1
    simp only [stepB, decide_eq_true_eq] at this
    omega
  · rw [if_neg hk, if_neg hk]
    omega
theorem win_good {q s fr b : Int} {l : List Stp} (hp : pathB q s fr b l = true) : GoodRow l.length (winL fr b l (l.length + 1)) where
  len := by simp [winL]
  at_ i x hx := by
    simp only [winL, List.getElem?_map, Option.map_eq_some_iff] at hx
    obtain ⟨k, _, rfl⟩ := hx
    exact first_some hp k

theorem fwd_fold {q s fr b : Int} {l : List Stp} (hp : pathB q s fr b l = true) : ∀ k, k ≤ l.length →
    (foldW true q s (winL fr b l (l.length + 1)) (allE l k)).2 = fwdTo q s fr b l (k + 1) ∧ (fwdTo q s fr b l (k + 1) = true → (foldW true q s (winL fr b l (l.length + 1)) (allE l k)).1 = mixL q s fr b l k)
  | 0, _ => by
    refine ⟨?_, fun _ => by rw [mixL_zero]; rfl⟩
    have := first_some hp 0
    show true = _
    simp [fwdTo, someB, fwdS]
    exact decide_eq_true this.2.1
  | k + 1, hk => by
    obtain ⟨h1, h2⟩ := fwd_fold hp k (by omega)
    obtain ⟨t, ht⟩ : ∃ t, l[k]? = some t := ⟨l[k], List.getElem?_eq_getElem (by omega)⟩
    rw [allE_succ ht, foldW_snoc]
    cases hf : fwdTo q s fr b l (k + 1) with
    | false =>
      have e : fwdTo q s fr b l (k + 1 + 1) = false := by
        cases e : fwdTo q s fr b l (k + 1 + 1) with
        | false => rfl
        | true =>
          have : fwdTo q s fr b l (k + 1) = true := by
            simp only [fwdTo, List.all_eq_true, List.mem_range] at e ⊢
            exact fun i hi => e i (by omega)
          rw [this] at hf
          cases hf
      rw [h1, hf, e]
      exact ⟨rfl, fun h => by cases h⟩
    | true =>
      have hr := h2 hf
      have hs : someB (fwdS q s fr b l k) = true := by
        have := fwdTo_at hf (show k < k + 1 by omega)
        simpa [someB] using this
      rw [h1, hf, hr, fwdTo_succ hf]
      refine ⟨?_, fun _ => mixL_step ht⟩
      show (true && (someB (tightR true q s (mixL q s fr b l k) (k, t)).1 && someB (tightR true q s (mixL q s fr b l k) (k, t)).2)) = _
      rw [mixL_tight ht, hs]; rfl

theorem back_tight {q s fr b : Int} {l : List Stp} {k m : Nat} {t : Stp} (hk : k < l.length) (hm : l.length - (k + 1) = m) (h : l[m]? = some t) :
    tightR false q s (backL q s fr b l l.length k) (m, t) = (bwdS q s fr b l l.length (k + 1), bwdS q s fr b l l.length k) := by
  have e1 := getD_of (backL_now q s fr b l l.length k hk)
  have e2 := getD_of (backL_next q s fr b l l.length k hk)
  rw [hm] at e1 e2
  unfold tightR tightB
  simp only [Bool.false_eq_true, if_false]
  rw [e1, e2, stayMost_at h]
  simp only [bwdS]
  rw [hm]
theorem back_fold {q s fr b : Int} {l : List Stp} (hp : pathB q s fr b l = true) (hf : fwdTo q s fr b l (l.length + 1) = true) : ∀ k, k ≤ l.length →
    foldW false q s (fwdL q s fr b l (l.length + 1)) (backE l k) = (backL q s fr b l l.length k, true)
  | 0, _ => by rw [backL_zero]; rfl
  | k + 1, hk => by
    have ih := back_fold hp hf k (by omega)
    obtain ⟨m, hm⟩ : ∃ m, l.length - (k + 1) = m := ⟨_, rfl⟩
    obtain ⟨t, ht⟩ : ∃ t, l[m]? = some t := ⟨l[m], List.getElem?_eq_getElem (by omega)⟩
    rw [backE_succ (show l.length - 1 - k = m by omega) ht, foldW_snoc, ih]
    have hT := back_tight (q := q) (s := s) (fr := fr) (b := b) (show k < l.length by omega) hm ht
    have s1 := (bwd_in hp hf (k + 1) (by omega)).1
    have s2 := (bwd_in hp hf k (by omega)).1
    show (((backL q s fr b l l.length k).set m (tightR false q s (backL q s fr b l l.length k) (m, t)).1).set (m + 1) (tightR false q s (backL q s fr b l l.length k) (m, t)).2, true && (someB (tightR false q s (backL q s fr b l l.length k) (m, t)).1 && someB (tightR false q s (backL q s fr b l l.length k) (m, t)).2)) = _
    rw [hT, backL_succ q s fr b l l.length k (by omega), hm]
    have e2 := backL_next q s fr b l l.length k (by omega)
    rw [hm] at e2
    congr 1
    · apply List.ext_getElem?
      intro i
      by_cases e : m + 1 = i
      · subst e
        rw [List.getElem?_set_self (by rw [List.length_set, backL_length]; omega), List.getElem?_set_ne (by omega), e2]
      · rw [List.getElem?_set_ne e]
    · simp [someB]
      exact ⟨s1, s2⟩
theorem fwd_good {q s fr b : Int} {l : List Stp} (hp : pathB q s fr b l = true) (hf : fwdTo q s fr b l (l.length + 1) = true) : GoodRow l.length (fwdL q s fr b l (l.length + 1)) where
  len := by simp [fwdL]
  at_ i x hx := by
    simp only [fwdL, List.getElem?_map, Option.map_eq_some_iff] at hx
    obtain ⟨k, hk, rfl⟩ := hx
    have hk' : k < l.length + 1 := by
      have := List.mem_of_getElem? hk
      simpa using this
    have h1 := fwd_range hp k
    have h2 := fwdTo_at hf hk'
    omega
end Go.Proofs.YtfnopcgmlfedfaaGreatDoor
