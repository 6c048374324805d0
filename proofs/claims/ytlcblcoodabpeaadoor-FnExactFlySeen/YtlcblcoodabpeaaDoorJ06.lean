/- Joined texts: FlightMath, NextData, CopyS, NextSpec, RsData, RestSpec. -/
import Derived.Test.YtlcblcoodabpeaaDoorJ01
import Derived.Test.YtlcblcoodabpeaaDoorJ02
import Derived.Test.YtlcblcoodabpeaaDoorJ05
namespace Go.Proofs.YtlcblcoodabpeaaDoor
open Go.RowKit

/-- Ticks that keep to the windows and the stays, from a place to another. -/
def Keeps (q s fr b : Int) (l : List Stp) (z : Nat → Int) (i j : Nat) : Prop :=
  (∀ k, i ≤ k → k ≤ j → lowB fr l k ≤ z k ∧ z k ≤ highB b l k) ∧ ∀ k, i ≤ k → k < j → q ≤ z (k + 1) - z k ∧ z (k + 1) - z k ≤ mostB s l k
def inP (t : Int) (x : Int × Int) : Prop := x.1 ≤ t ∧ t ≤ x.2

section
variable {q s fr b : Int} {l : List Stp}

theorem fwd_win (k : Nat) {t : Int} (h : inP t (fwdS q s fr b l k)) : lowB fr l k ≤ t ∧ t ≤ highB b l k := by
  cases k with
  | zero => exact h
  | succ m =>
    simp only [inP, fwdS] at h
    have h1 := mxB_le (lowB fr l (m + 1)) ((fwdS q s fr b l m).1 + q)
    have h2 := mnB_le (highB b l (m + 1)) ((fwdS q s fr b l m).2 + mostB s l m)
    omega

theorem fwd_sound {z : Nat → Int} {n : Nat} (h : Keeps q s fr b l z 0 n) : ∀ k, k ≤ n → inP (z k) (fwdS q s fr b l k)
  | 0, hk => h.1 0 (Nat.le_refl _) hk
  | k + 1, hk => by
    have ih := fwd_sound h k (by omega)
    have h1 := h.1 (k + 1) (by omega) hk
    have h2 := h.2 k (by omega) (by omega)
    have m1 := mxB_le (lowB fr l (k + 1)) ((fwdS q s fr b l k).1 + q)
    have m2 := mnB_le (highB b l (k + 1)) ((fwdS q s fr b l k).2 + mostB s l k)
    simp only [inP, fwdS] at *
    omega

theorem fwd_complete (hm : ∀ k, q ≤ mostB s l k) : ∀ (k : Nat) (t : Int), fwdTo q s fr b l (k + 1) = true → inP t (fwdS q s fr b l k) → ∃ z, Keeps q s fr b l z 0 k ∧ z k = t
  | 0, t, _, ht => ⟨fun _ => t, ⟨fun k _ hk => by obtain rfl : k = 0 := by omega
                                                  exact ht, fun k _ hk => by omega⟩, rfl⟩
  | k + 1, t, hf, ht => by
    have hf' : fwdTo q s fr b l (k + 1) = true := by
      simp only [fwdTo, List.all_eq_true, List.mem_range] at hf ⊢
      exact fun i hi => hf i (by omega)
    have h0 := fwdTo_at hf (show k < k + 1 + 1 by omega)
    have hw := fwd_win (k + 1) ht
    have hq := hm k
    have m1 := mxB_le (lowB fr l (k + 1)) ((fwdS q s fr b l k).1 + q)
    have m2 := mnB_le (highB b l (k + 1)) ((fwdS q s fr b l k).2 + mostB s l k)
    simp only [inP, fwdS] at ht
    obtain ⟨u, hu1, hu2⟩ : ∃ u, inP u (fwdS q s fr b l k) ∧ q ≤ t - u ∧ t - u ≤ mostB s l k := by
      by_cases c : (fwdS q s fr b l k).1 ≤ t - mostB s l k
      · exact ⟨t - mostB s l k, ⟨c, by omega⟩, by omega⟩
      · exact ⟨(fwdS q s fr b l k).1, ⟨Int.le_refl _, h0⟩, by omega⟩
    obtain ⟨z, hz, hzk⟩ := fwd_complete hm k u hf' hu1
    refine ⟨fun i => if i ≤ k then z i else t, ⟨fun i _ hi => ?_, fun i _ hi => ?_⟩, if_neg (by omega)⟩
    · by_cases c : i ≤ k
      · simp only [c, if_true]; exact hz.1 i (by omega) c
      · simp only [c, if_false]
        obtain rfl : i = k + 1 := by omega
        exact hw
    · by_cases c : i + 1 ≤ k
      · have c' : i ≤ k := by omega
        simp only [c, c', if_true]; exact hz.2 i (by omega) (by omega)
      · obtain rfl : i = k := by omega
        simp only [Nat.le_refl, if_true, show ¬ i + 1 ≤ i by omega, if_false]
        rw [hzk]; exact hu2

theorem bwd_sub (n : Nat) (j : Nat) {t : Int} (h : inP t (bwdS q s fr b l n j)) : inP t (fwdS q s fr b l (n - j)) := by
  cases j with
  | zero => exact h
  | succ m =>
    simp only [inP, bwdS] at *
    have h1 := mxB_le (fwdS q s fr b l (n - (m + 1))).1 ((bwdS q s fr b l n m).1 - mostB s l (n - (m + 1)))
    have h2 := mnB_le (fwdS q s fr b l (n - (m + 1))).2 ((bwdS q s fr b l n m).2 - q)
    omega

theorem bwd_sound {z : Nat → Int} {n : Nat} (h : Keeps q s fr b l z 0 n) : ∀ j, j ≤ n → inP (z (n - j)) (bwdS q s fr b l n j)
  | 0, _ => fwd_sound h n (Nat.le_refl _)
  | j + 1, hj => by
    have ih := bwd_sound h j (by omega)
    obtain ⟨k, hk1, hk2⟩ : ∃ k, n - (j + 1) = k ∧ n - j = k + 1 := ⟨n - (j + 1), rfl, by omega⟩
    rw [hk2] at ih
    have h0 := fwd_sound h k (by omega)
    have h2 := h.2 k (by omega) (by omega)
    simp only [inP, bwdS] at *
    rw [hk1]
    have h1 := mxB_le (fwdS q s fr b l k).1 ((bwdS q s fr b l n j).1 - mostB s l k)
    have h3 := mnB_le (fwdS q s fr b l k).2 ((bwdS q s fr b l n j).2 - q)
    omega

theorem bwd_some (hm : ∀ k, q ≤ mostB s l k) {n : Nat} (hf : fwdTo q s fr b l (n + 1) = true) : ∀ j, j ≤ n →
    (bwdS q s fr b l n j).1 ≤ (bwdS q s fr b l n j).2 ∧ (fwdS q s fr b l (n - j)).1 ≤ (bwdS q s fr b l n j).1 ∧ (bwdS q s fr b l n j).2 ≤ (fwdS q s fr b l (n - j)).2
  | 0, _ => by
    have := fwdTo_at hf (show n < n + 1 by omega)
    exact ⟨this, Int.le_refl _, Int.le_refl _⟩
  | j + 1, hj => by
    obtain ⟨h1, h2, h3⟩ := bwd_some hm hf j (by omega)
    obtain ⟨k, hk⟩ : ∃ k, n - (j + 1) = k ∧ n - j = k + 1 := ⟨n - (j + 1), rfl, by omega⟩
    rw [hk.2] at h2 h3
    have h0 := fwdTo_at hf (show k < n + 1 by omega)
    have hm := hm k
    simp only [fwdS] at h2 h3
    have m1 := mxB_le (lowB fr l (k + 1)) ((fwdS q s fr b l k).1 + q)
    have m2 := mnB_le (highB b l (k + 1)) ((fwdS q s fr b l k).2 + mostB s l k)
    simp only [bwdS]
    rw [hk.1]
    have m3 := mxB_le (fwdS q s fr b l k).1 ((bwdS q s fr b l n j).1 - mostB s l k)
    have m4 := mnB_le (fwdS q s fr b l k).2 ((bwdS q s fr b l n j).2 - q)
    refine ⟨?_, ?_, ?_⟩ <;> omega

theorem bwd_complete (hm : ∀ k, q ≤ mostB s l k) {n : Nat} (hf : fwdTo q s fr b l (n + 1) = true) : ∀ (j : Nat) (t : Int), j ≤ n → inP t (bwdS q s fr b l n j) → ∃ z, Keeps q s fr b l z (n - j) n ∧ z (n - j) = t
  | 0, t, _, ht => ⟨fun _ => t, ⟨fun k h1 h2 => by obtain rfl : k = n := by omega
                                                   exact fwd_win k (bwd_sub k 0 ht), fun k h1 h2 => by omega⟩, rfl⟩
  | j + 1, t, hj, ht => by
    obtain ⟨h1, _, _⟩ := bwd_some hm hf j (by omega)
    have hw := fwd_win _ (bwd_sub n (j + 1) ht)
    obtain ⟨k, hk⟩ : ∃ k, n - (j + 1) = k ∧ n - j = k + 1 := ⟨n - (j + 1), rfl, by omega⟩
    have hq := hm k
    simp only [inP, bwdS] at ht
    rw [hk.1] at ht hw
    have m3 := mxB_le (fwdS q s fr b l k).1 ((bwdS q s fr b l n j).1 - mostB s l k)
    have m4 := mnB_le (fwdS q s fr b l k).2 ((bwdS q s fr b l n j).2 - q)
    obtain ⟨u, hu1, hu2⟩ : ∃ u, inP u (bwdS q s fr b l n j) ∧ q ≤ u - t ∧ u - t ≤ mostB s l k := by
      by_cases c : (bwdS q s fr b l n j).1 ≤ t + q
      · exact ⟨t + q, ⟨c, by omega⟩, by omega⟩
      · exact ⟨(bwdS q s fr b l n j).1, ⟨Int.le_refl _, h1⟩, by omega⟩
    obtain ⟨z, hz, hzk⟩ := bwd_complete hm hf j u (by omega) hu1
    rw [hk.2] at hz hzk
    rw [hk.1]
    refine ⟨fun i => if k < i then z i else t, ⟨fun i g1 g2 => ?_, fun i g1 g2 => ?_⟩, by simp⟩
    · by_cases c : k < i
      · simp only [c, if_true]; exact hz.1 i (by omega) g2
      · simp only [c, if_false]
        obtain rfl : i = k := by omega
        exact hw
    · by_cases c : k < i
      · simp only [c, show k < i + 1 by omega, if_true]; exact hz.2 i (by omega) g2
      · obtain rfl : i = k := by omega
        simp only [Nat.lt_irrefl, if_false, show i < i + 1 by omega, if_true]
        rw [hzk]; exact hu2

/-- The span of the k-th tick, of n + 1. -/
def spanAt (q s fr b : Int) (l : List Stp) (n k : Nat) : Int × Int := bwdS q s fr b l n (n - k)

theorem fly_iff (hm : ∀ k, q ≤ mostB s l k) (n : Nat) : fwdTo q s fr b l (n + 1) = true ↔ ∃ z, Keeps q s fr b l z 0 n := by
  constructor
  · intro hf
    obtain ⟨z, hz, _⟩ := fwd_complete hm n _ hf ⟨Int.le_refl _, fwdTo_at hf (by omega)⟩
    exact ⟨z, hz⟩
  · rintro ⟨z, hz⟩
    simp only [fwdTo, List.all_eq_true, List.mem_range, someB, decide_eq_true_eq]
    intro i hi
    have := fwd_sound hz i (by omega)
    exact Int.le_trans this.1 this.2

theorem span_iff (hm : ∀ k, q ≤ mostB s l k) {n : Nat} (hf : fwdTo q s fr b l (n + 1) = true) {k : Nat} (hk : k ≤ n) (t : Int) : inP t (spanAt q s fr b l n k) ↔ ∃ z, Keeps q s fr b l z 0 n ∧ z k = t := by
  constructor
  · intro ht
    have h1 := bwd_sub n (n - k) ht
    have ek : n - (n - k) = k := by omega
    rw [ek] at h1
    have hfk : fwdTo q s fr b l (k + 1) = true := by
      simp only [fwdTo, List.all_eq_true, List.mem_range] at hf ⊢
      exact fun i hi => hf i (by omega)
    obtain ⟨x, hx, hxk⟩ := fwd_complete hm k t hfk h1
    obtain ⟨y, hy, hyk⟩ := bwd_complete hm hf (n - k) t (by omega) ht
    rw [ek] at hy hyk
    refine ⟨fun i => if i ≤ k then x i else y i, ⟨fun i _ g => ?_, fun i _ g => ?_⟩, by simp [hxk]⟩
    · by_cases c : i ≤ k
      · simp only [c, if_true]; exact hx.1 i (by omega) c
      · simp only [c, if_false]; exact hy.1 i (by omega) g
    · by_cases c : i + 1 ≤ k
      · have c' : i ≤ k := by omega
        simp only [c, c', if_true]; exact hx.2 i (by omega) (by omega)
      · by_cases c' : i ≤ k
        · obtain rfl : i = k := by omega
          simp only [c, if_false, Nat.le_refl, if_true]
          rw [hxk, ← hyk]
          exact hy.2 i (by omega) g
        · simp only [c, c', if_false]; exact hy.2 i (by omega) g
  · rintro ⟨z, hz, rfl⟩
    have := bwd_sound hz (n - k) (by omega)
    rwa [show n - (n - k) = k by omega] at this
theorem span_some (hm : ∀ k, q ≤ mostB s l k) {n : Nat} (hf : fwdTo q s fr b l (n + 1) = true) {k : Nat} : (spanAt q s fr b l n k).1 ≤ (spanAt q s fr b l n k).2 := (bwd_some hm hf (n - k) (by omega)).1
theorem span_next (hm : ∀ k, q ≤ mostB s l k) {n : Nat} (hf : fwdTo q s fr b l (n + 1) = true) {k : Nat} (hk : k < n) {t : Int} (ht : inP t (spanAt q s fr b l n k)) : ∃ u, inP u (spanAt q s fr b l n (k + 1)) ∧ q ≤ u - t ∧ u - t ≤ mostB s l k := by
  obtain ⟨z, hz, rfl⟩ := (span_iff hm hf (show k ≤ n by omega) t).1 ht
  exact ⟨z (k + 1), (span_iff hm hf (show k + 1 ≤ n by omega) _).2 ⟨z, hz, rfl⟩, hz.2 k (by omega) hk⟩
theorem span_win (hm : ∀ k, q ≤ mostB s l k) {n : Nat} (hf : fwdTo q s fr b l (n + 1) = true) {k : Nat} (hk : k ≤ n) {t : Int} (ht : inP t (spanAt q s fr b l n k)) : lowB fr l k ≤ t ∧ t ≤ highB b l k := by
  obtain ⟨z, hz, rfl⟩ := (span_iff hm hf hk t).1 ht
  exact hz.1 k (by omega) hk

/-- What is open to the k-th tick, behind a tick x. -/
def openP (q s fr b : Int) (l : List Stp) (n k : Nat) (x : Int) : Int × Int := (mxB (spanAt q s fr b l n (k + 1)).1 (x + q), mnB (spanAt q s fr b l n (k + 1)).2 (x + mostB s l k))
/-- What is open when these have begun. -/
def openA (q s fr b : Int) (l : List Stp) (n : Nat) (c : Nat → Int) : Nat → Int × Int
  | 0 => spanAt q s fr b l n 0
  | k + 1 => openP q s fr b l n k (c k)
theorem openP_in {n k : Nat} {x t : Int} : inP t (openP q s fr b l n k x) ↔ inP t (spanAt q s fr b l n (k + 1)) ∧ q ≤ t - x ∧ t - x ≤ mostB s l k := by
  have h1 := mxB_le (spanAt q s fr b l n (k + 1)).1 (x + q)
  have h2 := mnB_le (spanAt q s fr b l n (k + 1)).2 (x + mostB s l k)
  simp only [inP, openP]
  constructor
  · intro h; exact ⟨by omega, by omega⟩
  · rintro ⟨h3, h4⟩; omega
theorem openA_sub {n : Nat} {c : Nat → Int} (k : Nat) {t : Int} (h : inP t (openA q s fr b l n c k)) : inP t (spanAt q s fr b l n k) := by
  cases k with
  | zero => exact h
  | succ m => exact (openP_in.1 h).1
/-- A beginning can be flown just if each tick of it was open. -/
theorem begun_iff (hm : ∀ k, q ≤ mostB s l k) {n : Nat} (hf : fwdTo q s fr b l (n + 1) = true) (c : Nat → Int) {m : Nat} (hmn : m ≤ n) (t : Int) :
    ((∀ k, k < m → inP (c k) (openA q s fr b l n c k)) ∧ inP t (openA q s fr b l n c m)) ↔ ∃ z, Keeps q s fr b l z 0 n ∧ (∀ k, k < m → z k = c k) ∧ z m = t := by
  constructor
  · rintro ⟨h1, h2⟩
    obtain ⟨y, hy, hyk⟩ := (span_iff hm hf hmn t).1 (openA_sub m h2)
    refine ⟨fun i => if i < m then c i else y i, ⟨fun i _ g => ?_, fun i _ g => ?_⟩, fun k hk => by simp [hk], by simp [hyk]⟩
    · by_cases e : i < m
      · simp only [e, if_true]
        exact span_win hm hf (by omega) (openA_sub i (h1 i e))
      · simp only [e, if_false]; exact hy.1 i (by omega) g
    · by_cases e : i + 1 < m
      · have e' : i < m := by omega
        simp only [e, e', if_true]
        exact (openP_in.1 (h1 (i + 1) e)).2
      · by_cases e' : i < m
        · obtain rfl : m = i + 1 := by omega
          simp only [e, e', if_true, if_false]
          rw [hyk]
          exact (openP_in.1 h2).2
        · simp only [e, e', if_false]; exact hy.2 i (by omega) g
  · rintro ⟨z, hz, hc, rfl⟩
    have at_ : ∀ k, k ≤ m → inP (z k) (openA q s fr b l n c k) := by
      intro k hk
      have hk0 := (span_iff hm hf (show k ≤ n by omega) (z k)).2 ⟨z, hz, rfl⟩
      cases k with
      | zero => exact hk0
      | succ j =>
        refine openP_in.2 ⟨hk0, ?_⟩
        rw [← hc j (by omega)]
        exact hz.2 j (by omega) (by omega)
    exact ⟨fun k hk => by rw [← hc k hk]; exact at_ k (by omega), at_ m (Nat.le_refl _)⟩
theorem open_some (hm : ∀ k, q ≤ mostB s l k) {n : Nat} (hf : fwdTo q s fr b l (n + 1) = true) (c : Nat → Int) {m : Nat} (hmn : m ≤ n) (h : ∀ k, k < m → inP (c k) (openA q s fr b l n c k)) : (openA q s fr b l n c m).1 ≤ (openA q s fr b l n c m).2 := by
  cases m with
  | zero => exact span_some hm hf
  | succ k =>
    obtain ⟨u, hu1, hu2⟩ := span_next hm hf (show k < n by omega) (openA_sub k (h k (by omega)))
    have := openP_in.2 ⟨hu1, hu2⟩
    exact Int.le_trans this.1 this.2
theorem same_span {x y : Int × Int} (hx : x.1 ≤ x.2) (hy : y.1 ≤ y.2) (h : ∀ t, inP t x ↔ inP t y) : x = y := by
  have h1 := (h x.1).1 ⟨Int.le_refl _, hx⟩
  have h2 := (h x.2).1 ⟨hx, Int.le_refl _⟩
  have h3 := (h y.1).2 ⟨Int.le_refl _, hy⟩
  have h4 := (h y.2).2 ⟨hy, Int.le_refl _⟩
  simp only [inP] at *
  apply Prod.ext <;> omega
end

/-- The windows l', fr', b' are the others, with the first m ticks held. -/
structure HeldAs (fr b : Int) (l : List Stp) (fr' b' : Int) (l' : List Stp) (s : Int) (c : Nat → Int) (m : Nat) : Prop where
  len : l'.length = l.length
  most : ∀ k, mostB s l' k = mostB s l k
  low : ∀ k, lowB fr' l' k = if k < m then mxB (lowB fr l k) (c k) else lowB fr l k
  high : ∀ k, highB b' l' k = if k < m then mnB (highB b l k) (c k) else highB b l k

theorem held_keeps {q s fr b fr' b' : Int} {l l' : List Stp} {c : Nat → Int} {m n : Nat} (hh : HeldAs fr b l fr' b' l' s c m) (hmn : m ≤ n + 1) (z : Nat → Int) :
    Keeps q s fr' b' l' z 0 n ↔ Keeps q s fr b l z 0 n ∧ ∀ k, k < m → z k = c k := by
  constructor
  · rintro ⟨h1, h2⟩
    have w : ∀ k, k ≤ n → (lowB fr l k ≤ z k ∧ z k ≤ highB b l k) ∧ (k < m → z k = c k) := by
      intro k hk
      have := h1 k (by omega) hk
      rw [hh.low, hh.high] at this
      by_cases e : k < m
      · rw [if_pos e, if_pos e] at this
        have m1 := mxB_le (lowB fr l k) (c k)
        have m2 := mnB_le (highB b l k) (c k)
        exact ⟨by omega, fun _ => by omega⟩
      · rw [if_neg e, if_neg e] at this
        exact ⟨this, fun h => absurd h e⟩
    refine ⟨⟨fun k _ hk => (w k hk).1, fun k g1 g2 => ?_⟩, fun k hk => (w k (by omega)).2 hk⟩
    have := h2 k g1 g2
    rwa [hh.most] at this
  · rintro ⟨⟨h1, h2⟩, h3⟩
    refine ⟨fun k g1 g2 => ?_, fun k g1 g2 => by rw [hh.most]; exact h2 k g1 g2⟩
    have := h1 k g1 g2
    rw [hh.low, hh.high]
    by_cases e : k < m
    · rw [if_pos e, if_pos e]
      have := h3 k e
      have m1 := mxB_le (lowB fr l k) (c k)
      have m2 := mnB_le (highB b l k) (c k)
      omega
    · rw [if_neg e, if_neg e]; exact this

/-- What the specification finds of the held windows is what is open. -/
theorem held_next {q s fr b fr' b' : Int} {l l' : List Stp} {c : Nat → Int} {m n : Nat} (hh : HeldAs fr b l fr' b' l' s c m) (hm : ∀ k, q ≤ mostB s l k) (hmn : m ≤ n) :
    (fwdTo q s fr' b' l' (n + 1) = true ↔ fwdTo q s fr b l (n + 1) = true ∧ ∀ k, k < m → inP (c k) (openA q s fr b l n c k)) ∧
    (fwdTo q s fr' b' l' (n + 1) = true → spanAt q s fr' b' l' n m = openA q s fr b l n c m) := by
  have hm' : ∀ k, q ≤ mostB s l' k := fun k => by rw [hh.most]; exact hm k
  have e1 : fwdTo q s fr' b' l' (n + 1) = true ↔ fwdTo q s fr b l (n + 1) = true ∧ ∀ k, k < m → inP (c k) (openA q s fr b l n c k) := by
    rw [fly_iff hm']
    constructor
    · rintro ⟨z, hz⟩
      obtain ⟨hz1, hz2⟩ := (held_keeps hh (by omega) z).1 hz
      have hf := (fly_iff hm n).2 ⟨z, hz1⟩
      exact ⟨hf, ((begun_iff hm hf c hmn (z m)).2 ⟨z, hz1, hz2, rfl⟩).1⟩
    · rintro ⟨hf, h⟩
      obtain ⟨z, hz1, hz2, _⟩ := (begun_iff hm hf c hmn _).1 ⟨h, ⟨Int.le_refl _, open_some hm hf c hmn h⟩⟩
      exact ⟨z, (held_keeps hh (by omega) z).2 ⟨hz1, hz2⟩⟩
  refine ⟨e1, fun hf' => ?_⟩
  obtain ⟨hf, h⟩ := e1.1 hf'
  refine same_span (span_some hm' hf') (open_some hm hf c hmn h) fun t => ?_
  rw [span_iff hm' hf' hmn]
  constructor
  · rintro ⟨z, hz, rfl⟩
    obtain ⟨hz1, hz2⟩ := (held_keeps hh (by omega) z).1 hz
    exact ((begun_iff hm hf c hmn (z m)).2 ⟨z, hz1, hz2, rfl⟩).2
  · intro ht
    obtain ⟨z, hz1, hz2, h3⟩ := (begun_iff hm hf c hmn t).1 ⟨h, ht⟩
    exact ⟨z, (held_keeps hh (by omega) z).2 ⟨hz1, hz2⟩, h3⟩
end Go.Proofs.YtlcblcoodabpeaaDoor

namespace Go.Proofs.YtlcblcoodabpeaaDoor
open Go.RowKit

/-- A step that was entered at a tick. -/
def Stp.hold (t : Stp) (z : Int) : Stp := { t with fr := mxB t.fr z, by_ := mnB t.by_ z }
/-- The steps, the first k of them held. -/
def heldL (l : List Stp) (zs : List Int) (k : Nat) : List Stp := (List.range l.length).map fun i => if i < k then (l.getD i .zero).hold (zs.getD i 0) else l.getD i .zero
theorem heldL_length (l : List Stp) (zs : List Int) (k : Nat) : (heldL l zs k).length = l.length := by simp [heldL]
theorem heldL_get (l : List Stp) (zs : List Int) (k i : Nat) (h : i < l.length) : (heldL l zs k)[i]? = some (if i < k then (l.getD i .zero).hold (zs.getD i 0) else l.getD i .zero) := by simp [heldL, h]
theorem getD_some {l : List Stp} {i : Nat} (h : i < l.length) : l[i]? = some (l.getD i .zero) := by
  rw [List.getD_eq_getElem?_getD, List.getElem?_eq_getElem h]; rfl
theorem getD_is {l : List Stp} {i : Nat} {t : Stp} (h : l[i]? = some t) : l.getD i .zero = t := by rw [List.getD_eq_getElem?_getD, h]; rfl
theorem heldL_zero (l : List Stp) (zs : List Int) : heldL l zs 0 = l := by
  apply List.ext_getElem?
  intro i
  by_cases h : i < l.length
  · rw [heldL_get _ _ _ _ h, if_neg (by omega), getD_some h]
  · rw [List.getElem?_eq_none (by rw [heldL_length]; omega), List.getElem?_eq_none (by omega)]
theorem heldL_succ (l : List Stp) (zs : List Int) (k : Nat) : heldL l zs (k + 1) = (heldL l zs k).set k ((l.getD k .zero).hold (zs.getD k 0)) := by
  apply List.ext_getElem?
  intro i
  by_cases h : i < l.length
  · rw [heldL_get _ _ _ _ h]
    by_cases e : k = i
    · subst e
      rw [List.getElem?_set_self (by rw [heldL_length]; exact h), if_pos (by omega)]
    · rw [List.getElem?_set_ne e, heldL_get _ _ _ _ h]
      by_cases c : i < k
      · rw [if_pos c, if_pos (by omega)]
      · rw [if_neg c, if_neg (by omega)]
  · rw [List.getElem?_eq_none (by rw [heldL_length]; omega), List.getElem?_eq_none (by rw [List.length_set, heldL_length]; omega)]
theorem heldL_now (l : List Stp) (zs : List Int) (k : Nat) (h : k < l.length) : (heldL l zs k)[k]? = some (l.getD k .zero) := by rw [heldL_get _ _ _ _ h, if_neg (by omega)]

theorem held_as (fr b s : Int) (l : List Stp) (zs : List Int) (hz : zs.length ≤ l.length) : HeldAs fr b l fr b (heldL l zs zs.length) s (fun i => zs.getD i 0) zs.length where
  len := heldL_length _ _ _
  most k := by
    unfold mostB
    by_cases h : k < l.length
    · rw [getD_is (heldL_get l zs zs.length k h)]
      split <;> rfl
    · rw [List.getD_eq_getElem?_getD, List.getD_eq_getElem?_getD, List.getElem?_eq_none (by rw [heldL_length]; omega), List.getElem?_eq_none (by omega)]
  low k := by
    unfold lowB
    rw [heldL_length]
    by_cases h : k < l.length
    · rw [if_pos h, if_pos h, getD_is (heldL_get l zs zs.length k h)]
      split <;> rfl
    · rw [if_neg h, if_neg h, if_neg (by omega)]
  high k := by
    unfold highB
    rw [heldL_length]
    by_cases h : k < l.length
    · rw [if_pos h, if_pos h, getD_is (heldL_get l zs zs.length k h)]
      split <;> rfl
    · rw [if_neg h, if_neg h, if_neg (by omega)]

theorem held_wide {q s fr b : Int} {l : List Stp} (hp : Wide q s fr b l) (zs : List Int) (hz : zs.length ≤ l.length) : Wide q s fr b (heldL l zs zs.length) where
  kind := hp.kind
  len := by rw [heldL_length]; exact hp.len
  win k := by
    have hh := held_as fr b s l zs hz
    have h0 := hp.win k
    rw [hh.low, hh.high]
    split
    · have m1 := mxB_le (lowB fr l k) (zs.getD k 0)
      have m2 := mnB_le (highB b l k) (zs.getD k 0)
      constructor
      · omega
      · have := m2.1; omega
    · exact h0

/-- Each of the ticks was open. -/
def begunB (q s fr b : Int) (l : List Stp) (zs : List Int) : Nat → Bool
  | 0 => true
  | k + 1 => begunB q s fr b l zs k && inB (zs.getD k 0) (openA q s fr b l l.length (fun i => zs.getD i 0) k).1 (openA q s fr b l l.length (fun i => zs.getD i 0) k).2
theorem begunB_iff (q s fr b : Int) (l : List Stp) (zs : List Int) : ∀ m, begunB q s fr b l zs m = true ↔ ∀ k, k < m → inP (zs.getD k 0) (openA q s fr b l l.length (fun i => zs.getD i 0) k)
  | 0 => ⟨fun _ k hk => by omega, fun _ => rfl⟩
  | m + 1 => by
    rw [begunB, Bool.and_eq_true, begunB_iff q s fr b l zs m, inB_iff]
    constructor
    · rintro ⟨h1, h2⟩ k hk
      by_cases e : k = m
      · subst e; exact h2
      · exact h1 k (by omega)
    · intro h
      exact ⟨fun k hk => h k (by omega), h m (by omega)⟩
/-- It can be gone on with. -/
def goB (q s fr b : Int) (l : List Stp) (zs : List Int) : Bool := pathB q s fr b l && spanB q s fr b l && decide (zs.length ≤ l.length) && begunB q s fr b l zs zs.length
def goS (q s fr b : Int) (l : List Stp) (zs : List Int) : Int × Int := if goB q s fr b l zs then openA q s fr b l l.length (fun i => zs.getD i 0) zs.length else (0, 0)

/-- What the specification finds. -/
theorem held_go {q s fr b : Int} {l : List Stp} {zs : List Int} (hp : pathB q s fr b l = true) (hz : zs.length ≤ l.length) :
    spanB q s fr b (heldL l zs zs.length) = goB q s fr b l zs ∧ (goB q s fr b l zs = true → (spansL q s fr b (heldL l zs zs.length))[zs.length]? = some (goS q s fr b l zs)) := by
  have hw := Wide.of hp
  have hw' := held_wide hw zs hz
  have key := held_next (n := l.length) (held_as fr b s l zs hz) hw.quick hz
  have e1 : spanB q s fr b (heldL l zs zs.length) = goB q s fr b l zs := by
    rw [hw'.span_fwd, heldL_length]
    unfold goB
    rw [hp, hw.span_fwd, Bool.eq_iff_iff, key.1]
    simp only [Bool.true_and, Bool.and_eq_true, decide_eq_true_eq]
    rw [begunB_iff]
    exact ⟨fun ⟨h1, h2⟩ => ⟨⟨h1, hz⟩, h2⟩, fun ⟨⟨h1, _⟩, h2⟩ => ⟨h1, h2⟩⟩
  refine ⟨e1, fun hg => ?_⟩
  have hsp : spanB q s fr b (heldL l zs zs.length) = true := by rw [e1]; exact hg
  have hf : fwdTo q s fr b (heldL l zs zs.length) (l.length + 1) = true := by
    have := hw'.span_fwd
    rw [heldL_length] at this
    rw [← this]; exact hsp
  have k2 := key.2 hf
  unfold goS
  rw [if_pos hg, ← k2]
  unfold spansL spanAt
  rw [if_pos hsp, heldL_length, List.getElem?_map, List.getElem?_range (by omega)]
  rfl

/-- The row of spans when these ticks have come: what was open to each of them, what is open to the next, the spans of the rest. -/
def rowG (q s fr b : Int) (l : List Stp) (c : Nat → Int) (m : Nat) : List (Int × Int) := (List.range (l.length + 1)).map fun j => if j ≤ m then openA q s fr b l l.length c j else spanAt q s fr b l l.length j
theorem rowG_length (q s fr b : Int) (l : List Stp) (c : Nat → Int) (m : Nat) : (rowG q s fr b l c m).length = l.length + 1 := by simp [rowG]
theorem rowG_get (q s fr b : Int) (l : List Stp) (c : Nat → Int) (m j : Nat) (h : j ≤ l.length) : (rowG q s fr b l c m)[j]? = some (if j ≤ m then openA q s fr b l l.length c j else spanAt q s fr b l l.length j) := by
  simp [rowG, show j < l.length + 1 by omega]
theorem rowG_zero {q s fr b : Int} {l : List Stp} (c : Nat → Int) (h : spanB q s fr b l = true) : rowG q s fr b l c 0 = spansL q s fr b l := by
  unfold rowG spansL
  rw [if_pos h]
  apply List.map_congr_left
  intro j _
  by_cases e : j ≤ 0
  · obtain rfl : j = 0 := by omega
    rw [if_pos e]; rfl
  · rw [if_neg e]; rfl
theorem rowG_succ (q s fr b : Int) (l : List Stp) (c : Nat → Int) (m : Nat) : rowG q s fr b l c (m + 1) = (rowG q s fr b l c m).set (m + 1) (openP q s fr b l l.length m (c m)) := by
  apply List.ext_getElem?
  intro j
  by_cases h : j ≤ l.length
  · rw [rowG_get _ _ _ _ _ _ _ _ h]
    by_cases e : m + 1 = j
    · subst e
      rw [List.getElem?_set_self (by rw [rowG_length]; omega), if_pos (Nat.le_refl _)]; rfl
    · rw [List.getElem?_set_ne e, rowG_get _ _ _ _ _ _ _ _ h]
      by_cases e' : j ≤ m
      · rw [if_pos e', if_pos (by omega)]
      · rw [if_neg e', if_neg (by omega)]
  · rw [List.getElem?_eq_none (by rw [rowG_length]; omega), List.getElem?_eq_none (by rw [List.length_set, rowG_length]; omega)]
/-- Only the ticks that have come count. -/
theorem rowG_congr {q s fr b : Int} {l : List Stp} {c c' : Nat → Int} {m : Nat} (h : ∀ i, i < m → c i = c' i) : rowG q s fr b l c m = rowG q s fr b l c' m := by
  unfold rowG
  apply List.map_congr_left
  intro j _
  split
  · cases j with
    | zero => rfl
    | succ i => simp only [openA]; rw [h i (by omega)]
  · rfl
end Go.Proofs.YtlcblcoodabpeaaDoor

namespace Go.Proofs.YtlcblcoodabpeaaDoor
open Go.RowKit

set_option maxRecDepth 20000 in
set_option maxHeartbeats 1000000 in
theorem copyS_any (q s fr b : Int) (a : Option Addr) (b0 o cap : Nat) (l : List Stp) (w : World) (hl0 : 1 ≤ l.length) (hl : l.length ≤ 1048576) (hs : StepsAt w a b0 o l) :
    Calls Tryd.prog 43 #[.agg #[.int .i64 q, .int .i64 s, .slice a l.length cap, .int .i64 fr, .int .i64 b]] w
      fun e w' => ∃ g gcap, e = .returned (.agg #[.int .i64 q, .int .i64 s, .slice (some ⟨g, 0, none⟩) l.length gcap, .int .i64 fr, .int .i64 b]) ∧
        w'.ownsRow w.heap.size 50 7 (.slice (some ⟨g, 0, none⟩) l.length gcap) l.length (stepCells l) ∧ Below w.heap.size w w' := by
  obtain ⟨i0, hi, hz0, hz1, hz2⟩ := info_parts step_info
  have hne : l ≠ [] := by intro e; subst e; simp at hl0
  obtain rfl := hs.here hne
  go_enter Tryd.func43, Tryd.ntmps43
  have hB0 := (BoxP.new w q s fr b (.slice (some ⟨b0, o, none⟩) l.length cap) 31)
  have hE := owns_empty (w := ((w.alloc (.cells #[.int .i64 q, .int .i64 s, .slice (some ⟨b0, o, none⟩) l.length cap, .int .i64 fr, .int .i64 b] 31)).alloc (.cells #[.int .i64 0, .int .i64 0, .slice none 0 0, .int .i64 0, .int .i64 0] 31))) (base := w.heap.size + 1 + 1) (e := 50) (size := 7) (by simp)
  simp only [World.size_alloc] at hE
  have hnew := steps_news (((hs.alloc (.cells #[.int .i64 q, .int .i64 s, .slice (some ⟨b0, o, none⟩) l.length cap, .int .i64 fr, .int .i64 b] 31)).alloc (.cells #[.int .i64 0, .int .i64 0, .slice none 0 0, .int .i64 0, .int .i64 0] 31)).alloc (.cells #[] 50))
  have hC : ∀ w4, (((w.alloc (.cells #[.int .i64 q, .int .i64 s, .slice (some ⟨b0, o, none⟩) l.length cap, .int .i64 fr, .int .i64 b] 31)).alloc (.cells #[.int .i64 0, .int .i64 0, .slice none 0 0, .int .i64 0, .int .i64 0] 31)).alloc (.cells #[] 50)).grownBy w4 (Value.slice (some ⟨w.heap.size + 1 + 1, 0, none⟩) 0 0).ownBlock →
      w4.cell? ⟨w.heap.size, 0, none⟩ = some (.int .i64 q) ∧ w4.cell? ⟨w.heap.size, 1, none⟩ = some (.int .i64 s) ∧ w4.cell? ⟨w.heap.size, 2, none⟩ = some (.slice (some ⟨b0, o, none⟩) l.length cap) ∧ w4.cell? ⟨w.heap.size, 3, none⟩ = some (.int .i64 fr) ∧ w4.cell? ⟨w.heap.size, 4, none⟩ = some (.int .i64 b) ∧
      w4.cell? ⟨w.heap.size + 1, 0, none⟩ = some (.int .i64 0) ∧ w4.cell? ⟨w.heap.size + 1, 1, none⟩ = some (.int .i64 0) ∧ w4.cell? ⟨w.heap.size + 1, 2, none⟩ = some (.slice none 0 0) ∧ w4.cell? ⟨w.heap.size + 1, 3, none⟩ = some (.int .i64 0) ∧ w4.cell? ⟨w.heap.size + 1, 4, none⟩ = some (.int .i64 0) := fun w4 hg => by
    have k0 : ∀ j, w4.cell? ⟨w.heap.size, j, none⟩ = _ := fun j => World.cell?_of_block (a := ⟨w.heap.size, j, none⟩) (hg.block w.heap.size (by simp; omega) (by simp [Value.ownBlock]; omega))
    have k1 : ∀ j, w4.cell? ⟨w.heap.size + 1, j, none⟩ = _ := fun j => World.cell?_of_block (a := ⟨w.heap.size + 1, j, none⟩) (hg.block (w.heap.size + 1) (by simp) (by simp [Value.ownBlock]))
    simp only [k0, k1]
    simp [go_sem]
  have hF : ∀ w4, (((w.alloc (.cells #[.int .i64 q, .int .i64 s, .slice (some ⟨b0, o, none⟩) l.length cap, .int .i64 fr, .int .i64 b] 31)).alloc (.cells #[.int .i64 0, .int .i64 0, .slice none 0 0, .int .i64 0, .int .i64 0] 31)).alloc (.cells #[] 50)).grownBy w4 (Value.slice (some ⟨w.heap.size + 1 + 1, 0, none⟩) 0 0).ownBlock →
      (∀ j, w4.frozen? ⟨w.heap.size, j, none⟩ = false) ∧ ∀ j, w4.frozen? ⟨w.heap.size + 1, j, none⟩ = false := fun w4 hg => by
    have k0 : ∀ j, w4.frozen? ⟨w.heap.size, j, none⟩ = _ := fun j => World.frozen?_of_block (a := ⟨w.heap.size, j, none⟩) (hg.block w.heap.size (by simp; omega) (by simp [Value.ownBlock]; omega))
    have k1 : ∀ j, w4.frozen? ⟨w.heap.size + 1, j, none⟩ = _ := fun j => World.frozen?_of_block (a := ⟨w.heap.size + 1, j, none⟩) (hg.block (w.heap.size + 1) (by simp) (by simp [Value.ownBlock]))
    simp only [k0, k1]
    simp [go_sem]
  go_wp2_with (at_builtin; refine wpList_append_own _ rfl (.tmp 3) (.tmp 5) 29 rfl (w.heap.size + 1 + 1) 50 i0 (.agg #[.int .i64 0, .int .i64 0, .int .i64 0, .int .i64 0, .int .i64 0, .int .i64 0, .bool false]) 7 56 Tryd.underlying29 hi hz0 hz1 hz2 rfl (by decide) (.slice (some ⟨w.heap.size + 1 + 1, 0, none⟩) 0 0) 0 [] rfl hE ⟨b0, o, none⟩ l.length cap (stepCells l) rfl (stepCells_length l) hnew (stepCells_one l) (by unfold maxLen; omega) (by omega) (by simp) ?_; intro v' w4 hown4 hgrow4 hnil4; simp only [Nat.zero_add, List.nil_append] at hown4; obtain ⟨g4, gc4, rfl, hg4, hgl4⟩ := owns_some hown4 (by omega); have c4 := hC w4 hgrow4; have f4 := hF w4 hgrow4; have z0 := c4.1; have z1 := c4.2.1; have z2 := c4.2.2.1; have z3 := c4.2.2.2.1; have z4 := c4.2.2.2.2.1; have y0 := c4.2.2.2.2.2.1; have y1 := c4.2.2.2.2.2.2.1; have y2 := c4.2.2.2.2.2.2.2.1; have y3 := c4.2.2.2.2.2.2.2.2.1; have y4 := c4.2.2.2.2.2.2.2.2.2)
  have HB4 : Below w.heap.size w w4 := ((((Below.refl w.heap.size w).alloc (Nat.le_refl _) _).alloc (by simp) _).alloc (by simp; omega) _).grown hgrow4 (by simp; omega) (fun k e => by simp [Value.ownBlock] at e; omega)
  refine bodyPost_ret (v := .agg #[.int .i64 q, .int .i64 s, .slice (some ⟨g4, 0, none⟩) l.length gc4, .int .i64 fr, .int .i64 b]) (by simp [results, Tryd.results43, go_sem, *]) rfl ⟨g4, gc4, rfl, ?_, ?_⟩
  · have hh : ∀ k, (Value.slice (some ⟨g4, 0, none⟩) l.length gc4).ownBlock = some k → k ≠ w.heap.size ∧ k ≠ w.heap.size + 1 := fun k e => by simp [Value.ownBlock] at e; omega
    iterate 6 (refine owns_set ?_ (fun k e => by first | exact (hh k e).1 | exact (hh k e).2) _ _)
    exact ⟨hown4.1, hown4.2.imp id fun ⟨g, cap, cur, h1, h2, h3⟩ => ⟨g, cap, cur, h1, by omega, h3⟩⟩
  · iterate 6 (refine Below.setCell ?_ (by simp <;> omega) _)
    exact HB4

end Go.Proofs.YtlcblcoodabpeaaDoor

namespace Go.Proofs.YtlcblcoodabpeaaDoor
open Go.RowKit

set_option maxRecDepth 20000 in
set_option maxHeartbeats 4000000 in
theorem heldS_any (q s fr b : Int) (a : Option Addr) (b0 o cap : Nat) (l : List Stp) (c : Option Addr) (cb co ccap : Nat) (zs : List Int) (w : World) (hl0 : 1 ≤ l.length) (hl : l.length ≤ 1048576) (hs : StepsAt w a b0 o l) (hz : IntsAt w c cb co zs) (hn : zs.length ≤ l.length) :
    Calls Tryd.prog 21 #[.agg #[.int .i64 q, .int .i64 s, .slice a l.length cap, .int .i64 fr, .int .i64 b], .slice c zs.length ccap] w
      fun e w' => ∃ g gcap, e = .returned (.agg #[.int .i64 q, .int .i64 s, .slice (some ⟨g, 0, none⟩) l.length gcap, .int .i64 fr, .int .i64 b]) ∧
        w'.ownsRow w.heap.size 50 7 (.slice (some ⟨g, 0, none⟩) l.length gcap) l.length (stepCells (heldL l zs zs.length)) ∧ Below w.heap.size w w' := by
  go_enter Tryd.func21, Tryd.ntmps21
  go_wp2_with fail
  refine (copyS_any _ _ _ _ _ b0 o _ _ _ hl0 hl ((hs.alloc _).alloc _)).mono ?_
  rintro e w1 ⟨g, gcap, rfl, hown1, hb1⟩
  have hg1 := (hown1.lt g rfl).1
  have hgl1 := (hown1.lt g rfl).2
  simp only [World.size_alloc] at hg1 hb1
  have hb01 : Below w.heap.size w w1 := (((Below.refl w.heap.size w).alloc (Nat.le_refl _) _).alloc (by simp) _).trans (hb1.mono (by omega))
  have z1 := hb1.size
  have hx2 := PathAt.new w1 q s fr b (.slice (some ⟨g, 0, none⟩) l.length gcap)
  have hr0 := ResP.new (w.alloc (.cells #[.int .i64 q, .int .i64 s, .slice a l.length cap, .int .i64 fr, .int .i64 b] 31))
  simp only [World.size_alloc] at hr0
  have hr1 := hr0.keep hb1 (by omega)
  have hal : Below w1.heap.size w1 (w1.alloc (.cells #[.int .i64 q, .int .i64 s, .slice (some ⟨g, 0, none⟩) l.length gcap, .int .i64 fr, .int .i64 b] 31)) := (Below.refl w1.heap.size w1).alloc (Nat.le_refl _) _
  have hr2 := hr1.keep hal hr1.lt
  have hb02 := hb01.trans (hal.mono hb01.size)
  have hown2 : (w1.alloc (.cells #[.int .i64 q, .int .i64 s, .slice (some ⟨g, 0, none⟩) l.length gcap, .int .i64 fr, .int .i64 b] 31)).ownsRow w.heap.size 50 7 (.slice (some ⟨g, 0, none⟩) l.length gcap) l.length (stepCells (heldL l zs 0)) := by
    rw [heldL_zero]
    have := owns_below hown1 hal
    refine ⟨this.1, this.2.imp id fun ⟨g, cap, cur, h1, h2, h3⟩ => ⟨g, cap, cur, h1, by simp at h2; omega, h3⟩⟩
  clear hr0 hr1 hal hown1 hb1 z1 hb01
  go_wp2_with fail
  go_loopw [6] (fun u wr => ∃ k : Nat, k ≤ zs.length ∧ u = .int .i64 k ∧ PathAt wr w1.heap.size q s fr b (.slice (some ⟨g, 0, none⟩) l.length gcap) ∧ ResP wr (w.heap.size + 1) ∧ Below w.heap.size w wr ∧ wr.ownsRow w.heap.size 50 7 (.slice (some ⟨g, 0, none⟩) l.length gcap) l.length (stepCells (heldL l zs k))) (fun u _ => zs.length - (intOf u).toNat)
  case atStart => exact ⟨0, Nat.zero_le _, rfl, hx2, hr2, hb02, hown2⟩
  case round =>
    clear hx2 hr2 hb02 hown2
    obtain ⟨k, hk, rfl, hx, hr, hb, hown⟩ := hrel
    obtain ⟨⟨p0, p1, p2, p3, p4⟩, pf⟩ := hx.cells
    obtain ⟨⟨r0, r1, r2, r3, r4⟩, rf⟩ := hr.cells
    by_cases hlt : k < zs.length
    · have hne : zs ≠ [] := by intro e; subst e; simp at hlt
      obtain rfl := hz.here hne
      obtain ⟨z, hzk⟩ : ∃ z, zs[k]? = some z := ⟨zs[k], List.getElem?_eq_getElem hlt⟩
      have hkl : k < l.length := by omega
      obtain ⟨t, ht⟩ : ∃ t, l.getD k .zero = t := ⟨_, rfl⟩
      have hnow := heldL_now l zs k hkl
      rw [ht] at hnow
      have x4 := (hown.cellAt (k * 7 + 4) (by omega)).trans (stepCells_at _ k t 4 hnow (by decide))
      have x5 := (hown.cellAt (k * 7 + 5) (by omega)).trans (stepCells_at _ k t 5 hnow (by decide))
      simp only [List.getElem?_cons_succ, List.getElem?_cons_zero] at x4 x5
      have zc := (hz.below hb hz.lt).cell k z hzk
      have hcb := (hz.below hb hz.lt).lt hne
      have hgr : g < wr.heap.size := (hown.lt g rfl).2
      have hpr : w1.heap.size < wr.heap.size := hx.lt
      have m0 : (0 : Int) ≤ (k : Int) := by omega
      have m1 : (k : Int) < (zs.length : Int) := by omega
      have m2 : (k : Int) < (l.length : Int) := by omega
      obtain ⟨n1, hn1⟩ : ∃ n1, mxB t.fr z = n1 := ⟨_, rfl⟩
      obtain ⟨n2, hn2⟩ : ∃ n2, mnB t.by_ z = n2 := ⟨_, rfl⟩
      have MX : ∀ (W : World), Calls Tryd.prog 22 #[.int .i64 t.fr, .int .i64 z] W fun e w' => e = .returned (.int .i64 n1) ∧ w' = W := fun W => by rw [← hn1]; exact max_any _ _ _
      have MN : ∀ (W : World), Calls Tryd.prog 23 #[.int .i64 t.by_, .int .i64 z] W fun e w' => e = .returned (.int .i64 n2) ∧ w' = W := fun W => by rw [← hn2]; exact min_any _ _ _
      have HO : Hid (wr.ownsRow w.heap.size 50 7 (.slice (some ⟨g, 0, none⟩) l.length gcap) l.length (stepCells (heldL l zs k))) := hown
      have HX : Hid (PathAt wr w1.heap.size q s fr b (.slice (some ⟨g, 0, none⟩) l.length gcap)) := hx
      have HR : Hid (ResP wr (w.heap.size + 1)) := hr
      have HB : Hid (Below w.heap.size w wr) := hb
      have hsl : (stepCells (heldL l zs k)).length = l.length * 7 := hown.1
      clear hx hr hb hown hnow pf r0 r1 r2 r3 r4 rf p3 p4 p0 p1
      have qn := Cls.any wr
      have q1 := Cls.cell hgr
      have q2 := Cls.cell hpr
      have q3 := Cls.cell hcb
      go_wp2
      refine wp_region_last (by kernel_rfl) (by simp) (by kernel_rfl) (by kernel_rfl) ?_
      simp only [initL, endL]
      repeat (go_big_quiet_step ((go_at_call 22; exact Calls.cls_of_same (MX _))))
      refine wpQuiet_nil ?_
      rintro _ ⟨u, rfl⟩
      have hownu := owns_below HO.out u.same
      have t0 := (hownu.cellAt (k * 7 + 4) (by omega)).trans ((HO.out.cellAt (k * 7 + 4) (by omega)).symm.trans x4)
      have tf := hownu.frozenAt
      clear q1 q2 q3 qn MX
      go_wp2
      have hown8 := owns_put hownu (j := k * 7 + 4) (by omega) (.int .i64 n1)
      have hx8 := (HX.out.keep u.same hpr).set (p := ⟨g, k * 7 + 4, none⟩) (by show w1.heap.size ≠ g; omega) (.int .i64 n1)
      have hr8 := (HR.out.keep u.same HR.out.lt).set (p := ⟨g, k * 7 + 4, none⟩) (by show w.heap.size + 1 ≠ g; omega) (.int .i64 n1)
      have hb8 := (HB.out.trans (u.same.mono HB.out.size)).setCell (p := ⟨g, k * 7 + 4, none⟩) (by show w.heap.size ≤ g; omega) (.int .i64 n1)
      have z5 : ((stepCells (heldL l zs k)).set (k * 7 + 4) (.int .i64 n1))[k * 7 + 5]? = some (.int .i64 t.by_) := by
        rw [List.getElem?_set_ne (by omega), ← HO.out.cellAt (k * 7 + 5) (by omega)]; exact x5
      clear t0 tf hownu x4 x5 p2 zc hcb
      generalize u.it.setCell ⟨g, k * 7 + 4, none⟩ (.int .i64 n1) = w8 at hown8 hx8 hr8 hb8 ⊢
      have x5 := (hown8.cellAt (k * 7 + 5) (by omega)).trans z5
      obtain ⟨⟨_, _, p2, _, _⟩, _⟩ := hx8.cells
      have zc := (hz.below hb8 hz.lt).cell k z hzk
      have hcb := (hz.below hb8 hz.lt).lt hne
      have hgr8 : g < w8.heap.size := (hown8.lt g rfl).2
      have hpr8 : w1.heap.size < w8.heap.size := hx8.lt
      have qn := Cls.any w8
      have q1 := Cls.cell hgr8
      have q2 := Cls.cell hpr8
      have q3 := Cls.cell hcb
      have HO8 : Hid (w8.ownsRow w.heap.size 50 7 (.slice (some ⟨g, 0, none⟩) l.length gcap) l.length ((stepCells (heldL l zs k)).set (k * 7 + 4) (.int .i64 n1))) := hown8
      have HX8 : Hid (PathAt w8 w1.heap.size q s fr b (.slice (some ⟨g, 0, none⟩) l.length gcap)) := hx8
      have HR8 : Hid (ResP w8 (w.heap.size + 1)) := hr8
      have HB8 : Hid (Below w.heap.size w w8) := hb8
      clear hx8 hr8 hb8 hown8 hpr hgr HX HR HB
      refine wp_region_last (by kernel_rfl) (by simp) (by kernel_rfl) (by kernel_rfl) ?_
      simp only [initL, endL]
      repeat (go_big_quiet_step ((go_at_call 23; exact Calls.cls_of_same (MN _))))
      refine wpQuiet_nil ?_
      rintro _ ⟨u2, rfl⟩
      have hownu := owns_below HO8.out u2.same
      have t0 := (hownu.cellAt (k * 7 + 5) (by omega)).trans z5
      have tf := hownu.frozenAt
      clear q1 q2 q3 qn MN
      go_wp2
      have hown9 := owns_put hownu (j := k * 7 + 5) (by omega) (.int .i64 n2)
      have hx9 := (HX8.out.keep u2.same hpr8).set (p := ⟨g, k * 7 + 5, none⟩) (by show w1.heap.size ≠ g; omega) (.int .i64 n2)
      have hr9 := (HR8.out.keep u2.same HR8.out.lt).set (p := ⟨g, k * 7 + 5, none⟩) (by show w.heap.size + 1 ≠ g; omega) (.int .i64 n2)
      have hb9 := (HB8.out.trans (u2.same.mono HB8.out.size)).setCell (p := ⟨g, k * 7 + 5, none⟩) (by show w.heap.size ≤ g; omega) (.int .i64 n2)
      have ER : stepCells (heldL l zs (k + 1)) = ((stepCells (heldL l zs k)).set (k * 7 + 4) (.int .i64 n1)).set (k * 7 + 5) (.int .i64 n2) := by
        have hgz : zs.getD k 0 = z := by rw [List.getD_eq_getElem?_getD, hzk]; rfl
        have hnow := heldL_now l zs k hkl
        rw [heldL_succ, ht, hgz, ← hn1, ← hn2]
        rw [ht] at hnow
        exact stepCells_set _ k t (t.hold z) hnow rfl
      rw [← ER] at hown9
      go_roundw
      case rel => exact ⟨k + 1, by omega, by go_num, hx9, hr9, hb9, hown9⟩
      case measure => simp [intOf]; omega
    · obtain rfl : k = zs.length := by omega
      go_wp2
      refine bodyPost_ret (v := .agg #[.int .i64 q, .int .i64 s, .slice (some ⟨g, 0, none⟩) l.length gcap, .int .i64 fr, .int .i64 b]) (by simp [results, Tryd.results21, go_sem, *]) rfl ⟨g, gcap, rfl, ?_, ?_⟩
      · have hh : ∀ j, (Value.slice (some ⟨g, 0, none⟩) l.length gcap).ownBlock = some j → j ≠ w.heap.size + 1 := fun j e => by simp [Value.ownBlock] at e; omega
        iterate 5 (refine owns_set ?_ (fun j e => hh j e) _ _)
        exact hown
      · iterate 5 (refine Below.setCell ?_ (by simp <;> omega) _)
        exact hb
end Go.Proofs.YtlcblcoodabpeaaDoor

namespace Go.Proofs.YtlcblcoodabpeaaDoor
open Go.RowKit

/-- What lies while the specification cuts a path. -/
structure RsD (w wr : World) (B : Nat) (q s fr b : Int) (v : Value) (m : List Stp) : Prop where
  old : Below w.heap.size w wr
  lt : w.heap.size + 1 < B
  pa : PathAt wr B q s fr b v
  res : PathAt wr (w.heap.size + 1) 0 0 0 0 (.slice none 0 0)
  own : wr.ownsRow (w.heap.size + 2) 50 7 v m.length (stepCells m)
section
variable {w wr w' : World} {B : Nat} {q s fr b : Int} {v : Value} {m : List Stp}
theorem RsD.gB (h : RsD w wr B q s fr b v m) : ∀ k, v.ownBlock = some k → k ≠ B ∧ w.heap.size + 1 < k := fun k hk => ⟨row_not_path h.own h.pa k hk, owns_base h.own k hk⟩
theorem RsD.below (h : RsD w wr B q s fr b v m) (hb : Below wr.heap.size wr w') : RsD w w' B q s fr b v m :=
  ⟨h.old.trans (hb.mono h.old.size), h.lt, h.pa.keep hb h.pa.lt, h.res.keep hb h.res.lt, owns_below h.own hb⟩
theorem RsD.put {g gc : Nat} (h : RsD w wr B q s fr b (.slice (some ⟨g, 0, none⟩) m.length gc) m) {i j : Nat} {t t' : Stp} {u : Value} (ht : m[i]? = some t) (hj : j < 7) (he : t'.cells = t.cells.set j u) :
    RsD w (wr.setCell ⟨g, i * 7 + j, none⟩ u) B q s fr b (.slice (some ⟨g, 0, none⟩) (m.set i t').length gc) (m.set i t') := by
  rw [List.length_set]
  obtain ⟨h1, h2⟩ := h.gB g rfl
  exact ⟨h.old.setCell (p := ⟨g, i * 7 + j, none⟩) (by show _ ≤ g; omega) u, h.lt, h.pa.set (by show B ≠ g; omega) u, h.res.set (by show w.heap.size + 1 ≠ g; omega) u, by have := row_put h.own ht hj he; rw [List.length_set]; exact this⟩
theorem RsD.after {g gc : Nat} {m' : List Stp} (h : RsD w wr B q s fr b (.slice (some ⟨g, 0, none⟩) m.length gc) m) (hl : m'.length = m.length) (hr : w'.ownsRow (w.heap.size + 2) 50 7 (.slice (some ⟨g, 0, none⟩) m.length gc) m.length (stepCells m')) (hg : wr.grownBy w' (some g)) :
    PathAt w' (w.heap.size + 1) 0 0 0 0 (.slice none 0 0) ∧ Below w.heap.size w w' ∧ w'.ownsRow (w.heap.size + 2) 50 7 (.slice (some ⟨g, 0, none⟩) m'.length gc) m'.length (stepCells m') := by
  obtain ⟨h1, h2⟩ := h.gB g rfl
  refine ⟨h.res.grown hg (fun e => by cases e; omega), h.old.grown hg h.old.size (fun j e => by cases e; omega), ?_⟩
  rw [hl]
  exact hr
end
theorem afterFr_enter (fr : Int) (m : List Stp) (x y nw : Int) : afterFr fr (enterL m x y) nw = afterFr fr m nw := by unfold afterFr; rw [enterL_length]
theorem owns_cap {w : World} {base e size n g cap : Nat} {xs : List Value} (h : w.ownsRow base e size (.slice (some ⟨g, 0, none⟩) n cap) n xs) : n ≤ cap := by
  rcases h.2 with ⟨h0, _⟩ | ⟨g', cap', cur, h1, h2, h3, h4, h5, h6, h7⟩
  · cases h0
  · simp only [Value.slice.injEq, Option.some.injEq, Addr.mk.injEq, and_true, true_and] at h1
    obtain ⟨rfl, rfl⟩ := h1
    omega
end Go.Proofs.YtlcblcoodabpeaaDoor

namespace Go.Proofs.YtlcblcoodabpeaaDoor
open Go.RowKit

set_option maxRecDepth 20000 in
set_option maxHeartbeats 8000000 in
theorem flyRestS_any (q s fr b st en nw : Int) (a : Option Addr) (b0 o cap : Nat) (l : List Stp) (w : World) (hl : l.length ≤ 1048576) (hs : StepsAt w a b0 o l) (hcap : l.length ≤ cap) :
    Calls Tryd.prog 7 #[.agg #[.int .i64 q, .int .i64 s, .slice a l.length cap, .int .i64 fr, .int .i64 b], .int .i64 st, .int .i64 en, .int .i64 nw] w (Gives (restA q s fr b l st en nw) w) := by
  have Q0 := PathAt.new w q s fr b (.slice a l.length cap)
  have P0 := PathAt.new (w.alloc (.cells #[.int .i64 q, .int .i64 s, .slice a l.length cap, .int .i64 fr, .int .i64 b] 31)) 0 0 0 0 (.slice none 0 0)
  rw [World.size_alloc] at P0
  have Q1 := Q0.keep ((Below.refl _ _).alloc (Nat.le_refl _) (.cells #[.int .i64 0, .int .i64 0, .slice none 0 0, .int .i64 0, .int .i64 0] 31)) Q0.lt
  have B0 : Below w.heap.size w ((w.alloc (.cells #[.int .i64 q, .int .i64 s, .slice a l.length cap, .int .i64 fr, .int .i64 b] 31)).alloc (.cells #[.int .i64 0, .int .i64 0, .slice none 0 0, .int .i64 0, .int .i64 0] 31)) := ((Below.refl _ _).alloc (Nat.le_refl _) _).alloc (by simp) _
  have NO : ∀ (W : World), restA q s fr b l st en nw = .no → Below w.heap.size w W → Gives (restA q s fr b l st en nw) w (.returned (.tuple #[.agg #[.int .i64 0, .int .i64 0, .slice none 0 0, .int .i64 0, .int .i64 0], .bool false])) W := fun W h hb => by rw [h]; exact Gives.none rfl hb
  go_enter Tryd.func7, Tryd.ntmps7
  go_wp2_with fail
  refine (pathS_any q s fr b a b0 o cap l _ hl ((hs.alloc _).alloc _)).mono ?_
  rintro e w1 ⟨rfl, hb1⟩
  have P1 := P0.keep hb1 P0.lt
  have Q2 := Q1.keep hb1 Q1.lt
  have B1 := B0.trans (hb1.mono B0.size)
  have z1 := P1.lt
  obtain ⟨⟨f0, f1, f2, f3, f4⟩, ff⟩ := P1.cells
  obtain ⟨⟨x0, x1, x2, x3, x4⟩, xf⟩ := Q2.cells
  clear hb1 P0 B0 Q0 Q1
  cases hp : pathB q s fr b l with
  | false =>
    have HA : Hid (restA q s fr b l st en nw = .no) := by show _ = _; unfold restA inStepB; rw [hp]; rfl
    go_wp2
    refine bodyPost_ret (v := .tuple #[.agg #[.int .i64 0, .int .i64 0, .slice none 0 0, .int .i64 0, .int .i64 0], .bool false]) (by simp [results, Tryd.results7, go_sem, *]) rfl (NO _ HA.out ?_)
    iterate 5 (refine Below.setCell ?_ (by show _ ≤ w.heap.size + 1; omega) _)
    exact B1
  | true =>
    have hlen := path_len hp
    go_wp2_with fail
    refine (in_any st 0 ((l.length : Int) - 1) _).mono ?_
    rintro e wx ⟨rfl, rfl⟩
    cases hst : inB st 0 ((l.length : Int) - 1) with
    | false =>
      have HA : Hid (restA q s fr b l st en nw = .no) := by show _ = _; unfold restA inStepB; rw [hp, hst]; rfl
      go_wp2
      refine bodyPost_ret (v := .tuple #[.agg #[.int .i64 0, .int .i64 0, .slice none 0 0, .int .i64 0, .int .i64 0], .bool false]) (by simp [results, Tryd.results7, go_sem, *]) rfl (NO _ HA.out ?_)
      iterate 5 (refine Below.setCell ?_ (by show _ ≤ w.heap.size + 1; omega) _)
      exact B1
    | true =>
      have hst' := (inB_iff _ _ _).1 hst
      obtain ⟨k, rfl⟩ : ∃ k : Nat, st = (k : Int) := ⟨st.toNat, by omega⟩
      have hk : k < l.length := by omega
      have k0 : (0 : Int) ≤ (k : Int) := by omega
      have k1 : (k : Int) < (l.length : Int) := by omega
      obtain ⟨m, hm⟩ : ∃ m, l.drop k = m := ⟨_, rfl⟩
      have hml : m.length = l.length - k := by rw [← hm, List.length_drop]
      have HP : Hid (pathB q s fr b l = true) := hp
      go_wp2_with fail
      refine (in_any nw en 10000 _).mono ?_
      rintro e wx2 ⟨rfl, rfl⟩
      cases hnw : inB nw en 10000 with
      | false =>
        have HA : Hid (restA q s fr b l k en nw = .no) := by
          show _ = _
          unfold restA inStepB
          rw [if_neg]
          intro h
          simp only [Bool.and_eq_true, inB_iff] at h
          have : inB nw en 10000 = true := (inB_iff _ _ _).2 (by omega)
          rw [hnw] at this; cases this
        go_wp2
        refine bodyPost_ret (v := .tuple #[.agg #[.int .i64 0, .int .i64 0, .slice none 0 0, .int .i64 0, .int .i64 0], .bool false]) (by simp [results, Tryd.results7, go_sem, *]) rfl (NO _ HA.out ?_)
        iterate 5 (refine Below.setCell ?_ (by show _ ≤ w.heap.size + 1; omega) _)
        exact B1
      | true =>
      have hnw' := (inB_iff _ _ _).1 hnw
      by_cases hen : en < 0
      · have HA : Hid (restA q s fr b l k en nw = .no) := by
          show _ = _
          unfold restA inStepB
          rw [if_neg]
          intro h
          simp only [Bool.and_eq_true, inB_iff] at h
          omega
        go_wp2
        refine bodyPost_ret (v := .tuple #[.agg #[.int .i64 0, .int .i64 0, .slice none 0 0, .int .i64 0, .int .i64 0], .bool false]) (by simp [results, Tryd.results7, go_sem, *]) rfl (NO _ HA.out ?_)
        iterate 5 (refine Below.setCell ?_ (by show _ ≤ w.heap.size + 1; omega) _)
        exact B1
      obtain ⟨t, ht⟩ : ∃ t, l.getD k .zero = t := ⟨_, rfl⟩
      have HN : Hid (0 ≤ nw ∧ nw ≤ 10000) := by show _ ∧ _; omega
      have HA : Hid (restA q s fr b l k en nw = canA q s (leftFr fr l k nw) b (leftL l k (mxB t.fr en) (mnB t.by_ en) nw)) := by
        show _ = _
        unfold restA inStepB
        rw [if_pos, Int.toNat_natCast, ht]
        simp only [Bool.and_eq_true, inB_iff]
        exact ⟨⟨⟨hp, hst'⟩, by omega⟩, by omega⟩
      have hsp := step_parts ((path_parts hp).2.2.2 k hk)
      rw [ht] at hsp
      have hx : 0 ≤ mxB t.fr en := by have := mxB_le t.fr en; omega
      have hy : mnB t.by_ en ≤ 10000 := by have := mnB_le t.by_ en; omega
      have htm : m[0]? = some t := by
        rw [← hm, List.getElem?_drop, Nat.add_zero]
        have := List.getElem?_eq_getElem hk
        rw [← ht, List.getD_eq_getElem?_getD, this]; rfl
      have htd : m.getD 0 .zero = t := by rw [List.getD_eq_getElem?_getD, htm]; rfl
      obtain ⟨n1, hn1⟩ : ∃ n1, mxB t.fr en = n1 := ⟨_, rfl⟩
      obtain ⟨n2, hn2⟩ : ∃ n2, mnB t.by_ en = n2 := ⟨_, rfl⟩
      rw [hn1, hn2] at HA
      rw [hn1] at hx
      rw [hn2] at hy
      have MX : ∀ (W : World), Calls Tryd.prog 22 #[.int .i64 t.fr, .int .i64 en] W fun e w' => e = .returned (.int .i64 n1) ∧ w' = W := fun W => by rw [← hn1]; exact max_any _ _ _
      have MN : ∀ (W : World), Calls Tryd.prog 23 #[.int .i64 t.by_, .int .i64 en] W fun e w' => e = .returned (.int .i64 n2) ∧ w' = W := fun W => by rw [← hn2]; exact min_any _ _ _
      have hne : l ≠ [] := by intro e; subst e; simp at hk
      have HEN : Hid (¬ en < 0) := hen
      clear NO hn1 hn2 hsp hp hst hst' hnw hnw'
      go_wp2_with fail
      refine (heldS_any q s fr b a b0 o cap l _ 0 0 _ [] _ hlen.1 hl ?_ ⟨fun h => absurd rfl h, fun h => absurd rfl h, fun i z hi => by simp at hi⟩ (by simp)).mono ?_
      · exact (hs.below B1 hs.lt).alloc _
      rintro e w2 ⟨g2, gc2, rfl, ho2, hb2⟩
      have al2 : Below wx2.heap.size wx2 (wx2.alloc (.cells #[] 3)) := (Below.refl _ _).alloc (Nat.le_refl _) _
      have hb2' : Below wx2.heap.size wx2 w2 := al2.trans (hb2.mono al2.size)
      have P2 := P1.keep hb2' P1.lt
      have B2 := B1.trans (hb2'.mono B1.size)
      rw [show ([] : List Int).length = 0 from rfl, heldL_zero] at ho2
      have hcap2 : l.length ≤ gc2 := owns_cap ho2
      clear hb2 hb2' al2 P1 Q2 B1 f0 f1 f2 f3 f4 ff x0 x1 x2 x3 x4 xf
      go_wp2_with fail
      refine (tailS_any q s fr b k (some ⟨g2, 0, none⟩) g2 0 gc2 l w2 hl (steps_owned ho2) hcap2 hk).mono ?_
      rintro e w3 ⟨g, gc, rfl, ho3, hb3⟩
      rw [hm] at ho3
      have D3 : RsD w (w3.alloc (.cells #[.int .i64 q, .int .i64 s, .slice (some ⟨g, 0, none⟩) (l.length - k) gc, .int .i64 fr, .int .i64 b] 31)) w3.heap.size q s fr b (.slice (some ⟨g, 0, none⟩) m.length gc) m := by
        have P3 := P2.keep hb3 P2.lt
        have B3 := B2.trans (hb3.mono B2.size)
        have z2 := P2.lt
        have ho3' : w3.ownsRow (w.heap.size + 2) 50 7 (.slice (some ⟨g, 0, none⟩) m.length gc) m.length (stepCells m) := by
          rw [hml]
          exact ⟨ho3.1, ho3.2.imp id fun ⟨g', cap', cur, h1, h2, h3⟩ => ⟨g', cap', cur, h1, by omega, h3⟩⟩
        exact ⟨B3.alloc B3.size _, P3.lt, by rw [hml]; exact PathAt.new w3 q s fr b _, P3.keep ((Below.refl _ _).alloc (Nat.le_refl _) _) P3.lt, owns_below ho3' ((Below.refl _ _).alloc (Nat.le_refl _) _)⟩
      clear ho2 ho3 hb3 P2 B2
      have l0 : (0 : Int) < ((l.length - k : Nat) : Int) := by omega
      go_wp2
      generalize w3.heap.size = B at *
      generalize w3.alloc (.cells #[.int .i64 q, .int .i64 s, .slice (some ⟨g, 0, none⟩) (l.length - k) gc, .int .i64 fr, .int .i64 b] 31) = W4 at *
      have hgl : g < W4.heap.size := owns_lt D3.own g rfl
      have hBl : B < W4.heap.size := D3.pa.lt
      obtain ⟨⟨e0, e1, e2, e3, e4⟩, ef⟩ := D3.pa.cells
      rw [hml] at e2
      have c4 : W4.cell? ⟨g, 4, none⟩ = some (.int .i64 t.fr) := (D3.own.cellAt 4 (by omega)).trans (stepCells_at _ 0 t 4 htm (by decide))
      have qn := Cls.any W4
      have q1 := Cls.cell hgl
      have q2 := Cls.cell hBl
      refine wp_region_last (by kernel_rfl) (by simp) (by kernel_rfl) (by kernel_rfl) ?_
      simp only [initL, endL]
      repeat (go_big_quiet_step ((go_at_call 22; exact Calls.cls_of_same (MX _))))
      refine wpQuiet_nil ?_
      rintro _ ⟨u, rfl⟩
      have D4 := D3.below u.same
      clear q1 q2 qn MX e0 e1 e2 e3 e4 ef c4 D3 hgl hBl
      generalize u.it = U at *
      have t0 := (D4.own.cellAt 4 (by omega)).trans (stepCells_at _ 0 t 4 htm (by decide))
      have tf := D4.own.frozenAt
      have D5 := D4.put (i := 0) (j := 4) (t' := { t with fr := n1 }) (u := .int .i64 n1) htm (by decide) rfl
      have D5' : RsD w (U.setCell ⟨g, 4, none⟩ (.int .i64 n1)) B q s fr b (.slice (some ⟨g, 0, none⟩) (m.set 0 { t with fr := n1 }).length gc) (m.set 0 { t with fr := n1 }) := D5
      clear D5 D4
      go_wp2
      clear t0 tf
      generalize U.setCell ⟨g, 4, none⟩ (.int .i64 n1) = W5 at *
      have hn0 : (m.set 0 { t with fr := n1 })[0]? = some { t with fr := n1 } := List.getElem?_set_self (by omega)
      have hgl : g < W5.heap.size := owns_lt D5'.own g rfl
      have hBl : B < W5.heap.size := D5'.pa.lt
      obtain ⟨⟨e0, e1, e2, e3, e4⟩, ef⟩ := D5'.pa.cells
      rw [List.length_set, hml] at e2
      have c5 : W5.cell? ⟨g, 5, none⟩ = some (.int .i64 t.by_) := (D5'.own.cellAt 5 (by rw [List.length_set]; omega)).trans (stepCells_at _ 0 { t with fr := n1 } 5 hn0 (by decide))
      have qn := Cls.any W5
      have q1 := Cls.cell hgl
      have q2 := Cls.cell hBl
      refine wp_region_last (by kernel_rfl) (by simp) (by kernel_rfl) (by kernel_rfl) ?_
      simp only [initL, endL]
      repeat (go_big_quiet_step ((go_at_call 23; exact Calls.cls_of_same (MN _))))
      refine wpQuiet_nil ?_
      rintro _ ⟨u2, rfl⟩
      have D6 := D5'.below u2.same
      clear q1 q2 qn MN e0 e1 e2 e3 e4 ef c5 D5' hgl hBl
      generalize u2.it = U2 at *
      have t0 := (D6.own.cellAt 5 (by rw [List.length_set]; omega)).trans (stepCells_at _ 0 { t with fr := n1 } 5 hn0 (by decide))
      have tf := D6.own.frozenAt
      have D7 : RsD w (U2.setCell ⟨g, 5, none⟩ (.int .i64 n2)) B q s fr b (.slice (some ⟨g, 0, none⟩) (enterL m n1 n2).length gc) (enterL m n1 n2) := by
        have D7 := D6.put (i := 0) (j := 5) (t' := { t with fr := n1, by_ := n2 }) (u := .int .i64 n2) hn0 (by decide) rfl
        rw [List.set_set] at D7
        unfold enterL
        rw [htd]
        exact D7
      obtain ⟨⟨e0, e1, e2, e3, e4⟩, ef⟩ := D6.pa.cells
      rw [List.length_set, hml] at e2
      have gnB : g ≠ B := (D6.gB g rfl).1
      clear D6
      have hel : (enterL m n1 n2).length = l.length - k := by rw [enterL_length, ← hm, List.length_drop]
      go_wp2_with fail
      clear t0 tf e0 e1 e2 e3 e4 ef
      generalize U2.setCell ⟨g, 5, none⟩ (.int .i64 n2) = W7 at *
      have hAf : Calls Tryd.prog 25 #[.agg #[.int .i64 q, .int .i64 s, .slice (some ⟨g, 0, none⟩) (l.length - k) gc, .int .i64 fr, .int .i64 b], .int .i64 nw] W7
          fun e w' => e = .returned (.agg #[.int .i64 q, .int .i64 s, .slice (some ⟨g, 0, none⟩) (l.length - k) gc, .int .i64 (leftFr fr l k nw), .int .i64 b]) ∧ PathAt w' (w.heap.size + 1) 0 0 0 0 (.slice none 0 0) ∧ Below w.heap.size w w' ∧ w'.ownsRow (w.heap.size + 2) 50 7 (.slice (some ⟨g, 0, none⟩) (leftL l k n1 n2 nw).length gc) (leftL l k n1 n2 nw).length (stepCells (leftL l k n1 n2 nw)) := by
        have hh := afterS_any q s fr b nw g gc (w.heap.size + 2) (enterL m n1 n2) W7 (by rw [hel]; omega) D7.own HN.out
        rw [afterFr_enter, hel] at hh
        refine hh.mono fun e w' ⟨he, hr, hg⟩ => ⟨?_, ?_⟩
        · rw [he]; unfold leftFr; rw [hm]
        · have := D7.after (m' := leftL l k n1 n2 nw) (by rw [leftL_length, hel]) (by rw [hel]; unfold leftL; rw [hm]; exact hr) hg
          exact this
      refine hAf.mono ?_
      rintro e w8 ⟨rfl, Z8, B8, ho8⟩
      have hlL : (leftL l k n1 n2 nw).length = l.length - k := leftL_length l k n1 n2 nw
      have hCa := canS_any q s (leftFr fr l k nw) b g gc (w.heap.size + 2) (leftL l k n1 n2 nw) w8 (left_wide HP.out hk hx hy HN.out.1) ho8 (by have := Z8.lt; omega)
      rw [hlL] at hCa
      clear hAf D7 ho8
      generalize canA q s (leftFr fr l k nw) b (leftL l k n1 n2 nw) = A at hCa HA
      go_wp2_with fail
      refine hCa.mono ?_
      rintro e w9 ⟨hb9, v9, rfl, ho9⟩
      obtain ⟨a9, j9, c9, hv9, _⟩ := steps_of ho9
      subst hv9
      have Z9 := Z8.keep hb9 Z8.lt
      have B9 := B8.trans (hb9.mono B8.size)
      obtain ⟨⟨f0, f1, f2, f3, f4⟩, ff⟩ := Z9.cells
      clear hb9 Z8 B8 hCa
      go_wp2
      refine bodyPost_ret (v := .tuple #[.agg #[.int .i64 A.q, .int .i64 A.s, .slice a9 A.l.length c9, .int .i64 A.fr, .int .i64 A.b], .bool A.ok]) (by simp [results, Tryd.results7, go_sem, *]) rfl ?_
      rw [HA.out]
      refine ⟨_, rfl, ?_, ?_⟩
      · have hh : ∀ j, (Value.slice a9 A.l.length c9).ownBlock = some j → j ≠ w.heap.size + 1 := fun j e => by have := owns_base ho9 j e; omega
        iterate 5 (refine owns_set ?_ hh _ _)
        exact ⟨ho9.1, ho9.2.imp id fun ⟨g, cap, cur, h1, h2, h3⟩ => ⟨g, cap, cur, h1, by omega, h3⟩⟩
      · iterate 5 (refine Below.setCell ?_ (by show _ ≤ w.heap.size + 1; omega) _)
        exact B9
end Go.Proofs.YtlcblcoodabpeaaDoor
