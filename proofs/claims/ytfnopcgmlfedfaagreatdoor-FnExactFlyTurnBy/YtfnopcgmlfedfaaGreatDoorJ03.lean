/- Joined texts: MayData, WfAllow0, FlightMath, EndMath, BoxData, Grp, TubeL, RsMath, TurnMath, TurnData, Shared, StepsTail, TailS, RowPut0, AfterS, RsData, SeenSpec, NextData, CopyS, NextSpec, RestSpec. -/
import Derived.Maps.OwnRows
import Derived.BigQuiet
import Derived.Deep.RegionHeld3
import Derived.Deep.AppendLies
import Derived.Test.YtfnopcgmlfedfaaGreatDoorRestData
import Derived.Test.YtfnopcgmlfedfaaGreatDoorSharedData
import Derived.Test.YtfnopcgmlfedfaaGreatDoorLawData
import Derived.Test.YtfnopcgmlfedfaaGreatDoorSpanMath
import Derived.Test.YtfnopcgmlfedfaaGreatDoorData
import Derived.Test.YtfnopcgmlfedfaaGreatDoorPathKit
import Derived.Test.YtfnopcgmlfedfaaGreatDoorSpanLeaf
import Derived.Test.YtfnopcgmlfedfaaGreatDoorGrownMore
import Derived.Test.YtfnopcgmlfedfaaGreatDoorSpanSpec
import Derived.Test.YtfnopcgmlfedfaaGreatDoorLast
import Derived.Test.YtfnopcgmlfedfaaGreatDoorIntsAt
namespace Go.Proofs.YtfnopcgmlfedfaaGreatDoor
open Go.RowKit

/-- The span of the first tick of a path. -/
def firstOf (A : Ans) : Int × Int := spanOf A.q A.s A.fr A.b A.l 0
/-- What FlyMayTurn answers. -/
def mayB (q s fr b : Int) (l : List Stp) (q' s' fr' b' : Int) (l' : List Stp) (st nw : Int) : Bool :=
  decide (st < (sharedN q s l q' s' l' : Int)) && (seenA q s fr b l st nw).ok && ((restA q' s' fr' b' l' st (firstOf (seenA q s fr b l st nw)).1 nw).ok && (restA q' s' fr' b' l' st (firstOf (seenA q s fr b l st nw)).2 nw).ok)

theorem canA_ok {q s fr b : Int} {m : List Stp} (h : (canA q s fr b m).ok = true) : spanB q s fr b m = true ∧ canA q s fr b m = { q := q, s := s, fr := fr, b := b, l := m, ok := true } := by
  unfold canA at h ⊢
  split at h
  · rename_i hs; rw [if_pos hs]; exact ⟨hs, rfl⟩
  · simp [Ans.no] at h
/-- A path that is left is ok, and has a flight. -/
theorem seenA_ok {q s fr b : Int} {l : List Stp} {st nw : Int} (h : (seenA q s fr b l st nw).ok = true) :
    pathB (seenA q s fr b l st nw).q (seenA q s fr b l st nw).s (seenA q s fr b l st nw).fr (seenA q s fr b l st nw).b (seenA q s fr b l st nw).l = true ∧ spanB (seenA q s fr b l st nw).q (seenA q s fr b l st nw).s (seenA q s fr b l st nw).fr (seenA q s fr b l st nw).b (seenA q s fr b l st nw).l = true := by
  unfold seenA at h ⊢
  split at h
  · rename_i hc
    rw [if_pos hc]
    obtain ⟨h1, h2⟩ := canA_ok h
    rw [h2]
    obtain ⟨hin, hsb⟩ := Bool.and_eq_true_iff.1 hc
    unfold inStepB at hin
    simp only [Bool.and_eq_true, inB_iff] at hin
    obtain ⟨⟨hp, hst⟩, hnw⟩ := hin
    refine ⟨left_path hp (by omega) (span_lo hp hsb (by omega)) ?_ hnw.1 h1, h1⟩
    have := mnB_le (spanOf q s fr b l st.toNat).2 nw
    omega
  · simp [Ans.no] at h
theorem restA_path {q s fr b : Int} {l : List Stp} {st en nw : Int} (h : pathB q s fr b l = false) : (restA q s fr b l st en nw).ok = false := by
  unfold restA inStepB
  rw [h]
  rfl
theorem spans_first {q s fr b : Int} {l : List Stp} (h : spanB q s fr b l = true) : (spansL q s fr b l)[0]? = some (spanOf q s fr b l 0) := by
  unfold spansL
  rw [if_pos h, List.getElem?_map, List.getElem?_range (by omega)]
  rfl
end Go.Proofs.YtfnopcgmlfedfaaGreatDoor

namespace Go.Proofs.YtfnopcgmlfedfaaGreatDoor
open Go.RowKit

/-- As the laws ask it of the k-th step. -/
def okA (q s : Int) (l : List Stp) (zs : List Int) (k : Nat) : Bool :=
  !decide (zs.getD k 0 < (l.getD k .zero).fr) && !decide ((l.getD k .zero).by_ < zs.getD k 0) && !decide (wrap64 (zs.getD (k + 1) 0 - zs.getD k 0) < q) && ((l.getD k .zero).ho || !decide (s < wrap64 (zs.getD (k + 1) 0 - zs.getD k 0)))
def allowTo (q s : Int) (l : List Stp) (zs : List Int) (k : Nat) : Bool := (List.range k).all (okA q s l zs)
def allowB (q s fr b : Int) (l : List Stp) (zs : List Int) : Bool := decide (zs.length = l.length + 1) && allowTo q s l zs l.length && inB (zs.getD l.length 0) fr b
theorem allowTo_succ {q s : Int} {l : List Stp} {zs : List Int} {k : Nat} (h : allowTo q s l zs k = true) : allowTo q s l zs (k + 1) = okA q s l zs k := by
  unfold allowTo at *; rw [all_succ, h]; simp
theorem allowTo_not {q s : Int} {l : List Stp} {zs : List Int} {k n : Nat} (hk : k < n) (h : okA q s l zs k = false) : allowTo q s l zs n = false := all_not hk h
end Go.Proofs.YtfnopcgmlfedfaaGreatDoor

namespace Go.Proofs.YtfnopcgmlfedfaaGreatDoor
open Go.RowKit

/-- Ticks that keep to the windows and the stays, from a place to another. -/
def Keeps (q s fr b : Int) (l : List Stp) (z : Nat → Int) (i j : Nat) : Prop :=
  (∀ k, i ≤ k → k ≤ j → lowB fr l k ≤ z k ∧ z k ≤ highB b l k) ∧ ∀ k, i ≤ k → k < j → q ≤ z (k + 1) - z k ∧ z (k + 1) - z k ≤ mostB s l k
def inP (t : Int) (x : Int × Int) : Prop := x.1 ≤ t ∧ t ≤ x.2

section
variable {q s fr b : Int} {l : List Stp}

theorem fwd_win (k : Nat) {t : Int} (h : inP t (fwdS q s fr b l k)) : lowB fr l k ≤ t ∧ t ≤ highB b l k := by
  cases k with
  | zero => exact h
  | succ m =>
    simp only [inP, fwdS] at h
    have h1 := mxB_le (lowB fr l (m + 1)) ((fwdS q s fr b l m).1 + q)
    have h2 := mnB_le (highB b l (m + 1)) ((fwdS q s fr b l m).2 + mostB s l m)
    omega

theorem fwd_sound {z : Nat → Int} {n : Nat} (h : Keeps q s fr b l z 0 n) : ∀ k, k ≤ n → inP (z k) (fwdS q s fr b l k)
  | 0, hk => h.1 0 (Nat.le_refl _) hk
  | k + 1, hk => by
    have ih := fwd_sound h k (by omega)
    have h1 := h.1 (k + 1) (by omega) hk
    have h2 := h.2 k (by omega) (by omega)
    have m1 := mxB_le (lowB fr l (k + 1)) ((fwdS q s fr b l k).1 + q)
    have m2 := mnB_le (highB b l (k + 1)) ((fwdS q s fr b l k).2 + mostB s l k)
    simp only [inP, fwdS] at *
    omega

theorem fwd_complete (hm : ∀ k, q ≤ mostB s l k) : ∀ (k : Nat) (t : Int), fwdTo q s fr b l (k + 1) = true → inP t (fwdS q s fr b l k) → ∃ z, Keeps q s fr b l z 0 k ∧ z k = t
  | 0, t, _, ht => ⟨fun _ => t, ⟨fun k _ hk => by obtain rfl : k = 0 := by omega
                                                  exact ht, fun k _ hk => by omega⟩, rfl⟩
  | k + 1, t, hf, ht => by
    have hf' : fwdTo q s fr b l (k + 1) = true := by
      simp only [fwdTo, List.all_eq_true, List.mem_range] at hf ⊢
      exact fun i hi => hf i (by omega)
    have h0 := fwdTo_at hf (show k < k + 1 + 1 by omega)
    have hw := fwd_win (k + 1) ht
    have hq := hm k
    have m1 := mxB_le (lowB fr l (k + 1)) ((fwdS q s fr b l k).1 + q)
    have m2 := mnB_le (highB b l (k + 1)) ((fwdS q s fr b l k).2 + mostB s l k)
    simp only [inP, fwdS] at ht
    obtain ⟨u, hu1, hu2⟩ : ∃ u, inP u (fwdS q s fr b l k) ∧ q ≤ t - u ∧ t - u ≤ mostB s l k := by
      by_cases c : (fwdS q s fr b l k).1 ≤ t - mostB s l k
      · exact ⟨t - mostB s l k, ⟨c, by omega⟩, by omega⟩
      · exact ⟨(fwdS q s fr b l k).1, ⟨Int.le_refl _, h0⟩, by omega⟩
    obtain ⟨z, hz, hzk⟩ := fwd_complete hm k u hf' hu1
    refine ⟨fun i => if i ≤ k then z i else t, ⟨fun i _ hi => ?_, fun i _ hi => ?_⟩, if_neg (by omega)⟩
    · by_cases c : i ≤ k
      · simp only [c, if_true]; exact hz.1 i (by omega) c
      · simp only [c, if_false]
        obtain rfl : i = k + 1 := by omega
        exact hw
    · by_cases c : i + 1 ≤ k
      · have c' : i ≤ k := by omega
        simp only [c, c', if_true]; exact hz.2 i (by omega) (by omega)
      · obtain rfl : i = k := by omega
        simp only [Nat.le_refl, if_true, show ¬ i + 1 ≤ i by omega, if_false]
        rw [hzk]; exact hu2

theorem bwd_sub (n : Nat) (j : Nat) {t : Int} (h : inP t (bwdS q s fr b l n j)) : inP t (fwdS q s fr b l (n - j)) := by
  cases j with
  | zero => exact h
  | succ m =>
    simp only [inP, bwdS] at *
    have h1 := mxB_le (fwdS q s fr b l (n - (m + 1))).1 ((bwdS q s fr b l n m).1 - mostB s l (n - (m + 1)))
    have h2 := mnB_le (fwdS q s fr b l (n - (m + 1))).2 ((bwdS q s fr b l n m).2 - q)
    omega

theorem bwd_sound {z : Nat → Int} {n : Nat} (h : Keeps q s fr b l z 0 n) : ∀ j, j ≤ n → inP (z (n - j)) (bwdS q s fr b l n j)
  | 0, _ => fwd_sound h n (Nat.le_refl _)
  | j + 1, hj => by
    have ih := bwd_sound h j (by omega)
    obtain ⟨k, hk1, hk2⟩ : ∃ k, n - (j + 1) = k ∧ n - j = k + 1 := ⟨n - (j + 1), rfl, by omega⟩
    rw [hk2] at ih
    have h0 := fwd_sound h k (by omega)
    have h2 := h.2 k (by omega) (by omega)
    simp only [inP, bwdS] at *
    rw [hk1]
    have h1 := mxB_le (fwdS q s fr b l k).1 ((bwdS q s fr b l n j).1 - mostB s l k)
    have h3 := mnB_le (fwdS q s fr b l k).2 ((bwdS q s fr b l n j).2 - q)
    omega

theorem bwd_some (hm : ∀ k, q ≤ mostB s l k) {n : Nat} (hf : fwdTo q s fr b l (n + 1) = true) : ∀ j, j ≤ n →
    (bwdS q s fr b l n j).1 ≤ (bwdS q s fr b l n j).2 ∧ (fwdS q s fr b l (n - j)).1 ≤ (bwdS q s fr b l n j).1 ∧ (bwdS q s fr b l n j).2 ≤ (fwdS q s fr b l (n - j)).2
  | 0, _ => by
    have := fwdTo_at hf (show n < n + 1 by omega)
    exact ⟨this, Int.le_refl _, Int.le_refl _⟩
  | j + 1, hj => by
    obtain ⟨h1, h2, h3⟩ := bwd_some hm hf j (by omega)
    obtain ⟨k, hk⟩ : ∃ k, n - (j + 1) = k ∧ n - j = k + 1 := ⟨n - (j + 1), rfl, by omega⟩
    rw [hk.2] at h2 h3
    have h0 := fwdTo_at hf (show k < n + 1 by omega)
    have hm := hm k
    simp only [fwdS] at h2 h3
    have m1 := mxB_le (lowB fr l (k + 1)) ((fwdS q s fr b l k).1 + q)
    have m2 := mnB_le (highB b l (k + 1)) ((fwdS q s fr b l k).2 + mostB s l k)
    simp only [bwdS]
    rw [hk.1]
    have m3 := mxB_le (fwdS q s fr b l k).1 ((bwdS q s fr b l n j).1 - mostB s l k)
    have m4 := mnB_le (fwdS q s fr b l k).2 ((bwdS q s fr b l n j).2 - q)
    refine ⟨?_, ?_, ?_⟩ <;> omega

theorem bwd_complete (hm : ∀ k, q ≤ mostB s l k) {n : Nat} (hf : fwdTo q s fr b l (n + 1) = true) : ∀ (j : Nat) (t : Int), j ≤ n → inP t (bwdS q s fr b l n j) → ∃ z, Keeps q s fr b l z (n - j) n ∧ z (n - j) = t
  | 0, t, _, ht => ⟨fun _ => t, ⟨fun k h1 h2 => by obtain rfl : k = n := by omega
                                                   exact fwd_win k (bwd_sub k 0 ht), fun k h1 h2 => by omega⟩, rfl⟩
  | j + 1, t, hj, ht => by
    obtain ⟨h1, _, _⟩ := bwd_some hm hf j (by omega)
    have hw := fwd_win _ (bwd_sub n (j + 1) ht)
    obtain ⟨k, hk⟩ : ∃ k, n - (j + 1) = k ∧ n - j = k + 1 := ⟨n - (j + 1), rfl, by omega⟩
    have hq := hm k
    simp only [inP, bwdS] at ht
    rw [hk.1] at ht hw
    have m3 := mxB_le (fwdS q s fr b l k).1 ((bwdS q s fr b l n j).1 - mostB s l k)
    have m4 := mnB_le (fwdS q s fr b l k).2 ((bwdS q s fr b l n j).2 - q)
    obtain ⟨u, hu1, hu2⟩ : ∃ u, inP u (bwdS q s fr b l n j) ∧ q ≤ u - t ∧ u - t ≤ mostB s l k := by
      by_cases c : (bwdS q s fr b l n j).1 ≤ t + q
      · exact ⟨t + q, ⟨c, by omega⟩, by omega⟩
      · exact ⟨(bwdS q s fr b l n j).1, ⟨Int.le_refl _, h1⟩, by omega⟩
    obtain ⟨z, hz, hzk⟩ := bwd_complete hm hf j u (by omega) hu1
    rw [hk.2] at hz hzk
    rw [hk.1]
    refine ⟨fun i => if k < i then z i else t, ⟨fun i g1 g2 => ?_, fun i g1 g2 => ?_⟩, by simp⟩
    · by_cases c : k < i
      · simp only [c, if_true]; exact hz.1 i (by omega) g2
      · simp only [c, if_false]
        obtain rfl : i = k := by omega
        exact hw
    · by_cases c : k < i
      · simp only [c, show k < i + 1 by omega, if_true]; exact hz.2 i (by omega) g2
      · obtain rfl : i = k := by omega
        simp only [Nat.lt_irrefl, if_false, show i < i + 1 by omega, if_true]
        rw [hzk]; exact hu2

/-- The span of the k-th tick, of n + 1. -/
def spanAt (q s fr b : Int) (l : List Stp) (n k : Nat) : Int × Int := bwdS q s fr b l n (n - k)

theorem fly_iff (hm : ∀ k, q ≤ mostB s l k) (n : Nat) : fwdTo q s fr b l (n + 1) = true ↔ ∃ z, Keeps q s fr b l z 0 n := by
  constructor
  · intro hf
    obtain ⟨z, hz, _⟩ := fwd_complete hm n _ hf ⟨Int.le_refl _, fwdTo_at hf (by omega)⟩
    exact ⟨z, hz⟩
  · rintro ⟨z, hz⟩
    simp only [fwdTo, List.all_eq_true, List.mem_range, someB, decide_eq_true_eq]
    intro i hi
    have := fwd_sound hz i (by omega)
    exact Int.le_trans this.1 this.2

theorem span_iff (hm : ∀ k, q ≤ mostB s l k) {n : Nat} (hf : fwdTo q s fr b l (n + 1) = true) {k : Nat} (hk : k ≤ n) (t : Int) : inP t (spanAt q s fr b l n k) ↔ ∃ z, Keeps q s fr b l z 0 n ∧ z k = t := by
  constructor
  · intro ht
    have h1 := bwd_sub n (n - k) ht
    have ek : n - (n - k) = k := by omega
    rw [ek] at h1
    have hfk : fwdTo q s fr b l (k + 1) = true := by
      simp only [fwdTo, List.all_eq_true, List.mem_range] at hf ⊢
      exact fun i hi => hf i (by omega)
    obtain ⟨x, hx, hxk⟩ := fwd_complete hm k t hfk h1
    obtain ⟨y, hy, hyk⟩ := bwd_complete hm hf (n - k) t (by omega) ht
    rw [ek] at hy hyk
    refine ⟨fun i => if i ≤ k then x i else y i, ⟨fun i _ g => ?_, fun i _ g => ?_⟩, by simp [hxk]⟩
    · by_cases c : i ≤ k
      · simp only [c, if_true]; exact hx.1 i (by omega) c
      · simp only [c, if_false]; exact hy.1 i (by omega) g
    · by_cases c : i + 1 ≤ k
      · have c' : i ≤ k := by omega
        simp only [c, c', if_true]; exact hx.2 i (by omega) (by omega)
      · by_cases c' : i ≤ k
        · obtain rfl : i = k := by omega
          simp only [c, if_false, Nat.le_refl, if_true]
          rw [hxk, ← hyk]
          exact hy.2 i (by omega) g
        · simp only [c, c', if_false]; exact hy.2 i (by omega) g
  · rintro ⟨z, hz, rfl⟩
    have := bwd_sound hz (n - k) (by omega)
    rwa [show n - (n - k) = k by omega] at this
theorem span_some (hm : ∀ k, q ≤ mostB s l k) {n : Nat} (hf : fwdTo q s fr b l (n + 1) = true) {k : Nat} : (spanAt q s fr b l n k).1 ≤ (spanAt q s fr b l n k).2 := (bwd_some hm hf (n - k) (by omega)).1
theorem span_next (hm : ∀ k, q ≤ mostB s l k) {n : Nat} (hf : fwdTo q s fr b l (n + 1) = true) {k : Nat} (hk : k < n) {t : Int} (ht : inP t (spanAt q s fr b l n k)) : ∃ u, inP u (spanAt q s fr b l n (k + 1)) ∧ q ≤ u - t ∧ u - t ≤ mostB s l k := by
  obtain ⟨z, hz, rfl⟩ := (span_iff hm hf (show k ≤ n by omega) t).1 ht
  exact ⟨z (k + 1), (span_iff hm hf (show k + 1 ≤ n by omega) _).2 ⟨z, hz, rfl⟩, hz.2 k (by omega) hk⟩
theorem span_win (hm : ∀ k, q ≤ mostB s l k) {n : Nat} (hf : fwdTo q s fr b l (n + 1) = true) {k : Nat} (hk : k ≤ n) {t : Int} (ht : inP t (spanAt q s fr b l n k)) : lowB fr l k ≤ t ∧ t ≤ highB b l k := by
  obtain ⟨z, hz, rfl⟩ := (span_iff hm hf hk t).1 ht
  exact hz.1 k (by omega) hk

/-- What is open to the k-th tick, behind a tick x. -/
def openP (q s fr b : Int) (l : List Stp) (n k : Nat) (x : Int) : Int × Int := (mxB (spanAt q s fr b l n (k + 1)).1 (x + q), mnB (spanAt q s fr b l n (k + 1)).2 (x + mostB s l k))
/-- What is open when these have begun. -/
def openA (q s fr b : Int) (l : List Stp) (n : Nat) (c : Nat → Int) : Nat → Int × Int
  | 0 => spanAt q s fr b l n 0
  | k + 1 => openP q s fr b l n k (c k)
theorem openP_in {n k : Nat} {x t : Int} : inP t (openP q s fr b l n k x) ↔ inP t (spanAt q s fr b l n (k + 1)) ∧ q ≤ t - x ∧ t - x ≤ mostB s l k := by
  have h1 := mxB_le (spanAt q s fr b l n (k + 1)).1 (x + q)
  have h2 := mnB_le (spanAt q s fr b l n (k + 1)).2 (x + mostB s l k)
  simp only [inP, openP]
  constructor
  · intro h; exact ⟨by omega, by omega⟩
  · rintro ⟨h3, h4⟩; omega
theorem openA_sub {n : Nat} {c : Nat → Int} (k : Nat) {t : Int} (h : inP t (openA q s fr b l n c k)) : inP t (spanAt q s fr b l n k) := by
  cases k with
  | zero => exact h
  | succ m => exact (openP_in.1 h).1
/-- A beginning can be flown just if each tick of it was open. -/
theorem begun_iff (hm : ∀ k, q ≤ mostB s l k) {n : Nat} (hf : fwdTo q s fr b l (n + 1) = true) (c : Nat → Int) {m : Nat} (hmn : m ≤ n) (t : Int) :
    ((∀ k, k < m → inP (c k) (openA q s fr b l n c k)) ∧ inP t (openA q s fr b l n c m)) ↔ ∃ z, Keeps q s fr b l z 0 n ∧ (∀ k, k < m → z k = c k) ∧ z m = t := by
  constructor
  · rintro ⟨h1, h2⟩
    obtain ⟨y, hy, hyk⟩ := (span_iff hm hf hmn t).1 (openA_sub m h2)
    refine ⟨fun i => if i < m then c i else y i, ⟨fun i _ g => ?_, fun i _ g => ?_⟩, fun k hk => by simp [hk], by simp [hyk]⟩
    · by_cases e : i < m
      · simp only [e, if_true]
        exact span_win hm hf (by omega) (openA_sub i (h1 i e))
      · simp only [e, if_false]; exact hy.1 i (by omega) g
    · by_cases e : i + 1 < m
      · have e' : i < m := by omega
        simp only [e, e', if_true]
        exact (openP_in.1 (h1 (i + 1) e)).2
      · by_cases e' : i < m
        · obtain rfl : m = i + 1 := by omega
          simp only [e, e', if_true, if_false]
          rw [hyk]
          exact (openP_in.1 h2).2
        · simp only [e, e', if_false]; exact hy.2 i (by omega) g
  · rintro ⟨z, hz, hc, rfl⟩
    have at_ : ∀ k, k ≤ m → inP (z k) (openA q s fr b l n c k) := by
      intro k hk
      have hk0 := (span_iff hm hf (show k ≤ n by omega) (z k)).2 ⟨z, hz, rfl⟩
      cases k with
      | zero => exact hk0
      | succ j =>
        refine openP_in.2 ⟨hk0, ?_⟩
        rw [← hc j (by omega)]
        exact hz.2 j (by omega) (by omega)
    exact ⟨fun k hk => by rw [← hc k hk]; exact at_ k (by omega), at_ m (Nat.le_refl _)⟩
theorem open_some (hm : ∀ k, q ≤ mostB s l k) {n : Nat} (hf : fwdTo q s fr b l (n + 1) = true) (c : Nat → Int) {m : Nat} (hmn : m ≤ n) (h : ∀ k, k < m → inP (c k) (openA q s fr b l n c k)) : (openA q s fr b l n c m).1 ≤ (openA q s fr b l n c m).2 := by
  cases m with
  | zero => exact span_some hm hf
  | succ k =>
    obtain ⟨u, hu1, hu2⟩ := span_next hm hf (show k < n by omega) (openA_sub k (h k (by omega)))
    have := openP_in.2 ⟨hu1, hu2⟩
    exact Int.le_trans this.1 this.2
theorem same_span {x y : Int × Int} (hx : x.1 ≤ x.2) (hy : y.1 ≤ y.2) (h : ∀ t, inP t x ↔ inP t y) : x = y := by
  have h1 := (h x.1).1 ⟨Int.le_refl _, hx⟩
  have h2 := (h x.2).1 ⟨hx, Int.le_refl _⟩
  have h3 := (h y.1).2 ⟨Int.le_refl _, hy⟩
  have h4 := (h y.2).2 ⟨hy, Int.le_refl _⟩
  simp only [inP] at *
  apply Prod.ext <;> omega
end

/-- The windows l', fr', b' are the others, with the first m ticks held. -/
structure HeldAs (fr b : Int) (l : List Stp) (fr' b' : Int) (l' : List Stp) (s : Int) (c : Nat → Int) (m : Nat) : Prop where
  len : l'.length = l.length
  most : ∀ k, mostB s l' k = mostB s l k
  low : ∀ k, lowB fr' l' k = if k < m then mxB (lowB fr l k) (c k) else lowB fr l k
  high : ∀ k, highB b' l' k = if k < m then mnB (highB b l k) (c k) else highB b l k

theorem held_keeps {q s fr b fr' b' : Int} {l l' : List Stp} {c : Nat → Int} {m n : Nat} (hh : HeldAs fr b l fr' b' l' s c m) (hmn : m ≤ n + 1) (z : Nat → Int) :
    Keeps q s fr' b' l' z 0 n ↔ Keeps q s fr b l z 0 n ∧ ∀ k, k < m → z k = c k := by
  constructor
  · rintro ⟨h1, h2⟩
    have w : ∀ k, k ≤ n → (lowB fr l k ≤ z k ∧ z k ≤ highB b l k) ∧ (k < m → z k = c k) := by
      intro k hk
      have := h1 k (by omega) hk
      rw [hh.low, hh.high] at this
      by_cases e : k < m
      · rw [if_pos e, if_pos e] at this
        have m1 := mxB_le (lowB fr l k) (c k)
        have m2 := mnB_le (highB b l k) (c k)
        exact ⟨by omega, fun _ => by omega⟩
      · rw [if_neg e, if_neg e] at this
        exact ⟨this, fun h => absurd h e⟩
    refine ⟨⟨fun k _ hk => (w k hk).1, fun k g1 g2 => ?_⟩, fun k hk => (w k (by omega)).2 hk⟩
    have := h2 k g1 g2
    rwa [hh.most] at this
  · rintro ⟨⟨h1, h2⟩, h3⟩
    refine ⟨fun k g1 g2 => ?_, fun k g1 g2 => by rw [hh.most]; exact h2 k g1 g2⟩
    have := h1 k g1 g2
    rw [hh.low, hh.high]
    by_cases e : k < m
    · rw [if_pos e, if_pos e]
      have := h3 k e
      have m1 := mxB_le (lowB fr l k) (c k)
      have m2 := mnB_le (highB b l k) (c k)
      omega
    · rw [if_neg e, if_neg e]; exact this

/-- What the specification finds of the held windows is what is open. -/
theorem held_next {q s fr b fr' b' : Int} {l l' : List Stp} {c : Nat → Int} {m n : Nat} (hh : HeldAs fr b l fr' b' l' s c m) (hm : ∀ k, q ≤ mostB s l k) (hmn : m ≤ n) :
    (fwdTo q s fr' b' l' (n + 1) = true ↔ fwdTo q s fr b l (n + 1) = true ∧ ∀ k, k < m → inP (c k) (openA q s fr b l n c k)) ∧
    (fwdTo q s fr' b' l' (n + 1) = true → spanAt q s fr' b' l' n m = openA q s fr b l n c m) := by
  have hm' : ∀ k, q ≤ mostB s l' k := fun k => by rw [hh.most]; exact hm k
  have e1 : fwdTo q s fr' b' l' (n + 1) = true ↔ fwdTo q s fr b l (n + 1) = true ∧ ∀ k, k < m → inP (c k) (openA q s fr b l n c k) := by
    rw [fly_iff hm']
    constructor
    · rintro ⟨z, hz⟩
      obtain ⟨hz1, hz2⟩ := (held_keeps hh (by omega) z).1 hz
      have hf := (fly_iff hm n).2 ⟨z, hz1⟩
      exact ⟨hf, ((begun_iff hm hf c hmn (z m)).2 ⟨z, hz1, hz2, rfl⟩).1⟩
    · rintro ⟨hf, h⟩
      obtain ⟨z, hz1, hz2, _⟩ := (begun_iff hm hf c hmn _).1 ⟨h, ⟨Int.le_refl _, open_some hm hf c hmn h⟩⟩
      exact ⟨z, (held_keeps hh (by omega) z).2 ⟨hz1, hz2⟩⟩
  refine ⟨e1, fun hf' => ?_⟩
  obtain ⟨hf, h⟩ := e1.1 hf'
  refine same_span (span_some hm' hf') (open_some hm hf c hmn h) fun t => ?_
  rw [span_iff hm' hf' hmn]
  constructor
  · rintro ⟨z, hz, rfl⟩
    obtain ⟨hz1, hz2⟩ := (held_keeps hh (by omega) z).1 hz
    exact ((begun_iff hm hf c hmn (z m)).2 ⟨z, hz1, hz2, rfl⟩).2
  · intro ht
    obtain ⟨z, hz1, hz2, h3⟩ := (begun_iff hm hf c hmn t).1 ⟨h, ht⟩
    exact ⟨z, (held_keeps hh (by omega) z).2 ⟨hz1, hz2⟩, h3⟩
end Go.Proofs.YtfnopcgmlfedfaaGreatDoor

namespace Go.Proofs.YtfnopcgmlfedfaaGreatDoor
open Go.RowKit

theorem lawB_keeps {q s fr b : Int} {l : List Stp} (hp : pathB q s fr b l = true) (zs : List Int) : lawB q s fr b l zs = true ↔ zs.length = l.length + 1 ∧ Keeps q s fr b l (fun k => zs.getD k 0) 0 l.length := by
  unfold lawB
  rw [hp, ← ticks_parts]
  simp only [Bool.true_and, Bool.and_eq_true, decide_eq_true_eq, winTo, stayTo, List.all_eq_true, List.mem_range, winS, stayS, inB_iff]
  constructor
  · rintro ⟨h1, h2, h3⟩
    exact ⟨h1, fun k _ hk => h2 k (by omega), fun k _ hk => h3 k hk⟩
  · rintro ⟨h1, h2, h3⟩
    exact ⟨h1, fun k hk => h2 k (by omega) (by omega), fun k hk => h3 k (by omega) hk⟩

theorem allowB_keeps {q s fr b : Int} {l : List Stp} (hp : pathB q s fr b l = true) (zs : List Int) : allowB q s fr b l zs = true ↔ zs.length = l.length + 1 ∧ Keeps q s fr b l (fun k => zs.getD k 0) 0 l.length := by
  unfold allowB allowTo
  simp only [Bool.and_eq_true, decide_eq_true_eq, List.all_eq_true, List.mem_range, inB_iff, okA, Bool.not_eq_true', decide_eq_false_iff_not, Bool.or_eq_true, Int.not_lt]
  have lo : ∀ k, k < l.length → lowB fr l k = (l.getD k .zero).fr ∧ highB b l k = (l.getD k .zero).by_ := fun k hk => by unfold lowB highB; rw [if_pos hk, if_pos hk]; exact ⟨rfl, rfl⟩
  have en : lowB fr l l.length = fr ∧ highB b l l.length = b := by unfold lowB highB; rw [if_neg (by omega), if_neg (by omega)]; exact ⟨rfl, rfl⟩
  constructor
  · rintro ⟨⟨h1, h2⟩, h3⟩
    have win : ∀ k, k ≤ l.length → lowB fr l k ≤ zs.getD k 0 ∧ zs.getD k 0 ≤ highB b l k := fun k hk => by
      rcases Nat.lt_or_ge k l.length with h | h
      · have := h2 k h
        rw [(lo k h).1, (lo k h).2]
        exact ⟨this.1.1.1, this.1.1.2⟩
      · obtain rfl : k = l.length := by omega
        rw [en.1, en.2]
        exact h3
    refine ⟨h1, fun k _ hk => win k hk, fun k _ hk => ?_⟩
    have w1 := win k (by omega)
    have w2 := win (k + 1) (by omega)
    have r1 := bounds_ok hp k
    have r2 := bounds_ok hp (k + 1)
    have hw : wrap64 (zs.getD (k + 1) 0 - zs.getD k 0) = zs.getD (k + 1) 0 - zs.getD k 0 := by unfold wrap64; omega
    have h4 := h2 k hk
    rw [hw] at h4
    refine ⟨h4.1.2, ?_⟩
    unfold mostB
    rcases h4.2 with h | h
    · rw [h]; show zs.getD (k + 1) 0 - zs.getD k 0 ≤ (10000 : Int); omega
    · cases (l.getD k .zero).ho with
      | true => show zs.getD (k + 1) 0 - zs.getD k 0 ≤ (10000 : Int); omega
      | false => exact h
  · rintro ⟨h1, h2, h3⟩
    refine ⟨⟨h1, fun k hk => ?_⟩, ?_⟩
    · have w1 : lowB fr l k ≤ zs.getD k 0 ∧ zs.getD k 0 ≤ highB b l k := h2 k (by omega) (by omega)
      have w2 : lowB fr l (k + 1) ≤ zs.getD (k + 1) 0 ∧ zs.getD (k + 1) 0 ≤ highB b l (k + 1) := h2 (k + 1) (by omega) (by omega)
      have r1 := bounds_ok hp k
      have r2 := bounds_ok hp (k + 1)
      have w3 := h3 k (by omega) hk
      have hw : wrap64 (zs.getD (k + 1) 0 - zs.getD k 0) = zs.getD (k + 1) 0 - zs.getD k 0 := by unfold wrap64; omega
      rw [hw]
      rw [(lo k hk).1, (lo k hk).2] at w1
      refine ⟨⟨⟨w1.1, w1.2⟩, w3.1⟩, ?_⟩
      have h4 := w3.2
      unfold mostB at h4
      cases ho : (l.getD k .zero).ho with
      | true => exact .inl rfl
      | false => rw [ho] at h4; exact .inr h4
    · have := h2 l.length (by omega) (by omega)
      rw [en.1, en.2] at this
      exact this
theorem allow_law {q s fr b : Int} {l : List Stp} (hp : pathB q s fr b l = true) (zs : List Int) : allowB q s fr b l zs = lawB q s fr b l zs := by
  rw [Bool.eq_iff_iff, allowB_keeps hp, lawB_keeps hp]

theorem flyL_at {q s fr b : Int} {l : List Stp} (h : flyB q s fr b l = true) : pathB q s fr b l = true ∧ fwdTo q s fr b l (l.length + 1) = true ∧ flyL q s fr b l = (List.range (l.length + 1)).map fun k => spanAt q s fr b l l.length k := by
  unfold flyB at h
  rw [Bool.and_eq_true] at h
  refine ⟨h.1, by rw [← span_fwd h.1]; exact h.2, ?_⟩
  unfold flyL
  rw [if_pos h.1]
  unfold spansL
  rw [if_pos h.2]
  rfl

/-- The earliest of all ticks make a flight. -/
theorem first_keeps {q s fr b : Int} {l : List Stp} (hm : ∀ k, q ≤ mostB s l k) {n : Nat} (hf : fwdTo q s fr b l (n + 1) = true) : Keeps q s fr b l (fun k => (spanAt q s fr b l n k).1) 0 n := by
  refine ⟨fun k _ hk => span_win hm hf hk ⟨Int.le_refl _, span_some hm hf⟩, fun k _ hk => ?_⟩
  obtain ⟨u, hu, hu1, hu2⟩ := span_next hm hf hk (t := (spanAt q s fr b l n k).1) ⟨Int.le_refl _, span_some hm hf⟩
  obtain ⟨z, hz, hzk⟩ := (span_iff hm hf (show k + 1 ≤ n by omega) (spanAt q s fr b l n (k + 1)).1).1 ⟨Int.le_refl _, span_some hm hf⟩
  have h1 := (span_iff hm hf (show k ≤ n by omega) (z k)).2 ⟨z, hz, rfl⟩
  have h2 := hz.2 k (by omega) hk
  rw [hzk] at h2
  have h3 := hu.1
  have h4 := h1.1
  constructor
  · show q ≤ (spanAt q s fr b l n (k + 1)).1 - (spanAt q s fr b l n k).1
    omega
  · show (spanAt q s fr b l n (k + 1)).1 - (spanAt q s fr b l n k).1 ≤ _
    omega
/-- The latest, too. -/
theorem last_keeps {q s fr b : Int} {l : List Stp} (hm : ∀ k, q ≤ mostB s l k) {n : Nat} (hf : fwdTo q s fr b l (n + 1) = true) : Keeps q s fr b l (fun k => (spanAt q s fr b l n k).2) 0 n := by
  refine ⟨fun k _ hk => span_win hm hf hk ⟨span_some hm hf, Int.le_refl _⟩, fun k _ hk => ?_⟩
  obtain ⟨u, hu, hu1, hu2⟩ := span_next hm hf hk (t := (spanAt q s fr b l n k).2) ⟨span_some hm hf, Int.le_refl _⟩
  obtain ⟨z, hz, hzk⟩ := (span_iff hm hf (show k + 1 ≤ n by omega) (spanAt q s fr b l n (k + 1)).2).1 ⟨span_some hm hf, Int.le_refl _⟩
  have h1 := (span_iff hm hf (show k ≤ n by omega) (z k)).2 ⟨z, hz, rfl⟩
  have h2 := hz.2 k (by omega) hk
  rw [hzk] at h2
  have h3 := hu.2
  have h4 := h1.2
  constructor
  · show q ≤ (spanAt q s fr b l n (k + 1)).2 - (spanAt q s fr b l n k).2
    omega
  · show (spanAt q s fr b l n (k + 1)).2 - (spanAt q s fr b l n k).2 ≤ _
    omega

theorem keeps_congr {q s fr b : Int} {l : List Stp} {z z' : Nat → Int} {n : Nat} (h : Keeps q s fr b l z 0 n) (he : ∀ k, k ≤ n → z' k = z k) : Keeps q s fr b l z' 0 n :=
  ⟨fun k h1 h2 => by rw [he k h2]; exact h.1 k h1 h2, fun k h1 h2 => by rw [he k (by omega), he (k + 1) (by omega)]; exact h.2 k h1 h2⟩
theorem map_at {q s fr b : Int} {l : List Stp} (h : flyB q s fr b l = true) {k : Nat} (hk : k ≤ l.length) : (flyL q s fr b l)[k]? = some (spanAt q s fr b l l.length k) := by
  rw [(flyL_at h).2.2]
  simp [show k < l.length + 1 by omega]
theorem map_len {q s fr b : Int} {l : List Stp} (h : flyB q s fr b l = true) : (flyL q s fr b l).length = l.length + 1 := by
  rw [(flyL_at h).2.2]
  simp
theorem first_allow {q s fr b : Int} {l : List Stp} (h : flyB q s fr b l = true) : allowB q s fr b l ((flyL q s fr b l).map (·.1)) = true := by
  obtain ⟨hp, hf, _⟩ := flyL_at h
  rw [allowB_keeps hp]
  refine ⟨by rw [List.length_map, map_len h], keeps_congr (first_keeps (most_quick hp) hf) (fun k hk => ?_)⟩
  rw [List.getD_eq_getElem?_getD, List.getElem?_map, map_at h hk]
  rfl
theorem last_allow {q s fr b : Int} {l : List Stp} (h : flyB q s fr b l = true) : allowB q s fr b l ((flyL q s fr b l).map (·.2)) = true := by
  obtain ⟨hp, hf, _⟩ := flyL_at h
  rw [allowB_keeps hp]
  refine ⟨by rw [List.length_map, map_len h], keeps_congr (last_keeps (most_quick hp) hf) (fun k hk => ?_)⟩
  rw [List.getD_eq_getElem?_getD, List.getElem?_map, map_at h hk]
  rfl
/-- Each tick of a flight that keeps to the path lies between them. -/
theorem between {q s fr b : Int} {l : List Stp} (h : flyB q s fr b l = true) {zs : List Int} (ha : allowB q s fr b l zs = true) {k : Nat} (hk : k ≤ l.length) : (spanAt q s fr b l l.length k).1 ≤ zs.getD k 0 ∧ zs.getD k 0 ≤ (spanAt q s fr b l l.length k).2 := by
  obtain ⟨hp, hf, _⟩ := flyL_at h
  exact (span_iff (most_quick hp) hf hk _).2 ⟨_, ((allowB_keeps hp zs).1 ha).2, rfl⟩
/-- Without a flight none keeps to it. -/
theorem no_flight {q s fr b : Int} {l : List Stp} (h : flyB q s fr b l = false) (zs : List Int) : lawB q s fr b l zs = false := by
  cases e : lawB q s fr b l zs with
  | false => rfl
  | true =>
    exfalso
    have hp : pathB q s fr b l = true := by unfold lawB at e; simp only [Bool.and_eq_true] at e; exact e.1.1
    have hk := ((lawB_keeps hp zs).1 e).2
    have hf := (fly_iff (most_quick hp) l.length).2 ⟨_, hk⟩
    unfold flyB at h
    rw [hp, span_fwd hp, hf] at h
    cases h
theorem no_list {q s fr b : Int} {l : List Stp} (h : flyB q s fr b l = false) : flyL q s fr b l = [] := by
  unfold flyB at h
  unfold flyL
  split
  · rename_i hp
    rw [hp, Bool.true_and] at h
    unfold spansL
    rw [h]
    rfl
  · rfl
end Go.Proofs.YtfnopcgmlfedfaaGreatDoor

namespace Go.Proofs.YtfnopcgmlfedfaaGreatDoor
open Go.RowKit

/-- A box, as numbers. -/
structure Bx where
  x : Int
  y : Int
  lo : Int
  hi : Int
  in_ : Int
  out : Int

/-- Its cells. -/
abbrev Bx.cells (s : Bx) : List Value := [.int .i64 s.x, .int .i64 s.y, .int .i64 s.lo, .int .i64 s.hi, .int .i64 s.in_, .int .i64 s.out]
/-- The box of zeros. -/
def Bx.zero : Bx := ⟨0, 0, 0, 0, 0, 0⟩
theorem Bx.one (s : Bx) : (#[Value.int .i64 s.x, .int .i64 s.y, .int .i64 s.lo, .int .i64 s.hi, .int .i64 s.in_, .int .i64 s.out].all (·.oneCell')) = true := by
  simp [Value.oneCell']

/-- A box has a place at a tick. -/
def hasB (s : Bx) (x y l t : Int) : Bool := (s.x == x) && (s.y == y) && inB l s.lo s.hi && inB t s.in_ s.out
/-- A box has all of another one. -/
def coverB (b a : Bx) : Bool := (a.x == b.x) && (a.y == b.y) && decide (b.lo ≤ a.lo) && decide (a.hi ≤ b.hi) && decide (b.in_ ≤ a.in_) && decide (a.out ≤ b.out)
/-- A box has nothing. -/
def noneB (a : Bx) : Bool := decide (a.hi < a.lo) || decide (a.out < a.in_)
/-- A place is in one of the boxes at a tick. -/
def withinB (l : List Bx) (x y lev t : Int) : Bool := l.any fun s => hasB s x y lev t
/-- Each of these boxes has nothing, or is in one of those. -/
def smallB (m l : List Bx) : Bool := m.all fun a => noneB a || l.any fun b => coverB b a

theorem cover_point (s : Bx) (x y lev t : Int) : coverB s ⟨x, y, lev, lev, t, t⟩ = hasB s x y lev t := by
  unfold coverB hasB inB
  rw [Bool.eq_iff_iff]
  simp
  omega

/-- The cells of a list of boxes lie in block b from offset o on, six each. -/
structure BoxesAt (w : World) (a : Option Addr) (b o : Nat) (l : List Bx) : Prop where
  here : l ≠ [] → a = some ⟨b, o, none⟩
  lt : l ≠ [] → b < w.heap.size
  cell : ∀ (i : Nat) (s : Bx), l[i]? = some s → w.rangeAt b (o + i * 6) s.cells

theorem BoxesAt.below {w w' : World} {a : Option Addr} {b o B : Nat} {l : List Bx} (h : BoxesAt w a b o l) (hb : Below B w w') (hB : l ≠ [] → b < B) : BoxesAt w' a b o l where
  here := h.here
  lt hl := Nat.lt_of_lt_of_le (h.lt hl) hb.size
  cell i s hi j v hv := by
    have hne : l ≠ [] := by intro e; subst e; simp at hi
    rw [hb.cell (p := ⟨b, o + i * 6 + j, none⟩) (hB hne)]
    exact h.cell i s hi j v hv

/-- The six cells of the i-th box, as a walk asks for them. -/
theorem BoxesAt.six {w : World} {a : Option Addr} {b o : Nat} {l : List Bx} (h : BoxesAt w a b o l) {i : Nat} {s : Bx} (hi : l[i]? = some s) :
    w.cell? ⟨b, o + i * 6, none⟩ = some (.int .i64 s.x) ∧ w.cell? ⟨b, o + i * 6 + 1, none⟩ = some (.int .i64 s.y) ∧ w.cell? ⟨b, o + i * 6 + 2, none⟩ = some (.int .i64 s.lo) ∧ w.cell? ⟨b, o + i * 6 + 3, none⟩ = some (.int .i64 s.hi) ∧
    w.cell? ⟨b, o + i * 6 + 4, none⟩ = some (.int .i64 s.in_) ∧ w.cell? ⟨b, o + i * 6 + 5, none⟩ = some (.int .i64 s.out) := by
  have hr := h.cell i s hi
  exact ⟨hr 0 _ rfl, hr 1 _ rfl, hr 2 _ rfl, hr 3 _ rfl, hr 4 _ rfl, hr 5 _ rfl⟩

theorem BoxesAt.alloc {w : World} {a : Option Addr} {b o : Nat} {l : List Bx} (h : BoxesAt w a b o l) (ob : Obj) : BoxesAt (w.alloc ob) a b o l where
  here := h.here
  lt hl := by have := h.lt hl; simp; omega
  cell i s hi := World.rangeAt_alloc (h.cell i s hi) ob

theorem any_take {α : Type} (l : List α) (f : α → Bool) {k : Nat} {s : α} (h : l[k]? = some s) : (l.take (k + 1)).any f = ((l.take k).any f || f s) := by
  rw [List.take_add_one, h]; simp
theorem all_take {α : Type} (l : List α) (f : α → Bool) {k : Nat} {s : α} (h : l[k]? = some s) : (l.take (k + 1)).all f = ((l.take k).all f && f s) := by
  rw [List.take_add_one, h]; simp
theorem any_hit {α : Type} {l : List α} {f : α → Bool} {k : Nat} {s : α} (h : l[k]? = some s) (hf : f s = true) : l.any f = true :=
  List.any_eq_true.2 ⟨s, List.mem_of_getElem? h, hf⟩
theorem all_miss {α : Type} {l : List α} {f : α → Bool} {k : Nat} {s : α} (h : l[k]? = some s) (hf : f s = false) : l.all f = false := by
  cases e : l.all f with
  | false => rfl
  | true => have := List.all_eq_true.1 e s (List.mem_of_getElem? h); rw [hf] at this; cases this
/-- One of these has all of it, or it has nothing. -/
def foundB (m : List Bx) (a : Bx) : Bool := noneB a || m.any fun b => coverB b a
end Go.Proofs.YtfnopcgmlfedfaaGreatDoor

namespace Go.Proofs.YtfnopcgmlfedfaaGreatDoor
open Go.RowKit Go.ChangeMaps

/-- A cell as a key. -/
abbrev keyV (i j : Int) : Value := .agg #[.int .i64 i, .int .i64 j]

theorem keyV_inj {i j i' j' : Int} (h : keyV i j = keyV i' j') : i = i' ∧ j = j' := by simpa using h

/-- What is asked of the key's type. -/
structure CellKey (P : Program) (k : TypeId) : Prop where
  check : ∀ (w : World) (em : Bool) (i j : Int), (Instr.checkKey em 10000 k (keyV i j)).run P w = .ok () w
  equal : ∀ (w : World) (i j i' j' : Int), (Op.equal k (keyV i j) (keyV i' j')).run P w = .ok (decide (i = i' ∧ j = j')) w
  stays : ∀ (w : World) (i j : Int), (Instr.keyThatStays (keyV i j) (keyV i j)).run P w = .ok (keyV i j) w
  plain : ∃ fs, P.underlying k = some (.struct fs)

section
variable {P : Program} {k : TypeId}

theorem CellKey.ask (K : CellKey P k) (w : World) (i j : Int) : ∀ (es : List MapEntry) (m : Nat), (∀ e ∈ es, ∃ a b, e.key = keyV a b) →
    ((Instr.findAsking k (keyV i j) es m).run P w = .ok none w ∧ ∀ e ∈ es, e.key ≠ keyV i j) ∨
      ∃ n e, (Instr.findAsking k (keyV i j) es m).run P w = .ok (some (m + n, e.val)) w ∧ es[n]? = some e ∧ e.key = keyV i j
  | [], _, _ => Or.inl ⟨by simp [Instr.findAsking], by simp⟩
  | e :: es, m, hall => by
    obtain ⟨a, b, he⟩ := hall e (by simp)
    have hr := K.equal w i j a b
    by_cases h : i = a ∧ j = b
    · obtain ⟨rfl, rfl⟩ := h
      rw [decide_eq_true ⟨rfl, rfl⟩] at hr
      exact Or.inr ⟨0, e, by simp [Instr.findAsking, he, hr, Result.andThen], rfl, he⟩
    · rw [decide_eq_false h] at hr
      rcases K.ask w i j es (m + 1) (fun y hy => hall y (by simp [hy])) with ⟨h1, h2⟩ | ⟨n, e', h1, h2, h3⟩
      · refine Or.inl ⟨by simp [Instr.findAsking, he, hr, h1, Result.andThen], fun y hy => ?_⟩
        rcases List.mem_cons.1 hy with rfl | hy
        · rw [he]
          intro e1
          obtain ⟨rfl, rfl⟩ := keyV_inj e1
          exact h ⟨rfl, rfl⟩
        · exact h2 y hy
      · exact Or.inr ⟨n + 1, e', by simp [Instr.findAsking, he, hr, h1, Result.andThen, Nat.add_assoc, Nat.add_comm 1 n], by simpa using h2, h3⟩

theorem CellKey.find (K : CellKey P k) (w : World) (i j : Int) (es : List MapEntry) (hall : ∀ e ∈ es, ∃ a b, e.key = keyV a b) :
    ((Instr.findKey k (keyV i j) es).run P w = .ok none w ∧ ∀ e ∈ es, e.key ≠ keyV i j) ∨
      ∃ n e, (Instr.findKey k (keyV i j) es).run P w = .ok (some (n, e.val)) w ∧ es[n]? = some e ∧ e.key = keyV i j := by
  obtain ⟨fs, hk⟩ := K.plain
  cases es with
  | nil => exact Or.inl ⟨by simp [Instr.findKey, run_underlying hk, Instr.findNow, Result.andThen], by simp⟩
  | cons e es =>
    have hn : (Instr.findKey k (keyV i j) (e :: es)).run P w = (Instr.findAsking k (keyV i j) (e :: es)).run P w := by
      simp [Instr.findKey, run_underlying hk, Instr.findNow, Instr.sameNow, Result.andThen]
    rw [hn]
    rcases K.ask w i j (e :: es) 0 hall with h | ⟨n, e', h1, h2, h3⟩
    · exact Or.inl h
    · exact Or.inr ⟨n, e', by simpa using h1, h2, h3⟩
end

/-- Those of a cell. -/
def atC (l : List Bx) (i j : Int) : List Bx := l.filter fun s => (s.x == i) && (s.y == j)
/-- Their cells, one behind another. -/
def rowC (l : List Bx) : List Value := l.flatMap Bx.cells

theorem rowC_append (l m : List Bx) : rowC (l ++ m) = rowC l ++ rowC m := by simp [rowC]
theorem rowC_one (s : Bx) : rowC [s] = s.cells := by simp [rowC]
theorem atC_append (l : List Bx) (s : Bx) (i j : Int) : atC (l ++ [s]) i j = if s.x = i ∧ s.y = j then atC l i j ++ [s] else atC l i j := by
  unfold atC
  rw [List.filter_append]
  by_cases h : s.x = i ∧ s.y = j
  · rw [if_pos h]; simp [h.1, h.2]
  · rw [if_neg h]
    have : ((s.x == i) && (s.y == j)) = false := by
      rw [Bool.eq_false_iff]; intro e; simp at e; exact h e
    simp [this]
theorem atC_nil_of {l : List Bx} {i j : Int} (h : ∀ s ∈ l, ¬(s.x = i ∧ s.y = j)) : atC l i j = [] := by
  unfold atC
  rw [List.filter_eq_nil_iff]
  intro s hs
  simpa using h s hs
theorem rowC_length (l : List Bx) : (rowC l).length = l.length * 6 := by
  induction l with
  | nil => rfl
  | cons s r ih => simp [rowC] at ih ⊢; rw [ih]; omega
theorem rowC_get : ∀ (l : List Bx) (i : Nat) (s : Bx), l[i]? = some s → ∀ (j : Nat) (v : Value), s.cells[j]? = some v → (rowC l)[i * 6 + j]? = some v
  | [], i, s, h, _, _, _ => by simp at h
  | t :: r, 0, s, h, j, v, hv => by
    obtain rfl : t = s := by simpa using h
    have hj : j < 6 := by have := (List.getElem?_eq_some_iff.1 hv).1; simpa using this
    show (t.cells ++ rowC r)[0 * 6 + j]? = some v
    rw [List.getElem?_append_left (by simp; omega)]
    simpa using hv
  | t :: r, i + 1, s, h, j, v, hv => by
    show (t.cells ++ rowC r)[(i + 1) * 6 + j]? = some v
    rw [List.getElem?_append_right (by simp; omega)]
    have := rowC_get r i s (by simpa using h) j v hv
    rw [← this]
    congr 1
    simp
    omega

/-- The entries of such a map: by cells, the boxes of l; each cell's lie in a row of their own, from base on. -/
structure GEs (w : World) (base : Nat) (e : TypeId) (l : List Bx) (es : Array MapEntry) (clock : Nat) : Prop where
  row : ∀ x ∈ es.toList, ∃ i j, x.key = keyV i j ∧ w.ownsRow base e 6 x.val (atC l i j).length (rowC (atC l i j))
  all : ∀ s ∈ l, ∃ x ∈ es.toList, x.key = keyV s.x s.y
  keys : (es.toList.map (·.key)).Nodup
  apart : ∀ x ∈ es.toList, ∀ y ∈ es.toList, x.key ≠ y.key → x.val.ownBlock = none ∨ x.val.ownBlock ≠ y.val.ownBlock
  born : (es.toList.map (·.born)).Nodup
  old : ∀ x ∈ es.toList, x.born < clock

/-- Block b is a map, by cells, of the boxes of l. -/
def Groups (w : World) (b base : Nat) (e : TypeId) (l : List Bx) : Prop :=
  b < base ∧ ∃ es clock, w.heap[b]? = some (.map es clock) ∧ GEs w base e l es clock

theorem Groups_made (w : World) (e : TypeId) : Groups (w.alloc (.map #[] 0)) w.heap.size (w.heap.size + 1) e [] :=
  ⟨Nat.lt_succ_self _, #[], 0, (MapKept.heap_alloc w _).1, by simp, by simp, by simp, by simp, by simp, by simp⟩

theorem Groups.lt {w : World} {b base : Nat} {e : TypeId} {l : List Bx} (h : Groups w b base e l) : b < w.heap.size := by
  obtain ⟨_, es, clock, hb, _⟩ := h
  exact (Array.getElem?_eq_some_iff.1 hb).1

theorem GEs.kept {w w' : World} {base : Nat} {e : TypeId} {l : List Bx} {es : Array MapEntry} {clock : Nat} {row : Option Nat} (h : GEs w base e l es clock) (hg : w.grownBy w' row)
    (hr : ∀ x ∈ es.toList, x.val.ownBlock = none ∨ x.val.ownBlock ≠ row) : GEs w' base e l es clock :=
  { h with row := fun x hx => by obtain ⟨i, j, hk, ho⟩ := h.row x hx; exact ⟨i, j, hk, ho.kept hg (hr x hx)⟩ }

theorem owns_not {w : World} {base : Nat} {e : TypeId} {n b size : Nat} {v : Value} {xs : List Value} (h : w.ownsRow base e size v n xs) (hb : b < base) : v.ownBlock ≠ some b := fun e1 => by
  have := (h.lt b e1).1
  omega

theorem GEs.keptMap {w w' : World} {b base : Nat} {e : TypeId} {l : List Bx} {es : Array MapEntry} {clock : Nat} (h : GEs w base e l es clock) (hg : w.grownBy w' (some b)) (hb : b < base) : GEs w' base e l es clock :=
  h.kept hg fun x hx => by obtain ⟨i, j, _, ho⟩ := h.row x hx; exact Or.inr (owns_not ho hb)

theorem Groups.below {w w' : World} {b base : Nat} {e : TypeId} {l : List Bx} (h : Groups w b base e l) (hb : Below w.heap.size w w') : Groups w' b base e l := by
  have hlt := h.lt
  obtain ⟨hbb, es, clock, hb0, hE⟩ := h
  have hblk : ∀ i, i < w.heap.size → w'.heap[i]? = w.heap[i]? := fun i hi => hb.block i hi
  refine ⟨hbb, es, clock, (hblk b hlt).trans hb0, { hE with row := fun x hx => ?_ }⟩
  obtain ⟨i, j, hk, ho⟩ := hE.row x hx
  refine ⟨i, j, hk, ho.1, ?_⟩
  rcases ho.2 with h0 | ⟨g, cap, cur, e1, e2, e3, e4⟩
  · exact Or.inl h0
  · exact Or.inr ⟨g, cap, cur, e1, e2, (hblk g (Array.getElem?_eq_some_iff.1 e3).1).trans e3, e4⟩

/-- The way back: whatever was done to v's own row and to new blocks alone, a store at that entry of a slice that owns one box more, in v's row or in a new block, leaves a map of one box more. -/
def BackTo (w : World) (P : Program) (t : TypeId) (b base : Nat) (e : TypeId) (l : List Bx) (i j : Int) (v : Value) (c : Nat) : Prop :=
  ∀ (w1 : World) (v' : Value) (s : Bx), s.x = i → s.y = j → w.grownBy w1 v.ownBlock → w1.ownsRow base e 6 v' ((atC l i j).length + 1) (rowC (atC l i j) ++ s.cells) → (v'.ownBlock = v.ownBlock ∨ ∃ g, v'.ownBlock = some g ∧ w.heap.size ≤ g) →
    ∃ w2, (Instr.entryStore t (.map (some b)) (.int .i64 c) v').run P w1 = .ok () w2 ∧ Groups w2 b base e (l ++ [s]) ∧ w1.grownBy w2 (some b)

theorem setBlock_grown {w : World} {b : Nat} {es : Array MapEntry} {clock : Nat} (hb : w.heap[b]? = some (.map es clock)) (o : Obj) : w.grownBy (setBlock w b o) (some b) :=
  ⟨rfl, rfl, rfl, by simp [setBlock], fun i _ hi => heap_setBlock_other hb _ (fun e1 => hi (by rw [e1]))⟩

section
variable {P : Program} {k : TypeId} {w : World} {b base : Nat} {e : TypeId} {l : List Bx}

theorem GEs.back {t : TypeId} {es : Array MapEntry} {clock : Nat} (hbb : b < base) (hb : w.heap[b]? = some (.map es clock)) (hE : GEs w base e l es clock) (i j : Int) (n : Nat) (x0 : MapEntry) (f2 : es.toList[n]? = some x0) (f3 : x0.key = keyV i j) :
    BackTo w P t b base e l i j x0.val x0.born := by
  intro w1 v' s hsx hsy hg hown' hloc
  have hblt : b < w.heap.size := (Array.getElem?_eq_some_iff.1 hb).1
  have hm0 := List.mem_of_getElem? f2
  have hvb : x0.val.ownBlock ≠ some b := by obtain ⟨_, _, _, ho⟩ := hE.row x0 hm0; exact owns_not ho hbb
  have hv : ∀ x ∈ es.toList, x.key ≠ keyV i j → x.val.ownBlock = none ∨ x.val.ownBlock ≠ x0.val.ownBlock := fun x hx hne => hE.apart x hx x0 hm0 (by rw [f3]; exact hne)
  have hb1 : w1.heap[b]? = some (.map es clock) := (hg.block b hblt (fun e1 => hvb e1.symm)).trans hb
  have hself : atC (l ++ [s]) i j = atC l i j ++ [s] := by rw [atC_append, if_pos ⟨hsx, hsy⟩]
  have hnew : ∀ w2 : World, w2.ownsRow base e 6 v' ((atC l i j).length + 1) (rowC (atC l i j) ++ s.cells) → w2.ownsRow base e 6 v' (atC (l ++ [s]) i j).length (rowC (atC (l ++ [s]) i j)) := fun w2 h => by
    rw [hself, rowC_append, rowC_one]; simpa using h
  have old : ∀ x ∈ es.toList, x.key ≠ keyV i j → ∃ a c, x.key = keyV a c ∧ w1.ownsRow base e 6 x.val (atC (l ++ [s]) a c).length (rowC (atC (l ++ [s]) a c)) := fun x hx hne => by
    obtain ⟨a, c, hk, ho⟩ := hE.row x hx
    refine ⟨a, c, hk, ?_⟩
    rw [atC_append, if_neg (by intro e1; rw [hk, ← hsx, ← hsy, e1.1, e1.2] at hne; exact hne rfl)]
    exact ho.kept hg (hv x hx hne)
  have apart : ∀ x ∈ es.toList, x.key ≠ keyV i j → x.val.ownBlock = none ∨ x.val.ownBlock ≠ v'.ownBlock := fun x hx hne => by
    rcases hloc with e1 | ⟨g, e1, e2⟩
    · rw [e1]; exact hv x hx hne
    · cases hx' : x.val.ownBlock with
      | none => exact Or.inl rfl
      | some gx =>
        obtain ⟨a, c, _, ho⟩ := hE.row x hx
        have := (ho.lt gx hx').2
        refine Or.inr (fun e3 => ?_)
        rw [e1] at e3
        cases e3
        omega
  have apart' : ∀ x ∈ es.toList, x.key ≠ keyV i j → v'.ownBlock = none ∨ v'.ownBlock ≠ x.val.ownBlock := fun x hx hne => by
    rcases apart x hx hne with h | h
    · rw [h]; cases v'.ownBlock <;> simp
    · exact Or.inr (fun e1 => h e1.symm)
  have stay : ∀ (o : Obj) (u : Value) (n : Nat) (xs : List Value), w1.ownsRow base e 6 u n xs → (setBlock w1 b o).ownsRow base e 6 u n xs := fun o u n xs ho => ho.kept (setBlock_grown hb1 o) (Or.inr (owns_not ho hbb))
  have hj : es[n]? = some x0 := by simpa using f2
  have hlist : (es.modify n (fun e' => { e' with val := v' })).toList = es.toList.set n { x0 with val := v' } := by rw [Array.toList_modify, modify_eq_set _ _ _ _ f2]
  have keep : ∀ {β : Type} (f : MapEntry → β), f { x0 with val := v' } = f x0 → (es.toList.set n { x0 with val := v' }).map f = es.toList.map f := fun f hf => by
    rw [List.map_set, hf]
    apply List.ext_getElem?
    intro m
    by_cases e : n = m
    · subst e
      rw [List.getElem?_set_self (by simpa using (List.getElem?_eq_some_iff.1 f2).1)]
      simp [hj]
    · rw [List.getElem?_set_ne e]
  have hkeyl := keep (·.key) rfl
  have hbornl := keep (·.born) rfl
  have who : ∀ x ∈ es.toList.set n { x0 with val := v' }, x = { x0 with val := v' } ∨ (x ∈ es.toList ∧ x.key ≠ keyV i j) := by
    intro x hx
    obtain ⟨m, hm⟩ := List.mem_iff_getElem?.1 hx
    by_cases e : n = m
    · subst e
      rw [List.getElem?_set_self (List.getElem?_eq_some_iff.1 f2).1] at hm
      exact Or.inl (by simpa using hm.symm)
    · rw [List.getElem?_set_ne e] at hm
      refine Or.inr ⟨List.mem_of_getElem? hm, fun e1 => e ?_⟩
      have a1 : (es.toList.map (·.key))[n]? = some (keyV i j) := by rw [List.getElem?_map, f2]; simp [f3]
      have a2 : (es.toList.map (·.key))[m]? = some (keyV i j) := by rw [List.getElem?_map, hm]; simp [e1]
      exact (List.getElem?_inj (by have := (List.getElem?_eq_some_iff.1 f2).1; simpa using this) hE.keys).1 (a1.trans a2.symm)
  have hidx : es.findIdx? (fun e' => (e'.born : Int) == (x0.born : Int)) = some n := by
    have hnl : n < es.size := by simpa using (List.getElem?_eq_some_iff.1 f2).1
    rw [Array.findIdx?_eq_some_iff_getElem]
    refine ⟨hnl, by rw [Array.getElem?_eq_getElem hnl] at hj; cases hj; simp, fun m hm => ?_⟩
    have hml : m < es.size := by omega
    intro e0
    have e1 : es[m].born = x0.born := Int.ofNat.inj (eq_of_beq e0)
    have a1 : (es.toList.map (·.born))[n]? = some x0.born := by rw [List.getElem?_map, f2]; rfl
    have a2 : (es.toList.map (·.born))[m]? = some x0.born := by rw [List.getElem?_map]; simp [hml]; exact e1
    have := (List.getElem?_inj (by simpa using hml) hE.born).1 (a2.trans a1.symm)
    omega
  refine ⟨setBlock w1 b (.map (es.modify n (fun e' => { e' with val := v' })) clock), ?_, ?_, setBlock_grown hb1 _⟩
  · simp [Instr.entryStore, MapKept.run_getObj_map hb1, asInt, asIntOf, hidx, MapKept.run_setObj_map _ hb1, Result.andThen, setBlock]
  · refine ⟨hbb, _, _, heap_setBlock_same hb1 _, ?_, ?_, ?_, ?_, ?_, ?_⟩
    · intro x hx
      rw [hlist] at hx
      rcases who x hx with rfl | ⟨hx, hne⟩
      · exact ⟨i, j, f3, stay _ _ _ _ (hnew _ hown')⟩
      · obtain ⟨a, c, hk, ho⟩ := old x hx hne
        exact ⟨a, c, hk, stay _ _ _ _ ho⟩
    · have has : ∀ a, a ∈ es.toList.map (·.key) → ∃ x ∈ (es.modify n (fun e' => { e' with val := v' })).toList, x.key = a := fun a ha => by
        rw [← hkeyl] at ha
        obtain ⟨x, hx, rfl⟩ := List.mem_map.1 ha
        exact ⟨x, by rw [hlist]; exact hx, rfl⟩
      intro z hz
      simp only [List.mem_append, List.mem_singleton] at hz
      rcases hz with hz | rfl
      · obtain ⟨x, hx, hk⟩ := hE.all z hz
        exact has _ (List.mem_map.2 ⟨x, hx, hk⟩)
      · rw [hsx, hsy]
        exact has _ (List.mem_map.2 ⟨x0, List.mem_of_getElem? f2, f3⟩)
    · rw [hlist, hkeyl]; exact hE.keys
    · intro x hx y hy hne
      rw [hlist] at hx hy
      rcases who x hx with rfl | ⟨hx, hnx⟩
      · rcases who y hy with rfl | ⟨hy, hny⟩
        · exact absurd rfl hne
        · exact apart' y hy hny
      · rcases who y hy with rfl | ⟨hy, hny⟩
        · exact apart x hx hnx
        · exact hE.apart x hx y hy hne
    · rw [hlist, hbornl]; exact hE.born
    · intro x hx
      rw [hlist] at hx
      rcases who x hx with rfl | ⟨hx, _⟩
      · exact hE.old x0 hm0
      · exact hE.old x hx

/-- The entry of a cell, made where there is none, with the boxes of the cell, and the way back. -/
theorem Groups.entry {t E : TypeId} (K : CellKey P k) (ht : P.underlying t = some (.map k E)) (hz : (zeroValue E).run P w = .ok (.slice none 0 0) w) (h : Groups w b base e l) (i j : Int) :
    ∃ v c w1, (Instr.mapEntry t (.map (some b)) (keyV i j)).run P w = .ok (.tuple #[v, .int .i64 (c : Nat)]) w1 ∧ w1.ownsRow base e 6 v (atC l i j).length (rowC (atC l i j)) ∧ w.grownBy w1 (some b) ∧ w1.heap.size = w.heap.size ∧ BackTo w1 P t b base e l i j v c := by
  obtain ⟨hbb, es, clock, hb, hE⟩ := h
  have hkeys : ∀ x ∈ es.toList, ∃ a c, x.key = keyV a c := fun x hx => by obtain ⟨a, c, hk, _⟩ := hE.row x hx; exact ⟨a, c, hk⟩
  rcases K.find w i j es.toList hkeys with ⟨f1, f2⟩ | ⟨n, x0, f1, f2, f3⟩
  · have hnil : atC l i j = [] := atC_nil_of (fun s hs e1 => by obtain ⟨x, hx, hk⟩ := hE.all s hs; rw [e1.1, e1.2] at hk; exact f2 x hx hk)
    have hE1 : GEs (setBlock w b (.map (es.push ⟨keyV i j, .slice none 0 0, clock⟩) (clock + 1))) base e l (es.push ⟨keyV i j, .slice none 0 0, clock⟩) (clock + 1) := by
      have hk := hE.keptMap (setBlock_grown hb (.map (es.push ⟨keyV i j, .slice none 0 0, clock⟩) (clock + 1))) hbb
      refine ⟨?_, ?_, ?_, ?_, ?_, ?_⟩
      · intro x hx
        simp only [Array.toList_push, List.mem_append, List.mem_singleton] at hx
        rcases hx with hx | rfl
        · exact hk.row x hx
        · exact ⟨i, j, rfl, by rw [hnil]; exact World.ownsRow_nil _ _ _ _⟩
      · intro z hz
        obtain ⟨x, hx, hk⟩ := hE.all z hz
        exact ⟨x, by simp at hx ⊢; exact Or.inl hx, hk⟩
      · simp only [Array.toList_push, List.map_append, List.map_cons, List.map_nil]
        rw [List.nodup_append]
        refine ⟨hE.keys, by simp, ?_⟩
        intro a ha c hc
        simp only [List.mem_singleton] at hc
        subst hc
        obtain ⟨x, hx, rfl⟩ := List.mem_map.1 ha
        exact f2 x hx
      · intro x hx y hy hne
        simp only [Array.toList_push, List.mem_append, List.mem_singleton] at hx hy
        rcases hx with hx | rfl
        · rcases hy with hy | rfl
          · exact hE.apart x hx y hy hne
          · cases x.val.ownBlock <;> simp [Value.ownBlock]
        · exact Or.inl rfl
      · simp only [Array.toList_push, List.map_append, List.map_cons, List.map_nil]
        rw [List.nodup_append]
        refine ⟨hE.born, by simp, ?_⟩
        intro a ha c hc
        simp only [List.mem_singleton] at hc
        subst hc
        obtain ⟨x, hx, rfl⟩ := List.mem_map.1 ha
        exact Nat.ne_of_lt (hE.old x hx)
      · intro x hx
        simp only [Array.toList_push, List.mem_append, List.mem_singleton] at hx
        rcases hx with hx | rfl
        · have := hE.old x hx; omega
        · exact Nat.lt_succ_self _
    refine ⟨.slice none 0 0, clock, _, ?_, ?_, setBlock_grown hb (.map (es.push ⟨keyV i j, .slice none 0 0, clock⟩) (clock + 1)), by simp [setBlock], ?_⟩
    · simp [Instr.mapEntry, run_underlying ht, MapKept.run_getObj_map hb, K.check w false i j, f1, hz, MapKept.run_setObj_map _ hb, Result.andThen, setBlock, goInt]
    · rw [hnil]; exact World.ownsRow_nil _ _ _ _
    · exact hE1.back hbb (heap_setBlock_same hb _) i j es.size ⟨keyV i j, .slice none 0 0, clock⟩ (by simp) rfl
  · have hj : es[n]? = some x0 := by simpa using f2
    have hm0 := List.mem_of_getElem? f2
    have hsame : es.modify n (fun e' => { e' with key := keyV i j }) = es := by
      apply Array.toList_inj.1
      rw [Array.toList_modify, modify_eq_set _ _ _ _ f2]
      have e1 : ({ x0 with key := keyV i j } : MapEntry) = x0 := by rw [← f3]
      rw [e1]
      apply List.ext_getElem?
      intro m
      by_cases e : n = m
      · subst e
        rw [List.getElem?_set_self (List.getElem?_eq_some_iff.1 f2).1, f2]
      · rw [List.getElem?_set_ne e]
    have hE1 := hE.keptMap (setBlock_grown hb (.map es clock)) hbb
    refine ⟨x0.val, x0.born, setBlock w b (.map es clock), ?_, ?_, setBlock_grown hb _, by simp [setBlock], hE1.back hbb (heap_setBlock_same hb _) i j n x0 f2 f3⟩
    · simp [Instr.mapEntry, run_underlying ht, MapKept.run_getObj_map hb, K.check w false i j, f1, hj, f3, K.stays w i j, hsame, MapKept.run_setObj_map _ hb, Result.andThen, setBlock, goInt]
    · obtain ⟨a, c, hk, ho⟩ := hE1.row x0 hm0
      obtain ⟨rfl, rfl⟩ := keyV_inj (hk.symm.trans f3)
      exact ho

/-- The look-up hands over the boxes of the cell. -/
theorem Groups.look {t E : TypeId} (K : CellKey P k) (ht : P.underlying t = some (.map k E)) (hz : (zeroValue E).run P w = .ok (.slice none 0 0) w) (h : Groups w b base e l) (i j : Int) :
    ∃ v, (Instr.lookup t (.map (some b)) (keyV i j) false).run P w = .ok v w ∧ w.ownsRow base e 6 v (atC l i j).length (rowC (atC l i j)) := by
  obtain ⟨hbb, es, clock, hb, hE⟩ := h
  have hkeys : ∀ x ∈ es.toList, ∃ a c, x.key = keyV a c := fun x hx => by obtain ⟨a, c, hk, _⟩ := hE.row x hx; exact ⟨a, c, hk⟩
  rcases K.find w i j es.toList hkeys with ⟨f1, f2⟩ | ⟨n, x0, f1, f2, f3⟩
  · refine ⟨.slice none 0 0, ?_, ?_⟩
    · simp [Instr.lookup, run_underlying ht, MapKept.run_getObj_map hb, K.check w _ i j, f1, hz, Result.andThen]
    · rw [atC_nil_of (fun s hs e1 => by obtain ⟨x, hx, hk⟩ := hE.all s hs; rw [e1.1, e1.2] at hk; exact f2 x hx hk)]
      exact World.ownsRow_nil _ _ _ _
  · obtain ⟨a, c, hk, ho⟩ := hE.row x0 (List.mem_of_getElem? f2)
    obtain ⟨rfl, rfl⟩ := keyV_inj (hk.symm.trans f3)
    refine ⟨x0.val, ?_, ho⟩
    simp [Instr.lookup, run_underlying ht, MapKept.run_getObj_map hb, K.check w _ a c, f1, Result.andThen]
end

/-- The look-up at the operation. -/
theorem wpList_lookup_cells {P : Program} (w : World) {ops : Array Oper} {rest : List Oper} {o : Oper} {a : Act} {Q : Exit → Act → World → Prop}
    (hg : o.guard = none) (m x : Operand) (t : TypeId) (hop : o.op = Op.lookup t m x false)
    (k E e : TypeId) (K : CellKey P k) (ht : P.underlying t = some (.map k E)) (hz : (zeroValue E).run P w = .ok (.slice none 0 0) w) (base b : Nat) (l : List Bx)
    (hm : a.eval m = .map (some b)) (hown : Groups w b base e l) (i j : Int) (hx : a.eval x = keyV i j)
    (hK : ∀ v, w.ownsRow base e 6 v (atC l i j).length (rowC (atC l i j)) → wpList P ops Q rest (a.put o.dst v) w) :
    wpList P ops Q (o :: rest) a w := by
  refine wpList_plain hg fun K' hK' => ?_
  obtain ⟨v, hrun, ho⟩ := hown.look K ht hz i j
  unfold Oper.wp
  simp [execOp, hop, hm, hx, hrun, Result.andThen]
  exact hK' _ _ (hK v ho)

/-- An entry at the operation. -/
theorem wpList_mapEntry_cells {P : Program} (w : World) {ops : Array Oper} {rest : List Oper} {o : Oper} {a : Act} {Q : Exit → Act → World → Prop}
    (hg : o.guard = none) (m x : Operand) (t : TypeId) (hop : o.op = Op.mapEntry t m x)
    (k E e : TypeId) (K : CellKey P k) (ht : P.underlying t = some (.map k E)) (hz : (zeroValue E).run P w = .ok (.slice none 0 0) w) (base b : Nat) (l : List Bx)
    (hm : a.eval m = .map (some b)) (hown : Groups w b base e l) (i j : Int) (hx : a.eval x = keyV i j)
    (hK : ∀ (v : Value) (c : Nat) (w1 : World), w1.ownsRow base e 6 v (atC l i j).length (rowC (atC l i j)) → w.grownBy w1 (some b) → w1.heap.size = w.heap.size → BackTo w1 P t b base e l i j v c → wpList P ops Q rest (a.put o.dst (.tuple #[v, .int .i64 c])) w1) :
    wpList P ops Q (o :: rest) a w := by
  refine wpList_plain hg fun K' hK' => ?_
  obtain ⟨v, c, w1, hrun, h1, h2, h3, h4⟩ := hown.entry K ht hz i j
  unfold Oper.wp
  simp [execOp, hop, hm, hx, hrun, Result.andThen]
  exact hK' _ _ (hK v c w1 h1 h2 h3 h4)

/-- The store at the operation, by the way back. -/
theorem wpList_entryStore_cells {P : Program} (w : World) {ops : Array Oper} {rest : List Oper} {o : Oper} {a : Act} {Q : Exit → Act → World → Prop}
    (hg : o.guard = none) (m x v : Operand) (t : TypeId) (hop : o.op = Op.entryStore t m x v)
    {w0 : World} {base : Nat} {e : TypeId} {b : Nat} {l : List Bx} {i j : Int} {u v' : Value} {c : Nat} (s : Bx)
    (hback : BackTo w0 P t b base e l i j u c) (hm : a.eval m = .map (some b)) (hx : a.eval x = .int .i64 c) (hv : a.eval v = v') (hsx : s.x = i) (hsy : s.y = j)
    (hgr : w0.grownBy w u.ownBlock) (hown' : w.ownsRow base e 6 v' ((atC l i j).length + 1) (rowC (atC l i j) ++ s.cells)) (hloc : v'.ownBlock = u.ownBlock ∨ ∃ g, v'.ownBlock = some g ∧ w0.heap.size ≤ g)
    (hK : ∀ w2, Groups w2 b base e (l ++ [s]) → w.grownBy w2 (some b) → wpList P ops Q rest (a.put o.dst undef) w2) :
    wpList P ops Q (o :: rest) a w := by
  refine wpList_plain hg fun K' hK' => ?_
  obtain ⟨w2, hrun, r1, r2⟩ := hback w v' s hsx hsy hgr hown' hloc
  unfold Oper.wp
  simp [execOp, hop, hm, hx, hv, hrun, Result.andThen]
  exact hK' _ _ (hK w2 r1 r2)
end Go.Proofs.YtfnopcgmlfedfaaGreatDoor

namespace Go.Proofs.YtfnopcgmlfedfaaGreatDoor
open Go.RowKit

/-- The box of a step. -/
def tubeAt (F : List (Int × Int)) (l : List Stp) (k : Nat) : Bx := ⟨(l.getD k .zero).x, (l.getD k .zero).y, (l.getD k .zero).lo, (l.getD k .zero).hi, (F.getD k (0, 0)).1, (F.getD (k + 1) (0, 0)).2 - 1⟩
/-- The first k boxes. -/
def tubeTo (F : List (Int × Int)) (l : List Stp) (k : Nat) : List Bx := (List.range k).map (tubeAt F l)
theorem tubeTo_length (F : List (Int × Int)) (l : List Stp) (k : Nat) : (tubeTo F l k).length = k := by simp [tubeTo]
theorem tubeTo_succ (F : List (Int × Int)) (l : List Stp) (k : Nat) : tubeTo F l (k + 1) = tubeTo F l k ++ [tubeAt F l k] := by simp [tubeTo, List.range_succ]
/-- The tube. -/
def tubeL (q s fr b : Int) (l : List Stp) : List Bx := if flyB q s fr b l then tubeTo (flyL q s fr b l) l l.length else []

theorem bwd_range {q s fr b : Int} {l : List Stp} (h : pathB q s fr b l = true) (n j : Nat) : 0 ≤ (bwdS q s fr b l n j).1 ∧ (bwdS q s fr b l n j).2 ≤ 10000 := by
  cases j with
  | zero => exact fwd_range h n
  | succ j =>
    have hf := fwd_range h (n - (j + 1))
    have h1 := mxB_le (fwdS q s fr b l (n - (j + 1))).1 ((bwdS q s fr b l n j).1 - mostB s l (n - (j + 1)))
    have h2 := mnB_le (fwdS q s fr b l (n - (j + 1))).2 ((bwdS q s fr b l n j).2 - q)
    simp only [bwdS]
    omega
/-- The spans lie within 0 .. 10000. -/
theorem fly_range (q s fr b : Int) (l : List Stp) (k : Nat) : 0 ≤ ((flyL q s fr b l).getD k (0, 0)).2 ∧ ((flyL q s fr b l).getD k (0, 0)).2 ≤ 10000 := by
  cases hp : pathB q s fr b l with
  | false => unfold flyL; rw [hp]; simp
  | true =>
    cases hs : spanB q s fr b l with
    | false => unfold flyL spansL; rw [hp, hs]; simp
    | true =>
      unfold flyL spansL
      rw [hp, hs]
      simp only [if_true]
      by_cases hk : k < l.length + 1
      · have e : ((List.range (l.length + 1)).map fun k => bwdS q s fr b l l.length (l.length - k)).getD k (0, 0) = bwdS q s fr b l l.length (l.length - k) := by
          rw [List.getD_eq_getElem?_getD]
          simp [hk]
        rw [e]
        have h1 := bwd_range hp l.length (l.length - k)
        have h2 : (bwdS q s fr b l l.length (l.length - k)).1 ≤ (bwdS q s fr b l l.length (l.length - k)).2 := by
          unfold spanB at hs
          have h3 := (Bool.and_eq_true_iff.1 hs).2
          simp only [bwdTo, List.all_eq_true, List.mem_range, someB, decide_eq_true_eq] at h3
          exact h3 _ (by omega)
        omega
      · have e : ((List.range (l.length + 1)).map fun k => bwdS q s fr b l l.length (l.length - k)).getD k (0, 0) = (0, 0) := by
          rw [List.getD_eq_getElem?_getD]
          simp [hk]
        rw [e]
        simp
end Go.Proofs.YtfnopcgmlfedfaaGreatDoor

namespace Go.Proofs.YtfnopcgmlfedfaaGreatDoor
open Go.RowKit

section
variable {q s fr b : Int} {l : List Stp} {k : Nat}
theorem left_low (hk : k < l.length) (x y nw : Int) (j : Nat) (hj : j ≤ l.length - k) : lowB (leftFr fr l k nw) (leftL l k x y nw) j = if j = 0 then x else if j = 1 then mxB (lowB fr l (k + 1)) (nw + 1) else lowB fr l (k + j) := by
  unfold lowB
  rw [leftL_length]
  by_cases h : j < l.length - k
  · rw [if_pos h, leftL_getD x y nw (by omega)]
    by_cases h0 : j = 0
    · rw [if_pos h0, if_pos h0]
    · rw [if_neg h0, if_neg h0]
      by_cases h1 : j = 1
      · subst h1
        rw [if_pos rfl, if_pos rfl, if_pos (by omega)]
      · rw [if_neg h1, if_neg h1, if_pos (by omega)]
  · rw [if_neg h, if_neg (by omega)]
    unfold leftFr afterFr
    rw [List.length_drop]
    by_cases h1 : j = 1
    · rw [if_pos h1, if_neg (by omega), if_neg (by omega)]
    · rw [if_neg h1, if_pos (by omega), if_neg (by omega)]
theorem left_high (hk : k < l.length) (x y nw : Int) (j : Nat) (hj : j ≤ l.length - k) : highB b (leftL l k x y nw) j = if j = 0 then y else highB b l (k + j) := by
  unfold highB
  rw [leftL_length]
  by_cases h : j < l.length - k
  · have h' : k + j < l.length := by omega
    rw [if_pos h, leftL_getD x y nw h', if_pos h']
    by_cases h0 : j = 0
    · simp [h0]
    · by_cases h1 : j = 1
      · subst h1; simp
      · simp [h0, h1]
  · have h0 : ¬ j = 0 := by omega
    have h' : ¬ k + j < l.length := by omega
    rw [if_neg h, if_neg h0, if_neg h']
theorem left_most (x y nw : Int) (j : Nat) (hj : j < l.length - k) : mostB s (leftL l k x y nw) j = mostB s l (k + j) := by
  unfold mostB
  rw [leftL_getD x y nw (by omega)]
  by_cases h0 : j = 0
  · subst h0; rw [if_pos rfl, Nat.add_zero]
  · rw [if_neg h0]
    by_cases h1 : j = 1
    · subst h1; rw [if_pos rfl]
    · rw [if_neg h1]
theorem left_keeps (hk : k < l.length) (x y nw : Int) (z : Nat → Int) : Keeps q s (leftFr fr l k nw) b (leftL l k x y nw) z 0 (l.length - k) ↔
    (x ≤ z 0 ∧ z 0 ≤ y) ∧ nw + 1 ≤ z 1 ∧ (∀ j, 1 ≤ j → j ≤ l.length - k → lowB fr l (k + j) ≤ z j ∧ z j ≤ highB b l (k + j)) ∧ ∀ j, j < l.length - k → q ≤ z (j + 1) - z j ∧ z (j + 1) - z j ≤ mostB s l (k + j) := by
  unfold Keeps
  constructor
  · rintro ⟨h1, h2⟩
    have a0 := h1 0 (by omega) (by omega)
    have a1 := h1 1 (by omega) (by omega)
    rw [left_low hk x y nw 0 (by omega), left_high hk x y nw 0 (by omega), if_pos rfl, if_pos rfl] at a0
    rw [left_low hk x y nw 1 (by omega), if_neg (by omega), if_pos rfl] at a1
    have m1 := mxB_le (lowB fr l (k + 1)) (nw + 1)
    refine ⟨a0, by omega, fun j hj hj' => ?_, fun j hj => ?_⟩
    · have a := h1 j (by omega) hj'
      have hj0 : ¬ j = 0 := by omega
      rw [left_low hk x y nw j hj', left_high hk x y nw j hj', if_neg hj0, if_neg hj0] at a
      by_cases e : j = 1
      · subst e
        rw [if_pos rfl] at a
        omega
      · rw [if_neg e] at a
        exact a
    · have a := h2 j (by omega) hj
      rwa [left_most x y nw j hj] at a
  · rintro ⟨h0, h1, h2, h3⟩
    refine ⟨fun j _ hj' => ?_, fun j _ hj => ?_⟩
    · rw [left_low hk x y nw j hj', left_high hk x y nw j hj']
      by_cases e0 : j = 0
      · subst e0; rw [if_pos rfl, if_pos rfl]; exact h0
      · rw [if_neg e0, if_neg e0]
        have a := h2 j (by omega) hj'
        by_cases e : j = 1
        · subst e
          rw [if_pos rfl]
          have m1 := mxB_le (lowB fr l (k + 1)) (nw + 1)
          omega
        · rw [if_neg e]
          exact a
    · rw [left_most x y nw j hj]
      exact h3 j hj
theorem left_fly (hp : pathB q s fr b l = true) (hk : k < l.length) {x y nw : Int} (hx : 0 ≤ x) (hy : y ≤ 10000) (hn : 0 ≤ nw) : spanB q s (leftFr fr l k nw) b (leftL l k x y nw) = true ↔ ∃ z, Keeps q s (leftFr fr l k nw) b (leftL l k x y nw) z 0 (l.length - k) := by
  have hW := left_wide hp hk hx hy hn
  rw [hW.span_fwd, leftL_length]
  exact fly_iff hW.quick _
end

/-- A tube within another one, whose flights are flights there, from a place on. -/
theorem small_sub {q s fr b q' s' fr' b' : Int} {m l : List Stp} {k : Nat} (hm : flyB q s fr b m = true) (hl : flyB q' s' fr' b' l = true) (hk : m.length + k ≤ l.length)
    (hg : ∀ j, j < m.length → (m.getD j .zero).x = (l.getD (k + j) .zero).x ∧ (m.getD j .zero).y = (l.getD (k + j) .zero).y ∧ (m.getD j .zero).lo = (l.getD (k + j) .zero).lo ∧ (m.getD j .zero).hi = (l.getD (k + j) .zero).hi)
    (hz : ∀ j, j ≤ m.length → ∀ t, inP t (spanAt q s fr b m m.length j) → inP t (spanAt q' s' fr' b' l l.length (k + j))) : smallB (tubeL q s fr b m) (tubeL q' s' fr' b' l) = true := by
  obtain ⟨p1, p2, _⟩ := flyL_at hm
  unfold smallB
  rw [List.all_eq_true]
  intro a ha
  rw [Bool.or_eq_true]
  right
  unfold tubeL at ha
  rw [if_pos hm] at ha
  obtain ⟨j, hj, rfl⟩ := List.mem_map.1 ha
  rw [List.mem_range] at hj
  rw [List.any_eq_true]
  refine ⟨tubeAt (flyL q' s' fr' b' l) l (k + j), ?_, ?_⟩
  · unfold tubeL
    rw [if_pos hl]
    exact List.mem_map.2 ⟨k + j, List.mem_range.2 (by omega), rfl⟩
  · obtain ⟨g1, g2, g3, g4⟩ := hg j hj
    have gd : ∀ {q s fr b : Int} {l : List Stp}, flyB q s fr b l = true → ∀ i, i ≤ l.length → (flyL q s fr b l).getD i (0, 0) = spanAt q s fr b l l.length i := fun h i hi => by
      rw [List.getD_eq_getElem?_getD, map_at h hi]; rfl
    have n1 := span_some (fun k => most_quick p1 k) p2 (k := j)
    have n2 := span_some (fun k => most_quick p1 k) p2 (k := j + 1)
    have z1 := (hz j (by omega) _ (show inP (spanAt q s fr b m m.length j).1 _ from ⟨Int.le_refl _, n1⟩)).1
    have z2 := (hz (j + 1) (by omega) _ (show inP (spanAt q s fr b m m.length (j + 1)).2 _ from ⟨n2, Int.le_refl _⟩)).2
    unfold coverB tubeAt
    simp only [gd hm j (by omega), gd hm (j + 1) (by omega), gd hl (k + j) (by omega), show k + j + 1 = k + (j + 1) by omega, gd hl (k + (j + 1)) (by omega), g1, g2, g3, g4, Bool.and_eq_true, beq_iff_eq, decide_eq_true_eq]
    exact ⟨⟨⟨⟨⟨trivial, trivial⟩, Int.le_refl _⟩, Int.le_refl _⟩, z1⟩, by omega⟩
theorem fly_win {q s fr b : Int} {l : List Stp} (h : flyB q s fr b l = true) {k : Nat} (hk : k ≤ l.length) : lowB fr l k ≤ (spanAt q s fr b l l.length k).1 ∧ (spanAt q s fr b l l.length k).1 ≤ (spanAt q s fr b l l.length k).2 ∧ (spanAt q s fr b l l.length k).2 ≤ highB b l k := by
  obtain ⟨p1, p2, _⟩ := flyL_at h
  have hm : ∀ k, q ≤ mostB s l k := fun k => most_quick p1 k
  have n1 := span_some hm p2 (k := k)
  exact ⟨(span_win hm p2 hk ⟨Int.le_refl _, n1⟩).1, n1, (span_win hm p2 hk ⟨n1, Int.le_refl _⟩).2⟩
theorem small_none (l : List Bx) : smallB [] l = true := rfl

section
variable {q s fr b : Int} {l : List Stp} {st nw : Int}
theorem restA_is {en : Int} (h : (restA q s fr b l st en nw).ok = true) : pathB q s fr b l = true ∧ (0 ≤ st ∧ st.toNat < l.length) ∧ (0 ≤ nw ∧ nw ≤ 10000) ∧ (0 ≤ en ∧ en ≤ nw) ∧
    restA q s fr b l st en nw = { q := q, s := s, fr := leftFr fr l st.toNat nw, b := b, l := leftL l st.toNat (mxB (l.getD st.toNat .zero).fr en) (mnB (l.getD st.toNat .zero).by_ en) nw, ok := true } ∧
    spanB q s (leftFr fr l st.toNat nw) b (leftL l st.toNat (mxB (l.getD st.toNat .zero).fr en) (mnB (l.getD st.toNat .zero).by_ en) nw) = true := by
  unfold restA at h ⊢
  split at h
  · rename_i hc
    rw [if_pos hc]
    obtain ⟨h1, h2⟩ := canA_ok h
    simp only [inStepB, Bool.and_eq_true, inB_iff] at hc
    obtain ⟨⟨⟨hp, hst⟩, hnw⟩, hen⟩ := hc
    exact ⟨hp, ⟨hst.1, by omega⟩, hnw, hen, h2, h1⟩
  · simp [Ans.no] at h
theorem seenA_is (h : (seenA q s fr b l st nw).ok = true) : flyB q s fr b l = true ∧ (0 ≤ st ∧ st.toNat < l.length) ∧ (0 ≤ nw ∧ nw ≤ 10000) ∧
    seenA q s fr b l st nw = { q := q, s := s, fr := leftFr fr l st.toNat nw, b := b, l := leftL l st.toNat (spanOf q s fr b l st.toNat).1 (mnB (spanOf q s fr b l st.toNat).2 nw) nw, ok := true } ∧
    spanB q s (leftFr fr l st.toNat nw) b (leftL l st.toNat (spanOf q s fr b l st.toNat).1 (mnB (spanOf q s fr b l st.toNat).2 nw) nw) = true := by
  unfold seenA at h ⊢
  split at h
  · rename_i hc
    rw [if_pos hc]
    obtain ⟨h1, h2⟩ := canA_ok h
    simp only [inStepB, Bool.and_eq_true, inB_iff] at hc
    obtain ⟨⟨⟨hp, hst⟩, hnw⟩, hsp⟩ := hc
    exact ⟨by unfold flyB; rw [hp, hsp]; rfl, ⟨hst.1, by omega⟩, hnw, h2, h1⟩
  · simp [Ans.no] at h
theorem stepwin (hp : pathB q s fr b l = true) {k : Nat} (hk : k < l.length) : lowB fr l k = (l.getD k .zero).fr ∧ highB b l k = (l.getD k .zero).by_ ∧ 0 ≤ (l.getD k .zero).fr ∧ (l.getD k .zero).by_ ≤ 10000 := by
  have hb := bounds_ok hp k
  unfold lowB highB at hb ⊢
  rw [if_pos hk, if_pos hk] at hb
  rw [if_pos hk, if_pos hk]
  exact ⟨rfl, rfl, hb⟩

/-- What is left is ok; it was entered when it was; it is left behind now. -/
theorem rest_ends {en : Int} (h : (restA q s fr b l st en nw).ok = true) :
    flyB (restA q s fr b l st en nw).q (restA q s fr b l st en nw).s (restA q s fr b l st en nw).fr (restA q s fr b l st en nw).b (restA q s fr b l st en nw).l = true ∧ 1 ≤ (restA q s fr b l st en nw).l.length ∧
    spanAt (restA q s fr b l st en nw).q (restA q s fr b l st en nw).s (restA q s fr b l st en nw).fr (restA q s fr b l st en nw).b (restA q s fr b l st en nw).l (restA q s fr b l st en nw).l.length 0 = (en, en) ∧
    nw < (spanAt (restA q s fr b l st en nw).q (restA q s fr b l st en nw).s (restA q s fr b l st en nw).fr (restA q s fr b l st en nw).b (restA q s fr b l st en nw).l (restA q s fr b l st en nw).l.length 1).1 := by
  obtain ⟨hp, hk, hnw, hen, he, hsp⟩ := restA_is h
  obtain ⟨_, _, w1, w2⟩ := stepwin hp hk.2
  have m1 := mxB_le (l.getD st.toNat .zero).fr en
  have m2 := mnB_le (l.getD st.toNat .zero).by_ en
  have hpl := left_path hp hk.2 (x := mxB (l.getD st.toNat .zero).fr en) (y := mnB (l.getD st.toNat .zero).by_ en) (nw := nw) (by omega) (by omega) hnw.1 hsp
  rw [he]
  dsimp only
  have hfl : flyB q s (leftFr fr l st.toNat nw) b (leftL l st.toNat (mxB (l.getD st.toNat .zero).fr en) (mnB (l.getD st.toNat .zero).by_ en) nw) = true := by unfold flyB; rw [hpl, hsp]; rfl
  have hlen := leftL_length l st.toNat (mxB (l.getD st.toNat .zero).fr en) (mnB (l.getD st.toNat .zero).by_ en) nw
  have a1 := fly_win hfl (k := 0) (by omega)
  have a3 := fly_win hfl (k := 1) (by omega)
  rw [left_low hk.2 _ _ nw 0 (by omega), left_high hk.2 _ _ nw 0 (by omega), if_pos rfl, if_pos rfl] at a1
  rw [left_low hk.2 _ _ nw 1 (by omega), if_neg (by omega), if_pos rfl] at a3
  have m3 := mxB_le (lowB fr l (st.toNat + 1)) (nw + 1)
  exact ⟨hfl, by omega, Prod.ext (by dsimp only; omega) (by dsimp only; omega), by omega⟩

/-- What is left for anybody who is there: it is ok; all who may be there can go on, within its tube; its tube lies within the path's. -/
theorem seen_all (h : (seenA q s fr b l st nw).ok = true) :
    flyB (seenA q s fr b l st nw).q (seenA q s fr b l st nw).s (seenA q s fr b l st nw).fr (seenA q s fr b l st nw).b (seenA q s fr b l st nw).l = true ∧
    (∀ t, inP t (spanAt (seenA q s fr b l st nw).q (seenA q s fr b l st nw).s (seenA q s fr b l st nw).fr (seenA q s fr b l st nw).b (seenA q s fr b l st nw).l (seenA q s fr b l st nw).l.length 0) → (restA q s fr b l st t nw).ok = true ∧
      smallB (tubeL (restA q s fr b l st t nw).q (restA q s fr b l st t nw).s (restA q s fr b l st t nw).fr (restA q s fr b l st t nw).b (restA q s fr b l st t nw).l) (tubeL (seenA q s fr b l st nw).q (seenA q s fr b l st nw).s (seenA q s fr b l st nw).fr (seenA q s fr b l st nw).b (seenA q s fr b l st nw).l) = true) ∧
    smallB (tubeL (seenA q s fr b l st nw).q (seenA q s fr b l st nw).s (seenA q s fr b l st nw).fr (seenA q s fr b l st nw).b (seenA q s fr b l st nw).l) (tubeL q s fr b l) = true := by
  obtain ⟨hfp, hk, hnw, he, hsp⟩ := seenA_is h
  obtain ⟨hp, hpf, _⟩ := flyL_at hfp
  rw [he]
  obtain ⟨k, hkk⟩ : ∃ k, st.toNat = k := ⟨_, rfl⟩
  rw [hkk] at hk hsp ⊢
  have hsb : spanB q s fr b l = true := by unfold flyB at hfp; rw [Bool.and_eq_true] at hfp; exact hfp.2
  have e0 : spanOf q s fr b l k = spanAt q s fr b l l.length k := rfl
  rw [e0] at hsp ⊢
  have hqm : ∀ i, q ≤ mostB s l i := fun i => most_quick hp i
  have hn := span_some hqm hpf (k := k)
  have m2 := mnB_le (spanAt q s fr b l l.length k).2 nw
  have x0 : 0 ≤ (spanAt q s fr b l l.length k).1 := span_lo hp hsb (by omega)
  obtain ⟨X, hX⟩ : ∃ X, (spanAt q s fr b l l.length k).1 = X := ⟨_, rfl⟩
  obtain ⟨Y, hY⟩ : ∃ Y, mnB (spanAt q s fr b l l.length k).2 nw = Y := ⟨_, rfl⟩
  rw [hX, hY] at hsp ⊢
  dsimp only
  have hpl := left_path hp hk.2 (x := X) (y := Y) (nw := nw) (by omega) (by omega) hnw.1 hsp
  have hfl : flyB q s (leftFr fr l k nw) b (leftL l k X Y nw) = true := by unfold flyB; rw [hpl, hsp]; rfl
  have hlen := leftL_length l k X Y nw
  obtain ⟨p1, p2, _⟩ := flyL_at hfl
  have hqm' : ∀ i, q ≤ mostB s (leftL l k X Y nw) i := fun i => most_quick p1 i
  refine ⟨hfl, fun t ht => ?_, ?_⟩
  · -- a flight of what is left for anybody that was entered at t
    obtain ⟨z, hz, rfl⟩ := (span_iff hqm' p2 (k := 0) (by omega) t).1 ht
    rw [hlen] at hz
    have hz' := (left_keeps hk.2 X Y nw z).1 hz
    have hin : inP (z 0) (spanAt q s fr b l l.length k) := ⟨by omega, by omega⟩
    have hw := span_win hqm hpf (k := k) (by omega) hin
    obtain ⟨w1, w2, w3, w4⟩ := stepwin hp hk.2
    have ex : mxB (l.getD k .zero).fr (z 0) = z 0 := by have := mxB_le (l.getD k .zero).fr (z 0); omega
    have ey : mnB (l.getD k .zero).by_ (z 0) = z 0 := by have := mnB_le (l.getD k .zero).by_ (z 0); omega
    have hzr : Keeps q s (leftFr fr l k nw) b (leftL l k (z 0) (z 0) nw) z 0 (l.length - k) := (left_keeps hk.2 (z 0) (z 0) nw z).2 ⟨⟨Int.le_refl _, Int.le_refl _⟩, hz'.2⟩
    have hsr : spanB q s (leftFr fr l k nw) b (leftL l k (z 0) (z 0) nw) = true := (left_fly hp hk.2 (by omega) (by omega) hnw.1).2 ⟨z, hzr⟩
    have hr : restA q s fr b l st (z 0) nw = { q := q, s := s, fr := leftFr fr l k nw, b := b, l := leftL l k (z 0) (z 0) nw, ok := true } := by
      unfold restA
      rw [if_pos (by simp only [inStepB, Bool.and_eq_true, inB_iff]; exact ⟨⟨⟨hp, by omega⟩, by omega⟩, by omega⟩), hkk, ex, ey]
      unfold canA
      rw [if_pos hsr]
    rw [hr]
    refine ⟨rfl, ?_⟩
    dsimp only
    have hpr := left_path hp hk.2 (x := z 0) (y := z 0) (nw := nw) (by omega) (by omega) hnw.1 hsr
    have hfr : flyB q s (leftFr fr l k nw) b (leftL l k (z 0) (z 0) nw) = true := by unfold flyB; rw [hpr, hsr]; rfl
    have hlr := leftL_length l k (z 0) (z 0) nw
    obtain ⟨r1, r2, _⟩ := flyL_at hfr
    refine small_sub (k := 0) hfr hfl (by omega) (fun j hj => ?_) (fun j hj t ht => ?_)
    · rw [Nat.zero_add]
      obtain ⟨a1, a2, a3, a4⟩ := leftL_same (l := l) (k := k) (z 0) (z 0) nw (j := j) (by omega)
      obtain ⟨b1, b2, b3, b4⟩ := leftL_same (l := l) (k := k) X Y nw (j := j) (by omega)
      rw [a1, a2, a3, a4, b1, b2, b3, b4]
      exact ⟨rfl, rfl, rfl, rfl⟩
    · rw [Nat.zero_add]
      obtain ⟨y, hy, rfl⟩ := (span_iff (fun i => most_quick r1 i) r2 (k := j) (by omega) t).1 ht
      rw [hlr] at hy
      have hy' := (left_keeps hk.2 (z 0) (z 0) nw y).1 hy
      refine (span_iff hqm' p2 (k := j) (by omega) _).2 ⟨y, ?_, rfl⟩
      rw [hlen]
      exact (left_keeps hk.2 X Y nw y).2 ⟨by omega, hy'.2⟩
  · refine small_sub (k := k) hfl hfp (by omega) (fun j hj => ?_) (fun j hj t ht => ?_)
    · exact leftL_same (l := l) (k := k) X Y nw (j := j) (by omega)
    · obtain ⟨y, hy, rfl⟩ := (span_iff hqm' p2 (k := j) (by omega) t).1 ht
      rw [hlen] at hy
      have hy' := (left_keeps hk.2 X Y nw y).1 hy
      have hin : inP (y 0) (spanAt q s fr b l l.length k) := ⟨by omega, by omega⟩
      obtain ⟨x, hx, hxk⟩ := (span_iff hqm hpf (k := k) (by omega) _).1 hin
      refine (span_iff hqm hpf (k := k + j) (by omega) _).2 ⟨fun i => if i ≤ k then x i else y (i - k), ⟨fun i _ hi => ?_, fun i _ hi => ?_⟩, ?_⟩
      all_goals dsimp only
      · by_cases hik : i ≤ k
        · rw [if_pos hik]; exact hx.1 i (by omega) hi
        · rw [if_neg hik]
          have := hy'.2.2.1 (i - k) (by omega) (by omega)
          rwa [show k + (i - k) = i by omega] at this
      · by_cases hik : i ≤ k
        · by_cases hik1 : i + 1 ≤ k
          · rw [if_pos hik, if_pos hik1]; exact hx.2 i (by omega) hi
          · obtain rfl : i = k := by omega
            rw [if_pos (Nat.le_refl _), if_neg (by omega), hxk]
            have := hy'.2.2.2 0 (by omega)
            rwa [show i + 1 - i = 0 + 1 by omega, show i = i + 0 by omega]
        · rw [if_neg hik, if_neg (by omega)]
          have := hy'.2.2.2 (i - k) (by omega)
          rwa [show k + (i - k) = i by omega, show i - k + 1 = i + 1 - k by omega] at this
      · by_cases hj0 : j = 0
        · subst hj0; rw [if_pos (by omega)]; rw [Nat.add_zero]; exact hxk
        · rw [if_neg (by omega)]; rw [show k + j - k = j by omega]
end
end Go.Proofs.YtfnopcgmlfedfaaGreatDoor

namespace Go.Proofs.YtfnopcgmlfedfaaGreatDoor
open Go.RowKit

section
variable {q s fr b : Int} {l : List Stp} {k : Nat}

/-- Ticks from a place on that keep to the windows behind the first, and to the stays. -/
def Tail (q s fr b : Int) (l : List Stp) (k : Nat) (z : Nat → Int) : Prop :=
  (∀ j, 1 ≤ j → j ≤ l.length - k → lowB fr l (k + j) ≤ z j ∧ z j ≤ highB b l (k + j)) ∧ ∀ j, j < l.length - k → q ≤ z (j + 1) - z j ∧ z (j + 1) - z j ≤ mostB s l (k + j)
/-- Between two of them: the second one shifted, held within both. -/
def mixZ (x y : Nat → Int) (d : Int) (j : Nat) : Int := mnB (mxB (x j) (y j)) (mxB (mnB (x j) (y j)) (y j + d))
theorem mix_tail {x y : Nat → Int} (d : Int) (hx : Tail q s fr b l k x) (hy : Tail q s fr b l k y) : Tail q s fr b l k (mixZ x y d) := by
  refine ⟨fun j h1 h2 => ?_, fun j h => ?_⟩
  · have a := hx.1 j h1 h2
    have c := hy.1 j h1 h2
    unfold mixZ mxB mnB
    omega
  · have a := hx.2 j h
    have c := hy.2 j h
    unfold mixZ mxB mnB
    omega
theorem mix_at (x y : Nat → Int) {d : Int} (j : Nat) (h1 : x j ≤ y j + d) (h2 : d ≤ 0) : mixZ x y d j = y j + d := by
  unfold mixZ mxB mnB
  omega
theorem mix_up (x y : Nat → Int) {d : Int} (j : Nat) (h1 : y j + d ≤ x j) (h2 : 0 ≤ d) : mixZ x y d j = y j + d := by
  unfold mixZ mxB mnB
  omega
theorem mix_ge (x y : Nat → Int) {d v : Int} (j : Nat) (h1 : v ≤ mxB (x j) (y j)) (h2 : v ≤ y j + d) : v ≤ mixZ x y d j := by
  unfold mixZ mxB mnB at *
  omega
/-- The later of the two. -/
def topZ (x y : Nat → Int) (j : Nat) : Int := mxB (x j) (y j)
theorem top_tail {x y : Nat → Int} (hx : Tail q s fr b l k x) (hy : Tail q s fr b l k y) : Tail q s fr b l k (topZ x y) := by
  refine ⟨fun j h1 h2 => ?_, fun j h => ?_⟩
  · have a := hx.1 j h1 h2
    have c := hy.1 j h1 h2
    unfold topZ mxB
    omega
  · have a := hx.2 j h
    have c := hy.2 j h
    unfold topZ mxB
    omega

/-- Somebody who entered the step at e is there at t, and can go on. -/
def Here (q s fr b : Int) (l : List Stp) (k : Nat) (x y e t : Int) : Prop := (x ≤ e ∧ e ≤ y ∧ e ≤ t) ∧ ∃ z, z 0 = e ∧ t + 1 ≤ z 1 ∧ Tail q s fr b l k z

theorem here_between {x y e1 e2 e3 t1 t2 t3 : Int} (h1 : Here q s fr b l k x y e1 t1) (h3 : Here q s fr b l k x y e3 t3) (_ht : t2 ≤ t3) (he : e1 ≤ e2 ∧ e2 ≤ e3) (h2 : e2 ≤ t2) (hs : e3 - e2 ≤ t3 - t2) : Here q s fr b l k x y e2 t2 := by
  obtain ⟨⟨a1, a2, a3⟩, z1, z10, z11, hz1⟩ := h1
  obtain ⟨⟨c1, c2, c3⟩, z3, z30, z31, hz3⟩ := h3
  refine ⟨⟨by omega, by omega, h2⟩, mixZ z1 z3 (e2 - e3), ?_, ?_, mix_tail _ hz1 hz3⟩
  · rw [mix_at _ _ 0 (by omega) (by omega)]; omega
  · refine mix_ge _ _ 1 ?_ (by omega)
    have := mxB_le (z1 1) (z3 1)
    omega
/-- All who may have entered: the least and the greatest of them. -/
structure Ends (P : Int → Prop) (u v : Int) : Prop where
  lo : P u
  hi : P v
  all : ∀ e, P e → u ≤ e ∧ e ≤ v

section
variable {x y t1 t2 t3 L1 H1 L2 H2 L3 H3 : Int}
theorem here_some {e1 e3 : Int} (h1 : Here q s fr b l k x y e1 t1) (h3 : Here q s fr b l k x y e3 t3) (h12 : t1 ≤ t2) (h23 : t2 ≤ t3) : ∃ e, Here q s fr b l k x y e t2 := by
  by_cases c : e1 ≤ e3
  · have m := mxB_le e1 (e3 - (t3 - t2))
    have a := h1.1
    have d := h3.1
    exact ⟨mxB e1 (e3 - (t3 - t2)), here_between h1 h3 h23 (by omega) (by omega) (by omega)⟩
  · obtain ⟨⟨c1, c2, c3⟩, z3, z30, z31, hz3⟩ := h3
    have a := h1.1
    exact ⟨e3, ⟨⟨c1, c2, by omega⟩, z3, z30, by omega, hz3⟩⟩
theorem ends_mono (h1 : Ends (fun e => Here q s fr b l k x y e t1) L1 H1) (h2 : Ends (fun e => Here q s fr b l k x y e t2) L2 H2) (h12 : t1 ≤ t2) : L1 ≤ L2 ∧ H1 ≤ H2 ∧ L2 - L1 ≤ t2 - t1 ∧ H2 - H1 ≤ t2 - t1 := by
  have l1 := h1.lo
  have u1 := h1.hi
  have l2 := h2.lo
  have u2 := h2.hi
  refine ⟨?_, ?_, ?_, ?_⟩
  · by_cases c : L2 ≤ t1
    · obtain ⟨⟨c1, c2, c3⟩, z, z0, z1, hz⟩ := l2
      exact (h1.all L2 ⟨⟨c1, c2, c⟩, z, z0, by omega, hz⟩).1
    · have := l1.1.2.2
      omega
  · by_cases c : H1 ≤ L2
    · have := (h2.all H2 u2).1
      omega
    · obtain ⟨⟨c1, c2, c3⟩, z, z0, z1, hz⟩ := u1
      obtain ⟨⟨d1, d2, d3⟩, v, v0, v1, hv⟩ := l2
      refine (h2.all H1 ⟨⟨c1, c2, by omega⟩, topZ z v, ?_, ?_, top_tail hz hv⟩).2
      · have := mxB_le (z 0) (v 0)
        unfold topZ
        omega
      · have := mxB_le (z 1) (v 1)
        unfold topZ
        omega
  · by_cases c : L2 ≤ L1 + (t2 - t1)
    · omega
    · obtain ⟨⟨c1, c2, c3⟩, z, z0, z1, hz⟩ := l1
      obtain ⟨⟨d1, d2, d3⟩, v, v0, v1, hv⟩ := l2
      have := (h2.all (L1 + (t2 - t1)) ⟨⟨by omega, by omega, by omega⟩, mixZ v z (t2 - t1), ?_, ?_, mix_tail _ hv hz⟩).1
      · omega
      · rw [mix_up _ _ 0 (by omega) (by omega)]; omega
      · refine mix_ge _ _ 1 ?_ (by omega)
        have := mxB_le (v 1) (z 1)
        omega
  · by_cases c : H2 - (t2 - t1) ≤ H1
    · omega
    · obtain ⟨⟨c1, c2, c3⟩, z, z0, z1, hz⟩ := u1
      obtain ⟨⟨d1, d2, d3⟩, v, v0, v1, hv⟩ := u2
      have := (h1.all (H2 - (t2 - t1)) ⟨⟨by omega, by omega, by omega⟩, mixZ z v (t1 - t2), ?_, ?_, mix_tail _ hz hv⟩).2
      · omega
      · rw [mix_at _ _ 0 (by omega) (by omega)]; omega
      · refine mix_ge _ _ 1 ?_ (by omega)
        have := mxB_le (z 1) (v 1)
        omega
end
theorem mix_least (x y : Nat → Int) (d v : Int) (j : Nat) (h1 : v ≤ x j) (h2 : v ≤ y j) : v ≤ mixZ x y d j := by
  unfold mixZ mxB mnB
  omega
theorem here_same {x y e1 e2 e3 t : Int} (h1 : Here q s fr b l k x y e1 t) (h3 : Here q s fr b l k x y e3 t) (he : e1 ≤ e2 ∧ e2 ≤ e3) : Here q s fr b l k x y e2 t := by
  obtain ⟨⟨a1, a2, a3⟩, z1, z10, z11, hz1⟩ := h1
  obtain ⟨⟨c1, c2, c3⟩, z3, z30, z31, hz3⟩ := h3
  refine ⟨⟨by omega, by omega, by omega⟩, mixZ z1 z3 (e2 - e3), ?_, mix_least _ _ _ _ 1 z11 z31, mix_tail _ hz1 hz3⟩
  rw [mix_at _ _ 0 (by omega) (by omega)]; omega

/-- A flight of what is left, told of the path. -/
theorem left_here (hk : k < l.length) {x y nw : Int} (z : Nat → Int) : Keeps q s (leftFr fr l k nw) b (leftL l k x (mnB y nw) nw) z 0 (l.length - k) ↔ (x ≤ z 0 ∧ z 0 ≤ y ∧ z 0 ≤ nw) ∧ nw + 1 ≤ z 1 ∧ Tail q s fr b l k z := by
  rw [left_keeps hk]
  have m := mnB_le y nw
  constructor
  · rintro ⟨h0, h1, h2, h3⟩
    exact ⟨by omega, h1, h2, h3⟩
  · rintro ⟨h0, h1, h2, h3⟩
    exact ⟨by omega, h1, h2, h3⟩
variable {st nw : Int}
/-- Whether FlyRest leaves something. -/
theorem rest_here {en : Int} : (restA q s fr b l st en nw).ok = true ↔ pathB q s fr b l = true ∧ (0 ≤ st ∧ st.toNat < l.length) ∧ (0 ≤ nw ∧ nw ≤ 10000) ∧ 0 ≤ en ∧ Here q s fr b l st.toNat (l.getD st.toNat .zero).fr (l.getD st.toNat .zero).by_ en nw := by
  have m1 := mxB_le (l.getD st.toNat .zero).fr en
  have m2 := mnB_le (l.getD st.toNat .zero).by_ en
  constructor
  · intro h
    obtain ⟨hp, hk, hnw, hen, he, hsp⟩ := restA_is h
    obtain ⟨_, _, w1, w2⟩ := stepwin hp hk.2
    obtain ⟨z, hz⟩ := (left_fly hp hk.2 (by omega) (by omega) hnw.1).1 hsp
    obtain ⟨h0, h1, h2, h3⟩ := (left_keeps hk.2 _ _ nw z).1 hz
    exact ⟨hp, hk, hnw, hen.1, ⟨by omega, by omega, by omega⟩, z, by omega, h1, h2, h3⟩
  · rintro ⟨hp, hk, hnw, hen, ⟨a1, a2, a3⟩, z, z0, z1, hz⟩
    obtain ⟨_, _, w1, w2⟩ := stepwin hp hk.2
    have hsr : spanB q s (leftFr fr l st.toNat nw) b (leftL l st.toNat (mxB (l.getD st.toNat .zero).fr en) (mnB (l.getD st.toNat .zero).by_ en) nw) = true :=
      (left_fly hp hk.2 (by omega) (by omega) hnw.1).2 ⟨z, (left_keeps hk.2 _ _ nw z).2 ⟨by omega, z1, hz.1, hz.2⟩⟩
    unfold restA
    rw [if_pos (by simp only [inStepB, Bool.and_eq_true, inB_iff]; exact ⟨⟨⟨hp, by omega⟩, by omega⟩, by omega⟩)]
    unfold canA
    rw [if_pos hsr]
/-- The entries of all who may be there. -/
theorem seen_here (h : (seenA q s fr b l st nw).ok = true) : Ends (fun e => Here q s fr b l st.toNat (spanOf q s fr b l st.toNat).1 (spanOf q s fr b l st.toNat).2 e nw) (firstOf (seenA q s fr b l st nw)).1 (firstOf (seenA q s fr b l st nw)).2 := by
  obtain ⟨hfp, hk, hnw, he, hsp⟩ := seenA_is h
  obtain ⟨hp, hpf, _⟩ := flyL_at hfp
  rw [he]
  unfold firstOf
  dsimp only
  have hsb : spanB q s fr b l = true := by unfold flyB at hfp; rw [Bool.and_eq_true] at hfp; exact hfp.2
  have x0 : 0 ≤ (spanOf q s fr b l st.toNat).1 := span_lo hp hsb (by omega)
  obtain ⟨X, hX⟩ : ∃ X, (spanOf q s fr b l st.toNat).1 = X := ⟨_, rfl⟩
  obtain ⟨Y, hY⟩ : ∃ Y, (spanOf q s fr b l st.toNat).2 = Y := ⟨_, rfl⟩
  rw [hX, hY] at hsp
  rw [hX] at x0
  rw [hX, hY]
  obtain ⟨k, hkk⟩ : ∃ k, st.toNat = k := ⟨_, rfl⟩
  rw [hkk] at hk hsp ⊢
  have m2 := mnB_le Y nw
  have hpl := left_path hp hk.2 (x := X) (y := mnB Y nw) (nw := nw) (by omega) (by omega) hnw.1 hsp
  have hfl : flyB q s (leftFr fr l k nw) b (leftL l k X (mnB Y nw) nw) = true := by unfold flyB; rw [hpl, hsp]; rfl
  have hlen := leftL_length l k X (mnB Y nw) nw
  obtain ⟨p1, p2, _⟩ := flyL_at hfl
  have hqm' : ∀ i, q ≤ mostB s (leftL l k X (mnB Y nw) nw) i := fun i => most_quick p1 i
  have key : ∀ e, inP e (spanOf q s (leftFr fr l k nw) b (leftL l k X (mnB Y nw) nw) 0) ↔ Here q s fr b l k X Y e nw := fun e => by
    rw [show spanOf q s (leftFr fr l k nw) b (leftL l k X (mnB Y nw) nw) 0 = spanAt q s (leftFr fr l k nw) b (leftL l k X (mnB Y nw) nw) (leftL l k X (mnB Y nw) nw).length 0 from rfl, span_iff hqm' p2 (Nat.zero_le _), hlen]
    constructor
    · rintro ⟨z, hz, rfl⟩
      obtain ⟨a, c, d⟩ := (left_here hk.2 z).1 hz
      exact ⟨a, z, rfl, c, d⟩
    · rintro ⟨a, z, rfl, c, d⟩
      exact ⟨z, (left_here hk.2 z).2 ⟨a, c, d⟩, rfl⟩
  have n1 : (spanOf q s (leftFr fr l k nw) b (leftL l k X (mnB Y nw) nw) 0).1 ≤ (spanOf q s (leftFr fr l k nw) b (leftL l k X (mnB Y nw) nw) 0).2 := span_some hqm' p2 (k := 0)
  exact ⟨(key _).1 ⟨Int.le_refl _, n1⟩, (key _).1 ⟨n1, Int.le_refl _⟩, fun e he => (key e).2 he⟩
theorem seen_if (hf : flyB q s fr b l = true) (hk : 0 ≤ st ∧ st.toNat < l.length) (hn : 0 ≤ nw ∧ nw ≤ 10000) {e : Int} (h : Here q s fr b l st.toNat (spanOf q s fr b l st.toNat).1 (spanOf q s fr b l st.toNat).2 e nw) : (seenA q s fr b l st nw).ok = true := by
  obtain ⟨hp, hpf, _⟩ := flyL_at hf
  have hsb : spanB q s fr b l = true := by unfold flyB at hf; rw [Bool.and_eq_true] at hf; exact hf.2
  have x0 : 0 ≤ (spanOf q s fr b l st.toNat).1 := span_lo hp hsb (by omega)
  have m2 := mnB_le (spanOf q s fr b l st.toNat).2 nw
  obtain ⟨a, z, rfl, c, d⟩ := h
  unfold seenA
  rw [if_pos (by simp only [inStepB, Bool.and_eq_true, inB_iff]; exact ⟨⟨⟨hp, by omega⟩, hn⟩, hsb⟩)]
  unfold canA
  rw [if_pos ((left_fly hp hk.2 x0 (by omega) hn.1).2 ⟨z, (left_here hk.2 z).2 ⟨a, c, d⟩⟩)]
end

section
variable {q s fr b q' s' fr' b' : Int} {l l' : List Stp} {st : Int}
theorem may_is {nw : Int} : mayB q s fr b l q' s' fr' b' l' st nw = true ↔ st < (sharedN q s l q' s' l' : Int) ∧ (seenA q s fr b l st nw).ok = true ∧ (restA q' s' fr' b' l' st (firstOf (seenA q s fr b l st nw)).1 nw).ok = true ∧ (restA q' s' fr' b' l' st (firstOf (seenA q s fr b l st nw)).2 nw).ok = true := by
  unfold mayB
  simp only [Bool.and_eq_true, decide_eq_true_eq]
  exact ⟨fun ⟨⟨a, b⟩, c, d⟩ => ⟨a, b, c, d⟩, fun ⟨a, b, c, d⟩ => ⟨⟨a, b⟩, c, d⟩⟩
/-- The ticks at which all can turn have no gap. -/
theorem may_between {t1 t2 t3 : Int} (h1 : mayB q s fr b l q' s' fr' b' l' st t1 = true) (h3 : mayB q s fr b l q' s' fr' b' l' st t3 = true) (h12 : t1 ≤ t2) (h23 : t2 ≤ t3) : mayB q s fr b l q' s' fr' b' l' st t2 = true := by
  obtain ⟨hs1, ho1, ra1, rb1⟩ := may_is.1 h1
  obtain ⟨_, ho3, ra3, rb3⟩ := may_is.1 h3
  have e1 := seen_here ho1
  have e3 := seen_here ho3
  obtain ⟨hfp, hk, hn1, _, _⟩ := seenA_is ho1
  obtain ⟨_, _, hn3, _, _⟩ := seenA_is ho3
  obtain ⟨e, he⟩ := here_some e1.lo e3.lo h12 h23
  have ho2 := seen_if hfp hk (nw := t2) (by omega) he
  have e2 := seen_here ho2
  obtain ⟨m1, m2, m3, m4⟩ := ends_mono e1 e2 h12
  obtain ⟨k1, k2, k3, k4⟩ := ends_mono e2 e3 h23
  obtain ⟨hp', hk', _, g0, A1⟩ := rest_here.1 ra1
  obtain ⟨_, _, _, _, B1⟩ := rest_here.1 rb1
  obtain ⟨_, _, _, _, A3⟩ := rest_here.1 ra3
  obtain ⟨_, _, _, _, B3⟩ := rest_here.1 rb3
  have c2 := e2.lo.1
  have d2 := e2.hi.1
  have f1 := (e1.all _ e1.hi).1
  refine may_is.2 ⟨hs1, ho2, rest_here.2 ⟨hp', hk', by omega, by omega, ?_⟩, rest_here.2 ⟨hp', hk', by omega, by omega, ?_⟩⟩
  · exact here_between A1 A3 h23 ⟨m1, k1⟩ c2.2.2 k3
  · exact here_between B1 B3 h23 ⟨m2, k2⟩ d2.2.2 k4
/-- All who may be there can, if the first and the last can. -/
theorem may_each {t e : Int} (h : mayB q s fr b l q' s' fr' b' l' st t = true) (he : inP e (firstOf (seenA q s fr b l st t))) : (restA q' s' fr' b' l' st e t).ok = true := by
  obtain ⟨_, ho, ra, rb⟩ := may_is.1 h
  obtain ⟨hp', hk', hn, g0, A⟩ := rest_here.1 ra
  obtain ⟨_, _, _, g1, B⟩ := rest_here.1 rb
  have h1 := he.1
  exact rest_here.2 ⟨hp', hk', hn, by omega, here_same A B he⟩
end
end Go.Proofs.YtfnopcgmlfedfaaGreatDoor

namespace Go.Proofs.YtfnopcgmlfedfaaGreatDoor
open Go.RowKit

/-- All who may be in the first k boxes now can turn. -/
def turnTo (tb : List Bx) (f : Nat → Bool) (t : Int) (k : Nat) : Bool := (List.range k).all fun i => match tb[i]? with | some s => !inB t s.in_ s.out || f i | none => true
/-- Somebody may be under way now, and all who may be can turn. -/
def allT (tb : List Bx) (f : Nat → Bool) (t : Int) : Bool := turnTo tb f t tb.length && tb.any fun s => inB t s.in_ s.out
theorem turnTo_succ {tb : List Bx} {f : Nat → Bool} {t : Int} {k : Nat} {s : Bx} (h : tb[k]? = some s) : turnTo tb f t (k + 1) = (turnTo tb f t k && (!inB t s.in_ s.out || f k)) := by
  simp [turnTo, List.range_succ, List.all_append, h]
theorem turnTo_not {tb : List Bx} {f : Nat → Bool} {t : Int} {k : Nat} {s : Bx} (h : tb[k]? = some s) (hi : inB t s.in_ s.out = true) (hf : f k = false) : turnTo tb f t tb.length = false := by
  rw [turnTo, List.all_eq_false]
  exact ⟨k, List.mem_range.2 (List.getElem?_eq_some_iff.1 h).1, by simp [h, hi, hf]⟩
/-- r is the last of the ticks from fr on that are all so; -1, if fr itself is not. -/
def TurnIs (g : Int → Bool) (fr r : Int) : Prop := ∃ k : Nat, (∀ j : Nat, j < k → g (fr + j) = true) ∧ g (fr + k) = false ∧ r = if k = 0 then -1 else fr + k - 1
theorem TurnIs.one {g : Int → Bool} {fr r r' : Int} (h : TurnIs g fr r) (h' : TurnIs g fr r') : r = r' := by
  obtain ⟨k, h1, h2, rfl⟩ := h
  obtain ⟨k', h3, h4, rfl⟩ := h'
  have : k = k' := by
    rcases Nat.lt_trichotomy k k' with h | h | h
    · rw [h3 k h] at h2; cases h2
    · exact h
    · rw [h1 k' h] at h4; cases h4
  rw [this]
section
variable {q s fr b q' s' fr' b' : Int} {l l' : List Stp}
/-- What FlyTurnBy asks of a tick. -/
abbrev turnG (q s fr b : Int) (l : List Stp) (q' s' fr' b' : Int) (l' : List Stp) (t : Int) : Bool := allT (tubeL q s fr b l) (fun k => mayB q s fr b l q' s' fr' b' l' (k : Int) t) t
theorem tube_box {k : Nat} {x : Bx} (h : (tubeL q s fr b l)[k]? = some x) : flyB q s fr b l = true ∧ k < l.length ∧ x.in_ = (spanAt q s fr b l l.length k).1 ∧ x.out = (spanAt q s fr b l l.length (k + 1)).2 - 1 := by
  unfold tubeL at h
  split at h
  · rename_i hf
    unfold tubeTo at h
    rw [List.getElem?_map] at h
    cases hr : (List.range l.length)[k]? with
    | none => rw [hr] at h; cases h
    | some i =>
      obtain ⟨hk, hi⟩ := List.getElem?_eq_some_iff.1 hr
      rw [List.getElem_range] at hi
      rw [hr] at h
      simp only [Option.map_some, Option.some.injEq] at h
      subst hi
      rw [List.length_range] at hk
      have gd : ∀ i, i ≤ l.length → (flyL q s fr b l).getD i (0, 0) = spanAt q s fr b l l.length i := fun i hi => by
        rw [List.getD_eq_getElem?_getD, map_at hf hi]; rfl
      subst h
      unfold tubeAt
      exact ⟨hf, hk, by rw [← gd k (by omega)], by rw [← gd (k + 1) (by omega)]⟩
  · simp at h
/-- Nobody is under way ahead of the first tick, nor behind the last one that there is. -/
theorem turnG_range {t : Int} (h : turnG q s fr b l q' s' fr' b' l' t = true) : 0 ≤ t ∧ t ≤ 9999 ∧ pathB q' s' fr' b' l' = true := by
  unfold turnG allT at h
  simp only [Bool.and_eq_true, List.any_eq_true] at h
  obtain ⟨h1, x, hx, hin⟩ := h
  obtain ⟨k, hk⟩ := List.mem_iff_getElem?.1 hx
  obtain ⟨hf, hkl, e1, e2⟩ := tube_box hk
  have w1 := fly_win hf (k := k) (by omega)
  have w2 := fly_win hf (k := k + 1) (by omega)
  obtain ⟨hp, _, _⟩ := flyL_at hf
  have b1 := bounds_ok hp k
  have b2 := bounds_ok hp (k + 1)
  have hi := (inB_iff _ _ _).1 hin
  rw [e1, e2] at hi
  refine ⟨by omega, by omega, ?_⟩
  rw [turnTo, List.all_eq_true] at h1
  have hm := h1 k (List.mem_range.2 (List.getElem?_eq_some_iff.1 hk).1)
  simp only [hk, hin, Bool.not_true, Bool.false_or] at hm
  obtain ⟨_, _, hr, _⟩ := may_is.1 hm
  exact (rest_here.1 hr).1
end
end Go.Proofs.YtfnopcgmlfedfaaGreatDoor

namespace Go.Proofs.YtfnopcgmlfedfaaGreatDoor
open Go.RowKit

/-- Two paths in boxes of a call's own. -/
structure TwoP (w wr : World) (q s fr b : Int) (v : Value) (q' s' fr' b' : Int) (v' : Value) : Prop where
  old : Below w.heap.size w wr
  pa : PathAt wr w.heap.size q s fr b v
  pb : PathAt wr (w.heap.size + 1) q' s' fr' b' v'
section
variable {w wr w' : World} {q s fr b q' s' fr' b' : Int} {v v' : Value}
theorem TwoP.new (w : World) (q s fr b : Int) (v : Value) (q' s' fr' b' : Int) (v' : Value) : TwoP w ((w.alloc (.cells #[.int .i64 q, .int .i64 s, v, .int .i64 fr, .int .i64 b] 32)).alloc (.cells #[.int .i64 q', .int .i64 s', v', .int .i64 fr', .int .i64 b'] 32)) q s fr b v q' s' fr' b' v' := by
  have P0 := PathAt.new (w.alloc (.cells #[.int .i64 q, .int .i64 s, v, .int .i64 fr, .int .i64 b] 32)) q' s' fr' b' v'
  rw [World.size_alloc] at P0
  exact ⟨((Below.refl _ _).alloc (Nat.le_refl _) _).alloc (by simp) _, (PathAt.new w q s fr b v).keep ((Below.refl _ _).alloc (Nat.le_refl _) _) (PathAt.new w q s fr b v).lt, P0⟩
theorem TwoP.below (h : TwoP w wr q s fr b v q' s' fr' b' v') (hb : Below wr.heap.size wr w') : TwoP w w' q s fr b v q' s' fr' b' v' :=
  ⟨h.old.trans (hb.mono h.old.size), h.pa.keep hb h.pa.lt, h.pb.keep hb h.pb.lt⟩
theorem TwoP.drew (h : TwoP w wr q s fr b v q' s' fr' b' v') : TwoP w wr.drew q s fr b v q' s' fr' b' v' := h.below (Below.refl _ _).drew
end

theorem shared_is {q s q' s' : Int} {l l' : List Stp} {k : Nat} (h1 : k ≤ l.length) (h2 : k ≤ l'.length) (h3 : ∀ j, j < k → sameAt l l' j = true) (h4 : k = 0 ∨ kindEq q s q' s' = true) (h5 : k = l.length ∨ k = l'.length ∨ sameAt l l' k = false ∨ kindEq q s q' s' = false) : sharedN q s l q' s' l' = k := by
  unfold sharedN
  cases hk : kindEq q s q' s' with
  | false =>
    rcases h4 with rfl | h4
    · rfl
    · rw [hk] at h4; cases h4
  | true =>
    rw [if_pos rfl]
    refine preN_at k l l' h1 h2 h3 ?_
    rcases h5 with h | h | h | h
    · exact Or.inl h
    · exact Or.inr (Or.inl h)
    · exact Or.inr (Or.inr h)
    · rw [hk] at h; cases h

set_option maxRecDepth 20000 in
set_option maxHeartbeats 4000000 in
theorem sharedS_any (q s fr b : Int) (a : Option Addr) (b0 o cap : Nat) (l : List Stp) (q' s' fr' b' : Int) (a' : Option Addr) (b0' o' cap' : Nat) (l' : List Stp) (w : World) (hl : l.length ≤ 1048576) (hl' : l'.length ≤ 1048576) (hs : StepsAt w a b0 o l) (hs' : StepsAt w a' b0' o' l') :
    Calls Tryz.prog 38 #[.agg #[.int .i64 q, .int .i64 s, .slice a l.length cap, .int .i64 fr, .int .i64 b], .agg #[.int .i64 q', .int .i64 s', .slice a' l'.length cap', .int .i64 fr', .int .i64 b']] w
      fun e w' => e = .returned (.int .i64 (sharedN q s l q' s' l' : Nat)) ∧ Below w.heap.size w w' := by
  have T0 := TwoP.new w q s fr b (.slice a l.length cap) q' s' fr' b' (.slice a' l'.length cap')
  go_enter Tryz.func38, Tryz.ntmps38
  go_wp2
  go_loopw [5] (fun s5 wr => ∃ k : Nat, s5 = .int .i64 (k : Int) ∧ k ≤ l.length ∧ k ≤ l'.length ∧ (∀ j, j < k → sameAt l l' j = true) ∧ (k = 0 ∨ kindEq q s q' s' = true) ∧ TwoP w wr q s fr b (.slice a l.length cap) q' s' fr' b' (.slice a' l'.length cap')) (fun s5 _ => l.length - (intOf s5).toNat)
  case atStart => exact ⟨0, rfl, by omega, by omega, fun j hj => by omega, Or.inl rfl, T0⟩
  case round =>
    clear T0
    obtain ⟨k, rfl, hk, hk', hall, hkd, T⟩ := hrel
    obtain ⟨⟨p0, p1, p2, p3, p4⟩, _⟩ := T.pa.cells
    obtain ⟨⟨r0, r1, r2, r3, r4⟩, _⟩ := T.pb.cells
    have HA : Hid (∀ j, j < k → sameAt l l' j = true) := hall
    have HK : Hid (k = 0 ∨ kindEq q s q' s' = true) := hkd
    have k0 : (0 : Int) ≤ (k : Int) := by omega
    have HT : Hid (Below w.heap.size w wr) := T.old
    have HT2 : Hid (TwoP w wr q s fr b (.slice a l.length cap) q' s' fr' b' (.slice a' l'.length cap')) := T
    clear hall hkd
    have eqk := run_eql_kind q s q' s'
    by_cases g1 : k < l.length
    · have k1 : (k : Int) < (l.length : Int) := by omega
      have d1 : decide ((k : Int) < (l.length : Int)) = true := by simpa using k1
      by_cases g2 : k < l'.length
      · have k2 : (k : Int) < (l'.length : Int) := by omega
        have d2 : decide ((k : Int) < (l'.length : Int)) = true := by simpa using k2
        obtain ⟨t, ht⟩ : ∃ t, l[k]? = some t := ⟨_, List.getElem?_eq_getElem g1⟩
        obtain ⟨u, hu⟩ : ∃ u, l'[k]? = some u := ⟨_, List.getElem?_eq_getElem g2⟩
        have hne : l ≠ [] := by intro e; subst e; simp at g1
        have hne' : l' ≠ [] := by intro e; subst e; simp at g2
        obtain rfl := hs.here hne
        obtain rfl := hs'.here hne'
        obtain ⟨c0, c1, c2, c3, c4, c5, c6⟩ := (hs.below T.old hs.lt).seven ht
        obtain ⟨e0, e1, e2, e3, e4, e5, e6⟩ := (hs'.below T.old hs'.lt).seven hu
        have HS : Hid (sameAt l l' k = sameB t u) := by show _ = _; unfold sameAt; simp [List.getD_eq_getElem?_getD, ht, hu]
        have eqs := run_eql_step t u
        clear T ht hu
        cases d3 : sameB t u with
        | false =>
          rw [d3] at HS
          simp only [d3] at eqs
          go_wp2
          go_quiet (fail)
          go_wp2
          go_ret
          exact ⟨by rw [shared_is hk hk' HA.out HK.out (Or.inr (Or.inr (Or.inl HS.out)))]; rfl, HT.out.trans ⟨rfl, rfl, rfl, Nat.le_refl _, fun _ _ => rfl⟩⟩
        | true =>
          rw [d3] at HS
          simp only [d3] at eqs
          rcases Bool.eq_false_or_eq_true (kindEq q s q' s') with d4 | d4
          rotate_left
          · simp only [d4] at eqk
            go_wp2
            go_quiet (fail)
            go_wp2
            go_ret
            exact ⟨by rw [shared_is hk hk' HA.out HK.out (Or.inr (Or.inr (Or.inr d4)))]; rfl, HT.out.trans ⟨rfl, rfl, rfl, Nat.le_refl _, fun _ _ => rfl⟩⟩
          · simp only [d4] at eqk
            go_wp2
            go_quiet (fail)
            go_wp2
            go_roundw
            case rel => exact ⟨k + 1, by simp, by omega, by omega, fun j hj => by
              by_cases e : j = k
              · subst e; exact HS.out
              · exact HA.out j (by omega), Or.inr d4, HT2.out.below ⟨rfl, rfl, rfl, Nat.le_refl _, fun _ _ => rfl⟩⟩
            case measure => simp [intOf]; omega
      · have d2 : decide ((k : Int) < (l'.length : Int)) = false := by simp; omega
        obtain rfl : k = l'.length := by omega
        clear T
        go_wp2
        go_quiet (fail)
        go_wp2
        go_ret
        exact ⟨by rw [shared_is hk (Nat.le_refl _) HA.out HK.out (Or.inr (Or.inl rfl))]; rfl, HT.out.trans ⟨rfl, rfl, rfl, Nat.le_refl _, fun _ _ => rfl⟩⟩
    · have d1 : decide ((k : Int) < (l.length : Int)) = false := by simp; omega
      obtain rfl : k = l.length := by omega
      clear T
      go_wp2
      go_quiet (fail)
      go_wp2
      go_ret
      exact ⟨by rw [shared_is (Nat.le_refl _) hk' HA.out HK.out (Or.inl rfl)]; rfl, HT.out.trans ⟨rfl, rfl, rfl, Nat.le_refl _, fun _ _ => rfl⟩⟩

set_option maxRecDepth 20000 in
set_option maxHeartbeats 4000000 in
theorem sharedI_any (q s fr b : Int) (a : Option Addr) (b0 o cap : Nat) (l : List Stp) (q' s' fr' b' : Int) (a' : Option Addr) (b0' o' cap' : Nat) (l' : List Stp) (w : World) (hl : l.length ≤ 1048576) (hl' : l'.length ≤ 1048576) (hs : StepsAt w a b0 o l) (hs' : StepsAt w a' b0' o' l') :
    Calls Tryz.prog 70 #[.agg #[.int .i64 q, .int .i64 s, .slice a l.length cap, .int .i64 fr, .int .i64 b], .agg #[.int .i64 q', .int .i64 s', .slice a' l'.length cap', .int .i64 fr', .int .i64 b']] w
      fun e w' => e = .returned (.int .i64 (sharedN q s l q' s' l' : Nat)) ∧ Below w.heap.size w w' := by
  have T0 := TwoP.new w q s fr b (.slice a l.length cap) q' s' fr' b' (.slice a' l'.length cap')
  have nek := run_neq_kind q s q' s'
  go_enter Tryz.func70, Tryz.ntmps70
  rcases Bool.eq_false_or_eq_true (kindEq q s q' s') with d4 | d4
  rotate_left
  · simp only [d4] at nek
    go_wp2
    go_ret
    exact ⟨by unfold sharedN; rw [d4]; rfl, T0.old⟩
  · simp only [d4] at nek
    by_cases hlt : (l'.length : Int) < (l.length : Int)
    · go_wp2
      clear nek
      go_loopw [20] (fun s20 wr => ∃ k : Nat, s20 = .int .i64 (k : Int) ∧ k ≤ l'.length ∧ (∀ j, j < k → sameAt l l' j = true) ∧ TwoP w wr q s fr b (.slice a l.length cap) q' s' fr' b' (.slice a' l'.length cap')) (fun s20 _ => l'.length - (intOf s20).toNat)
      case atStart => exact ⟨0, rfl, by omega, fun j hj => by omega, T0⟩
      case round =>
        clear T0
        obtain ⟨k, rfl, hk, hall, T⟩ := hrel
        obtain ⟨⟨p0, p1, p2, p3, p4⟩, _⟩ := T.pa.cells
        obtain ⟨⟨r0, r1, r2, r3, r4⟩, _⟩ := T.pb.cells
        have HA : Hid (∀ j, j < k → sameAt l l' j = true) := hall
        have k0 : (0 : Int) ≤ (k : Int) := by omega
        have HT : Hid (TwoP w wr q s fr b (.slice a l.length cap) q' s' fr' b' (.slice a' l'.length cap')) := T
        clear hall
        by_cases g1 : k < l'.length
        · have g2 : k < l.length := by omega
          have g3 : k < l'.length := by omega
          have k1 : (k : Int) < (l.length : Int) := by omega
          have k2 : (k : Int) < (l'.length : Int) := by omega
          obtain ⟨t, ht⟩ : ∃ t, l[k]? = some t := ⟨_, List.getElem?_eq_getElem g2⟩
          obtain ⟨u, hu⟩ : ∃ u, l'[k]? = some u := ⟨_, List.getElem?_eq_getElem g3⟩
          have hne : l ≠ [] := by intro e; subst e; simp at g2
          have hne' : l' ≠ [] := by intro e; subst e; simp at g3
          obtain rfl := hs.here hne
          obtain rfl := hs'.here hne'
          obtain ⟨c0, c1, c2, c3, c4, c5, c6⟩ := (hs.below T.old hs.lt).seven ht
          obtain ⟨e0, e1, e2, e3, e4, e5, e6⟩ := (hs'.below T.old hs'.lt).seven hu
          have HS : Hid (sameAt l l' k = sameB t u) := by show _ = _; unfold sameAt; simp [List.getD_eq_getElem?_getD, ht, hu]
          have nes := run_neq_step t u
          clear T ht hu
          cases d3 : sameB t u with
          | false =>
            rw [d3] at HS
            simp only [d3] at nes
            go_wp2
            go_quiet (fail)
            go_wp2
            go_ret
            exact ⟨by rw [shared_is (Nat.le_of_lt g2) (Nat.le_of_lt g3) HA.out (Or.inr d4) (Or.inr (Or.inr (Or.inl HS.out)))]; rfl, HT.out.old.trans ⟨rfl, rfl, rfl, Nat.le_refl _, fun _ _ => rfl⟩⟩
          | true =>
            rw [d3] at HS
            simp only [d3] at nes
            go_wp2
            go_quiet (fail)
            go_wp2
            go_roundw
            case rel => exact ⟨k + 1, by simp, by omega, fun j hj => by
              by_cases e : j = k
              · subst e; exact HS.out
              · exact HA.out j (by omega), HT.out.below ⟨rfl, rfl, rfl, Nat.le_refl _, fun _ _ => rfl⟩⟩
            case measure => simp [intOf]; omega
        · obtain rfl : k = l'.length := by omega
          clear T
          go_wp2
          go_ret
          exact ⟨by rw [shared_is (by omega) (by omega) HA.out (Or.inr d4) (Or.inr (Or.inl rfl))]; rfl, HT.out.old⟩
    · go_wp2
      clear nek
      go_loopw [20] (fun s20 wr => ∃ k : Nat, s20 = .int .i64 (k : Int) ∧ k ≤ l.length ∧ (∀ j, j < k → sameAt l l' j = true) ∧ TwoP w wr q s fr b (.slice a l.length cap) q' s' fr' b' (.slice a' l'.length cap')) (fun s20 _ => l.length - (intOf s20).toNat)
      case atStart => exact ⟨0, rfl, by omega, fun j hj => by omega, T0⟩
      case round =>
        clear T0
        obtain ⟨k, rfl, hk, hall, T⟩ := hrel
        obtain ⟨⟨p0, p1, p2, p3, p4⟩, _⟩ := T.pa.cells
        obtain ⟨⟨r0, r1, r2, r3, r4⟩, _⟩ := T.pb.cells
        have HA : Hid (∀ j, j < k → sameAt l l' j = true) := hall
        have k0 : (0 : Int) ≤ (k : Int) := by omega
        have HT : Hid (TwoP w wr q s fr b (.slice a l.length cap) q' s' fr' b' (.slice a' l'.length cap')) := T
        clear hall
        by_cases g1 : k < l.length
        · have g2 : k < l.length := by omega
          have g3 : k < l'.length := by omega
          have k1 : (k : Int) < (l.length : Int) := by omega
          have k2 : (k : Int) < (l'.length : Int) := by omega
          obtain ⟨t, ht⟩ : ∃ t, l[k]? = some t := ⟨_, List.getElem?_eq_getElem g2⟩
          obtain ⟨u, hu⟩ : ∃ u, l'[k]? = some u := ⟨_, List.getElem?_eq_getElem g3⟩
          have hne : l ≠ [] := by intro e; subst e; simp at g2
          have hne' : l' ≠ [] := by intro e; subst e; simp at g3
          obtain rfl := hs.here hne
          obtain rfl := hs'.here hne'
          obtain ⟨c0, c1, c2, c3, c4, c5, c6⟩ := (hs.below T.old hs.lt).seven ht
          obtain ⟨e0, e1, e2, e3, e4, e5, e6⟩ := (hs'.below T.old hs'.lt).seven hu
          have HS : Hid (sameAt l l' k = sameB t u) := by show _ = _; unfold sameAt; simp [List.getD_eq_getElem?_getD, ht, hu]
          have nes := run_neq_step t u
          clear T ht hu
          cases d3 : sameB t u with
          | false =>
            rw [d3] at HS
            simp only [d3] at nes
            go_wp2
            go_quiet (fail)
            go_wp2
            go_ret
            exact ⟨by rw [shared_is (Nat.le_of_lt g2) (Nat.le_of_lt g3) HA.out (Or.inr d4) (Or.inr (Or.inr (Or.inl HS.out)))]; rfl, HT.out.old.trans ⟨rfl, rfl, rfl, Nat.le_refl _, fun _ _ => rfl⟩⟩
          | true =>
            rw [d3] at HS
            simp only [d3] at nes
            go_wp2
            go_quiet (fail)
            go_wp2
            go_roundw
            case rel => exact ⟨k + 1, by simp, by omega, fun j hj => by
              by_cases e : j = k
              · subst e; exact HS.out
              · exact HA.out j (by omega), HT.out.below ⟨rfl, rfl, rfl, Nat.le_refl _, fun _ _ => rfl⟩⟩
            case measure => simp [intOf]; omega
        · obtain rfl : k = l.length := by omega
          clear T
          go_wp2
          go_ret
          exact ⟨by rw [shared_is (by omega) (by omega) HA.out (Or.inr d4) (Or.inl rfl)]; rfl, HT.out.old⟩
end Go.Proofs.YtfnopcgmlfedfaaGreatDoor

namespace Go.Proofs.YtfnopcgmlfedfaaGreatDoor
open Go.RowKit

/-- The steps from one on lie where the later part of the row lies. -/
theorem StepsAt.tail0 {w : World} {a : Option Addr} {b o : Nat} {l : List Stp} (h : StepsAt w a b o l) (k : Nat) : StepsAt w (some ⟨b, o + k * 7, none⟩) b (o + k * 7) (l.drop k) where
  here _ := rfl
  lt hl := h.lt (by intro e; subst e; simp at hl)
  cell i s hi j u hu := by
    rw [List.getElem?_drop] at hi
    have := h.cell (k + i) s hi j u hu
    rw [show o + k * 7 + i * 7 + j = o + (k + i) * 7 + j by omega]
    exact this

end Go.Proofs.YtfnopcgmlfedfaaGreatDoor

namespace Go.Proofs.YtfnopcgmlfedfaaGreatDoor
open Go.RowKit

set_option maxRecDepth 20000 in
set_option maxHeartbeats 4000000 in
theorem tailS_any (q s fr b : Int) (k : Nat) (a : Option Addr) (b0 o cap : Nat) (l : List Stp) (w : World) (hl : l.length ≤ 1048576) (hs : StepsAt w a b0 o l) (hcap : l.length ≤ cap) (hk : k < l.length) :
    Calls Tryz.prog 55 #[.agg #[.int .i64 q, .int .i64 s, .slice a l.length cap, .int .i64 fr, .int .i64 b], .int .i64 (k : Int)] w
      fun e w' => ∃ g gc, e = .returned (.agg #[.int .i64 q, .int .i64 s, .slice (some ⟨g, 0, none⟩) (l.length - k) gc, .int .i64 fr, .int .i64 b]) ∧
        w'.ownsRow w.heap.size 74 7 (.slice (some ⟨g, 0, none⟩) (l.length - k) gc) (l.length - k) (stepCells (l.drop k)) ∧ Below w.heap.size w w' := by
  obtain ⟨i0, hi, hz0, hz1, hz2⟩ := info_parts step_info
  have hne : l ≠ [] := by intro e; subst e; simp at hk
  obtain rfl := hs.here hne
  have k0 : (0 : Int) ≤ (k : Int) := by omega
  have k1 : (k : Int) < (l.length : Int) := by omega
  have k2 : (l.length : Int) ≤ (cap : Int) := by omega
  have k3 : (k : Int) ≤ (l.length : Int) := by omega
  have hck : ¬ cap = k := by omega
  obtain ⟨W1, hW1⟩ : ∃ W1, (w.alloc (.cells #[.int .i64 q, .int .i64 s, .slice (some ⟨b0, o, none⟩) l.length cap, .int .i64 fr, .int .i64 b] 32)).alloc (.cells #[.int .i64 0, .int .i64 0, .slice none 0 0, .int .i64 0, .int .i64 0] 32) = W1 := ⟨_, rfl⟩
  have hz1' : W1.heap.size = w.heap.size + 1 + 1 := by rw [← hW1]; simp
  have X1 : PathAt W1 w.heap.size q s fr b (.slice (some ⟨b0, o, none⟩) l.length cap) := by
    rw [← hW1]
    exact (PathAt.new w q s fr b _).keep ((Below.refl _ _).alloc (Nat.le_refl _) _) (PathAt.new w q s fr b _).lt
  have Z1 : PathAt W1 (w.heap.size + 1) 0 0 0 0 (.slice none 0 0) := by
    have := PathAt.new (w.alloc (.cells #[.int .i64 q, .int .i64 s, .slice (some ⟨b0, o, none⟩) l.length cap, .int .i64 fr, .int .i64 b] 32)) 0 0 0 0 (.slice none 0 0)
    rw [World.size_alloc, hW1] at this
    exact this
  have B1 : Below w.heap.size w W1 := by
    rw [← hW1]
    exact ((Below.refl _ _).alloc (Nat.le_refl _) _).alloc (by simp) _
  have hE : (W1.alloc (.cells #[] 74)).ownsRow W1.heap.size 74 7 (.slice (some ⟨W1.heap.size, 0, none⟩) 0 0) 0 [] := owns_empty (Nat.le_refl _)
  rw [hz1'] at hE
  have hs0 := (hs.below B1 hs.lt).alloc (.cells #[] 74)
  have hs1 : StepsAt (W1.alloc (.cells #[] 74)).drew (some ⟨b0, o, none⟩) b0 o l := hs0.below (Below.refl (W1.alloc (.cells #[] 74)).heap.size _).drew hs0.lt
  have hnew := steps_news (hs1.tail0 k)
  have hnl : (stepCells (l.drop k)).length = (l.length - k) * 7 := by rw [stepCells_length, List.length_drop]
  have KEEP : ∀ w4 : World, (W1.alloc (.cells #[] 74)).drew.grownBy w4 (Value.slice (some ⟨w.heap.size + 1 + 1, 0, none⟩) 0 0).ownBlock → PathAt w4 w.heap.size q s fr b (.slice (some ⟨b0, o, none⟩) l.length cap) ∧ PathAt w4 (w.heap.size + 1) 0 0 0 0 (.slice none 0 0) ∧ Below w.heap.size w w4 := fun w4 hg => by
    have al : Below W1.heap.size W1 (W1.alloc (.cells #[] 74)).drew := ((Below.refl _ _).alloc (Nat.le_refl _) _).drew
    refine ⟨(X1.keep al X1.lt).grown hg (fun e => ?_), (Z1.keep al Z1.lt).grown hg (fun e => ?_), (B1.trans (al.mono B1.size)).grown hg ?_ (fun j e => ?_)⟩
    · simp [Value.ownBlock] at e <;> omega
    · simp [Value.ownBlock] at e <;> omega
    · simp [World.drew]; omega
    · simp [Value.ownBlock] at e <;> omega
  obtain ⟨⟨x0, x1, x2, x3, x4⟩, _⟩ := X1.cells
  obtain ⟨⟨y0, y1, y2, y3, y4⟩, yf⟩ := Z1.cells
  go_enter Tryz.func55, Tryz.ntmps55
  go_wp2_with fail
  clear hW1
  go_region_held3 (fun w' => w'.cell? ⟨w.heap.size, 0, none⟩ = some (.int .i64 q) ∧ w'.cell? ⟨w.heap.size, 1, none⟩ = some (.int .i64 s) ∧ w'.cell? ⟨w.heap.size, 2, none⟩ = some (.slice (some ⟨b0, o, none⟩) l.length cap) ∧ w'.cell? ⟨w.heap.size, 3, none⟩ = some (.int .i64 fr) ∧ w'.cell? ⟨w.heap.size, 4, none⟩ = some (.int .i64 b))
    (first | (simp [go_sem, *]; done) | (simp [go_sem, World.cell?_alloc_lt, *]; done))
    ((refine step_append_lies _ (by rfl) _ _ _ (by rfl) (w.heap.size + 1 + 1) 74 i0 _ 7 56 Tryz.underlying30 hi hz0 hz1 hz2 rfl (by decide) (.slice (some ⟨w.heap.size + 1 + 1, 0, none⟩) 0 0) 0 [] (by rfl) hE.drew ⟨b0, o + k * 7, none⟩ (l.length - k) (cap - k) (stepCells (l.drop k)) (by rfl) hnl hnew (stepCells_one _) (by omega) (by unfold maxLen; omega) (by omega) (by simp; omega) (w.heap.size + 1 + 1 + 1) (by simp; omega) ?_; intro g gc w4 ho4 hg4 hat4 hlt4; obtain ⟨X4, Z4, B4⟩ := KEEP w4 hg4; have X4c := X4.cells; have Z4c := Z4.cells; have p0 := X4c.1.1; have p1 := X4c.1.2.1; have p2 := X4c.1.2.2.1; have p3 := X4c.1.2.2.2.1; have p4 := X4c.1.2.2.2.2; have r0 := Z4c.1.1; have r1 := Z4c.1.2.1; have r2 := Z4c.1.2.2.1; have r3 := Z4c.1.2.2.2.1; have r4 := Z4c.1.2.2.2.2; have rf := Z4c.2))
  clear X4 Z4 X4c Z4c p0 p1 p2 p3 p4 x0 x1 x2 x3 x4 y0 y1 y2 y3 y4 yf KEEP hnew hs0 hs1 hg4 hE X1 Z1
  simp only [Nat.zero_add, List.nil_append] at ho4
  go_wp2
  refine bodyPost_ret (v := .agg #[.int .i64 q, .int .i64 s, .slice (some ⟨g, 0, none⟩) (l.length - k) gc, .int .i64 fr, .int .i64 b]) (by simp [results, Tryz.results55, go_sem, *]) rfl ⟨g, gc, rfl, ?_, ?_⟩
  · have hh : ∀ j, (Value.slice (some ⟨g, 0, none⟩) (l.length - k) gc).ownBlock = some j → j ≠ w.heap.size + 1 := fun j e => by have := owns_base ho4 j e; omega
    iterate 5 (refine owns_set ?_ hh _ _)
    exact ⟨ho4.1, ho4.2.imp id fun ⟨g, cap, cur, h1, h2, h3⟩ => ⟨g, cap, cur, h1, by omega, h3⟩⟩
  · iterate 5 (refine Below.setCell ?_ (by show _ ≤ w.heap.size + 1; omega) _)
    exact B4
end Go.Proofs.YtfnopcgmlfedfaaGreatDoor

namespace Go.Proofs.YtfnopcgmlfedfaaGreatDoor
open Go.RowKit

/-- One number of one step is written. -/
theorem row_put {w : World} {base g cap n : Nat} {l : List Stp} (h : w.ownsRow base 74 7 (.slice (some ⟨g, 0, none⟩) n cap) n (stepCells l)) {i j : Nat} {t t' : Stp} {u : Value} (ht : l[i]? = some t) (hj : j < 7) (he : t'.cells = t.cells.set j u) :
    (w.setCell ⟨g, i * 7 + j, none⟩ u).ownsRow base 74 7 (.slice (some ⟨g, 0, none⟩) n cap) n (stepCells (l.set i t')) := by
  have hi : i < l.length := (List.getElem?_eq_some_iff.1 ht).1
  have hn : l.length * 7 = n * 7 := by rw [← stepCells_length]; exact h.1
  rw [← stepCells_put l i j t t' u ht hj he]
  exact owns_put h (by omega) u
theorem row_put_set {w : World} {base g cap n : Nat} {l : List Stp} {i j : Nat} {t t' : Stp} {u : Value} (h : w.ownsRow base 74 7 (.slice (some ⟨g, 0, none⟩) n cap) n (stepCells (l.set i t))) (hi : i < l.length) (hj : j < 7) (he : t'.cells = t.cells.set j u) :
    (w.setCell ⟨g, i * 7 + j, none⟩ u).ownsRow base 74 7 (.slice (some ⟨g, 0, none⟩) n cap) n (stepCells (l.set i t')) := by
  have h1 := row_put h (j := j) (t := t) (t' := t') (u := u) (by rw [List.getElem?_set_self hi]) hj he
  rw [List.set_set] at h1
  exact h1
/-- All of one step is written. -/
theorem row_put7 {w : World} {base g cap n : Nat} {l : List Stp} (h : w.ownsRow base 74 7 (.slice (some ⟨g, 0, none⟩) n cap) n (stepCells l)) {i : Nat} {t : Stp} (ht : l[i]? = some t) (x y lo hi fr by_ : Int) (ho : Bool) :
    (((((((w.setCell ⟨g, i * 7, none⟩ (.int .i64 x)).setCell ⟨g, i * 7 + 1, none⟩ (.int .i64 y)).setCell ⟨g, i * 7 + 2, none⟩ (.int .i64 lo)).setCell ⟨g, i * 7 + 3, none⟩ (.int .i64 hi)).setCell ⟨g, i * 7 + 4, none⟩ (.int .i64 fr)).setCell ⟨g, i * 7 + 5, none⟩ (.int .i64 by_)).setCell ⟨g, i * 7 + 6, none⟩ (.bool ho)).ownsRow base 74 7 (.slice (some ⟨g, 0, none⟩) n cap) n (stepCells (l.set i { x := x, y := y, lo := lo, hi := hi, fr := fr, by_ := by_, ho := ho })) := by
  have hil : i < l.length := (List.getElem?_eq_some_iff.1 ht).1
  obtain ⟨a0, a1, a2, a3, a4, a5, a6⟩ := t
  have h0 := row_put h (j := 0) (t' := ⟨x, a1, a2, a3, a4, a5, a6⟩) (u := .int .i64 x) ht (by decide) rfl
  have h1 := row_put_set (t := ⟨x, a1, a2, a3, a4, a5, a6⟩) (t' := ⟨x, y, a2, a3, a4, a5, a6⟩) (j := 1) (u := .int .i64 y) h0 hil (by decide) rfl
  have h2 := row_put_set (t := ⟨x, y, a2, a3, a4, a5, a6⟩) (t' := ⟨x, y, lo, a3, a4, a5, a6⟩) (j := 2) (u := .int .i64 lo) h1 hil (by decide) rfl
  have h3 := row_put_set (t := ⟨x, y, lo, a3, a4, a5, a6⟩) (t' := ⟨x, y, lo, hi, a4, a5, a6⟩) (j := 3) (u := .int .i64 hi) h2 hil (by decide) rfl
  have h4 := row_put_set (t := ⟨x, y, lo, hi, a4, a5, a6⟩) (t' := ⟨x, y, lo, hi, fr, a5, a6⟩) (j := 4) (u := .int .i64 fr) h3 hil (by decide) rfl
  have h5 := row_put_set (t := ⟨x, y, lo, hi, fr, a5, a6⟩) (t' := ⟨x, y, lo, hi, fr, by_, a6⟩) (j := 5) (u := .int .i64 by_) h4 hil (by decide) rfl
  exact row_put_set (t := ⟨x, y, lo, hi, fr, by_, a6⟩) (t' := ⟨x, y, lo, hi, fr, by_, ho⟩) (j := 6) (u := .bool ho) h5 hil (by decide) rfl
/-- Steps that a call owns, as the walk meets them. -/
theorem steps_of {w : World} {base : Nat} {v : Value} {l : List Stp} (h : w.ownsRow base 74 7 v l.length (stepCells l)) : ∃ a b cap, v = .slice a l.length cap ∧ StepsAt w a b 0 l := by
  rcases h.2 with ⟨rfl, h0⟩ | ⟨g, cap, cur, rfl, _⟩
  · have : l = [] := List.eq_nil_of_length_eq_zero h0
    subst this
    exact ⟨none, 0, 0, rfl, ⟨fun h => absurd rfl h, fun h => absurd rfl h, fun i t hi => by simp at hi⟩⟩
  · exact ⟨some ⟨g, 0, none⟩, g, cap, rfl, steps_owned h⟩
end Go.Proofs.YtfnopcgmlfedfaaGreatDoor

namespace Go.Proofs.YtfnopcgmlfedfaaGreatDoor
open Go.RowKit

theorem grown_from_below {w w' : World} (h : Below w.heap.size w w') (row : Option Nat) : w.grownBy w' row := ⟨h.os, h.tape, h.output, h.size, fun k hk _ => h.block k hk⟩
theorem grown_new {a b : World} {row : Option Nat} (h : a.grownBy b row) {p : Addr} (hp : a.heap.size ≤ p.block) (v : Value) : a.grownBy (b.setCell p v) row :=
  ⟨h.os, h.tape, h.output, by simpa [World.setCell] using h.size, fun k hk hr => (heap_setCell_other b p k v (by omega)).trans (h.block k hk hr)⟩
theorem grown_at_row {a b : World} {g : Nat} (h : a.grownBy b (some g)) {p : Addr} (hp : p.block = g) (v : Value) : a.grownBy (b.setCell p v) (some g) := by
  have := grown_set b p v
  rw [hp] at this
  exact grown_over2 h this

set_option maxRecDepth 20000 in
set_option maxHeartbeats 4000000 in
theorem afterS_any (q s fr b nw : Int) (g gc base : Nat) (m : List Stp) (w : World) (hl : 1 ≤ m.length ∧ m.length ≤ 1048576) (ho : w.ownsRow base 74 7 (.slice (some ⟨g, 0, none⟩) m.length gc) m.length (stepCells m)) (hn : 0 ≤ nw ∧ nw ≤ 10000) :
    Calls Tryz.prog 57 #[.agg #[.int .i64 q, .int .i64 s, .slice (some ⟨g, 0, none⟩) m.length gc, .int .i64 fr, .int .i64 b], .int .i64 nw] w
      fun e w' => e = .returned (.agg #[.int .i64 q, .int .i64 s, .slice (some ⟨g, 0, none⟩) m.length gc, .int .i64 (afterFr fr m nw), .int .i64 b]) ∧ w'.ownsRow base 74 7 (.slice (some ⟨g, 0, none⟩) m.length gc) m.length (stepCells (afterL m nw)) ∧ w.grownBy w' (some g) := by
  obtain ⟨n0, n1⟩ := hn
  have hgl := owns_lt ho g rfl
  obtain ⟨W1, hW1⟩ : ∃ W1, (w.alloc (.cells #[.int .i64 q, .int .i64 s, .slice (some ⟨g, 0, none⟩) m.length gc, .int .i64 fr, .int .i64 b] 32)).alloc (.cells #[.int .i64 0, .int .i64 0, .slice none 0 0, .int .i64 0, .int .i64 0] 32) = W1 := ⟨_, rfl⟩
  have X1 : PathAt W1 w.heap.size q s fr b (.slice (some ⟨g, 0, none⟩) m.length gc) := by
    rw [← hW1]
    exact (PathAt.new w q s fr b _).keep ((Below.refl _ _).alloc (Nat.le_refl _) _) (PathAt.new w q s fr b _).lt
  have Z1 : PathAt W1 (w.heap.size + 1) 0 0 0 0 (.slice none 0 0) := by
    have := PathAt.new (w.alloc (.cells #[.int .i64 q, .int .i64 s, .slice (some ⟨g, 0, none⟩) m.length gc, .int .i64 fr, .int .i64 b] 32)) 0 0 0 0 (.slice none 0 0)
    rw [World.size_alloc, hW1] at this
    exact this
  have B1 : Below w.heap.size w W1 := by
    rw [← hW1]
    exact ((Below.refl _ _).alloc (Nat.le_refl _) _).alloc (by simp) _
  have ho1 := owns_below ho B1
  have hg1 : g < W1.heap.size := Nat.lt_of_lt_of_le hgl B1.size
  obtain ⟨⟨x0, x1, x2, x3, x4⟩, xf⟩ := X1.cells
  obtain ⟨⟨y0, y1, y2, y3, y4⟩, yf⟩ := Z1.cells
  by_cases h1 : 1 < m.length
  · obtain ⟨u1, hu⟩ : ∃ u, m[1]? = some u := ⟨_, List.getElem?_eq_getElem h1⟩
    have hud : m.getD 1 .zero = u1 := by rw [List.getD_eq_getElem?_getD, hu]; rfl
    obtain ⟨z, hz⟩ : ∃ z, mxB u1.fr (nw + 1) = z := ⟨_, rfl⟩
    have c11 : W1.cell? ⟨g, 11, none⟩ = some (.int .i64 u1.fr) := (ho1.cellAt 11 (by omega)).trans (stepCells_at _ 1 u1 4 hu (by decide))
    have HF : Hid (afterFr fr m nw = fr ∧ afterL m nw = m.set 1 { u1 with fr := z }) := by
      show _ ∧ _
      unfold afterFr afterL
      rw [if_pos h1, if_pos h1, hud, hz]
      exact ⟨rfl, rfl⟩
    have MX : ∀ (W : World), Calls Tryz.prog 52 #[.int .i64 u1.fr, .int .i64 (nw + 1)] W fun e w' => e = .returned (.int .i64 z) ∧ w' = W := fun W => by rw [← hz]; exact max_any _ _ _
    have m1 : (1 : Int) < (m.length : Int) := by omega
    have m0 : (0 : Int) < (m.length : Int) := by omega
    go_enter Tryz.func57, Tryz.ntmps57
    go_wp2
    clear hW1
    have qn := Cls.any W1
    have q1 := Cls.cell hg1
    have q2 := Cls.cell X1.lt
    refine wp_region_last (by kernel_rfl) (by simp) (by kernel_rfl) (by kernel_rfl) ?_
    simp only [initL, endL]
    repeat (go_big_quiet_step ((go_at_call 52; exact Calls.cls_of_same (MX _))))
    refine wpQuiet_nil ?_
    rintro _ ⟨u, rfl⟩
    have hou := owns_below ho1 u.same
    have XU := X1.keep u.same X1.lt
    have ZU := Z1.keep u.same Z1.lt
    have BU := B1.trans (u.same.mono B1.size)
    clear q1 q2 qn MX x0 x1 x2 x3 x4 xf y0 y1 y2 y3 y4 yf c11
    generalize u.it = U at *
    have t0 := (hou.cellAt 11 (by omega)).trans (stepCells_at _ 1 u1 4 hu (by decide))
    have tf := hou.frozenAt
    have HR := row_put hou (i := 1) (j := 4) (t' := { u1 with fr := z }) (u := .int .i64 z) hu (by decide) rfl
    obtain ⟨⟨x0, x1, x2, x3, x4⟩, xf⟩ := XU.cells
    obtain ⟨⟨y0, y1, y2, y3, y4⟩, yf⟩ := ZU.cells
    have HO : Hid ((U.setCell ⟨g, 11, none⟩ (.int .i64 z)).ownsRow base 74 7 (.slice (some ⟨g, 0, none⟩) m.length gc) m.length (stepCells (m.set 1 { u1 with fr := z }))) := HR
    have gn0 : g ≠ w.heap.size := by omega
    have gn1 : g ≠ w.heap.size + 1 := by omega
    clear HR hou ho1 ho hz
    go_wp2
    refine bodyPost_ret (v := .agg #[.int .i64 q, .int .i64 s, .slice (some ⟨g, 0, none⟩) m.length gc, .int .i64 fr, .int .i64 b]) (by simp [results, Tryz.results57, go_sem, *]) rfl ⟨by rw [HF.out.1], ?_, ?_⟩
    · rw [HF.out.2]
      have hh : ∀ j, (Value.slice (some ⟨g, 0, none⟩) m.length gc).ownBlock = some j → j ≠ w.heap.size + 1 := fun j e => by simp [Value.ownBlock] at e; omega
      iterate 5 (refine owns_set ?_ hh _ _)
      exact HO.out
    · iterate 5 (refine grown_new ?_ (by show _ ≤ w.heap.size + 1; omega) _)
      exact grown_at_row (grown_from_below BU _) rfl _
  · have HF : Hid (afterFr fr m nw = mxB fr (nw + 1) ∧ afterL m nw = m) := by
      show _ ∧ _
      unfold afterFr afterL
      rw [if_neg h1, if_neg h1]
      exact ⟨rfl, rfl⟩
    obtain ⟨z, hz⟩ : ∃ z, mxB fr (nw + 1) = z := ⟨_, rfl⟩
    have MX : ∀ (W : World), Calls Tryz.prog 52 #[.int .i64 fr, .int .i64 (nw + 1)] W fun e w' => e = .returned (.int .i64 z) ∧ w' = W := fun W => by rw [← hz]; exact max_any _ _ _
    have m1 : ¬ (1 : Int) < (m.length : Int) := by omega
    go_enter Tryz.func57, Tryz.ntmps57
    go_wp2_with fail
    refine (MX _).mono ?_
    rintro e w2 ⟨rfl, rfl⟩
    have BU : Hid (Below w.heap.size w w2) := B1
    have HO : Hid (w2.ownsRow base 74 7 (.slice (some ⟨g, 0, none⟩) m.length gc) m.length (stepCells m)) := ho1
    clear hW1 MX B1 ho1 ho
    go_wp2
    refine bodyPost_ret (v := .agg #[.int .i64 q, .int .i64 s, .slice (some ⟨g, 0, none⟩) m.length gc, .int .i64 z, .int .i64 b]) (by simp [results, Tryz.results57, go_sem, *]) rfl ⟨by rw [HF.out.1, hz], ?_, ?_⟩
    · rw [HF.out.2]
      have hh : ∀ j, (Value.slice (some ⟨g, 0, none⟩) m.length gc).ownBlock = some j → j ≠ w.heap.size + 1 := fun j e => by simp [Value.ownBlock] at e; omega
      have hx : ∀ j, (Value.slice (some ⟨g, 0, none⟩) m.length gc).ownBlock = some j → j ≠ w.heap.size := fun j e => by simp [Value.ownBlock] at e; omega
      iterate 5 (refine owns_set ?_ hh _ _)
      exact owns_set HO.out hx _ _
    · iterate 6 (refine grown_new ?_ (by first | (show _ ≤ w.heap.size + 1; omega) | (show _ ≤ w.heap.size; omega)) _)
      exact grown_from_below BU.out _

set_option maxRecDepth 20000 in
set_option maxHeartbeats 4000000 in
theorem canS_any (q s fr b : Int) (g gc base : Nat) (m : List Stp) (w : World) (hW : Wide q s fr b m) (ho : w.ownsRow base 74 7 (.slice (some ⟨g, 0, none⟩) m.length gc) m.length (stepCells m)) (_hbase : base ≤ w.heap.size) :
    Calls Tryz.prog 56 #[.agg #[.int .i64 q, .int .i64 s, .slice (some ⟨g, 0, none⟩) m.length gc, .int .i64 fr, .int .i64 b]] w
      fun e w' => Below w.heap.size w w' ∧ ∃ v, e = .returned (.tuple #[.agg #[.int .i64 (canA q s fr b m).q, .int .i64 (canA q s fr b m).s, v, .int .i64 (canA q s fr b m).fr, .int .i64 (canA q s fr b m).b], .bool (canA q s fr b m).ok]) ∧ w'.ownsRow base 74 7 v (canA q s fr b m).l.length (stepCells (canA q s fr b m).l) := by
  have hgl := owns_lt ho g rfl
  have hst := steps_owned ho
  have Q0 := PathAt.new w q s fr b (.slice (some ⟨g, 0, none⟩) m.length gc)
  have P0 := PathAt.new (w.alloc (.cells #[.int .i64 q, .int .i64 s, .slice (some ⟨g, 0, none⟩) m.length gc, .int .i64 fr, .int .i64 b] 32)) 0 0 0 0 (.slice none 0 0)
  rw [World.size_alloc] at P0
  have Q1 := Q0.keep ((Below.refl _ _).alloc (Nat.le_refl _) (.cells #[.int .i64 0, .int .i64 0, .slice none 0 0, .int .i64 0, .int .i64 0] 32)) Q0.lt
  have B0 : Below w.heap.size w ((w.alloc (.cells #[.int .i64 q, .int .i64 s, .slice (some ⟨g, 0, none⟩) m.length gc, .int .i64 fr, .int .i64 b] 32)).alloc (.cells #[.int .i64 0, .int .i64 0, .slice none 0 0, .int .i64 0, .int .i64 0] 32)) := ((Below.refl _ _).alloc (Nat.le_refl _) _).alloc (by simp) _
  go_enter Tryz.func56, Tryz.ntmps56
  go_wp2_with fail
  refine (spansS_wide _ _ _ _ _ g 0 _ _ _ ((hst.alloc _).alloc _) hW).mono ?_
  rintro e w1 ⟨v1, rfl, _, hb1⟩
  have P1 := P0.keep hb1 P0.lt
  have Q2 := Q1.keep hb1 Q1.lt
  have B1 := B0.trans (hb1.mono B0.size)
  have ho1 := owns_below ho B1
  obtain ⟨⟨x0, x1, x2, x3, x4⟩, xf⟩ := Q2.cells
  obtain ⟨⟨f0, f1, f2, f3, f4⟩, ff⟩ := P1.cells
  clear hb1 P0 Q0 Q1 B0 hst
  cases hsp : spanB q s fr b m with
  | false =>
    have HA : Hid (canA q s fr b m = .no) := by show _ = _; unfold canA; rw [hsp]; rfl
    go_wp2
    refine bodyPost_ret (v := .tuple #[.agg #[.int .i64 0, .int .i64 0, .slice none 0 0, .int .i64 0, .int .i64 0], .bool false]) (by simp [results, Tryz.results56, go_sem, *]) rfl ⟨?_, _, by rw [HA.out]; rfl, by rw [HA.out]; exact World.ownsRow_nil _ _ _ _⟩
    iterate 5 (refine Below.setCell ?_ (by show _ ≤ w.heap.size + 1; omega) _)
    exact B1
  | true =>
    have HA : Hid (canA q s fr b m = { q := q, s := s, fr := fr, b := b, l := m, ok := true }) := by show _ = _; unfold canA; rw [hsp]; rfl
    go_wp2
    refine bodyPost_ret (v := .tuple #[.agg #[.int .i64 q, .int .i64 s, .slice (some ⟨g, 0, none⟩) m.length gc, .int .i64 fr, .int .i64 b], .bool true]) (by simp [results, Tryz.results56, go_sem, *]) rfl ⟨?_, _, by rw [HA.out], ?_⟩
    · iterate 5 (refine Below.setCell ?_ (by show _ ≤ w.heap.size + 1; omega) _)
      exact B1
    · rw [HA.out]
      have hh : ∀ j, (Value.slice (some ⟨g, 0, none⟩) m.length gc).ownBlock = some j → j ≠ w.heap.size + 1 := fun j e => by simp [Value.ownBlock] at e; omega
      iterate 5 (refine owns_set ?_ hh _ _)
      exact ho1
end Go.Proofs.YtfnopcgmlfedfaaGreatDoor

namespace Go.Proofs.YtfnopcgmlfedfaaGreatDoor
open Go.RowKit

/-- What lies while the specification cuts a path. -/
structure RsD (w wr : World) (B : Nat) (q s fr b : Int) (v : Value) (m : List Stp) : Prop where
  old : Below w.heap.size w wr
  lt : w.heap.size + 1 < B
  pa : PathAt wr B q s fr b v
  res : PathAt wr (w.heap.size + 1) 0 0 0 0 (.slice none 0 0)
  own : wr.ownsRow (w.heap.size + 2) 74 7 v m.length (stepCells m)
section
variable {w wr w' : World} {B : Nat} {q s fr b : Int} {v : Value} {m : List Stp}
theorem RsD.gB (h : RsD w wr B q s fr b v m) : ∀ k, v.ownBlock = some k → k ≠ B ∧ w.heap.size + 1 < k := fun k hk => ⟨row_not_path h.own h.pa k hk, owns_base h.own k hk⟩
theorem RsD.below (h : RsD w wr B q s fr b v m) (hb : Below wr.heap.size wr w') : RsD w w' B q s fr b v m :=
  ⟨h.old.trans (hb.mono h.old.size), h.lt, h.pa.keep hb h.pa.lt, h.res.keep hb h.res.lt, owns_below h.own hb⟩
theorem RsD.put {g gc : Nat} (h : RsD w wr B q s fr b (.slice (some ⟨g, 0, none⟩) m.length gc) m) {i j : Nat} {t t' : Stp} {u : Value} (ht : m[i]? = some t) (hj : j < 7) (he : t'.cells = t.cells.set j u) :
    RsD w (wr.setCell ⟨g, i * 7 + j, none⟩ u) B q s fr b (.slice (some ⟨g, 0, none⟩) (m.set i t').length gc) (m.set i t') := by
  rw [List.length_set]
  obtain ⟨h1, h2⟩ := h.gB g rfl
  exact ⟨h.old.setCell (p := ⟨g, i * 7 + j, none⟩) (by show _ ≤ g; omega) u, h.lt, h.pa.set (by show B ≠ g; omega) u, h.res.set (by show w.heap.size + 1 ≠ g; omega) u, by have := row_put h.own ht hj he; rw [List.length_set]; exact this⟩
theorem RsD.after {g gc : Nat} {m' : List Stp} (h : RsD w wr B q s fr b (.slice (some ⟨g, 0, none⟩) m.length gc) m) (hl : m'.length = m.length) (hr : w'.ownsRow (w.heap.size + 2) 74 7 (.slice (some ⟨g, 0, none⟩) m.length gc) m.length (stepCells m')) (hg : wr.grownBy w' (some g)) :
    PathAt w' (w.heap.size + 1) 0 0 0 0 (.slice none 0 0) ∧ Below w.heap.size w w' ∧ w'.ownsRow (w.heap.size + 2) 74 7 (.slice (some ⟨g, 0, none⟩) m'.length gc) m'.length (stepCells m') := by
  obtain ⟨h1, h2⟩ := h.gB g rfl
  refine ⟨h.res.grown hg (fun e => by cases e; omega), h.old.grown hg h.old.size (fun j e => by cases e; omega), ?_⟩
  rw [hl]
  exact hr
end
theorem afterFr_enter (fr : Int) (m : List Stp) (x y nw : Int) : afterFr fr (enterL m x y) nw = afterFr fr m nw := by unfold afterFr; rw [enterL_length]
theorem owns_cap {w : World} {base e size n g cap : Nat} {xs : List Value} (h : w.ownsRow base e size (.slice (some ⟨g, 0, none⟩) n cap) n xs) : n ≤ cap := by
  rcases h.2 with ⟨h0, _⟩ | ⟨g', cap', cur, h1, h2, h3, h4, h5, h6, h7⟩
  · cases h0
  · simp only [Value.slice.injEq, Option.some.injEq, Addr.mk.injEq, and_true, true_and] at h1
    obtain ⟨rfl, rfl⟩ := h1
    omega
end Go.Proofs.YtfnopcgmlfedfaaGreatDoor

namespace Go.Proofs.YtfnopcgmlfedfaaGreatDoor
open Go.RowKit

set_option maxRecDepth 20000 in
set_option maxHeartbeats 8000000 in
theorem flySeenS_any (q s fr b st nw : Int) (a : Option Addr) (b0 o cap : Nat) (l : List Stp) (w : World) (hl : l.length ≤ 1048576) (hs : StepsAt w a b0 o l) (hcap : l.length ≤ cap) :
    Calls Tryz.prog 37 #[.agg #[.int .i64 q, .int .i64 s, .slice a l.length cap, .int .i64 fr, .int .i64 b], .int .i64 st, .int .i64 nw] w (Gives (seenA q s fr b l st nw) w) := by
  have Q0 := PathAt.new w q s fr b (.slice a l.length cap)
  have P0 := PathAt.new (w.alloc (.cells #[.int .i64 q, .int .i64 s, .slice a l.length cap, .int .i64 fr, .int .i64 b] 32)) 0 0 0 0 (.slice none 0 0)
  rw [World.size_alloc] at P0
  have Q1 := Q0.keep ((Below.refl _ _).alloc (Nat.le_refl _) (.cells #[.int .i64 0, .int .i64 0, .slice none 0 0, .int .i64 0, .int .i64 0] 32)) Q0.lt
  have B0 : Below w.heap.size w ((w.alloc (.cells #[.int .i64 q, .int .i64 s, .slice a l.length cap, .int .i64 fr, .int .i64 b] 32)).alloc (.cells #[.int .i64 0, .int .i64 0, .slice none 0 0, .int .i64 0, .int .i64 0] 32)) := ((Below.refl _ _).alloc (Nat.le_refl _) _).alloc (by simp) _
  have NO : ∀ (W : World), seenA q s fr b l st nw = .no → Below w.heap.size w W → Gives (seenA q s fr b l st nw) w (.returned (.tuple #[.agg #[.int .i64 0, .int .i64 0, .slice none 0 0, .int .i64 0, .int .i64 0], .bool false])) W := fun W h hb => by rw [h]; exact Gives.none rfl hb
  go_enter Tryz.func37, Tryz.ntmps37
  go_wp2_with fail
  refine (pathS_any q s fr b a b0 o cap l _ hl ((hs.alloc _).alloc _)).mono ?_
  rintro e w1 ⟨rfl, hb1⟩
  have P1 := P0.keep hb1 P0.lt
  have Q2 := Q1.keep hb1 Q1.lt
  have B1 := B0.trans (hb1.mono B0.size)
  have z1 := P1.lt
  obtain ⟨⟨f0, f1, f2, f3, f4⟩, ff⟩ := P1.cells
  obtain ⟨⟨x0, x1, x2, x3, x4⟩, xf⟩ := Q2.cells
  clear hb1 P0 B0 Q0 Q1
  cases hp : pathB q s fr b l with
  | false =>
    have HA : Hid (seenA q s fr b l st nw = .no) := by show _ = _; unfold seenA inStepB; rw [hp]; rfl
    go_wp2
    refine bodyPost_ret (v := .tuple #[.agg #[.int .i64 0, .int .i64 0, .slice none 0 0, .int .i64 0, .int .i64 0], .bool false]) (by simp [results, Tryz.results37, go_sem, *]) rfl (NO _ HA.out ?_)
    iterate 5 (refine Below.setCell ?_ (by show _ ≤ w.heap.size + 1; omega) _)
    exact B1
  | true =>
    have hlen := path_len hp
    go_wp2_with fail
    refine (in_any st 0 ((l.length : Int) - 1) _).mono ?_
    rintro e wx ⟨rfl, rfl⟩
    cases hst : inB st 0 ((l.length : Int) - 1) with
    | false =>
      have HA : Hid (seenA q s fr b l st nw = .no) := by show _ = _; unfold seenA inStepB; rw [hp, hst]; rfl
      go_wp2
      refine bodyPost_ret (v := .tuple #[.agg #[.int .i64 0, .int .i64 0, .slice none 0 0, .int .i64 0, .int .i64 0], .bool false]) (by simp [results, Tryz.results37, go_sem, *]) rfl (NO _ HA.out ?_)
      iterate 5 (refine Below.setCell ?_ (by show _ ≤ w.heap.size + 1; omega) _)
      exact B1
    | true =>
      have hst' := (inB_iff _ _ _).1 hst
      obtain ⟨k, rfl⟩ : ∃ k : Nat, st = (k : Int) := ⟨st.toNat, by omega⟩
      have hk : k < l.length := by omega
      have k0 : (0 : Int) ≤ (k : Int) := by omega
      have k1 : (k : Int) < (l.length : Int) := by omega
      obtain ⟨m, hm⟩ : ∃ m, l.drop k = m := ⟨_, rfl⟩
      have hml : m.length = l.length - k := by rw [← hm, List.length_drop]
      have HP : Hid (pathB q s fr b l = true) := hp
      go_wp2_with fail
      refine (in_any nw 0 10000 _).mono ?_
      rintro e wx2 ⟨rfl, rfl⟩
      cases hnw : inB nw 0 10000 with
      | false =>
        have HA : Hid (seenA q s fr b l k nw = .no) := by show _ = _; unfold seenA inStepB; rw [hp, hst, hnw]; rfl
        go_wp2
        refine bodyPost_ret (v := .tuple #[.agg #[.int .i64 0, .int .i64 0, .slice none 0 0, .int .i64 0, .int .i64 0], .bool false]) (by simp [results, Tryz.results37, go_sem, *]) rfl (NO _ HA.out ?_)
        iterate 5 (refine Below.setCell ?_ (by show _ ≤ w.heap.size + 1; omega) _)
        exact B1
      | true =>
      have hti : inStepB q s fr b l k nw = true := by unfold inStepB; rw [hp, hst, hnw]; rfl
      have HN : Hid (0 ≤ nw ∧ nw ≤ 10000) := (inB_iff _ _ _).1 hnw
      go_wp2_with fail
      refine (spansS_wide q s fr b a b0 o cap l _ (hs.below B1 hs.lt) (Wide.of HP.out)).mono ?_
      rintro e w2 ⟨v2, rfl, ho2, hb2⟩
      have P2 := P1.keep hb2 P1.lt
      have Q3 := Q2.keep hb2 Q2.lt
      have B2 := B1.trans (hb2.mono B1.size)
      clear hb2 P1 Q2 B1 f0 f1 f2 f3 f4 ff x0 x1 x2 x3 x4 xf
      obtain ⟨⟨f0, f1, f2, f3, f4⟩, ff⟩ := P2.cells
      obtain ⟨⟨x0, x1, x2, x3, x4⟩, xf⟩ := Q3.cells
      cases hsb : spanB q s fr b l with
      | false =>
        have HA : Hid (seenA q s fr b l k nw = .no) := by show _ = _; unfold seenA; rw [hsb, Bool.and_false]; rfl
        have B1 := B2
        go_wp2
        refine bodyPost_ret (v := .tuple #[.agg #[.int .i64 0, .int .i64 0, .slice none 0 0, .int .i64 0, .int .i64 0], .bool false]) (by simp [results, Tryz.results37, go_sem, *]) rfl (NO _ HA.out ?_)
        iterate 5 (refine Below.setCell ?_ (by show _ ≤ w.heap.size + 1; omega) _)
        exact B1
      | true =>
      obtain ⟨x, hx'⟩ : ∃ x, spanOf q s fr b l k = x := ⟨_, rfl⟩
      obtain ⟨n1, hn1⟩ : ∃ n1, x.1 = n1 := ⟨_, rfl⟩
      obtain ⟨n2, hn2⟩ : ∃ n2, mnB x.2 nw = n2 := ⟨_, rfl⟩
      have HA : Hid (seenA q s fr b l k nw = canA q s (leftFr fr l k nw) b (leftL l k n1 n2 nw)) := by
        show _ = _; unfold seenA; rw [hti, hsb, Int.toNat_natCast, hx', hn1, hn2]; rfl
      have hsl : (spansL q s fr b l).length = l.length + 1 := by unfold spansL; rw [if_pos hsb]; simp
      have hgx : (spansL q s fr b l)[k]? = some x := by unfold spansL; rw [if_pos hsb, List.getElem?_map, List.getElem?_range (by omega), ← hx']; rfl
      have hx := span_lo HP.out hsb (Nat.le_of_lt hk)
      rw [hx', hn1] at hx
      have hy : n2 ≤ 10000 := by have := mnB_le x.2 nw; have := HN.out; omega
      have MN : ∀ (W : World), Calls Tryz.prog 53 #[.int .i64 x.2, .int .i64 nw] W fun e w' => e = .returned (.int .i64 n2) ∧ w' = W := fun W => by rw [← hn2]; exact min_any _ _ _
      rw [hsl] at ho2
      obtain ⟨g3, k3, rfl, _, hg3⟩ := owns_some ho2 (by omega)
      have r0 : w2.cell? ⟨g3, k * 2, none⟩ = some (.int .i64 n1) := by rw [← hn1]; exact (ho2.cellAt (k * 2) (by omega)).trans (spanCells_get _ k x hgx).1
      have r1 : w2.cell? ⟨g3, k * 2 + 1, none⟩ = some (.int .i64 x.2) := (ho2.cellAt (k * 2 + 1) (by omega)).trans (spanCells_get _ k x hgx).2
      have k1' : (k : Int) < ((l.length + 1 : Nat) : Int) := by omega
      have k2' : (k : Int) < (l.length : Int) + 1 := by omega
      obtain ⟨t, ht⟩ : ∃ t, l.getD k .zero = t := ⟨_, rfl⟩
      have htm : m[0]? = some t := by
        rw [← hm, List.getElem?_drop, Nat.add_zero]
        have := List.getElem?_eq_getElem hk
        rw [← ht, List.getD_eq_getElem?_getD, this]; rfl
      have htd : m.getD 0 .zero = t := by rw [List.getD_eq_getElem?_getD, htm]; rfl
      clear NO hn1 hn2 hx' hp hst hst' hnw hti hsb ho2 hgx hsl
      go_wp2_with fail
      refine (tailS_any q s fr b k a b0 o cap l w2 hl (hs.below B2 hs.lt) hcap hk).mono ?_
      rintro e w3 ⟨g, gc, rfl, ho3, hb3⟩
      rw [hm] at ho3
      have hgg : w2.heap.size ≤ g := owns_base ho3 g rfl
      have al3 : Below w2.heap.size w2 (w3.alloc (.cells #[.int .i64 q, .int .i64 s, .slice (some ⟨g, 0, none⟩) (l.length - k) gc, .int .i64 fr, .int .i64 b] 32)) := hb3.alloc hb3.size _
      have r0' := (al3.cell (p := ⟨g3, k * 2, none⟩) hg3).trans r0
      have r1' := (al3.cell (p := ⟨g3, k * 2 + 1, none⟩) hg3).trans r1
      have hg3' := Nat.lt_of_lt_of_le hg3 al3.size
      have D3 : RsD w (w3.alloc (.cells #[.int .i64 q, .int .i64 s, .slice (some ⟨g, 0, none⟩) (l.length - k) gc, .int .i64 fr, .int .i64 b] 32)) w3.heap.size q s fr b (.slice (some ⟨g, 0, none⟩) m.length gc) m := by
        have P3 := P2.keep hb3 P2.lt
        have B3 := B2.trans (hb3.mono B2.size)
        have z2 := P2.lt
        have ho3' : w3.ownsRow (w.heap.size + 2) 74 7 (.slice (some ⟨g, 0, none⟩) m.length gc) m.length (stepCells m) := by
          rw [hml]
          exact ⟨ho3.1, ho3.2.imp id fun ⟨g', cap', cur, h1, h2, h3⟩ => ⟨g', cap', cur, h1, by omega, h3⟩⟩
        exact ⟨B3.alloc B3.size _, P3.lt, by rw [hml]; exact PathAt.new w3 q s fr b _, P3.keep ((Below.refl _ _).alloc (Nat.le_refl _) _) P3.lt, owns_below ho3' ((Below.refl _ _).alloc (Nat.le_refl _) _)⟩
      clear ho3 hb3 P2 B2 Q3 r0 r1 al3 f0 f1 f2 f3 f4 ff x0 x1 x2 x3 x4 xf
      have l0 : (0 : Int) < ((l.length - k : Nat) : Int) := by omega
      go_wp2
      generalize w3.heap.size = B at *
      generalize w3.alloc (.cells #[.int .i64 q, .int .i64 s, .slice (some ⟨g, 0, none⟩) (l.length - k) gc, .int .i64 fr, .int .i64 b] 32) = W4 at *
      have hgl : g < W4.heap.size := owns_lt D3.own g rfl
      have hBl : B < W4.heap.size := D3.pa.lt
      obtain ⟨⟨e0, e1, e2, e3, e4⟩, ef⟩ := D3.pa.cells
      rw [hml] at e2
      have qn := Cls.any W4
      have q1 := Cls.cell hgl
      have q2 := Cls.cell hBl
      have q3 := Cls.cell hg3'
      refine wp_region_last (by kernel_rfl) (by simp) (by kernel_rfl) (by kernel_rfl) ?_
      simp only [initL, endL]
      repeat (go_big_quiet_step (fail))
      refine wpQuiet_nil ?_
      rintro _ ⟨u, rfl⟩
      have D4 := D3.below u.same
      have r2 := (u.same.cell (p := ⟨g3, k * 2 + 1, none⟩) hg3').trans r1'
      have hg4' := Nat.lt_of_lt_of_le hg3' u.same.size
      clear q1 q2 q3 qn e0 e1 e2 e3 e4 ef r0' r1' D3 hgl hBl hg3'
      generalize u.it = U at *
      have t0 := (D4.own.cellAt 4 (by omega)).trans (stepCells_at _ 0 t 4 htm (by decide))
      have tf := D4.own.frozenAt
      have D5 := D4.put (i := 0) (j := 4) (t' := { t with fr := n1 }) (u := .int .i64 n1) htm (by decide) rfl
      have D5' : RsD w (U.setCell ⟨g, 4, none⟩ (.int .i64 n1)) B q s fr b (.slice (some ⟨g, 0, none⟩) (m.set 0 { t with fr := n1 }).length gc) (m.set 0 { t with fr := n1 }) := D5
      have r3 : (U.setCell ⟨g, 4, none⟩ (.int .i64 n1)).cell? ⟨g3, k * 2 + 1, none⟩ = some (.int .i64 x.2) := by
        rw [World.cell?_setCell_other _ _ _ _ (by intro e; have := congrArg Addr.block e; simp at this; omega)]
        exact r2
      have hg5' : g3 < (U.setCell ⟨g, 4, none⟩ (.int .i64 n1)).heap.size := by simpa [World.setCell] using hg4'
      clear D5 D4 r2 hg4'
      go_wp2
      clear t0 tf
      generalize U.setCell ⟨g, 4, none⟩ (.int .i64 n1) = W5 at *
      have hn0 : (m.set 0 { t with fr := n1 })[0]? = some { t with fr := n1 } := List.getElem?_set_self (by omega)
      have hgl : g < W5.heap.size := owns_lt D5'.own g rfl
      have hBl : B < W5.heap.size := D5'.pa.lt
      obtain ⟨⟨e0, e1, e2, e3, e4⟩, ef⟩ := D5'.pa.cells
      rw [List.length_set, hml] at e2
      have qn := Cls.any W5
      have q1 := Cls.cell hgl
      have q2 := Cls.cell hBl
      have q3 := Cls.cell hg5'
      refine wp_region_last (by kernel_rfl) (by simp) (by kernel_rfl) (by kernel_rfl) ?_
      simp only [initL, endL]
      repeat (go_big_quiet_step ((go_at_call 53; exact Calls.cls_of_same (MN _))))
      refine wpQuiet_nil ?_
      rintro _ ⟨u2, rfl⟩
      have D6 := D5'.below u2.same
      clear q1 q2 q3 qn MN e0 e1 e2 e3 e4 ef r3 D5' hgl hBl hg5'
      generalize u2.it = U2 at *
      have t0 := (D6.own.cellAt 5 (by rw [List.length_set]; omega)).trans (stepCells_at _ 0 { t with fr := n1 } 5 hn0 (by decide))
      have tf := D6.own.frozenAt
      have D7 : RsD w (U2.setCell ⟨g, 5, none⟩ (.int .i64 n2)) B q s fr b (.slice (some ⟨g, 0, none⟩) (enterL m n1 n2).length gc) (enterL m n1 n2) := by
        have D7 := D6.put (i := 0) (j := 5) (t' := { t with fr := n1, by_ := n2 }) (u := .int .i64 n2) hn0 (by decide) rfl
        rw [List.set_set] at D7
        unfold enterL
        rw [htd]
        exact D7
      obtain ⟨⟨e0, e1, e2, e3, e4⟩, ef⟩ := D6.pa.cells
      rw [List.length_set, hml] at e2
      have gnB : g ≠ B := (D6.gB g rfl).1
      clear D6
      have hel : (enterL m n1 n2).length = l.length - k := by rw [enterL_length, ← hm, List.length_drop]
      go_wp2_with fail
      clear t0 tf e0 e1 e2 e3 e4 ef
      generalize U2.setCell ⟨g, 5, none⟩ (.int .i64 n2) = W7 at *
      have hAf : Calls Tryz.prog 57 #[.agg #[.int .i64 q, .int .i64 s, .slice (some ⟨g, 0, none⟩) (l.length - k) gc, .int .i64 fr, .int .i64 b], .int .i64 nw] W7
          fun e w' => e = .returned (.agg #[.int .i64 q, .int .i64 s, .slice (some ⟨g, 0, none⟩) (l.length - k) gc, .int .i64 (leftFr fr l k nw), .int .i64 b]) ∧ PathAt w' (w.heap.size + 1) 0 0 0 0 (.slice none 0 0) ∧ Below w.heap.size w w' ∧ w'.ownsRow (w.heap.size + 2) 74 7 (.slice (some ⟨g, 0, none⟩) (leftL l k n1 n2 nw).length gc) (leftL l k n1 n2 nw).length (stepCells (leftL l k n1 n2 nw)) := by
        have hh := afterS_any q s fr b nw g gc (w.heap.size + 2) (enterL m n1 n2) W7 (by rw [hel]; omega) D7.own HN.out
        rw [afterFr_enter, hel] at hh
        refine hh.mono fun e w' ⟨he, hr, hg⟩ => ⟨?_, ?_⟩
        · rw [he]; unfold leftFr; rw [hm]
        · have := D7.after (m' := leftL l k n1 n2 nw) (by rw [leftL_length, hel]) (by rw [hel]; unfold leftL; rw [hm]; exact hr) hg
          exact this
      refine hAf.mono ?_
      rintro e w8 ⟨rfl, Z8, B8, ho8⟩
      have hlL : (leftL l k n1 n2 nw).length = l.length - k := leftL_length l k n1 n2 nw
      have hCa := canS_any q s (leftFr fr l k nw) b g gc (w.heap.size + 2) (leftL l k n1 n2 nw) w8 (left_wide HP.out hk hx hy HN.out.1) ho8 (by have := Z8.lt; omega)
      rw [hlL] at hCa
      clear hAf D7 ho8
      generalize canA q s (leftFr fr l k nw) b (leftL l k n1 n2 nw) = A at hCa HA
      go_wp2_with fail
      refine hCa.mono ?_
      rintro e w9 ⟨hb9, v9, rfl, ho9⟩
      obtain ⟨a9, j9, c9, hv9, _⟩ := steps_of ho9
      subst hv9
      have Z9 := Z8.keep hb9 Z8.lt
      have B9 := B8.trans (hb9.mono B8.size)
      obtain ⟨⟨f0, f1, f2, f3, f4⟩, ff⟩ := Z9.cells
      clear hb9 Z8 B8 hCa
      go_wp2
      refine bodyPost_ret (v := .tuple #[.agg #[.int .i64 A.q, .int .i64 A.s, .slice a9 A.l.length c9, .int .i64 A.fr, .int .i64 A.b], .bool A.ok]) (by simp [results, Tryz.results37, go_sem, *]) rfl ?_
      rw [HA.out]
      refine ⟨_, rfl, ?_, ?_⟩
      · have hh : ∀ j, (Value.slice a9 A.l.length c9).ownBlock = some j → j ≠ w.heap.size + 1 := fun j e => by have := owns_base ho9 j e; omega
        iterate 5 (refine owns_set ?_ hh _ _)
        exact ⟨ho9.1, ho9.2.imp id fun ⟨g, cap, cur, h1, h2, h3⟩ => ⟨g, cap, cur, h1, by omega, h3⟩⟩
      · iterate 5 (refine Below.setCell ?_ (by show _ ≤ w.heap.size + 1; omega) _)
        exact B9
end Go.Proofs.YtfnopcgmlfedfaaGreatDoor

namespace Go.Proofs.YtfnopcgmlfedfaaGreatDoor
open Go.RowKit

/-- A step that was entered at a tick. -/
def Stp.hold (t : Stp) (z : Int) : Stp := { t with fr := mxB t.fr z, by_ := mnB t.by_ z }
/-- The steps, the first k of them held. -/
def heldL (l : List Stp) (zs : List Int) (k : Nat) : List Stp := (List.range l.length).map fun i => if i < k then (l.getD i .zero).hold (zs.getD i 0) else l.getD i .zero
theorem heldL_length (l : List Stp) (zs : List Int) (k : Nat) : (heldL l zs k).length = l.length := by simp [heldL]
theorem heldL_get (l : List Stp) (zs : List Int) (k i : Nat) (h : i < l.length) : (heldL l zs k)[i]? = some (if i < k then (l.getD i .zero).hold (zs.getD i 0) else l.getD i .zero) := by simp [heldL, h]
theorem getD_some {l : List Stp} {i : Nat} (h : i < l.length) : l[i]? = some (l.getD i .zero) := by
  rw [List.getD_eq_getElem?_getD, List.getElem?_eq_getElem h]; rfl
theorem getD_is {l : List Stp} {i : Nat} {t : Stp} (h : l[i]? = some t) : l.getD i .zero = t := by rw [List.getD_eq_getElem?_getD, h]; rfl
theorem heldL_zero (l : List Stp) (zs : List Int) : heldL l zs 0 = l := by
  apply List.ext_getElem?
  intro i
  by_cases h : i < l.length
  · rw [heldL_get _ _ _ _ h, if_neg (by omega), getD_some h]
  · rw [List.getElem?_eq_none (by rw [heldL_length]; omega), List.getElem?_eq_none (by omega)]
theorem heldL_succ (l : List Stp) (zs : List Int) (k : Nat) : heldL l zs (k + 1) = (heldL l zs k).set k ((l.getD k .zero).hold (zs.getD k 0)) := by
  apply List.ext_getElem?
  intro i
  by_cases h : i < l.length
  · rw [heldL_get _ _ _ _ h]
    by_cases e : k = i
    · subst e
      rw [List.getElem?_set_self (by rw [heldL_length]; exact h), if_pos (by omega)]
    · rw [List.getElem?_set_ne e, heldL_get _ _ _ _ h]
      by_cases c : i < k
      · rw [if_pos c, if_pos (by omega)]
      · rw [if_neg c, if_neg (by omega)]
  · rw [List.getElem?_eq_none (by rw [heldL_length]; omega), List.getElem?_eq_none (by rw [List.length_set, heldL_length]; omega)]
theorem heldL_now (l : List Stp) (zs : List Int) (k : Nat) (h : k < l.length) : (heldL l zs k)[k]? = some (l.getD k .zero) := by rw [heldL_get _ _ _ _ h, if_neg (by omega)]

theorem held_as (fr b s : Int) (l : List Stp) (zs : List Int) (hz : zs.length ≤ l.length) : HeldAs fr b l fr b (heldL l zs zs.length) s (fun i => zs.getD i 0) zs.length where
  len := heldL_length _ _ _
  most k := by
    unfold mostB
    by_cases h : k < l.length
    · rw [getD_is (heldL_get l zs zs.length k h)]
      split <;> rfl
    · rw [List.getD_eq_getElem?_getD, List.getD_eq_getElem?_getD, List.getElem?_eq_none (by rw [heldL_length]; omega), List.getElem?_eq_none (by omega)]
  low k := by
    unfold lowB
    rw [heldL_length]
    by_cases h : k < l.length
    · rw [if_pos h, if_pos h, getD_is (heldL_get l zs zs.length k h)]
      split <;> rfl
    · rw [if_neg h, if_neg h, if_neg (by omega)]
  high k := by
    unfold highB
    rw [heldL_length]
    by_cases h : k < l.length
    · rw [if_pos h, if_pos h, getD_is (heldL_get l zs zs.length k h)]
      split <;> rfl
    · rw [if_neg h, if_neg h, if_neg (by omega)]

theorem held_wide {q s fr b : Int} {l : List Stp} (hp : Wide q s fr b l) (zs : List Int) (hz : zs.length ≤ l.length) : Wide q s fr b (heldL l zs zs.length) where
  kind := hp.kind
  len := by rw [heldL_length]; exact hp.len
  win k := by
    have hh := held_as fr b s l zs hz
    have h0 := hp.win k
    rw [hh.low, hh.high]
    split
    · have m1 := mxB_le (lowB fr l k) (zs.getD k 0)
      have m2 := mnB_le (highB b l k) (zs.getD k 0)
      constructor
      · omega
      · have := m2.1; omega
    · exact h0

/-- Each of the ticks was open. -/
def begunB (q s fr b : Int) (l : List Stp) (zs : List Int) : Nat → Bool
  | 0 => true
  | k + 1 => begunB q s fr b l zs k && inB (zs.getD k 0) (openA q s fr b l l.length (fun i => zs.getD i 0) k).1 (openA q s fr b l l.length (fun i => zs.getD i 0) k).2
theorem begunB_iff (q s fr b : Int) (l : List Stp) (zs : List Int) : ∀ m, begunB q s fr b l zs m = true ↔ ∀ k, k < m → inP (zs.getD k 0) (openA q s fr b l l.length (fun i => zs.getD i 0) k)
  | 0 => ⟨fun _ k hk => by omega, fun _ => rfl⟩
  | m + 1 => by
    rw [begunB, Bool.and_eq_true, begunB_iff q s fr b l zs m, inB_iff]
    constructor
    · rintro ⟨h1, h2⟩ k hk
      by_cases e : k = m
      · subst e; exact h2
      · exact h1 k (by omega)
    · intro h
      exact ⟨fun k hk => h k (by omega), h m (by omega)⟩
/-- It can be gone on with. -/
def goB (q s fr b : Int) (l : List Stp) (zs : List Int) : Bool := pathB q s fr b l && spanB q s fr b l && decide (zs.length ≤ l.length) && begunB q s fr b l zs zs.length
def goS (q s fr b : Int) (l : List Stp) (zs : List Int) : Int × Int := if goB q s fr b l zs then openA q s fr b l l.length (fun i => zs.getD i 0) zs.length else (0, 0)

/-- What the specification finds. -/
theorem held_go {q s fr b : Int} {l : List Stp} {zs : List Int} (hp : pathB q s fr b l = true) (hz : zs.length ≤ l.length) :
    spanB q s fr b (heldL l zs zs.length) = goB q s fr b l zs ∧ (goB q s fr b l zs = true → (spansL q s fr b (heldL l zs zs.length))[zs.length]? = some (goS q s fr b l zs)) := by
  have hw := Wide.of hp
  have hw' := held_wide hw zs hz
  have key := held_next (n := l.length) (held_as fr b s l zs hz) hw.quick hz
  have e1 : spanB q s fr b (heldL l zs zs.length) = goB q s fr b l zs := by
    rw [hw'.span_fwd, heldL_length]
    unfold goB
    rw [hp, hw.span_fwd, Bool.eq_iff_iff, key.1]
    simp only [Bool.true_and, Bool.and_eq_true, decide_eq_true_eq]
    rw [begunB_iff]
    exact ⟨fun ⟨h1, h2⟩ => ⟨⟨h1, hz⟩, h2⟩, fun ⟨⟨h1, _⟩, h2⟩ => ⟨h1, h2⟩⟩
  refine ⟨e1, fun hg => ?_⟩
  have hsp : spanB q s fr b (heldL l zs zs.length) = true := by rw [e1]; exact hg
  have hf : fwdTo q s fr b (heldL l zs zs.length) (l.length + 1) = true := by
    have := hw'.span_fwd
    rw [heldL_length] at this
    rw [← this]; exact hsp
  have k2 := key.2 hf
  unfold goS
  rw [if_pos hg, ← k2]
  unfold spansL spanAt
  rw [if_pos hsp, heldL_length, List.getElem?_map, List.getElem?_range (by omega)]
  rfl

/-- The row of spans when these ticks have come: what was open to each of them, what is open to the next, the spans of the rest. -/
def rowG (q s fr b : Int) (l : List Stp) (c : Nat → Int) (m : Nat) : List (Int × Int) := (List.range (l.length + 1)).map fun j => if j ≤ m then openA q s fr b l l.length c j else spanAt q s fr b l l.length j
theorem rowG_length (q s fr b : Int) (l : List Stp) (c : Nat → Int) (m : Nat) : (rowG q s fr b l c m).length = l.length + 1 := by simp [rowG]
theorem rowG_get (q s fr b : Int) (l : List Stp) (c : Nat → Int) (m j : Nat) (h : j ≤ l.length) : (rowG q s fr b l c m)[j]? = some (if j ≤ m then openA q s fr b l l.length c j else spanAt q s fr b l l.length j) := by
  simp [rowG, show j < l.length + 1 by omega]
theorem rowG_zero {q s fr b : Int} {l : List Stp} (c : Nat → Int) (h : spanB q s fr b l = true) : rowG q s fr b l c 0 = spansL q s fr b l := by
  unfold rowG spansL
  rw [if_pos h]
  apply List.map_congr_left
  intro j _
  by_cases e : j ≤ 0
  · obtain rfl : j = 0 := by omega
    rw [if_pos e]; rfl
  · rw [if_neg e]; rfl
theorem rowG_succ (q s fr b : Int) (l : List Stp) (c : Nat → Int) (m : Nat) : rowG q s fr b l c (m + 1) = (rowG q s fr b l c m).set (m + 1) (openP q s fr b l l.length m (c m)) := by
  apply List.ext_getElem?
  intro j
  by_cases h : j ≤ l.length
  · rw [rowG_get _ _ _ _ _ _ _ _ h]
    by_cases e : m + 1 = j
    · subst e
      rw [List.getElem?_set_self (by rw [rowG_length]; omega), if_pos (Nat.le_refl _)]; rfl
    · rw [List.getElem?_set_ne e, rowG_get _ _ _ _ _ _ _ _ h]
      by_cases e' : j ≤ m
      · rw [if_pos e', if_pos (by omega)]
      · rw [if_neg e', if_neg (by omega)]
  · rw [List.getElem?_eq_none (by rw [rowG_length]; omega), List.getElem?_eq_none (by rw [List.length_set, rowG_length]; omega)]
/-- Only the ticks that have come count. -/
theorem rowG_congr {q s fr b : Int} {l : List Stp} {c c' : Nat → Int} {m : Nat} (h : ∀ i, i < m → c i = c' i) : rowG q s fr b l c m = rowG q s fr b l c' m := by
  unfold rowG
  apply List.map_congr_left
  intro j _
  split
  · cases j with
    | zero => rfl
    | succ i => simp only [openA]; rw [h i (by omega)]
  · rfl
end Go.Proofs.YtfnopcgmlfedfaaGreatDoor

namespace Go.Proofs.YtfnopcgmlfedfaaGreatDoor
open Go.RowKit

set_option maxRecDepth 20000 in
set_option maxHeartbeats 1000000 in
theorem copyS_any (q s fr b : Int) (a : Option Addr) (b0 o cap : Nat) (l : List Stp) (w : World) (hl0 : 1 ≤ l.length) (hl : l.length ≤ 1048576) (hs : StepsAt w a b0 o l) :
    Calls Tryz.prog 73 #[.agg #[.int .i64 q, .int .i64 s, .slice a l.length cap, .int .i64 fr, .int .i64 b]] w
      fun e w' => ∃ g gcap, e = .returned (.agg #[.int .i64 q, .int .i64 s, .slice (some ⟨g, 0, none⟩) l.length gcap, .int .i64 fr, .int .i64 b]) ∧
        w'.ownsRow w.heap.size 74 7 (.slice (some ⟨g, 0, none⟩) l.length gcap) l.length (stepCells l) ∧ Below w.heap.size w w' := by
  obtain ⟨i0, hi, hz0, hz1, hz2⟩ := info_parts step_info
  have hne : l ≠ [] := by intro e; subst e; simp at hl0
  obtain rfl := hs.here hne
  go_enter Tryz.func73, Tryz.ntmps73
  have hB0 := (BoxP.new w q s fr b (.slice (some ⟨b0, o, none⟩) l.length cap) 32)
  have hE := owns_empty (w := ((w.alloc (.cells #[.int .i64 q, .int .i64 s, .slice (some ⟨b0, o, none⟩) l.length cap, .int .i64 fr, .int .i64 b] 32)).alloc (.cells #[.int .i64 0, .int .i64 0, .slice none 0 0, .int .i64 0, .int .i64 0] 32))) (base := w.heap.size + 1 + 1) (e := 74) (size := 7) (by simp)
  simp only [World.size_alloc] at hE
  have hnew := steps_news (((hs.alloc (.cells #[.int .i64 q, .int .i64 s, .slice (some ⟨b0, o, none⟩) l.length cap, .int .i64 fr, .int .i64 b] 32)).alloc (.cells #[.int .i64 0, .int .i64 0, .slice none 0 0, .int .i64 0, .int .i64 0] 32)).alloc (.cells #[] 74))
  have hC : ∀ w4, (((w.alloc (.cells #[.int .i64 q, .int .i64 s, .slice (some ⟨b0, o, none⟩) l.length cap, .int .i64 fr, .int .i64 b] 32)).alloc (.cells #[.int .i64 0, .int .i64 0, .slice none 0 0, .int .i64 0, .int .i64 0] 32)).alloc (.cells #[] 74)).grownBy w4 (Value.slice (some ⟨w.heap.size + 1 + 1, 0, none⟩) 0 0).ownBlock →
      w4.cell? ⟨w.heap.size, 0, none⟩ = some (.int .i64 q) ∧ w4.cell? ⟨w.heap.size, 1, none⟩ = some (.int .i64 s) ∧ w4.cell? ⟨w.heap.size, 2, none⟩ = some (.slice (some ⟨b0, o, none⟩) l.length cap) ∧ w4.cell? ⟨w.heap.size, 3, none⟩ = some (.int .i64 fr) ∧ w4.cell? ⟨w.heap.size, 4, none⟩ = some (.int .i64 b) ∧
      w4.cell? ⟨w.heap.size + 1, 0, none⟩ = some (.int .i64 0) ∧ w4.cell? ⟨w.heap.size + 1, 1, none⟩ = some (.int .i64 0) ∧ w4.cell? ⟨w.heap.size + 1, 2, none⟩ = some (.slice none 0 0) ∧ w4.cell? ⟨w.heap.size + 1, 3, none⟩ = some (.int .i64 0) ∧ w4.cell? ⟨w.heap.size + 1, 4, none⟩ = some (.int .i64 0) := fun w4 hg => by
    have k0 : ∀ j, w4.cell? ⟨w.heap.size, j, none⟩ = _ := fun j => World.cell?_of_block (a := ⟨w.heap.size, j, none⟩) (hg.block w.heap.size (by simp; omega) (by simp [Value.ownBlock]; omega))
    have k1 : ∀ j, w4.cell? ⟨w.heap.size + 1, j, none⟩ = _ := fun j => World.cell?_of_block (a := ⟨w.heap.size + 1, j, none⟩) (hg.block (w.heap.size + 1) (by simp) (by simp [Value.ownBlock]))
    simp only [k0, k1]
    simp [go_sem]
  have hF : ∀ w4, (((w.alloc (.cells #[.int .i64 q, .int .i64 s, .slice (some ⟨b0, o, none⟩) l.length cap, .int .i64 fr, .int .i64 b] 32)).alloc (.cells #[.int .i64 0, .int .i64 0, .slice none 0 0, .int .i64 0, .int .i64 0] 32)).alloc (.cells #[] 74)).grownBy w4 (Value.slice (some ⟨w.heap.size + 1 + 1, 0, none⟩) 0 0).ownBlock →
      (∀ j, w4.frozen? ⟨w.heap.size, j, none⟩ = false) ∧ ∀ j, w4.frozen? ⟨w.heap.size + 1, j, none⟩ = false := fun w4 hg => by
    have k0 : ∀ j, w4.frozen? ⟨w.heap.size, j, none⟩ = _ := fun j => World.frozen?_of_block (a := ⟨w.heap.size, j, none⟩) (hg.block w.heap.size (by simp; omega) (by simp [Value.ownBlock]; omega))
    have k1 : ∀ j, w4.frozen? ⟨w.heap.size + 1, j, none⟩ = _ := fun j => World.frozen?_of_block (a := ⟨w.heap.size + 1, j, none⟩) (hg.block (w.heap.size + 1) (by simp) (by simp [Value.ownBlock]))
    simp only [k0, k1]
    simp [go_sem]
  go_wp2_with (at_builtin; refine wpList_append_own _ rfl (.tmp 3) (.tmp 5) 30 rfl (w.heap.size + 1 + 1) 74 i0 (.agg #[.int .i64 0, .int .i64 0, .int .i64 0, .int .i64 0, .int .i64 0, .int .i64 0, .bool false]) 7 56 Tryz.underlying30 hi hz0 hz1 hz2 rfl (by decide) (.slice (some ⟨w.heap.size + 1 + 1, 0, none⟩) 0 0) 0 [] rfl hE ⟨b0, o, none⟩ l.length cap (stepCells l) rfl (stepCells_length l) hnew (stepCells_one l) (by unfold maxLen; omega) (by omega) (by simp) ?_; intro v' w4 hown4 hgrow4 hnil4; simp only [Nat.zero_add, List.nil_append] at hown4; obtain ⟨g4, gc4, rfl, hg4, hgl4⟩ := owns_some hown4 (by omega); have c4 := hC w4 hgrow4; have f4 := hF w4 hgrow4; have z0 := c4.1; have z1 := c4.2.1; have z2 := c4.2.2.1; have z3 := c4.2.2.2.1; have z4 := c4.2.2.2.2.1; have y0 := c4.2.2.2.2.2.1; have y1 := c4.2.2.2.2.2.2.1; have y2 := c4.2.2.2.2.2.2.2.1; have y3 := c4.2.2.2.2.2.2.2.2.1; have y4 := c4.2.2.2.2.2.2.2.2.2)
  have HB4 : Below w.heap.size w w4 := ((((Below.refl w.heap.size w).alloc (Nat.le_refl _) _).alloc (by simp) _).alloc (by simp; omega) _).grown hgrow4 (by simp; omega) (fun k e => by simp [Value.ownBlock] at e; omega)
  refine bodyPost_ret (v := .agg #[.int .i64 q, .int .i64 s, .slice (some ⟨g4, 0, none⟩) l.length gc4, .int .i64 fr, .int .i64 b]) (by simp [results, Tryz.results73, go_sem, *]) rfl ⟨g4, gc4, rfl, ?_, ?_⟩
  · have hh : ∀ k, (Value.slice (some ⟨g4, 0, none⟩) l.length gc4).ownBlock = some k → k ≠ w.heap.size ∧ k ≠ w.heap.size + 1 := fun k e => by simp [Value.ownBlock] at e; omega
    iterate 6 (refine owns_set ?_ (fun k e => by first | exact (hh k e).1 | exact (hh k e).2) _ _)
    exact ⟨hown4.1, hown4.2.imp id fun ⟨g, cap, cur, h1, h2, h3⟩ => ⟨g, cap, cur, h1, by omega, h3⟩⟩
  · iterate 6 (refine Below.setCell ?_ (by simp <;> omega) _)
    exact HB4

end Go.Proofs.YtfnopcgmlfedfaaGreatDoor

namespace Go.Proofs.YtfnopcgmlfedfaaGreatDoor
open Go.RowKit

set_option maxRecDepth 20000 in
set_option maxHeartbeats 4000000 in
theorem heldS_any (q s fr b : Int) (a : Option Addr) (b0 o cap : Nat) (l : List Stp) (c : Option Addr) (cb co ccap : Nat) (zs : List Int) (w : World) (hl0 : 1 ≤ l.length) (hl : l.length ≤ 1048576) (hs : StepsAt w a b0 o l) (hz : IntsAt w c cb co zs) (hn : zs.length ≤ l.length) :
    Calls Tryz.prog 58 #[.agg #[.int .i64 q, .int .i64 s, .slice a l.length cap, .int .i64 fr, .int .i64 b], .slice c zs.length ccap] w
      fun e w' => ∃ g gcap, e = .returned (.agg #[.int .i64 q, .int .i64 s, .slice (some ⟨g, 0, none⟩) l.length gcap, .int .i64 fr, .int .i64 b]) ∧
        w'.ownsRow w.heap.size 74 7 (.slice (some ⟨g, 0, none⟩) l.length gcap) l.length (stepCells (heldL l zs zs.length)) ∧ Below w.heap.size w w' := by
  go_enter Tryz.func58, Tryz.ntmps58
  go_wp2_with fail
  refine (copyS_any _ _ _ _ _ b0 o _ _ _ hl0 hl ((hs.alloc _).alloc _)).mono ?_
  rintro e w1 ⟨g, gcap, rfl, hown1, hb1⟩
  have hg1 := (hown1.lt g rfl).1
  have hgl1 := (hown1.lt g rfl).2
  simp only [World.size_alloc] at hg1 hb1
  have hb01 : Below w.heap.size w w1 := (((Below.refl w.heap.size w).alloc (Nat.le_refl _) _).alloc (by simp) _).trans (hb1.mono (by omega))
  have z1 := hb1.size
  have hx2 := PathAt.new w1 q s fr b (.slice (some ⟨g, 0, none⟩) l.length gcap)
  have hr0 := ResP.new (w.alloc (.cells #[.int .i64 q, .int .i64 s, .slice a l.length cap, .int .i64 fr, .int .i64 b] 32))
  simp only [World.size_alloc] at hr0
  have hr1 := hr0.keep hb1 (by omega)
  have hal : Below w1.heap.size w1 (w1.alloc (.cells #[.int .i64 q, .int .i64 s, .slice (some ⟨g, 0, none⟩) l.length gcap, .int .i64 fr, .int .i64 b] 32)) := (Below.refl w1.heap.size w1).alloc (Nat.le_refl _) _
  have hr2 := hr1.keep hal hr1.lt
  have hb02 := hb01.trans (hal.mono hb01.size)
  have hown2 : (w1.alloc (.cells #[.int .i64 q, .int .i64 s, .slice (some ⟨g, 0, none⟩) l.length gcap, .int .i64 fr, .int .i64 b] 32)).ownsRow w.heap.size 74 7 (.slice (some ⟨g, 0, none⟩) l.length gcap) l.length (stepCells (heldL l zs 0)) := by
    rw [heldL_zero]
    have := owns_below hown1 hal
    refine ⟨this.1, this.2.imp id fun ⟨g, cap, cur, h1, h2, h3⟩ => ⟨g, cap, cur, h1, by simp at h2; omega, h3⟩⟩
  clear hr0 hr1 hal hown1 hb1 z1 hb01
  go_wp2_with fail
  go_loopw [6] (fun u wr => ∃ k : Nat, k ≤ zs.length ∧ u = .int .i64 k ∧ PathAt wr w1.heap.size q s fr b (.slice (some ⟨g, 0, none⟩) l.length gcap) ∧ ResP wr (w.heap.size + 1) ∧ Below w.heap.size w wr ∧ wr.ownsRow w.heap.size 74 7 (.slice (some ⟨g, 0, none⟩) l.length gcap) l.length (stepCells (heldL l zs k))) (fun u _ => zs.length - (intOf u).toNat)
  case atStart => exact ⟨0, Nat.zero_le _, rfl, hx2, hr2, hb02, hown2⟩
  case round =>
    clear hx2 hr2 hb02 hown2
    obtain ⟨k, hk, rfl, hx, hr, hb, hown⟩ := hrel
    obtain ⟨⟨p0, p1, p2, p3, p4⟩, pf⟩ := hx.cells
    obtain ⟨⟨r0, r1, r2, r3, r4⟩, rf⟩ := hr.cells
    by_cases hlt : k < zs.length
    · have hne : zs ≠ [] := by intro e; subst e; simp at hlt
      obtain rfl := hz.here hne
      obtain ⟨z, hzk⟩ : ∃ z, zs[k]? = some z := ⟨zs[k], List.getElem?_eq_getElem hlt⟩
      have hkl : k < l.length := by omega
      obtain ⟨t, ht⟩ : ∃ t, l.getD k .zero = t := ⟨_, rfl⟩
      have hnow := heldL_now l zs k hkl
      rw [ht] at hnow
      have x4 := (hown.cellAt (k * 7 + 4) (by omega)).trans (stepCells_at _ k t 4 hnow (by decide))
      have x5 := (hown.cellAt (k * 7 + 5) (by omega)).trans (stepCells_at _ k t 5 hnow (by decide))
      simp only [List.getElem?_cons_succ, List.getElem?_cons_zero] at x4 x5
      have zc := (hz.below hb hz.lt).cell k z hzk
      have hcb := (hz.below hb hz.lt).lt hne
      have hgr : g < wr.heap.size := (hown.lt g rfl).2
      have hpr : w1.heap.size < wr.heap.size := hx.lt
      have m0 : (0 : Int) ≤ (k : Int) := by omega
      have m1 : (k : Int) < (zs.length : Int) := by omega
      have m2 : (k : Int) < (l.length : Int) := by omega
      obtain ⟨n1, hn1⟩ : ∃ n1, mxB t.fr z = n1 := ⟨_, rfl⟩
      obtain ⟨n2, hn2⟩ : ∃ n2, mnB t.by_ z = n2 := ⟨_, rfl⟩
      have MX : ∀ (W : World), Calls Tryz.prog 52 #[.int .i64 t.fr, .int .i64 z] W fun e w' => e = .returned (.int .i64 n1) ∧ w' = W := fun W => by rw [← hn1]; exact max_any _ _ _
      have MN : ∀ (W : World), Calls Tryz.prog 53 #[.int .i64 t.by_, .int .i64 z] W fun e w' => e = .returned (.int .i64 n2) ∧ w' = W := fun W => by rw [← hn2]; exact min_any _ _ _
      have HO : Hid (wr.ownsRow w.heap.size 74 7 (.slice (some ⟨g, 0, none⟩) l.length gcap) l.length (stepCells (heldL l zs k))) := hown
      have HX : Hid (PathAt wr w1.heap.size q s fr b (.slice (some ⟨g, 0, none⟩) l.length gcap)) := hx
      have HR : Hid (ResP wr (w.heap.size + 1)) := hr
      have HB : Hid (Below w.heap.size w wr) := hb
      have hsl : (stepCells (heldL l zs k)).length = l.length * 7 := hown.1
      clear hx hr hb hown hnow pf r0 r1 r2 r3 r4 rf p3 p4 p0 p1
      have qn := Cls.any wr
      have q1 := Cls.cell hgr
      have q2 := Cls.cell hpr
      have q3 := Cls.cell hcb
      go_wp2
      refine wp_region_last (by kernel_rfl) (by simp) (by kernel_rfl) (by kernel_rfl) ?_
      simp only [initL, endL]
      repeat (go_big_quiet_step ((go_at_call 52; exact Calls.cls_of_same (MX _))))
      refine wpQuiet_nil ?_
      rintro _ ⟨u, rfl⟩
      have hownu := owns_below HO.out u.same
      have t0 := (hownu.cellAt (k * 7 + 4) (by omega)).trans ((HO.out.cellAt (k * 7 + 4) (by omega)).symm.trans x4)
      have tf := hownu.frozenAt
      clear q1 q2 q3 qn MX
      go_wp2
      have hown8 := owns_put hownu (j := k * 7 + 4) (by omega) (.int .i64 n1)
      have hx8 := (HX.out.keep u.same hpr).set (p := ⟨g, k * 7 + 4, none⟩) (by show w1.heap.size ≠ g; omega) (.int .i64 n1)
      have hr8 := (HR.out.keep u.same HR.out.lt).set (p := ⟨g, k * 7 + 4, none⟩) (by show w.heap.size + 1 ≠ g; omega) (.int .i64 n1)
      have hb8 := (HB.out.trans (u.same.mono HB.out.size)).setCell (p := ⟨g, k * 7 + 4, none⟩) (by show w.heap.size ≤ g; omega) (.int .i64 n1)
      have z5 : ((stepCells (heldL l zs k)).set (k * 7 + 4) (.int .i64 n1))[k * 7 + 5]? = some (.int .i64 t.by_) := by
        rw [List.getElem?_set_ne (by omega), ← HO.out.cellAt (k * 7 + 5) (by omega)]; exact x5
      clear t0 tf hownu x4 x5 p2 zc hcb
      generalize u.it.setCell ⟨g, k * 7 + 4, none⟩ (.int .i64 n1) = w8 at hown8 hx8 hr8 hb8 ⊢
      have x5 := (hown8.cellAt (k * 7 + 5) (by omega)).trans z5
      obtain ⟨⟨_, _, p2, _, _⟩, _⟩ := hx8.cells
      have zc := (hz.below hb8 hz.lt).cell k z hzk
      have hcb := (hz.below hb8 hz.lt).lt hne
      have hgr8 : g < w8.heap.size := (hown8.lt g rfl).2
      have hpr8 : w1.heap.size < w8.heap.size := hx8.lt
      have qn := Cls.any w8
      have q1 := Cls.cell hgr8
      have q2 := Cls.cell hpr8
      have q3 := Cls.cell hcb
      have HO8 : Hid (w8.ownsRow w.heap.size 74 7 (.slice (some ⟨g, 0, none⟩) l.length gcap) l.length ((stepCells (heldL l zs k)).set (k * 7 + 4) (.int .i64 n1))) := hown8
      have HX8 : Hid (PathAt w8 w1.heap.size q s fr b (.slice (some ⟨g, 0, none⟩) l.length gcap)) := hx8
      have HR8 : Hid (ResP w8 (w.heap.size + 1)) := hr8
      have HB8 : Hid (Below w.heap.size w w8) := hb8
      clear hx8 hr8 hb8 hown8 hpr hgr HX HR HB
      refine wp_region_last (by kernel_rfl) (by simp) (by kernel_rfl) (by kernel_rfl) ?_
      simp only [initL, endL]
      repeat (go_big_quiet_step ((go_at_call 53; exact Calls.cls_of_same (MN _))))
      refine wpQuiet_nil ?_
      rintro _ ⟨u2, rfl⟩
      have hownu := owns_below HO8.out u2.same
      have t0 := (hownu.cellAt (k * 7 + 5) (by omega)).trans z5
      have tf := hownu.frozenAt
      clear q1 q2 q3 qn MN
      go_wp2
      have hown9 := owns_put hownu (j := k * 7 + 5) (by omega) (.int .i64 n2)
      have hx9 := (HX8.out.keep u2.same hpr8).set (p := ⟨g, k * 7 + 5, none⟩) (by show w1.heap.size ≠ g; omega) (.int .i64 n2)
      have hr9 := (HR8.out.keep u2.same HR8.out.lt).set (p := ⟨g, k * 7 + 5, none⟩) (by show w.heap.size + 1 ≠ g; omega) (.int .i64 n2)
      have hb9 := (HB8.out.trans (u2.same.mono HB8.out.size)).setCell (p := ⟨g, k * 7 + 5, none⟩) (by show w.heap.size ≤ g; omega) (.int .i64 n2)
      have ER : stepCells (heldL l zs (k + 1)) = ((stepCells (heldL l zs k)).set (k * 7 + 4) (.int .i64 n1)).set (k * 7 + 5) (.int .i64 n2) := by
        have hgz : zs.getD k 0 = z := by rw [List.getD_eq_getElem?_getD, hzk]; rfl
        have hnow := heldL_now l zs k hkl
        rw [heldL_succ, ht, hgz, ← hn1, ← hn2]
        rw [ht] at hnow
        exact stepCells_set _ k t (t.hold z) hnow rfl
      rw [← ER] at hown9
      go_roundw
      case rel => exact ⟨k + 1, by omega, by go_num, hx9, hr9, hb9, hown9⟩
      case measure => simp [intOf]; omega
    · obtain rfl : k = zs.length := by omega
      go_wp2
      refine bodyPost_ret (v := .agg #[.int .i64 q, .int .i64 s, .slice (some ⟨g, 0, none⟩) l.length gcap, .int .i64 fr, .int .i64 b]) (by simp [results, Tryz.results58, go_sem, *]) rfl ⟨g, gcap, rfl, ?_, ?_⟩
      · have hh : ∀ j, (Value.slice (some ⟨g, 0, none⟩) l.length gcap).ownBlock = some j → j ≠ w.heap.size + 1 := fun j e => by simp [Value.ownBlock] at e; omega
        iterate 5 (refine owns_set ?_ (fun j e => hh j e) _ _)
        exact hown
      · iterate 5 (refine Below.setCell ?_ (by simp <;> omega) _)
        exact hb
end Go.Proofs.YtfnopcgmlfedfaaGreatDoor

namespace Go.Proofs.YtfnopcgmlfedfaaGreatDoor
open Go.RowKit

set_option maxRecDepth 20000 in
set_option maxHeartbeats 8000000 in
theorem flyRestS_any (q s fr b st en nw : Int) (a : Option Addr) (b0 o cap : Nat) (l : List Stp) (w : World) (hl : l.length ≤ 1048576) (hs : StepsAt w a b0 o l) (hcap : l.length ≤ cap) :
    Calls Tryz.prog 39 #[.agg #[.int .i64 q, .int .i64 s, .slice a l.length cap, .int .i64 fr, .int .i64 b], .int .i64 st, .int .i64 en, .int .i64 nw] w (Gives (restA q s fr b l st en nw) w) := by
  have Q0 := PathAt.new w q s fr b (.slice a l.length cap)
  have P0 := PathAt.new (w.alloc (.cells #[.int .i64 q, .int .i64 s, .slice a l.length cap, .int .i64 fr, .int .i64 b] 32)) 0 0 0 0 (.slice none 0 0)
  rw [World.size_alloc] at P0
  have Q1 := Q0.keep ((Below.refl _ _).alloc (Nat.le_refl _) (.cells #[.int .i64 0, .int .i64 0, .slice none 0 0, .int .i64 0, .int .i64 0] 32)) Q0.lt
  have B0 : Below w.heap.size w ((w.alloc (.cells #[.int .i64 q, .int .i64 s, .slice a l.length cap, .int .i64 fr, .int .i64 b] 32)).alloc (.cells #[.int .i64 0, .int .i64 0, .slice none 0 0, .int .i64 0, .int .i64 0] 32)) := ((Below.refl _ _).alloc (Nat.le_refl _) _).alloc (by simp) _
  have NO : ∀ (W : World), restA q s fr b l st en nw = .no → Below w.heap.size w W → Gives (restA q s fr b l st en nw) w (.returned (.tuple #[.agg #[.int .i64 0, .int .i64 0, .slice none 0 0, .int .i64 0, .int .i64 0], .bool false])) W := fun W h hb => by rw [h]; exact Gives.none rfl hb
  go_enter Tryz.func39, Tryz.ntmps39
  go_wp2_with fail
  refine (pathS_any q s fr b a b0 o cap l _ hl ((hs.alloc _).alloc _)).mono ?_
  rintro e w1 ⟨rfl, hb1⟩
  have P1 := P0.keep hb1 P0.lt
  have Q2 := Q1.keep hb1 Q1.lt
  have B1 := B0.trans (hb1.mono B0.size)
  have z1 := P1.lt
  obtain ⟨⟨f0, f1, f2, f3, f4⟩, ff⟩ := P1.cells
  obtain ⟨⟨x0, x1, x2, x3, x4⟩, xf⟩ := Q2.cells
  clear hb1 P0 B0 Q0 Q1
  cases hp : pathB q s fr b l with
  | false =>
    have HA : Hid (restA q s fr b l st en nw = .no) := by show _ = _; unfold restA inStepB; rw [hp]; rfl
    go_wp2
    refine bodyPost_ret (v := .tuple #[.agg #[.int .i64 0, .int .i64 0, .slice none 0 0, .int .i64 0, .int .i64 0], .bool false]) (by simp [results, Tryz.results39, go_sem, *]) rfl (NO _ HA.out ?_)
    iterate 5 (refine Below.setCell ?_ (by show _ ≤ w.heap.size + 1; omega) _)
    exact B1
  | true =>
    have hlen := path_len hp
    go_wp2_with fail
    refine (in_any st 0 ((l.length : Int) - 1) _).mono ?_
    rintro e wx ⟨rfl, rfl⟩
    cases hst : inB st 0 ((l.length : Int) - 1) with
    | false =>
      have HA : Hid (restA q s fr b l st en nw = .no) := by show _ = _; unfold restA inStepB; rw [hp, hst]; rfl
      go_wp2
      refine bodyPost_ret (v := .tuple #[.agg #[.int .i64 0, .int .i64 0, .slice none 0 0, .int .i64 0, .int .i64 0], .bool false]) (by simp [results, Tryz.results39, go_sem, *]) rfl (NO _ HA.out ?_)
      iterate 5 (refine Below.setCell ?_ (by show _ ≤ w.heap.size + 1; omega) _)
      exact B1
    | true =>
      have hst' := (inB_iff _ _ _).1 hst
      obtain ⟨k, rfl⟩ : ∃ k : Nat, st = (k : Int) := ⟨st.toNat, by omega⟩
      have hk : k < l.length := by omega
      have k0 : (0 : Int) ≤ (k : Int) := by omega
      have k1 : (k : Int) < (l.length : Int) := by omega
      obtain ⟨m, hm⟩ : ∃ m, l.drop k = m := ⟨_, rfl⟩
      have hml : m.length = l.length - k := by rw [← hm, List.length_drop]
      have HP : Hid (pathB q s fr b l = true) := hp
      go_wp2_with fail
      refine (in_any nw en 10000 _).mono ?_
      rintro e wx2 ⟨rfl, rfl⟩
      cases hnw : inB nw en 10000 with
      | false =>
        have HA : Hid (restA q s fr b l k en nw = .no) := by
          show _ = _
          unfold restA inStepB
          rw [if_neg]
          intro h
          simp only [Bool.and_eq_true, inB_iff] at h
          have : inB nw en 10000 = true := (inB_iff _ _ _).2 (by omega)
          rw [hnw] at this; cases this
        go_wp2
        refine bodyPost_ret (v := .tuple #[.agg #[.int .i64 0, .int .i64 0, .slice none 0 0, .int .i64 0, .int .i64 0], .bool false]) (by simp [results, Tryz.results39, go_sem, *]) rfl (NO _ HA.out ?_)
        iterate 5 (refine Below.setCell ?_ (by show _ ≤ w.heap.size + 1; omega) _)
        exact B1
      | true =>
      have hnw' := (inB_iff _ _ _).1 hnw
      by_cases hen : en < 0
      · have HA : Hid (restA q s fr b l k en nw = .no) := by
          show _ = _
          unfold restA inStepB
          rw [if_neg]
          intro h
          simp only [Bool.and_eq_true, inB_iff] at h
          omega
        go_wp2
        refine bodyPost_ret (v := .tuple #[.agg #[.int .i64 0, .int .i64 0, .slice none 0 0, .int .i64 0, .int .i64 0], .bool false]) (by simp [results, Tryz.results39, go_sem, *]) rfl (NO _ HA.out ?_)
        iterate 5 (refine Below.setCell ?_ (by show _ ≤ w.heap.size + 1; omega) _)
        exact B1
      obtain ⟨t, ht⟩ : ∃ t, l.getD k .zero = t := ⟨_, rfl⟩
      have HN : Hid (0 ≤ nw ∧ nw ≤ 10000) := by show _ ∧ _; omega
      have HA : Hid (restA q s fr b l k en nw = canA q s (leftFr fr l k nw) b (leftL l k (mxB t.fr en) (mnB t.by_ en) nw)) := by
        show _ = _
        unfold restA inStepB
        rw [if_pos, Int.toNat_natCast, ht]
        simp only [Bool.and_eq_true, inB_iff]
        exact ⟨⟨⟨hp, hst'⟩, by omega⟩, by omega⟩
      have hsp := step_parts ((path_parts hp).2.2.2 k hk)
      rw [ht] at hsp
      have hx : 0 ≤ mxB t.fr en := by have := mxB_le t.fr en; omega
      have hy : mnB t.by_ en ≤ 10000 := by have := mnB_le t.by_ en; omega
      have htm : m[0]? = some t := by
        rw [← hm, List.getElem?_drop, Nat.add_zero]
        have := List.getElem?_eq_getElem hk
        rw [← ht, List.getD_eq_getElem?_getD, this]; rfl
      have htd : m.getD 0 .zero = t := by rw [List.getD_eq_getElem?_getD, htm]; rfl
      obtain ⟨n1, hn1⟩ : ∃ n1, mxB t.fr en = n1 := ⟨_, rfl⟩
      obtain ⟨n2, hn2⟩ : ∃ n2, mnB t.by_ en = n2 := ⟨_, rfl⟩
      rw [hn1, hn2] at HA
      rw [hn1] at hx
      rw [hn2] at hy
      have MX : ∀ (W : World), Calls Tryz.prog 52 #[.int .i64 t.fr, .int .i64 en] W fun e w' => e = .returned (.int .i64 n1) ∧ w' = W := fun W => by rw [← hn1]; exact max_any _ _ _
      have MN : ∀ (W : World), Calls Tryz.prog 53 #[.int .i64 t.by_, .int .i64 en] W fun e w' => e = .returned (.int .i64 n2) ∧ w' = W := fun W => by rw [← hn2]; exact min_any _ _ _
      have hne : l ≠ [] := by intro e; subst e; simp at hk
      have HEN : Hid (¬ en < 0) := hen
      clear NO hn1 hn2 hsp hp hst hst' hnw hnw'
      go_wp2_with fail
      refine (heldS_any q s fr b a b0 o cap l _ 0 0 _ [] _ hlen.1 hl ?_ ⟨fun h => absurd rfl h, fun h => absurd rfl h, fun i z hi => by simp at hi⟩ (by simp)).mono ?_
      · exact (hs.below B1 hs.lt).alloc _
      rintro e w2 ⟨g2, gc2, rfl, ho2, hb2⟩
      have al2 : Below wx2.heap.size wx2 (wx2.alloc (.cells #[] 3)) := (Below.refl _ _).alloc (Nat.le_refl _) _
      have hb2' : Below wx2.heap.size wx2 w2 := al2.trans (hb2.mono al2.size)
      have P2 := P1.keep hb2' P1.lt
      have B2 := B1.trans (hb2'.mono B1.size)
      rw [show ([] : List Int).length = 0 from rfl, heldL_zero] at ho2
      have hcap2 : l.length ≤ gc2 := owns_cap ho2
      clear hb2 hb2' al2 P1 Q2 B1 f0 f1 f2 f3 f4 ff x0 x1 x2 x3 x4 xf
      go_wp2_with fail
      refine (tailS_any q s fr b k (some ⟨g2, 0, none⟩) g2 0 gc2 l w2 hl (steps_owned ho2) hcap2 hk).mono ?_
      rintro e w3 ⟨g, gc, rfl, ho3, hb3⟩
      rw [hm] at ho3
      have D3 : RsD w (w3.alloc (.cells #[.int .i64 q, .int .i64 s, .slice (some ⟨g, 0, none⟩) (l.length - k) gc, .int .i64 fr, .int .i64 b] 32)) w3.heap.size q s fr b (.slice (some ⟨g, 0, none⟩) m.length gc) m := by
        have P3 := P2.keep hb3 P2.lt
        have B3 := B2.trans (hb3.mono B2.size)
        have z2 := P2.lt
        have ho3' : w3.ownsRow (w.heap.size + 2) 74 7 (.slice (some ⟨g, 0, none⟩) m.length gc) m.length (stepCells m) := by
          rw [hml]
          exact ⟨ho3.1, ho3.2.imp id fun ⟨g', cap', cur, h1, h2, h3⟩ => ⟨g', cap', cur, h1, by omega, h3⟩⟩
        exact ⟨B3.alloc B3.size _, P3.lt, by rw [hml]; exact PathAt.new w3 q s fr b _, P3.keep ((Below.refl _ _).alloc (Nat.le_refl _) _) P3.lt, owns_below ho3' ((Below.refl _ _).alloc (Nat.le_refl _) _)⟩
      clear ho2 ho3 hb3 P2 B2
      have l0 : (0 : Int) < ((l.length - k : Nat) : Int) := by omega
      go_wp2
      generalize w3.heap.size = B at *
      generalize w3.alloc (.cells #[.int .i64 q, .int .i64 s, .slice (some ⟨g, 0, none⟩) (l.length - k) gc, .int .i64 fr, .int .i64 b] 32) = W4 at *
      have hgl : g < W4.heap.size := owns_lt D3.own g rfl
      have hBl : B < W4.heap.size := D3.pa.lt
      obtain ⟨⟨e0, e1, e2, e3, e4⟩, ef⟩ := D3.pa.cells
      rw [hml] at e2
      have c4 : W4.cell? ⟨g, 4, none⟩ = some (.int .i64 t.fr) := (D3.own.cellAt 4 (by omega)).trans (stepCells_at _ 0 t 4 htm (by decide))
      have qn := Cls.any W4
      have q1 := Cls.cell hgl
      have q2 := Cls.cell hBl
      refine wp_region_last (by kernel_rfl) (by simp) (by kernel_rfl) (by kernel_rfl) ?_
      simp only [initL, endL]
      repeat (go_big_quiet_step ((go_at_call 52; exact Calls.cls_of_same (MX _))))
      refine wpQuiet_nil ?_
      rintro _ ⟨u, rfl⟩
      have D4 := D3.below u.same
      clear q1 q2 qn MX e0 e1 e2 e3 e4 ef c4 D3 hgl hBl
      generalize u.it = U at *
      have t0 := (D4.own.cellAt 4 (by omega)).trans (stepCells_at _ 0 t 4 htm (by decide))
      have tf := D4.own.frozenAt
      have D5 := D4.put (i := 0) (j := 4) (t' := { t with fr := n1 }) (u := .int .i64 n1) htm (by decide) rfl
      have D5' : RsD w (U.setCell ⟨g, 4, none⟩ (.int .i64 n1)) B q s fr b (.slice (some ⟨g, 0, none⟩) (m.set 0 { t with fr := n1 }).length gc) (m.set 0 { t with fr := n1 }) := D5
      clear D5 D4
      go_wp2
      clear t0 tf
      generalize U.setCell ⟨g, 4, none⟩ (.int .i64 n1) = W5 at *
      have hn0 : (m.set 0 { t with fr := n1 })[0]? = some { t with fr := n1 } := List.getElem?_set_self (by omega)
      have hgl : g < W5.heap.size := owns_lt D5'.own g rfl
      have hBl : B < W5.heap.size := D5'.pa.lt
      obtain ⟨⟨e0, e1, e2, e3, e4⟩, ef⟩ := D5'.pa.cells
      rw [List.length_set, hml] at e2
      have c5 : W5.cell? ⟨g, 5, none⟩ = some (.int .i64 t.by_) := (D5'.own.cellAt 5 (by rw [List.length_set]; omega)).trans (stepCells_at _ 0 { t with fr := n1 } 5 hn0 (by decide))
      have qn := Cls.any W5
      have q1 := Cls.cell hgl
      have q2 := Cls.cell hBl
      refine wp_region_last (by kernel_rfl) (by simp) (by kernel_rfl) (by kernel_rfl) ?_
      simp only [initL, endL]
      repeat (go_big_quiet_step ((go_at_call 53; exact Calls.cls_of_same (MN _))))
      refine wpQuiet_nil ?_
      rintro _ ⟨u2, rfl⟩
      have D6 := D5'.below u2.same
      clear q1 q2 qn MN e0 e1 e2 e3 e4 ef c5 D5' hgl hBl
      generalize u2.it = U2 at *
      have t0 := (D6.own.cellAt 5 (by rw [List.length_set]; omega)).trans (stepCells_at _ 0 { t with fr := n1 } 5 hn0 (by decide))
      have tf := D6.own.frozenAt
      have D7 : RsD w (U2.setCell ⟨g, 5, none⟩ (.int .i64 n2)) B q s fr b (.slice (some ⟨g, 0, none⟩) (enterL m n1 n2).length gc) (enterL m n1 n2) := by
        have D7 := D6.put (i := 0) (j := 5) (t' := { t with fr := n1, by_ := n2 }) (u := .int .i64 n2) hn0 (by decide) rfl
        rw [List.set_set] at D7
        unfold enterL
        rw [htd]
        exact D7
      obtain ⟨⟨e0, e1, e2, e3, e4⟩, ef⟩ := D6.pa.cells
      rw [List.length_set, hml] at e2
      have gnB : g ≠ B := (D6.gB g rfl).1
      clear D6
      have hel : (enterL m n1 n2).length = l.length - k := by rw [enterL_length, ← hm, List.length_drop]
      go_wp2_with fail
      clear t0 tf e0 e1 e2 e3 e4 ef
      generalize U2.setCell ⟨g, 5, none⟩ (.int .i64 n2) = W7 at *
      have hAf : Calls Tryz.prog 57 #[.agg #[.int .i64 q, .int .i64 s, .slice (some ⟨g, 0, none⟩) (l.length - k) gc, .int .i64 fr, .int .i64 b], .int .i64 nw] W7
          fun e w' => e = .returned (.agg #[.int .i64 q, .int .i64 s, .slice (some ⟨g, 0, none⟩) (l.length - k) gc, .int .i64 (leftFr fr l k nw), .int .i64 b]) ∧ PathAt w' (w.heap.size + 1) 0 0 0 0 (.slice none 0 0) ∧ Below w.heap.size w w' ∧ w'.ownsRow (w.heap.size + 2) 74 7 (.slice (some ⟨g, 0, none⟩) (leftL l k n1 n2 nw).length gc) (leftL l k n1 n2 nw).length (stepCells (leftL l k n1 n2 nw)) := by
        have hh := afterS_any q s fr b nw g gc (w.heap.size + 2) (enterL m n1 n2) W7 (by rw [hel]; omega) D7.own HN.out
        rw [afterFr_enter, hel] at hh
        refine hh.mono fun e w' ⟨he, hr, hg⟩ => ⟨?_, ?_⟩
        · rw [he]; unfold leftFr; rw [hm]
        · have := D7.after (m' := leftL l k n1 n2 nw) (by rw [leftL_length, hel]) (by rw [hel]; unfold leftL; rw [hm]; exact hr) hg
          exact this
      refine hAf.mono ?_
      rintro e w8 ⟨rfl, Z8, B8, ho8⟩
      have hlL : (leftL l k n1 n2 nw).length = l.length - k := leftL_length l k n1 n2 nw
      have hCa := canS_any q s (leftFr fr l k nw) b g gc (w.heap.size + 2) (leftL l k n1 n2 nw) w8 (left_wide HP.out hk hx hy HN.out.1) ho8 (by have := Z8.lt; omega)
      rw [hlL] at hCa
      clear hAf D7 ho8
      generalize canA q s (leftFr fr l k nw) b (leftL l k n1 n2 nw) = A at hCa HA
      go_wp2_with fail
      refine hCa.mono ?_
      rintro e w9 ⟨hb9, v9, rfl, ho9⟩
      obtain ⟨a9, j9, c9, hv9, _⟩ := steps_of ho9
      subst hv9
      have Z9 := Z8.keep hb9 Z8.lt
      have B9 := B8.trans (hb9.mono B8.size)
      obtain ⟨⟨f0, f1, f2, f3, f4⟩, ff⟩ := Z9.cells
      clear hb9 Z8 B8 hCa
      go_wp2
      refine bodyPost_ret (v := .tuple #[.agg #[.int .i64 A.q, .int .i64 A.s, .slice a9 A.l.length c9, .int .i64 A.fr, .int .i64 A.b], .bool A.ok]) (by simp [results, Tryz.results39, go_sem, *]) rfl ?_
      rw [HA.out]
      refine ⟨_, rfl, ?_, ?_⟩
      · have hh : ∀ j, (Value.slice a9 A.l.length c9).ownBlock = some j → j ≠ w.heap.size + 1 := fun j e => by have := owns_base ho9 j e; omega
        iterate 5 (refine owns_set ?_ hh _ _)
        exact ⟨ho9.1, ho9.2.imp id fun ⟨g, cap, cur, h1, h2, h3⟩ => ⟨g, cap, cur, h1, by omega, h3⟩⟩
      · iterate 5 (refine Below.setCell ?_ (by show _ ≤ w.heap.size + 1; omega) _)
        exact B9
end Go.Proofs.YtfnopcgmlfedfaaGreatDoor
