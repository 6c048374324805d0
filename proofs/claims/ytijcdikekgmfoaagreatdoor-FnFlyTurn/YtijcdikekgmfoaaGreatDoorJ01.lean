/- Joined texts: WalkData, WalkSaid, SpanImpl, AnyA, AnyB, AnyC, AnyG, GrownMore, Walk, SentLaid, Move, Rd, AnyEnd, Pick, Draw1, FlightMath. -/
import Derived.Deep.RegionHeld3
import Derived.RangeFuncCalls
import Derived.OrdersIn
import Derived.ProofKit
import Derived.LaidMore
import Derived.OpenShut
import Derived.Stop.Joined
import Derived.Stop.LaidErr
import Derived.WalkSmall
import Derived.WalkKit
import Derived.BigQuiet
import Derived.WalkSpells
import Derived.Test.YtijcdikekgmfoaaGreatDoorRows
import Derived.Test.YtijcdikekgmfoaaGreatDoorSpanBack
import Derived.Test.YtijcdikekgmfoaaGreatDoorSpanWin
import Derived.Test.YtijcdikekgmfoaaGreatDoorSeqAll
import Derived.Test.YtijcdikekgmfoaaGreatDoorSpanLeaf
import Derived.Test.YtijcdikekgmfoaaGreatDoorFollow2
import Derived.Test.YtijcdikekgmfoaaGreatDoorLawImpl
import Derived.Test.YtijcdikekgmfoaaGreatDoorSpanSaid
import Derived.Test.YtijcdikekgmfoaaGreatDoorLast
import Derived.Test.YtijcdikekgmfoaaGreatDoorOwnMore
import Derived.Test.YtijcdikekgmfoaaGreatDoorSomeLeft
import Derived.Test.YtijcdikekgmfoaaGreatDoorData
import Derived.Test.YtijcdikekgmfoaaGreatDoorSpanSpec
import Derived.Test.YtijcdikekgmfoaaGreatDoorSpanMath
namespace Go.Proofs.YtijcdikekgmfoaaGreatDoor
open Go.RowKit

/-- What a step does to when it is entered, and when it is left: forward, or back. -/
def tightB (d : Bool) (q mo : Int) (e lf : Int × Int) : (Int × Int) × (Int × Int) :=
  if d then (e, (mxB lf.1 (e.1 + q), mnB lf.2 (e.2 + mo))) else ((mxB e.1 (lf.1 - mo), mnB e.2 (lf.2 - q)), lf)
def stayMost (s : Int) (t : Stp) : Int := if t.ho then 10000 else s
def tightR (d : Bool) (q s : Int) (r : List (Int × Int)) (x : Nat × Stp) : (Int × Int) × (Int × Int) := tightB d q (stayMost s x.2) (r.getD x.1 (0, 0)) (r.getD (x.1 + 1) (0, 0))
def rowStep (d : Bool) (q s : Int) (r : List (Int × Int)) (x : Nat × Stp) : List (Int × Int) := (r.set x.1 (tightR d q s r x).1).set (x.1 + 1) (tightR d q s r x).2
def okStep (d : Bool) (q s : Int) (r : List (Int × Int)) (x : Nat × Stp) : Bool := someB (tightR d q s r x).1 && someB (tightR d q s r x).2
/-- The row, and whether nothing was left empty. -/
def foldW (d : Bool) (q s : Int) {l : List Stp} (r : List (Int × Int)) (pre : List (El l)) : List (Int × Int) × Bool := pre.foldl (fun a x => (rowStep d q s a.1 x.1, a.2 && okStep d q s a.1 x.1)) (r, true)

theorem foldW_snoc (d : Bool) (q s : Int) {l : List Stp} (r : List (Int × Int)) (pre : List (El l)) (x : El l) :
    foldW d q s r (pre ++ [x]) = (rowStep d q s (foldW d q s r pre).1 x.1, (foldW d q s r pre).2 && okStep d q s (foldW d q s r pre).1 x.1) := by
  simp [foldW, List.foldl_append]
theorem fold_off (d : Bool) (q s : Int) {l : List Stp} : ∀ (post : List (El l)) (a : List (Int × Int) × Bool), a.2 = false → (post.foldl (fun a x => (rowStep d q s a.1 x.1, a.2 && okStep d q s a.1 x.1)) a).2 = false
  | [], _, h => h
  | x :: r, a, h => fold_off d q s r _ (by show (a.2 && _) = false; rw [h]; rfl)
theorem foldW_off (d : Bool) (q s : Int) {l : List Stp} (r : List (Int × Int)) (pre post : List (El l)) (h : (foldW d q s r pre).2 = false) : (foldW d q s r (pre ++ post)).2 = false := by
  unfold foldW
  rw [List.foldl_append]
  exact fold_off d q s post _ h

/-- A row of n + 1 spans, none of them empty, all within 0 and 10000. -/
structure GoodRow (n : Nat) (r : List (Int × Int)) : Prop where
  len : r.length = n + 1
  at_ : ∀ (i : Nat) (x : Int × Int), r[i]? = some x → 0 ≤ x.1 ∧ x.1 ≤ x.2 ∧ x.2 ≤ 10000
theorem GoodRow.getD {n : Nat} {r : List (Int × Int)} (h : GoodRow n r) {i : Nat} (hi : i ≤ n) : r[i]? = some (r.getD i (0, 0)) := by
  rw [List.getD_eq_getElem?_getD, List.getElem?_eq_getElem (by rw [h.len]; omega)]; rfl
theorem GoodRow.tight {n : Nat} {r : List (Int × Int)} (h : GoodRow n r) {d : Bool} {q s : Int} {x : Nat × Stp} (hx : x.1 < n) (hok : okStep d q s r x = true) :
    (0 ≤ (tightR d q s r x).1.1 ∧ (tightR d q s r x).1.1 ≤ (tightR d q s r x).1.2 ∧ (tightR d q s r x).1.2 ≤ 10000) ∧ (0 ≤ (tightR d q s r x).2.1 ∧ (tightR d q s r x).2.1 ≤ (tightR d q s r x).2.2 ∧ (tightR d q s r x).2.2 ≤ 10000) := by
  have h1 := h.at_ _ _ (h.getD (show x.1 ≤ n by omega))
  have h2 := h.at_ _ _ (h.getD (show x.1 + 1 ≤ n by omega))
  unfold okStep at hok
  simp only [someB, Bool.and_eq_true, decide_eq_true_eq] at hok
  unfold tightR tightB at *
  cases d with
  | true =>
    simp only [if_true] at *
    have m1 := mxB_le (r.getD (x.1 + 1) (0, 0)).1 ((r.getD x.1 (0, 0)).1 + q)
    have m2 := mnB_le (r.getD (x.1 + 1) (0, 0)).2 ((r.getD x.1 (0, 0)).2 + stayMost s x.2)
    omega
  | false =>
    simp only [Bool.false_eq_true, if_false] at *
    have m1 := mxB_le (r.getD x.1 (0, 0)).1 ((r.getD (x.1 + 1) (0, 0)).1 - stayMost s x.2)
    have m2 := mnB_le (r.getD x.1 (0, 0)).2 ((r.getD (x.1 + 1) (0, 0)).2 - q)
    omega
theorem GoodRow.step {n : Nat} {r : List (Int × Int)} (h : GoodRow n r) {d : Bool} {q s : Int} {x : Nat × Stp} (hx : x.1 < n) (hok : okStep d q s r x = true) : GoodRow n (rowStep d q s r x) where
  len := by unfold rowStep; rw [List.length_set, List.length_set]; exact h.len
  at_ i y hy := by
    obtain ⟨t1, t2⟩ := h.tight hx hok
    unfold rowStep at hy
    by_cases e2 : x.1 + 1 = i
    · subst e2
      rw [List.getElem?_set_self (by rw [List.length_set, h.len]; omega)] at hy
      cases hy
      exact t2
    · rw [List.getElem?_set_ne e2] at hy
      by_cases e1 : x.1 = i
      · subst e1
        rw [List.getElem?_set_self (by rw [h.len]; omega)] at hy
        cases hy
        exact t1
      · rw [List.getElem?_set_ne e1] at hy
        exact h.at_ i y hy

/-- The row when k steps are walked forward. -/
def mixL (q s fr b : Int) (l : List Stp) (k : Nat) : List (Int × Int) := (List.range (l.length + 1)).map fun i => if i ≤ k then fwdS q s fr b l i else (lowB fr l i, highB b l i)
theorem mixL_length (q s fr b : Int) (l : List Stp) (k : Nat) : (mixL q s fr b l k).length = l.length + 1 := by simp [mixL]
theorem mixL_get (q s fr b : Int) (l : List Stp) (k i : Nat) (h : i < l.length + 1) : (mixL q s fr b l k)[i]? = some (if i ≤ k then fwdS q s fr b l i else (lowB fr l i, highB b l i)) := by simp [mixL, h]
theorem mixL_zero (q s fr b : Int) (l : List Stp) : mixL q s fr b l 0 = winL fr b l (l.length + 1) := by
  unfold mixL winL
  apply List.map_congr_left
  intro i _
  by_cases h : i ≤ 0
  · have e : i = 0 := by omega
    subst e
    rfl
  · rw [if_neg h]
theorem mixL_all (q s fr b : Int) (l : List Stp) : mixL q s fr b l l.length = fwdL q s fr b l (l.length + 1) := by
  unfold mixL fwdL
  apply List.map_congr_left
  intro i hi
  rw [if_pos (by have := List.mem_range.1 hi; omega)]
theorem getD_of {r : List (Int × Int)} {i : Nat} {x : Int × Int} (h : r[i]? = some x) : r.getD i (0, 0) = x := by rw [List.getD_eq_getElem?_getD, h]; rfl
theorem stayMost_at {s : Int} {l : List Stp} {k : Nat} {t : Stp} (h : l[k]? = some t) : stayMost s t = mostB s l k := by
  unfold stayMost mostB; rw [show l.getD k .zero = t by rw [List.getD_eq_getElem?_getD, h]; rfl]

theorem mixL_tight {q s fr b : Int} {l : List Stp} {k : Nat} {t : Stp} (h : l[k]? = some t) : tightR true q s (mixL q s fr b l k) (k, t) = (fwdS q s fr b l k, fwdS q s fr b l (k + 1)) := by
  have hk : k < l.length := (List.getElem?_eq_some_iff.1 h).1
  have e1 := getD_of (mixL_get q s fr b l k k (by omega))
  have e2 := getD_of (mixL_get q s fr b l k (k + 1) (by omega))
  rw [if_pos (Nat.le_refl _)] at e1
  rw [if_neg (by omega)] at e2
  unfold tightR tightB
  simp only [if_true]
  rw [e1, e2, stayMost_at h]
  rfl
theorem mixL_step {q s fr b : Int} {l : List Stp} {k : Nat} {t : Stp} (h : l[k]? = some t) : rowStep true q s (mixL q s fr b l k) (k, t) = mixL q s fr b l (k + 1) := by
  have hk : k < l.length := (List.getElem?_eq_some_iff.1 h).1
  unfold rowStep
  rw [mixL_tight h]
  apply List.ext_getElem?
  intro i
  by_cases hi : i < l.length + 1
  · rw [mixL_get _ _ _ _ _ _ _ hi]
    by_cases e2 : k + 1 = i
    · subst e2
      rw [List.getElem?_set_self (by rw [List.length_set, mixL_length]; omega), if_pos (Nat.le_refl _)]
    · rw [List.getElem?_set_ne e2]
      by_cases e1 : k = i
      · subst e1
        rw [List.getElem?_set_self (by rw [mixL_length]; omega), if_pos (by omega)]
      · rw [List.getElem?_set_ne e1, mixL_get _ _ _ _ _ _ _ hi]
        by_cases h3 : i ≤ k
        · rw [if_pos h3, if_pos (by omega)]
        · rw [if_neg h3, if_neg (by omega)]
  · rw [List.getElem?_eq_none (by simp [mixL_length]; omega), List.getElem?_eq_none (by rw [mixL_length]; omega)]

theorem first_some {q s fr b : Int} {l : List Stp} (hp : pathB q s fr b l = true) (i : Nat) : 0 ≤ lowB fr l i ∧ lowB fr l i ≤ highB b l i ∧ highB b l i ≤ 10000 := by
  simp only [pathB, Bool.and_eq_true, decide_eq_true_eq] at hp
  obtain ⟨⟨⟨⟨_, _⟩, h3⟩, h4⟩, h5⟩ := hp
  have h3' := (inB_iff _ _ _).1 h3
  unfold lowB highB
  by_cases hk : i < l.length
  · rw [if_pos hk, if_pos hk]
    simp only [goodTo, List.all_eq_true, List.mem_range] at h5
    have := (Bool.and_eq_true_iff.1 (h5 i hk)).1
    simp only [stepB, decide_eq_true_eq] at this
    omega
  · rw [if_neg hk, if_neg hk]
    omega
theorem win_good {q s fr b : Int} {l : List Stp} (hp : pathB q s fr b l = true) : GoodRow l.length (winL fr b l (l.length + 1)) where
  len := by simp [winL]
  at_ i x hx := by
    simp only [winL, List.getElem?_map, Option.map_eq_some_iff] at hx
    obtain ⟨k, _, rfl⟩ := hx
    exact first_some hp k

theorem fwd_fold {q s fr b : Int} {l : List Stp} (hp : pathB q s fr b l = true) : ∀ k, k ≤ l.length →
    (foldW true q s (winL fr b l (l.length + 1)) (allE l k)).2 = fwdTo q s fr b l (k + 1) ∧ (fwdTo q s fr b l (k + 1) = true → (foldW true q s (winL fr b l (l.length + 1)) (allE l k)).1 = mixL q s fr b l k)
  | 0, _ => by
    refine ⟨?_, fun _ => by rw [mixL_zero]; rfl⟩
    have := first_some hp 0
    show true = _
    simp [fwdTo, someB, fwdS]
    exact decide_eq_true this.2.1
  | k + 1, hk => by
    obtain ⟨h1, h2⟩ := fwd_fold hp k (by omega)
    obtain ⟨t, ht⟩ : ∃ t, l[k]? = some t := ⟨l[k], List.getElem?_eq_getElem (by omega)⟩
    rw [allE_succ ht, foldW_snoc]
    cases hf : fwdTo q s fr b l (k + 1) with
    | false =>
      have e : fwdTo q s fr b l (k + 1 + 1) = false := by
        cases e : fwdTo q s fr b l (k + 1 + 1) with
        | false => rfl
        | true =>
          have : fwdTo q s fr b l (k + 1) = true := by
            simp only [fwdTo, List.all_eq_true, List.mem_range] at e ⊢
            exact fun i hi => e i (by omega)
          rw [this] at hf
          cases hf
      rw [h1, hf, e]
      exact ⟨rfl, fun h => by cases h⟩
    | true =>
      have hr := h2 hf
      have hs : someB (fwdS q s fr b l k) = true := by
        have := fwdTo_at hf (show k < k + 1 by omega)
        simpa [someB] using this
      rw [h1, hf, hr, fwdTo_succ hf]
      refine ⟨?_, fun _ => mixL_step ht⟩
      show (true && (someB (tightR true q s (mixL q s fr b l k) (k, t)).1 && someB (tightR true q s (mixL q s fr b l k) (k, t)).2)) = _
      rw [mixL_tight ht, hs]; rfl

theorem back_tight {q s fr b : Int} {l : List Stp} {k m : Nat} {t : Stp} (hk : k < l.length) (hm : l.length - (k + 1) = m) (h : l[m]? = some t) :
    tightR false q s (backL q s fr b l l.length k) (m, t) = (bwdS q s fr b l l.length (k + 1), bwdS q s fr b l l.length k) := by
  have e1 := getD_of (backL_now q s fr b l l.length k hk)
  have e2 := getD_of (backL_next q s fr b l l.length k hk)
  rw [hm] at e1 e2
  unfold tightR tightB
  simp only [Bool.false_eq_true, if_false]
  rw [e1, e2, stayMost_at h]
  simp only [bwdS]
  rw [hm]
theorem back_fold {q s fr b : Int} {l : List Stp} (hp : pathB q s fr b l = true) (hf : fwdTo q s fr b l (l.length + 1) = true) : ∀ k, k ≤ l.length →
    foldW false q s (fwdL q s fr b l (l.length + 1)) (backE l k) = (backL q s fr b l l.length k, true)
  | 0, _ => by rw [backL_zero]; rfl
  | k + 1, hk => by
    have ih := back_fold hp hf k (by omega)
    obtain ⟨m, hm⟩ : ∃ m, l.length - (k + 1) = m := ⟨_, rfl⟩
    obtain ⟨t, ht⟩ : ∃ t, l[m]? = some t := ⟨l[m], List.getElem?_eq_getElem (by omega)⟩
    rw [backE_succ (show l.length - 1 - k = m by omega) ht, foldW_snoc, ih]
    have hT := back_tight (q := q) (s := s) (fr := fr) (b := b) (show k < l.length by omega) hm ht
    have s1 := (bwd_in hp hf (k + 1) (by omega)).1
    have s2 := (bwd_in hp hf k (by omega)).1
    show (((backL q s fr b l l.length k).set m (tightR false q s (backL q s fr b l l.length k) (m, t)).1).set (m + 1) (tightR false q s (backL q s fr b l l.length k) (m, t)).2, true && (someB (tightR false q s (backL q s fr b l l.length k) (m, t)).1 && someB (tightR false q s (backL q s fr b l l.length k) (m, t)).2)) = _
    rw [hT, backL_succ q s fr b l l.length k (by omega), hm]
    have e2 := backL_next q s fr b l l.length k (by omega)
    rw [hm] at e2
    congr 1
    · apply List.ext_getElem?
      intro i
      by_cases e : m + 1 = i
      · subst e
        rw [List.getElem?_set_self (by rw [List.length_set, backL_length]; omega), List.getElem?_set_ne (by omega), e2]
      · rw [List.getElem?_set_ne e]
    · simp [someB]
      exact ⟨s1, s2⟩
theorem fwd_good {q s fr b : Int} {l : List Stp} (hp : pathB q s fr b l = true) (hf : fwdTo q s fr b l (l.length + 1) = true) : GoodRow l.length (fwdL q s fr b l (l.length + 1)) where
  len := by simp [fwdL]
  at_ i x hx := by
    simp only [fwdL, List.getElem?_map, Option.map_eq_some_iff] at hx
    obtain ⟨k, hk, rfl⟩ := hx
    have hk' : k < l.length + 1 := by
      have := List.mem_of_getElem? hk
      simpa using this
    have h1 := fwd_range hp k
    have h2 := fwdTo_at hf hk'
    omega
end Go.Proofs.YtijcdikekgmfoaaGreatDoor

namespace Go.Proofs.YtijcdikekgmfoaaGreatDoor
open Go.RowKit Go.Shelf

def WalkSaid : Prop := ∀ (d : Bool) (gf tf : Nat) (q s : Int) (l : List Stp) (g scap base Bs : Nat) (r : List (Int × Int)) (S : List (El l) → Prop) (Sp : List (El l) → Prop) (seqn : List (El l)) (w : World)
    (_hq : 1 ≤ q ∧ q ≤ 50) (_hs0 : 1 ≤ s ∧ s ≤ 50) (_hl : l.length ≤ 1048576) (_hr : GoodRow l.length r)
    (_hown : w.ownsRow base 56 2 (.slice (some ⟨g, 0, none⟩) (l.length + 1) scap) (l.length + 1) (spanCells r))
    (_hseq : ∀ W, Below w.heap.size w W → SeqStopsK Fence.wide 3 Tryz.prog gf #[.pointer (some ⟨Bs, 0, none⟩)] encA (KeepX w.heap.size g) S Sp l.length W)
    (_heg : ∀ args w, (callFunc gf args).run Tryz.prog w = .ok (.enter gf args) w) (_hS : ∀ xs, S xs → xs = seqn) (_hSp : ∀ xs, Sp xs → ∃ post, seqn = xs ++ post)
    (_htf : ∀ args w, (callFunc tf args).run Tryz.prog w = .ok (.enter tf args) w)
    (_hT : ∀ (mo : Int) (e lf : Int × Int) (w : World), (1 ≤ mo ∧ mo ≤ 10000) → (0 ≤ e.1 ∧ e.1 ≤ e.2 ∧ e.2 ≤ 10000) → (0 ≤ lf.1 ∧ lf.1 ≤ lf.2 ∧ lf.2 ≤ 10000) →
      Calls Tryz.prog tf #[.agg #[.int .i64 e.1, .int .i64 e.2], .agg #[.int .i64 lf.1, .int .i64 lf.2], .agg #[.int .i64 q, .int .i64 mo]] w
        fun x w' => x = .returned (.tuple #[.agg #[.int .i64 (tightB d q mo e lf).1.1, .int .i64 (tightB d q mo e lf).1.2], .agg #[.int .i64 (tightB d q mo e lf).2.1, .int .i64 (tightB d q mo e lf).2.2]]) ∧ Below w.heap.size w w'),
    Calls Tryz.prog 44 #[.agg #[.int .i64 q, .int .i64 s], .slice (some ⟨g, 0, none⟩) (l.length + 1) scap, .func (.func gf) #[] #[.pointer (some ⟨Bs, 0, none⟩)], .func (.func tf) #[] #[]] w
      fun e w' => e = .returned (.bool (foldW d q s r seqn).2) ∧ w.grownBy w' (some g) ∧ ((foldW d q s r seqn).2 = true → w'.ownsRow base 56 2 (.slice (some ⟨g, 0, none⟩) (l.length + 1) scap) (l.length + 1) (spanCells (foldW d q s r seqn).1))

theorem allE_prefix (l : List Stp) (k : Nat) : ∀ (m : Nat), ∃ post, allE l (k + m) = allE l k ++ post
  | 0 => ⟨[], by simp⟩
  | m + 1 => by
    obtain ⟨post, h⟩ := allE_prefix l k m
    exact ⟨post ++ _, by rw [← List.append_assoc, ← h]; rfl⟩
theorem backE_prefix (l : List Stp) (k : Nat) : ∀ (m : Nat), ∃ post, backE l (k + m) = backE l k ++ post
  | 0 => ⟨[], by simp⟩
  | m + 1 => by
    obtain ⟨post, h⟩ := backE_prefix l k m
    exact ⟨post ++ _, by rw [← List.append_assoc, ← h]; rfl⟩

theorem walkF_any (hW : WalkSaid) (q s : Int) (l : List Stp) (g scap base Bs b0 o cap : Nat) (a : Option Addr) (r : List (Int × Int)) (w : World)
    (hq : 1 ≤ q ∧ q ≤ 50) (hs0 : 1 ≤ s ∧ s ≤ 50) (hl : l.length ≤ 1048576) (hr : GoodRow l.length r)
    (hown : w.ownsRow base 56 2 (.slice (some ⟨g, 0, none⟩) (l.length + 1) scap) (l.length + 1) (spanCells r))
    (hBs : Bs < w.heap.size ∧ Bs ≠ g) (hc : w.cell? ⟨Bs, 0, none⟩ = some (.slice a l.length cap)) (hs : StepsAt w a b0 o l) (hb0 : l ≠ [] → b0 < w.heap.size ∧ b0 ≠ g) :
    Calls Tryz.prog 44 #[.agg #[.int .i64 q, .int .i64 s], .slice (some ⟨g, 0, none⟩) (l.length + 1) scap, .func (.func 96) #[] #[.pointer (some ⟨Bs, 0, none⟩)], .func (.func 46) #[] #[]] w
      fun e w' => e = .returned (.bool (foldW true q s r (allE l l.length)).2) ∧ w.grownBy w' (some g) ∧ ((foldW true q s r (allE l l.length)).2 = true → w'.ownsRow base 56 2 (.slice (some ⟨g, 0, none⟩) (l.length + 1) scap) (l.length + 1) (spanCells (foldW true q s r (allE l l.length)).1)) :=
  hW true _ _ q s l g scap base Bs r (fun ys => ys = allE l l.length) (fun pre => ∃ k, k ≤ l.length ∧ pre = allE l k) (allE l l.length) w hq hs0 hl hr hown
    (fun W hWb => all_stops 3 (by omega) Bs w.heap.size b0 o cap g a l hl W hBs hWb.size ((hWb.cell (p := ⟨Bs, 0, none⟩) hBs.1).trans hc) (hs.below hWb (fun h => (hb0 h).1)) hb0)
    (enters_of Tryz.func96 (by kernel_rfl) rfl) (fun _ h => h)
    (fun xs hx => by
      obtain ⟨k, hk, rfl⟩ := hx
      obtain ⟨post, hp⟩ := allE_prefix l k (l.length - k)
      rw [show k + (l.length - k) = l.length by omega] at hp
      exact ⟨post, hp⟩)
    (enters_of Tryz.func46 (by kernel_rfl) rfl)
    (fun mo e lf w hm he hf => tightL_any _ _ _ _ _ _ w (by omega) (by omega) (by omega) (by omega))

theorem walkB_any (hW : WalkSaid) (q s : Int) (l : List Stp) (g scap base Bs b0 o cap : Nat) (a : Option Addr) (r : List (Int × Int)) (w : World)
    (hq : 1 ≤ q ∧ q ≤ 50) (hs0 : 1 ≤ s ∧ s ≤ 50) (hl : l.length ≤ 1048576) (hr : GoodRow l.length r)
    (hown : w.ownsRow base 56 2 (.slice (some ⟨g, 0, none⟩) (l.length + 1) scap) (l.length + 1) (spanCells r))
    (hBs : Bs < w.heap.size ∧ Bs ≠ g) (hc : w.cell? ⟨Bs, 0, none⟩ = some (.slice a l.length cap)) (hs : StepsAt w a b0 o l) (hb0 : l ≠ [] → b0 < w.heap.size ∧ b0 ≠ g) :
    Calls Tryz.prog 44 #[.agg #[.int .i64 q, .int .i64 s], .slice (some ⟨g, 0, none⟩) (l.length + 1) scap, .func (.func 98) #[] #[.pointer (some ⟨Bs, 0, none⟩)], .func (.func 48) #[] #[]] w
      fun e w' => e = .returned (.bool (foldW false q s r (backE l l.length)).2) ∧ w.grownBy w' (some g) ∧ ((foldW false q s r (backE l l.length)).2 = true → w'.ownsRow base 56 2 (.slice (some ⟨g, 0, none⟩) (l.length + 1) scap) (l.length + 1) (spanCells (foldW false q s r (backE l l.length)).1)) :=
  hW false _ _ q s l g scap base Bs r (fun ys => ys = backE l l.length) (fun pre => ∃ k, k ≤ l.length ∧ pre = backE l k) (backE l l.length) w hq hs0 hl hr hown
    (fun W hWb => back_stops 3 (by omega) Bs w.heap.size b0 o cap g a l hl W hBs hWb.size ((hWb.cell (p := ⟨Bs, 0, none⟩) hBs.1).trans hc) (hs.below hWb (fun h => (hb0 h).1)) hb0)
    (enters_of Tryz.func98 (by kernel_rfl) rfl) (fun _ h => h)
    (fun xs hx => by
      obtain ⟨k, hk, rfl⟩ := hx
      obtain ⟨post, hp⟩ := backE_prefix l k (l.length - k)
      rw [show k + (l.length - k) = l.length by omega] at hp
      exact ⟨post, hp⟩)
    (enters_of Tryz.func48 (by kernel_rfl) rfl)
    (fun mo e lf w hm he hf => tightE_any _ _ _ _ _ _ w (by omega) (by omega) (by omega) (by omega))
end Go.Proofs.YtijcdikekgmfoaaGreatDoor

namespace Go.Proofs.YtijcdikekgmfoaaGreatDoor
open Go.RowKit

theorem box_grown {w wr w2 : World} {q s fr b : Int} {v : Value} {g : Nat} (h : BoxP w wr q s fr b v) (hg : wr.grownBy w2 (some g)) (hn : w.heap.size < g) : BoxP w w2 q s fr b v :=
  h.keep ((Below.refl _ _).grown hg h.lt (fun k e => by cases e; omega))

set_option maxRecDepth 20000 in
set_option maxHeartbeats 4000000 in
theorem spans_any (hW : WalkSaid) (hF : FollowSaid) : SpansSaid := by
  intro q s fr b a b0 o cap l w hl hs
  have hB0 := BoxP.new w q s fr b (.slice a l.length cap) 27
  cases hp : pathB q s fr b l with
  | false =>
    have e1 : flyB q s fr b l = false := by unfold flyB; rw [hp]; rfl
    have e2 : flyL q s fr b l = [] := by unfold flyL; rw [hp]; rfl
    rw [e1, e2]
    go_enter Tryz.func10, Tryz.ntmps10
    go_wp2_with fail
    refine (pathOk_any hF _ _ _ _ _ b0 o _ _ _ hl (hs.alloc _)).mono ?_
    rw [hp]
    rintro e w1 ⟨rfl, hb1⟩
    have hB1 := hB0.below hb1
    go_wp2
    go_ret2
    exact ⟨_, rfl, World.ownsRow_nil _ _ _ _, hB1.old⟩
  | true =>
    have e1 : flyB q s fr b l = fwdTo q s fr b l (l.length + 1) := by unfold flyB; rw [hp, span_fwd hp]; rfl
    have e2 : flyL q s fr b l = spansL q s fr b l := by unfold flyL; rw [hp]; rfl
    have kr := kind_range hp
    have hne : l ≠ [] := by have := path_len hp; intro e; subst e; simp at this
    have hfold := fwd_fold hp l.length (Nat.le_refl _)
    rw [e1, e2]
    go_enter Tryz.func10, Tryz.ntmps10
    go_wp2_with fail
    refine (pathOk_any hF _ _ _ _ _ b0 o _ _ _ hl (hs.alloc _)).mono ?_
    rw [hp]
    rintro e w1 ⟨rfl, hb1⟩
    have hB1 := hB0.below hb1
    have c0 := hB1.p0
    have c1 := hB1.p1
    have c2 := hB1.p2
    have c3 := hB1.p3
    have c4 := hB1.p4
    clear hb1 hB0
    go_wp2_with fail
    refine (winds_any _ _ _ _ _ b0 o _ _ _ hl (hs.below hB1.old hs.lt)).mono ?_
    rintro e w2 ⟨v, rfl, ho2, hb2⟩
    obtain ⟨g, scap, rfl, hg1, hg2⟩ := owns_some ho2 (by omega)
    have hB2 := hB1.below hb2
    have z1 := hB1.lt
    have z2 := hB2.lt
    clear c0 c1 c2 c3 c4 hb2 hB1
    have c0 := hB2.p0
    have c1 := hB2.p1
    have c2 := hB2.p2
    have c3 := hB2.p3
    have c4 := hB2.p4
    have hs2 := hs.below hB2.old hs.lt
    have hbw := hs.lt hne
    have hW1 := fun (W : World) (hW2 : Below w2.heap.size w2 W) (Bs : Nat) (hBs : w2.heap.size ≤ Bs ∧ Bs < W.heap.size) (hc : W.cell? ⟨Bs, 0, none⟩ = some (.slice a l.length cap)) =>
      walkF_any hW q s l g scap w1.heap.size Bs b0 o cap a (winL fr b l (l.length + 1)) W ⟨kr.1, by omega⟩ ⟨by omega, kr.2.2⟩ hl (win_good hp) (owns_below ho2 hW2) ⟨hBs.2, by omega⟩ hc (hs2.below hW2 hs2.lt) (fun _ => ⟨by have := hW2.size; omega, by omega⟩)
    have hal : Below w2.heap.size w2 (w2.drew.alloc (.cells #[.slice a l.length cap] 25)) := ((Below.refl w2.heap.size w2).drew).alloc (Nat.le_refl _) _
    have hsz : (w2.drew.alloc (.cells #[.slice a l.length cap] 25)).heap.size = w2.heap.size + 1 := World.size_alloc _ _
    have hcl : (w2.drew.alloc (.cells #[.slice a l.length cap] 25)).cell? ⟨w2.heap.size, 0, none⟩ = some (.slice a l.length cap) := (Boxed.new w2.drew 25 (.slice a l.length cap)).cell
    have HWK := hW1 _ hal w2.heap.size ⟨Nat.le_refl _, by omega⟩ hcl
    have HC : ∀ w4, (w2.drew.alloc (.cells #[.slice a l.length cap] 25)).grownBy w4 (some g) → ∀ j, w4.cell? ⟨w.heap.size, j, none⟩ = w2.cell? ⟨w.heap.size, j, none⟩ := fun w4 hg4 j =>
      (World.cell?_of_block (a := ⟨w.heap.size, j, none⟩) (hg4.block w.heap.size (by omega) (fun e => by cases e; omega))).trans (hal.cell (p := ⟨w.heap.size, j, none⟩) z2)
    clear hW1 hcl
    go_wp2
    go_region_held3 (fun w' => w'.cell? ⟨w.heap.size, 0, none⟩ = some (.int .i64 q) ∧ w'.cell? ⟨w.heap.size, 1, none⟩ = some (.int .i64 s) ∧ w'.cell? ⟨w.heap.size, 2, none⟩ = some (.slice a l.length cap) ∧ w'.cell? ⟨w.heap.size, 3, none⟩ = some (.int .i64 fr) ∧ w'.cell? ⟨w.heap.size, 4, none⟩ = some (.int .i64 b))
      (simp [go_sem, World.cell?_alloc_lt, *])
      (first
        | (go_at_call 45; refine (all_any _ _ _ _).mono ?_; rintro e w3 ⟨rfl, rfl⟩)
        | (go_at_call 44; refine HWK.mono ?_; rintro e w4 ⟨rfl, hg4, ho4⟩; have n0 := HC w4 hg4))
    have hB4 : BoxP w w4 q s fr b (.slice a l.length cap) := box_grown (hB2.below hal) hg4 (by omega)
    rw [hfold.1] at ho4
    clear c0 c1 c2 c3 c4 n0 HC HWK
    cases hf : fwdTo q s fr b l (l.length + 1) with
    | false =>
      have e3 : spansL q s fr b l = [] := by unfold spansL; rw [span_fwd hp, hf]; rfl
      go_wp2
      go_ret2
      exact ⟨_, by rw [hf]; rfl, by rw [e3]; exact World.ownsRow_nil _ _ _ _, hB4.old⟩
    | true =>
      have ho5 := ho4 hf
      rw [hfold.2 hf, mixL_all] at ho5
      have z4 := hB4.lt
      have zg : w2.heap.size + 1 ≤ w4.heap.size := by have := hg4.size; omega
      have hs4 : StepsAt w4 a b0 o l := hs.below hB4.old hs.lt
      have hbk := back_fold hp hf l.length (Nat.le_refl _)
      have HE : Hid (backL q s fr b l l.length l.length = spansL q s fr b l) := backL_all (by rw [span_fwd hp]; exact hf)
      clear ho4 hal hsz hg4 hB2 hs2
      have c0 := hB4.p0
      have c1 := hB4.p1
      have c2 := hB4.p2
      have c3 := hB4.p3
      have c4 := hB4.p4
      have hal : Below w4.heap.size w4 (w4.drew.alloc (.cells #[.slice a l.length cap] 25)) := ((Below.refl w4.heap.size w4).drew).alloc (Nat.le_refl _) _
      have hsz : (w4.drew.alloc (.cells #[.slice a l.length cap] 25)).heap.size = w4.heap.size + 1 := World.size_alloc _ _
      have hcl : (w4.drew.alloc (.cells #[.slice a l.length cap] 25)).cell? ⟨w4.heap.size, 0, none⟩ = some (.slice a l.length cap) := (Boxed.new w4.drew 25 (.slice a l.length cap)).cell
      have HWK := walkB_any hW q s l g scap w1.heap.size w4.heap.size b0 o cap a (fwdL q s fr b l (l.length + 1)) _ ⟨kr.1, by omega⟩ ⟨by omega, kr.2.2⟩ hl (fwd_good hp hf) (owns_below ho5 hal) ⟨by omega, by omega⟩ hcl (hs4.below hal hs4.lt) (fun _ => ⟨by omega, by omega⟩)
      rw [hbk] at HWK
      have HC : ∀ w5, (w4.drew.alloc (.cells #[.slice a l.length cap] 25)).grownBy w5 (some g) → ∀ j, w5.cell? ⟨w.heap.size, j, none⟩ = w4.cell? ⟨w.heap.size, j, none⟩ := fun w5 hg5 j =>
        (World.cell?_of_block (a := ⟨w.heap.size, j, none⟩) (hg5.block w.heap.size (by omega) (fun e => by cases e; omega))).trans (hal.cell (p := ⟨w.heap.size, j, none⟩) z4)
      clear hcl hbk
      go_wp2
      go_region_held3 (fun w' => w'.cell? ⟨w.heap.size, 0, none⟩ = some (.int .i64 q) ∧ w'.cell? ⟨w.heap.size, 1, none⟩ = some (.int .i64 s) ∧ w'.cell? ⟨w.heap.size, 2, none⟩ = some (.slice a l.length cap) ∧ w'.cell? ⟨w.heap.size, 3, none⟩ = some (.int .i64 fr) ∧ w'.cell? ⟨w.heap.size, 4, none⟩ = some (.int .i64 b))
        (simp [go_sem, World.cell?_alloc_lt, *])
        (first
          | (go_at_call 47; refine (backw_any _ _ _ _).mono ?_; rintro e w5 ⟨rfl, rfl⟩)
          | (go_at_call 44; refine HWK.mono ?_; rintro e w6 ⟨rfl, hg6, ho6⟩; have n0 := HC w6 hg6))
      have ho7 := ho6 trivial
      have hB6 : BoxP w w6 q s fr b (.slice a l.length cap) := box_grown (hB4.below hal) hg6 (by omega)
      clear c0 c1 c2 c3 c4 n0 HC HWK ho6
      go_wp2
      go_ret2
      refine ⟨_, by rw [hf]; rfl, ?_, hB6.old⟩
      have hlen : (spansL q s fr b l).length = l.length + 1 := by rw [← HE.out, backL_length]
      rw [hlen, ← HE.out]
      exact ⟨ho7.1, ho7.2.imp id fun ⟨g, cap, cur, h1, h2, h3⟩ => ⟨g, cap, cur, h1, by omega, h3⟩⟩
end Go.Proofs.YtijcdikekgmfoaaGreatDoor

namespace Go.Proofs.YtijcdikekgmfoaaGreatDoor
open Go.RowKit

section
variable {P : Program} {ops : Array Oper} {md : Region.Mode} {Q : Exit → Act → World → Prop} {w0 : World} {A : Nat → Bool} {tl : Nat} {Z : Array Value} {T : TypeId}

/-- A class of worlds in which all lies that lay, closed under what lays new blocks alone. -/
def Clsd (w0 : World) (X : World → Prop) : Prop := (∀ w, X w → Below w0.heap.size w0 w) ∧ ∀ w w', X w → Below w.heap.size w w' → X w'
/-- In each such class the operation leaves v. -/
def YA (P : Program) (ops : Array Oper) (w0 : World) (o : Oper) (v : Value) (a : Act) : Prop := ∀ X, Clsd w0 X → YieldsIn P ops X o v a
/-- The worlds in which these blocks have been laid. -/
structure CS (w0 : World) (Z : Array Value) (T : TypeId) (σ : List (Nat × Nat)) (w : World) : Prop where
  old : Below w0.heap.size w0 w
  at_ : ∀ p ∈ σ, w0.heap.size ≤ p.2 ∧ w.heap[p.2]? = some (.cells Z T (0, 0))
theorem CS.closed (σ : List (Nat × Nat)) : Clsd w0 (CS w0 Z T σ) :=
  ⟨fun _ h => h.old, fun _ _ h hb => ⟨h.old.trans (hb.mono h.old.size), fun p hp => ⟨(h.at_ p hp).1, (hb.block _ (lt_of_block (h.at_ p hp).2)).trans (h.at_ p hp).2⟩⟩⟩
theorem CS.alloc {σ : List (Nat × Nat)} {w : World} (h : CS w0 Z T σ w) (i : Nat) : CS w0 Z T ((i, w.heap.size) :: σ) (w.alloc (.cells Z T)) where
  old := h.old.alloc h.old.size _
  at_ p hp := by
    rcases List.mem_cons.1 hp with rfl | hp
    · exact ⟨h.old.size, heap_alloc_new w _⟩
    · exact ⟨(h.at_ p hp).1, (Below.heap_alloc w _ _ (lt_of_block (h.at_ p hp).2)).trans (h.at_ p hp).2⟩

/-- Whatever order is picked from here on. -/
def anyA (P : Program) (md : Region.Mode) (ops : Array Oper) (Q : Exit → Act → World → Prop) (w0 : World) (A : Nat → Bool) (tl : Nat) (Z : Array Value) (T : TypeId) : Nat → Array Bool → List (Nat × Nat) → Act → Prop
  | 0, _, _, _ => False
  | fuel + 1, listed, σ, a => Region.ready md ops listed ≠ [] ∧ ∀ i ∈ Region.ready md ops listed,
      (i = tl → ∀ w, CS w0 Z T σ w → wpOp P ops Q i (wpAny P md ops Q fuel (listed.setIfInBounds i true)) a w) ∧
      (i ≠ tl → A i = true → ∀ o B, ops[i]? = some o → w0.heap.size ≤ B → B ∉ σ.map (·.2) → anyA P md ops Q w0 A tl Z T fuel (listed.setIfInBounds i true) ((i, B) :: σ) (a.put o.dst (.pointer (some ⟨B, 0, none⟩)))) ∧
      (i ≠ tl → A i = false → ∃ o v, ops[i]? = some o ∧ YA P ops w0 o v a ∧ anyA P md ops Q w0 A tl Z T fuel (listed.setIfInBounds i true) σ (a.put o.dst v))

theorem any_of_A (hA : ∀ i o, A i = true → ops[i]? = some o → o.guard = none ∧ ∀ ρ w, (execOp ρ o).run P w = .ok (.value (.pointer (some ⟨w.heap.size, 0, none⟩))) (w.alloc (.cells Z T))) :
    ∀ (fuel : Nat) (listed : Array Bool) (σ : List (Nat × Nat)) (a : Act) (w : World), CS w0 Z T σ w → anyA P md ops Q w0 A tl Z T fuel listed σ a → wpAny P md ops Q fuel listed a w
  | 0, _, _, _, _, _, h => h.elim
  | fuel + 1, listed, σ, a, w, hw, h => ⟨fun e => absurd e h.1, fun i hi => by
      obtain ⟨h1, h2, h3⟩ := h.2 i hi
      by_cases e : i = tl
      · exact h1 e w hw
      · cases ha : A i with
        | true =>
          obtain ⟨_, o, ho, _⟩ := mem_ready.1 hi
          obtain ⟨hg, hr⟩ := hA i o ha ho
          have hk := h2 e ha o w.heap.size ho hw.old.size (fun hm => by
            obtain ⟨p, hp, hpe⟩ := List.mem_map.1 hm
            have := lt_of_block (hw.at_ p hp).2
            omega)
          refine wpOp_step ho (fun K' hK => ?_)
          rw [if_pos (by simp [Region.wanted, hg])]
          unfold Oper.wp
          rw [hr]
          exact hK _ _ (any_of_A hA fuel _ _ _ _ (hw.alloc i) hk)
        | false =>
          obtain ⟨o, v, ho, hy, hk⟩ := h3 e ha
          exact wpOp_of_qOp (C := CS w0 Z T σ) hw (fun a' w' hw' hk' => any_of_A hA fuel _ σ a' w' hw' hk') ((hy _ (CS.closed σ)).qOp ho hk)⟩

theorem YA.put {o oj : Oper} {v u : Value} {a : Act} (h : YA P ops w0 o v a) (hs : ∀ cs b, o.op ≠ .select cs b) (hap : ∀ d, oj.dst = some d → d ∉ o.looksAt ops) : YA P ops w0 o v (a.put oj.dst u) := fun X hX =>
  (h X hX).of_same (execOp_put o hs a oj.dst u hap) (wanted_put o a oj.dst u hap)
theorem YA.unput {o oi : Oper} {v u : Value} {a : Act} (h : YA P ops w0 o v (a.put oi.dst u)) (hs : ∀ cs b, o.op ≠ .select cs b) (hap : ∀ d, oi.dst = some d → d ∉ o.looksAt ops) : YA P ops w0 o v a := fun X hX =>
  (h X hX).of_same (execOp_put o hs a oi.dst u hap).symm (wanted_put o a oi.dst u hap).symm

/-- An operation that yields its value in each class, may come up now, and is apart from what does not wait for it, may be taken first. -/
theorem anyA_take {i x : Nat} {oi : Oper} {v : Value} (hi : ops[i]? = some oi) (hia : A i = false) (hit : i ≠ tl) (hsel : ∀ (j : Nat) (o : Oper) cs b, ops[j]? = some o → o.op ≠ .select cs b)
    (hx : x = i ∨ ∃ ox, ops[x]? = some ox ∧ ∃ e ∈ ox.after, Region.binds md e = true ∧ e.on = i)
    (hwait : ∀ oL, ops[tl]? = some oL → ∃ e ∈ oL.after, Region.binds md e = true ∧ e.on = x) :
    ∀ (fuel : Nat) (listed : Array Bool) (σ : List (Nat × Nat)) (a : Act), listed.getD x true = false →
      (∀ j oj, ops[j]? = some oj → j ≠ i → listed.getD j true = false → (∀ e ∈ oj.after, Region.binds md e = true → e.on ≠ i) → oi.apart ops oj = true) →
      i ∈ Region.ready md ops listed → YA P ops w0 oi v a →
      anyA P md ops Q w0 A tl Z T fuel (listed.setIfInBounds i true) σ (a.put oi.dst v) → anyA P md ops Q w0 A tl Z T (fuel + 1) listed σ a := by
  intro fuel
  induction fuel with
  | zero => intro _ _ _ _ _ _ _ H; exact H.elim
  | succ fuel ih =>
    intro listed σ a hxu hfree hr hy H
    have hun : listed.getD i true = false := (mem_ready.1 hr).1
    have clash : listed.getD i false = true → False := fun h1 => by
      rcases Nat.lt_or_ge i listed.size with h' | h'
      · simp [h'] at hun h1; rw [hun] at h1; cases h1
      · simp [Array.getElem?_eq_none h'] at h1
    have clashx : listed.getD x false = true → False := fun h1 => by
      rcases Nat.lt_or_ge x listed.size with h' | h'
      · simp [h'] at hxu h1; rw [hxu] at h1; cases h1
      · simp [Array.getElem?_eq_none h'] at h1
    refine ⟨fun e => (by rw [e] at hr; cases hr), fun j hj => ?_⟩
    obtain ⟨hjun, oj, hoj, hall⟩ := mem_ready.1 hj
    have hjl : j ≠ tl := fun e => by
      subst e
      obtain ⟨y, hy', hb, ho⟩ := hwait oj hoj
      exact clashx (by have := hall y hy' hb; rwa [ho] at this)
    refine ⟨fun e => absurd e hjl, ?_⟩
    by_cases hji : j = i
    · subst hji
      exact ⟨fun _ ha => absurd (hia.symm.trans ha) (by simp), fun _ _ => ⟨oi, v, hi, hy, H⟩⟩
    · have hnot : ∀ e ∈ oj.after, Region.binds md e = true → e.on ≠ i := fun e he hb heq => clash (by have := hall e he hb; rwa [heq] at this)
      obtain ⟨a1, a2, a3⟩ := Oper.apart_spec (hfree j oj hoj hji hjun hnot)
      have hjx : j ≠ x := fun e => by
        rcases hx with rfl | ⟨ox, hox, y, hy', hb, ho⟩
        · exact hji e
        · subst e
          rw [hoj] at hox
          cases hox
          exact hnot y hy' hb ho
      obtain ⟨_, h2, h3⟩ := H.2 j (ready_mono hj hji)
      have hxu' : (listed.setIfInBounds j true).getD x true = false := by rw [getD_set_ne true hjx]; exact hxu
      have hfree' : ∀ k ok, ops[k]? = some ok → k ≠ i → (listed.setIfInBounds j true).getD k true = false → (∀ e ∈ ok.after, Region.binds md e = true → e.on ≠ i) → oi.apart ops ok = true := fun k ok hk hki hku hkn => hfree k ok hk hki (by
        by_cases hjk : j = k
        · subst hjk; exact hjun
        · rw [getD_set_ne true hjk] at hku; exact hku) hkn
      refine ⟨fun _ ha o B ho hB hBσ => ?_, fun _ ha => ?_⟩
      · rw [hoj] at ho
        cases ho
        have := h2 hjl ha oj B hoj hB hBσ
        rw [Array.setIfInBounds_comm _ _ (Ne.symm hji), Act.put_comm a v _ a2] at this
        exact ih _ _ _ hxu' hfree' (ready_mono hr (Ne.symm hji)) (hy.put (fun cs b => hsel i oi cs b hi) a3) this
      · obtain ⟨o, u, ho, hyj, hk⟩ := h3 hjl ha
        rw [hoj] at ho
        cases ho
        rw [Array.setIfInBounds_comm _ _ (Ne.symm hji), Act.put_comm a v _ a2] at hk
        exact ⟨oj, u, hoj, hyj.unput (fun cs b => hsel j oj cs b hoj) a1, ih _ _ _ hxu' hfree' (ready_mono hr (Ne.symm hji)) (hy.put (fun cs b => hsel i oi cs b hi) a3) hk⟩

/-- The lexical walk, with values that hold in each class. -/
def wpQA (P : Program) (ops : Array Oper) (w0 : World) (Fin : Act → Prop) : List Oper → Act → Prop
  | [], a => Fin a
  | o :: rest, a => ∃ v, YA P ops w0 o v a ∧ wpQA P ops w0 Fin rest (a.put o.dst v)
/-- What is listed when n more are. -/
def listTo (listed : Array Bool) (k : Nat) : Nat → Array Bool
  | 0 => listed
  | n + 1 => listTo (listed.setIfInBounds k true) (k + 1) n
/-- The Bool over a region. -/
def lexA (md : Region.Mode) (ops : Array Oper) (A : Nat → Bool) (tl : Nat) : Nat → Nat → Array Bool → Bool
  | 0, _, _ => true
  | n + 1, k, listed => (Region.ready md ops listed).contains k && Region.free md ops listed k && (!(A k)) && (k != tl) && (waitsAt md ops tl k listed).isSome && lexA md ops A tl n (k + 1) (listed.setIfInBounds k true)

theorem anyA_lex (hs : Region.noSelect ops = true) (m : Nat) : ∀ (l : List Oper) (k : Nat) (listed : Array Bool) (a : Act), (∀ j, j < l.length → l[j]? = ops[k + j]?) → lexA md ops A tl l.length k listed = true →
    wpQA P ops w0 (anyA P md ops Q w0 A tl Z T m (listTo listed k l.length) []) l a → anyA P md ops Q w0 A tl Z T (l.length + m) listed [] a
  | [], _, _, a, _, _, h => by simpa [wpQA, listTo] using h
  | o :: l, k, listed, a, hl, hB, h => by
    have h0 : ops[k]? = some o := by simpa using (hl 0 (by simp)).symm
    simp only [List.length_cons, lexA, Bool.and_eq_true] at hB
    obtain ⟨⟨⟨⟨⟨hr, hf⟩, hk1⟩, hk2⟩, hwt⟩, hB'⟩ := hB
    obtain ⟨x, hxw⟩ := Option.isSome_iff_exists.1 hwt
    have hxp := List.find?_some hxw
    simp only [Bool.and_eq_true, Bool.not_eq_true'] at hxp
    obtain ⟨⟨hx1, hx2⟩, hx3⟩ := hxp
    obtain ⟨v, hy, hK⟩ := h
    have ih := anyA_lex hs m l (k + 1) (listed.setIfInBounds k true) (a.put o.dst v) (fun j hj => by have := hl (j + 1) (by simp; omega); simpa [Nat.add_assoc, Nat.add_comm 1 j] using this) hB' hK
    have e : (o :: l).length + m = (l.length + m) + 1 := by simp; omega
    rw [e]
    refine anyA_take (x := x) h0 (by simpa using hk1) (by simpa using hk2) (Region.noSelect_spec hs) ?_ (fun oL hoL => ?_) (l.length + m) listed [] a hx1 (Region.free_spec h0 hf) (by simpa using hr) hy ih
    · simp only [Bool.or_eq_true, beq_iff_eq] at hx2
      rcases hx2 with h1 | h1
      · exact Or.inl h1
      · right
        cases hox : ops[x]? with
        | none => rw [hox] at h1; cases h1
        | some ox =>
          rw [hox] at h1
          simp only [List.any_eq_true, Bool.and_eq_true, beq_iff_eq] at h1
          obtain ⟨e, he, h2, h3⟩ := h1
          exact ⟨ox, rfl, e, by simpa using he, h2, h3⟩
    · rw [hoL] at hx3
      simp only [List.any_eq_true, Bool.and_eq_true, beq_iff_eq] at hx3
      obtain ⟨e, he, h2, h3⟩ := hx3
      exact ⟨e, by simpa using he, h2, h3⟩
end
end Go.Proofs.YtijcdikekgmfoaaGreatDoor

namespace Go.Proofs.YtijcdikekgmfoaaGreatDoor
open Go.RowKit

section
variable {P : Program} {ops : Array Oper} {md : Region.Mode} {Q : Exit → Act → World → Prop} {w0 : World} {A : Nat → Bool} {Z : Array Value} {T : TypeId}

theorem anyA_end (k : Nat) (oA oB : Oper) (listed : Array Bool) (a : Act) (hoA : ops[k]? = some oA) (hoB : ops[k + 1]? = some oB)
    (r0 : Region.ready md ops listed = [k, k + 1]) (r1 : Region.ready md ops (listed.setIfInBounds k true) = [k + 1]) (r2 : Region.ready md ops (listed.setIfInBounds (k + 1) true) = [k])
    (r3 : Region.ready md ops ((listed.setIfInBounds k true).setIfInBounds (k + 1) true) = [k + 2]) (r4 : Region.ready md ops (((listed.setIfInBounds k true).setIfInBounds (k + 1) true).setIfInBounds (k + 2) true) = [k + 3])
    (r5 : Region.ready md ops ((((listed.setIfInBounds k true).setIfInBounds (k + 1) true).setIfInBounds (k + 2) true).setIfInBounds (k + 3) true) = [])
    (hA1 : A k = true) (hA2 : A (k + 1) = true) (hdst : ∀ d, oA.dst = some d → oB.dst ≠ some d)
    (h : ∀ B1 B2 w, w0.heap.size ≤ B1 → w0.heap.size ≤ B2 → B1 ≠ B2 → Below w0.heap.size w0 w → w.heap[B1]? = some (.cells Z T (0, 0)) → w.heap[B2]? = some (.cells Z T (0, 0)) →
      wpOp P ops Q (k + 2) (fun a' w' => wpOp P ops Q (k + 3) (fun a'' w'' => Q .normal a'' w'') a' w') ((a.put oA.dst (.pointer (some ⟨B1, 0, none⟩))).put oB.dst (.pointer (some ⟨B2, 0, none⟩))) w) :
    anyA P md ops Q w0 A (k + 2) Z T 4 listed [] a := by
  have fin : ∀ B1 B2 w, w0.heap.size ≤ B1 → w0.heap.size ≤ B2 → B1 ≠ B2 → Below w0.heap.size w0 w → w.heap[B1]? = some (.cells Z T (0, 0)) → w.heap[B2]? = some (.cells Z T (0, 0)) →
      wpOp P ops Q (k + 2) (wpAny P md ops Q 1 (((listed.setIfInBounds k true).setIfInBounds (k + 1) true).setIfInBounds (k + 2) true)) ((a.put oA.dst (.pointer (some ⟨B1, 0, none⟩))).put oB.dst (.pointer (some ⟨B2, 0, none⟩))) w := by
    intro B1 B2 w h1 h2 h3 h4 h5 h6
    refine wpOp_mono (fun a' w' h' => ?_) (h B1 B2 w h1 h2 h3 h4 h5 h6)
    refine ⟨fun e => ?_, fun i hi => ?_⟩
    · rw [r4] at e
      cases e
    · rw [r4] at hi
      obtain rfl : i = k + 3 := by simpa using hi
      exact wpOp_mono (fun a'' w'' h'' => ⟨r5, h''⟩) h'
  refine ⟨by rw [r0]; simp, fun i hi => ?_⟩
  rw [r0] at hi
  rcases (show i = k ∨ i = k + 1 by simpa using hi) with rfl | rfl
  · refine ⟨fun e => by omega, fun _ _ o B ho hB _ => ?_, fun _ ha => absurd (hA1.symm.trans ha) (by simp)⟩
    rw [hoA] at ho
    cases ho
    refine ⟨by rw [r1]; simp, fun j hj => ?_⟩
    rw [r1] at hj
    obtain rfl : j = i + 1 := by simpa using hj
    refine ⟨fun e => by omega, fun _ _ o B' ho hB' hn => ?_, fun _ ha => absurd (hA2.symm.trans ha) (by simp)⟩
    rw [hoB] at ho
    cases ho
    have hne : B ≠ B' := fun e => hn (by simp [e])
    refine ⟨by rw [r3]; simp, fun m hm => ?_⟩
    rw [r3] at hm
    obtain rfl : m = i + 2 := by simpa using hm
    refine ⟨fun _ w hw => ?_, fun e => absurd rfl e, fun e => absurd rfl e⟩
    exact fin B B' w hB hB' hne hw.old (hw.at_ (i, B) (by simp)).2 (hw.at_ (i + 1, B') (by simp)).2
  · refine ⟨fun e => by omega, fun _ _ o B ho hB _ => ?_, fun _ ha => absurd (hA2.symm.trans ha) (by simp)⟩
    rw [hoB] at ho
    cases ho
    refine ⟨by rw [r2]; simp, fun j hj => ?_⟩
    rw [r2] at hj
    obtain rfl : j = k := by simpa using hj
    refine ⟨fun e => by omega, fun _ _ o B' ho hB' hn => ?_, fun _ ha => absurd (hA1.symm.trans ha) (by simp)⟩
    rw [hoA] at ho
    cases ho
    have hne : B' ≠ B := fun e => hn (by simp [e])
    have hcm : (listed.setIfInBounds (j + 1) true).setIfInBounds j true = (listed.setIfInBounds j true).setIfInBounds (j + 1) true := Array.setIfInBounds_comm _ _ (by omega)
    rw [hcm]
    refine ⟨by rw [r3]; simp, fun m hm => ?_⟩
    rw [r3] at hm
    obtain rfl : m = j + 2 := by simpa using hm
    refine ⟨fun _ w hw => ?_, fun e => absurd rfl e, fun e => absurd rfl e⟩
    rw [← Act.put_comm a _ _ hdst]
    exact fin B' B w hB' hB hne hw.old (hw.at_ (j, B') (by simp)).2 (hw.at_ (j + 1, B) (by simp)).2

theorem YA_of {o : Oper} {v : Value} {a : Act} (hg : o.guard = none) (h : ∀ W, Below w0.heap.size w0 W → (execOp a.eval o).run P W = .ok (.value v) W) : YA P ops w0 o v a := fun X hX =>
  .inl ⟨by simp [Region.wanted, hg], fun W hW => by unfold Oper.quietAt; rw [h W (hX.1 W hW)]; exact ⟨rfl, rfl⟩⟩
theorem YA_call {o : Oper} {v : Value} {a : Act} {f : FuncId} {args : Array Value} (hg : o.guard = none) (h : ∀ W, Below w0.heap.size w0 W → (execOp a.eval o).run P W = .ok (.enter f args) W)
    (hc : ∀ W, Calls P f args W fun e w' => e = .returned v ∧ Below W.heap.size W w') : YA P ops w0 o v a := fun X hX =>
  .inl ⟨by simp [Region.wanted, hg], fun W hW => by
    unfold Oper.quietAt
    rw [h W (hX.1 W hW)]
    exact ⟨rfl, (hc W).mono fun e w' ⟨h1, h2⟩ => ⟨h1, hX.2 W w' hW h2⟩⟩⟩

theorem wpQA_cons {F : Act → Prop} {o : Oper} {rest : List Oper} {a : Act} (v : Value) (h : YA P ops w0 o v a) (hr : wpQA P ops w0 F rest (a.put o.dst v)) : wpQA P ops w0 F (o :: rest) a := ⟨v, h, hr⟩
theorem wpQA_nil {F : Act → Prop} {a : Act} (h : F a) : wpQA P ops w0 F [] a := h

theorem wpOp_go {i : Nat} {o : Oper} {K : Act → World → Prop} {a : Act} {w : World} (ho : ops[i]? = some o) (hg : o.guard = none) (h : ∀ K' : Act → World → Prop, (∀ a w, K a w → K' a w) → o.wp P a w K' Q) : wpOp P ops Q i K a w :=
  wpOp_step ho (fun K' hK => by rw [if_pos (by simp [Region.wanted, hg])]; exact h K' hK)

/-- No operation defers. -/
def noDefer (ops : Array Oper) : Bool := ops.all fun o => match o.op with | .defer _ => false | _ => true
theorem noDefer_at (h : noDefer ops = true) {i : Nat} {o : Oper} (ho : ops[i]? = some o) : ∀ c, o.op ≠ .defer c := fun c hc => by
  have hm : o ∈ ops := Array.mem_of_getElem? ho
  have := Array.all_eq_true'.1 h o hm
  rw [hc] at this
  cases this

theorem opIn_of {lp n : Nat} (hd : noDefer ops = true) (hQ : ¬ LetsOut Q) {i : Nat} {K K' : Act → World → Prop} {a : Act} {w : World} (hK : ∀ a w, K a w → K' a w) (h : wpOp P ops Q i K a w) : wpOpIn (Fence.wide.inRound lp) n P ops Q i K' a w := by
  unfold wpOp at h
  unfold wpOpIn
  cases ho : ops[i]? with
  | none => simp only [ho] at h ⊢; exact hK _ _ h
  | some o =>
    simp only [ho] at h ⊢
    split
    · rename_i hw
      rw [if_pos hw] at h
      rcases h with h | h
      · refine ⟨fun _ _ => trivial, ?_⟩
        rw [Oper.semAt_eq _ _ _ (noDefer_at hd ho)]
        unfold Oper.wp at h
        generalize (execOp a.eval o).run P w = r at h ⊢
        cases r with
        | ok x w' =>
          cases x <;> simp only [Oper.upon] at h <;> simp only [Oper.uponIn]
          case value v => exact hK _ _ h
          case skip => exact hK _ _ h
          case defer d => exact hK _ _ h
          case enter f args =>
            refine ⟨fun e => by simp [Fence.wide, Fence.inRound] at e, CallsIn.inRound lp (callsIn_wide.2 (h.mono fun e w'' he => ?_))⟩
            cases e with
            | returned v => exact hK _ _ he
            | panicked c => exact he
            | outgrown => exact he
          case row row args =>
            refine ⟨fun e => by simp [Fence.wide, Fence.inRound] at e, fun c cs _ => ?_⟩
            obtain ⟨v, w'', hr, hs⟩ := h c cs
            exact ⟨v, w'', hK _ _ hr, stepsIn_wide.2 hs⟩
        | halt x w' => cases x <;> simp only [Oper.upon] at h <;> simp only [Oper.uponIn] <;> exact h
      · exact absurd h.2 hQ
    · rename_i hw
      rw [if_neg hw] at h
      exact ⟨fun _ _ => trivial, hK _ _ h⟩

theorem anyIn_of {lp n : Nat} (hd : noDefer ops = true) (hQ : ¬ LetsOut Q) : ∀ (fuel : Nat) (listed : Array Bool) (a : Act) (w : World), wpAny P md ops Q fuel listed a w → wpAnyIn (Fence.wide.inRound lp) n P md ops Q fuel listed a w
  | 0, _, _, _, h => h
  | fuel + 1, _, _, _, h => ⟨h.1, fun i hi => opIn_of hd hQ (fun a' w' h' => anyIn_of hd hQ fuel _ a' w' h') (h.2 i hi)⟩

/-- The region, inside a round. -/
theorem wpIn_region_two {id n lp : Nat} (k : Nat) (oA oB : Oper) {a : Act} {w : World} (hm : P.follows .mixedOrders = true) (hs : Region.noSelect ops = true) (hd : noDefer ops = true) (hQ : ¬ LetsOut Q) (hsz : ops.size = k + 4)
    (hoA : ops[k]? = some oA) (hoB : ops[k + 1]? = some oB)
    (hgA : oA.guard = none) (hgB : oB.guard = none) (hrA : ∀ ρ w, (execOp ρ oA).run P w = .ok (.value (.pointer (some ⟨w.heap.size, 0, none⟩))) (w.alloc (.cells Z T))) (hrB : ∀ ρ w, (execOp ρ oB).run P w = .ok (.value (.pointer (some ⟨w.heap.size, 0, none⟩))) (w.alloc (.cells Z T)))
    (hlex : lexA .any ops (fun i => i == k || i == k + 1) (k + 2) k 0 (Array.replicate ops.size false) = true)
    (r0 : Region.ready .any ops (listTo (Array.replicate ops.size false) 0 k) = [k, k + 1]) (r1 : Region.ready .any ops ((listTo (Array.replicate ops.size false) 0 k).setIfInBounds k true) = [k + 1]) (r2 : Region.ready .any ops ((listTo (Array.replicate ops.size false) 0 k).setIfInBounds (k + 1) true) = [k])
    (r3 : Region.ready .any ops (((listTo (Array.replicate ops.size false) 0 k).setIfInBounds k true).setIfInBounds (k + 1) true) = [k + 2]) (r4 : Region.ready .any ops ((((listTo (Array.replicate ops.size false) 0 k).setIfInBounds k true).setIfInBounds (k + 1) true).setIfInBounds (k + 2) true) = [k + 3])
    (r5 : Region.ready .any ops (((((listTo (Array.replicate ops.size false) 0 k).setIfInBounds k true).setIfInBounds (k + 1) true).setIfInBounds (k + 2) true).setIfInBounds (k + 3) true) = [])
    (hdst : ∀ d, oA.dst = some d → oB.dst ≠ some d)
    (h : wpQA P ops w (fun a' => ∀ B1 B2 w', w.heap.size ≤ B1 → w.heap.size ≤ B2 → B1 ≠ B2 → Below w.heap.size w w' → w'.heap[B1]? = some (.cells Z T (0, 0)) → w'.heap[B2]? = some (.cells Z T (0, 0)) →
      wpOp P ops Q (k + 2) (fun a' w' => wpOp P ops Q (k + 3) (fun a'' w'' => Q .normal a'' w'') a' w') ((a'.put oA.dst (.pointer (some ⟨B1, 0, none⟩))).put oB.dst (.pointer (some ⟨B2, 0, none⟩))) w') (ops.toList.take k) a) :
    (Code.region id ops true).wpIn (Fence.wide.inRound lp) n P Q a w := by
  have hlen : (ops.toList.take k).length = k := by rw [List.length_take, Array.length_toList, hsz]; omega
  refine wpIn_region_any hm (anyIn_of hd hQ _ _ _ _ ?_)
  refine any_of_A (w0 := w) (A := fun i => i == k || i == k + 1) (tl := k + 2) (Z := Z) (T := T) ?_ _ _ [] _ _ ⟨(Below.refl w.heap.size w).drew, fun p hp => by cases hp⟩ ?_
  · intro i o hi ho
    simp only [Bool.or_eq_true, beq_iff_eq] at hi
    rcases hi with rfl | rfl
    · rw [hoA] at ho; cases ho; exact ⟨hgA, hrA⟩
    · rw [hoB] at ho; cases ho; exact ⟨hgB, hrB⟩
  · have key := anyA_lex (P := P) (Q := Q) (w0 := w) (A := fun i => i == k || i == k + 1) (tl := k + 2) (Z := Z) (T := T) (md := .any) hs 4 (ops.toList.take k) 0 (Array.replicate ops.size false) a
      (fun j hj => by rw [hlen] at hj; rw [List.getElem?_take_of_lt hj]; simp) (by rw [hlen]; exact hlex)
    rw [hlen, ← hsz] at key
    refine key ?_
    have mono : ∀ (l : List Oper) (a : Act) (F G : Act → Prop), (∀ a, F a → G a) → wpQA P ops w F l a → wpQA P ops w G l a := by
      intro l
      induction l with
      | nil => intro a F G hFG hF; exact hFG _ hF
      | cons o r ih => intro a F G hFG hF; obtain ⟨v, h1, h2⟩ := hF; exact ⟨v, h1, ih _ F G hFG h2⟩
    refine mono _ _ _ _ (fun a' ha' => ?_) h
    exact anyA_end k oA oB _ a' hoA hoB r0 r1 r2 r3 r4 r5 (by simp) (by simp) hdst ha'
end
end Go.Proofs.YtijcdikekgmfoaaGreatDoor

namespace Go.Proofs.YtijcdikekgmfoaaGreatDoor
open Go.RowKit

section
variable {P : Program} {ops : Array Oper} {md : Region.Mode} {Q : Exit → Act → World → Prop} {w0 : World} {A : Nat → Bool} {Z : Array Value} {T : TypeId}

theorem anyA_end5 (k : Nat) (oC oA oB oS : Oper) (v : Value) (L : Array Bool) (a : Act) (hoC : ops[k]? = some oC) (hoA : ops[k + 1]? = some oA) (hoB : ops[k + 2]? = some oB) (hoS : ops[k + 3]? = some oS)
    (q0 : Region.ready md ops L = [k, k + 1, k + 2]) (qC : Region.ready md ops (L.setIfInBounds k true) = [k + 1, k + 2])
    (qA : Region.ready md ops (L.setIfInBounds (k + 1) true) = [k, k + 2]) (qB : Region.ready md ops (L.setIfInBounds (k + 2) true) = [k, k + 1])
    (qCA : Region.ready md ops ((L.setIfInBounds k true).setIfInBounds (k + 1) true) = [k + 2]) (qCB : Region.ready md ops ((L.setIfInBounds k true).setIfInBounds (k + 2) true) = [k + 1])
    (qAB : Region.ready md ops ((L.setIfInBounds (k + 1) true).setIfInBounds (k + 2) true) = [k, k + 3])
    (qCAB : Region.ready md ops (((L.setIfInBounds k true).setIfInBounds (k + 1) true).setIfInBounds (k + 2) true) = [k + 3])
    (qABS : Region.ready md ops (((L.setIfInBounds (k + 1) true).setIfInBounds (k + 2) true).setIfInBounds (k + 3) true) = [k])
    (qCABS : Region.ready md ops ((((L.setIfInBounds k true).setIfInBounds (k + 1) true).setIfInBounds (k + 2) true).setIfInBounds (k + 3) true) = [k + 4])
    (qall : Region.ready md ops (((((L.setIfInBounds k true).setIfInBounds (k + 1) true).setIfInBounds (k + 2) true).setIfInBounds (k + 3) true).setIfInBounds (k + 4) true) = [])
    (hA0 : A k = false) (hA1 : A (k + 1) = true) (hA2 : A (k + 2) = true)
    (dAB : ∀ d, oA.dst = some d → oB.dst ≠ some d) (dCA : ∀ d, oC.dst = some d → oA.dst ≠ some d) (dCB : ∀ d, oC.dst = some d → oB.dst ≠ some d)
    (hsel : ∀ cs b, oC.op ≠ .select cs b) (lA : ∀ d, oA.dst = some d → d ∉ oC.looksAt ops) (lB : ∀ d, oB.dst = some d → d ∉ oC.looksAt ops)
    (hy : YA P ops w0 oC v a)
    (h : ∀ B1 B2 w, w0.heap.size ≤ B1 → w0.heap.size ≤ B2 → B1 ≠ B2 → Below w0.heap.size w0 w → w.heap[B1]? = some (.cells Z T (0, 0)) → w.heap[B2]? = some (.cells Z T (0, 0)) →
      wpOp P ops Q (k + 3) (fun a' w' => wpOp P ops Q (k + 4) (fun a'' w'' => Q .normal a'' w'') a' w') (((a.put oC.dst v).put oA.dst (.pointer (some ⟨B1, 0, none⟩))).put oB.dst (.pointer (some ⟨B2, 0, none⟩))) w)
    (h2 : ∀ B1 B2 w, w0.heap.size ≤ B1 → w0.heap.size ≤ B2 → B1 ≠ B2 → Below w0.heap.size w0 w → w.heap[B1]? = some (.cells Z T (0, 0)) → w.heap[B2]? = some (.cells Z T (0, 0)) →
      wpOp P ops Q (k + 3) (fun a' w' => wpOp P ops Q k (fun b w'' => wpOp P ops Q (k + 4) (fun a'' w'' => Q .normal a'' w'') b w'') a' w') ((a.put oA.dst (.pointer (some ⟨B1, 0, none⟩))).put oB.dst (.pointer (some ⟨B2, 0, none⟩))) w) :
    anyA P md ops Q w0 A (k + 3) Z T 5 L [] a := by
  have last : ∀ a' w', wpOp P ops Q (k + 4) (fun a'' w'' => Q .normal a'' w'') a' w' → wpAny P md ops Q 1 ((((L.setIfInBounds k true).setIfInBounds (k + 1) true).setIfInBounds (k + 2) true).setIfInBounds (k + 3) true) a' w' := by
    intro a' w' h'
    refine ⟨fun e => ?_, fun i hi => ?_⟩
    · rw [qCABS] at e
      cases e
    · rw [qCABS] at hi
      obtain rfl : i = k + 4 := by simpa using hi
      exact wpOp_mono (fun a'' w'' h'' => ⟨qall, h''⟩) h'
  have fin : ∀ B1 B2 w, w0.heap.size ≤ B1 → w0.heap.size ≤ B2 → B1 ≠ B2 → Below w0.heap.size w0 w → w.heap[B1]? = some (.cells Z T (0, 0)) → w.heap[B2]? = some (.cells Z T (0, 0)) →
      wpOp P ops Q (k + 3) (wpAny P md ops Q 1 ((((L.setIfInBounds k true).setIfInBounds (k + 1) true).setIfInBounds (k + 2) true).setIfInBounds (k + 3) true)) (((a.put oC.dst v).put oA.dst (.pointer (some ⟨B1, 0, none⟩))).put oB.dst (.pointer (some ⟨B2, 0, none⟩))) w :=
    fun B1 B2 w g1 g2 g3 g4 g5 g6 => wpOp_mono last (h B1 B2 w g1 g2 g3 g4 g5 g6)
  have cm1 : (((L.setIfInBounds (k + 1) true).setIfInBounds (k + 2) true).setIfInBounds (k + 3) true).setIfInBounds k true = (((L.setIfInBounds k true).setIfInBounds (k + 1) true).setIfInBounds (k + 2) true).setIfInBounds (k + 3) true := by
    rw [Array.setIfInBounds_comm (i := k + 3) (j := k) _ _ (by omega), Array.setIfInBounds_comm (i := k + 2) (j := k) _ _ (by omega), Array.setIfInBounds_comm (i := k + 1) (j := k) _ _ (by omega)]
  have fin2 : ∀ B1 B2 w, w0.heap.size ≤ B1 → w0.heap.size ≤ B2 → B1 ≠ B2 → Below w0.heap.size w0 w → w.heap[B1]? = some (.cells Z T (0, 0)) → w.heap[B2]? = some (.cells Z T (0, 0)) →
      wpOp P ops Q (k + 3) (wpAny P md ops Q 2 (((L.setIfInBounds (k + 1) true).setIfInBounds (k + 2) true).setIfInBounds (k + 3) true)) ((a.put oA.dst (.pointer (some ⟨B1, 0, none⟩))).put oB.dst (.pointer (some ⟨B2, 0, none⟩))) w := by
    intro B1 B2 w g1 g2 g3 g4 g5 g6
    refine wpOp_mono (fun a' w' h' => ?_) (h2 B1 B2 w g1 g2 g3 g4 g5 g6)
    refine ⟨fun e => ?_, fun i hi => ?_⟩
    · rw [qABS] at e
      cases e
    · rw [qABS] at hi
      obtain rfl : i = k := by simpa using hi
      refine wpOp_mono (fun b w'' h'' => ?_) h'
      rw [cm1]
      exact last b w'' h''
  -- the two allocations, the move done
  have two : ∀ (s : List (Nat × Nat)), s = [] → anyA P md ops Q w0 A (k + 3) Z T 4 (L.setIfInBounds k true) s (a.put oC.dst v) := by
    rintro s rfl
    refine ⟨by rw [qC]; simp, fun i hi => ?_⟩
    rw [qC] at hi
    rcases (show i = k + 1 ∨ i = k + 2 by simpa using hi) with rfl | rfl
    · refine ⟨fun e => by omega, fun _ _ o B ho hB _ => ?_, fun _ ha => absurd (hA1.symm.trans ha) (by simp)⟩
      rw [hoA] at ho
      cases ho
      refine ⟨by rw [qCA]; simp, fun j hj => ?_⟩
      rw [qCA] at hj
      obtain rfl : j = k + 2 := by simpa using hj
      refine ⟨fun e => by omega, fun _ _ o B' ho hB' hn => ?_, fun _ ha => absurd (hA2.symm.trans ha) (by simp)⟩
      rw [hoB] at ho
      cases ho
      refine ⟨by rw [qCAB]; simp, fun m hm => ?_⟩
      rw [qCAB] at hm
      obtain rfl : m = k + 3 := by simpa using hm
      exact ⟨fun _ w hw => fin B B' w hB hB' (fun e => hn (by simp [e])) hw.old (hw.at_ (k + 1, B) (by simp)).2 (hw.at_ (k + 2, B') (by simp)).2, fun e => absurd rfl e, fun e => absurd rfl e⟩
    · refine ⟨fun e => by omega, fun _ _ o B ho hB _ => ?_, fun _ ha => absurd (hA2.symm.trans ha) (by simp)⟩
      rw [hoB] at ho
      cases ho
      refine ⟨by rw [qCB]; simp, fun j hj => ?_⟩
      rw [qCB] at hj
      obtain rfl : j = k + 1 := by simpa using hj
      refine ⟨fun e => by omega, fun _ _ o B' ho hB' hn => ?_, fun _ ha => absurd (hA1.symm.trans ha) (by simp)⟩
      rw [hoA] at ho
      cases ho
      rw [Array.setIfInBounds_comm (i := k + 2) (j := k + 1) _ _ (by omega)]
      refine ⟨by rw [qCAB]; simp, fun m hm => ?_⟩
      rw [qCAB] at hm
      obtain rfl : m = k + 3 := by simpa using hm
      refine ⟨fun _ w hw => ?_, fun e => absurd rfl e, fun e => absurd rfl e⟩
      rw [← Act.put_comm _ _ _ dAB]
      exact fin B' B w hB' hB (fun e => hn (by simp [e])) hw.old (hw.at_ (k + 1, B') (by simp)).2 (hw.at_ (k + 2, B) (by simp)).2
  -- both allocations done, the move not yet
  have both : ∀ B1 B2 (σ : List (Nat × Nat)), w0.heap.size ≤ B1 → w0.heap.size ≤ B2 → B1 ≠ B2 → (k + 1, B1) ∈ σ → (k + 2, B2) ∈ σ →
      anyA P md ops Q w0 A (k + 3) Z T 3 ((L.setIfInBounds (k + 1) true).setIfInBounds (k + 2) true) σ ((a.put oA.dst (.pointer (some ⟨B1, 0, none⟩))).put oB.dst (.pointer (some ⟨B2, 0, none⟩))) := by
    intro B1 B2 σ g1 g2 g3 m1 m2
    refine ⟨by rw [qAB]; simp, fun i hi => ?_⟩
    rw [qAB] at hi
    rcases (show i = k ∨ i = k + 3 by simpa using hi) with rfl | rfl
    · refine ⟨fun e => by omega, fun _ ha => absurd (hA0.symm.trans ha) (by simp), fun _ _ => ⟨oC, v, hoC, (hy.put hsel lA).put hsel lB, ?_⟩⟩
      have e1 : ((L.setIfInBounds (i + 1) true).setIfInBounds (i + 2) true).setIfInBounds i true = ((L.setIfInBounds i true).setIfInBounds (i + 1) true).setIfInBounds (i + 2) true := by
        rw [Array.setIfInBounds_comm (i := i + 2) (j := i) _ _ (by omega), Array.setIfInBounds_comm (i := i + 1) (j := i) _ _ (by omega)]
      rw [e1, ← Act.put_comm _ _ _ dCB, ← Act.put_comm _ _ _ dCA]
      refine ⟨by rw [qCAB]; simp, fun m hm => ?_⟩
      rw [qCAB] at hm
      obtain rfl : m = i + 3 := by simpa using hm
      exact ⟨fun _ w hw => fin B1 B2 w g1 g2 g3 hw.old (hw.at_ _ m1).2 (hw.at_ _ m2).2, fun e => absurd rfl e, fun e => absurd rfl e⟩
    · exact ⟨fun _ w hw => fin2 B1 B2 w g1 g2 g3 hw.old (hw.at_ _ m1).2 (hw.at_ _ m2).2, fun e => absurd rfl e, fun e => absurd rfl e⟩
  refine ⟨by rw [q0]; simp, fun i hi => ?_⟩
  rw [q0] at hi
  rcases (show i = k ∨ i = k + 1 ∨ i = k + 2 by simpa using hi) with rfl | rfl | rfl
  · exact ⟨fun e => by omega, fun _ ha => absurd (hA0.symm.trans ha) (by simp), fun _ _ => ⟨oC, v, hoC, hy, two [] rfl⟩⟩
  · refine ⟨fun e => by omega, fun _ _ o B ho hB _ => ?_, fun _ ha => absurd (hA1.symm.trans ha) (by simp)⟩
    rw [hoA] at ho
    cases ho
    refine ⟨by rw [qA]; simp, fun j hj => ?_⟩
    rw [qA] at hj
    rcases (show j = k ∨ j = k + 2 by simpa using hj) with rfl | rfl
    · refine ⟨fun e => by omega, fun _ ha => absurd (hA0.symm.trans ha) (by simp), fun _ _ => ⟨oC, v, hoC, hy.put hsel lA, ?_⟩⟩
      rw [Array.setIfInBounds_comm (i := j + 1) (j := j) _ _ (by omega), ← Act.put_comm _ _ _ dCA]
      refine ⟨by rw [qCA]; simp, fun m hm => ?_⟩
      rw [qCA] at hm
      obtain rfl : m = j + 2 := by simpa using hm
      refine ⟨fun e => by omega, fun _ _ o B' ho hB' hn => ?_, fun _ ha => absurd (hA2.symm.trans ha) (by simp)⟩
      rw [hoB] at ho
      cases ho
      refine ⟨by rw [qCAB]; simp, fun m hm => ?_⟩
      rw [qCAB] at hm
      obtain rfl : m = j + 3 := by simpa using hm
      exact ⟨fun _ w hw => fin B B' w hB hB' (fun e => hn (by simp [e])) hw.old (hw.at_ (j + 1, B) (by simp)).2 (hw.at_ (j + 2, B') (by simp)).2, fun e => absurd rfl e, fun e => absurd rfl e⟩
    · refine ⟨fun e => by omega, fun _ _ o B' ho hB' hn => ?_, fun _ ha => absurd (hA2.symm.trans ha) (by simp)⟩
      rw [hoB] at ho
      cases ho
      exact both B B' _ hB hB' (fun e => hn (by simp [e])) (by simp) (by simp)
  · refine ⟨fun e => by omega, fun _ _ o B ho hB _ => ?_, fun _ ha => absurd (hA2.symm.trans ha) (by simp)⟩
    rw [hoB] at ho
    cases ho
    refine ⟨by rw [qB]; simp, fun j hj => ?_⟩
    rw [qB] at hj
    rcases (show j = k ∨ j = k + 1 by simpa using hj) with rfl | rfl
    · refine ⟨fun e => by omega, fun _ ha => absurd (hA0.symm.trans ha) (by simp), fun _ _ => ⟨oC, v, hoC, hy.put hsel lB, ?_⟩⟩
      rw [Array.setIfInBounds_comm (i := j + 2) (j := j) _ _ (by omega), ← Act.put_comm _ _ _ dCB]
      refine ⟨by rw [qCB]; simp, fun m hm => ?_⟩
      rw [qCB] at hm
      obtain rfl : m = j + 1 := by simpa using hm
      refine ⟨fun e => by omega, fun _ _ o B' ho hB' hn => ?_, fun _ ha => absurd (hA1.symm.trans ha) (by simp)⟩
      rw [hoA] at ho
      cases ho
      rw [Array.setIfInBounds_comm (i := j + 2) (j := j + 1) _ _ (by omega)]
      refine ⟨by rw [qCAB]; simp, fun m hm => ?_⟩
      rw [qCAB] at hm
      obtain rfl : m = j + 3 := by simpa using hm
      refine ⟨fun _ w hw => ?_, fun e => absurd rfl e, fun e => absurd rfl e⟩
      rw [← Act.put_comm _ _ _ dAB]
      exact fin B' B w hB' hB (fun e => hn (by simp [e])) hw.old (hw.at_ (j + 1, B') (by simp)).2 (hw.at_ (j + 2, B) (by simp)).2
    · refine ⟨fun e => by omega, fun _ _ o B' ho hB' hn => ?_, fun _ ha => absurd (hA1.symm.trans ha) (by simp)⟩
      rw [hoA] at ho
      cases ho
      rw [Array.setIfInBounds_comm (i := k + 2) (j := k + 1) _ _ (by omega), ← Act.put_comm _ _ _ dAB]
      exact both B' B _ hB' hB (fun e => hn (by simp [e])) (by simp) (by simp)

/-- The region, inside a round. -/
theorem wpIn_region_three {id n lp : Nat} (k : Nat) (oC oA oB oS : Oper) (v : Value) {a : Act} {w : World} (hm : P.follows .mixedOrders = true) (hs : Region.noSelect ops = true) (hd : noDefer ops = true) (hQ : ¬ LetsOut Q) (hsz : ops.size = k + 5)
    (hoC : ops[k]? = some oC) (hoA : ops[k + 1]? = some oA) (hoB : ops[k + 2]? = some oB) (hoS : ops[k + 3]? = some oS)
    (hgA : oA.guard = none) (hgB : oB.guard = none) (hrA : ∀ ρ w, (execOp ρ oA).run P w = .ok (.value (.pointer (some ⟨w.heap.size, 0, none⟩))) (w.alloc (.cells Z T))) (hrB : ∀ ρ w, (execOp ρ oB).run P w = .ok (.value (.pointer (some ⟨w.heap.size, 0, none⟩))) (w.alloc (.cells Z T)))
    (L0 : Array Bool) (hL0 : L0 = Array.replicate ops.size false) (L : Array Bool) (hL : L = listTo L0 0 k)
    (hlex : lexA .any ops (fun i => i == k + 1 || i == k + 2) (k + 3) k 0 L0 = true)
    (q0 : Region.ready .any ops L = [k, k + 1, k + 2]) (qC : Region.ready .any ops (L.setIfInBounds k true) = [k + 1, k + 2])
    (qA : Region.ready .any ops (L.setIfInBounds (k + 1) true) = [k, k + 2]) (qB : Region.ready .any ops (L.setIfInBounds (k + 2) true) = [k, k + 1])
    (qCA : Region.ready .any ops ((L.setIfInBounds k true).setIfInBounds (k + 1) true) = [k + 2]) (qCB : Region.ready .any ops ((L.setIfInBounds k true).setIfInBounds (k + 2) true) = [k + 1])
    (qAB : Region.ready .any ops ((L.setIfInBounds (k + 1) true).setIfInBounds (k + 2) true) = [k, k + 3])
    (qCAB : Region.ready .any ops (((L.setIfInBounds k true).setIfInBounds (k + 1) true).setIfInBounds (k + 2) true) = [k + 3])
    (qABS : Region.ready .any ops (((L.setIfInBounds (k + 1) true).setIfInBounds (k + 2) true).setIfInBounds (k + 3) true) = [k])
    (qCABS : Region.ready .any ops ((((L.setIfInBounds k true).setIfInBounds (k + 1) true).setIfInBounds (k + 2) true).setIfInBounds (k + 3) true) = [k + 4])
    (qall : Region.ready .any ops (((((L.setIfInBounds k true).setIfInBounds (k + 1) true).setIfInBounds (k + 2) true).setIfInBounds (k + 3) true).setIfInBounds (k + 4) true) = [])
    (dAB : ∀ d, oA.dst = some d → oB.dst ≠ some d) (dCA : ∀ d, oC.dst = some d → oA.dst ≠ some d) (dCB : ∀ d, oC.dst = some d → oB.dst ≠ some d)
    (lA : ∀ d, oA.dst = some d → d ∉ oC.looksAt ops) (lB : ∀ d, oB.dst = some d → d ∉ oC.looksAt ops)
    (h : wpQA P ops w (fun a' => YA P ops w oC v a' ∧ ∀ B1 B2 w', w.heap.size ≤ B1 → w.heap.size ≤ B2 → B1 ≠ B2 → Below w.heap.size w w' → w'.heap[B1]? = some (.cells Z T (0, 0)) → w'.heap[B2]? = some (.cells Z T (0, 0)) →
      wpOp P ops Q (k + 3) (fun a' w' => wpOp P ops Q (k + 4) (fun a'' w'' => Q .normal a'' w'') a' w') (((a'.put oC.dst v).put oA.dst (.pointer (some ⟨B1, 0, none⟩))).put oB.dst (.pointer (some ⟨B2, 0, none⟩))) w' ∧
      wpOp P ops Q (k + 3) (fun a' w' => wpOp P ops Q k (fun b w'' => wpOp P ops Q (k + 4) (fun a'' w'' => Q .normal a'' w'') b w'') a' w') ((a'.put oA.dst (.pointer (some ⟨B1, 0, none⟩))).put oB.dst (.pointer (some ⟨B2, 0, none⟩))) w') (ops.toList.take k) a) :
    (Code.region id ops true).wpIn (Fence.wide.inRound lp) n P Q a w := by
  subst hL0
  have hlen : (ops.toList.take k).length = k := by rw [List.length_take, Array.length_toList, hsz]; omega
  refine wpIn_region_any hm (anyIn_of hd hQ _ _ _ _ ?_)
  refine any_of_A (w0 := w) (A := fun i => i == k + 1 || i == k + 2) (tl := k + 3) (Z := Z) (T := T) ?_ _ _ [] _ _ ⟨(Below.refl w.heap.size w).drew, fun p hp => by cases hp⟩ ?_
  · intro i o hi ho
    simp only [Bool.or_eq_true, beq_iff_eq] at hi
    rcases hi with rfl | rfl
    · rw [hoA] at ho; cases ho; exact ⟨hgA, hrA⟩
    · rw [hoB] at ho; cases ho; exact ⟨hgB, hrB⟩
  · have key := anyA_lex (P := P) (Q := Q) (w0 := w) (A := fun i => i == k + 1 || i == k + 2) (tl := k + 3) (Z := Z) (T := T) (md := .any) hs 5 (ops.toList.take k) 0 (Array.replicate ops.size false) a
      (fun j hj => by rw [hlen] at hj; rw [List.getElem?_take_of_lt hj]; simp) (by rw [hlen]; exact hlex)
    rw [hlen, ← hsz, ← hL] at key
    refine key ?_
    have mono : ∀ (l : List Oper) (a : Act) (F G : Act → Prop), (∀ a, F a → G a) → wpQA P ops w F l a → wpQA P ops w G l a := by
      intro l
      induction l with
      | nil => intro a F G hFG hF; exact hFG _ hF
      | cons o r ih => intro a F G hFG hF; obtain ⟨v, h1, h2⟩ := hF; exact ⟨v, h1, ih _ F G hFG h2⟩
    refine mono _ _ _ _ (fun a' ha' => ?_) h
    exact anyA_end5 k oC oA oB oS v _ a' hoC hoA hoB hoS q0 qC qA qB qCA qCB qAB qCAB qABS qCABS qall (by simp) (by simp) (by simp) dAB dCA dCB (fun cs b => Region.noSelect_spec hs k oC cs b hoC) lA lB ha'.1
      (fun B1 B2 w' g1 g2 g3 g4 g5 g6 => (ha'.2 B1 B2 w' g1 g2 g3 g4 g5 g6).1) (fun B1 B2 w' g1 g2 g3 g4 g5 g6 => (ha'.2 B1 B2 w' g1 g2 g3 g4 g5 g6).2)
end
end Go.Proofs.YtijcdikekgmfoaaGreatDoor

namespace Go.Proofs.YtijcdikekgmfoaaGreatDoor
open Go.RowKit

section
variable {P : Program} {ops : Array Oper} {md : Region.Mode} {Q : Exit → Act → World → Prop} {C : List Nat → World → Prop} {A : Nat → Bool} {tl : Nat}

/-- In each of the classes the operation leaves v. -/
def YG (P : Program) (ops : Array Oper) (C : List Nat → World → Prop) (o : Oper) (v : Value) (a : Act) : Prop := ∀ σ, YieldsIn P ops (C σ) o v a
/-- The operation leads from one class to the next. -/
def EG (P : Program) (ops : Array Oper) (C : List Nat → World → Prop) (i : Nat) (σ : List Nat) (o : Oper) (a : Act) : Prop :=
  Region.wanted o (yielded ops a.tmps) = true ∧ ∀ w, C σ w → ∃ w', (execOp a.eval o).run P w = .ok .skip w' ∧ C (i :: σ) w'

/-- Whatever order is picked from here on. -/
def anyG (P : Program) (md : Region.Mode) (ops : Array Oper) (Q : Exit → Act → World → Prop) (C : List Nat → World → Prop) (A : Nat → Bool) (tl : Nat) : Nat → Array Bool → List Nat → Act → Prop
  | 0, _, _, _ => False
  | fuel + 1, listed, σ, a => Region.ready md ops listed ≠ [] ∧ ∀ i ∈ Region.ready md ops listed,
      (i = tl → ∀ w, C σ w → wpOp P ops Q i (wpAny P md ops Q fuel (listed.setIfInBounds i true)) a w) ∧
      (i ≠ tl → A i = true → ∃ o, ops[i]? = some o ∧ EG P ops C i σ o a ∧ anyG P md ops Q C A tl fuel (listed.setIfInBounds i true) (i :: σ) (a.put o.dst undef)) ∧
      (i ≠ tl → A i = false → ∃ o v, ops[i]? = some o ∧ YG P ops C o v a ∧ anyG P md ops Q C A tl fuel (listed.setIfInBounds i true) σ (a.put o.dst v))

theorem any_of_G : ∀ (fuel : Nat) (listed : Array Bool) (σ : List Nat) (a : Act) (w : World), C σ w → anyG P md ops Q C A tl fuel listed σ a → wpAny P md ops Q fuel listed a w
  | 0, _, _, _, _, _, h => h.elim
  | fuel + 1, listed, σ, a, w, hw, h => ⟨fun e => absurd e h.1, fun i hi => by
      obtain ⟨h1, h2, h3⟩ := h.2 i hi
      by_cases e : i = tl
      · exact h1 e w hw
      · cases ha : A i with
        | true =>
          obtain ⟨o, ho, ⟨hg, hr⟩, hk⟩ := h2 e ha
          obtain ⟨w', hrun, hC⟩ := hr w hw
          refine wpOp_step ho (fun K' hK => ?_)
          rw [if_pos hg]
          unfold Oper.wp
          rw [hrun]
          exact hK _ _ (any_of_G fuel _ _ _ _ hC hk)
        | false =>
          obtain ⟨o, v, ho, hy, hk⟩ := h3 e ha
          exact wpOp_of_qOp (C := C σ) hw (fun a' w' hw' hk' => any_of_G fuel _ σ a' w' hw' hk') ((hy σ).qOp ho hk)⟩

theorem YG.put {o oj : Oper} {v u : Value} {a : Act} (h : YG P ops C o v a) (hs : ∀ cs b, o.op ≠ .select cs b) (hap : ∀ d, oj.dst = some d → d ∉ o.looksAt ops) : YG P ops C o v (a.put oj.dst u) := fun σ =>
  (h σ).of_same (execOp_put o hs a oj.dst u hap) (wanted_put o a oj.dst u hap)
theorem YG.unput {o oi : Oper} {v u : Value} {a : Act} (h : YG P ops C o v (a.put oi.dst u)) (hs : ∀ cs b, o.op ≠ .select cs b) (hap : ∀ d, oi.dst = some d → d ∉ o.looksAt ops) : YG P ops C o v a := fun σ =>
  (h σ).of_same (execOp_put o hs a oi.dst u hap).symm (wanted_put o a oi.dst u hap).symm
theorem EG.unput {i : Nat} {σ : List Nat} {o oi : Oper} {u : Value} {a : Act} (h : EG P ops C i σ o (a.put oi.dst u)) (hs : ∀ cs b, o.op ≠ .select cs b) (hap : ∀ d, oi.dst = some d → d ∉ o.looksAt ops) : EG P ops C i σ o a := by
  unfold EG at *
  rw [wanted_put o a oi.dst u hap, execOp_put o hs a oi.dst u hap] at h
  exact h

/-- An operation that yields its value in each class, may come up now, and is apart from what does not wait for it, may be taken first. -/
theorem anyG_take {i x : Nat} {oi : Oper} {v : Value} (hi : ops[i]? = some oi) (hia : A i = false) (hit : i ≠ tl) (hsel : ∀ (j : Nat) (o : Oper) cs b, ops[j]? = some o → o.op ≠ .select cs b)
    (hx : x = i ∨ ∃ ox, ops[x]? = some ox ∧ ∃ e ∈ ox.after, Region.binds md e = true ∧ e.on = i)
    (hwait : ∀ oL, ops[tl]? = some oL → ∃ e ∈ oL.after, Region.binds md e = true ∧ e.on = x) :
    ∀ (fuel : Nat) (listed : Array Bool) (σ : List Nat) (a : Act), listed.getD x true = false →
      (∀ j oj, ops[j]? = some oj → j ≠ i → listed.getD j true = false → (∀ e ∈ oj.after, Region.binds md e = true → e.on ≠ i) → oi.apart ops oj = true) →
      i ∈ Region.ready md ops listed → YG P ops C oi v a →
      anyG P md ops Q C A tl fuel (listed.setIfInBounds i true) σ (a.put oi.dst v) → anyG P md ops Q C A tl (fuel + 1) listed σ a := by
  intro fuel
  induction fuel with
  | zero => intro _ _ _ _ _ _ _ H; exact H.elim
  | succ fuel ih =>
    intro listed σ a hxu hfree hr hy H
    have hun : listed.getD i true = false := (mem_ready.1 hr).1
    have clash : listed.getD i false = true → False := fun h1 => by
      rcases Nat.lt_or_ge i listed.size with h' | h'
      · simp [h'] at hun h1; rw [hun] at h1; cases h1
      · simp [Array.getElem?_eq_none h'] at h1
    have clashx : listed.getD x false = true → False := fun h1 => by
      rcases Nat.lt_or_ge x listed.size with h' | h'
      · simp [h'] at hxu h1; rw [hxu] at h1; cases h1
      · simp [Array.getElem?_eq_none h'] at h1
    refine ⟨fun e => (by rw [e] at hr; cases hr), fun j hj => ?_⟩
    obtain ⟨hjun, oj, hoj, hall⟩ := mem_ready.1 hj
    have hjl : j ≠ tl := fun e => by
      subst e
      obtain ⟨y, hy', hb, ho⟩ := hwait oj hoj
      exact clashx (by have := hall y hy' hb; rwa [ho] at this)
    refine ⟨fun e => absurd e hjl, ?_⟩
    by_cases hji : j = i
    · subst hji
      exact ⟨fun _ ha => absurd (hia.symm.trans ha) (by simp), fun _ _ => ⟨oi, v, hi, hy, H⟩⟩
    · have hnot : ∀ e ∈ oj.after, Region.binds md e = true → e.on ≠ i := fun e he hb heq => clash (by have := hall e he hb; rwa [heq] at this)
      obtain ⟨a1, a2, a3⟩ := Oper.apart_spec (hfree j oj hoj hji hjun hnot)
      have hjx : j ≠ x := fun e => by
        rcases hx with rfl | ⟨ox, hox, y, hy', hb, ho⟩
        · exact hji e
        · subst e
          rw [hoj] at hox
          cases hox
          exact hnot y hy' hb ho
      obtain ⟨_, h2, h3⟩ := H.2 j (ready_mono hj hji)
      have hxu' : (listed.setIfInBounds j true).getD x true = false := by rw [getD_set_ne true hjx]; exact hxu
      have hfree' : ∀ k ok, ops[k]? = some ok → k ≠ i → (listed.setIfInBounds j true).getD k true = false → (∀ e ∈ ok.after, Region.binds md e = true → e.on ≠ i) → oi.apart ops ok = true := fun k ok hk hki hku hkn => hfree k ok hk hki (by
        by_cases hjk : j = k
        · subst hjk; exact hjun
        · rw [getD_set_ne true hjk] at hku; exact hku) hkn
      refine ⟨fun _ ha => ?_, fun _ ha => ?_⟩
      · obtain ⟨o, ho, heg, hk⟩ := h2 hjl ha
        rw [hoj] at ho
        cases ho
        rw [Array.setIfInBounds_comm _ _ (Ne.symm hji), Act.put_comm a v _ a2] at hk
        exact ⟨oj, hoj, heg.unput (fun cs b => hsel j oj cs b hoj) a1, ih _ _ _ hxu' hfree' (ready_mono hr (Ne.symm hji)) (hy.put (fun cs b => hsel i oi cs b hi) a3) hk⟩
      · obtain ⟨o, u, ho, hyj, hk⟩ := h3 hjl ha
        rw [hoj] at ho
        cases ho
        rw [Array.setIfInBounds_comm _ _ (Ne.symm hji), Act.put_comm a v _ a2] at hk
        exact ⟨oj, u, hoj, hyj.unput (fun cs b => hsel j oj cs b hoj) a1, ih _ _ _ hxu' hfree' (ready_mono hr (Ne.symm hji)) (hy.put (fun cs b => hsel i oi cs b hi) a3) hk⟩

/-- The lexical walk, with values that hold in each class. -/
def wpQG (P : Program) (ops : Array Oper) (C : List Nat → World → Prop) (Fin : Act → Prop) : List Oper → Act → Prop
  | [], a => Fin a
  | o :: rest, a => ∃ v, YG P ops C o v a ∧ wpQG P ops C Fin rest (a.put o.dst v)

theorem anyG_lex (hs : Region.noSelect ops = true) (m : Nat) : ∀ (l : List Oper) (k : Nat) (listed : Array Bool) (a : Act), (∀ j, j < l.length → l[j]? = ops[k + j]?) → lexA md ops A tl l.length k listed = true →
    wpQG P ops C (anyG P md ops Q C A tl m (listTo listed k l.length) []) l a → anyG P md ops Q C A tl (l.length + m) listed [] a
  | [], _, _, a, _, _, h => by simpa [wpQG, listTo] using h
  | o :: l, k, listed, a, hl, hB, h => by
    have h0 : ops[k]? = some o := by simpa using (hl 0 (by simp)).symm
    simp only [List.length_cons, lexA, Bool.and_eq_true] at hB
    obtain ⟨⟨⟨⟨⟨hr, hf⟩, hk1⟩, hk2⟩, hwt⟩, hB'⟩ := hB
    obtain ⟨x, hxw⟩ := Option.isSome_iff_exists.1 hwt
    have hxp := List.find?_some hxw
    simp only [Bool.and_eq_true, Bool.not_eq_true'] at hxp
    obtain ⟨⟨hx1, hx2⟩, hx3⟩ := hxp
    obtain ⟨v, hy, hK⟩ := h
    have ih := anyG_lex hs m l (k + 1) (listed.setIfInBounds k true) (a.put o.dst v) (fun j hj => by have := hl (j + 1) (by simp; omega); simpa [Nat.add_assoc, Nat.add_comm 1 j] using this) hB' hK
    have e : (o :: l).length + m = (l.length + m) + 1 := by simp; omega
    rw [e]
    refine anyG_take (x := x) h0 (by simpa using hk1) (by simpa using hk2) (Region.noSelect_spec hs) ?_ (fun oL hoL => ?_) (l.length + m) listed [] a hx1 (Region.free_spec h0 hf) (by simpa using hr) hy ih
    · simp only [Bool.or_eq_true, beq_iff_eq] at hx2
      rcases hx2 with h1 | h1
      · exact Or.inl h1
      · right
        cases hox : ops[x]? with
        | none => rw [hox] at h1; cases h1
        | some ox =>
          rw [hox] at h1
          simp only [List.any_eq_true, Bool.and_eq_true, beq_iff_eq] at h1
          obtain ⟨e, he, h2, h3⟩ := h1
          exact ⟨ox, rfl, e, by simpa using he, h2, h3⟩
    · rw [hoL] at hx3
      simp only [List.any_eq_true, Bool.and_eq_true, beq_iff_eq] at hx3
      obtain ⟨e, he, h2, h3⟩ := hx3
      exact ⟨e, by simpa using he, h2, h3⟩

/-- Two classes: ahead of the one store, and behind it. -/
def two (C0 C1 : World → Prop) : List Nat → World → Prop
  | [] => C0
  | _ :: _ => C1

theorem YG_of {C0 C1 : World → Prop} {o : Oper} {v : Value} {a : Act} (hg : o.guard = none) (h : ∀ W, C0 W ∨ C1 W → (execOp a.eval o).run P W = .ok (.value v) W) : YG P ops (two C0 C1) o v a := fun σ =>
  .inl ⟨by simp [Region.wanted, hg], fun W hW => by
    unfold Oper.quietAt
    rw [h W (by cases σ with | nil => exact .inl hW | cons _ _ => exact .inr hW)]
    exact ⟨rfl, rfl⟩⟩
theorem wpQG_cons {F : Act → Prop} {o : Oper} {rest : List Oper} {a : Act} (v : Value) (h : YG P ops C o v a) (hr : wpQG P ops C F rest (a.put o.dst v)) : wpQG P ops C F (o :: rest) a := ⟨v, h, hr⟩
theorem wpQG_nil {F : Act → Prop} {a : Act} (h : F a) : wpQG P ops C F [] a := h
theorem wpQG_mono : ∀ (l : List Oper) (a : Act) (F G : Act → Prop), (∀ a, F a → G a) → wpQG P ops C F l a → wpQG P ops C G l a
  | [], _, _, _, hFG, hF => hFG _ hF
  | _ :: r, _, F, G, hFG, ⟨v, h1, h2⟩ => ⟨v, h1, wpQG_mono r _ F G hFG h2⟩

/-- The region, inside a round: quiet operations, a store that waits for some of them alone, one more, the last store. -/
theorem wpIn_region_stores {id n lp : Nat} (k : Nat) (oS oI : Oper) (v : Value) (C0 C1 : World → Prop) {a : Act} {w : World} (hm : P.follows .mixedOrders = true) (hs : Region.noSelect ops = true) (hd : noDefer ops = true) (hQ : ¬ LetsOut Q) (hsz : ops.size = k + 3)
    (hoS : ops[k]? = some oS) (hoI : ops[k + 1]? = some oI) (hgS : oS.guard = none)
    (L0 : Array Bool) (hL0 : L0 = Array.replicate ops.size false) (L : Array Bool) (hL : L = listTo L0 0 k)
    (hlex : lexA .any ops (fun i => i == k) (k + 2) k 0 L0 = true)
    (q0 : Region.ready .any ops L = [k]) (q1 : Region.ready .any ops (L.setIfInBounds k true) = [k + 1])
    (q2 : Region.ready .any ops ((L.setIfInBounds k true).setIfInBounds (k + 1) true) = [k + 2])
    (q3 : Region.ready .any ops (((L.setIfInBounds k true).setIfInBounds (k + 1) true).setIfInBounds (k + 2) true) = [])
    (hC : C0 w.drew)
    (h : wpQG P ops (two C0 C1) (fun a' => (∀ w', C0 w' → ∃ w'', (execOp a'.eval oS).run P w' = .ok .skip w'' ∧ C1 w'') ∧ YG P ops (two C0 C1) oI v (a'.put oS.dst undef) ∧
      ∀ w', C1 w' → wpOp P ops Q (k + 2) (fun a'' w'' => Q .normal a'' w'') ((a'.put oS.dst undef).put oI.dst v) w') (ops.toList.take k) a) :
    (Code.region id ops true).wpIn (Fence.wide.inRound lp) n P Q a w := by
  subst hL0
  have hlen : (ops.toList.take k).length = k := by rw [List.length_take, Array.length_toList, hsz]; omega
  refine wpIn_region_any hm (anyIn_of hd hQ _ _ _ _ ?_)
  refine any_of_G (C := two C0 C1) (A := fun i => i == k) (tl := k + 2) _ _ [] _ _ hC ?_
  have key := anyG_lex (P := P) (Q := Q) (C := two C0 C1) (A := fun i => i == k) (tl := k + 2) (md := .any) hs 3 (ops.toList.take k) 0 (Array.replicate ops.size false) a
    (fun j hj => by rw [hlen] at hj; rw [List.getElem?_take_of_lt hj]; simp) (by rw [hlen]; exact hlex)
  rw [hlen, ← hsz, ← hL] at key
  refine key (wpQG_mono _ _ _ _ (fun a' ha' => ?_) h)
  obtain ⟨h1, h2, h3⟩ := ha'
  refine ⟨by rw [q0]; simp, fun i hi => ?_⟩
  rw [q0] at hi
  obtain rfl : i = k := by simpa using hi
  refine ⟨fun e => by omega, fun _ _ => ⟨oS, hoS, ⟨by simp [Region.wanted, hgS], h1⟩, ?_⟩, fun _ ha => by simp at ha⟩
  refine ⟨by rw [q1]; simp, fun j hj => ?_⟩
  rw [q1] at hj
  obtain rfl : j = i + 1 := by simpa using hj
  refine ⟨fun e => by omega, fun _ ha => by simp at ha, fun _ _ => ⟨oI, v, hoI, h2, ?_⟩⟩
  refine ⟨by rw [q2]; simp, fun m hm => ?_⟩
  rw [q2] at hm
  obtain rfl : m = i + 2 := by simpa using hm
  exact ⟨fun _ w' hw' => wpOp_mono (fun a'' w'' h'' => ⟨q3, h''⟩) (h3 w' hw'), fun e => absurd rfl e, fun e => absurd rfl e⟩
end
end Go.Proofs.YtijcdikekgmfoaaGreatDoor

namespace Go.Proofs.YtijcdikekgmfoaaGreatDoor
open Go.RowKit

theorem grown_set (W : World) (p : Addr) (v : Value) : W.grownBy (W.setCell p v) (some p.block) :=
  ⟨rfl, rfl, rfl, by simp [World.setCell], fun k _ hk => heap_setCell_other W p k v (fun e => hk (by rw [e]))⟩

theorem grown_over2 {a b c : World} {row : Option Nat} (h : a.grownBy b row) (k : b.grownBy c row) : a.grownBy c row :=
  ⟨k.os.trans h.os, k.tape.trans h.tape, k.output.trans h.output, Nat.le_trans h.size k.size, fun i hi hne => (k.block i (Nat.lt_of_lt_of_le hi h.size) hne).trans (h.block i hi hne)⟩

/-- The marks: numbers one behind another. -/
def markV (k0 : Int) (n : Nat) : List Value := (List.range n).map fun (j : Nat) => .int .i64 (k0 + (j : Int))
theorem markV_length (k0 : Int) (n : Nat) : (markV k0 n).length = n := by simp [markV]
theorem markV_get (k0 : Int) {n i : Nat} (h : i < n) : (markV k0 n)[i]? = some (.int .i64 (k0 + (i : Int))) := by simp [markV, h]
end Go.Proofs.YtijcdikekgmfoaaGreatDoor

namespace Go.Proofs.YtijcdikekgmfoaaGreatDoor
open Go.RowKit Go.Shelf
attribute [local go_sem] Oper.semAt_some

/-- A block of cells lies. -/
def BlkW (W : World) (B : Nat) (C : Array Value) (t : TypeId) : Prop := W.heap[B]? = some (.cells C t (0, 0))
theorem BlkW.lt {W : World} {B : Nat} {C : Array Value} {t : TypeId} (h : BlkW W B C t) : B < W.heap.size := (Array.getElem?_eq_some_iff.1 h).1
theorem blk_own {β : Type} (B : Nat) (C : Array Value) (t : TypeId) : Own (fun (_ : β) W => BlkW W B C t) := fun _ X Y row hs hg hr =>
  (hg.block B hs.lt (fun e' => by obtain ⟨o, ho, hc⟩ := hr B e'.symm; rw [show X.heap[B]? = _ from hs] at ho; cases ho; cases hc)).trans hs
theorem owns_own {β : Type} (base e size n : Nat) (v : Value) (f : β → List Value) : Own (fun s W => W.ownsRow base e size v n (f s)) := fun s X Y row hs hg hr => by
  refine hs.kept hg ?_
  cases hv : v.ownBlock with
  | none => exact Or.inl rfl
  | some g =>
    refine Or.inr (fun e' => ?_)
    obtain ⟨o, ho, hc⟩ := hr g e'.symm
    rcases hs.2 with ⟨rfl, _⟩ | ⟨g', cap, cur, rfl, _, hh, _⟩
    · cases hv
    · cases hv
      rw [hh] at ho
      cases ho
      cases hc
theorem grown_own {β : Type} {B g : Nat} {w : World} (hB : w.heap.size ≤ B) : OwnFrom B (fun (_ : β) W => w.grownBy W (some g)) := fun _ X Y row hs hg hr =>
  ⟨hg.os.trans hs.os, hg.tape.trans hs.tape, hg.output.trans hs.output, Nat.le_trans hs.size hg.size, fun k hk hne =>
    (hg.block k (Nat.lt_of_lt_of_le hk hs.size) (fun e => by have := (hr k e.symm).1; omega)).trans (hs.block k hk hne)⟩

theorem some_of_get' {α : Type} {r : Option α} {xs : List α} {n i : Nat} (h : r = xs[i]?) (hl : xs.length = n) (hi : i < n) : ∃ y, r = some y :=
  ⟨_, h.trans (List.getElem?_eq_getElem (by omega))⟩
theorem old_drew {X w' : World} (hb : Below X.drew.heap.size X.drew w') : Below X.heap.size X w' := ⟨hb.os, hb.tape, hb.output, hb.size, hb.block⟩
theorem grown_below {w W W' : World} {g : Nat} (h : w.grownBy W (some g)) (k : Below W.heap.size W W') : w.grownBy W' (some g) :=
  ⟨k.os.trans h.os, k.tape.trans h.tape, k.output.trans h.output, Nat.le_trans h.size k.size, fun i hi hne => (k.block i (Nat.lt_of_lt_of_le hi h.size)).trans (h.block i hi hne)⟩
theorem grown_over {w W W' : World} {g : Nat} {row : Option Nat} (h : w.grownBy W (some g)) (k : W.grownBy W' row) (hr : ∀ r, row = some r → w.heap.size ≤ r) : w.grownBy W' (some g) :=
  ⟨k.os.trans h.os, k.tape.trans h.tape, k.output.trans h.output, Nat.le_trans h.size k.size, fun i hi hne =>
    (k.block i (Nat.lt_of_lt_of_le hi h.size) (fun e => by have := hr i e.symm; omega)).trans (h.block i hi hne)⟩

set_option maxRecDepth 100000 in
set_option maxHeartbeats 4000000 in
theorem walk_any (d : Bool) (gf tf : Nat) (q s : Int) (l : List Stp) (g scap base Bs : Nat) (r : List (Int × Int)) (S : List (El l) → Prop) (Sp : List (El l) → Prop) (seqn : List (El l)) (w : World)
    (_hq : 1 ≤ q ∧ q ≤ 50) (hs0 : 1 ≤ s ∧ s ≤ 50) (hl : l.length ≤ 1048576) (hr : GoodRow l.length r)
    (hown : w.ownsRow base 56 2 (.slice (some ⟨g, 0, none⟩) (l.length + 1) scap) (l.length + 1) (spanCells r))
    (hseq : ∀ W, Below w.heap.size w W → SeqStopsK Fence.wide 3 Tryz.prog gf #[.pointer (some ⟨Bs, 0, none⟩)] encA (KeepX w.heap.size g) S Sp l.length W)
    (heg : ∀ args w, (callFunc gf args).run Tryz.prog w = .ok (.enter gf args) w) (hS : ∀ xs, S xs → xs = seqn) (hSp : ∀ xs, Sp xs → ∃ post, seqn = xs ++ post)
    (htf : ∀ args w, (callFunc tf args).run Tryz.prog w = .ok (.enter tf args) w)
    (hT : ∀ (mo : Int) (e lf : Int × Int) (w : World), (1 ≤ mo ∧ mo ≤ 10000) → (0 ≤ e.1 ∧ e.1 ≤ e.2 ∧ e.2 ≤ 10000) → (0 ≤ lf.1 ∧ lf.1 ≤ lf.2 ∧ lf.2 ≤ 10000) →
      Calls Tryz.prog tf #[.agg #[.int .i64 e.1, .int .i64 e.2], .agg #[.int .i64 lf.1, .int .i64 lf.2], .agg #[.int .i64 q, .int .i64 mo]] w
        fun x w' => x = .returned (.tuple #[.agg #[.int .i64 (tightB d q mo e lf).1.1, .int .i64 (tightB d q mo e lf).1.2], .agg #[.int .i64 (tightB d q mo e lf).2.1, .int .i64 (tightB d q mo e lf).2.2]]) ∧ Below w.heap.size w w') :
    Calls Tryz.prog 44 #[.agg #[.int .i64 q, .int .i64 s], .slice (some ⟨g, 0, none⟩) (l.length + 1) scap, .func (.func gf) #[] #[.pointer (some ⟨Bs, 0, none⟩)], .func (.func tf) #[] #[]] w
      fun e w' => e = .returned (.bool (foldW d q s r seqn).2) ∧ w.grownBy w' (some g) ∧ ((foldW d q s r seqn).2 = true → w'.ownsRow base 56 2 (.slice (some ⟨g, 0, none⟩) (l.length + 1) scap) (l.length + 1) (spanCells (foldW d q s r seqn).1)) := by
  have hgw : g < w.heap.size := (hown.lt g rfl).2
  refine (callsIn_wide (n := 4)).1 ?_
  refine callsIn_of_wp_marks Tryz.func44 rfl trivial ?_ rfl
  simp only [Tryz.ntmps44, List.size_toArray, List.length_cons, List.length_nil, Nat.reduceAdd, Nat.reduceSub, Array.replicate_succ, Array.replicate_zero, List.push_toArray, List.append_toArray, List.nil_append, List.cons_append]
  gi_wp2
  obtain ⟨W0, hW0, bK, bS, bT, bR, hB0, hsz⟩ : ∃ W0, ((((w.alloc (.cells #[.int .i64 q, .int .i64 s] 24)).alloc (.cells #[.slice (some ⟨g, 0, none⟩) (l.length + 1) scap] 34)).alloc (.cells #[.func (.func tf) #[] #[]] 140)).alloc (.cells #[.bool false] 4)) = W0 ∧
      BlkW W0 w.heap.size #[.int .i64 q, .int .i64 s] 24 ∧ Boxed W0 (w.heap.size + 1) 34 (.slice (some ⟨g, 0, none⟩) (l.length + 1) scap) ∧ Boxed W0 (w.heap.size + 1 + 1) 140 (.func (.func tf) #[] #[]) ∧ Boxed W0 (w.heap.size + 1 + 1 + 1) 4 (.bool false) ∧
      Below w.heap.size w W0 ∧ W0.heap.size = w.heap.size + 4 := by
    refine ⟨_, rfl, ?_, ?_, ?_, ?_, ?_, by simp⟩
    · have h1 : BlkW (w.alloc (.cells #[.int .i64 q, .int .i64 s] 24)) w.heap.size #[.int .i64 q, .int .i64 s] 24 := World.alloc_heap_new w _
      exact (Below.heap_alloc _ _ _ (by simp; omega)).trans ((Below.heap_alloc _ _ _ (by simp; omega)).trans ((Below.heap_alloc _ _ _ (by simp)).trans h1))
    · have h1 := ((Boxed.new (w.alloc (.cells #[.int .i64 q, .int .i64 s] 24)) 34 (.slice (some ⟨g, 0, none⟩) (l.length + 1) scap)).alloc (.cells #[.func (.func tf) #[] #[]] 140)).alloc (.cells #[.bool false] 4)
      simpa using h1
    · have h1 := (Boxed.new ((w.alloc (.cells #[.int .i64 q, .int .i64 s] 24)).alloc (.cells #[.slice (some ⟨g, 0, none⟩) (l.length + 1) scap] 34)) 140 (.func (.func tf) #[] #[])).alloc (.cells #[.bool false] 4)
      simpa using h1
    · have h1 := Boxed.new (((w.alloc (.cells #[.int .i64 q, .int .i64 s] 24)).alloc (.cells #[.slice (some ⟨g, 0, none⟩) (l.length + 1) scap] 34)).alloc (.cells #[.func (.func tf) #[] #[]] 140)) 4 (.bool false)
      simpa using h1
    · exact (((((Below.refl _ w).alloc (Nat.le_refl _) _).alloc (by simp) _).alloc (by simp; omega) _).alloc (by simp; omega) _)
  rw [hW0]
  have hgr0 : w.grownBy W0 (some g) := ⟨hB0.os, hB0.tape, hB0.output, hB0.size, fun k hk _ => hB0.block k hk⟩
  have hown0 := owns_below hown hB0
  have hsq := hseq W0 hB0
  clear hW0 hseq
  have hI : OwnFrom W0.heap.size (fun (pre : List (El l)) W => (((((BlkW W w.heap.size #[.int .i64 q, .int .i64 s] 24 ∧ Boxed W (w.heap.size + 1) 34 (.slice (some ⟨g, 0, none⟩) (l.length + 1) scap)) ∧ Boxed W (w.heap.size + 1 + 1) 140 (.func (.func tf) #[] #[])) ∧ Boxed W (w.heap.size + 1 + 1 + 1) 4 (.bool false)) ∧
      W.ownsRow base 56 2 (.slice (some ⟨g, 0, none⟩) (l.length + 1) scap) (l.length + 1) (spanCells (foldW d q s r pre).1)) ∧ ((foldW d q s r pre).2 = true ∧ GoodRow l.length (foldW d q s r pre).1)) ∧ w.grownBy W (some g)) :=
    OwnFrom.and (OwnFrom.and (OwnFrom.and (OwnFrom.and (OwnFrom.and (OwnFrom.and (Own.from (blk_own _ _ _) _) (Own.from (boxed_own _ _ _) _)) (Own.from (boxed_own _ _ _) _)) (Own.from (boxed_own _ _ _) _)) (Own.from (owns_own _ _ _ _ _ _) _)) (ownFrom_pure _ _)) (grown_own hB0.size)
  refine wpIn_rangeFunc_ownH rfl (by omega) (gf := gf) (lb := #[.pointer (some ⟨Bs, 0, none⟩)]) rfl trivial heg hsq KeepX.trans (KeepX.putObj hB0.size) (Below.refl _ _) (fun _ => rfl)
    (fun (pre : List (El l)) W => (((((BlkW W w.heap.size #[.int .i64 q, .int .i64 s] 24 ∧ Boxed W (w.heap.size + 1) 34 (.slice (some ⟨g, 0, none⟩) (l.length + 1) scap)) ∧ Boxed W (w.heap.size + 1 + 1) 140 (.func (.func tf) #[] #[])) ∧ Boxed W (w.heap.size + 1 + 1 + 1) 4 (.bool false)) ∧
      W.ownsRow base 56 2 (.slice (some ⟨g, 0, none⟩) (l.length + 1) scap) (l.length + 1) (spanCells (foldW d q s r pre).1)) ∧ ((foldW d q s r pre).2 = true ∧ GoodRow l.length (foldW d q s r pre).1)) ∧ w.grownBy W (some g))
    (fun c pre W => ((c = .ret ∧ (foldW d q s r pre).2 = false) ∧ Boxed W (w.heap.size + 1 + 1 + 1) 4 (.bool false)) ∧ w.grownBy W (some g))
    hI
    (fun c => OwnFrom.and (OwnFrom.and (ownFrom_pure _ _) (Own.from (boxed_own _ _ _) _)) (grown_own hB0.size))
    ⟨⟨⟨⟨⟨⟨bK, bS⟩, bT⟩, bR⟩, hown0⟩, ⟨rfl, hr⟩⟩, hgr0⟩
    (fun x a' W => ∃ Bx, w.heap.size + 3 < Bx ∧ BoxS W Bx x.1.2 ∧ a' = { tmps := #[.agg #[.int .i64 q, .int .i64 s], .slice (some ⟨g, 0, none⟩) (l.length + 1) scap, .func (.func gf) #[] #[.pointer (some ⟨Bs, 0, none⟩)], .func (.func tf) #[] #[], .pointer (some ⟨w.heap.size, 0, none⟩), .pointer (some ⟨w.heap.size + 1, 0, none⟩), undef, .pointer (some ⟨w.heap.size + 1 + 1, 0, none⟩), .pointer (some ⟨w.heap.size + 1 + 1 + 1, 0, none⟩), .int .i64 (x.1.1 : Int), .pointer (some ⟨Bx, 0, none⟩), undef, undef, undef, undef, .func (.func gf) #[] #[.pointer (some ⟨Bs, 0, none⟩)], .int .i64 (x.1.1 : Int), x.1.2.val, undef, undef, undef, undef, undef, undef, undef, undef, undef, undef, undef, undef, undef, undef, undef, undef, undef, undef, undef, undef, undef, undef, undef, undef, undef, undef, undef, undef, undef, undef, undef, undef, undef, undef, undef, undef, undef, undef], defers := [] })
    (fun x a' _ X Y row hs' hg hr => by obtain ⟨Bx, h1, h2, h3⟩ := hs'; exact ⟨Bx, h1, h2.own hg (fun r e => (hr r e).2), h3⟩)
    ?assign ?body ?done ?stop
  case assign =>
    rintro lp pre x W K hI1 hK
    have hW := hI1.1.1.1.2.lt
    gi_wp2
    exact hK _ _ ((KeepsOthers.alloc _ _).from _) ⟨by simp, fun i hi _ => Below.heap_alloc W _ i (by omega)⟩ (hI.alloc _ hI1) ⟨W.heap.size, by omega, BoxS.new W x.1.2, rfl⟩
  case body =>
    rintro lp pre x a' W _ _ ⟨⟨⟨⟨⟨⟨bK1, bS1⟩, bT1⟩, bR1⟩, ho1⟩, ⟨hok, hgd⟩⟩, hg1⟩ ⟨Bx, hBx, bX, rfl⟩ hlt
    obtain ⟨⟨place, t⟩, hx⟩ := x
    have hpl : place < l.length := (List.getElem?_eq_some_iff.1 hx).1
    obtain ⟨c0, c1, c2, c3, c4, c5, c6⟩ := bX.seven
    have hW := bR1.lt
    have kc0 : W.cell? ⟨w.heap.size, 0, none⟩ = some (.int .i64 q) := by simp [World.cell?, show W.heap[w.heap.size]? = _ from bK1]
    have kc1 : W.cell? ⟨w.heap.size, 1, none⟩ = some (.int .i64 s) := by simp [World.cell?, show W.heap[w.heap.size]? = _ from bK1]
    obtain ⟨mo, hmo⟩ : ∃ mo, stayMost s t = mo := ⟨_, rfl⟩
    have hmr : 1 ≤ mo ∧ mo ≤ 10000 := by rw [← hmo]; unfold stayMost; split <;> omega
    have SV : ∀ W', Calls Tryz.prog 94 #[t.val, .agg #[.int .i64 q, .int .i64 s]] W' fun e w' => e = .returned (.tuple #[.int .i64 q, .int .i64 mo]) ∧ Below W'.heap.size W' w' := fun W' => by rw [← hmo]; exact stay_any _ _ _ _ _ _ _ _ _ _
    gi_wp2_with (refine ⟨trivial, ?_⟩; gi_at_call 94; refine (CallsIn.inRound lp (callsIn_wide.2 (SV _))).mono ?_; rintro e w2 ⟨rfl, hb2⟩)
    clear SV c0 c1 c2 c3 c4 c5 c6 kc0 kc1
    have bS2 := boxed_below bS1 hb2
    have bT2 := boxed_below bT1 hb2
    have bR2 := boxed_below bR1 hb2
    have ho2 := owns_below ho1 hb2
    have bK2 : BlkW w2 w.heap.size #[.int .i64 q, .int .i64 s] 24 := (hb2.block _ bK1.lt).trans bK1
    have sz2 := hb2.size
    obtain ⟨R, hR⟩ : ∃ R, (foldW d q s r pre).1 = R := ⟨_, rfl⟩
    rw [hR] at ho2 hgd
    obtain ⟨e, he⟩ : ∃ e, R.getD place (0, 0) = e := ⟨_, rfl⟩
    obtain ⟨lf, hlf⟩ : ∃ lf, R.getD (place + 1) (0, 0) = lf := ⟨_, rfl⟩
    have ge := hgd.getD (show place ≤ l.length by omega)
    have gl := hgd.getD (show place + 1 ≤ l.length by omega)
    rw [he] at ge
    rw [hlf] at gl
    have re := hgd.at_ _ _ ge
    have rl := hgd.at_ _ _ gl
    have x0 := (ho2.cellAt (place * 2) (by omega)).trans (spanCells_get _ _ _ ge).1
    have x1 := (ho2.cellAt (place * 2 + 1) (by omega)).trans (spanCells_get _ _ _ ge).2
    have y0 := (ho2.cellAt ((place + 1) * 2) (by omega)).trans (spanCells_get _ _ _ gl).1
    have y1 := (ho2.cellAt ((place + 1) * 2 + 1) (by omega)).trans (spanCells_get _ _ _ gl).2
    have TR : Hid (tightR d q s R (place, t) = tightB d q mo e lf) := by show _ = _; unfold tightR; rw [he, hlf, hmo]
    have hTc := fun W' => hT mo e lf W' hmr re rl
    obtain ⟨n1, n2, n3, n4, hn⟩ : ∃ n1 n2 n3 n4, tightB d q mo e lf = ((n1, n2), (n3, n4)) := ⟨_, _, _, _, rfl⟩
    rw [hn] at hTc TR
    have tc := bT2.cell
    have sc := bS2.cell
    have p0 : (0 : Int) ≤ (place : Int) := by omega
    have p1 : (place : Int) < (l.length : Int) + 1 := by omega
    have p2 : (place : Int) + 1 < (l.length : Int) + 1 := by omega
    have p3 : (0 : Int) ≤ (place : Int) + 1 := by omega
    have p4 : IntKind.i64.wrap ((place : Int) + 1) = (place : Int) + 1 := by rw [IntKind.wrap_i64]; omega
    have H1 : Hid (Boxed w2 (w.heap.size + 1) 34 (.slice (some ⟨g, 0, none⟩) (l.length + 1) scap)) := bS2
    have H2 : Hid (Boxed w2 (w.heap.size + 1 + 1) 140 (.func (.func tf) #[] #[])) := bT2
    have H3 : Hid (Boxed w2 (w.heap.size + 1 + 1 + 1) 4 (.bool false)) := bR2
    have H4 : Hid (w2.ownsRow base 56 2 (.slice (some ⟨g, 0, none⟩) (l.length + 1) scap) (l.length + 1) (spanCells R)) := ho2
    have H5 : Hid (BlkW w2 w.heap.size #[.int .i64 q, .int .i64 s] 24) := bK2
    have H6 : Hid (GoodRow l.length R) := hgd
    have H7 : Hid ((foldW d q s r pre).1 = R) := hR
    have H8 : Hid ((foldW d q s r pre).2 = true) := hok
    have H9 : Hid (w.grownBy W (some g)) := hg1
    have H10 : Hid (Below W.heap.size W w2) := hb2
    have H11 : Hid (w.heap.size + 1 + 1 + 1 < w2.heap.size) := bR2.lt
    clear hmo he hlf ge gl re rl hmr hT hI heg hS hSp hsq hown hown0 hr hs0 _hq bK bS bT bR hgr0 bK1 bS1 bT1 bR1 ho1 hok hgd hg1 bX hlt hW bS2 bT2 bR2 ho2 bK2 hR hb2
    have l1 : w.heap.size + 1 < w2.heap.size := by have := H11.out; omega
    have l2 : w.heap.size + 1 + 1 < w2.heap.size := by have := H11.out; omega
    have lg : g < w2.heap.size := (H4.out.lt g rfl).2
    have cW : ∀ W', Below w2.heap.size w2 W' → W'.cell? ⟨w.heap.size + 1 + 1, 0, none⟩ = some (.func (.func tf) #[] #[]) ∧ W'.cell? ⟨w.heap.size + 1, 0, none⟩ = some (.slice (some ⟨g, 0, none⟩) (l.length + 1) scap) ∧
        W'.cell? ⟨g, place * 2, none⟩ = some (.int .i64 e.1) ∧ W'.cell? ⟨g, place * 2 + 1, none⟩ = some (.int .i64 e.2) ∧ W'.cell? ⟨g, (place + 1) * 2, none⟩ = some (.int .i64 lf.1) ∧ W'.cell? ⟨g, (place + 1) * 2 + 1, none⟩ = some (.int .i64 lf.2) := fun W' hb =>
      ⟨(hb.cell (p := ⟨w.heap.size + 1 + 1, 0, none⟩) l2).trans tc, (hb.cell (p := ⟨w.heap.size + 1, 0, none⟩) l1).trans sc, (hb.cell (p := ⟨g, place * 2, none⟩) lg).trans x0, (hb.cell (p := ⟨g, place * 2 + 1, none⟩) lg).trans x1, (hb.cell (p := ⟨g, (place + 1) * 2, none⟩) lg).trans y0, (hb.cell (p := ⟨g, (place + 1) * 2 + 1, none⟩) lg).trans y1⟩
    clear tc sc x0 x1 y0 y1
    refine wpIn_mono (Q := fun ex a' w' => ex = .normal ∧ ∃ B1 B2, w2.heap.size ≤ B1 ∧ w2.heap.size ≤ B2 ∧ B1 ≠ B2 ∧ Below w2.heap.size w2 w' ∧ w'.heap[B1]? = some (.cells #[.int .i64 n1, .int .i64 n2] 56 (0, 0)) ∧ w'.heap[B2]? = some (.cells #[.int .i64 n3, .int .i64 n4] 56 (0, 0)) ∧ a' = { tmps := #[.agg #[.int .i64 q, .int .i64 s], .slice (some ⟨g, 0, none⟩) (l.length + 1) scap, .func (.func gf) #[] #[.pointer (some ⟨Bs, 0, none⟩)], .func (.func tf) #[] #[], .pointer (some ⟨w.heap.size, 0, none⟩), .pointer (some ⟨w.heap.size + 1, 0, none⟩), undef, .pointer (some ⟨w.heap.size + 1 + 1, 0, none⟩), .pointer (some ⟨w.heap.size + 1 + 1 + 1, 0, none⟩), .int .i64 (place : Int), .pointer (some ⟨Bx, 0, none⟩), .int .i64 q, .int .i64 mo, .pointer (some ⟨B1, 0, none⟩), .pointer (some ⟨B2, 0, none⟩), .func (.func gf) #[] #[.pointer (some ⟨Bs, 0, none⟩)], .int .i64 (place : Int), t.val, .tuple #[.int .i64 q, .int .i64 mo], .agg #[.int .i64 t.x, .int .i64 t.y, .int .i64 t.lo, .int .i64 t.hi, .int .i64 t.fr, .int .i64 t.by_, .bool t.ho], .agg #[.int .i64 q, .int .i64 s], .tuple #[.int .i64 q, .int .i64 mo], .int .i64 q, .int .i64 mo, .tuple #[.agg #[.int .i64 n1, .int .i64 n2], .agg #[.int .i64 n3, .int .i64 n4]], .func (.func tf) #[] #[], .slice (some ⟨g, 0, none⟩) (l.length + 1) scap, .int .i64 (place : Int), .pointer (some ⟨g, place * 2, none⟩), .agg #[.int .i64 e.1, .int .i64 e.2], .slice (some ⟨g, 0, none⟩) (l.length + 1) scap, .int .i64 (place : Int), .int .i64 ((place : Int) + 1), .pointer (some ⟨g, (place + 1) * 2, none⟩), .agg #[.int .i64 lf.1, .int .i64 lf.2], .int .i64 q, .int .i64 mo, .agg #[.int .i64 q, .int .i64 mo], .tuple #[.agg #[.int .i64 n1, .int .i64 n2], .agg #[.int .i64 n3, .int .i64 n4]], .agg #[.int .i64 n1, .int .i64 n2], .agg #[.int .i64 n3, .int .i64 n4], undef, undef, undef, undef, undef, undef, undef, undef, undef, undef, undef, undef, undef, undef, undef], defers := [] }) ?reg ?rest
    case reg =>
      refine wpIn_region_three (Z := #[.int .i64 0, .int .i64 0]) (T := 56) 16 _ _ _ _ (.agg #[.int .i64 n3, .int .i64 n4]) (by kernel_rfl) (by kernel_rfl) (by kernel_rfl) (by rintro ⟨a, w, h, _⟩; cases h) (by rfl) rfl rfl rfl rfl rfl rfl (fun ρ W => by rfl) (fun ρ W => by rfl) _ rfl _ rfl (by kernel_rfl) (by kernel_rfl) (by kernel_rfl) (by kernel_rfl) (by kernel_rfl) (by kernel_rfl) (by kernel_rfl) (by kernel_rfl) (by kernel_rfl) (by kernel_rfl) (by kernel_rfl) (by kernel_rfl) (fun d hd => by cases hd; simp) (fun d hd => by cases hd; simp) (fun d hd => by cases hd; simp) (fun d hd => by cases hd; decide) (fun d hd => by cases hd; decide) ?_
      simp only [List.take_succ_cons, List.take_zero]
      refine wpQA_cons (.func (.func tf) #[] #[]) (YA_of rfl (fun W' hW' => ?_)) ?_
      · obtain ⟨f1, f2, f3, f4, f5, f6⟩ := cW W' hW'
        go_simp
      simp only [Act.put, List.setIfInBounds_toArray, List.set_cons_succ, List.set_cons_zero]
      refine wpQA_cons (.slice (some ⟨g, 0, none⟩) (l.length + 1) scap) (YA_of rfl (fun W' hW' => ?_)) ?_
      · obtain ⟨f1, f2, f3, f4, f5, f6⟩ := cW W' hW'
        go_simp
      simp only [Act.put, List.setIfInBounds_toArray, List.set_cons_succ, List.set_cons_zero]
      refine wpQA_cons (.int .i64 (place : Int)) (YA_of rfl (fun W' hW' => ?_)) ?_
      · obtain ⟨f1, f2, f3, f4, f5, f6⟩ := cW W' hW'
        go_simp
      simp only [Act.put, List.setIfInBounds_toArray, List.set_cons_succ, List.set_cons_zero]
      refine wpQA_cons (.pointer (some ⟨g, place * 2, none⟩)) (YA_of rfl (fun W' hW' => ?_)) ?_
      · obtain ⟨f1, f2, f3, f4, f5, f6⟩ := cW W' hW'
        go_simp
      simp only [Act.put, List.setIfInBounds_toArray, List.set_cons_succ, List.set_cons_zero]
      refine wpQA_cons (.agg #[.int .i64 e.1, .int .i64 e.2]) (YA_of rfl (fun W' hW' => ?_)) ?_
      · obtain ⟨f1, f2, f3, f4, f5, f6⟩ := cW W' hW'
        go_simp
      simp only [Act.put, List.setIfInBounds_toArray, List.set_cons_succ, List.set_cons_zero]
      refine wpQA_cons (.slice (some ⟨g, 0, none⟩) (l.length + 1) scap) (YA_of rfl (fun W' hW' => ?_)) ?_
      · obtain ⟨f1, f2, f3, f4, f5, f6⟩ := cW W' hW'
        go_simp
      simp only [Act.put, List.setIfInBounds_toArray, List.set_cons_succ, List.set_cons_zero]
      refine wpQA_cons (.int .i64 (place : Int)) (YA_of rfl (fun W' hW' => ?_)) ?_
      · obtain ⟨f1, f2, f3, f4, f5, f6⟩ := cW W' hW'
        go_simp
      simp only [Act.put, List.setIfInBounds_toArray, List.set_cons_succ, List.set_cons_zero]
      refine wpQA_cons (.int .i64 ((place : Int) + 1)) (YA_of rfl (fun W' hW' => ?_)) ?_
      · obtain ⟨f1, f2, f3, f4, f5, f6⟩ := cW W' hW'
        go_simp
      simp only [Act.put, List.setIfInBounds_toArray, List.set_cons_succ, List.set_cons_zero]
      refine wpQA_cons (.pointer (some ⟨g, (place + 1) * 2, none⟩)) (YA_of rfl (fun W' hW' => ?_)) ?_
      · obtain ⟨f1, f2, f3, f4, f5, f6⟩ := cW W' hW'
        go_simp
      simp only [Act.put, List.setIfInBounds_toArray, List.set_cons_succ, List.set_cons_zero]
      refine wpQA_cons (.agg #[.int .i64 lf.1, .int .i64 lf.2]) (YA_of rfl (fun W' hW' => ?_)) ?_
      · obtain ⟨f1, f2, f3, f4, f5, f6⟩ := cW W' hW'
        go_simp
      simp only [Act.put, List.setIfInBounds_toArray, List.set_cons_succ, List.set_cons_zero]
      refine wpQA_cons (.int .i64 q) (YA_of rfl (fun W' hW' => ?_)) ?_
      · obtain ⟨f1, f2, f3, f4, f5, f6⟩ := cW W' hW'
        go_simp
      simp only [Act.put, List.setIfInBounds_toArray, List.set_cons_succ, List.set_cons_zero]
      refine wpQA_cons (.int .i64 mo) (YA_of rfl (fun W' hW' => ?_)) ?_
      · obtain ⟨f1, f2, f3, f4, f5, f6⟩ := cW W' hW'
        go_simp
      simp only [Act.put, List.setIfInBounds_toArray, List.set_cons_succ, List.set_cons_zero]
      refine wpQA_cons (.agg #[.int .i64 q, .int .i64 mo]) (YA_of rfl (fun W' hW' => ?_)) ?_
      · obtain ⟨f1, f2, f3, f4, f5, f6⟩ := cW W' hW'
        go_simp
      simp only [Act.put, List.setIfInBounds_toArray, List.set_cons_succ, List.set_cons_zero]
      refine wpQA_cons (.tuple #[.agg #[.int .i64 n1, .int .i64 n2], .agg #[.int .i64 n3, .int .i64 n4]]) (YA_call (f := tf) (args := #[.agg #[.int .i64 e.1, .int .i64 e.2], .agg #[.int .i64 lf.1, .int .i64 lf.2], .agg #[.int .i64 q, .int .i64 mo]]) rfl (fun W' hW' => ?_) (fun W' => hTc W')) ?_
      · go_simp
      simp only [Act.put, List.setIfInBounds_toArray, List.set_cons_succ, List.set_cons_zero]
      refine wpQA_cons (.tuple #[.agg #[.int .i64 n1, .int .i64 n2], .agg #[.int .i64 n3, .int .i64 n4]]) (YA_of rfl (fun W' hW' => ?_)) ?_
      · go_simp
      simp only [Act.put, List.setIfInBounds_toArray, List.set_cons_succ, List.set_cons_zero]
      refine wpQA_cons (.agg #[.int .i64 n1, .int .i64 n2]) (YA_of rfl (fun W' hW' => ?_)) ?_
      · go_simp
      simp only [Act.put, List.setIfInBounds_toArray, List.set_cons_succ, List.set_cons_zero]
      refine wpQA_nil ⟨YA_of rfl (fun W' hW' => ?_), ?_⟩
      · go_simp
      intro B1 B2 W' hB1 hB2 hne hbW t1 t2
      simp only [List.setIfInBounds_toArray]
      obtain ⟨t10, t11, t1f⟩ := blk2 t1
      obtain ⟨t20, t21, t2f⟩ := blk2 t2
      have U1 : Hid (((((W'.setCell ⟨B1, 0, none⟩ (.int .i64 n1)).setCell ⟨B1, 1, none⟩ (.int .i64 n2)).setCell ⟨B2, 0, none⟩ (.int .i64 n3)).setCell ⟨B2, 1, none⟩ (.int .i64 n4)).heap[B1]? = some (.cells #[.int .i64 n1, .int .i64 n2] 56 (0, 0))) := by
        show _ = _
        rw [heap_setCell_other _ ⟨B2, 1, none⟩ B1 _ hne, heap_setCell_other _ ⟨B2, 0, none⟩ B1 _ hne]
        exact blk2_set1 (blk2_set0 t1 _) _
      have U2 : Hid (((((W'.setCell ⟨B1, 0, none⟩ (.int .i64 n1)).setCell ⟨B1, 1, none⟩ (.int .i64 n2)).setCell ⟨B2, 0, none⟩ (.int .i64 n3)).setCell ⟨B2, 1, none⟩ (.int .i64 n4)).heap[B2]? = some (.cells #[.int .i64 n3, .int .i64 n4] 56 (0, 0))) := by
        show _ = _
        have t3 : ((W'.setCell ⟨B1, 0, none⟩ (.int .i64 n1)).setCell ⟨B1, 1, none⟩ (.int .i64 n2)).heap[B2]? = some (.cells #[.int .i64 0, .int .i64 0] 56 (0, 0)) := by
          rw [heap_setCell_other _ ⟨B1, 1, none⟩ B2 _ (Ne.symm hne), heap_setCell_other _ ⟨B1, 0, none⟩ B2 _ (Ne.symm hne)]
          exact t2
        exact blk2_set1 (blk2_set0 t3 _) _
      have U3 : Hid (Below w2.heap.size w2 ((((W'.setCell ⟨B1, 0, none⟩ (.int .i64 n1)).setCell ⟨B1, 1, none⟩ (.int .i64 n2)).setCell ⟨B2, 0, none⟩ (.int .i64 n3)).setCell ⟨B2, 1, none⟩ (.int .i64 n4))) :=
        (((hbW.setCell (p := ⟨B1, 0, none⟩) hB1 _).setCell (p := ⟨B1, 1, none⟩) hB1 _).setCell (p := ⟨B2, 0, none⟩) hB2 _).setCell (p := ⟨B2, 1, none⟩) hB2 _
      have hne' := Ne.symm hne
      clear t1 t2
      refine ⟨?_, ?_⟩
      · refine wpOp_go rfl rfl (fun K' hK => ?_)
        unfold Oper.wp
        go_simp
        refine hK _ _ ?_
        clear hK
        refine wpOp_go rfl rfl (fun K'' hK' => ?_)
        unfold Oper.wp
        go_simp
        refine hK' _ _ ?_
        exact ⟨trivial, B1, B2, hB1, hB2, hne, U3.out, U1.out, U2.out, rfl⟩
      · refine wpOp_go rfl rfl (fun K' hK => ?_)
        unfold Oper.wp
        go_simp
        refine hK _ _ ?_
        clear hK
        refine wpOp_go rfl rfl (fun K'' hK' => ?_)
        unfold Oper.wp
        go_simp
        refine hK' _ _ ?_
        clear hK'
        refine wpOp_go rfl rfl (fun K3 hK3 => ?_)
        unfold Oper.wp
        go_simp
        refine hK3 _ _ ?_
        exact ⟨trivial, B1, B2, hB1, hB2, hne, U3.out, U1.out, U2.out, rfl⟩
    case rest =>
      rintro ex a' w3 ⟨rfl, B1, B2, hB1, hB2, hne, hb3, t1, t2, rfl⟩
      obtain ⟨t10, t11, t1f⟩ := blk2 t1
      obtain ⟨t20, t21, t2f⟩ := blk2 t2
      have Z1 := boxed_below H1.out hb3
      have Z3 := boxed_below H3.out hb3
      have Z4 := owns_below H4.out hb3
      have sc := Z1.cell
      have rc := Z3.cell
      have rf := Z3.frozen
      have bW3 : Below W.heap.size W w3 := H10.out.trans (hb3.mono H10.out.size)
      have SN : Hid (foldW d q s r (pre ++ [⟨(place, t), hx⟩]) = (rowStep d q s R (place, t), someB (n1, n2) && someB (n3, n4))) := by
        show _ = _
        rw [foldW_snoc, H7.out, H8.out]
        unfold okStep
        rw [TR.out]
        rfl
      have HZ : Hid (w3.ownsRow base 56 2 (.slice (some ⟨g, 0, none⟩) (l.length + 1) scap) (l.length + 1) (spanCells R)) := Z4
      have HR : Hid (Boxed w3 (w.heap.size + 1 + 1 + 1) 4 (.bool false)) := Z3
      have lB2 := lt_of_block t2
      have lB1 := lt_of_block t1
      clear Z4 t1 t2
      cases hs1 : decide (n2 < n1) with
      | true =>
        have HE : Hid ((foldW d q s r (pre ++ [⟨(place, t), hx⟩])).2 = false) := by
          show _ = _
          rw [SN.out]
          have : someB (n1, n2) = false := by simp [someB]; simpa using hs1
          rw [this]; rfl
        gi_wp2_with (refine ⟨trivial, ?_⟩; gi_at_call 95; refine (CallsIn.inRound lp (callsIn_wide.2 (spanNo_val _ _ _ _ hs1))).mono ?_; rintro z w4 ⟨rfl, hb4⟩; have rc4 := (boxed_below Z3 hb4).cell; have rf4 := (boxed_below Z3 hb4).frozen)
        have bW4 : Below W.heap.size W w4 := bW3.trans (hb4.mono bW3.size)
        refine ⟨trivial, ?_⟩
        gi_wp2
        exact ⟨((keeps_below bW4).trans (KeepsOthers.setCell _ _ _)).from _, ⟨⟨rfl, HE.out⟩, (boxed_below HR.out hb4).set _⟩, grown_over (grown_below H9.out bW4) (grownBy_setCell' w4 (w.heap.size + 1 + 1 + 1) (.bool false)) (fun k e => by cases e; omega)⟩
      | false =>
        cases hs2 : decide (n4 < n3) with
        | true =>
          have HE : Hid ((foldW d q s r (pre ++ [⟨(place, t), hx⟩])).2 = false) := by
            show _ = _
            rw [SN.out]
            have : someB (n3, n4) = false := by simp [someB]; simpa using hs2
            rw [this, Bool.and_false]
          gi_wp2_with (refine ⟨trivial, ?_⟩; gi_at_call 95; refine (CallsIn.inRound lp (callsIn_wide.2 (spanNo_val _ _ _ _ hs1))).mono ?_; rintro z w4 ⟨rfl, hb4⟩; have u20 := (hb4.cell (p := ⟨B2, 0, none⟩) lB2).trans t20; have u21 := (hb4.cell (p := ⟨B2, 1, none⟩) lB2).trans t21)
          clear hs1
          have bR4 := boxed_below HR.out hb4
          have bW4 : Below W.heap.size W w4 := bW3.trans (hb4.mono bW3.size)
          gi_wp2_with (refine ⟨trivial, ?_⟩; gi_at_call 95; refine (CallsIn.inRound lp (callsIn_wide.2 (spanNo_val _ _ _ _ hs2))).mono ?_; rintro z w5 ⟨rfl, hb5⟩; have rc5 := (boxed_below bR4 hb5).cell; have rf5 := (boxed_below bR4 hb5).frozen)
          have bW5 : Below W.heap.size W w5 := bW4.trans (hb5.mono bW4.size)
          exact ⟨((keeps_below bW5).trans (KeepsOthers.setCell _ _ _)).from _, ⟨⟨rfl, HE.out⟩, (boxed_below bR4 hb5).set _⟩, grown_over (grown_below H9.out bW5) (grownBy_setCell' w5 (w.heap.size + 1 + 1 + 1) (.bool false)) (fun k e => by cases e; omega)⟩
        | false =>
          have HE : Hid ((foldW d q s r (pre ++ [⟨(place, t), hx⟩])).2 = true) := by
            show _ = _
            rw [SN.out]
            have i1 : someB (n1, n2) = true := by simp [someB]; simpa using hs1
            have i2 : someB (n3, n4) = true := by simp [someB]; simpa using hs2
            rw [i1, i2]; rfl
          gi_wp2_with (refine ⟨trivial, ?_⟩; gi_at_call 95; refine (CallsIn.inRound lp (callsIn_wide.2 (spanNo_val _ _ _ _ hs1))).mono ?_; rintro z w4 ⟨rfl, hb4⟩; have u20 := (hb4.cell (p := ⟨B2, 0, none⟩) lB2).trans t20; have u21 := (hb4.cell (p := ⟨B2, 1, none⟩) lB2).trans t21)
          clear hs1
          have bW4 : Below W.heap.size W w4 := bW3.trans (hb4.mono bW3.size)
          have b34 : Below w3.heap.size w3 w4 := hb4
          gi_wp2_with (refine ⟨trivial, ?_⟩; gi_at_call 95; refine (CallsIn.inRound lp (callsIn_wide.2 (spanNo_val _ _ _ _ hs2))).mono ?_; rintro z w5 ⟨rfl, hb5⟩)
          have b35 : Below w3.heap.size w3 w5 := b34.trans (hb5.mono b34.size)
          have bW5 : Below W.heap.size W w5 := bW4.trans (hb5.mono bW4.size)
          have Z5 := owns_below HZ.out b35
          have k1 := (b35.cell (p := ⟨w.heap.size + 1, 0, none⟩) (by have := hb3.size; show w.heap.size + 1 < _; omega)).trans sc
          have e10 := (b35.cell (p := ⟨B1, 0, none⟩) lB1).trans t10
          have e11 := (b35.cell (p := ⟨B1, 1, none⟩) lB1).trans t11
          have e20 := (b35.cell (p := ⟨B2, 0, none⟩) lB2).trans t20
          have e21 := (b35.cell (p := ⟨B2, 1, none⟩) lB2).trans t21
          obtain ⟨o0, hv0⟩ : ∃ o, (spanCells R)[place * 2]? = some o := ⟨_, List.getElem?_eq_getElem (by rw [Z5.1]; omega)⟩
          obtain ⟨o1, hv1⟩ : ∃ o, (spanCells R)[place * 2 + 1]? = some o := ⟨_, List.getElem?_eq_getElem (by rw [Z5.1]; omega)⟩
          obtain ⟨o2, hv2⟩ : ∃ o, (spanCells R)[(place + 1) * 2]? = some o := ⟨_, List.getElem?_eq_getElem (by rw [Z5.1]; omega)⟩
          obtain ⟨o3, hv3⟩ : ∃ o, (spanCells R)[(place + 1) * 2 + 1]? = some o := ⟨_, List.getElem?_eq_getElem (by rw [Z5.1]; omega)⟩
          have m0 := (Z5.cellAt (place * 2) (by omega)).trans hv0
          have m1 := (Z5.cellAt (place * 2 + 1) (by omega)).trans hv1
          have m2 := (Z5.cellAt ((place + 1) * 2) (by omega)).trans hv2
          have m3 := (Z5.cellAt ((place + 1) * 2 + 1) (by omega)).trans hv3
          have mf := Z5.frozenAt
          have HZ5 : Hid (w5.ownsRow base 56 2 (.slice (some ⟨g, 0, none⟩) (l.length + 1) scap) (l.length + 1) (spanCells R)) := Z5
          have HB5 : Hid (Below W.heap.size W w5) := bW5
          have HB25 : Hid (Below w2.heap.size w2 w5) := hb3.trans (b35.mono hb3.size)
          clear hv0 hv1 hv2 hv3 Z5 bW5 b35 b34 bW4 hb5 hb4 u20 u21 t10 t11 t20 t21 t1f t2f sc rc rf cW hTc hs2 bW3 hb3 Z1 Z3
          have gB1 : B1 ≠ g := by omega
          have gB2 : B2 ≠ g := by omega
          have gS : w.heap.size + 1 ≠ g := by omega
          have n1g : place * 2 ≠ (place + 1) * 2 := by omega
          obtain ⟨V, hV⟩ : ∃ V, w5.drew = V := ⟨_, rfl⟩
          obtain ⟨X1, hX1⟩ : ∃ X1, (V.setCell ⟨g, place * 2, none⟩ (.int .i64 n1)).setCell ⟨g, place * 2 + 1, none⟩ (.int .i64 n2) = X1 := ⟨_, rfl⟩
          have V1 : V.cell? ⟨w.heap.size + 1, 0, none⟩ = some (.slice (some ⟨g, 0, none⟩) (l.length + 1) scap) := by rw [← hV]; exact k1
          have V10 : V.cell? ⟨B1, 0, none⟩ = some (.int .i64 n1) := by rw [← hV]; exact e10
          have V11 : V.cell? ⟨B1, 1, none⟩ = some (.int .i64 n2) := by rw [← hV]; exact e11
          have V20 : V.cell? ⟨B2, 0, none⟩ = some (.int .i64 n3) := by rw [← hV]; exact e20
          have V21 : V.cell? ⟨B2, 1, none⟩ = some (.int .i64 n4) := by rw [← hV]; exact e21
          have hxo : ∀ (p : Addr), p.block ≠ g → X1.cell? p = V.cell? p := fun p hp => by
            rw [← hX1]
            exact World.cell?_of_block ((heap_setCell_other _ ⟨g, place * 2 + 1, none⟩ p.block _ hp).trans (heap_setCell_other _ ⟨g, place * 2, none⟩ p.block _ hp))
          have HV : V.ownsRow base 56 2 (.slice (some ⟨g, 0, none⟩) (l.length + 1) scap) (l.length + 1) (spanCells R) := by rw [← hV]; exact HZ5.out.drew
          have cF : ∀ W', W' = V ∨ W' = X1 → W'.cell? ⟨w.heap.size + 1, 0, none⟩ = some (.slice (some ⟨g, 0, none⟩) (l.length + 1) scap) ∧ W'.cell? ⟨B1, 0, none⟩ = some (.int .i64 n1) ∧ W'.cell? ⟨B1, 1, none⟩ = some (.int .i64 n2) ∧ W'.cell? ⟨B2, 0, none⟩ = some (.int .i64 n3) ∧ W'.cell? ⟨B2, 1, none⟩ = some (.int .i64 n4) := by
            rintro W' (rfl | rfl)
            · exact ⟨V1, V10, V11, V20, V21⟩
            · exact ⟨(hxo _ gS).trans V1, (hxo _ gB1).trans V10, (hxo _ gB1).trans V11, (hxo _ gB2).trans V20, (hxo _ gB2).trans V21⟩
          have HX1 : X1.ownsRow base 56 2 (.slice (some ⟨g, 0, none⟩) (l.length + 1) scap) (l.length + 1) (((spanCells R).set (place * 2) (.int .i64 n1)).set (place * 2 + 1) (.int .i64 n2)) := by
            rw [← hX1]
            exact owns_put (owns_put HV (by omega) _) (by omega) _
          have HX4 := owns_put (owns_put HX1 (show (place + 1) * 2 < (l.length + 1) * 2 by omega) (.int .i64 n3)) (show (place + 1) * 2 + 1 < (l.length + 1) * 2 by omega) (.int .i64 n4)
          have s0 : ∃ u, V.cell? ⟨g, place * 2, none⟩ = some u := ⟨o0, by rw [← hV]; exact m0⟩
          have s1 : ∃ u, V.cell? ⟨g, place * 2 + 1, none⟩ = some u := ⟨o1, by rw [← hV]; exact m1⟩
          have sf := HV.frozenAt
          have r0 : ∃ u, X1.cell? ⟨g, (place + 1) * 2, none⟩ = some u := some_of_get' (HX1.cellAt ((place + 1) * 2) (by omega)) HX1.1 (by omega)
          have r1 : ∃ u, X1.cell? ⟨g, (place + 1) * 2 + 1, none⟩ = some u := some_of_get' (HX1.cellAt ((place + 1) * 2 + 1) (by omega)) HX1.1 (by omega)
          have rf := HX1.frozenAt
          obtain ⟨u0, s0⟩ := s0
          obtain ⟨u1, s1⟩ := s1
          obtain ⟨v0, r0⟩ := r0
          obtain ⟨v1, r1⟩ := r1
          have J4 : Hid (((X1.setCell ⟨g, (place + 1) * 2, none⟩ (.int .i64 n3)).setCell ⟨g, (place + 1) * 2 + 1, none⟩ (.int .i64 n4)).ownsRow base 56 2 (.slice (some ⟨g, 0, none⟩) (l.length + 1) scap) (l.length + 1) (((((spanCells R).set (place * 2) (.int .i64 n1)).set (place * 2 + 1) (.int .i64 n2)).set ((place + 1) * 2) (.int .i64 n3)).set ((place + 1) * 2 + 1) (.int .i64 n4))) := HX4
          have JV : Hid (w5.drew = V) := hV
          have JX : Hid ((V.setCell ⟨g, place * 2, none⟩ (.int .i64 n1)).setCell ⟨g, place * 2 + 1, none⟩ (.int .i64 n2) = X1) := hX1
          clear k1 e10 e11 e20 e21 m0 m1 m2 m3 mf HX4 HX1 HV hX1
          refine wpIn_mono (Q := fun ex _ w' => ex = .normal ∧ w' = (X1.setCell ⟨g, (place + 1) * 2, none⟩ (.int .i64 n3)).setCell ⟨g, (place + 1) * 2 + 1, none⟩ (.int .i64 n4)) ?reg8 ?rest8
          case reg8 =>
            refine wpIn_region_stores 8 _ _ (.pointer (some ⟨g, (place + 1) * 2, none⟩)) (fun W' => W' = V) (fun W' => W' = X1) (by kernel_rfl) (by kernel_rfl) (by kernel_rfl) (by rintro ⟨a, w, h, _⟩; cases h) (by rfl) rfl rfl rfl _ rfl _ rfl (by kernel_rfl) (by kernel_rfl) (by kernel_rfl) (by kernel_rfl) (by kernel_rfl) hV ?_
            clear hV
            simp only [List.take_succ_cons, List.take_zero]
            refine wpQG_cons (.slice (some ⟨g, 0, none⟩) (l.length + 1) scap) (YG_of rfl (fun W' hW' => ?_)) ?_
            · obtain ⟨f1, f2, f3, f4, f5⟩ := cF W' hW'
              go_simp
            simp only [Act.put, List.setIfInBounds_toArray, List.set_cons_succ, List.set_cons_zero]
            refine wpQG_cons (.int .i64 (place : Int)) (YG_of rfl (fun W' hW' => ?_)) ?_
            · go_simp
            simp only [Act.put, List.setIfInBounds_toArray, List.set_cons_succ, List.set_cons_zero]
            refine wpQG_cons (.slice (some ⟨g, 0, none⟩) (l.length + 1) scap) (YG_of rfl (fun W' hW' => ?_)) ?_
            · obtain ⟨f1, f2, f3, f4, f5⟩ := cF W' hW'
              go_simp
            simp only [Act.put, List.setIfInBounds_toArray, List.set_cons_succ, List.set_cons_zero]
            refine wpQG_cons (.int .i64 (place : Int)) (YG_of rfl (fun W' hW' => ?_)) ?_
            · go_simp
            simp only [Act.put, List.setIfInBounds_toArray, List.set_cons_succ, List.set_cons_zero]
            refine wpQG_cons (.int .i64 ((place : Int) + 1)) (YG_of rfl (fun W' hW' => ?_)) ?_
            · go_simp
            simp only [Act.put, List.setIfInBounds_toArray, List.set_cons_succ, List.set_cons_zero]
            refine wpQG_cons (.agg #[.int .i64 n1, .int .i64 n2]) (YG_of rfl (fun W' hW' => ?_)) ?_
            · obtain ⟨f1, f2, f3, f4, f5⟩ := cF W' hW'
              go_simp
            simp only [Act.put, List.setIfInBounds_toArray, List.set_cons_succ, List.set_cons_zero]
            refine wpQG_cons (.agg #[.int .i64 n3, .int .i64 n4]) (YG_of rfl (fun W' hW' => ?_)) ?_
            · obtain ⟨f1, f2, f3, f4, f5⟩ := cF W' hW'
              go_simp
            simp only [Act.put, List.setIfInBounds_toArray, List.set_cons_succ, List.set_cons_zero]
            refine wpQG_cons (.pointer (some ⟨g, place * 2, none⟩)) (YG_of rfl (fun W' hW' => ?_)) ?_
            · go_simp
            simp only [Act.put, List.setIfInBounds_toArray, List.set_cons_succ, List.set_cons_zero]
            refine wpQG_nil ⟨fun W' hW' => ?_, YG_of rfl (fun W' hW' => ?_), fun W' hW' => ?_⟩
            · refine ⟨X1, ?_, rfl⟩
              rw [hW', ← JX.out]
              go_simp
            · go_simp
            · refine wpOp_go rfl rfl (fun K' hK => ?_)
              rw [hW']
              unfold Oper.wp
              go_simp
              refine hK _ _ ?_
              exact ⟨trivial, rfl⟩
          case rest8 =>
            rintro ex a' w6 ⟨rfl, rfl⟩
            have hX : ∀ i, i ≠ g → ((X1.setCell ⟨g, (place + 1) * 2, none⟩ (.int .i64 n3)).setCell ⟨g, (place + 1) * 2 + 1, none⟩ (.int .i64 n4)).heap[i]? = w5.heap[i]? := fun i hi => by
              rw [heap_setCell_other _ ⟨g, (place + 1) * 2 + 1, none⟩ i _ hi, heap_setCell_other _ ⟨g, (place + 1) * 2, none⟩ i _ hi, ← JX.out, heap_setCell_other _ ⟨g, place * 2 + 1, none⟩ i _ hi, heap_setCell_other _ ⟨g, place * 2, none⟩ i _ hi, ← JV.out]
              rfl
            have hok : okStep d q s R (place, t) = true := by
              unfold okStep
              rw [TR.out]
              have := HE.out
              rw [SN.out] at this
              exact this
            have ER : spanCells (foldW d q s r (pre ++ [⟨(place, t), hx⟩])).1 = (((((spanCells R).set (place * 2) (.int .i64 n1)).set (place * 2 + 1) (.int .i64 n2)).set ((place + 1) * 2) (.int .i64 n3)).set ((place + 1) * 2 + 1) (.int .i64 n4)) := by
              rw [SN.out]
              show spanCells (rowStep d q s R (place, t)) = _
              unfold rowStep
              rw [TR.out, spanCells_set, spanCells_set]
            have h25 := HB25.out
            have hsz5 := HB5.out
            have gr5 : W.grownBy ((X1.setCell ⟨g, (place + 1) * 2, none⟩ (.int .i64 n3)).setCell ⟨g, (place + 1) * 2 + 1, none⟩ (.int .i64 n4)) (some g) := by
              have a0 : W.grownBy V (some g) := by
                rw [← JV.out]
                exact ⟨hsz5.os, hsz5.tape, hsz5.output, hsz5.size, fun i hi _ => hsz5.block i hi⟩
              have a1 := grown_over2 (grown_over2 a0 (grown_set V ⟨g, place * 2, none⟩ (.int .i64 n1))) (grown_set _ ⟨g, place * 2 + 1, none⟩ (.int .i64 n2))
              rw [JX.out] at a1
              exact grown_over2 (grown_over2 a1 (grown_set X1 ⟨g, (place + 1) * 2, none⟩ (.int .i64 n3))) (grown_set _ ⟨g, (place + 1) * 2 + 1, none⟩ (.int .i64 n4))
            have kp : KeepsOthers W ((X1.setCell ⟨g, (place + 1) * 2, none⟩ (.int .i64 n3)).setCell ⟨g, (place + 1) * 2 + 1, none⟩ (.int .i64 n4)) := by
              have a0 : KeepsOthers W V := by rw [← JV.out]; exact (keeps_below hsz5).trans (KeepsOthers.drew _)
              have a1 := (a0.trans (KeepsOthers.setCell V ⟨g, place * 2, none⟩ (.int .i64 n1))).trans (KeepsOthers.setCell _ ⟨g, place * 2 + 1, none⟩ (.int .i64 n2))
              rw [JX.out] at a1
              exact (a1.trans (KeepsOthers.setCell X1 ⟨g, (place + 1) * 2, none⟩ (.int .i64 n3))).trans (KeepsOthers.setCell _ ⟨g, (place + 1) * 2 + 1, none⟩ (.int .i64 n4))
            have hWw := H9.out.size
            have l3 := H11.out
            have hB : ∀ i, i ≠ g → i < w2.heap.size → ((X1.setCell ⟨g, (place + 1) * 2, none⟩ (.int .i64 n3)).setCell ⟨g, (place + 1) * 2 + 1, none⟩ (.int .i64 n4)).heap[i]? = w2.heap[i]? := fun i h1 h2 => (hX i h1).trans (h25.block i h2)
            show KeepsFrom _ _ _ ∧ KeepX _ _ _ _ ∧ _
            refine ⟨kp.from _, ⟨gr5.size, fun i hi hne => gr5.block i (by omega) (fun e => hne (by cases e; rfl))⟩, ⟨⟨⟨⟨⟨⟨(hB _ (by omega) (by omega)).trans H5.out, (hB _ (by omega) (by omega)).trans H1.out⟩, (hB _ (by omega) (by omega)).trans H2.out⟩, (hB _ (by omega) (by omega)).trans H3.out⟩, ?_⟩, ⟨HE.out, ?_⟩⟩, grown_over2 H9.out gr5⟩⟩
            · rw [ER]
              exact J4.out
            · rw [SN.out]
              exact H6.out.step hpl hok
  case done =>
    rintro D zs W hD hzs ⟨⟨⟨⟨⟨⟨bK1, bS1⟩, bT1⟩, bR1⟩, ho1⟩, ⟨hok, hgd⟩⟩, hg1⟩ hK
    obtain rfl := hS _ hzs
    have rc := bR1.cell
    have rf := bR1.frozen
    have HE : Hid ((foldW d q s r zs).2 = true) := hok
    clear hok hgd bK1 bS1 bT1 hI
    gi_wp2
    have hK' := (KeepsOthers.setCell W ⟨w.heap.size + 1 + 1 + 1, 0, none⟩ (.bool true)).same D _ hK rfl
    refine ⟨by simp, .inl ⟨_, _, rfl, run_takeDeferred hK', ?_⟩⟩
    have hc5 := cell_kept (World.cell?_setCell_same' W ⟨w.heap.size + 1 + 1 + 1, 0, none⟩ (.bool true) (by rw [rc]; rfl)) (grownBy_putObj' _ D (.deferred none)) (fun r e => by cases e; exact ⟨_, hK', rfl⟩)
    refine ⟨.bool true, ?_, by rw [HE.out], grown_over (grown_over hg1 (grownBy_setCell' W (w.heap.size + 1 + 1 + 1) (.bool true)) (fun k e => by cases e; omega)) (grownBy_putObj' _ D (.deferred none)) (fun k e => by cases e; omega), fun _ => ?_⟩
    · simp [results, Tryz.f44, go_sem, hc5]
    · exact (ho1.kept (grownBy_setCell' W (w.heap.size + 1 + 1 + 1) (.bool true)) (.inr (by simp [Value.ownBlock]; omega))).kept (grownBy_putObj' _ D (.deferred none)) (.inr (by simp [Value.ownBlock]; omega))
  case stop =>
    rintro D c pre W hD hsp ⟨⟨⟨rfl, hbad⟩, bR1⟩, hg1⟩ hK
    obtain ⟨post, hpost⟩ := hSp _ hsp
    have HE : Hid ((foldW d q s r seqn).2 = false) := by show _ = _; rw [hpost]; exact foldW_off d q s r pre post hbad
    clear hbad hI
    gi_wp2
    refine ⟨by simp, .inl ⟨_, _, rfl, run_takeDeferred hK, ?_⟩⟩
    have hc5 := cell_kept bR1.cell (grownBy_putObj' _ D (.deferred none)) (fun r e => by cases e; exact ⟨_, hK, rfl⟩)
    refine ⟨.bool false, ?_, by rw [HE.out], grown_over hg1 (grownBy_putObj' _ D (.deferred none)) (fun k e => by cases e; omega), fun h => by rw [HE.out] at h; cases h⟩
    simp [results, Tryz.f44, go_sem, hc5]
end Go.Proofs.YtijcdikekgmfoaaGreatDoor

namespace Go.Proofs.YtijcdikekgmfoaaGreatDoor
open Go.ChangeShapes Go.WideShapes Go.ChangeAt Go.RowKit

theorem own_none : ownKnob Tryz.prog.godebug = none := by kernel_rfl
theorem laid_out : laidOutB Tryz.prog = true := by kernel_rfl
/-- The program's FlySpans keeps its contract. -/
theorem spans_said : SpansSaid := spans_any walk_any follow_any

/-- The variable's name, as the rows list it. -/
abbrev varName : String := "loop.example/laplink/impl.errNothingLeft"
abbrev laidL : List (String × DataW Unit) := [(varName, Rows.laid_loop_example_laplink_impl_errNothingLeft)]
theorem gvar : Tryz.prog.globalNamed varName = some 0 := by kernel_rfl
theorem gvarType : (Tryz.prog.globals[0]?).map (·.type) = some 96 := by kernel_rfl
theorem cellsE : Tryz.prog.cellsOf 230 = 1 := by kernel_rfl
theorem cellsS : Tryz.prog.cellsOf 9 = 1 := by kernel_rfl
theorem starE : "*" ++ "errors.errorString" = "*errors.errorString" := by decide
theorem rowE (u : TypeId) (h : Tryz.prog.typeName? 3 u = some "*errors.errorString") : u = 206 :=
  typeName_ptr_named (nm := "errors.errorString") (by rw [starE]; kernel_rfl) (by kernel_rfl) (by decide) u (by rw [starE]; exact h)

/-- The variable holds a pointer to an errors.errorString. -/
theorem of_laid {W : World} (h : laidMetH Tryz.prog laidL W) : ∃ p : Addr, W.var? Tryz.prog varName = some #[.iface 206 (.pointer (some p))] := by
  rw [MakeChecks.laidMetH_plain _ _ _ (by kernel_rfl)] at h
  obtain ⟨a, s, hv, _⟩ := laid_sentinel h gvar gvarType Tryz.underlying96 rowE Tryz.underlying206 Tryz.underlying230 rfl rfl Tryz.underlying9 cellsE cellsS
  exact ⟨a, hv⟩
theorem sent_of {W : World} {p : Addr} (h : W.var? Tryz.prog varName = some #[.iface 206 (.pointer (some p))]) : Sent W p := by
  have := World.var?_cell gvar h 0
  unfold Sent
  simpa using this
/-- The door's own heap meets the condition. -/
theorem door_met (os : Os) (args : Array Value) : laidMetH Tryz.prog laidL ((World.doorLaid Tryz.prog 400 os).forCall (fun _ _ => 0) ⟨#[], args, []⟩).memory :=
  laidMetH_of_parts3 (fuel := 8) (laidMet_of_run' 8 (by kernel_rfl) (by kernel_rfl)) (by kernel_rfl) (by kernel_rfl)
end Go.Proofs.YtijcdikekgmfoaaGreatDoor

namespace Go.Proofs.YtijcdikekgmfoaaGreatDoor
open Go.RowKit

section
variable {P : Program} {ops : Array Oper} {md : Region.Mode} {Q : Exit → Act → World → Prop} {C : Array Bool → World → Prop} {N : Nat}

/-- What is asked of an operation that has been carried out: its value, and a world of the next class. -/
def moveUpon (P : Program) (C' : World → Prop) (v : Value) : Result Next → Prop
  | .ok (.value u) w' => u = v ∧ C' w'
  | .ok .skip w' => v = undef ∧ C' w'
  | .ok (.enter f args) w' => Calls P f args w' (fun e w'' => e = .returned v ∧ C' w'')
  | _ => False

/-- What has come up had all come up that it waits for. -/
def Closed (md : Region.Mode) (ops : Array Oper) (L : Array Bool) : Prop := ∀ j o, ops[j]? = some o → L.getD j false = true → ∀ e ∈ o.after, Region.binds md e = true → L.getD e.on false = true
theorem Closed.set {L : Array Bool} {i : Nat} (h : Closed md ops L) (hi : i ∈ Region.ready md ops L) : Closed md ops (L.setIfInBounds i true) := by
  obtain ⟨_, oi, hoi, hall⟩ := mem_ready.1 hi
  have up : ∀ k, L.getD k false = true → (L.setIfInBounds i true).getD k false = true := fun k hk => by
    by_cases e : i = k
    · subst e
      rcases Nat.lt_or_ge i L.size with h' | h'
      · simp [h']
      · simp [Array.getElem?_eq_none h'] at hk
    · rw [getD_set_ne false e]; exact hk
  intro j o ho hj e he hb
  by_cases hji : i = j
  · subst hji
    rw [hoi] at ho
    cases ho
    exact up _ (hall e he hb)
  · rw [getD_set_ne false hji] at hj
    exact up _ (h j o ho hj e he hb)
theorem Closed.start (n : Nat) : Closed md ops (Array.replicate n false) := by
  intro j o _ hj
  rcases Nat.lt_or_ge j n with h' | h'
  · simp [h'] at hj
  · simp [h'] at hj

/-- Operation i leaves v in its slot, whatever has come up ahead of it, and leads to the class in which it has come up too. -/
def Moves (P : Program) (md : Region.Mode) (ops : Array Oper) (C : Array Bool → World → Prop) (i : Nat) (o : Oper) (v : Value) (a : Act) : Prop :=
  (Region.wanted o (yielded ops a.tmps) = true ∧ ∀ L w, Closed md ops L → i ∈ Region.ready md ops L → C L w → moveUpon P (C (L.setIfInBounds i true)) v ((execOp a.eval o).run P w)) ∨
  (Region.wanted o (yielded ops a.tmps) = false ∧ v = undef ∧ ∀ L w, Closed md ops L → i ∈ Region.ready md ops L → C L w → C (L.setIfInBounds i true) w)

theorem Moves.of_same {i : Nat} {o : Oper} {v : Value} {a a' : Act} (h : Moves P md ops C i o v a) (he : execOp a'.eval o = execOp a.eval o)
    (hw : Region.wanted o (yielded ops a'.tmps) = Region.wanted o (yielded ops a.tmps)) : Moves P md ops C i o v a' := by
  unfold Moves at *
  rw [he, hw]
  exact h

/-- Whatever order is picked from here on, of the first N. -/
def anyM (P : Program) (md : Region.Mode) (ops : Array Oper) (C : Array Bool → World → Prop) (N : Nat) (fin : Array Bool → Act → Prop) : Nat → Array Bool → Act → Prop
  | 0, L, a => (∀ j ∈ Region.ready md ops L, N ≤ j) ∧ fin L a
  | n + 1, L, a => Region.ready md ops L ≠ [] ∧ ∀ i ∈ Region.ready md ops L, i < N ∧ ∃ o v, ops[i]? = some o ∧ Moves P md ops C i o v a ∧ anyM P md ops C N fin n (L.setIfInBounds i true) (a.put o.dst v)

theorem any_of_M {m : Nat} {fin : Array Bool → Act → Prop} (hfin : ∀ L a w, fin L a → C L w → wpAny P md ops Q m L a w) :
    ∀ (n : Nat) (L : Array Bool) (a : Act) (w : World), Closed md ops L → C L w → anyM P md ops C N fin n L a → wpAny P md ops Q (n + m) L a w
  | 0, L, a, w, _, hw, h => by rw [Nat.zero_add]; exact hfin L a w h.2 hw
  | n + 1, L, a, w, hcl, hw, h => by
    rw [show n + 1 + m = (n + m) + 1 by omega]
    refine ⟨fun e => absurd e h.1, fun i hi => ?_⟩
    obtain ⟨_, o, v, ho, hm, hk⟩ := h.2 i hi
    refine wpOp_step ho (fun K' hK => ?_)
    rcases hm with ⟨hwt, hm⟩ | ⟨hwt, rfl, hm⟩
    · rw [if_pos hwt]
      have h3 := hm L w hcl hi hw
      unfold Oper.wp
      generalize (execOp a.eval o).run P w = r at *
      cases r with
      | ok x w' =>
        cases x <;> simp only [moveUpon] at h3 <;> simp only [Oper.upon]
        case value u =>
          obtain ⟨e1, e2⟩ := h3
          rw [e1]
          exact hK _ _ (any_of_M hfin n _ _ _ (hcl.set hi) e2 hk)
        case skip =>
          obtain ⟨e1, e2⟩ := h3
          rw [← e1]
          exact hK _ _ (any_of_M hfin n _ _ _ (hcl.set hi) e2 hk)
        case enter f args =>
          exact h3.mono fun e w'' ⟨he, hw''⟩ => by subst he; exact hK _ _ (any_of_M hfin n _ _ _ (hcl.set hi) hw'' hk)
      | halt x w' => simp only [moveUpon] at h3
    · rw [if_neg (by rw [hwt]; exact Bool.false_ne_true)]
      exact hK _ _ (any_of_M hfin n _ _ _ (hcl.set hi) (hm L w hcl hi hw) hk)

/-- An operation that may come up now, and is apart from what does not wait for it, may be taken first. -/
theorem anyM_take {fin : Array Bool → Act → Prop} {i : Nat} {oi : Oper} {v : Value} (hi : ops[i]? = some oi) (hiN : i < N) (hsel : ∀ (j : Nat) (o : Oper) cs b, ops[j]? = some o → o.op ≠ .select cs b)
    (htail : ∀ L : Array Bool, Closed md ops L → L.getD i true = false → ∀ j ∈ Region.ready md ops L, j < N) :
    ∀ (n : Nat) (L : Array Bool) (a : Act), Closed md ops L →
      (∀ j oj, ops[j]? = some oj → j ≠ i → L.getD j true = false → (∀ e ∈ oj.after, Region.binds md e = true → e.on ≠ i) → oi.apart ops oj = true) →
      i ∈ Region.ready md ops L → Moves P md ops C i oi v a →
      anyM P md ops C N fin n (L.setIfInBounds i true) (a.put oi.dst v) → anyM P md ops C N fin (n + 1) L a := by
  intro n
  induction n with
  | zero =>
    intro L a hcl _ hr hy H
    refine ⟨fun e => (by rw [e] at hr; cases hr), fun j hj => ?_⟩
    by_cases hji : j = i
    · subst hji; exact ⟨hiN, oi, v, hi, hy, H⟩
    · have h1 := H.1 j (ready_mono hj hji)
      have h2 := htail L hcl (mem_ready.1 hr).1 j hj
      omega
  | succ n ih =>
    intro L a hcl hfree hr hy H
    refine ⟨fun e => (by rw [e] at hr; cases hr), fun j hj => ?_⟩
    by_cases hji : j = i
    · subst hji; exact ⟨hiN, oi, v, hi, hy, H⟩
    · obtain ⟨hjun, oj, hoj, hall⟩ := mem_ready.1 hj
      obtain ⟨hjN, o, u, ho, hyj, hk⟩ := H.2 j (ready_mono hj hji)
      rw [hoj] at ho
      cases ho
      have hun : L.getD i true = false := (mem_ready.1 hr).1
      have clash : L.getD i false = true → False := fun h1 => by
        rcases Nat.lt_or_ge i L.size with h' | h'
        · simp [h'] at hun h1; rw [hun] at h1; cases h1
        · simp [Array.getElem?_eq_none h'] at h1
      have hnot : ∀ e ∈ oj.after, Region.binds md e = true → e.on ≠ i := fun e he hb heq => clash (by have := hall e he hb; rwa [heq] at this)
      obtain ⟨a1, a2, a3⟩ := Oper.apart_spec (hfree j oj hoj hji hjun hnot)
      have hfree' : ∀ k ok, ops[k]? = some ok → k ≠ i → (L.setIfInBounds j true).getD k true = false → (∀ e ∈ ok.after, Region.binds md e = true → e.on ≠ i) → oi.apart ops ok = true := fun k ok hk hki hku hkn => hfree k ok hk hki (by
        by_cases hjk : j = k
        · subst hjk; exact hjun
        · rw [getD_set_ne true hjk] at hku; exact hku) hkn
      rw [Array.setIfInBounds_comm _ _ (Ne.symm hji), Act.put_comm a v _ a2] at hk
      exact ⟨hjN, oj, u, hoj, hyj.of_same (execOp_put oj (fun cs b => hsel j oj cs b hoj) a oi.dst v a1).symm (wanted_put oj a oi.dst v a1).symm,
        ih _ _ (hcl.set hj) hfree' (ready_mono hr (Ne.symm hji)) (hy.of_same (execOp_put oi (fun cs b => hsel i oi cs b hi) a oj.dst u a3) (wanted_put oi a oj.dst u a3)) hk⟩

/-- The lexical walk. -/
def wpMoves (P : Program) (md : Region.Mode) (ops : Array Oper) (C : Array Bool → World → Prop) (fin : Act → Prop) : List Oper → Nat → Act → Prop
  | [], _, a => fin a
  | o :: rest, k, a => ∃ v, Moves P md ops C k o v a ∧ wpMoves P md ops C fin rest (k + 1) (a.put o.dst v)
theorem wpMoves_nil {fin : Act → Prop} {k : Nat} {a : Act} (h : fin a) : wpMoves P md ops C fin [] k a := h
theorem wpMoves_mono {F G : Act → Prop} (hFG : ∀ a, F a → G a) : ∀ (l : List Oper) (k : Nat) (a : Act), wpMoves P md ops C F l k a → wpMoves P md ops C G l k a
  | [], _, _, h => hFG _ h
  | _ :: r, k, _, ⟨v, h1, h2⟩ => ⟨v, h1, wpMoves_mono hFG r (k + 1) _ h2⟩

/-- What is listed when n more are. -/
def listN (L : Array Bool) (k : Nat) : Nat → Array Bool
  | 0 => L
  | n + 1 => listN (L.setIfInBounds k true) (k + 1) n
/-- Operation t waits for operation i, by way of others too. -/
def waitT (md : Region.Mode) (ops : Array Oper) : Nat → Nat → Nat → Bool
  | 0, _, _ => false
  | n + 1, t, i => match ops[t]? with | some o => o.after.any fun e => Region.binds md e && (e.on == i || waitT md ops n e.on i) | none => false
theorem waitT_from {L : Array Bool} (hcl : Closed md ops L) : ∀ (n t i : Nat), waitT md ops n t i = true → (∀ o, ops[t]? = some o → ∀ e ∈ o.after, Region.binds md e = true → L.getD e.on false = true) → L.getD i false = true
  | 0, _, _, h, _ => by simp [waitT] at h
  | n + 1, t, i, h, hd => by
    unfold waitT at h
    cases ho : ops[t]? with
    | none => rw [ho] at h; cases h
    | some o =>
      rw [ho] at h
      simp only [Array.any_eq_true', Bool.and_eq_true, Bool.or_eq_true, beq_iff_eq] at h
      obtain ⟨e, he, hb, h3⟩ := h
      have h4 := hd o ho e he hb
      rcases h3 with rfl | h3
      · exact h4
      · exact waitT_from hcl n e.on i h3 (fun o' ho' => hcl e.on o' ho' h4)
theorem waitT_spec {n t i : Nat} {L : Array Bool} (hcl : Closed md ops L) (h : waitT md ops n t i = true) (ht : t ∈ Region.ready md ops L) : L.getD i false = true := by
  obtain ⟨_, o, ho, hall⟩ := mem_ready.1 ht
  exact waitT_from hcl n t i h (fun o' ho' => by rw [ho] at ho'; cases ho'; exact hall)
/-- The Bool over a region. -/
def lexM (md : Region.Mode) (ops : Array Oper) (N : Nat) : Nat → Nat → Array Bool → Bool
  | 0, _, L => (Region.ready md ops L).all fun j => decide (N ≤ j)
  | n + 1, k, L => (Region.ready md ops L).contains k && Region.free md ops L k && decide (k < N) && ((List.range ops.size).all fun t => decide (t < N) || waitT md ops 12 t k) && lexM md ops N n (k + 1) (L.setIfInBounds k true)

theorem anyM_lex {fin : Array Bool → Act → Prop} (hs : Region.noSelect ops = true) : ∀ (l : List Oper) (k : Nat) (L : Array Bool) (a : Act), Closed md ops L → (∀ j, j < l.length → l[j]? = ops[k + j]?) → lexM md ops N l.length k L = true →
    wpMoves P md ops C (fin (listN L k l.length)) l k a → anyM P md ops C N fin l.length L a
  | [], _, L, a, _, _, hB, h => by
    simp only [List.length_nil, lexM, List.all_eq_true, decide_eq_true_eq] at hB
    exact ⟨hB, h⟩
  | o :: l, k, L, a, hcl, hl, hB, h => by
    have h0 : ops[k]? = some o := by simpa using (hl 0 (by simp)).symm
    simp only [List.length_cons, lexM, Bool.and_eq_true, decide_eq_true_eq] at hB
    obtain ⟨⟨⟨⟨hr, hf⟩, hkN⟩, hwt⟩, hB'⟩ := hB
    obtain ⟨v, hy, hK⟩ := h
    have ih := anyM_lex hs l (k + 1) (L.setIfInBounds k true) (a.put o.dst v) (hcl.set (by simpa using hr)) (fun j hj => by have := hl (j + 1) (by simp; omega); simpa [Nat.add_assoc, Nat.add_comm 1 j] using this) hB' hK
    refine anyM_take h0 hkN (Region.noSelect_spec hs) (fun L' hcl' hL' j hj => ?_) l.length L a hcl (Region.free_spec h0 hf) (by simpa using hr) hy ih
    by_cases hjN : j < N
    · exact hjN
    · exfalso
      have hjs : j < ops.size := by
        obtain ⟨_, oj, hoj, _⟩ := mem_ready.1 hj
        exact (Array.getElem?_eq_some_iff.1 hoj).1
      have h1 := List.all_eq_true.1 hwt j (List.mem_range.2 hjs)
      simp only [Bool.or_eq_true, decide_eq_true_eq] at h1
      have h2 := waitT_spec hcl' (h1.resolve_left hjN) hj
      rcases Nat.lt_or_ge k L'.size with h' | h'
      · simp [h'] at hL' h2; rw [hL'] at h2; cases h2
      · simp [Array.getElem?_eq_none h'] at h2

/-- **The region**: the first N operations in any order, then what waits for all of them. -/
theorem wp_region_moves_at {id : Nat} {a : Act} {w : World} (N : Nat) (L0 L1 : Array Bool) (hm : P.follows .mixedOrders = true) (hs : Region.noSelect ops = true) (hN : N ≤ ops.size) (hL0 : Array.replicate ops.size false = L0) (hL1 : listN L0 0 N = L1)
    (hlex : lexM .any ops N N 0 L0 = true) (hC : C L0 w.drew)
    (h : wpMoves P .any ops C (fun a' => ∀ w', C L1 w' → wpAny P .any ops Q (ops.size - N) L1 a' w') (ops.toList.take N) 0 a) :
    (Code.region id ops true).wp P Q a w := by
  subst hL0 hL1
  have hlen : (ops.toList.take N).length = N := by rw [List.length_take, Array.length_toList]; omega
  refine wp_region_any hm ?_
  have key := anyM_lex (P := P) (C := C) (N := N) (md := .any) (fin := fun L a' => ∀ w', C L w' → wpAny P .any ops Q (ops.size - N) L a' w') hs (ops.toList.take N) 0 (Array.replicate ops.size false) a (Closed.start _)
    (fun j hj => by rw [hlen] at hj; rw [List.getElem?_take_of_lt hj]; simp) (by rw [hlen]; exact hlex)
  rw [hlen] at key
  have h2 := any_of_M (Q := Q) (m := ops.size - N) (fun L a' w' hf hw' => hf w' hw') N _ a w.drew (Closed.start _) hC (key h)
  rw [show N + (ops.size - N) = ops.size by omega] at h2
  exact h2

/-- All operations. -/
theorem wp_region_moves {id : Nat} {a : Act} {w : World} {l : List Oper} (L0 L1 : Array Bool) (hm : P.follows .mixedOrders = true) (hs : Region.noSelect l.toArray = true) (hL0 : Array.replicate l.length false = L0) (hL1 : listN L0 0 l.length = L1)
    (hlex : lexM .any l.toArray l.length l.length 0 L0 = true) (hC : C L0 w.drew) (he : Region.ready .any l.toArray L1 = [])
    (h : wpMoves P .any l.toArray C (fun a' => ∀ w', C L1 w' → Q .normal a' w') l 0 a) :
    (Code.region id l.toArray true).wp P Q a w := by
  refine wp_region_moves_at (C := C) l.length L0 L1 hm hs (by simp) (by simpa using hL0) hL1 hlex hC ?_
  simp only [List.take_length]
  refine wpMoves_mono (fun a' h' w' hw' => ?_) _ _ _ h
  simp only [List.size_toArray, Nat.sub_self]
  exact ⟨he, h' w' hw'⟩

/-- An operation that never enters a function. -/
def plainOp : Op → Bool
  | .move _ | .assign _ | .load _ _ | .fieldAddr _ _ _ | .indexAddr _ _ _ | .binOp _ _ _ _ _ | .unOp _ _ _ | .convert _ _ _ | .extract _ _ | .field _ _ _ | .index _ _ _ | .build _ _ | .pick _ _ _ => true
  | .call { callee := .builtin .len, .. } => true
  | _ => false
theorem val_noEnter {s : Sem Value} {w w' : World} {f : FuncId} {args : Array Value} : (do pure (Next.value (← s)) : Sem Next).run P w ≠ .ok (.enter f args) w' := by
  rw [Sem.run_bind]
  cases s.run P w with
  | ok v w2 => intro h; cases h
  | halt x w2 => intro h; cases h
theorem plain_noEnter {o : Oper} (hp : plainOp o.op = true) {ρ : Operand → Value} {w w' : World} {f : FuncId} {args : Array Value} : (execOp ρ o).run P w ≠ .ok (.enter f args) w' := by
  obtain ⟨dst, op, ty, gd, af, at_⟩ := o
  cases op <;> first
    | exact absurd hp Bool.false_ne_true
    | exact val_noEnter
    | (intro h; cases h)
    | (rename_i c
       obtain ⟨callee, cargs, ctys⟩ := c
       cases callee <;> first
         | exact absurd hp Bool.false_ne_true
         | (rename_i b
            cases b <;> first
              | exact absurd hp Bool.false_ne_true
              | exact val_noEnter (s := Builtin.len_ ctys ty (cargs.map ρ))))
    | (rename_i c x y
       show (do pure (Next.value (if ← asBool (ρ c) then ρ x else ρ y)) : Sem Next).run P w ≠ _
       rw [Sem.run_bind]
       cases (asBool (ρ c)).run P w with
       | ok v w2 => intro h; cases h
       | halt x w2 => intro h; cases h)

/-- Operations that only read, in a row: one walk in the class of all worlds that may be there. -/
theorem moves_quiet {fin : Act → Prop} {rest : List Oper} {U : World → Prop} (S : List Nat) (hU : ∀ L w, (∀ j ∈ S, L.getD j false = true) → C L w → U w) :
    ∀ (l : List Oper) (k : Nat) (a : Act), (l.all fun o => plainOp o.op) = true → ((List.range l.length).all fun j => S.all fun s => waitT md ops 12 (k + j) s) = true → (∀ j, k ≤ j → j < k + l.length → ∀ L w, C L w → C (L.setIfInBounds j true) w) →
      wpQuiet P ops U (fun a' => wpMoves P md ops C fin rest (k + l.length) a') l a → wpMoves P md ops C fin (l ++ rest) k a
  | [], k, a, _, _, _, h => h
  | o :: l, k, a, hp, hS, hcl, h => by
    simp only [List.all_cons, Bool.and_eq_true] at hp
    have hw0 : ∀ s ∈ S, waitT md ops 12 k s = true := by
      have h1 := List.all_eq_true.1 hS 0 (by simp)
      simpa using List.all_eq_true.1 h1
    have hS' : ((List.range l.length).all fun j => S.all fun s => waitT md ops 12 (k + 1 + j) s) = true := by
      refine List.all_eq_true.2 fun j hj => ?_
      have h1 := List.all_eq_true.1 hS (j + 1) (by simp at hj ⊢; exact hj)
      rwa [show k + (j + 1) = k + 1 + j by omega] at h1
    have hcl0 := hcl k (Nat.le_refl _) (by simp)
    have hcl' : ∀ j, k + 1 ≤ j → j < k + 1 + l.length → ∀ L w, C L w → C (L.setIfInBounds j true) w := fun j h1 h2 => hcl j (by omega) (by simp; omega)
    have hlen : k + (o :: l).length = k + 1 + l.length := by simp; omega
    rw [hlen] at h
    unfold wpQuiet at h
    split at h
    · rename_i hwt
      obtain ⟨v, hv, hk⟩ := h
      refine ⟨v, .inl ⟨hwt, fun L w hcL hr hC => ?_⟩, moves_quiet S hU l (k + 1) _ hp.2 hS' hcl' hk⟩
      have h3 := hv w (hU L w (fun s hs => waitT_spec hcL (hw0 s hs) hr) hC)
      unfold Oper.quietAt at h3
      have hne := @plain_noEnter P o hp.1 a.eval w
      generalize (execOp a.eval o).run P w = r at *
      cases r with
      | ok x w' =>
        cases x <;> simp only [Oper.quietUpon] at h3 <;> simp only [moveUpon]
        case value u =>
          obtain ⟨rfl, e2⟩ := h3
          exact ⟨e2, hcl0 L _ hC⟩
        case skip =>
          obtain ⟨rfl, e2⟩ := h3
          exact ⟨e2, hcl0 L _ hC⟩
        case enter f args => exact absurd rfl (hne (f := f) (args := args) (w' := w'))
      | halt x w' => simp only [Oper.quietUpon] at h3
    · rename_i hwt
      exact ⟨undef, .inr ⟨by simpa using hwt, rfl, fun L w _ _ hC => hcl0 L w hC⟩, moves_quiet S hU l (k + 1) _ hp.2 hS' hcl' h⟩

theorem wpQuiet_mono {U : World → Prop} {F G : Act → Prop} (hFG : ∀ a, F a → G a) : ∀ (l : List Oper) (a : Act), wpQuiet P ops U F l a → wpQuiet P ops U G l a
  | [], _, h => hFG _ h
  | o :: r, a, h => by
    unfold wpQuiet at *
    split
    · rename_i hw
      rw [if_pos hw] at h
      exact Oper.quiet_mono (fun a' h' => wpQuiet_mono hFG r a' h') h
    · rename_i hw
      rw [if_neg hw] at h
      exact wpQuiet_mono hFG r _ h

/-- An operation that turns the world. -/
theorem moves_one {fin : Act → Prop} {o : Oper} {rest : List Oper} {k : Nat} {a : Act} (v : Value) (hg : o.guard = none)
    (h : ∀ L w, Closed md ops L → k ∈ Region.ready md ops L → C L w → moveUpon P (C (L.setIfInBounds k true)) v ((execOp a.eval o).run P w)) (hr : wpMoves P md ops C fin rest (k + 1) (a.put o.dst v)) : wpMoves P md ops C fin (o :: rest) k a :=
  ⟨v, .inl ⟨by simp [Region.wanted, hg], h⟩, hr⟩
end
end Go.Proofs.YtijcdikekgmfoaaGreatDoor

namespace Go.Proofs.YtijcdikekgmfoaaGreatDoor
open Go.RowKit

/-- A reader's bytes, and where they lie. -/
structure Rdr where
  a : Option Addr
  b : Nat
  o : Nat
  cap : Nat
  bs : List Int

/-- The reader lies in block B, p bytes on. -/
structure RdAt (w : World) (B : Nat) (R : Rdr) (p : Nat) : Prop where
  blk : w.heap[B]? = some (.cells #[.slice R.a R.bs.length R.cap, .int .i64 (p : Int)] 130 (0, 0))
  here : R.bs ≠ [] → R.a = some ⟨R.b, R.o, none⟩
  lt : R.bs ≠ [] → R.b < B
  cell : ∀ (i : Nat) (z : Int), R.bs[i]? = some z → w.cell? ⟨R.b, R.o + i, none⟩ = some (.int .u8 z)
  rng : ∀ (i : Nat) (z : Int), R.bs[i]? = some z → 0 ≤ z ∧ z < 256
  len : R.bs.length ≤ 2000

theorem RdAt.grown {w w' : World} {B : Nat} {R : Rdr} {p : Nat} {row : Option Nat} (h : RdAt w B R p) (hg : w.grownBy w' row) (h1 : row ≠ some B) (h2 : ∀ k, row = some k → B ≤ k) : RdAt w' B R p where
  blk := (hg.block B (lt_of_block h.blk) (fun e => h1 e.symm)).trans h.blk
  here := h.here
  lt := h.lt
  cell i z hi := by
    have hne : R.bs ≠ [] := by intro e; rw [e] at hi; simp at hi
    have hlt := h.lt hne
    have hB := lt_of_block h.blk
    rw [World.cell?_of_block (w := w) (hg.block R.b (by omega) (fun e => by have := h2 _ e.symm; omega))]
    exact h.cell i z hi
  rng := h.rng
  len := h.len
theorem RdAt.below {w w' : World} {B : Nat} {R : Rdr} {p : Nat} {k : Nat} (h : RdAt w B R p) (hb : Below k w w') (hk : B < k) : RdAt w' B R p where
  blk := (hb.block B hk).trans h.blk
  here := h.here
  lt := h.lt
  cell i z hi := by
    have hne : R.bs ≠ [] := by intro e; rw [e] at hi; simp at hi
    have hlt := h.lt hne
    rw [hb.cell (p := ⟨R.b, R.o + i, none⟩) (by show R.b < k; omega)]
    exact h.cell i z hi
  rng := h.rng
  len := h.len
theorem RdAt.next {w : World} {B : Nat} {R : Rdr} {p : Nat} (h : RdAt w B R p) : RdAt (w.setCell ⟨B, 1, none⟩ (.int .i64 ((p : Int) + 1))) B R (p + 1) where
  blk := by rw [blk2_set1 h.blk]; rfl
  here := h.here
  lt := h.lt
  cell i z hi := by
    have hne : R.bs ≠ [] := by intro e; rw [e] at hi; simp at hi
    have hlt := h.lt hne
    rw [World.cell?_setCell_other _ _ _ _ (by intro e; have := congrArg Addr.block e; simp at this; omega)]
    exact h.cell i z hi
  rng := h.rng
  len := h.len

theorem xor64_nat (a b : Nat) (ha : a < 9223372036854775808) (hb : b < 9223372036854775808) : bits .xor .i64 (a : Int) (b : Int) = ((a ^^^ b : Nat) : Int) := by
  have hx : a ^^^ b < 2 ^ 63 := Nat.xor_lt_two_pow (by omega) (by omega)
  have h1 : (BitVec.ofInt 64 (a : Int)).toNat = a := by
    rw [BitVec.ofInt_natCast, BitVec.toNat_ofNat]; exact Nat.mod_eq_of_lt (by omega)
  have h2 : (BitVec.ofInt 64 (b : Int)).toNat = b := by
    rw [BitVec.ofInt_natCast, BitVec.toNat_ofNat]; exact Nat.mod_eq_of_lt (by omega)
  show IntKind.i64.wrap ((BitVec.ofInt 64 (a : Int) ^^^ BitVec.ofInt 64 (b : Int)).toNat : Int) = _
  rw [BitVec.toNat_xor, h1, h2]
  simp only [IntKind.wrap, IntKind.bits, IntKind.signed]
  generalize a ^^^ b = c at *
  simp
  omega
/-- The mixture past a reader's end. -/
def mixX (z1 z2 : Int) (p N : Nat) : Int := wrap64 (z1 * 131 + z2 * 1117 + (p : Int) * 29 + wrap64 (wrap64 ((p : Int) / (N : Int)) * 53))
def mixV (x n : Int) : Int := (bits .xor .i64 x (wrap64 (x.tdiv 64))).tmod n
theorem mixX_range {z1 z2 : Int} {p N : Nat} (h1 : 0 ≤ z1 ∧ z1 < 256) (h2 : 0 ≤ z2 ∧ z2 < 256) (hp : p ≤ 1000000000) : 0 ≤ mixX z1 z2 p N ∧ mixX z1 z2 p N < 1000000000000 := by
  have h3 : (0 : Int) ≤ (p : Int) / (N : Int) := Int.ediv_nonneg (by omega) (by omega)
  have h4 : (p : Int) / (N : Int) ≤ (p : Int) := Int.ediv_le_self _ (by omega)
  unfold mixX
  generalize (p : Int) / (N : Int) = d at *
  have w1 : wrap64 d = d := by unfold wrap64; omega
  rw [w1]
  have w2 : wrap64 (d * 53) = d * 53 := by unfold wrap64; omega
  rw [w2]
  have w3 : wrap64 (z1 * 131 + z2 * 1117 + (p : Int) * 29 + d * 53) = z1 * 131 + z2 * 1117 + (p : Int) * 29 + d * 53 := by unfold wrap64; omega
  rw [w3]
  omega
theorem mixV_range {x n : Int} (h : 0 ≤ x ∧ x < 1000000000000) (hn : 1 ≤ n) : 0 ≤ mixV x n ∧ mixV x n < n := by
  obtain ⟨m, rfl⟩ := Int.eq_ofNat_of_zero_le h.1
  have h1 : (m : Int).tdiv 64 = ((m / 64 : Nat) : Int) := by rw [Int.tdiv_eq_ediv_of_nonneg (by omega)]; rfl
  have h2 : wrap64 ((m / 64 : Nat) : Int) = ((m / 64 : Nat) : Int) := by unfold wrap64; omega
  unfold mixV
  rw [h1, h2, xor64_nat m (m / 64) (by omega) (by omega)]
  rw [Int.tmod_eq_emod_of_nonneg (by omega)]
  exact ⟨Int.emod_nonneg _ (by omega), Int.emod_lt_of_pos _ (by omega)⟩
/-- What the reader picks out of n. -/
def pickV (R : Rdr) (p : Nat) (n : Int) : Int :=
  if n < 1 then 0 else if R.bs.length = 0 then 0 else if p < R.bs.length then R.bs.getD p 0 % n else mixV (mixX (R.bs.getD (p % R.bs.length) 0) (R.bs.getD ((p * 7 + 3) % R.bs.length) 0) p R.bs.length) n
theorem getD_get {l : List Int} {i : Nat} (h : i < l.length) : l[i]? = some (l.getD i 0) := by simp [List.getD, h]
theorem pickV_range {R : Rdr} {p : Nat} {n : Int} (hr : ∀ (i : Nat) (z : Int), R.bs[i]? = some z → 0 ≤ z ∧ z < 256) (hp : p ≤ 1000000000) (hn : 1 ≤ n) : 0 ≤ pickV R p n ∧ pickV R p n < n := by
  unfold pickV
  rw [if_neg (by omega)]
  by_cases h0 : R.bs.length = 0
  · rw [if_pos h0]; omega
  · rw [if_neg h0]
    by_cases h1 : p < R.bs.length
    · rw [if_pos h1]
      exact ⟨Int.emod_nonneg _ (by omega), Int.emod_lt_of_pos _ (by omega)⟩
    · rw [if_neg h1]
      have g1 : p % R.bs.length < R.bs.length := Nat.mod_lt _ (by omega)
      have g2 : (p * 7 + 3) % R.bs.length < R.bs.length := Nat.mod_lt _ (by omega)
      exact mixV_range (mixX_range (hr _ _ (getD_get g1)) (hr _ _ (getD_get g2)) hp) hn

set_option maxHeartbeats 1000000 in
theorem pick_none (B : Nat) (R : Rdr) (p : Nat) (n : Int) (w : World) (h : RdAt w B R p) (hp : p ≤ 1000000000) (hn : n < 1 ∨ R.bs = []) :
    Calls Tryz.prog 77 #[.pointer (some ⟨B, 0, none⟩), .int .i64 n] w fun e w' => e = .returned (.int .i64 0) ∧ w' = w.setCell ⟨B, 1, none⟩ (.int .i64 ((p : Int) + 1)) := by
  obtain ⟨c0, c1, cf⟩ := blk2 h.blk
  have b0 : (0 : Int) ≤ (p : Int) := by omega
  have b1 : (p : Int) ≤ 1000000000 := by omega
  by_cases h1 : n < 1
  · go_enter Tryz.func77, Tryz.ntmps77
    go_wp2
    go_ret
    exact ⟨rfl, rfl⟩
  · have h2 := hn.resolve_left h1
    have h3 : R.bs.length = 0 := by rw [h2]; rfl
    rw [h3] at c0
    go_enter Tryz.func77, Tryz.ntmps77
    go_wp2
    go_ret
    exact ⟨rfl, rfl⟩
set_option maxHeartbeats 1000000 in
theorem pick_near (B : Nat) (R : Rdr) (p : Nat) (n z : Int) (w : World) (h : RdAt w B R p) (hp : p ≤ 1000000000) (hn : ¬ n < 1) (hz : R.bs[p]? = some z) :
    Calls Tryz.prog 77 #[.pointer (some ⟨B, 0, none⟩), .int .i64 n] w fun e w' => e = .returned (.int .i64 (z % n)) ∧ w' = w.setCell ⟨B, 1, none⟩ (.int .i64 ((p : Int) + 1)) := by
  obtain ⟨c0, c1, cf⟩ := blk2 h.blk
  have b0 : (0 : Int) ≤ (p : Int) := by omega
  have b1 : (p : Int) ≤ 1000000000 := by omega
  have hpl : p < R.bs.length := (List.getElem?_eq_some_iff.1 hz).1
  have b2 : (p : Int) < (R.bs.length : Int) := by omega
  have hne : R.bs ≠ [] := by intro e; rw [e] at hz; simp at hz
  have b3 : ((R.bs.length : Int) == 0) = false := beq_eq_false_iff_ne.2 (by omega)
  have c2 := h.cell p z hz
  have cl := h.len
  obtain ⟨z0, z1⟩ := h.rng p z hz
  have e1 := h.here hne
  rw [e1] at c0
  have hlt := h.lt hne
  have hbB : R.b ≠ B := by omega
  go_enter Tryz.func77, Tryz.ntmps77
  go_wp2
  go_ret
  exact ⟨rfl, rfl⟩
set_option maxHeartbeats 4000000 in
theorem pick_far (B : Nat) (R : Rdr) (p : Nat) (n z1 z2 : Int) (w : World) (h : RdAt w B R p) (hp : p ≤ 1000000000) (hn : ¬ n < 1) (hne : R.bs ≠ []) (hz : R.bs.length ≤ p)
    (h1 : R.bs[p % R.bs.length]? = some z1) (h2 : R.bs[(p * 7 + 3) % R.bs.length]? = some z2) :
    Calls Tryz.prog 77 #[.pointer (some ⟨B, 0, none⟩), .int .i64 n] w fun e w' => e = .returned (.int .i64 (mixV (mixX z1 z2 p R.bs.length) n)) ∧ ∃ nq, w' = (w.setCell ⟨B, 1, none⟩ (.int .i64 ((p : Int) + 1))).drewN nq := by
  obtain ⟨c0, c1, cf⟩ := blk2 h.blk
  have b0 : (0 : Int) ≤ (p : Int) := by omega
  have b1 : (p : Int) ≤ 1000000000 := by omega
  have hN : 0 < R.bs.length := List.length_pos_iff.2 hne
  have cl := h.len
  have c2 := h.cell _ z1 h1
  have c3 := h.cell _ z2 h2
  obtain ⟨x0, x1⟩ := h.rng _ z1 h1
  obtain ⟨y0, y1⟩ := h.rng _ z2 h2
  have e1 := h.here hne
  rw [e1] at c0
  have hlt := h.lt hne
  have hbB : R.b ≠ B := by omega
  clear h1 h2 hne e1 h
  generalize hNN : R.bs.length = N at *
  have b2 : ¬ (p : Int) < (N : Int) := by omega
  have b3 : ((N : Int) == 0) = false := beq_eq_false_iff_ne.2 (by omega)
  have b4 : (0 : Int) < (N : Int) := by omega
  have b5 : (N : Int) ≤ 2000 := by omega
  have d1 : (0 : Int) ≤ (p : Int) % (N : Int) := Int.emod_nonneg _ (by omega)
  have d2 : (p : Int) % (N : Int) < (N : Int) := Int.emod_lt_of_pos _ b4
  have d3 : (0 : Int) ≤ ((p : Int) * 7 + 3) % (N : Int) := Int.emod_nonneg _ (by omega)
  have d4 : ((p : Int) * 7 + 3) % (N : Int) < (N : Int) := Int.emod_lt_of_pos _ b4
  go_enter Tryz.func77, Tryz.ntmps77
  go_wp2
  go_quiet (fail)
  go_wp2
  go_ret
  exact ⟨rfl, nq, rfl⟩
theorem grown_drewN {a w : World} {row : Option Nat} (h : a.grownBy w row) (n : Nat) : a.grownBy (w.drewN n) row := ⟨h.os, h.tape, h.output, h.size, h.block⟩
theorem RdAt.drewN {w : World} {B : Nat} {R : Rdr} {p : Nat} (h : RdAt w B R p) (n : Nat) : RdAt (w.drewN n) B R p :=
  h.below (k := B + 1) ⟨rfl, rfl, rfl, Nat.le_refl _, fun _ _ => rfl⟩ (Nat.lt_succ_self _)

/-- **pick**: what it picks hangs on the bytes and on how many were picked; nothing but the count is turned. -/
theorem pick_any (B : Nat) (R : Rdr) (p : Nat) (n : Int) (w : World) (h : RdAt w B R p) (hp : p ≤ 1000000000) :
    Calls Tryz.prog 77 #[.pointer (some ⟨B, 0, none⟩), .int .i64 n] w fun e w' => e = .returned (.int .i64 (pickV R p n)) ∧ RdAt w' B R (p + 1) ∧ w.grownBy w' (some B) ∧ w'.heap.size = w.heap.size := by
  have hs : (w.setCell ⟨B, 1, none⟩ (.int .i64 ((p : Int) + 1))).heap.size = w.heap.size := by simp [World.setCell]
  have hgr := grown_set w ⟨B, 1, none⟩ (.int .i64 ((p : Int) + 1))
  by_cases h1 : n < 1
  · have e : pickV R p n = 0 := by unfold pickV; rw [if_pos h1]
    rw [e]
    refine (pick_none B R p n w h hp (.inl h1)).mono ?_
    rintro e w' ⟨rfl, rfl⟩
    exact ⟨rfl, h.next, hgr, hs⟩
  · by_cases h2 : R.bs.length = 0
    · have e : pickV R p n = 0 := by unfold pickV; rw [if_neg h1, if_pos h2]
      rw [e]
      refine (pick_none B R p n w h hp (.inr (List.eq_nil_of_length_eq_zero h2))).mono ?_
      rintro e w' ⟨rfl, rfl⟩
      exact ⟨rfl, h.next, hgr, hs⟩
    · by_cases h3 : p < R.bs.length
      · have e : pickV R p n = R.bs.getD p 0 % n := by unfold pickV; rw [if_neg h1, if_neg h2, if_pos h3]
        rw [e]
        refine (pick_near B R p n _ w h hp h1 (getD_get h3)).mono ?_
        rintro e w' ⟨rfl, rfl⟩
        exact ⟨rfl, h.next, hgr, hs⟩
      · have e : pickV R p n = mixV (mixX (R.bs.getD (p % R.bs.length) 0) (R.bs.getD ((p * 7 + 3) % R.bs.length) 0) p R.bs.length) n := by unfold pickV; rw [if_neg h1, if_neg h2, if_neg h3]
        rw [e]
        refine (pick_far B R p n _ _ w h hp h1 (by intro e; rw [e] at h2; exact h2 rfl) (by omega) (getD_get (Nat.mod_lt _ (by omega))) (getD_get (Nat.mod_lt _ (by omega)))).mono ?_
        rintro e w' ⟨rfl, nq, rfl⟩
        exact ⟨rfl, h.next.drewN nq, grown_drewN hgr nq, hs⟩
end Go.Proofs.YtijcdikekgmfoaaGreatDoor

namespace Go.Proofs.YtijcdikekgmfoaaGreatDoor
open Go.RowKit
section
variable {Q : Exit → Act → World → Prop}

/-- Nothing is left. -/
theorem any_end0 {l : List Oper} {a : Act} {w : World} {L1 : Array Bool} (he : Region.ready .any l.toArray L1 = []) (h : Q .normal a w) : wpAny Tryz.prog .any l.toArray Q (l.length - l.length) L1 a w := by
  rw [Nat.sub_self]
  exact ⟨he, h⟩
/-- One operation is left. -/
theorem any_end1 {ops : Array Oper} {N m : Nat} {a : Act} {w : World} {L1 : Array Bool} (ol : Oper) (hm : m = 1) (r0 : Region.ready .any ops L1 = [N]) (r1 : Region.ready .any ops (L1.setIfInBounds N true) = []) (hl : ops[N]? = some ol) (hgl : ol.guard = none)
    (h : ol.wp Tryz.prog a w (fun a3 w'' => Q .normal a3 w'') Q) : wpAny Tryz.prog .any ops Q m L1 a w := by
  subst hm
  refine ⟨fun e => (by rw [r0] at e; cases e), fun i hi => ?_⟩
  rw [r0] at hi
  obtain rfl : i = N := by simpa using hi
  refine wpOp_step (o := ol) hl (fun K' hK => ?_)
  rw [if_pos (by simp [Region.wanted, hgl])]
  exact Oper.wp_mono (fun a3 w'' h'' => hK _ _ ⟨r1, h''⟩) h
/-- One operation, and more. -/
theorem any_end2 {ops : Array Oper} {N m : Nat} {a : Act} {w : World} {L1 : Array Bool} (ol : Oper) (m' : Nat) (hm : m = m' + 1) (r0 : Region.ready .any ops L1 = [N]) (hl : ops[N]? = some ol) (hgl : ol.guard = none)
    (h : ol.wp Tryz.prog a w (wpAny Tryz.prog .any ops Q m' (L1.setIfInBounds N true)) Q) : wpAny Tryz.prog .any ops Q m L1 a w := by
  subst hm
  refine ⟨fun e => (by rw [r0] at e; cases e), fun i hi => ?_⟩
  rw [r0] at hi
  obtain rfl : i = N := by simpa using hi
  refine wpOp_step (o := ol) hl (fun K' hK => ?_)
  rw [if_pos (by simp [Region.wanted, hgl])]
  exact Oper.wp_mono (fun a3 w'' h'' => hK _ _ h'') h
end
end Go.Proofs.YtijcdikekgmfoaaGreatDoor

namespace Go.Proofs.YtijcdikekgmfoaaGreatDoor
open Go.RowKit

/-- The worlds in which all that lay in w, but block B, lies as it lay. -/
structure ClsR (w : World) (B : Nat) where
  it : World
  same : w.grownBy it (some B)
theorem ClsR.any (w : World) (B : Nat) : Nonempty (ClsR w B) := ⟨⟨w, ⟨rfl, rfl, rfl, Nat.le_refl _, fun _ _ _ => rfl⟩⟩⟩
theorem ClsR.cell {w : World} {B b : Nat} (hb : b < w.heap.size) (hne : b ≠ B) (u : ClsR w B) (o : Nat) : u.it.cell? ⟨b, o, none⟩ = w.cell? ⟨b, o, none⟩ :=
  World.cell?_of_block (w := w) (u.same.block b hb (fun e => hne (by cases e; rfl)))
theorem grown_refl (w : World) (row : Option Nat) : w.grownBy w row := ⟨rfl, rfl, rfl, Nat.le_refl _, fun _ _ _ => rfl⟩
theorem grown_drew {a w : World} {row : Option Nat} (h : a.grownBy w row) : a.grownBy w.drew row := ⟨h.os, h.tape, h.output, h.size, h.block⟩

/-- What may be there while the region runs: op c has come up or not. -/
structure PickC (w : World) (B : Nat) (R : Rdr) (p c : Nat) (L : Array Bool) (w' : World) : Prop where
  gr : w.grownBy w' (some B)
  sz : w'.heap.size = w.heap.size
  rd : RdAt w' B R (if L.getD c false then p + 1 else p)
theorem PickC.other {w w' : World} {B : Nat} {R : Rdr} {p c j : Nat} {L : Array Bool} (h : PickC w B R p c L w') (hj : j ≠ c) : PickC w B R p c (L.setIfInBounds j true) w' :=
  ⟨h.gr, h.sz, by rw [getD_set_ne false hj]; exact h.rd⟩


section
variable {Q : Exit → Act → World → Prop} {w : World} {B : Nat} {R : Rdr} {p : Nat} {n : Int} {c : Nat} {ops : Array Oper} {fin : Act → Prop}

/-- The region's operations up to N, with one that picks, at c. -/
theorem region_picks {id : Nat} {a : Act} {l : List Oper} (c N : Nat) (L0 L1 : Array Bool) (hRd : RdAt w B R p) (hm : Tryz.prog.follows .mixedOrders = true) (hs : Region.noSelect l.toArray = true) (hN : N ≤ l.length) (hcN : c < N)
    (hL0 : Array.replicate l.length false = L0) (hL1 : listN L0 0 N = L1) (hc1 : L1.getD c false = true) (hlex : lexM .any l.toArray N N 0 L0 = true)
    (h : wpMoves Tryz.prog .any l.toArray (PickC w B R p c) (fun a' => ∀ w', w.grownBy w' (some B) → w'.heap.size = w.heap.size → RdAt w' B R (p + 1) → wpAny Tryz.prog .any l.toArray Q (l.length - N) L1 a' w') (l.take N) 0 a) :
    (Code.region id l.toArray true).wp Tryz.prog Q a w := by
  have hL0c : L0.getD c false = false := by
    rw [← hL0]
    simp [show c < l.length by omega]
  refine wp_region_moves_at (C := PickC w B R p c) N L0 L1 hm hs (by simpa using hN) (by simpa using hL0) hL1 hlex ⟨grown_drew (grown_refl _ _), rfl, by rw [hL0c]; exact hRd.below (k := B + 1) ⟨rfl, rfl, rfl, Nat.le_refl _, fun _ _ => rfl⟩ (Nat.lt_succ_self _)⟩ ?_
  refine wpMoves_mono (fun a' h' w' hC => ?_) _ _ _ h
  have hrd := hC.rd
  rw [hc1] at hrd
  have h4 := h' w' hC.gr hC.sz (by simpa using hrd)
  simpa using h4

/-- m operations that only read. -/
theorem pc_quiet {l : List Oper} {k : Nat} {a : Act} (m : Nat) (hp : ((l.take m).all fun o => plainOp o.op) = true) (hk : c < k ∨ k + m ≤ c)
    (h : wpQuiet Tryz.prog ops (fun w' => ∃ u : ClsR w B, w' = u.it) (fun a' => wpMoves Tryz.prog .any ops (PickC w B R p c) fin (l.drop m) (k + (l.take m).length) a') (l.take m) a) : wpMoves Tryz.prog .any ops (PickC w B R p c) fin l k a := by
  have hU : ∀ (L : Array Bool) (w' : World), (∀ j ∈ ([] : List Nat), L.getD j false = true) → PickC w B R p c L w' → ∃ u : ClsR w B, w' = u.it := fun L w' _ h => ⟨⟨w', h.gr⟩, rfl⟩
  have hlm : (l.take m).length ≤ m := by simp; omega
  rw [← List.take_append_drop m l]
  exact moves_quiet (U := fun w' => ∃ u : ClsR w B, w' = u.it) [] hU (l.take m) k a hp (by simp) (fun j h1 h2 L w' hC => hC.other (by omega)) h

/-- The one that picks. -/
theorem pc_pick {rest : List Oper} {oc : Oper} {a : Act} (hp : p ≤ 1000000000) (hg : oc.guard = none) (n : Int)
    (h1 : ∀ W, (execOp a.eval oc).run Tryz.prog W = .ok (.enter 77 #[.pointer (some ⟨B, 0, none⟩), .int .i64 n]) W)
    (h2 : wpMoves Tryz.prog .any ops (PickC w B R p c) fin rest (c + 1) (a.put oc.dst (.int .i64 (pickV R p n)))) : wpMoves Tryz.prog .any ops (PickC w B R p c) fin (oc :: rest) c a := by
  refine moves_one (.int .i64 (pickV R p n)) hg (fun L w' _ hr hC => ?_) h2
  rw [h1]
  have hun : L.getD c false = false := by
    have := (mem_ready.1 hr).1
    rcases Nat.lt_or_ge c L.size with h' | h'
    · simp [h'] at this ⊢; exact this
    · simp [Array.getElem?_eq_none h'] at this ⊢
  have hcs : c < L.size := by
    have := (mem_ready.1 hr).1
    rcases Nat.lt_or_ge c L.size with h' | h'
    · exact h'
    · simp [Array.getElem?_eq_none h'] at this
  have hrd := hC.rd
  rw [hun] at hrd
  refine (pick_any B R p n w' hrd hp).mono ?_
  rintro e w'' ⟨rfl, g1, g2, g3⟩
  exact ⟨rfl, grown_over2 hC.gr g2, g3.trans hC.sz, by simp [hcs]; exact g1⟩

/-- A call that turns nothing. -/
theorem pc_pure {rest : List Oper} {o : Oper} {a : Act} {k : Nat} {f : FuncId} {args : Array Value} (v : Value) (hg : o.guard = none) (hk : k ≠ c)
    (h1 : ∀ W, (execOp a.eval o).run Tryz.prog W = .ok (.enter f args) W) (hf : ∀ W, Calls Tryz.prog f args W fun e w' => e = .returned v ∧ w' = W)
    (h2 : wpMoves Tryz.prog .any ops (PickC w B R p c) fin rest (k + 1) (a.put o.dst v)) : wpMoves Tryz.prog .any ops (PickC w B R p c) fin (o :: rest) k a := by
  refine moves_one v hg (fun L w' _ hr hC => ?_) h2
  rw [h1]
  refine (hf w').mono ?_
  rintro e w'' ⟨rfl, rfl⟩
  exact ⟨rfl, hC.other hk⟩

end
end Go.Proofs.YtijcdikekgmfoaaGreatDoor

namespace Go.Proofs.YtijcdikekgmfoaaGreatDoor
open Go.RowKit

theorem RdAt.alloc {w : World} {B : Nat} {R : Rdr} {p : Nat} (h : RdAt w B R p) (ob : Obj) : RdAt (w.alloc ob) B R p :=
  h.below (k := w.heap.size) ((Below.refl _ _).alloc (Nat.le_refl _) ob) (lt_of_block h.blk)

def lessV (a b : Int) : Int := if a < b then 0 else wrap64 (a - b)
theorem less_any (a b : Int) (w : World) : Calls Tryz.prog 111 #[.int .i64 a, .int .i64 b] w fun e w' => e = .returned (.int .i64 (lessV a b)) ∧ w' = w := by
  by_cases h : a < b
  · have HE : Hid (lessV a b = 0) := by show _ = _; unfold lessV; rw [if_pos h]
    go_enter Tryz.func111, Tryz.ntmps111
    go_wp2
    go_ret
    exact ⟨by rw [HE.out]; rfl, rfl⟩
  · have HE : Hid (lessV a b = wrap64 (a - b)) := by show _ = _; unfold lessV; rw [if_neg h]
    go_enter Tryz.func111, Tryz.ntmps111
    go_wp2
    go_ret
    exact ⟨by rw [HE.out]; rfl, rfl⟩

/-- The reader, p bytes on, in a world in which all that lay in w, but the reader, lies as it lay. -/
structure RdW (w w' : World) (B : Nat) (R : Rdr) (p : Nat) : Prop where
  lt : B < w.heap.size
  rd : RdAt w' B R p
  gr : w.grownBy w' (some B)
section
variable {w w' w'' : World} {B : Nat} {R : Rdr} {p : Nat}
theorem RdW.refl (h : RdAt w B R p) : RdW w w B R p := ⟨lt_of_block h.blk, h, grown_refl _ _⟩
theorem RdW.size (h : RdW w w' B R p) : w.heap.size ≤ w'.heap.size := h.gr.size
theorem RdW.set (h : RdW w w' B R p) {k : Nat} (hk : w.heap.size ≤ k) (j : Nat) (v : Value) : RdW w (w'.setCell ⟨k, j, none⟩ v) B R p := by
  have := h.lt
  refine ⟨h.lt, h.rd.grown (grown_set w' ⟨k, j, none⟩ v) (by simp; omega) (fun i e => by cases e; show B ≤ k; omega), ⟨h.gr.os, h.gr.tape, h.gr.output, by simpa [World.setCell] using h.gr.size, fun i hi hne => ?_⟩⟩
  exact (heap_setCell_other w' ⟨k, j, none⟩ i v (by show i ≠ k; omega)).trans (h.gr.block i hi hne)
theorem RdW.grown (h : RdW w w' B R p) {row : Option Nat} (hg : w'.grownBy w'' row) (hr : ∀ k, row = some k → w.heap.size ≤ k) : RdW w w'' B R p := by
  have hl := h.lt
  have hs := h.gr.size
  refine ⟨h.lt, h.rd.grown hg (fun e => by have := hr _ e; omega) (fun k e => by have := hr _ e; omega), ⟨hg.os.trans h.gr.os, hg.tape.trans h.gr.tape, hg.output.trans h.gr.output, Nat.le_trans hs hg.size, fun i hi hne => ?_⟩⟩
  exact (hg.block i (by omega) (fun e => by have := hr i e.symm; omega)).trans (h.gr.block i hi hne)
theorem RdW.below (h : RdW w w' B R p) (hb : Below w'.heap.size w' w'') : RdW w w'' B R p :=
  h.grown (row := none) ⟨hb.os, hb.tape, hb.output, hb.size, fun k hk _ => hb.block k hk⟩ (fun k e => by cases e)
theorem RdW.alloc (h : RdW w w' B R p) (ob : Obj) : RdW w (w'.alloc ob) B R p := h.below ((Below.refl _ _).alloc (Nat.le_refl _) ob)
theorem RdW.drew (h : RdW w w' B R p) : RdW w w'.drew B R p := h.below (Below.refl _ _).drew
theorem RdW.more (h : RdW w w' B R p) {p' : Nat} (hr : RdAt w'' B R p') (hg : w'.grownBy w'' (some B)) : RdW w w'' B R p' := ⟨h.lt, hr, grown_over2 h.gr hg⟩
theorem RdW.keep (_h : RdW w w' B R p) {w0 : World} {b : Nat} {ob : Obj} (hb : w'.heap[b]? = some ob) (hne : b ≠ B) (hg : w'.grownBy w0 (some B)) : w0.heap[b]? = some ob :=
  (hg.block b (lt_of_block hb) (fun e => hne (by cases e; rfl))).trans hb
end

set_option maxRecDepth 20000 in
set_option maxHeartbeats 1000000 in
theorem kind_draw (B : Nat) (R : Rdr) (p : Nat) (w : World) (h : RdAt w B R p) (hp : p ≤ 999999000) :
    Calls Tryz.prog 110 #[.pointer (some ⟨B, 0, none⟩)] w fun e w' => ∃ q s, e = .returned (.agg #[.int .i64 q, .int .i64 s]) ∧ RdW w w' B R (p + 3) := by
  have hB := lt_of_block h.blk
  have R0 := (RdW.refl h).alloc (.cells #[.int .i64 0, .int .i64 0] 24)
  go_enter Tryz.func110, Tryz.ntmps110
  go_wp2_with fail
  refine (pick_any B R p 3 _ R0.rd (by omega)).mono ?_
  rintro e w1 ⟨rfl, r1, g1, s1⟩
  have R1 := R0.more r1 g1
  have z1 : w1.heap.size = w.heap.size + 1 := by rw [s1]; simp
  have b1 := R0.keep (heap_alloc_new w (.cells #[.int .i64 0, .int .i64 0] 24)) (by omega) g1
  clear g1 s1 r1 R0
  generalize pickV R p 3 = n1
  go_wp2
  generalize wrap64 (1 + n1) = x
  have R2 := R1.alloc (.cells #[.int .i64 x, .int .i64 0] 24)
  have bk : (w1.alloc (.cells #[.int .i64 x, .int .i64 0] 24)).heap[w.heap.size + 1]? = some (.cells #[.int .i64 x, .int .i64 0] 24 (0, 0)) := by rw [← z1]; exact heap_alloc_new w1 _
  have bb := (Below.heap_alloc w1 (.cells #[.int .i64 x, .int .i64 0] 24) _ (by omega)).trans b1
  clear b1 z1 R1
  generalize (w1.alloc (.cells #[.int .i64 x, .int .i64 0] 24)) = W at *
  obtain ⟨k0, k1, kf⟩ := blk2 bk
  have q0 : ∀ u : ClsR W B, u.it.cell? ⟨w.heap.size + 1, 0, none⟩ = some (.int .i64 x) := fun u => (ClsR.cell (lt_of_block bk) (by omega) u 0).trans k0
  have qn := ClsR.any W B
  refine region_picks 3 6 _ _ R2.rd (by kernel_rfl) (by kernel_rfl) (by decide) (by decide) rfl rfl rfl (by kernel_rfl) ?_
  refine pc_quiet 3 rfl (by omega) ?_
  simp only [List.take_succ_cons, List.take_zero]
  repeat (go_big_quiet_step (fail))
  refine wpQuiet_nil ?_
  simp only [List.drop_succ_cons, List.drop_zero]
  refine pc_pick (by omega) rfl 4 (fun W' => by go_simp) ?_
  generalize pickV R (p + 1) 4 = n2
  simp only [Act.put, List.setIfInBounds_toArray, List.set_cons_succ, List.set_cons_zero]
  refine pc_quiet 2 rfl (by omega) ?_
  simp only [List.take_succ_cons, List.take_zero]
  repeat (go_big_quiet_step (fail))
  refine wpQuiet_nil ?_
  refine wpMoves_nil ?_
  intro w2 g2 s2 r3
  refine any_end1 (N := 6) _ rfl (by kernel_rfl) (by kernel_rfl) rfl rfl ?_
  have R3 := R2.more r3 g2
  have bk2 := R2.keep bk (by omega) g2
  have bb2 := R2.keep bb (by omega) g2
  clear q0 qn k0 k1 kf bk bb R2 g2 s2 r3
  generalize wrap64 (x + n2) = y
  obtain ⟨k0, k1, kf⟩ := blk2 bk2
  unfold Oper.wp
  go_simp
  have R4 := R3.set (show w.heap.size ≤ w.heap.size + 1 by omega) 1 (.int .i64 y)
  have bk3 := blk2_set1 bk2 (.int .i64 y)
  have bb3 := (heap_setCell_other w2 ⟨w.heap.size + 1, 1, none⟩ w.heap.size (.int .i64 y) (by simp)).trans bb2
  generalize w2.setCell ⟨w.heap.size + 1, 1, none⟩ (.int .i64 y) = w3 at *
  clear k0 k1 kf bk2 bb2 R3
  go_wp2_with fail
  refine (pick_any B R (p + 2) 16 _ R4.rd (by omega)).mono ?_
  rintro e w4 ⟨rfl, r5, g5, s5⟩
  have R5 := R4.more r5 g5
  have bk5 := R4.keep bk3 (by omega) g5
  have bb5 := R4.keep bb3 (by omega) g5
  clear bk3 bb3 R4 g5 s5 r5
  generalize pickV R (p + 2) 16 = n3
  obtain ⟨k0, k1, kf⟩ := blk2 bk5
  obtain ⟨m0, m1, mf⟩ := blk2 bb5
  by_cases h0 : n3 = 0
  · subst h0
    go_wp2
    refine bodyPost_ret (v := .agg #[.int .i64 x, .int .i64 50]) (by simp [results, Tryz.results110, go_sem, *]) rfl ⟨x, 50, rfl, ?_⟩
    exact ((R5.set (by omega) 1 _).set (Nat.le_refl _) 0 _).set (Nat.le_refl _) 1 _
  · have h1 : (n3 == 0) = false := beq_eq_false_iff_ne.2 h0
    go_wp2
    refine bodyPost_ret (v := .agg #[.int .i64 x, .int .i64 y]) (by simp [results, Tryz.results110, go_sem, *]) rfl ⟨x, y, rfl, ?_⟩
    exact (R5.set (Nat.le_refl _) 0 _).set (Nat.le_refl _) 1 _

set_option maxRecDepth 20000 in
set_option maxHeartbeats 1000000 in
theorem step_draw (B : Nat) (R : Rdr) (p : Nat) (x y : Int) (w : World) (h : RdAt w B R p) (hp : p ≤ 999999000) :
    Calls Tryz.prog 109 #[.pointer (some ⟨B, 0, none⟩), .int .i64 x, .int .i64 y] w fun e w' => ∃ c d p', e = .returned (.tuple #[.int .i64 c, .int .i64 d]) ∧ p' ≤ p + 40 ∧ RdW w w' B R p' := by
  have hB := lt_of_block h.blk
  go_enter Tryz.func109, Tryz.ntmps109
  go_wp2
  go_loopw [8] (fun u wr => ∃ k p' : Nat, k ≤ 20 ∧ u = .int .i64 k ∧ p' ≤ p + 2 * k ∧ RdW w wr B R p') (fun u _ => 20 - (intOf u).toNat)
  case atStart => exact ⟨0, p, by omega, rfl, by omega, RdW.refl h⟩
  case round =>
    obtain ⟨k, p', hk, rfl, hp', R1⟩ := hrel
    by_cases hlt : k < 20
    · have k0 : (0 : Int) ≤ (k : Int) := by omega
      have k1 : (k : Int) < 20 := by omega
      go_wp2_with fail
      refine (pick_any B R p' 3 _ R1.rd (by omega)).mono ?_
      rintro e w2 ⟨rfl, r2, g2, s2⟩
      have R2 := R1.more r2 g2
      clear r2 g2 s2
      generalize pickV R p' 3 = n1
      go_wp2_with fail
      generalize wrap64 (wrap64 (x + n1) - 1) = c
      refine (pick_any B R (p' + 1) 3 _ R2.rd (by omega)).mono ?_
      rintro e w3 ⟨rfl, r3, g3, s3⟩
      have R3 := R2.more r3 g3
      clear r3 g3 s3 R1 R2
      generalize pickV R (p' + 1) 3 = n2
      have HR : Hid (RdW w w3 B R (p' + 2)) := R3
      by_cases e1 : c = x
      · subst e1
        have f1 : (c != c) = false := by simp
        by_cases e2 : wrap64 (wrap64 (y + n2) - 1) = y
        · have f2 : (wrap64 (wrap64 (y + n2) - 1) != y) = false := by simp [e2]
          clear e2
          go_wp2
          go_roundw
          case rel => exact ⟨k + 1, p' + 2, by omega, rfl, by omega, HR.out⟩
          case measure => simp [intOf]; omega
        · have f2 : (wrap64 (wrap64 (y + n2) - 1) != y) = true := by simp [e2]
          clear e2
          go_wp2_with fail
          refine (in_any c 0 15 _).mono ?_
          rintro e wx ⟨rfl, rfl⟩
          cases h3 : inB c 0 15 with
          | false =>
            go_wp2
            go_roundw
            case rel => exact ⟨k + 1, p' + 2, by omega, rfl, by omega, HR.out⟩
            case measure => simp [intOf]; omega
          | true =>
            go_wp2_with fail
            refine (in_any _ 0 15 _).mono ?_
            rintro e wx ⟨rfl, rfl⟩
            cases h4 : inB (wrap64 (wrap64 (y + n2) - 1)) 0 15 with
            | false =>
              go_wp2
              go_roundw
              case rel => exact ⟨k + 1, p' + 2, by omega, rfl, by omega, HR.out⟩
              case measure => simp [intOf]; omega
            | true =>
              go_wp2
              go_ret2
              exact ⟨_, _, p' + 2, rfl, by omega, HR.out⟩
      · have f1 : (c != x) = true := by simp [e1]
        go_wp2_with fail
        refine (in_any c 0 15 _).mono ?_
        rintro e wx ⟨rfl, rfl⟩
        cases h3 : inB c 0 15 with
        | false =>
          go_wp2
          go_roundw
          case rel => exact ⟨k + 1, p' + 2, by omega, rfl, by omega, HR.out⟩
          case measure => simp [intOf]; omega
        | true =>
          go_wp2_with fail
          refine (in_any _ 0 15 _).mono ?_
          rintro e wx ⟨rfl, rfl⟩
          cases h4 : inB (wrap64 (wrap64 (y + n2) - 1)) 0 15 with
          | false =>
            go_wp2
            go_roundw
            case rel => exact ⟨k + 1, p' + 2, by omega, rfl, by omega, HR.out⟩
            case measure => simp [intOf]; omega
          | true =>
            go_wp2
            go_ret2
            exact ⟨_, _, p' + 2, rfl, by omega, HR.out⟩
    · have hk20 : k = 20 := by omega
      subst hk20
      by_cases hx : 0 < x
      · go_wp2
        go_ret2
        exact ⟨_, _, p', rfl, by omega, R1⟩
      · go_wp2
        go_ret2
        exact ⟨⟨_, _, rfl⟩, p', by omega, R1⟩
end Go.Proofs.YtijcdikekgmfoaaGreatDoor

namespace Go.Proofs.YtijcdikekgmfoaaGreatDoor
open Go.RowKit

/-- Ticks that keep to the windows and the stays, from a place to another. -/
def Keeps (q s fr b : Int) (l : List Stp) (z : Nat → Int) (i j : Nat) : Prop :=
  (∀ k, i ≤ k → k ≤ j → lowB fr l k ≤ z k ∧ z k ≤ highB b l k) ∧ ∀ k, i ≤ k → k < j → q ≤ z (k + 1) - z k ∧ z (k + 1) - z k ≤ mostB s l k
def inP (t : Int) (x : Int × Int) : Prop := x.1 ≤ t ∧ t ≤ x.2

section
variable {q s fr b : Int} {l : List Stp}

theorem fwd_win (k : Nat) {t : Int} (h : inP t (fwdS q s fr b l k)) : lowB fr l k ≤ t ∧ t ≤ highB b l k := by
  cases k with
  | zero => exact h
  | succ m =>
    simp only [inP, fwdS] at h
    have h1 := mxB_le (lowB fr l (m + 1)) ((fwdS q s fr b l m).1 + q)
    have h2 := mnB_le (highB b l (m + 1)) ((fwdS q s fr b l m).2 + mostB s l m)
    omega

theorem fwd_sound {z : Nat → Int} {n : Nat} (h : Keeps q s fr b l z 0 n) : ∀ k, k ≤ n → inP (z k) (fwdS q s fr b l k)
  | 0, hk => h.1 0 (Nat.le_refl _) hk
  | k + 1, hk => by
    have ih := fwd_sound h k (by omega)
    have h1 := h.1 (k + 1) (by omega) hk
    have h2 := h.2 k (by omega) (by omega)
    have m1 := mxB_le (lowB fr l (k + 1)) ((fwdS q s fr b l k).1 + q)
    have m2 := mnB_le (highB b l (k + 1)) ((fwdS q s fr b l k).2 + mostB s l k)
    simp only [inP, fwdS] at *
    omega

theorem fwd_complete (hm : ∀ k, q ≤ mostB s l k) : ∀ (k : Nat) (t : Int), fwdTo q s fr b l (k + 1) = true → inP t (fwdS q s fr b l k) → ∃ z, Keeps q s fr b l z 0 k ∧ z k = t
  | 0, t, _, ht => ⟨fun _ => t, ⟨fun k _ hk => by obtain rfl : k = 0 := by omega
                                                  exact ht, fun k _ hk => by omega⟩, rfl⟩
  | k + 1, t, hf, ht => by
    have hf' : fwdTo q s fr b l (k + 1) = true := by
      simp only [fwdTo, List.all_eq_true, List.mem_range] at hf ⊢
      exact fun i hi => hf i (by omega)
    have h0 := fwdTo_at hf (show k < k + 1 + 1 by omega)
    have hw := fwd_win (k + 1) ht
    have hq := hm k
    have m1 := mxB_le (lowB fr l (k + 1)) ((fwdS q s fr b l k).1 + q)
    have m2 := mnB_le (highB b l (k + 1)) ((fwdS q s fr b l k).2 + mostB s l k)
    simp only [inP, fwdS] at ht
    obtain ⟨u, hu1, hu2⟩ : ∃ u, inP u (fwdS q s fr b l k) ∧ q ≤ t - u ∧ t - u ≤ mostB s l k := by
      by_cases c : (fwdS q s fr b l k).1 ≤ t - mostB s l k
      · exact ⟨t - mostB s l k, ⟨c, by omega⟩, by omega⟩
      · exact ⟨(fwdS q s fr b l k).1, ⟨Int.le_refl _, h0⟩, by omega⟩
    obtain ⟨z, hz, hzk⟩ := fwd_complete hm k u hf' hu1
    refine ⟨fun i => if i ≤ k then z i else t, ⟨fun i _ hi => ?_, fun i _ hi => ?_⟩, if_neg (by omega)⟩
    · by_cases c : i ≤ k
      · simp only [c, if_true]; exact hz.1 i (by omega) c
      · simp only [c, if_false]
        obtain rfl : i = k + 1 := by omega
        exact hw
    · by_cases c : i + 1 ≤ k
      · have c' : i ≤ k := by omega
        simp only [c, c', if_true]; exact hz.2 i (by omega) (by omega)
      · obtain rfl : i = k := by omega
        simp only [Nat.le_refl, if_true, show ¬ i + 1 ≤ i by omega, if_false]
        rw [hzk]; exact hu2

theorem bwd_sub (n : Nat) (j : Nat) {t : Int} (h : inP t (bwdS q s fr b l n j)) : inP t (fwdS q s fr b l (n - j)) := by
  cases j with
  | zero => exact h
  | succ m =>
    simp only [inP, bwdS] at *
    have h1 := mxB_le (fwdS q s fr b l (n - (m + 1))).1 ((bwdS q s fr b l n m).1 - mostB s l (n - (m + 1)))
    have h2 := mnB_le (fwdS q s fr b l (n - (m + 1))).2 ((bwdS q s fr b l n m).2 - q)
    omega

theorem bwd_sound {z : Nat → Int} {n : Nat} (h : Keeps q s fr b l z 0 n) : ∀ j, j ≤ n → inP (z (n - j)) (bwdS q s fr b l n j)
  | 0, _ => fwd_sound h n (Nat.le_refl _)
  | j + 1, hj => by
    have ih := bwd_sound h j (by omega)
    obtain ⟨k, hk1, hk2⟩ : ∃ k, n - (j + 1) = k ∧ n - j = k + 1 := ⟨n - (j + 1), rfl, by omega⟩
    rw [hk2] at ih
    have h0 := fwd_sound h k (by omega)
    have h2 := h.2 k (by omega) (by omega)
    simp only [inP, bwdS] at *
    rw [hk1]
    have h1 := mxB_le (fwdS q s fr b l k).1 ((bwdS q s fr b l n j).1 - mostB s l k)
    have h3 := mnB_le (fwdS q s fr b l k).2 ((bwdS q s fr b l n j).2 - q)
    omega

theorem bwd_some (hm : ∀ k, q ≤ mostB s l k) {n : Nat} (hf : fwdTo q s fr b l (n + 1) = true) : ∀ j, j ≤ n →
    (bwdS q s fr b l n j).1 ≤ (bwdS q s fr b l n j).2 ∧ (fwdS q s fr b l (n - j)).1 ≤ (bwdS q s fr b l n j).1 ∧ (bwdS q s fr b l n j).2 ≤ (fwdS q s fr b l (n - j)).2
  | 0, _ => by
    have := fwdTo_at hf (show n < n + 1 by omega)
    exact ⟨this, Int.le_refl _, Int.le_refl _⟩
  | j + 1, hj => by
    obtain ⟨h1, h2, h3⟩ := bwd_some hm hf j (by omega)
    obtain ⟨k, hk⟩ : ∃ k, n - (j + 1) = k ∧ n - j = k + 1 := ⟨n - (j + 1), rfl, by omega⟩
    rw [hk.2] at h2 h3
    have h0 := fwdTo_at hf (show k < n + 1 by omega)
    have hm := hm k
    simp only [fwdS] at h2 h3
    have m1 := mxB_le (lowB fr l (k + 1)) ((fwdS q s fr b l k).1 + q)
    have m2 := mnB_le (highB b l (k + 1)) ((fwdS q s fr b l k).2 + mostB s l k)
    simp only [bwdS]
    rw [hk.1]
    have m3 := mxB_le (fwdS q s fr b l k).1 ((bwdS q s fr b l n j).1 - mostB s l k)
    have m4 := mnB_le (fwdS q s fr b l k).2 ((bwdS q s fr b l n j).2 - q)
    refine ⟨?_, ?_, ?_⟩ <;> omega

theorem bwd_complete (hm : ∀ k, q ≤ mostB s l k) {n : Nat} (hf : fwdTo q s fr b l (n + 1) = true) : ∀ (j : Nat) (t : Int), j ≤ n → inP t (bwdS q s fr b l n j) → ∃ z, Keeps q s fr b l z (n - j) n ∧ z (n - j) = t
  | 0, t, _, ht => ⟨fun _ => t, ⟨fun k h1 h2 => by obtain rfl : k = n := by omega
                                                   exact fwd_win k (bwd_sub k 0 ht), fun k h1 h2 => by omega⟩, rfl⟩
  | j + 1, t, hj, ht => by
    obtain ⟨h1, _, _⟩ := bwd_some hm hf j (by omega)
    have hw := fwd_win _ (bwd_sub n (j + 1) ht)
    obtain ⟨k, hk⟩ : ∃ k, n - (j + 1) = k ∧ n - j = k + 1 := ⟨n - (j + 1), rfl, by omega⟩
    have hq := hm k
    simp only [inP, bwdS] at ht
    rw [hk.1] at ht hw
    have m3 := mxB_le (fwdS q s fr b l k).1 ((bwdS q s fr b l n j).1 - mostB s l k)
    have m4 := mnB_le (fwdS q s fr b l k).2 ((bwdS q s fr b l n j).2 - q)
    obtain ⟨u, hu1, hu2⟩ : ∃ u, inP u (bwdS q s fr b l n j) ∧ q ≤ u - t ∧ u - t ≤ mostB s l k := by
      by_cases c : (bwdS q s fr b l n j).1 ≤ t + q
      · exact ⟨t + q, ⟨c, by omega⟩, by omega⟩
      · exact ⟨(bwdS q s fr b l n j).1, ⟨Int.le_refl _, h1⟩, by omega⟩
    obtain ⟨z, hz, hzk⟩ := bwd_complete hm hf j u (by omega) hu1
    rw [hk.2] at hz hzk
    rw [hk.1]
    refine ⟨fun i => if k < i then z i else t, ⟨fun i g1 g2 => ?_, fun i g1 g2 => ?_⟩, by simp⟩
    · by_cases c : k < i
      · simp only [c, if_true]; exact hz.1 i (by omega) g2
      · simp only [c, if_false]
        obtain rfl : i = k := by omega
        exact hw
    · by_cases c : k < i
      · simp only [c, show k < i + 1 by omega, if_true]; exact hz.2 i (by omega) g2
      · obtain rfl : i = k := by omega
        simp only [Nat.lt_irrefl, if_false, show i < i + 1 by omega, if_true]
        rw [hzk]; exact hu2

/-- The span of the k-th tick, of n + 1. -/
def spanAt (q s fr b : Int) (l : List Stp) (n k : Nat) : Int × Int := bwdS q s fr b l n (n - k)

theorem fly_iff (hm : ∀ k, q ≤ mostB s l k) (n : Nat) : fwdTo q s fr b l (n + 1) = true ↔ ∃ z, Keeps q s fr b l z 0 n := by
  constructor
  · intro hf
    obtain ⟨z, hz, _⟩ := fwd_complete hm n _ hf ⟨Int.le_refl _, fwdTo_at hf (by omega)⟩
    exact ⟨z, hz⟩
  · rintro ⟨z, hz⟩
    simp only [fwdTo, List.all_eq_true, List.mem_range, someB, decide_eq_true_eq]
    intro i hi
    have := fwd_sound hz i (by omega)
    exact Int.le_trans this.1 this.2

theorem span_iff (hm : ∀ k, q ≤ mostB s l k) {n : Nat} (hf : fwdTo q s fr b l (n + 1) = true) {k : Nat} (hk : k ≤ n) (t : Int) : inP t (spanAt q s fr b l n k) ↔ ∃ z, Keeps q s fr b l z 0 n ∧ z k = t := by
  constructor
  · intro ht
    have h1 := bwd_sub n (n - k) ht
    have ek : n - (n - k) = k := by omega
    rw [ek] at h1
    have hfk : fwdTo q s fr b l (k + 1) = true := by
      simp only [fwdTo, List.all_eq_true, List.mem_range] at hf ⊢
      exact fun i hi => hf i (by omega)
    obtain ⟨x, hx, hxk⟩ := fwd_complete hm k t hfk h1
    obtain ⟨y, hy, hyk⟩ := bwd_complete hm hf (n - k) t (by omega) ht
    rw [ek] at hy hyk
    refine ⟨fun i => if i ≤ k then x i else y i, ⟨fun i _ g => ?_, fun i _ g => ?_⟩, by simp [hxk]⟩
    · by_cases c : i ≤ k
      · simp only [c, if_true]; exact hx.1 i (by omega) c
      · simp only [c, if_false]; exact hy.1 i (by omega) g
    · by_cases c : i + 1 ≤ k
      · have c' : i ≤ k := by omega
        simp only [c, c', if_true]; exact hx.2 i (by omega) (by omega)
      · by_cases c' : i ≤ k
        · obtain rfl : i = k := by omega
          simp only [c, if_false, Nat.le_refl, if_true]
          rw [hxk, ← hyk]
          exact hy.2 i (by omega) g
        · simp only [c, c', if_false]; exact hy.2 i (by omega) g
  · rintro ⟨z, hz, rfl⟩
    have := bwd_sound hz (n - k) (by omega)
    rwa [show n - (n - k) = k by omega] at this
theorem span_some (hm : ∀ k, q ≤ mostB s l k) {n : Nat} (hf : fwdTo q s fr b l (n + 1) = true) {k : Nat} : (spanAt q s fr b l n k).1 ≤ (spanAt q s fr b l n k).2 := (bwd_some hm hf (n - k) (by omega)).1
theorem span_next (hm : ∀ k, q ≤ mostB s l k) {n : Nat} (hf : fwdTo q s fr b l (n + 1) = true) {k : Nat} (hk : k < n) {t : Int} (ht : inP t (spanAt q s fr b l n k)) : ∃ u, inP u (spanAt q s fr b l n (k + 1)) ∧ q ≤ u - t ∧ u - t ≤ mostB s l k := by
  obtain ⟨z, hz, rfl⟩ := (span_iff hm hf (show k ≤ n by omega) t).1 ht
  exact ⟨z (k + 1), (span_iff hm hf (show k + 1 ≤ n by omega) _).2 ⟨z, hz, rfl⟩, hz.2 k (by omega) hk⟩
theorem span_win (hm : ∀ k, q ≤ mostB s l k) {n : Nat} (hf : fwdTo q s fr b l (n + 1) = true) {k : Nat} (hk : k ≤ n) {t : Int} (ht : inP t (spanAt q s fr b l n k)) : lowB fr l k ≤ t ∧ t ≤ highB b l k := by
  obtain ⟨z, hz, rfl⟩ := (span_iff hm hf hk t).1 ht
  exact hz.1 k (by omega) hk

/-- What is open to the k-th tick, behind a tick x. -/
def openP (q s fr b : Int) (l : List Stp) (n k : Nat) (x : Int) : Int × Int := (mxB (spanAt q s fr b l n (k + 1)).1 (x + q), mnB (spanAt q s fr b l n (k + 1)).2 (x + mostB s l k))
/-- What is open when these have begun. -/
def openA (q s fr b : Int) (l : List Stp) (n : Nat) (c : Nat → Int) : Nat → Int × Int
  | 0 => spanAt q s fr b l n 0
  | k + 1 => openP q s fr b l n k (c k)
theorem openP_in {n k : Nat} {x t : Int} : inP t (openP q s fr b l n k x) ↔ inP t (spanAt q s fr b l n (k + 1)) ∧ q ≤ t - x ∧ t - x ≤ mostB s l k := by
  have h1 := mxB_le (spanAt q s fr b l n (k + 1)).1 (x + q)
  have h2 := mnB_le (spanAt q s fr b l n (k + 1)).2 (x + mostB s l k)
  simp only [inP, openP]
  constructor
  · intro h; exact ⟨by omega, by omega⟩
  · rintro ⟨h3, h4⟩; omega
theorem openA_sub {n : Nat} {c : Nat → Int} (k : Nat) {t : Int} (h : inP t (openA q s fr b l n c k)) : inP t (spanAt q s fr b l n k) := by
  cases k with
  | zero => exact h
  | succ m => exact (openP_in.1 h).1
/-- A beginning can be flown just if each tick of it was open. -/
theorem begun_iff (hm : ∀ k, q ≤ mostB s l k) {n : Nat} (hf : fwdTo q s fr b l (n + 1) = true) (c : Nat → Int) {m : Nat} (hmn : m ≤ n) (t : Int) :
    ((∀ k, k < m → inP (c k) (openA q s fr b l n c k)) ∧ inP t (openA q s fr b l n c m)) ↔ ∃ z, Keeps q s fr b l z 0 n ∧ (∀ k, k < m → z k = c k) ∧ z m = t := by
  constructor
  · rintro ⟨h1, h2⟩
    obtain ⟨y, hy, hyk⟩ := (span_iff hm hf hmn t).1 (openA_sub m h2)
    refine ⟨fun i => if i < m then c i else y i, ⟨fun i _ g => ?_, fun i _ g => ?_⟩, fun k hk => by simp [hk], by simp [hyk]⟩
    · by_cases e : i < m
      · simp only [e, if_true]
        exact span_win hm hf (by omega) (openA_sub i (h1 i e))
      · simp only [e, if_false]; exact hy.1 i (by omega) g
    · by_cases e : i + 1 < m
      · have e' : i < m := by omega
        simp only [e, e', if_true]
        exact (openP_in.1 (h1 (i + 1) e)).2
      · by_cases e' : i < m
        · obtain rfl : m = i + 1 := by omega
          simp only [e, e', if_true, if_false]
          rw [hyk]
          exact (openP_in.1 h2).2
        · simp only [e, e', if_false]; exact hy.2 i (by omega) g
  · rintro ⟨z, hz, hc, rfl⟩
    have at_ : ∀ k, k ≤ m → inP (z k) (openA q s fr b l n c k) := by
      intro k hk
      have hk0 := (span_iff hm hf (show k ≤ n by omega) (z k)).2 ⟨z, hz, rfl⟩
      cases k with
      | zero => exact hk0
      | succ j =>
        refine openP_in.2 ⟨hk0, ?_⟩
        rw [← hc j (by omega)]
        exact hz.2 j (by omega) (by omega)
    exact ⟨fun k hk => by rw [← hc k hk]; exact at_ k (by omega), at_ m (Nat.le_refl _)⟩
theorem open_some (hm : ∀ k, q ≤ mostB s l k) {n : Nat} (hf : fwdTo q s fr b l (n + 1) = true) (c : Nat → Int) {m : Nat} (hmn : m ≤ n) (h : ∀ k, k < m → inP (c k) (openA q s fr b l n c k)) : (openA q s fr b l n c m).1 ≤ (openA q s fr b l n c m).2 := by
  cases m with
  | zero => exact span_some hm hf
  | succ k =>
    obtain ⟨u, hu1, hu2⟩ := span_next hm hf (show k < n by omega) (openA_sub k (h k (by omega)))
    have := openP_in.2 ⟨hu1, hu2⟩
    exact Int.le_trans this.1 this.2
theorem same_span {x y : Int × Int} (hx : x.1 ≤ x.2) (hy : y.1 ≤ y.2) (h : ∀ t, inP t x ↔ inP t y) : x = y := by
  have h1 := (h x.1).1 ⟨Int.le_refl _, hx⟩
  have h2 := (h x.2).1 ⟨hx, Int.le_refl _⟩
  have h3 := (h y.1).2 ⟨Int.le_refl _, hy⟩
  have h4 := (h y.2).2 ⟨hy, Int.le_refl _⟩
  simp only [inP] at *
  apply Prod.ext <;> omega
end

/-- The windows l', fr', b' are the others, with the first m ticks held. -/
structure HeldAs (fr b : Int) (l : List Stp) (fr' b' : Int) (l' : List Stp) (s : Int) (c : Nat → Int) (m : Nat) : Prop where
  len : l'.length = l.length
  most : ∀ k, mostB s l' k = mostB s l k
  low : ∀ k, lowB fr' l' k = if k < m then mxB (lowB fr l k) (c k) else lowB fr l k
  high : ∀ k, highB b' l' k = if k < m then mnB (highB b l k) (c k) else highB b l k

theorem held_keeps {q s fr b fr' b' : Int} {l l' : List Stp} {c : Nat → Int} {m n : Nat} (hh : HeldAs fr b l fr' b' l' s c m) (hmn : m ≤ n + 1) (z : Nat → Int) :
    Keeps q s fr' b' l' z 0 n ↔ Keeps q s fr b l z 0 n ∧ ∀ k, k < m → z k = c k := by
  constructor
  · rintro ⟨h1, h2⟩
    have w : ∀ k, k ≤ n → (lowB fr l k ≤ z k ∧ z k ≤ highB b l k) ∧ (k < m → z k = c k) := by
      intro k hk
      have := h1 k (by omega) hk
      rw [hh.low, hh.high] at this
      by_cases e : k < m
      · rw [if_pos e, if_pos e] at this
        have m1 := mxB_le (lowB fr l k) (c k)
        have m2 := mnB_le (highB b l k) (c k)
        exact ⟨by omega, fun _ => by omega⟩
      · rw [if_neg e, if_neg e] at this
        exact ⟨this, fun h => absurd h e⟩
    refine ⟨⟨fun k _ hk => (w k hk).1, fun k g1 g2 => ?_⟩, fun k hk => (w k (by omega)).2 hk⟩
    have := h2 k g1 g2
    rwa [hh.most] at this
  · rintro ⟨⟨h1, h2⟩, h3⟩
    refine ⟨fun k g1 g2 => ?_, fun k g1 g2 => by rw [hh.most]; exact h2 k g1 g2⟩
    have := h1 k g1 g2
    rw [hh.low, hh.high]
    by_cases e : k < m
    · rw [if_pos e, if_pos e]
      have := h3 k e
      have m1 := mxB_le (lowB fr l k) (c k)
      have m2 := mnB_le (highB b l k) (c k)
      omega
    · rw [if_neg e, if_neg e]; exact this

/-- What the specification finds of the held windows is what is open. -/
theorem held_next {q s fr b fr' b' : Int} {l l' : List Stp} {c : Nat → Int} {m n : Nat} (hh : HeldAs fr b l fr' b' l' s c m) (hm : ∀ k, q ≤ mostB s l k) (hmn : m ≤ n) :
    (fwdTo q s fr' b' l' (n + 1) = true ↔ fwdTo q s fr b l (n + 1) = true ∧ ∀ k, k < m → inP (c k) (openA q s fr b l n c k)) ∧
    (fwdTo q s fr' b' l' (n + 1) = true → spanAt q s fr' b' l' n m = openA q s fr b l n c m) := by
  have hm' : ∀ k, q ≤ mostB s l' k := fun k => by rw [hh.most]; exact hm k
  have e1 : fwdTo q s fr' b' l' (n + 1) = true ↔ fwdTo q s fr b l (n + 1) = true ∧ ∀ k, k < m → inP (c k) (openA q s fr b l n c k) := by
    rw [fly_iff hm']
    constructor
    · rintro ⟨z, hz⟩
      obtain ⟨hz1, hz2⟩ := (held_keeps hh (by omega) z).1 hz
      have hf := (fly_iff hm n).2 ⟨z, hz1⟩
      exact ⟨hf, ((begun_iff hm hf c hmn (z m)).2 ⟨z, hz1, hz2, rfl⟩).1⟩
    · rintro ⟨hf, h⟩
      obtain ⟨z, hz1, hz2, _⟩ := (begun_iff hm hf c hmn _).1 ⟨h, ⟨Int.le_refl _, open_some hm hf c hmn h⟩⟩
      exact ⟨z, (held_keeps hh (by omega) z).2 ⟨hz1, hz2⟩⟩
  refine ⟨e1, fun hf' => ?_⟩
  obtain ⟨hf, h⟩ := e1.1 hf'
  refine same_span (span_some hm' hf') (open_some hm hf c hmn h) fun t => ?_
  rw [span_iff hm' hf' hmn]
  constructor
  · rintro ⟨z, hz, rfl⟩
    obtain ⟨hz1, hz2⟩ := (held_keeps hh (by omega) z).1 hz
    exact ((begun_iff hm hf c hmn (z m)).2 ⟨z, hz1, hz2, rfl⟩).2
  · intro ht
    obtain ⟨z, hz1, hz2, h3⟩ := (begun_iff hm hf c hmn t).1 ⟨h, ht⟩
    exact ⟨z, (held_keeps hh (by omega) z).2 ⟨hz1, hz2⟩, h3⟩
end Go.Proofs.YtijcdikekgmfoaaGreatDoor
