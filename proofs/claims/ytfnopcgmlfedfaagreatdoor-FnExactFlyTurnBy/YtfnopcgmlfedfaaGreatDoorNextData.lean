/- Plain data of going on: what is held of a path, and what is open behind a beginning. -/
import Derived.Test.YtfnopcgmlfedfaaGreatDoorFlightMath
namespace Go.Proofs.YtfnopcgmlfedfaaGreatDoor
open Go.RowKit

/-- A step that was entered at a tick. -/
def Stp.hold (t : Stp) (z : Int) : Stp := { t with fr := mxB t.fr z, by_ := mnB t.by_ z }
/-- The steps, the first k of them held. -/
def heldL (l : List Stp) (zs : List Int) (k : Nat) : List Stp := (List.range l.length).map fun i => if i < k then (l.getD i .zero).hold (zs.getD i 0) else l.getD i .zero
theorem heldL_length (l : List Stp) (zs : List Int) (k : Nat) : (heldL l zs k).length = l.length := by simp [heldL]
theorem heldL_get (l : List Stp) (zs : List Int) (k i : Nat) (h : i < l.length) : (heldL l zs k)[i]? = some (if i < k then (l.getD i .zero).hold (zs.getD i 0) else l.getD i .zero) := by simp [heldL, h]
theorem getD_some {l : List Stp} {i : Nat} (h : i < l.length) : l[i]? = some (l.getD i .zero) := by
  rw [List.getD_eq_getElem?_getD, List.getElem?_eq_getElem h]; rfl
theorem getD_is {l : List Stp} {i : Nat} {t : Stp} (h : l[i]? = some t) : l.getD i .zero = t := by rw [List.getD_eq_getElem?_getD, h]; rfl
theorem heldL_zero (l : List Stp) (zs : List Int) : heldL l zs 0 = l := by
  apply List.ext_getElem?
  intro i
  by_cases h : i < l.length
  · rw [heldL_get _ _ _ _ h, if_neg (by omega), getD_some h]
  · rw [List.getElem?_eq_none (by rw [heldL_length]; omega), List.getElem?_eq_none (by omega)]
theorem heldL_succ (l : List Stp) (zs : List Int) (k : Nat) : heldL l zs (k + 1) = (heldL l zs k).set k ((l.getD k .zero).hold (zs.getD k 0)) := by
  apply List.ext_getElem?
  intro i
  by_cases h : i < l.length
  · rw [heldL_get _ _ _ _ h]
    by_cases e : k = i
    · subst e
      rw [List.getElem?_set_self (by rw [heldL_length]; exact h), if_pos (by omega)]
    · rw [List.getElem?_set_ne e, heldL_get _ _ _ _ h]
      by_cases c : i < k
      · rw [if_pos c, if_pos (by omega)]
      · rw [if_neg c, if_neg (by omega)]
  · rw [List.getElem?_eq_none (by rw [heldL_length]; omega), List.getElem?_eq_none (by rw [List.length_set, heldL_length]; omega)]
theorem heldL_now (l : List Stp) (zs : List Int) (k : Nat) (h : k < l.length) : (heldL l zs k)[k]? = some (l.getD k .zero) := by rw [heldL_get _ _ _ _ h, if_neg (by omega)]

theorem held_as (fr b s : Int) (l : List Stp) (zs : List Int) (hz : zs.length ≤ l.length) : HeldAs fr b l fr b (heldL l zs zs.length) s (fun i => zs.getD i 0) zs.length where
  len := heldL_length _ _ _
  most k := by
    unfold mostB
    by_cases h : k < l.length
    · rw [getD_is (heldL_get l zs zs.length k h)]
      split <;> rfl
    · rw [List.getD_eq_getElem?_getD, List.getD_eq_getElem?_getD, List.getElem?_eq_none (by rw [heldL_length]; omega), List.getElem?_eq_none (by omega)]
  low k := by
    unfold lowB
    rw [heldL_length]
    by_cases h : k < l.length
    · rw [if_pos h, if_pos h, getD_is (heldL_get l zs zs.length k h)]
      split <;> rfl
    · rw [if_neg h, if_neg h, if_neg (by omega)]
  high k := by
    unfold highB
    rw [heldL_length]
    by_cases h : k < l.length
    · rw [if_pos h, if_pos h, getD_is (heldL_get l zs zs.length k h)]
      split <;> rfl
    · rw [if_neg h, if_neg h, if_neg (by omega)]

theorem held_wide {q s fr b : Int} {l : List Stp} (hp : Wide q s fr b l) (zs : List Int) (hz : zs.length ≤ l.length) : Wide q s fr b (heldL l zs zs.length) where
  kind := hp.kind
  len := by rw [heldL_length]; exact hp.len
  win k := by
    have hh := held_as fr b s l zs hz
    have h0 := hp.win k
    rw [hh.low, hh.high]
    split
    · have m1 := mxB_le (lowB fr l k) (zs.getD k 0)
      have m2 := mnB_le (highB b l k) (zs.getD k 0)
      constructor
      · omega
      · have := m2.1; omega
    · exact h0

/-- Each of the ticks was open. -/
def begunB (q s fr b : Int) (l : List Stp) (zs : List Int) : Nat → Bool
  | 0 => true
  | k + 1 => begunB q s fr b l zs k && inB (zs.getD k 0) (openA q s fr b l l.length (fun i => zs.getD i 0) k).1 (openA q s fr b l l.length (fun i => zs.getD i 0) k).2
theorem begunB_iff (q s fr b : Int) (l : List Stp) (zs : List Int) : ∀ m, begunB q s fr b l zs m = true ↔ ∀ k, k < m → inP (zs.getD k 0) (openA q s fr b l l.length (fun i => zs.getD i 0) k)
  | 0 => ⟨fun _ k hk => by omega, fun _ => rfl⟩
  | m + 1 => by
    rw [begunB, Bool.and_eq_true, begunB_iff q s fr b l zs m, inB_iff]
    constructor
    · rintro ⟨h1, h2⟩ k hk
      by_cases e : k = m
      · subst e; exact h2
      · exact h1 k (by omega)
    · intro h
      exact ⟨fun k hk => h k (by omega), h m (by omega)⟩
/-- It can be gone on with. -/
def goB (q s fr b : Int) (l : List Stp) (zs : List Int) : Bool := pathB q s fr b l && spanB q s fr b l && decide (zs.length ≤ l.length) && begunB q s fr b l zs zs.length
def goS (q s fr b : Int) (l : List Stp) (zs : List Int) : Int × Int := if goB q s fr b l zs then openA q s fr b l l.length (fun i => zs.getD i 0) zs.length else (0, 0)

/-- What the specification finds. -/
theorem held_go {q s fr b : Int} {l : List Stp} {zs : List Int} (hp : pathB q s fr b l = true) (hz : zs.length ≤ l.length) :
    spanB q s fr b (heldL l zs zs.length) = goB q s fr b l zs ∧ (goB q s fr b l zs = true → (spansL q s fr b (heldL l zs zs.length))[zs.length]? = some (goS q s fr b l zs)) := by
  have hw := Wide.of hp
  have hw' := held_wide hw zs hz
  have key := held_next (n := l.length) (held_as fr b s l zs hz) hw.quick hz
  have e1 : spanB q s fr b (heldL l zs zs.length) = goB q s fr b l zs := by
    rw [hw'.span_fwd, heldL_length]
    unfold goB
    rw [hp, hw.span_fwd, Bool.eq_iff_iff, key.1]
    simp only [Bool.true_and, Bool.and_eq_true, decide_eq_true_eq]
    rw [begunB_iff]
    exact ⟨fun ⟨h1, h2⟩ => ⟨⟨h1, hz⟩, h2⟩, fun ⟨⟨h1, _⟩, h2⟩ => ⟨h1, h2⟩⟩
  refine ⟨e1, fun hg => ?_⟩
  have hsp : spanB q s fr b (heldL l zs zs.length) = true := by rw [e1]; exact hg
  have hf : fwdTo q s fr b (heldL l zs zs.length) (l.length + 1) = true := by
    have := hw'.span_fwd
    rw [heldL_length] at this
    rw [← this]; exact hsp
  have k2 := key.2 hf
  unfold goS
  rw [if_pos hg, ← k2]
  unfold spansL spanAt
  rw [if_pos hsp, heldL_length, List.getElem?_map, List.getElem?_range (by omega)]
  rfl

/-- The row of spans when these ticks have come: what was open to each of them, what is open to the next, the spans of the rest. -/
def rowG (q s fr b : Int) (l : List Stp) (c : Nat → Int) (m : Nat) : List (Int × Int) := (List.range (l.length + 1)).map fun j => if j ≤ m then openA q s fr b l l.length c j else spanAt q s fr b l l.length j
theorem rowG_length (q s fr b : Int) (l : List Stp) (c : Nat → Int) (m : Nat) : (rowG q s fr b l c m).length = l.length + 1 := by simp [rowG]
theorem rowG_get (q s fr b : Int) (l : List Stp) (c : Nat → Int) (m j : Nat) (h : j ≤ l.length) : (rowG q s fr b l c m)[j]? = some (if j ≤ m then openA q s fr b l l.length c j else spanAt q s fr b l l.length j) := by
  simp [rowG, show j < l.length + 1 by omega]
theorem rowG_zero {q s fr b : Int} {l : List Stp} (c : Nat → Int) (h : spanB q s fr b l = true) : rowG q s fr b l c 0 = spansL q s fr b l := by
  unfold rowG spansL
  rw [if_pos h]
  apply List.map_congr_left
  intro j _
  by_cases e : j ≤ 0
  · obtain rfl : j = 0 := by omega
    rw [if_pos e]; rfl
  · rw [if_neg e]; rfl
theorem rowG_succ (q s fr b : Int) (l : List Stp) (c : Nat → Int) (m : Nat) : rowG q s fr b l c (m + 1) = (rowG q s fr b l c m).set (m + 1) (openP q s fr b l l.length m (c m)) := by
  apply List.ext_getElem?
  intro j
  by_cases h : j ≤ l.length
  · rw [rowG_get _ _ _ _ _ _ _ _ h]
    by_cases e : m + 1 = j
    · subst e
      rw [List.getElem?_set_self (by rw [rowG_length]; omega), if_pos (Nat.le_refl _)]; rfl
    · rw [List.getElem?_set_ne e, rowG_get _ _ _ _ _ _ _ _ h]
      by_cases e' : j ≤ m
      · rw [if_pos e', if_pos (by omega)]
      · rw [if_neg e', if_neg (by omega)]
  · rw [List.getElem?_eq_none (by rw [rowG_length]; omega), List.getElem?_eq_none (by rw [List.length_set, rowG_length]; omega)]
/-- Only the ticks that have come count. -/
theorem rowG_congr {q s fr b : Int} {l : List Stp} {c c' : Nat → Int} {m : Nat} (h : ∀ i, i < m → c i = c' i) : rowG q s fr b l c m = rowG q s fr b l c' m := by
  unfold rowG
  apply List.map_congr_left
  intro j _
  split
  · cases j with
    | zero => rfl
    | succ i => simp only [openA]; rw [h i (by omega)]
  · rfl
end Go.Proofs.YtfnopcgmlfedfaaGreatDoor
