/- Lists of tubes: names ascend. Nothing of the program's text is named here. -/
import Derived.Test.YtmaoflgnbhhblaaPbTube1
import Derived.Test.YtmaoflgnbhhblaaPbTubeS
import Derived.Laws.Cover1
namespace Go.Proofs.Ytmaoflgnbhhblaa
open Go.RowKit

theorem less_total : ∀ a b : List UInt8, (Op.bytesLess a b || a == b) = !Op.bytesLess b a
  | [], [] => by simp [Op.bytesLess]
  | [], _ :: _ => by simp [Op.bytesLess]
  | _ :: _, [] => by simp [Op.bytesLess]
  | x :: a, y :: b => by
    have ih := less_total a b
    rcases (show x < y ∨ x = y ∨ y < x by rcases Nat.lt_trichotomy x.toNat y.toNat with h | h | h; · exact .inl h
                                          · exact .inr (.inl (UInt8.toNat_inj.1 h))
                                          · exact .inr (.inr h)) with h | rfl | h
    · have h1 : ¬ y < x := by intro h2; exact absurd (UInt8.lt_iff_toNat_lt.1 h) (by have := UInt8.lt_iff_toNat_lt.1 h2; omega)
      have h2 : ¬ y = x := by intro e; subst e; exact h1 h
      simp [Op.bytesLess, h, h1, h2]
    · have h1 : ¬ x < x := by intro h2; have := UInt8.lt_iff_toNat_lt.1 h2; omega
      simp [Op.bytesLess, h1]
      simpa using ih
    · have h1 : ¬ x < y := by intro h2; exact absurd (UInt8.lt_iff_toNat_lt.1 h) (by have := UInt8.lt_iff_toNat_lt.1 h2; omega)
      have h2 : x ≠ y := by intro e; subst e; exact h1 h
      simp [Op.bytesLess, h, h1, h2]
/-- A name comes ahead of another one. -/
def ltN (a b : ByteArray) : Bool := Op.bytesLess a.toList b.toList
theorem ltN_le (a b : ByteArray) : (Op.bytesLess a.toList b.toList || a.toList == b.toList) = !ltN b a := less_total _ _

/-- What of a tube ProbeSkyOk looks at. -/
def key (t : Tb) : ByteArray × List Bx := (t.nm, t.l)
def keyB (k : ByteArray × List Bx) : Bool := nameB k.1 && decide (k.2.length ≤ 40) && k.2.all boxB
theorem keyB_key (t : Tb) : keyB (key t) = tubeB t := rfl
def nmAt (ks : List (ByteArray × List Bx)) (i : Nat) : ByteArray := (ks.getD i (⟨#[]⟩, [])).1
/-- The i-th comes behind the one ahead of it. -/
def ascAt (ks : List (ByteArray × List Bx)) (i : Nat) : Bool := decide (i = 0) || ltN (nmAt ks (i - 1)) (nmAt ks i)
def ascTo (ks : List (ByteArray × List Bx)) (k : Nat) : Bool := (List.range k).all (ascAt ks)
theorem ascTo_succ (ks : List (ByteArray × List Bx)) (k : Nat) : ascTo ks (k + 1) = (ascTo ks k && ascAt ks k) := by simp [ascTo, List.range_succ, List.all_append]
theorem ascTo_not {ks : List (ByteArray × List Bx)} {k n : Nat} (hk : k < n) (h : ascAt ks k = false) : ascTo ks n = false := by
  unfold ascTo; rw [List.all_eq_false]; exact ⟨k, by simpa using hk, by simp [h]⟩
/-- Tubes are ok together. -/
def skyB (ts : List Tb) : Bool := decide (ts.length ≤ 24) && ts.all tubeB && ascTo (ts.map key) ts.length
theorem nmAt_key {ts : List Tb} {i : Nat} {t : Tb} (h : ts[i]? = some t) : nmAt (ts.map key) i = t.nm := by
  unfold nmAt; simp [List.getD, List.getElem?_map, h, key]
theorem ascAt_key {ts : List Tb} {i : Nat} {s t : Tb} (hs : ts[i]? = some s) (ht : ts[i + 1]? = some t) : ascAt (ts.map key) (i + 1) = ltN s.nm t.nm := by
  unfold ascAt; rw [Nat.add_sub_cancel, nmAt_key hs, nmAt_key ht]; simp
/-- us are copies of ts. -/
structure Copied (ts us : List Tb) : Prop where
  len : us.length = ts.length
  at_ : ∀ (i : Nat) (t : Tb), ts[i]? = some t → ∃ g, us[i]? = some (t.put g)
theorem Copied.keys {ts us : List Tb} (h : Copied ts us) : us.map key = ts.map key := by
  apply List.ext_getElem?
  intro i
  rw [List.getElem?_map, List.getElem?_map]
  cases ht : ts[i]? with
  | none =>
    have : us[i]? = none := by rw [List.getElem?_eq_none_iff] at ht ⊢; have := h.len; omega
    rw [this]
  | some t =>
    obtain ⟨g, hg⟩ := h.at_ i t ht
    rw [hg]; rfl
theorem all_key (ts : List Tb) : ts.all tubeB = (ts.map key).all keyB := by rw [List.all_map]; rfl
theorem Copied.sky {ts us : List Tb} (h : Copied ts us) : skyB us = skyB ts := by
  unfold skyB; rw [all_key, all_key, h.keys, h.len]
theorem Copied.small {ts us : List Tb} (h : Copied ts us) (hs : ∀ t ∈ ts, t.l.length ≤ 1048576) : ∀ u ∈ us, u.l.length ≤ 1048576 := fun u hu => by
  obtain ⟨i, hi⟩ := List.mem_iff_getElem?.1 hu
  obtain ⟨t, ht⟩ : ∃ t, ts[i]? = some t := ⟨ts[i]'(by have := (List.getElem?_eq_some_iff.1 hi).1; have := h.len; omega), List.getElem?_eq_getElem _⟩
  obtain ⟨g, hg⟩ := h.at_ i t ht
  rw [hi] at hg
  cases hg
  exact hs t (List.mem_of_getElem? ht)
/-- What is left of a measure behind tubes. -/
def leftTs (left : Int) (ts : List Tb) : Int := ts.foldl leftT (leftB left ts.length)
theorem leftT_neg {left : Int} {t : Tb} (h : left < 0) (h1 : -1 ≤ left) : leftT left t = -1 := by unfold leftT; rw [if_pos (by omega)]
theorem foldl_neg : ∀ (ts : List Tb) (left : Int), left = -1 → ts.foldl leftT left = -1
  | [], _, h => h
  | t :: ts, left, h => by rw [List.foldl_cons]; exact foldl_neg ts _ (leftT_neg (by omega) (by omega))
theorem foldl_take (ts : List Tb) (left : Int) {k : Nat} {t : Tb} (h : ts[k]? = some t) : (ts.take (k + 1)).foldl leftT left = leftT ((ts.take k).foldl leftT left) t := by
  rw [List.take_add_one, h]; simp [List.foldl_append]
theorem foldl_split (ts : List Tb) (left : Int) (k : Nat) : ts.foldl leftT left = (ts.drop k).foldl leftT ((ts.take k).foldl leftT left) := by
  rw [← List.foldl_append, List.take_append_drop]
theorem foldl_range (ts : List Tb) (left : Int) (h0 : -1 ≤ left) (h1 : left ≤ 1048576) : -1 ≤ ts.foldl leftT left ∧ ts.foldl leftT left ≤ 1048576 := by
  induction ts generalizing left with
  | nil => exact ⟨h0, h1⟩
  | cons t ts ih => rw [List.foldl_cons]; have := leftT_left left t h1; exact ih _ this.1 this.2
theorem foldl_small : ∀ (ts : List Tb) (left : Int), -1 ≤ left → left ≤ 1048576 → 0 ≤ ts.foldl leftT left → ∀ t ∈ ts, t.l.length ≤ 1048576
  | [], _, _, _, _, _, ht => by simp at ht
  | s :: ts, left, h0, h1, h, t, ht => by
    rw [List.foldl_cons] at h
    have hr := leftT_left left s h1
    by_cases hn : leftT left s < 0
    · rw [foldl_neg ts _ (by omega)] at h; omega
    rcases List.mem_cons.1 ht with rfl | ht
    · exact leftT_small h1 (by omega)
    · exact foldl_small ts _ hr.1 hr.2 h t ht
end Go.Proofs.Ytmaoflgnbhhblaa
