/- The ground's book as data: those who hold something, the lists of their paths. Nothing of the program's text is named here. -/
import Derived.Test.YtfmdejilhbankaaGreatLkLeft
namespace Go.Proofs.YtfmdejilhbankaaGreat
open Go.RowKit

/-- Somebody who holds something. -/
structure Hd where
  nm : ByteArray
  n : Int
  p : Pt
  sn : Int
  x : Pt
abbrev Hd.cl (t : Hd) : List Value := [.string t.nm, .int .i64 t.n, .int .i64 t.p.q, .int .i64 t.p.s, .slice t.p.a t.p.l.length t.p.cap, .int .i64 t.p.fr, .int .i64 t.p.b, .int .i64 t.sn, .int .i64 t.x.q, .int .i64 t.x.s, .slice t.x.a t.x.l.length t.x.cap, .int .i64 t.x.fr, .int .i64 t.x.b]
abbrev Hd.val (t : Hd) : Value := .agg #[.string t.nm, .int .i64 t.n, .int .i64 t.p.q, .int .i64 t.p.s, .slice t.p.a t.p.l.length t.p.cap, .int .i64 t.p.fr, .int .i64 t.p.b, .int .i64 t.sn, .int .i64 t.x.q, .int .i64 t.x.s, .slice t.x.a t.x.l.length t.x.cap, .int .i64 t.x.fr, .int .i64 t.x.b]
abbrev Hd.put (t : Hd) (g h : Nat) : Hd := ⟨t.nm, t.n, t.p.put g, t.sn, t.x.put h⟩
/-- Their lists lie there. -/
structure HdAt (w : World) (t : Hd) : Prop where
  p : PtAt w t.p
  x : PtAt w t.x
theorem HdAt.below {w w' : World} {t : Hd} (h : HdAt w t) (hb : Below w.heap.size w w') : HdAt w' t := ⟨h.p.below hb h.p.lt, h.x.below hb h.x.lt⟩
/-- Their box. -/
structure HdIn (W : World) (B : Nat) (t : Hd) : Prop where
  lt : B < W.heap.size
  cs : W.rangeAt B 0 t.cl
theorem HdIn.keep {W W' : World} {B N : Nat} {t : Hd} (h : HdIn W B t) (hb : Below N W W') (hN : B < N) : HdIn W' B t := ⟨Nat.lt_of_lt_of_le h.lt hb.size, range_below h.cs hb hN⟩
theorem HdIn.new (w : World) (t : Hd) (T : TypeId) : HdIn (w.alloc (.cells #[.string t.nm, .int .i64 t.n, .int .i64 t.p.q, .int .i64 t.p.s, .slice t.p.a t.p.l.length t.p.cap, .int .i64 t.p.fr, .int .i64 t.p.b, .int .i64 t.sn, .int .i64 t.x.q, .int .i64 t.x.s, .slice t.x.a t.x.l.length t.x.cap, .int .i64 t.x.fr, .int .i64 t.x.b] T)) w.heap.size t where
  lt := by simp
  cs := fun j v hv => by
    match j, hv with
    | 0, hv | 1, hv | 2, hv | 3, hv | 4, hv | 5, hv | 6, hv | 7, hv | 8, hv | 9, hv | 10, hv | 11, hv | 12, hv => simp at hv; subst hv; simp [go_sem]
theorem cl_cells {W : World} {B o : Nat} {t : Hd} (h : W.rangeAt B o t.cl) :
    W.cell? ⟨B, o, none⟩ = some (.string t.nm) ∧ W.cell? ⟨B, o + 1, none⟩ = some (.int .i64 t.n) ∧ W.cell? ⟨B, o + 2, none⟩ = some (.int .i64 t.p.q) ∧ W.cell? ⟨B, o + 3, none⟩ = some (.int .i64 t.p.s) ∧ W.cell? ⟨B, o + 4, none⟩ = some (.slice t.p.a t.p.l.length t.p.cap) ∧ W.cell? ⟨B, o + 5, none⟩ = some (.int .i64 t.p.fr) ∧ W.cell? ⟨B, o + 6, none⟩ = some (.int .i64 t.p.b) ∧ W.cell? ⟨B, o + 7, none⟩ = some (.int .i64 t.sn) ∧
    W.cell? ⟨B, o + 8, none⟩ = some (.int .i64 t.x.q) ∧ W.cell? ⟨B, o + 9, none⟩ = some (.int .i64 t.x.s) ∧ W.cell? ⟨B, o + 10, none⟩ = some (.slice t.x.a t.x.l.length t.x.cap) ∧ W.cell? ⟨B, o + 11, none⟩ = some (.int .i64 t.x.fr) ∧ W.cell? ⟨B, o + 12, none⟩ = some (.int .i64 t.x.b) :=
  ⟨h 0 _ rfl, h 1 _ rfl, h 2 _ rfl, h 3 _ rfl, h 4 _ rfl, h 5 _ rfl, h 6 _ rfl, h 7 _ rfl, h 8 _ rfl, h 9 _ rfl, h 10 _ rfl, h 11 _ rfl, h 12 _ rfl⟩

/-- Those who hold something lie in a row. -/
structure HdsAt (w : World) (a : Option Addr) (b o : Nat) (ts : List Hd) : Prop where
  here : ts ≠ [] → a = some ⟨b, o, none⟩
  lt : ts ≠ [] → b < w.heap.size
  cell : ∀ (i : Nat) (t : Hd), ts[i]? = some t → w.rangeAt b (o + i * 13) t.cl
  each : ∀ t ∈ ts, HdAt w t
theorem HdsAt.below {w w' : World} {a : Option Addr} {b o : Nat} {ts : List Hd} (h : HdsAt w a b o ts) (hb : Below w.heap.size w w') : HdsAt w' a b o ts where
  here := h.here
  lt hl := Nat.lt_of_lt_of_le (h.lt hl) hb.size
  cell i t hi := range_below (h.cell i t hi) hb (h.lt (by intro e; subst e; simp at hi))
  each t ht := (h.each t ht).below hb

/-- A path and somebody who holds something, without where they lie. -/
def Pt.key (p : Pt) : Int × Int × Int × Int × List Stp := (p.q, p.s, p.fr, p.b, p.l)
def Hd.key (t : Hd) : ByteArray × Int × (Int × Int × Int × Int × List Stp) × Int × (Int × Int × Int × Int × List Stp) := (t.nm, t.n, t.p.key, t.sn, t.x.key)
/-- us are copies of ts. -/
structure CopiedH (ts us : List Hd) : Prop where
  len : us.length = ts.length
  at_ : ∀ (i : Nat) (t : Hd), ts[i]? = some t → ∃ g h, us[i]? = some (t.put g h)
theorem CopiedH.keys {ts us : List Hd} (h : CopiedH ts us) : us.map Hd.key = ts.map Hd.key := by
  apply List.ext_getElem?
  intro i
  rw [List.getElem?_map, List.getElem?_map]
  cases ht : ts[i]? with
  | none =>
    have : us[i]? = none := by rw [List.getElem?_eq_none_iff] at ht ⊢; have := h.len; omega
    rw [this]
  | some t =>
    obtain ⟨g, k, hg⟩ := h.at_ i t ht
    rw [hg]; rfl
theorem CopiedH.small {ts us : List Hd} (h : CopiedH ts us) (hs : ∀ t ∈ ts, t.p.l.length ≤ 1048576 ∧ t.x.l.length ≤ 1048576) : ∀ u ∈ us, u.p.l.length ≤ 1048576 ∧ u.x.l.length ≤ 1048576 := fun u hu => by
  obtain ⟨i, hi⟩ := List.mem_iff_getElem?.1 hu
  obtain ⟨t, ht⟩ : ∃ t, ts[i]? = some t := ⟨ts[i]'(by have := (List.getElem?_eq_some_iff.1 hi).1; have := h.len; omega), List.getElem?_eq_getElem _⟩
  obtain ⟨g, k, hg⟩ := h.at_ i t ht
  rw [hi] at hg
  cases hg
  exact hs t (List.mem_of_getElem? ht)

/-- What is left of a measure behind somebody who holds something, and behind a row of them. -/
def leftH (left : Int) (t : Hd) : Int := if leftN left t.nm.size t.p.l.length < 0 then -1 else leftB (leftN left t.nm.size t.p.l.length) t.x.l.length
theorem leftH_left (left : Int) (t : Hd) (h1 : left ≤ 1048576) : -1 ≤ leftH left t ∧ leftH left t ≤ 1048576 := by
  have hx := leftN_left left t.nm.size t.p.l.length h1
  unfold leftH
  split
  · omega
  · unfold leftB
    split <;> omega
theorem leftH_small {left : Int} {t : Hd} (h1 : left ≤ 1048576) (h : 0 ≤ leftH left t) : t.p.l.length ≤ 1048576 ∧ t.x.l.length ≤ 1048576 := by
  have hx := leftN_left left t.nm.size t.p.l.length h1
  unfold leftH at h
  split at h
  · omega
  · rename_i hn
    refine ⟨leftN_small (z := t.nm.size) h1 (by omega), ?_⟩
    unfold leftB at h
    split at h <;> omega
def leftHs (left : Int) (ts : List Hd) : Int := ts.foldl leftH (leftB left ts.length)
theorem leftH_neg {left : Int} {t : Hd} (h : left < 0) : leftH left t = -1 := by unfold leftH leftN; rw [if_pos (by omega : left - (t.nm.size : Int) < 0)]; simp
theorem foldH_neg : ∀ (ts : List Hd) (left : Int), left = -1 → ts.foldl leftH left = -1
  | [], _, h => h
  | t :: ts, left, h => by rw [List.foldl_cons]; exact foldH_neg ts _ (leftH_neg (by omega))
theorem foldH_take (ts : List Hd) (left : Int) {k : Nat} {t : Hd} (h : ts[k]? = some t) : (ts.take (k + 1)).foldl leftH left = leftH ((ts.take k).foldl leftH left) t := by
  rw [List.take_add_one, h]; simp [List.foldl_append]
theorem foldH_split (ts : List Hd) (left : Int) (k : Nat) : ts.foldl leftH left = (ts.drop k).foldl leftH ((ts.take k).foldl leftH left) := by
  rw [← List.foldl_append, List.take_append_drop]
theorem foldH_range (ts : List Hd) (left : Int) (h0 : -1 ≤ left) (h1 : left ≤ 1048576) : -1 ≤ ts.foldl leftH left ∧ ts.foldl leftH left ≤ 1048576 := by
  induction ts generalizing left with
  | nil => exact ⟨h0, h1⟩
  | cons t ts ih => rw [List.foldl_cons]; have := leftH_left left t h1; exact ih _ this.1 this.2
theorem foldH_small : ∀ (ts : List Hd) (left : Int), -1 ≤ left → left ≤ 1048576 → 0 ≤ ts.foldl leftH left → ∀ t ∈ ts, t.p.l.length ≤ 1048576 ∧ t.x.l.length ≤ 1048576
  | [], _, _, _, _, _, ht => by simp at ht
  | s :: ts, left, h0, h1, h, t, ht => by
    rw [List.foldl_cons] at h
    have hr := leftH_left left s h1
    by_cases hn : leftH left s < 0
    · rw [foldH_neg ts _ (by omega)] at h; omega
    rcases List.mem_cons.1 ht with rfl | ht
    · exact leftH_small h1 (by omega)
    · exact foldH_small ts _ hr.1 hr.2 h t ht
end Go.Proofs.YtfmdejilhbankaaGreat
