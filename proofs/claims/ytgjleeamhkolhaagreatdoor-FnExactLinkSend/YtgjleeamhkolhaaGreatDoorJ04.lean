/- Joined texts: LkLeft, LkBook, LkBookC, LkBookT, LkText, SpanMark20, PathKit, RowPut0, PathMark0, LkOwn, LkBx, LkMarkS0, LkMarkB, LkBookB, LkHeldB, LkMarkP, LkLawB, LkPtPut, LkStPut. -/
import Derived.Deep.RegionHeld3
import Derived.WalkKit
import Derived.WalkSpells
import Derived.Laws.IdiomStrings
import Derived.Test.YtgjleeamhkolhaaGreatDoorRows
import Derived.Test.YtgjleeamhkolhaaGreatDoorLkPt
import Derived.Test.YtgjleeamhkolhaaGreatDoorCopy2
import Derived.Test.YtgjleeamhkolhaaGreatDoorEq
import Derived.Test.YtgjleeamhkolhaaGreatDoorPbBel
import Derived.Test.YtgjleeamhkolhaaGreatDoorJ03
import Derived.Test.YtgjleeamhkolhaaGreatDoorStepInfo
import Derived.Test.YtgjleeamhkolhaaGreatDoorSpanBack
import Derived.Test.YtgjleeamhkolhaaGreatDoorJ02
import Derived.Test.YtgjleeamhkolhaaGreatDoorOwnMore
namespace Go.Proofs.YtgjleeamhkolhaaGreatDoor
open Go.RowKit

def leftN (left : Int) (z n : Nat) : Int := if left - z < 0 then -1 else leftB (left - z) n
theorem leftN_left (left : Int) (z n : Nat) (h1 : left ≤ 1048576) : -1 ≤ leftN left z n ∧ leftN left z n ≤ 1048576 := by
  unfold leftN leftB; split
  · omega
  · split <;> omega
theorem leftN_small {left : Int} {z n : Nat} (h1 : left ≤ 1048576) (h : 0 ≤ leftN left z n) : n ≤ 1048576 := by
  unfold leftN leftB at h; split at h
  · omega
  · split at h <;> omega
end Go.Proofs.YtgjleeamhkolhaaGreatDoor

namespace Go.Proofs.YtgjleeamhkolhaaGreatDoor
open Go.RowKit

structure Hd where
  nm : ByteArray
  n : Int
  p : Pt
  sn : Int
  x : Pt
abbrev Hd.cl (t : Hd) : List Value := [.string t.nm, .int .i64 t.n, .int .i64 t.p.q, .int .i64 t.p.s, .slice t.p.a t.p.l.length t.p.cap, .int .i64 t.p.fr, .int .i64 t.p.b, .int .i64 t.sn, .int .i64 t.x.q, .int .i64 t.x.s, .slice t.x.a t.x.l.length t.x.cap, .int .i64 t.x.fr, .int .i64 t.x.b]
abbrev Hd.val (t : Hd) : Value := .agg #[.string t.nm, .int .i64 t.n, .int .i64 t.p.q, .int .i64 t.p.s, .slice t.p.a t.p.l.length t.p.cap, .int .i64 t.p.fr, .int .i64 t.p.b, .int .i64 t.sn, .int .i64 t.x.q, .int .i64 t.x.s, .slice t.x.a t.x.l.length t.x.cap, .int .i64 t.x.fr, .int .i64 t.x.b]
abbrev Hd.put (t : Hd) (g h : Nat) : Hd := ⟨t.nm, t.n, t.p.put g, t.sn, t.x.put h⟩
structure HdAt (w : World) (t : Hd) : Prop where
  p : PtAt w t.p
  x : PtAt w t.x
theorem HdAt.below {w w' : World} {t : Hd} (h : HdAt w t) (hb : Below w.heap.size w w') : HdAt w' t := ⟨h.p.below hb h.p.lt, h.x.below hb h.x.lt⟩
structure HdIn (W : World) (B : Nat) (t : Hd) : Prop where
  lt : B < W.heap.size
  cs : W.rangeAt B 0 t.cl
theorem HdIn.keep {W W' : World} {B N : Nat} {t : Hd} (h : HdIn W B t) (hb : Below N W W') (hN : B < N) : HdIn W' B t := ⟨Nat.lt_of_lt_of_le h.lt hb.size, range_below h.cs hb hN⟩
theorem HdIn.new (w : World) (t : Hd) (T : TypeId) : HdIn (w.alloc (.cells #[.string t.nm, .int .i64 t.n, .int .i64 t.p.q, .int .i64 t.p.s, .slice t.p.a t.p.l.length t.p.cap, .int .i64 t.p.fr, .int .i64 t.p.b, .int .i64 t.sn, .int .i64 t.x.q, .int .i64 t.x.s, .slice t.x.a t.x.l.length t.x.cap, .int .i64 t.x.fr, .int .i64 t.x.b] T)) w.heap.size t where
  lt := by simp
  cs := fun j v hv => by
    match j, hv with
    | 0, hv | 1, hv | 2, hv | 3, hv | 4, hv | 5, hv | 6, hv | 7, hv | 8, hv | 9, hv | 10, hv | 11, hv | 12, hv => simp at hv; subst hv; simp [go_sem]
theorem cl_cells {W : World} {B o : Nat} {t : Hd} (h : W.rangeAt B o t.cl) :
    W.cell? ⟨B, o, none⟩ = some (.string t.nm) ∧ W.cell? ⟨B, o + 1, none⟩ = some (.int .i64 t.n) ∧ W.cell? ⟨B, o + 2, none⟩ = some (.int .i64 t.p.q) ∧ W.cell? ⟨B, o + 3, none⟩ = some (.int .i64 t.p.s) ∧ W.cell? ⟨B, o + 4, none⟩ = some (.slice t.p.a t.p.l.length t.p.cap) ∧ W.cell? ⟨B, o + 5, none⟩ = some (.int .i64 t.p.fr) ∧ W.cell? ⟨B, o + 6, none⟩ = some (.int .i64 t.p.b) ∧ W.cell? ⟨B, o + 7, none⟩ = some (.int .i64 t.sn) ∧
    W.cell? ⟨B, o + 8, none⟩ = some (.int .i64 t.x.q) ∧ W.cell? ⟨B, o + 9, none⟩ = some (.int .i64 t.x.s) ∧ W.cell? ⟨B, o + 10, none⟩ = some (.slice t.x.a t.x.l.length t.x.cap) ∧ W.cell? ⟨B, o + 11, none⟩ = some (.int .i64 t.x.fr) ∧ W.cell? ⟨B, o + 12, none⟩ = some (.int .i64 t.x.b) :=
  ⟨h 0 _ rfl, h 1 _ rfl, h 2 _ rfl, h 3 _ rfl, h 4 _ rfl, h 5 _ rfl, h 6 _ rfl, h 7 _ rfl, h 8 _ rfl, h 9 _ rfl, h 10 _ rfl, h 11 _ rfl, h 12 _ rfl⟩

structure HdsAt (w : World) (a : Option Addr) (b o : Nat) (ts : List Hd) : Prop where
  here : ts ≠ [] → a = some ⟨b, o, none⟩
  lt : ts ≠ [] → b < w.heap.size
  cell : ∀ (i : Nat) (t : Hd), ts[i]? = some t → w.rangeAt b (o + i * 13) t.cl
  each : ∀ t ∈ ts, HdAt w t
theorem HdsAt.below {w w' : World} {a : Option Addr} {b o : Nat} {ts : List Hd} (h : HdsAt w a b o ts) (hb : Below w.heap.size w w') : HdsAt w' a b o ts where
  here := h.here
  lt hl := Nat.lt_of_lt_of_le (h.lt hl) hb.size
  cell i t hi := range_below (h.cell i t hi) hb (h.lt (by intro e; subst e; simp at hi))
  each t ht := (h.each t ht).below hb

def Pt.key (p : Pt) : Int × Int × Int × Int × List Stp := (p.q, p.s, p.fr, p.b, p.l)
def Hd.key (t : Hd) : ByteArray × Int × (Int × Int × Int × Int × List Stp) × Int × (Int × Int × Int × Int × List Stp) := (t.nm, t.n, t.p.key, t.sn, t.x.key)
structure CopiedH (ts us : List Hd) : Prop where
  len : us.length = ts.length
  at_ : ∀ (i : Nat) (t : Hd), ts[i]? = some t → ∃ g h, us[i]? = some (t.put g h)
theorem CopiedH.keys {ts us : List Hd} (h : CopiedH ts us) : us.map Hd.key = ts.map Hd.key := by
  apply List.ext_getElem?
  intro i
  rw [List.getElem?_map, List.getElem?_map]
  cases ht : ts[i]? with
  | none =>
    have : us[i]? = none := by rw [List.getElem?_eq_none_iff] at ht ⊢; have := h.len; omega
    rw [this]
  | some t =>
    obtain ⟨g, k, hg⟩ := h.at_ i t ht
    rw [hg]; rfl
theorem CopiedH.small {ts us : List Hd} (h : CopiedH ts us) (hs : ∀ t ∈ ts, t.p.l.length ≤ 1048576 ∧ t.x.l.length ≤ 1048576) : ∀ u ∈ us, u.p.l.length ≤ 1048576 ∧ u.x.l.length ≤ 1048576 := fun u hu => by
  obtain ⟨i, hi⟩ := List.mem_iff_getElem?.1 hu
  obtain ⟨t, ht⟩ : ∃ t, ts[i]? = some t := ⟨ts[i]'(by have := (List.getElem?_eq_some_iff.1 hi).1; have := h.len; omega), List.getElem?_eq_getElem _⟩
  obtain ⟨g, k, hg⟩ := h.at_ i t ht
  rw [hi] at hg
  cases hg
  exact hs t (List.mem_of_getElem? ht)

def leftH (left : Int) (t : Hd) : Int := if leftN left t.nm.size t.p.l.length < 0 then -1 else leftB (leftN left t.nm.size t.p.l.length) t.x.l.length
theorem leftH_left (left : Int) (t : Hd) (h1 : left ≤ 1048576) : -1 ≤ leftH left t ∧ leftH left t ≤ 1048576 := by
  have hx := leftN_left left t.nm.size t.p.l.length h1
  unfold leftH
  split
  · omega
  · unfold leftB
    split <;> omega
theorem leftH_small {left : Int} {t : Hd} (h1 : left ≤ 1048576) (h : 0 ≤ leftH left t) : t.p.l.length ≤ 1048576 ∧ t.x.l.length ≤ 1048576 := by
  have hx := leftN_left left t.nm.size t.p.l.length h1
  unfold leftH at h
  split at h
  · omega
  · rename_i hn
    refine ⟨leftN_small (z := t.nm.size) h1 (by omega), ?_⟩
    unfold leftB at h
    split at h <;> omega
def leftHs (left : Int) (ts : List Hd) : Int := ts.foldl leftH (leftB left ts.length)
theorem leftH_neg {left : Int} {t : Hd} (h : left < 0) : leftH left t = -1 := by unfold leftH leftN; rw [if_pos (by omega : left - (t.nm.size : Int) < 0)]; simp
theorem foldH_neg : ∀ (ts : List Hd) (left : Int), left = -1 → ts.foldl leftH left = -1
  | [], _, h => h
  | t :: ts, left, h => by rw [List.foldl_cons]; exact foldH_neg ts _ (leftH_neg (by omega))
theorem foldH_take (ts : List Hd) (left : Int) {k : Nat} {t : Hd} (h : ts[k]? = some t) : (ts.take (k + 1)).foldl leftH left = leftH ((ts.take k).foldl leftH left) t := by
  rw [List.take_add_one, h]; simp [List.foldl_append]
theorem foldH_split (ts : List Hd) (left : Int) (k : Nat) : ts.foldl leftH left = (ts.drop k).foldl leftH ((ts.take k).foldl leftH left) := by
  rw [← List.foldl_append, List.take_append_drop]
theorem foldH_range (ts : List Hd) (left : Int) (h0 : -1 ≤ left) (h1 : left ≤ 1048576) : -1 ≤ ts.foldl leftH left ∧ ts.foldl leftH left ≤ 1048576 := by
  induction ts generalizing left with
  | nil => exact ⟨h0, h1⟩
  | cons t ts ih => rw [List.foldl_cons]; have := leftH_left left t h1; exact ih _ this.1 this.2
theorem foldH_small : ∀ (ts : List Hd) (left : Int), -1 ≤ left → left ≤ 1048576 → 0 ≤ ts.foldl leftH left → ∀ t ∈ ts, t.p.l.length ≤ 1048576 ∧ t.x.l.length ≤ 1048576
  | [], _, _, _, _, _, ht => by simp at ht
  | s :: ts, left, h0, h1, h, t, ht => by
    rw [List.foldl_cons] at h
    have hr := leftH_left left s h1
    by_cases hn : leftH left s < 0
    · rw [foldH_neg ts _ (by omega)] at h; omega
    rcases List.mem_cons.1 ht with rfl | ht
    · exact leftH_small h1 (by omega)
    · exact foldH_small ts _ hr.1 hr.2 h t ht
end Go.Proofs.YtgjleeamhkolhaaGreatDoor

namespace Go.Proofs.YtgjleeamhkolhaaGreatDoor
open Go.RowKit

set_option maxHeartbeats 1000000 in
theorem szHeld_any (t : Hd) (left : Int) (w : World) (hn : t.nm.size ≤ maxLen) (hl : t.p.l.length ≤ maxLen) (hz : t.x.l.length ≤ maxLen) (h0 : -1 ≤ left) (h1 : left ≤ 1048576) :
    Calls Tryz.prog 51 #[t.val, .int .i64 left] w fun e w' => e = .returned (.int .i64 (leftH left t)) ∧ Below w.heap.size w w' := by
  have T0 := HdIn.new w t 90
  have wr : IntKind.i64.wrap (left - (t.nm.size : Int)) = left - t.nm.size := by unfold maxLen at hn; rw [IntKind.wrap_i64]; omega
  by_cases h : left - t.nm.size < 0
  · have G : Hid (leftH left t = -1) := by show _ = _; unfold leftH leftN; rw [if_pos h]; simp
    go_enter Tryz.func51, Tryz.ntmps51
    go_wp2
    go_ret
    exact ⟨by rw [G.out]; rfl, bel1 _⟩
  · have E : leftN left t.nm.size t.p.l.length = leftB (left - t.nm.size) t.p.l.length := by unfold leftN; rw [if_neg h]
    have hx := leftB_left (left - t.nm.size) t.p.l.length (by omega) (by omega)
    have h0' : -1 ≤ left - (t.nm.size : Int) := by omega
    have h1' : left - (t.nm.size : Int) ≤ 1048576 := by omega
    by_cases h2 : leftB (left - t.nm.size) t.p.l.length < 0
    · have G : Hid (leftH left t = -1) := by show _ = _; unfold leftH; rw [E, if_pos h2]
      have G2 : Hid (leftB (left - t.nm.size) t.p.l.length = -1) := by show _ = _; omega
      clear E
      go_enter Tryz.func51, Tryz.ntmps51
      go_wp2_with fail
      refine (szPath_any _ _ _ _ _ _ _ _ _ hl h0' h1').mono ?_
      rintro e w1 ⟨rfl, hb1⟩
      go_wp2
      go_ret
      exact ⟨by rw [G.out]; rfl, (bel1 _).trans (hb1.mono (by simp))⟩
    · have G : Hid (leftH left t = leftB (leftB (left - t.nm.size) t.p.l.length) t.x.l.length) := by show _ = _; unfold leftH; rw [E, if_neg h2]
      clear E
      go_enter Tryz.func51, Tryz.ntmps51
      go_wp2_with fail
      refine (szPath_any _ _ _ _ _ _ _ _ _ hl h0' h1').mono ?_
      rintro e w1 ⟨rfl, hb1⟩
      have B1 : Below w.heap.size w w1 := (bel1 _).trans (hb1.mono (by simp))
      have T1 := T0.keep hb1 T0.lt
      obtain ⟨c0, c1, c2, c3, c4, c5, c6, c7, c8, c9, c10, c11, c12⟩ := cl_cells T1.cs
      simp only [Nat.zero_add] at c0 c1 c2 c3 c4 c5 c6 c7 c8 c9 c10 c11 c12
      generalize leftB (left - t.nm.size) t.p.l.length = L at *
      have hy := leftB_left L t.x.l.length (by omega) (by omega)
      have hL0 : -1 ≤ L := by omega
      have hL1 : L ≤ 1048576 := by omega
      clear T0 T1
      go_wp2_with fail
      refine (szPath_any _ _ _ _ _ _ _ _ _ hz hL0 hL1).mono ?_
      rintro e w2 ⟨rfl, hb2⟩
      by_cases h3 : leftB L t.x.l.length < 0
      · have G3 : Hid (leftB L t.x.l.length = -1) := by show _ = _; omega
        go_wp2
        go_ret
        exact ⟨by rw [G.out, G3.out]; rfl, B1.trans (hb2.mono B1.size)⟩
      · go_wp2
        go_ret
        exact ⟨by rw [G.out]; rfl, B1.trans (hb2.mono B1.size)⟩

theorem szHelds_any (a : Option Addr) (b o cap : Nat) (ts : List Hd) (left : Int) (w : World) (hl : ts.length ≤ maxLen) (ht : ∀ t ∈ ts, t.nm.size ≤ maxLen ∧ t.p.l.length ≤ maxLen ∧ t.x.l.length ≤ maxLen) (h0 : -1 ≤ left) (h1 : left ≤ 1048576) (hs : HdsAt w a b o ts) :
    Calls Tryz.prog 21 #[.slice a ts.length cap, .int .i64 left] w fun e w' => e = .returned (.int .i64 (leftHs left ts)) ∧ Below w.heap.size w w' := by
  have wrp : IntKind.i64.wrap (left - (ts.length : Int)) = left - ts.length := by unfold maxLen at hl; rw [IntKind.wrap_i64]; omega
  by_cases h : left - ts.length < 0
  · have G : Hid (leftHs left ts = -1) := by show _ = _; unfold leftHs leftB; rw [if_pos h]; exact foldH_neg ts _ rfl
    go_enter Tryz.func21, Tryz.ntmps21
    go_wp2
    go_ret
    exact ⟨by rw [G.out]; rfl, Below.refl _ _⟩
  · have G : Hid (leftHs left ts = ts.foldl leftH (left - ts.length)) := by show _ = _; unfold leftHs leftB; rw [if_neg h]
    have hle : ts.length ≤ 1048576 := by omega
    have HL : Hid (-1 ≤ left - (ts.length : Int) ∧ left - (ts.length : Int) ≤ 1048576) := ⟨by omega, by omega⟩
    go_enter Tryz.func21, Tryz.ntmps21
    go_wp2
    go_loopw [1, 5] (fun v u wr => ∃ k : Nat, k ≤ ts.length ∧ u = .int .i64 k ∧ v = .int .i64 ((ts.take k).foldl leftH (left - ts.length)) ∧ Below w.heap.size w wr) (fun _ u _ => ts.length - (intOf u).toNat)
    case atStart => exact ⟨0, Nat.zero_le _, rfl, rfl, Below.refl _ _⟩
    case round =>
      obtain ⟨k, hk, rfl, rfl, hb⟩ := hrel
      by_cases hlt : k < ts.length
      · obtain ⟨t, htk⟩ : ∃ t, ts[k]? = some t := ⟨ts[k], List.getElem?_eq_getElem hlt⟩
        have hne : ts ≠ [] := by intro e; subst e; simp at hlt
        obtain rfl := hs.here hne
        obtain ⟨c0, c1, c2, c3, c4, c5, c6, c7, c8, c9, c10, c11, c12⟩ := cl_cells ((hs.below hb).cell k t htk)
        have k0 : (0 : Int) ≤ (k : Int) := by omega
        have k1 : (k : Int) < (ts.length : Int) := by omega
        have hm := ht t (List.mem_of_getElem? htk)
        have HT : Hid (ts[k]? = some t) := htk
        have hr := foldH_range (ts.take k) (left - ts.length) HL.out.1 HL.out.2
        have HF : Hid ((ts.take (k + 1)).foldl leftH (left - ts.length) = leftH ((ts.take k).foldl leftH (left - ts.length)) t) := foldH_take ts _ htk
        have HR : Hid (-1 ≤ leftH ((ts.take k).foldl leftH (left - ts.length)) t) := (leftH_left _ t hr.2).1
        have HG : Hid (ts.foldl leftH (left - ts.length) = (ts.drop (k + 1)).foldl leftH ((ts.take (k + 1)).foldl leftH (left - ts.length))) := foldH_split ts _ (k + 1)
        clear htk wrp h
        obtain ⟨r0, r1⟩ := hr
        generalize (ts.take k).foldl leftH (left - ts.length) = x at *
        go_wp2_with fail
        refine (szHeld_any t _ _ hm.1 hm.2.1 hm.2.2 r0 r1).mono ?_
        rintro e w2 ⟨rfl, hb2⟩
        clear c0 c1 c2 c3 c4 c5 c6 c7 c8 c9 c10 c11 c12
        by_cases h2 : leftH x t < 0
        · have hr2 := HR.out
          have e1 : leftH x t = -1 := by omega
          have G2 : Hid (ts.foldl leftH (left - ts.length) = -1) := by show _ = _; rw [HG.out, HF.out]; exact foldH_neg _ _ e1
          clear e1 hr2
          go_wp2
          go_ret
          exact ⟨by rw [G.out, G2.out]; rfl, hb.trans (hb2.mono hb.size)⟩
        · go_wp2
          go_roundw
          case rel => exact ⟨k + 1, by omega, by go_num, by rw [HF.out], hb.trans (hb2.mono hb.size)⟩
          case measure => simp [intOf]; omega
      · obtain rfl : k = ts.length := by omega
        rw [List.take_length]
        go_wp2
        go_ret
        exact ⟨by rw [G.out]; rfl, hb⟩

set_option maxHeartbeats 2000000 in
theorem eqHeld_same (t u : Hd) (w : World) (hk : t.key = u.key) (hl : t.p.l.length ≤ 1048576) (hz : t.x.l.length ≤ 1048576) (ht : HdAt w t) (hu : HdAt w u) :
    Calls Tryz.prog 73 #[t.val, u.val] w fun e w' => e = .returned (.bool true) ∧ Below w.heap.size w w' := by
  obtain ⟨nm, n, ⟨q, s, fr, b, a, b0, o, cap, l⟩, sn, ⟨q2, s2, fr2, b2, a2, b02, o2, cap2, l2⟩⟩ := t
  obtain ⟨nm', n', ⟨q', s', fr', b', a', b0', o', cap', l'⟩, sn', ⟨q2', s2', fr2', b2', a2', b02', o2', cap2', l2'⟩⟩ := u
  simp only [Hd.key, Pt.key, Prod.mk.injEq] at hk hl hz
  obtain ⟨rfl, rfl, ⟨rfl, rfl, rfl, rfl, rfl⟩, rfl, rfl, rfl, rfl, rfl, rfl⟩ := hk
  have X0 := (HdIn.new w ⟨nm, n, ⟨q, s, fr, b, a, b0, o, cap, l⟩, sn, ⟨q2, s2, fr2, b2, a2, b02, o2, cap2, l2⟩⟩ 63).keep (bel1 (.cells #[.string nm, .int .i64 n, .int .i64 q, .int .i64 s, .slice a' l.length cap', .int .i64 fr, .int .i64 b, .int .i64 sn, .int .i64 q2, .int .i64 s2, .slice a2' l2.length cap2', .int .i64 fr2, .int .i64 b2] 63)) (by simp)
  have Y0 := HdIn.new (w.alloc (.cells #[.string nm, .int .i64 n, .int .i64 q, .int .i64 s, .slice a l.length cap, .int .i64 fr, .int .i64 b, .int .i64 sn, .int .i64 q2, .int .i64 s2, .slice a2 l2.length cap2, .int .i64 fr2, .int .i64 b2] 63)) ⟨nm, n, ⟨q, s, fr, b, a', b0', o', cap', l⟩, sn, ⟨q2, s2, fr2, b2, a2', b02', o2', cap2', l2⟩⟩ 63
  have B0 := bel2 (w := w) (.cells #[.string nm, .int .i64 n, .int .i64 q, .int .i64 s, .slice a l.length cap, .int .i64 fr, .int .i64 b, .int .i64 sn, .int .i64 q2, .int .i64 s2, .slice a2 l2.length cap2, .int .i64 fr2, .int .i64 b2] 63) (.cells #[.string nm, .int .i64 n, .int .i64 q, .int .i64 s, .slice a' l.length cap', .int .i64 fr, .int .i64 b, .int .i64 sn, .int .i64 q2, .int .i64 s2, .slice a2' l2.length cap2', .int .i64 fr2, .int .i64 b2] 63)
  have t2 := ht.below B0
  have u2 := hu.below B0
  go_enter Tryz.func73, Tryz.ntmps73
  go_wp2_with fail
  refine (eqPath_same _ _ _ _ _ _ b0 o _ b0' o' _ l _ hl t2.p u2.p).mono ?_
  rintro e w1 ⟨rfl, hb1⟩
  have X1 := X0.keep hb1 X0.lt
  have Y1 := Y0.keep hb1 Y0.lt
  have B1 := B0.trans (hb1.mono B0.size)
  simp only [World.size_alloc] at Y1
  obtain ⟨c0, c1, c2, c3, c4, c5, c6, c7, c8, c9, c10, c11, c12⟩ := cl_cells X1.cs
  obtain ⟨d0, d1, d2, d3, d4, d5, d6, d7, d8, d9, d10, d11, d12⟩ := cl_cells Y1.cs
  simp only [Nat.zero_add] at c0 c1 c2 c3 c4 c5 c6 c7 c8 c9 c10 c11 c12 d0 d1 d2 d3 d4 d5 d6 d7 d8 d9 d10 d11 d12
  have t3 := t2.below hb1
  have u3 := u2.below hb1
  clear X0 Y0 B0 t2 u2 hb1 X1 Y1
  go_wp2_with fail
  refine (eqPath_same _ _ _ _ _ _ b02 o2 _ b02' o2' _ l2 _ hz t3.x u3.x).mono ?_
  rintro e w2 ⟨rfl, hb2⟩
  go_wp2
  go_ret
  exact ⟨rfl, B1.trans (hb2.mono B1.size)⟩

theorem there_putB {w : World} {b o n : Nat} (h : w.there b o n) {p : Addr} (hp : p.block ≠ b) (v : Value) : (w.setCell p v).there b o n := fun j hj => by
  have hb := heap_setCell_other w p b v (Ne.symm hp)
  exact ⟨by rw [World.cell?_of_block (a := ⟨b, o + j, none⟩) hb]; exact (h j hj).1, by rw [World.frozen?_of_block (a := ⟨b, o + j, none⟩) hb]; exact (h j hj).2⟩

set_option maxRecDepth 20000 in
set_option maxHeartbeats 2000000 in
theorem toHeld_more (t : Hd) (w : World) (hl : t.p.l.length ≤ 1048576) (hz : t.x.l.length ≤ 1048576) (h : HdAt w t) :
    Calls Tryz.prog 62 #[t.val] w fun e w' => ∃ g h, e = .returned (t.put g h).val ∧ w.heap.size ≤ g ∧ g < h ∧ h < w'.heap.size ∧ HdAt w' (t.put g h) ∧ Below w.heap.size w w' ∧ (∀ i, i < t.p.l.length → w'.there g (i * 7) 7) ∧ ∀ i, i < t.x.l.length → w'.there h (i * 7) 7 := by
  have B0 := bel3 (w := w) (.cells #[.string t.nm, .int .i64 t.n, .int .i64 t.p.q, .int .i64 t.p.s, .slice t.p.a t.p.l.length t.p.cap, .int .i64 t.p.fr, .int .i64 t.p.b, .int .i64 t.sn, .int .i64 t.x.q, .int .i64 t.x.s, .slice t.x.a t.x.l.length t.x.cap, .int .i64 t.x.fr, .int .i64 t.x.b] 90) (.cells #[.string ⟨#[]⟩, .int .i64 0, .int .i64 0, .int .i64 0, .slice none 0 0, .int .i64 0, .int .i64 0, .int .i64 0, .int .i64 0, .int .i64 0, .slice none 0 0, .int .i64 0, .int .i64 0] 63) (.cells #[.string t.nm, .int .i64 t.n, .int .i64 0, .int .i64 0, .slice none 0 0, .int .i64 0, .int .i64 0, .int .i64 0, .int .i64 0, .int .i64 0, .slice none 0 0, .int .i64 0, .int .i64 0] 63)
  have S0 := h.below B0
  go_enter Tryz.func62, Tryz.ntmps62
  go_wp2_with fail
  refine (toPath_more _ _ _ _ _ t.p.b0 t.p.o _ _ _ hl S0.p).mono ?_
  rintro e w1 ⟨g, rfl, hg, hg', hs1, hb1, hth1⟩
  obtain ⟨hc1, hf1⟩ := old_cells hb1
  have r0 : ∀ j, w1.cell? ⟨w.heap.size, j, none⟩ = _ := fun j => hc1 w.heap.size j (by simp; omega)
  have r1 : ∀ j, w1.cell? ⟨w.heap.size + 1, j, none⟩ = _ := fun j => hc1 (w.heap.size + 1) j (by simp)
  have r2 : ∀ j, w1.cell? ⟨w.heap.size + 1 + 1, j, none⟩ = _ := fun j => hc1 (w.heap.size + 1 + 1) j (by simp)
  have f1 : ∀ j, w1.frozen? ⟨w.heap.size + 1, j, none⟩ = _ := fun j => hf1 (w.heap.size + 1) j (by simp)
  have f2 : ∀ j, w1.frozen? ⟨w.heap.size + 1 + 1, j, none⟩ = _ := fun j => hf1 (w.heap.size + 1 + 1) j (by simp)
  have B1 : Below w.heap.size w w1 := B0.trans (hb1.mono (by simp; omega))
  simp at hg
  clear hb1 hc1 hf1 S0 B0
  have B2 : Below w.heap.size w ((((((w1.setCell ⟨w.heap.size + 1 + 1, 2, none⟩ (.int .i64 t.p.q)).setCell ⟨w.heap.size + 1 + 1, 3, none⟩ (.int .i64 t.p.s)).setCell ⟨w.heap.size + 1 + 1, 4, none⟩ (.slice (some ⟨g, 0, none⟩) t.p.l.length t.p.l.length)).setCell ⟨w.heap.size + 1 + 1, 5, none⟩ (.int .i64 t.p.fr)).setCell ⟨w.heap.size + 1 + 1, 6, none⟩ (.int .i64 t.p.b)).setCell ⟨w.heap.size + 1 + 1, 7, none⟩ (.int .i64 t.sn)) := by
    iterate 6 (refine Below.setCell ?_ (by simp <;> omega) _)
    exact B1
  have S2 : StepsAt ((((((w1.setCell ⟨w.heap.size + 1 + 1, 2, none⟩ (.int .i64 t.p.q)).setCell ⟨w.heap.size + 1 + 1, 3, none⟩ (.int .i64 t.p.s)).setCell ⟨w.heap.size + 1 + 1, 4, none⟩ (.slice (some ⟨g, 0, none⟩) t.p.l.length t.p.l.length)).setCell ⟨w.heap.size + 1 + 1, 5, none⟩ (.int .i64 t.p.fr)).setCell ⟨w.heap.size + 1 + 1, 6, none⟩ (.int .i64 t.p.b)).setCell ⟨w.heap.size + 1 + 1, 7, none⟩ (.int .i64 t.sn)) (some ⟨g, 0, none⟩) g 0 t.p.l := by
    iterate 6 (refine StepsAt.set ?_ (by simp <;> omega) _)
    exact hs1
  have z2 : ((((((w1.setCell ⟨w.heap.size + 1 + 1, 2, none⟩ (.int .i64 t.p.q)).setCell ⟨w.heap.size + 1 + 1, 3, none⟩ (.int .i64 t.p.s)).setCell ⟨w.heap.size + 1 + 1, 4, none⟩ (.slice (some ⟨g, 0, none⟩) t.p.l.length t.p.l.length)).setCell ⟨w.heap.size + 1 + 1, 5, none⟩ (.int .i64 t.p.fr)).setCell ⟨w.heap.size + 1 + 1, 6, none⟩ (.int .i64 t.p.b)).setCell ⟨w.heap.size + 1 + 1, 7, none⟩ (.int .i64 t.sn)).heap.size = w1.heap.size := by simp [World.setCell]
  have th2 : ∀ i, i < t.p.l.length → ((((((w1.setCell ⟨w.heap.size + 1 + 1, 2, none⟩ (.int .i64 t.p.q)).setCell ⟨w.heap.size + 1 + 1, 3, none⟩ (.int .i64 t.p.s)).setCell ⟨w.heap.size + 1 + 1, 4, none⟩ (.slice (some ⟨g, 0, none⟩) t.p.l.length t.p.l.length)).setCell ⟨w.heap.size + 1 + 1, 5, none⟩ (.int .i64 t.p.fr)).setCell ⟨w.heap.size + 1 + 1, 6, none⟩ (.int .i64 t.p.b)).setCell ⟨w.heap.size + 1 + 1, 7, none⟩ (.int .i64 t.sn)).there g (i * 7) 7 := fun i hi => by
    iterate 6 (refine there_putB ?_ (by simp <;> omega) _)
    exact hth1 i hi
  go_wp2_with fail
  refine (toPath_more _ _ _ _ _ t.x.b0 t.x.o _ _ _ hz (h.x.below B2 h.x.lt)).mono ?_
  rintro e w2 ⟨x, rfl, hx, hx', hs2, hb2, hti2⟩
  have S3 := S2.below hb2 (fun _ => by rw [z2]; exact hg')
  have th3 : ∀ i, i < t.p.l.length → w2.there g (i * 7) 7 := fun i hi => there_below (th2 i hi) hb2 (by rw [z2]; exact hg')
  obtain ⟨hc2, hf2⟩ := old_cells hb2
  rw [z2] at hx
  have q1 : ∀ j, w2.cell? ⟨w.heap.size + 1, j, none⟩ = _ := fun j => hc2 (w.heap.size + 1) j (by rw [z2]; omega)
  have q2 : ∀ j, w2.cell? ⟨w.heap.size + 1 + 1, j, none⟩ = _ := fun j => hc2 (w.heap.size + 1 + 1) j (by rw [z2]; omega)
  have e1 : ∀ j, w2.frozen? ⟨w.heap.size + 1, j, none⟩ = _ := fun j => hf2 (w.heap.size + 1) j (by rw [z2]; omega)
  have e2 : ∀ j, w2.frozen? ⟨w.heap.size + 1 + 1, j, none⟩ = _ := fun j => hf2 (w.heap.size + 1 + 1) j (by rw [z2]; omega)
  have B3 := B2.trans (hb2.mono (by rw [z2]; exact B1.size))
  clear hb2 hc2 hf2 S2 B2 z2 th2
  go_wp2
  refine bodyPost_ret (v := (t.put g x).val) (by simp [results, Tryz.results62, go_sem, *]) rfl ⟨g, x, rfl, by omega, by omega, by simpa [World.setCell] using hx', ⟨?_, ?_⟩, ?_, ?_, ?_⟩
  · repeat (refine StepsAt.set ?_ (by simp <;> omega) _)
    exact S3
  · repeat (refine StepsAt.set ?_ (by simp <;> omega) _)
    exact hs2
  · repeat (refine Below.setCell ?_ (by simp <;> omega) _)
    exact B3
  · intro i hi
    repeat (refine there_putB ?_ (by simp <;> omega) _)
    exact th3 i hi
  · intro i hi
    repeat (refine there_putB ?_ (by simp <;> omega) _)
    exact hti2 i hi

set_option maxHeartbeats 2000000 in
theorem eqHelds_same (a a' : Option Addr) (b o cap b' o' cap' : Nat) (us vs : List Hd) (w : World) (hl : us.length ≤ 1048576) (hk : us.map Hd.key = vs.map Hd.key) (hsm : ∀ t ∈ us, t.p.l.length ≤ 1048576 ∧ t.x.l.length ≤ 1048576) (hs : HdsAt w a b o us) (hs' : HdsAt w a' b' o' vs) :
    Calls Tryz.prog 39 #[.slice a us.length cap, .slice a' us.length cap'] w fun e w' => e = .returned (.bool true) ∧ Below w.heap.size w w' := by
  have hlv : vs.length = us.length := by have := congrArg List.length hk; simpa using this.symm
  go_enter Tryz.func39, Tryz.ntmps39
  go_wp2
  go_loopw [5] (fun v wr => ∃ k : Nat, k ≤ us.length ∧ v = .int .i64 k ∧ Below w.heap.size w wr) (fun v _ => us.length - (intOf v).toNat)
  case atStart => exact ⟨0, Nat.zero_le _, rfl, Below.refl _ _⟩
  case round =>
    obtain ⟨k, hk1, rfl, hb⟩ := hrel
    by_cases hlt : k < us.length
    · obtain ⟨t, htk⟩ : ∃ t, us[k]? = some t := ⟨us[k], List.getElem?_eq_getElem hlt⟩
      obtain ⟨u, huk⟩ : ∃ t, vs[k]? = some t := ⟨vs[k], List.getElem?_eq_getElem (by omega)⟩
      have hkey : t.key = u.key := by
        have := congrArg (fun l => l[k]?) hk
        simp only [List.getElem?_map, htk, huk] at this
        simpa using this
      have hne : us ≠ [] := by intro e; subst e; simp at hlt
      have hne' : vs ≠ [] := by intro e; subst e; simp at hlv; omega
      obtain rfl := hs.here hne
      obtain rfl := hs'.here hne'
      obtain ⟨c0, c1, c2, c3, c4, c5, c6, c7, c8, c9, c10, c11, c12⟩ := cl_cells ((hs.below hb).cell k t htk)
      obtain ⟨d0, d1, d2, d3, d4, d5, d6, d7, d8, d9, d10, d11, d12⟩ := cl_cells ((hs'.below hb).cell k u huk)
      have k0 : (0 : Int) ≤ (k : Int) := by omega
      have k1 : (k : Int) < (us.length : Int) := by omega
      have hbx : b < wr.heap.size := (hs.below hb).lt hne
      have hbx' : b' < wr.heap.size := (hs'.below hb).lt hne'
      have ht := (hs.below hb).each t (List.mem_of_getElem? htk)
      have hu := (hs'.below hb).each u (List.mem_of_getElem? huk)
      have hm := hsm t (List.mem_of_getElem? htk)
      have HE : Hid (t.key = u.key) := hkey
      clear htk huk hkey hk hlv
      have htd : HdAt wr.drew t := ht.below ((Below.refl _ _).drew)
      have hud : HdAt wr.drew u := hu.below ((Below.refl _ _).drew)
      go_wp2
      go_region_held3 (fun w' => w'.cell? ⟨b, o + k * 13, none⟩ = some (.string t.nm) ∧ w'.cell? ⟨b, o + k * 13 + 1, none⟩ = some (.int .i64 t.n) ∧ w'.cell? ⟨b, o + k * 13 + 2, none⟩ = some (.int .i64 t.p.q) ∧ w'.cell? ⟨b, o + k * 13 + 3, none⟩ = some (.int .i64 t.p.s) ∧ w'.cell? ⟨b, o + k * 13 + 4, none⟩ = some (.slice t.p.a t.p.l.length t.p.cap) ∧ w'.cell? ⟨b, o + k * 13 + 5, none⟩ = some (.int .i64 t.p.fr) ∧ w'.cell? ⟨b, o + k * 13 + 6, none⟩ = some (.int .i64 t.p.b) ∧ w'.cell? ⟨b, o + k * 13 + 7, none⟩ = some (.int .i64 t.sn) ∧ w'.cell? ⟨b, o + k * 13 + 8, none⟩ = some (.int .i64 t.x.q) ∧ w'.cell? ⟨b, o + k * 13 + 9, none⟩ = some (.int .i64 t.x.s) ∧ w'.cell? ⟨b, o + k * 13 + 10, none⟩ = some (.slice t.x.a t.x.l.length t.x.cap) ∧ w'.cell? ⟨b, o + k * 13 + 11, none⟩ = some (.int .i64 t.x.fr) ∧ w'.cell? ⟨b, o + k * 13 + 12, none⟩ = some (.int .i64 t.x.b) ∧ w'.cell? ⟨b', o' + k * 13, none⟩ = some (.string u.nm) ∧ w'.cell? ⟨b', o' + k * 13 + 1, none⟩ = some (.int .i64 u.n) ∧ w'.cell? ⟨b', o' + k * 13 + 2, none⟩ = some (.int .i64 u.p.q) ∧ w'.cell? ⟨b', o' + k * 13 + 3, none⟩ = some (.int .i64 u.p.s) ∧ w'.cell? ⟨b', o' + k * 13 + 4, none⟩ = some (.slice u.p.a u.p.l.length u.p.cap) ∧ w'.cell? ⟨b', o' + k * 13 + 5, none⟩ = some (.int .i64 u.p.fr) ∧ w'.cell? ⟨b', o' + k * 13 + 6, none⟩ = some (.int .i64 u.p.b) ∧ w'.cell? ⟨b', o' + k * 13 + 7, none⟩ = some (.int .i64 u.sn) ∧ w'.cell? ⟨b', o' + k * 13 + 8, none⟩ = some (.int .i64 u.x.q) ∧ w'.cell? ⟨b', o' + k * 13 + 9, none⟩ = some (.int .i64 u.x.s) ∧ w'.cell? ⟨b', o' + k * 13 + 10, none⟩ = some (.slice u.x.a u.x.l.length u.x.cap) ∧ w'.cell? ⟨b', o' + k * 13 + 11, none⟩ = some (.int .i64 u.x.fr) ∧ w'.cell? ⟨b', o' + k * 13 + 12, none⟩ = some (.int .i64 u.x.b))
        (simp [go_sem, *])
        (first
          | (go_at_call 73; refine (eqHeld_same t u _ HE.out hm.1 hm.2 htd hud).mono ?_; rintro e w1 ⟨rfl, hb1⟩; have hc1 : ∀ j, w1.cell? ⟨b, j, none⟩ = wr.cell? ⟨b, j, none⟩ := (fun j => hb1.cell (p := ⟨b, j, none⟩) hbx); have hc2 : ∀ j, w1.cell? ⟨b', j, none⟩ = wr.cell? ⟨b', j, none⟩ := (fun j => hb1.cell (p := ⟨b', j, none⟩) hbx'))
          | fail)
      go_wp2
      go_roundw
      case rel => exact ⟨k + 1, by omega, by go_num, hb.drew.trans (hb1.mono hb.size)⟩
      case measure => simp [intOf]; omega
    · go_wp2
      go_ret
      exact ⟨rfl, hb⟩
end Go.Proofs.YtgjleeamhkolhaaGreatDoor

namespace Go.Proofs.YtgjleeamhkolhaaGreatDoor
open Go.RowKit

theorem held_info : (Tryz.prog.info? 63).map (fun i => (i.zero, i.size, i.bytes)) = some (some (.agg #[.string ⟨#[]⟩, .int .i64 0, .int .i64 0, .int .i64 0, .slice none 0 0, .int .i64 0, .int .i64 0, .int .i64 0, .int .i64 0, .int .i64 0, .slice none 0 0, .int .i64 0, .int .i64 0]), 13, 144) := by kernel_rfl
theorem held_size : (Tryz.prog.info? 63).map (·.size) = some 13 := by kernel_rfl
theorem held_one (t : Hd) : ((#[.string t.nm, .int .i64 t.n, .int .i64 t.p.q, .int .i64 t.p.s, .slice t.p.a t.p.l.length t.p.cap, .int .i64 t.p.fr, .int .i64 t.p.b, .int .i64 t.sn, .int .i64 t.x.q, .int .i64 t.x.s, .slice t.x.a t.x.l.length t.x.cap, .int .i64 t.x.fr, .int .i64 t.x.b] : Array Value).all (·.oneCell')) = true := by simp [Value.oneCell']
theorem store_held {ops : Array Oper} {rest : List Oper} {op : Oper} {a : Act} {w : World} {Q : Exit → Act → World → Prop} (hgd : op.guard = none) (x y : Operand) (ho : op.op = .store 63 x y)
    (b o : Nat) (t : Hd) (hx : a.eval x = .pointer (some ⟨b, o, none⟩)) (hy : a.eval y = t.val) (ht : w.there b o 13) (h : wpList Tryz.prog ops Q rest (a.put op.dst undef) (w.setCells b o t.cl)) : wpList Tryz.prog ops Q (op :: rest) a w :=
  wpList_store_mid hgd 63 x y ho b o _ hx hy ht held_size (held_one t) h

theorem heap_setCells_otherB (b : Nat) : ∀ (vs : List Value) (o : Nat) (w : World) (B : Nat), B ≠ b → (w.setCells b o vs).heap[B]? = w.heap[B]?
  | [], _, _, _, _ => rfl
  | v :: vs, o, w, B, hB => by
    show ((w.setCell ⟨b, o, none⟩ v).setCells b (o + 1) vs).heap[B]? = _
    rw [heap_setCells_otherB b vs (o + 1) _ B hB]
    exact heap_setCell_other w ⟨b, o, none⟩ B v hB

structure HdPut (w : World) (lo : Nat) (t u : Hd) : Prop where
  it : ∃ g h, u = t.put g h ∧ lo < g ∧ lo < h ∧ g < w.heap.size ∧ h < w.heap.size ∧ (∀ i, i < t.p.l.length → w.there g (i * 7) 7) ∧ ∀ i, i < t.x.l.length → w.there h (i * 7) 7
  at_ : HdAt w u
theorem HdPut.blocks {w w' : World} {lo : Nat} {t u : Hd} (h : HdPut w lo t u) (hs : w.heap.size ≤ w'.heap.size) (hb : ∀ k, lo < k → k < w.heap.size → w'.heap[k]? = w.heap[k]?) : HdPut w' lo t u := by
  obtain ⟨g, k, rfl, h1, h2, h3, h4, h5, h6⟩ := h.it
  refine ⟨⟨g, k, rfl, h1, h2, by omega, by omega, fun i hi => ?_, fun i hi => ?_⟩, ⟨?_, ?_⟩⟩
  · exact fun j hj => ⟨by rw [World.cell?_of_block (a := ⟨g, i * 7 + j, none⟩) (hb g h1 h3)]; exact (h5 i hi j hj).1, by rw [World.frozen?_of_block (a := ⟨g, i * 7 + j, none⟩) (hb g h1 h3)]; exact (h5 i hi j hj).2⟩
  · exact fun j hj => ⟨by rw [World.cell?_of_block (a := ⟨k, i * 7 + j, none⟩) (hb k h2 h4)]; exact (h6 i hi j hj).1, by rw [World.frozen?_of_block (a := ⟨k, i * 7 + j, none⟩) (hb k h2 h4)]; exact (h6 i hi j hj).2⟩
  · exact ⟨h.at_.p.here, fun hn => Nat.lt_of_lt_of_le (h.at_.p.lt hn) hs, fun i s hi j v hv => by rw [World.cell?_of_block (w := w) (a := ⟨g, 0 + i * 7 + j, none⟩) (hb g h1 h3)]; exact h.at_.p.cell i s hi j v hv⟩
  · exact ⟨h.at_.x.here, fun hn => Nat.lt_of_lt_of_le (h.at_.x.lt hn) hs, fun i s hi j v hv => by rw [World.cell?_of_block (w := w) (a := ⟨k, 0 + i * 7 + j, none⟩) (hb k h2 h4)]; exact h.at_.x.cell i s hi j v hv⟩

structure HdsPut (w : World) (g : Nat) (ts us : List Hd) : Prop where
  lt : g < w.heap.size
  len : us.length = ts.length
  there : ∀ i, i < ts.length → w.there g (i * 13) 13
  at_ : ∀ (i : Nat) (t : Hd), ts[i]? = some t → ∃ u, us[i]? = some u ∧ HdPut w g t u ∧ w.rangeAt g (i * 13) u.cl
theorem HdsPut.copied {w : World} {g : Nat} {ts us : List Hd} (h : HdsPut w g ts us) : CopiedH ts us := ⟨h.len, fun i t hi => by
  obtain ⟨u, h1, h2, _⟩ := h.at_ i t hi
  obtain ⟨a, b, rfl, _⟩ := h2.it
  exact ⟨a, b, h1⟩⟩
theorem HdsPut.rows {w : World} {g : Nat} {ts us : List Hd} (h : HdsPut w g ts us) : HdsAt w (some ⟨g, 0, none⟩) g 0 us := by
  have back : ∀ (i : Nat) (u : Hd), us[i]? = some u → ∃ t, HdPut w g t u ∧ w.rangeAt g (i * 13) u.cl := fun i u hu => by
    have hil : i < ts.length := by have := (List.getElem?_eq_some_iff.1 hu).1; have := h.len; omega
    obtain ⟨u', q1, q2, q3⟩ := h.at_ i ts[i] (List.getElem?_eq_getElem hil)
    rw [hu] at q1
    cases q1
    exact ⟨_, q2, q3⟩
  refine ⟨fun _ => rfl, fun _ => h.lt, fun i u hu => ?_, fun u hu => ?_⟩
  · obtain ⟨_, _, q3⟩ := back i u hu
    simpa using q3
  · obtain ⟨i, hi⟩ := List.mem_iff_getElem?.1 hu
    obtain ⟨_, q2, _⟩ := back i u hi
    exact q2.at_
theorem HdsPut.below {w w' : World} {g : Nat} {ts us : List Hd} (h : HdsPut w g ts us) (hb : Below w.heap.size w w') : HdsPut w' g ts us where
  lt := Nat.lt_of_lt_of_le h.lt hb.size
  len := h.len
  there i hi := there_below (h.there i hi) hb h.lt
  at_ i t hi := by
    obtain ⟨u, q1, q2, q3⟩ := h.at_ i t hi
    exact ⟨u, q1, q2.blocks hb.size (fun k _ hk => hb.block k hk), range_below q3 hb h.lt⟩

theorem HdsPut.set {w : World} {g : Nat} {ts us : List Hd} (h : HdsPut w g ts us) {p : Addr} (hp : p.block < g) (v : Value) : HdsPut (w.setCell p v) g ts us := by
  have hs : (w.setCell p v).heap.size = w.heap.size := by simp [World.setCell]
  have hb : ∀ B, p.block < B → (w.setCell p v).heap[B]? = w.heap[B]? := fun B hB => heap_setCell_other w p B v (by omega)
  refine ⟨by rw [hs]; exact h.lt, h.len, fun i hi j hj => ?_, fun i t hi => ?_⟩
  · exact ⟨by rw [World.cell?_of_block (a := ⟨g, i * 13 + j, none⟩) (hb g hp)]; exact (h.there i hi j hj).1, by rw [World.frozen?_of_block (a := ⟨g, i * 13 + j, none⟩) (hb g hp)]; exact (h.there i hi j hj).2⟩
  · obtain ⟨u, q1, q2, q3⟩ := h.at_ i t hi
    exact ⟨u, q1, q2.blocks (by rw [hs]; exact Nat.le_refl _) (fun k hk _ => hb k (by omega)), fun j v' hv => by rw [World.cell?_of_block (a := ⟨g, i * 13 + j, none⟩) (hb g hp)]; exact q3 j v' hv⟩

set_option maxHeartbeats 4000000 in
set_option maxRecDepth 20000 in
theorem toHelds_any (a : Option Addr) (b o cap : Nat) (ts : List Hd) (w : World) (hl : ts.length ≤ 1048576) (hsm : ∀ t ∈ ts, t.p.l.length ≤ 1048576 ∧ t.x.l.length ≤ 1048576) (hs : HdsAt w a b o ts) :
    Calls Tryz.prog 31 #[.slice a ts.length cap] w
      fun e w' => ∃ g us, e = .returned (.slice (some ⟨g, 0, none⟩) ts.length ts.length) ∧ w.heap.size ≤ g ∧ HdsPut w' g ts us ∧ Below w.heap.size w w' := by
  obtain ⟨i0, hi, hz0, hz1, hz2⟩ := info_parts held_info
  go_enter Tryz.func31, Tryz.ntmps31
  go_wp2_with (first | (at_make; refine wpList_make_full _ rfl _ _ 32 rfl w.heap.size 63 i0 _ 13 Tryz.underlying32 hi hz0 hz1 .i64 .i64 _ _ ts.length rfl rfl rfl rfl (by rw [hz2]; omega) (by unfold maxLen; omega) (Nat.le_refl _) ?_; intro w1 hown1 hgrow1))
  obtain ⟨hlen1, hrow1⟩ := hown1
  have hb1 : Below w.heap.size w w1 := (Below.refl _ _).grown hgrow1 (Nat.le_refl _) (fun k e => by cases e)
  obtain ⟨cur, hcur, hsz⟩ : ∃ cur, w1.heap[w.heap.size]? = some (.cells cur 63 (0, 0)) ∧ cur.size = ts.length * 13 := by
    rcases hrow1 with ⟨h, _⟩ | ⟨g, cap, cur, h, _, hh, _, _, hs, _⟩
    · cases h
    · simp at h
      obtain ⟨rfl, rfl⟩ := h
      exact ⟨cur, hh, hs⟩
  clear hlen1 hrow1 hgrow1
  have hth : ∀ i, i < ts.length → w1.there w.heap.size (i * 13) 13 := fun i hi => there_of_block hcur _ _ (by omega)
  have hgr1 : w.heap.size < w1.heap.size := lt_of_block hcur
  go_loopw [4] (fun v wr => ∃ (k : Nat) (us : List Hd), k ≤ ts.length ∧ v = .int .i64 k ∧ Below w.heap.size w wr ∧ w.heap.size < wr.heap.size ∧ (∀ i, i < ts.length → wr.there w.heap.size (i * 13) 13) ∧ us.length = k ∧ (∀ (i : Nat) (t : Hd), i < k → ts[i]? = some t → ∃ u, us[i]? = some u ∧ HdPut wr w.heap.size t u ∧ wr.rangeAt w.heap.size (i * 13) u.cl))
    (fun v _ => ts.length - (intOf v).toNat)
  case atStart => exact ⟨0, [], Nat.zero_le _, rfl, hb1, hgr1, hth, rfl, fun i s h => absurd h (by omega)⟩
  case round =>
    obtain ⟨k, us, hk, rfl, hb, hgr, hthr, hul, hdone⟩ := hrel
    by_cases hlt : k < ts.length
    · obtain ⟨t, htk⟩ : ∃ t, ts[k]? = some t := ⟨ts[k], List.getElem?_eq_getElem hlt⟩
      have hne : ts ≠ [] := by intro e; subst e; simp at hlt
      obtain rfl := hs.here hne
      obtain ⟨c0, c1, c2, c3, c4, c5, c6, c7, c8, c9, c10, c11, c12⟩ := cl_cells ((hs.below hb).cell k t htk)
      have k0 : (0 : Int) ≤ (k : Int) := by omega
      have k1 : (k : Int) < (ts.length : Int) := by omega
      have hm := List.mem_of_getElem? htk
      have HK : Hid (ts[k]? = some t) := htk
      clear htk
      go_wp2_with fail
      refine (toHeld_more t _ (hsm t hm).1 (hsm t hm).2 ((hs.each t hm).below hb)).mono ?_
      rintro e w2 ⟨g2, h2, rfl, hg2, hgh2, hh2, hs2, hb2, hta2, htb2⟩
      have hth2 : w2.there w.heap.size (k * 13) 13 := there_below (hthr k hlt) hb2 hgr
      have HT : Hid (w2.there w.heap.size (k * 13) 13) := hth2
      clear c0 c1 c2 c3 c4 c5 c6 c7 c8 c9 c10 c11 c12
      go_wp2_with (refine store_held rfl (.tmp 21) (.tmp 20) rfl w.heap.size (k * 13) (t.put g2 h2) rfl rfl hth2 ?_; clear hth2)
      go_roundw
      case rel =>
        have hob : ∀ B, B ≠ w.heap.size → (w2.setCells w.heap.size (k * 13) (t.put g2 h2).cl).heap[B]? = w2.heap[B]? := fun B hB => heap_setCells_otherB w.heap.size _ _ w2 B hB
        have hsz2 : (w2.setCells w.heap.size (k * 13) (t.put g2 h2).cl).heap.size = w2.heap.size := size_setCells _ _ _ _
        refine ⟨k + 1, us ++ [t.put g2 h2], by omega, by go_num, below_setCells (Nat.le_refl _) _ _ _ _ (hb.trans (hb2.mono (by have := hb.size; omega))), ?_, ?_, by simp; omega, ?_⟩
        · rw [hsz2]; have := hb2.size; omega
        · intro i hi
          exact World.there_setCells (there_below (hthr i hi) hb2 hgr) _ _ _
        · intro i s hi hs'
          by_cases hik : i = k
          · subst hik
            obtain rfl : t = s := by rw [HK.out] at hs'; simpa using hs'
            have P2 : HdPut w2 w.heap.size t (t.put g2 h2) := ⟨⟨g2, h2, rfl, by omega, by omega, by omega, hh2, hta2, htb2⟩, hs2⟩
            exact ⟨_, by rw [List.getElem?_append_right (by omega), hul]; simp, P2.blocks (by rw [hsz2]; exact Nat.le_refl _) (fun B hB _ => hob B (by omega)), World.rangeAt_setCells_same _ _ _ _ HT.out⟩
          · obtain ⟨u, q1, q2, q3⟩ := hdone i s (by omega) hs'
            exact ⟨u, by rw [List.getElem?_append_left (by omega)]; exact q1, (q2.blocks hb2.size (fun B _ hB => hb2.block B hB)).blocks (by rw [hsz2]; exact Nat.le_refl _) (fun B hB _ => hob B (by omega)), World.rangeAt_setCells_apart (range_below q3 hb2 hgr) _ _ _ (by right; left; simp; omega)⟩
      case measure => simp [intOf]; omega
    · have hkl : k = ts.length := by omega
      subst hkl
      go_wp2
      go_ret
      exact ⟨w.heap.size, us, rfl, Nat.le_refl _, ⟨hgr, hul, hthr, fun i t hi => hdone i t (List.getElem?_eq_some_iff.1 hi).1 hi⟩, hb⟩
end Go.Proofs.YtgjleeamhkolhaaGreatDoor

namespace Go.Proofs.YtgjleeamhkolhaaGreatDoor
open Go.RowKit

def digT (n : Nat) (t : ByteArray) : ByteArray := { data := #[48 + UInt8.ofNat (n % 10)] } ++ t
theorem digT_size (n : Nat) (t : ByteArray) : (digT n t).size = t.size + 1 := by
  unfold digT
  rw [ByteArray.size_append]
  show 1 + _ = _
  omega
def mtF : Nat → Nat → ByteArray → ByteArray
  | 0, _, t => t
  | f + 1, n, t => if n = 0 then t else mtF f (n / 10) (digT n t)
theorem mtF_zero (f : Nat) (t : ByteArray) : mtF f 0 t = t := by cases f <;> rfl
theorem mtF_succ (f : Nat) {n : Nat} (t : ByteArray) (h : ¬ n = 0) : mtF (f + 1) n t = mtF f (n / 10) (digT n t) := by
  show (if n = 0 then _ else _) = _
  rw [if_neg h]
def mtOf (k : Int) : ByteArray := { data := #[109] } ++ (if k ≤ 0 then { data := #[48] } else mtF 13 k.toNat { data := #[] })

theorem conv1 (W : World) (d : Int) : (convert 158 9 (.slice (some ⟨W.heap.size, 0, none⟩) 1 1)).run Tryz.prog (W.alloc (.cells #[.int .u8 d] 5)) = .ok (.string { data := #[UInt8.ofNat d.toNat] }) (W.alloc (.cells #[.int .u8 d] 5)) := by
  rw [run_convert_bytes_string _ _ _ 5 _ 1 1 Tryz.underlying158 Tryz.underlying5 Tryz.underlying9]
  have hl := run_loadCells_list (P := Tryz.prog) (W.alloc (.cells #[.int .u8 d] 5)) ⟨W.heap.size, 0, none⟩ ([d].map (Value.int .u8)) (fun j v hj => by
    match j, hj with
    | 0, hj => simp at hj; subst hj; simp [Addr.add, go_sem])
  exact run_bytesToString _ _ 1 1 [d] hl

set_option maxRecDepth 20000 in
set_option maxHeartbeats 400000 in
theorem markText_any (k : Int) (w : World) (h0 : 0 ≤ k) (h1 : k ≤ 1000000000000) :
    Calls Tryz.prog 75 #[.int .i64 k] w fun e w' => e = .returned (.string (mtOf k)) ∧ Below w.heap.size w w' := by
  by_cases hk : k ≤ 0
  · have e1 : mtOf k = { data := #[109, 48] } := by unfold mtOf; rw [if_pos hk]; rfl
    rw [e1]
    clear e1
    go_enter Tryz.func75, Tryz.ntmps75
    go_wp2
    go_ret
    exact ⟨rfl, Below.refl _ _⟩
  · have e1 : Hid (mtOf k = { data := #[109] } ++ mtF 13 k.toNat { data := #[] }) := by show _ = _; unfold mtOf; rw [if_neg hk]
    have cv := conv1
    go_enter Tryz.func75, Tryz.ntmps75
    go_wp2
    go_loopw [0, 3] (fun v u wr => ∃ (f n : Nat) (t : ByteArray), v = .int .i64 n ∧ u = .string t ∧ n < 10 ^ f ∧ f ≤ 13 ∧ t.size + f ≤ 13 ∧ mtF f n t = mtF 13 k.toNat { data := #[] } ∧ Below w.heap.size w wr) (fun v _ _ => (intOf v).toNat)
    case atStart => exact ⟨13, k.toNat, _, by congr 1; omega, rfl, by omega, Nat.le_refl _, by show 0 + 13 ≤ 13; omega, rfl, Below.refl _ _⟩
    case round =>
      obtain ⟨f, n, t, rfl, rfl, hn, hf, ht, he, hb⟩ := hrel
      have HE : Hid (mtF f n t = mtF 13 k.toNat { data := #[] }) := he
      clear he
      by_cases h : n = 0
      · subst h
        go_wp2
        go_ret
        exact ⟨by rw [e1.out, ← HE.out, mtF_zero]; rfl, hb⟩
      · have n0 : (0 : Int) < (n : Int) := by omega
        have n1 : (n : Int) ≤ 10000000000000 := by
          have : 10 ^ f ≤ 10 ^ 13 := Nat.pow_le_pow_right (by omega) hf
          omega
        have HN : Hid (n < 10 ^ f) := hn
        have HT : Hid (t.size + f ≤ 13) := ht
        have HF : Hid (f ≤ 13) := hf
        have htz : t.size ≤ 13 := by omega
        clear hn ht hf
        go_wp2
        have f0 : ¬ f = 0 := by intro e; subst e; have := HN.out; simp at this; omega
        obtain ⟨f', rfl⟩ : ∃ f', f = f' + 1 := ⟨f - 1, by omega⟩
        have a1 := HN.out
        have a2 := HT.out
        have a3 := HF.out
        refine ⟨⟨f', n / 10, digT n t, by congr 1, rfl, ?_, by omega, by rw [digT_size]; omega, ?_, hb.alloc hb.size _⟩, ?_⟩
        · rw [Nat.pow_succ] at a1; omega
        · rw [← mtF_succ f' t h]; exact HE.out
        · show (((n : Int) / 10).toNat) < ((n : Int).toNat)
          omega
end Go.Proofs.YtgjleeamhkolhaaGreatDoor

namespace Go.Proofs.YtgjleeamhkolhaaGreatDoor
open Go.RowKit

end Go.Proofs.YtgjleeamhkolhaaGreatDoor

namespace Go.Proofs.YtgjleeamhkolhaaGreatDoor
open Go.RowKit

def stepCells (l : List Stp) : List Value := l.flatMap Stp.cells
theorem stepCells_cons (t : Stp) (l : List Stp) : stepCells (t :: l) = t.cells ++ stepCells l := by simp [stepCells]
theorem stepCells_length (l : List Stp) : (stepCells l).length = l.length * 7 := by
  induction l with
  | nil => rfl
  | cons t l ih => rw [stepCells_cons, List.length_append, ih]; simp; omega
theorem stepCells_at : ∀ (l : List Stp) (i : Nat) (t : Stp) (j : Nat), l[i]? = some t → j < 7 → (stepCells l)[i * 7 + j]? = t.cells[j]?
  | [], i, t, j, h, _ => by simp at h
  | y :: ys, 0, t, j, h, hj => by
    simp at h
    subst h
    rw [stepCells_cons, List.getElem?_append_left (by simp; omega)]
    simp
  | y :: ys, i + 1, t, j, h, hj => by
    rw [stepCells_cons, List.getElem?_append_right (by simp; omega)]
    have ih := stepCells_at ys i t j (by simpa using h) hj
    rw [← ih]
    congr 1
    simp
    omega
theorem stepCells_one (l : List Stp) : ∀ u ∈ stepCells l, u.oneCell' = true := by
  intro u hu
  simp only [stepCells, List.mem_flatMap] at hu
  obtain ⟨t, _, h⟩ := hu
  simp at h
  rcases h with rfl | rfl | rfl | rfl | rfl | rfl | rfl <;> rfl
theorem steps_news {w : World} {b o : Nat} {l : List Stp} {a : Option Addr} (h : StepsAt w a b o l) : ∀ j u, (stepCells l)[j]? = some u → w.cell? ((⟨b, o, none⟩ : Addr).add j) = some u := by
  intro j u hj
  have hlt : j < l.length * 7 := by rw [← stepCells_length]; exact (List.getElem?_eq_some_iff.1 hj).1
  obtain ⟨i, r, hr, rfl⟩ : ∃ i r, r < 7 ∧ j = i * 7 + r := ⟨j / 7, j % 7, Nat.mod_lt _ (by decide), by omega⟩
  obtain ⟨t, ht⟩ : ∃ t, l[i]? = some t := ⟨l[i], List.getElem?_eq_getElem (by omega)⟩
  rw [stepCells_at l i t r ht hr] at hj
  have := h.cell i t ht r u hj
  rw [Addr.add_mid, ← Nat.add_assoc]
  exact this
theorem steps_owned {w : World} {base e n g cap : Nat} {l : List Stp} (h : w.ownsRow base e 7 (.slice (some ⟨g, 0, none⟩) n cap) n (stepCells l)) : StepsAt w (some ⟨g, 0, none⟩) g 0 l where
  here _ := rfl
  lt _ := (h.lt g rfl).2
  cell i t ht j u hu := by
    have hj : j < 7 := (List.getElem?_eq_some_iff.1 hu).1
    have hn : l.length * 7 = n * 7 := by rw [← stepCells_length]; exact h.1
    have hi : i < l.length := (List.getElem?_eq_some_iff.1 ht).1
    have := (h.cellAt (i * 7 + j) (by omega)).trans (stepCells_at l i t j ht hj)
    rw [Nat.zero_add]
    exact this.trans hu

structure PathAt (w : World) (B : Nat) (q s fr b : Int) (v : Value) : Prop where
  it : w.heap[B]? = some (.cells #[.int .i64 q, .int .i64 s, v, .int .i64 fr, .int .i64 b] 38 (0, 0))
theorem PathAt.new (w : World) (q s fr b : Int) (v : Value) : PathAt (w.alloc (.cells #[.int .i64 q, .int .i64 s, v, .int .i64 fr, .int .i64 b] 38)) w.heap.size q s fr b v := ⟨heap_alloc_new w _⟩
theorem PathAt.lt {w : World} {B : Nat} {q s fr b : Int} {v : Value} (h : PathAt w B q s fr b v) : B < w.heap.size := lt_of_block h.it
theorem PathAt.keep {w w' : World} {B N : Nat} {q s fr b : Int} {v : Value} (h : PathAt w B q s fr b v) (hb : Below N w w') (hB : B < N) : PathAt w' B q s fr b v := ⟨(hb.block B hB).trans h.it⟩
theorem PathAt.set {w : World} {B : Nat} {q s fr b : Int} {v : Value} (h : PathAt w B q s fr b v) {p : Addr} (hp : B ≠ p.block) (u : Value) : PathAt (w.setCell p u) B q s fr b v := ⟨(heap_setCell_other w p B u hp).trans h.it⟩
theorem PathAt.cells {w : World} {B : Nat} {q s fr b : Int} {v : Value} (h : PathAt w B q s fr b v) : (w.cell? ⟨B, 0, none⟩ = some (.int .i64 q) ∧ w.cell? ⟨B, 1, none⟩ = some (.int .i64 s) ∧ w.cell? ⟨B, 2, none⟩ = some v ∧ w.cell? ⟨B, 3, none⟩ = some (.int .i64 fr) ∧ w.cell? ⟨B, 4, none⟩ = some (.int .i64 b)) ∧ ∀ j, w.frozen? ⟨B, j, none⟩ = false := by
  have := h.it
  refine ⟨⟨?_, ?_, ?_, ?_, ?_⟩, fun j => ?_⟩ <;> simp [World.cell?, World.frozen?, this]

structure ResP (w : World) (B : Nat) : Prop where
  lt : B < w.heap.size
  it : w.heap[B]? = some (.cells #[.int .i64 0, .int .i64 0, .slice none 0 0, .int .i64 0, .int .i64 0] 38 (0, 0))
theorem ResP.new (w : World) : ResP (w.alloc (.cells #[.int .i64 0, .int .i64 0, .slice none 0 0, .int .i64 0, .int .i64 0] 38)) w.heap.size := ⟨by simp, heap_alloc_new w _⟩
theorem ResP.keep {w w' : World} {B N : Nat} (h : ResP w B) (hb : Below N w w') (hB : B < N) : ResP w' B := ⟨Nat.lt_of_lt_of_le h.lt hb.size, (hb.block B hB).trans h.it⟩
theorem ResP.set {w : World} {B : Nat} (h : ResP w B) {p : Addr} (hp : B ≠ p.block) (u : Value) : ResP (w.setCell p u) B := ⟨by simpa [World.setCell] using h.lt, (heap_setCell_other w p B u hp).trans h.it⟩
theorem ResP.cells {w : World} {B : Nat} (h : ResP w B) : (w.cell? ⟨B, 0, none⟩ = some (.int .i64 0) ∧ w.cell? ⟨B, 1, none⟩ = some (.int .i64 0) ∧ w.cell? ⟨B, 2, none⟩ = some (.slice none 0 0) ∧ w.cell? ⟨B, 3, none⟩ = some (.int .i64 0) ∧ w.cell? ⟨B, 4, none⟩ = some (.int .i64 0)) ∧ ∀ j, w.frozen? ⟨B, j, none⟩ = false := by
  have := h.it
  refine ⟨⟨?_, ?_, ?_, ?_, ?_⟩, fun j => ?_⟩ <;> simp [World.cell?, World.frozen?, this]

theorem PathAt.grown {w w' : World} {P : Nat} {q s fr b : Int} {v : Value} {row : Option Nat} (h : PathAt w P q s fr b v) (hg : w.grownBy w' row) (hne : row ≠ some P) : PathAt w' P q s fr b v := ⟨(hg.block P h.lt (fun e => hne e.symm)).trans h.it⟩
theorem stepCells_put : ∀ (l : List Stp) (i j : Nat) (t t' : Stp) (u : Value), l[i]? = some t → j < 7 → t'.cells = t.cells.set j u → (stepCells l).set (i * 7 + j) u = stepCells (l.set i t')
  | [], i, _, _, _, _, h, _, _ => by simp at h
  | y :: ys, 0, j, t, t', u, h, hj, he => by
    simp at h
    subst h
    rw [List.set_cons_zero, stepCells_cons, stepCells_cons, he, Nat.zero_mul, Nat.zero_add, List.set_append_left _ _ (by simp; omega)]
  | y :: ys, i + 1, j, t, t', u, h, hj, he => by
    have ih := stepCells_put ys i j t t' u (by simpa using h) hj he
    rw [List.set_cons_succ, stepCells_cons, stepCells_cons, ← ih, List.set_append_right _ _ (by simp; omega)]
    congr 2
    simp
    omega

end Go.Proofs.YtgjleeamhkolhaaGreatDoor

namespace Go.Proofs.YtgjleeamhkolhaaGreatDoor
open Go.RowKit

theorem row_put {w : World} {base g cap n : Nat} {l : List Stp} (h : w.ownsRow base 98 7 (.slice (some ⟨g, 0, none⟩) n cap) n (stepCells l)) {i j : Nat} {t t' : Stp} {u : Value} (ht : l[i]? = some t) (hj : j < 7) (he : t'.cells = t.cells.set j u) :
    (w.setCell ⟨g, i * 7 + j, none⟩ u).ownsRow base 98 7 (.slice (some ⟨g, 0, none⟩) n cap) n (stepCells (l.set i t')) := by
  have hi : i < l.length := (List.getElem?_eq_some_iff.1 ht).1
  have hn : l.length * 7 = n * 7 := by rw [← stepCells_length]; exact h.1
  rw [← stepCells_put l i j t t' u ht hj he]
  exact owns_put h (by omega) u
theorem row_put_set {w : World} {base g cap n : Nat} {l : List Stp} {i j : Nat} {t t' : Stp} {u : Value} (h : w.ownsRow base 98 7 (.slice (some ⟨g, 0, none⟩) n cap) n (stepCells (l.set i t))) (hi : i < l.length) (hj : j < 7) (he : t'.cells = t.cells.set j u) :
    (w.setCell ⟨g, i * 7 + j, none⟩ u).ownsRow base 98 7 (.slice (some ⟨g, 0, none⟩) n cap) n (stepCells (l.set i t')) := by
  have h1 := row_put h (j := j) (t := t) (t' := t') (u := u) (by rw [List.getElem?_set_self hi]) hj he
  rw [List.set_set] at h1
  exact h1
theorem row_put7 {w : World} {base g cap n : Nat} {l : List Stp} (h : w.ownsRow base 98 7 (.slice (some ⟨g, 0, none⟩) n cap) n (stepCells l)) {i : Nat} {t : Stp} (ht : l[i]? = some t) (x y lo hi fr by_ : Int) (ho : Bool) :
    (((((((w.setCell ⟨g, i * 7, none⟩ (.int .i64 x)).setCell ⟨g, i * 7 + 1, none⟩ (.int .i64 y)).setCell ⟨g, i * 7 + 2, none⟩ (.int .i64 lo)).setCell ⟨g, i * 7 + 3, none⟩ (.int .i64 hi)).setCell ⟨g, i * 7 + 4, none⟩ (.int .i64 fr)).setCell ⟨g, i * 7 + 5, none⟩ (.int .i64 by_)).setCell ⟨g, i * 7 + 6, none⟩ (.bool ho)).ownsRow base 98 7 (.slice (some ⟨g, 0, none⟩) n cap) n (stepCells (l.set i { x := x, y := y, lo := lo, hi := hi, fr := fr, by_ := by_, ho := ho })) := by
  have hil : i < l.length := (List.getElem?_eq_some_iff.1 ht).1
  obtain ⟨a0, a1, a2, a3, a4, a5, a6⟩ := t
  have h0 := row_put h (j := 0) (t' := ⟨x, a1, a2, a3, a4, a5, a6⟩) (u := .int .i64 x) ht (by decide) rfl
  have h1 := row_put_set (t := ⟨x, a1, a2, a3, a4, a5, a6⟩) (t' := ⟨x, y, a2, a3, a4, a5, a6⟩) (j := 1) (u := .int .i64 y) h0 hil (by decide) rfl
  have h2 := row_put_set (t := ⟨x, y, a2, a3, a4, a5, a6⟩) (t' := ⟨x, y, lo, a3, a4, a5, a6⟩) (j := 2) (u := .int .i64 lo) h1 hil (by decide) rfl
  have h3 := row_put_set (t := ⟨x, y, lo, a3, a4, a5, a6⟩) (t' := ⟨x, y, lo, hi, a4, a5, a6⟩) (j := 3) (u := .int .i64 hi) h2 hil (by decide) rfl
  have h4 := row_put_set (t := ⟨x, y, lo, hi, a4, a5, a6⟩) (t' := ⟨x, y, lo, hi, fr, a5, a6⟩) (j := 4) (u := .int .i64 fr) h3 hil (by decide) rfl
  have h5 := row_put_set (t := ⟨x, y, lo, hi, fr, a5, a6⟩) (t' := ⟨x, y, lo, hi, fr, by_, a6⟩) (j := 5) (u := .int .i64 by_) h4 hil (by decide) rfl
  exact row_put_set (t := ⟨x, y, lo, hi, fr, by_, a6⟩) (t' := ⟨x, y, lo, hi, fr, by_, ho⟩) (j := 6) (u := .bool ho) h5 hil (by decide) rfl
end Go.Proofs.YtgjleeamhkolhaaGreatDoor

namespace Go.Proofs.YtgjleeamhkolhaaGreatDoor
open Go.RowKit

def markStp (K : Int) : Stp := { x := K, y := K + 1, lo := K + 1 + 1, hi := K + 1 + 1 + 1, fr := K + 1 + 1 + 1 + 1, by_ := K + 1 + 1 + 1 + 1 + 1, ho := (K + 1 + 1 + 1 + 1 + 1 + 1) % 3 == 0 }
def markL (k0 : Int) (n : Nat) : List Stp := (List.range n).map fun i => markStp (k0 + ((i * 7 : Nat) : Int))
def markSTo (k0 : Int) (l : List Stp) (k : Nat) : List Stp := markL k0 k ++ l.drop k
theorem markL_length (k0 : Int) (n : Nat) : (markL k0 n).length = n := by simp [markL]
theorem markL_get (k0 : Int) {n i : Nat} (h : i < n) : (markL k0 n)[i]? = some (markStp (k0 + ((i * 7 : Nat) : Int))) := by simp [markL, h]
theorem markSTo_zero (k0 : Int) (l : List Stp) : markSTo k0 l 0 = l := by simp [markSTo, markL]
theorem markSTo_all (k0 : Int) (l : List Stp) : markSTo k0 l l.length = markL k0 l.length := by simp [markSTo]
theorem markSTo_length (k0 : Int) (l : List Stp) {k : Nat} (h : k ≤ l.length) : (markSTo k0 l k).length = l.length := by simp [markSTo, markL_length]; omega
theorem markSTo_now (k0 : Int) {l : List Stp} {k : Nat} {t : Stp} (h : l[k]? = some t) : (markSTo k0 l k)[k]? = some t := by
  unfold markSTo
  rw [List.getElem?_append_right (by rw [markL_length]; exact Nat.le_refl _), markL_length, List.getElem?_drop, Nat.sub_self, Nat.add_zero]
  exact h
theorem markSTo_succ (k0 : Int) {l : List Stp} {k : Nat} (h : k < l.length) : markSTo k0 l (k + 1) = (markSTo k0 l k).set k (markStp (k0 + ((k * 7 : Nat) : Int))) := by
  apply List.ext_getElem?
  intro i
  by_cases e : i = k
  · subst e
    rw [List.getElem?_set_self (by rw [markSTo_length k0 l (Nat.le_of_lt h)]; exact h)]
    unfold markSTo
    rw [List.getElem?_append_left (by rw [markL_length]; omega), markL_get k0 (by omega)]
  · rw [List.getElem?_set_ne (Ne.symm e)]
    unfold markSTo
    by_cases c : i < k
    · rw [List.getElem?_append_left (by rw [markL_length]; omega), List.getElem?_append_left (by rw [markL_length]; exact c), markL_get k0 (by omega), markL_get k0 c]
    · rw [List.getElem?_append_right (by rw [markL_length]; omega), List.getElem?_append_right (by rw [markL_length]; omega), markL_length, markL_length, List.getElem?_drop, List.getElem?_drop]
      congr 1
      omega

theorem markSteps_nil (k0 : Int) (w : World) : Calls Tryz.prog 43 #[.slice none 0 0, .int .i64 k0] w fun e w' => e = .returned (.int .i64 k0) ∧ w' = w := by
  go_enter Tryz.func43, Tryz.ntmps43
  go_wp2
  go_loopw [1, 5] (fun v u wr => v = .int .i64 k0 ∧ u = .int .i64 0 ∧ wr = w) (fun _ _ _ => 0)
  case atStart => exact ⟨rfl, rfl, rfl⟩
  case round =>
    obtain ⟨rfl, rfl, rfl⟩ := hrel
    go_wp2
    go_ret
    exact ⟨rfl, rfl⟩

theorem heldSteps_nil (k0 : Int) (w : World) : Calls Tryz.prog 76 #[.slice none 0 0, .int .i64 k0] w fun e w' => e = .returned (.int .i64 k0) ∧ w' = w := by
  go_enter Tryz.func76, Tryz.ntmps76
  go_wp2
  go_loopw [1, 5] (fun v u wr => v = .int .i64 k0 ∧ u = .int .i64 0 ∧ wr = w) (fun _ _ _ => 0)
  case atStart => exact ⟨rfl, rfl, rfl⟩
  case round =>
    obtain ⟨rfl, rfl, rfl⟩ := hrel
    go_wp2
    go_ret
    exact ⟨rfl, rfl⟩

end Go.Proofs.YtgjleeamhkolhaaGreatDoor

namespace Go.Proofs.YtgjleeamhkolhaaGreatDoor
open Go.RowKit

def hdCells (us : List Hd) : List Value := us.flatMap Hd.cl
theorem cl_length (t : Hd) : t.cl.length = 13 := rfl
theorem hdCells_cons (t : Hd) (l : List Hd) : hdCells (t :: l) = t.cl ++ hdCells l := by simp [hdCells]
theorem hdCells_length (l : List Hd) : (hdCells l).length = l.length * 13 := by
  induction l with
  | nil => rfl
  | cons t l ih => rw [hdCells_cons, List.length_append, ih, cl_length]; simp; omega
theorem hdCells_append (l m : List Hd) : hdCells (l ++ m) = hdCells l ++ hdCells m := by simp [hdCells]
theorem hdCells_at : ∀ (l : List Hd) (i : Nat) (t : Hd) (j : Nat), l[i]? = some t → j < 13 → (hdCells l)[i * 13 + j]? = t.cl[j]?
  | [], i, t, j, h, _ => by simp at h
  | y :: ys, 0, t, j, h, hj => by
    simp at h
    subst h
    rw [hdCells_cons, List.getElem?_append_left (by rw [cl_length]; omega)]
    simp
  | y :: ys, i + 1, t, j, h, hj => by
    rw [hdCells_cons, List.getElem?_append_right (by rw [cl_length]; omega)]
    have ih := hdCells_at ys i t j (by simpa using h) hj
    rw [← ih, cl_length]
    congr 1
    omega
theorem hdCells_put : ∀ (l : List Hd) (i j : Nat) (t t' : Hd) (u : Value), l[i]? = some t → j < 13 → t'.cl = t.cl.set j u → (hdCells l).set (i * 13 + j) u = hdCells (l.set i t')
  | [], i, _, _, _, _, h, _, _ => by simp at h
  | y :: ys, 0, j, t, t', u, h, hj, he => by
    simp at h
    subst h
    rw [List.set_cons_zero, hdCells_cons, hdCells_cons, he, Nat.zero_mul, Nat.zero_add, List.set_append_left _ _ (by rw [cl_length]; omega)]
  | y :: ys, i + 1, j, t, t', u, h, hj, he => by
    have ih := hdCells_put ys i j t t' u (by simpa using h) hj he
    rw [List.set_cons_succ, hdCells_cons, hdCells_cons, ← ih, List.set_append_right _ _ (by rw [cl_length]; omega)]
    congr 2
    rw [cl_length]
    omega
abbrev Pt.sl (p : Pt) : Value := .slice p.a p.l.length p.cap
def Hd.blks (t : Hd) : List Nat := t.p.sl.ownBlock.toList ++ t.x.sl.ownBlock.toList
abbrev PtOwn (W : World) (base : Nat) (p : Pt) : Prop := W.ownsRow base 98 7 p.sl p.l.length (stepCells p.l)
def HdApart (t u : Hd) : Prop := ∀ k ∈ t.blks, k ∉ u.blks
theorem HdApart.symm {t u : Hd} (h : HdApart t u) : HdApart u t := fun k hk hk' => h k hk' hk
structure BkOwn (W : World) (base : Nat) (v : Value) (us : List Hd) : Prop where
  row : W.ownsRow base 63 13 v us.length (hdCells us)
  each : ∀ u ∈ us, PtOwn W base u.p ∧ PtOwn W base u.x
  inn : ∀ u ∈ us, ∀ k, u.p.sl.ownBlock = some k → u.x.sl.ownBlock ≠ some k
  two : us.Pairwise HdApart

theorem rows_two {W : World} {b b' e e' s s' n n' : Nat} {v v' : Value} {xs xs' : List Value} (h : W.ownsRow b e s v n xs) (h' : W.ownsRow b' e' s' v' n' xs') (hne : e ≠ e') : ∀ k, v.ownBlock = some k → v'.ownBlock ≠ some k := by
  intro k hk hk'
  rcases h.2 with ⟨rfl, _⟩ | ⟨g, cap, cur, rfl, _, hh, _⟩
  · simp [Value.ownBlock] at hk
  · rcases h'.2 with ⟨rfl, _⟩ | ⟨g', cap', cur', rfl, _, hh', _⟩
    · simp [Value.ownBlock] at hk'
    · simp [Value.ownBlock] at hk hk'
      subst hk hk'
      rw [hh] at hh'
      simp at hh'
      exact hne hh'.2

structure Spared (S : List Nat) (w w' : World) : Prop where
  os : w'.os = w.os
  tape : w'.tape = w.tape
  output : w'.output = w.output
  size : w.heap.size ≤ w'.heap.size
  block : ∀ k, k < w.heap.size → k ∉ S → w'.heap[k]? = w.heap[k]?
theorem Spared.refl (S : List Nat) (w : World) : Spared S w w := ⟨rfl, rfl, rfl, Nat.le_refl _, fun _ _ _ => rfl⟩
theorem Spared.trans {S : List Nat} {a b c : World} (h : Spared S a b) (k : Spared S b c) : Spared S a c :=
  ⟨k.os.trans h.os, k.tape.trans h.tape, k.output.trans h.output, Nat.le_trans h.size k.size, fun i hi hS => (k.block i (Nat.lt_of_lt_of_le hi h.size) hS).trans (h.block i hi hS)⟩
theorem Spared.mono {S S' : List Nat} {w w' : World} (h : Spared S w w') (hS : ∀ k ∈ S, k ∈ S') : Spared S' w w' := ⟨h.os, h.tape, h.output, h.size, fun k hk hn => h.block k hk (fun e => hn (hS k e))⟩
theorem Spared.below {S : List Nat} {w w' : World} (h : Below w.heap.size w w') : Spared S w w' := ⟨h.os, h.tape, h.output, h.size, fun k hk _ => h.block k hk⟩
theorem Spared.grown {S : List Nat} {w w' : World} {row : Option Nat} (h : w.grownBy w' row) (hr : ∀ k, row = some k → k ∈ S) : Spared S w w' := ⟨h.os, h.tape, h.output, h.size, fun k hk hn => h.block k hk (fun e => hn (hr k e.symm))⟩
theorem Spared.toBelow {S : List Nat} {B : Nat} {a w w' : World} (h : Spared S w w') (h0 : Below B a w) (hB : B ≤ w.heap.size) (hS : ∀ k ∈ S, B ≤ k) : Below B a w' :=
  h0.trans ⟨h.os, h.tape, h.output, h.size, fun k hk => h.block k (by omega) (fun e => by have := hS k e; omega)⟩
theorem Spared.owns {S : List Nat} {w w' : World} {base e size n : Nat} {v : Value} {xs : List Value} (h : Spared S w w') (ho : w.ownsRow base e size v n xs) (hn : ∀ k, v.ownBlock = some k → k ∉ S) : w'.ownsRow base e size v n xs :=
  ⟨ho.1, ho.2.imp id fun ⟨g, cap, cur, h1, h2, h3, h4⟩ => ⟨g, cap, cur, h1, h2, (h.block g (lt_of_block h3) (hn g (by rw [h1]; rfl))).trans h3, h4⟩⟩

def bkBlks (v : Value) (us : List Hd) : List Nat := v.ownBlock.toList ++ us.flatMap Hd.blks
theorem BkOwn.spared {W W' : World} {base : Nat} {v : Value} {us : List Hd} {S : List Nat} (h : BkOwn W base v us) (hs : Spared S W W') (hn : ∀ k ∈ bkBlks v us, k ∉ S) : BkOwn W' base v us where
  row := hs.owns h.row (fun k hk => hn k (by simp [bkBlks, hk]))
  each u hu := ⟨hs.owns (h.each u hu).1 (fun k hk => hn k (by simp only [bkBlks, List.mem_append, List.mem_flatMap]; exact Or.inr ⟨u, hu, by simp [Hd.blks, hk]⟩)), hs.owns (h.each u hu).2 (fun k hk => hn k (by simp only [bkBlks, List.mem_append, List.mem_flatMap]; exact Or.inr ⟨u, hu, by simp [Hd.blks, hk]⟩))⟩
  inn := h.inn
  two := h.two
theorem BkOwn.below {W W' : World} {base : Nat} {v : Value} {us : List Hd} (h : BkOwn W base v us) (hb : Below W.heap.size W W') : BkOwn W' base v us :=
  ⟨owns_below h.row hb, fun u hu => ⟨owns_below (h.each u hu).1 hb, owns_below (h.each u hu).2 hb⟩, h.inn, h.two⟩
theorem BkOwn.lt {W : World} {base : Nat} {v : Value} {us : List Hd} (h : BkOwn W base v us) : ∀ k ∈ bkBlks v us, base ≤ k ∧ k < W.heap.size := by
  intro k hk
  simp only [bkBlks, List.mem_append, List.mem_flatMap, Option.mem_toList] at hk
  rcases hk with hk | ⟨u, hu, hk⟩
  · exact h.row.lt k hk
  · simp only [Hd.blks, List.mem_append, Option.mem_toList] at hk
    rcases hk with hk | hk
    · exact (h.each u hu).1.lt k hk
    · exact (h.each u hu).2.lt k hk
def Pt.at0 (p : Pt) : Pt := ⟨p.q, p.s, p.fr, p.b, p.a, p.sl.ownBlock.getD 0, 0, p.cap, p.l⟩
def Hd.at0 (t : Hd) : Hd := ⟨t.nm, t.n, t.p.at0, t.sn, t.x.at0⟩
theorem at0_cl (t : Hd) : t.at0.cl = t.cl := rfl
theorem at0_keys (us : List Hd) : (us.map Hd.at0).map Hd.key = us.map Hd.key := by rw [List.map_map]; rfl
theorem PtOwn.at_ {W : World} {base : Nat} {p : Pt} (h : PtOwn W base p) : PtAt W p.at0 := by
  rcases h.2 with ⟨h1, h0⟩ | ⟨g, cap, cur, h1, _, hh, _⟩
  · have hl : p.l = [] := List.eq_nil_of_length_eq_zero h0
    exact ⟨fun h => absurd hl h, fun h => absurd hl h, fun i t hi => by rw [show p.at0.l = p.l from rfl, hl] at hi; simp at hi⟩
  · have h2 := h
    unfold PtOwn at h2
    have e : p.a = some ⟨g, 0, none⟩ := congrArg (fun v => match v with | Value.slice a _ _ => a | _ => none) h1
    have e1 : p.at0.b0 = g := by show p.sl.ownBlock.getD 0 = g; rw [h1]; rfl
    rw [h1] at h2
    show StepsAt W p.a p.at0.b0 0 p.l
    rw [e, e1]
    exact steps_owned h2
theorem BkOwn.at_ {W : World} {base : Nat} {v : Value} {us : List Hd} (h : BkOwn W base v us) : ∃ a g cap, v = .slice a us.length cap ∧ HdsAt W a g 0 (us.map Hd.at0) := by
  have hback : ∀ t ∈ us.map Hd.at0, HdAt W t := fun t ht => by
    obtain ⟨u, hu, rfl⟩ := List.mem_map.1 ht
    exact ⟨(h.each u hu).1.at_, (h.each u hu).2.at_⟩
  rcases h.row.2 with ⟨rfl, h0⟩ | ⟨g, cap, cur, rfl, _, hh, _⟩
  · have hn : us = [] := List.eq_nil_of_length_eq_zero (by omega)
    subst hn
    exact ⟨none, 0, 0, rfl, ⟨fun h => absurd rfl h, fun h => absurd rfl h, fun i t hi => by simp at hi, hback⟩⟩
  · refine ⟨some ⟨g, 0, none⟩, g, cap, rfl, ⟨fun _ => rfl, fun _ => lt_of_block hh, fun i t hi j v hv => ?_, hback⟩⟩
    rw [List.getElem?_map] at hi
    obtain ⟨u, hu, rfl⟩ := Option.map_eq_some_iff.1 hi
    have hil := (List.getElem?_eq_some_iff.1 hu).1
    have hj : j < 13 := by have := (List.getElem?_eq_some_iff.1 hv).1; rwa [cl_length] at this
    have hc := (h.row.cellAt (i * 13 + j) (by omega)).trans (hdCells_at us i u j hu hj)
    rw [show (0 + i * 13 + j) = i * 13 + j by omega, hc, ← hv, at0_cl]

def markPt (k : Int) (p : Pt) : Pt := { p with q := k, s := k + 1, l := markL (k + 1 + 1) p.l.length, fr := k + 1 + 1 + ((p.l.length * 7 : Nat) : Int), b := k + 1 + 1 + ((p.l.length * 7 : Nat) : Int) + 1 }
def ptSz (p : Pt) : Nat := 4 + p.l.length * 7
def hdSz (t : Hd) : Nat := 3 + ptSz t.p + ptSz t.x
def markHd (k : Int) (t : Hd) : Hd := ⟨mtOf k, k + 1, markPt (k + 1 + 1) t.p, k + 1 + 1 + (ptSz t.p : Int), markPt (k + 1 + 1 + (ptSz t.p : Int) + 1) t.x⟩
def totH : List Hd → Nat
  | [] => 0
  | t :: ts => hdSz t + totH ts
def markHds (k : Int) : List Hd → List Hd
  | [] => []
  | t :: ts => markHd k t :: markHds (k + (hdSz t : Int)) ts
theorem markHds_length : ∀ (us : List Hd) (k : Int), (markHds k us).length = us.length
  | [], _ => rfl
  | t :: ts, k => by simp [markHds, markHds_length ts]
theorem totH_append (l m : List Hd) : totH (l ++ m) = totH l + totH m := by
  induction l with
  | nil => simp [totH]
  | cons t l ih => simp [totH, ih]; omega
theorem totH_take {us : List Hd} {i : Nat} {u : Hd} (h : us[i]? = some u) : totH (us.take (i + 1)) = totH (us.take i) + hdSz u := by
  rw [List.take_add_one, h, totH_append]; simp [totH]
theorem totH_take_le (us : List Hd) (i : Nat) : totH (us.take i) ≤ totH us := by
  have := totH_append (us.take i) (us.drop i)
  rw [List.take_append_drop] at this
  omega
theorem markHds_get : ∀ (us : List Hd) (k : Int) (i : Nat) (u : Hd), us[i]? = some u → (markHds k us)[i]? = some (markHd (k + (totH (us.take i) : Int)) u)
  | [], _, i, _, h => by simp at h
  | t :: ts, k, 0, u, h => by simp at h; subst h; simp [markHds, totH]
  | t :: ts, k, i + 1, u, h => by
    have ih := markHds_get ts (k + (hdSz t : Int)) i u (by simpa using h)
    simp only [markHds, List.getElem?_cons_succ, List.take_succ_cons, totH]
    rw [ih]
    congr 2
    omega
def mkTo (k : Int) (us : List Hd) (i : Nat) : List Hd := (markHds k us).take i ++ us.drop i
theorem mkTo_zero (k : Int) (us : List Hd) : mkTo k us 0 = us := by simp [mkTo]
theorem mkTo_all (k : Int) (us : List Hd) : mkTo k us us.length = markHds k us := by
  unfold mkTo
  rw [← markHds_length us k, List.take_length, markHds_length, List.drop_length, List.append_nil]
theorem mkTo_length (k : Int) (us : List Hd) {i : Nat} (h : i ≤ us.length) : (mkTo k us i).length = us.length := by simp [mkTo, markHds_length]; omega
theorem mkTo_now (k : Int) {us : List Hd} {i : Nat} {u : Hd} (h : us[i]? = some u) : (mkTo k us i)[i]? = some u := by
  have hl := (List.getElem?_eq_some_iff.1 h).1
  unfold mkTo
  rw [List.getElem?_append_right (by simp [markHds_length]; omega), List.length_take, markHds_length, List.getElem?_drop, show i + (i - min i us.length) = i by omega]
  exact h
theorem mkTo_succ (k : Int) {us : List Hd} {i : Nat} {u : Hd} (h : us[i]? = some u) : mkTo k us (i + 1) = (mkTo k us i).set i (markHd (k + (totH (us.take i) : Int)) u) := by
  have hl := (List.getElem?_eq_some_iff.1 h).1
  unfold mkTo
  rw [List.set_append_right _ _ (by simp [markHds_length]; omega), List.length_take, markHds_length, show i - min i us.length = 0 by omega, List.take_add_one, markHds_get us k i u h, List.append_assoc]
  congr 1
  rw [List.drop_eq_getElem_cons hl, List.set_cons_zero]
  rfl

theorem ownBlock_len (a : Option Addr) (n m c c' : Nat) : (Value.slice a n c).ownBlock = (Value.slice a m c').ownBlock := by cases a <;> rfl
theorem markPt_sl (k : Int) (p : Pt) : (markPt k p).sl.ownBlock = p.sl.ownBlock := ownBlock_len _ _ _ _ _
theorem markHd_blks (k : Int) (t : Hd) : (markHd k t).blks = t.blks := by unfold Hd.blks; rw [show (markHd k t).p.sl.ownBlock = t.p.sl.ownBlock from markPt_sl _ _, show (markHd k t).x.sl.ownBlock = t.x.sl.ownBlock from markPt_sl _ _]
theorem markHds_blks : ∀ (us : List Hd) (k : Int), (markHds k us).flatMap Hd.blks = us.flatMap Hd.blks
  | [], _ => rfl
  | t :: ts, k => by simp only [markHds, List.flatMap_cons]; rw [markHd_blks, markHds_blks ts]
end Go.Proofs.YtgjleeamhkolhaaGreatDoor

namespace Go.Proofs.YtgjleeamhkolhaaGreatDoor
open Go.RowKit

structure Cbx (W : World) (B : Nat) (vs : Array Value) : Prop where
  it : ∃ T, W.heap[B]? = some (.cells vs T (0, 0))
section
variable {W W' : World} {B : Nat} {vs : Array Value}
theorem Cbx.lt (h : Cbx W B vs) : B < W.heap.size := by
  obtain ⟨T, h⟩ := h.it
  exact lt_of_block h
theorem Cbx.keep (h : Cbx W B vs) (hb : Below W.heap.size W W') : Cbx W' B vs := by
  have hl := h.lt
  obtain ⟨T, h⟩ := h.it
  exact ⟨T, (hb.block _ hl).trans h⟩
theorem Cbx.spared {S : List Nat} (h : Cbx W B vs) (hs : Spared S W W') (hn : B ∉ S) : Cbx W' B vs := by
  have hl := h.lt
  obtain ⟨T, h⟩ := h.it
  exact ⟨T, (hs.block _ hl hn).trans h⟩
theorem Cbx.new (w : World) (vs : Array Value) (T : TypeId) : Cbx (w.alloc (.cells vs T)) w.heap.size vs := ⟨T, heap_alloc_new w _⟩
theorem Cbx.c (h : Cbx W B vs) (j : Nat) : W.cell? ⟨B, j, none⟩ = vs[j]? := by
  obtain ⟨T, h⟩ := h.it
  simp [World.cell?, h]
theorem Cbx.f (h : Cbx W B vs) (j : Nat) : W.frozen? ⟨B, j, none⟩ = false := by
  obtain ⟨T, h⟩ := h.it
  simp [World.frozen?, h]
end
theorem nin_range {g hi k : Nat} (h : k < g ∨ hi ≤ k) : k ∉ List.range' g (hi - g) := by rw [List.mem_range'_1]; omega
theorem range_ge {g n B : Nat} (h : B ≤ g) : ∀ k ∈ List.range' g n, B ≤ k := fun k hk => by rw [List.mem_range'_1] at hk; omega
theorem row_at {W : World} {base : Nat} {q s fr b : Int} {a : Option Addr} {c : Nat} {l : List Stp} (h : W.ownsRow base 98 7 (.slice a l.length c) l.length (stepCells l)) : PtAt W ⟨q, s, fr, b, a, (Value.slice a l.length c).ownBlock.getD 0, 0, c, l⟩ :=
  PtOwn.at_ (p := ⟨q, s, fr, b, a, 0, 0, c, l⟩) h
end Go.Proofs.YtgjleeamhkolhaaGreatDoor

namespace Go.Proofs.YtgjleeamhkolhaaGreatDoor
open Go.RowKit

set_option maxHeartbeats 4000000 in
set_option maxRecDepth 20000 in
theorem markSteps_far (k0 : Int) (g cap base : Nat) (l : List Stp) (w : World) (hn : l.length ≤ 1048576) (hk : 0 ≤ k0 ∧ k0 ≤ 1000000000) (h : w.ownsRow base 98 7 (.slice (some ⟨g, 0, none⟩) l.length cap) l.length (stepCells l)) :
    Calls Tryz.prog 43 #[.slice (some ⟨g, 0, none⟩) l.length cap, .int .i64 k0] w
      fun e w' => e = .returned (.int .i64 (k0 + ((l.length * 7 : Nat) : Int))) ∧ w'.ownsRow base 98 7 (.slice (some ⟨g, 0, none⟩) l.length cap) l.length (stepCells (markL k0 l.length)) ∧ w.grownBy w' (some g) := by
  obtain ⟨k1, k2⟩ := hk
  go_enter Tryz.func43, Tryz.ntmps43
  go_wp2
  go_loopw [1, 5] (fun v u wr => ∃ i : Nat, i ≤ l.length ∧ u = .int .i64 i ∧ v = .int .i64 (k0 + ((i * 7 : Nat) : Int)) ∧ wr.ownsRow base 98 7 (.slice (some ⟨g, 0, none⟩) l.length cap) l.length (stepCells (markSTo k0 l i)) ∧ w.grownBy wr (some g)) (fun _ u _ => l.length - (intOf u).toNat)
  case atStart => exact ⟨0, Nat.zero_le _, rfl, by simp, by rw [markSTo_zero]; exact h, ⟨rfl, rfl, rfl, Nat.le_refl _, fun _ _ _ => rfl⟩⟩
  case round =>
    clear h
    obtain ⟨i, hi, rfl, rfl, ho, hg⟩ := hrel
    by_cases hlt : i < l.length
    · obtain ⟨t, ht⟩ : ∃ t, l[i]? = some t := ⟨_, List.getElem?_eq_getElem hlt⟩
      have hnow := markSTo_now k0 ht
      have c0 := (ho.cellAt (i * 7) (by omega)).trans (stepCells_at _ i t 0 hnow (by decide))
      have c1 := (ho.cellAt (i * 7 + 1) (by omega)).trans (stepCells_at _ i t 1 hnow (by decide))
      have c2 := (ho.cellAt (i * 7 + 2) (by omega)).trans (stepCells_at _ i t 2 hnow (by decide))
      have c3 := (ho.cellAt (i * 7 + 3) (by omega)).trans (stepCells_at _ i t 3 hnow (by decide))
      have c4 := (ho.cellAt (i * 7 + 4) (by omega)).trans (stepCells_at _ i t 4 hnow (by decide))
      have c5 := (ho.cellAt (i * 7 + 5) (by omega)).trans (stepCells_at _ i t 5 hnow (by decide))
      have c6 := (ho.cellAt (i * 7 + 6) (by omega)).trans (stepCells_at _ i t 6 hnow (by decide))
      have cf := ho.frozenAt
      have i0 : (0 : Int) ≤ (i : Int) := by omega
      have i1 : (i : Int) < (l.length : Int) := by omega
      have HO : Hid (wr.ownsRow base 98 7 (.slice (some ⟨g, 0, none⟩) l.length cap) l.length (stepCells (markSTo k0 l i))) := ho
      have HG : Hid (w.grownBy wr (some g)) := hg
      have HN : Hid ((markSTo k0 l i)[i]? = some t) := hnow
      have HT : Hid (l[i]? = some t) := ht
      clear ho hg hnow ht
      generalize hK : k0 + ((i * 7 : Nat) : Int) = K
      have b1 : 0 ≤ K ∧ K ≤ 10000000000 := by omega
      obtain ⟨b2, b3⟩ := b1
      have EK : Hid (k0 + ((i * 7 : Nat) : Int) = K) := hK
      clear hK
      go_wp2
      go_roundw
      case rel =>
        have hK := EK.out
        refine ⟨i + 1, by omega, by go_num, by congr 1; omega, ?_, ?_⟩
        · have h7 := row_put7 HO.out HN.out K (K + 1) (K + 1 + 1) (K + 1 + 1 + 1) (K + 1 + 1 + 1 + 1) (K + 1 + 1 + 1 + 1 + 1) ((K + 1 + 1 + 1 + 1 + 1 + 1) % 3 == 0)
          rw [markSTo_succ k0 hlt, hK]
          exact h7
        · exact grown_over2 HG.out (grown_over2 (grown_over2 (grown_over2 (grown_over2 (grown_over2 (grown_over2 (grown_set wr ⟨g, i * 7, none⟩ _) (grown_set _ ⟨g, i * 7 + 1, none⟩ _)) (grown_set _ ⟨g, i * 7 + 2, none⟩ _)) (grown_set _ ⟨g, i * 7 + 3, none⟩ _)) (grown_set _ ⟨g, i * 7 + 4, none⟩ _)) (grown_set _ ⟨g, i * 7 + 5, none⟩ _)) (grown_set _ ⟨g, i * 7 + 6, none⟩ _))
      case measure => simp [intOf]; omega
    · obtain rfl : i = l.length := by omega
      go_wp2
      go_ret
      exact ⟨rfl, by rw [← markSTo_all]; exact ho, hg⟩

set_option maxHeartbeats 4000000 in
set_option maxRecDepth 20000 in
theorem heldSteps_far (k0 : Int) (g cap base n : Nat) (w : World) (hn : n ≤ 1048576) (hk : 0 ≤ k0 ∧ k0 ≤ 1000000000) (h : w.ownsRow base 98 7 (.slice (some ⟨g, 0, none⟩) n cap) n (stepCells (markL k0 n))) :
    Calls Tryz.prog 76 #[.slice (some ⟨g, 0, none⟩) n cap, .int .i64 k0] w fun e w' => e = .returned (.int .i64 (k0 + ((n * 7 : Nat) : Int))) ∧ w' = w := by
  obtain ⟨k1, k2⟩ := hk
  go_enter Tryz.func76, Tryz.ntmps76
  go_wp2
  go_loopw [1, 5] (fun v u wr => ∃ i : Nat, i ≤ n ∧ u = .int .i64 i ∧ v = .int .i64 (k0 + ((i * 7 : Nat) : Int)) ∧ wr = w) (fun _ u _ => n - (intOf u).toNat)
  case atStart => exact ⟨0, Nat.zero_le _, rfl, by simp, rfl⟩
  case round =>
    obtain ⟨i, hi, rfl, rfl, rfl⟩ := hrel
    by_cases hlt : i < n
    · have hnow := markL_get k0 hlt
      generalize hK : k0 + ((i * 7 : Nat) : Int) = K at hnow ⊢
      have c0 : wr.cell? ⟨g, i * 7, none⟩ = some (.int .i64 K) := (h.cellAt (i * 7) (by omega)).trans (stepCells_at _ i _ 0 hnow (by decide))
      have c1 : wr.cell? ⟨g, i * 7 + 1, none⟩ = some (.int .i64 (K + 1)) := (h.cellAt (i * 7 + 1) (by omega)).trans (stepCells_at _ i _ 1 hnow (by decide))
      have c2 : wr.cell? ⟨g, i * 7 + 2, none⟩ = some (.int .i64 (K + 1 + 1)) := (h.cellAt (i * 7 + 2) (by omega)).trans (stepCells_at _ i _ 2 hnow (by decide))
      have c3 : wr.cell? ⟨g, i * 7 + 3, none⟩ = some (.int .i64 (K + 1 + 1 + 1)) := (h.cellAt (i * 7 + 3) (by omega)).trans (stepCells_at _ i _ 3 hnow (by decide))
      have c4 : wr.cell? ⟨g, i * 7 + 4, none⟩ = some (.int .i64 (K + 1 + 1 + 1 + 1)) := (h.cellAt (i * 7 + 4) (by omega)).trans (stepCells_at _ i _ 4 hnow (by decide))
      have c5 : wr.cell? ⟨g, i * 7 + 5, none⟩ = some (.int .i64 (K + 1 + 1 + 1 + 1 + 1)) := (h.cellAt (i * 7 + 5) (by omega)).trans (stepCells_at _ i _ 5 hnow (by decide))
      have c6 : wr.cell? ⟨g, i * 7 + 6, none⟩ = some (.bool ((K + 1 + 1 + 1 + 1 + 1 + 1) % 3 == 0)) := (h.cellAt (i * 7 + 6) (by omega)).trans (stepCells_at _ i _ 6 hnow (by decide))
      have i0 : (0 : Int) ≤ (i : Int) := by omega
      have i1 : (i : Int) < (n : Int) := by omega
      have b1 : 0 ≤ K ∧ K ≤ 10000000000 := by omega
      obtain ⟨b2, b3⟩ := b1
      have EK : Hid (k0 + ((i * 7 : Nat) : Int) = K) := hK
      clear hK hnow
      go_wp2
      go_roundw
      case rel =>
        have hK := EK.out
        exact ⟨i + 1, by omega, by go_num, by congr 1; omega, by simp⟩
      case measure => simp [intOf]; omega
    · obtain rfl : i = n := by omega
      go_wp2
      go_ret
      exact ⟨rfl, rfl⟩

theorem markSteps_all (k0 : Int) (v : Value) (base : Nat) (l : List Stp) (w : World) (hn : l.length ≤ 1048576) (hk : 0 ≤ k0 ∧ k0 ≤ 1000000000) (h : w.ownsRow base 98 7 v l.length (stepCells l)) :
    Calls Tryz.prog 43 #[v, .int .i64 k0] w
      fun e w' => e = .returned (.int .i64 (k0 + ((l.length * 7 : Nat) : Int))) ∧ w'.ownsRow base 98 7 v l.length (stepCells (markL k0 l.length)) ∧ w.grownBy w' v.ownBlock := by
  rcases h.2 with ⟨rfl, h0⟩ | ⟨g, cap, cur, rfl, _⟩
  · have : l = [] := List.eq_nil_of_length_eq_zero h0
    subst this
    refine (markSteps_nil k0 w).mono ?_
    rintro e w1 ⟨rfl, rfl⟩
    exact ⟨by simp, World.ownsRow_nil _ _ _ _, ⟨rfl, rfl, rfl, Nat.le_refl _, fun _ _ _ => rfl⟩⟩
  · exact markSteps_far k0 g cap base l w hn hk h
theorem heldSteps_all (k0 : Int) (v : Value) (base n : Nat) (w : World) (hn : n ≤ 1048576) (hk : 0 ≤ k0 ∧ k0 ≤ 1000000000) (h : w.ownsRow base 98 7 v n (stepCells (markL k0 n))) :
    Calls Tryz.prog 76 #[v, .int .i64 k0] w fun e w' => e = .returned (.int .i64 (k0 + ((n * 7 : Nat) : Int))) ∧ w' = w := by
  rcases h.2 with ⟨rfl, rfl⟩ | ⟨g, cap, cur, rfl, _⟩
  · refine (heldSteps_nil k0 w).mono ?_
    rintro e w1 ⟨rfl, rfl⟩
    exact ⟨by simp, rfl⟩
  · exact heldSteps_far k0 g cap base n w hn hk h
end Go.Proofs.YtgjleeamhkolhaaGreatDoor

namespace Go.Proofs.YtgjleeamhkolhaaGreatDoor
open Go.RowKit

theorem hd_put {w : World} {base g cap n : Nat} {l : List Hd} (h : w.ownsRow base 63 13 (.slice (some ⟨g, 0, none⟩) n cap) n (hdCells l)) {i j : Nat} {t t' : Hd} {u : Value} (ht : l[i]? = some t) (hj : j < 13) (he : t'.cl = t.cl.set j u) :
    (w.setCell ⟨g, i * 13 + j, none⟩ u).ownsRow base 63 13 (.slice (some ⟨g, 0, none⟩) n cap) n (hdCells (l.set i t')) := by
  have hi : i < l.length := (List.getElem?_eq_some_iff.1 ht).1
  have hn : l.length * 13 = n * 13 := by rw [← hdCells_length]; exact h.1
  rw [← hdCells_put l i j t t' u ht hj he]
  exact owns_put h (by omega) u
theorem hd_put_set {w : World} {base g cap n : Nat} {l : List Hd} {i j : Nat} {t t' : Hd} {u : Value} (h : w.ownsRow base 63 13 (.slice (some ⟨g, 0, none⟩) n cap) n (hdCells (l.set i t))) (hi : i < l.length) (hj : j < 13) (he : t'.cl = t.cl.set j u) :
    (w.setCell ⟨g, i * 13 + j, none⟩ u).ownsRow base 63 13 (.slice (some ⟨g, 0, none⟩) n cap) n (hdCells (l.set i t')) := by
  have h1 := hd_put h (j := j) (t := t) (t' := t') (u := u) (by rw [List.getElem?_set_self hi]) hj he
  rw [List.set_set] at h1
  exact h1

theorem mem_set_cases {α : Type} {l : List α} {i : Nat} {a x : α} (h : x ∈ l.set i a) : x = a ∨ ∃ j, j ≠ i ∧ l[j]? = some x := by
  obtain ⟨j, hj⟩ := List.mem_iff_getElem?.1 h
  by_cases e : i = j
  · subst e
    by_cases hl : i < l.length
    · rw [List.getElem?_set_self hl] at hj; exact Or.inl (by simpa using hj.symm)
    · rw [List.getElem?_eq_none (by simp; omega)] at hj; cases hj
  · rw [List.getElem?_set_ne e] at hj
    exact Or.inr ⟨j, fun e' => e e'.symm, hj⟩
theorem two_at {us : List Hd} (h : us.Pairwise HdApart) {i j : Nat} {u v : Hd} (hij : i ≠ j) (hu : us[i]? = some u) (hv : us[j]? = some v) : HdApart u v := by
  obtain ⟨h1, rfl⟩ := List.getElem?_eq_some_iff.1 hu
  obtain ⟨h2, rfl⟩ := List.getElem?_eq_some_iff.1 hv
  rcases Nat.lt_or_gt_of_ne hij with hh | hh
  · exact List.pairwise_iff_getElem.1 h i j h1 h2 hh
  · exact (List.pairwise_iff_getElem.1 h j i h2 h1 hh).symm
theorem two_blks {us vs : List Hd} (h : us.Pairwise HdApart) (hb : vs.map Hd.blks = us.map Hd.blks) : vs.Pairwise HdApart := by
  have e : ∀ l : List Hd, l.Pairwise HdApart ↔ (l.map Hd.blks).Pairwise (fun a b => ∀ k ∈ a, k ∉ b) := fun l => by rw [List.pairwise_map]; rfl
  rw [e, hb, ← e]
  exact h
theorem map_set_same {α β : Type} (f : α → β) {l : List α} {i : Nat} {a b : α} (h : l[i]? = some a) (hf : f b = f a) : (l.set i b).map f = l.map f := by
  apply List.ext_getElem?
  intro j
  rw [List.getElem?_map, List.getElem?_map]
  by_cases e : i = j
  · subst e; rw [List.getElem?_set_self (List.getElem?_eq_some_iff.1 h).1, h]; simp [hf]
  · rw [List.getElem?_set_ne e]
theorem BkOwn.marked {W W' : World} {base : Nat} {v : Value} {L : List Hd} {i : Nat} {u u' : Hd} (h : BkOwn W base v L) (hu : L[i]? = some u) (hs : Spared (v.ownBlock.toList ++ u.blks) W W')
    (row : W'.ownsRow base 63 13 v L.length (hdCells (L.set i u'))) (hp : PtOwn W' base u'.p) (hx : PtOwn W' base u'.x) (ep : u'.p.sl.ownBlock = u.p.sl.ownBlock) (ex : u'.x.sl.ownBlock = u.x.sl.ownBlock) : BkOwn W' base v (L.set i u') := by
  have eb : u'.blks = u.blks := by unfold Hd.blks; rw [ep, ex]
  have hm := List.mem_of_getElem? hu
  refine ⟨by rw [List.length_set]; exact row, fun t ht => ?_, fun t ht => ?_, two_blks h.two (map_set_same _ hu eb)⟩
  · rcases mem_set_cases ht with rfl | ⟨j, hj, htj⟩
    · exact ⟨hp, hx⟩
    · have ha := two_at h.two hj htj hu
      have hmj := List.mem_of_getElem? htj
      refine ⟨hs.owns (h.each t hmj).1 (fun k hk hk' => ?_), hs.owns (h.each t hmj).2 (fun k hk hk' => ?_)⟩
      · rcases List.mem_append.1 hk' with h1 | h1
        · exact rows_two (h.each t hmj).1 h.row (by decide) k hk (by simpa using h1)
        · exact ha k (by simp [Hd.blks, hk]) h1
      · rcases List.mem_append.1 hk' with h1 | h1
        · exact rows_two (h.each t hmj).2 h.row (by decide) k hk (by simpa using h1)
        · exact ha k (by simp [Hd.blks, hk]) h1
  · rcases mem_set_cases ht with rfl | ⟨j, hj, htj⟩
    · rw [ep, ex]; exact h.inn u hm
    · exact h.inn t (List.mem_of_getElem? htj)
theorem blks_mem {v : Value} {us : List Hd} {u : Hd} (hu : u ∈ us) : ∀ k ∈ v.ownBlock.toList ++ u.blks, k ∈ bkBlks v us := fun k hk => by
  unfold bkBlks
  rcases List.mem_append.1 hk with h | h
  · exact List.mem_append_left _ h
  · exact List.mem_append_right _ (List.mem_flatMap.2 ⟨u, hu, h⟩)

theorem hdCells_set_congr {l : List Hd} {i : Nat} {u u' : Hd} (h : u.cl = u'.cl) : hdCells (l.set i u) = hdCells (l.set i u') := by
  induction l generalizing i with
  | nil => rfl
  | cons y ys ih =>
    cases i with
    | zero => rw [List.set_cons_zero, List.set_cons_zero, hdCells_cons, hdCells_cons, h]
    | succ i => rw [List.set_cons_succ, List.set_cons_succ, hdCells_cons, hdCells_cons, ih]
theorem keptRow {W W' : World} {base e size n : Nat} {v : Value} {xs : List Value} {row : Option Nat} (h : W.ownsRow base e size v n xs) (hg : W.grownBy W' row) (hr : ∀ k, v.ownBlock = some k → row ≠ some k) : W'.ownsRow base e size v n xs :=
  h.kept hg (by
    cases h3 : v.ownBlock with
    | none => exact Or.inl rfl
    | some k => exact Or.inr (fun e => hr k h3 e.symm))

theorem markHelds_nil (k0 : Int) (w : World) : Calls Tryz.prog 42 #[.slice none 0 0, .int .i64 k0] w fun e w' => e = .returned (.int .i64 k0) ∧ w' = w := by
  go_enter Tryz.func42, Tryz.ntmps42
  go_wp2
  refine wp_loop_once ?_
  go_wp2
  go_ret
  exact ⟨rfl, rfl⟩

theorem heldHelds_nil (k0 : Int) (w : World) : Calls Tryz.prog 44 #[.slice none 0 0, .int .i64 k0] w fun e w' => e = .returned (.int .i64 k0) ∧ w' = w := by
  go_enter Tryz.func44, Tryz.ntmps44
  go_wp2
  refine wp_loop_once ?_
  go_wp2
  go_ret
  exact ⟨rfl, rfl⟩

set_option maxHeartbeats 8000000 in
set_option maxRecDepth 40000 in
theorem markHelds_row (k0 : Int) (g cap base : Nat) (us : List Hd) (w : World) (hn : us.length ≤ 1048576) (hsm : ∀ u ∈ us, u.p.l.length ≤ 1048576 ∧ u.x.l.length ≤ 1048576) (hk : 0 ≤ k0 ∧ k0 + (totH us : Int) ≤ 900000000) (h : BkOwn w base (.slice (some ⟨g, 0, none⟩) us.length cap) us) :
    Calls Tryz.prog 42 #[.slice (some ⟨g, 0, none⟩) us.length cap, .int .i64 k0] w
      fun e w' => e = .returned (.int .i64 (k0 + (totH us : Int))) ∧ BkOwn w' base (.slice (some ⟨g, 0, none⟩) us.length cap) (markHds k0 us) ∧ Spared (bkBlks (.slice (some ⟨g, 0, none⟩) us.length cap) us) w w' := by
  obtain ⟨k1, k2⟩ := hk
  go_enter Tryz.func42, Tryz.ntmps42
  go_wp2
  go_loopw [1, 5] (fun v u wr => ∃ i : Nat, i ≤ us.length ∧ u = .int .i64 i ∧ v = .int .i64 (k0 + (totH (us.take i) : Int)) ∧ BkOwn wr base (.slice (some ⟨g, 0, none⟩) us.length cap) (mkTo k0 us i) ∧ Spared (bkBlks (.slice (some ⟨g, 0, none⟩) us.length cap) us) w wr) (fun _ u _ => us.length - (intOf u).toNat)
  case atStart => exact ⟨0, Nat.zero_le _, rfl, by simp [totH], by rw [mkTo_zero]; exact h, Spared.refl _ _⟩
  case round =>
    clear h
    obtain ⟨i, hi, rfl, rfl, ho, hg⟩ := hrel
    by_cases hlt : i < us.length
    · obtain ⟨u, hu⟩ : ∃ u, us[i]? = some u := ⟨_, List.getElem?_eq_getElem hlt⟩
      have hm := List.mem_of_getElem? hu
      have hnow := mkTo_now k0 hu
      have hml := mkTo_length k0 us (i := i) (by omega)
      have hmm := List.mem_of_getElem? hnow
      have R0 := ho.row
      rw [hml] at R0
      obtain ⟨hpl, hxl⟩ := hsm u hm
      have hP0 := (ho.each u hmm).1
      have hX0 := (ho.each u hmm).2
      have hpx := ho.inn u hmm
      have c0 : wr.cell? ⟨g, i * 13, none⟩ = some (.string u.nm) := (R0.cellAt (i * 13) (by omega)).trans (hdCells_at _ i _ 0 hnow (by decide))
      have c1 : wr.cell? ⟨g, i * 13 + 1, none⟩ = some (.int .i64 u.n) := (R0.cellAt (i * 13 + 1) (by omega)).trans (hdCells_at _ i _ 1 hnow (by decide))
      have c2 : wr.cell? ⟨g, i * 13 + 2, none⟩ = some (.int .i64 u.p.q) := (R0.cellAt (i * 13 + 2) (by omega)).trans (hdCells_at _ i _ 2 hnow (by decide))
      have c3 : wr.cell? ⟨g, i * 13 + 3, none⟩ = some (.int .i64 u.p.s) := (R0.cellAt (i * 13 + 3) (by omega)).trans (hdCells_at _ i _ 3 hnow (by decide))
      have c4 : wr.cell? ⟨g, i * 13 + 4, none⟩ = some (.slice u.p.a u.p.l.length u.p.cap) := (R0.cellAt (i * 13 + 4) (by omega)).trans (hdCells_at _ i _ 4 hnow (by decide))
      have c5 : wr.cell? ⟨g, i * 13 + 5, none⟩ = some (.int .i64 u.p.fr) := (R0.cellAt (i * 13 + 5) (by omega)).trans (hdCells_at _ i _ 5 hnow (by decide))
      have c6 : wr.cell? ⟨g, i * 13 + 6, none⟩ = some (.int .i64 u.p.b) := (R0.cellAt (i * 13 + 6) (by omega)).trans (hdCells_at _ i _ 6 hnow (by decide))
      have c7 : wr.cell? ⟨g, i * 13 + 7, none⟩ = some (.int .i64 u.sn) := (R0.cellAt (i * 13 + 7) (by omega)).trans (hdCells_at _ i _ 7 hnow (by decide))
      have c8 : wr.cell? ⟨g, i * 13 + 8, none⟩ = some (.int .i64 u.x.q) := (R0.cellAt (i * 13 + 8) (by omega)).trans (hdCells_at _ i _ 8 hnow (by decide))
      have c9 : wr.cell? ⟨g, i * 13 + 9, none⟩ = some (.int .i64 u.x.s) := (R0.cellAt (i * 13 + 9) (by omega)).trans (hdCells_at _ i _ 9 hnow (by decide))
      have c10 : wr.cell? ⟨g, i * 13 + 10, none⟩ = some (.slice u.x.a u.x.l.length u.x.cap) := (R0.cellAt (i * 13 + 10) (by omega)).trans (hdCells_at _ i _ 10 hnow (by decide))
      have c11 : wr.cell? ⟨g, i * 13 + 11, none⟩ = some (.int .i64 u.x.fr) := (R0.cellAt (i * 13 + 11) (by omega)).trans (hdCells_at _ i _ 11 hnow (by decide))
      have c12 : wr.cell? ⟨g, i * 13 + 12, none⟩ = some (.int .i64 u.x.b) := (R0.cellAt (i * 13 + 12) (by omega)).trans (hdCells_at _ i _ 12 hnow (by decide))
      have cf := R0.frozenAt
      have hgl : g < wr.heap.size := (R0.lt g rfl).2
      have i0 : (0 : Int) ≤ (i : Int) := by omega
      have i1 : (i : Int) < (us.length : Int) := by omega
      have htot : totH (us.take i) + hdSz u ≤ totH us := by rw [← totH_take hu]; exact totH_take_le _ _
      have HT : Hid (totH (us.take (i + 1)) = totH (us.take i) + hdSz u) := totH_take hu
      have HS : Hid (mkTo k0 us (i + 1) = (mkTo k0 us i).set i (markHd (k0 + (totH (us.take i) : Int)) u)) := mkTo_succ k0 hu
      have hgP : ∀ k, u.p.sl.ownBlock = some k → k ≠ g := fun k hk e => rows_two hP0 R0 (by decide) k hk (by rw [e]; rfl)
      have hgX : ∀ k, u.x.sl.ownBlock = some k → k ≠ g := fun k hk e => rows_two hX0 R0 (by decide) k hk (by rw [e]; rfl)
      have HO : Hid (BkOwn wr base (.slice (some ⟨g, 0, none⟩) us.length cap) (mkTo k0 us i)) := ho
      have HG : Hid (Spared (bkBlks (.slice (some ⟨g, 0, none⟩) us.length cap) us) w wr) := hg
      have HN : Hid ((mkTo k0 us i)[i]? = some u) := hnow
      have HU : Hid (us[i]? = some u) := hu
      have HP : Hid (PtOwn wr base u.p) := hP0
      have HX : Hid (PtOwn wr base u.x) := hX0
      have HR : Hid (wr.ownsRow base 63 13 (.slice (some ⟨g, 0, none⟩) us.length cap) us.length (hdCells (mkTo k0 us i))) := R0
      have HL : Hid ((mkTo k0 us i).length = us.length) := hml
      generalize hK : k0 + (totH (us.take i) : Int) = K at *
      have hz : hdSz u = 3 + (4 + u.p.l.length * 7) + (4 + u.x.l.length * 7) := rfl
      have b2 : 0 ≤ K := by omega
      have b3 : K + (hdSz u : Int) ≤ 900000000 := by omega
      have b4 : K ≤ 900000000 := by omega
      have EK : Hid (k0 + (totH (us.take i) : Int) = K) := hK
      have EZ : Hid (hdSz u = 3 + (4 + u.p.l.length * 7) + (4 + u.x.l.length * 7)) := hz
      have EB : Hid (K + (hdSz u : Int) ≤ 900000000) := b3
      clear ho hg hnow hu hP0 hX0 R0 hml hK hz b3 hmm htot k1 k2
      go_wp2_with fail
      refine (markText_any K _ b2 (by omega)).mono ?_
      rintro e w1 ⟨rfl, hb1⟩
      replace c0 := (hb1.cell (p := ⟨g, i * 13, none⟩) hgl).trans c0
      replace c1 := (hb1.cell (p := ⟨g, i * 13 + 1, none⟩) hgl).trans c1
      replace c2 := (hb1.cell (p := ⟨g, i * 13 + 2, none⟩) hgl).trans c2
      replace c3 := (hb1.cell (p := ⟨g, i * 13 + 3, none⟩) hgl).trans c3
      replace c4 := (hb1.cell (p := ⟨g, i * 13 + 4, none⟩) hgl).trans c4
      replace c5 := (hb1.cell (p := ⟨g, i * 13 + 5, none⟩) hgl).trans c5
      replace c6 := (hb1.cell (p := ⟨g, i * 13 + 6, none⟩) hgl).trans c6
      replace c7 := (hb1.cell (p := ⟨g, i * 13 + 7, none⟩) hgl).trans c7
      replace c8 := (hb1.cell (p := ⟨g, i * 13 + 8, none⟩) hgl).trans c8
      replace c9 := (hb1.cell (p := ⟨g, i * 13 + 9, none⟩) hgl).trans c9
      replace c10 := (hb1.cell (p := ⟨g, i * 13 + 10, none⟩) hgl).trans c10
      replace c11 := (hb1.cell (p := ⟨g, i * 13 + 11, none⟩) hgl).trans c11
      replace c12 := (hb1.cell (p := ⟨g, i * 13 + 12, none⟩) hgl).trans c12
      replace cf : ∀ j, w1.frozen? ⟨g, j, none⟩ = false := fun j => (hb1.frozen (p := ⟨g, j, none⟩) hgl).trans (cf j)
      have R1 := owns_below HR.out hb1
      have P1 := owns_below HP.out hb1
      have X1 := owns_below HX.out hb1
      have S1 : Spared ((Value.slice (some ⟨g, 0, none⟩) us.length cap).ownBlock.toList ++ u.blks) wr w1 := Spared.below hb1
      have HR1 : Hid (w1.ownsRow base 63 13 (.slice (some ⟨g, 0, none⟩) us.length cap) us.length (hdCells (mkTo k0 us i))) := R1
      have HP1 : Hid (PtOwn w1 base u.p) := P1
      have HX1 : Hid (PtOwn w1 base u.x) := X1
      have HS1 : Hid (Spared ((Value.slice (some ⟨g, 0, none⟩) us.length cap).ownBlock.toList ++ u.blks) wr w1) := S1
      have hg1 : g < w1.heap.size := Nat.lt_of_lt_of_le hgl hb1.size
      clear hb1 R1 P1 X1 S1
      go_wp2_with fail
      have hiL : i < (mkTo k0 us i).length := by rw [HL.out]; exact hlt
      have ra0 := hd_put HR1.out HN.out (j := 0) (t' := (⟨mtOf K, u.n, ⟨u.p.q, u.p.s, u.p.fr, u.p.b, u.p.a, u.p.b0, u.p.o, u.p.cap, u.p.l⟩, u.sn, ⟨u.x.q, u.x.s, u.x.fr, u.x.b, u.x.a, u.x.b0, u.x.o, u.x.cap, u.x.l⟩⟩ : Hd)) (u := .string (mtOf K)) (by decide) rfl
      have ra1 := hd_put_set (t := (⟨mtOf K, u.n, ⟨u.p.q, u.p.s, u.p.fr, u.p.b, u.p.a, u.p.b0, u.p.o, u.p.cap, u.p.l⟩, u.sn, ⟨u.x.q, u.x.s, u.x.fr, u.x.b, u.x.a, u.x.b0, u.x.o, u.x.cap, u.x.l⟩⟩ : Hd)) (t' := (⟨mtOf K, K + 1, ⟨u.p.q, u.p.s, u.p.fr, u.p.b, u.p.a, u.p.b0, u.p.o, u.p.cap, u.p.l⟩, u.sn, ⟨u.x.q, u.x.s, u.x.fr, u.x.b, u.x.a, u.x.b0, u.x.o, u.x.cap, u.x.l⟩⟩ : Hd)) (j := 1) (u := .int .i64 (K + 1)) ra0 hiL (by decide) rfl
      have ra2 := hd_put_set (t := (⟨mtOf K, K + 1, ⟨u.p.q, u.p.s, u.p.fr, u.p.b, u.p.a, u.p.b0, u.p.o, u.p.cap, u.p.l⟩, u.sn, ⟨u.x.q, u.x.s, u.x.fr, u.x.b, u.x.a, u.x.b0, u.x.o, u.x.cap, u.x.l⟩⟩ : Hd)) (t' := (⟨mtOf K, K + 1, ⟨K + 1 + 1, u.p.s, u.p.fr, u.p.b, u.p.a, u.p.b0, u.p.o, u.p.cap, u.p.l⟩, u.sn, ⟨u.x.q, u.x.s, u.x.fr, u.x.b, u.x.a, u.x.b0, u.x.o, u.x.cap, u.x.l⟩⟩ : Hd)) (j := 2) (u := .int .i64 (K + 1 + 1)) ra1 hiL (by decide) rfl
      have ra3 := hd_put_set (t := (⟨mtOf K, K + 1, ⟨K + 1 + 1, u.p.s, u.p.fr, u.p.b, u.p.a, u.p.b0, u.p.o, u.p.cap, u.p.l⟩, u.sn, ⟨u.x.q, u.x.s, u.x.fr, u.x.b, u.x.a, u.x.b0, u.x.o, u.x.cap, u.x.l⟩⟩ : Hd)) (t' := (⟨mtOf K, K + 1, ⟨K + 1 + 1, K + 1 + 1 + 1, u.p.fr, u.p.b, u.p.a, u.p.b0, u.p.o, u.p.cap, u.p.l⟩, u.sn, ⟨u.x.q, u.x.s, u.x.fr, u.x.b, u.x.a, u.x.b0, u.x.o, u.x.cap, u.x.l⟩⟩ : Hd)) (j := 3) (u := .int .i64 (K + 1 + 1 + 1)) ra2 hiL (by decide) rfl
      refine (markSteps_all (K + 1 + 1 + 1 + 1) u.p.sl base u.p.l _ hpl ⟨by omega, by omega⟩ (owns_set (owns_set (owns_set (owns_set (HP1.out) hgP _ _) hgP _ _) hgP _ _) hgP _ _)).mono ?_
      rintro e w3 ⟨rfl, P3, g3⟩
      have R3 := keptRow ra3 g3 (fun k hk e => hgP k e (by simpa [Value.ownBlock] using hk.symm))
      have X3 : PtOwn w3 base u.x := keptRow (owns_set (owns_set (owns_set (owns_set (HX1.out) hgX _ _) hgX _ _) hgX _ _) hgX _ _) g3 (fun k hk e => hpx k e hk)
      have S3 := HS1.out.trans ((Spared.grown (grown_over2 (grown_over2 (grown_over2 (grown_set w1 ⟨g, i * 13 + 0, none⟩ (.string (mtOf K))) (grown_set _ ⟨g, i * 13 + 1, none⟩ (.int .i64 (K + 1)))) (grown_set _ ⟨g, i * 13 + 2, none⟩ (.int .i64 (K + 1 + 1)))) (grown_set _ ⟨g, i * 13 + 3, none⟩ (.int .i64 (K + 1 + 1 + 1)))) (by simp [Value.ownBlock])).trans (Spared.grown g3 (fun k hk => by simp [Hd.blks, hk])))
      have hg3 : g < w3.heap.size := (R3.lt g rfl).2
      have N3 : ((mkTo k0 us i).set i (⟨mtOf K, K + 1, ⟨K + 1 + 1, K + 1 + 1 + 1, u.p.fr, u.p.b, u.p.a, u.p.b0, u.p.o, u.p.cap, u.p.l⟩, u.sn, ⟨u.x.q, u.x.s, u.x.fr, u.x.b, u.x.a, u.x.b0, u.x.o, u.x.cap, u.x.l⟩⟩ : Hd))[i]? = some (⟨mtOf K, K + 1, ⟨K + 1 + 1, K + 1 + 1 + 1, u.p.fr, u.p.b, u.p.a, u.p.b0, u.p.o, u.p.cap, u.p.l⟩, u.sn, ⟨u.x.q, u.x.s, u.x.fr, u.x.b, u.x.a, u.x.b0, u.x.o, u.x.cap, u.x.l⟩⟩ : Hd) := List.getElem?_set_self hiL
      clear ra0 ra1 ra2 ra3 c0 c1 c2 c3 c4 c5 c6 c7 c8 c9 c10 c11 c12 cf HR1 HP1 HX1 HS1 g3 hg1
      have c0 : w3.cell? ⟨g, i * 13, none⟩ = some (.string (mtOf K)) := (R3.cellAt (i * 13) (by omega)).trans (hdCells_at _ i (⟨mtOf K, K + 1, ⟨K + 1 + 1, K + 1 + 1 + 1, u.p.fr, u.p.b, u.p.a, u.p.b0, u.p.o, u.p.cap, u.p.l⟩, u.sn, ⟨u.x.q, u.x.s, u.x.fr, u.x.b, u.x.a, u.x.b0, u.x.o, u.x.cap, u.x.l⟩⟩ : Hd) 0 N3 (by decide))
      have c1 : w3.cell? ⟨g, i * 13 + 1, none⟩ = some (.int .i64 (K + 1)) := (R3.cellAt (i * 13 + 1) (by omega)).trans (hdCells_at _ i (⟨mtOf K, K + 1, ⟨K + 1 + 1, K + 1 + 1 + 1, u.p.fr, u.p.b, u.p.a, u.p.b0, u.p.o, u.p.cap, u.p.l⟩, u.sn, ⟨u.x.q, u.x.s, u.x.fr, u.x.b, u.x.a, u.x.b0, u.x.o, u.x.cap, u.x.l⟩⟩ : Hd) 1 N3 (by decide))
      have c2 : w3.cell? ⟨g, i * 13 + 2, none⟩ = some (.int .i64 (K + 1 + 1)) := (R3.cellAt (i * 13 + 2) (by omega)).trans (hdCells_at _ i (⟨mtOf K, K + 1, ⟨K + 1 + 1, K + 1 + 1 + 1, u.p.fr, u.p.b, u.p.a, u.p.b0, u.p.o, u.p.cap, u.p.l⟩, u.sn, ⟨u.x.q, u.x.s, u.x.fr, u.x.b, u.x.a, u.x.b0, u.x.o, u.x.cap, u.x.l⟩⟩ : Hd) 2 N3 (by decide))
      have c3 : w3.cell? ⟨g, i * 13 + 3, none⟩ = some (.int .i64 (K + 1 + 1 + 1)) := (R3.cellAt (i * 13 + 3) (by omega)).trans (hdCells_at _ i (⟨mtOf K, K + 1, ⟨K + 1 + 1, K + 1 + 1 + 1, u.p.fr, u.p.b, u.p.a, u.p.b0, u.p.o, u.p.cap, u.p.l⟩, u.sn, ⟨u.x.q, u.x.s, u.x.fr, u.x.b, u.x.a, u.x.b0, u.x.o, u.x.cap, u.x.l⟩⟩ : Hd) 3 N3 (by decide))
      have c4 : w3.cell? ⟨g, i * 13 + 4, none⟩ = some (.slice u.p.a u.p.l.length u.p.cap) := (R3.cellAt (i * 13 + 4) (by omega)).trans (hdCells_at _ i (⟨mtOf K, K + 1, ⟨K + 1 + 1, K + 1 + 1 + 1, u.p.fr, u.p.b, u.p.a, u.p.b0, u.p.o, u.p.cap, u.p.l⟩, u.sn, ⟨u.x.q, u.x.s, u.x.fr, u.x.b, u.x.a, u.x.b0, u.x.o, u.x.cap, u.x.l⟩⟩ : Hd) 4 N3 (by decide))
      have c5 : w3.cell? ⟨g, i * 13 + 5, none⟩ = some (.int .i64 u.p.fr) := (R3.cellAt (i * 13 + 5) (by omega)).trans (hdCells_at _ i (⟨mtOf K, K + 1, ⟨K + 1 + 1, K + 1 + 1 + 1, u.p.fr, u.p.b, u.p.a, u.p.b0, u.p.o, u.p.cap, u.p.l⟩, u.sn, ⟨u.x.q, u.x.s, u.x.fr, u.x.b, u.x.a, u.x.b0, u.x.o, u.x.cap, u.x.l⟩⟩ : Hd) 5 N3 (by decide))
      have c6 : w3.cell? ⟨g, i * 13 + 6, none⟩ = some (.int .i64 u.p.b) := (R3.cellAt (i * 13 + 6) (by omega)).trans (hdCells_at _ i (⟨mtOf K, K + 1, ⟨K + 1 + 1, K + 1 + 1 + 1, u.p.fr, u.p.b, u.p.a, u.p.b0, u.p.o, u.p.cap, u.p.l⟩, u.sn, ⟨u.x.q, u.x.s, u.x.fr, u.x.b, u.x.a, u.x.b0, u.x.o, u.x.cap, u.x.l⟩⟩ : Hd) 6 N3 (by decide))
      have c7 : w3.cell? ⟨g, i * 13 + 7, none⟩ = some (.int .i64 u.sn) := (R3.cellAt (i * 13 + 7) (by omega)).trans (hdCells_at _ i (⟨mtOf K, K + 1, ⟨K + 1 + 1, K + 1 + 1 + 1, u.p.fr, u.p.b, u.p.a, u.p.b0, u.p.o, u.p.cap, u.p.l⟩, u.sn, ⟨u.x.q, u.x.s, u.x.fr, u.x.b, u.x.a, u.x.b0, u.x.o, u.x.cap, u.x.l⟩⟩ : Hd) 7 N3 (by decide))
      have c8 : w3.cell? ⟨g, i * 13 + 8, none⟩ = some (.int .i64 u.x.q) := (R3.cellAt (i * 13 + 8) (by omega)).trans (hdCells_at _ i (⟨mtOf K, K + 1, ⟨K + 1 + 1, K + 1 + 1 + 1, u.p.fr, u.p.b, u.p.a, u.p.b0, u.p.o, u.p.cap, u.p.l⟩, u.sn, ⟨u.x.q, u.x.s, u.x.fr, u.x.b, u.x.a, u.x.b0, u.x.o, u.x.cap, u.x.l⟩⟩ : Hd) 8 N3 (by decide))
      have c9 : w3.cell? ⟨g, i * 13 + 9, none⟩ = some (.int .i64 u.x.s) := (R3.cellAt (i * 13 + 9) (by omega)).trans (hdCells_at _ i (⟨mtOf K, K + 1, ⟨K + 1 + 1, K + 1 + 1 + 1, u.p.fr, u.p.b, u.p.a, u.p.b0, u.p.o, u.p.cap, u.p.l⟩, u.sn, ⟨u.x.q, u.x.s, u.x.fr, u.x.b, u.x.a, u.x.b0, u.x.o, u.x.cap, u.x.l⟩⟩ : Hd) 9 N3 (by decide))
      have c10 : w3.cell? ⟨g, i * 13 + 10, none⟩ = some (.slice u.x.a u.x.l.length u.x.cap) := (R3.cellAt (i * 13 + 10) (by omega)).trans (hdCells_at _ i (⟨mtOf K, K + 1, ⟨K + 1 + 1, K + 1 + 1 + 1, u.p.fr, u.p.b, u.p.a, u.p.b0, u.p.o, u.p.cap, u.p.l⟩, u.sn, ⟨u.x.q, u.x.s, u.x.fr, u.x.b, u.x.a, u.x.b0, u.x.o, u.x.cap, u.x.l⟩⟩ : Hd) 10 N3 (by decide))
      have c11 : w3.cell? ⟨g, i * 13 + 11, none⟩ = some (.int .i64 u.x.fr) := (R3.cellAt (i * 13 + 11) (by omega)).trans (hdCells_at _ i (⟨mtOf K, K + 1, ⟨K + 1 + 1, K + 1 + 1 + 1, u.p.fr, u.p.b, u.p.a, u.p.b0, u.p.o, u.p.cap, u.p.l⟩, u.sn, ⟨u.x.q, u.x.s, u.x.fr, u.x.b, u.x.a, u.x.b0, u.x.o, u.x.cap, u.x.l⟩⟩ : Hd) 11 N3 (by decide))
      have c12 : w3.cell? ⟨g, i * 13 + 12, none⟩ = some (.int .i64 u.x.b) := (R3.cellAt (i * 13 + 12) (by omega)).trans (hdCells_at _ i (⟨mtOf K, K + 1, ⟨K + 1 + 1, K + 1 + 1 + 1, u.p.fr, u.p.b, u.p.a, u.p.b0, u.p.o, u.p.cap, u.p.l⟩, u.sn, ⟨u.x.q, u.x.s, u.x.fr, u.x.b, u.x.a, u.x.b0, u.x.o, u.x.cap, u.x.l⟩⟩ : Hd) 12 N3 (by decide))
      have cf := R3.frozenAt
      have HR3 : Hid (w3.ownsRow base 63 13 (.slice (some ⟨g, 0, none⟩) us.length cap) us.length (hdCells ((mkTo k0 us i).set i (⟨mtOf K, K + 1, ⟨K + 1 + 1, K + 1 + 1 + 1, u.p.fr, u.p.b, u.p.a, u.p.b0, u.p.o, u.p.cap, u.p.l⟩, u.sn, ⟨u.x.q, u.x.s, u.x.fr, u.x.b, u.x.a, u.x.b0, u.x.o, u.x.cap, u.x.l⟩⟩ : Hd)))) := R3
      have HP3 : Hid (w3.ownsRow base 98 7 u.p.sl u.p.l.length (stepCells (markL (K + 1 + 1 + 1 + 1) u.p.l.length))) := P3
      have HX3 : Hid (PtOwn w3 base u.x) := X3
      have HS3 : Hid (Spared ((Value.slice (some ⟨g, 0, none⟩) us.length cap).ownBlock.toList ++ u.blks) wr w3) := S3
      obtain ⟨M, hM⟩ : ∃ M : Int, K + 1 + 1 + 1 + 1 + ((u.p.l.length * 7 : Nat) : Int) = M := ⟨_, rfl⟩
      rw [hM]
      have EM : Hid (K + 1 + 1 + 1 + 1 + ((u.p.l.length * 7 : Nat) : Int) = M) := hM
      have bz := EZ.out
      have bb := EB.out
      have m0 : 0 ≤ M := by omega
      have m1 : M ≤ 910000000 := by omega
      clear hM R3 P3 X3 S3 N3 bz bb
      go_wp2_with fail
      have rb0 := hd_put_set (t := (⟨mtOf K, K + 1, ⟨K + 1 + 1, K + 1 + 1 + 1, u.p.fr, u.p.b, u.p.a, u.p.b0, u.p.o, u.p.cap, u.p.l⟩, u.sn, ⟨u.x.q, u.x.s, u.x.fr, u.x.b, u.x.a, u.x.b0, u.x.o, u.x.cap, u.x.l⟩⟩ : Hd)) (t' := (⟨mtOf K, K + 1, ⟨K + 1 + 1, K + 1 + 1 + 1, M, u.p.b, u.p.a, u.p.b0, u.p.o, u.p.cap, u.p.l⟩, u.sn, ⟨u.x.q, u.x.s, u.x.fr, u.x.b, u.x.a, u.x.b0, u.x.o, u.x.cap, u.x.l⟩⟩ : Hd)) (j := 5) (u := .int .i64 (M)) HR3.out hiL (by decide) rfl
      have rb1 := hd_put_set (t := (⟨mtOf K, K + 1, ⟨K + 1 + 1, K + 1 + 1 + 1, M, u.p.b, u.p.a, u.p.b0, u.p.o, u.p.cap, u.p.l⟩, u.sn, ⟨u.x.q, u.x.s, u.x.fr, u.x.b, u.x.a, u.x.b0, u.x.o, u.x.cap, u.x.l⟩⟩ : Hd)) (t' := (⟨mtOf K, K + 1, ⟨K + 1 + 1, K + 1 + 1 + 1, M, M + 1, u.p.a, u.p.b0, u.p.o, u.p.cap, u.p.l⟩, u.sn, ⟨u.x.q, u.x.s, u.x.fr, u.x.b, u.x.a, u.x.b0, u.x.o, u.x.cap, u.x.l⟩⟩ : Hd)) (j := 6) (u := .int .i64 (M + 1)) rb0 hiL (by decide) rfl
      have rb2 := hd_put_set (t := (⟨mtOf K, K + 1, ⟨K + 1 + 1, K + 1 + 1 + 1, M, M + 1, u.p.a, u.p.b0, u.p.o, u.p.cap, u.p.l⟩, u.sn, ⟨u.x.q, u.x.s, u.x.fr, u.x.b, u.x.a, u.x.b0, u.x.o, u.x.cap, u.x.l⟩⟩ : Hd)) (t' := (⟨mtOf K, K + 1, ⟨K + 1 + 1, K + 1 + 1 + 1, M, M + 1, u.p.a, u.p.b0, u.p.o, u.p.cap, u.p.l⟩, M + 1 + 1, ⟨u.x.q, u.x.s, u.x.fr, u.x.b, u.x.a, u.x.b0, u.x.o, u.x.cap, u.x.l⟩⟩ : Hd)) (j := 7) (u := .int .i64 (M + 1 + 1)) rb1 hiL (by decide) rfl
      have rb3 := hd_put_set (t := (⟨mtOf K, K + 1, ⟨K + 1 + 1, K + 1 + 1 + 1, M, M + 1, u.p.a, u.p.b0, u.p.o, u.p.cap, u.p.l⟩, M + 1 + 1, ⟨u.x.q, u.x.s, u.x.fr, u.x.b, u.x.a, u.x.b0, u.x.o, u.x.cap, u.x.l⟩⟩ : Hd)) (t' := (⟨mtOf K, K + 1, ⟨K + 1 + 1, K + 1 + 1 + 1, M, M + 1, u.p.a, u.p.b0, u.p.o, u.p.cap, u.p.l⟩, M + 1 + 1, ⟨M + 1 + 1 + 1, u.x.s, u.x.fr, u.x.b, u.x.a, u.x.b0, u.x.o, u.x.cap, u.x.l⟩⟩ : Hd)) (j := 8) (u := .int .i64 (M + 1 + 1 + 1)) rb2 hiL (by decide) rfl
      have rb4 := hd_put_set (t := (⟨mtOf K, K + 1, ⟨K + 1 + 1, K + 1 + 1 + 1, M, M + 1, u.p.a, u.p.b0, u.p.o, u.p.cap, u.p.l⟩, M + 1 + 1, ⟨M + 1 + 1 + 1, u.x.s, u.x.fr, u.x.b, u.x.a, u.x.b0, u.x.o, u.x.cap, u.x.l⟩⟩ : Hd)) (t' := (⟨mtOf K, K + 1, ⟨K + 1 + 1, K + 1 + 1 + 1, M, M + 1, u.p.a, u.p.b0, u.p.o, u.p.cap, u.p.l⟩, M + 1 + 1, ⟨M + 1 + 1 + 1, M + 1 + 1 + 1 + 1, u.x.fr, u.x.b, u.x.a, u.x.b0, u.x.o, u.x.cap, u.x.l⟩⟩ : Hd)) (j := 9) (u := .int .i64 (M + 1 + 1 + 1 + 1)) rb3 hiL (by decide) rfl
      refine (markSteps_all (M + 1 + 1 + 1 + 1 + 1) u.x.sl base u.x.l _ hxl ⟨by omega, by omega⟩ (owns_set (owns_set (owns_set (owns_set (owns_set (HX3.out) hgX _ _) hgX _ _) hgX _ _) hgX _ _) hgX _ _)).mono ?_
      rintro e w5 ⟨rfl, X5, g5⟩
      have R5 := keptRow rb4 g5 (fun k hk e => hgX k e (by simpa [Value.ownBlock] using hk.symm))
      have P5 := keptRow (owns_set (owns_set (owns_set (owns_set (owns_set (HP3.out) hgP _ _) hgP _ _) hgP _ _) hgP _ _) hgP _ _) g5 (fun k hk e => hpx k hk e)
      have S5 := HS3.out.trans ((Spared.grown (grown_over2 (grown_over2 (grown_over2 (grown_over2 (grown_set w3 ⟨g, i * 13 + 5, none⟩ (.int .i64 (M))) (grown_set _ ⟨g, i * 13 + 6, none⟩ (.int .i64 (M + 1)))) (grown_set _ ⟨g, i * 13 + 7, none⟩ (.int .i64 (M + 1 + 1)))) (grown_set _ ⟨g, i * 13 + 8, none⟩ (.int .i64 (M + 1 + 1 + 1)))) (grown_set _ ⟨g, i * 13 + 9, none⟩ (.int .i64 (M + 1 + 1 + 1 + 1)))) (by simp [Value.ownBlock])).trans (Spared.grown g5 (fun k hk => by simp [Hd.blks, hk])))
      have hg5 : g < w5.heap.size := (R5.lt g rfl).2
      have N5 : ((mkTo k0 us i).set i (⟨mtOf K, K + 1, ⟨K + 1 + 1, K + 1 + 1 + 1, M, M + 1, u.p.a, u.p.b0, u.p.o, u.p.cap, u.p.l⟩, M + 1 + 1, ⟨M + 1 + 1 + 1, M + 1 + 1 + 1 + 1, u.x.fr, u.x.b, u.x.a, u.x.b0, u.x.o, u.x.cap, u.x.l⟩⟩ : Hd))[i]? = some (⟨mtOf K, K + 1, ⟨K + 1 + 1, K + 1 + 1 + 1, M, M + 1, u.p.a, u.p.b0, u.p.o, u.p.cap, u.p.l⟩, M + 1 + 1, ⟨M + 1 + 1 + 1, M + 1 + 1 + 1 + 1, u.x.fr, u.x.b, u.x.a, u.x.b0, u.x.o, u.x.cap, u.x.l⟩⟩ : Hd) := List.getElem?_set_self hiL
      clear rb0 rb1 rb2 rb3 rb4 c0 c1 c2 c3 c4 c5 c6 c7 c8 c9 c10 c11 c12 cf HR3 HP3 HX3 HS3 g5 hg3
      have c0 : w5.cell? ⟨g, i * 13, none⟩ = some (.string (mtOf K)) := (R5.cellAt (i * 13) (by omega)).trans (hdCells_at _ i (⟨mtOf K, K + 1, ⟨K + 1 + 1, K + 1 + 1 + 1, M, M + 1, u.p.a, u.p.b0, u.p.o, u.p.cap, u.p.l⟩, M + 1 + 1, ⟨M + 1 + 1 + 1, M + 1 + 1 + 1 + 1, u.x.fr, u.x.b, u.x.a, u.x.b0, u.x.o, u.x.cap, u.x.l⟩⟩ : Hd) 0 N5 (by decide))
      have c1 : w5.cell? ⟨g, i * 13 + 1, none⟩ = some (.int .i64 (K + 1)) := (R5.cellAt (i * 13 + 1) (by omega)).trans (hdCells_at _ i (⟨mtOf K, K + 1, ⟨K + 1 + 1, K + 1 + 1 + 1, M, M + 1, u.p.a, u.p.b0, u.p.o, u.p.cap, u.p.l⟩, M + 1 + 1, ⟨M + 1 + 1 + 1, M + 1 + 1 + 1 + 1, u.x.fr, u.x.b, u.x.a, u.x.b0, u.x.o, u.x.cap, u.x.l⟩⟩ : Hd) 1 N5 (by decide))
      have c2 : w5.cell? ⟨g, i * 13 + 2, none⟩ = some (.int .i64 (K + 1 + 1)) := (R5.cellAt (i * 13 + 2) (by omega)).trans (hdCells_at _ i (⟨mtOf K, K + 1, ⟨K + 1 + 1, K + 1 + 1 + 1, M, M + 1, u.p.a, u.p.b0, u.p.o, u.p.cap, u.p.l⟩, M + 1 + 1, ⟨M + 1 + 1 + 1, M + 1 + 1 + 1 + 1, u.x.fr, u.x.b, u.x.a, u.x.b0, u.x.o, u.x.cap, u.x.l⟩⟩ : Hd) 2 N5 (by decide))
      have c3 : w5.cell? ⟨g, i * 13 + 3, none⟩ = some (.int .i64 (K + 1 + 1 + 1)) := (R5.cellAt (i * 13 + 3) (by omega)).trans (hdCells_at _ i (⟨mtOf K, K + 1, ⟨K + 1 + 1, K + 1 + 1 + 1, M, M + 1, u.p.a, u.p.b0, u.p.o, u.p.cap, u.p.l⟩, M + 1 + 1, ⟨M + 1 + 1 + 1, M + 1 + 1 + 1 + 1, u.x.fr, u.x.b, u.x.a, u.x.b0, u.x.o, u.x.cap, u.x.l⟩⟩ : Hd) 3 N5 (by decide))
      have c4 : w5.cell? ⟨g, i * 13 + 4, none⟩ = some (.slice u.p.a u.p.l.length u.p.cap) := (R5.cellAt (i * 13 + 4) (by omega)).trans (hdCells_at _ i (⟨mtOf K, K + 1, ⟨K + 1 + 1, K + 1 + 1 + 1, M, M + 1, u.p.a, u.p.b0, u.p.o, u.p.cap, u.p.l⟩, M + 1 + 1, ⟨M + 1 + 1 + 1, M + 1 + 1 + 1 + 1, u.x.fr, u.x.b, u.x.a, u.x.b0, u.x.o, u.x.cap, u.x.l⟩⟩ : Hd) 4 N5 (by decide))
      have c5 : w5.cell? ⟨g, i * 13 + 5, none⟩ = some (.int .i64 M) := (R5.cellAt (i * 13 + 5) (by omega)).trans (hdCells_at _ i (⟨mtOf K, K + 1, ⟨K + 1 + 1, K + 1 + 1 + 1, M, M + 1, u.p.a, u.p.b0, u.p.o, u.p.cap, u.p.l⟩, M + 1 + 1, ⟨M + 1 + 1 + 1, M + 1 + 1 + 1 + 1, u.x.fr, u.x.b, u.x.a, u.x.b0, u.x.o, u.x.cap, u.x.l⟩⟩ : Hd) 5 N5 (by decide))
      have c6 : w5.cell? ⟨g, i * 13 + 6, none⟩ = some (.int .i64 (M + 1)) := (R5.cellAt (i * 13 + 6) (by omega)).trans (hdCells_at _ i (⟨mtOf K, K + 1, ⟨K + 1 + 1, K + 1 + 1 + 1, M, M + 1, u.p.a, u.p.b0, u.p.o, u.p.cap, u.p.l⟩, M + 1 + 1, ⟨M + 1 + 1 + 1, M + 1 + 1 + 1 + 1, u.x.fr, u.x.b, u.x.a, u.x.b0, u.x.o, u.x.cap, u.x.l⟩⟩ : Hd) 6 N5 (by decide))
      have c7 : w5.cell? ⟨g, i * 13 + 7, none⟩ = some (.int .i64 (M + 1 + 1)) := (R5.cellAt (i * 13 + 7) (by omega)).trans (hdCells_at _ i (⟨mtOf K, K + 1, ⟨K + 1 + 1, K + 1 + 1 + 1, M, M + 1, u.p.a, u.p.b0, u.p.o, u.p.cap, u.p.l⟩, M + 1 + 1, ⟨M + 1 + 1 + 1, M + 1 + 1 + 1 + 1, u.x.fr, u.x.b, u.x.a, u.x.b0, u.x.o, u.x.cap, u.x.l⟩⟩ : Hd) 7 N5 (by decide))
      have c8 : w5.cell? ⟨g, i * 13 + 8, none⟩ = some (.int .i64 (M + 1 + 1 + 1)) := (R5.cellAt (i * 13 + 8) (by omega)).trans (hdCells_at _ i (⟨mtOf K, K + 1, ⟨K + 1 + 1, K + 1 + 1 + 1, M, M + 1, u.p.a, u.p.b0, u.p.o, u.p.cap, u.p.l⟩, M + 1 + 1, ⟨M + 1 + 1 + 1, M + 1 + 1 + 1 + 1, u.x.fr, u.x.b, u.x.a, u.x.b0, u.x.o, u.x.cap, u.x.l⟩⟩ : Hd) 8 N5 (by decide))
      have c9 : w5.cell? ⟨g, i * 13 + 9, none⟩ = some (.int .i64 (M + 1 + 1 + 1 + 1)) := (R5.cellAt (i * 13 + 9) (by omega)).trans (hdCells_at _ i (⟨mtOf K, K + 1, ⟨K + 1 + 1, K + 1 + 1 + 1, M, M + 1, u.p.a, u.p.b0, u.p.o, u.p.cap, u.p.l⟩, M + 1 + 1, ⟨M + 1 + 1 + 1, M + 1 + 1 + 1 + 1, u.x.fr, u.x.b, u.x.a, u.x.b0, u.x.o, u.x.cap, u.x.l⟩⟩ : Hd) 9 N5 (by decide))
      have c10 : w5.cell? ⟨g, i * 13 + 10, none⟩ = some (.slice u.x.a u.x.l.length u.x.cap) := (R5.cellAt (i * 13 + 10) (by omega)).trans (hdCells_at _ i (⟨mtOf K, K + 1, ⟨K + 1 + 1, K + 1 + 1 + 1, M, M + 1, u.p.a, u.p.b0, u.p.o, u.p.cap, u.p.l⟩, M + 1 + 1, ⟨M + 1 + 1 + 1, M + 1 + 1 + 1 + 1, u.x.fr, u.x.b, u.x.a, u.x.b0, u.x.o, u.x.cap, u.x.l⟩⟩ : Hd) 10 N5 (by decide))
      have c11 : w5.cell? ⟨g, i * 13 + 11, none⟩ = some (.int .i64 u.x.fr) := (R5.cellAt (i * 13 + 11) (by omega)).trans (hdCells_at _ i (⟨mtOf K, K + 1, ⟨K + 1 + 1, K + 1 + 1 + 1, M, M + 1, u.p.a, u.p.b0, u.p.o, u.p.cap, u.p.l⟩, M + 1 + 1, ⟨M + 1 + 1 + 1, M + 1 + 1 + 1 + 1, u.x.fr, u.x.b, u.x.a, u.x.b0, u.x.o, u.x.cap, u.x.l⟩⟩ : Hd) 11 N5 (by decide))
      have c12 : w5.cell? ⟨g, i * 13 + 12, none⟩ = some (.int .i64 u.x.b) := (R5.cellAt (i * 13 + 12) (by omega)).trans (hdCells_at _ i (⟨mtOf K, K + 1, ⟨K + 1 + 1, K + 1 + 1 + 1, M, M + 1, u.p.a, u.p.b0, u.p.o, u.p.cap, u.p.l⟩, M + 1 + 1, ⟨M + 1 + 1 + 1, M + 1 + 1 + 1 + 1, u.x.fr, u.x.b, u.x.a, u.x.b0, u.x.o, u.x.cap, u.x.l⟩⟩ : Hd) 12 N5 (by decide))
      have cf := R5.frozenAt
      have HR5 : Hid (w5.ownsRow base 63 13 (.slice (some ⟨g, 0, none⟩) us.length cap) us.length (hdCells ((mkTo k0 us i).set i (⟨mtOf K, K + 1, ⟨K + 1 + 1, K + 1 + 1 + 1, M, M + 1, u.p.a, u.p.b0, u.p.o, u.p.cap, u.p.l⟩, M + 1 + 1, ⟨M + 1 + 1 + 1, M + 1 + 1 + 1 + 1, u.x.fr, u.x.b, u.x.a, u.x.b0, u.x.o, u.x.cap, u.x.l⟩⟩ : Hd)))) := R5
      have HP5 : Hid (w5.ownsRow base 98 7 u.p.sl u.p.l.length (stepCells (markL (K + 1 + 1 + 1 + 1) u.p.l.length))) := P5
      have HX5 : Hid (w5.ownsRow base 98 7 u.x.sl u.x.l.length (stepCells (markL (M + 1 + 1 + 1 + 1 + 1) u.x.l.length))) := X5
      have HS5 : Hid (Spared ((Value.slice (some ⟨g, 0, none⟩) us.length cap).ownBlock.toList ++ u.blks) wr w5) := S5
      obtain ⟨N, hN⟩ : ∃ N : Int, M + 1 + 1 + 1 + 1 + 1 + ((u.x.l.length * 7 : Nat) : Int) = N := ⟨_, rfl⟩
      rw [hN]
      have EN : Hid (M + 1 + 1 + 1 + 1 + 1 + ((u.x.l.length * 7 : Nat) : Int) = N) := hN
      have bz := EZ.out
      have bb := EB.out
      have n0 : 0 ≤ N := by omega
      have n1 : N ≤ 920000000 := by omega
      clear hN R5 P5 X5 S5 N5 bz bb
      go_wp2
      go_roundw
      case rel =>
        have rc0 := hd_put_set (t := (⟨mtOf K, K + 1, ⟨K + 1 + 1, K + 1 + 1 + 1, M, M + 1, u.p.a, u.p.b0, u.p.o, u.p.cap, u.p.l⟩, M + 1 + 1, ⟨M + 1 + 1 + 1, M + 1 + 1 + 1 + 1, u.x.fr, u.x.b, u.x.a, u.x.b0, u.x.o, u.x.cap, u.x.l⟩⟩ : Hd)) (t' := (⟨mtOf K, K + 1, ⟨K + 1 + 1, K + 1 + 1 + 1, M, M + 1, u.p.a, u.p.b0, u.p.o, u.p.cap, u.p.l⟩, M + 1 + 1, ⟨M + 1 + 1 + 1, M + 1 + 1 + 1 + 1, N, u.x.b, u.x.a, u.x.b0, u.x.o, u.x.cap, u.x.l⟩⟩ : Hd)) (j := 11) (u := .int .i64 (N)) HR5.out hiL (by decide) rfl
        have rc1 := hd_put_set (t := (⟨mtOf K, K + 1, ⟨K + 1 + 1, K + 1 + 1 + 1, M, M + 1, u.p.a, u.p.b0, u.p.o, u.p.cap, u.p.l⟩, M + 1 + 1, ⟨M + 1 + 1 + 1, M + 1 + 1 + 1 + 1, N, u.x.b, u.x.a, u.x.b0, u.x.o, u.x.cap, u.x.l⟩⟩ : Hd)) (t' := (⟨mtOf K, K + 1, ⟨K + 1 + 1, K + 1 + 1 + 1, M, M + 1, u.p.a, u.p.b0, u.p.o, u.p.cap, u.p.l⟩, M + 1 + 1, ⟨M + 1 + 1 + 1, M + 1 + 1 + 1 + 1, N, N + 1, u.x.a, u.x.b0, u.x.o, u.x.cap, u.x.l⟩⟩ : Hd)) (j := 12) (u := .int .i64 (N + 1)) rc0 hiL (by decide) rfl
        have e1 := EM.out
        have e2 := EN.out
        have e3 := EZ.out
        have e4 := EK.out
        have e5 := HT.out
        have eu : markHd K u = (⟨mtOf K, K + 1, ⟨K + 1 + 1, K + 1 + 1 + 1, M, M + 1, u.p.a, u.p.b0, u.p.o, u.p.cap, markL (K + 1 + 1 + 1 + 1) u.p.l.length⟩, M + 1 + 1, ⟨M + 1 + 1 + 1, M + 1 + 1 + 1 + 1, N, N + 1, u.x.a, u.x.b0, u.x.o, u.x.cap, markL (M + 1 + 1 + 1 + 1 + 1) u.x.l.length⟩⟩ : Hd) := by
          unfold markHd markPt ptSz
          simp only [Hd.mk.injEq, Pt.mk.injEq, true_and, and_true]
          refine ⟨⟨by omega, by omega⟩, by omega, by omega, by omega, by omega, by omega, ?_⟩
          congr 1
          omega
        refine ⟨i + 1, by omega, by go_num, by congr 1; omega, ?_, ?_⟩
        · rw [HS.out]
          have hS6 := HS5.out.trans (Spared.grown (grown_over2 (grown_set w5 ⟨g, i * 13 + 11, none⟩ (.int .i64 (N))) (grown_set _ ⟨g, i * 13 + 12, none⟩ (.int .i64 (N + 1)))) (by simp [Value.ownBlock]))
          refine HO.out.marked HN.out hS6 ?_ ?_ ?_ ?_ ?_
          · rw [HL.out, eu, hdCells_set_congr (u' := (⟨mtOf K, K + 1, ⟨K + 1 + 1, K + 1 + 1 + 1, M, M + 1, u.p.a, u.p.b0, u.p.o, u.p.cap, u.p.l⟩, M + 1 + 1, ⟨M + 1 + 1 + 1, M + 1 + 1 + 1 + 1, N, N + 1, u.x.a, u.x.b0, u.x.o, u.x.cap, u.x.l⟩⟩ : Hd)) (by simp [Hd.cl, markL_length])]
            exact rc1
          · rw [eu]
            show World.ownsRow _ _ _ _ (Value.slice u.p.a (markL (K + 1 + 1 + 1 + 1) u.p.l.length).length u.p.cap) (markL (K + 1 + 1 + 1 + 1) u.p.l.length).length _
            rw [markL_length]
            exact owns_set (owns_set (HP5.out) hgP _ _) hgP _ _
          · rw [eu]
            show World.ownsRow _ _ _ _ (Value.slice u.x.a (markL (M + 1 + 1 + 1 + 1 + 1) u.x.l.length).length u.x.cap) (markL (M + 1 + 1 + 1 + 1 + 1) u.x.l.length).length _
            rw [markL_length]
            exact owns_set (owns_set (HX5.out) hgX _ _) hgX _ _
          · exact markPt_sl _ _
          · exact markPt_sl _ _
        · exact HG.out.trans ((HS5.out.trans (Spared.grown (grown_over2 (grown_set w5 ⟨g, i * 13 + 11, none⟩ (.int .i64 (N))) (grown_set _ ⟨g, i * 13 + 12, none⟩ (.int .i64 (N + 1)))) (by simp [Value.ownBlock]))).mono (blks_mem hm))
      case measure => simp [intOf]; omega
    · obtain rfl : i = us.length := by omega
      go_wp2
      go_ret
      exact ⟨by rw [List.take_length]; rfl, by rw [← mkTo_all]; exact ho, hg⟩
end Go.Proofs.YtgjleeamhkolhaaGreatDoor

namespace Go.Proofs.YtgjleeamhkolhaaGreatDoor
open Go.RowKit

structure Bk where
  la : Int
  a : Option Addr
  b : Nat
  o : Nat
  cap : Nat
  ts : List Hd
abbrev Bk.val (t : Bk) : Value := .agg #[.int .i64 t.la, .slice t.a t.ts.length t.cap]
abbrev BkAt (w : World) (t : Bk) : Prop := HdsAt w t.a t.b t.o t.ts
structure BkIn (W : World) (B : Nat) (la : Int) (v : Value) : Prop where
  it : ∃ T, W.heap[B]? = some (.cells #[.int .i64 la, v] T (0, 0))
theorem BkIn.lt {W : World} {B : Nat} {la : Int} {v : Value} (h : BkIn W B la v) : B < W.heap.size := by
  obtain ⟨T, h⟩ := h.it
  exact lt_of_block h
theorem BkIn.keep {W W' : World} {B : Nat} {la : Int} {v : Value} (h : BkIn W B la v) (hb : Below W.heap.size W W') : BkIn W' B la v := by
  have hl := h.lt
  obtain ⟨T, h⟩ := h.it
  exact ⟨T, (hb.block _ hl).trans h⟩
theorem BkIn.new (w : World) (la : Int) (v : Value) (T : TypeId) : BkIn (w.alloc (.cells #[.int .i64 la, v] T)) w.heap.size la v := ⟨T, heap_alloc_new w _⟩
theorem BkIn.cells {W : World} {B : Nat} {la : Int} {v : Value} (h : BkIn W B la v) : W.cell? ⟨B, 0, none⟩ = some (.int .i64 la) ∧ W.cell? ⟨B, 1, none⟩ = some v ∧ ∀ j, W.frozen? ⟨B, j, none⟩ = false := by
  obtain ⟨T, h⟩ := h.it
  exact blk2 h

theorem szBook_any (t : Bk) (left : Int) (w : World) (hl : t.ts.length ≤ maxLen) (ht : ∀ u ∈ t.ts, u.nm.size ≤ maxLen ∧ u.p.l.length ≤ maxLen ∧ u.x.l.length ≤ maxLen) (h0 : -1 ≤ left) (h1 : left ≤ 1048576) (hs : BkAt w t) :
    Calls Tryz.prog 5 #[t.val, .int .i64 left] w fun e w' => e = .returned (.int .i64 (leftHs left t.ts)) ∧ Below w.heap.size w w' := by
  have K0 := bel1 (w := w) (.cells #[.int .i64 t.la, .slice t.a t.ts.length t.cap] 24)
  have hr : -1 ≤ leftHs left t.ts ∧ leftHs left t.ts ≤ 1048576 := by
    unfold leftHs
    have := leftB_left left t.ts.length h0 h1
    exact foldH_range _ _ this.1 this.2
  go_enter Tryz.func5, Tryz.ntmps5
  go_wp2_with fail
  refine (szHelds_any t.a t.b t.o t.cap t.ts left _ hl ht h0 h1 (hs.below K0)).mono ?_
  rintro e w1 ⟨rfl, hb1⟩
  generalize hx : leftHs left t.ts = x at *
  by_cases h2 : x < 0
  · have e1 : x = -1 := by omega
    have E1 : Hid (x = -1) := e1
    clear e1
    go_wp2
    go_ret
    exact ⟨by rw [hx, E1.out]; rfl, K0.trans (hb1.mono K0.size)⟩
  · go_wp2
    go_ret
    exact ⟨by rw [hx]; rfl, K0.trans (hb1.mono K0.size)⟩

set_option maxHeartbeats 1000000 in
theorem toBook_any (t : Bk) (w : World) (hl : t.ts.length ≤ 1048576) (hsm : ∀ u ∈ t.ts, u.p.l.length ≤ 1048576 ∧ u.x.l.length ≤ 1048576) (hs : BkAt w t) :
    Calls Tryz.prog 8 #[t.val] w fun e w' => ∃ g us, e = .returned (.agg #[.int .i64 t.la, .slice (some ⟨g, 0, none⟩) t.ts.length t.ts.length]) ∧ w.heap.size ≤ g ∧ HdsPut w' g t.ts us ∧ Below w.heap.size w w' := by
  have B0 := bel3 (w := w) (.cells #[.int .i64 t.la, .slice t.a t.ts.length t.cap] 24) (.cells #[.int .i64 0, .slice none 0 0] 34) (.cells #[.int .i64 t.la, .slice none 0 0] 34)
  go_enter Tryz.func8, Tryz.ntmps8
  go_wp2_with fail
  refine (toHelds_any t.a t.b t.o t.cap t.ts _ hl hsm (hs.below B0)).mono ?_
  rintro e w1 ⟨g, us, rfl, hg, hP, hb1⟩
  obtain ⟨hc1, hf1⟩ := old_cells hb1
  have r1 : ∀ j, w1.cell? ⟨w.heap.size + 1, j, none⟩ = _ := fun j => hc1 (w.heap.size + 1) j (by simp)
  have r2 : ∀ j, w1.cell? ⟨w.heap.size + 1 + 1, j, none⟩ = _ := fun j => hc1 (w.heap.size + 1 + 1) j (by simp)
  have f1 : ∀ j, w1.frozen? ⟨w.heap.size + 1, j, none⟩ = _ := fun j => hf1 (w.heap.size + 1) j (by simp)
  have f2 : ∀ j, w1.frozen? ⟨w.heap.size + 1 + 1, j, none⟩ = _ := fun j => hf1 (w.heap.size + 1 + 1) j (by simp)
  have B1 := B0.trans (hb1.mono B0.size)
  simp at hg
  clear hb1 hc1 hf1 B0
  go_wp2
  refine bodyPost_ret (v := .agg #[.int .i64 t.la, .slice (some ⟨g, 0, none⟩) t.ts.length t.ts.length]) (by simp [results, Tryz.results8, go_sem, *]) rfl ⟨g, us, rfl, by omega, ?_, ?_⟩
  · repeat (refine HdsPut.set ?_ (by simp; omega) _)
    exact hP
  · repeat (refine Below.setCell ?_ (by simp <;> omega) _)
    exact B1

theorem eqBook_same (la : Int) (a a' : Option Addr) (b o cap b' o' cap' : Nat) (us vs : List Hd) (w : World) (hl : us.length ≤ 1048576) (hk : us.map Hd.key = vs.map Hd.key) (hsm : ∀ t ∈ us, t.p.l.length ≤ 1048576 ∧ t.x.l.length ≤ 1048576) (hs : HdsAt w a b o us) (hs' : HdsAt w a' b' o' vs) :
    Calls Tryz.prog 11 #[.agg #[.int .i64 la, .slice a us.length cap], .agg #[.int .i64 la, .slice a' us.length cap']] w fun e w' => e = .returned (.bool true) ∧ Below w.heap.size w w' := by
  have K0 := bel2 (w := w) (.cells #[.int .i64 la, .slice a us.length cap] 34) (.cells #[.int .i64 la, .slice a' us.length cap'] 34)
  go_enter Tryz.func11, Tryz.ntmps11
  go_wp2_with fail
  refine (eqHelds_same a a' b o cap b' o' cap' us vs _ hl hk hsm (hs.below K0) (hs'.below K0)).mono ?_
  rintro e w1 ⟨rfl, hb1⟩
  go_wp2
  go_ret
  exact ⟨rfl, K0.trans (hb1.mono K0.size)⟩
end Go.Proofs.YtgjleeamhkolhaaGreatDoor

namespace Go.Proofs.YtgjleeamhkolhaaGreatDoor
open Go.RowKit

set_option maxHeartbeats 8000000 in
set_option maxRecDepth 40000 in
theorem heldHelds_row (k0 : Int) (g cap base : Nat) (us : List Hd) (w : World) (hn : us.length ≤ 1048576) (hsm : ∀ u ∈ us, u.p.l.length ≤ 1048576 ∧ u.x.l.length ≤ 1048576) (hk : 0 ≤ k0 ∧ k0 + (totH us : Int) ≤ 900000000) (h : BkOwn w base (.slice (some ⟨g, 0, none⟩) us.length cap) (markHds k0 us)) :
    Calls Tryz.prog 44 #[.slice (some ⟨g, 0, none⟩) us.length cap, .int .i64 k0] w
      fun e w' => e = .returned (.int .i64 (k0 + (totH us : Int))) ∧ Below w.heap.size w w' := by
  obtain ⟨k1, k2⟩ := hk
  have R0 := h.row
  rw [markHds_length] at R0
  go_enter Tryz.func44, Tryz.ntmps44
  go_wp2
  go_loopw [1, 5] (fun v u wr => ∃ i : Nat, i ≤ us.length ∧ u = .int .i64 i ∧ v = .int .i64 (k0 + (totH (us.take i) : Int)) ∧ Below w.heap.size w wr) (fun _ u _ => us.length - (intOf u).toNat)
  case atStart => exact ⟨0, Nat.zero_le _, rfl, by simp [totH], Below.refl _ _⟩
  case round =>
    obtain ⟨i, hi, rfl, rfl, hb⟩ := hrel
    by_cases hlt : i < us.length
    · obtain ⟨u, hu⟩ : ∃ u, us[i]? = some u := ⟨_, List.getElem?_eq_getElem hlt⟩
      have hm := List.mem_of_getElem? hu
      have hnow := markHds_get us k0 i u hu
      have hmm := List.mem_of_getElem? hnow
      have R1 := owns_below R0 hb
      have hE := h.each _ hmm
      have hP0 := owns_below hE.1 hb
      have hX0 := owns_below hE.2 hb
      obtain ⟨hpl, hxl⟩ := hsm u hm
      have i0 : (0 : Int) ≤ (i : Int) := by omega
      have i1 : (i : Int) < (us.length : Int) := by omega
      have htot : totH (us.take i) + hdSz u ≤ totH us := by rw [← totH_take hu]; exact totH_take_le _ _
      have HT : Hid (totH (us.take (i + 1)) = totH (us.take i) + hdSz u) := totH_take hu
      generalize hK : k0 + (totH (us.take i) : Int) = K at *
      have hz : hdSz u = 3 + (4 + u.p.l.length * 7) + (4 + u.x.l.length * 7) := rfl
      obtain ⟨M, hM⟩ : ∃ M : Int, K + 1 + 1 + 1 + 1 + ((u.p.l.length * 7 : Nat) : Int) = M := ⟨_, rfl⟩
      obtain ⟨N, hN⟩ : ∃ N : Int, M + 1 + 1 + 1 + 1 + 1 + ((u.x.l.length * 7 : Nat) : Int) = N := ⟨_, rfl⟩
      have eu : markHd K u = (⟨mtOf K, K + 1, ⟨K + 1 + 1, K + 1 + 1 + 1, M, M + 1, u.p.a, u.p.b0, u.p.o, u.p.cap, markL (K + 1 + 1 + 1 + 1) u.p.l.length⟩, M + 1 + 1, ⟨M + 1 + 1 + 1, M + 1 + 1 + 1 + 1, N, N + 1, u.x.a, u.x.b0, u.x.o, u.x.cap, markL (M + 1 + 1 + 1 + 1 + 1) u.x.l.length⟩⟩ : Hd) := by
        unfold markHd markPt ptSz
        simp only [Hd.mk.injEq, Pt.mk.injEq, true_and, and_true]
        refine ⟨⟨by omega, by omega⟩, by omega, by omega, by omega, by omega, by omega, ?_⟩
        congr 1
        omega
      rw [eu] at hnow hP0 hX0
      replace hP0 : wr.ownsRow base 98 7 (.slice u.p.a (markL (K + 1 + 1 + 1 + 1) u.p.l.length).length u.p.cap) (markL (K + 1 + 1 + 1 + 1) u.p.l.length).length (stepCells (markL (K + 1 + 1 + 1 + 1) u.p.l.length)) := hP0
      replace hX0 : wr.ownsRow base 98 7 (.slice u.x.a (markL (M + 1 + 1 + 1 + 1 + 1) u.x.l.length).length u.x.cap) (markL (M + 1 + 1 + 1 + 1 + 1) u.x.l.length).length (stepCells (markL (M + 1 + 1 + 1 + 1 + 1) u.x.l.length)) := hX0
      have c0 : wr.cell? ⟨g, i * 13, none⟩ = some (.string (mtOf K)) := (R1.cellAt (i * 13) (by omega)).trans (hdCells_at _ i (⟨mtOf K, K + 1, ⟨K + 1 + 1, K + 1 + 1 + 1, M, M + 1, u.p.a, u.p.b0, u.p.o, u.p.cap, markL (K + 1 + 1 + 1 + 1) u.p.l.length⟩, M + 1 + 1, ⟨M + 1 + 1 + 1, M + 1 + 1 + 1 + 1, N, N + 1, u.x.a, u.x.b0, u.x.o, u.x.cap, markL (M + 1 + 1 + 1 + 1 + 1) u.x.l.length⟩⟩ : Hd) 0 hnow (by decide))
      have c1 : wr.cell? ⟨g, i * 13 + 1, none⟩ = some (.int .i64 (K + 1)) := (R1.cellAt (i * 13 + 1) (by omega)).trans (hdCells_at _ i (⟨mtOf K, K + 1, ⟨K + 1 + 1, K + 1 + 1 + 1, M, M + 1, u.p.a, u.p.b0, u.p.o, u.p.cap, markL (K + 1 + 1 + 1 + 1) u.p.l.length⟩, M + 1 + 1, ⟨M + 1 + 1 + 1, M + 1 + 1 + 1 + 1, N, N + 1, u.x.a, u.x.b0, u.x.o, u.x.cap, markL (M + 1 + 1 + 1 + 1 + 1) u.x.l.length⟩⟩ : Hd) 1 hnow (by decide))
      have c2 : wr.cell? ⟨g, i * 13 + 2, none⟩ = some (.int .i64 (K + 1 + 1)) := (R1.cellAt (i * 13 + 2) (by omega)).trans (hdCells_at _ i (⟨mtOf K, K + 1, ⟨K + 1 + 1, K + 1 + 1 + 1, M, M + 1, u.p.a, u.p.b0, u.p.o, u.p.cap, markL (K + 1 + 1 + 1 + 1) u.p.l.length⟩, M + 1 + 1, ⟨M + 1 + 1 + 1, M + 1 + 1 + 1 + 1, N, N + 1, u.x.a, u.x.b0, u.x.o, u.x.cap, markL (M + 1 + 1 + 1 + 1 + 1) u.x.l.length⟩⟩ : Hd) 2 hnow (by decide))
      have c3 : wr.cell? ⟨g, i * 13 + 3, none⟩ = some (.int .i64 (K + 1 + 1 + 1)) := (R1.cellAt (i * 13 + 3) (by omega)).trans (hdCells_at _ i (⟨mtOf K, K + 1, ⟨K + 1 + 1, K + 1 + 1 + 1, M, M + 1, u.p.a, u.p.b0, u.p.o, u.p.cap, markL (K + 1 + 1 + 1 + 1) u.p.l.length⟩, M + 1 + 1, ⟨M + 1 + 1 + 1, M + 1 + 1 + 1 + 1, N, N + 1, u.x.a, u.x.b0, u.x.o, u.x.cap, markL (M + 1 + 1 + 1 + 1 + 1) u.x.l.length⟩⟩ : Hd) 3 hnow (by decide))
      have c4 : wr.cell? ⟨g, i * 13 + 4, none⟩ = some (.slice u.p.a (markL (K + 1 + 1 + 1 + 1) u.p.l.length).length u.p.cap) := (R1.cellAt (i * 13 + 4) (by omega)).trans (hdCells_at _ i (⟨mtOf K, K + 1, ⟨K + 1 + 1, K + 1 + 1 + 1, M, M + 1, u.p.a, u.p.b0, u.p.o, u.p.cap, markL (K + 1 + 1 + 1 + 1) u.p.l.length⟩, M + 1 + 1, ⟨M + 1 + 1 + 1, M + 1 + 1 + 1 + 1, N, N + 1, u.x.a, u.x.b0, u.x.o, u.x.cap, markL (M + 1 + 1 + 1 + 1 + 1) u.x.l.length⟩⟩ : Hd) 4 hnow (by decide))
      have c5 : wr.cell? ⟨g, i * 13 + 5, none⟩ = some (.int .i64 M) := (R1.cellAt (i * 13 + 5) (by omega)).trans (hdCells_at _ i (⟨mtOf K, K + 1, ⟨K + 1 + 1, K + 1 + 1 + 1, M, M + 1, u.p.a, u.p.b0, u.p.o, u.p.cap, markL (K + 1 + 1 + 1 + 1) u.p.l.length⟩, M + 1 + 1, ⟨M + 1 + 1 + 1, M + 1 + 1 + 1 + 1, N, N + 1, u.x.a, u.x.b0, u.x.o, u.x.cap, markL (M + 1 + 1 + 1 + 1 + 1) u.x.l.length⟩⟩ : Hd) 5 hnow (by decide))
      have c6 : wr.cell? ⟨g, i * 13 + 6, none⟩ = some (.int .i64 (M + 1)) := (R1.cellAt (i * 13 + 6) (by omega)).trans (hdCells_at _ i (⟨mtOf K, K + 1, ⟨K + 1 + 1, K + 1 + 1 + 1, M, M + 1, u.p.a, u.p.b0, u.p.o, u.p.cap, markL (K + 1 + 1 + 1 + 1) u.p.l.length⟩, M + 1 + 1, ⟨M + 1 + 1 + 1, M + 1 + 1 + 1 + 1, N, N + 1, u.x.a, u.x.b0, u.x.o, u.x.cap, markL (M + 1 + 1 + 1 + 1 + 1) u.x.l.length⟩⟩ : Hd) 6 hnow (by decide))
      have c7 : wr.cell? ⟨g, i * 13 + 7, none⟩ = some (.int .i64 (M + 1 + 1)) := (R1.cellAt (i * 13 + 7) (by omega)).trans (hdCells_at _ i (⟨mtOf K, K + 1, ⟨K + 1 + 1, K + 1 + 1 + 1, M, M + 1, u.p.a, u.p.b0, u.p.o, u.p.cap, markL (K + 1 + 1 + 1 + 1) u.p.l.length⟩, M + 1 + 1, ⟨M + 1 + 1 + 1, M + 1 + 1 + 1 + 1, N, N + 1, u.x.a, u.x.b0, u.x.o, u.x.cap, markL (M + 1 + 1 + 1 + 1 + 1) u.x.l.length⟩⟩ : Hd) 7 hnow (by decide))
      have c8 : wr.cell? ⟨g, i * 13 + 8, none⟩ = some (.int .i64 (M + 1 + 1 + 1)) := (R1.cellAt (i * 13 + 8) (by omega)).trans (hdCells_at _ i (⟨mtOf K, K + 1, ⟨K + 1 + 1, K + 1 + 1 + 1, M, M + 1, u.p.a, u.p.b0, u.p.o, u.p.cap, markL (K + 1 + 1 + 1 + 1) u.p.l.length⟩, M + 1 + 1, ⟨M + 1 + 1 + 1, M + 1 + 1 + 1 + 1, N, N + 1, u.x.a, u.x.b0, u.x.o, u.x.cap, markL (M + 1 + 1 + 1 + 1 + 1) u.x.l.length⟩⟩ : Hd) 8 hnow (by decide))
      have c9 : wr.cell? ⟨g, i * 13 + 9, none⟩ = some (.int .i64 (M + 1 + 1 + 1 + 1)) := (R1.cellAt (i * 13 + 9) (by omega)).trans (hdCells_at _ i (⟨mtOf K, K + 1, ⟨K + 1 + 1, K + 1 + 1 + 1, M, M + 1, u.p.a, u.p.b0, u.p.o, u.p.cap, markL (K + 1 + 1 + 1 + 1) u.p.l.length⟩, M + 1 + 1, ⟨M + 1 + 1 + 1, M + 1 + 1 + 1 + 1, N, N + 1, u.x.a, u.x.b0, u.x.o, u.x.cap, markL (M + 1 + 1 + 1 + 1 + 1) u.x.l.length⟩⟩ : Hd) 9 hnow (by decide))
      have c10 : wr.cell? ⟨g, i * 13 + 10, none⟩ = some (.slice u.x.a (markL (M + 1 + 1 + 1 + 1 + 1) u.x.l.length).length u.x.cap) := (R1.cellAt (i * 13 + 10) (by omega)).trans (hdCells_at _ i (⟨mtOf K, K + 1, ⟨K + 1 + 1, K + 1 + 1 + 1, M, M + 1, u.p.a, u.p.b0, u.p.o, u.p.cap, markL (K + 1 + 1 + 1 + 1) u.p.l.length⟩, M + 1 + 1, ⟨M + 1 + 1 + 1, M + 1 + 1 + 1 + 1, N, N + 1, u.x.a, u.x.b0, u.x.o, u.x.cap, markL (M + 1 + 1 + 1 + 1 + 1) u.x.l.length⟩⟩ : Hd) 10 hnow (by decide))
      have c11 : wr.cell? ⟨g, i * 13 + 11, none⟩ = some (.int .i64 N) := (R1.cellAt (i * 13 + 11) (by omega)).trans (hdCells_at _ i (⟨mtOf K, K + 1, ⟨K + 1 + 1, K + 1 + 1 + 1, M, M + 1, u.p.a, u.p.b0, u.p.o, u.p.cap, markL (K + 1 + 1 + 1 + 1) u.p.l.length⟩, M + 1 + 1, ⟨M + 1 + 1 + 1, M + 1 + 1 + 1 + 1, N, N + 1, u.x.a, u.x.b0, u.x.o, u.x.cap, markL (M + 1 + 1 + 1 + 1 + 1) u.x.l.length⟩⟩ : Hd) 11 hnow (by decide))
      have c12 : wr.cell? ⟨g, i * 13 + 12, none⟩ = some (.int .i64 (N + 1)) := (R1.cellAt (i * 13 + 12) (by omega)).trans (hdCells_at _ i (⟨mtOf K, K + 1, ⟨K + 1 + 1, K + 1 + 1 + 1, M, M + 1, u.p.a, u.p.b0, u.p.o, u.p.cap, markL (K + 1 + 1 + 1 + 1) u.p.l.length⟩, M + 1 + 1, ⟨M + 1 + 1 + 1, M + 1 + 1 + 1 + 1, N, N + 1, u.x.a, u.x.b0, u.x.o, u.x.cap, markL (M + 1 + 1 + 1 + 1 + 1) u.x.l.length⟩⟩ : Hd) 12 hnow (by decide))
      rw [markL_length] at hP0 hX0 c4 c10
      have hgl : g < wr.heap.size := (R1.lt g rfl).2
      have EK : Hid (k0 + (totH (us.take i) : Int) = K) := hK
      have EZ : Hid (hdSz u = 3 + (4 + u.p.l.length * 7) + (4 + u.x.l.length * 7)) := hz
      have EM : Hid (K + 1 + 1 + 1 + 1 + ((u.p.l.length * 7 : Nat) : Int) = M) := hM
      have EN : Hid (M + 1 + 1 + 1 + 1 + 1 + ((u.x.l.length * 7 : Nat) : Int) = N) := hN
      have HP : Hid (wr.ownsRow base 98 7 (.slice u.p.a u.p.l.length u.p.cap) u.p.l.length (stepCells (markL (K + 1 + 1 + 1 + 1) u.p.l.length))) := hP0
      have HX : Hid (wr.ownsRow base 98 7 (.slice u.x.a u.x.l.length u.x.cap) u.x.l.length (stepCells (markL (M + 1 + 1 + 1 + 1 + 1) u.x.l.length))) := hX0
      have b2 : 0 ≤ K := by omega
      have b4 : K ≤ 900000000 := by omega
      have m0 : 0 ≤ M := by omega
      have m1 : M ≤ 910000000 := by omega
      have n0 : 0 ≤ N := by omega
      have n1 : N ≤ 920000000 := by omega
      have tt : ((mtOf K).toList == (mtOf K).toList) = true := by simp
      clear hnow hu hP0 hX0 R1 hK hz hmm htot hM hN eu hE
      go_wp2_with fail
      have D1 : Below wr.heap.size wr wr.drew := (Below.refl _ _).drew
      go_region_held3 (fun w' => w'.cell? ⟨g, i * 13, none⟩ = some (.string (mtOf K)))
        (simp [go_sem, *])
        (first
          | (go_at_call 75; refine (markText_any K _ b2 (by omega)).mono ?_; rintro e w1 ⟨rfl, hb0⟩; have hb1 := D1.trans hb0; have d0 := (hb1.cell (p := ⟨g, i * 13, none⟩) hgl).trans c0)
          | fail)
      replace c0 := (hb1.cell (p := ⟨g, i * 13, none⟩) hgl).trans c0
      replace c1 := (hb1.cell (p := ⟨g, i * 13 + 1, none⟩) hgl).trans c1
      replace c2 := (hb1.cell (p := ⟨g, i * 13 + 2, none⟩) hgl).trans c2
      replace c3 := (hb1.cell (p := ⟨g, i * 13 + 3, none⟩) hgl).trans c3
      replace c4 := (hb1.cell (p := ⟨g, i * 13 + 4, none⟩) hgl).trans c4
      replace c5 := (hb1.cell (p := ⟨g, i * 13 + 5, none⟩) hgl).trans c5
      replace c6 := (hb1.cell (p := ⟨g, i * 13 + 6, none⟩) hgl).trans c6
      replace c7 := (hb1.cell (p := ⟨g, i * 13 + 7, none⟩) hgl).trans c7
      replace c8 := (hb1.cell (p := ⟨g, i * 13 + 8, none⟩) hgl).trans c8
      replace c9 := (hb1.cell (p := ⟨g, i * 13 + 9, none⟩) hgl).trans c9
      replace c10 := (hb1.cell (p := ⟨g, i * 13 + 10, none⟩) hgl).trans c10
      replace c11 := (hb1.cell (p := ⟨g, i * 13 + 11, none⟩) hgl).trans c11
      replace c12 := (hb1.cell (p := ⟨g, i * 13 + 12, none⟩) hgl).trans c12
      have B1 := hb.trans (hb1.mono hb.size)
      have HP1 := owns_below HP.out hb1
      have HX1 := owns_below HX.out hb1
      have KP1 : Hid (w1.ownsRow base 98 7 (.slice u.p.a u.p.l.length u.p.cap) u.p.l.length (stepCells (markL (K + 1 + 1 + 1 + 1) u.p.l.length))) := HP1
      have KX1 : Hid (w1.ownsRow base 98 7 (.slice u.x.a u.x.l.length u.x.cap) u.x.l.length (stepCells (markL (M + 1 + 1 + 1 + 1 + 1) u.x.l.length))) := HX1
      clear HP HX HP1 HX1 hb1
      go_wp2_with fail
      refine (heldSteps_all (K + 1 + 1 + 1 + 1) _ base u.p.l.length _ hpl ⟨by omega, by omega⟩ KP1.out).mono ?_
      rintro e w2 ⟨rfl, rfl⟩
      rw [EM.out]
      go_wp2_with fail
      refine (heldSteps_all (M + 1 + 1 + 1 + 1 + 1) _ base u.x.l.length _ hxl ⟨by omega, by omega⟩ KX1.out).mono ?_
      rintro e w3 ⟨rfl, rfl⟩
      rw [EN.out]
      go_wp2
      go_roundw
      case rel =>
        have e1 := EM.out
        have e2 := EN.out
        have e3 := EZ.out
        have e4 := EK.out
        have e5 := HT.out
        exact ⟨i + 1, by omega, by go_num, by congr 1; omega, B1⟩
      case measure => simp [intOf]; omega
    · obtain rfl : i = us.length := by omega
      go_wp2
      go_ret
      exact ⟨by rw [List.take_length]; rfl, hb⟩

theorem markHelds_own (k0 : Int) (v : Value) (base : Nat) (us : List Hd) (w : World) (hn : us.length ≤ 1048576) (hsm : ∀ u ∈ us, u.p.l.length ≤ 1048576 ∧ u.x.l.length ≤ 1048576) (hk : 0 ≤ k0 ∧ k0 + (totH us : Int) ≤ 900000000) (h : BkOwn w base v us) :
    Calls Tryz.prog 42 #[v, .int .i64 k0] w fun e w' => e = .returned (.int .i64 (k0 + (totH us : Int))) ∧ BkOwn w' base v (markHds k0 us) ∧ Spared (bkBlks v us) w w' := by
  rcases h.row.2 with ⟨rfl, h0⟩ | ⟨g, cap, cur, rfl, _⟩
  · have : us = [] := List.eq_nil_of_length_eq_zero h0
    subst this
    refine (markHelds_nil k0 w).mono ?_
    rintro e w1 ⟨rfl, rfl⟩
    exact ⟨by simp [totH], h, Spared.refl _ _⟩
  · exact markHelds_row k0 g cap base us w hn hsm hk h
theorem heldHelds_own (k0 : Int) (v : Value) (base : Nat) (us : List Hd) (w : World) (hn : us.length ≤ 1048576) (hsm : ∀ u ∈ us, u.p.l.length ≤ 1048576 ∧ u.x.l.length ≤ 1048576) (hk : 0 ≤ k0 ∧ k0 + (totH us : Int) ≤ 900000000) (h : BkOwn w base v (markHds k0 us)) :
    Calls Tryz.prog 44 #[v, .int .i64 k0] w fun e w' => e = .returned (.int .i64 (k0 + (totH us : Int))) ∧ Below w.heap.size w w' := by
  have h1 := h.row
  rw [markHds_length] at h1
  rcases h1.2 with ⟨rfl, h0⟩ | ⟨g, cap, cur, rfl, _⟩
  · have : us = [] := List.eq_nil_of_length_eq_zero h0
    subst this
    refine (heldHelds_nil k0 w).mono ?_
    rintro e w1 ⟨rfl, rfl⟩
    exact ⟨by simp [totH], Below.refl _ _⟩
  · exact heldHelds_row k0 g cap base us w hn hsm hk h
theorem own_slice {W : World} {base e size n : Nat} {v : Value} {xs : List Value} (h : W.ownsRow base e size v n xs) : ∃ a c, v = .slice a n c := by
  rcases h.2 with ⟨rfl, rfl⟩ | ⟨g, cap, cur, rfl, _⟩
  · exact ⟨none, 0, rfl⟩
  · exact ⟨_, _, rfl⟩

theorem markBook_own (la k0 : Int) (v : Value) (base : Nat) (us : List Hd) (w : World) (hn : us.length ≤ 1048576) (hsm : ∀ u ∈ us, u.p.l.length ≤ 1048576 ∧ u.x.l.length ≤ 1048576) (hk : 0 ≤ k0 ∧ k0 + (totH us : Int) ≤ 900000000) (h : BkOwn w base v us) :
    Calls Tryz.prog 14 #[.agg #[.int .i64 la, v], .int .i64 k0] w fun e w' => e = .returned (.int .i64 (k0 + (totH us : Int))) ∧ BkOwn w' base v (markHds k0 us) ∧ Spared (bkBlks v us) w w' := by
  obtain ⟨a, c, rfl⟩ := own_slice h.row
  have K0 := bel1 (w := w) (.cells #[.int .i64 la, .slice a us.length c] 34)
  go_enter Tryz.func14, Tryz.ntmps14
  go_wp2_with fail
  refine (markHelds_own k0 _ base us _ hn hsm hk (h.below K0)).mono ?_
  rintro e w1 ⟨rfl, h1, s1⟩
  go_wp2
  go_ret
  exact ⟨rfl, h1, (Spared.below K0).trans s1⟩
theorem heldBook_own (la k0 : Int) (v : Value) (base : Nat) (us : List Hd) (w : World) (hn : us.length ≤ 1048576) (hsm : ∀ u ∈ us, u.p.l.length ≤ 1048576 ∧ u.x.l.length ≤ 1048576) (hk : 0 ≤ k0 ∧ k0 + (totH us : Int) ≤ 900000000) (h : BkOwn w base v (markHds k0 us)) :
    Calls Tryz.prog 17 #[.agg #[.int .i64 la, v], .int .i64 k0] w fun e w' => e = .returned (.int .i64 (k0 + (totH us : Int))) ∧ Below w.heap.size w w' := by
  obtain ⟨a, c, rfl⟩ := own_slice h.row
  have K0 := bel1 (w := w) (.cells #[.int .i64 la, .slice a (markHds k0 us).length c] 34)
  have hpos : ¬ k0 + (totH us : Int) < 0 := by omega
  have e1 : Hid ((markHds k0 us).length = us.length) := markHds_length us k0
  go_enter Tryz.func17, Tryz.ntmps17
  go_wp2_with fail
  refine (heldHelds_own k0 _ base us _ hn hsm hk (h.below K0)).mono ?_
  rintro e w1 ⟨rfl, hb1⟩
  generalize hX : k0 + (totH us : Int) = X at *
  go_wp2
  go_ret
  exact ⟨by rw [hX]; rfl, K0.trans (hb1.mono K0.size)⟩
end Go.Proofs.YtgjleeamhkolhaaGreatDoor

namespace Go.Proofs.YtgjleeamhkolhaaGreatDoor
open Go.RowKit

set_option maxHeartbeats 4000000 in
set_option maxRecDepth 20000 in
theorem markSteps_put (k0 : Int) (g cap n : Nat) (w : World) (hn : n ≤ 1048576) (hk : 0 ≤ k0 ∧ k0 ≤ 1000000000) (hth : ∀ i, i < n → w.there g (i * 7) 7) :
    Calls Tryz.prog 43 #[.slice (some ⟨g, 0, none⟩) n cap, .int .i64 k0] w
      fun e w' => e = .returned (.int .i64 (k0 + ((n * 7 : Nat) : Int))) ∧ w.grownBy w' (some g) ∧ w'.heap.size = w.heap.size ∧ ∀ b o n, w.there b o n → w'.there b o n := by
  obtain ⟨k1, k2⟩ := hk
  go_enter Tryz.func43, Tryz.ntmps43
  go_wp2
  go_loopw [1, 5] (fun v u wr => ∃ i : Nat, i ≤ n ∧ u = .int .i64 i ∧ v = .int .i64 (k0 + ((i * 7 : Nat) : Int)) ∧ (∀ j, j < n → wr.there g (j * 7) 7) ∧ w.grownBy wr (some g) ∧ wr.heap.size = w.heap.size ∧ ∀ b o n, w.there b o n → wr.there b o n) (fun _ u _ => n - (intOf u).toNat)
  case atStart => exact ⟨0, Nat.zero_le _, rfl, by simp, hth, ⟨rfl, rfl, rfl, Nat.le_refl _, fun _ _ _ => rfl⟩, rfl, fun _ _ _ h => h⟩
  case round =>
    clear hth
    obtain ⟨i, hi, rfl, rfl, hth, hg, hz, hev⟩ := hrel
    by_cases hlt : i < n
    · have ht := hth i hlt
      obtain ⟨v0, c0⟩ := Option.isSome_iff_exists.1 (ht 0 (by omega)).1
      obtain ⟨v1, c1⟩ := Option.isSome_iff_exists.1 (ht 1 (by omega)).1
      obtain ⟨v2, c2⟩ := Option.isSome_iff_exists.1 (ht 2 (by omega)).1
      obtain ⟨v3, c3⟩ := Option.isSome_iff_exists.1 (ht 3 (by omega)).1
      obtain ⟨v4, c4⟩ := Option.isSome_iff_exists.1 (ht 4 (by omega)).1
      obtain ⟨v5, c5⟩ := Option.isSome_iff_exists.1 (ht 5 (by omega)).1
      obtain ⟨v6, c6⟩ := Option.isSome_iff_exists.1 (ht 6 (by omega)).1
      have f0 := (ht 0 (by omega)).2
      have f1 := (ht 1 (by omega)).2
      have f2 := (ht 2 (by omega)).2
      have f3 := (ht 3 (by omega)).2
      have f4 := (ht 4 (by omega)).2
      have f5 := (ht 5 (by omega)).2
      have f6 := (ht 6 (by omega)).2
      rw [Nat.add_zero] at c0 f0
      have i0 : (0 : Int) ≤ (i : Int) := by omega
      have i1 : (i : Int) < (n : Int) := by omega
      have HT : Hid (∀ j, j < n → wr.there g (j * 7) 7) := hth
      have HG : Hid (w.grownBy wr (some g)) := hg
      have HZ : Hid (wr.heap.size = w.heap.size) := hz
      have HV : Hid (∀ b o n, w.there b o n → wr.there b o n) := hev
      clear ht hth hg hz hev
      generalize hK : k0 + ((i * 7 : Nat) : Int) = K
      have b1 : 0 ≤ K ∧ K ≤ 10000000000 := by omega
      obtain ⟨b2, b3⟩ := b1
      have EK : Hid (k0 + ((i * 7 : Nat) : Int) = K) := hK
      clear hK
      go_wp2
      go_roundw
      case rel =>
        have hK := EK.out
        refine ⟨i + 1, by omega, by go_num, by congr 1; omega, ?_, ?_, by simpa [World.setCell] using HZ.out, ?_⟩
        · intro j hj
          iterate 7 (refine there_set ?_ _ _ _)
          exact HT.out j hj
        · exact grown_over2 HG.out (grown_over2 (grown_over2 (grown_over2 (grown_over2 (grown_over2 (grown_over2 (grown_set wr ⟨g, i * 7, none⟩ _) (grown_set _ ⟨g, i * 7 + 1, none⟩ _)) (grown_set _ ⟨g, i * 7 + 2, none⟩ _)) (grown_set _ ⟨g, i * 7 + 3, none⟩ _)) (grown_set _ ⟨g, i * 7 + 4, none⟩ _)) (grown_set _ ⟨g, i * 7 + 5, none⟩ _)) (grown_set _ ⟨g, i * 7 + 6, none⟩ _))
        · intro b o n hbn
          iterate 7 (refine there_set ?_ _ _ _)
          exact HV.out b o n hbn
      case measure => simp [intOf]; omega
    · obtain rfl : i = n := by omega
      go_wp2
      go_ret
      exact ⟨rfl, hg, hz, hev⟩

structure MkPut (W : World) (g hi : Nat) (us : List Hd) : Prop where
  lt : g < hi
  le : hi ≤ W.heap.size
  there : ∀ i, i < us.length → W.there g (i * 13) 13
  sl : ∀ (i : Nat) (u : Hd), us[i]? = some u → W.cell? ⟨g, i * 13 + 4, none⟩ = some (.slice (some ⟨u.p.b0, 0, none⟩) u.p.l.length u.p.cap) ∧ W.cell? ⟨g, i * 13 + 10, none⟩ = some (.slice (some ⟨u.x.b0, 0, none⟩) u.x.l.length u.x.cap)
  pt : ∀ u ∈ us, (g < u.p.b0 ∧ u.p.b0 < hi ∧ ∀ i, i < u.p.l.length → W.there u.p.b0 (i * 7) 7) ∧ (g < u.x.b0 ∧ u.x.b0 < hi ∧ ∀ i, i < u.x.l.length → W.there u.x.b0 (i * 7) 7)
theorem MkPut.of {W : World} {g : Nat} {ts us : List Hd} (h : HdsPut W g ts us) : MkPut W g W.heap.size us := by
  have back : ∀ (i : Nat) (u : Hd), us[i]? = some u → ∃ t, HdPut W g t u ∧ W.rangeAt g (i * 13) u.cl := fun i u hu => by
    have hil : i < ts.length := by have := (List.getElem?_eq_some_iff.1 hu).1; have := h.len; omega
    obtain ⟨u', q1, q2, q3⟩ := h.at_ i ts[i] (List.getElem?_eq_getElem hil)
    rw [hu] at q1
    cases q1
    exact ⟨_, q2, q3⟩
  refine ⟨h.lt, Nat.le_refl _, fun i hi => h.there i (by have := h.len; omega), fun i u hu => ?_, fun u hu => ?_⟩
  · obtain ⟨t, q2, q3⟩ := back i u hu
    obtain ⟨a, b, rfl, _⟩ := q2.it
    exact ⟨q3 4 _ rfl, q3 10 _ rfl⟩
  · obtain ⟨i, hi⟩ := List.mem_iff_getElem?.1 hu
    obtain ⟨t, q2, q3⟩ := back i u hi
    obtain ⟨a, b, rfl, h1, h2, h3, h4, h5, h6⟩ := q2.it
    exact ⟨⟨h1, h3, h5⟩, ⟨h2, h4, h6⟩⟩
theorem MkPut.below {W W' : World} {g hi : Nat} {us : List Hd} (h : MkPut W g hi us) (hb : Below W.heap.size W W') : MkPut W' g hi us where
  lt := h.lt
  le := Nat.le_trans h.le hb.size
  there i hi' := there_below (h.there i hi') hb (Nat.lt_of_lt_of_le h.lt h.le)
  sl i u hu := ⟨(hb.cell (p := ⟨g, i * 13 + 4, none⟩) (Nat.lt_of_lt_of_le h.lt h.le)).trans (h.sl i u hu).1, (hb.cell (p := ⟨g, i * 13 + 10, none⟩) (Nat.lt_of_lt_of_le h.lt h.le)).trans (h.sl i u hu).2⟩
  pt u hu := by
    obtain ⟨⟨a1, a2, a3⟩, b1, b2, b3⟩ := h.pt u hu
    have := h.le
    exact ⟨⟨a1, a2, fun i hi' => there_below (a3 i hi') hb (by omega)⟩, b1, b2, fun i hi' => there_below (b3 i hi') hb (by omega)⟩
theorem MkPut.set {W : World} {g hi : Nat} {us : List Hd} (h : MkPut W g hi us) (i c : Nat) (hc : c < 13) (h4 : c ≠ 4) (h10 : c ≠ 10) (v : Value) : MkPut (W.setCell ⟨g, i * 13 + c, none⟩ v) g hi us where
  lt := h.lt
  le := by simpa [World.setCell] using h.le
  there j hj := there_set (h.there j hj) _ _ _
  sl j u hu := by
    refine ⟨?_, ?_⟩
    · exact (World.cell?_setCell_other W ⟨g, i * 13 + c, none⟩ ⟨g, j * 13 + 4, none⟩ v (by intro e; have e2 : i * 13 + c = j * 13 + 4 := congrArg Addr.off e; omega)).trans (h.sl j u hu).1
    · exact (World.cell?_setCell_other W ⟨g, i * 13 + c, none⟩ ⟨g, j * 13 + 10, none⟩ v (by intro e; have e2 : i * 13 + c = j * 13 + 10 := congrArg Addr.off e; omega)).trans (h.sl j u hu).2
  pt u hu := by
    obtain ⟨⟨a1, a2, a3⟩, b1, b2, b3⟩ := h.pt u hu
    exact ⟨⟨a1, a2, fun i hi' => there_set (a3 i hi') _ _ _⟩, b1, b2, fun i hi' => there_set (b3 i hi') _ _ _⟩
theorem MkPut.grown {W W' : World} {g hi b : Nat} {us : List Hd} (h : MkPut W g hi us) (hg : W.grownBy W' (some b)) (hb : g < b) (hv : ∀ b o n, W.there b o n → W'.there b o n) : MkPut W' g hi us where
  lt := h.lt
  le := Nat.le_trans h.le hg.size
  there j hj := hv _ _ _ (h.there j hj)
  sl j u hu := by
    have hk : W'.heap[g]? = W.heap[g]? := hg.block g (Nat.lt_of_lt_of_le h.lt h.le) (fun e => by cases e; omega)
    exact ⟨(World.cell?_of_block (a := ⟨g, j * 13 + 4, none⟩) hk).trans (h.sl j u hu).1, (World.cell?_of_block (a := ⟨g, j * 13 + 10, none⟩) hk).trans (h.sl j u hu).2⟩
  pt u hu := by
    obtain ⟨⟨a1, a2, a3⟩, b1, b2, b3⟩ := h.pt u hu
    exact ⟨⟨a1, a2, fun i hi' => hv _ _ _ (a3 i hi')⟩, b1, b2, fun i hi' => hv _ _ _ (b3 i hi')⟩

theorem in_range {g hi k : Nat} (h1 : g ≤ k) (h2 : k < hi) : k ∈ List.range' g (hi - g) := by rw [List.mem_range'_1]; omega
set_option maxHeartbeats 8000000 in
set_option maxRecDepth 40000 in
theorem markHelds_put (k0 : Int) (g hi cap : Nat) (us : List Hd) (w : World) (hn : us.length ≤ 1048576) (hsm : ∀ u ∈ us, u.p.l.length ≤ 1048576 ∧ u.x.l.length ≤ 1048576) (hk : 0 ≤ k0 ∧ k0 + (totH us : Int) ≤ 900000000) (h : MkPut w g hi us) :
    Calls Tryz.prog 42 #[.slice (some ⟨g, 0, none⟩) us.length cap, .int .i64 k0] w
      fun e w' => e = .returned (.int .i64 (k0 + (totH us : Int))) ∧ Spared (List.range' g (hi - g)) w w' := by
  obtain ⟨k1, k2⟩ := hk
  go_enter Tryz.func42, Tryz.ntmps42
  go_wp2
  go_loopw [1, 5] (fun v u wr => ∃ i : Nat, i ≤ us.length ∧ u = .int .i64 i ∧ v = .int .i64 (k0 + (totH (us.take i) : Int)) ∧ MkPut wr g hi us ∧ Spared (List.range' g (hi - g)) w wr) (fun _ u _ => us.length - (intOf u).toNat)
  case atStart => exact ⟨0, Nat.zero_le _, rfl, by simp [totH], h, Spared.refl _ _⟩
  case round =>
    clear h
    obtain ⟨i, hi', rfl, rfl, ho, hg⟩ := hrel
    by_cases hlt : i < us.length
    · obtain ⟨u, hu⟩ : ∃ u, us[i]? = some u := ⟨_, List.getElem?_eq_getElem hlt⟩
      have hm := List.mem_of_getElem? hu
      obtain ⟨hpl, hxl⟩ := hsm u hm
      have HU : Hid (us[i]? = some u) := hu
      have HO : Hid (MkPut wr g hi us) := ho
      have HG : Hid (Spared (List.range' g (hi - g)) w wr) := hg
      have hgl : g < wr.heap.size := Nat.lt_of_lt_of_le ho.lt ho.le
      have hgh : g < hi := ho.lt
      have i0 : (0 : Int) ≤ (i : Int) := by omega
      have i1 : (i : Int) < (us.length : Int) := by omega
      have htot : totH (us.take i) + hdSz u ≤ totH us := by rw [← totH_take hu]; exact totH_take_le _ _
      have HT : Hid (totH (us.take (i + 1)) = totH (us.take i) + hdSz u) := totH_take hu
      generalize hK : k0 + (totH (us.take i) : Int) = K at *
      have hz : hdSz u = 3 + (4 + u.p.l.length * 7) + (4 + u.x.l.length * 7) := rfl
      have b2 : 0 ≤ K := by omega
      have b3 : K + (hdSz u : Int) ≤ 900000000 := by omega
      have b4 : K ≤ 900000000 := by omega
      have EK : Hid (k0 + (totH (us.take i) : Int) = K) := hK
      have EZ : Hid (hdSz u = 3 + (4 + u.p.l.length * 7) + (4 + u.x.l.length * 7)) := hz
      have EB : Hid (K + (hdSz u : Int) ≤ 900000000) := b3
      clear ho hg hu hK hz b3 htot k1 k2
      obtain ⟨y0, c0⟩ := Option.isSome_iff_exists.1 ((HO.out.there i hlt) 0 (by omega)).1
      have f0 := ((HO.out.there i hlt) 0 (by omega)).2
      obtain ⟨y1, c1⟩ := Option.isSome_iff_exists.1 ((HO.out.there i hlt) 1 (by omega)).1
      have f1 := ((HO.out.there i hlt) 1 (by omega)).2
      obtain ⟨y2, c2⟩ := Option.isSome_iff_exists.1 ((HO.out.there i hlt) 2 (by omega)).1
      have f2 := ((HO.out.there i hlt) 2 (by omega)).2
      obtain ⟨y3, c3⟩ := Option.isSome_iff_exists.1 ((HO.out.there i hlt) 3 (by omega)).1
      have f3 := ((HO.out.there i hlt) 3 (by omega)).2
      obtain ⟨y5, c5⟩ := Option.isSome_iff_exists.1 ((HO.out.there i hlt) 5 (by omega)).1
      have f5 := ((HO.out.there i hlt) 5 (by omega)).2
      obtain ⟨y6, c6⟩ := Option.isSome_iff_exists.1 ((HO.out.there i hlt) 6 (by omega)).1
      have f6 := ((HO.out.there i hlt) 6 (by omega)).2
      obtain ⟨y7, c7⟩ := Option.isSome_iff_exists.1 ((HO.out.there i hlt) 7 (by omega)).1
      have f7 := ((HO.out.there i hlt) 7 (by omega)).2
      obtain ⟨y8, c8⟩ := Option.isSome_iff_exists.1 ((HO.out.there i hlt) 8 (by omega)).1
      have f8 := ((HO.out.there i hlt) 8 (by omega)).2
      obtain ⟨y9, c9⟩ := Option.isSome_iff_exists.1 ((HO.out.there i hlt) 9 (by omega)).1
      have f9 := ((HO.out.there i hlt) 9 (by omega)).2
      obtain ⟨y11, c11⟩ := Option.isSome_iff_exists.1 ((HO.out.there i hlt) 11 (by omega)).1
      have f11 := ((HO.out.there i hlt) 11 (by omega)).2
      obtain ⟨y12, c12⟩ := Option.isSome_iff_exists.1 ((HO.out.there i hlt) 12 (by omega)).1
      have f12 := ((HO.out.there i hlt) 12 (by omega)).2
      obtain ⟨c4, c10⟩ := HO.out.sl i u HU.out
      rw [Nat.add_zero] at c0 f0
      go_wp2_with fail
      refine (markText_any K _ b2 (by omega)).mono ?_
      rintro e w1 ⟨rfl, hb1⟩
      have Q1 := HO.out.below hb1
      have HQ1 : Hid (MkPut w1 g hi us) := Q1
      have HS1 : Hid (Spared (List.range' g (hi - g)) wr w1) := Spared.below hb1
      clear c0 c1 c2 c3 c4 c5 c6 c7 c8 c9 c10 c11 c12 f0 f1 f2 f3 f5 f6 f7 f8 f9 f11 f12
      clear Q1 hb1
      obtain ⟨y0, c0⟩ := Option.isSome_iff_exists.1 ((HQ1.out.there i hlt) 0 (by omega)).1
      have f0 := ((HQ1.out.there i hlt) 0 (by omega)).2
      obtain ⟨y1, c1⟩ := Option.isSome_iff_exists.1 ((HQ1.out.there i hlt) 1 (by omega)).1
      have f1 := ((HQ1.out.there i hlt) 1 (by omega)).2
      obtain ⟨y2, c2⟩ := Option.isSome_iff_exists.1 ((HQ1.out.there i hlt) 2 (by omega)).1
      have f2 := ((HQ1.out.there i hlt) 2 (by omega)).2
      obtain ⟨y3, c3⟩ := Option.isSome_iff_exists.1 ((HQ1.out.there i hlt) 3 (by omega)).1
      have f3 := ((HQ1.out.there i hlt) 3 (by omega)).2
      obtain ⟨y5, c5⟩ := Option.isSome_iff_exists.1 ((HQ1.out.there i hlt) 5 (by omega)).1
      have f5 := ((HQ1.out.there i hlt) 5 (by omega)).2
      obtain ⟨y6, c6⟩ := Option.isSome_iff_exists.1 ((HQ1.out.there i hlt) 6 (by omega)).1
      have f6 := ((HQ1.out.there i hlt) 6 (by omega)).2
      obtain ⟨y7, c7⟩ := Option.isSome_iff_exists.1 ((HQ1.out.there i hlt) 7 (by omega)).1
      have f7 := ((HQ1.out.there i hlt) 7 (by omega)).2
      obtain ⟨y8, c8⟩ := Option.isSome_iff_exists.1 ((HQ1.out.there i hlt) 8 (by omega)).1
      have f8 := ((HQ1.out.there i hlt) 8 (by omega)).2
      obtain ⟨y9, c9⟩ := Option.isSome_iff_exists.1 ((HQ1.out.there i hlt) 9 (by omega)).1
      have f9 := ((HQ1.out.there i hlt) 9 (by omega)).2
      obtain ⟨y11, c11⟩ := Option.isSome_iff_exists.1 ((HQ1.out.there i hlt) 11 (by omega)).1
      have f11 := ((HQ1.out.there i hlt) 11 (by omega)).2
      obtain ⟨y12, c12⟩ := Option.isSome_iff_exists.1 ((HQ1.out.there i hlt) 12 (by omega)).1
      have f12 := ((HQ1.out.there i hlt) 12 (by omega)).2
      obtain ⟨c4, c10⟩ := HQ1.out.sl i u HU.out
      rw [Nat.add_zero] at c0 f0
      go_wp2_with fail
      have Q2 := ((((HQ1.out).set i 0 (by omega) (by omega) (by omega) (.string (mtOf K))).set i 1 (by omega) (by omega) (by omega) (.int .i64 (K + 1))).set i 2 (by omega) (by omega) (by omega) (.int .i64 (K + 1 + 1))).set i 3 (by omega) (by omega) (by omega) (.int .i64 (K + 1 + 1 + 1))
      refine (markSteps_put (K + 1 + 1 + 1 + 1) u.p.b0 u.p.cap u.p.l.length _ hpl ⟨by omega, by omega⟩ (Q2.pt u hm).1.2.2).mono ?_
      rintro e w3 ⟨rfl, g3, _, v3⟩
      have p3 := (Q2.pt u hm).1
      have HQ3 : Hid (MkPut w3 g hi us) := Q2.grown g3 p3.1 v3
      have HS3 : Hid (Spared (List.range' g (hi - g)) wr w3) := HS1.out.trans ((Spared.grown (grown_over2 (grown_over2 (grown_over2 (grown_set w1 ⟨g, i * 13 + 0, none⟩ (.string (mtOf K))) (grown_set _ ⟨g, i * 13 + 1, none⟩ (.int .i64 (K + 1)))) (grown_set _ ⟨g, i * 13 + 2, none⟩ (.int .i64 (K + 1 + 1)))) (grown_set _ ⟨g, i * 13 + 3, none⟩ (.int .i64 (K + 1 + 1 + 1)))) (fun k hk => by cases hk; exact in_range (Nat.le_refl _) hgh)).trans (Spared.grown g3 (fun k hk => by cases hk; exact in_range (by omega) p3.2.1)))
      clear c0 c1 c2 c3 c4 c5 c6 c7 c8 c9 c10 c11 c12 f0 f1 f2 f3 f5 f6 f7 f8 f9 f11 f12
      clear Q2 g3 v3 p3
      obtain ⟨y0, c0⟩ := Option.isSome_iff_exists.1 ((HQ3.out.there i hlt) 0 (by omega)).1
      have f0 := ((HQ3.out.there i hlt) 0 (by omega)).2
      obtain ⟨y1, c1⟩ := Option.isSome_iff_exists.1 ((HQ3.out.there i hlt) 1 (by omega)).1
      have f1 := ((HQ3.out.there i hlt) 1 (by omega)).2
      obtain ⟨y2, c2⟩ := Option.isSome_iff_exists.1 ((HQ3.out.there i hlt) 2 (by omega)).1
      have f2 := ((HQ3.out.there i hlt) 2 (by omega)).2
      obtain ⟨y3, c3⟩ := Option.isSome_iff_exists.1 ((HQ3.out.there i hlt) 3 (by omega)).1
      have f3 := ((HQ3.out.there i hlt) 3 (by omega)).2
      obtain ⟨y5, c5⟩ := Option.isSome_iff_exists.1 ((HQ3.out.there i hlt) 5 (by omega)).1
      have f5 := ((HQ3.out.there i hlt) 5 (by omega)).2
      obtain ⟨y6, c6⟩ := Option.isSome_iff_exists.1 ((HQ3.out.there i hlt) 6 (by omega)).1
      have f6 := ((HQ3.out.there i hlt) 6 (by omega)).2
      obtain ⟨y7, c7⟩ := Option.isSome_iff_exists.1 ((HQ3.out.there i hlt) 7 (by omega)).1
      have f7 := ((HQ3.out.there i hlt) 7 (by omega)).2
      obtain ⟨y8, c8⟩ := Option.isSome_iff_exists.1 ((HQ3.out.there i hlt) 8 (by omega)).1
      have f8 := ((HQ3.out.there i hlt) 8 (by omega)).2
      obtain ⟨y9, c9⟩ := Option.isSome_iff_exists.1 ((HQ3.out.there i hlt) 9 (by omega)).1
      have f9 := ((HQ3.out.there i hlt) 9 (by omega)).2
      obtain ⟨y11, c11⟩ := Option.isSome_iff_exists.1 ((HQ3.out.there i hlt) 11 (by omega)).1
      have f11 := ((HQ3.out.there i hlt) 11 (by omega)).2
      obtain ⟨y12, c12⟩ := Option.isSome_iff_exists.1 ((HQ3.out.there i hlt) 12 (by omega)).1
      have f12 := ((HQ3.out.there i hlt) 12 (by omega)).2
      obtain ⟨c4, c10⟩ := HQ3.out.sl i u HU.out
      rw [Nat.add_zero] at c0 f0
      obtain ⟨M, hM⟩ : ∃ M : Int, K + 1 + 1 + 1 + 1 + ((u.p.l.length * 7 : Nat) : Int) = M := ⟨_, rfl⟩
      rw [hM]
      have EM : Hid (K + 1 + 1 + 1 + 1 + ((u.p.l.length * 7 : Nat) : Int) = M) := hM
      have bz := EZ.out
      have bb := EB.out
      have m0 : 0 ≤ M := by omega
      have m1 : M ≤ 910000000 := by omega
      clear hM bz bb
      go_wp2_with fail
      have Q4 := (((((HQ3.out).set i 5 (by omega) (by omega) (by omega) (.int .i64 (M))).set i 6 (by omega) (by omega) (by omega) (.int .i64 (M + 1))).set i 7 (by omega) (by omega) (by omega) (.int .i64 (M + 1 + 1))).set i 8 (by omega) (by omega) (by omega) (.int .i64 (M + 1 + 1 + 1))).set i 9 (by omega) (by omega) (by omega) (.int .i64 (M + 1 + 1 + 1 + 1))
      refine (markSteps_put (M + 1 + 1 + 1 + 1 + 1) u.x.b0 u.x.cap u.x.l.length _ hxl ⟨by omega, by omega⟩ (Q4.pt u hm).2.2.2).mono ?_
      rintro e w5 ⟨rfl, g5, _, v5⟩
      have p5 := (Q4.pt u hm).2
      have HQ5 : Hid (MkPut w5 g hi us) := Q4.grown g5 p5.1 v5
      have HS5 : Hid (Spared (List.range' g (hi - g)) wr w5) := HS3.out.trans ((Spared.grown (grown_over2 (grown_over2 (grown_over2 (grown_over2 (grown_set w3 ⟨g, i * 13 + 5, none⟩ (.int .i64 (M))) (grown_set _ ⟨g, i * 13 + 6, none⟩ (.int .i64 (M + 1)))) (grown_set _ ⟨g, i * 13 + 7, none⟩ (.int .i64 (M + 1 + 1)))) (grown_set _ ⟨g, i * 13 + 8, none⟩ (.int .i64 (M + 1 + 1 + 1)))) (grown_set _ ⟨g, i * 13 + 9, none⟩ (.int .i64 (M + 1 + 1 + 1 + 1)))) (fun k hk => by cases hk; exact in_range (Nat.le_refl _) hgh)).trans (Spared.grown g5 (fun k hk => by cases hk; exact in_range (by omega) p5.2.1)))
      clear c0 c1 c2 c3 c4 c5 c6 c7 c8 c9 c10 c11 c12 f0 f1 f2 f3 f5 f6 f7 f8 f9 f11 f12
      clear Q4 g5 v5 p5
      obtain ⟨y0, c0⟩ := Option.isSome_iff_exists.1 ((HQ5.out.there i hlt) 0 (by omega)).1
      have f0 := ((HQ5.out.there i hlt) 0 (by omega)).2
      obtain ⟨y1, c1⟩ := Option.isSome_iff_exists.1 ((HQ5.out.there i hlt) 1 (by omega)).1
      have f1 := ((HQ5.out.there i hlt) 1 (by omega)).2
      obtain ⟨y2, c2⟩ := Option.isSome_iff_exists.1 ((HQ5.out.there i hlt) 2 (by omega)).1
      have f2 := ((HQ5.out.there i hlt) 2 (by omega)).2
      obtain ⟨y3, c3⟩ := Option.isSome_iff_exists.1 ((HQ5.out.there i hlt) 3 (by omega)).1
      have f3 := ((HQ5.out.there i hlt) 3 (by omega)).2
      obtain ⟨y5, c5⟩ := Option.isSome_iff_exists.1 ((HQ5.out.there i hlt) 5 (by omega)).1
      have f5 := ((HQ5.out.there i hlt) 5 (by omega)).2
      obtain ⟨y6, c6⟩ := Option.isSome_iff_exists.1 ((HQ5.out.there i hlt) 6 (by omega)).1
      have f6 := ((HQ5.out.there i hlt) 6 (by omega)).2
      obtain ⟨y7, c7⟩ := Option.isSome_iff_exists.1 ((HQ5.out.there i hlt) 7 (by omega)).1
      have f7 := ((HQ5.out.there i hlt) 7 (by omega)).2
      obtain ⟨y8, c8⟩ := Option.isSome_iff_exists.1 ((HQ5.out.there i hlt) 8 (by omega)).1
      have f8 := ((HQ5.out.there i hlt) 8 (by omega)).2
      obtain ⟨y9, c9⟩ := Option.isSome_iff_exists.1 ((HQ5.out.there i hlt) 9 (by omega)).1
      have f9 := ((HQ5.out.there i hlt) 9 (by omega)).2
      obtain ⟨y11, c11⟩ := Option.isSome_iff_exists.1 ((HQ5.out.there i hlt) 11 (by omega)).1
      have f11 := ((HQ5.out.there i hlt) 11 (by omega)).2
      obtain ⟨y12, c12⟩ := Option.isSome_iff_exists.1 ((HQ5.out.there i hlt) 12 (by omega)).1
      have f12 := ((HQ5.out.there i hlt) 12 (by omega)).2
      obtain ⟨c4, c10⟩ := HQ5.out.sl i u HU.out
      rw [Nat.add_zero] at c0 f0
      obtain ⟨N, hN⟩ : ∃ N : Int, M + 1 + 1 + 1 + 1 + 1 + ((u.x.l.length * 7 : Nat) : Int) = N := ⟨_, rfl⟩
      rw [hN]
      have EN : Hid (M + 1 + 1 + 1 + 1 + 1 + ((u.x.l.length * 7 : Nat) : Int) = N) := hN
      have bz := EZ.out
      have bb := EB.out
      have n0 : 0 ≤ N := by omega
      have n1 : N ≤ 920000000 := by omega
      clear hN bz bb
      go_wp2
      go_roundw
      case rel =>
        have e1 := EM.out
        have e2 := EN.out
        have e3 := EZ.out
        have e4 := EK.out
        have e5 := HT.out
        exact ⟨i + 1, by omega, by go_num, by congr 1; omega, ((HQ5.out).set i 11 (by omega) (by omega) (by omega) (.int .i64 (N))).set i 12 (by omega) (by omega) (by omega) (.int .i64 (N + 1)), HG.out.trans (HS5.out.trans (Spared.grown (grown_over2 (grown_set w5 ⟨g, i * 13 + 11, none⟩ (.int .i64 (N))) (grown_set _ ⟨g, i * 13 + 12, none⟩ (.int .i64 (N + 1)))) (fun k hk => by cases hk; exact in_range (Nat.le_refl _) hgh)))⟩
      case measure => simp [intOf]; omega
    · obtain rfl : i = us.length := by omega
      go_wp2
      go_ret
      exact ⟨by rw [List.take_length]; rfl, hg⟩

theorem markBook_put (la k0 : Int) (g hi cap : Nat) (us : List Hd) (w : World) (hn : us.length ≤ 1048576) (hsm : ∀ u ∈ us, u.p.l.length ≤ 1048576 ∧ u.x.l.length ≤ 1048576) (hk : 0 ≤ k0 ∧ k0 + (totH us : Int) ≤ 900000000) (h : MkPut w g hi us) :
    Calls Tryz.prog 14 #[.agg #[.int .i64 la, .slice (some ⟨g, 0, none⟩) us.length cap], .int .i64 k0] w fun e w' => e = .returned (.int .i64 (k0 + (totH us : Int))) ∧ Spared (List.range' g (hi - g)) w w' := by
  have K0 := bel1 (w := w) (.cells #[.int .i64 la, .slice (some ⟨g, 0, none⟩) us.length cap] 34)
  go_enter Tryz.func14, Tryz.ntmps14
  go_wp2_with fail
  refine (markHelds_put k0 g hi cap us _ hn hsm hk (h.below K0)).mono ?_
  rintro e w1 ⟨rfl, s1⟩
  go_wp2
  go_ret
  exact ⟨rfl, (Spared.below K0).trans s1⟩
end Go.Proofs.YtgjleeamhkolhaaGreatDoor

namespace Go.Proofs.YtgjleeamhkolhaaGreatDoor
open Go.RowKit

abbrev Iv (lo hi : Nat) (W W' : World) : Prop := Spared (List.range' lo (hi - lo)) W W'
theorem Iv.out {lo hi k : Nat} (h : k < lo ∨ hi ≤ k) : k ∉ List.range' lo (hi - lo) := nin_range h
theorem Iv.below {lo hi : Nat} {W W' : World} (h : Below W.heap.size W W') : Iv lo hi W W' := Spared.below h
theorem Iv.toBelow {lo hi B : Nat} {a w w' : World} (h : Iv lo hi w w') (h0 : Below B a w) (hB : B ≤ w.heap.size) (hl : B ≤ lo) : Below B a w' := Spared.toBelow h h0 hB (range_ge hl)
theorem Cbx.iv {lo hi B : Nat} {W W' : World} {vs : Array Value} (h : Cbx W B vs) (hs : Iv lo hi W W') (hn : B < lo ∨ hi ≤ B) : Cbx W' B vs := h.spared hs (Iv.out hn)
theorem Iv.of {S : List Nat} {lo hi : Nat} {W W' : World} (h : Spared S W W') (hS : ∀ k ∈ S, lo ≤ k ∧ k < hi) : Iv lo hi W W' := h.mono (fun k hk => in_range (hS k hk).1 (hS k hk).2)

theorem hdSz_key {t u : Hd} (h : t.key = u.key) : hdSz t = hdSz u := by
  simp only [Hd.key, Pt.key, Prod.mk.injEq] at h
  unfold hdSz ptSz
  rw [h.2.2.1.2.2.2.2, h.2.2.2.2.2.2.2.2]
theorem totH_keys : ∀ {us vs : List Hd}, us.map Hd.key = vs.map Hd.key → totH us = totH vs
  | [], [], _ => rfl
  | [], _ :: _, h => by simp at h
  | _ :: _, [], h => by simp at h
  | u :: us, v :: vs, h => by
    simp only [List.map_cons, List.cons.injEq] at h
    simp only [totH]
    rw [hdSz_key h.1, totH_keys h.2]
theorem len_keys {us vs : List Hd} (h : us.map Hd.key = vs.map Hd.key) : us.length = vs.length := by simpa using congrArg List.length h
/-! ### The copy of a book -/
structure BkPut (W : World) (g hi : Nat) (ts : List Hd) : Prop where
  it : ∃ us, HdsPut W g ts us ∧ MkPut W g hi us
section
variable {W W' : World} {g hi : Nat} {ts : List Hd}
theorem BkPut.below (h : BkPut W g hi ts) (hb : Below W.heap.size W W') : BkPut W' g hi ts := by
  obtain ⟨us, h1, h2⟩ := h.it
  exact ⟨us, h1.below hb, h2.below hb⟩
theorem BkPut.lt (h : BkPut W g hi ts) : g < hi ∧ hi ≤ W.heap.size := by
  obtain ⟨us, _, h2⟩ := h.it
  exact ⟨h2.lt, h2.le⟩
theorem BkPut.eq {g' hi' : Nat} (la : Int) (h : BkPut W g hi ts) (h' : BkPut W g' hi' ts) (hl : ts.length ≤ 1048576) (hs : ∀ t ∈ ts, t.p.l.length ≤ 1048576 ∧ t.x.l.length ≤ 1048576) :
    Calls Tryz.prog 11 #[.agg #[.int .i64 la, .slice (some ⟨g, 0, none⟩) ts.length ts.length], .agg #[.int .i64 la, .slice (some ⟨g', 0, none⟩) ts.length ts.length]] W fun e w' => e = .returned (.bool true) ∧ Below W.heap.size W w' := by
  obtain ⟨us, h1, _⟩ := h.it
  obtain ⟨vs, h3, _⟩ := h'.it
  have := eqBook_same la (some ⟨g, 0, none⟩) (some ⟨g', 0, none⟩) g 0 ts.length g' 0 ts.length us vs W (by rw [h1.len]; exact hl) (h1.copied.keys.trans h3.copied.keys.symm) (h1.copied.small hs) h1.rows h3.rows
  rw [h1.len] at this
  exact this
theorem BkPut.mark (la k0 : Int) (h : BkPut W g hi ts) (hl : ts.length ≤ 1048576) (hs : ∀ t ∈ ts, t.p.l.length ≤ 1048576 ∧ t.x.l.length ≤ 1048576) (hk : 0 ≤ k0 ∧ k0 + (totH ts : Int) ≤ 900000000) :
    Calls Tryz.prog 14 #[.agg #[.int .i64 la, .slice (some ⟨g, 0, none⟩) ts.length ts.length], .int .i64 k0] W fun e w' => e = .returned (.int .i64 (k0 + (totH ts : Int))) ∧ Iv g hi W w' := by
  obtain ⟨us, h1, h2⟩ := h.it
  have e := totH_keys h1.copied.keys
  have := markBook_put la k0 g hi ts.length us W (by rw [h1.len]; exact hl) (h1.copied.small hs) (by rw [e]; exact hk) h2
  rw [h1.len, e] at this
  exact this
theorem BkPut.iv {lo' hi' : Nat} (h : BkPut W g hi ts) (hs : Iv lo' hi' W W') (hd : hi ≤ lo' ∨ hi' ≤ g) : BkPut W' g hi ts := by
  obtain ⟨us, h1, h2⟩ := h.it
  have hk : ∀ k, g ≤ k → k < hi → W'.heap[k]? = W.heap[k]? := fun k a b => hs.block k (Nat.lt_of_lt_of_le b h2.le) (Iv.out (by omega))
  have hg := hk g (Nat.le_refl _) h2.lt
  have th : ∀ {b o n : Nat}, g ≤ b → b < hi → W.there b o n → W'.there b o n := fun {b o n} a b' ht j hj => ⟨by rw [World.cell?_of_block (a := ⟨b, o + j, none⟩) (hk b a b')]; exact (ht j hj).1, by rw [World.frozen?_of_block (a := ⟨b, o + j, none⟩) (hk b a b')]; exact (ht j hj).2⟩
  refine ⟨us, ⟨Nat.lt_of_lt_of_le h1.lt hs.size, h1.len, fun i hi' => th (Nat.le_refl _) h2.lt (h1.there i hi'), fun i t hi' => ?_⟩, ⟨h2.lt, Nat.le_trans h2.le hs.size, fun i hi' => th (Nat.le_refl _) h2.lt (h2.there i hi'), fun i u hu => ?_, fun u hu => ?_⟩⟩
  · obtain ⟨u, q1, q2, q3⟩ := h1.at_ i t hi'
    have hmem := h2.pt u (List.mem_of_getElem? q1)
    refine ⟨u, q1, ⟨?_, ?_⟩, fun j v hv => by rw [World.cell?_of_block (a := ⟨g, i * 13 + j, none⟩) hg]; exact q3 j v hv⟩
    · obtain ⟨a, b, rfl, r1, r2, r3, r4, r5, r6⟩ := q2.it
      exact ⟨a, b, rfl, r1, r2, Nat.lt_of_lt_of_le r3 hs.size, Nat.lt_of_lt_of_le r4 hs.size, fun i hi' => th (Nat.le_of_lt hmem.1.1) hmem.1.2.1 (r5 i hi'), fun i hi' => th (Nat.le_of_lt hmem.2.1) hmem.2.2.1 (r6 i hi')⟩
    · obtain ⟨a, b, rfl, _⟩ := q2.it
      have k1 := hk a (Nat.le_of_lt hmem.1.1) hmem.1.2.1
      have k2 := hk b (Nat.le_of_lt hmem.2.1) hmem.2.2.1
      exact ⟨⟨q2.at_.p.here, fun hn => Nat.lt_of_lt_of_le (q2.at_.p.lt hn) hs.size, fun i s hi' j v hv => by rw [World.cell?_of_block (w := W) (a := ⟨a, 0 + i * 7 + j, none⟩) k1]; exact q2.at_.p.cell i s hi' j v hv⟩,
        ⟨q2.at_.x.here, fun hn => Nat.lt_of_lt_of_le (q2.at_.x.lt hn) hs.size, fun i s hi' j v hv => by rw [World.cell?_of_block (w := W) (a := ⟨b, 0 + i * 7 + j, none⟩) k2]; exact q2.at_.x.cell i s hi' j v hv⟩⟩
  · exact ⟨(World.cell?_of_block (a := ⟨g, i * 13 + 4, none⟩) hg).trans (h2.sl i u hu).1, (World.cell?_of_block (a := ⟨g, i * 13 + 10, none⟩) hg).trans (h2.sl i u hu).2⟩
  · have hmem := h2.pt u hu
    exact ⟨⟨hmem.1.1, hmem.1.2.1, fun i hi' => th (Nat.le_of_lt hmem.1.1) hmem.1.2.1 (hmem.1.2.2 i hi')⟩, hmem.2.1, hmem.2.2.1, fun i hi' => th (Nat.le_of_lt hmem.2.1) hmem.2.2.1 (hmem.2.2.2 i hi')⟩
end
theorem toBook_put (t : Bk) (w : World) (hl : t.ts.length ≤ 1048576) (hsm : ∀ u ∈ t.ts, u.p.l.length ≤ 1048576 ∧ u.x.l.length ≤ 1048576) (hs : BkAt w t) :
    Calls Tryz.prog 8 #[t.val] w fun e w' => ∃ g, e = .returned (.agg #[.int .i64 t.la, .slice (some ⟨g, 0, none⟩) t.ts.length t.ts.length]) ∧ w.heap.size ≤ g ∧ BkPut w' g w'.heap.size t.ts ∧ Below w.heap.size w w' :=
  (toBook_any t w hl hsm hs).mono fun _ _ ⟨g, us, h1, h2, h3, h4⟩ => ⟨g, h1, h2, ⟨us, h3, MkPut.of h3⟩, h4⟩

/-! ### An answer that is a book -/
abbrev HKey := ByteArray × Int × (Int × Int × Int × Int × List Stp) × Int × (Int × Int × Int × Int × List Stp)
def totK : List HKey → Nat
  | [] => 0
  | k :: ks => 3 + (4 + k.2.2.1.2.2.2.2.length * 7) + (4 + k.2.2.2.2.2.2.2.2.length * 7) + totK ks
theorem totK_of : ∀ us : List Hd, totK (us.map Hd.key) = totH us
  | [] => rfl
  | u :: us => by simp only [List.map_cons, totK, totH, totK_of us]; rfl
def smallK (ks : List HKey) : Prop := ∀ k ∈ ks, k.2.2.1.2.2.2.2.length ≤ 1048576 ∧ k.2.2.2.2.2.2.2.2.length ≤ 1048576
theorem smallK_of {us : List Hd} (h : smallK (us.map Hd.key)) : ∀ u ∈ us, u.p.l.length ≤ 1048576 ∧ u.x.l.length ≤ 1048576 := fun u hu => h u.key (List.mem_map_of_mem hu)
structure BkAns (W : World) (lo hi : Nat) (v : Value) (ks : List HKey) : Prop where
  it : ∃ us, BkOwn W lo v us ∧ us.map Hd.key = ks ∧ ∀ k ∈ bkBlks v us, k < hi
section
variable {W W' : World} {lo hi : Nat} {v : Value} {ks : List HKey}
theorem BkAns.of {us : List Hd} (h : BkOwn W lo v us) : BkAns W lo W.heap.size v (us.map Hd.key) := ⟨us, h, rfl, fun k hk => (h.lt k hk).2⟩
theorem BkAns.below (h : BkAns W lo hi v ks) (hb : Below W.heap.size W W') : BkAns W' lo hi v ks := by
  obtain ⟨us, h1, h2, h3⟩ := h.it
  exact ⟨us, h1.below hb, h2, h3⟩
theorem BkAns.iv {lo' hi' : Nat} (h : BkAns W lo hi v ks) (hs : Iv lo' hi' W W') (hd : hi ≤ lo' ∨ hi' ≤ lo) : BkAns W' lo hi v ks := by
  obtain ⟨us, h1, h2, h3⟩ := h.it
  exact ⟨us, h1.spared hs (fun k hk => Iv.out (by have := h3 k hk; have := (h1.lt k hk).1; omega)), h2, h3⟩
theorem BkAns.slice (h : BkAns W lo hi v ks) : ∃ a c, v = .slice a ks.length c := by
  obtain ⟨us, h1, rfl, _⟩ := h.it
  obtain ⟨a, c, e⟩ := own_slice h1.row
  exact ⟨a, c, by rw [List.length_map]; exact e⟩
theorem BkAns.eq {lo' hi' : Nat} {v' : Value} (la : Int) (h : BkAns W lo hi v ks) (h' : BkAns W lo' hi' v' ks) (hl : ks.length ≤ 1048576) (hs : smallK ks) :
    Calls Tryz.prog 11 #[.agg #[.int .i64 la, v], .agg #[.int .i64 la, v']] W fun e w' => e = .returned (.bool true) ∧ Below W.heap.size W w' := by
  obtain ⟨us, h1, h2, _⟩ := h.it
  obtain ⟨vs, h3, h4, _⟩ := h'.it
  obtain ⟨a, g, cap, rfl, hA⟩ := h1.at_
  obtain ⟨a', g', cap', rfl, hB⟩ := h3.at_
  have hlen : us.length = vs.length := len_keys (h2.trans h4.symm)
  have hul : us.length = ks.length := by rw [← h2, List.length_map]
  have := eqBook_same la a a' g 0 cap g' 0 cap' (us.map Hd.at0) (vs.map Hd.at0) W (by rw [List.length_map, hul]; exact hl) (by rw [at0_keys, at0_keys, h2, h4]) (fun t ht => by
    obtain ⟨u, hu, rfl⟩ := List.mem_map.1 ht
    exact smallK_of (by rw [h2]; exact hs) u hu) hA hB
  rw [List.length_map] at this
  rw [← hlen]
  exact this
structure BkMk (W : World) (lo hi : Nat) (k0 : Int) (v : Value) (ks : List HKey) : Prop where
  it : ∃ us, BkOwn W lo v (markHds k0 us) ∧ us.map Hd.key = ks ∧ ∀ k ∈ bkBlks v us, k < hi
theorem bkBlks_mark (v : Value) (k0 : Int) (us : List Hd) : bkBlks v (markHds k0 us) = bkBlks v us := by unfold bkBlks; rw [markHds_blks]
theorem BkMk.below {k0 : Int} (h : BkMk W lo hi k0 v ks) (hb : Below W.heap.size W W') : BkMk W' lo hi k0 v ks := by
  obtain ⟨us, h1, h2, h3⟩ := h.it
  exact ⟨us, h1.below hb, h2, h3⟩
theorem BkMk.iv {lo' hi' : Nat} {k0 : Int} (h : BkMk W lo hi k0 v ks) (hs : Iv lo' hi' W W') (hd : hi ≤ lo' ∨ hi' ≤ lo) : BkMk W' lo hi k0 v ks := by
  obtain ⟨us, h1, h2, h3⟩ := h.it
  exact ⟨us, h1.spared hs (fun k hk => Iv.out (by have := (h1.lt k hk).1; rw [bkBlks_mark] at hk; have := h3 k hk; omega)), h2, h3⟩
theorem BkAns.mark (la k0 : Int) (h : BkAns W lo hi v ks) (hl : ks.length ≤ 1048576) (hs : smallK ks) (hk : 0 ≤ k0 ∧ k0 + (totK ks : Int) ≤ 900000000) :
    Calls Tryz.prog 14 #[.agg #[.int .i64 la, v], .int .i64 k0] W fun e w' => e = .returned (.int .i64 (k0 + (totK ks : Int))) ∧ BkMk w' lo hi k0 v ks ∧ Iv lo hi W w' := by
  obtain ⟨us, h1, rfl, h3⟩ := h.it
  rw [totK_of] at hk ⊢
  rw [List.length_map] at hl
  refine (markBook_own la k0 v lo us W hl (smallK_of hs) hk h1).mono ?_
  rintro e w' ⟨h4, h5, h6⟩
  exact ⟨h4, ⟨us, h5, rfl, h3⟩, Iv.of h6 (fun k hk => ⟨(h1.lt k hk).1, h3 k hk⟩)⟩
theorem BkMk.held {k0 : Int} (la : Int) (h : BkMk W lo hi k0 v ks) (hl : ks.length ≤ 1048576) (hs : smallK ks) (hk : 0 ≤ k0 ∧ k0 + (totK ks : Int) ≤ 900000000) :
    Calls Tryz.prog 17 #[.agg #[.int .i64 la, v], .int .i64 k0] W fun e w' => e = .returned (.int .i64 (k0 + (totK ks : Int))) ∧ Below W.heap.size W w' := by
  obtain ⟨us, h1, rfl, h3⟩ := h.it
  rw [totK_of] at hk ⊢
  rw [List.length_map] at hl
  exact heldBook_own la k0 v lo us W hl (smallK_of hs) hk h1
end
theorem tot_left : ∀ (ts : List Hd) (left : Int), -1 ≤ left → left ≤ 1048576 → 0 ≤ ts.foldl leftH left → (totH ts : Int) ≤ 11 * (ts.length : Int) + 7 * (left - ts.foldl leftH left)
  | [], left, _, _, _ => by simp [totH]
  | t :: ts, left, h0, h1, h => by
    rw [List.foldl_cons] at h
    have hr := leftH_left left t h1
    have ht : 0 ≤ leftH left t := by
      rcases Int.lt_or_le (leftH left t) 0 with hn | hn
      · rw [foldH_neg ts _ (by omega)] at h; omega
      · exact hn
    have ih := tot_left ts (leftH left t) hr.1 hr.2 h
    have hsz : (hdSz t : Int) ≤ 11 + 7 * (left - leftH left t) := by
      unfold leftH leftN leftB at ht ⊢
      unfold hdSz ptSz
      repeat' split at ht
      all_goals (repeat' split)
      all_goals omega
    simp only [totH, List.length_cons, List.foldl_cons]
    push_cast
    omega
theorem tot_book {ts : List Hd} {left : Int} (h0 : -1 ≤ left) (h1 : left ≤ 1048576) (h : ¬ leftHs left ts < 0) : ts.length ≤ 1048576 ∧ (∀ t ∈ ts, t.p.l.length ≤ 1048576 ∧ t.x.l.length ≤ 1048576) ∧ (totH ts : Int) ≤ 20000000 ∧ -1 ≤ leftHs left ts ∧ leftHs left ts ≤ 1048576 := by
  have hx := leftB_left left ts.length h0 h1
  have hr := foldH_range ts (leftB left ts.length) hx.1 hx.2
  unfold leftHs at h ⊢
  have hb : ¬ leftB left ts.length < 0 := by
    intro hn
    rw [foldH_neg ts _ (by omega)] at h
    omega
  have hl : (ts.length : Int) ≤ 1048576 := by
    unfold leftB at hb
    split at hb
    · omega
    · omega
  have := tot_left ts (leftB left ts.length) hx.1 hx.2 (by omega)
  exact ⟨by omega, foldH_small ts _ hx.1 hx.2 (by omega), by omega, hr.1, hr.2⟩
end Go.Proofs.YtgjleeamhkolhaaGreatDoor

namespace Go.Proofs.YtgjleeamhkolhaaGreatDoor
open Go.RowKit

structure PtPut (W : World) (g n : Nat) : Prop where
  lt : g < W.heap.size
  there : ∀ i, i < n → W.there g (i * 7) 7
theorem PtPut.below {W W' : World} {g n : Nat} (h : PtPut W g n) (hb : Below W.heap.size W W') : PtPut W' g n := ⟨Nat.lt_of_lt_of_le h.lt hb.size, fun i hi => there_below (h.there i hi) hb h.lt⟩
theorem PtPut.spared {W W' : World} {g n : Nat} {S : List Nat} (h : PtPut W g n) (hs : Spared S W W') (hn : g ∉ S) : PtPut W' g n := by
  have hb := hs.block g h.lt hn
  exact ⟨Nat.lt_of_lt_of_le h.lt hs.size, fun i hi j hj => ⟨by rw [World.cell?_of_block (a := ⟨g, i * 7 + j, none⟩) hb]; exact (h.there i hi j hj).1, by rw [World.frozen?_of_block (a := ⟨g, i * 7 + j, none⟩) hb]; exact (h.there i hi j hj).2⟩⟩
end Go.Proofs.YtgjleeamhkolhaaGreatDoor

namespace Go.Proofs.YtgjleeamhkolhaaGreatDoor
open Go.RowKit

structure StPut (W : World) (g hi : Nat) (l : List Stp) : Prop where
  lt : g < hi
  le : hi ≤ W.heap.size
  at_ : StepsAt W (some ⟨g, 0, none⟩) g 0 l
  put : PtPut W g l.length
section
variable {W W' : World} {g hi : Nat} {l : List Stp}
theorem StPut.below (h : StPut W g hi l) (hb : Below W.heap.size W W') : StPut W' g hi l := ⟨h.lt, Nat.le_trans h.le hb.size, h.at_.below hb h.at_.lt, h.put.below hb⟩
theorem StPut.iv {lo' hi' : Nat} (h : StPut W g hi l) (hs : Iv lo' hi' W W') (hd : hi ≤ lo' ∨ hi' ≤ g) : StPut W' g hi l := by
  have hg := hs.block g (Nat.lt_of_lt_of_le h.lt h.le) (Iv.out (by have := h.lt; omega))
  exact ⟨h.lt, Nat.le_trans h.le hs.size, ⟨h.at_.here, fun hn => Nat.lt_of_lt_of_le (h.at_.lt hn) hs.size, fun i s hi' j v hv => by rw [World.cell?_of_block (w := W) (a := ⟨g, 0 + i * 7 + j, none⟩) hg]; exact h.at_.cell i s hi' j v hv⟩, h.put.spared hs (Iv.out (by have := h.lt; omega))⟩
end
theorem StPut.range {g hi : Nat} {W W' : World} (h : Spared [g] W W') (hlt : g < hi) : Iv g hi W W' := Iv.of h (fun k hk => by simp at hk; omega)
theorem toPath_put (p : Pt) (w : World) (hl : p.l.length ≤ 1048576) (h : PtAt w p) :
    Calls Tryz.prog 9 #[p.val] w fun e w' => ∃ g, e = .returned (p.put g).val ∧ w.heap.size ≤ g ∧ StPut w' g w'.heap.size p.l ∧ Below w.heap.size w w' :=
  (toPath_more _ _ _ _ _ p.b0 p.o _ _ w hl h).mono fun _ _ ⟨g, h1, h2, h3, h4, h5, h6⟩ => ⟨g, h1, h2, ⟨h3, Nat.le_refl _, h4, ⟨h3, h6⟩⟩, h5⟩
theorem eqPath_put (p : Pt) {W : World} {g hi g' hi' : Nat} (h : StPut W g hi p.l) (h' : StPut W g' hi' p.l) (hl : p.l.length ≤ 1048576) :
    Calls Tryz.prog 13 #[(p.put g).val, (p.put g').val] W fun e w' => e = .returned (.bool true) ∧ Below W.heap.size W w' :=
  eqPath_same _ _ _ _ _ _ g 0 _ g' 0 _ _ _ hl h.at_ h'.at_
end Go.Proofs.YtgjleeamhkolhaaGreatDoor
