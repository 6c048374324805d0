/- The program's hear and LinkHear, by their contracts. -/
import Derived.Deep.RegionHeld3
import Derived.Test.YtfcobpaaeijkoaaLkCopyBI
import Derived.Test.YtfcobpaaeijkoaaLkDelete
import Derived.Test.YtfcobpaaeijkoaaLkFirst
import Derived.Test.YtfcobpaaeijkoaaLkSaid
import Derived.Test.YtfcobpaaeijkoaaLkAs
import Derived.Test.YtfcobpaaeijkoaaCls
namespace Go.Proofs.Ytfcobpaaeijkoaa
open Go.RowKit

/-- Somebody's key behind a word of theirs: what was sent is held; nothing is sent any more. -/
def noKey : Int × Int × Int × Int × List Stp := (0, 0, 0, 0, [])
def tookK (h : HKey) : HKey := (h.1, h.2.2.2.1, h.2.2.2.2, 0, noKey)
def refK (h : HKey) : HKey := (h.1, h.2.1, h.2.2.1, 0, noKey)
def sentB (h : HKey) (n : Int) : Bool := decide (0 < h.2.2.2.1) && (h.2.2.2.1 == n)
/-- What a word of the kind k and the number n makes of the book, whose i-th is h. -/
def hearAt (ks : List HKey) (i : Nat) (h : HKey) (k n : Int) : List HKey :=
  if k = 6 then (if (n == h.2.1) || sentB h n then ks.eraseIdx i else ks)
  else if k = 3 ∨ k = 5 then (if sentB h n then ks.set i (tookK h) else ks)
  else if k = 4 then (if sentB h n then ks.set i (refK h) else ks)
  else ks

theorem wasSent_any (u : Hd) (n : Int) (v : Bool) (w : World) (hv : sentB u.key n = v) :
    Calls Try.prog 54 #[u.val, .int .i64 n] w fun e w' => e = .returned (.bool v) ∧ Below w.heap.size w w' := by
  by_cases h1 : 0 < u.sn
  · have e1 : v = (u.sn == n) := by rw [← hv]; simp [sentB, Hd.key, h1]
    subst e1
    clear hv
    go_enter Try.func54, Try.ntmps54
    go_wp2
    go_ret
    exact ⟨rfl, bel1 _⟩
  · have e1 : v = false := by rw [← hv]; simp [sentB, Hd.key, h1]
    subst e1
    clear hv
    go_enter Try.func54, Try.ntmps54
    go_wp2
    go_ret
    exact ⟨rfl, bel1 _⟩

/-- Where the book and its row lie while a word is heard. -/
structure HrW (w W : World) (K base : Nat) (la : Int) (v : Value) (us : List Hd) : Prop where
  old : Below w.heap.size w W
  k : w.heap.size ≤ K
  kb : K < base
  bk : Bx W K #[.int .i64 la, v]
  own : BkOwn W base v us
theorem HrW.keep {w W W' : World} {K base : Nat} {la : Int} {v : Value} {us : List Hd} (h : HrW w W K base la v us) (hb : Below W.heap.size W W') : HrW w W' K base la v us :=
  ⟨h.old.trans (hb.mono h.old.size), h.k, h.kb, h.bk.keep hb, h.own.below hb⟩
/-- The row alone has been written: one anew, whose lists are some of those that it had. -/
theorem HrW.put {w W W' : World} {K base i : Nat} {la : Int} {v : Value} {us : List Hd} {u u' : Hd} (h : HrW w W K base la v us) (hu : us[i]? = some u) (hs : Spared v.ownBlock.toList W W') (row : W'.ownsRow base 58 13 v us.length (hdCells (us.set i u')))
    (hO : HdOwn W base u → HdOwn W' base u → HdOwn W' base u') (hb : ∀ k ∈ u'.blks, k ∈ u.blks) : HrW w W' K base la v (us.set i u') := by
  have hm := List.mem_of_getElem? hu
  have hro := h.own.row
  have keep : ∀ t ∈ us, HdOwn W' base t := fun t ht => (h.own.hd ht).spared hs (fun k hk hk' => (h.own.hd ht).row hro k hk (by simpa using hk'))
  have hU := hO (h.own.hd hm) (keep u hm)
  have hb0 := owns_base hro
  refine ⟨hs.toBelow h.old h.old.size (fun k hk => by have := hb0 k (by simpa using hk); have := h.k; have := h.kb; omega), h.k, h.kb, h.bk.spared hs (fun hk => by have := hb0 _ (by simpa using hk); have := h.kb; omega), ?_⟩
  refine ⟨by rw [List.length_set]; exact row, fun t ht => ?_, fun t ht => ?_, ?_⟩
  · rcases mem_set_cases ht with rfl | ⟨j, hj, htj⟩
    · exact ⟨hU.p, hU.x⟩
    · have := keep t (List.mem_of_getElem? htj)
      exact ⟨this.p, this.x⟩
  · rcases mem_set_cases ht with rfl | ⟨j, hj, htj⟩
    · exact hU.inn
    · exact h.own.inn t (List.mem_of_getElem? htj)
  · rw [List.pairwise_iff_getElem]
    intro a b ha hb' hab
    rw [List.length_set] at ha hb'
    rw [List.getElem_set, List.getElem_set]
    have e0 := List.pairwise_iff_getElem.1 h.own.two a b ha hb' hab
    have eu : ∀ (hi : i < us.length), us[i] = u := fun hi => by rw [List.getElem?_eq_getElem hi] at hu; simpa using hu
    split
    · rename_i e
      subst e
      rw [if_neg (by omega)]
      rw [eu ha] at e0
      exact fun k hk hk' => e0 k (hb k hk) hk'
    · split
      · rename_i e
        subst e
        rw [eu hb'] at e0
        exact fun k hk hk' => e0 k hk (hb k hk')
      · exact e0
theorem key_set {us : List Hd} {i : Nat} {u : Hd} : (us.set i u).map Hd.key = (us.map Hd.key).set i u.key := List.map_set ..
theorem key_erase {us : List Hd} {i : Nat} : (us.eraseIdx i).map Hd.key = (us.map Hd.key).eraseIdx i := by
  rw [List.eraseIdx_eq_take_drop_succ, List.eraseIdx_eq_take_drop_succ, List.map_append, List.map_take, List.map_drop]
theorem HrW.erase {w W W' : World} {K base i g cap : Nat} {la : Int} {us : List Hd} (h : HrW w W K base la (.slice (some ⟨g, 0, none⟩) us.length cap) us) (hi : i < us.length) (hg : W.grownBy W' (some g)) (row : W'.ownsRow base 58 13 (.slice (some ⟨g, 0, none⟩) (us.length - 1) cap) (us.length - 1) (hdCells (us.eraseIdx i))) :
    HrW w (W'.setCell ⟨K, 1, none⟩ (.slice (some ⟨g, 0, none⟩) (us.length - 1) cap)) K base la (.slice (some ⟨g, 0, none⟩) (us.length - 1) cap) (us.eraseIdx i) := by
  have hs : Spared [g] W W' := Spared.grown hg (by simp)
  have hgb : base ≤ g := owns_base h.own.row g rfl
  have hk := h.k
  have hkb := h.kb
  have hle : (us.eraseIdx i).length = us.length - 1 := List.length_eraseIdx_of_lt hi
  have sub : (us.eraseIdx i).Sublist us := List.eraseIdx_sublist ..
  have keep : ∀ t ∈ us, HdOwn W' base t := fun t ht => (h.own.hd ht).spared hs (fun k hk hk' => (h.own.hd ht).row h.own.row k hk (by simp at hk'; subst hk'; rfl))
  have O : BkOwn W' base (.slice (some ⟨g, 0, none⟩) (us.length - 1) cap) (us.eraseIdx i) :=
    ⟨by rw [hle]; exact row, fun t ht => ⟨(keep t (sub.subset ht)).p, (keep t (sub.subset ht)).x⟩, fun t ht => h.own.inn t (sub.subset ht), h.own.two.sublist sub⟩
  refine ⟨?_, hk, hkb, ?_, ?_⟩
  · exact (hs.toBelow h.old h.old.size (fun k hk' => by simp at hk'; omega)).setCell (by show _ ≤ K; omega) _
  · exact bx_set (h.bk.spared hs (by simp; omega)) 1 _
  · exact O.spared (S := [K]) (Spared.grown (grown_set _ _ _) (by simp)) (fun k hk' hk'' => by simp at hk''; have := (O.lt k hk').1; omega)

theorem forget_any (g i : Nat) (W : World) (ht : W.there g (i * 13) 13) :
    Calls Try.prog 56 #[.pointer (some ⟨g, i * 13, none⟩)] W fun e w' => e = .returned (.tuple #[]) ∧ w' = (((((W.setCell ⟨g, i * 13 + 7, none⟩ (.int .i64 0)).setCell ⟨g, i * 13 + 8, none⟩ (.int .i64 0)).setCell ⟨g, i * 13 + 9, none⟩ (.int .i64 0)).setCell ⟨g, i * 13 + 10, none⟩ (.slice none 0 0)).setCell ⟨g, i * 13 + 11, none⟩ (.int .i64 0)).setCell ⟨g, i * 13 + 12, none⟩ (.int .i64 0) := by
  obtain ⟨y7, c7⟩ := Option.isSome_iff_exists.1 (ht 7 (by omega)).1
  have f7 := (ht 7 (by omega)).2
  obtain ⟨y8, c8⟩ := Option.isSome_iff_exists.1 (ht 8 (by omega)).1
  have f8 := (ht 8 (by omega)).2
  obtain ⟨y9, c9⟩ := Option.isSome_iff_exists.1 (ht 9 (by omega)).1
  have f9 := (ht 9 (by omega)).2
  obtain ⟨y10, c10⟩ := Option.isSome_iff_exists.1 (ht 10 (by omega)).1
  have f10 := (ht 10 (by omega)).2
  obtain ⟨y11, c11⟩ := Option.isSome_iff_exists.1 (ht 11 (by omega)).1
  have f11 := (ht 11 (by omega)).2
  obtain ⟨y12, c12⟩ := Option.isSome_iff_exists.1 (ht 12 (by omega)).1
  have f12 := (ht 12 (by omega)).2
  clear ht
  go_enter Try.func56, Try.ntmps56
  go_wp2
  first
    | (go_ret; exact ⟨rfl, rfl⟩)
    | (refine bodyPost_end (v := .tuple #[]) (by simp [results, Try.results56, go_sem]) rfl ⟨rfl, rfl⟩)

set_option maxRecDepth 20000 in
set_option maxHeartbeats 4000000 in
theorem hear_land1 (t : Wd) (w W : World) (K base i g cap : Nat) (la : Int) (us : List Hd) (u : Hd) (hl : us.length ≤ 1048576) (h : HrW w W K base la (.slice (some ⟨g, 0, none⟩) us.length cap) us) (hu : us[i]? = some u) (hk : t.k = 6) (hc : (t.n == u.n) = true) :
    Calls Try.prog 36 #[.pointer (some ⟨K, 0, none⟩), .int .i64 i, t.val] W fun e w' => e = .returned (.tuple #[]) ∧ ∃ (v' : Value) (us' : List Hd), HrW w w' K base la v' us' ∧ us'.map Hd.key = (us.map Hd.key).eraseIdx i := by
  have HK : Hid (t.k = 6) := hk
  clear hk
  have hil : i < us.length := (List.getElem?_eq_some_iff.1 hu).1
  have i0 : (0 : Int) ≤ (i : Int) := by omega
  have i1 : (i : Int) < (us.length : Int) := by omega
  have h0 := h.keep (bel1 (.cells #[.int .i64 t.k, .string t.nm, .int .i64 t.n, .int .i64 t.p.q, .int .i64 t.p.s, .slice t.p.a t.p.l.length t.p.cap, .int .i64 t.p.fr, .int .i64 t.p.b] 32))
  have T0 := Bx.new W #[.int .i64 t.k, .string t.nm, .int .i64 t.n, .int .i64 t.p.q, .int .i64 t.p.s, .slice t.p.a t.p.l.length t.p.cap, .int .i64 t.p.fr, .int .i64 t.p.b] 32
  have x0 : (W.alloc (.cells #[.int .i64 t.k, .string t.nm, .int .i64 t.n, .int .i64 t.p.q, .int .i64 t.p.s, .slice t.p.a t.p.l.length t.p.cap, .int .i64 t.p.fr, .int .i64 t.p.b] 32)).cell? ⟨K, 1, none⟩ = some (.slice (some ⟨g, 0, none⟩) us.length cap) := h0.bk.c 1
  go_enter Try.func36, Try.ntmps36
  go_wp2_with fail
  refine (said_6 t _ HK.out).mono ?_
  rintro e w1 ⟨rfl, hb1⟩
  have h1 := h0.keep hb1
  have T1 := T0.keep hb1
  have R1 := h1.own.row
  have x1 : w1.cell? ⟨K, 1, none⟩ = some (.slice (some ⟨g, 0, none⟩) us.length cap) := h1.bk.c 1
  have t2 : w1.cell? ⟨W.heap.size, 2, none⟩ = some (.int .i64 t.n) := T1.c 2
  have c0 : w1.cell? ⟨g, i * 13, none⟩ = some (.string u.nm) := (R1.cellAt (i * 13) (by omega)).trans (hdCells_at _ i u 0 hu (by decide))
  have c1 : w1.cell? ⟨g, i * 13 + 1, none⟩ = some (.int .i64 u.n) := (R1.cellAt (i * 13 + 1) (by omega)).trans (hdCells_at _ i u 1 hu (by decide))
  have c2 : w1.cell? ⟨g, i * 13 + 2, none⟩ = some (.int .i64 u.p.q) := (R1.cellAt (i * 13 + 2) (by omega)).trans (hdCells_at _ i u 2 hu (by decide))
  have c3 : w1.cell? ⟨g, i * 13 + 3, none⟩ = some (.int .i64 u.p.s) := (R1.cellAt (i * 13 + 3) (by omega)).trans (hdCells_at _ i u 3 hu (by decide))
  have c4 : w1.cell? ⟨g, i * 13 + 4, none⟩ = some (.slice u.p.a u.p.l.length u.p.cap) := (R1.cellAt (i * 13 + 4) (by omega)).trans (hdCells_at _ i u 4 hu (by decide))
  have c5 : w1.cell? ⟨g, i * 13 + 5, none⟩ = some (.int .i64 u.p.fr) := (R1.cellAt (i * 13 + 5) (by omega)).trans (hdCells_at _ i u 5 hu (by decide))
  have c6 : w1.cell? ⟨g, i * 13 + 6, none⟩ = some (.int .i64 u.p.b) := (R1.cellAt (i * 13 + 6) (by omega)).trans (hdCells_at _ i u 6 hu (by decide))
  have c7 : w1.cell? ⟨g, i * 13 + 7, none⟩ = some (.int .i64 u.sn) := (R1.cellAt (i * 13 + 7) (by omega)).trans (hdCells_at _ i u 7 hu (by decide))
  have c8 : w1.cell? ⟨g, i * 13 + 8, none⟩ = some (.int .i64 u.x.q) := (R1.cellAt (i * 13 + 8) (by omega)).trans (hdCells_at _ i u 8 hu (by decide))
  have c9 : w1.cell? ⟨g, i * 13 + 9, none⟩ = some (.int .i64 u.x.s) := (R1.cellAt (i * 13 + 9) (by omega)).trans (hdCells_at _ i u 9 hu (by decide))
  have c10 : w1.cell? ⟨g, i * 13 + 10, none⟩ = some (.slice u.x.a u.x.l.length u.x.cap) := (R1.cellAt (i * 13 + 10) (by omega)).trans (hdCells_at _ i u 10 hu (by decide))
  have c11 : w1.cell? ⟨g, i * 13 + 11, none⟩ = some (.int .i64 u.x.fr) := (R1.cellAt (i * 13 + 11) (by omega)).trans (hdCells_at _ i u 11 hu (by decide))
  have c12 : w1.cell? ⟨g, i * 13 + 12, none⟩ = some (.int .i64 u.x.b) := (R1.cellAt (i * 13 + 12) (by omega)).trans (hdCells_at _ i u 12 hu (by decide))
  have a66 := as_6_6
  clear h0 T0 x0 hb1
  have qn := Cls.any w1
  have qg := Cls.cell (show g < w1.heap.size from (R1.lt g rfl).2)
  have qt := Cls.cell T1.lt
  have WS := fun W' => wasSent_any u t.n (sentB u.key t.n) W' rfl
  go_wp2
  refine wp_region_cls (by kernel_rfl) (by kernel_rfl) ?_
  repeat (go_big_quiet_step ((go_at_call 54; exact Calls.cls_of (WS _))))
  try simp only [hc]
  repeat (go_big_quiet_step ((go_at_call 54; exact Calls.cls_of (WS _))))
  refine wpQuiet_nil ?_
  rintro _ ⟨uu, rfl⟩
  have h2 := h1.keep uu.same
  obtain ⟨w2, _⟩ := uu
  simp only at h2 ⊢
  clear qn qg qt WS c0 c1 c2 c3 c4 c5 c6 c7 c8 c9 c10 c11 c12 x1 t2 R1 h1 T1
  have x2 : w2.cell? ⟨K, 1, none⟩ = some (.slice (some ⟨g, 0, none⟩) us.length cap) := h2.bk.c 1
  go_wp2_with fail
  refine (delete_any g cap base i us _ hl hil h2.own.row).mono ?_
  rintro e w3 ⟨rfl, row3, g3⟩
  have h3 := h2.erase hil g3 row3
  have K3 := h2.bk.spared (Spared.grown g3 (S := [g]) (by simp)) (by have : base ≤ g := owns_base h2.own.row g rfl; have := h2.kb; simp; omega)
  have y0 : w3.cell? ⟨K, 0, none⟩ = some (.int .i64 la) := K3.c 0
  have y1 : w3.cell? ⟨K, 1, none⟩ = some (.slice (some ⟨g, 0, none⟩) us.length cap) := K3.c 1
  have yf := K3.f
  go_wp2
  first | (go_ret; exact ⟨rfl, _, _, h3, key_erase⟩) | (refine bodyPost_end (v := .tuple #[]) (by simp [results, Try.results36, go_sem]) rfl ⟨rfl, _, _, h3, key_erase⟩)
set_option maxRecDepth 20000 in
set_option maxHeartbeats 4000000 in
theorem hear_land2 (t : Wd) (w W : World) (K base i g cap : Nat) (la : Int) (us : List Hd) (u : Hd) (hl : us.length ≤ 1048576) (h : HrW w W K base la (.slice (some ⟨g, 0, none⟩) us.length cap) us) (hu : us[i]? = some u) (hk : t.k = 6) (hc : (t.n == u.n) = false) (hs : sentB u.key t.n = true) :
    Calls Try.prog 36 #[.pointer (some ⟨K, 0, none⟩), .int .i64 i, t.val] W fun e w' => e = .returned (.tuple #[]) ∧ ∃ (v' : Value) (us' : List Hd), HrW w w' K base la v' us' ∧ us'.map Hd.key = (us.map Hd.key).eraseIdx i := by
  have HK : Hid (t.k = 6) := hk
  clear hk
  have HS : Hid (sentB u.key t.n = true) := hs
  clear hs
  have hil : i < us.length := (List.getElem?_eq_some_iff.1 hu).1
  have i0 : (0 : Int) ≤ (i : Int) := by omega
  have i1 : (i : Int) < (us.length : Int) := by omega
  have h0 := h.keep (bel1 (.cells #[.int .i64 t.k, .string t.nm, .int .i64 t.n, .int .i64 t.p.q, .int .i64 t.p.s, .slice t.p.a t.p.l.length t.p.cap, .int .i64 t.p.fr, .int .i64 t.p.b] 32))
  have T0 := Bx.new W #[.int .i64 t.k, .string t.nm, .int .i64 t.n, .int .i64 t.p.q, .int .i64 t.p.s, .slice t.p.a t.p.l.length t.p.cap, .int .i64 t.p.fr, .int .i64 t.p.b] 32
  have x0 : (W.alloc (.cells #[.int .i64 t.k, .string t.nm, .int .i64 t.n, .int .i64 t.p.q, .int .i64 t.p.s, .slice t.p.a t.p.l.length t.p.cap, .int .i64 t.p.fr, .int .i64 t.p.b] 32)).cell? ⟨K, 1, none⟩ = some (.slice (some ⟨g, 0, none⟩) us.length cap) := h0.bk.c 1
  go_enter Try.func36, Try.ntmps36
  go_wp2_with fail
  refine (said_6 t _ HK.out).mono ?_
  rintro e w1 ⟨rfl, hb1⟩
  have h1 := h0.keep hb1
  have T1 := T0.keep hb1
  have R1 := h1.own.row
  have x1 : w1.cell? ⟨K, 1, none⟩ = some (.slice (some ⟨g, 0, none⟩) us.length cap) := h1.bk.c 1
  have t2 : w1.cell? ⟨W.heap.size, 2, none⟩ = some (.int .i64 t.n) := T1.c 2
  have c0 : w1.cell? ⟨g, i * 13, none⟩ = some (.string u.nm) := (R1.cellAt (i * 13) (by omega)).trans (hdCells_at _ i u 0 hu (by decide))
  have c1 : w1.cell? ⟨g, i * 13 + 1, none⟩ = some (.int .i64 u.n) := (R1.cellAt (i * 13 + 1) (by omega)).trans (hdCells_at _ i u 1 hu (by decide))
  have c2 : w1.cell? ⟨g, i * 13 + 2, none⟩ = some (.int .i64 u.p.q) := (R1.cellAt (i * 13 + 2) (by omega)).trans (hdCells_at _ i u 2 hu (by decide))
  have c3 : w1.cell? ⟨g, i * 13 + 3, none⟩ = some (.int .i64 u.p.s) := (R1.cellAt (i * 13 + 3) (by omega)).trans (hdCells_at _ i u 3 hu (by decide))
  have c4 : w1.cell? ⟨g, i * 13 + 4, none⟩ = some (.slice u.p.a u.p.l.length u.p.cap) := (R1.cellAt (i * 13 + 4) (by omega)).trans (hdCells_at _ i u 4 hu (by decide))
  have c5 : w1.cell? ⟨g, i * 13 + 5, none⟩ = some (.int .i64 u.p.fr) := (R1.cellAt (i * 13 + 5) (by omega)).trans (hdCells_at _ i u 5 hu (by decide))
  have c6 : w1.cell? ⟨g, i * 13 + 6, none⟩ = some (.int .i64 u.p.b) := (R1.cellAt (i * 13 + 6) (by omega)).trans (hdCells_at _ i u 6 hu (by decide))
  have c7 : w1.cell? ⟨g, i * 13 + 7, none⟩ = some (.int .i64 u.sn) := (R1.cellAt (i * 13 + 7) (by omega)).trans (hdCells_at _ i u 7 hu (by decide))
  have c8 : w1.cell? ⟨g, i * 13 + 8, none⟩ = some (.int .i64 u.x.q) := (R1.cellAt (i * 13 + 8) (by omega)).trans (hdCells_at _ i u 8 hu (by decide))
  have c9 : w1.cell? ⟨g, i * 13 + 9, none⟩ = some (.int .i64 u.x.s) := (R1.cellAt (i * 13 + 9) (by omega)).trans (hdCells_at _ i u 9 hu (by decide))
  have c10 : w1.cell? ⟨g, i * 13 + 10, none⟩ = some (.slice u.x.a u.x.l.length u.x.cap) := (R1.cellAt (i * 13 + 10) (by omega)).trans (hdCells_at _ i u 10 hu (by decide))
  have c11 : w1.cell? ⟨g, i * 13 + 11, none⟩ = some (.int .i64 u.x.fr) := (R1.cellAt (i * 13 + 11) (by omega)).trans (hdCells_at _ i u 11 hu (by decide))
  have c12 : w1.cell? ⟨g, i * 13 + 12, none⟩ = some (.int .i64 u.x.b) := (R1.cellAt (i * 13 + 12) (by omega)).trans (hdCells_at _ i u 12 hu (by decide))
  have a66 := as_6_6
  clear h0 T0 x0 hb1
  have qn := Cls.any w1
  have qg := Cls.cell (show g < w1.heap.size from (R1.lt g rfl).2)
  have qt := Cls.cell T1.lt
  have WS := fun W' => wasSent_any u t.n true W' HS.out
  go_wp2
  refine wp_region_cls (by kernel_rfl) (by kernel_rfl) ?_
  repeat (go_big_quiet_step ((go_at_call 54; exact Calls.cls_of (WS _))))
  try simp only [hc]
  repeat (go_big_quiet_step ((go_at_call 54; exact Calls.cls_of (WS _))))
  refine wpQuiet_nil ?_
  rintro _ ⟨uu, rfl⟩
  have h2 := h1.keep uu.same
  obtain ⟨w2, _⟩ := uu
  simp only at h2 ⊢
  clear qn qg qt WS c0 c1 c2 c3 c4 c5 c6 c7 c8 c9 c10 c11 c12 x1 t2 R1 h1 T1
  have x2 : w2.cell? ⟨K, 1, none⟩ = some (.slice (some ⟨g, 0, none⟩) us.length cap) := h2.bk.c 1
  go_wp2_with fail
  refine (delete_any g cap base i us _ hl hil h2.own.row).mono ?_
  rintro e w3 ⟨rfl, row3, g3⟩
  have h3 := h2.erase hil g3 row3
  have K3 := h2.bk.spared (Spared.grown g3 (S := [g]) (by simp)) (by have : base ≤ g := owns_base h2.own.row g rfl; have := h2.kb; simp; omega)
  have y0 : w3.cell? ⟨K, 0, none⟩ = some (.int .i64 la) := K3.c 0
  have y1 : w3.cell? ⟨K, 1, none⟩ = some (.slice (some ⟨g, 0, none⟩) us.length cap) := K3.c 1
  have yf := K3.f
  go_wp2
  first | (go_ret; exact ⟨rfl, _, _, h3, key_erase⟩) | (refine bodyPost_end (v := .tuple #[]) (by simp [results, Try.results36, go_sem]) rfl ⟨rfl, _, _, h3, key_erase⟩)
set_option maxRecDepth 20000 in
set_option maxHeartbeats 4000000 in
theorem hear_land3 (t : Wd) (w W : World) (K base i g cap : Nat) (la : Int) (us : List Hd) (u : Hd) (_hl : us.length ≤ 1048576) (h : HrW w W K base la (.slice (some ⟨g, 0, none⟩) us.length cap) us) (hu : us[i]? = some u) (hk : t.k = 6) (hc : (t.n == u.n) = false) (hs : sentB u.key t.n = false) :
    Calls Try.prog 36 #[.pointer (some ⟨K, 0, none⟩), .int .i64 i, t.val] W fun e w' => e = .returned (.tuple #[]) ∧ ∃ (v' : Value) (us' : List Hd), HrW w w' K base la v' us' ∧ us'.map Hd.key = us.map Hd.key := by
  have HK : Hid (t.k = 6) := hk
  clear hk
  have HS : Hid (sentB u.key t.n = false) := hs
  clear hs
  have hil : i < us.length := (List.getElem?_eq_some_iff.1 hu).1
  have i0 : (0 : Int) ≤ (i : Int) := by omega
  have i1 : (i : Int) < (us.length : Int) := by omega
  have h0 := h.keep (bel1 (.cells #[.int .i64 t.k, .string t.nm, .int .i64 t.n, .int .i64 t.p.q, .int .i64 t.p.s, .slice t.p.a t.p.l.length t.p.cap, .int .i64 t.p.fr, .int .i64 t.p.b] 32))
  have T0 := Bx.new W #[.int .i64 t.k, .string t.nm, .int .i64 t.n, .int .i64 t.p.q, .int .i64 t.p.s, .slice t.p.a t.p.l.length t.p.cap, .int .i64 t.p.fr, .int .i64 t.p.b] 32
  have x0 : (W.alloc (.cells #[.int .i64 t.k, .string t.nm, .int .i64 t.n, .int .i64 t.p.q, .int .i64 t.p.s, .slice t.p.a t.p.l.length t.p.cap, .int .i64 t.p.fr, .int .i64 t.p.b] 32)).cell? ⟨K, 1, none⟩ = some (.slice (some ⟨g, 0, none⟩) us.length cap) := h0.bk.c 1
  go_enter Try.func36, Try.ntmps36
  go_wp2_with fail
  refine (said_6 t _ HK.out).mono ?_
  rintro e w1 ⟨rfl, hb1⟩
  have h1 := h0.keep hb1
  have T1 := T0.keep hb1
  have R1 := h1.own.row
  have x1 : w1.cell? ⟨K, 1, none⟩ = some (.slice (some ⟨g, 0, none⟩) us.length cap) := h1.bk.c 1
  have t2 : w1.cell? ⟨W.heap.size, 2, none⟩ = some (.int .i64 t.n) := T1.c 2
  have c0 : w1.cell? ⟨g, i * 13, none⟩ = some (.string u.nm) := (R1.cellAt (i * 13) (by omega)).trans (hdCells_at _ i u 0 hu (by decide))
  have c1 : w1.cell? ⟨g, i * 13 + 1, none⟩ = some (.int .i64 u.n) := (R1.cellAt (i * 13 + 1) (by omega)).trans (hdCells_at _ i u 1 hu (by decide))
  have c2 : w1.cell? ⟨g, i * 13 + 2, none⟩ = some (.int .i64 u.p.q) := (R1.cellAt (i * 13 + 2) (by omega)).trans (hdCells_at _ i u 2 hu (by decide))
  have c3 : w1.cell? ⟨g, i * 13 + 3, none⟩ = some (.int .i64 u.p.s) := (R1.cellAt (i * 13 + 3) (by omega)).trans (hdCells_at _ i u 3 hu (by decide))
  have c4 : w1.cell? ⟨g, i * 13 + 4, none⟩ = some (.slice u.p.a u.p.l.length u.p.cap) := (R1.cellAt (i * 13 + 4) (by omega)).trans (hdCells_at _ i u 4 hu (by decide))
  have c5 : w1.cell? ⟨g, i * 13 + 5, none⟩ = some (.int .i64 u.p.fr) := (R1.cellAt (i * 13 + 5) (by omega)).trans (hdCells_at _ i u 5 hu (by decide))
  have c6 : w1.cell? ⟨g, i * 13 + 6, none⟩ = some (.int .i64 u.p.b) := (R1.cellAt (i * 13 + 6) (by omega)).trans (hdCells_at _ i u 6 hu (by decide))
  have c7 : w1.cell? ⟨g, i * 13 + 7, none⟩ = some (.int .i64 u.sn) := (R1.cellAt (i * 13 + 7) (by omega)).trans (hdCells_at _ i u 7 hu (by decide))
  have c8 : w1.cell? ⟨g, i * 13 + 8, none⟩ = some (.int .i64 u.x.q) := (R1.cellAt (i * 13 + 8) (by omega)).trans (hdCells_at _ i u 8 hu (by decide))
  have c9 : w1.cell? ⟨g, i * 13 + 9, none⟩ = some (.int .i64 u.x.s) := (R1.cellAt (i * 13 + 9) (by omega)).trans (hdCells_at _ i u 9 hu (by decide))
  have c10 : w1.cell? ⟨g, i * 13 + 10, none⟩ = some (.slice u.x.a u.x.l.length u.x.cap) := (R1.cellAt (i * 13 + 10) (by omega)).trans (hdCells_at _ i u 10 hu (by decide))
  have c11 : w1.cell? ⟨g, i * 13 + 11, none⟩ = some (.int .i64 u.x.fr) := (R1.cellAt (i * 13 + 11) (by omega)).trans (hdCells_at _ i u 11 hu (by decide))
  have c12 : w1.cell? ⟨g, i * 13 + 12, none⟩ = some (.int .i64 u.x.b) := (R1.cellAt (i * 13 + 12) (by omega)).trans (hdCells_at _ i u 12 hu (by decide))
  have a66 := as_6_6
  clear h0 T0 x0 hb1
  have qn := Cls.any w1
  have qg := Cls.cell (show g < w1.heap.size from (R1.lt g rfl).2)
  have qt := Cls.cell T1.lt
  have WS := fun W' => wasSent_any u t.n false W' HS.out
  go_wp2
  refine wp_region_cls (by kernel_rfl) (by kernel_rfl) ?_
  repeat (go_big_quiet_step ((go_at_call 54; exact Calls.cls_of (WS _))))
  try simp only [hc]
  repeat (go_big_quiet_step ((go_at_call 54; exact Calls.cls_of (WS _))))
  refine wpQuiet_nil ?_
  rintro _ ⟨uu, rfl⟩
  have h2 := h1.keep uu.same
  obtain ⟨w2, _⟩ := uu
  simp only at h2 ⊢
  clear qn qg qt WS c0 c1 c2 c3 c4 c5 c6 c7 c8 c9 c10 c11 c12 x1 t2 R1 h1 T1
  go_wp2
  first | (go_ret; exact ⟨rfl, _, us, h2, rfl⟩) | (refine bodyPost_end (v := .tuple #[]) (by simp [results, Try.results36, go_sem]) rfl ⟨rfl, _, us, h2, rfl⟩)
set_option maxRecDepth 20000 in
set_option maxHeartbeats 4000000 in
theorem hear_ref1 (t : Wd) (w W : World) (K base i g cap : Nat) (la : Int) (us : List Hd) (u : Hd) (_hl : us.length ≤ 1048576) (h : HrW w W K base la (.slice (some ⟨g, 0, none⟩) us.length cap) us) (hu : us[i]? = some u) (hk : t.k = 4) (hs : sentB u.key t.n = true) :
    Calls Try.prog 36 #[.pointer (some ⟨K, 0, none⟩), .int .i64 i, t.val] W fun e w' => e = .returned (.tuple #[]) ∧ ∃ (v' : Value) (us' : List Hd), HrW w w' K base la v' us' ∧ us'.map Hd.key = (us.map Hd.key).set i (refK u.key) := by
  have HK : Hid (t.k = 4) := hk
  clear hk
  have HS : Hid (sentB u.key t.n = true) := hs
  clear hs
  have hil : i < us.length := (List.getElem?_eq_some_iff.1 hu).1
  have i0 : (0 : Int) ≤ (i : Int) := by omega
  have i1 : (i : Int) < (us.length : Int) := by omega
  have h0 := h.keep (bel1 (.cells #[.int .i64 t.k, .string t.nm, .int .i64 t.n, .int .i64 t.p.q, .int .i64 t.p.s, .slice t.p.a t.p.l.length t.p.cap, .int .i64 t.p.fr, .int .i64 t.p.b] 32))
  have T0 := Bx.new W #[.int .i64 t.k, .string t.nm, .int .i64 t.n, .int .i64 t.p.q, .int .i64 t.p.s, .slice t.p.a t.p.l.length t.p.cap, .int .i64 t.p.fr, .int .i64 t.p.b] 32
  have x0 : (W.alloc (.cells #[.int .i64 t.k, .string t.nm, .int .i64 t.n, .int .i64 t.p.q, .int .i64 t.p.s, .slice t.p.a t.p.l.length t.p.cap, .int .i64 t.p.fr, .int .i64 t.p.b] 32)).cell? ⟨K, 1, none⟩ = some (.slice (some ⟨g, 0, none⟩) us.length cap) := h0.bk.c 1
  go_enter Try.func36, Try.ntmps36
  go_wp2_with fail
  refine (said_4 t _ HK.out).mono ?_
  rintro e w1 ⟨rfl, hb1⟩
  have h1 := h0.keep hb1
  have T1 := T0.keep hb1
  have R1 := h1.own.row
  have x1 : w1.cell? ⟨K, 1, none⟩ = some (.slice (some ⟨g, 0, none⟩) us.length cap) := h1.bk.c 1
  have t2 : w1.cell? ⟨W.heap.size, 2, none⟩ = some (.int .i64 t.n) := T1.c 2
  have c0 : w1.cell? ⟨g, i * 13, none⟩ = some (.string u.nm) := (R1.cellAt (i * 13) (by omega)).trans (hdCells_at _ i u 0 hu (by decide))
  have c1 : w1.cell? ⟨g, i * 13 + 1, none⟩ = some (.int .i64 u.n) := (R1.cellAt (i * 13 + 1) (by omega)).trans (hdCells_at _ i u 1 hu (by decide))
  have c2 : w1.cell? ⟨g, i * 13 + 2, none⟩ = some (.int .i64 u.p.q) := (R1.cellAt (i * 13 + 2) (by omega)).trans (hdCells_at _ i u 2 hu (by decide))
  have c3 : w1.cell? ⟨g, i * 13 + 3, none⟩ = some (.int .i64 u.p.s) := (R1.cellAt (i * 13 + 3) (by omega)).trans (hdCells_at _ i u 3 hu (by decide))
  have c4 : w1.cell? ⟨g, i * 13 + 4, none⟩ = some (.slice u.p.a u.p.l.length u.p.cap) := (R1.cellAt (i * 13 + 4) (by omega)).trans (hdCells_at _ i u 4 hu (by decide))
  have c5 : w1.cell? ⟨g, i * 13 + 5, none⟩ = some (.int .i64 u.p.fr) := (R1.cellAt (i * 13 + 5) (by omega)).trans (hdCells_at _ i u 5 hu (by decide))
  have c6 : w1.cell? ⟨g, i * 13 + 6, none⟩ = some (.int .i64 u.p.b) := (R1.cellAt (i * 13 + 6) (by omega)).trans (hdCells_at _ i u 6 hu (by decide))
  have c7 : w1.cell? ⟨g, i * 13 + 7, none⟩ = some (.int .i64 u.sn) := (R1.cellAt (i * 13 + 7) (by omega)).trans (hdCells_at _ i u 7 hu (by decide))
  have c8 : w1.cell? ⟨g, i * 13 + 8, none⟩ = some (.int .i64 u.x.q) := (R1.cellAt (i * 13 + 8) (by omega)).trans (hdCells_at _ i u 8 hu (by decide))
  have c9 : w1.cell? ⟨g, i * 13 + 9, none⟩ = some (.int .i64 u.x.s) := (R1.cellAt (i * 13 + 9) (by omega)).trans (hdCells_at _ i u 9 hu (by decide))
  have c10 : w1.cell? ⟨g, i * 13 + 10, none⟩ = some (.slice u.x.a u.x.l.length u.x.cap) := (R1.cellAt (i * 13 + 10) (by omega)).trans (hdCells_at _ i u 10 hu (by decide))
  have c11 : w1.cell? ⟨g, i * 13 + 11, none⟩ = some (.int .i64 u.x.fr) := (R1.cellAt (i * 13 + 11) (by omega)).trans (hdCells_at _ i u 11 hu (by decide))
  have c12 : w1.cell? ⟨g, i * 13 + 12, none⟩ = some (.int .i64 u.x.b) := (R1.cellAt (i * 13 + 12) (by omega)).trans (hdCells_at _ i u 12 hu (by decide))
  have a46 := as_4_6
  have a43 := as_4_3
  have a45 := as_4_5
  have a44 := as_4_4
  clear h0 T0 x0 hb1
  have qn := Cls.any w1
  have qg := Cls.cell (show g < w1.heap.size from (R1.lt g rfl).2)
  have qt := Cls.cell T1.lt
  have WS := fun W' => wasSent_any u t.n true W' HS.out
  go_wp2
  refine wp_region_cls (by kernel_rfl) (by kernel_rfl) ?_
  repeat (go_big_quiet_step ((go_at_call 54; exact Calls.cls_of (WS _))))
  refine wpQuiet_nil ?_
  rintro _ ⟨uu, rfl⟩
  have h2 := h1.keep uu.same
  obtain ⟨w2, _⟩ := uu
  simp only at h2 ⊢
  clear qn qg qt WS a46 a43 a45 a44 c0 c1 c2 c3 c4 c5 c6 c7 c8 c9 c10 c11 c12 x1 t2 R1 h1 T1
  have R2 := h2.own.row
  have th2 : w2.there g (i * 13) 13 := fun j hj => ⟨by rw [R2.cellAt (i * 13 + j) (by omega), List.getElem?_eq_getElem (by rw [hdCells_length]; omega)]; rfl, R2.frozenAt _⟩
  go_wp2_with fail
  refine (forget_any g i _ th2).mono ?_
  rintro e w3 ⟨rfl, hw3⟩
  have rf0 := hd_put R2 hu (j := 7) (t' := (⟨u.nm, u.n, ⟨u.p.q, u.p.s, u.p.fr, u.p.b, u.p.a, u.p.b0, u.p.o, u.p.cap, u.p.l⟩, 0, ⟨u.x.q, u.x.s, u.x.fr, u.x.b, u.x.a, u.x.b0, u.x.o, u.x.cap, u.x.l⟩⟩ : Hd)) (u := .int .i64 0) (by decide) rfl
  have rf1 := hd_put_set (t := (⟨u.nm, u.n, ⟨u.p.q, u.p.s, u.p.fr, u.p.b, u.p.a, u.p.b0, u.p.o, u.p.cap, u.p.l⟩, 0, ⟨u.x.q, u.x.s, u.x.fr, u.x.b, u.x.a, u.x.b0, u.x.o, u.x.cap, u.x.l⟩⟩ : Hd)) (t' := (⟨u.nm, u.n, ⟨u.p.q, u.p.s, u.p.fr, u.p.b, u.p.a, u.p.b0, u.p.o, u.p.cap, u.p.l⟩, 0, ⟨0, u.x.s, u.x.fr, u.x.b, u.x.a, u.x.b0, u.x.o, u.x.cap, u.x.l⟩⟩ : Hd)) (j := 8) (u := .int .i64 0) rf0 hil (by decide) rfl
  have rf2 := hd_put_set (t := (⟨u.nm, u.n, ⟨u.p.q, u.p.s, u.p.fr, u.p.b, u.p.a, u.p.b0, u.p.o, u.p.cap, u.p.l⟩, 0, ⟨0, u.x.s, u.x.fr, u.x.b, u.x.a, u.x.b0, u.x.o, u.x.cap, u.x.l⟩⟩ : Hd)) (t' := (⟨u.nm, u.n, ⟨u.p.q, u.p.s, u.p.fr, u.p.b, u.p.a, u.p.b0, u.p.o, u.p.cap, u.p.l⟩, 0, ⟨0, 0, u.x.fr, u.x.b, u.x.a, u.x.b0, u.x.o, u.x.cap, u.x.l⟩⟩ : Hd)) (j := 9) (u := .int .i64 0) rf1 hil (by decide) rfl
  have rf3 := hd_put_set (t := (⟨u.nm, u.n, ⟨u.p.q, u.p.s, u.p.fr, u.p.b, u.p.a, u.p.b0, u.p.o, u.p.cap, u.p.l⟩, 0, ⟨0, 0, u.x.fr, u.x.b, u.x.a, u.x.b0, u.x.o, u.x.cap, u.x.l⟩⟩ : Hd)) (t' := (⟨u.nm, u.n, ⟨u.p.q, u.p.s, u.p.fr, u.p.b, u.p.a, u.p.b0, u.p.o, u.p.cap, u.p.l⟩, 0, ⟨0, 0, u.x.fr, u.x.b, none, u.x.b0, u.x.o, 0, []⟩⟩ : Hd)) (j := 10) (u := .slice none 0 0) rf2 hil (by decide) rfl
  have rf4 := hd_put_set (t := (⟨u.nm, u.n, ⟨u.p.q, u.p.s, u.p.fr, u.p.b, u.p.a, u.p.b0, u.p.o, u.p.cap, u.p.l⟩, 0, ⟨0, 0, u.x.fr, u.x.b, none, u.x.b0, u.x.o, 0, []⟩⟩ : Hd)) (t' := (⟨u.nm, u.n, ⟨u.p.q, u.p.s, u.p.fr, u.p.b, u.p.a, u.p.b0, u.p.o, u.p.cap, u.p.l⟩, 0, ⟨0, 0, 0, u.x.b, none, u.x.b0, u.x.o, 0, []⟩⟩ : Hd)) (j := 11) (u := .int .i64 0) rf3 hil (by decide) rfl
  have rf5 := hd_put_set (t := (⟨u.nm, u.n, ⟨u.p.q, u.p.s, u.p.fr, u.p.b, u.p.a, u.p.b0, u.p.o, u.p.cap, u.p.l⟩, 0, ⟨0, 0, 0, u.x.b, none, u.x.b0, u.x.o, 0, []⟩⟩ : Hd)) (t' := (⟨u.nm, u.n, ⟨u.p.q, u.p.s, u.p.fr, u.p.b, u.p.a, u.p.b0, u.p.o, u.p.cap, u.p.l⟩, 0, ⟨0, 0, 0, 0, none, u.x.b0, u.x.o, 0, []⟩⟩ : Hd)) (j := 12) (u := .int .i64 0) rf4 hil (by decide) rfl
  have S3 := Spared.grown (S := (Value.slice (some ⟨g, 0, none⟩) us.length cap).ownBlock.toList) (grown_over2 (grown_over2 (grown_over2 (grown_over2 (grown_over2 (grown_set w2 ⟨g, i * 13 + 7, none⟩ (.int .i64 0)) (grown_set _ ⟨g, i * 13 + 8, none⟩ (.int .i64 0))) (grown_set _ ⟨g, i * 13 + 9, none⟩ (.int .i64 0))) (grown_set _ ⟨g, i * 13 + 10, none⟩ (.slice none 0 0))) (grown_set _ ⟨g, i * 13 + 11, none⟩ (.int .i64 0))) (grown_set _ ⟨g, i * 13 + 12, none⟩ (.int .i64 0))) (by simp [Value.ownBlock])
  have h3 := h2.put (u' := (⟨u.nm, u.n, ⟨u.p.q, u.p.s, u.p.fr, u.p.b, u.p.a, u.p.b0, u.p.o, u.p.cap, u.p.l⟩, 0, ⟨0, 0, 0, 0, none, u.x.b0, u.x.o, 0, []⟩⟩ : Hd)) hu S3 rf5 (fun _ hO => ⟨hO.p, World.ownsRow_nil _ _ _ _, fun k _ e => by simp [Value.ownBlock] at e⟩) (fun k hk => by simp only [Hd.blks, List.mem_append, Option.mem_toList] at hk ⊢; rcases hk with hk | hk; exact Or.inl hk; simp [Value.ownBlock] at hk)
  rw [← hw3] at h3
  clear hw3 S3
  have HR : Hid ((us.set i (⟨u.nm, u.n, ⟨u.p.q, u.p.s, u.p.fr, u.p.b, u.p.a, u.p.b0, u.p.o, u.p.cap, u.p.l⟩, 0, ⟨0, 0, 0, 0, none, u.x.b0, u.x.o, 0, []⟩⟩ : Hd)).map Hd.key = (us.map Hd.key).set i (refK u.key)) := key_set
  clear rf0 rf1 rf2 rf3 rf4 rf5 th2 R2
  go_wp2
  first | (go_ret; exact ⟨rfl, _, _, h3, HR.out⟩) | (refine bodyPost_end (v := .tuple #[]) (by simp [results, Try.results36, go_sem]) rfl ⟨rfl, _, _, h3, HR.out⟩)
set_option maxRecDepth 20000 in
set_option maxHeartbeats 4000000 in
theorem hear_ref0 (t : Wd) (w W : World) (K base i g cap : Nat) (la : Int) (us : List Hd) (u : Hd) (_hl : us.length ≤ 1048576) (h : HrW w W K base la (.slice (some ⟨g, 0, none⟩) us.length cap) us) (hu : us[i]? = some u) (hk : t.k = 4) (hs : sentB u.key t.n = false) :
    Calls Try.prog 36 #[.pointer (some ⟨K, 0, none⟩), .int .i64 i, t.val] W fun e w' => e = .returned (.tuple #[]) ∧ ∃ (v' : Value) (us' : List Hd), HrW w w' K base la v' us' ∧ us'.map Hd.key = us.map Hd.key := by
  have HK : Hid (t.k = 4) := hk
  clear hk
  have HS : Hid (sentB u.key t.n = false) := hs
  clear hs
  have hil : i < us.length := (List.getElem?_eq_some_iff.1 hu).1
  have i0 : (0 : Int) ≤ (i : Int) := by omega
  have i1 : (i : Int) < (us.length : Int) := by omega
  have h0 := h.keep (bel1 (.cells #[.int .i64 t.k, .string t.nm, .int .i64 t.n, .int .i64 t.p.q, .int .i64 t.p.s, .slice t.p.a t.p.l.length t.p.cap, .int .i64 t.p.fr, .int .i64 t.p.b] 32))
  have T0 := Bx.new W #[.int .i64 t.k, .string t.nm, .int .i64 t.n, .int .i64 t.p.q, .int .i64 t.p.s, .slice t.p.a t.p.l.length t.p.cap, .int .i64 t.p.fr, .int .i64 t.p.b] 32
  have x0 : (W.alloc (.cells #[.int .i64 t.k, .string t.nm, .int .i64 t.n, .int .i64 t.p.q, .int .i64 t.p.s, .slice t.p.a t.p.l.length t.p.cap, .int .i64 t.p.fr, .int .i64 t.p.b] 32)).cell? ⟨K, 1, none⟩ = some (.slice (some ⟨g, 0, none⟩) us.length cap) := h0.bk.c 1
  go_enter Try.func36, Try.ntmps36
  go_wp2_with fail
  refine (said_4 t _ HK.out).mono ?_
  rintro e w1 ⟨rfl, hb1⟩
  have h1 := h0.keep hb1
  have T1 := T0.keep hb1
  have R1 := h1.own.row
  have x1 : w1.cell? ⟨K, 1, none⟩ = some (.slice (some ⟨g, 0, none⟩) us.length cap) := h1.bk.c 1
  have t2 : w1.cell? ⟨W.heap.size, 2, none⟩ = some (.int .i64 t.n) := T1.c 2
  have c0 : w1.cell? ⟨g, i * 13, none⟩ = some (.string u.nm) := (R1.cellAt (i * 13) (by omega)).trans (hdCells_at _ i u 0 hu (by decide))
  have c1 : w1.cell? ⟨g, i * 13 + 1, none⟩ = some (.int .i64 u.n) := (R1.cellAt (i * 13 + 1) (by omega)).trans (hdCells_at _ i u 1 hu (by decide))
  have c2 : w1.cell? ⟨g, i * 13 + 2, none⟩ = some (.int .i64 u.p.q) := (R1.cellAt (i * 13 + 2) (by omega)).trans (hdCells_at _ i u 2 hu (by decide))
  have c3 : w1.cell? ⟨g, i * 13 + 3, none⟩ = some (.int .i64 u.p.s) := (R1.cellAt (i * 13 + 3) (by omega)).trans (hdCells_at _ i u 3 hu (by decide))
  have c4 : w1.cell? ⟨g, i * 13 + 4, none⟩ = some (.slice u.p.a u.p.l.length u.p.cap) := (R1.cellAt (i * 13 + 4) (by omega)).trans (hdCells_at _ i u 4 hu (by decide))
  have c5 : w1.cell? ⟨g, i * 13 + 5, none⟩ = some (.int .i64 u.p.fr) := (R1.cellAt (i * 13 + 5) (by omega)).trans (hdCells_at _ i u 5 hu (by decide))
  have c6 : w1.cell? ⟨g, i * 13 + 6, none⟩ = some (.int .i64 u.p.b) := (R1.cellAt (i * 13 + 6) (by omega)).trans (hdCells_at _ i u 6 hu (by decide))
  have c7 : w1.cell? ⟨g, i * 13 + 7, none⟩ = some (.int .i64 u.sn) := (R1.cellAt (i * 13 + 7) (by omega)).trans (hdCells_at _ i u 7 hu (by decide))
  have c8 : w1.cell? ⟨g, i * 13 + 8, none⟩ = some (.int .i64 u.x.q) := (R1.cellAt (i * 13 + 8) (by omega)).trans (hdCells_at _ i u 8 hu (by decide))
  have c9 : w1.cell? ⟨g, i * 13 + 9, none⟩ = some (.int .i64 u.x.s) := (R1.cellAt (i * 13 + 9) (by omega)).trans (hdCells_at _ i u 9 hu (by decide))
  have c10 : w1.cell? ⟨g, i * 13 + 10, none⟩ = some (.slice u.x.a u.x.l.length u.x.cap) := (R1.cellAt (i * 13 + 10) (by omega)).trans (hdCells_at _ i u 10 hu (by decide))
  have c11 : w1.cell? ⟨g, i * 13 + 11, none⟩ = some (.int .i64 u.x.fr) := (R1.cellAt (i * 13 + 11) (by omega)).trans (hdCells_at _ i u 11 hu (by decide))
  have c12 : w1.cell? ⟨g, i * 13 + 12, none⟩ = some (.int .i64 u.x.b) := (R1.cellAt (i * 13 + 12) (by omega)).trans (hdCells_at _ i u 12 hu (by decide))
  have a46 := as_4_6
  have a43 := as_4_3
  have a45 := as_4_5
  have a44 := as_4_4
  clear h0 T0 x0 hb1
  have qn := Cls.any w1
  have qg := Cls.cell (show g < w1.heap.size from (R1.lt g rfl).2)
  have qt := Cls.cell T1.lt
  have WS := fun W' => wasSent_any u t.n false W' HS.out
  go_wp2
  refine wp_region_cls (by kernel_rfl) (by kernel_rfl) ?_
  repeat (go_big_quiet_step ((go_at_call 54; exact Calls.cls_of (WS _))))
  refine wpQuiet_nil ?_
  rintro _ ⟨uu, rfl⟩
  have h2 := h1.keep uu.same
  obtain ⟨w2, _⟩ := uu
  simp only at h2 ⊢
  clear qn qg qt WS a46 a43 a45 a44 c0 c1 c2 c3 c4 c5 c6 c7 c8 c9 c10 c11 c12 x1 t2 R1 h1 T1
  go_wp2
  first | (go_ret; exact ⟨rfl, _, us, h2, rfl⟩) | (refine bodyPost_end (v := .tuple #[]) (by simp [results, Try.results36, go_sem]) rfl ⟨rfl, _, us, h2, rfl⟩)
set_option maxRecDepth 20000 in
set_option maxHeartbeats 4000000 in
theorem hear_took1_3 (t : Wd) (w W : World) (K base i g cap : Nat) (la : Int) (us : List Hd) (u : Hd) (_hl : us.length ≤ 1048576) (h : HrW w W K base la (.slice (some ⟨g, 0, none⟩) us.length cap) us) (hu : us[i]? = some u) (hk : t.k = 3) (hs : sentB u.key t.n = true) :
    Calls Try.prog 36 #[.pointer (some ⟨K, 0, none⟩), .int .i64 i, t.val] W fun e w' => e = .returned (.tuple #[]) ∧ ∃ (v' : Value) (us' : List Hd), HrW w w' K base la v' us' ∧ us'.map Hd.key = (us.map Hd.key).set i (tookK u.key) := by
  have HK : Hid (t.k = 3) := hk
  clear hk
  have HS : Hid (sentB u.key t.n = true) := hs
  clear hs
  have hil : i < us.length := (List.getElem?_eq_some_iff.1 hu).1
  have i0 : (0 : Int) ≤ (i : Int) := by omega
  have i1 : (i : Int) < (us.length : Int) := by omega
  have h0 := h.keep (bel1 (.cells #[.int .i64 t.k, .string t.nm, .int .i64 t.n, .int .i64 t.p.q, .int .i64 t.p.s, .slice t.p.a t.p.l.length t.p.cap, .int .i64 t.p.fr, .int .i64 t.p.b] 32))
  have T0 := Bx.new W #[.int .i64 t.k, .string t.nm, .int .i64 t.n, .int .i64 t.p.q, .int .i64 t.p.s, .slice t.p.a t.p.l.length t.p.cap, .int .i64 t.p.fr, .int .i64 t.p.b] 32
  have x0 : (W.alloc (.cells #[.int .i64 t.k, .string t.nm, .int .i64 t.n, .int .i64 t.p.q, .int .i64 t.p.s, .slice t.p.a t.p.l.length t.p.cap, .int .i64 t.p.fr, .int .i64 t.p.b] 32)).cell? ⟨K, 1, none⟩ = some (.slice (some ⟨g, 0, none⟩) us.length cap) := h0.bk.c 1
  go_enter Try.func36, Try.ntmps36
  go_wp2_with fail
  refine (said_3 t _ HK.out).mono ?_
  rintro e w1 ⟨rfl, hb1⟩
  have h1 := h0.keep hb1
  have T1 := T0.keep hb1
  have R1 := h1.own.row
  have x1 : w1.cell? ⟨K, 1, none⟩ = some (.slice (some ⟨g, 0, none⟩) us.length cap) := h1.bk.c 1
  have t2 : w1.cell? ⟨W.heap.size, 2, none⟩ = some (.int .i64 t.n) := T1.c 2
  have c0 : w1.cell? ⟨g, i * 13, none⟩ = some (.string u.nm) := (R1.cellAt (i * 13) (by omega)).trans (hdCells_at _ i u 0 hu (by decide))
  have c1 : w1.cell? ⟨g, i * 13 + 1, none⟩ = some (.int .i64 u.n) := (R1.cellAt (i * 13 + 1) (by omega)).trans (hdCells_at _ i u 1 hu (by decide))
  have c2 : w1.cell? ⟨g, i * 13 + 2, none⟩ = some (.int .i64 u.p.q) := (R1.cellAt (i * 13 + 2) (by omega)).trans (hdCells_at _ i u 2 hu (by decide))
  have c3 : w1.cell? ⟨g, i * 13 + 3, none⟩ = some (.int .i64 u.p.s) := (R1.cellAt (i * 13 + 3) (by omega)).trans (hdCells_at _ i u 3 hu (by decide))
  have c4 : w1.cell? ⟨g, i * 13 + 4, none⟩ = some (.slice u.p.a u.p.l.length u.p.cap) := (R1.cellAt (i * 13 + 4) (by omega)).trans (hdCells_at _ i u 4 hu (by decide))
  have c5 : w1.cell? ⟨g, i * 13 + 5, none⟩ = some (.int .i64 u.p.fr) := (R1.cellAt (i * 13 + 5) (by omega)).trans (hdCells_at _ i u 5 hu (by decide))
  have c6 : w1.cell? ⟨g, i * 13 + 6, none⟩ = some (.int .i64 u.p.b) := (R1.cellAt (i * 13 + 6) (by omega)).trans (hdCells_at _ i u 6 hu (by decide))
  have c7 : w1.cell? ⟨g, i * 13 + 7, none⟩ = some (.int .i64 u.sn) := (R1.cellAt (i * 13 + 7) (by omega)).trans (hdCells_at _ i u 7 hu (by decide))
  have c8 : w1.cell? ⟨g, i * 13 + 8, none⟩ = some (.int .i64 u.x.q) := (R1.cellAt (i * 13 + 8) (by omega)).trans (hdCells_at _ i u 8 hu (by decide))
  have c9 : w1.cell? ⟨g, i * 13 + 9, none⟩ = some (.int .i64 u.x.s) := (R1.cellAt (i * 13 + 9) (by omega)).trans (hdCells_at _ i u 9 hu (by decide))
  have c10 : w1.cell? ⟨g, i * 13 + 10, none⟩ = some (.slice u.x.a u.x.l.length u.x.cap) := (R1.cellAt (i * 13 + 10) (by omega)).trans (hdCells_at _ i u 10 hu (by decide))
  have c11 : w1.cell? ⟨g, i * 13 + 11, none⟩ = some (.int .i64 u.x.fr) := (R1.cellAt (i * 13 + 11) (by omega)).trans (hdCells_at _ i u 11 hu (by decide))
  have c12 : w1.cell? ⟨g, i * 13 + 12, none⟩ = some (.int .i64 u.x.b) := (R1.cellAt (i * 13 + 12) (by omega)).trans (hdCells_at _ i u 12 hu (by decide))
  have a36 := as_3_6
  have a33 := as_3_3
  have a35 := as_3_5
  have a34 := as_3_4
  clear h0 T0 x0 hb1
  have qn := Cls.any w1
  have qg := Cls.cell (show g < w1.heap.size from (R1.lt g rfl).2)
  have qt := Cls.cell T1.lt
  have WS := fun W' => wasSent_any u t.n true W' HS.out
  go_wp2
  refine wp_region_cls (by kernel_rfl) (by kernel_rfl) ?_
  repeat (go_big_quiet_step ((go_at_call 54; exact Calls.cls_of (WS _))))
  refine wpQuiet_nil ?_
  rintro _ ⟨uu, rfl⟩
  have h2 := h1.keep uu.same
  obtain ⟨w2, _⟩ := uu
  simp only at h2 ⊢
  clear qn qg qt WS a36 a33 a35 a34 c0 c1 c2 c3 c4 c5 c6 c7 c8 c9 c10 c11 c12 x1 t2 R1 h1 T1
  have R2' := h2.own.row
  have rt0 := hd_put R2' hu (j := 2) (t' := (⟨u.nm, u.n, ⟨u.x.q, u.p.s, u.p.fr, u.p.b, u.p.a, u.p.b0, u.p.o, u.p.cap, u.p.l⟩, u.sn, ⟨u.x.q, u.x.s, u.x.fr, u.x.b, u.x.a, u.x.b0, u.x.o, u.x.cap, u.x.l⟩⟩ : Hd)) (u := .int .i64 u.x.q) (by decide) rfl
  have rt1 := hd_put_set (t := (⟨u.nm, u.n, ⟨u.x.q, u.p.s, u.p.fr, u.p.b, u.p.a, u.p.b0, u.p.o, u.p.cap, u.p.l⟩, u.sn, ⟨u.x.q, u.x.s, u.x.fr, u.x.b, u.x.a, u.x.b0, u.x.o, u.x.cap, u.x.l⟩⟩ : Hd)) (t' := (⟨u.nm, u.n, ⟨u.x.q, u.x.s, u.p.fr, u.p.b, u.p.a, u.p.b0, u.p.o, u.p.cap, u.p.l⟩, u.sn, ⟨u.x.q, u.x.s, u.x.fr, u.x.b, u.x.a, u.x.b0, u.x.o, u.x.cap, u.x.l⟩⟩ : Hd)) (j := 3) (u := .int .i64 u.x.s) rt0 hil (by decide) rfl
  have rt2 := hd_put_set (t := (⟨u.nm, u.n, ⟨u.x.q, u.x.s, u.p.fr, u.p.b, u.p.a, u.p.b0, u.p.o, u.p.cap, u.p.l⟩, u.sn, ⟨u.x.q, u.x.s, u.x.fr, u.x.b, u.x.a, u.x.b0, u.x.o, u.x.cap, u.x.l⟩⟩ : Hd)) (t' := (⟨u.nm, u.n, ⟨u.x.q, u.x.s, u.p.fr, u.p.b, u.x.a, u.p.b0, u.p.o, u.x.cap, u.x.l⟩, u.sn, ⟨u.x.q, u.x.s, u.x.fr, u.x.b, u.x.a, u.x.b0, u.x.o, u.x.cap, u.x.l⟩⟩ : Hd)) (j := 4) (u := .slice u.x.a u.x.l.length u.x.cap) rt1 hil (by decide) rfl
  have rt3 := hd_put_set (t := (⟨u.nm, u.n, ⟨u.x.q, u.x.s, u.p.fr, u.p.b, u.x.a, u.p.b0, u.p.o, u.x.cap, u.x.l⟩, u.sn, ⟨u.x.q, u.x.s, u.x.fr, u.x.b, u.x.a, u.x.b0, u.x.o, u.x.cap, u.x.l⟩⟩ : Hd)) (t' := (⟨u.nm, u.n, ⟨u.x.q, u.x.s, u.x.fr, u.p.b, u.x.a, u.p.b0, u.p.o, u.x.cap, u.x.l⟩, u.sn, ⟨u.x.q, u.x.s, u.x.fr, u.x.b, u.x.a, u.x.b0, u.x.o, u.x.cap, u.x.l⟩⟩ : Hd)) (j := 5) (u := .int .i64 u.x.fr) rt2 hil (by decide) rfl
  have rt4 := hd_put_set (t := (⟨u.nm, u.n, ⟨u.x.q, u.x.s, u.x.fr, u.p.b, u.x.a, u.p.b0, u.p.o, u.x.cap, u.x.l⟩, u.sn, ⟨u.x.q, u.x.s, u.x.fr, u.x.b, u.x.a, u.x.b0, u.x.o, u.x.cap, u.x.l⟩⟩ : Hd)) (t' := (⟨u.nm, u.n, ⟨u.x.q, u.x.s, u.x.fr, u.x.b, u.x.a, u.p.b0, u.p.o, u.x.cap, u.x.l⟩, u.sn, ⟨u.x.q, u.x.s, u.x.fr, u.x.b, u.x.a, u.x.b0, u.x.o, u.x.cap, u.x.l⟩⟩ : Hd)) (j := 6) (u := .int .i64 u.x.b) rt3 hil (by decide) rfl
  have rt5 := hd_put_set (t := (⟨u.nm, u.n, ⟨u.x.q, u.x.s, u.x.fr, u.x.b, u.x.a, u.p.b0, u.p.o, u.x.cap, u.x.l⟩, u.sn, ⟨u.x.q, u.x.s, u.x.fr, u.x.b, u.x.a, u.x.b0, u.x.o, u.x.cap, u.x.l⟩⟩ : Hd)) (t' := (⟨u.nm, u.sn, ⟨u.x.q, u.x.s, u.x.fr, u.x.b, u.x.a, u.p.b0, u.p.o, u.x.cap, u.x.l⟩, u.sn, ⟨u.x.q, u.x.s, u.x.fr, u.x.b, u.x.a, u.x.b0, u.x.o, u.x.cap, u.x.l⟩⟩ : Hd)) (j := 1) (u := .int .i64 u.sn) rt4 hil (by decide) rfl
  have c0 : w2.cell? ⟨g, i * 13, none⟩ = some (.string u.nm) := (R2'.cellAt (i * 13) (by omega)).trans (hdCells_at _ i u 0 hu (by decide))
  have c1 : w2.cell? ⟨g, i * 13 + 1, none⟩ = some (.int .i64 u.n) := (R2'.cellAt (i * 13 + 1) (by omega)).trans (hdCells_at _ i u 1 hu (by decide))
  have c2 : w2.cell? ⟨g, i * 13 + 2, none⟩ = some (.int .i64 u.p.q) := (R2'.cellAt (i * 13 + 2) (by omega)).trans (hdCells_at _ i u 2 hu (by decide))
  have c3 : w2.cell? ⟨g, i * 13 + 3, none⟩ = some (.int .i64 u.p.s) := (R2'.cellAt (i * 13 + 3) (by omega)).trans (hdCells_at _ i u 3 hu (by decide))
  have c4 : w2.cell? ⟨g, i * 13 + 4, none⟩ = some (.slice u.p.a u.p.l.length u.p.cap) := (R2'.cellAt (i * 13 + 4) (by omega)).trans (hdCells_at _ i u 4 hu (by decide))
  have c5 : w2.cell? ⟨g, i * 13 + 5, none⟩ = some (.int .i64 u.p.fr) := (R2'.cellAt (i * 13 + 5) (by omega)).trans (hdCells_at _ i u 5 hu (by decide))
  have c6 : w2.cell? ⟨g, i * 13 + 6, none⟩ = some (.int .i64 u.p.b) := (R2'.cellAt (i * 13 + 6) (by omega)).trans (hdCells_at _ i u 6 hu (by decide))
  have c7 : w2.cell? ⟨g, i * 13 + 7, none⟩ = some (.int .i64 u.sn) := (R2'.cellAt (i * 13 + 7) (by omega)).trans (hdCells_at _ i u 7 hu (by decide))
  have c8 : w2.cell? ⟨g, i * 13 + 8, none⟩ = some (.int .i64 u.x.q) := (R2'.cellAt (i * 13 + 8) (by omega)).trans (hdCells_at _ i u 8 hu (by decide))
  have c9 : w2.cell? ⟨g, i * 13 + 9, none⟩ = some (.int .i64 u.x.s) := (R2'.cellAt (i * 13 + 9) (by omega)).trans (hdCells_at _ i u 9 hu (by decide))
  have c10 : w2.cell? ⟨g, i * 13 + 10, none⟩ = some (.slice u.x.a u.x.l.length u.x.cap) := (R2'.cellAt (i * 13 + 10) (by omega)).trans (hdCells_at _ i u 10 hu (by decide))
  have c11 : w2.cell? ⟨g, i * 13 + 11, none⟩ = some (.int .i64 u.x.fr) := (R2'.cellAt (i * 13 + 11) (by omega)).trans (hdCells_at _ i u 11 hu (by decide))
  have c12 : w2.cell? ⟨g, i * 13 + 12, none⟩ = some (.int .i64 u.x.b) := (R2'.cellAt (i * 13 + 12) (by omega)).trans (hdCells_at _ i u 12 hu (by decide))
  have cf := R2'.frozenAt
  obtain ⟨W8, hW8⟩ : ∃ W8, ((((((w2.setCell ⟨g, i * 13 + 2, none⟩ (.int .i64 u.x.q)).setCell ⟨g, i * 13 + 2 + 1, none⟩ (.int .i64 u.x.s)).setCell ⟨g, i * 13 + 2 + 2, none⟩ (.slice u.x.a u.x.l.length u.x.cap)).setCell ⟨g, i * 13 + 2 + 3, none⟩ (.int .i64 u.x.fr)).setCell ⟨g, i * 13 + 2 + 4, none⟩ (.int .i64 u.x.b)).setCell ⟨g, i * 13 + 1, none⟩ (.int .i64 u.sn)) = W8 := ⟨_, rfl⟩
  have R8 : W8.ownsRow base 58 13 (.slice (some ⟨g, 0, none⟩) us.length cap) us.length (hdCells (us.set i (⟨u.nm, u.sn, ⟨u.x.q, u.x.s, u.x.fr, u.x.b, u.x.a, u.p.b0, u.p.o, u.x.cap, u.x.l⟩, u.sn, ⟨u.x.q, u.x.s, u.x.fr, u.x.b, u.x.a, u.x.b0, u.x.o, u.x.cap, u.x.l⟩⟩ : Hd))) := by rw [← hW8]; exact rt5
  have S8 : Spared (Value.slice (some ⟨g, 0, none⟩) us.length cap).ownBlock.toList w2 W8 := by rw [← hW8]; exact Spared.grown (grown_over2 (grown_over2 (grown_over2 (grown_over2 (grown_over2 (grown_set w2 ⟨g, i * 13 + 2, none⟩ (.int .i64 u.x.q)) (grown_set _ ⟨g, i * 13 + 3, none⟩ (.int .i64 u.x.s))) (grown_set _ ⟨g, i * 13 + 4, none⟩ (.slice u.x.a u.x.l.length u.x.cap))) (grown_set _ ⟨g, i * 13 + 5, none⟩ (.int .i64 u.x.fr))) (grown_set _ ⟨g, i * 13 + 6, none⟩ (.int .i64 u.x.b))) (grown_set _ ⟨g, i * 13 + 1, none⟩ (.int .i64 u.sn))) (by simp [Value.ownBlock])
  clear rt0 rt1 rt2 rt3 rt4 rt5 R2'
  have D8 : Below W8.heap.size W8 W8.drew := (Below.refl _ _).drew
  have R9 := owns_below R8 D8
  have th8 : W8.drew.there g (i * 13) 13 := fun j hj => ⟨by rw [R9.cellAt (i * 13 + j) (by omega), List.getElem?_eq_getElem (by rw [hdCells_length, List.length_set]; omega)]; rfl, R9.frozenAt _⟩
  go_wp2
  refine wp_region_any (by kernel_rfl) ?_
  change wpAny _ _ _ _ _ _ _ (World.drew _)
  refine wpAny_take (i := 0) (v := .pointer (some ⟨g, i * 13, none⟩)) rfl (by kernel_rfl) (by kernel_rfl) (by kernel_rfl) (fun _ _ _ h => h) (Or.inl ⟨by rfl, fun W => by go_simp⟩) ?_
  refine wpAny_take (i := 1) (v := .pointer (some ⟨g, i * 13, none⟩)) rfl (by kernel_rfl) (by kernel_rfl) (by kernel_rfl) (fun _ _ _ h => h) (Or.inl ⟨by rfl, fun W => by go_simp⟩) ?_
  refine wpAny_take (i := 2) (v := .pointer (some ⟨g, i * 13, none⟩)) rfl (by kernel_rfl) (by kernel_rfl) (by kernel_rfl) (fun _ _ _ h => h) (Or.inl ⟨by rfl, fun W => by go_simp⟩) ?_
  refine wpAny_take (i := 3) (v := .pointer (some ⟨g, i * 13, none⟩)) rfl (by kernel_rfl) (by kernel_rfl) (by kernel_rfl) (fun _ _ _ h => h) (Or.inl ⟨by rfl, fun W => by go_simp⟩) ?_
  refine wpAny_take (i := 4) (v := .pointer (some ⟨g, i * 13 + 8, none⟩)) rfl (by kernel_rfl) (by kernel_rfl) (by kernel_rfl) (fun _ _ _ h => h) (Or.inl ⟨by rfl, fun W => by go_simp⟩) ?_
  refine wpAny_take (i := 6) (v := .pointer (some ⟨g, i * 13, none⟩)) rfl (by kernel_rfl) (by kernel_rfl) (by kernel_rfl) (fun _ _ _ h => h) (Or.inl ⟨by rfl, fun W => by go_simp⟩) ?_
  refine wpAny_take (i := 7) (v := .pointer (some ⟨g, i * 13, none⟩)) rfl (by kernel_rfl) (by kernel_rfl) (by kernel_rfl) (fun _ _ _ h => h) (Or.inl ⟨by rfl, fun W => by go_simp⟩) ?_
  refine wpAny_take (i := 8) (v := .pointer (some ⟨g, i * 13 + 7, none⟩)) rfl (by kernel_rfl) (by kernel_rfl) (by kernel_rfl) (fun _ _ _ h => h) (Or.inl ⟨by rfl, fun W => by go_simp⟩) ?_
  refine wpAny_ready (rs := [5, 9]) (by kernel_rfl) (by simp) ?_
  refine AllReady.cons rfl (fun K hK => ?_) ?_
  · go_simp
    refine hK _ _ ?_
    clear hK K
    refine wpAny_ready (rs := [9]) (by kernel_rfl) (by simp) ?_
    refine AllReady.cons rfl (fun K hK => ?_) ?_
    · go_simp
      refine hK _ _ ?_
      clear hK K
      refine wpAny_take (i := 10) (v := .pointer (some ⟨g, i * 13, none⟩)) rfl (by kernel_rfl) (by kernel_rfl) (by kernel_rfl) (fun _ _ _ h => h) (Or.inl ⟨by rfl, fun W => by go_simp⟩) ?_
      refine wpAny_take (i := 11) (v := .pointer (some ⟨g, i * 13 + 2, none⟩)) rfl (by kernel_rfl) (by kernel_rfl) (by kernel_rfl) (fun _ _ _ h => h) (Or.inl ⟨by rfl, fun W => by go_simp⟩) ?_
      refine wpAny_ready (rs := [12]) (by kernel_rfl) (by simp) ?_
      refine AllReady.cons rfl (fun K hK => ?_) ?_
      · go_simp
        refine hK _ _ ?_
        clear hK K
        refine wpAny_take (i := 13) (v := .pointer (some ⟨g, i * 13, none⟩)) rfl (by kernel_rfl) (by kernel_rfl) (by kernel_rfl) (fun _ _ _ h => h) (Or.inl ⟨by rfl, fun W => by go_simp⟩) ?_
        refine wpAny_take (i := 14) (v := .pointer (some ⟨g, i * 13 + 1, none⟩)) rfl (by kernel_rfl) (by kernel_rfl) (by kernel_rfl) (fun _ _ _ h => h) (Or.inl ⟨by rfl, fun W => by go_simp⟩) ?_
        refine wpAny_ready (rs := [15]) (by kernel_rfl) (by simp) ?_
        refine AllReady.cons rfl (fun K hK => ?_) ?_
        · go_simp
          refine hK _ _ ?_
          clear hK K
          refine wpAny_done (by kernel_rfl) ?_ _
          go_wp2_with fail
          refine (forget_any g i _ th8).mono ?_
          rintro e w3 ⟨rfl, hw3⟩
          have ru0 := hd_put_set (t := (⟨u.nm, u.sn, ⟨u.x.q, u.x.s, u.x.fr, u.x.b, u.x.a, u.p.b0, u.p.o, u.x.cap, u.x.l⟩, u.sn, ⟨u.x.q, u.x.s, u.x.fr, u.x.b, u.x.a, u.x.b0, u.x.o, u.x.cap, u.x.l⟩⟩ : Hd)) (t' := (⟨u.nm, u.sn, ⟨u.x.q, u.x.s, u.x.fr, u.x.b, u.x.a, u.p.b0, u.p.o, u.x.cap, u.x.l⟩, 0, ⟨u.x.q, u.x.s, u.x.fr, u.x.b, u.x.a, u.x.b0, u.x.o, u.x.cap, u.x.l⟩⟩ : Hd)) (j := 7) (u := .int .i64 0) R9 hil (by decide) rfl
          have ru1 := hd_put_set (t := (⟨u.nm, u.sn, ⟨u.x.q, u.x.s, u.x.fr, u.x.b, u.x.a, u.p.b0, u.p.o, u.x.cap, u.x.l⟩, 0, ⟨u.x.q, u.x.s, u.x.fr, u.x.b, u.x.a, u.x.b0, u.x.o, u.x.cap, u.x.l⟩⟩ : Hd)) (t' := (⟨u.nm, u.sn, ⟨u.x.q, u.x.s, u.x.fr, u.x.b, u.x.a, u.p.b0, u.p.o, u.x.cap, u.x.l⟩, 0, ⟨0, u.x.s, u.x.fr, u.x.b, u.x.a, u.x.b0, u.x.o, u.x.cap, u.x.l⟩⟩ : Hd)) (j := 8) (u := .int .i64 0) ru0 hil (by decide) rfl
          have ru2 := hd_put_set (t := (⟨u.nm, u.sn, ⟨u.x.q, u.x.s, u.x.fr, u.x.b, u.x.a, u.p.b0, u.p.o, u.x.cap, u.x.l⟩, 0, ⟨0, u.x.s, u.x.fr, u.x.b, u.x.a, u.x.b0, u.x.o, u.x.cap, u.x.l⟩⟩ : Hd)) (t' := (⟨u.nm, u.sn, ⟨u.x.q, u.x.s, u.x.fr, u.x.b, u.x.a, u.p.b0, u.p.o, u.x.cap, u.x.l⟩, 0, ⟨0, 0, u.x.fr, u.x.b, u.x.a, u.x.b0, u.x.o, u.x.cap, u.x.l⟩⟩ : Hd)) (j := 9) (u := .int .i64 0) ru1 hil (by decide) rfl
          have ru3 := hd_put_set (t := (⟨u.nm, u.sn, ⟨u.x.q, u.x.s, u.x.fr, u.x.b, u.x.a, u.p.b0, u.p.o, u.x.cap, u.x.l⟩, 0, ⟨0, 0, u.x.fr, u.x.b, u.x.a, u.x.b0, u.x.o, u.x.cap, u.x.l⟩⟩ : Hd)) (t' := (⟨u.nm, u.sn, ⟨u.x.q, u.x.s, u.x.fr, u.x.b, u.x.a, u.p.b0, u.p.o, u.x.cap, u.x.l⟩, 0, ⟨0, 0, u.x.fr, u.x.b, none, u.x.b0, u.x.o, 0, []⟩⟩ : Hd)) (j := 10) (u := .slice none 0 0) ru2 hil (by decide) rfl
          have ru4 := hd_put_set (t := (⟨u.nm, u.sn, ⟨u.x.q, u.x.s, u.x.fr, u.x.b, u.x.a, u.p.b0, u.p.o, u.x.cap, u.x.l⟩, 0, ⟨0, 0, u.x.fr, u.x.b, none, u.x.b0, u.x.o, 0, []⟩⟩ : Hd)) (t' := (⟨u.nm, u.sn, ⟨u.x.q, u.x.s, u.x.fr, u.x.b, u.x.a, u.p.b0, u.p.o, u.x.cap, u.x.l⟩, 0, ⟨0, 0, 0, u.x.b, none, u.x.b0, u.x.o, 0, []⟩⟩ : Hd)) (j := 11) (u := .int .i64 0) ru3 hil (by decide) rfl
          have ru5 := hd_put_set (t := (⟨u.nm, u.sn, ⟨u.x.q, u.x.s, u.x.fr, u.x.b, u.x.a, u.p.b0, u.p.o, u.x.cap, u.x.l⟩, 0, ⟨0, 0, 0, u.x.b, none, u.x.b0, u.x.o, 0, []⟩⟩ : Hd)) (t' := (⟨u.nm, u.sn, ⟨u.x.q, u.x.s, u.x.fr, u.x.b, u.x.a, u.p.b0, u.p.o, u.x.cap, u.x.l⟩, 0, ⟨0, 0, 0, 0, none, u.x.b0, u.x.o, 0, []⟩⟩ : Hd)) (j := 12) (u := .int .i64 0) ru4 hil (by decide) rfl
          have S3 := S8.trans ((Spared.below D8).trans (Spared.grown (S := (Value.slice (some ⟨g, 0, none⟩) us.length cap).ownBlock.toList) (grown_over2 (grown_over2 (grown_over2 (grown_over2 (grown_over2 (grown_set W8.drew ⟨g, i * 13 + 7, none⟩ (.int .i64 0)) (grown_set _ ⟨g, i * 13 + 8, none⟩ (.int .i64 0))) (grown_set _ ⟨g, i * 13 + 9, none⟩ (.int .i64 0))) (grown_set _ ⟨g, i * 13 + 10, none⟩ (.slice none 0 0))) (grown_set _ ⟨g, i * 13 + 11, none⟩ (.int .i64 0))) (grown_set _ ⟨g, i * 13 + 12, none⟩ (.int .i64 0))) (by simp [Value.ownBlock])))
          have h3 := h2.put (u' := (⟨u.nm, u.sn, ⟨u.x.q, u.x.s, u.x.fr, u.x.b, u.x.a, u.p.b0, u.p.o, u.x.cap, u.x.l⟩, 0, ⟨0, 0, 0, 0, none, u.x.b0, u.x.o, 0, []⟩⟩ : Hd)) hu S3 ru5 (fun _ hO => ⟨hO.x, World.ownsRow_nil _ _ _ _, fun k _ e => by simp [Value.ownBlock] at e⟩) (fun k hk => by simp only [Hd.blks, List.mem_append, Option.mem_toList] at hk ⊢; rcases hk with hk | hk; exact Or.inr hk; simp [Value.ownBlock] at hk)
          rw [← hw3] at h3
          clear hw3 S3
          have HR : Hid ((us.set i (⟨u.nm, u.sn, ⟨u.x.q, u.x.s, u.x.fr, u.x.b, u.x.a, u.p.b0, u.p.o, u.x.cap, u.x.l⟩, 0, ⟨0, 0, 0, 0, none, u.x.b0, u.x.o, 0, []⟩⟩ : Hd)).map Hd.key = (us.map Hd.key).set i (tookK u.key)) := key_set
          clear ru0 ru1 ru2 ru3 ru4 ru5
          go_wp2
          first | (go_ret; exact ⟨rfl, _, _, h3, HR.out⟩) | (refine bodyPost_end (v := .tuple #[]) (by simp [results, Try.results36, go_sem]) rfl ⟨rfl, _, _, h3, HR.out⟩)
        exact AllReady.nil
      exact AllReady.nil
    exact AllReady.nil
  refine AllReady.cons rfl (fun K hK => ?_) ?_
  · go_simp
    refine hK _ _ ?_
    clear hK K
    refine wpAny_ready (rs := [5]) (by kernel_rfl) (by simp) ?_
    refine AllReady.cons rfl (fun K hK => ?_) ?_
    · go_simp
      refine hK _ _ ?_
      clear hK K
      refine wpAny_take (i := 10) (v := .pointer (some ⟨g, i * 13, none⟩)) rfl (by kernel_rfl) (by kernel_rfl) (by kernel_rfl) (fun _ _ _ h => h) (Or.inl ⟨by rfl, fun W => by go_simp⟩) ?_
      refine wpAny_take (i := 11) (v := .pointer (some ⟨g, i * 13 + 2, none⟩)) rfl (by kernel_rfl) (by kernel_rfl) (by kernel_rfl) (fun _ _ _ h => h) (Or.inl ⟨by rfl, fun W => by go_simp⟩) ?_
      refine wpAny_ready (rs := [12]) (by kernel_rfl) (by simp) ?_
      refine AllReady.cons rfl (fun K hK => ?_) ?_
      · go_simp
        refine hK _ _ ?_
        clear hK K
        refine wpAny_take (i := 13) (v := .pointer (some ⟨g, i * 13, none⟩)) rfl (by kernel_rfl) (by kernel_rfl) (by kernel_rfl) (fun _ _ _ h => h) (Or.inl ⟨by rfl, fun W => by go_simp⟩) ?_
        refine wpAny_take (i := 14) (v := .pointer (some ⟨g, i * 13 + 1, none⟩)) rfl (by kernel_rfl) (by kernel_rfl) (by kernel_rfl) (fun _ _ _ h => h) (Or.inl ⟨by rfl, fun W => by go_simp⟩) ?_
        refine wpAny_ready (rs := [15]) (by kernel_rfl) (by simp) ?_
        refine AllReady.cons rfl (fun K hK => ?_) ?_
        · go_simp
          refine hK _ _ ?_
          clear hK K
          refine wpAny_done (by kernel_rfl) ?_ _
          go_wp2_with fail
          refine (forget_any g i _ th8).mono ?_
          rintro e w3 ⟨rfl, hw3⟩
          have ru0 := hd_put_set (t := (⟨u.nm, u.sn, ⟨u.x.q, u.x.s, u.x.fr, u.x.b, u.x.a, u.p.b0, u.p.o, u.x.cap, u.x.l⟩, u.sn, ⟨u.x.q, u.x.s, u.x.fr, u.x.b, u.x.a, u.x.b0, u.x.o, u.x.cap, u.x.l⟩⟩ : Hd)) (t' := (⟨u.nm, u.sn, ⟨u.x.q, u.x.s, u.x.fr, u.x.b, u.x.a, u.p.b0, u.p.o, u.x.cap, u.x.l⟩, 0, ⟨u.x.q, u.x.s, u.x.fr, u.x.b, u.x.a, u.x.b0, u.x.o, u.x.cap, u.x.l⟩⟩ : Hd)) (j := 7) (u := .int .i64 0) R9 hil (by decide) rfl
          have ru1 := hd_put_set (t := (⟨u.nm, u.sn, ⟨u.x.q, u.x.s, u.x.fr, u.x.b, u.x.a, u.p.b0, u.p.o, u.x.cap, u.x.l⟩, 0, ⟨u.x.q, u.x.s, u.x.fr, u.x.b, u.x.a, u.x.b0, u.x.o, u.x.cap, u.x.l⟩⟩ : Hd)) (t' := (⟨u.nm, u.sn, ⟨u.x.q, u.x.s, u.x.fr, u.x.b, u.x.a, u.p.b0, u.p.o, u.x.cap, u.x.l⟩, 0, ⟨0, u.x.s, u.x.fr, u.x.b, u.x.a, u.x.b0, u.x.o, u.x.cap, u.x.l⟩⟩ : Hd)) (j := 8) (u := .int .i64 0) ru0 hil (by decide) rfl
          have ru2 := hd_put_set (t := (⟨u.nm, u.sn, ⟨u.x.q, u.x.s, u.x.fr, u.x.b, u.x.a, u.p.b0, u.p.o, u.x.cap, u.x.l⟩, 0, ⟨0, u.x.s, u.x.fr, u.x.b, u.x.a, u.x.b0, u.x.o, u.x.cap, u.x.l⟩⟩ : Hd)) (t' := (⟨u.nm, u.sn, ⟨u.x.q, u.x.s, u.x.fr, u.x.b, u.x.a, u.p.b0, u.p.o, u.x.cap, u.x.l⟩, 0, ⟨0, 0, u.x.fr, u.x.b, u.x.a, u.x.b0, u.x.o, u.x.cap, u.x.l⟩⟩ : Hd)) (j := 9) (u := .int .i64 0) ru1 hil (by decide) rfl
          have ru3 := hd_put_set (t := (⟨u.nm, u.sn, ⟨u.x.q, u.x.s, u.x.fr, u.x.b, u.x.a, u.p.b0, u.p.o, u.x.cap, u.x.l⟩, 0, ⟨0, 0, u.x.fr, u.x.b, u.x.a, u.x.b0, u.x.o, u.x.cap, u.x.l⟩⟩ : Hd)) (t' := (⟨u.nm, u.sn, ⟨u.x.q, u.x.s, u.x.fr, u.x.b, u.x.a, u.p.b0, u.p.o, u.x.cap, u.x.l⟩, 0, ⟨0, 0, u.x.fr, u.x.b, none, u.x.b0, u.x.o, 0, []⟩⟩ : Hd)) (j := 10) (u := .slice none 0 0) ru2 hil (by decide) rfl
          have ru4 := hd_put_set (t := (⟨u.nm, u.sn, ⟨u.x.q, u.x.s, u.x.fr, u.x.b, u.x.a, u.p.b0, u.p.o, u.x.cap, u.x.l⟩, 0, ⟨0, 0, u.x.fr, u.x.b, none, u.x.b0, u.x.o, 0, []⟩⟩ : Hd)) (t' := (⟨u.nm, u.sn, ⟨u.x.q, u.x.s, u.x.fr, u.x.b, u.x.a, u.p.b0, u.p.o, u.x.cap, u.x.l⟩, 0, ⟨0, 0, 0, u.x.b, none, u.x.b0, u.x.o, 0, []⟩⟩ : Hd)) (j := 11) (u := .int .i64 0) ru3 hil (by decide) rfl
          have ru5 := hd_put_set (t := (⟨u.nm, u.sn, ⟨u.x.q, u.x.s, u.x.fr, u.x.b, u.x.a, u.p.b0, u.p.o, u.x.cap, u.x.l⟩, 0, ⟨0, 0, 0, u.x.b, none, u.x.b0, u.x.o, 0, []⟩⟩ : Hd)) (t' := (⟨u.nm, u.sn, ⟨u.x.q, u.x.s, u.x.fr, u.x.b, u.x.a, u.p.b0, u.p.o, u.x.cap, u.x.l⟩, 0, ⟨0, 0, 0, 0, none, u.x.b0, u.x.o, 0, []⟩⟩ : Hd)) (j := 12) (u := .int .i64 0) ru4 hil (by decide) rfl
          have S3 := S8.trans ((Spared.below D8).trans (Spared.grown (S := (Value.slice (some ⟨g, 0, none⟩) us.length cap).ownBlock.toList) (grown_over2 (grown_over2 (grown_over2 (grown_over2 (grown_over2 (grown_set W8.drew ⟨g, i * 13 + 7, none⟩ (.int .i64 0)) (grown_set _ ⟨g, i * 13 + 8, none⟩ (.int .i64 0))) (grown_set _ ⟨g, i * 13 + 9, none⟩ (.int .i64 0))) (grown_set _ ⟨g, i * 13 + 10, none⟩ (.slice none 0 0))) (grown_set _ ⟨g, i * 13 + 11, none⟩ (.int .i64 0))) (grown_set _ ⟨g, i * 13 + 12, none⟩ (.int .i64 0))) (by simp [Value.ownBlock])))
          have h3 := h2.put (u' := (⟨u.nm, u.sn, ⟨u.x.q, u.x.s, u.x.fr, u.x.b, u.x.a, u.p.b0, u.p.o, u.x.cap, u.x.l⟩, 0, ⟨0, 0, 0, 0, none, u.x.b0, u.x.o, 0, []⟩⟩ : Hd)) hu S3 ru5 (fun _ hO => ⟨hO.x, World.ownsRow_nil _ _ _ _, fun k _ e => by simp [Value.ownBlock] at e⟩) (fun k hk => by simp only [Hd.blks, List.mem_append, Option.mem_toList] at hk ⊢; rcases hk with hk | hk; exact Or.inr hk; simp [Value.ownBlock] at hk)
          rw [← hw3] at h3
          clear hw3 S3
          have HR : Hid ((us.set i (⟨u.nm, u.sn, ⟨u.x.q, u.x.s, u.x.fr, u.x.b, u.x.a, u.p.b0, u.p.o, u.x.cap, u.x.l⟩, 0, ⟨0, 0, 0, 0, none, u.x.b0, u.x.o, 0, []⟩⟩ : Hd)).map Hd.key = (us.map Hd.key).set i (tookK u.key)) := key_set
          clear ru0 ru1 ru2 ru3 ru4 ru5
          go_wp2
          first | (go_ret; exact ⟨rfl, _, _, h3, HR.out⟩) | (refine bodyPost_end (v := .tuple #[]) (by simp [results, Try.results36, go_sem]) rfl ⟨rfl, _, _, h3, HR.out⟩)
        exact AllReady.nil
      exact AllReady.nil
    exact AllReady.nil
  exact AllReady.nil
set_option maxRecDepth 20000 in
set_option maxHeartbeats 4000000 in
theorem hear_took0_3 (t : Wd) (w W : World) (K base i g cap : Nat) (la : Int) (us : List Hd) (u : Hd) (_hl : us.length ≤ 1048576) (h : HrW w W K base la (.slice (some ⟨g, 0, none⟩) us.length cap) us) (hu : us[i]? = some u) (hk : t.k = 3) (hs : sentB u.key t.n = false) :
    Calls Try.prog 36 #[.pointer (some ⟨K, 0, none⟩), .int .i64 i, t.val] W fun e w' => e = .returned (.tuple #[]) ∧ ∃ (v' : Value) (us' : List Hd), HrW w w' K base la v' us' ∧ us'.map Hd.key = us.map Hd.key := by
  have HK : Hid (t.k = 3) := hk
  clear hk
  have HS : Hid (sentB u.key t.n = false) := hs
  clear hs
  have hil : i < us.length := (List.getElem?_eq_some_iff.1 hu).1
  have i0 : (0 : Int) ≤ (i : Int) := by omega
  have i1 : (i : Int) < (us.length : Int) := by omega
  have h0 := h.keep (bel1 (.cells #[.int .i64 t.k, .string t.nm, .int .i64 t.n, .int .i64 t.p.q, .int .i64 t.p.s, .slice t.p.a t.p.l.length t.p.cap, .int .i64 t.p.fr, .int .i64 t.p.b] 32))
  have T0 := Bx.new W #[.int .i64 t.k, .string t.nm, .int .i64 t.n, .int .i64 t.p.q, .int .i64 t.p.s, .slice t.p.a t.p.l.length t.p.cap, .int .i64 t.p.fr, .int .i64 t.p.b] 32
  have x0 : (W.alloc (.cells #[.int .i64 t.k, .string t.nm, .int .i64 t.n, .int .i64 t.p.q, .int .i64 t.p.s, .slice t.p.a t.p.l.length t.p.cap, .int .i64 t.p.fr, .int .i64 t.p.b] 32)).cell? ⟨K, 1, none⟩ = some (.slice (some ⟨g, 0, none⟩) us.length cap) := h0.bk.c 1
  go_enter Try.func36, Try.ntmps36
  go_wp2_with fail
  refine (said_3 t _ HK.out).mono ?_
  rintro e w1 ⟨rfl, hb1⟩
  have h1 := h0.keep hb1
  have T1 := T0.keep hb1
  have R1 := h1.own.row
  have x1 : w1.cell? ⟨K, 1, none⟩ = some (.slice (some ⟨g, 0, none⟩) us.length cap) := h1.bk.c 1
  have t2 : w1.cell? ⟨W.heap.size, 2, none⟩ = some (.int .i64 t.n) := T1.c 2
  have c0 : w1.cell? ⟨g, i * 13, none⟩ = some (.string u.nm) := (R1.cellAt (i * 13) (by omega)).trans (hdCells_at _ i u 0 hu (by decide))
  have c1 : w1.cell? ⟨g, i * 13 + 1, none⟩ = some (.int .i64 u.n) := (R1.cellAt (i * 13 + 1) (by omega)).trans (hdCells_at _ i u 1 hu (by decide))
  have c2 : w1.cell? ⟨g, i * 13 + 2, none⟩ = some (.int .i64 u.p.q) := (R1.cellAt (i * 13 + 2) (by omega)).trans (hdCells_at _ i u 2 hu (by decide))
  have c3 : w1.cell? ⟨g, i * 13 + 3, none⟩ = some (.int .i64 u.p.s) := (R1.cellAt (i * 13 + 3) (by omega)).trans (hdCells_at _ i u 3 hu (by decide))
  have c4 : w1.cell? ⟨g, i * 13 + 4, none⟩ = some (.slice u.p.a u.p.l.length u.p.cap) := (R1.cellAt (i * 13 + 4) (by omega)).trans (hdCells_at _ i u 4 hu (by decide))
  have c5 : w1.cell? ⟨g, i * 13 + 5, none⟩ = some (.int .i64 u.p.fr) := (R1.cellAt (i * 13 + 5) (by omega)).trans (hdCells_at _ i u 5 hu (by decide))
  have c6 : w1.cell? ⟨g, i * 13 + 6, none⟩ = some (.int .i64 u.p.b) := (R1.cellAt (i * 13 + 6) (by omega)).trans (hdCells_at _ i u 6 hu (by decide))
  have c7 : w1.cell? ⟨g, i * 13 + 7, none⟩ = some (.int .i64 u.sn) := (R1.cellAt (i * 13 + 7) (by omega)).trans (hdCells_at _ i u 7 hu (by decide))
  have c8 : w1.cell? ⟨g, i * 13 + 8, none⟩ = some (.int .i64 u.x.q) := (R1.cellAt (i * 13 + 8) (by omega)).trans (hdCells_at _ i u 8 hu (by decide))
  have c9 : w1.cell? ⟨g, i * 13 + 9, none⟩ = some (.int .i64 u.x.s) := (R1.cellAt (i * 13 + 9) (by omega)).trans (hdCells_at _ i u 9 hu (by decide))
  have c10 : w1.cell? ⟨g, i * 13 + 10, none⟩ = some (.slice u.x.a u.x.l.length u.x.cap) := (R1.cellAt (i * 13 + 10) (by omega)).trans (hdCells_at _ i u 10 hu (by decide))
  have c11 : w1.cell? ⟨g, i * 13 + 11, none⟩ = some (.int .i64 u.x.fr) := (R1.cellAt (i * 13 + 11) (by omega)).trans (hdCells_at _ i u 11 hu (by decide))
  have c12 : w1.cell? ⟨g, i * 13 + 12, none⟩ = some (.int .i64 u.x.b) := (R1.cellAt (i * 13 + 12) (by omega)).trans (hdCells_at _ i u 12 hu (by decide))
  have a36 := as_3_6
  have a33 := as_3_3
  have a35 := as_3_5
  have a34 := as_3_4
  clear h0 T0 x0 hb1
  have qn := Cls.any w1
  have qg := Cls.cell (show g < w1.heap.size from (R1.lt g rfl).2)
  have qt := Cls.cell T1.lt
  have WS := fun W' => wasSent_any u t.n false W' HS.out
  go_wp2
  refine wp_region_cls (by kernel_rfl) (by kernel_rfl) ?_
  repeat (go_big_quiet_step ((go_at_call 54; exact Calls.cls_of (WS _))))
  refine wpQuiet_nil ?_
  rintro _ ⟨uu, rfl⟩
  have h2 := h1.keep uu.same
  obtain ⟨w2, _⟩ := uu
  simp only at h2 ⊢
  clear qn qg qt WS a36 a33 a35 a34 c0 c1 c2 c3 c4 c5 c6 c7 c8 c9 c10 c11 c12 x1 t2 R1 h1 T1
  go_wp2
  first | (go_ret; exact ⟨rfl, _, us, h2, rfl⟩) | (refine bodyPost_end (v := .tuple #[]) (by simp [results, Try.results36, go_sem]) rfl ⟨rfl, _, us, h2, rfl⟩)
set_option maxRecDepth 20000 in
set_option maxHeartbeats 4000000 in
theorem hear_took1_5 (t : Wd) (w W : World) (K base i g cap : Nat) (la : Int) (us : List Hd) (u : Hd) (_hl : us.length ≤ 1048576) (h : HrW w W K base la (.slice (some ⟨g, 0, none⟩) us.length cap) us) (hu : us[i]? = some u) (hk : t.k = 5) (hs : sentB u.key t.n = true) :
    Calls Try.prog 36 #[.pointer (some ⟨K, 0, none⟩), .int .i64 i, t.val] W fun e w' => e = .returned (.tuple #[]) ∧ ∃ (v' : Value) (us' : List Hd), HrW w w' K base la v' us' ∧ us'.map Hd.key = (us.map Hd.key).set i (tookK u.key) := by
  have HK : Hid (t.k = 5) := hk
  clear hk
  have HS : Hid (sentB u.key t.n = true) := hs
  clear hs
  have hil : i < us.length := (List.getElem?_eq_some_iff.1 hu).1
  have i0 : (0 : Int) ≤ (i : Int) := by omega
  have i1 : (i : Int) < (us.length : Int) := by omega
  have h0 := h.keep (bel1 (.cells #[.int .i64 t.k, .string t.nm, .int .i64 t.n, .int .i64 t.p.q, .int .i64 t.p.s, .slice t.p.a t.p.l.length t.p.cap, .int .i64 t.p.fr, .int .i64 t.p.b] 32))
  have T0 := Bx.new W #[.int .i64 t.k, .string t.nm, .int .i64 t.n, .int .i64 t.p.q, .int .i64 t.p.s, .slice t.p.a t.p.l.length t.p.cap, .int .i64 t.p.fr, .int .i64 t.p.b] 32
  have x0 : (W.alloc (.cells #[.int .i64 t.k, .string t.nm, .int .i64 t.n, .int .i64 t.p.q, .int .i64 t.p.s, .slice t.p.a t.p.l.length t.p.cap, .int .i64 t.p.fr, .int .i64 t.p.b] 32)).cell? ⟨K, 1, none⟩ = some (.slice (some ⟨g, 0, none⟩) us.length cap) := h0.bk.c 1
  go_enter Try.func36, Try.ntmps36
  go_wp2_with fail
  refine (said_5 t _ HK.out).mono ?_
  rintro e w1 ⟨rfl, hb1⟩
  have h1 := h0.keep hb1
  have T1 := T0.keep hb1
  have R1 := h1.own.row
  have x1 : w1.cell? ⟨K, 1, none⟩ = some (.slice (some ⟨g, 0, none⟩) us.length cap) := h1.bk.c 1
  have t2 : w1.cell? ⟨W.heap.size, 2, none⟩ = some (.int .i64 t.n) := T1.c 2
  have c0 : w1.cell? ⟨g, i * 13, none⟩ = some (.string u.nm) := (R1.cellAt (i * 13) (by omega)).trans (hdCells_at _ i u 0 hu (by decide))
  have c1 : w1.cell? ⟨g, i * 13 + 1, none⟩ = some (.int .i64 u.n) := (R1.cellAt (i * 13 + 1) (by omega)).trans (hdCells_at _ i u 1 hu (by decide))
  have c2 : w1.cell? ⟨g, i * 13 + 2, none⟩ = some (.int .i64 u.p.q) := (R1.cellAt (i * 13 + 2) (by omega)).trans (hdCells_at _ i u 2 hu (by decide))
  have c3 : w1.cell? ⟨g, i * 13 + 3, none⟩ = some (.int .i64 u.p.s) := (R1.cellAt (i * 13 + 3) (by omega)).trans (hdCells_at _ i u 3 hu (by decide))
  have c4 : w1.cell? ⟨g, i * 13 + 4, none⟩ = some (.slice u.p.a u.p.l.length u.p.cap) := (R1.cellAt (i * 13 + 4) (by omega)).trans (hdCells_at _ i u 4 hu (by decide))
  have c5 : w1.cell? ⟨g, i * 13 + 5, none⟩ = some (.int .i64 u.p.fr) := (R1.cellAt (i * 13 + 5) (by omega)).trans (hdCells_at _ i u 5 hu (by decide))
  have c6 : w1.cell? ⟨g, i * 13 + 6, none⟩ = some (.int .i64 u.p.b) := (R1.cellAt (i * 13 + 6) (by omega)).trans (hdCells_at _ i u 6 hu (by decide))
  have c7 : w1.cell? ⟨g, i * 13 + 7, none⟩ = some (.int .i64 u.sn) := (R1.cellAt (i * 13 + 7) (by omega)).trans (hdCells_at _ i u 7 hu (by decide))
  have c8 : w1.cell? ⟨g, i * 13 + 8, none⟩ = some (.int .i64 u.x.q) := (R1.cellAt (i * 13 + 8) (by omega)).trans (hdCells_at _ i u 8 hu (by decide))
  have c9 : w1.cell? ⟨g, i * 13 + 9, none⟩ = some (.int .i64 u.x.s) := (R1.cellAt (i * 13 + 9) (by omega)).trans (hdCells_at _ i u 9 hu (by decide))
  have c10 : w1.cell? ⟨g, i * 13 + 10, none⟩ = some (.slice u.x.a u.x.l.length u.x.cap) := (R1.cellAt (i * 13 + 10) (by omega)).trans (hdCells_at _ i u 10 hu (by decide))
  have c11 : w1.cell? ⟨g, i * 13 + 11, none⟩ = some (.int .i64 u.x.fr) := (R1.cellAt (i * 13 + 11) (by omega)).trans (hdCells_at _ i u 11 hu (by decide))
  have c12 : w1.cell? ⟨g, i * 13 + 12, none⟩ = some (.int .i64 u.x.b) := (R1.cellAt (i * 13 + 12) (by omega)).trans (hdCells_at _ i u 12 hu (by decide))
  have a56 := as_5_6
  have a53 := as_5_3
  have a55 := as_5_5
  have a54 := as_5_4
  clear h0 T0 x0 hb1
  have qn := Cls.any w1
  have qg := Cls.cell (show g < w1.heap.size from (R1.lt g rfl).2)
  have qt := Cls.cell T1.lt
  have WS := fun W' => wasSent_any u t.n true W' HS.out
  go_wp2
  refine wp_region_cls (by kernel_rfl) (by kernel_rfl) ?_
  repeat (go_big_quiet_step ((go_at_call 54; exact Calls.cls_of (WS _))))
  refine wpQuiet_nil ?_
  rintro _ ⟨uu, rfl⟩
  have h2 := h1.keep uu.same
  obtain ⟨w2, _⟩ := uu
  simp only at h2 ⊢
  clear qn qg qt WS a56 a53 a55 a54 c0 c1 c2 c3 c4 c5 c6 c7 c8 c9 c10 c11 c12 x1 t2 R1 h1 T1
  have R2' := h2.own.row
  have rt0 := hd_put R2' hu (j := 2) (t' := (⟨u.nm, u.n, ⟨u.x.q, u.p.s, u.p.fr, u.p.b, u.p.a, u.p.b0, u.p.o, u.p.cap, u.p.l⟩, u.sn, ⟨u.x.q, u.x.s, u.x.fr, u.x.b, u.x.a, u.x.b0, u.x.o, u.x.cap, u.x.l⟩⟩ : Hd)) (u := .int .i64 u.x.q) (by decide) rfl
  have rt1 := hd_put_set (t := (⟨u.nm, u.n, ⟨u.x.q, u.p.s, u.p.fr, u.p.b, u.p.a, u.p.b0, u.p.o, u.p.cap, u.p.l⟩, u.sn, ⟨u.x.q, u.x.s, u.x.fr, u.x.b, u.x.a, u.x.b0, u.x.o, u.x.cap, u.x.l⟩⟩ : Hd)) (t' := (⟨u.nm, u.n, ⟨u.x.q, u.x.s, u.p.fr, u.p.b, u.p.a, u.p.b0, u.p.o, u.p.cap, u.p.l⟩, u.sn, ⟨u.x.q, u.x.s, u.x.fr, u.x.b, u.x.a, u.x.b0, u.x.o, u.x.cap, u.x.l⟩⟩ : Hd)) (j := 3) (u := .int .i64 u.x.s) rt0 hil (by decide) rfl
  have rt2 := hd_put_set (t := (⟨u.nm, u.n, ⟨u.x.q, u.x.s, u.p.fr, u.p.b, u.p.a, u.p.b0, u.p.o, u.p.cap, u.p.l⟩, u.sn, ⟨u.x.q, u.x.s, u.x.fr, u.x.b, u.x.a, u.x.b0, u.x.o, u.x.cap, u.x.l⟩⟩ : Hd)) (t' := (⟨u.nm, u.n, ⟨u.x.q, u.x.s, u.p.fr, u.p.b, u.x.a, u.p.b0, u.p.o, u.x.cap, u.x.l⟩, u.sn, ⟨u.x.q, u.x.s, u.x.fr, u.x.b, u.x.a, u.x.b0, u.x.o, u.x.cap, u.x.l⟩⟩ : Hd)) (j := 4) (u := .slice u.x.a u.x.l.length u.x.cap) rt1 hil (by decide) rfl
  have rt3 := hd_put_set (t := (⟨u.nm, u.n, ⟨u.x.q, u.x.s, u.p.fr, u.p.b, u.x.a, u.p.b0, u.p.o, u.x.cap, u.x.l⟩, u.sn, ⟨u.x.q, u.x.s, u.x.fr, u.x.b, u.x.a, u.x.b0, u.x.o, u.x.cap, u.x.l⟩⟩ : Hd)) (t' := (⟨u.nm, u.n, ⟨u.x.q, u.x.s, u.x.fr, u.p.b, u.x.a, u.p.b0, u.p.o, u.x.cap, u.x.l⟩, u.sn, ⟨u.x.q, u.x.s, u.x.fr, u.x.b, u.x.a, u.x.b0, u.x.o, u.x.cap, u.x.l⟩⟩ : Hd)) (j := 5) (u := .int .i64 u.x.fr) rt2 hil (by decide) rfl
  have rt4 := hd_put_set (t := (⟨u.nm, u.n, ⟨u.x.q, u.x.s, u.x.fr, u.p.b, u.x.a, u.p.b0, u.p.o, u.x.cap, u.x.l⟩, u.sn, ⟨u.x.q, u.x.s, u.x.fr, u.x.b, u.x.a, u.x.b0, u.x.o, u.x.cap, u.x.l⟩⟩ : Hd)) (t' := (⟨u.nm, u.n, ⟨u.x.q, u.x.s, u.x.fr, u.x.b, u.x.a, u.p.b0, u.p.o, u.x.cap, u.x.l⟩, u.sn, ⟨u.x.q, u.x.s, u.x.fr, u.x.b, u.x.a, u.x.b0, u.x.o, u.x.cap, u.x.l⟩⟩ : Hd)) (j := 6) (u := .int .i64 u.x.b) rt3 hil (by decide) rfl
  have rt5 := hd_put_set (t := (⟨u.nm, u.n, ⟨u.x.q, u.x.s, u.x.fr, u.x.b, u.x.a, u.p.b0, u.p.o, u.x.cap, u.x.l⟩, u.sn, ⟨u.x.q, u.x.s, u.x.fr, u.x.b, u.x.a, u.x.b0, u.x.o, u.x.cap, u.x.l⟩⟩ : Hd)) (t' := (⟨u.nm, u.sn, ⟨u.x.q, u.x.s, u.x.fr, u.x.b, u.x.a, u.p.b0, u.p.o, u.x.cap, u.x.l⟩, u.sn, ⟨u.x.q, u.x.s, u.x.fr, u.x.b, u.x.a, u.x.b0, u.x.o, u.x.cap, u.x.l⟩⟩ : Hd)) (j := 1) (u := .int .i64 u.sn) rt4 hil (by decide) rfl
  have c0 : w2.cell? ⟨g, i * 13, none⟩ = some (.string u.nm) := (R2'.cellAt (i * 13) (by omega)).trans (hdCells_at _ i u 0 hu (by decide))
  have c1 : w2.cell? ⟨g, i * 13 + 1, none⟩ = some (.int .i64 u.n) := (R2'.cellAt (i * 13 + 1) (by omega)).trans (hdCells_at _ i u 1 hu (by decide))
  have c2 : w2.cell? ⟨g, i * 13 + 2, none⟩ = some (.int .i64 u.p.q) := (R2'.cellAt (i * 13 + 2) (by omega)).trans (hdCells_at _ i u 2 hu (by decide))
  have c3 : w2.cell? ⟨g, i * 13 + 3, none⟩ = some (.int .i64 u.p.s) := (R2'.cellAt (i * 13 + 3) (by omega)).trans (hdCells_at _ i u 3 hu (by decide))
  have c4 : w2.cell? ⟨g, i * 13 + 4, none⟩ = some (.slice u.p.a u.p.l.length u.p.cap) := (R2'.cellAt (i * 13 + 4) (by omega)).trans (hdCells_at _ i u 4 hu (by decide))
  have c5 : w2.cell? ⟨g, i * 13 + 5, none⟩ = some (.int .i64 u.p.fr) := (R2'.cellAt (i * 13 + 5) (by omega)).trans (hdCells_at _ i u 5 hu (by decide))
  have c6 : w2.cell? ⟨g, i * 13 + 6, none⟩ = some (.int .i64 u.p.b) := (R2'.cellAt (i * 13 + 6) (by omega)).trans (hdCells_at _ i u 6 hu (by decide))
  have c7 : w2.cell? ⟨g, i * 13 + 7, none⟩ = some (.int .i64 u.sn) := (R2'.cellAt (i * 13 + 7) (by omega)).trans (hdCells_at _ i u 7 hu (by decide))
  have c8 : w2.cell? ⟨g, i * 13 + 8, none⟩ = some (.int .i64 u.x.q) := (R2'.cellAt (i * 13 + 8) (by omega)).trans (hdCells_at _ i u 8 hu (by decide))
  have c9 : w2.cell? ⟨g, i * 13 + 9, none⟩ = some (.int .i64 u.x.s) := (R2'.cellAt (i * 13 + 9) (by omega)).trans (hdCells_at _ i u 9 hu (by decide))
  have c10 : w2.cell? ⟨g, i * 13 + 10, none⟩ = some (.slice u.x.a u.x.l.length u.x.cap) := (R2'.cellAt (i * 13 + 10) (by omega)).trans (hdCells_at _ i u 10 hu (by decide))
  have c11 : w2.cell? ⟨g, i * 13 + 11, none⟩ = some (.int .i64 u.x.fr) := (R2'.cellAt (i * 13 + 11) (by omega)).trans (hdCells_at _ i u 11 hu (by decide))
  have c12 : w2.cell? ⟨g, i * 13 + 12, none⟩ = some (.int .i64 u.x.b) := (R2'.cellAt (i * 13 + 12) (by omega)).trans (hdCells_at _ i u 12 hu (by decide))
  have cf := R2'.frozenAt
  obtain ⟨W8, hW8⟩ : ∃ W8, ((((((w2.setCell ⟨g, i * 13 + 2, none⟩ (.int .i64 u.x.q)).setCell ⟨g, i * 13 + 2 + 1, none⟩ (.int .i64 u.x.s)).setCell ⟨g, i * 13 + 2 + 2, none⟩ (.slice u.x.a u.x.l.length u.x.cap)).setCell ⟨g, i * 13 + 2 + 3, none⟩ (.int .i64 u.x.fr)).setCell ⟨g, i * 13 + 2 + 4, none⟩ (.int .i64 u.x.b)).setCell ⟨g, i * 13 + 1, none⟩ (.int .i64 u.sn)) = W8 := ⟨_, rfl⟩
  have R8 : W8.ownsRow base 58 13 (.slice (some ⟨g, 0, none⟩) us.length cap) us.length (hdCells (us.set i (⟨u.nm, u.sn, ⟨u.x.q, u.x.s, u.x.fr, u.x.b, u.x.a, u.p.b0, u.p.o, u.x.cap, u.x.l⟩, u.sn, ⟨u.x.q, u.x.s, u.x.fr, u.x.b, u.x.a, u.x.b0, u.x.o, u.x.cap, u.x.l⟩⟩ : Hd))) := by rw [← hW8]; exact rt5
  have S8 : Spared (Value.slice (some ⟨g, 0, none⟩) us.length cap).ownBlock.toList w2 W8 := by rw [← hW8]; exact Spared.grown (grown_over2 (grown_over2 (grown_over2 (grown_over2 (grown_over2 (grown_set w2 ⟨g, i * 13 + 2, none⟩ (.int .i64 u.x.q)) (grown_set _ ⟨g, i * 13 + 3, none⟩ (.int .i64 u.x.s))) (grown_set _ ⟨g, i * 13 + 4, none⟩ (.slice u.x.a u.x.l.length u.x.cap))) (grown_set _ ⟨g, i * 13 + 5, none⟩ (.int .i64 u.x.fr))) (grown_set _ ⟨g, i * 13 + 6, none⟩ (.int .i64 u.x.b))) (grown_set _ ⟨g, i * 13 + 1, none⟩ (.int .i64 u.sn))) (by simp [Value.ownBlock])
  clear rt0 rt1 rt2 rt3 rt4 rt5 R2'
  have D8 : Below W8.heap.size W8 W8.drew := (Below.refl _ _).drew
  have R9 := owns_below R8 D8
  have th8 : W8.drew.there g (i * 13) 13 := fun j hj => ⟨by rw [R9.cellAt (i * 13 + j) (by omega), List.getElem?_eq_getElem (by rw [hdCells_length, List.length_set]; omega)]; rfl, R9.frozenAt _⟩
  go_wp2
  refine wp_region_any (by kernel_rfl) ?_
  change wpAny _ _ _ _ _ _ _ (World.drew _)
  refine wpAny_take (i := 0) (v := .pointer (some ⟨g, i * 13, none⟩)) rfl (by kernel_rfl) (by kernel_rfl) (by kernel_rfl) (fun _ _ _ h => h) (Or.inl ⟨by rfl, fun W => by go_simp⟩) ?_
  refine wpAny_take (i := 1) (v := .pointer (some ⟨g, i * 13, none⟩)) rfl (by kernel_rfl) (by kernel_rfl) (by kernel_rfl) (fun _ _ _ h => h) (Or.inl ⟨by rfl, fun W => by go_simp⟩) ?_
  refine wpAny_take (i := 2) (v := .pointer (some ⟨g, i * 13, none⟩)) rfl (by kernel_rfl) (by kernel_rfl) (by kernel_rfl) (fun _ _ _ h => h) (Or.inl ⟨by rfl, fun W => by go_simp⟩) ?_
  refine wpAny_take (i := 3) (v := .pointer (some ⟨g, i * 13, none⟩)) rfl (by kernel_rfl) (by kernel_rfl) (by kernel_rfl) (fun _ _ _ h => h) (Or.inl ⟨by rfl, fun W => by go_simp⟩) ?_
  refine wpAny_take (i := 4) (v := .pointer (some ⟨g, i * 13 + 8, none⟩)) rfl (by kernel_rfl) (by kernel_rfl) (by kernel_rfl) (fun _ _ _ h => h) (Or.inl ⟨by rfl, fun W => by go_simp⟩) ?_
  refine wpAny_take (i := 6) (v := .pointer (some ⟨g, i * 13, none⟩)) rfl (by kernel_rfl) (by kernel_rfl) (by kernel_rfl) (fun _ _ _ h => h) (Or.inl ⟨by rfl, fun W => by go_simp⟩) ?_
  refine wpAny_take (i := 7) (v := .pointer (some ⟨g, i * 13, none⟩)) rfl (by kernel_rfl) (by kernel_rfl) (by kernel_rfl) (fun _ _ _ h => h) (Or.inl ⟨by rfl, fun W => by go_simp⟩) ?_
  refine wpAny_take (i := 8) (v := .pointer (some ⟨g, i * 13 + 7, none⟩)) rfl (by kernel_rfl) (by kernel_rfl) (by kernel_rfl) (fun _ _ _ h => h) (Or.inl ⟨by rfl, fun W => by go_simp⟩) ?_
  refine wpAny_ready (rs := [5, 9]) (by kernel_rfl) (by simp) ?_
  refine AllReady.cons rfl (fun K hK => ?_) ?_
  · go_simp
    refine hK _ _ ?_
    clear hK K
    refine wpAny_ready (rs := [9]) (by kernel_rfl) (by simp) ?_
    refine AllReady.cons rfl (fun K hK => ?_) ?_
    · go_simp
      refine hK _ _ ?_
      clear hK K
      refine wpAny_take (i := 10) (v := .pointer (some ⟨g, i * 13, none⟩)) rfl (by kernel_rfl) (by kernel_rfl) (by kernel_rfl) (fun _ _ _ h => h) (Or.inl ⟨by rfl, fun W => by go_simp⟩) ?_
      refine wpAny_take (i := 11) (v := .pointer (some ⟨g, i * 13 + 2, none⟩)) rfl (by kernel_rfl) (by kernel_rfl) (by kernel_rfl) (fun _ _ _ h => h) (Or.inl ⟨by rfl, fun W => by go_simp⟩) ?_
      refine wpAny_ready (rs := [12]) (by kernel_rfl) (by simp) ?_
      refine AllReady.cons rfl (fun K hK => ?_) ?_
      · go_simp
        refine hK _ _ ?_
        clear hK K
        refine wpAny_take (i := 13) (v := .pointer (some ⟨g, i * 13, none⟩)) rfl (by kernel_rfl) (by kernel_rfl) (by kernel_rfl) (fun _ _ _ h => h) (Or.inl ⟨by rfl, fun W => by go_simp⟩) ?_
        refine wpAny_take (i := 14) (v := .pointer (some ⟨g, i * 13 + 1, none⟩)) rfl (by kernel_rfl) (by kernel_rfl) (by kernel_rfl) (fun _ _ _ h => h) (Or.inl ⟨by rfl, fun W => by go_simp⟩) ?_
        refine wpAny_ready (rs := [15]) (by kernel_rfl) (by simp) ?_
        refine AllReady.cons rfl (fun K hK => ?_) ?_
        · go_simp
          refine hK _ _ ?_
          clear hK K
          refine wpAny_done (by kernel_rfl) ?_ _
          go_wp2_with fail
          refine (forget_any g i _ th8).mono ?_
          rintro e w3 ⟨rfl, hw3⟩
          have ru0 := hd_put_set (t := (⟨u.nm, u.sn, ⟨u.x.q, u.x.s, u.x.fr, u.x.b, u.x.a, u.p.b0, u.p.o, u.x.cap, u.x.l⟩, u.sn, ⟨u.x.q, u.x.s, u.x.fr, u.x.b, u.x.a, u.x.b0, u.x.o, u.x.cap, u.x.l⟩⟩ : Hd)) (t' := (⟨u.nm, u.sn, ⟨u.x.q, u.x.s, u.x.fr, u.x.b, u.x.a, u.p.b0, u.p.o, u.x.cap, u.x.l⟩, 0, ⟨u.x.q, u.x.s, u.x.fr, u.x.b, u.x.a, u.x.b0, u.x.o, u.x.cap, u.x.l⟩⟩ : Hd)) (j := 7) (u := .int .i64 0) R9 hil (by decide) rfl
          have ru1 := hd_put_set (t := (⟨u.nm, u.sn, ⟨u.x.q, u.x.s, u.x.fr, u.x.b, u.x.a, u.p.b0, u.p.o, u.x.cap, u.x.l⟩, 0, ⟨u.x.q, u.x.s, u.x.fr, u.x.b, u.x.a, u.x.b0, u.x.o, u.x.cap, u.x.l⟩⟩ : Hd)) (t' := (⟨u.nm, u.sn, ⟨u.x.q, u.x.s, u.x.fr, u.x.b, u.x.a, u.p.b0, u.p.o, u.x.cap, u.x.l⟩, 0, ⟨0, u.x.s, u.x.fr, u.x.b, u.x.a, u.x.b0, u.x.o, u.x.cap, u.x.l⟩⟩ : Hd)) (j := 8) (u := .int .i64 0) ru0 hil (by decide) rfl
          have ru2 := hd_put_set (t := (⟨u.nm, u.sn, ⟨u.x.q, u.x.s, u.x.fr, u.x.b, u.x.a, u.p.b0, u.p.o, u.x.cap, u.x.l⟩, 0, ⟨0, u.x.s, u.x.fr, u.x.b, u.x.a, u.x.b0, u.x.o, u.x.cap, u.x.l⟩⟩ : Hd)) (t' := (⟨u.nm, u.sn, ⟨u.x.q, u.x.s, u.x.fr, u.x.b, u.x.a, u.p.b0, u.p.o, u.x.cap, u.x.l⟩, 0, ⟨0, 0, u.x.fr, u.x.b, u.x.a, u.x.b0, u.x.o, u.x.cap, u.x.l⟩⟩ : Hd)) (j := 9) (u := .int .i64 0) ru1 hil (by decide) rfl
          have ru3 := hd_put_set (t := (⟨u.nm, u.sn, ⟨u.x.q, u.x.s, u.x.fr, u.x.b, u.x.a, u.p.b0, u.p.o, u.x.cap, u.x.l⟩, 0, ⟨0, 0, u.x.fr, u.x.b, u.x.a, u.x.b0, u.x.o, u.x.cap, u.x.l⟩⟩ : Hd)) (t' := (⟨u.nm, u.sn, ⟨u.x.q, u.x.s, u.x.fr, u.x.b, u.x.a, u.p.b0, u.p.o, u.x.cap, u.x.l⟩, 0, ⟨0, 0, u.x.fr, u.x.b, none, u.x.b0, u.x.o, 0, []⟩⟩ : Hd)) (j := 10) (u := .slice none 0 0) ru2 hil (by decide) rfl
          have ru4 := hd_put_set (t := (⟨u.nm, u.sn, ⟨u.x.q, u.x.s, u.x.fr, u.x.b, u.x.a, u.p.b0, u.p.o, u.x.cap, u.x.l⟩, 0, ⟨0, 0, u.x.fr, u.x.b, none, u.x.b0, u.x.o, 0, []⟩⟩ : Hd)) (t' := (⟨u.nm, u.sn, ⟨u.x.q, u.x.s, u.x.fr, u.x.b, u.x.a, u.p.b0, u.p.o, u.x.cap, u.x.l⟩, 0, ⟨0, 0, 0, u.x.b, none, u.x.b0, u.x.o, 0, []⟩⟩ : Hd)) (j := 11) (u := .int .i64 0) ru3 hil (by decide) rfl
          have ru5 := hd_put_set (t := (⟨u.nm, u.sn, ⟨u.x.q, u.x.s, u.x.fr, u.x.b, u.x.a, u.p.b0, u.p.o, u.x.cap, u.x.l⟩, 0, ⟨0, 0, 0, u.x.b, none, u.x.b0, u.x.o, 0, []⟩⟩ : Hd)) (t' := (⟨u.nm, u.sn, ⟨u.x.q, u.x.s, u.x.fr, u.x.b, u.x.a, u.p.b0, u.p.o, u.x.cap, u.x.l⟩, 0, ⟨0, 0, 0, 0, none, u.x.b0, u.x.o, 0, []⟩⟩ : Hd)) (j := 12) (u := .int .i64 0) ru4 hil (by decide) rfl
          have S3 := S8.trans ((Spared.below D8).trans (Spared.grown (S := (Value.slice (some ⟨g, 0, none⟩) us.length cap).ownBlock.toList) (grown_over2 (grown_over2 (grown_over2 (grown_over2 (grown_over2 (grown_set W8.drew ⟨g, i * 13 + 7, none⟩ (.int .i64 0)) (grown_set _ ⟨g, i * 13 + 8, none⟩ (.int .i64 0))) (grown_set _ ⟨g, i * 13 + 9, none⟩ (.int .i64 0))) (grown_set _ ⟨g, i * 13 + 10, none⟩ (.slice none 0 0))) (grown_set _ ⟨g, i * 13 + 11, none⟩ (.int .i64 0))) (grown_set _ ⟨g, i * 13 + 12, none⟩ (.int .i64 0))) (by simp [Value.ownBlock])))
          have h3 := h2.put (u' := (⟨u.nm, u.sn, ⟨u.x.q, u.x.s, u.x.fr, u.x.b, u.x.a, u.p.b0, u.p.o, u.x.cap, u.x.l⟩, 0, ⟨0, 0, 0, 0, none, u.x.b0, u.x.o, 0, []⟩⟩ : Hd)) hu S3 ru5 (fun _ hO => ⟨hO.x, World.ownsRow_nil _ _ _ _, fun k _ e => by simp [Value.ownBlock] at e⟩) (fun k hk => by simp only [Hd.blks, List.mem_append, Option.mem_toList] at hk ⊢; rcases hk with hk | hk; exact Or.inr hk; simp [Value.ownBlock] at hk)
          rw [← hw3] at h3
          clear hw3 S3
          have HR : Hid ((us.set i (⟨u.nm, u.sn, ⟨u.x.q, u.x.s, u.x.fr, u.x.b, u.x.a, u.p.b0, u.p.o, u.x.cap, u.x.l⟩, 0, ⟨0, 0, 0, 0, none, u.x.b0, u.x.o, 0, []⟩⟩ : Hd)).map Hd.key = (us.map Hd.key).set i (tookK u.key)) := key_set
          clear ru0 ru1 ru2 ru3 ru4 ru5
          go_wp2
          first | (go_ret; exact ⟨rfl, _, _, h3, HR.out⟩) | (refine bodyPost_end (v := .tuple #[]) (by simp [results, Try.results36, go_sem]) rfl ⟨rfl, _, _, h3, HR.out⟩)
        exact AllReady.nil
      exact AllReady.nil
    exact AllReady.nil
  refine AllReady.cons rfl (fun K hK => ?_) ?_
  · go_simp
    refine hK _ _ ?_
    clear hK K
    refine wpAny_ready (rs := [5]) (by kernel_rfl) (by simp) ?_
    refine AllReady.cons rfl (fun K hK => ?_) ?_
    · go_simp
      refine hK _ _ ?_
      clear hK K
      refine wpAny_take (i := 10) (v := .pointer (some ⟨g, i * 13, none⟩)) rfl (by kernel_rfl) (by kernel_rfl) (by kernel_rfl) (fun _ _ _ h => h) (Or.inl ⟨by rfl, fun W => by go_simp⟩) ?_
      refine wpAny_take (i := 11) (v := .pointer (some ⟨g, i * 13 + 2, none⟩)) rfl (by kernel_rfl) (by kernel_rfl) (by kernel_rfl) (fun _ _ _ h => h) (Or.inl ⟨by rfl, fun W => by go_simp⟩) ?_
      refine wpAny_ready (rs := [12]) (by kernel_rfl) (by simp) ?_
      refine AllReady.cons rfl (fun K hK => ?_) ?_
      · go_simp
        refine hK _ _ ?_
        clear hK K
        refine wpAny_take (i := 13) (v := .pointer (some ⟨g, i * 13, none⟩)) rfl (by kernel_rfl) (by kernel_rfl) (by kernel_rfl) (fun _ _ _ h => h) (Or.inl ⟨by rfl, fun W => by go_simp⟩) ?_
        refine wpAny_take (i := 14) (v := .pointer (some ⟨g, i * 13 + 1, none⟩)) rfl (by kernel_rfl) (by kernel_rfl) (by kernel_rfl) (fun _ _ _ h => h) (Or.inl ⟨by rfl, fun W => by go_simp⟩) ?_
        refine wpAny_ready (rs := [15]) (by kernel_rfl) (by simp) ?_
        refine AllReady.cons rfl (fun K hK => ?_) ?_
        · go_simp
          refine hK _ _ ?_
          clear hK K
          refine wpAny_done (by kernel_rfl) ?_ _
          go_wp2_with fail
          refine (forget_any g i _ th8).mono ?_
          rintro e w3 ⟨rfl, hw3⟩
          have ru0 := hd_put_set (t := (⟨u.nm, u.sn, ⟨u.x.q, u.x.s, u.x.fr, u.x.b, u.x.a, u.p.b0, u.p.o, u.x.cap, u.x.l⟩, u.sn, ⟨u.x.q, u.x.s, u.x.fr, u.x.b, u.x.a, u.x.b0, u.x.o, u.x.cap, u.x.l⟩⟩ : Hd)) (t' := (⟨u.nm, u.sn, ⟨u.x.q, u.x.s, u.x.fr, u.x.b, u.x.a, u.p.b0, u.p.o, u.x.cap, u.x.l⟩, 0, ⟨u.x.q, u.x.s, u.x.fr, u.x.b, u.x.a, u.x.b0, u.x.o, u.x.cap, u.x.l⟩⟩ : Hd)) (j := 7) (u := .int .i64 0) R9 hil (by decide) rfl
          have ru1 := hd_put_set (t := (⟨u.nm, u.sn, ⟨u.x.q, u.x.s, u.x.fr, u.x.b, u.x.a, u.p.b0, u.p.o, u.x.cap, u.x.l⟩, 0, ⟨u.x.q, u.x.s, u.x.fr, u.x.b, u.x.a, u.x.b0, u.x.o, u.x.cap, u.x.l⟩⟩ : Hd)) (t' := (⟨u.nm, u.sn, ⟨u.x.q, u.x.s, u.x.fr, u.x.b, u.x.a, u.p.b0, u.p.o, u.x.cap, u.x.l⟩, 0, ⟨0, u.x.s, u.x.fr, u.x.b, u.x.a, u.x.b0, u.x.o, u.x.cap, u.x.l⟩⟩ : Hd)) (j := 8) (u := .int .i64 0) ru0 hil (by decide) rfl
          have ru2 := hd_put_set (t := (⟨u.nm, u.sn, ⟨u.x.q, u.x.s, u.x.fr, u.x.b, u.x.a, u.p.b0, u.p.o, u.x.cap, u.x.l⟩, 0, ⟨0, u.x.s, u.x.fr, u.x.b, u.x.a, u.x.b0, u.x.o, u.x.cap, u.x.l⟩⟩ : Hd)) (t' := (⟨u.nm, u.sn, ⟨u.x.q, u.x.s, u.x.fr, u.x.b, u.x.a, u.p.b0, u.p.o, u.x.cap, u.x.l⟩, 0, ⟨0, 0, u.x.fr, u.x.b, u.x.a, u.x.b0, u.x.o, u.x.cap, u.x.l⟩⟩ : Hd)) (j := 9) (u := .int .i64 0) ru1 hil (by decide) rfl
          have ru3 := hd_put_set (t := (⟨u.nm, u.sn, ⟨u.x.q, u.x.s, u.x.fr, u.x.b, u.x.a, u.p.b0, u.p.o, u.x.cap, u.x.l⟩, 0, ⟨0, 0, u.x.fr, u.x.b, u.x.a, u.x.b0, u.x.o, u.x.cap, u.x.l⟩⟩ : Hd)) (t' := (⟨u.nm, u.sn, ⟨u.x.q, u.x.s, u.x.fr, u.x.b, u.x.a, u.p.b0, u.p.o, u.x.cap, u.x.l⟩, 0, ⟨0, 0, u.x.fr, u.x.b, none, u.x.b0, u.x.o, 0, []⟩⟩ : Hd)) (j := 10) (u := .slice none 0 0) ru2 hil (by decide) rfl
          have ru4 := hd_put_set (t := (⟨u.nm, u.sn, ⟨u.x.q, u.x.s, u.x.fr, u.x.b, u.x.a, u.p.b0, u.p.o, u.x.cap, u.x.l⟩, 0, ⟨0, 0, u.x.fr, u.x.b, none, u.x.b0, u.x.o, 0, []⟩⟩ : Hd)) (t' := (⟨u.nm, u.sn, ⟨u.x.q, u.x.s, u.x.fr, u.x.b, u.x.a, u.p.b0, u.p.o, u.x.cap, u.x.l⟩, 0, ⟨0, 0, 0, u.x.b, none, u.x.b0, u.x.o, 0, []⟩⟩ : Hd)) (j := 11) (u := .int .i64 0) ru3 hil (by decide) rfl
          have ru5 := hd_put_set (t := (⟨u.nm, u.sn, ⟨u.x.q, u.x.s, u.x.fr, u.x.b, u.x.a, u.p.b0, u.p.o, u.x.cap, u.x.l⟩, 0, ⟨0, 0, 0, u.x.b, none, u.x.b0, u.x.o, 0, []⟩⟩ : Hd)) (t' := (⟨u.nm, u.sn, ⟨u.x.q, u.x.s, u.x.fr, u.x.b, u.x.a, u.p.b0, u.p.o, u.x.cap, u.x.l⟩, 0, ⟨0, 0, 0, 0, none, u.x.b0, u.x.o, 0, []⟩⟩ : Hd)) (j := 12) (u := .int .i64 0) ru4 hil (by decide) rfl
          have S3 := S8.trans ((Spared.below D8).trans (Spared.grown (S := (Value.slice (some ⟨g, 0, none⟩) us.length cap).ownBlock.toList) (grown_over2 (grown_over2 (grown_over2 (grown_over2 (grown_over2 (grown_set W8.drew ⟨g, i * 13 + 7, none⟩ (.int .i64 0)) (grown_set _ ⟨g, i * 13 + 8, none⟩ (.int .i64 0))) (grown_set _ ⟨g, i * 13 + 9, none⟩ (.int .i64 0))) (grown_set _ ⟨g, i * 13 + 10, none⟩ (.slice none 0 0))) (grown_set _ ⟨g, i * 13 + 11, none⟩ (.int .i64 0))) (grown_set _ ⟨g, i * 13 + 12, none⟩ (.int .i64 0))) (by simp [Value.ownBlock])))
          have h3 := h2.put (u' := (⟨u.nm, u.sn, ⟨u.x.q, u.x.s, u.x.fr, u.x.b, u.x.a, u.p.b0, u.p.o, u.x.cap, u.x.l⟩, 0, ⟨0, 0, 0, 0, none, u.x.b0, u.x.o, 0, []⟩⟩ : Hd)) hu S3 ru5 (fun _ hO => ⟨hO.x, World.ownsRow_nil _ _ _ _, fun k _ e => by simp [Value.ownBlock] at e⟩) (fun k hk => by simp only [Hd.blks, List.mem_append, Option.mem_toList] at hk ⊢; rcases hk with hk | hk; exact Or.inr hk; simp [Value.ownBlock] at hk)
          rw [← hw3] at h3
          clear hw3 S3
          have HR : Hid ((us.set i (⟨u.nm, u.sn, ⟨u.x.q, u.x.s, u.x.fr, u.x.b, u.x.a, u.p.b0, u.p.o, u.x.cap, u.x.l⟩, 0, ⟨0, 0, 0, 0, none, u.x.b0, u.x.o, 0, []⟩⟩ : Hd)).map Hd.key = (us.map Hd.key).set i (tookK u.key)) := key_set
          clear ru0 ru1 ru2 ru3 ru4 ru5
          go_wp2
          first | (go_ret; exact ⟨rfl, _, _, h3, HR.out⟩) | (refine bodyPost_end (v := .tuple #[]) (by simp [results, Try.results36, go_sem]) rfl ⟨rfl, _, _, h3, HR.out⟩)
        exact AllReady.nil
      exact AllReady.nil
    exact AllReady.nil
  exact AllReady.nil
set_option maxRecDepth 20000 in
set_option maxHeartbeats 4000000 in
theorem hear_took0_5 (t : Wd) (w W : World) (K base i g cap : Nat) (la : Int) (us : List Hd) (u : Hd) (_hl : us.length ≤ 1048576) (h : HrW w W K base la (.slice (some ⟨g, 0, none⟩) us.length cap) us) (hu : us[i]? = some u) (hk : t.k = 5) (hs : sentB u.key t.n = false) :
    Calls Try.prog 36 #[.pointer (some ⟨K, 0, none⟩), .int .i64 i, t.val] W fun e w' => e = .returned (.tuple #[]) ∧ ∃ (v' : Value) (us' : List Hd), HrW w w' K base la v' us' ∧ us'.map Hd.key = us.map Hd.key := by
  have HK : Hid (t.k = 5) := hk
  clear hk
  have HS : Hid (sentB u.key t.n = false) := hs
  clear hs
  have hil : i < us.length := (List.getElem?_eq_some_iff.1 hu).1
  have i0 : (0 : Int) ≤ (i : Int) := by omega
  have i1 : (i : Int) < (us.length : Int) := by omega
  have h0 := h.keep (bel1 (.cells #[.int .i64 t.k, .string t.nm, .int .i64 t.n, .int .i64 t.p.q, .int .i64 t.p.s, .slice t.p.a t.p.l.length t.p.cap, .int .i64 t.p.fr, .int .i64 t.p.b] 32))
  have T0 := Bx.new W #[.int .i64 t.k, .string t.nm, .int .i64 t.n, .int .i64 t.p.q, .int .i64 t.p.s, .slice t.p.a t.p.l.length t.p.cap, .int .i64 t.p.fr, .int .i64 t.p.b] 32
  have x0 : (W.alloc (.cells #[.int .i64 t.k, .string t.nm, .int .i64 t.n, .int .i64 t.p.q, .int .i64 t.p.s, .slice t.p.a t.p.l.length t.p.cap, .int .i64 t.p.fr, .int .i64 t.p.b] 32)).cell? ⟨K, 1, none⟩ = some (.slice (some ⟨g, 0, none⟩) us.length cap) := h0.bk.c 1
  go_enter Try.func36, Try.ntmps36
  go_wp2_with fail
  refine (said_5 t _ HK.out).mono ?_
  rintro e w1 ⟨rfl, hb1⟩
  have h1 := h0.keep hb1
  have T1 := T0.keep hb1
  have R1 := h1.own.row
  have x1 : w1.cell? ⟨K, 1, none⟩ = some (.slice (some ⟨g, 0, none⟩) us.length cap) := h1.bk.c 1
  have t2 : w1.cell? ⟨W.heap.size, 2, none⟩ = some (.int .i64 t.n) := T1.c 2
  have c0 : w1.cell? ⟨g, i * 13, none⟩ = some (.string u.nm) := (R1.cellAt (i * 13) (by omega)).trans (hdCells_at _ i u 0 hu (by decide))
  have c1 : w1.cell? ⟨g, i * 13 + 1, none⟩ = some (.int .i64 u.n) := (R1.cellAt (i * 13 + 1) (by omega)).trans (hdCells_at _ i u 1 hu (by decide))
  have c2 : w1.cell? ⟨g, i * 13 + 2, none⟩ = some (.int .i64 u.p.q) := (R1.cellAt (i * 13 + 2) (by omega)).trans (hdCells_at _ i u 2 hu (by decide))
  have c3 : w1.cell? ⟨g, i * 13 + 3, none⟩ = some (.int .i64 u.p.s) := (R1.cellAt (i * 13 + 3) (by omega)).trans (hdCells_at _ i u 3 hu (by decide))
  have c4 : w1.cell? ⟨g, i * 13 + 4, none⟩ = some (.slice u.p.a u.p.l.length u.p.cap) := (R1.cellAt (i * 13 + 4) (by omega)).trans (hdCells_at _ i u 4 hu (by decide))
  have c5 : w1.cell? ⟨g, i * 13 + 5, none⟩ = some (.int .i64 u.p.fr) := (R1.cellAt (i * 13 + 5) (by omega)).trans (hdCells_at _ i u 5 hu (by decide))
  have c6 : w1.cell? ⟨g, i * 13 + 6, none⟩ = some (.int .i64 u.p.b) := (R1.cellAt (i * 13 + 6) (by omega)).trans (hdCells_at _ i u 6 hu (by decide))
  have c7 : w1.cell? ⟨g, i * 13 + 7, none⟩ = some (.int .i64 u.sn) := (R1.cellAt (i * 13 + 7) (by omega)).trans (hdCells_at _ i u 7 hu (by decide))
  have c8 : w1.cell? ⟨g, i * 13 + 8, none⟩ = some (.int .i64 u.x.q) := (R1.cellAt (i * 13 + 8) (by omega)).trans (hdCells_at _ i u 8 hu (by decide))
  have c9 : w1.cell? ⟨g, i * 13 + 9, none⟩ = some (.int .i64 u.x.s) := (R1.cellAt (i * 13 + 9) (by omega)).trans (hdCells_at _ i u 9 hu (by decide))
  have c10 : w1.cell? ⟨g, i * 13 + 10, none⟩ = some (.slice u.x.a u.x.l.length u.x.cap) := (R1.cellAt (i * 13 + 10) (by omega)).trans (hdCells_at _ i u 10 hu (by decide))
  have c11 : w1.cell? ⟨g, i * 13 + 11, none⟩ = some (.int .i64 u.x.fr) := (R1.cellAt (i * 13 + 11) (by omega)).trans (hdCells_at _ i u 11 hu (by decide))
  have c12 : w1.cell? ⟨g, i * 13 + 12, none⟩ = some (.int .i64 u.x.b) := (R1.cellAt (i * 13 + 12) (by omega)).trans (hdCells_at _ i u 12 hu (by decide))
  have a56 := as_5_6
  have a53 := as_5_3
  have a55 := as_5_5
  have a54 := as_5_4
  clear h0 T0 x0 hb1
  have qn := Cls.any w1
  have qg := Cls.cell (show g < w1.heap.size from (R1.lt g rfl).2)
  have qt := Cls.cell T1.lt
  have WS := fun W' => wasSent_any u t.n false W' HS.out
  go_wp2
  refine wp_region_cls (by kernel_rfl) (by kernel_rfl) ?_
  repeat (go_big_quiet_step ((go_at_call 54; exact Calls.cls_of (WS _))))
  refine wpQuiet_nil ?_
  rintro _ ⟨uu, rfl⟩
  have h2 := h1.keep uu.same
  obtain ⟨w2, _⟩ := uu
  simp only at h2 ⊢
  clear qn qg qt WS a56 a53 a55 a54 c0 c1 c2 c3 c4 c5 c6 c7 c8 c9 c10 c11 c12 x1 t2 R1 h1 T1
  go_wp2
  first | (go_ret; exact ⟨rfl, _, us, h2, rfl⟩) | (refine bodyPost_end (v := .tuple #[]) (by simp [results, Try.results36, go_sem]) rfl ⟨rfl, _, us, h2, rfl⟩)
set_option maxRecDepth 20000 in
set_option maxHeartbeats 4000000 in
theorem hear_1 (t : Wd) (w W : World) (K base i g cap : Nat) (la : Int) (us : List Hd) (u : Hd) (_hl : us.length ≤ 1048576) (h : HrW w W K base la (.slice (some ⟨g, 0, none⟩) us.length cap) us) (hu : us[i]? = some u) (hk : t.k = 1)  :
    Calls Try.prog 36 #[.pointer (some ⟨K, 0, none⟩), .int .i64 i, t.val] W fun e w' => e = .returned (.tuple #[]) ∧ ∃ (v' : Value) (us' : List Hd), HrW w w' K base la v' us' ∧ us'.map Hd.key = us.map Hd.key := by
  have HK : Hid (t.k = 1) := hk
  clear hk
  have hil : i < us.length := (List.getElem?_eq_some_iff.1 hu).1
  have i0 : (0 : Int) ≤ (i : Int) := by omega
  have i1 : (i : Int) < (us.length : Int) := by omega
  have h0 := h.keep (bel1 (.cells #[.int .i64 t.k, .string t.nm, .int .i64 t.n, .int .i64 t.p.q, .int .i64 t.p.s, .slice t.p.a t.p.l.length t.p.cap, .int .i64 t.p.fr, .int .i64 t.p.b] 32))
  have T0 := Bx.new W #[.int .i64 t.k, .string t.nm, .int .i64 t.n, .int .i64 t.p.q, .int .i64 t.p.s, .slice t.p.a t.p.l.length t.p.cap, .int .i64 t.p.fr, .int .i64 t.p.b] 32
  have x0 : (W.alloc (.cells #[.int .i64 t.k, .string t.nm, .int .i64 t.n, .int .i64 t.p.q, .int .i64 t.p.s, .slice t.p.a t.p.l.length t.p.cap, .int .i64 t.p.fr, .int .i64 t.p.b] 32)).cell? ⟨K, 1, none⟩ = some (.slice (some ⟨g, 0, none⟩) us.length cap) := h0.bk.c 1
  go_enter Try.func36, Try.ntmps36
  go_wp2_with fail
  refine (said_1 t _ HK.out).mono ?_
  rintro e w1 ⟨rfl, hb1⟩
  have h2 := h0.keep hb1
  have a1_6 := as_1_6
  have a1_3 := as_1_3
  have a1_5 := as_1_5
  have a1_4 := as_1_4
  clear h0 T0 x0 hb1
  go_wp2
  first | (go_ret; exact ⟨rfl, _, us, h2, rfl⟩) | (refine bodyPost_end (v := .tuple #[]) (by simp [results, Try.results36, go_sem]) rfl ⟨rfl, _, us, h2, rfl⟩)
set_option maxRecDepth 20000 in
set_option maxHeartbeats 4000000 in
theorem hear_2 (t : Wd) (w W : World) (K base i g cap : Nat) (la : Int) (us : List Hd) (u : Hd) (_hl : us.length ≤ 1048576) (h : HrW w W K base la (.slice (some ⟨g, 0, none⟩) us.length cap) us) (hu : us[i]? = some u) (hk : t.k = 2)  :
    Calls Try.prog 36 #[.pointer (some ⟨K, 0, none⟩), .int .i64 i, t.val] W fun e w' => e = .returned (.tuple #[]) ∧ ∃ (v' : Value) (us' : List Hd), HrW w w' K base la v' us' ∧ us'.map Hd.key = us.map Hd.key := by
  have HK : Hid (t.k = 2) := hk
  clear hk
  have hil : i < us.length := (List.getElem?_eq_some_iff.1 hu).1
  have i0 : (0 : Int) ≤ (i : Int) := by omega
  have i1 : (i : Int) < (us.length : Int) := by omega
  have h0 := h.keep (bel1 (.cells #[.int .i64 t.k, .string t.nm, .int .i64 t.n, .int .i64 t.p.q, .int .i64 t.p.s, .slice t.p.a t.p.l.length t.p.cap, .int .i64 t.p.fr, .int .i64 t.p.b] 32))
  have T0 := Bx.new W #[.int .i64 t.k, .string t.nm, .int .i64 t.n, .int .i64 t.p.q, .int .i64 t.p.s, .slice t.p.a t.p.l.length t.p.cap, .int .i64 t.p.fr, .int .i64 t.p.b] 32
  have x0 : (W.alloc (.cells #[.int .i64 t.k, .string t.nm, .int .i64 t.n, .int .i64 t.p.q, .int .i64 t.p.s, .slice t.p.a t.p.l.length t.p.cap, .int .i64 t.p.fr, .int .i64 t.p.b] 32)).cell? ⟨K, 1, none⟩ = some (.slice (some ⟨g, 0, none⟩) us.length cap) := h0.bk.c 1
  go_enter Try.func36, Try.ntmps36
  go_wp2_with fail
  refine (said_2 t _ HK.out).mono ?_
  rintro e w1 ⟨rfl, hb1⟩
  have h2 := h0.keep hb1
  have a2_6 := as_2_6
  have a2_3 := as_2_3
  have a2_5 := as_2_5
  have a2_4 := as_2_4
  clear h0 T0 x0 hb1
  go_wp2
  first | (go_ret; exact ⟨rfl, _, us, h2, rfl⟩) | (refine bodyPost_end (v := .tuple #[]) (by simp [results, Try.results36, go_sem]) rfl ⟨rfl, _, us, h2, rfl⟩)
set_option maxRecDepth 20000 in
set_option maxHeartbeats 4000000 in
theorem hear_0 (t : Wd) (w W : World) (K base i g cap : Nat) (la : Int) (us : List Hd) (u : Hd) (_hl : us.length ≤ 1048576) (h : HrW w W K base la (.slice (some ⟨g, 0, none⟩) us.length cap) us) (hu : us[i]? = some u) (hk : inB t.k 1 6 = false)  :
    Calls Try.prog 36 #[.pointer (some ⟨K, 0, none⟩), .int .i64 i, t.val] W fun e w' => e = .returned (.tuple #[]) ∧ ∃ (v' : Value) (us' : List Hd), HrW w w' K base la v' us' ∧ us'.map Hd.key = us.map Hd.key := by
  have HK : Hid (inB t.k 1 6 = false) := hk
  clear hk
  have hil : i < us.length := (List.getElem?_eq_some_iff.1 hu).1
  have i0 : (0 : Int) ≤ (i : Int) := by omega
  have i1 : (i : Int) < (us.length : Int) := by omega
  have h0 := h.keep (bel1 (.cells #[.int .i64 t.k, .string t.nm, .int .i64 t.n, .int .i64 t.p.q, .int .i64 t.p.s, .slice t.p.a t.p.l.length t.p.cap, .int .i64 t.p.fr, .int .i64 t.p.b] 32))
  have T0 := Bx.new W #[.int .i64 t.k, .string t.nm, .int .i64 t.n, .int .i64 t.p.q, .int .i64 t.p.s, .slice t.p.a t.p.l.length t.p.cap, .int .i64 t.p.fr, .int .i64 t.p.b] 32
  have x0 : (W.alloc (.cells #[.int .i64 t.k, .string t.nm, .int .i64 t.n, .int .i64 t.p.q, .int .i64 t.p.s, .slice t.p.a t.p.l.length t.p.cap, .int .i64 t.p.fr, .int .i64 t.p.b] 32)).cell? ⟨K, 1, none⟩ = some (.slice (some ⟨g, 0, none⟩) us.length cap) := h0.bk.c 1
  go_enter Try.func36, Try.ntmps36
  go_wp2_with fail
  refine (said_no t _ HK.out).mono ?_
  rintro e w1 ⟨rfl, hb1⟩
  have h2 := h0.keep hb1
  have a0_6 := as_0_6
  have a0_3 := as_0_3
  have a0_5 := as_0_5
  have a0_4 := as_0_4
  clear h0 T0 x0 hb1
  go_wp2
  first | (go_ret; exact ⟨rfl, _, us, h2, rfl⟩) | (refine bodyPost_end (v := .tuple #[]) (by simp [results, Try.results36, go_sem]) rfl ⟨rfl, _, us, h2, rfl⟩)
theorem hearI_at (t : Wd) (w W : World) (K base i g cap : Nat) (la : Int) (us : List Hd) (u : Hd) (hl : us.length ≤ 1048576) (h : HrW w W K base la (.slice (some ⟨g, 0, none⟩) us.length cap) us) (hu : us[i]? = some u) :
    Calls Try.prog 36 #[.pointer (some ⟨K, 0, none⟩), .int .i64 i, t.val] W fun e w' => e = .returned (.tuple #[]) ∧ ∃ (v' : Value) (us' : List Hd), HrW w w' K base la v' us' ∧ us'.map Hd.key = hearAt (us.map Hd.key) i u.key t.k t.n := by
  have key : ∀ ks : List HKey, hearAt (us.map Hd.key) i u.key t.k t.n = ks → (Calls Try.prog 36 #[.pointer (some ⟨K, 0, none⟩), .int .i64 i, t.val] W fun e w' => e = .returned (.tuple #[]) ∧ ∃ (v' : Value) (us' : List Hd), HrW w w' K base la v' us' ∧ us'.map Hd.key = ks) → (Calls Try.prog 36 #[.pointer (some ⟨K, 0, none⟩), .int .i64 i, t.val] W fun e w' => e = .returned (.tuple #[]) ∧ ∃ (v' : Value) (us' : List Hd), HrW w w' K base la v' us' ∧ us'.map Hd.key = hearAt (us.map Hd.key) i u.key t.k t.n) := fun ks e hc => by rw [e]; exact hc
  cases hs : sentB u.key t.n with
  | true =>
    by_cases k6 : t.k = 6
    · refine key ((us.map Hd.key).eraseIdx i) (by unfold hearAt; rw [if_pos k6, hs, Bool.or_true, if_pos rfl]) ?_
      cases hc : (t.n == u.n) with
      | true => exact hear_land1 t w W K base i g cap la us u hl h hu k6 hc
      | false => exact hear_land2 t w W K base i g cap la us u hl h hu k6 hc hs
    by_cases k3 : t.k = 3
    · exact key _ (by unfold hearAt; rw [if_neg k6, if_pos (Or.inl k3), hs, if_pos rfl]) (hear_took1_3 t w W K base i g cap la us u hl h hu k3 hs)
    by_cases k5 : t.k = 5
    · exact key _ (by unfold hearAt; rw [if_neg k6, if_pos (Or.inr k5), hs, if_pos rfl]) (hear_took1_5 t w W K base i g cap la us u hl h hu k5 hs)
    by_cases k4 : t.k = 4
    · exact key _ (by unfold hearAt; rw [if_neg k6, if_neg (by omega), if_pos k4, hs, if_pos rfl]) (hear_ref1 t w W K base i g cap la us u hl h hu k4 hs)
    refine key (us.map Hd.key) (by unfold hearAt; rw [if_neg k6, if_neg (by omega), if_neg k4]) ?_
    by_cases k1 : t.k = 1
    · exact hear_1 t w W K base i g cap la us u hl h hu k1
    by_cases k2 : t.k = 2
    · exact hear_2 t w W K base i g cap la us u hl h hu k2
    exact hear_0 t w W K base i g cap la us u hl h hu (by
      cases hb : inB t.k 1 6 with
      | false => rfl
      | true => have := (inB_iff _ _ _).1 hb; omega)
  | false =>
    by_cases k6 : t.k = 6
    · cases hc : (t.n == u.n) with
      | true => exact key _ (by unfold hearAt; rw [if_pos k6, if_pos (by show ((t.n == u.n) || _) = true; rw [hc]; rfl)]) (hear_land1 t w W K base i g cap la us u hl h hu k6 hc)
      | false => exact key _ (by unfold hearAt; rw [if_pos k6, if_neg (by show ¬ ((t.n == u.n) || _) = true; rw [hc, hs]; simp)]) (hear_land3 t w W K base i g cap la us u hl h hu k6 hc hs)
    by_cases k3 : t.k = 3
    · exact key _ (by unfold hearAt; rw [if_neg k6, if_pos (Or.inl k3), hs, if_neg (by simp)]) (hear_took0_3 t w W K base i g cap la us u hl h hu k3 hs)
    by_cases k5 : t.k = 5
    · exact key _ (by unfold hearAt; rw [if_neg k6, if_pos (Or.inr k5), hs, if_neg (by simp)]) (hear_took0_5 t w W K base i g cap la us u hl h hu k5 hs)
    by_cases k4 : t.k = 4
    · exact key _ (by unfold hearAt; rw [if_neg k6, if_neg (by omega), if_pos k4, hs, if_neg (by simp)]) (hear_ref0 t w W K base i g cap la us u hl h hu k4 hs)
    refine key (us.map Hd.key) (by unfold hearAt; rw [if_neg k6, if_neg (by omega), if_neg k4]) ?_
    by_cases k1 : t.k = 1
    · exact hear_1 t w W K base i g cap la us u hl h hu k1
    by_cases k2 : t.k = 2
    · exact hear_2 t w W K base i g cap la us u hl h hu k2
    exact hear_0 t w W K base i g cap la us u hl h hu (by
      cases hb : inB t.k 1 6 with
      | false => rfl
      | true => have := (inB_iff _ _ _).1 hb; omega)

end Go.Proofs.Ytfcobpaaeijkoaa
