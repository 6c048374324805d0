/- Joined texts: LkHearS, LkHearT. -/
import Derived.Deep.RegionHeld3
import Derived.Maps.AppendAt
import Derived.Test.YtfcobpaaeijkoaaLkHearJ
namespace Go.Proofs.Ytfcobpaaeijkoaa
open Go.RowKit

/-- The blocks while the specification hears a word: the word, the answer, the copy of the book, its row. -/
structure HsW (w W : World) (t : Wd) (K : Nat) (la : Int) (v : Value) (us : List Hd) : Prop where
  old : Below w.heap.size w W
  wd : Bx W (w.heap.size + 1) #[.int .i64 t.k, .string t.nm, .int .i64 t.n, .int .i64 t.p.q, .int .i64 t.p.s, .slice t.p.a t.p.l.length t.p.cap, .int .i64 t.p.fr, .int .i64 t.p.b]
  res : Bx W (w.heap.size + 1 + 1) #[.int .i64 0, .slice none 0 0]
  bk : Bx W K #[.int .i64 la, v]
  own : BkOwn W (w.heap.size + 1 + 1 + 1) v us
  k : w.heap.size + 1 + 1 + 1 ≤ K
  ne : K ∉ bkBlks v us
theorem HsW.keep {w W W' : World} {t : Wd} {K : Nat} {la : Int} {v : Value} {us : List Hd} (h : HsW w W t K la v us) (hb : Below W.heap.size W W') : HsW w W' t K la v us :=
  ⟨h.old.trans (hb.mono h.old.size), h.wd.keep hb, h.res.keep hb, h.bk.keep hb, h.own.below hb, h.k, h.ne⟩
/-- The answer is the copy as it is. -/
theorem HsW.fin {w W : World} {t : Wd} {K : Nat} {la : Int} {v : Value} {us : List Hd} (h : HsW w W t K la v us) : BkOwn ((W.setCell ⟨w.heap.size + 1 + 1, 0, none⟩ (.int .i64 la)).setCell ⟨w.heap.size + 1 + 1, 1, none⟩ v) w.heap.size v us ∧ Below w.heap.size w ((W.setCell ⟨w.heap.size + 1 + 1, 0, none⟩ (.int .i64 la)).setCell ⟨w.heap.size + 1 + 1, 1, none⟩ v) := by
  refine ⟨?_, ?_⟩
  · have hlt := h.own.lt
    refine ((h.own.spared (S := [w.heap.size + 1 + 1]) (Spared.trans (Spared.grown (grown_set _ _ _) (by simp)) (Spared.grown (grown_set _ _ _) (by simp))) (fun k hk hk' => ?_))).lower (by omega)
    simp at hk'
    have := (hlt k hk).1
    omega
  · iterate 2 (refine Below.setCell ?_ (by simp; omega) _)
    exact h.old
/-- One of the row is written anew, whose lists are some of those that it had. -/
theorem HsW.put {w W W' : World} {t : Wd} {K i : Nat} {la : Int} {v : Value} {us : List Hd} {u u' : Hd} (h : HsW w W t K la v us) (hu : us[i]? = some u) (hs : Spared v.ownBlock.toList W W') (row : W'.ownsRow (w.heap.size + 1 + 1 + 1) 58 13 v us.length (hdCells (us.set i u')))
    (hO : HdOwn W (w.heap.size + 1 + 1 + 1) u → HdOwn W' (w.heap.size + 1 + 1 + 1) u → HdOwn W' (w.heap.size + 1 + 1 + 1) u') (hb : ∀ k ∈ u'.blks, k ∈ u.blks) : BkOwn W' (w.heap.size + 1 + 1 + 1) v (us.set i u') ∧ Bx W' (w.heap.size + 1 + 1) #[.int .i64 0, .slice none 0 0] ∧ Bx W' K #[.int .i64 la, v] ∧ Below w.heap.size w W' := by
  have hm := List.mem_of_getElem? hu
  have hro := h.own.row
  have keep : ∀ t ∈ us, HdOwn W' (w.heap.size + 1 + 1 + 1) t := fun t ht => (h.own.hd ht).spared hs (fun k hk hk' => (h.own.hd ht).row hro k hk (by simpa using hk'))
  have hU := hO (h.own.hd hm) (keep u hm)
  have hb0 := owns_base hro
  have hk := h.k
  refine ⟨⟨by rw [List.length_set]; exact row, fun t ht => ?_, fun t ht => ?_, ?_⟩, h.res.spared hs (fun hk => by have := hb0 _ (by simpa using hk); omega), h.bk.spared hs (fun hk => h.ne (by unfold bkBlks; exact List.mem_append_left _ hk)), hs.toBelow h.old h.old.size (fun k hk => by have := hb0 k (by simpa using hk); omega)⟩
  · rcases mem_set_cases ht with rfl | ⟨j, hj, htj⟩
    · exact ⟨hU.p, hU.x⟩
    · have := keep t (List.mem_of_getElem? htj)
      exact ⟨this.p, this.x⟩
  · rcases mem_set_cases ht with rfl | ⟨j, hj, htj⟩
    · exact hU.inn
    · exact h.own.inn t (List.mem_of_getElem? htj)
  · rw [List.pairwise_iff_getElem]
    intro a b ha hb' hab
    rw [List.length_set] at ha hb'
    rw [List.getElem_set, List.getElem_set]
    have e0 := List.pairwise_iff_getElem.1 h.own.two a b ha hb' hab
    have eu : ∀ (hi : i < us.length), us[i] = u := fun hi => by rw [List.getElem?_eq_getElem hi] at hu; simpa using hu
    split
    · rename_i e
      subst e
      rw [if_neg (by omega)]
      rw [eu ha] at e0
      exact fun k hk hk' => e0 k (hb k hk) hk'
    · split
      · rename_i e
        subst e
        rw [eu hb'] at e0
        exact fun k hk hk' => e0 k hk (hb k hk')
      · exact e0

set_option maxRecDepth 40000 in
set_option maxHeartbeats 4000000 in
theorem hearS_none (la : Int) (a : Option Addr) (b o cap : Nat) (ts : List Hd) (t : Wd) (w : World) (hl : ts.length ≤ 1048576) (hsm : ∀ t ∈ ts, t.p.l.length ≤ 1048576 ∧ t.x.l.length ≤ 1048576) (hs : HdsAt w a b o ts) (hf : NoneTo ts t.nm ts.length)  :
    Calls Try.prog 15 #[.agg #[.int .i64 la, .slice a ts.length cap], t.val] w fun e w' => ∃ (v : Value) (us' : List Hd), e = .returned (.agg #[.int .i64 la, v]) ∧ us'.map Hd.key = ts.map Hd.key ∧ BkOwn w' w.heap.size v us' ∧ Below w.heap.size w w' := by
  obtain ⟨W0, hW0⟩ : ∃ W0, ((w.alloc (.cells #[.int .i64 la, .slice a ts.length cap] 37)).alloc (.cells #[.int .i64 t.k, .string t.nm, .int .i64 t.n, .int .i64 t.p.q, .int .i64 t.p.s, .slice t.p.a t.p.l.length t.p.cap, .int .i64 t.p.fr, .int .i64 t.p.b] 32)).alloc (.cells #[.int .i64 0, .slice none 0 0] 37) = W0 := ⟨_, rfl⟩
  have B0 : Below w.heap.size w W0 := by rw [← hW0]; exact bel3 _ _ _
  have A0 : Bx W0 w.heap.size #[.int .i64 la, .slice a ts.length cap] := by rw [← hW0]; exact ((Bx.new w #[.int .i64 la, .slice a ts.length cap] 37).keep (bel1 _)).keep (bel1 _)
  have T0 : Bx W0 (w.heap.size + 1) #[.int .i64 t.k, .string t.nm, .int .i64 t.n, .int .i64 t.p.q, .int .i64 t.p.s, .slice t.p.a t.p.l.length t.p.cap, .int .i64 t.p.fr, .int .i64 t.p.b] := by
    rw [← hW0]
    have h := (Bx.new (w.alloc (.cells #[.int .i64 la, .slice a ts.length cap] 37)) #[.int .i64 t.k, .string t.nm, .int .i64 t.n, .int .i64 t.p.q, .int .i64 t.p.s, .slice t.p.a t.p.l.length t.p.cap, .int .i64 t.p.fr, .int .i64 t.p.b] 32).keep (bel1 (.cells #[.int .i64 0, .slice none 0 0] 37))
    rwa [World.size_alloc] at h
  have R0 : Bx W0 (w.heap.size + 1 + 1) #[.int .i64 0, .slice none 0 0] := by
    rw [← hW0]
    have h := Bx.new ((w.alloc (.cells #[.int .i64 la, .slice a ts.length cap] 37)).alloc (.cells #[.int .i64 t.k, .string t.nm, .int .i64 t.n, .int .i64 t.p.q, .int .i64 t.p.s, .slice t.p.a t.p.l.length t.p.cap, .int .i64 t.p.fr, .int .i64 t.p.b] 32)) #[.int .i64 0, .slice none 0 0] 37
    rwa [World.size_alloc, World.size_alloc] at h
  have x0 : W0.cell? ⟨w.heap.size, 0, none⟩ = some (.int .i64 la) := A0.c 0
  have x1 : W0.cell? ⟨w.heap.size, 1, none⟩ = some (.slice a ts.length cap) := A0.c 1
  have zR := R0.lt
  go_enter Try.func15, Try.ntmps15
  go_wp2_with fail
  refine (copyBS_any la a b o cap ts _ hl hsm (hs.below B0)).mono ?_
  rintro e w1 ⟨v1, us, rfl, hk, O1, hb1⟩
  have HK : Hid (us.map Hd.key = ts.map Hd.key) := hk
  obtain ⟨a1, c1, rfl⟩ := own_slice O1.row
  have KK := bel1 (w := w1) (.cells #[.int .i64 la, .slice a1 us.length c1] 37)
  have N1 := O1.lt
  have H1 : HsW w (w1.alloc (.cells #[.int .i64 la, .slice a1 us.length c1] 37)) t w1.heap.size la (.slice a1 us.length c1) us := by
    have hz := hb1.size
    have B1 := B0.trans (hb1.mono B0.size)
    exact ⟨B1.trans (KK.mono B1.size), (T0.keep hb1).keep KK, (R0.keep hb1).keep KK, Bx.new w1 _ _, (O1.below KK).lower (by omega), by omega, fun hk => by have := (N1 _ hk).2; omega⟩
  have A1 := (A0.keep hb1).keep KK
  have HB1 : Hid (Below W0.heap.size W0 (w1.alloc (.cells #[.int .i64 la, .slice a1 us.length c1] 37))) := hb1.trans (KK.mono hb1.size)
  have u1 : w1.heap.size ≠ w.heap.size := by have := hb1.size; omega
  have na : ∀ (ob : Obj) (j : Nat), (w1.alloc ob).cell? ⟨w.heap.size, j, none⟩ = w1.cell? ⟨w.heap.size, j, none⟩ := fun ob j => (bel1 ob).cell (p := ⟨w.heap.size, j, none⟩) (show w.heap.size < w1.heap.size by have := hb1.size; omega)
  have nb : ∀ (ob : Obj) (j : Nat), (w1.alloc ob).cell? ⟨w.heap.size + 1, j, none⟩ = w1.cell? ⟨w.heap.size + 1, j, none⟩ := fun ob j => (bel1 ob).cell (p := ⟨w.heap.size + 1, j, none⟩) (show w.heap.size + 1 < w1.heap.size by have := hb1.size; omega)
  have A1' := A0.keep hb1
  have T1' := T0.keep hb1
  clear hW0 x0 x1 hk O1 KK N1 hb1
  have x0 : w1.cell? ⟨w.heap.size, 0, none⟩ = some (.int .i64 la) := A1'.c 0
  have x1 : w1.cell? ⟨w.heap.size, 1, none⟩ = some (.slice a ts.length cap) := A1'.c 1
  have t1 : w1.cell? ⟨w.heap.size + 1, 1, none⟩ = some (.string t.nm) := T1'.c 1
  go_wp2_with fail
  refine (atS_first la a b o cap ts t.nm _ hl (hs.below H1.old)).mono ?_
  rintro e w2 ⟨p, rfl, hp, hb2⟩
  have H2 := H1.keep hb2
  have A2 := A1.keep hb2
  clear x0 x1 t1 H1 A1 A1' T1' hb2 na nb u1 HB1 A0 T0 R0
  have ep : p = -1 := by
    rcases hp with ⟨rfl, _⟩ | ⟨k, u, _, hu, hn, _⟩
    · rfl
    · exact absurd hn (hf k u (List.getElem?_eq_some_iff.1 hu).1 hu)
  subst ep
  clear hp hf
  have y0 : w2.cell? ⟨w1.heap.size, 0, none⟩ = some (.int .i64 la) := H2.bk.c 0
  have y1 : w2.cell? ⟨w1.heap.size, 1, none⟩ = some (.slice a1 us.length c1) := H2.bk.c 1
  have r0 : w2.cell? ⟨w.heap.size + 1 + 1, 0, none⟩ = some (.int .i64 0) := H2.res.c 0
  have r1 : w2.cell? ⟨w.heap.size + 1 + 1, 1, none⟩ = some (.slice none 0 0) := H2.res.c 1
  have rf := H2.res.f
  obtain ⟨f1, f2⟩ := H2.fin
  have F1 : Hid (BkOwn ((w2.setCell ⟨w.heap.size + 1 + 1, 0, none⟩ (.int .i64 la)).setCell ⟨w.heap.size + 1 + 1, 1, none⟩ (.slice a1 us.length c1)) w.heap.size (.slice a1 us.length c1) us) := f1
  clear f1 H2
  go_wp2
  refine bodyPost_ret (v := .agg #[.int .i64 la, .slice a1 us.length c1]) (by simp [results, Try.results15, go_sem, *]) rfl ⟨_, us, rfl, HK.out, F1.out, f2⟩

set_option maxRecDepth 40000 in
set_option maxHeartbeats 4000000 in
theorem hearS_keep6_1 (la : Int) (a : Option Addr) (b o cap : Nat) (ts : List Hd) (t : Wd) (w : World) (hl : ts.length ≤ 1048576) (hsm : ∀ t ∈ ts, t.p.l.length ≤ 1048576 ∧ t.x.l.length ≤ 1048576) (hs : HdsAt w a b o ts) (i : Nat) (s : Hd) (hsi : ts[i]? = some s) (hsn : s.nm = t.nm) (hf : NoneTo ts t.nm i) (k6 : (t.k == 6) = true) (q1 : (t.n == s.n) = false) (q2 : (t.n == s.sn) = false) (sg : s.sn ≤ 0) :
    Calls Try.prog 15 #[.agg #[.int .i64 la, .slice a ts.length cap], t.val] w fun e w' => ∃ (v : Value) (us' : List Hd), e = .returned (.agg #[.int .i64 la, v]) ∧ us'.map Hd.key = ts.map Hd.key ∧ BkOwn w' w.heap.size v us' ∧ Below w.heap.size w w' := by
  obtain ⟨W0, hW0⟩ : ∃ W0, ((w.alloc (.cells #[.int .i64 la, .slice a ts.length cap] 37)).alloc (.cells #[.int .i64 t.k, .string t.nm, .int .i64 t.n, .int .i64 t.p.q, .int .i64 t.p.s, .slice t.p.a t.p.l.length t.p.cap, .int .i64 t.p.fr, .int .i64 t.p.b] 32)).alloc (.cells #[.int .i64 0, .slice none 0 0] 37) = W0 := ⟨_, rfl⟩
  have B0 : Below w.heap.size w W0 := by rw [← hW0]; exact bel3 _ _ _
  have A0 : Bx W0 w.heap.size #[.int .i64 la, .slice a ts.length cap] := by rw [← hW0]; exact ((Bx.new w #[.int .i64 la, .slice a ts.length cap] 37).keep (bel1 _)).keep (bel1 _)
  have T0 : Bx W0 (w.heap.size + 1) #[.int .i64 t.k, .string t.nm, .int .i64 t.n, .int .i64 t.p.q, .int .i64 t.p.s, .slice t.p.a t.p.l.length t.p.cap, .int .i64 t.p.fr, .int .i64 t.p.b] := by
    rw [← hW0]
    have h := (Bx.new (w.alloc (.cells #[.int .i64 la, .slice a ts.length cap] 37)) #[.int .i64 t.k, .string t.nm, .int .i64 t.n, .int .i64 t.p.q, .int .i64 t.p.s, .slice t.p.a t.p.l.length t.p.cap, .int .i64 t.p.fr, .int .i64 t.p.b] 32).keep (bel1 (.cells #[.int .i64 0, .slice none 0 0] 37))
    rwa [World.size_alloc] at h
  have R0 : Bx W0 (w.heap.size + 1 + 1) #[.int .i64 0, .slice none 0 0] := by
    rw [← hW0]
    have h := Bx.new ((w.alloc (.cells #[.int .i64 la, .slice a ts.length cap] 37)).alloc (.cells #[.int .i64 t.k, .string t.nm, .int .i64 t.n, .int .i64 t.p.q, .int .i64 t.p.s, .slice t.p.a t.p.l.length t.p.cap, .int .i64 t.p.fr, .int .i64 t.p.b] 32)) #[.int .i64 0, .slice none 0 0] 37
    rwa [World.size_alloc, World.size_alloc] at h
  have x0 : W0.cell? ⟨w.heap.size, 0, none⟩ = some (.int .i64 la) := A0.c 0
  have x1 : W0.cell? ⟨w.heap.size, 1, none⟩ = some (.slice a ts.length cap) := A0.c 1
  have zR := R0.lt
  go_enter Try.func15, Try.ntmps15
  go_wp2_with fail
  refine (copyBS_any la a b o cap ts _ hl hsm (hs.below B0)).mono ?_
  rintro e w1 ⟨v1, us, rfl, hk, O1, hb1⟩
  have HK : Hid (us.map Hd.key = ts.map Hd.key) := hk
  obtain ⟨a1, c1, rfl⟩ := own_slice O1.row
  have KK := bel1 (w := w1) (.cells #[.int .i64 la, .slice a1 us.length c1] 37)
  have N1 := O1.lt
  have H1 : HsW w (w1.alloc (.cells #[.int .i64 la, .slice a1 us.length c1] 37)) t w1.heap.size la (.slice a1 us.length c1) us := by
    have hz := hb1.size
    have B1 := B0.trans (hb1.mono B0.size)
    exact ⟨B1.trans (KK.mono B1.size), (T0.keep hb1).keep KK, (R0.keep hb1).keep KK, Bx.new w1 _ _, (O1.below KK).lower (by omega), by omega, fun hk => by have := (N1 _ hk).2; omega⟩
  have A1 := (A0.keep hb1).keep KK
  have HB1 : Hid (Below W0.heap.size W0 (w1.alloc (.cells #[.int .i64 la, .slice a1 us.length c1] 37))) := hb1.trans (KK.mono hb1.size)
  have u1 : w1.heap.size ≠ w.heap.size := by have := hb1.size; omega
  have na : ∀ (ob : Obj) (j : Nat), (w1.alloc ob).cell? ⟨w.heap.size, j, none⟩ = w1.cell? ⟨w.heap.size, j, none⟩ := fun ob j => (bel1 ob).cell (p := ⟨w.heap.size, j, none⟩) (show w.heap.size < w1.heap.size by have := hb1.size; omega)
  have nb : ∀ (ob : Obj) (j : Nat), (w1.alloc ob).cell? ⟨w.heap.size + 1, j, none⟩ = w1.cell? ⟨w.heap.size + 1, j, none⟩ := fun ob j => (bel1 ob).cell (p := ⟨w.heap.size + 1, j, none⟩) (show w.heap.size + 1 < w1.heap.size by have := hb1.size; omega)
  have A1' := A0.keep hb1
  have T1' := T0.keep hb1
  clear hW0 x0 x1 hk O1 KK N1 hb1
  have x0 : w1.cell? ⟨w.heap.size, 0, none⟩ = some (.int .i64 la) := A1'.c 0
  have x1 : w1.cell? ⟨w.heap.size, 1, none⟩ = some (.slice a ts.length cap) := A1'.c 1
  have t1 : w1.cell? ⟨w.heap.size + 1, 1, none⟩ = some (.string t.nm) := T1'.c 1
  go_wp2_with fail
  refine (atS_first la a b o cap ts t.nm _ hl (hs.below H1.old)).mono ?_
  rintro e w2 ⟨p, rfl, hp, hb2⟩
  have H2 := H1.keep hb2
  have A2 := A1.keep hb2
  clear x0 x1 t1 H1 A1 A1' T1' hb2 na nb u1 HB1 A0 T0 R0
  have q3 : (t.n != s.sn) = true := by unfold bne; rw [q2]; rfl
  have ep : p = (i : Int) := by
    rcases hp with ⟨rfl, hz⟩ | ⟨k, u, rfl, hu, hn, hz⟩
    · exact absurd hsn (hz i s (List.getElem?_eq_some_iff.1 hsi).1 hsi)
    · rw [NoneTo.one hz hu hn hf hsi hsn]
  subst ep
  have hil : i < ts.length := (List.getElem?_eq_some_iff.1 hsi).1
  have hne : ts ≠ [] := by intro e; subst e; simp at hil
  obtain rfl := hs.here hne
  have hbl : b < w.heap.size := hs.lt hne
  have HUL : Hid (us.length = ts.length) := len_keys HK.out
  have hil' : i < us.length := by rw [HUL.out]; exact hil
  have hul : us.length ≤ 1048576 := by rw [HUL.out]; exact hl
  obtain ⟨u, hu⟩ : ∃ u, us[i]? = some u := ⟨us[i], List.getElem?_eq_getElem hil'⟩
  have EK : Hid (u.key = s.key) := by
    have e := congrArg (fun l => l[i]?) HK.out
    simp only [List.getElem?_map, hu, hsi, Option.map_some, Option.some.injEq] at e
    exact e
  have HSI : Hid (ts[i]? = some s) := hsi
  have HU : Hid (us[i]? = some u) := hu
  have i0 : (0 : Int) ≤ (i : Int) := by omega
  have i1 : (i : Int) < (ts.length : Int) := by omega
  have i2 : ¬ (i : Int) < 0 := by omega
  have i3 : (i : Int) < (us.length : Int) := by omega
  have x1 : w2.cell? ⟨w.heap.size, 1, none⟩ = some (.slice (some ⟨b, o, none⟩) ts.length cap) := A2.c 1
  obtain ⟨e0, e1, e2, e3, e4, e5, e6, e7, e8, e9, e10, e11, e12⟩ := cl_cells ((hs.below H2.old).cell i s hsi)
  obtain ⟨W3, hW3⟩ : ∃ W3, w2.alloc (.cells #[.string s.nm, .int .i64 s.n, .int .i64 s.p.q, .int .i64 s.p.s, .slice s.p.a s.p.l.length s.p.cap, .int .i64 s.p.fr, .int .i64 s.p.b, .int .i64 s.sn, .int .i64 s.x.q, .int .i64 s.x.s, .slice s.x.a s.x.l.length s.x.cap, .int .i64 s.x.fr, .int .i64 s.x.b] 58) = W3 := ⟨_, rfl⟩
  have KS : Below w2.heap.size w2 W3 := by rw [← hW3]; exact bel1 _
  have H3 := H2.keep KS
  have S3 : Bx W3 w2.heap.size #[.string s.nm, .int .i64 s.n, .int .i64 s.p.q, .int .i64 s.p.s, .slice s.p.a s.p.l.length s.p.cap, .int .i64 s.p.fr, .int .i64 s.p.b, .int .i64 s.sn, .int .i64 s.x.q, .int .i64 s.x.s, .slice s.x.a s.x.l.length s.x.cap, .int .i64 s.x.fr, .int .i64 s.x.b] := by rw [← hW3]; exact Bx.new w2 _ _
  have d0 : W3.cell? ⟨w.heap.size + 1, 0, none⟩ = some (.int .i64 t.k) := H3.wd.c 0
  have d2 : W3.cell? ⟨w.heap.size + 1, 2, none⟩ = some (.int .i64 t.n) := H3.wd.c 2
  have d3 : W3.cell? ⟨w2.heap.size, 1, none⟩ = some (.int .i64 s.n) := S3.c 1
  have d4 : W3.cell? ⟨w2.heap.size, 7, none⟩ = some (.int .i64 s.sn) := S3.c 7
  have y0 : W3.cell? ⟨w1.heap.size, 0, none⟩ = some (.int .i64 la) := H3.bk.c 0
  have y1 : W3.cell? ⟨w1.heap.size, 1, none⟩ = some (.slice a1 us.length c1) := H3.bk.c 1
  have r0 : W3.cell? ⟨w.heap.size + 1 + 1, 0, none⟩ = some (.int .i64 0) := H3.res.c 0
  have r1 : W3.cell? ⟨w.heap.size + 1 + 1, 1, none⟩ = some (.slice none 0 0) := H3.res.c 1
  have rf := H3.res.f
  have HSN : Hid (s.nm = t.nm) := hsn
  clear hsi hp hf hu hsn
  obtain ⟨f1, f2⟩ := H3.fin
  have F1 : Hid (BkOwn ((W3.setCell ⟨w.heap.size + 1 + 1, 0, none⟩ (.int .i64 la)).setCell ⟨w.heap.size + 1 + 1, 1, none⟩ (.slice a1 us.length c1)) w.heap.size (.slice a1 us.length c1) us) := f1
  have F2 : Hid (Below w.heap.size w ((W3.setCell ⟨w.heap.size + 1 + 1, 0, none⟩ (.int .i64 la)).setCell ⟨w.heap.size + 1 + 1, 1, none⟩ (.slice a1 us.length c1))) := f2
  clear f1 f2 H3 S3 KS
  go_wp2
  refine bodyPost_ret (v := .agg #[.int .i64 la, .slice a1 us.length c1]) (by simp [results, Try.results15, go_sem, *]) rfl ⟨_, us, rfl, HK.out, F1.out, F2.out⟩

set_option maxRecDepth 40000 in
set_option maxHeartbeats 4000000 in
theorem hearS_keep6_2 (la : Int) (a : Option Addr) (b o cap : Nat) (ts : List Hd) (t : Wd) (w : World) (hl : ts.length ≤ 1048576) (hsm : ∀ t ∈ ts, t.p.l.length ≤ 1048576 ∧ t.x.l.length ≤ 1048576) (hs : HdsAt w a b o ts) (i : Nat) (s : Hd) (hsi : ts[i]? = some s) (hsn : s.nm = t.nm) (hf : NoneTo ts t.nm i) (k6 : (t.k == 6) = true) (q1 : (t.n == s.n) = false) (q2 : (t.n == s.sn) = false) (sg : 0 < s.sn) :
    Calls Try.prog 15 #[.agg #[.int .i64 la, .slice a ts.length cap], t.val] w fun e w' => ∃ (v : Value) (us' : List Hd), e = .returned (.agg #[.int .i64 la, v]) ∧ us'.map Hd.key = ts.map Hd.key ∧ BkOwn w' w.heap.size v us' ∧ Below w.heap.size w w' := by
  obtain ⟨W0, hW0⟩ : ∃ W0, ((w.alloc (.cells #[.int .i64 la, .slice a ts.length cap] 37)).alloc (.cells #[.int .i64 t.k, .string t.nm, .int .i64 t.n, .int .i64 t.p.q, .int .i64 t.p.s, .slice t.p.a t.p.l.length t.p.cap, .int .i64 t.p.fr, .int .i64 t.p.b] 32)).alloc (.cells #[.int .i64 0, .slice none 0 0] 37) = W0 := ⟨_, rfl⟩
  have B0 : Below w.heap.size w W0 := by rw [← hW0]; exact bel3 _ _ _
  have A0 : Bx W0 w.heap.size #[.int .i64 la, .slice a ts.length cap] := by rw [← hW0]; exact ((Bx.new w #[.int .i64 la, .slice a ts.length cap] 37).keep (bel1 _)).keep (bel1 _)
  have T0 : Bx W0 (w.heap.size + 1) #[.int .i64 t.k, .string t.nm, .int .i64 t.n, .int .i64 t.p.q, .int .i64 t.p.s, .slice t.p.a t.p.l.length t.p.cap, .int .i64 t.p.fr, .int .i64 t.p.b] := by
    rw [← hW0]
    have h := (Bx.new (w.alloc (.cells #[.int .i64 la, .slice a ts.length cap] 37)) #[.int .i64 t.k, .string t.nm, .int .i64 t.n, .int .i64 t.p.q, .int .i64 t.p.s, .slice t.p.a t.p.l.length t.p.cap, .int .i64 t.p.fr, .int .i64 t.p.b] 32).keep (bel1 (.cells #[.int .i64 0, .slice none 0 0] 37))
    rwa [World.size_alloc] at h
  have R0 : Bx W0 (w.heap.size + 1 + 1) #[.int .i64 0, .slice none 0 0] := by
    rw [← hW0]
    have h := Bx.new ((w.alloc (.cells #[.int .i64 la, .slice a ts.length cap] 37)).alloc (.cells #[.int .i64 t.k, .string t.nm, .int .i64 t.n, .int .i64 t.p.q, .int .i64 t.p.s, .slice t.p.a t.p.l.length t.p.cap, .int .i64 t.p.fr, .int .i64 t.p.b] 32)) #[.int .i64 0, .slice none 0 0] 37
    rwa [World.size_alloc, World.size_alloc] at h
  have x0 : W0.cell? ⟨w.heap.size, 0, none⟩ = some (.int .i64 la) := A0.c 0
  have x1 : W0.cell? ⟨w.heap.size, 1, none⟩ = some (.slice a ts.length cap) := A0.c 1
  have zR := R0.lt
  go_enter Try.func15, Try.ntmps15
  go_wp2_with fail
  refine (copyBS_any la a b o cap ts _ hl hsm (hs.below B0)).mono ?_
  rintro e w1 ⟨v1, us, rfl, hk, O1, hb1⟩
  have HK : Hid (us.map Hd.key = ts.map Hd.key) := hk
  obtain ⟨a1, c1, rfl⟩ := own_slice O1.row
  have KK := bel1 (w := w1) (.cells #[.int .i64 la, .slice a1 us.length c1] 37)
  have N1 := O1.lt
  have H1 : HsW w (w1.alloc (.cells #[.int .i64 la, .slice a1 us.length c1] 37)) t w1.heap.size la (.slice a1 us.length c1) us := by
    have hz := hb1.size
    have B1 := B0.trans (hb1.mono B0.size)
    exact ⟨B1.trans (KK.mono B1.size), (T0.keep hb1).keep KK, (R0.keep hb1).keep KK, Bx.new w1 _ _, (O1.below KK).lower (by omega), by omega, fun hk => by have := (N1 _ hk).2; omega⟩
  have A1 := (A0.keep hb1).keep KK
  have HB1 : Hid (Below W0.heap.size W0 (w1.alloc (.cells #[.int .i64 la, .slice a1 us.length c1] 37))) := hb1.trans (KK.mono hb1.size)
  have u1 : w1.heap.size ≠ w.heap.size := by have := hb1.size; omega
  have na : ∀ (ob : Obj) (j : Nat), (w1.alloc ob).cell? ⟨w.heap.size, j, none⟩ = w1.cell? ⟨w.heap.size, j, none⟩ := fun ob j => (bel1 ob).cell (p := ⟨w.heap.size, j, none⟩) (show w.heap.size < w1.heap.size by have := hb1.size; omega)
  have nb : ∀ (ob : Obj) (j : Nat), (w1.alloc ob).cell? ⟨w.heap.size + 1, j, none⟩ = w1.cell? ⟨w.heap.size + 1, j, none⟩ := fun ob j => (bel1 ob).cell (p := ⟨w.heap.size + 1, j, none⟩) (show w.heap.size + 1 < w1.heap.size by have := hb1.size; omega)
  have A1' := A0.keep hb1
  have T1' := T0.keep hb1
  clear hW0 x0 x1 hk O1 KK N1 hb1
  have x0 : w1.cell? ⟨w.heap.size, 0, none⟩ = some (.int .i64 la) := A1'.c 0
  have x1 : w1.cell? ⟨w.heap.size, 1, none⟩ = some (.slice a ts.length cap) := A1'.c 1
  have t1 : w1.cell? ⟨w.heap.size + 1, 1, none⟩ = some (.string t.nm) := T1'.c 1
  go_wp2_with fail
  refine (atS_first la a b o cap ts t.nm _ hl (hs.below H1.old)).mono ?_
  rintro e w2 ⟨p, rfl, hp, hb2⟩
  have H2 := H1.keep hb2
  have A2 := A1.keep hb2
  clear x0 x1 t1 H1 A1 A1' T1' hb2 na nb u1 HB1 A0 T0 R0
  have q3 : (t.n != s.sn) = true := by unfold bne; rw [q2]; rfl
  have ep : p = (i : Int) := by
    rcases hp with ⟨rfl, hz⟩ | ⟨k, u, rfl, hu, hn, hz⟩
    · exact absurd hsn (hz i s (List.getElem?_eq_some_iff.1 hsi).1 hsi)
    · rw [NoneTo.one hz hu hn hf hsi hsn]
  subst ep
  have hil : i < ts.length := (List.getElem?_eq_some_iff.1 hsi).1
  have hne : ts ≠ [] := by intro e; subst e; simp at hil
  obtain rfl := hs.here hne
  have hbl : b < w.heap.size := hs.lt hne
  have HUL : Hid (us.length = ts.length) := len_keys HK.out
  have hil' : i < us.length := by rw [HUL.out]; exact hil
  have hul : us.length ≤ 1048576 := by rw [HUL.out]; exact hl
  obtain ⟨u, hu⟩ : ∃ u, us[i]? = some u := ⟨us[i], List.getElem?_eq_getElem hil'⟩
  have EK : Hid (u.key = s.key) := by
    have e := congrArg (fun l => l[i]?) HK.out
    simp only [List.getElem?_map, hu, hsi, Option.map_some, Option.some.injEq] at e
    exact e
  have HSI : Hid (ts[i]? = some s) := hsi
  have HU : Hid (us[i]? = some u) := hu
  have i0 : (0 : Int) ≤ (i : Int) := by omega
  have i1 : (i : Int) < (ts.length : Int) := by omega
  have i2 : ¬ (i : Int) < 0 := by omega
  have i3 : (i : Int) < (us.length : Int) := by omega
  have x1 : w2.cell? ⟨w.heap.size, 1, none⟩ = some (.slice (some ⟨b, o, none⟩) ts.length cap) := A2.c 1
  obtain ⟨e0, e1, e2, e3, e4, e5, e6, e7, e8, e9, e10, e11, e12⟩ := cl_cells ((hs.below H2.old).cell i s hsi)
  obtain ⟨W3, hW3⟩ : ∃ W3, w2.alloc (.cells #[.string s.nm, .int .i64 s.n, .int .i64 s.p.q, .int .i64 s.p.s, .slice s.p.a s.p.l.length s.p.cap, .int .i64 s.p.fr, .int .i64 s.p.b, .int .i64 s.sn, .int .i64 s.x.q, .int .i64 s.x.s, .slice s.x.a s.x.l.length s.x.cap, .int .i64 s.x.fr, .int .i64 s.x.b] 58) = W3 := ⟨_, rfl⟩
  have KS : Below w2.heap.size w2 W3 := by rw [← hW3]; exact bel1 _
  have H3 := H2.keep KS
  have S3 : Bx W3 w2.heap.size #[.string s.nm, .int .i64 s.n, .int .i64 s.p.q, .int .i64 s.p.s, .slice s.p.a s.p.l.length s.p.cap, .int .i64 s.p.fr, .int .i64 s.p.b, .int .i64 s.sn, .int .i64 s.x.q, .int .i64 s.x.s, .slice s.x.a s.x.l.length s.x.cap, .int .i64 s.x.fr, .int .i64 s.x.b] := by rw [← hW3]; exact Bx.new w2 _ _
  have d0 : W3.cell? ⟨w.heap.size + 1, 0, none⟩ = some (.int .i64 t.k) := H3.wd.c 0
  have d2 : W3.cell? ⟨w.heap.size + 1, 2, none⟩ = some (.int .i64 t.n) := H3.wd.c 2
  have d3 : W3.cell? ⟨w2.heap.size, 1, none⟩ = some (.int .i64 s.n) := S3.c 1
  have d4 : W3.cell? ⟨w2.heap.size, 7, none⟩ = some (.int .i64 s.sn) := S3.c 7
  have y0 : W3.cell? ⟨w1.heap.size, 0, none⟩ = some (.int .i64 la) := H3.bk.c 0
  have y1 : W3.cell? ⟨w1.heap.size, 1, none⟩ = some (.slice a1 us.length c1) := H3.bk.c 1
  have r0 : W3.cell? ⟨w.heap.size + 1 + 1, 0, none⟩ = some (.int .i64 0) := H3.res.c 0
  have r1 : W3.cell? ⟨w.heap.size + 1 + 1, 1, none⟩ = some (.slice none 0 0) := H3.res.c 1
  have rf := H3.res.f
  have HSN : Hid (s.nm = t.nm) := hsn
  clear hsi hp hf hu hsn
  obtain ⟨f1, f2⟩ := H3.fin
  have F1 : Hid (BkOwn ((W3.setCell ⟨w.heap.size + 1 + 1, 0, none⟩ (.int .i64 la)).setCell ⟨w.heap.size + 1 + 1, 1, none⟩ (.slice a1 us.length c1)) w.heap.size (.slice a1 us.length c1) us) := f1
  have F2 : Hid (Below w.heap.size w ((W3.setCell ⟨w.heap.size + 1 + 1, 0, none⟩ (.int .i64 la)).setCell ⟨w.heap.size + 1 + 1, 1, none⟩ (.slice a1 us.length c1))) := f2
  clear f1 f2 H3 S3 KS
  go_wp2
  refine bodyPost_ret (v := .agg #[.int .i64 la, .slice a1 us.length c1]) (by simp [results, Try.results15, go_sem, *]) rfl ⟨_, us, rfl, HK.out, F1.out, F2.out⟩

set_option maxRecDepth 40000 in
set_option maxHeartbeats 4000000 in
theorem hearS_keep6_3 (la : Int) (a : Option Addr) (b o cap : Nat) (ts : List Hd) (t : Wd) (w : World) (hl : ts.length ≤ 1048576) (hsm : ∀ t ∈ ts, t.p.l.length ≤ 1048576 ∧ t.x.l.length ≤ 1048576) (hs : HdsAt w a b o ts) (i : Nat) (s : Hd) (hsi : ts[i]? = some s) (hsn : s.nm = t.nm) (hf : NoneTo ts t.nm i) (k6 : (t.k == 6) = true) (q1 : (t.n == s.n) = false) (q2 : (t.n == s.sn) = true) (sg : s.sn ≤ 0) :
    Calls Try.prog 15 #[.agg #[.int .i64 la, .slice a ts.length cap], t.val] w fun e w' => ∃ (v : Value) (us' : List Hd), e = .returned (.agg #[.int .i64 la, v]) ∧ us'.map Hd.key = ts.map Hd.key ∧ BkOwn w' w.heap.size v us' ∧ Below w.heap.size w w' := by
  obtain ⟨W0, hW0⟩ : ∃ W0, ((w.alloc (.cells #[.int .i64 la, .slice a ts.length cap] 37)).alloc (.cells #[.int .i64 t.k, .string t.nm, .int .i64 t.n, .int .i64 t.p.q, .int .i64 t.p.s, .slice t.p.a t.p.l.length t.p.cap, .int .i64 t.p.fr, .int .i64 t.p.b] 32)).alloc (.cells #[.int .i64 0, .slice none 0 0] 37) = W0 := ⟨_, rfl⟩
  have B0 : Below w.heap.size w W0 := by rw [← hW0]; exact bel3 _ _ _
  have A0 : Bx W0 w.heap.size #[.int .i64 la, .slice a ts.length cap] := by rw [← hW0]; exact ((Bx.new w #[.int .i64 la, .slice a ts.length cap] 37).keep (bel1 _)).keep (bel1 _)
  have T0 : Bx W0 (w.heap.size + 1) #[.int .i64 t.k, .string t.nm, .int .i64 t.n, .int .i64 t.p.q, .int .i64 t.p.s, .slice t.p.a t.p.l.length t.p.cap, .int .i64 t.p.fr, .int .i64 t.p.b] := by
    rw [← hW0]
    have h := (Bx.new (w.alloc (.cells #[.int .i64 la, .slice a ts.length cap] 37)) #[.int .i64 t.k, .string t.nm, .int .i64 t.n, .int .i64 t.p.q, .int .i64 t.p.s, .slice t.p.a t.p.l.length t.p.cap, .int .i64 t.p.fr, .int .i64 t.p.b] 32).keep (bel1 (.cells #[.int .i64 0, .slice none 0 0] 37))
    rwa [World.size_alloc] at h
  have R0 : Bx W0 (w.heap.size + 1 + 1) #[.int .i64 0, .slice none 0 0] := by
    rw [← hW0]
    have h := Bx.new ((w.alloc (.cells #[.int .i64 la, .slice a ts.length cap] 37)).alloc (.cells #[.int .i64 t.k, .string t.nm, .int .i64 t.n, .int .i64 t.p.q, .int .i64 t.p.s, .slice t.p.a t.p.l.length t.p.cap, .int .i64 t.p.fr, .int .i64 t.p.b] 32)) #[.int .i64 0, .slice none 0 0] 37
    rwa [World.size_alloc, World.size_alloc] at h
  have x0 : W0.cell? ⟨w.heap.size, 0, none⟩ = some (.int .i64 la) := A0.c 0
  have x1 : W0.cell? ⟨w.heap.size, 1, none⟩ = some (.slice a ts.length cap) := A0.c 1
  have zR := R0.lt
  go_enter Try.func15, Try.ntmps15
  go_wp2_with fail
  refine (copyBS_any la a b o cap ts _ hl hsm (hs.below B0)).mono ?_
  rintro e w1 ⟨v1, us, rfl, hk, O1, hb1⟩
  have HK : Hid (us.map Hd.key = ts.map Hd.key) := hk
  obtain ⟨a1, c1, rfl⟩ := own_slice O1.row
  have KK := bel1 (w := w1) (.cells #[.int .i64 la, .slice a1 us.length c1] 37)
  have N1 := O1.lt
  have H1 : HsW w (w1.alloc (.cells #[.int .i64 la, .slice a1 us.length c1] 37)) t w1.heap.size la (.slice a1 us.length c1) us := by
    have hz := hb1.size
    have B1 := B0.trans (hb1.mono B0.size)
    exact ⟨B1.trans (KK.mono B1.size), (T0.keep hb1).keep KK, (R0.keep hb1).keep KK, Bx.new w1 _ _, (O1.below KK).lower (by omega), by omega, fun hk => by have := (N1 _ hk).2; omega⟩
  have A1 := (A0.keep hb1).keep KK
  have HB1 : Hid (Below W0.heap.size W0 (w1.alloc (.cells #[.int .i64 la, .slice a1 us.length c1] 37))) := hb1.trans (KK.mono hb1.size)
  have u1 : w1.heap.size ≠ w.heap.size := by have := hb1.size; omega
  have na : ∀ (ob : Obj) (j : Nat), (w1.alloc ob).cell? ⟨w.heap.size, j, none⟩ = w1.cell? ⟨w.heap.size, j, none⟩ := fun ob j => (bel1 ob).cell (p := ⟨w.heap.size, j, none⟩) (show w.heap.size < w1.heap.size by have := hb1.size; omega)
  have nb : ∀ (ob : Obj) (j : Nat), (w1.alloc ob).cell? ⟨w.heap.size + 1, j, none⟩ = w1.cell? ⟨w.heap.size + 1, j, none⟩ := fun ob j => (bel1 ob).cell (p := ⟨w.heap.size + 1, j, none⟩) (show w.heap.size + 1 < w1.heap.size by have := hb1.size; omega)
  have A1' := A0.keep hb1
  have T1' := T0.keep hb1
  clear hW0 x0 x1 hk O1 KK N1 hb1
  have x0 : w1.cell? ⟨w.heap.size, 0, none⟩ = some (.int .i64 la) := A1'.c 0
  have x1 : w1.cell? ⟨w.heap.size, 1, none⟩ = some (.slice a ts.length cap) := A1'.c 1
  have t1 : w1.cell? ⟨w.heap.size + 1, 1, none⟩ = some (.string t.nm) := T1'.c 1
  go_wp2_with fail
  refine (atS_first la a b o cap ts t.nm _ hl (hs.below H1.old)).mono ?_
  rintro e w2 ⟨p, rfl, hp, hb2⟩
  have H2 := H1.keep hb2
  have A2 := A1.keep hb2
  clear x0 x1 t1 H1 A1 A1' T1' hb2 na nb u1 HB1 A0 T0 R0
  have q3 : (t.n != s.sn) = false := by unfold bne; rw [q2]; rfl
  have ep : p = (i : Int) := by
    rcases hp with ⟨rfl, hz⟩ | ⟨k, u, rfl, hu, hn, hz⟩
    · exact absurd hsn (hz i s (List.getElem?_eq_some_iff.1 hsi).1 hsi)
    · rw [NoneTo.one hz hu hn hf hsi hsn]
  subst ep
  have hil : i < ts.length := (List.getElem?_eq_some_iff.1 hsi).1
  have hne : ts ≠ [] := by intro e; subst e; simp at hil
  obtain rfl := hs.here hne
  have hbl : b < w.heap.size := hs.lt hne
  have HUL : Hid (us.length = ts.length) := len_keys HK.out
  have hil' : i < us.length := by rw [HUL.out]; exact hil
  have hul : us.length ≤ 1048576 := by rw [HUL.out]; exact hl
  obtain ⟨u, hu⟩ : ∃ u, us[i]? = some u := ⟨us[i], List.getElem?_eq_getElem hil'⟩
  have EK : Hid (u.key = s.key) := by
    have e := congrArg (fun l => l[i]?) HK.out
    simp only [List.getElem?_map, hu, hsi, Option.map_some, Option.some.injEq] at e
    exact e
  have HSI : Hid (ts[i]? = some s) := hsi
  have HU : Hid (us[i]? = some u) := hu
  have i0 : (0 : Int) ≤ (i : Int) := by omega
  have i1 : (i : Int) < (ts.length : Int) := by omega
  have i2 : ¬ (i : Int) < 0 := by omega
  have i3 : (i : Int) < (us.length : Int) := by omega
  have x1 : w2.cell? ⟨w.heap.size, 1, none⟩ = some (.slice (some ⟨b, o, none⟩) ts.length cap) := A2.c 1
  obtain ⟨e0, e1, e2, e3, e4, e5, e6, e7, e8, e9, e10, e11, e12⟩ := cl_cells ((hs.below H2.old).cell i s hsi)
  obtain ⟨W3, hW3⟩ : ∃ W3, w2.alloc (.cells #[.string s.nm, .int .i64 s.n, .int .i64 s.p.q, .int .i64 s.p.s, .slice s.p.a s.p.l.length s.p.cap, .int .i64 s.p.fr, .int .i64 s.p.b, .int .i64 s.sn, .int .i64 s.x.q, .int .i64 s.x.s, .slice s.x.a s.x.l.length s.x.cap, .int .i64 s.x.fr, .int .i64 s.x.b] 58) = W3 := ⟨_, rfl⟩
  have KS : Below w2.heap.size w2 W3 := by rw [← hW3]; exact bel1 _
  have H3 := H2.keep KS
  have S3 : Bx W3 w2.heap.size #[.string s.nm, .int .i64 s.n, .int .i64 s.p.q, .int .i64 s.p.s, .slice s.p.a s.p.l.length s.p.cap, .int .i64 s.p.fr, .int .i64 s.p.b, .int .i64 s.sn, .int .i64 s.x.q, .int .i64 s.x.s, .slice s.x.a s.x.l.length s.x.cap, .int .i64 s.x.fr, .int .i64 s.x.b] := by rw [← hW3]; exact Bx.new w2 _ _
  have d0 : W3.cell? ⟨w.heap.size + 1, 0, none⟩ = some (.int .i64 t.k) := H3.wd.c 0
  have d2 : W3.cell? ⟨w.heap.size + 1, 2, none⟩ = some (.int .i64 t.n) := H3.wd.c 2
  have d3 : W3.cell? ⟨w2.heap.size, 1, none⟩ = some (.int .i64 s.n) := S3.c 1
  have d4 : W3.cell? ⟨w2.heap.size, 7, none⟩ = some (.int .i64 s.sn) := S3.c 7
  have y0 : W3.cell? ⟨w1.heap.size, 0, none⟩ = some (.int .i64 la) := H3.bk.c 0
  have y1 : W3.cell? ⟨w1.heap.size, 1, none⟩ = some (.slice a1 us.length c1) := H3.bk.c 1
  have r0 : W3.cell? ⟨w.heap.size + 1 + 1, 0, none⟩ = some (.int .i64 0) := H3.res.c 0
  have r1 : W3.cell? ⟨w.heap.size + 1 + 1, 1, none⟩ = some (.slice none 0 0) := H3.res.c 1
  have rf := H3.res.f
  have HSN : Hid (s.nm = t.nm) := hsn
  clear hsi hp hf hu hsn
  obtain ⟨f1, f2⟩ := H3.fin
  have F1 : Hid (BkOwn ((W3.setCell ⟨w.heap.size + 1 + 1, 0, none⟩ (.int .i64 la)).setCell ⟨w.heap.size + 1 + 1, 1, none⟩ (.slice a1 us.length c1)) w.heap.size (.slice a1 us.length c1) us) := f1
  have F2 : Hid (Below w.heap.size w ((W3.setCell ⟨w.heap.size + 1 + 1, 0, none⟩ (.int .i64 la)).setCell ⟨w.heap.size + 1 + 1, 1, none⟩ (.slice a1 us.length c1))) := f2
  clear f1 f2 H3 S3 KS
  go_wp2
  refine bodyPost_ret (v := .agg #[.int .i64 la, .slice a1 us.length c1]) (by simp [results, Try.results15, go_sem, *]) rfl ⟨_, us, rfl, HK.out, F1.out, F2.out⟩

set_option maxRecDepth 40000 in
set_option maxHeartbeats 4000000 in
theorem hearS_keepx_1 (la : Int) (a : Option Addr) (b o cap : Nat) (ts : List Hd) (t : Wd) (w : World) (hl : ts.length ≤ 1048576) (hsm : ∀ t ∈ ts, t.p.l.length ≤ 1048576 ∧ t.x.l.length ≤ 1048576) (hs : HdsAt w a b o ts) (i : Nat) (s : Hd) (hsi : ts[i]? = some s) (hsn : s.nm = t.nm) (hf : NoneTo ts t.nm i) (k6 : (t.k == 6) = false) (sg : s.sn ≤ 0) :
    Calls Try.prog 15 #[.agg #[.int .i64 la, .slice a ts.length cap], t.val] w fun e w' => ∃ (v : Value) (us' : List Hd), e = .returned (.agg #[.int .i64 la, v]) ∧ us'.map Hd.key = ts.map Hd.key ∧ BkOwn w' w.heap.size v us' ∧ Below w.heap.size w w' := by
  obtain ⟨W0, hW0⟩ : ∃ W0, ((w.alloc (.cells #[.int .i64 la, .slice a ts.length cap] 37)).alloc (.cells #[.int .i64 t.k, .string t.nm, .int .i64 t.n, .int .i64 t.p.q, .int .i64 t.p.s, .slice t.p.a t.p.l.length t.p.cap, .int .i64 t.p.fr, .int .i64 t.p.b] 32)).alloc (.cells #[.int .i64 0, .slice none 0 0] 37) = W0 := ⟨_, rfl⟩
  have B0 : Below w.heap.size w W0 := by rw [← hW0]; exact bel3 _ _ _
  have A0 : Bx W0 w.heap.size #[.int .i64 la, .slice a ts.length cap] := by rw [← hW0]; exact ((Bx.new w #[.int .i64 la, .slice a ts.length cap] 37).keep (bel1 _)).keep (bel1 _)
  have T0 : Bx W0 (w.heap.size + 1) #[.int .i64 t.k, .string t.nm, .int .i64 t.n, .int .i64 t.p.q, .int .i64 t.p.s, .slice t.p.a t.p.l.length t.p.cap, .int .i64 t.p.fr, .int .i64 t.p.b] := by
    rw [← hW0]
    have h := (Bx.new (w.alloc (.cells #[.int .i64 la, .slice a ts.length cap] 37)) #[.int .i64 t.k, .string t.nm, .int .i64 t.n, .int .i64 t.p.q, .int .i64 t.p.s, .slice t.p.a t.p.l.length t.p.cap, .int .i64 t.p.fr, .int .i64 t.p.b] 32).keep (bel1 (.cells #[.int .i64 0, .slice none 0 0] 37))
    rwa [World.size_alloc] at h
  have R0 : Bx W0 (w.heap.size + 1 + 1) #[.int .i64 0, .slice none 0 0] := by
    rw [← hW0]
    have h := Bx.new ((w.alloc (.cells #[.int .i64 la, .slice a ts.length cap] 37)).alloc (.cells #[.int .i64 t.k, .string t.nm, .int .i64 t.n, .int .i64 t.p.q, .int .i64 t.p.s, .slice t.p.a t.p.l.length t.p.cap, .int .i64 t.p.fr, .int .i64 t.p.b] 32)) #[.int .i64 0, .slice none 0 0] 37
    rwa [World.size_alloc, World.size_alloc] at h
  have x0 : W0.cell? ⟨w.heap.size, 0, none⟩ = some (.int .i64 la) := A0.c 0
  have x1 : W0.cell? ⟨w.heap.size, 1, none⟩ = some (.slice a ts.length cap) := A0.c 1
  have zR := R0.lt
  go_enter Try.func15, Try.ntmps15
  go_wp2_with fail
  refine (copyBS_any la a b o cap ts _ hl hsm (hs.below B0)).mono ?_
  rintro e w1 ⟨v1, us, rfl, hk, O1, hb1⟩
  have HK : Hid (us.map Hd.key = ts.map Hd.key) := hk
  obtain ⟨a1, c1, rfl⟩ := own_slice O1.row
  have KK := bel1 (w := w1) (.cells #[.int .i64 la, .slice a1 us.length c1] 37)
  have N1 := O1.lt
  have H1 : HsW w (w1.alloc (.cells #[.int .i64 la, .slice a1 us.length c1] 37)) t w1.heap.size la (.slice a1 us.length c1) us := by
    have hz := hb1.size
    have B1 := B0.trans (hb1.mono B0.size)
    exact ⟨B1.trans (KK.mono B1.size), (T0.keep hb1).keep KK, (R0.keep hb1).keep KK, Bx.new w1 _ _, (O1.below KK).lower (by omega), by omega, fun hk => by have := (N1 _ hk).2; omega⟩
  have A1 := (A0.keep hb1).keep KK
  have HB1 : Hid (Below W0.heap.size W0 (w1.alloc (.cells #[.int .i64 la, .slice a1 us.length c1] 37))) := hb1.trans (KK.mono hb1.size)
  have u1 : w1.heap.size ≠ w.heap.size := by have := hb1.size; omega
  have na : ∀ (ob : Obj) (j : Nat), (w1.alloc ob).cell? ⟨w.heap.size, j, none⟩ = w1.cell? ⟨w.heap.size, j, none⟩ := fun ob j => (bel1 ob).cell (p := ⟨w.heap.size, j, none⟩) (show w.heap.size < w1.heap.size by have := hb1.size; omega)
  have nb : ∀ (ob : Obj) (j : Nat), (w1.alloc ob).cell? ⟨w.heap.size + 1, j, none⟩ = w1.cell? ⟨w.heap.size + 1, j, none⟩ := fun ob j => (bel1 ob).cell (p := ⟨w.heap.size + 1, j, none⟩) (show w.heap.size + 1 < w1.heap.size by have := hb1.size; omega)
  have A1' := A0.keep hb1
  have T1' := T0.keep hb1
  clear hW0 x0 x1 hk O1 KK N1 hb1
  have x0 : w1.cell? ⟨w.heap.size, 0, none⟩ = some (.int .i64 la) := A1'.c 0
  have x1 : w1.cell? ⟨w.heap.size, 1, none⟩ = some (.slice a ts.length cap) := A1'.c 1
  have t1 : w1.cell? ⟨w.heap.size + 1, 1, none⟩ = some (.string t.nm) := T1'.c 1
  go_wp2_with fail
  refine (atS_first la a b o cap ts t.nm _ hl (hs.below H1.old)).mono ?_
  rintro e w2 ⟨p, rfl, hp, hb2⟩
  have H2 := H1.keep hb2
  have A2 := A1.keep hb2
  clear x0 x1 t1 H1 A1 A1' T1' hb2 na nb u1 HB1 A0 T0 R0
  have ep : p = (i : Int) := by
    rcases hp with ⟨rfl, hz⟩ | ⟨k, u, rfl, hu, hn, hz⟩
    · exact absurd hsn (hz i s (List.getElem?_eq_some_iff.1 hsi).1 hsi)
    · rw [NoneTo.one hz hu hn hf hsi hsn]
  subst ep
  have hil : i < ts.length := (List.getElem?_eq_some_iff.1 hsi).1
  have hne : ts ≠ [] := by intro e; subst e; simp at hil
  obtain rfl := hs.here hne
  have hbl : b < w.heap.size := hs.lt hne
  have HUL : Hid (us.length = ts.length) := len_keys HK.out
  have hil' : i < us.length := by rw [HUL.out]; exact hil
  have hul : us.length ≤ 1048576 := by rw [HUL.out]; exact hl
  obtain ⟨u, hu⟩ : ∃ u, us[i]? = some u := ⟨us[i], List.getElem?_eq_getElem hil'⟩
  have EK : Hid (u.key = s.key) := by
    have e := congrArg (fun l => l[i]?) HK.out
    simp only [List.getElem?_map, hu, hsi, Option.map_some, Option.some.injEq] at e
    exact e
  have HSI : Hid (ts[i]? = some s) := hsi
  have HU : Hid (us[i]? = some u) := hu
  have i0 : (0 : Int) ≤ (i : Int) := by omega
  have i1 : (i : Int) < (ts.length : Int) := by omega
  have i2 : ¬ (i : Int) < 0 := by omega
  have i3 : (i : Int) < (us.length : Int) := by omega
  have x1 : w2.cell? ⟨w.heap.size, 1, none⟩ = some (.slice (some ⟨b, o, none⟩) ts.length cap) := A2.c 1
  obtain ⟨e0, e1, e2, e3, e4, e5, e6, e7, e8, e9, e10, e11, e12⟩ := cl_cells ((hs.below H2.old).cell i s hsi)
  obtain ⟨W3, hW3⟩ : ∃ W3, w2.alloc (.cells #[.string s.nm, .int .i64 s.n, .int .i64 s.p.q, .int .i64 s.p.s, .slice s.p.a s.p.l.length s.p.cap, .int .i64 s.p.fr, .int .i64 s.p.b, .int .i64 s.sn, .int .i64 s.x.q, .int .i64 s.x.s, .slice s.x.a s.x.l.length s.x.cap, .int .i64 s.x.fr, .int .i64 s.x.b] 58) = W3 := ⟨_, rfl⟩
  have KS : Below w2.heap.size w2 W3 := by rw [← hW3]; exact bel1 _
  have H3 := H2.keep KS
  have S3 : Bx W3 w2.heap.size #[.string s.nm, .int .i64 s.n, .int .i64 s.p.q, .int .i64 s.p.s, .slice s.p.a s.p.l.length s.p.cap, .int .i64 s.p.fr, .int .i64 s.p.b, .int .i64 s.sn, .int .i64 s.x.q, .int .i64 s.x.s, .slice s.x.a s.x.l.length s.x.cap, .int .i64 s.x.fr, .int .i64 s.x.b] := by rw [← hW3]; exact Bx.new w2 _ _
  have d0 : W3.cell? ⟨w.heap.size + 1, 0, none⟩ = some (.int .i64 t.k) := H3.wd.c 0
  have d2 : W3.cell? ⟨w.heap.size + 1, 2, none⟩ = some (.int .i64 t.n) := H3.wd.c 2
  have d3 : W3.cell? ⟨w2.heap.size, 1, none⟩ = some (.int .i64 s.n) := S3.c 1
  have d4 : W3.cell? ⟨w2.heap.size, 7, none⟩ = some (.int .i64 s.sn) := S3.c 7
  have y0 : W3.cell? ⟨w1.heap.size, 0, none⟩ = some (.int .i64 la) := H3.bk.c 0
  have y1 : W3.cell? ⟨w1.heap.size, 1, none⟩ = some (.slice a1 us.length c1) := H3.bk.c 1
  have r0 : W3.cell? ⟨w.heap.size + 1 + 1, 0, none⟩ = some (.int .i64 0) := H3.res.c 0
  have r1 : W3.cell? ⟨w.heap.size + 1 + 1, 1, none⟩ = some (.slice none 0 0) := H3.res.c 1
  have rf := H3.res.f
  have HSN : Hid (s.nm = t.nm) := hsn
  clear hsi hp hf hu hsn
  obtain ⟨f1, f2⟩ := H3.fin
  have F1 : Hid (BkOwn ((W3.setCell ⟨w.heap.size + 1 + 1, 0, none⟩ (.int .i64 la)).setCell ⟨w.heap.size + 1 + 1, 1, none⟩ (.slice a1 us.length c1)) w.heap.size (.slice a1 us.length c1) us) := f1
  have F2 : Hid (Below w.heap.size w ((W3.setCell ⟨w.heap.size + 1 + 1, 0, none⟩ (.int .i64 la)).setCell ⟨w.heap.size + 1 + 1, 1, none⟩ (.slice a1 us.length c1))) := f2
  clear f1 f2 H3 S3 KS
  go_wp2
  refine bodyPost_ret (v := .agg #[.int .i64 la, .slice a1 us.length c1]) (by simp [results, Try.results15, go_sem, *]) rfl ⟨_, us, rfl, HK.out, F1.out, F2.out⟩

set_option maxRecDepth 40000 in
set_option maxHeartbeats 4000000 in
theorem hearS_keepx_2 (la : Int) (a : Option Addr) (b o cap : Nat) (ts : List Hd) (t : Wd) (w : World) (hl : ts.length ≤ 1048576) (hsm : ∀ t ∈ ts, t.p.l.length ≤ 1048576 ∧ t.x.l.length ≤ 1048576) (hs : HdsAt w a b o ts) (i : Nat) (s : Hd) (hsi : ts[i]? = some s) (hsn : s.nm = t.nm) (hf : NoneTo ts t.nm i) (k6 : (t.k == 6) = false) (q2 : (t.n == s.sn) = false) (sg : 0 < s.sn) :
    Calls Try.prog 15 #[.agg #[.int .i64 la, .slice a ts.length cap], t.val] w fun e w' => ∃ (v : Value) (us' : List Hd), e = .returned (.agg #[.int .i64 la, v]) ∧ us'.map Hd.key = ts.map Hd.key ∧ BkOwn w' w.heap.size v us' ∧ Below w.heap.size w w' := by
  obtain ⟨W0, hW0⟩ : ∃ W0, ((w.alloc (.cells #[.int .i64 la, .slice a ts.length cap] 37)).alloc (.cells #[.int .i64 t.k, .string t.nm, .int .i64 t.n, .int .i64 t.p.q, .int .i64 t.p.s, .slice t.p.a t.p.l.length t.p.cap, .int .i64 t.p.fr, .int .i64 t.p.b] 32)).alloc (.cells #[.int .i64 0, .slice none 0 0] 37) = W0 := ⟨_, rfl⟩
  have B0 : Below w.heap.size w W0 := by rw [← hW0]; exact bel3 _ _ _
  have A0 : Bx W0 w.heap.size #[.int .i64 la, .slice a ts.length cap] := by rw [← hW0]; exact ((Bx.new w #[.int .i64 la, .slice a ts.length cap] 37).keep (bel1 _)).keep (bel1 _)
  have T0 : Bx W0 (w.heap.size + 1) #[.int .i64 t.k, .string t.nm, .int .i64 t.n, .int .i64 t.p.q, .int .i64 t.p.s, .slice t.p.a t.p.l.length t.p.cap, .int .i64 t.p.fr, .int .i64 t.p.b] := by
    rw [← hW0]
    have h := (Bx.new (w.alloc (.cells #[.int .i64 la, .slice a ts.length cap] 37)) #[.int .i64 t.k, .string t.nm, .int .i64 t.n, .int .i64 t.p.q, .int .i64 t.p.s, .slice t.p.a t.p.l.length t.p.cap, .int .i64 t.p.fr, .int .i64 t.p.b] 32).keep (bel1 (.cells #[.int .i64 0, .slice none 0 0] 37))
    rwa [World.size_alloc] at h
  have R0 : Bx W0 (w.heap.size + 1 + 1) #[.int .i64 0, .slice none 0 0] := by
    rw [← hW0]
    have h := Bx.new ((w.alloc (.cells #[.int .i64 la, .slice a ts.length cap] 37)).alloc (.cells #[.int .i64 t.k, .string t.nm, .int .i64 t.n, .int .i64 t.p.q, .int .i64 t.p.s, .slice t.p.a t.p.l.length t.p.cap, .int .i64 t.p.fr, .int .i64 t.p.b] 32)) #[.int .i64 0, .slice none 0 0] 37
    rwa [World.size_alloc, World.size_alloc] at h
  have x0 : W0.cell? ⟨w.heap.size, 0, none⟩ = some (.int .i64 la) := A0.c 0
  have x1 : W0.cell? ⟨w.heap.size, 1, none⟩ = some (.slice a ts.length cap) := A0.c 1
  have zR := R0.lt
  go_enter Try.func15, Try.ntmps15
  go_wp2_with fail
  refine (copyBS_any la a b o cap ts _ hl hsm (hs.below B0)).mono ?_
  rintro e w1 ⟨v1, us, rfl, hk, O1, hb1⟩
  have HK : Hid (us.map Hd.key = ts.map Hd.key) := hk
  obtain ⟨a1, c1, rfl⟩ := own_slice O1.row
  have KK := bel1 (w := w1) (.cells #[.int .i64 la, .slice a1 us.length c1] 37)
  have N1 := O1.lt
  have H1 : HsW w (w1.alloc (.cells #[.int .i64 la, .slice a1 us.length c1] 37)) t w1.heap.size la (.slice a1 us.length c1) us := by
    have hz := hb1.size
    have B1 := B0.trans (hb1.mono B0.size)
    exact ⟨B1.trans (KK.mono B1.size), (T0.keep hb1).keep KK, (R0.keep hb1).keep KK, Bx.new w1 _ _, (O1.below KK).lower (by omega), by omega, fun hk => by have := (N1 _ hk).2; omega⟩
  have A1 := (A0.keep hb1).keep KK
  have HB1 : Hid (Below W0.heap.size W0 (w1.alloc (.cells #[.int .i64 la, .slice a1 us.length c1] 37))) := hb1.trans (KK.mono hb1.size)
  have u1 : w1.heap.size ≠ w.heap.size := by have := hb1.size; omega
  have na : ∀ (ob : Obj) (j : Nat), (w1.alloc ob).cell? ⟨w.heap.size, j, none⟩ = w1.cell? ⟨w.heap.size, j, none⟩ := fun ob j => (bel1 ob).cell (p := ⟨w.heap.size, j, none⟩) (show w.heap.size < w1.heap.size by have := hb1.size; omega)
  have nb : ∀ (ob : Obj) (j : Nat), (w1.alloc ob).cell? ⟨w.heap.size + 1, j, none⟩ = w1.cell? ⟨w.heap.size + 1, j, none⟩ := fun ob j => (bel1 ob).cell (p := ⟨w.heap.size + 1, j, none⟩) (show w.heap.size + 1 < w1.heap.size by have := hb1.size; omega)
  have A1' := A0.keep hb1
  have T1' := T0.keep hb1
  clear hW0 x0 x1 hk O1 KK N1 hb1
  have x0 : w1.cell? ⟨w.heap.size, 0, none⟩ = some (.int .i64 la) := A1'.c 0
  have x1 : w1.cell? ⟨w.heap.size, 1, none⟩ = some (.slice a ts.length cap) := A1'.c 1
  have t1 : w1.cell? ⟨w.heap.size + 1, 1, none⟩ = some (.string t.nm) := T1'.c 1
  go_wp2_with fail
  refine (atS_first la a b o cap ts t.nm _ hl (hs.below H1.old)).mono ?_
  rintro e w2 ⟨p, rfl, hp, hb2⟩
  have H2 := H1.keep hb2
  have A2 := A1.keep hb2
  clear x0 x1 t1 H1 A1 A1' T1' hb2 na nb u1 HB1 A0 T0 R0
  have q3 : (t.n != s.sn) = true := by unfold bne; rw [q2]; rfl
  have ep : p = (i : Int) := by
    rcases hp with ⟨rfl, hz⟩ | ⟨k, u, rfl, hu, hn, hz⟩
    · exact absurd hsn (hz i s (List.getElem?_eq_some_iff.1 hsi).1 hsi)
    · rw [NoneTo.one hz hu hn hf hsi hsn]
  subst ep
  have hil : i < ts.length := (List.getElem?_eq_some_iff.1 hsi).1
  have hne : ts ≠ [] := by intro e; subst e; simp at hil
  obtain rfl := hs.here hne
  have hbl : b < w.heap.size := hs.lt hne
  have HUL : Hid (us.length = ts.length) := len_keys HK.out
  have hil' : i < us.length := by rw [HUL.out]; exact hil
  have hul : us.length ≤ 1048576 := by rw [HUL.out]; exact hl
  obtain ⟨u, hu⟩ : ∃ u, us[i]? = some u := ⟨us[i], List.getElem?_eq_getElem hil'⟩
  have EK : Hid (u.key = s.key) := by
    have e := congrArg (fun l => l[i]?) HK.out
    simp only [List.getElem?_map, hu, hsi, Option.map_some, Option.some.injEq] at e
    exact e
  have HSI : Hid (ts[i]? = some s) := hsi
  have HU : Hid (us[i]? = some u) := hu
  have i0 : (0 : Int) ≤ (i : Int) := by omega
  have i1 : (i : Int) < (ts.length : Int) := by omega
  have i2 : ¬ (i : Int) < 0 := by omega
  have i3 : (i : Int) < (us.length : Int) := by omega
  have x1 : w2.cell? ⟨w.heap.size, 1, none⟩ = some (.slice (some ⟨b, o, none⟩) ts.length cap) := A2.c 1
  obtain ⟨e0, e1, e2, e3, e4, e5, e6, e7, e8, e9, e10, e11, e12⟩ := cl_cells ((hs.below H2.old).cell i s hsi)
  obtain ⟨W3, hW3⟩ : ∃ W3, w2.alloc (.cells #[.string s.nm, .int .i64 s.n, .int .i64 s.p.q, .int .i64 s.p.s, .slice s.p.a s.p.l.length s.p.cap, .int .i64 s.p.fr, .int .i64 s.p.b, .int .i64 s.sn, .int .i64 s.x.q, .int .i64 s.x.s, .slice s.x.a s.x.l.length s.x.cap, .int .i64 s.x.fr, .int .i64 s.x.b] 58) = W3 := ⟨_, rfl⟩
  have KS : Below w2.heap.size w2 W3 := by rw [← hW3]; exact bel1 _
  have H3 := H2.keep KS
  have S3 : Bx W3 w2.heap.size #[.string s.nm, .int .i64 s.n, .int .i64 s.p.q, .int .i64 s.p.s, .slice s.p.a s.p.l.length s.p.cap, .int .i64 s.p.fr, .int .i64 s.p.b, .int .i64 s.sn, .int .i64 s.x.q, .int .i64 s.x.s, .slice s.x.a s.x.l.length s.x.cap, .int .i64 s.x.fr, .int .i64 s.x.b] := by rw [← hW3]; exact Bx.new w2 _ _
  have d0 : W3.cell? ⟨w.heap.size + 1, 0, none⟩ = some (.int .i64 t.k) := H3.wd.c 0
  have d2 : W3.cell? ⟨w.heap.size + 1, 2, none⟩ = some (.int .i64 t.n) := H3.wd.c 2
  have d3 : W3.cell? ⟨w2.heap.size, 1, none⟩ = some (.int .i64 s.n) := S3.c 1
  have d4 : W3.cell? ⟨w2.heap.size, 7, none⟩ = some (.int .i64 s.sn) := S3.c 7
  have y0 : W3.cell? ⟨w1.heap.size, 0, none⟩ = some (.int .i64 la) := H3.bk.c 0
  have y1 : W3.cell? ⟨w1.heap.size, 1, none⟩ = some (.slice a1 us.length c1) := H3.bk.c 1
  have r0 : W3.cell? ⟨w.heap.size + 1 + 1, 0, none⟩ = some (.int .i64 0) := H3.res.c 0
  have r1 : W3.cell? ⟨w.heap.size + 1 + 1, 1, none⟩ = some (.slice none 0 0) := H3.res.c 1
  have rf := H3.res.f
  have HSN : Hid (s.nm = t.nm) := hsn
  clear hsi hp hf hu hsn
  obtain ⟨f1, f2⟩ := H3.fin
  have F1 : Hid (BkOwn ((W3.setCell ⟨w.heap.size + 1 + 1, 0, none⟩ (.int .i64 la)).setCell ⟨w.heap.size + 1 + 1, 1, none⟩ (.slice a1 us.length c1)) w.heap.size (.slice a1 us.length c1) us) := f1
  have F2 : Hid (Below w.heap.size w ((W3.setCell ⟨w.heap.size + 1 + 1, 0, none⟩ (.int .i64 la)).setCell ⟨w.heap.size + 1 + 1, 1, none⟩ (.slice a1 us.length c1))) := f2
  clear f1 f2 H3 S3 KS
  go_wp2
  refine bodyPost_ret (v := .agg #[.int .i64 la, .slice a1 us.length c1]) (by simp [results, Try.results15, go_sem, *]) rfl ⟨_, us, rfl, HK.out, F1.out, F2.out⟩

set_option maxRecDepth 40000 in
set_option maxHeartbeats 4000000 in
theorem hearS_same (la : Int) (a : Option Addr) (b o cap : Nat) (ts : List Hd) (t : Wd) (w : World) (hl : ts.length ≤ 1048576) (hsm : ∀ t ∈ ts, t.p.l.length ≤ 1048576 ∧ t.x.l.length ≤ 1048576) (hs : HdsAt w a b o ts) (i : Nat) (s : Hd) (hsi : ts[i]? = some s) (hsn : s.nm = t.nm) (hf : NoneTo ts t.nm i) (k6 : (t.k == 6) = false) (k3 : (t.k == 3) = false) (k5 : (t.k == 5) = false) (k4 : (t.k == 4) = false) (q2 : (t.n == s.sn) = true) (sg : 0 < s.sn) :
    Calls Try.prog 15 #[.agg #[.int .i64 la, .slice a ts.length cap], t.val] w fun e w' => ∃ (v : Value) (us' : List Hd), e = .returned (.agg #[.int .i64 la, v]) ∧ us'.map Hd.key = ts.map Hd.key ∧ BkOwn w' w.heap.size v us' ∧ Below w.heap.size w w' := by
  obtain ⟨W0, hW0⟩ : ∃ W0, ((w.alloc (.cells #[.int .i64 la, .slice a ts.length cap] 37)).alloc (.cells #[.int .i64 t.k, .string t.nm, .int .i64 t.n, .int .i64 t.p.q, .int .i64 t.p.s, .slice t.p.a t.p.l.length t.p.cap, .int .i64 t.p.fr, .int .i64 t.p.b] 32)).alloc (.cells #[.int .i64 0, .slice none 0 0] 37) = W0 := ⟨_, rfl⟩
  have B0 : Below w.heap.size w W0 := by rw [← hW0]; exact bel3 _ _ _
  have A0 : Bx W0 w.heap.size #[.int .i64 la, .slice a ts.length cap] := by rw [← hW0]; exact ((Bx.new w #[.int .i64 la, .slice a ts.length cap] 37).keep (bel1 _)).keep (bel1 _)
  have T0 : Bx W0 (w.heap.size + 1) #[.int .i64 t.k, .string t.nm, .int .i64 t.n, .int .i64 t.p.q, .int .i64 t.p.s, .slice t.p.a t.p.l.length t.p.cap, .int .i64 t.p.fr, .int .i64 t.p.b] := by
    rw [← hW0]
    have h := (Bx.new (w.alloc (.cells #[.int .i64 la, .slice a ts.length cap] 37)) #[.int .i64 t.k, .string t.nm, .int .i64 t.n, .int .i64 t.p.q, .int .i64 t.p.s, .slice t.p.a t.p.l.length t.p.cap, .int .i64 t.p.fr, .int .i64 t.p.b] 32).keep (bel1 (.cells #[.int .i64 0, .slice none 0 0] 37))
    rwa [World.size_alloc] at h
  have R0 : Bx W0 (w.heap.size + 1 + 1) #[.int .i64 0, .slice none 0 0] := by
    rw [← hW0]
    have h := Bx.new ((w.alloc (.cells #[.int .i64 la, .slice a ts.length cap] 37)).alloc (.cells #[.int .i64 t.k, .string t.nm, .int .i64 t.n, .int .i64 t.p.q, .int .i64 t.p.s, .slice t.p.a t.p.l.length t.p.cap, .int .i64 t.p.fr, .int .i64 t.p.b] 32)) #[.int .i64 0, .slice none 0 0] 37
    rwa [World.size_alloc, World.size_alloc] at h
  have x0 : W0.cell? ⟨w.heap.size, 0, none⟩ = some (.int .i64 la) := A0.c 0
  have x1 : W0.cell? ⟨w.heap.size, 1, none⟩ = some (.slice a ts.length cap) := A0.c 1
  have zR := R0.lt
  go_enter Try.func15, Try.ntmps15
  go_wp2_with fail
  refine (copyBS_any la a b o cap ts _ hl hsm (hs.below B0)).mono ?_
  rintro e w1 ⟨v1, us, rfl, hk, O1, hb1⟩
  have HK : Hid (us.map Hd.key = ts.map Hd.key) := hk
  obtain ⟨a1, c1, rfl⟩ := own_slice O1.row
  have KK := bel1 (w := w1) (.cells #[.int .i64 la, .slice a1 us.length c1] 37)
  have N1 := O1.lt
  have H1 : HsW w (w1.alloc (.cells #[.int .i64 la, .slice a1 us.length c1] 37)) t w1.heap.size la (.slice a1 us.length c1) us := by
    have hz := hb1.size
    have B1 := B0.trans (hb1.mono B0.size)
    exact ⟨B1.trans (KK.mono B1.size), (T0.keep hb1).keep KK, (R0.keep hb1).keep KK, Bx.new w1 _ _, (O1.below KK).lower (by omega), by omega, fun hk => by have := (N1 _ hk).2; omega⟩
  have A1 := (A0.keep hb1).keep KK
  have HB1 : Hid (Below W0.heap.size W0 (w1.alloc (.cells #[.int .i64 la, .slice a1 us.length c1] 37))) := hb1.trans (KK.mono hb1.size)
  have u1 : w1.heap.size ≠ w.heap.size := by have := hb1.size; omega
  have na : ∀ (ob : Obj) (j : Nat), (w1.alloc ob).cell? ⟨w.heap.size, j, none⟩ = w1.cell? ⟨w.heap.size, j, none⟩ := fun ob j => (bel1 ob).cell (p := ⟨w.heap.size, j, none⟩) (show w.heap.size < w1.heap.size by have := hb1.size; omega)
  have nb : ∀ (ob : Obj) (j : Nat), (w1.alloc ob).cell? ⟨w.heap.size + 1, j, none⟩ = w1.cell? ⟨w.heap.size + 1, j, none⟩ := fun ob j => (bel1 ob).cell (p := ⟨w.heap.size + 1, j, none⟩) (show w.heap.size + 1 < w1.heap.size by have := hb1.size; omega)
  have A1' := A0.keep hb1
  have T1' := T0.keep hb1
  clear hW0 x0 x1 hk O1 KK N1 hb1
  have x0 : w1.cell? ⟨w.heap.size, 0, none⟩ = some (.int .i64 la) := A1'.c 0
  have x1 : w1.cell? ⟨w.heap.size, 1, none⟩ = some (.slice a ts.length cap) := A1'.c 1
  have t1 : w1.cell? ⟨w.heap.size + 1, 1, none⟩ = some (.string t.nm) := T1'.c 1
  go_wp2_with fail
  refine (atS_first la a b o cap ts t.nm _ hl (hs.below H1.old)).mono ?_
  rintro e w2 ⟨p, rfl, hp, hb2⟩
  have H2 := H1.keep hb2
  have A2 := A1.keep hb2
  clear x0 x1 t1 H1 A1 A1' T1' hb2 na nb u1 HB1 A0 T0 R0
  have q3 : (t.n != s.sn) = false := by unfold bne; rw [q2]; rfl
  have ep : p = (i : Int) := by
    rcases hp with ⟨rfl, hz⟩ | ⟨k, u, rfl, hu, hn, hz⟩
    · exact absurd hsn (hz i s (List.getElem?_eq_some_iff.1 hsi).1 hsi)
    · rw [NoneTo.one hz hu hn hf hsi hsn]
  subst ep
  have hil : i < ts.length := (List.getElem?_eq_some_iff.1 hsi).1
  have hne : ts ≠ [] := by intro e; subst e; simp at hil
  obtain rfl := hs.here hne
  have hbl : b < w.heap.size := hs.lt hne
  have HUL : Hid (us.length = ts.length) := len_keys HK.out
  have hil' : i < us.length := by rw [HUL.out]; exact hil
  have hul : us.length ≤ 1048576 := by rw [HUL.out]; exact hl
  obtain ⟨u, hu⟩ : ∃ u, us[i]? = some u := ⟨us[i], List.getElem?_eq_getElem hil'⟩
  have EK : Hid (u.key = s.key) := by
    have e := congrArg (fun l => l[i]?) HK.out
    simp only [List.getElem?_map, hu, hsi, Option.map_some, Option.some.injEq] at e
    exact e
  have HSI : Hid (ts[i]? = some s) := hsi
  have HU : Hid (us[i]? = some u) := hu
  have i0 : (0 : Int) ≤ (i : Int) := by omega
  have i1 : (i : Int) < (ts.length : Int) := by omega
  have i2 : ¬ (i : Int) < 0 := by omega
  have i3 : (i : Int) < (us.length : Int) := by omega
  have x1 : w2.cell? ⟨w.heap.size, 1, none⟩ = some (.slice (some ⟨b, o, none⟩) ts.length cap) := A2.c 1
  obtain ⟨e0, e1, e2, e3, e4, e5, e6, e7, e8, e9, e10, e11, e12⟩ := cl_cells ((hs.below H2.old).cell i s hsi)
  obtain ⟨W3, hW3⟩ : ∃ W3, w2.alloc (.cells #[.string s.nm, .int .i64 s.n, .int .i64 s.p.q, .int .i64 s.p.s, .slice s.p.a s.p.l.length s.p.cap, .int .i64 s.p.fr, .int .i64 s.p.b, .int .i64 s.sn, .int .i64 s.x.q, .int .i64 s.x.s, .slice s.x.a s.x.l.length s.x.cap, .int .i64 s.x.fr, .int .i64 s.x.b] 58) = W3 := ⟨_, rfl⟩
  have KS : Below w2.heap.size w2 W3 := by rw [← hW3]; exact bel1 _
  have H3 := H2.keep KS
  have S3 : Bx W3 w2.heap.size #[.string s.nm, .int .i64 s.n, .int .i64 s.p.q, .int .i64 s.p.s, .slice s.p.a s.p.l.length s.p.cap, .int .i64 s.p.fr, .int .i64 s.p.b, .int .i64 s.sn, .int .i64 s.x.q, .int .i64 s.x.s, .slice s.x.a s.x.l.length s.x.cap, .int .i64 s.x.fr, .int .i64 s.x.b] := by rw [← hW3]; exact Bx.new w2 _ _
  have d0 : W3.cell? ⟨w.heap.size + 1, 0, none⟩ = some (.int .i64 t.k) := H3.wd.c 0
  have d2 : W3.cell? ⟨w.heap.size + 1, 2, none⟩ = some (.int .i64 t.n) := H3.wd.c 2
  have d3 : W3.cell? ⟨w2.heap.size, 1, none⟩ = some (.int .i64 s.n) := S3.c 1
  have d4 : W3.cell? ⟨w2.heap.size, 7, none⟩ = some (.int .i64 s.sn) := S3.c 7
  have y0 : W3.cell? ⟨w1.heap.size, 0, none⟩ = some (.int .i64 la) := H3.bk.c 0
  have y1 : W3.cell? ⟨w1.heap.size, 1, none⟩ = some (.slice a1 us.length c1) := H3.bk.c 1
  have r0 : W3.cell? ⟨w.heap.size + 1 + 1, 0, none⟩ = some (.int .i64 0) := H3.res.c 0
  have r1 : W3.cell? ⟨w.heap.size + 1 + 1, 1, none⟩ = some (.slice none 0 0) := H3.res.c 1
  have rf := H3.res.f
  have HSN : Hid (s.nm = t.nm) := hsn
  clear hsi hp hf hu hsn
  have HSM : Hid (∀ q ∈ us.map Hd.at0, q.p.l.length ≤ 1048576 ∧ q.x.l.length ≤ 1048576) := fun q hq => by
    obtain ⟨q', hq', rfl⟩ := List.mem_map.1 hq
    exact small_keys HK.out hsm q' hq'
  have ZL : Hid (w.heap.size + 1 + 1 < (W3).heap.size) := (H3.res).lt
  obtain ⟨aX, gX, cX, eX, hX⟩ := (H3.own).at_
  simp only [Value.slice.injEq] at eX
  obtain ⟨rfl, _, rfl⟩ := eX
  have EL : Hid ((us).length = us.length) := by simp [Hid]
  have hsx : ∀ q ∈ (us).map Hd.at0, q.p.l.length ≤ 1048576 ∧ q.x.l.length ≤ 1048576 := HSM.out
  have hlx : ((us).map Hd.at0).length ≤ 1048576 := by rw [List.length_map, EL.out]; exact hul
  have hcp := copyBS_any la a1 gX 0 c1 ((us).map Hd.at0) W3 hlx hsx hX
  rw [List.length_map, EL.out, at0_keys] at hcp
  go_wp2_with fail
  refine hcp.mono ?_
  rintro e w9 ⟨v9, us9, rfl, hk9, O9, hb9⟩
  have HK9 : Hid (us9.map Hd.key = (us).map Hd.key) := hk9
  obtain ⟨a9, c9, rfl⟩ := own_slice O9.row
  have R9 := (H3.res).keep hb9
  have B9 := (H3.old).trans (hb9.mono (H3.old).size)
  have z0 : w9.cell? ⟨w.heap.size + 1 + 1, 0, none⟩ = some (.int .i64 0) := R9.c 0
  have z1 : w9.cell? ⟨w.heap.size + 1 + 1, 1, none⟩ = some (.slice none 0 0) := R9.c 1
  have zf := R9.f
  have HF : Hid (BkOwn ((w9.setCell ⟨w.heap.size + 1 + 1, 0, none⟩ (.int .i64 la)).setCell ⟨w.heap.size + 1 + 1, 1, none⟩ (.slice a9 us9.length c9)) w.heap.size (.slice a9 us9.length c9) us9) := by
    have O9' : BkOwn w9 ((W3).heap.size) (.slice a9 us9.length c9) us9 := O9
    obtain ⟨n9, hn9⟩ : ∃ n9, (W3).heap.size = n9 := ⟨_, rfl⟩
    have zL' : w.heap.size + 1 + 1 < (W3).heap.size := ZL.out
    rw [hn9] at O9' zL'
    have hlt := O9'.lt
    refine ((O9'.spared (S := [w.heap.size + 1 + 1]) (Spared.trans (Spared.grown (grown_set _ _ _) (by simp)) (Spared.grown (grown_set _ _ _) (by simp))) (fun k hk hk' => ?_))).lower (by omega)
    simp at hk'
    have := (hlt k hk).1
    omega
  clear hk9 O9 hcp hX hsx hlx hb9 ZL
  go_wp2
  refine bodyPost_ret (v := .agg #[.int .i64 la, .slice a9 us9.length c9]) (by simp [results, Try.results15, go_sem, *]) rfl ⟨_, us9, rfl, by rw [HK9.out]; exact HK.out, HF.out, ?_⟩
  iterate 2 (refine Below.setCell ?_ (by simp; omega) _)
  exact B9

end Go.Proofs.Ytfcobpaaeijkoaa

namespace Go.Proofs.Ytfcobpaaeijkoaa
open Go.RowKit

set_option maxRecDepth 40000 in
set_option maxHeartbeats 4000000 in
theorem hearS_ref (la : Int) (a : Option Addr) (b o cap : Nat) (ts : List Hd) (t : Wd) (w : World) (hl : ts.length ≤ 1048576) (hsm : ∀ t ∈ ts, t.p.l.length ≤ 1048576 ∧ t.x.l.length ≤ 1048576) (hs : HdsAt w a b o ts) (i : Nat) (s : Hd) (hsi : ts[i]? = some s) (hsn : s.nm = t.nm) (hf : NoneTo ts t.nm i) (k6 : (t.k == 6) = false) (k3 : (t.k == 3) = false) (k5 : (t.k == 5) = false) (k4 : (t.k == 4) = true) (q2 : (t.n == s.sn) = true) (sg : 0 < s.sn) :
    Calls Try.prog 15 #[.agg #[.int .i64 la, .slice a ts.length cap], t.val] w fun e w' => ∃ (v : Value) (us' : List Hd), e = .returned (.agg #[.int .i64 la, v]) ∧ us'.map Hd.key = (ts.map Hd.key).set i (refK s.key) ∧ BkOwn w' w.heap.size v us' ∧ Below w.heap.size w w' := by
  obtain ⟨W0, hW0⟩ : ∃ W0, ((w.alloc (.cells #[.int .i64 la, .slice a ts.length cap] 37)).alloc (.cells #[.int .i64 t.k, .string t.nm, .int .i64 t.n, .int .i64 t.p.q, .int .i64 t.p.s, .slice t.p.a t.p.l.length t.p.cap, .int .i64 t.p.fr, .int .i64 t.p.b] 32)).alloc (.cells #[.int .i64 0, .slice none 0 0] 37) = W0 := ⟨_, rfl⟩
  have B0 : Below w.heap.size w W0 := by rw [← hW0]; exact bel3 _ _ _
  have A0 : Bx W0 w.heap.size #[.int .i64 la, .slice a ts.length cap] := by rw [← hW0]; exact ((Bx.new w #[.int .i64 la, .slice a ts.length cap] 37).keep (bel1 _)).keep (bel1 _)
  have T0 : Bx W0 (w.heap.size + 1) #[.int .i64 t.k, .string t.nm, .int .i64 t.n, .int .i64 t.p.q, .int .i64 t.p.s, .slice t.p.a t.p.l.length t.p.cap, .int .i64 t.p.fr, .int .i64 t.p.b] := by
    rw [← hW0]
    have h := (Bx.new (w.alloc (.cells #[.int .i64 la, .slice a ts.length cap] 37)) #[.int .i64 t.k, .string t.nm, .int .i64 t.n, .int .i64 t.p.q, .int .i64 t.p.s, .slice t.p.a t.p.l.length t.p.cap, .int .i64 t.p.fr, .int .i64 t.p.b] 32).keep (bel1 (.cells #[.int .i64 0, .slice none 0 0] 37))
    rwa [World.size_alloc] at h
  have R0 : Bx W0 (w.heap.size + 1 + 1) #[.int .i64 0, .slice none 0 0] := by
    rw [← hW0]
    have h := Bx.new ((w.alloc (.cells #[.int .i64 la, .slice a ts.length cap] 37)).alloc (.cells #[.int .i64 t.k, .string t.nm, .int .i64 t.n, .int .i64 t.p.q, .int .i64 t.p.s, .slice t.p.a t.p.l.length t.p.cap, .int .i64 t.p.fr, .int .i64 t.p.b] 32)) #[.int .i64 0, .slice none 0 0] 37
    rwa [World.size_alloc, World.size_alloc] at h
  have x0 : W0.cell? ⟨w.heap.size, 0, none⟩ = some (.int .i64 la) := A0.c 0
  have x1 : W0.cell? ⟨w.heap.size, 1, none⟩ = some (.slice a ts.length cap) := A0.c 1
  have zR := R0.lt
  go_enter Try.func15, Try.ntmps15
  go_wp2_with fail
  refine (copyBS_any la a b o cap ts _ hl hsm (hs.below B0)).mono ?_
  rintro e w1 ⟨v1, us, rfl, hk, O1, hb1⟩
  have HK : Hid (us.map Hd.key = ts.map Hd.key) := hk
  obtain ⟨a1, c1, rfl⟩ := own_slice O1.row
  have KK := bel1 (w := w1) (.cells #[.int .i64 la, .slice a1 us.length c1] 37)
  have N1 := O1.lt
  have H1 : HsW w (w1.alloc (.cells #[.int .i64 la, .slice a1 us.length c1] 37)) t w1.heap.size la (.slice a1 us.length c1) us := by
    have hz := hb1.size
    have B1 := B0.trans (hb1.mono B0.size)
    exact ⟨B1.trans (KK.mono B1.size), (T0.keep hb1).keep KK, (R0.keep hb1).keep KK, Bx.new w1 _ _, (O1.below KK).lower (by omega), by omega, fun hk => by have := (N1 _ hk).2; omega⟩
  have A1 := (A0.keep hb1).keep KK
  have HB1 : Hid (Below W0.heap.size W0 (w1.alloc (.cells #[.int .i64 la, .slice a1 us.length c1] 37))) := hb1.trans (KK.mono hb1.size)
  have u1 : w1.heap.size ≠ w.heap.size := by have := hb1.size; omega
  have na : ∀ (ob : Obj) (j : Nat), (w1.alloc ob).cell? ⟨w.heap.size, j, none⟩ = w1.cell? ⟨w.heap.size, j, none⟩ := fun ob j => (bel1 ob).cell (p := ⟨w.heap.size, j, none⟩) (show w.heap.size < w1.heap.size by have := hb1.size; omega)
  have nb : ∀ (ob : Obj) (j : Nat), (w1.alloc ob).cell? ⟨w.heap.size + 1, j, none⟩ = w1.cell? ⟨w.heap.size + 1, j, none⟩ := fun ob j => (bel1 ob).cell (p := ⟨w.heap.size + 1, j, none⟩) (show w.heap.size + 1 < w1.heap.size by have := hb1.size; omega)
  have A1' := A0.keep hb1
  have T1' := T0.keep hb1
  clear hW0 x0 x1 hk O1 KK N1 hb1
  have x0 : w1.cell? ⟨w.heap.size, 0, none⟩ = some (.int .i64 la) := A1'.c 0
  have x1 : w1.cell? ⟨w.heap.size, 1, none⟩ = some (.slice a ts.length cap) := A1'.c 1
  have t1 : w1.cell? ⟨w.heap.size + 1, 1, none⟩ = some (.string t.nm) := T1'.c 1
  go_wp2_with fail
  refine (atS_first la a b o cap ts t.nm _ hl (hs.below H1.old)).mono ?_
  rintro e w2 ⟨p, rfl, hp, hb2⟩
  have H2 := H1.keep hb2
  have A2 := A1.keep hb2
  clear x0 x1 t1 H1 A1 A1' T1' hb2 na nb u1 HB1 A0 T0 R0
  have q3 : (t.n != s.sn) = false := by unfold bne; rw [q2]; rfl
  have ep : p = (i : Int) := by
    rcases hp with ⟨rfl, hz⟩ | ⟨k, u, rfl, hu, hn, hz⟩
    · exact absurd hsn (hz i s (List.getElem?_eq_some_iff.1 hsi).1 hsi)
    · rw [NoneTo.one hz hu hn hf hsi hsn]
  subst ep
  have hil : i < ts.length := (List.getElem?_eq_some_iff.1 hsi).1
  have hne : ts ≠ [] := by intro e; subst e; simp at hil
  obtain rfl := hs.here hne
  have hbl : b < w.heap.size := hs.lt hne
  have HUL : Hid (us.length = ts.length) := len_keys HK.out
  have hil' : i < us.length := by rw [HUL.out]; exact hil
  have hul : us.length ≤ 1048576 := by rw [HUL.out]; exact hl
  obtain ⟨u, hu⟩ : ∃ u, us[i]? = some u := ⟨us[i], List.getElem?_eq_getElem hil'⟩
  have EK : Hid (u.key = s.key) := by
    have e := congrArg (fun l => l[i]?) HK.out
    simp only [List.getElem?_map, hu, hsi, Option.map_some, Option.some.injEq] at e
    exact e
  have HSI : Hid (ts[i]? = some s) := hsi
  have HU : Hid (us[i]? = some u) := hu
  have i0 : (0 : Int) ≤ (i : Int) := by omega
  have i1 : (i : Int) < (ts.length : Int) := by omega
  have i2 : ¬ (i : Int) < 0 := by omega
  have i3 : (i : Int) < (us.length : Int) := by omega
  have x1 : w2.cell? ⟨w.heap.size, 1, none⟩ = some (.slice (some ⟨b, o, none⟩) ts.length cap) := A2.c 1
  obtain ⟨e0, e1, e2, e3, e4, e5, e6, e7, e8, e9, e10, e11, e12⟩ := cl_cells ((hs.below H2.old).cell i s hsi)
  obtain ⟨W3, hW3⟩ : ∃ W3, w2.alloc (.cells #[.string s.nm, .int .i64 s.n, .int .i64 s.p.q, .int .i64 s.p.s, .slice s.p.a s.p.l.length s.p.cap, .int .i64 s.p.fr, .int .i64 s.p.b, .int .i64 s.sn, .int .i64 s.x.q, .int .i64 s.x.s, .slice s.x.a s.x.l.length s.x.cap, .int .i64 s.x.fr, .int .i64 s.x.b] 58) = W3 := ⟨_, rfl⟩
  have KS : Below w2.heap.size w2 W3 := by rw [← hW3]; exact bel1 _
  have H3 := H2.keep KS
  have S3 : Bx W3 w2.heap.size #[.string s.nm, .int .i64 s.n, .int .i64 s.p.q, .int .i64 s.p.s, .slice s.p.a s.p.l.length s.p.cap, .int .i64 s.p.fr, .int .i64 s.p.b, .int .i64 s.sn, .int .i64 s.x.q, .int .i64 s.x.s, .slice s.x.a s.x.l.length s.x.cap, .int .i64 s.x.fr, .int .i64 s.x.b] := by rw [← hW3]; exact Bx.new w2 _ _
  have d0 : W3.cell? ⟨w.heap.size + 1, 0, none⟩ = some (.int .i64 t.k) := H3.wd.c 0
  have d2 : W3.cell? ⟨w.heap.size + 1, 2, none⟩ = some (.int .i64 t.n) := H3.wd.c 2
  have d3 : W3.cell? ⟨w2.heap.size, 1, none⟩ = some (.int .i64 s.n) := S3.c 1
  have d4 : W3.cell? ⟨w2.heap.size, 7, none⟩ = some (.int .i64 s.sn) := S3.c 7
  have y0 : W3.cell? ⟨w1.heap.size, 0, none⟩ = some (.int .i64 la) := H3.bk.c 0
  have y1 : W3.cell? ⟨w1.heap.size, 1, none⟩ = some (.slice a1 us.length c1) := H3.bk.c 1
  have r0 : W3.cell? ⟨w.heap.size + 1 + 1, 0, none⟩ = some (.int .i64 0) := H3.res.c 0
  have r1 : W3.cell? ⟨w.heap.size + 1 + 1, 1, none⟩ = some (.slice none 0 0) := H3.res.c 1
  have rf := H3.res.f
  have HSN : Hid (s.nm = t.nm) := hsn
  clear hsi hp hf hu hsn
  obtain ⟨g, cc, ea, hg1, hg2⟩ := owns_some H2.own.row (by omega)
  simp only [Value.slice.injEq, true_and] at ea
  obtain ⟨rfl, rfl⟩ := ea
  have hgK : ¬ g = w1.heap.size := fun e => H2.ne (by rw [← e]; simp [bkBlks, Value.ownBlock])
  have hgK' : ¬ w1.heap.size = g := fun e => hgK e.symm
  have R3 := H3.own.row
  have c0_ : W3.cell? ⟨g, i * 13, none⟩ = some (.string u.nm) := (R3.cellAt (i * 13) (by omega)).trans (hdCells_at _ i u 0 HU.out (by decide))
  have c1_ : W3.cell? ⟨g, i * 13 + 1, none⟩ = some (.int .i64 u.n) := (R3.cellAt (i * 13 + 1) (by omega)).trans (hdCells_at _ i u 1 HU.out (by decide))
  have c2_ : W3.cell? ⟨g, i * 13 + 2, none⟩ = some (.int .i64 u.p.q) := (R3.cellAt (i * 13 + 2) (by omega)).trans (hdCells_at _ i u 2 HU.out (by decide))
  have c3_ : W3.cell? ⟨g, i * 13 + 3, none⟩ = some (.int .i64 u.p.s) := (R3.cellAt (i * 13 + 3) (by omega)).trans (hdCells_at _ i u 3 HU.out (by decide))
  have c4_ : W3.cell? ⟨g, i * 13 + 4, none⟩ = some (.slice u.p.a u.p.l.length u.p.cap) := (R3.cellAt (i * 13 + 4) (by omega)).trans (hdCells_at _ i u 4 HU.out (by decide))
  have c5_ : W3.cell? ⟨g, i * 13 + 5, none⟩ = some (.int .i64 u.p.fr) := (R3.cellAt (i * 13 + 5) (by omega)).trans (hdCells_at _ i u 5 HU.out (by decide))
  have c6_ : W3.cell? ⟨g, i * 13 + 6, none⟩ = some (.int .i64 u.p.b) := (R3.cellAt (i * 13 + 6) (by omega)).trans (hdCells_at _ i u 6 HU.out (by decide))
  have c7_ : W3.cell? ⟨g, i * 13 + 7, none⟩ = some (.int .i64 u.sn) := (R3.cellAt (i * 13 + 7) (by omega)).trans (hdCells_at _ i u 7 HU.out (by decide))
  have c8_ : W3.cell? ⟨g, i * 13 + 8, none⟩ = some (.int .i64 u.x.q) := (R3.cellAt (i * 13 + 8) (by omega)).trans (hdCells_at _ i u 8 HU.out (by decide))
  have c9_ : W3.cell? ⟨g, i * 13 + 9, none⟩ = some (.int .i64 u.x.s) := (R3.cellAt (i * 13 + 9) (by omega)).trans (hdCells_at _ i u 9 HU.out (by decide))
  have c10_ : W3.cell? ⟨g, i * 13 + 10, none⟩ = some (.slice u.x.a u.x.l.length u.x.cap) := (R3.cellAt (i * 13 + 10) (by omega)).trans (hdCells_at _ i u 10 HU.out (by decide))
  have c11_ : W3.cell? ⟨g, i * 13 + 11, none⟩ = some (.int .i64 u.x.fr) := (R3.cellAt (i * 13 + 11) (by omega)).trans (hdCells_at _ i u 11 HU.out (by decide))
  have c12_ : W3.cell? ⟨g, i * 13 + 12, none⟩ = some (.int .i64 u.x.b) := (R3.cellAt (i * 13 + 12) (by omega)).trans (hdCells_at _ i u 12 HU.out (by decide))
  have nf := R3.frozenAt
  have rf0 := hd_put R3 HU.out (j := 7) (t' := (⟨u.nm, u.n, ⟨u.p.q, u.p.s, u.p.fr, u.p.b, u.p.a, u.p.b0, u.p.o, u.p.cap, u.p.l⟩, 0, ⟨u.x.q, u.x.s, u.x.fr, u.x.b, u.x.a, u.x.b0, u.x.o, u.x.cap, u.x.l⟩⟩ : Hd)) (u := .int .i64 0) (by decide) rfl
  have rf1 := hd_put_set (t := (⟨u.nm, u.n, ⟨u.p.q, u.p.s, u.p.fr, u.p.b, u.p.a, u.p.b0, u.p.o, u.p.cap, u.p.l⟩, 0, ⟨u.x.q, u.x.s, u.x.fr, u.x.b, u.x.a, u.x.b0, u.x.o, u.x.cap, u.x.l⟩⟩ : Hd)) (t' := (⟨u.nm, u.n, ⟨u.p.q, u.p.s, u.p.fr, u.p.b, u.p.a, u.p.b0, u.p.o, u.p.cap, u.p.l⟩, 0, ⟨0, u.x.s, u.x.fr, u.x.b, u.x.a, u.x.b0, u.x.o, u.x.cap, u.x.l⟩⟩ : Hd)) (j := 8) (u := .int .i64 0) rf0 hil' (by decide) rfl
  have rf2 := hd_put_set (t := (⟨u.nm, u.n, ⟨u.p.q, u.p.s, u.p.fr, u.p.b, u.p.a, u.p.b0, u.p.o, u.p.cap, u.p.l⟩, 0, ⟨0, u.x.s, u.x.fr, u.x.b, u.x.a, u.x.b0, u.x.o, u.x.cap, u.x.l⟩⟩ : Hd)) (t' := (⟨u.nm, u.n, ⟨u.p.q, u.p.s, u.p.fr, u.p.b, u.p.a, u.p.b0, u.p.o, u.p.cap, u.p.l⟩, 0, ⟨0, 0, u.x.fr, u.x.b, u.x.a, u.x.b0, u.x.o, u.x.cap, u.x.l⟩⟩ : Hd)) (j := 9) (u := .int .i64 0) rf1 hil' (by decide) rfl
  have rf3 := hd_put_set (t := (⟨u.nm, u.n, ⟨u.p.q, u.p.s, u.p.fr, u.p.b, u.p.a, u.p.b0, u.p.o, u.p.cap, u.p.l⟩, 0, ⟨0, 0, u.x.fr, u.x.b, u.x.a, u.x.b0, u.x.o, u.x.cap, u.x.l⟩⟩ : Hd)) (t' := (⟨u.nm, u.n, ⟨u.p.q, u.p.s, u.p.fr, u.p.b, u.p.a, u.p.b0, u.p.o, u.p.cap, u.p.l⟩, 0, ⟨0, 0, u.x.fr, u.x.b, none, u.x.b0, u.x.o, 0, []⟩⟩ : Hd)) (j := 10) (u := .slice none 0 0) rf2 hil' (by decide) rfl
  have rf4 := hd_put_set (t := (⟨u.nm, u.n, ⟨u.p.q, u.p.s, u.p.fr, u.p.b, u.p.a, u.p.b0, u.p.o, u.p.cap, u.p.l⟩, 0, ⟨0, 0, u.x.fr, u.x.b, none, u.x.b0, u.x.o, 0, []⟩⟩ : Hd)) (t' := (⟨u.nm, u.n, ⟨u.p.q, u.p.s, u.p.fr, u.p.b, u.p.a, u.p.b0, u.p.o, u.p.cap, u.p.l⟩, 0, ⟨0, 0, 0, u.x.b, none, u.x.b0, u.x.o, 0, []⟩⟩ : Hd)) (j := 11) (u := .int .i64 0) rf3 hil' (by decide) rfl
  have rf5 := hd_put_set (t := (⟨u.nm, u.n, ⟨u.p.q, u.p.s, u.p.fr, u.p.b, u.p.a, u.p.b0, u.p.o, u.p.cap, u.p.l⟩, 0, ⟨0, 0, 0, u.x.b, none, u.x.b0, u.x.o, 0, []⟩⟩ : Hd)) (t' := (⟨u.nm, u.n, ⟨u.p.q, u.p.s, u.p.fr, u.p.b, u.p.a, u.p.b0, u.p.o, u.p.cap, u.p.l⟩, 0, ⟨0, 0, 0, 0, none, u.x.b0, u.x.o, 0, []⟩⟩ : Hd)) (j := 12) (u := .int .i64 0) rf4 hil' (by decide) rfl
  have S4 := Spared.grown (S := (Value.slice (some ⟨g, 0, none⟩) us.length c1).ownBlock.toList) (grown_over2 (grown_over2 (grown_over2 (grown_over2 (grown_over2 (grown_set W3 ⟨g, i * 13 + 7, none⟩ (.int .i64 0)) (grown_set _ ⟨g, i * 13 + 8, none⟩ (.int .i64 0))) (grown_set _ ⟨g, i * 13 + 9, none⟩ (.int .i64 0))) (grown_set _ ⟨g, i * 13 + 10, none⟩ (.slice none 0 0))) (grown_set _ ⟨g, i * 13 + 11, none⟩ (.int .i64 0))) (grown_set _ ⟨g, i * 13 + 12, none⟩ (.int .i64 0))) (by simp [Value.ownBlock])
  obtain ⟨P1, P2, P3, P4⟩ := H3.put (u' := (⟨u.nm, u.n, ⟨u.p.q, u.p.s, u.p.fr, u.p.b, u.p.a, u.p.b0, u.p.o, u.p.cap, u.p.l⟩, 0, ⟨0, 0, 0, 0, none, u.x.b0, u.x.o, 0, []⟩⟩ : Hd)) HU.out S4 rf5 (fun _ hO => ⟨hO.p, World.ownsRow_nil _ _ _ _, fun k _ e => by simp [Value.ownBlock] at e⟩) (fun k hk => by simp only [Hd.blks, List.mem_append, Option.mem_toList] at hk ⊢; rcases hk with hk | hk; exact Or.inl hk; simp [Value.ownBlock] at hk)
  have HKR : Hid ((us.set i (⟨u.nm, u.n, ⟨u.p.q, u.p.s, u.p.fr, u.p.b, u.p.a, u.p.b0, u.p.o, u.p.cap, u.p.l⟩, 0, ⟨0, 0, 0, 0, none, u.x.b0, u.x.o, 0, []⟩⟩ : Hd)).map Hd.key = (ts.map Hd.key).set i (refK s.key)) := by
    show _ = _
    rw [key_set, HK.out, ← EK.out]
    rfl
  have HSM : Hid (∀ q ∈ (us.set i (⟨u.nm, u.n, ⟨u.p.q, u.p.s, u.p.fr, u.p.b, u.p.a, u.p.b0, u.p.o, u.p.cap, u.p.l⟩, 0, ⟨0, 0, 0, 0, none, u.x.b0, u.x.o, 0, []⟩⟩ : Hd)).map Hd.at0, q.p.l.length ≤ 1048576 ∧ q.x.l.length ≤ 1048576) := fun q hq => by
    obtain ⟨q', hq', rfl⟩ := List.mem_map.1 hq
    have hall := small_keys HK.out hsm
    rcases mem_set_cases hq' with rfl | ⟨j, _, hj⟩
    · have hh := hall u (List.mem_of_getElem? HU.out)
      exact ⟨by first | exact hh.1 | exact hh.2, by simp [Hd.at0, Pt.at0]⟩
    · exact hall q' (List.mem_of_getElem? hj)
  clear rf0 rf1 rf2 rf3 rf4 rf5 S4
  go_wp2_with fail
  have ZL : Hid (w.heap.size + 1 + 1 < (((((((W3.setCell ⟨g, i * 13 + 7, none⟩ (.int .i64 0)).setCell ⟨g, i * 13 + 8, none⟩ (.int .i64 0)).setCell ⟨g, i * 13 + 8 + 1, none⟩ (.int .i64 0)).setCell ⟨g, i * 13 + 8 + 2, none⟩ (.slice none 0 0)).setCell ⟨g, i * 13 + 8 + 3, none⟩ (.int .i64 0)).setCell ⟨g, i * 13 + 8 + 4, none⟩ (.int .i64 0))).heap.size) := (P2).lt
  obtain ⟨aX, gX, cX, eX, hX⟩ := (P1).at_
  simp only [List.length_set, Value.slice.injEq] at eX
  obtain ⟨rfl, _, rfl⟩ := eX
  have EL : Hid ((us.set i (⟨u.nm, u.n, ⟨u.p.q, u.p.s, u.p.fr, u.p.b, u.p.a, u.p.b0, u.p.o, u.p.cap, u.p.l⟩, 0, ⟨0, 0, 0, 0, none, u.x.b0, u.x.o, 0, []⟩⟩ : Hd)).length = us.length) := by simp [Hid]
  have hsx : ∀ q ∈ (us.set i (⟨u.nm, u.n, ⟨u.p.q, u.p.s, u.p.fr, u.p.b, u.p.a, u.p.b0, u.p.o, u.p.cap, u.p.l⟩, 0, ⟨0, 0, 0, 0, none, u.x.b0, u.x.o, 0, []⟩⟩ : Hd)).map Hd.at0, q.p.l.length ≤ 1048576 ∧ q.x.l.length ≤ 1048576 := HSM.out
  have hlx : ((us.set i (⟨u.nm, u.n, ⟨u.p.q, u.p.s, u.p.fr, u.p.b, u.p.a, u.p.b0, u.p.o, u.p.cap, u.p.l⟩, 0, ⟨0, 0, 0, 0, none, u.x.b0, u.x.o, 0, []⟩⟩ : Hd)).map Hd.at0).length ≤ 1048576 := by rw [List.length_map, EL.out]; exact hul
  have hcp := copyBS_any la (some ⟨g, 0, none⟩) gX 0 c1 ((us.set i (⟨u.nm, u.n, ⟨u.p.q, u.p.s, u.p.fr, u.p.b, u.p.a, u.p.b0, u.p.o, u.p.cap, u.p.l⟩, 0, ⟨0, 0, 0, 0, none, u.x.b0, u.x.o, 0, []⟩⟩ : Hd)).map Hd.at0) ((((((W3.setCell ⟨g, i * 13 + 7, none⟩ (.int .i64 0)).setCell ⟨g, i * 13 + 8, none⟩ (.int .i64 0)).setCell ⟨g, i * 13 + 8 + 1, none⟩ (.int .i64 0)).setCell ⟨g, i * 13 + 8 + 2, none⟩ (.slice none 0 0)).setCell ⟨g, i * 13 + 8 + 3, none⟩ (.int .i64 0)).setCell ⟨g, i * 13 + 8 + 4, none⟩ (.int .i64 0)) hlx hsx hX
  rw [List.length_map, EL.out, at0_keys] at hcp
  refine hcp.mono ?_
  rintro e w9 ⟨v9, us9, rfl, hk9, O9, hb9⟩
  have HK9 : Hid (us9.map Hd.key = (us.set i (⟨u.nm, u.n, ⟨u.p.q, u.p.s, u.p.fr, u.p.b, u.p.a, u.p.b0, u.p.o, u.p.cap, u.p.l⟩, 0, ⟨0, 0, 0, 0, none, u.x.b0, u.x.o, 0, []⟩⟩ : Hd)).map Hd.key) := hk9
  obtain ⟨a9, c9, rfl⟩ := own_slice O9.row
  have R9 := (P2).keep hb9
  have B9 := (P4).trans (hb9.mono (P4).size)
  have z0 : w9.cell? ⟨w.heap.size + 1 + 1, 0, none⟩ = some (.int .i64 0) := R9.c 0
  have z1 : w9.cell? ⟨w.heap.size + 1 + 1, 1, none⟩ = some (.slice none 0 0) := R9.c 1
  have zf := R9.f
  have HF : Hid (BkOwn ((w9.setCell ⟨w.heap.size + 1 + 1, 0, none⟩ (.int .i64 la)).setCell ⟨w.heap.size + 1 + 1, 1, none⟩ (.slice a9 us9.length c9)) w.heap.size (.slice a9 us9.length c9) us9) := by
    have O9' : BkOwn w9 ((((((((W3.setCell ⟨g, i * 13 + 7, none⟩ (.int .i64 0)).setCell ⟨g, i * 13 + 8, none⟩ (.int .i64 0)).setCell ⟨g, i * 13 + 8 + 1, none⟩ (.int .i64 0)).setCell ⟨g, i * 13 + 8 + 2, none⟩ (.slice none 0 0)).setCell ⟨g, i * 13 + 8 + 3, none⟩ (.int .i64 0)).setCell ⟨g, i * 13 + 8 + 4, none⟩ (.int .i64 0))).heap.size) (.slice a9 us9.length c9) us9 := O9
    obtain ⟨n9, hn9⟩ : ∃ n9, (((((((W3.setCell ⟨g, i * 13 + 7, none⟩ (.int .i64 0)).setCell ⟨g, i * 13 + 8, none⟩ (.int .i64 0)).setCell ⟨g, i * 13 + 8 + 1, none⟩ (.int .i64 0)).setCell ⟨g, i * 13 + 8 + 2, none⟩ (.slice none 0 0)).setCell ⟨g, i * 13 + 8 + 3, none⟩ (.int .i64 0)).setCell ⟨g, i * 13 + 8 + 4, none⟩ (.int .i64 0))).heap.size = n9 := ⟨_, rfl⟩
    have zL' : w.heap.size + 1 + 1 < (((((((W3.setCell ⟨g, i * 13 + 7, none⟩ (.int .i64 0)).setCell ⟨g, i * 13 + 8, none⟩ (.int .i64 0)).setCell ⟨g, i * 13 + 8 + 1, none⟩ (.int .i64 0)).setCell ⟨g, i * 13 + 8 + 2, none⟩ (.slice none 0 0)).setCell ⟨g, i * 13 + 8 + 3, none⟩ (.int .i64 0)).setCell ⟨g, i * 13 + 8 + 4, none⟩ (.int .i64 0))).heap.size := ZL.out
    rw [hn9] at O9' zL'
    have hlt := O9'.lt
    refine ((O9'.spared (S := [w.heap.size + 1 + 1]) (Spared.trans (Spared.grown (grown_set _ _ _) (by simp)) (Spared.grown (grown_set _ _ _) (by simp))) (fun k hk hk' => ?_))).lower (by omega)
    simp at hk'
    have := (hlt k hk).1
    omega
  clear hk9 O9 hcp hX hsx hlx hb9 ZL
  go_wp2
  refine bodyPost_ret (v := .agg #[.int .i64 la, .slice a9 us9.length c9]) (by simp [results, Try.results15, go_sem, *]) rfl ⟨_, us9, rfl, by rw [HK9.out]; exact HKR.out, HF.out, ?_⟩
  iterate 2 (refine Below.setCell ?_ (by simp; omega) _)
  exact B9

set_option maxRecDepth 40000 in
set_option maxHeartbeats 4000000 in
theorem hearS_took3 (la : Int) (a : Option Addr) (b o cap : Nat) (ts : List Hd) (t : Wd) (w : World) (hl : ts.length ≤ 1048576) (hsm : ∀ t ∈ ts, t.p.l.length ≤ 1048576 ∧ t.x.l.length ≤ 1048576) (hs : HdsAt w a b o ts) (i : Nat) (s : Hd) (hsi : ts[i]? = some s) (hsn : s.nm = t.nm) (hf : NoneTo ts t.nm i) (k6 : (t.k == 6) = false) (k3 : (t.k == 3) = true) (q2 : (t.n == s.sn) = true) (sg : 0 < s.sn) :
    Calls Try.prog 15 #[.agg #[.int .i64 la, .slice a ts.length cap], t.val] w fun e w' => ∃ (v : Value) (us' : List Hd), e = .returned (.agg #[.int .i64 la, v]) ∧ us'.map Hd.key = (ts.map Hd.key).set i (tookK s.key) ∧ BkOwn w' w.heap.size v us' ∧ Below w.heap.size w w' := by
  obtain ⟨W0, hW0⟩ : ∃ W0, ((w.alloc (.cells #[.int .i64 la, .slice a ts.length cap] 37)).alloc (.cells #[.int .i64 t.k, .string t.nm, .int .i64 t.n, .int .i64 t.p.q, .int .i64 t.p.s, .slice t.p.a t.p.l.length t.p.cap, .int .i64 t.p.fr, .int .i64 t.p.b] 32)).alloc (.cells #[.int .i64 0, .slice none 0 0] 37) = W0 := ⟨_, rfl⟩
  have B0 : Below w.heap.size w W0 := by rw [← hW0]; exact bel3 _ _ _
  have A0 : Bx W0 w.heap.size #[.int .i64 la, .slice a ts.length cap] := by rw [← hW0]; exact ((Bx.new w #[.int .i64 la, .slice a ts.length cap] 37).keep (bel1 _)).keep (bel1 _)
  have T0 : Bx W0 (w.heap.size + 1) #[.int .i64 t.k, .string t.nm, .int .i64 t.n, .int .i64 t.p.q, .int .i64 t.p.s, .slice t.p.a t.p.l.length t.p.cap, .int .i64 t.p.fr, .int .i64 t.p.b] := by
    rw [← hW0]
    have h := (Bx.new (w.alloc (.cells #[.int .i64 la, .slice a ts.length cap] 37)) #[.int .i64 t.k, .string t.nm, .int .i64 t.n, .int .i64 t.p.q, .int .i64 t.p.s, .slice t.p.a t.p.l.length t.p.cap, .int .i64 t.p.fr, .int .i64 t.p.b] 32).keep (bel1 (.cells #[.int .i64 0, .slice none 0 0] 37))
    rwa [World.size_alloc] at h
  have R0 : Bx W0 (w.heap.size + 1 + 1) #[.int .i64 0, .slice none 0 0] := by
    rw [← hW0]
    have h := Bx.new ((w.alloc (.cells #[.int .i64 la, .slice a ts.length cap] 37)).alloc (.cells #[.int .i64 t.k, .string t.nm, .int .i64 t.n, .int .i64 t.p.q, .int .i64 t.p.s, .slice t.p.a t.p.l.length t.p.cap, .int .i64 t.p.fr, .int .i64 t.p.b] 32)) #[.int .i64 0, .slice none 0 0] 37
    rwa [World.size_alloc, World.size_alloc] at h
  have x0 : W0.cell? ⟨w.heap.size, 0, none⟩ = some (.int .i64 la) := A0.c 0
  have x1 : W0.cell? ⟨w.heap.size, 1, none⟩ = some (.slice a ts.length cap) := A0.c 1
  have zR := R0.lt
  go_enter Try.func15, Try.ntmps15
  go_wp2_with fail
  refine (copyBS_any la a b o cap ts _ hl hsm (hs.below B0)).mono ?_
  rintro e w1 ⟨v1, us, rfl, hk, O1, hb1⟩
  have HK : Hid (us.map Hd.key = ts.map Hd.key) := hk
  obtain ⟨a1, c1, rfl⟩ := own_slice O1.row
  have KK := bel1 (w := w1) (.cells #[.int .i64 la, .slice a1 us.length c1] 37)
  have N1 := O1.lt
  have H1 : HsW w (w1.alloc (.cells #[.int .i64 la, .slice a1 us.length c1] 37)) t w1.heap.size la (.slice a1 us.length c1) us := by
    have hz := hb1.size
    have B1 := B0.trans (hb1.mono B0.size)
    exact ⟨B1.trans (KK.mono B1.size), (T0.keep hb1).keep KK, (R0.keep hb1).keep KK, Bx.new w1 _ _, (O1.below KK).lower (by omega), by omega, fun hk => by have := (N1 _ hk).2; omega⟩
  have A1 := (A0.keep hb1).keep KK
  have HB1 : Hid (Below W0.heap.size W0 (w1.alloc (.cells #[.int .i64 la, .slice a1 us.length c1] 37))) := hb1.trans (KK.mono hb1.size)
  have u1 : w1.heap.size ≠ w.heap.size := by have := hb1.size; omega
  have na : ∀ (ob : Obj) (j : Nat), (w1.alloc ob).cell? ⟨w.heap.size, j, none⟩ = w1.cell? ⟨w.heap.size, j, none⟩ := fun ob j => (bel1 ob).cell (p := ⟨w.heap.size, j, none⟩) (show w.heap.size < w1.heap.size by have := hb1.size; omega)
  have nb : ∀ (ob : Obj) (j : Nat), (w1.alloc ob).cell? ⟨w.heap.size + 1, j, none⟩ = w1.cell? ⟨w.heap.size + 1, j, none⟩ := fun ob j => (bel1 ob).cell (p := ⟨w.heap.size + 1, j, none⟩) (show w.heap.size + 1 < w1.heap.size by have := hb1.size; omega)
  have A1' := A0.keep hb1
  have T1' := T0.keep hb1
  clear hW0 x0 x1 hk O1 KK N1 hb1
  have x0 : w1.cell? ⟨w.heap.size, 0, none⟩ = some (.int .i64 la) := A1'.c 0
  have x1 : w1.cell? ⟨w.heap.size, 1, none⟩ = some (.slice a ts.length cap) := A1'.c 1
  have t1 : w1.cell? ⟨w.heap.size + 1, 1, none⟩ = some (.string t.nm) := T1'.c 1
  go_wp2_with fail
  refine (atS_first la a b o cap ts t.nm _ hl (hs.below H1.old)).mono ?_
  rintro e w2 ⟨p, rfl, hp, hb2⟩
  have H2 := H1.keep hb2
  have A2 := A1.keep hb2
  clear x0 x1 t1 H1 A1 A1' T1' hb2 na nb u1 HB1 A0 T0 R0
  have q3 : (t.n != s.sn) = false := by unfold bne; rw [q2]; rfl
  have ep : p = (i : Int) := by
    rcases hp with ⟨rfl, hz⟩ | ⟨k, u, rfl, hu, hn, hz⟩
    · exact absurd hsn (hz i s (List.getElem?_eq_some_iff.1 hsi).1 hsi)
    · rw [NoneTo.one hz hu hn hf hsi hsn]
  subst ep
  have hil : i < ts.length := (List.getElem?_eq_some_iff.1 hsi).1
  have hne : ts ≠ [] := by intro e; subst e; simp at hil
  obtain rfl := hs.here hne
  have hbl : b < w.heap.size := hs.lt hne
  have HUL : Hid (us.length = ts.length) := len_keys HK.out
  have hil' : i < us.length := by rw [HUL.out]; exact hil
  have hul : us.length ≤ 1048576 := by rw [HUL.out]; exact hl
  obtain ⟨u, hu⟩ : ∃ u, us[i]? = some u := ⟨us[i], List.getElem?_eq_getElem hil'⟩
  have EK : Hid (u.key = s.key) := by
    have e := congrArg (fun l => l[i]?) HK.out
    simp only [List.getElem?_map, hu, hsi, Option.map_some, Option.some.injEq] at e
    exact e
  have HSI : Hid (ts[i]? = some s) := hsi
  have HU : Hid (us[i]? = some u) := hu
  have i0 : (0 : Int) ≤ (i : Int) := by omega
  have i1 : (i : Int) < (ts.length : Int) := by omega
  have i2 : ¬ (i : Int) < 0 := by omega
  have i3 : (i : Int) < (us.length : Int) := by omega
  have x1 : w2.cell? ⟨w.heap.size, 1, none⟩ = some (.slice (some ⟨b, o, none⟩) ts.length cap) := A2.c 1
  obtain ⟨e0, e1, e2, e3, e4, e5, e6, e7, e8, e9, e10, e11, e12⟩ := cl_cells ((hs.below H2.old).cell i s hsi)
  obtain ⟨W3, hW3⟩ : ∃ W3, w2.alloc (.cells #[.string s.nm, .int .i64 s.n, .int .i64 s.p.q, .int .i64 s.p.s, .slice s.p.a s.p.l.length s.p.cap, .int .i64 s.p.fr, .int .i64 s.p.b, .int .i64 s.sn, .int .i64 s.x.q, .int .i64 s.x.s, .slice s.x.a s.x.l.length s.x.cap, .int .i64 s.x.fr, .int .i64 s.x.b] 58) = W3 := ⟨_, rfl⟩
  have KS : Below w2.heap.size w2 W3 := by rw [← hW3]; exact bel1 _
  have H3 := H2.keep KS
  have S3 : Bx W3 w2.heap.size #[.string s.nm, .int .i64 s.n, .int .i64 s.p.q, .int .i64 s.p.s, .slice s.p.a s.p.l.length s.p.cap, .int .i64 s.p.fr, .int .i64 s.p.b, .int .i64 s.sn, .int .i64 s.x.q, .int .i64 s.x.s, .slice s.x.a s.x.l.length s.x.cap, .int .i64 s.x.fr, .int .i64 s.x.b] := by rw [← hW3]; exact Bx.new w2 _ _
  have d0 : W3.cell? ⟨w.heap.size + 1, 0, none⟩ = some (.int .i64 t.k) := H3.wd.c 0
  have d2 : W3.cell? ⟨w.heap.size + 1, 2, none⟩ = some (.int .i64 t.n) := H3.wd.c 2
  have d3 : W3.cell? ⟨w2.heap.size, 1, none⟩ = some (.int .i64 s.n) := S3.c 1
  have d4 : W3.cell? ⟨w2.heap.size, 7, none⟩ = some (.int .i64 s.sn) := S3.c 7
  have y0 : W3.cell? ⟨w1.heap.size, 0, none⟩ = some (.int .i64 la) := H3.bk.c 0
  have y1 : W3.cell? ⟨w1.heap.size, 1, none⟩ = some (.slice a1 us.length c1) := H3.bk.c 1
  have r0 : W3.cell? ⟨w.heap.size + 1 + 1, 0, none⟩ = some (.int .i64 0) := H3.res.c 0
  have r1 : W3.cell? ⟨w.heap.size + 1 + 1, 1, none⟩ = some (.slice none 0 0) := H3.res.c 1
  have rf := H3.res.f
  have HSN : Hid (s.nm = t.nm) := hsn
  clear hsi hp hf hu hsn
  obtain ⟨g, cc, ea, hg1, hg2⟩ := owns_some H2.own.row (by omega)
  simp only [Value.slice.injEq, true_and] at ea
  obtain ⟨rfl, rfl⟩ := ea
  have hgK : ¬ g = w1.heap.size := fun e => H2.ne (by rw [← e]; simp [bkBlks, Value.ownBlock])
  have hgK' : ¬ w1.heap.size = g := fun e => hgK e.symm
  have R3 := H3.own.row
  have c0_ : W3.cell? ⟨g, i * 13, none⟩ = some (.string u.nm) := (R3.cellAt (i * 13) (by omega)).trans (hdCells_at _ i u 0 HU.out (by decide))
  have c1_ : W3.cell? ⟨g, i * 13 + 1, none⟩ = some (.int .i64 u.n) := (R3.cellAt (i * 13 + 1) (by omega)).trans (hdCells_at _ i u 1 HU.out (by decide))
  have c2_ : W3.cell? ⟨g, i * 13 + 2, none⟩ = some (.int .i64 u.p.q) := (R3.cellAt (i * 13 + 2) (by omega)).trans (hdCells_at _ i u 2 HU.out (by decide))
  have c3_ : W3.cell? ⟨g, i * 13 + 3, none⟩ = some (.int .i64 u.p.s) := (R3.cellAt (i * 13 + 3) (by omega)).trans (hdCells_at _ i u 3 HU.out (by decide))
  have c4_ : W3.cell? ⟨g, i * 13 + 4, none⟩ = some (.slice u.p.a u.p.l.length u.p.cap) := (R3.cellAt (i * 13 + 4) (by omega)).trans (hdCells_at _ i u 4 HU.out (by decide))
  have c5_ : W3.cell? ⟨g, i * 13 + 5, none⟩ = some (.int .i64 u.p.fr) := (R3.cellAt (i * 13 + 5) (by omega)).trans (hdCells_at _ i u 5 HU.out (by decide))
  have c6_ : W3.cell? ⟨g, i * 13 + 6, none⟩ = some (.int .i64 u.p.b) := (R3.cellAt (i * 13 + 6) (by omega)).trans (hdCells_at _ i u 6 HU.out (by decide))
  have c7_ : W3.cell? ⟨g, i * 13 + 7, none⟩ = some (.int .i64 u.sn) := (R3.cellAt (i * 13 + 7) (by omega)).trans (hdCells_at _ i u 7 HU.out (by decide))
  have c8_ : W3.cell? ⟨g, i * 13 + 8, none⟩ = some (.int .i64 u.x.q) := (R3.cellAt (i * 13 + 8) (by omega)).trans (hdCells_at _ i u 8 HU.out (by decide))
  have c9_ : W3.cell? ⟨g, i * 13 + 9, none⟩ = some (.int .i64 u.x.s) := (R3.cellAt (i * 13 + 9) (by omega)).trans (hdCells_at _ i u 9 HU.out (by decide))
  have c10_ : W3.cell? ⟨g, i * 13 + 10, none⟩ = some (.slice u.x.a u.x.l.length u.x.cap) := (R3.cellAt (i * 13 + 10) (by omega)).trans (hdCells_at _ i u 10 HU.out (by decide))
  have c11_ : W3.cell? ⟨g, i * 13 + 11, none⟩ = some (.int .i64 u.x.fr) := (R3.cellAt (i * 13 + 11) (by omega)).trans (hdCells_at _ i u 11 HU.out (by decide))
  have c12_ : W3.cell? ⟨g, i * 13 + 12, none⟩ = some (.int .i64 u.x.b) := (R3.cellAt (i * 13 + 12) (by omega)).trans (hdCells_at _ i u 12 HU.out (by decide))
  have nf := R3.frozenAt
  have rt0 := hd_put R3 HU.out (j := 2) (t' := (⟨u.nm, u.n, ⟨u.x.q, u.p.s, u.p.fr, u.p.b, u.p.a, u.p.b0, u.p.o, u.p.cap, u.p.l⟩, u.sn, ⟨u.x.q, u.x.s, u.x.fr, u.x.b, u.x.a, u.x.b0, u.x.o, u.x.cap, u.x.l⟩⟩ : Hd)) (u := .int .i64 u.x.q) (by decide) rfl
  have rt1 := hd_put_set (t := (⟨u.nm, u.n, ⟨u.x.q, u.p.s, u.p.fr, u.p.b, u.p.a, u.p.b0, u.p.o, u.p.cap, u.p.l⟩, u.sn, ⟨u.x.q, u.x.s, u.x.fr, u.x.b, u.x.a, u.x.b0, u.x.o, u.x.cap, u.x.l⟩⟩ : Hd)) (t' := (⟨u.nm, u.n, ⟨u.x.q, u.x.s, u.p.fr, u.p.b, u.p.a, u.p.b0, u.p.o, u.p.cap, u.p.l⟩, u.sn, ⟨u.x.q, u.x.s, u.x.fr, u.x.b, u.x.a, u.x.b0, u.x.o, u.x.cap, u.x.l⟩⟩ : Hd)) (j := 3) (u := .int .i64 u.x.s) rt0 hil' (by decide) rfl
  have rt2 := hd_put_set (t := (⟨u.nm, u.n, ⟨u.x.q, u.x.s, u.p.fr, u.p.b, u.p.a, u.p.b0, u.p.o, u.p.cap, u.p.l⟩, u.sn, ⟨u.x.q, u.x.s, u.x.fr, u.x.b, u.x.a, u.x.b0, u.x.o, u.x.cap, u.x.l⟩⟩ : Hd)) (t' := (⟨u.nm, u.n, ⟨u.x.q, u.x.s, u.p.fr, u.p.b, u.x.a, u.p.b0, u.p.o, u.x.cap, u.x.l⟩, u.sn, ⟨u.x.q, u.x.s, u.x.fr, u.x.b, u.x.a, u.x.b0, u.x.o, u.x.cap, u.x.l⟩⟩ : Hd)) (j := 4) (u := .slice u.x.a u.x.l.length u.x.cap) rt1 hil' (by decide) rfl
  have rt3 := hd_put_set (t := (⟨u.nm, u.n, ⟨u.x.q, u.x.s, u.p.fr, u.p.b, u.x.a, u.p.b0, u.p.o, u.x.cap, u.x.l⟩, u.sn, ⟨u.x.q, u.x.s, u.x.fr, u.x.b, u.x.a, u.x.b0, u.x.o, u.x.cap, u.x.l⟩⟩ : Hd)) (t' := (⟨u.nm, u.n, ⟨u.x.q, u.x.s, u.x.fr, u.p.b, u.x.a, u.p.b0, u.p.o, u.x.cap, u.x.l⟩, u.sn, ⟨u.x.q, u.x.s, u.x.fr, u.x.b, u.x.a, u.x.b0, u.x.o, u.x.cap, u.x.l⟩⟩ : Hd)) (j := 5) (u := .int .i64 u.x.fr) rt2 hil' (by decide) rfl
  have rt4 := hd_put_set (t := (⟨u.nm, u.n, ⟨u.x.q, u.x.s, u.x.fr, u.p.b, u.x.a, u.p.b0, u.p.o, u.x.cap, u.x.l⟩, u.sn, ⟨u.x.q, u.x.s, u.x.fr, u.x.b, u.x.a, u.x.b0, u.x.o, u.x.cap, u.x.l⟩⟩ : Hd)) (t' := (⟨u.nm, u.n, ⟨u.x.q, u.x.s, u.x.fr, u.x.b, u.x.a, u.p.b0, u.p.o, u.x.cap, u.x.l⟩, u.sn, ⟨u.x.q, u.x.s, u.x.fr, u.x.b, u.x.a, u.x.b0, u.x.o, u.x.cap, u.x.l⟩⟩ : Hd)) (j := 6) (u := .int .i64 u.x.b) rt3 hil' (by decide) rfl
  have rt5 := hd_put_set (t := (⟨u.nm, u.n, ⟨u.x.q, u.x.s, u.x.fr, u.x.b, u.x.a, u.p.b0, u.p.o, u.x.cap, u.x.l⟩, u.sn, ⟨u.x.q, u.x.s, u.x.fr, u.x.b, u.x.a, u.x.b0, u.x.o, u.x.cap, u.x.l⟩⟩ : Hd)) (t' := (⟨u.nm, t.n, ⟨u.x.q, u.x.s, u.x.fr, u.x.b, u.x.a, u.p.b0, u.p.o, u.x.cap, u.x.l⟩, u.sn, ⟨u.x.q, u.x.s, u.x.fr, u.x.b, u.x.a, u.x.b0, u.x.o, u.x.cap, u.x.l⟩⟩ : Hd)) (j := 1) (u := .int .i64 t.n) rt4 hil' (by decide) rfl
  have rt6 := hd_put_set (t := (⟨u.nm, t.n, ⟨u.x.q, u.x.s, u.x.fr, u.x.b, u.x.a, u.p.b0, u.p.o, u.x.cap, u.x.l⟩, u.sn, ⟨u.x.q, u.x.s, u.x.fr, u.x.b, u.x.a, u.x.b0, u.x.o, u.x.cap, u.x.l⟩⟩ : Hd)) (t' := (⟨u.nm, t.n, ⟨u.x.q, u.x.s, u.x.fr, u.x.b, u.x.a, u.p.b0, u.p.o, u.x.cap, u.x.l⟩, 0, ⟨u.x.q, u.x.s, u.x.fr, u.x.b, u.x.a, u.x.b0, u.x.o, u.x.cap, u.x.l⟩⟩ : Hd)) (j := 7) (u := .int .i64 0) rt5 hil' (by decide) rfl
  have rt7 := hd_put_set (t := (⟨u.nm, t.n, ⟨u.x.q, u.x.s, u.x.fr, u.x.b, u.x.a, u.p.b0, u.p.o, u.x.cap, u.x.l⟩, 0, ⟨u.x.q, u.x.s, u.x.fr, u.x.b, u.x.a, u.x.b0, u.x.o, u.x.cap, u.x.l⟩⟩ : Hd)) (t' := (⟨u.nm, t.n, ⟨u.x.q, u.x.s, u.x.fr, u.x.b, u.x.a, u.p.b0, u.p.o, u.x.cap, u.x.l⟩, 0, ⟨0, u.x.s, u.x.fr, u.x.b, u.x.a, u.x.b0, u.x.o, u.x.cap, u.x.l⟩⟩ : Hd)) (j := 8) (u := .int .i64 0) rt6 hil' (by decide) rfl
  have rt8 := hd_put_set (t := (⟨u.nm, t.n, ⟨u.x.q, u.x.s, u.x.fr, u.x.b, u.x.a, u.p.b0, u.p.o, u.x.cap, u.x.l⟩, 0, ⟨0, u.x.s, u.x.fr, u.x.b, u.x.a, u.x.b0, u.x.o, u.x.cap, u.x.l⟩⟩ : Hd)) (t' := (⟨u.nm, t.n, ⟨u.x.q, u.x.s, u.x.fr, u.x.b, u.x.a, u.p.b0, u.p.o, u.x.cap, u.x.l⟩, 0, ⟨0, 0, u.x.fr, u.x.b, u.x.a, u.x.b0, u.x.o, u.x.cap, u.x.l⟩⟩ : Hd)) (j := 9) (u := .int .i64 0) rt7 hil' (by decide) rfl
  have rt9 := hd_put_set (t := (⟨u.nm, t.n, ⟨u.x.q, u.x.s, u.x.fr, u.x.b, u.x.a, u.p.b0, u.p.o, u.x.cap, u.x.l⟩, 0, ⟨0, 0, u.x.fr, u.x.b, u.x.a, u.x.b0, u.x.o, u.x.cap, u.x.l⟩⟩ : Hd)) (t' := (⟨u.nm, t.n, ⟨u.x.q, u.x.s, u.x.fr, u.x.b, u.x.a, u.p.b0, u.p.o, u.x.cap, u.x.l⟩, 0, ⟨0, 0, u.x.fr, u.x.b, none, u.x.b0, u.x.o, 0, []⟩⟩ : Hd)) (j := 10) (u := .slice none 0 0) rt8 hil' (by decide) rfl
  have rt10 := hd_put_set (t := (⟨u.nm, t.n, ⟨u.x.q, u.x.s, u.x.fr, u.x.b, u.x.a, u.p.b0, u.p.o, u.x.cap, u.x.l⟩, 0, ⟨0, 0, u.x.fr, u.x.b, none, u.x.b0, u.x.o, 0, []⟩⟩ : Hd)) (t' := (⟨u.nm, t.n, ⟨u.x.q, u.x.s, u.x.fr, u.x.b, u.x.a, u.p.b0, u.p.o, u.x.cap, u.x.l⟩, 0, ⟨0, 0, 0, u.x.b, none, u.x.b0, u.x.o, 0, []⟩⟩ : Hd)) (j := 11) (u := .int .i64 0) rt9 hil' (by decide) rfl
  have rt11 := hd_put_set (t := (⟨u.nm, t.n, ⟨u.x.q, u.x.s, u.x.fr, u.x.b, u.x.a, u.p.b0, u.p.o, u.x.cap, u.x.l⟩, 0, ⟨0, 0, 0, u.x.b, none, u.x.b0, u.x.o, 0, []⟩⟩ : Hd)) (t' := (⟨u.nm, t.n, ⟨u.x.q, u.x.s, u.x.fr, u.x.b, u.x.a, u.p.b0, u.p.o, u.x.cap, u.x.l⟩, 0, ⟨0, 0, 0, 0, none, u.x.b0, u.x.o, 0, []⟩⟩ : Hd)) (j := 12) (u := .int .i64 0) rt10 hil' (by decide) rfl
  have S4 := Spared.grown (S := (Value.slice (some ⟨g, 0, none⟩) us.length c1).ownBlock.toList) (grown_over2 (grown_over2 (grown_over2 (grown_over2 (grown_over2 (grown_over2 (grown_over2 (grown_over2 (grown_over2 (grown_over2 (grown_over2 (grown_set W3 ⟨g, i * 13 + 2, none⟩ (.int .i64 u.x.q)) (grown_set _ ⟨g, i * 13 + 3, none⟩ (.int .i64 u.x.s))) (grown_set _ ⟨g, i * 13 + 4, none⟩ (.slice u.x.a u.x.l.length u.x.cap))) (grown_set _ ⟨g, i * 13 + 5, none⟩ (.int .i64 u.x.fr))) (grown_set _ ⟨g, i * 13 + 6, none⟩ (.int .i64 u.x.b))) (grown_set _ ⟨g, i * 13 + 1, none⟩ (.int .i64 t.n))) (grown_set _ ⟨g, i * 13 + 7, none⟩ (.int .i64 0))) (grown_set _ ⟨g, i * 13 + 8, none⟩ (.int .i64 0))) (grown_set _ ⟨g, i * 13 + 9, none⟩ (.int .i64 0))) (grown_set _ ⟨g, i * 13 + 10, none⟩ (.slice none 0 0))) (grown_set _ ⟨g, i * 13 + 11, none⟩ (.int .i64 0))) (grown_set _ ⟨g, i * 13 + 12, none⟩ (.int .i64 0))) (by simp [Value.ownBlock])
  obtain ⟨P1, P2, P3, P4⟩ := H3.put (u' := (⟨u.nm, t.n, ⟨u.x.q, u.x.s, u.x.fr, u.x.b, u.x.a, u.p.b0, u.p.o, u.x.cap, u.x.l⟩, 0, ⟨0, 0, 0, 0, none, u.x.b0, u.x.o, 0, []⟩⟩ : Hd)) HU.out S4 rt11 (fun _ hO => ⟨hO.x, World.ownsRow_nil _ _ _ _, fun k _ e => by simp [Value.ownBlock] at e⟩) (fun k hk => by simp only [Hd.blks, List.mem_append, Option.mem_toList] at hk ⊢; rcases hk with hk | hk; exact Or.inr hk; simp [Value.ownBlock] at hk)
  have HKR : Hid ((us.set i (⟨u.nm, t.n, ⟨u.x.q, u.x.s, u.x.fr, u.x.b, u.x.a, u.p.b0, u.p.o, u.x.cap, u.x.l⟩, 0, ⟨0, 0, 0, 0, none, u.x.b0, u.x.o, 0, []⟩⟩ : Hd)).map Hd.key = (ts.map Hd.key).set i (tookK s.key)) := by
    show _ = _
    rw [key_set, HK.out, ← EK.out]
    have e1 : t.n = u.sn := by
      have e2 := congrArg (fun k : HKey => k.2.2.2.1) EK.out
      have e3 : u.sn = s.sn := e2
      rw [e3]
      exact eq_of_beq q2
    rw [e1]
    rfl
  have HSM : Hid (∀ q ∈ (us.set i (⟨u.nm, t.n, ⟨u.x.q, u.x.s, u.x.fr, u.x.b, u.x.a, u.p.b0, u.p.o, u.x.cap, u.x.l⟩, 0, ⟨0, 0, 0, 0, none, u.x.b0, u.x.o, 0, []⟩⟩ : Hd)).map Hd.at0, q.p.l.length ≤ 1048576 ∧ q.x.l.length ≤ 1048576) := fun q hq => by
    obtain ⟨q', hq', rfl⟩ := List.mem_map.1 hq
    have hall := small_keys HK.out hsm
    rcases mem_set_cases hq' with rfl | ⟨j, _, hj⟩
    · have hh := hall u (List.mem_of_getElem? HU.out)
      exact ⟨by first | exact hh.1 | exact hh.2, by simp [Hd.at0, Pt.at0]⟩
    · exact hall q' (List.mem_of_getElem? hj)
  have D5 : ∀ W : World, Below W.heap.size W W.drew := fun _ => (Below.refl _ _).drew
  have P1' := P1.below (D5 _)
  have P2' := P2.keep (D5 _)
  have P3' := P3.keep (D5 _)
  have P4' := P4.drew
  clear rt0 rt1 rt2 rt3 rt4 rt5 rt6 rt7 rt8 rt9 rt10 rt11 S4 P1 P2 P3 P4 D5
  go_wp2
  go_region_held3 (fun w' => w'.cell? ⟨w1.heap.size, 1, none⟩ = some (.slice (some ⟨g, 0, none⟩) us.length c1) ∧ w'.cell? ⟨g, i * 13 + 8, none⟩ = some (.int .i64 u.x.q) ∧ w'.cell? ⟨g, i * 13 + 9, none⟩ = some (.int .i64 u.x.s) ∧ w'.cell? ⟨g, i * 13 + 10, none⟩ = some (.slice u.x.a u.x.l.length u.x.cap) ∧ w'.cell? ⟨g, i * 13 + 11, none⟩ = some (.int .i64 u.x.fr) ∧ w'.cell? ⟨g, i * 13 + 12, none⟩ = some (.int .i64 u.x.b))
    (simp [go_sem, *])
    (fail)
  have ZL : Hid (w.heap.size + 1 + 1 < (((((((((((((W3.setCell ⟨g, i * 13 + 2, none⟩ (.int .i64 u.x.q)).setCell ⟨g, i * 13 + 2 + 1, none⟩ (.int .i64 u.x.s)).setCell ⟨g, i * 13 + 2 + 2, none⟩ (.slice u.x.a u.x.l.length u.x.cap)).setCell ⟨g, i * 13 + 2 + 3, none⟩ (.int .i64 u.x.fr)).setCell ⟨g, i * 13 + 2 + 4, none⟩ (.int .i64 u.x.b)).setCell ⟨g, i * 13 + 1, none⟩ (.int .i64 t.n)).setCell ⟨g, i * 13 + 7, none⟩ (.int .i64 0)).setCell ⟨g, i * 13 + 8, none⟩ (.int .i64 0)).setCell ⟨g, i * 13 + 8 + 1, none⟩ (.int .i64 0)).setCell ⟨g, i * 13 + 8 + 2, none⟩ (.slice none 0 0)).setCell ⟨g, i * 13 + 8 + 3, none⟩ (.int .i64 0)).setCell ⟨g, i * 13 + 8 + 4, none⟩ (.int .i64 0)).drew).heap.size) := (P2').lt
  obtain ⟨aX, gX, cX, eX, hX⟩ := (P1').at_
  simp only [List.length_set, Value.slice.injEq] at eX
  obtain ⟨rfl, _, rfl⟩ := eX
  have EL : Hid ((us.set i (⟨u.nm, t.n, ⟨u.x.q, u.x.s, u.x.fr, u.x.b, u.x.a, u.p.b0, u.p.o, u.x.cap, u.x.l⟩, 0, ⟨0, 0, 0, 0, none, u.x.b0, u.x.o, 0, []⟩⟩ : Hd)).length = us.length) := by simp [Hid]
  have hsx : ∀ q ∈ (us.set i (⟨u.nm, t.n, ⟨u.x.q, u.x.s, u.x.fr, u.x.b, u.x.a, u.p.b0, u.p.o, u.x.cap, u.x.l⟩, 0, ⟨0, 0, 0, 0, none, u.x.b0, u.x.o, 0, []⟩⟩ : Hd)).map Hd.at0, q.p.l.length ≤ 1048576 ∧ q.x.l.length ≤ 1048576 := HSM.out
  have hlx : ((us.set i (⟨u.nm, t.n, ⟨u.x.q, u.x.s, u.x.fr, u.x.b, u.x.a, u.p.b0, u.p.o, u.x.cap, u.x.l⟩, 0, ⟨0, 0, 0, 0, none, u.x.b0, u.x.o, 0, []⟩⟩ : Hd)).map Hd.at0).length ≤ 1048576 := by rw [List.length_map, EL.out]; exact hul
  have hcp := copyBS_any la (some ⟨g, 0, none⟩) gX 0 c1 ((us.set i (⟨u.nm, t.n, ⟨u.x.q, u.x.s, u.x.fr, u.x.b, u.x.a, u.p.b0, u.p.o, u.x.cap, u.x.l⟩, 0, ⟨0, 0, 0, 0, none, u.x.b0, u.x.o, 0, []⟩⟩ : Hd)).map Hd.at0) ((((((((((((W3.setCell ⟨g, i * 13 + 2, none⟩ (.int .i64 u.x.q)).setCell ⟨g, i * 13 + 2 + 1, none⟩ (.int .i64 u.x.s)).setCell ⟨g, i * 13 + 2 + 2, none⟩ (.slice u.x.a u.x.l.length u.x.cap)).setCell ⟨g, i * 13 + 2 + 3, none⟩ (.int .i64 u.x.fr)).setCell ⟨g, i * 13 + 2 + 4, none⟩ (.int .i64 u.x.b)).setCell ⟨g, i * 13 + 1, none⟩ (.int .i64 t.n)).setCell ⟨g, i * 13 + 7, none⟩ (.int .i64 0)).setCell ⟨g, i * 13 + 8, none⟩ (.int .i64 0)).setCell ⟨g, i * 13 + 8 + 1, none⟩ (.int .i64 0)).setCell ⟨g, i * 13 + 8 + 2, none⟩ (.slice none 0 0)).setCell ⟨g, i * 13 + 8 + 3, none⟩ (.int .i64 0)).setCell ⟨g, i * 13 + 8 + 4, none⟩ (.int .i64 0)).drew hlx hsx hX
  rw [List.length_map, EL.out, at0_keys] at hcp
  go_wp2_with fail
  refine hcp.mono ?_
  rintro e w9 ⟨v9, us9, rfl, hk9, O9, hb9⟩
  have HK9 : Hid (us9.map Hd.key = (us.set i (⟨u.nm, t.n, ⟨u.x.q, u.x.s, u.x.fr, u.x.b, u.x.a, u.p.b0, u.p.o, u.x.cap, u.x.l⟩, 0, ⟨0, 0, 0, 0, none, u.x.b0, u.x.o, 0, []⟩⟩ : Hd)).map Hd.key) := hk9
  obtain ⟨a9, c9, rfl⟩ := own_slice O9.row
  have R9 := (P2').keep hb9
  have B9 := (P4').trans (hb9.mono (P4').size)
  have z0 : w9.cell? ⟨w.heap.size + 1 + 1, 0, none⟩ = some (.int .i64 0) := R9.c 0
  have z1 : w9.cell? ⟨w.heap.size + 1 + 1, 1, none⟩ = some (.slice none 0 0) := R9.c 1
  have zf := R9.f
  have HF : Hid (BkOwn ((w9.setCell ⟨w.heap.size + 1 + 1, 0, none⟩ (.int .i64 la)).setCell ⟨w.heap.size + 1 + 1, 1, none⟩ (.slice a9 us9.length c9)) w.heap.size (.slice a9 us9.length c9) us9) := by
    have O9' : BkOwn w9 ((((((((((((((W3.setCell ⟨g, i * 13 + 2, none⟩ (.int .i64 u.x.q)).setCell ⟨g, i * 13 + 2 + 1, none⟩ (.int .i64 u.x.s)).setCell ⟨g, i * 13 + 2 + 2, none⟩ (.slice u.x.a u.x.l.length u.x.cap)).setCell ⟨g, i * 13 + 2 + 3, none⟩ (.int .i64 u.x.fr)).setCell ⟨g, i * 13 + 2 + 4, none⟩ (.int .i64 u.x.b)).setCell ⟨g, i * 13 + 1, none⟩ (.int .i64 t.n)).setCell ⟨g, i * 13 + 7, none⟩ (.int .i64 0)).setCell ⟨g, i * 13 + 8, none⟩ (.int .i64 0)).setCell ⟨g, i * 13 + 8 + 1, none⟩ (.int .i64 0)).setCell ⟨g, i * 13 + 8 + 2, none⟩ (.slice none 0 0)).setCell ⟨g, i * 13 + 8 + 3, none⟩ (.int .i64 0)).setCell ⟨g, i * 13 + 8 + 4, none⟩ (.int .i64 0)).drew).heap.size) (.slice a9 us9.length c9) us9 := O9
    obtain ⟨n9, hn9⟩ : ∃ n9, (((((((((((((W3.setCell ⟨g, i * 13 + 2, none⟩ (.int .i64 u.x.q)).setCell ⟨g, i * 13 + 2 + 1, none⟩ (.int .i64 u.x.s)).setCell ⟨g, i * 13 + 2 + 2, none⟩ (.slice u.x.a u.x.l.length u.x.cap)).setCell ⟨g, i * 13 + 2 + 3, none⟩ (.int .i64 u.x.fr)).setCell ⟨g, i * 13 + 2 + 4, none⟩ (.int .i64 u.x.b)).setCell ⟨g, i * 13 + 1, none⟩ (.int .i64 t.n)).setCell ⟨g, i * 13 + 7, none⟩ (.int .i64 0)).setCell ⟨g, i * 13 + 8, none⟩ (.int .i64 0)).setCell ⟨g, i * 13 + 8 + 1, none⟩ (.int .i64 0)).setCell ⟨g, i * 13 + 8 + 2, none⟩ (.slice none 0 0)).setCell ⟨g, i * 13 + 8 + 3, none⟩ (.int .i64 0)).setCell ⟨g, i * 13 + 8 + 4, none⟩ (.int .i64 0)).drew).heap.size = n9 := ⟨_, rfl⟩
    have zL' : w.heap.size + 1 + 1 < (((((((((((((W3.setCell ⟨g, i * 13 + 2, none⟩ (.int .i64 u.x.q)).setCell ⟨g, i * 13 + 2 + 1, none⟩ (.int .i64 u.x.s)).setCell ⟨g, i * 13 + 2 + 2, none⟩ (.slice u.x.a u.x.l.length u.x.cap)).setCell ⟨g, i * 13 + 2 + 3, none⟩ (.int .i64 u.x.fr)).setCell ⟨g, i * 13 + 2 + 4, none⟩ (.int .i64 u.x.b)).setCell ⟨g, i * 13 + 1, none⟩ (.int .i64 t.n)).setCell ⟨g, i * 13 + 7, none⟩ (.int .i64 0)).setCell ⟨g, i * 13 + 8, none⟩ (.int .i64 0)).setCell ⟨g, i * 13 + 8 + 1, none⟩ (.int .i64 0)).setCell ⟨g, i * 13 + 8 + 2, none⟩ (.slice none 0 0)).setCell ⟨g, i * 13 + 8 + 3, none⟩ (.int .i64 0)).setCell ⟨g, i * 13 + 8 + 4, none⟩ (.int .i64 0)).drew).heap.size := ZL.out
    rw [hn9] at O9' zL'
    have hlt := O9'.lt
    refine ((O9'.spared (S := [w.heap.size + 1 + 1]) (Spared.trans (Spared.grown (grown_set _ _ _) (by simp)) (Spared.grown (grown_set _ _ _) (by simp))) (fun k hk hk' => ?_))).lower (by omega)
    simp at hk'
    have := (hlt k hk).1
    omega
  clear hk9 O9 hcp hX hsx hlx hb9 ZL
  go_wp2
  refine bodyPost_ret (v := .agg #[.int .i64 la, .slice a9 us9.length c9]) (by simp [results, Try.results15, go_sem, *]) rfl ⟨_, us9, rfl, by rw [HK9.out]; exact HKR.out, HF.out, ?_⟩
  iterate 2 (refine Below.setCell ?_ (by simp; omega) _)
  exact B9

set_option maxRecDepth 40000 in
set_option maxHeartbeats 4000000 in
theorem hearS_took5 (la : Int) (a : Option Addr) (b o cap : Nat) (ts : List Hd) (t : Wd) (w : World) (hl : ts.length ≤ 1048576) (hsm : ∀ t ∈ ts, t.p.l.length ≤ 1048576 ∧ t.x.l.length ≤ 1048576) (hs : HdsAt w a b o ts) (i : Nat) (s : Hd) (hsi : ts[i]? = some s) (hsn : s.nm = t.nm) (hf : NoneTo ts t.nm i) (k6 : (t.k == 6) = false) (k3 : (t.k == 3) = false) (k5 : (t.k == 5) = true) (q2 : (t.n == s.sn) = true) (sg : 0 < s.sn) :
    Calls Try.prog 15 #[.agg #[.int .i64 la, .slice a ts.length cap], t.val] w fun e w' => ∃ (v : Value) (us' : List Hd), e = .returned (.agg #[.int .i64 la, v]) ∧ us'.map Hd.key = (ts.map Hd.key).set i (tookK s.key) ∧ BkOwn w' w.heap.size v us' ∧ Below w.heap.size w w' := by
  obtain ⟨W0, hW0⟩ : ∃ W0, ((w.alloc (.cells #[.int .i64 la, .slice a ts.length cap] 37)).alloc (.cells #[.int .i64 t.k, .string t.nm, .int .i64 t.n, .int .i64 t.p.q, .int .i64 t.p.s, .slice t.p.a t.p.l.length t.p.cap, .int .i64 t.p.fr, .int .i64 t.p.b] 32)).alloc (.cells #[.int .i64 0, .slice none 0 0] 37) = W0 := ⟨_, rfl⟩
  have B0 : Below w.heap.size w W0 := by rw [← hW0]; exact bel3 _ _ _
  have A0 : Bx W0 w.heap.size #[.int .i64 la, .slice a ts.length cap] := by rw [← hW0]; exact ((Bx.new w #[.int .i64 la, .slice a ts.length cap] 37).keep (bel1 _)).keep (bel1 _)
  have T0 : Bx W0 (w.heap.size + 1) #[.int .i64 t.k, .string t.nm, .int .i64 t.n, .int .i64 t.p.q, .int .i64 t.p.s, .slice t.p.a t.p.l.length t.p.cap, .int .i64 t.p.fr, .int .i64 t.p.b] := by
    rw [← hW0]
    have h := (Bx.new (w.alloc (.cells #[.int .i64 la, .slice a ts.length cap] 37)) #[.int .i64 t.k, .string t.nm, .int .i64 t.n, .int .i64 t.p.q, .int .i64 t.p.s, .slice t.p.a t.p.l.length t.p.cap, .int .i64 t.p.fr, .int .i64 t.p.b] 32).keep (bel1 (.cells #[.int .i64 0, .slice none 0 0] 37))
    rwa [World.size_alloc] at h
  have R0 : Bx W0 (w.heap.size + 1 + 1) #[.int .i64 0, .slice none 0 0] := by
    rw [← hW0]
    have h := Bx.new ((w.alloc (.cells #[.int .i64 la, .slice a ts.length cap] 37)).alloc (.cells #[.int .i64 t.k, .string t.nm, .int .i64 t.n, .int .i64 t.p.q, .int .i64 t.p.s, .slice t.p.a t.p.l.length t.p.cap, .int .i64 t.p.fr, .int .i64 t.p.b] 32)) #[.int .i64 0, .slice none 0 0] 37
    rwa [World.size_alloc, World.size_alloc] at h
  have x0 : W0.cell? ⟨w.heap.size, 0, none⟩ = some (.int .i64 la) := A0.c 0
  have x1 : W0.cell? ⟨w.heap.size, 1, none⟩ = some (.slice a ts.length cap) := A0.c 1
  have zR := R0.lt
  go_enter Try.func15, Try.ntmps15
  go_wp2_with fail
  refine (copyBS_any la a b o cap ts _ hl hsm (hs.below B0)).mono ?_
  rintro e w1 ⟨v1, us, rfl, hk, O1, hb1⟩
  have HK : Hid (us.map Hd.key = ts.map Hd.key) := hk
  obtain ⟨a1, c1, rfl⟩ := own_slice O1.row
  have KK := bel1 (w := w1) (.cells #[.int .i64 la, .slice a1 us.length c1] 37)
  have N1 := O1.lt
  have H1 : HsW w (w1.alloc (.cells #[.int .i64 la, .slice a1 us.length c1] 37)) t w1.heap.size la (.slice a1 us.length c1) us := by
    have hz := hb1.size
    have B1 := B0.trans (hb1.mono B0.size)
    exact ⟨B1.trans (KK.mono B1.size), (T0.keep hb1).keep KK, (R0.keep hb1).keep KK, Bx.new w1 _ _, (O1.below KK).lower (by omega), by omega, fun hk => by have := (N1 _ hk).2; omega⟩
  have A1 := (A0.keep hb1).keep KK
  have HB1 : Hid (Below W0.heap.size W0 (w1.alloc (.cells #[.int .i64 la, .slice a1 us.length c1] 37))) := hb1.trans (KK.mono hb1.size)
  have u1 : w1.heap.size ≠ w.heap.size := by have := hb1.size; omega
  have na : ∀ (ob : Obj) (j : Nat), (w1.alloc ob).cell? ⟨w.heap.size, j, none⟩ = w1.cell? ⟨w.heap.size, j, none⟩ := fun ob j => (bel1 ob).cell (p := ⟨w.heap.size, j, none⟩) (show w.heap.size < w1.heap.size by have := hb1.size; omega)
  have nb : ∀ (ob : Obj) (j : Nat), (w1.alloc ob).cell? ⟨w.heap.size + 1, j, none⟩ = w1.cell? ⟨w.heap.size + 1, j, none⟩ := fun ob j => (bel1 ob).cell (p := ⟨w.heap.size + 1, j, none⟩) (show w.heap.size + 1 < w1.heap.size by have := hb1.size; omega)
  have A1' := A0.keep hb1
  have T1' := T0.keep hb1
  clear hW0 x0 x1 hk O1 KK N1 hb1
  have x0 : w1.cell? ⟨w.heap.size, 0, none⟩ = some (.int .i64 la) := A1'.c 0
  have x1 : w1.cell? ⟨w.heap.size, 1, none⟩ = some (.slice a ts.length cap) := A1'.c 1
  have t1 : w1.cell? ⟨w.heap.size + 1, 1, none⟩ = some (.string t.nm) := T1'.c 1
  go_wp2_with fail
  refine (atS_first la a b o cap ts t.nm _ hl (hs.below H1.old)).mono ?_
  rintro e w2 ⟨p, rfl, hp, hb2⟩
  have H2 := H1.keep hb2
  have A2 := A1.keep hb2
  clear x0 x1 t1 H1 A1 A1' T1' hb2 na nb u1 HB1 A0 T0 R0
  have q3 : (t.n != s.sn) = false := by unfold bne; rw [q2]; rfl
  have ep : p = (i : Int) := by
    rcases hp with ⟨rfl, hz⟩ | ⟨k, u, rfl, hu, hn, hz⟩
    · exact absurd hsn (hz i s (List.getElem?_eq_some_iff.1 hsi).1 hsi)
    · rw [NoneTo.one hz hu hn hf hsi hsn]
  subst ep
  have hil : i < ts.length := (List.getElem?_eq_some_iff.1 hsi).1
  have hne : ts ≠ [] := by intro e; subst e; simp at hil
  obtain rfl := hs.here hne
  have hbl : b < w.heap.size := hs.lt hne
  have HUL : Hid (us.length = ts.length) := len_keys HK.out
  have hil' : i < us.length := by rw [HUL.out]; exact hil
  have hul : us.length ≤ 1048576 := by rw [HUL.out]; exact hl
  obtain ⟨u, hu⟩ : ∃ u, us[i]? = some u := ⟨us[i], List.getElem?_eq_getElem hil'⟩
  have EK : Hid (u.key = s.key) := by
    have e := congrArg (fun l => l[i]?) HK.out
    simp only [List.getElem?_map, hu, hsi, Option.map_some, Option.some.injEq] at e
    exact e
  have HSI : Hid (ts[i]? = some s) := hsi
  have HU : Hid (us[i]? = some u) := hu
  have i0 : (0 : Int) ≤ (i : Int) := by omega
  have i1 : (i : Int) < (ts.length : Int) := by omega
  have i2 : ¬ (i : Int) < 0 := by omega
  have i3 : (i : Int) < (us.length : Int) := by omega
  have x1 : w2.cell? ⟨w.heap.size, 1, none⟩ = some (.slice (some ⟨b, o, none⟩) ts.length cap) := A2.c 1
  obtain ⟨e0, e1, e2, e3, e4, e5, e6, e7, e8, e9, e10, e11, e12⟩ := cl_cells ((hs.below H2.old).cell i s hsi)
  obtain ⟨W3, hW3⟩ : ∃ W3, w2.alloc (.cells #[.string s.nm, .int .i64 s.n, .int .i64 s.p.q, .int .i64 s.p.s, .slice s.p.a s.p.l.length s.p.cap, .int .i64 s.p.fr, .int .i64 s.p.b, .int .i64 s.sn, .int .i64 s.x.q, .int .i64 s.x.s, .slice s.x.a s.x.l.length s.x.cap, .int .i64 s.x.fr, .int .i64 s.x.b] 58) = W3 := ⟨_, rfl⟩
  have KS : Below w2.heap.size w2 W3 := by rw [← hW3]; exact bel1 _
  have H3 := H2.keep KS
  have S3 : Bx W3 w2.heap.size #[.string s.nm, .int .i64 s.n, .int .i64 s.p.q, .int .i64 s.p.s, .slice s.p.a s.p.l.length s.p.cap, .int .i64 s.p.fr, .int .i64 s.p.b, .int .i64 s.sn, .int .i64 s.x.q, .int .i64 s.x.s, .slice s.x.a s.x.l.length s.x.cap, .int .i64 s.x.fr, .int .i64 s.x.b] := by rw [← hW3]; exact Bx.new w2 _ _
  have d0 : W3.cell? ⟨w.heap.size + 1, 0, none⟩ = some (.int .i64 t.k) := H3.wd.c 0
  have d2 : W3.cell? ⟨w.heap.size + 1, 2, none⟩ = some (.int .i64 t.n) := H3.wd.c 2
  have d3 : W3.cell? ⟨w2.heap.size, 1, none⟩ = some (.int .i64 s.n) := S3.c 1
  have d4 : W3.cell? ⟨w2.heap.size, 7, none⟩ = some (.int .i64 s.sn) := S3.c 7
  have y0 : W3.cell? ⟨w1.heap.size, 0, none⟩ = some (.int .i64 la) := H3.bk.c 0
  have y1 : W3.cell? ⟨w1.heap.size, 1, none⟩ = some (.slice a1 us.length c1) := H3.bk.c 1
  have r0 : W3.cell? ⟨w.heap.size + 1 + 1, 0, none⟩ = some (.int .i64 0) := H3.res.c 0
  have r1 : W3.cell? ⟨w.heap.size + 1 + 1, 1, none⟩ = some (.slice none 0 0) := H3.res.c 1
  have rf := H3.res.f
  have HSN : Hid (s.nm = t.nm) := hsn
  clear hsi hp hf hu hsn
  obtain ⟨g, cc, ea, hg1, hg2⟩ := owns_some H2.own.row (by omega)
  simp only [Value.slice.injEq, true_and] at ea
  obtain ⟨rfl, rfl⟩ := ea
  have hgK : ¬ g = w1.heap.size := fun e => H2.ne (by rw [← e]; simp [bkBlks, Value.ownBlock])
  have hgK' : ¬ w1.heap.size = g := fun e => hgK e.symm
  have R3 := H3.own.row
  have c0_ : W3.cell? ⟨g, i * 13, none⟩ = some (.string u.nm) := (R3.cellAt (i * 13) (by omega)).trans (hdCells_at _ i u 0 HU.out (by decide))
  have c1_ : W3.cell? ⟨g, i * 13 + 1, none⟩ = some (.int .i64 u.n) := (R3.cellAt (i * 13 + 1) (by omega)).trans (hdCells_at _ i u 1 HU.out (by decide))
  have c2_ : W3.cell? ⟨g, i * 13 + 2, none⟩ = some (.int .i64 u.p.q) := (R3.cellAt (i * 13 + 2) (by omega)).trans (hdCells_at _ i u 2 HU.out (by decide))
  have c3_ : W3.cell? ⟨g, i * 13 + 3, none⟩ = some (.int .i64 u.p.s) := (R3.cellAt (i * 13 + 3) (by omega)).trans (hdCells_at _ i u 3 HU.out (by decide))
  have c4_ : W3.cell? ⟨g, i * 13 + 4, none⟩ = some (.slice u.p.a u.p.l.length u.p.cap) := (R3.cellAt (i * 13 + 4) (by omega)).trans (hdCells_at _ i u 4 HU.out (by decide))
  have c5_ : W3.cell? ⟨g, i * 13 + 5, none⟩ = some (.int .i64 u.p.fr) := (R3.cellAt (i * 13 + 5) (by omega)).trans (hdCells_at _ i u 5 HU.out (by decide))
  have c6_ : W3.cell? ⟨g, i * 13 + 6, none⟩ = some (.int .i64 u.p.b) := (R3.cellAt (i * 13 + 6) (by omega)).trans (hdCells_at _ i u 6 HU.out (by decide))
  have c7_ : W3.cell? ⟨g, i * 13 + 7, none⟩ = some (.int .i64 u.sn) := (R3.cellAt (i * 13 + 7) (by omega)).trans (hdCells_at _ i u 7 HU.out (by decide))
  have c8_ : W3.cell? ⟨g, i * 13 + 8, none⟩ = some (.int .i64 u.x.q) := (R3.cellAt (i * 13 + 8) (by omega)).trans (hdCells_at _ i u 8 HU.out (by decide))
  have c9_ : W3.cell? ⟨g, i * 13 + 9, none⟩ = some (.int .i64 u.x.s) := (R3.cellAt (i * 13 + 9) (by omega)).trans (hdCells_at _ i u 9 HU.out (by decide))
  have c10_ : W3.cell? ⟨g, i * 13 + 10, none⟩ = some (.slice u.x.a u.x.l.length u.x.cap) := (R3.cellAt (i * 13 + 10) (by omega)).trans (hdCells_at _ i u 10 HU.out (by decide))
  have c11_ : W3.cell? ⟨g, i * 13 + 11, none⟩ = some (.int .i64 u.x.fr) := (R3.cellAt (i * 13 + 11) (by omega)).trans (hdCells_at _ i u 11 HU.out (by decide))
  have c12_ : W3.cell? ⟨g, i * 13 + 12, none⟩ = some (.int .i64 u.x.b) := (R3.cellAt (i * 13 + 12) (by omega)).trans (hdCells_at _ i u 12 HU.out (by decide))
  have nf := R3.frozenAt
  have rt0 := hd_put R3 HU.out (j := 2) (t' := (⟨u.nm, u.n, ⟨u.x.q, u.p.s, u.p.fr, u.p.b, u.p.a, u.p.b0, u.p.o, u.p.cap, u.p.l⟩, u.sn, ⟨u.x.q, u.x.s, u.x.fr, u.x.b, u.x.a, u.x.b0, u.x.o, u.x.cap, u.x.l⟩⟩ : Hd)) (u := .int .i64 u.x.q) (by decide) rfl
  have rt1 := hd_put_set (t := (⟨u.nm, u.n, ⟨u.x.q, u.p.s, u.p.fr, u.p.b, u.p.a, u.p.b0, u.p.o, u.p.cap, u.p.l⟩, u.sn, ⟨u.x.q, u.x.s, u.x.fr, u.x.b, u.x.a, u.x.b0, u.x.o, u.x.cap, u.x.l⟩⟩ : Hd)) (t' := (⟨u.nm, u.n, ⟨u.x.q, u.x.s, u.p.fr, u.p.b, u.p.a, u.p.b0, u.p.o, u.p.cap, u.p.l⟩, u.sn, ⟨u.x.q, u.x.s, u.x.fr, u.x.b, u.x.a, u.x.b0, u.x.o, u.x.cap, u.x.l⟩⟩ : Hd)) (j := 3) (u := .int .i64 u.x.s) rt0 hil' (by decide) rfl
  have rt2 := hd_put_set (t := (⟨u.nm, u.n, ⟨u.x.q, u.x.s, u.p.fr, u.p.b, u.p.a, u.p.b0, u.p.o, u.p.cap, u.p.l⟩, u.sn, ⟨u.x.q, u.x.s, u.x.fr, u.x.b, u.x.a, u.x.b0, u.x.o, u.x.cap, u.x.l⟩⟩ : Hd)) (t' := (⟨u.nm, u.n, ⟨u.x.q, u.x.s, u.p.fr, u.p.b, u.x.a, u.p.b0, u.p.o, u.x.cap, u.x.l⟩, u.sn, ⟨u.x.q, u.x.s, u.x.fr, u.x.b, u.x.a, u.x.b0, u.x.o, u.x.cap, u.x.l⟩⟩ : Hd)) (j := 4) (u := .slice u.x.a u.x.l.length u.x.cap) rt1 hil' (by decide) rfl
  have rt3 := hd_put_set (t := (⟨u.nm, u.n, ⟨u.x.q, u.x.s, u.p.fr, u.p.b, u.x.a, u.p.b0, u.p.o, u.x.cap, u.x.l⟩, u.sn, ⟨u.x.q, u.x.s, u.x.fr, u.x.b, u.x.a, u.x.b0, u.x.o, u.x.cap, u.x.l⟩⟩ : Hd)) (t' := (⟨u.nm, u.n, ⟨u.x.q, u.x.s, u.x.fr, u.p.b, u.x.a, u.p.b0, u.p.o, u.x.cap, u.x.l⟩, u.sn, ⟨u.x.q, u.x.s, u.x.fr, u.x.b, u.x.a, u.x.b0, u.x.o, u.x.cap, u.x.l⟩⟩ : Hd)) (j := 5) (u := .int .i64 u.x.fr) rt2 hil' (by decide) rfl
  have rt4 := hd_put_set (t := (⟨u.nm, u.n, ⟨u.x.q, u.x.s, u.x.fr, u.p.b, u.x.a, u.p.b0, u.p.o, u.x.cap, u.x.l⟩, u.sn, ⟨u.x.q, u.x.s, u.x.fr, u.x.b, u.x.a, u.x.b0, u.x.o, u.x.cap, u.x.l⟩⟩ : Hd)) (t' := (⟨u.nm, u.n, ⟨u.x.q, u.x.s, u.x.fr, u.x.b, u.x.a, u.p.b0, u.p.o, u.x.cap, u.x.l⟩, u.sn, ⟨u.x.q, u.x.s, u.x.fr, u.x.b, u.x.a, u.x.b0, u.x.o, u.x.cap, u.x.l⟩⟩ : Hd)) (j := 6) (u := .int .i64 u.x.b) rt3 hil' (by decide) rfl
  have rt5 := hd_put_set (t := (⟨u.nm, u.n, ⟨u.x.q, u.x.s, u.x.fr, u.x.b, u.x.a, u.p.b0, u.p.o, u.x.cap, u.x.l⟩, u.sn, ⟨u.x.q, u.x.s, u.x.fr, u.x.b, u.x.a, u.x.b0, u.x.o, u.x.cap, u.x.l⟩⟩ : Hd)) (t' := (⟨u.nm, t.n, ⟨u.x.q, u.x.s, u.x.fr, u.x.b, u.x.a, u.p.b0, u.p.o, u.x.cap, u.x.l⟩, u.sn, ⟨u.x.q, u.x.s, u.x.fr, u.x.b, u.x.a, u.x.b0, u.x.o, u.x.cap, u.x.l⟩⟩ : Hd)) (j := 1) (u := .int .i64 t.n) rt4 hil' (by decide) rfl
  have rt6 := hd_put_set (t := (⟨u.nm, t.n, ⟨u.x.q, u.x.s, u.x.fr, u.x.b, u.x.a, u.p.b0, u.p.o, u.x.cap, u.x.l⟩, u.sn, ⟨u.x.q, u.x.s, u.x.fr, u.x.b, u.x.a, u.x.b0, u.x.o, u.x.cap, u.x.l⟩⟩ : Hd)) (t' := (⟨u.nm, t.n, ⟨u.x.q, u.x.s, u.x.fr, u.x.b, u.x.a, u.p.b0, u.p.o, u.x.cap, u.x.l⟩, 0, ⟨u.x.q, u.x.s, u.x.fr, u.x.b, u.x.a, u.x.b0, u.x.o, u.x.cap, u.x.l⟩⟩ : Hd)) (j := 7) (u := .int .i64 0) rt5 hil' (by decide) rfl
  have rt7 := hd_put_set (t := (⟨u.nm, t.n, ⟨u.x.q, u.x.s, u.x.fr, u.x.b, u.x.a, u.p.b0, u.p.o, u.x.cap, u.x.l⟩, 0, ⟨u.x.q, u.x.s, u.x.fr, u.x.b, u.x.a, u.x.b0, u.x.o, u.x.cap, u.x.l⟩⟩ : Hd)) (t' := (⟨u.nm, t.n, ⟨u.x.q, u.x.s, u.x.fr, u.x.b, u.x.a, u.p.b0, u.p.o, u.x.cap, u.x.l⟩, 0, ⟨0, u.x.s, u.x.fr, u.x.b, u.x.a, u.x.b0, u.x.o, u.x.cap, u.x.l⟩⟩ : Hd)) (j := 8) (u := .int .i64 0) rt6 hil' (by decide) rfl
  have rt8 := hd_put_set (t := (⟨u.nm, t.n, ⟨u.x.q, u.x.s, u.x.fr, u.x.b, u.x.a, u.p.b0, u.p.o, u.x.cap, u.x.l⟩, 0, ⟨0, u.x.s, u.x.fr, u.x.b, u.x.a, u.x.b0, u.x.o, u.x.cap, u.x.l⟩⟩ : Hd)) (t' := (⟨u.nm, t.n, ⟨u.x.q, u.x.s, u.x.fr, u.x.b, u.x.a, u.p.b0, u.p.o, u.x.cap, u.x.l⟩, 0, ⟨0, 0, u.x.fr, u.x.b, u.x.a, u.x.b0, u.x.o, u.x.cap, u.x.l⟩⟩ : Hd)) (j := 9) (u := .int .i64 0) rt7 hil' (by decide) rfl
  have rt9 := hd_put_set (t := (⟨u.nm, t.n, ⟨u.x.q, u.x.s, u.x.fr, u.x.b, u.x.a, u.p.b0, u.p.o, u.x.cap, u.x.l⟩, 0, ⟨0, 0, u.x.fr, u.x.b, u.x.a, u.x.b0, u.x.o, u.x.cap, u.x.l⟩⟩ : Hd)) (t' := (⟨u.nm, t.n, ⟨u.x.q, u.x.s, u.x.fr, u.x.b, u.x.a, u.p.b0, u.p.o, u.x.cap, u.x.l⟩, 0, ⟨0, 0, u.x.fr, u.x.b, none, u.x.b0, u.x.o, 0, []⟩⟩ : Hd)) (j := 10) (u := .slice none 0 0) rt8 hil' (by decide) rfl
  have rt10 := hd_put_set (t := (⟨u.nm, t.n, ⟨u.x.q, u.x.s, u.x.fr, u.x.b, u.x.a, u.p.b0, u.p.o, u.x.cap, u.x.l⟩, 0, ⟨0, 0, u.x.fr, u.x.b, none, u.x.b0, u.x.o, 0, []⟩⟩ : Hd)) (t' := (⟨u.nm, t.n, ⟨u.x.q, u.x.s, u.x.fr, u.x.b, u.x.a, u.p.b0, u.p.o, u.x.cap, u.x.l⟩, 0, ⟨0, 0, 0, u.x.b, none, u.x.b0, u.x.o, 0, []⟩⟩ : Hd)) (j := 11) (u := .int .i64 0) rt9 hil' (by decide) rfl
  have rt11 := hd_put_set (t := (⟨u.nm, t.n, ⟨u.x.q, u.x.s, u.x.fr, u.x.b, u.x.a, u.p.b0, u.p.o, u.x.cap, u.x.l⟩, 0, ⟨0, 0, 0, u.x.b, none, u.x.b0, u.x.o, 0, []⟩⟩ : Hd)) (t' := (⟨u.nm, t.n, ⟨u.x.q, u.x.s, u.x.fr, u.x.b, u.x.a, u.p.b0, u.p.o, u.x.cap, u.x.l⟩, 0, ⟨0, 0, 0, 0, none, u.x.b0, u.x.o, 0, []⟩⟩ : Hd)) (j := 12) (u := .int .i64 0) rt10 hil' (by decide) rfl
  have S4 := Spared.grown (S := (Value.slice (some ⟨g, 0, none⟩) us.length c1).ownBlock.toList) (grown_over2 (grown_over2 (grown_over2 (grown_over2 (grown_over2 (grown_over2 (grown_over2 (grown_over2 (grown_over2 (grown_over2 (grown_over2 (grown_set W3 ⟨g, i * 13 + 2, none⟩ (.int .i64 u.x.q)) (grown_set _ ⟨g, i * 13 + 3, none⟩ (.int .i64 u.x.s))) (grown_set _ ⟨g, i * 13 + 4, none⟩ (.slice u.x.a u.x.l.length u.x.cap))) (grown_set _ ⟨g, i * 13 + 5, none⟩ (.int .i64 u.x.fr))) (grown_set _ ⟨g, i * 13 + 6, none⟩ (.int .i64 u.x.b))) (grown_set _ ⟨g, i * 13 + 1, none⟩ (.int .i64 t.n))) (grown_set _ ⟨g, i * 13 + 7, none⟩ (.int .i64 0))) (grown_set _ ⟨g, i * 13 + 8, none⟩ (.int .i64 0))) (grown_set _ ⟨g, i * 13 + 9, none⟩ (.int .i64 0))) (grown_set _ ⟨g, i * 13 + 10, none⟩ (.slice none 0 0))) (grown_set _ ⟨g, i * 13 + 11, none⟩ (.int .i64 0))) (grown_set _ ⟨g, i * 13 + 12, none⟩ (.int .i64 0))) (by simp [Value.ownBlock])
  obtain ⟨P1, P2, P3, P4⟩ := H3.put (u' := (⟨u.nm, t.n, ⟨u.x.q, u.x.s, u.x.fr, u.x.b, u.x.a, u.p.b0, u.p.o, u.x.cap, u.x.l⟩, 0, ⟨0, 0, 0, 0, none, u.x.b0, u.x.o, 0, []⟩⟩ : Hd)) HU.out S4 rt11 (fun _ hO => ⟨hO.x, World.ownsRow_nil _ _ _ _, fun k _ e => by simp [Value.ownBlock] at e⟩) (fun k hk => by simp only [Hd.blks, List.mem_append, Option.mem_toList] at hk ⊢; rcases hk with hk | hk; exact Or.inr hk; simp [Value.ownBlock] at hk)
  have HKR : Hid ((us.set i (⟨u.nm, t.n, ⟨u.x.q, u.x.s, u.x.fr, u.x.b, u.x.a, u.p.b0, u.p.o, u.x.cap, u.x.l⟩, 0, ⟨0, 0, 0, 0, none, u.x.b0, u.x.o, 0, []⟩⟩ : Hd)).map Hd.key = (ts.map Hd.key).set i (tookK s.key)) := by
    show _ = _
    rw [key_set, HK.out, ← EK.out]
    have e1 : t.n = u.sn := by
      have e2 := congrArg (fun k : HKey => k.2.2.2.1) EK.out
      have e3 : u.sn = s.sn := e2
      rw [e3]
      exact eq_of_beq q2
    rw [e1]
    rfl
  have HSM : Hid (∀ q ∈ (us.set i (⟨u.nm, t.n, ⟨u.x.q, u.x.s, u.x.fr, u.x.b, u.x.a, u.p.b0, u.p.o, u.x.cap, u.x.l⟩, 0, ⟨0, 0, 0, 0, none, u.x.b0, u.x.o, 0, []⟩⟩ : Hd)).map Hd.at0, q.p.l.length ≤ 1048576 ∧ q.x.l.length ≤ 1048576) := fun q hq => by
    obtain ⟨q', hq', rfl⟩ := List.mem_map.1 hq
    have hall := small_keys HK.out hsm
    rcases mem_set_cases hq' with rfl | ⟨j, _, hj⟩
    · have hh := hall u (List.mem_of_getElem? HU.out)
      exact ⟨by first | exact hh.1 | exact hh.2, by simp [Hd.at0, Pt.at0]⟩
    · exact hall q' (List.mem_of_getElem? hj)
  have D5 : ∀ W : World, Below W.heap.size W W.drew := fun _ => (Below.refl _ _).drew
  have P1' := P1.below (D5 _)
  have P2' := P2.keep (D5 _)
  have P3' := P3.keep (D5 _)
  have P4' := P4.drew
  clear rt0 rt1 rt2 rt3 rt4 rt5 rt6 rt7 rt8 rt9 rt10 rt11 S4 P1 P2 P3 P4 D5
  go_wp2
  go_region_held3 (fun w' => w'.cell? ⟨w1.heap.size, 1, none⟩ = some (.slice (some ⟨g, 0, none⟩) us.length c1) ∧ w'.cell? ⟨g, i * 13 + 8, none⟩ = some (.int .i64 u.x.q) ∧ w'.cell? ⟨g, i * 13 + 9, none⟩ = some (.int .i64 u.x.s) ∧ w'.cell? ⟨g, i * 13 + 10, none⟩ = some (.slice u.x.a u.x.l.length u.x.cap) ∧ w'.cell? ⟨g, i * 13 + 11, none⟩ = some (.int .i64 u.x.fr) ∧ w'.cell? ⟨g, i * 13 + 12, none⟩ = some (.int .i64 u.x.b))
    (simp [go_sem, *])
    (fail)
  have ZL : Hid (w.heap.size + 1 + 1 < (((((((((((((W3.setCell ⟨g, i * 13 + 2, none⟩ (.int .i64 u.x.q)).setCell ⟨g, i * 13 + 2 + 1, none⟩ (.int .i64 u.x.s)).setCell ⟨g, i * 13 + 2 + 2, none⟩ (.slice u.x.a u.x.l.length u.x.cap)).setCell ⟨g, i * 13 + 2 + 3, none⟩ (.int .i64 u.x.fr)).setCell ⟨g, i * 13 + 2 + 4, none⟩ (.int .i64 u.x.b)).setCell ⟨g, i * 13 + 1, none⟩ (.int .i64 t.n)).setCell ⟨g, i * 13 + 7, none⟩ (.int .i64 0)).setCell ⟨g, i * 13 + 8, none⟩ (.int .i64 0)).setCell ⟨g, i * 13 + 8 + 1, none⟩ (.int .i64 0)).setCell ⟨g, i * 13 + 8 + 2, none⟩ (.slice none 0 0)).setCell ⟨g, i * 13 + 8 + 3, none⟩ (.int .i64 0)).setCell ⟨g, i * 13 + 8 + 4, none⟩ (.int .i64 0)).drew).heap.size) := (P2').lt
  obtain ⟨aX, gX, cX, eX, hX⟩ := (P1').at_
  simp only [List.length_set, Value.slice.injEq] at eX
  obtain ⟨rfl, _, rfl⟩ := eX
  have EL : Hid ((us.set i (⟨u.nm, t.n, ⟨u.x.q, u.x.s, u.x.fr, u.x.b, u.x.a, u.p.b0, u.p.o, u.x.cap, u.x.l⟩, 0, ⟨0, 0, 0, 0, none, u.x.b0, u.x.o, 0, []⟩⟩ : Hd)).length = us.length) := by simp [Hid]
  have hsx : ∀ q ∈ (us.set i (⟨u.nm, t.n, ⟨u.x.q, u.x.s, u.x.fr, u.x.b, u.x.a, u.p.b0, u.p.o, u.x.cap, u.x.l⟩, 0, ⟨0, 0, 0, 0, none, u.x.b0, u.x.o, 0, []⟩⟩ : Hd)).map Hd.at0, q.p.l.length ≤ 1048576 ∧ q.x.l.length ≤ 1048576 := HSM.out
  have hlx : ((us.set i (⟨u.nm, t.n, ⟨u.x.q, u.x.s, u.x.fr, u.x.b, u.x.a, u.p.b0, u.p.o, u.x.cap, u.x.l⟩, 0, ⟨0, 0, 0, 0, none, u.x.b0, u.x.o, 0, []⟩⟩ : Hd)).map Hd.at0).length ≤ 1048576 := by rw [List.length_map, EL.out]; exact hul
  have hcp := copyBS_any la (some ⟨g, 0, none⟩) gX 0 c1 ((us.set i (⟨u.nm, t.n, ⟨u.x.q, u.x.s, u.x.fr, u.x.b, u.x.a, u.p.b0, u.p.o, u.x.cap, u.x.l⟩, 0, ⟨0, 0, 0, 0, none, u.x.b0, u.x.o, 0, []⟩⟩ : Hd)).map Hd.at0) ((((((((((((W3.setCell ⟨g, i * 13 + 2, none⟩ (.int .i64 u.x.q)).setCell ⟨g, i * 13 + 2 + 1, none⟩ (.int .i64 u.x.s)).setCell ⟨g, i * 13 + 2 + 2, none⟩ (.slice u.x.a u.x.l.length u.x.cap)).setCell ⟨g, i * 13 + 2 + 3, none⟩ (.int .i64 u.x.fr)).setCell ⟨g, i * 13 + 2 + 4, none⟩ (.int .i64 u.x.b)).setCell ⟨g, i * 13 + 1, none⟩ (.int .i64 t.n)).setCell ⟨g, i * 13 + 7, none⟩ (.int .i64 0)).setCell ⟨g, i * 13 + 8, none⟩ (.int .i64 0)).setCell ⟨g, i * 13 + 8 + 1, none⟩ (.int .i64 0)).setCell ⟨g, i * 13 + 8 + 2, none⟩ (.slice none 0 0)).setCell ⟨g, i * 13 + 8 + 3, none⟩ (.int .i64 0)).setCell ⟨g, i * 13 + 8 + 4, none⟩ (.int .i64 0)).drew hlx hsx hX
  rw [List.length_map, EL.out, at0_keys] at hcp
  go_wp2_with fail
  refine hcp.mono ?_
  rintro e w9 ⟨v9, us9, rfl, hk9, O9, hb9⟩
  have HK9 : Hid (us9.map Hd.key = (us.set i (⟨u.nm, t.n, ⟨u.x.q, u.x.s, u.x.fr, u.x.b, u.x.a, u.p.b0, u.p.o, u.x.cap, u.x.l⟩, 0, ⟨0, 0, 0, 0, none, u.x.b0, u.x.o, 0, []⟩⟩ : Hd)).map Hd.key) := hk9
  obtain ⟨a9, c9, rfl⟩ := own_slice O9.row
  have R9 := (P2').keep hb9
  have B9 := (P4').trans (hb9.mono (P4').size)
  have z0 : w9.cell? ⟨w.heap.size + 1 + 1, 0, none⟩ = some (.int .i64 0) := R9.c 0
  have z1 : w9.cell? ⟨w.heap.size + 1 + 1, 1, none⟩ = some (.slice none 0 0) := R9.c 1
  have zf := R9.f
  have HF : Hid (BkOwn ((w9.setCell ⟨w.heap.size + 1 + 1, 0, none⟩ (.int .i64 la)).setCell ⟨w.heap.size + 1 + 1, 1, none⟩ (.slice a9 us9.length c9)) w.heap.size (.slice a9 us9.length c9) us9) := by
    have O9' : BkOwn w9 ((((((((((((((W3.setCell ⟨g, i * 13 + 2, none⟩ (.int .i64 u.x.q)).setCell ⟨g, i * 13 + 2 + 1, none⟩ (.int .i64 u.x.s)).setCell ⟨g, i * 13 + 2 + 2, none⟩ (.slice u.x.a u.x.l.length u.x.cap)).setCell ⟨g, i * 13 + 2 + 3, none⟩ (.int .i64 u.x.fr)).setCell ⟨g, i * 13 + 2 + 4, none⟩ (.int .i64 u.x.b)).setCell ⟨g, i * 13 + 1, none⟩ (.int .i64 t.n)).setCell ⟨g, i * 13 + 7, none⟩ (.int .i64 0)).setCell ⟨g, i * 13 + 8, none⟩ (.int .i64 0)).setCell ⟨g, i * 13 + 8 + 1, none⟩ (.int .i64 0)).setCell ⟨g, i * 13 + 8 + 2, none⟩ (.slice none 0 0)).setCell ⟨g, i * 13 + 8 + 3, none⟩ (.int .i64 0)).setCell ⟨g, i * 13 + 8 + 4, none⟩ (.int .i64 0)).drew).heap.size) (.slice a9 us9.length c9) us9 := O9
    obtain ⟨n9, hn9⟩ : ∃ n9, (((((((((((((W3.setCell ⟨g, i * 13 + 2, none⟩ (.int .i64 u.x.q)).setCell ⟨g, i * 13 + 2 + 1, none⟩ (.int .i64 u.x.s)).setCell ⟨g, i * 13 + 2 + 2, none⟩ (.slice u.x.a u.x.l.length u.x.cap)).setCell ⟨g, i * 13 + 2 + 3, none⟩ (.int .i64 u.x.fr)).setCell ⟨g, i * 13 + 2 + 4, none⟩ (.int .i64 u.x.b)).setCell ⟨g, i * 13 + 1, none⟩ (.int .i64 t.n)).setCell ⟨g, i * 13 + 7, none⟩ (.int .i64 0)).setCell ⟨g, i * 13 + 8, none⟩ (.int .i64 0)).setCell ⟨g, i * 13 + 8 + 1, none⟩ (.int .i64 0)).setCell ⟨g, i * 13 + 8 + 2, none⟩ (.slice none 0 0)).setCell ⟨g, i * 13 + 8 + 3, none⟩ (.int .i64 0)).setCell ⟨g, i * 13 + 8 + 4, none⟩ (.int .i64 0)).drew).heap.size = n9 := ⟨_, rfl⟩
    have zL' : w.heap.size + 1 + 1 < (((((((((((((W3.setCell ⟨g, i * 13 + 2, none⟩ (.int .i64 u.x.q)).setCell ⟨g, i * 13 + 2 + 1, none⟩ (.int .i64 u.x.s)).setCell ⟨g, i * 13 + 2 + 2, none⟩ (.slice u.x.a u.x.l.length u.x.cap)).setCell ⟨g, i * 13 + 2 + 3, none⟩ (.int .i64 u.x.fr)).setCell ⟨g, i * 13 + 2 + 4, none⟩ (.int .i64 u.x.b)).setCell ⟨g, i * 13 + 1, none⟩ (.int .i64 t.n)).setCell ⟨g, i * 13 + 7, none⟩ (.int .i64 0)).setCell ⟨g, i * 13 + 8, none⟩ (.int .i64 0)).setCell ⟨g, i * 13 + 8 + 1, none⟩ (.int .i64 0)).setCell ⟨g, i * 13 + 8 + 2, none⟩ (.slice none 0 0)).setCell ⟨g, i * 13 + 8 + 3, none⟩ (.int .i64 0)).setCell ⟨g, i * 13 + 8 + 4, none⟩ (.int .i64 0)).drew).heap.size := ZL.out
    rw [hn9] at O9' zL'
    have hlt := O9'.lt
    refine ((O9'.spared (S := [w.heap.size + 1 + 1]) (Spared.trans (Spared.grown (grown_set _ _ _) (by simp)) (Spared.grown (grown_set _ _ _) (by simp))) (fun k hk hk' => ?_))).lower (by omega)
    simp at hk'
    have := (hlt k hk).1
    omega
  clear hk9 O9 hcp hX hsx hlx hb9 ZL
  go_wp2
  refine bodyPost_ret (v := .agg #[.int .i64 la, .slice a9 us9.length c9]) (by simp [results, Try.results15, go_sem, *]) rfl ⟨_, us9, rfl, by rw [HK9.out]; exact HKR.out, HF.out, ?_⟩
  iterate 2 (refine Below.setCell ?_ (by simp; omega) _)
  exact B9

end Go.Proofs.Ytfcobpaaeijkoaa
