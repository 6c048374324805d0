/- Joined texts: LkHearU, LkHearV, LkHearW, LkTwo, LkHearLaw, Open, LkOpenS. -/
import Derived.Deep.RegionHeld3
import Derived.Deep.Slices
import Derived.ProofKit
import Derived.Test.YtfcobpaaeijkoaaRows
import Derived.Test.YtfcobpaaeijkoaaJ01
import Derived.Test.YtfcobpaaeijkoaaLkHearJ
import Derived.Test.YtfcobpaaeijkoaaLkLaw
import Derived.Test.YtfcobpaaeijkoaaLkHeldS
import Derived.Test.YtfcobpaaeijkoaaData
namespace Go.Proofs.Ytfcobpaaeijkoaa
open Go.RowKit

theorem owns_none13 {w : World} {base k : Nat} (hb : base ≤ k) (h : w.heap[k]? = some (.cells #[] 58 (0, 0))) : w.ownsRow base 58 13 (.slice (some ⟨k, 0, none⟩) 0 0) 0 [] :=
  ⟨rfl, .inr ⟨k, 0, #[], rfl, hb, h, Nat.le_refl _, by unfold maxLen; omega, rfl, rfl⟩⟩
/-- A row of those that are left has been laid. -/
theorem HsW.erase {w W : World} {t : Wd} {K i B : Nat} {la : Int} {v v' : Value} {us : List Hd} (h : HsW w W t K la v us) (hi : i < us.length) (hKB : K < B) (hr : W.ownsRow B 58 13 v' (us.length - 1) (hdCells (us.take i) ++ hdCells (us.drop (i + 1)))) :
    BkOwn (((W.setCell ⟨K, 1, none⟩ v').setCell ⟨w.heap.size + 1 + 1, 0, none⟩ (.int .i64 la)).setCell ⟨w.heap.size + 1 + 1, 1, none⟩ v') w.heap.size v' (us.eraseIdx i) ∧ Below w.heap.size w (((W.setCell ⟨K, 1, none⟩ v').setCell ⟨w.heap.size + 1 + 1, 0, none⟩ (.int .i64 la)).setCell ⟨w.heap.size + 1 + 1, 1, none⟩ v') := by
  have hk := h.k
  have hle : (us.eraseIdx i).length = us.length - 1 := List.length_eraseIdx_of_lt hi
  have hO : BkOwn W (w.heap.size + 1 + 1 + 1) v' (us.eraseIdx i) := by
    refine ⟨?_, fun u hu => h.own.each u (List.mem_of_mem_eraseIdx hu), fun u hu => h.own.inn u (List.mem_of_mem_eraseIdx hu), h.own.two.sublist (List.eraseIdx_sublist us i)⟩
    rw [hle, List.eraseIdx_eq_take_drop_succ, hdCells_append]
    exact owns_lowerO hr (by omega)
  have hlt := hO.lt
  have hKn : K ∉ bkBlks v' (us.eraseIdx i) := fun hm => by
    unfold bkBlks at hm
    rcases List.mem_append.1 hm with hm | hm
    · have := owns_base hr K (by simpa using hm)
      omega
    · obtain ⟨u, hu, hku⟩ := List.mem_flatMap.1 hm
      exact h.ne (by unfold bkBlks; exact List.mem_append_right _ (List.mem_flatMap.2 ⟨u, List.mem_of_mem_eraseIdx hu, hku⟩))
  refine ⟨?_, ?_⟩
  · refine ((hO.spared (S := [K, w.heap.size + 1 + 1]) (Spared.trans (Spared.trans (Spared.grown (grown_set _ _ _) (by simp)) (Spared.grown (grown_set _ _ _) (by simp))) (Spared.grown (grown_set _ _ _) (by simp))) (fun q hq hq' => ?_))).lower (by omega)
    simp at hq'
    rcases hq' with rfl | rfl
    · exact hKn hq
    · have := (hlt _ hq).1
      omega
  · iterate 2 (refine Below.setCell ?_ (by simp; omega) _)
    refine Below.setCell ?_ (by show _ ≤ K; omega) _
    exact h.old

set_option maxRecDepth 40000 in
set_option maxHeartbeats 4000000 in
theorem hearS_era1 (la : Int) (a : Option Addr) (b o cap : Nat) (ts : List Hd) (t : Wd) (w : World) (hl : ts.length ≤ 1048576) (hsm : ∀ t ∈ ts, t.p.l.length ≤ 1048576 ∧ t.x.l.length ≤ 1048576) (hs : HdsAt w a b o ts) (i : Nat) (s : Hd) (hsi : ts[i]? = some s) (hsn : s.nm = t.nm) (hf : NoneTo ts t.nm i) (k6 : (t.k == 6) = true) (q1 : (t.n == s.n) = true) :
    Calls Try.prog 15 #[.agg #[.int .i64 la, .slice a ts.length cap], t.val] w fun e w' => ∃ (v : Value) (us' : List Hd), e = .returned (.agg #[.int .i64 la, v]) ∧ us'.map Hd.key = (ts.map Hd.key).eraseIdx i ∧ BkOwn w' w.heap.size v us' ∧ Below w.heap.size w w' := by
  obtain ⟨W0, hW0⟩ : ∃ W0, ((w.alloc (.cells #[.int .i64 la, .slice a ts.length cap] 37)).alloc (.cells #[.int .i64 t.k, .string t.nm, .int .i64 t.n, .int .i64 t.p.q, .int .i64 t.p.s, .slice t.p.a t.p.l.length t.p.cap, .int .i64 t.p.fr, .int .i64 t.p.b] 32)).alloc (.cells #[.int .i64 0, .slice none 0 0] 37) = W0 := ⟨_, rfl⟩
  have B0 : Below w.heap.size w W0 := by rw [← hW0]; exact bel3 _ _ _
  have A0 : Bx W0 w.heap.size #[.int .i64 la, .slice a ts.length cap] := by rw [← hW0]; exact ((Bx.new w #[.int .i64 la, .slice a ts.length cap] 37).keep (bel1 _)).keep (bel1 _)
  have T0 : Bx W0 (w.heap.size + 1) #[.int .i64 t.k, .string t.nm, .int .i64 t.n, .int .i64 t.p.q, .int .i64 t.p.s, .slice t.p.a t.p.l.length t.p.cap, .int .i64 t.p.fr, .int .i64 t.p.b] := by
    rw [← hW0]
    have h := (Bx.new (w.alloc (.cells #[.int .i64 la, .slice a ts.length cap] 37)) #[.int .i64 t.k, .string t.nm, .int .i64 t.n, .int .i64 t.p.q, .int .i64 t.p.s, .slice t.p.a t.p.l.length t.p.cap, .int .i64 t.p.fr, .int .i64 t.p.b] 32).keep (bel1 (.cells #[.int .i64 0, .slice none 0 0] 37))
    rwa [World.size_alloc] at h
  have R0 : Bx W0 (w.heap.size + 1 + 1) #[.int .i64 0, .slice none 0 0] := by
    rw [← hW0]
    have h := Bx.new ((w.alloc (.cells #[.int .i64 la, .slice a ts.length cap] 37)).alloc (.cells #[.int .i64 t.k, .string t.nm, .int .i64 t.n, .int .i64 t.p.q, .int .i64 t.p.s, .slice t.p.a t.p.l.length t.p.cap, .int .i64 t.p.fr, .int .i64 t.p.b] 32)) #[.int .i64 0, .slice none 0 0] 37
    rwa [World.size_alloc, World.size_alloc] at h
  have x0 : W0.cell? ⟨w.heap.size, 0, none⟩ = some (.int .i64 la) := A0.c 0
  have x1 : W0.cell? ⟨w.heap.size, 1, none⟩ = some (.slice a ts.length cap) := A0.c 1
  have zR := R0.lt
  go_enter Try.func15, Try.ntmps15
  go_wp2_with fail
  refine (copyBS_any la a b o cap ts _ hl hsm (hs.below B0)).mono ?_
  rintro e w1 ⟨v1, us, rfl, hk, O1, hb1⟩
  have HK : Hid (us.map Hd.key = ts.map Hd.key) := hk
  obtain ⟨a1, c1, rfl⟩ := own_slice O1.row
  have KK := bel1 (w := w1) (.cells #[.int .i64 la, .slice a1 us.length c1] 37)
  have N1 := O1.lt
  have H1 : HsW w (w1.alloc (.cells #[.int .i64 la, .slice a1 us.length c1] 37)) t w1.heap.size la (.slice a1 us.length c1) us := by
    have hz := hb1.size
    have B1 := B0.trans (hb1.mono B0.size)
    exact ⟨B1.trans (KK.mono B1.size), (T0.keep hb1).keep KK, (R0.keep hb1).keep KK, Bx.new w1 _ _, (O1.below KK).lower (by omega), by omega, fun hk => by have := (N1 _ hk).2; omega⟩
  have A1 := (A0.keep hb1).keep KK
  have HB1 : Hid (Below W0.heap.size W0 (w1.alloc (.cells #[.int .i64 la, .slice a1 us.length c1] 37))) := hb1.trans (KK.mono hb1.size)
  have u1 : w1.heap.size ≠ w.heap.size := by have := hb1.size; omega
  have na : ∀ (ob : Obj) (j : Nat), (w1.alloc ob).cell? ⟨w.heap.size, j, none⟩ = w1.cell? ⟨w.heap.size, j, none⟩ := fun ob j => (bel1 ob).cell (p := ⟨w.heap.size, j, none⟩) (show w.heap.size < w1.heap.size by have := hb1.size; omega)
  have nb : ∀ (ob : Obj) (j : Nat), (w1.alloc ob).cell? ⟨w.heap.size + 1, j, none⟩ = w1.cell? ⟨w.heap.size + 1, j, none⟩ := fun ob j => (bel1 ob).cell (p := ⟨w.heap.size + 1, j, none⟩) (show w.heap.size + 1 < w1.heap.size by have := hb1.size; omega)
  have A1' := A0.keep hb1
  have T1' := T0.keep hb1
  clear hW0 x0 x1 hk O1 KK N1 hb1
  have x0 : w1.cell? ⟨w.heap.size, 0, none⟩ = some (.int .i64 la) := A1'.c 0
  have x1 : w1.cell? ⟨w.heap.size, 1, none⟩ = some (.slice a ts.length cap) := A1'.c 1
  have t1 : w1.cell? ⟨w.heap.size + 1, 1, none⟩ = some (.string t.nm) := T1'.c 1
  go_wp2_with fail
  refine (atS_first la a b o cap ts t.nm _ hl (hs.below H1.old)).mono ?_
  rintro e w2 ⟨p, rfl, hp, hb2⟩
  have H2 := H1.keep hb2
  have A2 := A1.keep hb2
  clear x0 x1 t1 H1 A1 A1' T1' hb2 na nb u1 HB1 A0 T0 R0
  have ep : p = (i : Int) := by
    rcases hp with ⟨rfl, hz⟩ | ⟨k, u, rfl, hu, hn, hz⟩
    · exact absurd hsn (hz i s (List.getElem?_eq_some_iff.1 hsi).1 hsi)
    · rw [NoneTo.one hz hu hn hf hsi hsn]
  subst ep
  have hil : i < ts.length := (List.getElem?_eq_some_iff.1 hsi).1
  have hne : ts ≠ [] := by intro e; subst e; simp at hil
  obtain rfl := hs.here hne
  have hbl : b < w.heap.size := hs.lt hne
  have HUL : Hid (us.length = ts.length) := len_keys HK.out
  have hil' : i < us.length := by rw [HUL.out]; exact hil
  have hul : us.length ≤ 1048576 := by rw [HUL.out]; exact hl
  obtain ⟨u, hu⟩ : ∃ u, us[i]? = some u := ⟨us[i], List.getElem?_eq_getElem hil'⟩
  have EK : Hid (u.key = s.key) := by
    have e := congrArg (fun l => l[i]?) HK.out
    simp only [List.getElem?_map, hu, hsi, Option.map_some, Option.some.injEq] at e
    exact e
  have HSI : Hid (ts[i]? = some s) := hsi
  have HU : Hid (us[i]? = some u) := hu
  have i0 : (0 : Int) ≤ (i : Int) := by omega
  have i1 : (i : Int) < (ts.length : Int) := by omega
  have i2 : ¬ (i : Int) < 0 := by omega
  have i3 : (i : Int) < (us.length : Int) := by omega
  have x1 : w2.cell? ⟨w.heap.size, 1, none⟩ = some (.slice (some ⟨b, o, none⟩) ts.length cap) := A2.c 1
  obtain ⟨e0, e1, e2, e3, e4, e5, e6, e7, e8, e9, e10, e11, e12⟩ := cl_cells ((hs.below H2.old).cell i s hsi)
  obtain ⟨W3, hW3⟩ : ∃ W3, w2.alloc (.cells #[.string s.nm, .int .i64 s.n, .int .i64 s.p.q, .int .i64 s.p.s, .slice s.p.a s.p.l.length s.p.cap, .int .i64 s.p.fr, .int .i64 s.p.b, .int .i64 s.sn, .int .i64 s.x.q, .int .i64 s.x.s, .slice s.x.a s.x.l.length s.x.cap, .int .i64 s.x.fr, .int .i64 s.x.b] 58) = W3 := ⟨_, rfl⟩
  have KS : Below w2.heap.size w2 W3 := by rw [← hW3]; exact bel1 _
  have H3 := H2.keep KS
  have S3 : Bx W3 w2.heap.size #[.string s.nm, .int .i64 s.n, .int .i64 s.p.q, .int .i64 s.p.s, .slice s.p.a s.p.l.length s.p.cap, .int .i64 s.p.fr, .int .i64 s.p.b, .int .i64 s.sn, .int .i64 s.x.q, .int .i64 s.x.s, .slice s.x.a s.x.l.length s.x.cap, .int .i64 s.x.fr, .int .i64 s.x.b] := by rw [← hW3]; exact Bx.new w2 _ _
  have d0 : W3.cell? ⟨w.heap.size + 1, 0, none⟩ = some (.int .i64 t.k) := H3.wd.c 0
  have d2 : W3.cell? ⟨w.heap.size + 1, 2, none⟩ = some (.int .i64 t.n) := H3.wd.c 2
  have d3 : W3.cell? ⟨w2.heap.size, 1, none⟩ = some (.int .i64 s.n) := S3.c 1
  have d4 : W3.cell? ⟨w2.heap.size, 7, none⟩ = some (.int .i64 s.sn) := S3.c 7
  have y0 : W3.cell? ⟨w1.heap.size, 0, none⟩ = some (.int .i64 la) := H3.bk.c 0
  have y1 : W3.cell? ⟨w1.heap.size, 1, none⟩ = some (.slice a1 us.length c1) := H3.bk.c 1
  have r0 : W3.cell? ⟨w.heap.size + 1 + 1, 0, none⟩ = some (.int .i64 0) := H3.res.c 0
  have r1 : W3.cell? ⟨w.heap.size + 1 + 1, 1, none⟩ = some (.slice none 0 0) := H3.res.c 1
  have rf := H3.res.f
  have HSN : Hid (s.nm = t.nm) := hsn
  clear hsi hp hf hu hsn
  obtain ⟨i0', hi', hz0, hz1, hz2⟩ := info_parts held_info
  obtain ⟨g, cc, ea, hg1, hg2⟩ := owns_some H2.own.row (by omega)
  simp only [Value.slice.injEq, true_and] at ea
  obtain ⟨rfl, rfl⟩ := ea
  have R3 := H3.own.row
  have hcap : us.length ≤ c1 := by
    rcases R3.2 with ⟨h0, _⟩ | ⟨g', cap', cur, h1, h2, h3, h4, h5, h6, h7⟩
    · cases h0
    · simp only [Value.slice.injEq, Option.some.injEq, Addr.mk.injEq, and_true, true_and] at h1
      obtain ⟨rfl, rfl⟩ := h1
      exact h4
  have hK3 : w1.heap.size < W3.heap.size := H3.bk.lt
  have hg3 : g < W3.heap.size := by have := KS.size; omega
  have D : Below W3.heap.size W3 W3.drew := (Below.refl _ _).drew
  have D1 : Below W3.heap.size W3 (W3.alloc (.cells #[] 58)).drew := (bel1 (w := W3) _).drew
  have hF : ∀ W : World, Below W3.heap.size W3 W → W.cell? ⟨w1.heap.size, 1, none⟩ = some (.slice (some ⟨g, 0, none⟩) us.length c1) := fun W hb => (H3.keep hb).bk.c 1
  have hT : Hid (∀ W : World, Below W3.heap.size W3 W → ∀ j u, (hdCells (us.take i))[j]? = some u → W.cell? ((⟨g, 0, none⟩ : Addr).add j) = some u) := fun W hb j u hu => by
    have hj : j < i * 13 := by
      have := (List.getElem?_eq_some_iff.1 hu).1
      rw [hdCells_length, List.length_take] at this
      omega
    rw [Addr.add_mid, Nat.zero_add, (owns_below R3 hb).cellAt j (by omega), ← hu, ← hdCells_take, List.getElem?_take, if_pos hj]
  obtain ⟨AD, hAD, hNW⟩ : ∃ AD : Addr, (if c1 = i + 1 then some (⟨g, 0, none⟩ : Addr) else some ⟨g, (i + 1) * 13, none⟩) = some AD ∧ Hid (∀ W : World, Below W3.heap.size W3 W → ∀ j u, (hdCells (us.drop (i + 1)))[j]? = some u → W.cell? (AD.add j) = some u) := by
    have hdl : (hdCells (us.drop (i + 1))).length = (us.length - (i + 1)) * 13 := by rw [hdCells_length, List.length_drop]
    by_cases hc : c1 = i + 1
    · refine ⟨⟨g, 0, none⟩, by simp [hc], fun W hb j u hu => ?_⟩
      have hj : j < (us.length - (i + 1)) * 13 := by rw [← hdl]; exact (List.getElem?_eq_some_iff.1 hu).1
      omega
    · refine ⟨⟨g, (i + 1) * 13, none⟩, by simp [hc], fun W hb j u hu => ?_⟩
      have hj : j < (us.length - (i + 1)) * 13 := by rw [← hdl]; exact (List.getElem?_eq_some_iff.1 hu).1
      rw [Addr.add_mid, (owns_below R3 hb).cellAt _ (by omega), ← hu, ← hdCells_drop, List.getElem?_drop]
  have hE : Hid (∀ (W : World) (v' : Value), Below W3.heap.size W3 W → W.ownsRow W3.heap.size 58 13 v' (us.length - 1) (hdCells (us.take i) ++ hdCells (us.drop (i + 1))) →
      BkOwn (((W.setCell ⟨w1.heap.size, 1, none⟩ v').setCell ⟨w.heap.size + 1 + 1, 0, none⟩ (.int .i64 la)).setCell ⟨w.heap.size + 1 + 1, 1, none⟩ v') w.heap.size v' (us.eraseIdx i) ∧ Below w.heap.size w (((W.setCell ⟨w1.heap.size, 1, none⟩ v').setCell ⟨w.heap.size + 1 + 1, 0, none⟩ (.int .i64 la)).setCell ⟨w.heap.size + 1 + 1, 1, none⟩ v')) := fun W v' hb hr => (H3.keep hb).erase hil' hK3 hr
  have hG : Hid (∀ W : World, Below W3.heap.size W3 W → HsW w W t w1.heap.size la (.slice (some ⟨g, 0, none⟩) us.length c1) us) := fun W hb => H3.keep hb
  have HKE : Hid ((us.eraseIdx i).map Hd.key = (ts.map Hd.key).eraseIdx i) := by
    show _ = _
    rw [key_erase, HK.out]
  have T1 : Hid ((hdCells (us.take i)).length = i * 13) := by show _ = _; rw [hdCells_length, List.length_take, Nat.min_eq_left (by omega)]
  have T2 : Hid ((hdCells (us.drop (i + 1))).length = (us.length - (i + 1)) * 13) := by show _ = _; rw [hdCells_length, List.length_drop]
  have hic : i ≤ c1 := by omega
  have hjc : i + 1 ≤ c1 := by omega
  have hiu : i ≤ us.length := by omega
  have hiu1 : i + 1 ≤ us.length := by omega
  have hp0 : (0 : Int) ≤ (i : Int) + 1 := by omega
  have hp1 : (i : Int) + 1 ≤ (us.length : Int) := by omega
  have hp2 : ((i : Int) + 1).toNat = i + 1 := by omega
  have hwr : IntKind.i64.wrap ((i : Int) + 1) = (i : Int) + 1 := by rw [IntKind.wrap_i64]; omega
  have na : ∀ (ob : Obj) (j : Nat), (W3.alloc ob).cell? ⟨w1.heap.size, j, none⟩ = W3.cell? ⟨w1.heap.size, j, none⟩ := fun ob j => (bel1 ob).cell (p := ⟨w1.heap.size, j, none⟩) hK3
  clear y0 r0 r1 rf R3 H3 H2 S3
  go_wp2
  refine wp_region_any (by kernel_rfl) ?_
  change wpAny _ _ _ _ _ _ _ (World.drew _)
  refine wpAny_take (i := 1) (v := .pointer (some ⟨w1.heap.size, 1, none⟩)) rfl (by kernel_rfl) (by kernel_rfl) (by kernel_rfl) (fun _ _ _ h => h) (Or.inl ⟨by rfl, fun W => by go_simp⟩) ?_
  refine wpAny_take (i := 3) (v := .int .i64 (i : Int)) rfl (by kernel_rfl) (by kernel_rfl) (by kernel_rfl) (fun _ _ _ h => h) (Or.inl ⟨by rfl, fun W => by go_simp⟩) ?_
  refine wpAny_take (i := 6) (v := .pointer (some ⟨w1.heap.size, 1, none⟩)) rfl (by kernel_rfl) (by kernel_rfl) (by kernel_rfl) (fun _ _ _ h => h) (Or.inl ⟨by rfl, fun W => by go_simp⟩) ?_
  refine wpAny_take (i := 8) (v := .int .i64 (i : Int)) rfl (by kernel_rfl) (by kernel_rfl) (by kernel_rfl) (fun _ _ _ h => h) (Or.inl ⟨by rfl, fun W => by go_simp⟩) ?_
  refine wpAny_take (i := 9) (v := .int .i64 ((i : Int) + 1)) rfl (by kernel_rfl) (by kernel_rfl) (by kernel_rfl) (fun _ _ _ h => h) (Or.inl ⟨by rfl, fun W => by go_simp⟩) ?_
  refine wpAny_ready (rs := [0, 2, 7]) (by kernel_rfl) (by simp) ?_
  refine AllReady.cons rfl (fun K hK => ?_) ?_
  · go_simp
    refine hK _ _ ?_
    clear hK K
    refine wpAny_ready (rs := [2, 7]) (by kernel_rfl) (by simp) ?_
    refine AllReady.cons rfl (fun K hK => ?_) ?_
    · go_simp
      refine hK _ _ ?_
      clear hK K
      refine wpAny_take (i := 4) (v := .slice (some ⟨g, 0, none⟩) i c1) rfl (by kernel_rfl) (by kernel_rfl) (by kernel_rfl) (fun _ _ _ h => h) (Or.inl ⟨by rfl, fun W => by go_simp⟩) ?_
      refine wpAny_ready (rs := [5, 7]) (by kernel_rfl) (by simp) ?_
      refine AllReady.cons rfl (fun K hK => ?_) ?_
      · refine wp_append_own _ (.tmp 44) (.tmp 48) 35 rfl W3.heap.size 58 i0' (.agg #[.string ⟨#[]⟩, .int .i64 0, .int .i64 0, .int .i64 0, .slice none 0 0, .int .i64 0, .int .i64 0, .int .i64 0, .int .i64 0, .int .i64 0, .slice none 0 0, .int .i64 0, .int .i64 0]) 13 144 Try.underlying35 hi' hz0 hz1 hz2 rfl (by decide) (.slice (some ⟨W3.heap.size, 0, none⟩) 0 0) 0 [] rfl (owns_none13 (Nat.le_refl _) (heap_alloc_new W3 _)) ⟨g, 0, none⟩ i c1 (hdCells (us.take i)) rfl T1.out (hT.out _ D1) (hdCells_one _) (by unfold maxLen; omega) (by omega) (D1).size ?_
        intro v8 w8 hown8 hgrow8 hnil8
        obtain ⟨a8, c8', rfl⟩ := own_slice hown8
        simp only [Nat.zero_add, List.nil_append] at hown8 ⊢
        have D8 : Below W3.heap.size W3 w8 := D1.grown hgrow8 D1.size (fun k e => by simp [Value.ownBlock] at e; subst e; exact Nat.le_refl _)
        have e8' := hF _ D8
        refine hK _ _ ?_
        clear hK K
        refine wpAny_ready (rs := [7]) (by kernel_rfl) (by simp) ?_
        refine AllReady.cons rfl (fun K hK => ?_) ?_
        · go_simp
          refine hK _ _ ?_
          clear hK K
          refine wpAny_take (i := 10) (v := .slice (some AD) (us.length - (i + 1)) (c1 - (i + 1))) rfl (by kernel_rfl) (by kernel_rfl) (by kernel_rfl) (fun _ _ _ h => h) (Or.inl ⟨by rfl, fun W => by go_simp⟩) ?_
          refine wpAny_ready (rs := [11]) (by kernel_rfl) (by simp) ?_
          refine AllReady.cons rfl (fun K hK => ?_) ?_
          · refine wp_append_own _ (.tmp 49) (.tmp 54) 35 rfl W3.heap.size 58 i0' (.agg #[.string ⟨#[]⟩, .int .i64 0, .int .i64 0, .int .i64 0, .slice none 0 0, .int .i64 0, .int .i64 0, .int .i64 0, .int .i64 0, .int .i64 0, .slice none 0 0, .int .i64 0, .int .i64 0]) 13 144 Try.underlying35 hi' hz0 hz1 hz2 rfl (by decide) (.slice a8 i c8') i (hdCells (us.take i)) rfl hown8 AD (us.length - (i + 1)) (c1 - (i + 1)) (hdCells (us.drop (i + 1))) rfl T2.out (hNW.out _ D8) (hdCells_one _) (by unfold maxLen; omega) (by omega) (D8).size ?_
            intro v9 w9 hown9 hgrow9 hnil9
            obtain ⟨a9, c9', rfl⟩ := own_slice hown9
            rw [show i + (us.length - (i + 1)) = us.length - 1 by omega] at hown9 ⊢
            have D9 : Below W3.heap.size W3 w9 := D8.grown hgrow9 D8.size (fun k e => owns_base hown8 k e)
            have G9 := hG.out _ D9
            have p0 : w9.cell? ⟨w1.heap.size, 0, none⟩ = some (.int .i64 la) := G9.bk.c 0
            have p1 : w9.cell? ⟨w1.heap.size, 1, none⟩ = some (.slice (some ⟨g, 0, none⟩) us.length c1) := G9.bk.c 1
            have pf := G9.bk.f
            have r0 : w9.cell? ⟨w.heap.size + 1 + 1, 0, none⟩ = some (.int .i64 0) := G9.res.c 0
            have r1 : w9.cell? ⟨w.heap.size + 1 + 1, 1, none⟩ = some (.slice none 0 0) := G9.res.c 1
            have rf := G9.res.f
            have kn : ¬ w1.heap.size = w.heap.size + 1 + 1 := by have := G9.k; omega
            have kn' : ¬ w.heap.size + 1 + 1 = w1.heap.size := by have := G9.k; omega
            refine hK _ _ ?_
            clear hK K
            refine wpAny_take (i := 12) (v := .pointer (some ⟨w1.heap.size, 1, none⟩)) rfl (by kernel_rfl) (by kernel_rfl) (by kernel_rfl) (fun _ _ _ h => h) (Or.inl ⟨by rfl, fun W => by go_simp⟩) ?_
            refine wpAny_ready (rs := [13]) (by kernel_rfl) (by simp) ?_
            refine AllReady.cons rfl (fun K hK => ?_) ?_
            · go_simp
              refine hK _ _ ?_
              clear hK K
              refine wpAny_done (by kernel_rfl) ?_ _
              go_wp2
              obtain ⟨f1, f2⟩ := hE.out w9 (.slice a9 (us.length - 1) c9') D9 hown9
              refine bodyPost_ret (v := .agg #[.int .i64 la, .slice a9 (us.length - 1) c9']) (by simp [results, Try.results15, go_sem, *]) rfl ⟨_, us.eraseIdx i, rfl, HKE.out, f1, f2⟩
            exact AllReady.nil
          exact AllReady.nil
        exact AllReady.nil
      refine AllReady.cons rfl (fun K hK => ?_) ?_
      · go_simp
        refine hK _ _ ?_
        clear hK K
        refine wpAny_take (i := 10) (v := .slice (some AD) (us.length - (i + 1)) (c1 - (i + 1))) rfl (by kernel_rfl) (by kernel_rfl) (by kernel_rfl) (fun _ _ _ h => h) (Or.inl ⟨by rfl, fun W => by go_simp⟩) ?_
        refine wpAny_ready (rs := [5]) (by kernel_rfl) (by simp) ?_
        refine AllReady.cons rfl (fun K hK => ?_) ?_
        · refine wp_append_own _ (.tmp 44) (.tmp 48) 35 rfl W3.heap.size 58 i0' (.agg #[.string ⟨#[]⟩, .int .i64 0, .int .i64 0, .int .i64 0, .slice none 0 0, .int .i64 0, .int .i64 0, .int .i64 0, .int .i64 0, .int .i64 0, .slice none 0 0, .int .i64 0, .int .i64 0]) 13 144 Try.underlying35 hi' hz0 hz1 hz2 rfl (by decide) (.slice (some ⟨W3.heap.size, 0, none⟩) 0 0) 0 [] rfl (owns_none13 (Nat.le_refl _) (heap_alloc_new W3 _)) ⟨g, 0, none⟩ i c1 (hdCells (us.take i)) rfl T1.out (hT.out _ D1) (hdCells_one _) (by unfold maxLen; omega) (by omega) (D1).size ?_
          intro v8 w8 hown8 hgrow8 hnil8
          obtain ⟨a8, c8', rfl⟩ := own_slice hown8
          simp only [Nat.zero_add, List.nil_append] at hown8 ⊢
          have D8 : Below W3.heap.size W3 w8 := D1.grown hgrow8 D1.size (fun k e => by simp [Value.ownBlock] at e; subst e; exact Nat.le_refl _)
          have e8' := hF _ D8
          refine hK _ _ ?_
          clear hK K
          refine wpAny_ready (rs := [11]) (by kernel_rfl) (by simp) ?_
          refine AllReady.cons rfl (fun K hK => ?_) ?_
          · refine wp_append_own _ (.tmp 49) (.tmp 54) 35 rfl W3.heap.size 58 i0' (.agg #[.string ⟨#[]⟩, .int .i64 0, .int .i64 0, .int .i64 0, .slice none 0 0, .int .i64 0, .int .i64 0, .int .i64 0, .int .i64 0, .int .i64 0, .slice none 0 0, .int .i64 0, .int .i64 0]) 13 144 Try.underlying35 hi' hz0 hz1 hz2 rfl (by decide) (.slice a8 i c8') i (hdCells (us.take i)) rfl hown8 AD (us.length - (i + 1)) (c1 - (i + 1)) (hdCells (us.drop (i + 1))) rfl T2.out (hNW.out _ D8) (hdCells_one _) (by unfold maxLen; omega) (by omega) (D8).size ?_
            intro v9 w9 hown9 hgrow9 hnil9
            obtain ⟨a9, c9', rfl⟩ := own_slice hown9
            rw [show i + (us.length - (i + 1)) = us.length - 1 by omega] at hown9 ⊢
            have D9 : Below W3.heap.size W3 w9 := D8.grown hgrow9 D8.size (fun k e => owns_base hown8 k e)
            have G9 := hG.out _ D9
            have p0 : w9.cell? ⟨w1.heap.size, 0, none⟩ = some (.int .i64 la) := G9.bk.c 0
            have p1 : w9.cell? ⟨w1.heap.size, 1, none⟩ = some (.slice (some ⟨g, 0, none⟩) us.length c1) := G9.bk.c 1
            have pf := G9.bk.f
            have r0 : w9.cell? ⟨w.heap.size + 1 + 1, 0, none⟩ = some (.int .i64 0) := G9.res.c 0
            have r1 : w9.cell? ⟨w.heap.size + 1 + 1, 1, none⟩ = some (.slice none 0 0) := G9.res.c 1
            have rf := G9.res.f
            have kn : ¬ w1.heap.size = w.heap.size + 1 + 1 := by have := G9.k; omega
            have kn' : ¬ w.heap.size + 1 + 1 = w1.heap.size := by have := G9.k; omega
            refine hK _ _ ?_
            clear hK K
            refine wpAny_take (i := 12) (v := .pointer (some ⟨w1.heap.size, 1, none⟩)) rfl (by kernel_rfl) (by kernel_rfl) (by kernel_rfl) (fun _ _ _ h => h) (Or.inl ⟨by rfl, fun W => by go_simp⟩) ?_
            refine wpAny_ready (rs := [13]) (by kernel_rfl) (by simp) ?_
            refine AllReady.cons rfl (fun K hK => ?_) ?_
            · go_simp
              refine hK _ _ ?_
              clear hK K
              refine wpAny_done (by kernel_rfl) ?_ _
              go_wp2
              obtain ⟨f1, f2⟩ := hE.out w9 (.slice a9 (us.length - 1) c9') D9 hown9
              refine bodyPost_ret (v := .agg #[.int .i64 la, .slice a9 (us.length - 1) c9']) (by simp [results, Try.results15, go_sem, *]) rfl ⟨_, us.eraseIdx i, rfl, HKE.out, f1, f2⟩
            exact AllReady.nil
          exact AllReady.nil
        exact AllReady.nil
      exact AllReady.nil
    refine AllReady.cons rfl (fun K hK => ?_) ?_
    · go_simp
      refine hK _ _ ?_
      clear hK K
      refine wpAny_take (i := 10) (v := .slice (some AD) (us.length - (i + 1)) (c1 - (i + 1))) rfl (by kernel_rfl) (by kernel_rfl) (by kernel_rfl) (fun _ _ _ h => h) (Or.inl ⟨by rfl, fun W => by go_simp⟩) ?_
      refine wpAny_ready (rs := [2]) (by kernel_rfl) (by simp) ?_
      refine AllReady.cons rfl (fun K hK => ?_) ?_
      · go_simp
        refine hK _ _ ?_
        clear hK K
        refine wpAny_take (i := 4) (v := .slice (some ⟨g, 0, none⟩) i c1) rfl (by kernel_rfl) (by kernel_rfl) (by kernel_rfl) (fun _ _ _ h => h) (Or.inl ⟨by rfl, fun W => by go_simp⟩) ?_
        refine wpAny_ready (rs := [5]) (by kernel_rfl) (by simp) ?_
        refine AllReady.cons rfl (fun K hK => ?_) ?_
        · refine wp_append_own _ (.tmp 44) (.tmp 48) 35 rfl W3.heap.size 58 i0' (.agg #[.string ⟨#[]⟩, .int .i64 0, .int .i64 0, .int .i64 0, .slice none 0 0, .int .i64 0, .int .i64 0, .int .i64 0, .int .i64 0, .int .i64 0, .slice none 0 0, .int .i64 0, .int .i64 0]) 13 144 Try.underlying35 hi' hz0 hz1 hz2 rfl (by decide) (.slice (some ⟨W3.heap.size, 0, none⟩) 0 0) 0 [] rfl (owns_none13 (Nat.le_refl _) (heap_alloc_new W3 _)) ⟨g, 0, none⟩ i c1 (hdCells (us.take i)) rfl T1.out (hT.out _ D1) (hdCells_one _) (by unfold maxLen; omega) (by omega) (D1).size ?_
          intro v8 w8 hown8 hgrow8 hnil8
          obtain ⟨a8, c8', rfl⟩ := own_slice hown8
          simp only [Nat.zero_add, List.nil_append] at hown8 ⊢
          have D8 : Below W3.heap.size W3 w8 := D1.grown hgrow8 D1.size (fun k e => by simp [Value.ownBlock] at e; subst e; exact Nat.le_refl _)
          have e8' := hF _ D8
          refine hK _ _ ?_
          clear hK K
          refine wpAny_ready (rs := [11]) (by kernel_rfl) (by simp) ?_
          refine AllReady.cons rfl (fun K hK => ?_) ?_
          · refine wp_append_own _ (.tmp 49) (.tmp 54) 35 rfl W3.heap.size 58 i0' (.agg #[.string ⟨#[]⟩, .int .i64 0, .int .i64 0, .int .i64 0, .slice none 0 0, .int .i64 0, .int .i64 0, .int .i64 0, .int .i64 0, .int .i64 0, .slice none 0 0, .int .i64 0, .int .i64 0]) 13 144 Try.underlying35 hi' hz0 hz1 hz2 rfl (by decide) (.slice a8 i c8') i (hdCells (us.take i)) rfl hown8 AD (us.length - (i + 1)) (c1 - (i + 1)) (hdCells (us.drop (i + 1))) rfl T2.out (hNW.out _ D8) (hdCells_one _) (by unfold maxLen; omega) (by omega) (D8).size ?_
            intro v9 w9 hown9 hgrow9 hnil9
            obtain ⟨a9, c9', rfl⟩ := own_slice hown9
            rw [show i + (us.length - (i + 1)) = us.length - 1 by omega] at hown9 ⊢
            have D9 : Below W3.heap.size W3 w9 := D8.grown hgrow9 D8.size (fun k e => owns_base hown8 k e)
            have G9 := hG.out _ D9
            have p0 : w9.cell? ⟨w1.heap.size, 0, none⟩ = some (.int .i64 la) := G9.bk.c 0
            have p1 : w9.cell? ⟨w1.heap.size, 1, none⟩ = some (.slice (some ⟨g, 0, none⟩) us.length c1) := G9.bk.c 1
            have pf := G9.bk.f
            have r0 : w9.cell? ⟨w.heap.size + 1 + 1, 0, none⟩ = some (.int .i64 0) := G9.res.c 0
            have r1 : w9.cell? ⟨w.heap.size + 1 + 1, 1, none⟩ = some (.slice none 0 0) := G9.res.c 1
            have rf := G9.res.f
            have kn : ¬ w1.heap.size = w.heap.size + 1 + 1 := by have := G9.k; omega
            have kn' : ¬ w.heap.size + 1 + 1 = w1.heap.size := by have := G9.k; omega
            refine hK _ _ ?_
            clear hK K
            refine wpAny_take (i := 12) (v := .pointer (some ⟨w1.heap.size, 1, none⟩)) rfl (by kernel_rfl) (by kernel_rfl) (by kernel_rfl) (fun _ _ _ h => h) (Or.inl ⟨by rfl, fun W => by go_simp⟩) ?_
            refine wpAny_ready (rs := [13]) (by kernel_rfl) (by simp) ?_
            refine AllReady.cons rfl (fun K hK => ?_) ?_
            · go_simp
              refine hK _ _ ?_
              clear hK K
              refine wpAny_done (by kernel_rfl) ?_ _
              go_wp2
              obtain ⟨f1, f2⟩ := hE.out w9 (.slice a9 (us.length - 1) c9') D9 hown9
              refine bodyPost_ret (v := .agg #[.int .i64 la, .slice a9 (us.length - 1) c9']) (by simp [results, Try.results15, go_sem, *]) rfl ⟨_, us.eraseIdx i, rfl, HKE.out, f1, f2⟩
            exact AllReady.nil
          exact AllReady.nil
        exact AllReady.nil
      exact AllReady.nil
    exact AllReady.nil
  refine AllReady.cons rfl (fun K hK => ?_) ?_
  · go_simp
    refine hK _ _ ?_
    clear hK K
    refine wpAny_take (i := 4) (v := .slice (some ⟨g, 0, none⟩) i c1) rfl (by kernel_rfl) (by kernel_rfl) (by kernel_rfl) (fun _ _ _ h => h) (Or.inl ⟨by rfl, fun W => by go_simp⟩) ?_
    refine wpAny_ready (rs := [0, 7]) (by kernel_rfl) (by simp) ?_
    refine AllReady.cons rfl (fun K hK => ?_) ?_
    · go_simp
      refine hK _ _ ?_
      clear hK K
      refine wpAny_ready (rs := [5, 7]) (by kernel_rfl) (by simp) ?_
      refine AllReady.cons rfl (fun K hK => ?_) ?_
      · refine wp_append_own _ (.tmp 44) (.tmp 48) 35 rfl W3.heap.size 58 i0' (.agg #[.string ⟨#[]⟩, .int .i64 0, .int .i64 0, .int .i64 0, .slice none 0 0, .int .i64 0, .int .i64 0, .int .i64 0, .int .i64 0, .int .i64 0, .slice none 0 0, .int .i64 0, .int .i64 0]) 13 144 Try.underlying35 hi' hz0 hz1 hz2 rfl (by decide) (.slice (some ⟨W3.heap.size, 0, none⟩) 0 0) 0 [] rfl (owns_none13 (Nat.le_refl _) (heap_alloc_new W3 _)) ⟨g, 0, none⟩ i c1 (hdCells (us.take i)) rfl T1.out (hT.out _ D1) (hdCells_one _) (by unfold maxLen; omega) (by omega) (D1).size ?_
        intro v8 w8 hown8 hgrow8 hnil8
        obtain ⟨a8, c8', rfl⟩ := own_slice hown8
        simp only [Nat.zero_add, List.nil_append] at hown8 ⊢
        have D8 : Below W3.heap.size W3 w8 := D1.grown hgrow8 D1.size (fun k e => by simp [Value.ownBlock] at e; subst e; exact Nat.le_refl _)
        have e8' := hF _ D8
        refine hK _ _ ?_
        clear hK K
        refine wpAny_ready (rs := [7]) (by kernel_rfl) (by simp) ?_
        refine AllReady.cons rfl (fun K hK => ?_) ?_
        · go_simp
          refine hK _ _ ?_
          clear hK K
          refine wpAny_take (i := 10) (v := .slice (some AD) (us.length - (i + 1)) (c1 - (i + 1))) rfl (by kernel_rfl) (by kernel_rfl) (by kernel_rfl) (fun _ _ _ h => h) (Or.inl ⟨by rfl, fun W => by go_simp⟩) ?_
          refine wpAny_ready (rs := [11]) (by kernel_rfl) (by simp) ?_
          refine AllReady.cons rfl (fun K hK => ?_) ?_
          · refine wp_append_own _ (.tmp 49) (.tmp 54) 35 rfl W3.heap.size 58 i0' (.agg #[.string ⟨#[]⟩, .int .i64 0, .int .i64 0, .int .i64 0, .slice none 0 0, .int .i64 0, .int .i64 0, .int .i64 0, .int .i64 0, .int .i64 0, .slice none 0 0, .int .i64 0, .int .i64 0]) 13 144 Try.underlying35 hi' hz0 hz1 hz2 rfl (by decide) (.slice a8 i c8') i (hdCells (us.take i)) rfl hown8 AD (us.length - (i + 1)) (c1 - (i + 1)) (hdCells (us.drop (i + 1))) rfl T2.out (hNW.out _ D8) (hdCells_one _) (by unfold maxLen; omega) (by omega) (D8).size ?_
            intro v9 w9 hown9 hgrow9 hnil9
            obtain ⟨a9, c9', rfl⟩ := own_slice hown9
            rw [show i + (us.length - (i + 1)) = us.length - 1 by omega] at hown9 ⊢
            have D9 : Below W3.heap.size W3 w9 := D8.grown hgrow9 D8.size (fun k e => owns_base hown8 k e)
            have G9 := hG.out _ D9
            have p0 : w9.cell? ⟨w1.heap.size, 0, none⟩ = some (.int .i64 la) := G9.bk.c 0
            have p1 : w9.cell? ⟨w1.heap.size, 1, none⟩ = some (.slice (some ⟨g, 0, none⟩) us.length c1) := G9.bk.c 1
            have pf := G9.bk.f
            have r0 : w9.cell? ⟨w.heap.size + 1 + 1, 0, none⟩ = some (.int .i64 0) := G9.res.c 0
            have r1 : w9.cell? ⟨w.heap.size + 1 + 1, 1, none⟩ = some (.slice none 0 0) := G9.res.c 1
            have rf := G9.res.f
            have kn : ¬ w1.heap.size = w.heap.size + 1 + 1 := by have := G9.k; omega
            have kn' : ¬ w.heap.size + 1 + 1 = w1.heap.size := by have := G9.k; omega
            refine hK _ _ ?_
            clear hK K
            refine wpAny_take (i := 12) (v := .pointer (some ⟨w1.heap.size, 1, none⟩)) rfl (by kernel_rfl) (by kernel_rfl) (by kernel_rfl) (fun _ _ _ h => h) (Or.inl ⟨by rfl, fun W => by go_simp⟩) ?_
            refine wpAny_ready (rs := [13]) (by kernel_rfl) (by simp) ?_
            refine AllReady.cons rfl (fun K hK => ?_) ?_
            · go_simp
              refine hK _ _ ?_
              clear hK K
              refine wpAny_done (by kernel_rfl) ?_ _
              go_wp2
              obtain ⟨f1, f2⟩ := hE.out w9 (.slice a9 (us.length - 1) c9') D9 hown9
              refine bodyPost_ret (v := .agg #[.int .i64 la, .slice a9 (us.length - 1) c9']) (by simp [results, Try.results15, go_sem, *]) rfl ⟨_, us.eraseIdx i, rfl, HKE.out, f1, f2⟩
            exact AllReady.nil
          exact AllReady.nil
        exact AllReady.nil
      refine AllReady.cons rfl (fun K hK => ?_) ?_
      · go_simp
        refine hK _ _ ?_
        clear hK K
        refine wpAny_take (i := 10) (v := .slice (some AD) (us.length - (i + 1)) (c1 - (i + 1))) rfl (by kernel_rfl) (by kernel_rfl) (by kernel_rfl) (fun _ _ _ h => h) (Or.inl ⟨by rfl, fun W => by go_simp⟩) ?_
        refine wpAny_ready (rs := [5]) (by kernel_rfl) (by simp) ?_
        refine AllReady.cons rfl (fun K hK => ?_) ?_
        · refine wp_append_own _ (.tmp 44) (.tmp 48) 35 rfl W3.heap.size 58 i0' (.agg #[.string ⟨#[]⟩, .int .i64 0, .int .i64 0, .int .i64 0, .slice none 0 0, .int .i64 0, .int .i64 0, .int .i64 0, .int .i64 0, .int .i64 0, .slice none 0 0, .int .i64 0, .int .i64 0]) 13 144 Try.underlying35 hi' hz0 hz1 hz2 rfl (by decide) (.slice (some ⟨W3.heap.size, 0, none⟩) 0 0) 0 [] rfl (owns_none13 (Nat.le_refl _) (heap_alloc_new W3 _)) ⟨g, 0, none⟩ i c1 (hdCells (us.take i)) rfl T1.out (hT.out _ D1) (hdCells_one _) (by unfold maxLen; omega) (by omega) (D1).size ?_
          intro v8 w8 hown8 hgrow8 hnil8
          obtain ⟨a8, c8', rfl⟩ := own_slice hown8
          simp only [Nat.zero_add, List.nil_append] at hown8 ⊢
          have D8 : Below W3.heap.size W3 w8 := D1.grown hgrow8 D1.size (fun k e => by simp [Value.ownBlock] at e; subst e; exact Nat.le_refl _)
          have e8' := hF _ D8
          refine hK _ _ ?_
          clear hK K
          refine wpAny_ready (rs := [11]) (by kernel_rfl) (by simp) ?_
          refine AllReady.cons rfl (fun K hK => ?_) ?_
          · refine wp_append_own _ (.tmp 49) (.tmp 54) 35 rfl W3.heap.size 58 i0' (.agg #[.string ⟨#[]⟩, .int .i64 0, .int .i64 0, .int .i64 0, .slice none 0 0, .int .i64 0, .int .i64 0, .int .i64 0, .int .i64 0, .int .i64 0, .slice none 0 0, .int .i64 0, .int .i64 0]) 13 144 Try.underlying35 hi' hz0 hz1 hz2 rfl (by decide) (.slice a8 i c8') i (hdCells (us.take i)) rfl hown8 AD (us.length - (i + 1)) (c1 - (i + 1)) (hdCells (us.drop (i + 1))) rfl T2.out (hNW.out _ D8) (hdCells_one _) (by unfold maxLen; omega) (by omega) (D8).size ?_
            intro v9 w9 hown9 hgrow9 hnil9
            obtain ⟨a9, c9', rfl⟩ := own_slice hown9
            rw [show i + (us.length - (i + 1)) = us.length - 1 by omega] at hown9 ⊢
            have D9 : Below W3.heap.size W3 w9 := D8.grown hgrow9 D8.size (fun k e => owns_base hown8 k e)
            have G9 := hG.out _ D9
            have p0 : w9.cell? ⟨w1.heap.size, 0, none⟩ = some (.int .i64 la) := G9.bk.c 0
            have p1 : w9.cell? ⟨w1.heap.size, 1, none⟩ = some (.slice (some ⟨g, 0, none⟩) us.length c1) := G9.bk.c 1
            have pf := G9.bk.f
            have r0 : w9.cell? ⟨w.heap.size + 1 + 1, 0, none⟩ = some (.int .i64 0) := G9.res.c 0
            have r1 : w9.cell? ⟨w.heap.size + 1 + 1, 1, none⟩ = some (.slice none 0 0) := G9.res.c 1
            have rf := G9.res.f
            have kn : ¬ w1.heap.size = w.heap.size + 1 + 1 := by have := G9.k; omega
            have kn' : ¬ w.heap.size + 1 + 1 = w1.heap.size := by have := G9.k; omega
            refine hK _ _ ?_
            clear hK K
            refine wpAny_take (i := 12) (v := .pointer (some ⟨w1.heap.size, 1, none⟩)) rfl (by kernel_rfl) (by kernel_rfl) (by kernel_rfl) (fun _ _ _ h => h) (Or.inl ⟨by rfl, fun W => by go_simp⟩) ?_
            refine wpAny_ready (rs := [13]) (by kernel_rfl) (by simp) ?_
            refine AllReady.cons rfl (fun K hK => ?_) ?_
            · go_simp
              refine hK _ _ ?_
              clear hK K
              refine wpAny_done (by kernel_rfl) ?_ _
              go_wp2
              obtain ⟨f1, f2⟩ := hE.out w9 (.slice a9 (us.length - 1) c9') D9 hown9
              refine bodyPost_ret (v := .agg #[.int .i64 la, .slice a9 (us.length - 1) c9']) (by simp [results, Try.results15, go_sem, *]) rfl ⟨_, us.eraseIdx i, rfl, HKE.out, f1, f2⟩
            exact AllReady.nil
          exact AllReady.nil
        exact AllReady.nil
      exact AllReady.nil
    refine AllReady.cons rfl (fun K hK => ?_) ?_
    · go_simp
      refine hK _ _ ?_
      clear hK K
      refine wpAny_take (i := 10) (v := .slice (some AD) (us.length - (i + 1)) (c1 - (i + 1))) rfl (by kernel_rfl) (by kernel_rfl) (by kernel_rfl) (fun _ _ _ h => h) (Or.inl ⟨by rfl, fun W => by go_simp⟩) ?_
      refine wpAny_ready (rs := [0]) (by kernel_rfl) (by simp) ?_
      refine AllReady.cons rfl (fun K hK => ?_) ?_
      · go_simp
        refine hK _ _ ?_
        clear hK K
        refine wpAny_ready (rs := [5]) (by kernel_rfl) (by simp) ?_
        refine AllReady.cons rfl (fun K hK => ?_) ?_
        · refine wp_append_own _ (.tmp 44) (.tmp 48) 35 rfl W3.heap.size 58 i0' (.agg #[.string ⟨#[]⟩, .int .i64 0, .int .i64 0, .int .i64 0, .slice none 0 0, .int .i64 0, .int .i64 0, .int .i64 0, .int .i64 0, .int .i64 0, .slice none 0 0, .int .i64 0, .int .i64 0]) 13 144 Try.underlying35 hi' hz0 hz1 hz2 rfl (by decide) (.slice (some ⟨W3.heap.size, 0, none⟩) 0 0) 0 [] rfl (owns_none13 (Nat.le_refl _) (heap_alloc_new W3 _)) ⟨g, 0, none⟩ i c1 (hdCells (us.take i)) rfl T1.out (hT.out _ D1) (hdCells_one _) (by unfold maxLen; omega) (by omega) (D1).size ?_
          intro v8 w8 hown8 hgrow8 hnil8
          obtain ⟨a8, c8', rfl⟩ := own_slice hown8
          simp only [Nat.zero_add, List.nil_append] at hown8 ⊢
          have D8 : Below W3.heap.size W3 w8 := D1.grown hgrow8 D1.size (fun k e => by simp [Value.ownBlock] at e; subst e; exact Nat.le_refl _)
          have e8' := hF _ D8
          refine hK _ _ ?_
          clear hK K
          refine wpAny_ready (rs := [11]) (by kernel_rfl) (by simp) ?_
          refine AllReady.cons rfl (fun K hK => ?_) ?_
          · refine wp_append_own _ (.tmp 49) (.tmp 54) 35 rfl W3.heap.size 58 i0' (.agg #[.string ⟨#[]⟩, .int .i64 0, .int .i64 0, .int .i64 0, .slice none 0 0, .int .i64 0, .int .i64 0, .int .i64 0, .int .i64 0, .int .i64 0, .slice none 0 0, .int .i64 0, .int .i64 0]) 13 144 Try.underlying35 hi' hz0 hz1 hz2 rfl (by decide) (.slice a8 i c8') i (hdCells (us.take i)) rfl hown8 AD (us.length - (i + 1)) (c1 - (i + 1)) (hdCells (us.drop (i + 1))) rfl T2.out (hNW.out _ D8) (hdCells_one _) (by unfold maxLen; omega) (by omega) (D8).size ?_
            intro v9 w9 hown9 hgrow9 hnil9
            obtain ⟨a9, c9', rfl⟩ := own_slice hown9
            rw [show i + (us.length - (i + 1)) = us.length - 1 by omega] at hown9 ⊢
            have D9 : Below W3.heap.size W3 w9 := D8.grown hgrow9 D8.size (fun k e => owns_base hown8 k e)
            have G9 := hG.out _ D9
            have p0 : w9.cell? ⟨w1.heap.size, 0, none⟩ = some (.int .i64 la) := G9.bk.c 0
            have p1 : w9.cell? ⟨w1.heap.size, 1, none⟩ = some (.slice (some ⟨g, 0, none⟩) us.length c1) := G9.bk.c 1
            have pf := G9.bk.f
            have r0 : w9.cell? ⟨w.heap.size + 1 + 1, 0, none⟩ = some (.int .i64 0) := G9.res.c 0
            have r1 : w9.cell? ⟨w.heap.size + 1 + 1, 1, none⟩ = some (.slice none 0 0) := G9.res.c 1
            have rf := G9.res.f
            have kn : ¬ w1.heap.size = w.heap.size + 1 + 1 := by have := G9.k; omega
            have kn' : ¬ w.heap.size + 1 + 1 = w1.heap.size := by have := G9.k; omega
            refine hK _ _ ?_
            clear hK K
            refine wpAny_take (i := 12) (v := .pointer (some ⟨w1.heap.size, 1, none⟩)) rfl (by kernel_rfl) (by kernel_rfl) (by kernel_rfl) (fun _ _ _ h => h) (Or.inl ⟨by rfl, fun W => by go_simp⟩) ?_
            refine wpAny_ready (rs := [13]) (by kernel_rfl) (by simp) ?_
            refine AllReady.cons rfl (fun K hK => ?_) ?_
            · go_simp
              refine hK _ _ ?_
              clear hK K
              refine wpAny_done (by kernel_rfl) ?_ _
              go_wp2
              obtain ⟨f1, f2⟩ := hE.out w9 (.slice a9 (us.length - 1) c9') D9 hown9
              refine bodyPost_ret (v := .agg #[.int .i64 la, .slice a9 (us.length - 1) c9']) (by simp [results, Try.results15, go_sem, *]) rfl ⟨_, us.eraseIdx i, rfl, HKE.out, f1, f2⟩
            exact AllReady.nil
          exact AllReady.nil
        exact AllReady.nil
      exact AllReady.nil
    exact AllReady.nil
  refine AllReady.cons rfl (fun K hK => ?_) ?_
  · go_simp
    refine hK _ _ ?_
    clear hK K
    refine wpAny_take (i := 10) (v := .slice (some AD) (us.length - (i + 1)) (c1 - (i + 1))) rfl (by kernel_rfl) (by kernel_rfl) (by kernel_rfl) (fun _ _ _ h => h) (Or.inl ⟨by rfl, fun W => by go_simp⟩) ?_
    refine wpAny_ready (rs := [0, 2]) (by kernel_rfl) (by simp) ?_
    refine AllReady.cons rfl (fun K hK => ?_) ?_
    · go_simp
      refine hK _ _ ?_
      clear hK K
      refine wpAny_ready (rs := [2]) (by kernel_rfl) (by simp) ?_
      refine AllReady.cons rfl (fun K hK => ?_) ?_
      · go_simp
        refine hK _ _ ?_
        clear hK K
        refine wpAny_take (i := 4) (v := .slice (some ⟨g, 0, none⟩) i c1) rfl (by kernel_rfl) (by kernel_rfl) (by kernel_rfl) (fun _ _ _ h => h) (Or.inl ⟨by rfl, fun W => by go_simp⟩) ?_
        refine wpAny_ready (rs := [5]) (by kernel_rfl) (by simp) ?_
        refine AllReady.cons rfl (fun K hK => ?_) ?_
        · refine wp_append_own _ (.tmp 44) (.tmp 48) 35 rfl W3.heap.size 58 i0' (.agg #[.string ⟨#[]⟩, .int .i64 0, .int .i64 0, .int .i64 0, .slice none 0 0, .int .i64 0, .int .i64 0, .int .i64 0, .int .i64 0, .int .i64 0, .slice none 0 0, .int .i64 0, .int .i64 0]) 13 144 Try.underlying35 hi' hz0 hz1 hz2 rfl (by decide) (.slice (some ⟨W3.heap.size, 0, none⟩) 0 0) 0 [] rfl (owns_none13 (Nat.le_refl _) (heap_alloc_new W3 _)) ⟨g, 0, none⟩ i c1 (hdCells (us.take i)) rfl T1.out (hT.out _ D1) (hdCells_one _) (by unfold maxLen; omega) (by omega) (D1).size ?_
          intro v8 w8 hown8 hgrow8 hnil8
          obtain ⟨a8, c8', rfl⟩ := own_slice hown8
          simp only [Nat.zero_add, List.nil_append] at hown8 ⊢
          have D8 : Below W3.heap.size W3 w8 := D1.grown hgrow8 D1.size (fun k e => by simp [Value.ownBlock] at e; subst e; exact Nat.le_refl _)
          have e8' := hF _ D8
          refine hK _ _ ?_
          clear hK K
          refine wpAny_ready (rs := [11]) (by kernel_rfl) (by simp) ?_
          refine AllReady.cons rfl (fun K hK => ?_) ?_
          · refine wp_append_own _ (.tmp 49) (.tmp 54) 35 rfl W3.heap.size 58 i0' (.agg #[.string ⟨#[]⟩, .int .i64 0, .int .i64 0, .int .i64 0, .slice none 0 0, .int .i64 0, .int .i64 0, .int .i64 0, .int .i64 0, .int .i64 0, .slice none 0 0, .int .i64 0, .int .i64 0]) 13 144 Try.underlying35 hi' hz0 hz1 hz2 rfl (by decide) (.slice a8 i c8') i (hdCells (us.take i)) rfl hown8 AD (us.length - (i + 1)) (c1 - (i + 1)) (hdCells (us.drop (i + 1))) rfl T2.out (hNW.out _ D8) (hdCells_one _) (by unfold maxLen; omega) (by omega) (D8).size ?_
            intro v9 w9 hown9 hgrow9 hnil9
            obtain ⟨a9, c9', rfl⟩ := own_slice hown9
            rw [show i + (us.length - (i + 1)) = us.length - 1 by omega] at hown9 ⊢
            have D9 : Below W3.heap.size W3 w9 := D8.grown hgrow9 D8.size (fun k e => owns_base hown8 k e)
            have G9 := hG.out _ D9
            have p0 : w9.cell? ⟨w1.heap.size, 0, none⟩ = some (.int .i64 la) := G9.bk.c 0
            have p1 : w9.cell? ⟨w1.heap.size, 1, none⟩ = some (.slice (some ⟨g, 0, none⟩) us.length c1) := G9.bk.c 1
            have pf := G9.bk.f
            have r0 : w9.cell? ⟨w.heap.size + 1 + 1, 0, none⟩ = some (.int .i64 0) := G9.res.c 0
            have r1 : w9.cell? ⟨w.heap.size + 1 + 1, 1, none⟩ = some (.slice none 0 0) := G9.res.c 1
            have rf := G9.res.f
            have kn : ¬ w1.heap.size = w.heap.size + 1 + 1 := by have := G9.k; omega
            have kn' : ¬ w.heap.size + 1 + 1 = w1.heap.size := by have := G9.k; omega
            refine hK _ _ ?_
            clear hK K
            refine wpAny_take (i := 12) (v := .pointer (some ⟨w1.heap.size, 1, none⟩)) rfl (by kernel_rfl) (by kernel_rfl) (by kernel_rfl) (fun _ _ _ h => h) (Or.inl ⟨by rfl, fun W => by go_simp⟩) ?_
            refine wpAny_ready (rs := [13]) (by kernel_rfl) (by simp) ?_
            refine AllReady.cons rfl (fun K hK => ?_) ?_
            · go_simp
              refine hK _ _ ?_
              clear hK K
              refine wpAny_done (by kernel_rfl) ?_ _
              go_wp2
              obtain ⟨f1, f2⟩ := hE.out w9 (.slice a9 (us.length - 1) c9') D9 hown9
              refine bodyPost_ret (v := .agg #[.int .i64 la, .slice a9 (us.length - 1) c9']) (by simp [results, Try.results15, go_sem, *]) rfl ⟨_, us.eraseIdx i, rfl, HKE.out, f1, f2⟩
            exact AllReady.nil
          exact AllReady.nil
        exact AllReady.nil
      exact AllReady.nil
    refine AllReady.cons rfl (fun K hK => ?_) ?_
    · go_simp
      refine hK _ _ ?_
      clear hK K
      refine wpAny_take (i := 4) (v := .slice (some ⟨g, 0, none⟩) i c1) rfl (by kernel_rfl) (by kernel_rfl) (by kernel_rfl) (fun _ _ _ h => h) (Or.inl ⟨by rfl, fun W => by go_simp⟩) ?_
      refine wpAny_ready (rs := [0]) (by kernel_rfl) (by simp) ?_
      refine AllReady.cons rfl (fun K hK => ?_) ?_
      · go_simp
        refine hK _ _ ?_
        clear hK K
        refine wpAny_ready (rs := [5]) (by kernel_rfl) (by simp) ?_
        refine AllReady.cons rfl (fun K hK => ?_) ?_
        · refine wp_append_own _ (.tmp 44) (.tmp 48) 35 rfl W3.heap.size 58 i0' (.agg #[.string ⟨#[]⟩, .int .i64 0, .int .i64 0, .int .i64 0, .slice none 0 0, .int .i64 0, .int .i64 0, .int .i64 0, .int .i64 0, .int .i64 0, .slice none 0 0, .int .i64 0, .int .i64 0]) 13 144 Try.underlying35 hi' hz0 hz1 hz2 rfl (by decide) (.slice (some ⟨W3.heap.size, 0, none⟩) 0 0) 0 [] rfl (owns_none13 (Nat.le_refl _) (heap_alloc_new W3 _)) ⟨g, 0, none⟩ i c1 (hdCells (us.take i)) rfl T1.out (hT.out _ D1) (hdCells_one _) (by unfold maxLen; omega) (by omega) (D1).size ?_
          intro v8 w8 hown8 hgrow8 hnil8
          obtain ⟨a8, c8', rfl⟩ := own_slice hown8
          simp only [Nat.zero_add, List.nil_append] at hown8 ⊢
          have D8 : Below W3.heap.size W3 w8 := D1.grown hgrow8 D1.size (fun k e => by simp [Value.ownBlock] at e; subst e; exact Nat.le_refl _)
          have e8' := hF _ D8
          refine hK _ _ ?_
          clear hK K
          refine wpAny_ready (rs := [11]) (by kernel_rfl) (by simp) ?_
          refine AllReady.cons rfl (fun K hK => ?_) ?_
          · refine wp_append_own _ (.tmp 49) (.tmp 54) 35 rfl W3.heap.size 58 i0' (.agg #[.string ⟨#[]⟩, .int .i64 0, .int .i64 0, .int .i64 0, .slice none 0 0, .int .i64 0, .int .i64 0, .int .i64 0, .int .i64 0, .int .i64 0, .slice none 0 0, .int .i64 0, .int .i64 0]) 13 144 Try.underlying35 hi' hz0 hz1 hz2 rfl (by decide) (.slice a8 i c8') i (hdCells (us.take i)) rfl hown8 AD (us.length - (i + 1)) (c1 - (i + 1)) (hdCells (us.drop (i + 1))) rfl T2.out (hNW.out _ D8) (hdCells_one _) (by unfold maxLen; omega) (by omega) (D8).size ?_
            intro v9 w9 hown9 hgrow9 hnil9
            obtain ⟨a9, c9', rfl⟩ := own_slice hown9
            rw [show i + (us.length - (i + 1)) = us.length - 1 by omega] at hown9 ⊢
            have D9 : Below W3.heap.size W3 w9 := D8.grown hgrow9 D8.size (fun k e => owns_base hown8 k e)
            have G9 := hG.out _ D9
            have p0 : w9.cell? ⟨w1.heap.size, 0, none⟩ = some (.int .i64 la) := G9.bk.c 0
            have p1 : w9.cell? ⟨w1.heap.size, 1, none⟩ = some (.slice (some ⟨g, 0, none⟩) us.length c1) := G9.bk.c 1
            have pf := G9.bk.f
            have r0 : w9.cell? ⟨w.heap.size + 1 + 1, 0, none⟩ = some (.int .i64 0) := G9.res.c 0
            have r1 : w9.cell? ⟨w.heap.size + 1 + 1, 1, none⟩ = some (.slice none 0 0) := G9.res.c 1
            have rf := G9.res.f
            have kn : ¬ w1.heap.size = w.heap.size + 1 + 1 := by have := G9.k; omega
            have kn' : ¬ w.heap.size + 1 + 1 = w1.heap.size := by have := G9.k; omega
            refine hK _ _ ?_
            clear hK K
            refine wpAny_take (i := 12) (v := .pointer (some ⟨w1.heap.size, 1, none⟩)) rfl (by kernel_rfl) (by kernel_rfl) (by kernel_rfl) (fun _ _ _ h => h) (Or.inl ⟨by rfl, fun W => by go_simp⟩) ?_
            refine wpAny_ready (rs := [13]) (by kernel_rfl) (by simp) ?_
            refine AllReady.cons rfl (fun K hK => ?_) ?_
            · go_simp
              refine hK _ _ ?_
              clear hK K
              refine wpAny_done (by kernel_rfl) ?_ _
              go_wp2
              obtain ⟨f1, f2⟩ := hE.out w9 (.slice a9 (us.length - 1) c9') D9 hown9
              refine bodyPost_ret (v := .agg #[.int .i64 la, .slice a9 (us.length - 1) c9']) (by simp [results, Try.results15, go_sem, *]) rfl ⟨_, us.eraseIdx i, rfl, HKE.out, f1, f2⟩
            exact AllReady.nil
          exact AllReady.nil
        exact AllReady.nil
      exact AllReady.nil
    exact AllReady.nil
  exact AllReady.nil

set_option maxRecDepth 40000 in
set_option maxHeartbeats 4000000 in
theorem hearS_era2 (la : Int) (a : Option Addr) (b o cap : Nat) (ts : List Hd) (t : Wd) (w : World) (hl : ts.length ≤ 1048576) (hsm : ∀ t ∈ ts, t.p.l.length ≤ 1048576 ∧ t.x.l.length ≤ 1048576) (hs : HdsAt w a b o ts) (i : Nat) (s : Hd) (hsi : ts[i]? = some s) (hsn : s.nm = t.nm) (hf : NoneTo ts t.nm i) (k6 : (t.k == 6) = true) (q1 : (t.n == s.n) = false) (q2 : (t.n == s.sn) = true) (sg : 0 < s.sn) :
    Calls Try.prog 15 #[.agg #[.int .i64 la, .slice a ts.length cap], t.val] w fun e w' => ∃ (v : Value) (us' : List Hd), e = .returned (.agg #[.int .i64 la, v]) ∧ us'.map Hd.key = (ts.map Hd.key).eraseIdx i ∧ BkOwn w' w.heap.size v us' ∧ Below w.heap.size w w' := by
  obtain ⟨W0, hW0⟩ : ∃ W0, ((w.alloc (.cells #[.int .i64 la, .slice a ts.length cap] 37)).alloc (.cells #[.int .i64 t.k, .string t.nm, .int .i64 t.n, .int .i64 t.p.q, .int .i64 t.p.s, .slice t.p.a t.p.l.length t.p.cap, .int .i64 t.p.fr, .int .i64 t.p.b] 32)).alloc (.cells #[.int .i64 0, .slice none 0 0] 37) = W0 := ⟨_, rfl⟩
  have B0 : Below w.heap.size w W0 := by rw [← hW0]; exact bel3 _ _ _
  have A0 : Bx W0 w.heap.size #[.int .i64 la, .slice a ts.length cap] := by rw [← hW0]; exact ((Bx.new w #[.int .i64 la, .slice a ts.length cap] 37).keep (bel1 _)).keep (bel1 _)
  have T0 : Bx W0 (w.heap.size + 1) #[.int .i64 t.k, .string t.nm, .int .i64 t.n, .int .i64 t.p.q, .int .i64 t.p.s, .slice t.p.a t.p.l.length t.p.cap, .int .i64 t.p.fr, .int .i64 t.p.b] := by
    rw [← hW0]
    have h := (Bx.new (w.alloc (.cells #[.int .i64 la, .slice a ts.length cap] 37)) #[.int .i64 t.k, .string t.nm, .int .i64 t.n, .int .i64 t.p.q, .int .i64 t.p.s, .slice t.p.a t.p.l.length t.p.cap, .int .i64 t.p.fr, .int .i64 t.p.b] 32).keep (bel1 (.cells #[.int .i64 0, .slice none 0 0] 37))
    rwa [World.size_alloc] at h
  have R0 : Bx W0 (w.heap.size + 1 + 1) #[.int .i64 0, .slice none 0 0] := by
    rw [← hW0]
    have h := Bx.new ((w.alloc (.cells #[.int .i64 la, .slice a ts.length cap] 37)).alloc (.cells #[.int .i64 t.k, .string t.nm, .int .i64 t.n, .int .i64 t.p.q, .int .i64 t.p.s, .slice t.p.a t.p.l.length t.p.cap, .int .i64 t.p.fr, .int .i64 t.p.b] 32)) #[.int .i64 0, .slice none 0 0] 37
    rwa [World.size_alloc, World.size_alloc] at h
  have x0 : W0.cell? ⟨w.heap.size, 0, none⟩ = some (.int .i64 la) := A0.c 0
  have x1 : W0.cell? ⟨w.heap.size, 1, none⟩ = some (.slice a ts.length cap) := A0.c 1
  have zR := R0.lt
  go_enter Try.func15, Try.ntmps15
  go_wp2_with fail
  refine (copyBS_any la a b o cap ts _ hl hsm (hs.below B0)).mono ?_
  rintro e w1 ⟨v1, us, rfl, hk, O1, hb1⟩
  have HK : Hid (us.map Hd.key = ts.map Hd.key) := hk
  obtain ⟨a1, c1, rfl⟩ := own_slice O1.row
  have KK := bel1 (w := w1) (.cells #[.int .i64 la, .slice a1 us.length c1] 37)
  have N1 := O1.lt
  have H1 : HsW w (w1.alloc (.cells #[.int .i64 la, .slice a1 us.length c1] 37)) t w1.heap.size la (.slice a1 us.length c1) us := by
    have hz := hb1.size
    have B1 := B0.trans (hb1.mono B0.size)
    exact ⟨B1.trans (KK.mono B1.size), (T0.keep hb1).keep KK, (R0.keep hb1).keep KK, Bx.new w1 _ _, (O1.below KK).lower (by omega), by omega, fun hk => by have := (N1 _ hk).2; omega⟩
  have A1 := (A0.keep hb1).keep KK
  have HB1 : Hid (Below W0.heap.size W0 (w1.alloc (.cells #[.int .i64 la, .slice a1 us.length c1] 37))) := hb1.trans (KK.mono hb1.size)
  have u1 : w1.heap.size ≠ w.heap.size := by have := hb1.size; omega
  have na : ∀ (ob : Obj) (j : Nat), (w1.alloc ob).cell? ⟨w.heap.size, j, none⟩ = w1.cell? ⟨w.heap.size, j, none⟩ := fun ob j => (bel1 ob).cell (p := ⟨w.heap.size, j, none⟩) (show w.heap.size < w1.heap.size by have := hb1.size; omega)
  have nb : ∀ (ob : Obj) (j : Nat), (w1.alloc ob).cell? ⟨w.heap.size + 1, j, none⟩ = w1.cell? ⟨w.heap.size + 1, j, none⟩ := fun ob j => (bel1 ob).cell (p := ⟨w.heap.size + 1, j, none⟩) (show w.heap.size + 1 < w1.heap.size by have := hb1.size; omega)
  have A1' := A0.keep hb1
  have T1' := T0.keep hb1
  clear hW0 x0 x1 hk O1 KK N1 hb1
  have x0 : w1.cell? ⟨w.heap.size, 0, none⟩ = some (.int .i64 la) := A1'.c 0
  have x1 : w1.cell? ⟨w.heap.size, 1, none⟩ = some (.slice a ts.length cap) := A1'.c 1
  have t1 : w1.cell? ⟨w.heap.size + 1, 1, none⟩ = some (.string t.nm) := T1'.c 1
  go_wp2_with fail
  refine (atS_first la a b o cap ts t.nm _ hl (hs.below H1.old)).mono ?_
  rintro e w2 ⟨p, rfl, hp, hb2⟩
  have H2 := H1.keep hb2
  have A2 := A1.keep hb2
  clear x0 x1 t1 H1 A1 A1' T1' hb2 na nb u1 HB1 A0 T0 R0
  have q3 : (t.n != s.sn) = false := by unfold bne; rw [q2]; rfl
  have ep : p = (i : Int) := by
    rcases hp with ⟨rfl, hz⟩ | ⟨k, u, rfl, hu, hn, hz⟩
    · exact absurd hsn (hz i s (List.getElem?_eq_some_iff.1 hsi).1 hsi)
    · rw [NoneTo.one hz hu hn hf hsi hsn]
  subst ep
  have hil : i < ts.length := (List.getElem?_eq_some_iff.1 hsi).1
  have hne : ts ≠ [] := by intro e; subst e; simp at hil
  obtain rfl := hs.here hne
  have hbl : b < w.heap.size := hs.lt hne
  have HUL : Hid (us.length = ts.length) := len_keys HK.out
  have hil' : i < us.length := by rw [HUL.out]; exact hil
  have hul : us.length ≤ 1048576 := by rw [HUL.out]; exact hl
  obtain ⟨u, hu⟩ : ∃ u, us[i]? = some u := ⟨us[i], List.getElem?_eq_getElem hil'⟩
  have EK : Hid (u.key = s.key) := by
    have e := congrArg (fun l => l[i]?) HK.out
    simp only [List.getElem?_map, hu, hsi, Option.map_some, Option.some.injEq] at e
    exact e
  have HSI : Hid (ts[i]? = some s) := hsi
  have HU : Hid (us[i]? = some u) := hu
  have i0 : (0 : Int) ≤ (i : Int) := by omega
  have i1 : (i : Int) < (ts.length : Int) := by omega
  have i2 : ¬ (i : Int) < 0 := by omega
  have i3 : (i : Int) < (us.length : Int) := by omega
  have x1 : w2.cell? ⟨w.heap.size, 1, none⟩ = some (.slice (some ⟨b, o, none⟩) ts.length cap) := A2.c 1
  obtain ⟨e0, e1, e2, e3, e4, e5, e6, e7, e8, e9, e10, e11, e12⟩ := cl_cells ((hs.below H2.old).cell i s hsi)
  obtain ⟨W3, hW3⟩ : ∃ W3, w2.alloc (.cells #[.string s.nm, .int .i64 s.n, .int .i64 s.p.q, .int .i64 s.p.s, .slice s.p.a s.p.l.length s.p.cap, .int .i64 s.p.fr, .int .i64 s.p.b, .int .i64 s.sn, .int .i64 s.x.q, .int .i64 s.x.s, .slice s.x.a s.x.l.length s.x.cap, .int .i64 s.x.fr, .int .i64 s.x.b] 58) = W3 := ⟨_, rfl⟩
  have KS : Below w2.heap.size w2 W3 := by rw [← hW3]; exact bel1 _
  have H3 := H2.keep KS
  have S3 : Bx W3 w2.heap.size #[.string s.nm, .int .i64 s.n, .int .i64 s.p.q, .int .i64 s.p.s, .slice s.p.a s.p.l.length s.p.cap, .int .i64 s.p.fr, .int .i64 s.p.b, .int .i64 s.sn, .int .i64 s.x.q, .int .i64 s.x.s, .slice s.x.a s.x.l.length s.x.cap, .int .i64 s.x.fr, .int .i64 s.x.b] := by rw [← hW3]; exact Bx.new w2 _ _
  have d0 : W3.cell? ⟨w.heap.size + 1, 0, none⟩ = some (.int .i64 t.k) := H3.wd.c 0
  have d2 : W3.cell? ⟨w.heap.size + 1, 2, none⟩ = some (.int .i64 t.n) := H3.wd.c 2
  have d3 : W3.cell? ⟨w2.heap.size, 1, none⟩ = some (.int .i64 s.n) := S3.c 1
  have d4 : W3.cell? ⟨w2.heap.size, 7, none⟩ = some (.int .i64 s.sn) := S3.c 7
  have y0 : W3.cell? ⟨w1.heap.size, 0, none⟩ = some (.int .i64 la) := H3.bk.c 0
  have y1 : W3.cell? ⟨w1.heap.size, 1, none⟩ = some (.slice a1 us.length c1) := H3.bk.c 1
  have r0 : W3.cell? ⟨w.heap.size + 1 + 1, 0, none⟩ = some (.int .i64 0) := H3.res.c 0
  have r1 : W3.cell? ⟨w.heap.size + 1 + 1, 1, none⟩ = some (.slice none 0 0) := H3.res.c 1
  have rf := H3.res.f
  have HSN : Hid (s.nm = t.nm) := hsn
  clear hsi hp hf hu hsn
  obtain ⟨i0', hi', hz0, hz1, hz2⟩ := info_parts held_info
  obtain ⟨g, cc, ea, hg1, hg2⟩ := owns_some H2.own.row (by omega)
  simp only [Value.slice.injEq, true_and] at ea
  obtain ⟨rfl, rfl⟩ := ea
  have R3 := H3.own.row
  have hcap : us.length ≤ c1 := by
    rcases R3.2 with ⟨h0, _⟩ | ⟨g', cap', cur, h1, h2, h3, h4, h5, h6, h7⟩
    · cases h0
    · simp only [Value.slice.injEq, Option.some.injEq, Addr.mk.injEq, and_true, true_and] at h1
      obtain ⟨rfl, rfl⟩ := h1
      exact h4
  have hK3 : w1.heap.size < W3.heap.size := H3.bk.lt
  have hg3 : g < W3.heap.size := by have := KS.size; omega
  have D : Below W3.heap.size W3 W3.drew := (Below.refl _ _).drew
  have D1 : Below W3.heap.size W3 (W3.alloc (.cells #[] 58)).drew := (bel1 (w := W3) _).drew
  have hF : ∀ W : World, Below W3.heap.size W3 W → W.cell? ⟨w1.heap.size, 1, none⟩ = some (.slice (some ⟨g, 0, none⟩) us.length c1) := fun W hb => (H3.keep hb).bk.c 1
  have hT : Hid (∀ W : World, Below W3.heap.size W3 W → ∀ j u, (hdCells (us.take i))[j]? = some u → W.cell? ((⟨g, 0, none⟩ : Addr).add j) = some u) := fun W hb j u hu => by
    have hj : j < i * 13 := by
      have := (List.getElem?_eq_some_iff.1 hu).1
      rw [hdCells_length, List.length_take] at this
      omega
    rw [Addr.add_mid, Nat.zero_add, (owns_below R3 hb).cellAt j (by omega), ← hu, ← hdCells_take, List.getElem?_take, if_pos hj]
  obtain ⟨AD, hAD, hNW⟩ : ∃ AD : Addr, (if c1 = i + 1 then some (⟨g, 0, none⟩ : Addr) else some ⟨g, (i + 1) * 13, none⟩) = some AD ∧ Hid (∀ W : World, Below W3.heap.size W3 W → ∀ j u, (hdCells (us.drop (i + 1)))[j]? = some u → W.cell? (AD.add j) = some u) := by
    have hdl : (hdCells (us.drop (i + 1))).length = (us.length - (i + 1)) * 13 := by rw [hdCells_length, List.length_drop]
    by_cases hc : c1 = i + 1
    · refine ⟨⟨g, 0, none⟩, by simp [hc], fun W hb j u hu => ?_⟩
      have hj : j < (us.length - (i + 1)) * 13 := by rw [← hdl]; exact (List.getElem?_eq_some_iff.1 hu).1
      omega
    · refine ⟨⟨g, (i + 1) * 13, none⟩, by simp [hc], fun W hb j u hu => ?_⟩
      have hj : j < (us.length - (i + 1)) * 13 := by rw [← hdl]; exact (List.getElem?_eq_some_iff.1 hu).1
      rw [Addr.add_mid, (owns_below R3 hb).cellAt _ (by omega), ← hu, ← hdCells_drop, List.getElem?_drop]
  have hE : Hid (∀ (W : World) (v' : Value), Below W3.heap.size W3 W → W.ownsRow W3.heap.size 58 13 v' (us.length - 1) (hdCells (us.take i) ++ hdCells (us.drop (i + 1))) →
      BkOwn (((W.setCell ⟨w1.heap.size, 1, none⟩ v').setCell ⟨w.heap.size + 1 + 1, 0, none⟩ (.int .i64 la)).setCell ⟨w.heap.size + 1 + 1, 1, none⟩ v') w.heap.size v' (us.eraseIdx i) ∧ Below w.heap.size w (((W.setCell ⟨w1.heap.size, 1, none⟩ v').setCell ⟨w.heap.size + 1 + 1, 0, none⟩ (.int .i64 la)).setCell ⟨w.heap.size + 1 + 1, 1, none⟩ v')) := fun W v' hb hr => (H3.keep hb).erase hil' hK3 hr
  have hG : Hid (∀ W : World, Below W3.heap.size W3 W → HsW w W t w1.heap.size la (.slice (some ⟨g, 0, none⟩) us.length c1) us) := fun W hb => H3.keep hb
  have HKE : Hid ((us.eraseIdx i).map Hd.key = (ts.map Hd.key).eraseIdx i) := by
    show _ = _
    rw [key_erase, HK.out]
  have T1 : Hid ((hdCells (us.take i)).length = i * 13) := by show _ = _; rw [hdCells_length, List.length_take, Nat.min_eq_left (by omega)]
  have T2 : Hid ((hdCells (us.drop (i + 1))).length = (us.length - (i + 1)) * 13) := by show _ = _; rw [hdCells_length, List.length_drop]
  have hic : i ≤ c1 := by omega
  have hjc : i + 1 ≤ c1 := by omega
  have hiu : i ≤ us.length := by omega
  have hiu1 : i + 1 ≤ us.length := by omega
  have hp0 : (0 : Int) ≤ (i : Int) + 1 := by omega
  have hp1 : (i : Int) + 1 ≤ (us.length : Int) := by omega
  have hp2 : ((i : Int) + 1).toNat = i + 1 := by omega
  have hwr : IntKind.i64.wrap ((i : Int) + 1) = (i : Int) + 1 := by rw [IntKind.wrap_i64]; omega
  have na : ∀ (ob : Obj) (j : Nat), (W3.alloc ob).cell? ⟨w1.heap.size, j, none⟩ = W3.cell? ⟨w1.heap.size, j, none⟩ := fun ob j => (bel1 ob).cell (p := ⟨w1.heap.size, j, none⟩) hK3
  clear y0 r0 r1 rf R3 H3 H2 S3
  go_wp2
  refine wp_region_any (by kernel_rfl) ?_
  change wpAny _ _ _ _ _ _ _ (World.drew _)
  refine wpAny_take (i := 1) (v := .pointer (some ⟨w1.heap.size, 1, none⟩)) rfl (by kernel_rfl) (by kernel_rfl) (by kernel_rfl) (fun _ _ _ h => h) (Or.inl ⟨by rfl, fun W => by go_simp⟩) ?_
  refine wpAny_take (i := 3) (v := .int .i64 (i : Int)) rfl (by kernel_rfl) (by kernel_rfl) (by kernel_rfl) (fun _ _ _ h => h) (Or.inl ⟨by rfl, fun W => by go_simp⟩) ?_
  refine wpAny_take (i := 6) (v := .pointer (some ⟨w1.heap.size, 1, none⟩)) rfl (by kernel_rfl) (by kernel_rfl) (by kernel_rfl) (fun _ _ _ h => h) (Or.inl ⟨by rfl, fun W => by go_simp⟩) ?_
  refine wpAny_take (i := 8) (v := .int .i64 (i : Int)) rfl (by kernel_rfl) (by kernel_rfl) (by kernel_rfl) (fun _ _ _ h => h) (Or.inl ⟨by rfl, fun W => by go_simp⟩) ?_
  refine wpAny_take (i := 9) (v := .int .i64 ((i : Int) + 1)) rfl (by kernel_rfl) (by kernel_rfl) (by kernel_rfl) (fun _ _ _ h => h) (Or.inl ⟨by rfl, fun W => by go_simp⟩) ?_
  refine wpAny_ready (rs := [0, 2, 7]) (by kernel_rfl) (by simp) ?_
  refine AllReady.cons rfl (fun K hK => ?_) ?_
  · go_simp
    refine hK _ _ ?_
    clear hK K
    refine wpAny_ready (rs := [2, 7]) (by kernel_rfl) (by simp) ?_
    refine AllReady.cons rfl (fun K hK => ?_) ?_
    · go_simp
      refine hK _ _ ?_
      clear hK K
      refine wpAny_take (i := 4) (v := .slice (some ⟨g, 0, none⟩) i c1) rfl (by kernel_rfl) (by kernel_rfl) (by kernel_rfl) (fun _ _ _ h => h) (Or.inl ⟨by rfl, fun W => by go_simp⟩) ?_
      refine wpAny_ready (rs := [5, 7]) (by kernel_rfl) (by simp) ?_
      refine AllReady.cons rfl (fun K hK => ?_) ?_
      · refine wp_append_own _ (.tmp 44) (.tmp 48) 35 rfl W3.heap.size 58 i0' (.agg #[.string ⟨#[]⟩, .int .i64 0, .int .i64 0, .int .i64 0, .slice none 0 0, .int .i64 0, .int .i64 0, .int .i64 0, .int .i64 0, .int .i64 0, .slice none 0 0, .int .i64 0, .int .i64 0]) 13 144 Try.underlying35 hi' hz0 hz1 hz2 rfl (by decide) (.slice (some ⟨W3.heap.size, 0, none⟩) 0 0) 0 [] rfl (owns_none13 (Nat.le_refl _) (heap_alloc_new W3 _)) ⟨g, 0, none⟩ i c1 (hdCells (us.take i)) rfl T1.out (hT.out _ D1) (hdCells_one _) (by unfold maxLen; omega) (by omega) (D1).size ?_
        intro v8 w8 hown8 hgrow8 hnil8
        obtain ⟨a8, c8', rfl⟩ := own_slice hown8
        simp only [Nat.zero_add, List.nil_append] at hown8 ⊢
        have D8 : Below W3.heap.size W3 w8 := D1.grown hgrow8 D1.size (fun k e => by simp [Value.ownBlock] at e; subst e; exact Nat.le_refl _)
        have e8' := hF _ D8
        refine hK _ _ ?_
        clear hK K
        refine wpAny_ready (rs := [7]) (by kernel_rfl) (by simp) ?_
        refine AllReady.cons rfl (fun K hK => ?_) ?_
        · go_simp
          refine hK _ _ ?_
          clear hK K
          refine wpAny_take (i := 10) (v := .slice (some AD) (us.length - (i + 1)) (c1 - (i + 1))) rfl (by kernel_rfl) (by kernel_rfl) (by kernel_rfl) (fun _ _ _ h => h) (Or.inl ⟨by rfl, fun W => by go_simp⟩) ?_
          refine wpAny_ready (rs := [11]) (by kernel_rfl) (by simp) ?_
          refine AllReady.cons rfl (fun K hK => ?_) ?_
          · refine wp_append_own _ (.tmp 49) (.tmp 54) 35 rfl W3.heap.size 58 i0' (.agg #[.string ⟨#[]⟩, .int .i64 0, .int .i64 0, .int .i64 0, .slice none 0 0, .int .i64 0, .int .i64 0, .int .i64 0, .int .i64 0, .int .i64 0, .slice none 0 0, .int .i64 0, .int .i64 0]) 13 144 Try.underlying35 hi' hz0 hz1 hz2 rfl (by decide) (.slice a8 i c8') i (hdCells (us.take i)) rfl hown8 AD (us.length - (i + 1)) (c1 - (i + 1)) (hdCells (us.drop (i + 1))) rfl T2.out (hNW.out _ D8) (hdCells_one _) (by unfold maxLen; omega) (by omega) (D8).size ?_
            intro v9 w9 hown9 hgrow9 hnil9
            obtain ⟨a9, c9', rfl⟩ := own_slice hown9
            rw [show i + (us.length - (i + 1)) = us.length - 1 by omega] at hown9 ⊢
            have D9 : Below W3.heap.size W3 w9 := D8.grown hgrow9 D8.size (fun k e => owns_base hown8 k e)
            have G9 := hG.out _ D9
            have p0 : w9.cell? ⟨w1.heap.size, 0, none⟩ = some (.int .i64 la) := G9.bk.c 0
            have p1 : w9.cell? ⟨w1.heap.size, 1, none⟩ = some (.slice (some ⟨g, 0, none⟩) us.length c1) := G9.bk.c 1
            have pf := G9.bk.f
            have r0 : w9.cell? ⟨w.heap.size + 1 + 1, 0, none⟩ = some (.int .i64 0) := G9.res.c 0
            have r1 : w9.cell? ⟨w.heap.size + 1 + 1, 1, none⟩ = some (.slice none 0 0) := G9.res.c 1
            have rf := G9.res.f
            have kn : ¬ w1.heap.size = w.heap.size + 1 + 1 := by have := G9.k; omega
            have kn' : ¬ w.heap.size + 1 + 1 = w1.heap.size := by have := G9.k; omega
            refine hK _ _ ?_
            clear hK K
            refine wpAny_take (i := 12) (v := .pointer (some ⟨w1.heap.size, 1, none⟩)) rfl (by kernel_rfl) (by kernel_rfl) (by kernel_rfl) (fun _ _ _ h => h) (Or.inl ⟨by rfl, fun W => by go_simp⟩) ?_
            refine wpAny_ready (rs := [13]) (by kernel_rfl) (by simp) ?_
            refine AllReady.cons rfl (fun K hK => ?_) ?_
            · go_simp
              refine hK _ _ ?_
              clear hK K
              refine wpAny_done (by kernel_rfl) ?_ _
              go_wp2
              obtain ⟨f1, f2⟩ := hE.out w9 (.slice a9 (us.length - 1) c9') D9 hown9
              refine bodyPost_ret (v := .agg #[.int .i64 la, .slice a9 (us.length - 1) c9']) (by simp [results, Try.results15, go_sem, *]) rfl ⟨_, us.eraseIdx i, rfl, HKE.out, f1, f2⟩
            exact AllReady.nil
          exact AllReady.nil
        exact AllReady.nil
      refine AllReady.cons rfl (fun K hK => ?_) ?_
      · go_simp
        refine hK _ _ ?_
        clear hK K
        refine wpAny_take (i := 10) (v := .slice (some AD) (us.length - (i + 1)) (c1 - (i + 1))) rfl (by kernel_rfl) (by kernel_rfl) (by kernel_rfl) (fun _ _ _ h => h) (Or.inl ⟨by rfl, fun W => by go_simp⟩) ?_
        refine wpAny_ready (rs := [5]) (by kernel_rfl) (by simp) ?_
        refine AllReady.cons rfl (fun K hK => ?_) ?_
        · refine wp_append_own _ (.tmp 44) (.tmp 48) 35 rfl W3.heap.size 58 i0' (.agg #[.string ⟨#[]⟩, .int .i64 0, .int .i64 0, .int .i64 0, .slice none 0 0, .int .i64 0, .int .i64 0, .int .i64 0, .int .i64 0, .int .i64 0, .slice none 0 0, .int .i64 0, .int .i64 0]) 13 144 Try.underlying35 hi' hz0 hz1 hz2 rfl (by decide) (.slice (some ⟨W3.heap.size, 0, none⟩) 0 0) 0 [] rfl (owns_none13 (Nat.le_refl _) (heap_alloc_new W3 _)) ⟨g, 0, none⟩ i c1 (hdCells (us.take i)) rfl T1.out (hT.out _ D1) (hdCells_one _) (by unfold maxLen; omega) (by omega) (D1).size ?_
          intro v8 w8 hown8 hgrow8 hnil8
          obtain ⟨a8, c8', rfl⟩ := own_slice hown8
          simp only [Nat.zero_add, List.nil_append] at hown8 ⊢
          have D8 : Below W3.heap.size W3 w8 := D1.grown hgrow8 D1.size (fun k e => by simp [Value.ownBlock] at e; subst e; exact Nat.le_refl _)
          have e8' := hF _ D8
          refine hK _ _ ?_
          clear hK K
          refine wpAny_ready (rs := [11]) (by kernel_rfl) (by simp) ?_
          refine AllReady.cons rfl (fun K hK => ?_) ?_
          · refine wp_append_own _ (.tmp 49) (.tmp 54) 35 rfl W3.heap.size 58 i0' (.agg #[.string ⟨#[]⟩, .int .i64 0, .int .i64 0, .int .i64 0, .slice none 0 0, .int .i64 0, .int .i64 0, .int .i64 0, .int .i64 0, .int .i64 0, .slice none 0 0, .int .i64 0, .int .i64 0]) 13 144 Try.underlying35 hi' hz0 hz1 hz2 rfl (by decide) (.slice a8 i c8') i (hdCells (us.take i)) rfl hown8 AD (us.length - (i + 1)) (c1 - (i + 1)) (hdCells (us.drop (i + 1))) rfl T2.out (hNW.out _ D8) (hdCells_one _) (by unfold maxLen; omega) (by omega) (D8).size ?_
            intro v9 w9 hown9 hgrow9 hnil9
            obtain ⟨a9, c9', rfl⟩ := own_slice hown9
            rw [show i + (us.length - (i + 1)) = us.length - 1 by omega] at hown9 ⊢
            have D9 : Below W3.heap.size W3 w9 := D8.grown hgrow9 D8.size (fun k e => owns_base hown8 k e)
            have G9 := hG.out _ D9
            have p0 : w9.cell? ⟨w1.heap.size, 0, none⟩ = some (.int .i64 la) := G9.bk.c 0
            have p1 : w9.cell? ⟨w1.heap.size, 1, none⟩ = some (.slice (some ⟨g, 0, none⟩) us.length c1) := G9.bk.c 1
            have pf := G9.bk.f
            have r0 : w9.cell? ⟨w.heap.size + 1 + 1, 0, none⟩ = some (.int .i64 0) := G9.res.c 0
            have r1 : w9.cell? ⟨w.heap.size + 1 + 1, 1, none⟩ = some (.slice none 0 0) := G9.res.c 1
            have rf := G9.res.f
            have kn : ¬ w1.heap.size = w.heap.size + 1 + 1 := by have := G9.k; omega
            have kn' : ¬ w.heap.size + 1 + 1 = w1.heap.size := by have := G9.k; omega
            refine hK _ _ ?_
            clear hK K
            refine wpAny_take (i := 12) (v := .pointer (some ⟨w1.heap.size, 1, none⟩)) rfl (by kernel_rfl) (by kernel_rfl) (by kernel_rfl) (fun _ _ _ h => h) (Or.inl ⟨by rfl, fun W => by go_simp⟩) ?_
            refine wpAny_ready (rs := [13]) (by kernel_rfl) (by simp) ?_
            refine AllReady.cons rfl (fun K hK => ?_) ?_
            · go_simp
              refine hK _ _ ?_
              clear hK K
              refine wpAny_done (by kernel_rfl) ?_ _
              go_wp2
              obtain ⟨f1, f2⟩ := hE.out w9 (.slice a9 (us.length - 1) c9') D9 hown9
              refine bodyPost_ret (v := .agg #[.int .i64 la, .slice a9 (us.length - 1) c9']) (by simp [results, Try.results15, go_sem, *]) rfl ⟨_, us.eraseIdx i, rfl, HKE.out, f1, f2⟩
            exact AllReady.nil
          exact AllReady.nil
        exact AllReady.nil
      exact AllReady.nil
    refine AllReady.cons rfl (fun K hK => ?_) ?_
    · go_simp
      refine hK _ _ ?_
      clear hK K
      refine wpAny_take (i := 10) (v := .slice (some AD) (us.length - (i + 1)) (c1 - (i + 1))) rfl (by kernel_rfl) (by kernel_rfl) (by kernel_rfl) (fun _ _ _ h => h) (Or.inl ⟨by rfl, fun W => by go_simp⟩) ?_
      refine wpAny_ready (rs := [2]) (by kernel_rfl) (by simp) ?_
      refine AllReady.cons rfl (fun K hK => ?_) ?_
      · go_simp
        refine hK _ _ ?_
        clear hK K
        refine wpAny_take (i := 4) (v := .slice (some ⟨g, 0, none⟩) i c1) rfl (by kernel_rfl) (by kernel_rfl) (by kernel_rfl) (fun _ _ _ h => h) (Or.inl ⟨by rfl, fun W => by go_simp⟩) ?_
        refine wpAny_ready (rs := [5]) (by kernel_rfl) (by simp) ?_
        refine AllReady.cons rfl (fun K hK => ?_) ?_
        · refine wp_append_own _ (.tmp 44) (.tmp 48) 35 rfl W3.heap.size 58 i0' (.agg #[.string ⟨#[]⟩, .int .i64 0, .int .i64 0, .int .i64 0, .slice none 0 0, .int .i64 0, .int .i64 0, .int .i64 0, .int .i64 0, .int .i64 0, .slice none 0 0, .int .i64 0, .int .i64 0]) 13 144 Try.underlying35 hi' hz0 hz1 hz2 rfl (by decide) (.slice (some ⟨W3.heap.size, 0, none⟩) 0 0) 0 [] rfl (owns_none13 (Nat.le_refl _) (heap_alloc_new W3 _)) ⟨g, 0, none⟩ i c1 (hdCells (us.take i)) rfl T1.out (hT.out _ D1) (hdCells_one _) (by unfold maxLen; omega) (by omega) (D1).size ?_
          intro v8 w8 hown8 hgrow8 hnil8
          obtain ⟨a8, c8', rfl⟩ := own_slice hown8
          simp only [Nat.zero_add, List.nil_append] at hown8 ⊢
          have D8 : Below W3.heap.size W3 w8 := D1.grown hgrow8 D1.size (fun k e => by simp [Value.ownBlock] at e; subst e; exact Nat.le_refl _)
          have e8' := hF _ D8
          refine hK _ _ ?_
          clear hK K
          refine wpAny_ready (rs := [11]) (by kernel_rfl) (by simp) ?_
          refine AllReady.cons rfl (fun K hK => ?_) ?_
          · refine wp_append_own _ (.tmp 49) (.tmp 54) 35 rfl W3.heap.size 58 i0' (.agg #[.string ⟨#[]⟩, .int .i64 0, .int .i64 0, .int .i64 0, .slice none 0 0, .int .i64 0, .int .i64 0, .int .i64 0, .int .i64 0, .int .i64 0, .slice none 0 0, .int .i64 0, .int .i64 0]) 13 144 Try.underlying35 hi' hz0 hz1 hz2 rfl (by decide) (.slice a8 i c8') i (hdCells (us.take i)) rfl hown8 AD (us.length - (i + 1)) (c1 - (i + 1)) (hdCells (us.drop (i + 1))) rfl T2.out (hNW.out _ D8) (hdCells_one _) (by unfold maxLen; omega) (by omega) (D8).size ?_
            intro v9 w9 hown9 hgrow9 hnil9
            obtain ⟨a9, c9', rfl⟩ := own_slice hown9
            rw [show i + (us.length - (i + 1)) = us.length - 1 by omega] at hown9 ⊢
            have D9 : Below W3.heap.size W3 w9 := D8.grown hgrow9 D8.size (fun k e => owns_base hown8 k e)
            have G9 := hG.out _ D9
            have p0 : w9.cell? ⟨w1.heap.size, 0, none⟩ = some (.int .i64 la) := G9.bk.c 0
            have p1 : w9.cell? ⟨w1.heap.size, 1, none⟩ = some (.slice (some ⟨g, 0, none⟩) us.length c1) := G9.bk.c 1
            have pf := G9.bk.f
            have r0 : w9.cell? ⟨w.heap.size + 1 + 1, 0, none⟩ = some (.int .i64 0) := G9.res.c 0
            have r1 : w9.cell? ⟨w.heap.size + 1 + 1, 1, none⟩ = some (.slice none 0 0) := G9.res.c 1
            have rf := G9.res.f
            have kn : ¬ w1.heap.size = w.heap.size + 1 + 1 := by have := G9.k; omega
            have kn' : ¬ w.heap.size + 1 + 1 = w1.heap.size := by have := G9.k; omega
            refine hK _ _ ?_
            clear hK K
            refine wpAny_take (i := 12) (v := .pointer (some ⟨w1.heap.size, 1, none⟩)) rfl (by kernel_rfl) (by kernel_rfl) (by kernel_rfl) (fun _ _ _ h => h) (Or.inl ⟨by rfl, fun W => by go_simp⟩) ?_
            refine wpAny_ready (rs := [13]) (by kernel_rfl) (by simp) ?_
            refine AllReady.cons rfl (fun K hK => ?_) ?_
            · go_simp
              refine hK _ _ ?_
              clear hK K
              refine wpAny_done (by kernel_rfl) ?_ _
              go_wp2
              obtain ⟨f1, f2⟩ := hE.out w9 (.slice a9 (us.length - 1) c9') D9 hown9
              refine bodyPost_ret (v := .agg #[.int .i64 la, .slice a9 (us.length - 1) c9']) (by simp [results, Try.results15, go_sem, *]) rfl ⟨_, us.eraseIdx i, rfl, HKE.out, f1, f2⟩
            exact AllReady.nil
          exact AllReady.nil
        exact AllReady.nil
      exact AllReady.nil
    exact AllReady.nil
  refine AllReady.cons rfl (fun K hK => ?_) ?_
  · go_simp
    refine hK _ _ ?_
    clear hK K
    refine wpAny_take (i := 4) (v := .slice (some ⟨g, 0, none⟩) i c1) rfl (by kernel_rfl) (by kernel_rfl) (by kernel_rfl) (fun _ _ _ h => h) (Or.inl ⟨by rfl, fun W => by go_simp⟩) ?_
    refine wpAny_ready (rs := [0, 7]) (by kernel_rfl) (by simp) ?_
    refine AllReady.cons rfl (fun K hK => ?_) ?_
    · go_simp
      refine hK _ _ ?_
      clear hK K
      refine wpAny_ready (rs := [5, 7]) (by kernel_rfl) (by simp) ?_
      refine AllReady.cons rfl (fun K hK => ?_) ?_
      · refine wp_append_own _ (.tmp 44) (.tmp 48) 35 rfl W3.heap.size 58 i0' (.agg #[.string ⟨#[]⟩, .int .i64 0, .int .i64 0, .int .i64 0, .slice none 0 0, .int .i64 0, .int .i64 0, .int .i64 0, .int .i64 0, .int .i64 0, .slice none 0 0, .int .i64 0, .int .i64 0]) 13 144 Try.underlying35 hi' hz0 hz1 hz2 rfl (by decide) (.slice (some ⟨W3.heap.size, 0, none⟩) 0 0) 0 [] rfl (owns_none13 (Nat.le_refl _) (heap_alloc_new W3 _)) ⟨g, 0, none⟩ i c1 (hdCells (us.take i)) rfl T1.out (hT.out _ D1) (hdCells_one _) (by unfold maxLen; omega) (by omega) (D1).size ?_
        intro v8 w8 hown8 hgrow8 hnil8
        obtain ⟨a8, c8', rfl⟩ := own_slice hown8
        simp only [Nat.zero_add, List.nil_append] at hown8 ⊢
        have D8 : Below W3.heap.size W3 w8 := D1.grown hgrow8 D1.size (fun k e => by simp [Value.ownBlock] at e; subst e; exact Nat.le_refl _)
        have e8' := hF _ D8
        refine hK _ _ ?_
        clear hK K
        refine wpAny_ready (rs := [7]) (by kernel_rfl) (by simp) ?_
        refine AllReady.cons rfl (fun K hK => ?_) ?_
        · go_simp
          refine hK _ _ ?_
          clear hK K
          refine wpAny_take (i := 10) (v := .slice (some AD) (us.length - (i + 1)) (c1 - (i + 1))) rfl (by kernel_rfl) (by kernel_rfl) (by kernel_rfl) (fun _ _ _ h => h) (Or.inl ⟨by rfl, fun W => by go_simp⟩) ?_
          refine wpAny_ready (rs := [11]) (by kernel_rfl) (by simp) ?_
          refine AllReady.cons rfl (fun K hK => ?_) ?_
          · refine wp_append_own _ (.tmp 49) (.tmp 54) 35 rfl W3.heap.size 58 i0' (.agg #[.string ⟨#[]⟩, .int .i64 0, .int .i64 0, .int .i64 0, .slice none 0 0, .int .i64 0, .int .i64 0, .int .i64 0, .int .i64 0, .int .i64 0, .slice none 0 0, .int .i64 0, .int .i64 0]) 13 144 Try.underlying35 hi' hz0 hz1 hz2 rfl (by decide) (.slice a8 i c8') i (hdCells (us.take i)) rfl hown8 AD (us.length - (i + 1)) (c1 - (i + 1)) (hdCells (us.drop (i + 1))) rfl T2.out (hNW.out _ D8) (hdCells_one _) (by unfold maxLen; omega) (by omega) (D8).size ?_
            intro v9 w9 hown9 hgrow9 hnil9
            obtain ⟨a9, c9', rfl⟩ := own_slice hown9
            rw [show i + (us.length - (i + 1)) = us.length - 1 by omega] at hown9 ⊢
            have D9 : Below W3.heap.size W3 w9 := D8.grown hgrow9 D8.size (fun k e => owns_base hown8 k e)
            have G9 := hG.out _ D9
            have p0 : w9.cell? ⟨w1.heap.size, 0, none⟩ = some (.int .i64 la) := G9.bk.c 0
            have p1 : w9.cell? ⟨w1.heap.size, 1, none⟩ = some (.slice (some ⟨g, 0, none⟩) us.length c1) := G9.bk.c 1
            have pf := G9.bk.f
            have r0 : w9.cell? ⟨w.heap.size + 1 + 1, 0, none⟩ = some (.int .i64 0) := G9.res.c 0
            have r1 : w9.cell? ⟨w.heap.size + 1 + 1, 1, none⟩ = some (.slice none 0 0) := G9.res.c 1
            have rf := G9.res.f
            have kn : ¬ w1.heap.size = w.heap.size + 1 + 1 := by have := G9.k; omega
            have kn' : ¬ w.heap.size + 1 + 1 = w1.heap.size := by have := G9.k; omega
            refine hK _ _ ?_
            clear hK K
            refine wpAny_take (i := 12) (v := .pointer (some ⟨w1.heap.size, 1, none⟩)) rfl (by kernel_rfl) (by kernel_rfl) (by kernel_rfl) (fun _ _ _ h => h) (Or.inl ⟨by rfl, fun W => by go_simp⟩) ?_
            refine wpAny_ready (rs := [13]) (by kernel_rfl) (by simp) ?_
            refine AllReady.cons rfl (fun K hK => ?_) ?_
            · go_simp
              refine hK _ _ ?_
              clear hK K
              refine wpAny_done (by kernel_rfl) ?_ _
              go_wp2
              obtain ⟨f1, f2⟩ := hE.out w9 (.slice a9 (us.length - 1) c9') D9 hown9
              refine bodyPost_ret (v := .agg #[.int .i64 la, .slice a9 (us.length - 1) c9']) (by simp [results, Try.results15, go_sem, *]) rfl ⟨_, us.eraseIdx i, rfl, HKE.out, f1, f2⟩
            exact AllReady.nil
          exact AllReady.nil
        exact AllReady.nil
      refine AllReady.cons rfl (fun K hK => ?_) ?_
      · go_simp
        refine hK _ _ ?_
        clear hK K
        refine wpAny_take (i := 10) (v := .slice (some AD) (us.length - (i + 1)) (c1 - (i + 1))) rfl (by kernel_rfl) (by kernel_rfl) (by kernel_rfl) (fun _ _ _ h => h) (Or.inl ⟨by rfl, fun W => by go_simp⟩) ?_
        refine wpAny_ready (rs := [5]) (by kernel_rfl) (by simp) ?_
        refine AllReady.cons rfl (fun K hK => ?_) ?_
        · refine wp_append_own _ (.tmp 44) (.tmp 48) 35 rfl W3.heap.size 58 i0' (.agg #[.string ⟨#[]⟩, .int .i64 0, .int .i64 0, .int .i64 0, .slice none 0 0, .int .i64 0, .int .i64 0, .int .i64 0, .int .i64 0, .int .i64 0, .slice none 0 0, .int .i64 0, .int .i64 0]) 13 144 Try.underlying35 hi' hz0 hz1 hz2 rfl (by decide) (.slice (some ⟨W3.heap.size, 0, none⟩) 0 0) 0 [] rfl (owns_none13 (Nat.le_refl _) (heap_alloc_new W3 _)) ⟨g, 0, none⟩ i c1 (hdCells (us.take i)) rfl T1.out (hT.out _ D1) (hdCells_one _) (by unfold maxLen; omega) (by omega) (D1).size ?_
          intro v8 w8 hown8 hgrow8 hnil8
          obtain ⟨a8, c8', rfl⟩ := own_slice hown8
          simp only [Nat.zero_add, List.nil_append] at hown8 ⊢
          have D8 : Below W3.heap.size W3 w8 := D1.grown hgrow8 D1.size (fun k e => by simp [Value.ownBlock] at e; subst e; exact Nat.le_refl _)
          have e8' := hF _ D8
          refine hK _ _ ?_
          clear hK K
          refine wpAny_ready (rs := [11]) (by kernel_rfl) (by simp) ?_
          refine AllReady.cons rfl (fun K hK => ?_) ?_
          · refine wp_append_own _ (.tmp 49) (.tmp 54) 35 rfl W3.heap.size 58 i0' (.agg #[.string ⟨#[]⟩, .int .i64 0, .int .i64 0, .int .i64 0, .slice none 0 0, .int .i64 0, .int .i64 0, .int .i64 0, .int .i64 0, .int .i64 0, .slice none 0 0, .int .i64 0, .int .i64 0]) 13 144 Try.underlying35 hi' hz0 hz1 hz2 rfl (by decide) (.slice a8 i c8') i (hdCells (us.take i)) rfl hown8 AD (us.length - (i + 1)) (c1 - (i + 1)) (hdCells (us.drop (i + 1))) rfl T2.out (hNW.out _ D8) (hdCells_one _) (by unfold maxLen; omega) (by omega) (D8).size ?_
            intro v9 w9 hown9 hgrow9 hnil9
            obtain ⟨a9, c9', rfl⟩ := own_slice hown9
            rw [show i + (us.length - (i + 1)) = us.length - 1 by omega] at hown9 ⊢
            have D9 : Below W3.heap.size W3 w9 := D8.grown hgrow9 D8.size (fun k e => owns_base hown8 k e)
            have G9 := hG.out _ D9
            have p0 : w9.cell? ⟨w1.heap.size, 0, none⟩ = some (.int .i64 la) := G9.bk.c 0
            have p1 : w9.cell? ⟨w1.heap.size, 1, none⟩ = some (.slice (some ⟨g, 0, none⟩) us.length c1) := G9.bk.c 1
            have pf := G9.bk.f
            have r0 : w9.cell? ⟨w.heap.size + 1 + 1, 0, none⟩ = some (.int .i64 0) := G9.res.c 0
            have r1 : w9.cell? ⟨w.heap.size + 1 + 1, 1, none⟩ = some (.slice none 0 0) := G9.res.c 1
            have rf := G9.res.f
            have kn : ¬ w1.heap.size = w.heap.size + 1 + 1 := by have := G9.k; omega
            have kn' : ¬ w.heap.size + 1 + 1 = w1.heap.size := by have := G9.k; omega
            refine hK _ _ ?_
            clear hK K
            refine wpAny_take (i := 12) (v := .pointer (some ⟨w1.heap.size, 1, none⟩)) rfl (by kernel_rfl) (by kernel_rfl) (by kernel_rfl) (fun _ _ _ h => h) (Or.inl ⟨by rfl, fun W => by go_simp⟩) ?_
            refine wpAny_ready (rs := [13]) (by kernel_rfl) (by simp) ?_
            refine AllReady.cons rfl (fun K hK => ?_) ?_
            · go_simp
              refine hK _ _ ?_
              clear hK K
              refine wpAny_done (by kernel_rfl) ?_ _
              go_wp2
              obtain ⟨f1, f2⟩ := hE.out w9 (.slice a9 (us.length - 1) c9') D9 hown9
              refine bodyPost_ret (v := .agg #[.int .i64 la, .slice a9 (us.length - 1) c9']) (by simp [results, Try.results15, go_sem, *]) rfl ⟨_, us.eraseIdx i, rfl, HKE.out, f1, f2⟩
            exact AllReady.nil
          exact AllReady.nil
        exact AllReady.nil
      exact AllReady.nil
    refine AllReady.cons rfl (fun K hK => ?_) ?_
    · go_simp
      refine hK _ _ ?_
      clear hK K
      refine wpAny_take (i := 10) (v := .slice (some AD) (us.length - (i + 1)) (c1 - (i + 1))) rfl (by kernel_rfl) (by kernel_rfl) (by kernel_rfl) (fun _ _ _ h => h) (Or.inl ⟨by rfl, fun W => by go_simp⟩) ?_
      refine wpAny_ready (rs := [0]) (by kernel_rfl) (by simp) ?_
      refine AllReady.cons rfl (fun K hK => ?_) ?_
      · go_simp
        refine hK _ _ ?_
        clear hK K
        refine wpAny_ready (rs := [5]) (by kernel_rfl) (by simp) ?_
        refine AllReady.cons rfl (fun K hK => ?_) ?_
        · refine wp_append_own _ (.tmp 44) (.tmp 48) 35 rfl W3.heap.size 58 i0' (.agg #[.string ⟨#[]⟩, .int .i64 0, .int .i64 0, .int .i64 0, .slice none 0 0, .int .i64 0, .int .i64 0, .int .i64 0, .int .i64 0, .int .i64 0, .slice none 0 0, .int .i64 0, .int .i64 0]) 13 144 Try.underlying35 hi' hz0 hz1 hz2 rfl (by decide) (.slice (some ⟨W3.heap.size, 0, none⟩) 0 0) 0 [] rfl (owns_none13 (Nat.le_refl _) (heap_alloc_new W3 _)) ⟨g, 0, none⟩ i c1 (hdCells (us.take i)) rfl T1.out (hT.out _ D1) (hdCells_one _) (by unfold maxLen; omega) (by omega) (D1).size ?_
          intro v8 w8 hown8 hgrow8 hnil8
          obtain ⟨a8, c8', rfl⟩ := own_slice hown8
          simp only [Nat.zero_add, List.nil_append] at hown8 ⊢
          have D8 : Below W3.heap.size W3 w8 := D1.grown hgrow8 D1.size (fun k e => by simp [Value.ownBlock] at e; subst e; exact Nat.le_refl _)
          have e8' := hF _ D8
          refine hK _ _ ?_
          clear hK K
          refine wpAny_ready (rs := [11]) (by kernel_rfl) (by simp) ?_
          refine AllReady.cons rfl (fun K hK => ?_) ?_
          · refine wp_append_own _ (.tmp 49) (.tmp 54) 35 rfl W3.heap.size 58 i0' (.agg #[.string ⟨#[]⟩, .int .i64 0, .int .i64 0, .int .i64 0, .slice none 0 0, .int .i64 0, .int .i64 0, .int .i64 0, .int .i64 0, .int .i64 0, .slice none 0 0, .int .i64 0, .int .i64 0]) 13 144 Try.underlying35 hi' hz0 hz1 hz2 rfl (by decide) (.slice a8 i c8') i (hdCells (us.take i)) rfl hown8 AD (us.length - (i + 1)) (c1 - (i + 1)) (hdCells (us.drop (i + 1))) rfl T2.out (hNW.out _ D8) (hdCells_one _) (by unfold maxLen; omega) (by omega) (D8).size ?_
            intro v9 w9 hown9 hgrow9 hnil9
            obtain ⟨a9, c9', rfl⟩ := own_slice hown9
            rw [show i + (us.length - (i + 1)) = us.length - 1 by omega] at hown9 ⊢
            have D9 : Below W3.heap.size W3 w9 := D8.grown hgrow9 D8.size (fun k e => owns_base hown8 k e)
            have G9 := hG.out _ D9
            have p0 : w9.cell? ⟨w1.heap.size, 0, none⟩ = some (.int .i64 la) := G9.bk.c 0
            have p1 : w9.cell? ⟨w1.heap.size, 1, none⟩ = some (.slice (some ⟨g, 0, none⟩) us.length c1) := G9.bk.c 1
            have pf := G9.bk.f
            have r0 : w9.cell? ⟨w.heap.size + 1 + 1, 0, none⟩ = some (.int .i64 0) := G9.res.c 0
            have r1 : w9.cell? ⟨w.heap.size + 1 + 1, 1, none⟩ = some (.slice none 0 0) := G9.res.c 1
            have rf := G9.res.f
            have kn : ¬ w1.heap.size = w.heap.size + 1 + 1 := by have := G9.k; omega
            have kn' : ¬ w.heap.size + 1 + 1 = w1.heap.size := by have := G9.k; omega
            refine hK _ _ ?_
            clear hK K
            refine wpAny_take (i := 12) (v := .pointer (some ⟨w1.heap.size, 1, none⟩)) rfl (by kernel_rfl) (by kernel_rfl) (by kernel_rfl) (fun _ _ _ h => h) (Or.inl ⟨by rfl, fun W => by go_simp⟩) ?_
            refine wpAny_ready (rs := [13]) (by kernel_rfl) (by simp) ?_
            refine AllReady.cons rfl (fun K hK => ?_) ?_
            · go_simp
              refine hK _ _ ?_
              clear hK K
              refine wpAny_done (by kernel_rfl) ?_ _
              go_wp2
              obtain ⟨f1, f2⟩ := hE.out w9 (.slice a9 (us.length - 1) c9') D9 hown9
              refine bodyPost_ret (v := .agg #[.int .i64 la, .slice a9 (us.length - 1) c9']) (by simp [results, Try.results15, go_sem, *]) rfl ⟨_, us.eraseIdx i, rfl, HKE.out, f1, f2⟩
            exact AllReady.nil
          exact AllReady.nil
        exact AllReady.nil
      exact AllReady.nil
    exact AllReady.nil
  refine AllReady.cons rfl (fun K hK => ?_) ?_
  · go_simp
    refine hK _ _ ?_
    clear hK K
    refine wpAny_take (i := 10) (v := .slice (some AD) (us.length - (i + 1)) (c1 - (i + 1))) rfl (by kernel_rfl) (by kernel_rfl) (by kernel_rfl) (fun _ _ _ h => h) (Or.inl ⟨by rfl, fun W => by go_simp⟩) ?_
    refine wpAny_ready (rs := [0, 2]) (by kernel_rfl) (by simp) ?_
    refine AllReady.cons rfl (fun K hK => ?_) ?_
    · go_simp
      refine hK _ _ ?_
      clear hK K
      refine wpAny_ready (rs := [2]) (by kernel_rfl) (by simp) ?_
      refine AllReady.cons rfl (fun K hK => ?_) ?_
      · go_simp
        refine hK _ _ ?_
        clear hK K
        refine wpAny_take (i := 4) (v := .slice (some ⟨g, 0, none⟩) i c1) rfl (by kernel_rfl) (by kernel_rfl) (by kernel_rfl) (fun _ _ _ h => h) (Or.inl ⟨by rfl, fun W => by go_simp⟩) ?_
        refine wpAny_ready (rs := [5]) (by kernel_rfl) (by simp) ?_
        refine AllReady.cons rfl (fun K hK => ?_) ?_
        · refine wp_append_own _ (.tmp 44) (.tmp 48) 35 rfl W3.heap.size 58 i0' (.agg #[.string ⟨#[]⟩, .int .i64 0, .int .i64 0, .int .i64 0, .slice none 0 0, .int .i64 0, .int .i64 0, .int .i64 0, .int .i64 0, .int .i64 0, .slice none 0 0, .int .i64 0, .int .i64 0]) 13 144 Try.underlying35 hi' hz0 hz1 hz2 rfl (by decide) (.slice (some ⟨W3.heap.size, 0, none⟩) 0 0) 0 [] rfl (owns_none13 (Nat.le_refl _) (heap_alloc_new W3 _)) ⟨g, 0, none⟩ i c1 (hdCells (us.take i)) rfl T1.out (hT.out _ D1) (hdCells_one _) (by unfold maxLen; omega) (by omega) (D1).size ?_
          intro v8 w8 hown8 hgrow8 hnil8
          obtain ⟨a8, c8', rfl⟩ := own_slice hown8
          simp only [Nat.zero_add, List.nil_append] at hown8 ⊢
          have D8 : Below W3.heap.size W3 w8 := D1.grown hgrow8 D1.size (fun k e => by simp [Value.ownBlock] at e; subst e; exact Nat.le_refl _)
          have e8' := hF _ D8
          refine hK _ _ ?_
          clear hK K
          refine wpAny_ready (rs := [11]) (by kernel_rfl) (by simp) ?_
          refine AllReady.cons rfl (fun K hK => ?_) ?_
          · refine wp_append_own _ (.tmp 49) (.tmp 54) 35 rfl W3.heap.size 58 i0' (.agg #[.string ⟨#[]⟩, .int .i64 0, .int .i64 0, .int .i64 0, .slice none 0 0, .int .i64 0, .int .i64 0, .int .i64 0, .int .i64 0, .int .i64 0, .slice none 0 0, .int .i64 0, .int .i64 0]) 13 144 Try.underlying35 hi' hz0 hz1 hz2 rfl (by decide) (.slice a8 i c8') i (hdCells (us.take i)) rfl hown8 AD (us.length - (i + 1)) (c1 - (i + 1)) (hdCells (us.drop (i + 1))) rfl T2.out (hNW.out _ D8) (hdCells_one _) (by unfold maxLen; omega) (by omega) (D8).size ?_
            intro v9 w9 hown9 hgrow9 hnil9
            obtain ⟨a9, c9', rfl⟩ := own_slice hown9
            rw [show i + (us.length - (i + 1)) = us.length - 1 by omega] at hown9 ⊢
            have D9 : Below W3.heap.size W3 w9 := D8.grown hgrow9 D8.size (fun k e => owns_base hown8 k e)
            have G9 := hG.out _ D9
            have p0 : w9.cell? ⟨w1.heap.size, 0, none⟩ = some (.int .i64 la) := G9.bk.c 0
            have p1 : w9.cell? ⟨w1.heap.size, 1, none⟩ = some (.slice (some ⟨g, 0, none⟩) us.length c1) := G9.bk.c 1
            have pf := G9.bk.f
            have r0 : w9.cell? ⟨w.heap.size + 1 + 1, 0, none⟩ = some (.int .i64 0) := G9.res.c 0
            have r1 : w9.cell? ⟨w.heap.size + 1 + 1, 1, none⟩ = some (.slice none 0 0) := G9.res.c 1
            have rf := G9.res.f
            have kn : ¬ w1.heap.size = w.heap.size + 1 + 1 := by have := G9.k; omega
            have kn' : ¬ w.heap.size + 1 + 1 = w1.heap.size := by have := G9.k; omega
            refine hK _ _ ?_
            clear hK K
            refine wpAny_take (i := 12) (v := .pointer (some ⟨w1.heap.size, 1, none⟩)) rfl (by kernel_rfl) (by kernel_rfl) (by kernel_rfl) (fun _ _ _ h => h) (Or.inl ⟨by rfl, fun W => by go_simp⟩) ?_
            refine wpAny_ready (rs := [13]) (by kernel_rfl) (by simp) ?_
            refine AllReady.cons rfl (fun K hK => ?_) ?_
            · go_simp
              refine hK _ _ ?_
              clear hK K
              refine wpAny_done (by kernel_rfl) ?_ _
              go_wp2
              obtain ⟨f1, f2⟩ := hE.out w9 (.slice a9 (us.length - 1) c9') D9 hown9
              refine bodyPost_ret (v := .agg #[.int .i64 la, .slice a9 (us.length - 1) c9']) (by simp [results, Try.results15, go_sem, *]) rfl ⟨_, us.eraseIdx i, rfl, HKE.out, f1, f2⟩
            exact AllReady.nil
          exact AllReady.nil
        exact AllReady.nil
      exact AllReady.nil
    refine AllReady.cons rfl (fun K hK => ?_) ?_
    · go_simp
      refine hK _ _ ?_
      clear hK K
      refine wpAny_take (i := 4) (v := .slice (some ⟨g, 0, none⟩) i c1) rfl (by kernel_rfl) (by kernel_rfl) (by kernel_rfl) (fun _ _ _ h => h) (Or.inl ⟨by rfl, fun W => by go_simp⟩) ?_
      refine wpAny_ready (rs := [0]) (by kernel_rfl) (by simp) ?_
      refine AllReady.cons rfl (fun K hK => ?_) ?_
      · go_simp
        refine hK _ _ ?_
        clear hK K
        refine wpAny_ready (rs := [5]) (by kernel_rfl) (by simp) ?_
        refine AllReady.cons rfl (fun K hK => ?_) ?_
        · refine wp_append_own _ (.tmp 44) (.tmp 48) 35 rfl W3.heap.size 58 i0' (.agg #[.string ⟨#[]⟩, .int .i64 0, .int .i64 0, .int .i64 0, .slice none 0 0, .int .i64 0, .int .i64 0, .int .i64 0, .int .i64 0, .int .i64 0, .slice none 0 0, .int .i64 0, .int .i64 0]) 13 144 Try.underlying35 hi' hz0 hz1 hz2 rfl (by decide) (.slice (some ⟨W3.heap.size, 0, none⟩) 0 0) 0 [] rfl (owns_none13 (Nat.le_refl _) (heap_alloc_new W3 _)) ⟨g, 0, none⟩ i c1 (hdCells (us.take i)) rfl T1.out (hT.out _ D1) (hdCells_one _) (by unfold maxLen; omega) (by omega) (D1).size ?_
          intro v8 w8 hown8 hgrow8 hnil8
          obtain ⟨a8, c8', rfl⟩ := own_slice hown8
          simp only [Nat.zero_add, List.nil_append] at hown8 ⊢
          have D8 : Below W3.heap.size W3 w8 := D1.grown hgrow8 D1.size (fun k e => by simp [Value.ownBlock] at e; subst e; exact Nat.le_refl _)
          have e8' := hF _ D8
          refine hK _ _ ?_
          clear hK K
          refine wpAny_ready (rs := [11]) (by kernel_rfl) (by simp) ?_
          refine AllReady.cons rfl (fun K hK => ?_) ?_
          · refine wp_append_own _ (.tmp 49) (.tmp 54) 35 rfl W3.heap.size 58 i0' (.agg #[.string ⟨#[]⟩, .int .i64 0, .int .i64 0, .int .i64 0, .slice none 0 0, .int .i64 0, .int .i64 0, .int .i64 0, .int .i64 0, .int .i64 0, .slice none 0 0, .int .i64 0, .int .i64 0]) 13 144 Try.underlying35 hi' hz0 hz1 hz2 rfl (by decide) (.slice a8 i c8') i (hdCells (us.take i)) rfl hown8 AD (us.length - (i + 1)) (c1 - (i + 1)) (hdCells (us.drop (i + 1))) rfl T2.out (hNW.out _ D8) (hdCells_one _) (by unfold maxLen; omega) (by omega) (D8).size ?_
            intro v9 w9 hown9 hgrow9 hnil9
            obtain ⟨a9, c9', rfl⟩ := own_slice hown9
            rw [show i + (us.length - (i + 1)) = us.length - 1 by omega] at hown9 ⊢
            have D9 : Below W3.heap.size W3 w9 := D8.grown hgrow9 D8.size (fun k e => owns_base hown8 k e)
            have G9 := hG.out _ D9
            have p0 : w9.cell? ⟨w1.heap.size, 0, none⟩ = some (.int .i64 la) := G9.bk.c 0
            have p1 : w9.cell? ⟨w1.heap.size, 1, none⟩ = some (.slice (some ⟨g, 0, none⟩) us.length c1) := G9.bk.c 1
            have pf := G9.bk.f
            have r0 : w9.cell? ⟨w.heap.size + 1 + 1, 0, none⟩ = some (.int .i64 0) := G9.res.c 0
            have r1 : w9.cell? ⟨w.heap.size + 1 + 1, 1, none⟩ = some (.slice none 0 0) := G9.res.c 1
            have rf := G9.res.f
            have kn : ¬ w1.heap.size = w.heap.size + 1 + 1 := by have := G9.k; omega
            have kn' : ¬ w.heap.size + 1 + 1 = w1.heap.size := by have := G9.k; omega
            refine hK _ _ ?_
            clear hK K
            refine wpAny_take (i := 12) (v := .pointer (some ⟨w1.heap.size, 1, none⟩)) rfl (by kernel_rfl) (by kernel_rfl) (by kernel_rfl) (fun _ _ _ h => h) (Or.inl ⟨by rfl, fun W => by go_simp⟩) ?_
            refine wpAny_ready (rs := [13]) (by kernel_rfl) (by simp) ?_
            refine AllReady.cons rfl (fun K hK => ?_) ?_
            · go_simp
              refine hK _ _ ?_
              clear hK K
              refine wpAny_done (by kernel_rfl) ?_ _
              go_wp2
              obtain ⟨f1, f2⟩ := hE.out w9 (.slice a9 (us.length - 1) c9') D9 hown9
              refine bodyPost_ret (v := .agg #[.int .i64 la, .slice a9 (us.length - 1) c9']) (by simp [results, Try.results15, go_sem, *]) rfl ⟨_, us.eraseIdx i, rfl, HKE.out, f1, f2⟩
            exact AllReady.nil
          exact AllReady.nil
        exact AllReady.nil
      exact AllReady.nil
    exact AllReady.nil
  exact AllReady.nil

end Go.Proofs.Ytfcobpaaeijkoaa

namespace Go.Proofs.Ytfcobpaaeijkoaa
open Go.RowKit

theorem first_or (ts : List Hd) (nm : ByteArray) : NoneTo ts nm ts.length ∨ ∃ (i : Nat) (s : Hd), ts[i]? = some s ∧ s.nm = nm ∧ NoneTo ts nm i := by
  have h : ∀ n, n ≤ ts.length → NoneTo ts nm n ∨ ∃ (i : Nat) (s : Hd), ts[i]? = some s ∧ s.nm = nm ∧ NoneTo ts nm i := by
    intro n
    induction n with
    | zero => exact fun _ => Or.inl (fun j u hj _ => absurd hj (Nat.not_lt_zero j))
    | succ n ih =>
      intro hn
      rcases ih (by omega) with h | h
      · have hg : ts[n]? = some ts[n] := List.getElem?_eq_getElem (by omega)
        by_cases e : (ts[n]).nm = nm
        · exact Or.inr ⟨n, ts[n], hg, e, h⟩
        · exact Or.inl (first_step h hg e)
      · exact Or.inr h
  exact h _ (Nat.le_refl _)
theorem linkHearS_any (la : Int) (a : Option Addr) (b o cap : Nat) (ts : List Hd) (t : Wd) (w : World) (hl : ts.length ≤ 1048576) (hsm : ∀ t ∈ ts, t.p.l.length ≤ 1048576 ∧ t.x.l.length ≤ 1048576) (hs : HdsAt w a b o ts) :
    Calls Try.prog 15 #[.agg #[.int .i64 la, .slice a ts.length cap], t.val] w
      fun e w' => ∃ (v : Value) (us : List Hd), e = .returned (.agg #[.int .i64 la, v]) ∧ us.map Hd.key = hearK (ts.map Hd.key) t.k t.nm t.n ∧ BkOwn w' w.heap.size v us ∧ Below w.heap.size w w' := by
  rcases first_or ts t.nm with hf | ⟨i, s, hsi, hsn, hf⟩
  · rw [hearK_none hf]
    exact hearS_none la a b o cap ts t w hl hsm hs hf
  · rw [hearK_some hsi hsn hf]
    have hsent : sentB s.key t.n = (decide (0 < s.sn) && (t.n == s.sn)) := by
      show (decide (0 < s.sn) && (s.sn == t.n)) = _
      rw [Bool.beq_comm (a := s.sn)]
    have hnb : (t.n == s.key.2.1) = (t.n == s.n) := rfl
    unfold hearAt
    rw [hsent, hnb]
    by_cases k6 : t.k = 6
    · rw [if_pos k6]
      have k6' : (t.k == 6) = true := by simp [k6]
      cases q1 : (t.n == s.n) with
      | true =>
        rw [Bool.true_or, if_pos rfl]
        exact hearS_era1 la a b o cap ts t w hl hsm hs i s hsi hsn hf k6' q1
      | false =>
        rw [Bool.false_or]
        cases q2 : (t.n == s.sn) with
        | true =>
          by_cases sg : 0 < s.sn
          · rw [decide_eq_true sg, Bool.and_self, if_pos rfl]
            exact hearS_era2 la a b o cap ts t w hl hsm hs i s hsi hsn hf k6' q1 q2 sg
          · rw [decide_eq_false sg, Bool.false_and, if_neg (by decide)]
            exact hearS_keep6_3 la a b o cap ts t w hl hsm hs i s hsi hsn hf k6' q1 q2 (by omega)
        | false =>
          rw [Bool.and_false, if_neg (by decide)]
          by_cases sg : 0 < s.sn
          · exact hearS_keep6_2 la a b o cap ts t w hl hsm hs i s hsi hsn hf k6' q1 q2 sg
          · exact hearS_keep6_1 la a b o cap ts t w hl hsm hs i s hsi hsn hf k6' q1 q2 (by omega)
    · rw [if_neg k6]
      have k6' : (t.k == 6) = false := beq_eq_false_iff_ne.2 k6
      by_cases sg : 0 < s.sn
      · rw [decide_eq_true sg, Bool.true_and]
        cases q2 : (t.n == s.sn) with
        | false =>
          have e := hearS_keepx_2 la a b o cap ts t w hl hsm hs i s hsi hsn hf k6' q2 sg
          simpa using e
        | true =>
          rw [if_pos rfl, if_pos rfl]
          by_cases k3 : t.k = 3
          · rw [if_pos (Or.inl k3)]
            exact hearS_took3 la a b o cap ts t w hl hsm hs i s hsi hsn hf k6' (by simp [k3]) q2 sg
          · by_cases k5 : t.k = 5
            · rw [if_pos (Or.inr k5)]
              exact hearS_took5 la a b o cap ts t w hl hsm hs i s hsi hsn hf k6' (beq_eq_false_iff_ne.2 k3) (by simp [k5]) q2 sg
            · rw [if_neg (by simp [k3, k5])]
              by_cases k4 : t.k = 4
              · rw [if_pos k4]
                exact hearS_ref la a b o cap ts t w hl hsm hs i s hsi hsn hf k6' (beq_eq_false_iff_ne.2 k3) (beq_eq_false_iff_ne.2 k5) (by simp [k4]) q2 sg
              · rw [if_neg k4]
                exact hearS_same la a b o cap ts t w hl hsm hs i s hsi hsn hf k6' (beq_eq_false_iff_ne.2 k3) (beq_eq_false_iff_ne.2 k5) (beq_eq_false_iff_ne.2 k4) q2 sg
      · rw [decide_eq_false sg, Bool.false_and]
        have e := hearS_keepx_1 la a b o cap ts t w hl hsm hs i s hsi hsn hf k6' (by omega)
        simpa using e
end Go.Proofs.Ytfcobpaaeijkoaa

namespace Go.Proofs.Ytfcobpaaeijkoaa
open Go.RowKit

theorem erase_tot : ∀ (ks : List HKey) (i : Nat), totK (ks.eraseIdx i) ≤ totK ks
  | [], _ => by simp
  | k :: ks, 0 => by simp only [List.eraseIdx_cons_zero, totK]; omega
  | k :: ks, i + 1 => by
    have := erase_tot ks i
    simp only [List.eraseIdx_cons_succ, totK]
    omega
theorem set_tot {k k' : HKey} (h : k'.2.2.1.2.2.2.2.length + k'.2.2.2.2.2.2.2.2.length ≤ k.2.2.1.2.2.2.2.length + k.2.2.2.2.2.2.2.2.length) : ∀ (ks : List HKey) (i : Nat), ks[i]? = some k → totK (ks.set i k') ≤ totK ks
  | [], i, hi => by simp at hi
  | q :: ks, 0, hi => by
    simp only [List.getElem?_cons_zero, Option.some.injEq] at hi
    subst hi
    simp only [List.set_cons_zero, totK]
    omega
  | q :: ks, i + 1, hi => by
    have := set_tot h ks i (by simpa using hi)
    simp only [List.set_cons_succ, totK]
    omega
theorem small_set {ks : List HKey} {i : Nat} {k' : HKey} (hs : smallK ks) (h : k'.2.2.1.2.2.2.2.length ≤ 1048576 ∧ k'.2.2.2.2.2.2.2.2.length ≤ 1048576) : smallK (ks.set i k') := fun q hq => by
  rcases List.mem_or_eq_of_mem_set hq with hq | rfl
  · exact hs q hq
  · exact h
theorem small_erase {ks : List HKey} {i : Nat} (hs : smallK ks) : smallK (ks.eraseIdx i) := fun q hq => hs q (List.mem_of_mem_eraseIdx hq)
/-- A list of keys that is no greater than another. -/
structure LessK (ks' ks : List HKey) : Prop where
  len : ks'.length ≤ ks.length
  small : smallK ks → smallK ks'
  tot : totK ks' ≤ totK ks
theorem LessK.refl (ks : List HKey) : LessK ks ks := ⟨Nat.le_refl _, id, Nat.le_refl _⟩
theorem LessK.erase (ks : List HKey) (i : Nat) : LessK (ks.eraseIdx i) ks := ⟨(List.eraseIdx_sublist ks i).length_le, small_erase, erase_tot ks i⟩
theorem LessK.took {ks : List HKey} {i : Nat} {h : HKey} (hi : ks[i]? = some h) : LessK (ks.set i (tookK h)) ks :=
  ⟨by rw [List.length_set]; exact Nat.le_refl _, fun hs => small_set hs ⟨(hs h (List.mem_of_getElem? hi)).2, by simp [tookK, noKey]⟩, set_tot (by simp [tookK, noKey]) ks i hi⟩
theorem LessK.ref {ks : List HKey} {i : Nat} {h : HKey} (hi : ks[i]? = some h) : LessK (ks.set i (refK h)) ks :=
  ⟨by rw [List.length_set]; exact Nat.le_refl _, fun hs => small_set hs ⟨(hs h (List.mem_of_getElem? hi)).1, by simp [refK, noKey]⟩, set_tot (by simp [refK, noKey]) ks i hi⟩
theorem hear_less (ks : List HKey) (k : Int) (nm : ByteArray) (n : Int) : LessK (hearK ks k nm n) ks := by
  unfold hearK
  split
  · exact LessK.refl _
  · split
    · exact LessK.refl _
    · rename_i h hi
      unfold hearAt
      repeat' split
      all_goals first
        | exact LessK.refl _
        | exact LessK.erase _ _
        | exact LessK.took hi
        | exact LessK.ref hi
end Go.Proofs.Ytfcobpaaeijkoaa

namespace Go.Proofs.Ytfcobpaaeijkoaa
open Go.RowKit

structure TwoX (w w0 V : World) (A B : Array Value) : Prop where
  old : Below w.heap.size w V
  now : Below w0.heap.size w0 V
  one : Bx V w.heap.size A
  two : Bx V (w.heap.size + 1) B
theorem TwoX.keep {w w0 V V' : World} {A B : Array Value} (h : TwoX w w0 V A B) (hb : Below V.heap.size V V') : TwoX w w0 V' A B := ⟨h.old.trans (hb.mono h.old.size), h.now.trans (hb.mono h.now.size), h.one.keep hb, h.two.keep hb⟩
structure TwoB (w w0 V : World) (A B : Array Value) (K : Nat) (C : Array Value) : Prop where
  both : TwoX w w0 V A B
  box : Bx V K C
  k : w.heap.size + 1 < K
  k0 : w0.heap.size ≤ K
theorem TwoB.keep {w w0 V V' : World} {A B C : Array Value} {K : Nat} (h : TwoB w w0 V A B K C) (hb : Below V.heap.size V V') : TwoB w w0 V' A B K C := ⟨h.both.keep hb, h.box.keep hb, h.k, h.k0⟩
theorem TwoB.new {w w0 V : World} {A B : Array Value} (h : TwoX w w0 V A B) (C : Array Value) (T : TypeId) : TwoB w w0 (V.alloc (.cells C T)) A B V.heap.size C := ⟨h.keep (bel1 _), Bx.new V C T, h.two.lt, h.now.size⟩
theorem TwoB.put {w w0 V : World} {A B C : Array Value} {K : Nat} (h : TwoB w w0 V A B K C) (j : Nat) (v : Value) : TwoB w w0 (V.setCell ⟨K, j, none⟩ v) A B K (C.setIfInBounds j v) := by
  have hk := h.k
  exact ⟨⟨h.both.old.setCell (by show _ ≤ K; omega) _, h.both.now.setCell h.k0 _, bx_other h.both.one (by omega) j v, bx_other h.both.two (by omega) j v⟩, bx_set h.box j v, h.k, h.k0⟩
theorem box2 {V : World} {K : Nat} {a b : Value} (h : Bx V K #[a, b]) : V.cell? ⟨K, 0, none⟩ = some a ∧ V.cell? ⟨K, 1, none⟩ = some b := ⟨h.c 0, h.c 1⟩
theorem iv_set (V : World) (K j : Nat) (v : Value) : Iv K (K + 1) V (V.setCell ⟨K, j, none⟩ v) := Iv.of (S := [K]) (Spared.grown (grown_set V ⟨K, j, none⟩ v) (by simp)) (fun k hk => by simp at hk; omega)
end Go.Proofs.Ytfcobpaaeijkoaa

namespace Go.Proofs.Ytfcobpaaeijkoaa
open Go.RowKit

set_option maxHeartbeats 1000000 in
theorem hearLaw_big0 (t : Bk) (u : Wd) (w : World) (hnt : t.ts.length ≤ maxLen) (htt : ∀ u ∈ t.ts, u.nm.size ≤ maxLen ∧ u.p.l.length ≤ maxLen ∧ u.x.l.length ≤ maxLen) (_hnu : u.nm.size ≤ maxLen) (_hbu : u.p.l.length ≤ maxLen) (ht : BkAt w t) (_hu : PtAt w u.p)   (hbig : leftHs 1048576 t.ts < 0) :
    Calls Try.prog 4 #[.agg #[.int .i64 t.la, .slice t.a t.ts.length t.cap], .agg #[.int .i64 u.k, .string u.nm, .int .i64 u.n, .int .i64 u.p.q, .int .i64 u.p.s, .slice u.p.a u.p.l.length u.p.cap, .int .i64 u.p.fr, .int .i64 u.p.b]] w fun e w' => e = .returned (.bool true) ∧ Below w.heap.size w w' := by
  obtain ⟨W0, hW0⟩ : ∃ W0, (w.alloc (.cells #[.int .i64 t.la, .slice t.a t.ts.length t.cap] 24)).alloc (.cells #[.int .i64 u.k, .string u.nm, .int .i64 u.n, .int .i64 u.p.q, .int .i64 u.p.s, .slice u.p.a u.p.l.length u.p.cap, .int .i64 u.p.fr, .int .i64 u.p.b] 49) = W0 := ⟨_, rfl⟩
  have B_0 : Below w.heap.size w W0 := by rw [← hW0]; repeat (first | exact Below.refl _ _ | refine Below.alloc ?_ (by simp <;> omega) _)
  have zW0 : w.heap.size + 2 ≤ W0.heap.size := by rw [← hW0]; simp
  have Tt_0 : Bx W0 w.heap.size #[.int .i64 t.la, .slice t.a t.ts.length t.cap] := by rw [← hW0]; exact (Bx.new (w) #[.int .i64 t.la, .slice t.a t.ts.length t.cap] 24).keep (bel1 (.cells #[.int .i64 u.k, .string u.nm, .int .i64 u.n, .int .i64 u.p.q, .int .i64 u.p.s, .slice u.p.a u.p.l.length u.p.cap, .int .i64 u.p.fr, .int .i64 u.p.b] 49))
  have Tu_0 : Bx W0 (w.heap.size + 1) #[.int .i64 u.k, .string u.nm, .int .i64 u.n, .int .i64 u.p.q, .int .i64 u.p.s, .slice u.p.a u.p.l.length u.p.cap, .int .i64 u.p.fr, .int .i64 u.p.b] := by rw [← hW0]; have h := Bx.new (w.alloc (.cells #[.int .i64 t.la, .slice t.a t.ts.length t.cap] 24)) #[.int .i64 u.k, .string u.nm, .int .i64 u.n, .int .i64 u.p.q, .int .i64 u.p.s, .slice u.p.a u.p.l.length u.p.cap, .int .i64 u.p.fr, .int .i64 u.p.b] 49; simpa using h
  go_enter Try.func4, Try.ntmps4
  have c0 : W0.cell? ⟨w.heap.size, 0, none⟩ = some (.int .i64 t.la) := Tt_0.c 0
  have c1 : W0.cell? ⟨w.heap.size, 1, none⟩ = some (.slice t.a t.ts.length t.cap) := Tt_0.c 1
  go_wp2_with fail
  refine (szBook_any t _ _ hnt htt (by omega) (by omega) (ht.below B_0)).mono ?_
  rintro e s0 ⟨rfl, hb⟩
  clear c0 c1
  clear hW0
  have Tt_1 := Tt_0.keep hb
  have Tu_1 := Tu_0.keep hb
  have B_1 := B_0.trans (hb.mono B_0.size)
  clear Tt_0 Tu_0 B_0
  clear hb
  go_wp2
  go_ret
  exact ⟨rfl, B_1⟩

set_option maxHeartbeats 1000000 in
theorem hearLaw_big1 (t : Bk) (u : Wd) (w : World) (hnt : t.ts.length ≤ maxLen) (htt : ∀ u ∈ t.ts, u.nm.size ≤ maxLen ∧ u.p.l.length ≤ maxLen ∧ u.x.l.length ≤ maxLen) (hnu : u.nm.size ≤ maxLen) (hbu : u.p.l.length ≤ maxLen) (ht : BkAt w t) (_hu : PtAt w u.p)  (hsmt : ¬ leftHs 1048576 t.ts < 0) (hbig : leftN (leftHs 1048576 t.ts) u.nm.size u.p.l.length < 0) :
    Calls Try.prog 4 #[.agg #[.int .i64 t.la, .slice t.a t.ts.length t.cap], .agg #[.int .i64 u.k, .string u.nm, .int .i64 u.n, .int .i64 u.p.q, .int .i64 u.p.s, .slice u.p.a u.p.l.length u.p.cap, .int .i64 u.p.fr, .int .i64 u.p.b]] w fun e w' => e = .returned (.bool true) ∧ Below w.heap.size w w' := by
  obtain ⟨hlt, hst, hmt, hlot, hhit⟩ := tot_book (left := 1048576) (ts := t.ts) (by omega) (by omega) hsmt
  obtain ⟨W0, hW0⟩ : ∃ W0, (w.alloc (.cells #[.int .i64 t.la, .slice t.a t.ts.length t.cap] 24)).alloc (.cells #[.int .i64 u.k, .string u.nm, .int .i64 u.n, .int .i64 u.p.q, .int .i64 u.p.s, .slice u.p.a u.p.l.length u.p.cap, .int .i64 u.p.fr, .int .i64 u.p.b] 49) = W0 := ⟨_, rfl⟩
  have B_0 : Below w.heap.size w W0 := by rw [← hW0]; repeat (first | exact Below.refl _ _ | refine Below.alloc ?_ (by simp <;> omega) _)
  have zW0 : w.heap.size + 2 ≤ W0.heap.size := by rw [← hW0]; simp
  have Tt_0 : Bx W0 w.heap.size #[.int .i64 t.la, .slice t.a t.ts.length t.cap] := by rw [← hW0]; exact (Bx.new (w) #[.int .i64 t.la, .slice t.a t.ts.length t.cap] 24).keep (bel1 (.cells #[.int .i64 u.k, .string u.nm, .int .i64 u.n, .int .i64 u.p.q, .int .i64 u.p.s, .slice u.p.a u.p.l.length u.p.cap, .int .i64 u.p.fr, .int .i64 u.p.b] 49))
  have Tu_0 : Bx W0 (w.heap.size + 1) #[.int .i64 u.k, .string u.nm, .int .i64 u.n, .int .i64 u.p.q, .int .i64 u.p.s, .slice u.p.a u.p.l.length u.p.cap, .int .i64 u.p.fr, .int .i64 u.p.b] := by rw [← hW0]; have h := Bx.new (w.alloc (.cells #[.int .i64 t.la, .slice t.a t.ts.length t.cap] 24)) #[.int .i64 u.k, .string u.nm, .int .i64 u.n, .int .i64 u.p.q, .int .i64 u.p.s, .slice u.p.a u.p.l.length u.p.cap, .int .i64 u.p.fr, .int .i64 u.p.b] 49; simpa using h
  go_enter Try.func4, Try.ntmps4
  have c0 : W0.cell? ⟨w.heap.size, 0, none⟩ = some (.int .i64 t.la) := Tt_0.c 0
  have c1 : W0.cell? ⟨w.heap.size, 1, none⟩ = some (.slice t.a t.ts.length t.cap) := Tt_0.c 1
  go_wp2_with fail
  refine (szBook_any t _ _ hnt htt (by omega) (by omega) (ht.below B_0)).mono ?_
  rintro e s0 ⟨rfl, hb⟩
  clear c0 c1
  clear hW0
  have Tt_1 := Tt_0.keep hb
  have Tu_1 := Tu_0.keep hb
  have B_1 := B_0.trans (hb.mono B_0.size)
  clear Tt_0 Tu_0 B_0
  clear hb
  have c0 : s0.cell? ⟨w.heap.size + 1, 0, none⟩ = some (.int .i64 u.k) := Tu_1.c 0
  have c1 : s0.cell? ⟨w.heap.size + 1, 1, none⟩ = some (.string u.nm) := Tu_1.c 1
  have c2 : s0.cell? ⟨w.heap.size + 1, 2, none⟩ = some (.int .i64 u.n) := Tu_1.c 2
  have c3 : s0.cell? ⟨w.heap.size + 1, 3, none⟩ = some (.int .i64 u.p.q) := Tu_1.c 3
  have c4 : s0.cell? ⟨w.heap.size + 1, 4, none⟩ = some (.int .i64 u.p.s) := Tu_1.c 4
  have c5 : s0.cell? ⟨w.heap.size + 1, 5, none⟩ = some (.slice u.p.a u.p.l.length u.p.cap) := Tu_1.c 5
  have c6 : s0.cell? ⟨w.heap.size + 1, 6, none⟩ = some (.int .i64 u.p.fr) := Tu_1.c 6
  have c7 : s0.cell? ⟨w.heap.size + 1, 7, none⟩ = some (.int .i64 u.p.b) := Tu_1.c 7
  go_wp2_with fail
  refine (szWord_any u _ _ hnu hbu hlot hhit).mono ?_
  rintro e s1 ⟨rfl, hb⟩
  clear c0 c1 c2 c3 c4 c5 c6 c7
  have Tt_2 := Tt_1.keep hb
  have Tu_2 := Tu_1.keep hb
  have B_2 := B_1.trans (hb.mono B_1.size)
  clear Tt_1 Tu_1 B_1
  clear hb
  go_wp2
  go_ret
  exact ⟨rfl, B_2⟩

theorem hear_cells {t : Bk} {u : Wd} {w w0 w' : World} (h : TwoX w w0 w' #[.int .i64 t.la, .slice t.a t.ts.length t.cap] #[.int .i64 u.k, .string u.nm, .int .i64 u.n, .int .i64 u.p.q, .int .i64 u.p.s, .slice u.p.a u.p.l.length u.p.cap, .int .i64 u.p.fr, .int .i64 u.p.b]) : w'.cell? ⟨w.heap.size, 0, none⟩ = some (.int .i64 t.la) ∧ w'.cell? ⟨w.heap.size, 1, none⟩ = some (.slice t.a t.ts.length t.cap) ∧ w'.cell? ⟨w.heap.size + 1, 0, none⟩ = some (.int .i64 u.k) ∧ w'.cell? ⟨w.heap.size + 1, 1, none⟩ = some (.string u.nm) ∧ w'.cell? ⟨w.heap.size + 1, 2, none⟩ = some (.int .i64 u.n) ∧ w'.cell? ⟨w.heap.size + 1, 3, none⟩ = some (.int .i64 u.p.q) ∧ w'.cell? ⟨w.heap.size + 1, 4, none⟩ = some (.int .i64 u.p.s) ∧ w'.cell? ⟨w.heap.size + 1, 5, none⟩ = some (.slice u.p.a u.p.l.length u.p.cap) ∧ w'.cell? ⟨w.heap.size + 1, 6, none⟩ = some (.int .i64 u.p.fr) ∧ w'.cell? ⟨w.heap.size + 1, 7, none⟩ = some (.int .i64 u.p.b) := ⟨h.one.c 0, h.one.c 1, h.two.c 0, h.two.c 1, h.two.c 2, h.two.c 3, h.two.c 4, h.two.c 5, h.two.c 6, h.two.c 7⟩
theorem hear_box {V : World} {K : Nat} {a0 a1 : Value} (h : Bx V K #[a0, a1]) : V.cell? ⟨K, 0, none⟩ = some a0 ∧ V.cell? ⟨K, 1, none⟩ = some a1 := ⟨h.c 0, h.c 1⟩
set_option maxRecDepth 20000 in
set_option maxHeartbeats 8000000 in
theorem hearLaw_any (t : Bk) (u : Wd) (w : World)  (hnt : t.ts.length ≤ maxLen) (htt : ∀ u ∈ t.ts, u.nm.size ≤ maxLen ∧ u.p.l.length ≤ maxLen ∧ u.x.l.length ≤ maxLen) (hnu : u.nm.size ≤ maxLen) (hbu : u.p.l.length ≤ maxLen) (ht : BkAt w t) (hu : PtAt w u.p)  (hsmt : ¬ leftHs 1048576 t.ts < 0) (hsmu : ¬ leftN (leftHs 1048576 t.ts) u.nm.size u.p.l.length < 0) :
    Calls Try.prog 4 #[.agg #[.int .i64 t.la, .slice t.a t.ts.length t.cap], .agg #[.int .i64 u.k, .string u.nm, .int .i64 u.n, .int .i64 u.p.q, .int .i64 u.p.s, .slice u.p.a u.p.l.length u.p.cap, .int .i64 u.p.fr, .int .i64 u.p.b]] w fun e w' => e = .returned (.bool true) ∧ Below w.heap.size w w' := by
  obtain ⟨hlt, hst, hmt, hlot, hhit⟩ := tot_book (left := 1048576) (ts := t.ts) (by omega) (by omega) hsmt
  have hlu : u.p.l.length ≤ 1048576 := leftN_small (left := (leftHs 1048576 t.ts)) (z := u.nm.size) (by omega) (by omega)
  obtain ⟨hlou, hhiu⟩ := leftN_left ((leftHs 1048576 t.ts)) u.nm.size u.p.l.length (by omega)
  have hless := hear_less (t.ts.map Hd.key) u.k u.nm u.n
  have hlr : (hearK (t.ts.map Hd.key) u.k u.nm u.n).length ≤ 1048576 := by have := hless.len; rw [List.length_map] at this; omega
  have hsr : smallK (hearK (t.ts.map Hd.key) u.k u.nm u.n) := hless.small (fun k hk => by obtain ⟨q, hq, rfl⟩ := List.mem_map.1 hk; exact hst q hq)
  have htr : (totK (hearK (t.ts.map Hd.key) u.k u.nm u.n) : Int) ≤ 20000000 := by have := hless.tot; rw [totK_of] at this; omega
  clear hless
  have hSp : ∀ (gt hit gu hiu : Nat) (W : World), BkPut W gt hit t.ts → StPut W gu hiu u.p.l → Calls Try.prog 15 #[.agg #[.int .i64 t.la, .slice (some ⟨gt, 0, none⟩) t.ts.length t.ts.length], .agg #[.int .i64 u.k, .string u.nm, .int .i64 u.n, .int .i64 u.p.q, .int .i64 u.p.s, .slice (some ⟨gu, 0, none⟩) u.p.l.length u.p.l.length, .int .i64 u.p.fr, .int .i64 u.p.b]] W fun e w' => ∃ a0 c0, e = .returned (.agg #[.int .i64 t.la, .slice a0 (hearK (t.ts.map Hd.key) u.k u.nm u.n).length c0]) ∧ BkAns w' W.heap.size w'.heap.size (.slice a0 (hearK (t.ts.map Hd.key) u.k u.nm u.n).length c0) (hearK (t.ts.map Hd.key) u.k u.nm u.n) ∧ Below W.heap.size W w' := by
    intro gt hit gu hiu W hp hq
    obtain ⟨us, h1, _⟩ := hp.it
    have hc := linkHearS_any t.la (some ⟨gt, 0, none⟩) gt 0 t.ts.length us (u.put gu) W (by rw [h1.len]; exact hlt) (fun u hu => h1.copied.small hst u hu)  h1.rows
    rw [h1.len, h1.copied.keys] at hc
    refine hc.mono ?_
    rintro e w' ⟨v, vs, rfl, hk, ho, hb⟩
    have ha := BkAns.of ho
    rw [hk] at ha
    obtain ⟨x, c, rfl⟩ := ha.slice
    exact ⟨x, c, rfl, ha, hb⟩
  have hIm : ∀ (gt hit gu hiu : Nat) (W : World), BkPut W gt hit t.ts → StPut W gu hiu u.p.l → Calls Try.prog 17 #[.agg #[.int .i64 t.la, .slice (some ⟨gt, 0, none⟩) t.ts.length t.ts.length], .agg #[.int .i64 u.k, .string u.nm, .int .i64 u.n, .int .i64 u.p.q, .int .i64 u.p.s, .slice (some ⟨gu, 0, none⟩) u.p.l.length u.p.l.length, .int .i64 u.p.fr, .int .i64 u.p.b]] W fun e w' => ∃ a0 c0, e = .returned (.agg #[.int .i64 t.la, .slice a0 (hearK (t.ts.map Hd.key) u.k u.nm u.n).length c0]) ∧ BkAns w' W.heap.size w'.heap.size (.slice a0 (hearK (t.ts.map Hd.key) u.k u.nm u.n).length c0) (hearK (t.ts.map Hd.key) u.k u.nm u.n) ∧ Below W.heap.size W w' := by
    intro gt hit gu hiu W hp hq
    obtain ⟨us, h1, _⟩ := hp.it
    have hc := linkHearI_any t.la (some ⟨gt, 0, none⟩) gt 0 t.ts.length us (u.put gu) W (by rw [h1.len]; exact hlt) (fun u hu => h1.copied.small hst u hu) (fun u hu => by
      obtain ⟨i, hi⟩ := List.mem_iff_getElem?.1 hu
      have hil : i < t.ts.length := by have := (List.getElem?_eq_some_iff.1 hi).1; have := h1.len; omega
      obtain ⟨a, b, e⟩ := h1.copied.at_ i t.ts[i] (List.getElem?_eq_getElem hil)
      rw [hi] at e
      cases e
      exact ⟨rfl, rfl⟩) h1.rows
    rw [h1.len, h1.copied.keys] at hc
    refine hc.mono ?_
    rintro e w' ⟨v, vs, rfl, hk, ho, hb⟩
    have ha := BkAns.of ho
    rw [hk] at ha
    obtain ⟨x, c, rfl⟩ := ha.slice
    exact ⟨x, c, rfl, ha, hb⟩
  generalize hearK (t.ts.map Hd.key) u.k u.nm u.n = r at *
  obtain ⟨W0, hW0⟩ : ∃ W0, (w.alloc (.cells #[.int .i64 t.la, .slice t.a t.ts.length t.cap] 24)).alloc (.cells #[.int .i64 u.k, .string u.nm, .int .i64 u.n, .int .i64 u.p.q, .int .i64 u.p.s, .slice u.p.a u.p.l.length u.p.cap, .int .i64 u.p.fr, .int .i64 u.p.b] 49) = W0 := ⟨_, rfl⟩
  have B_0 : Below w.heap.size w W0 := by rw [← hW0]; repeat (first | exact Below.refl _ _ | refine Below.alloc ?_ (by simp <;> omega) _)
  have zW0 : w.heap.size + 2 ≤ W0.heap.size := by rw [← hW0]; simp
  have Tt_0 : Bx W0 w.heap.size #[.int .i64 t.la, .slice t.a t.ts.length t.cap] := by rw [← hW0]; exact (Bx.new (w) #[.int .i64 t.la, .slice t.a t.ts.length t.cap] 24).keep (bel1 (.cells #[.int .i64 u.k, .string u.nm, .int .i64 u.n, .int .i64 u.p.q, .int .i64 u.p.s, .slice u.p.a u.p.l.length u.p.cap, .int .i64 u.p.fr, .int .i64 u.p.b] 49))
  have Tu_0 : Bx W0 (w.heap.size + 1) #[.int .i64 u.k, .string u.nm, .int .i64 u.n, .int .i64 u.p.q, .int .i64 u.p.s, .slice u.p.a u.p.l.length u.p.cap, .int .i64 u.p.fr, .int .i64 u.p.b] := by rw [← hW0]; have h := Bx.new (w.alloc (.cells #[.int .i64 t.la, .slice t.a t.ts.length t.cap] 24)) #[.int .i64 u.k, .string u.nm, .int .i64 u.n, .int .i64 u.p.q, .int .i64 u.p.s, .slice u.p.a u.p.l.length u.p.cap, .int .i64 u.p.fr, .int .i64 u.p.b] 49; simpa using h
  go_enter Try.func4, Try.ntmps4
  have c0 : W0.cell? ⟨w.heap.size, 0, none⟩ = some (.int .i64 t.la) := Tt_0.c 0
  have c1 : W0.cell? ⟨w.heap.size, 1, none⟩ = some (.slice t.a t.ts.length t.cap) := Tt_0.c 1
  go_wp2_with fail
  refine (szBook_any t _ _ hnt htt (by omega) (by omega) (ht.below B_0)).mono ?_
  rintro e s0 ⟨rfl, hb⟩
  clear c0 c1
  clear hW0
  have Tt_1 := Tt_0.keep hb
  have Tu_1 := Tu_0.keep hb
  have B_1 := B_0.trans (hb.mono B_0.size)
  clear Tt_0 Tu_0 B_0
  clear hb
  have c0 : s0.cell? ⟨w.heap.size + 1, 0, none⟩ = some (.int .i64 u.k) := Tu_1.c 0
  have c1 : s0.cell? ⟨w.heap.size + 1, 1, none⟩ = some (.string u.nm) := Tu_1.c 1
  have c2 : s0.cell? ⟨w.heap.size + 1, 2, none⟩ = some (.int .i64 u.n) := Tu_1.c 2
  have c3 : s0.cell? ⟨w.heap.size + 1, 3, none⟩ = some (.int .i64 u.p.q) := Tu_1.c 3
  have c4 : s0.cell? ⟨w.heap.size + 1, 4, none⟩ = some (.int .i64 u.p.s) := Tu_1.c 4
  have c5 : s0.cell? ⟨w.heap.size + 1, 5, none⟩ = some (.slice u.p.a u.p.l.length u.p.cap) := Tu_1.c 5
  have c6 : s0.cell? ⟨w.heap.size + 1, 6, none⟩ = some (.int .i64 u.p.fr) := Tu_1.c 6
  have c7 : s0.cell? ⟨w.heap.size + 1, 7, none⟩ = some (.int .i64 u.p.b) := Tu_1.c 7
  go_wp2_with fail
  refine (szWord_any u _ _ hnu hbu hlot hhit).mono ?_
  rintro e s1 ⟨rfl, hb⟩
  clear c0 c1 c2 c3 c4 c5 c6 c7
  have Tt_2 := Tt_1.keep hb
  have Tu_2 := Tu_1.keep hb
  have B_2 := B_1.trans (hb.mono B_1.size)
  clear Tt_1 Tu_1 B_1
  clear hb
  generalize leftN (leftHs 1048576 t.ts) u.nm.size u.p.l.length = leftu at hsmu hlou hhiu ⊢
  have M2 : TwoX w s1 s1.drew #[.int .i64 t.la, .slice t.a t.ts.length t.cap] #[.int .i64 u.k, .string u.nm, .int .i64 u.n, .int .i64 u.p.q, .int .i64 u.p.s, .slice u.p.a u.p.l.length u.p.cap, .int .i64 u.p.fr, .int .i64 u.p.b] := TwoX.keep (w0 := s1) ⟨B_2, Below.refl _ _, Tt_2, Tu_2⟩ ((Below.refl _ _).drew)
  have MC : TwoB w s1 (s1.alloc (.cells #[.int .i64 0, .slice none 0 0] 37)).drew #[.int .i64 t.la, .slice t.a t.ts.length t.cap] #[.int .i64 u.k, .string u.nm, .int .i64 u.n, .int .i64 u.p.q, .int .i64 u.p.s, .slice u.p.a u.p.l.length u.p.cap, .int .i64 u.p.fr, .int .i64 u.p.b] s1.heap.size #[.int .i64 0, .slice none 0 0] := (TwoB.new (w0 := s1) ⟨B_2, Below.refl _ _, Tt_2, Tu_2⟩ #[.int .i64 0, .slice none 0 0] 37).keep ((Below.refl _ _).drew)
  have MA := MC.both
  have c0 : s1.cell? ⟨w.heap.size, 0, none⟩ = some (.int .i64 t.la) := Tt_2.c 0
  have c1 : s1.cell? ⟨w.heap.size, 1, none⟩ = some (.slice t.a t.ts.length t.cap) := Tt_2.c 1
  have d0 : s1.cell? ⟨w.heap.size + 1, 0, none⟩ = some (.int .i64 u.k) := Tu_2.c 0
  have d1 : s1.cell? ⟨w.heap.size + 1, 1, none⟩ = some (.string u.nm) := Tu_2.c 1
  have d2 : s1.cell? ⟨w.heap.size + 1, 2, none⟩ = some (.int .i64 u.n) := Tu_2.c 2
  have d3 : s1.cell? ⟨w.heap.size + 1, 3, none⟩ = some (.int .i64 u.p.q) := Tu_2.c 3
  have d4 : s1.cell? ⟨w.heap.size + 1, 4, none⟩ = some (.int .i64 u.p.s) := Tu_2.c 4
  have d5 : s1.cell? ⟨w.heap.size + 1, 5, none⟩ = some (.slice u.p.a u.p.l.length u.p.cap) := Tu_2.c 5
  have d6 : s1.cell? ⟨w.heap.size + 1, 6, none⟩ = some (.int .i64 u.p.fr) := Tu_2.c 6
  have d7 : s1.cell? ⟨w.heap.size + 1, 7, none⟩ = some (.int .i64 u.p.b) := Tu_2.c 7
  go_wp2
  rename_i K1 hK1
  have REST1 : ∀ {x0 x1 x4 x5 x7 x8 x9 x10 x11 x12 x13 x14 x15 x16 x17 x18 x19 x20 x21 x22 x23 x24 x25 x26 x27 x28 x29 x30 x31 x32 x33 x34 x35 x36 x37 x38 x39 x40 x41 x42 x43 x44 x45 x46 x47 x48 x49 x50 x51 x52 x53 x54 x55 x56 x57 x58 x59 x60 x61 x62 x63 x64 x65 x66 x67 x68 x69 x70 x71 x72 x73 x74 x75 x76 x77 x78 x79 x80 x81 x82 x83 x84 x85 x86 x87 x88 x89 x90 x91 : Value} {Ks cs0 lo1 hi1 : Nat} {as0 : Option Addr} {V1 : World}, TwoB w s1 V1 #[.int .i64 t.la, .slice t.a t.ts.length t.cap] #[.int .i64 u.k, .string u.nm, .int .i64 u.n, .int .i64 u.p.q, .int .i64 u.p.s, .slice u.p.a u.p.l.length u.p.cap, .int .i64 u.p.fr, .int .i64 u.p.b] Ks #[.int .i64 t.la, .slice as0 r.length cs0] → BkAns V1 lo1 hi1 (.slice as0 r.length cs0) r → w.heap.size + 1 < lo1 → hi1 ≤ V1.heap.size → (Ks < lo1 ∨ hi1 ≤ Ks) → K1 ⟨#[x0, x1, .pointer (some ⟨w.heap.size, 0, none⟩), .pointer (some ⟨w.heap.size + 1, 0, none⟩), x4, x5, .pointer (some ⟨Ks, 0, none⟩), x7, x8, x9, x10, x11, x12, x13, x14, x15, x16, x17, x18, x19, x20, x21, x22, x23, x24, x25, x26, x27, x28, x29, x30, x31, x32, x33, x34, x35, x36, x37, x38, x39, x40, x41, x42, x43, x44, x45, x46, x47, x48, x49, x50, x51, x52, x53, x54, x55, x56, x57, x58, x59, x60, x61, x62, x63, x64, x65, x66, x67, x68, x69, x70, x71, x72, x73, x74, x75, x76, x77, x78, x79, x80, x81, x82, x83, x84, x85, x86, x87, x88, x89, x90, x91], []⟩ V1 := by
    intro x0 x1 x4 x5 x7 x8 x9 x10 x11 x12 x13 x14 x15 x16 x17 x18 x19 x20 x21 x22 x23 x24 x25 x26 x27 x28 x29 x30 x31 x32 x33 x34 x35 x36 x37 x38 x39 x40 x41 x42 x43 x44 x45 x46 x47 x48 x49 x50 x51 x52 x53 x54 x55 x56 x57 x58 x59 x60 x61 x62 x63 x64 x65 x66 x67 x68 x69 x70 x71 x72 x73 x74 x75 x76 x77 x78 x79 x80 x81 x82 x83 x84 x85 x86 x87 x88 x89 x90 x91 Ks cs0 lo1 hi1 as0 V1 HB RR1 zlo1 zhi1 zk1
    clear c0 c1 d0 d1 d2 d3 d4 d5 d6 d7 M2 MC MA
    refine hK1 _ _ ?_
    clear Tt_2 Tu_2 B_2
    have Tt_1 := HB.both.one
    have Tu_1 := HB.both.two
    have B_1 := HB.both.old
    have Gs0 := HB.box
    have zkl := HB.box.lt
    have ztt := Tt_1.lt
    have ztu := Tu_1.lt
    clear HB
    have c0 : V1.cell? ⟨w.heap.size, 0, none⟩ = some (.int .i64 t.la) := Tt_1.c 0
    have c1 : V1.cell? ⟨w.heap.size, 1, none⟩ = some (.slice t.a t.ts.length t.cap) := Tt_1.c 1
    go_wp2_with fail
    refine (toBook_put t _ hlt hst (ht.below B_1)).mono ?_
    rintro e xt ⟨gxt, rfl, hgxt, hp, hb⟩
    clear c0 c1
    have Tt_103 := Tt_1.keep hb
    have Tu_103 := Tu_1.keep hb
    have Rs0_103 := RR1.below hb
    have Gs0_103 := Gs0.keep hb
    have B_103 := B_1.trans (hb.mono B_1.size)
    clear Tt_1 Tu_1 RR1 Gs0 B_1
    have zxt := hb.size
    have hpxt := hp
    have zzxt := hpxt.lt
    clear hp hb
    have K := bel1 (w := xt) (.cells #[.int .i64 t.la, .slice (some ⟨gxt, 0, none⟩) t.ts.length t.ts.length] 37)
    have Tt_104 := Tt_103.keep K
    have Tu_104 := Tu_103.keep K
    have Rs0_104 := Rs0_103.below K
    have Gs0_104 := Gs0_103.keep K
    have Cxt_104 := hpxt.below K
    have B_104 := B_103.trans (K.mono B_103.size)
    clear Tt_103 Tu_103 Rs0_103 Gs0_103 hpxt B_103
    have Xt := Bx.new xt #[.int .i64 t.la, .slice (some ⟨gxt, 0, none⟩) t.ts.length t.ts.length] 37
    clear K
    have c0 : (xt.alloc (.cells #[.int .i64 t.la, .slice (some ⟨gxt, 0, none⟩) t.ts.length t.ts.length] 37)).cell? ⟨w.heap.size + 1, 0, none⟩ = some (.int .i64 u.k) := Tu_104.c 0
    have c1 : (xt.alloc (.cells #[.int .i64 t.la, .slice (some ⟨gxt, 0, none⟩) t.ts.length t.ts.length] 37)).cell? ⟨w.heap.size + 1, 1, none⟩ = some (.string u.nm) := Tu_104.c 1
    have c2 : (xt.alloc (.cells #[.int .i64 t.la, .slice (some ⟨gxt, 0, none⟩) t.ts.length t.ts.length] 37)).cell? ⟨w.heap.size + 1, 2, none⟩ = some (.int .i64 u.n) := Tu_104.c 2
    have c3 : (xt.alloc (.cells #[.int .i64 t.la, .slice (some ⟨gxt, 0, none⟩) t.ts.length t.ts.length] 37)).cell? ⟨w.heap.size + 1, 3, none⟩ = some (.int .i64 u.p.q) := Tu_104.c 3
    have c4 : (xt.alloc (.cells #[.int .i64 t.la, .slice (some ⟨gxt, 0, none⟩) t.ts.length t.ts.length] 37)).cell? ⟨w.heap.size + 1, 4, none⟩ = some (.int .i64 u.p.s) := Tu_104.c 4
    have c5 : (xt.alloc (.cells #[.int .i64 t.la, .slice (some ⟨gxt, 0, none⟩) t.ts.length t.ts.length] 37)).cell? ⟨w.heap.size + 1, 5, none⟩ = some (.slice u.p.a u.p.l.length u.p.cap) := Tu_104.c 5
    have c6 : (xt.alloc (.cells #[.int .i64 t.la, .slice (some ⟨gxt, 0, none⟩) t.ts.length t.ts.length] 37)).cell? ⟨w.heap.size + 1, 6, none⟩ = some (.int .i64 u.p.fr) := Tu_104.c 6
    have c7 : (xt.alloc (.cells #[.int .i64 t.la, .slice (some ⟨gxt, 0, none⟩) t.ts.length t.ts.length] 37)).cell? ⟨w.heap.size + 1, 7, none⟩ = some (.int .i64 u.p.b) := Tu_104.c 7
    go_wp2_with fail
    refine (toWord_put u _ hlu (hu.below B_104 hu.lt)).mono ?_
    rintro e xu ⟨gxu, rfl, hgxu, hp, hb⟩
    clear c0 c1 c2 c3 c4 c5 c6 c7
    have Tt_105 := Tt_104.keep hb
    have Tu_105 := Tu_104.keep hb
    have Rs0_105 := Rs0_104.below hb
    have Gs0_105 := Gs0_104.keep hb
    have Cxt_105 := Cxt_104.below hb
    have Xt_105 := Xt.keep hb
    have B_105 := B_104.trans (hb.mono B_104.size)
    clear Tt_104 Tu_104 Rs0_104 Gs0_104 Cxt_104 Xt B_104
    have zxu := hb.size
    have hpxu := hp
    have zzxu := (⟨hpxu.lt, hpxu.le⟩ : _ ∧ _)
    clear hp hb
    have K := bel1 (w := xu) (.cells #[.int .i64 u.k, .string u.nm, .int .i64 u.n, .int .i64 u.p.q, .int .i64 u.p.s, .slice (some ⟨gxu, 0, none⟩) u.p.l.length u.p.l.length, .int .i64 u.p.fr, .int .i64 u.p.b] 32)
    have Tt_106 := Tt_105.keep K
    have Tu_106 := Tu_105.keep K
    have Rs0_106 := Rs0_105.below K
    have Gs0_106 := Gs0_105.keep K
    have Cxt_106 := Cxt_105.below K
    have Xt_106 := Xt_105.keep K
    have Cxu_106 := hpxu.below K
    have B_106 := B_105.trans (K.mono B_105.size)
    clear Tt_105 Tu_105 Rs0_105 Gs0_105 Cxt_105 Xt_105 hpxu B_105
    have Xu := Bx.new xu #[.int .i64 u.k, .string u.nm, .int .i64 u.n, .int .i64 u.p.q, .int .i64 u.p.s, .slice (some ⟨gxu, 0, none⟩) u.p.l.length u.p.l.length, .int .i64 u.p.fr, .int .i64 u.p.b] 32
    clear K
    simp only [World.size_alloc] at hgxt hgxu zxt zxu
    have xt0 : (xu.alloc (.cells #[.int .i64 u.k, .string u.nm, .int .i64 u.n, .int .i64 u.p.q, .int .i64 u.p.s, .slice (some ⟨gxu, 0, none⟩) u.p.l.length u.p.l.length, .int .i64 u.p.fr, .int .i64 u.p.b] 32)).cell? ⟨xt.heap.size, 0, none⟩ = some (.int .i64 t.la) := Xt_106.c 0
    have xt1 : (xu.alloc (.cells #[.int .i64 u.k, .string u.nm, .int .i64 u.n, .int .i64 u.p.q, .int .i64 u.p.s, .slice (some ⟨gxu, 0, none⟩) u.p.l.length u.p.l.length, .int .i64 u.p.fr, .int .i64 u.p.b] 32)).cell? ⟨xt.heap.size, 1, none⟩ = some (.slice (some ⟨gxt, 0, none⟩) t.ts.length t.ts.length) := Xt_106.c 1
    have xu0 : (xu.alloc (.cells #[.int .i64 u.k, .string u.nm, .int .i64 u.n, .int .i64 u.p.q, .int .i64 u.p.s, .slice (some ⟨gxu, 0, none⟩) u.p.l.length u.p.l.length, .int .i64 u.p.fr, .int .i64 u.p.b] 32)).cell? ⟨xu.heap.size, 0, none⟩ = some (.int .i64 u.k) := Xu.c 0
    have xu1 : (xu.alloc (.cells #[.int .i64 u.k, .string u.nm, .int .i64 u.n, .int .i64 u.p.q, .int .i64 u.p.s, .slice (some ⟨gxu, 0, none⟩) u.p.l.length u.p.l.length, .int .i64 u.p.fr, .int .i64 u.p.b] 32)).cell? ⟨xu.heap.size, 1, none⟩ = some (.string u.nm) := Xu.c 1
    have xu2 : (xu.alloc (.cells #[.int .i64 u.k, .string u.nm, .int .i64 u.n, .int .i64 u.p.q, .int .i64 u.p.s, .slice (some ⟨gxu, 0, none⟩) u.p.l.length u.p.l.length, .int .i64 u.p.fr, .int .i64 u.p.b] 32)).cell? ⟨xu.heap.size, 2, none⟩ = some (.int .i64 u.n) := Xu.c 2
    have xu3 : (xu.alloc (.cells #[.int .i64 u.k, .string u.nm, .int .i64 u.n, .int .i64 u.p.q, .int .i64 u.p.s, .slice (some ⟨gxu, 0, none⟩) u.p.l.length u.p.l.length, .int .i64 u.p.fr, .int .i64 u.p.b] 32)).cell? ⟨xu.heap.size, 3, none⟩ = some (.int .i64 u.p.q) := Xu.c 3
    have xu4 : (xu.alloc (.cells #[.int .i64 u.k, .string u.nm, .int .i64 u.n, .int .i64 u.p.q, .int .i64 u.p.s, .slice (some ⟨gxu, 0, none⟩) u.p.l.length u.p.l.length, .int .i64 u.p.fr, .int .i64 u.p.b] 32)).cell? ⟨xu.heap.size, 4, none⟩ = some (.int .i64 u.p.s) := Xu.c 4
    have xu5 : (xu.alloc (.cells #[.int .i64 u.k, .string u.nm, .int .i64 u.n, .int .i64 u.p.q, .int .i64 u.p.s, .slice (some ⟨gxu, 0, none⟩) u.p.l.length u.p.l.length, .int .i64 u.p.fr, .int .i64 u.p.b] 32)).cell? ⟨xu.heap.size, 5, none⟩ = some (.slice (some ⟨gxu, 0, none⟩) u.p.l.length u.p.l.length) := Xu.c 5
    have xu6 : (xu.alloc (.cells #[.int .i64 u.k, .string u.nm, .int .i64 u.n, .int .i64 u.p.q, .int .i64 u.p.s, .slice (some ⟨gxu, 0, none⟩) u.p.l.length u.p.l.length, .int .i64 u.p.fr, .int .i64 u.p.b] 32)).cell? ⟨xu.heap.size, 6, none⟩ = some (.int .i64 u.p.fr) := Xu.c 6
    have xu7 : (xu.alloc (.cells #[.int .i64 u.k, .string u.nm, .int .i64 u.n, .int .i64 u.p.q, .int .i64 u.p.s, .slice (some ⟨gxu, 0, none⟩) u.p.l.length u.p.l.length, .int .i64 u.p.fr, .int .i64 u.p.b] 32)).cell? ⟨xu.heap.size, 7, none⟩ = some (.int .i64 u.p.b) := Xu.c 7
    go_wp2_with fail
    refine (hIm _ _ _ _ _ Cxt_106 Cxu_106).mono ?_
    rintro e u7 ⟨ai0, ci0, rfl, Ri0, hb⟩
    have Tt_107 := Tt_106.keep hb
    have Tu_107 := Tu_106.keep hb
    have Rs0_107 := Rs0_106.below hb
    have Gs0_107 := Gs0_106.keep hb
    have Cxt_107 := Cxt_106.below hb
    have Xt_107 := Xt_106.keep hb
    have Cxu_107 := Cxu_106.below hb
    have Xu_107 := Xu.keep hb
    have B_107 := B_106.trans (hb.mono B_106.size)
    clear Tt_106 Tu_106 Rs0_106 Gs0_106 Cxt_106 Xt_106 Cxu_106 Xu B_106
    have zsi := hb.size
    clear hb
    have RRi0 := Ri0
    clear Ri0
    have K := bel1 (w := u7) (.cells #[.int .i64 t.la, .slice ai0 r.length ci0] 37)
    have Tt_108 := Tt_107.keep K
    have Tu_108 := Tu_107.keep K
    have Rs0_108 := Rs0_107.below K
    have Gs0_108 := Gs0_107.keep K
    have Cxt_108 := Cxt_107.below K
    have Xt_108 := Xt_107.keep K
    have Cxu_108 := Cxu_107.below K
    have Xu_108 := Xu_107.keep K
    have Ri0_108 := RRi0.below K
    have B_108 := B_107.trans (K.mono B_107.size)
    clear Tt_107 Tu_107 Rs0_107 Gs0_107 Cxt_107 Xt_107 Cxu_107 Xu_107 RRi0 B_107
    have Gi0 := Bx.new (u7) #[.int .i64 t.la, .slice ai0 r.length ci0] 37
    clear K
    clear xt0 xt1 xu0 xu1 xu2 xu3 xu4 xu5 xu6 xu7
    simp only [World.size_alloc] at zsi
    simp only [World.size_alloc] at Ri0_108
    have d0 : (u7.alloc (.cells #[.int .i64 t.la, .slice ai0 r.length ci0] 37)).cell? ⟨u7.heap.size, 0, none⟩ = some (.int .i64 t.la) := Gi0.c 0
    have d1 : (u7.alloc (.cells #[.int .i64 t.la, .slice ai0 r.length ci0] 37)).cell? ⟨u7.heap.size, 1, none⟩ = some (.slice ai0 r.length ci0) := Gi0.c 1
    have e0 : (u7.alloc (.cells #[.int .i64 t.la, .slice ai0 r.length ci0] 37)).cell? ⟨Ks, 0, none⟩ = some (.int .i64 t.la) := Gs0_108.c 0
    have e1 : (u7.alloc (.cells #[.int .i64 t.la, .slice ai0 r.length ci0] 37)).cell? ⟨Ks, 1, none⟩ = some (.slice as0 r.length cs0) := Gs0_108.c 1
    go_wp2_with fail
    refine (Ri0_108.eq t.la Rs0_108 hlr hsr).mono ?_
    rintro e wq0 ⟨rfl, hb⟩
    clear d0 d1 e0 e1
    have Tt_109 := Tt_108.keep hb
    have Tu_109 := Tu_108.keep hb
    have Rs0_109 := Rs0_108.below hb
    have Gs0_109 := Gs0_108.keep hb
    have Cxt_109 := Cxt_108.below hb
    have Xt_109 := Xt_108.keep hb
    have Cxu_109 := Cxu_108.below hb
    have Xu_109 := Xu_108.keep hb
    have Ri0_109 := Ri0_108.below hb
    have Gi0_109 := Gi0.keep hb
    have B_109 := B_108.trans (hb.mono B_108.size)
    clear Tt_108 Tu_108 Rs0_108 Gs0_108 Cxt_108 Xt_108 Cxu_108 Xu_108 Ri0_108 Gi0 B_108
    clear hb
    have c0 : wq0.cell? ⟨w.heap.size, 0, none⟩ = some (.int .i64 t.la) := Tt_109.c 0
    have c1 : wq0.cell? ⟨w.heap.size, 1, none⟩ = some (.slice t.a t.ts.length t.cap) := Tt_109.c 1
    have x0 : wq0.cell? ⟨xt.heap.size, 0, none⟩ = some (.int .i64 t.la) := Xt_109.c 0
    have x1 : wq0.cell? ⟨xt.heap.size, 1, none⟩ = some (.slice (some ⟨gxt, 0, none⟩) t.ts.length t.ts.length) := Xt_109.c 1
    have zc := Tt_109.lt
    have zx := Xt_109.lt
    have hd := (ht.below B_109.drew)
    have hy := Cxt_109.below (W' := wq0.drew) ((Below.refl _ _).drew)
    go_wp2
    go_region_held3 (fun w' => w'.cell? ⟨w.heap.size, 0, none⟩ = some (.int .i64 t.la) ∧ w'.cell? ⟨w.heap.size, 1, none⟩ = some (.slice t.a t.ts.length t.cap) ∧ w'.cell? ⟨xt.heap.size, 0, none⟩ = some (.int .i64 t.la) ∧ w'.cell? ⟨xt.heap.size, 1, none⟩ = some (.slice (some ⟨gxt, 0, none⟩) t.ts.length t.ts.length))
      (simp [go_sem, *])
      (first
        | (go_at_call 7; refine (toBook_put t _ hlt hst hd).mono ?_; rintro e y1t ⟨gy, rfl, hgy, hq, hb1⟩; have n2 : ∀ j, y1t.cell? ⟨w.heap.size, j, none⟩ = wq0.cell? ⟨w.heap.size, j, none⟩ := (fun j => hb1.cell (p := ⟨w.heap.size, j, none⟩) zc); have n3 : ∀ j, y1t.cell? ⟨xt.heap.size, j, none⟩ = wq0.cell? ⟨xt.heap.size, j, none⟩ := (fun j => hb1.cell (p := ⟨xt.heap.size, j, none⟩) zx))
        | (go_at_call 10; refine ((hy.below hb1).eq t.la hq hlt hst).mono ?_; rintro e y2t ⟨rfl, hb2⟩; have n4 : ∀ j, y2t.cell? ⟨w.heap.size, j, none⟩ = y1t.cell? ⟨w.heap.size, j, none⟩ := (fun j => hb2.cell (p := ⟨w.heap.size, j, none⟩) (Nat.lt_of_lt_of_le zc hb1.size)); have n5 : ∀ j, y2t.cell? ⟨xt.heap.size, j, none⟩ = y1t.cell? ⟨xt.heap.size, j, none⟩ := (fun j => hb2.cell (p := ⟨xt.heap.size, j, none⟩) (Nat.lt_of_lt_of_le zx hb1.size)))
        | fail)
    have K : Below wq0.heap.size wq0 y2t := ((Below.refl wq0.heap.size wq0).drew).trans (hb1.trans (hb2.mono hb1.size))
    clear c0 c1 x0 x1 hd hy n2 n3 n4 n5 hq hgy zc zx hb1 hb2
    have Tt_110 := Tt_109.keep K
    have Tu_110 := Tu_109.keep K
    have Rs0_110 := Rs0_109.below K
    have Gs0_110 := Gs0_109.keep K
    have Cxt_110 := Cxt_109.below K
    have Xt_110 := Xt_109.keep K
    have Cxu_110 := Cxu_109.below K
    have Xu_110 := Xu_109.keep K
    have Ri0_110 := Ri0_109.below K
    have Gi0_110 := Gi0_109.keep K
    have B_110 := B_109.trans (K.mono B_109.size)
    clear Tt_109 Tu_109 Rs0_109 Gs0_109 Cxt_109 Xt_109 Cxu_109 Xu_109 Ri0_109 Gi0_109 B_109
    clear K
    have c0 : y2t.cell? ⟨w.heap.size + 1, 0, none⟩ = some (.int .i64 u.k) := Tu_110.c 0
    have c1 : y2t.cell? ⟨w.heap.size + 1, 1, none⟩ = some (.string u.nm) := Tu_110.c 1
    have c2 : y2t.cell? ⟨w.heap.size + 1, 2, none⟩ = some (.int .i64 u.n) := Tu_110.c 2
    have c3 : y2t.cell? ⟨w.heap.size + 1, 3, none⟩ = some (.int .i64 u.p.q) := Tu_110.c 3
    have c4 : y2t.cell? ⟨w.heap.size + 1, 4, none⟩ = some (.int .i64 u.p.s) := Tu_110.c 4
    have c5 : y2t.cell? ⟨w.heap.size + 1, 5, none⟩ = some (.slice u.p.a u.p.l.length u.p.cap) := Tu_110.c 5
    have c6 : y2t.cell? ⟨w.heap.size + 1, 6, none⟩ = some (.int .i64 u.p.fr) := Tu_110.c 6
    have c7 : y2t.cell? ⟨w.heap.size + 1, 7, none⟩ = some (.int .i64 u.p.b) := Tu_110.c 7
    have x0 : y2t.cell? ⟨xu.heap.size, 0, none⟩ = some (.int .i64 u.k) := Xu_110.c 0
    have x1 : y2t.cell? ⟨xu.heap.size, 1, none⟩ = some (.string u.nm) := Xu_110.c 1
    have x2 : y2t.cell? ⟨xu.heap.size, 2, none⟩ = some (.int .i64 u.n) := Xu_110.c 2
    have x3 : y2t.cell? ⟨xu.heap.size, 3, none⟩ = some (.int .i64 u.p.q) := Xu_110.c 3
    have x4 : y2t.cell? ⟨xu.heap.size, 4, none⟩ = some (.int .i64 u.p.s) := Xu_110.c 4
    have x5 : y2t.cell? ⟨xu.heap.size, 5, none⟩ = some (.slice (some ⟨gxu, 0, none⟩) u.p.l.length u.p.l.length) := Xu_110.c 5
    have x6 : y2t.cell? ⟨xu.heap.size, 6, none⟩ = some (.int .i64 u.p.fr) := Xu_110.c 6
    have x7 : y2t.cell? ⟨xu.heap.size, 7, none⟩ = some (.int .i64 u.p.b) := Xu_110.c 7
    have zc := Tu_110.lt
    have zx := Xu_110.lt
    have hd := (hu.below B_110.drew hu.lt)
    have hy := Cxu_110.below (W' := y2t.drew) ((Below.refl _ _).drew)
    go_wp2
    go_region_held3 (fun w' => w'.cell? ⟨w.heap.size + 1, 0, none⟩ = some (.int .i64 u.k) ∧ w'.cell? ⟨w.heap.size + 1, 1, none⟩ = some (.string u.nm) ∧ w'.cell? ⟨w.heap.size + 1, 2, none⟩ = some (.int .i64 u.n) ∧ w'.cell? ⟨w.heap.size + 1, 3, none⟩ = some (.int .i64 u.p.q) ∧ w'.cell? ⟨w.heap.size + 1, 4, none⟩ = some (.int .i64 u.p.s) ∧ w'.cell? ⟨w.heap.size + 1, 5, none⟩ = some (.slice u.p.a u.p.l.length u.p.cap) ∧ w'.cell? ⟨w.heap.size + 1, 6, none⟩ = some (.int .i64 u.p.fr) ∧ w'.cell? ⟨w.heap.size + 1, 7, none⟩ = some (.int .i64 u.p.b) ∧ w'.cell? ⟨xu.heap.size, 0, none⟩ = some (.int .i64 u.k) ∧ w'.cell? ⟨xu.heap.size, 1, none⟩ = some (.string u.nm) ∧ w'.cell? ⟨xu.heap.size, 2, none⟩ = some (.int .i64 u.n) ∧ w'.cell? ⟨xu.heap.size, 3, none⟩ = some (.int .i64 u.p.q) ∧ w'.cell? ⟨xu.heap.size, 4, none⟩ = some (.int .i64 u.p.s) ∧ w'.cell? ⟨xu.heap.size, 5, none⟩ = some (.slice (some ⟨gxu, 0, none⟩) u.p.l.length u.p.l.length) ∧ w'.cell? ⟨xu.heap.size, 6, none⟩ = some (.int .i64 u.p.fr) ∧ w'.cell? ⟨xu.heap.size, 7, none⟩ = some (.int .i64 u.p.b))
      (simp [go_sem, *])
      (first
        | (go_at_call 16; refine (toWord_put u _ hlu hd).mono ?_; rintro e y1u ⟨gy, rfl, hgy, hq, hb1⟩; have n2 : ∀ j, y1u.cell? ⟨w.heap.size + 1, j, none⟩ = y2t.cell? ⟨w.heap.size + 1, j, none⟩ := (fun j => hb1.cell (p := ⟨w.heap.size + 1, j, none⟩) zc); have n3 : ∀ j, y1u.cell? ⟨xu.heap.size, j, none⟩ = y2t.cell? ⟨xu.heap.size, j, none⟩ := (fun j => hb1.cell (p := ⟨xu.heap.size, j, none⟩) zx))
        | (go_at_call 9; refine (eqWord_put u (hy.below hb1) hq hlu).mono ?_; rintro e y2u ⟨rfl, hb2⟩; have n4 : ∀ j, y2u.cell? ⟨w.heap.size + 1, j, none⟩ = y1u.cell? ⟨w.heap.size + 1, j, none⟩ := (fun j => hb2.cell (p := ⟨w.heap.size + 1, j, none⟩) (Nat.lt_of_lt_of_le zc hb1.size)); have n5 : ∀ j, y2u.cell? ⟨xu.heap.size, j, none⟩ = y1u.cell? ⟨xu.heap.size, j, none⟩ := (fun j => hb2.cell (p := ⟨xu.heap.size, j, none⟩) (Nat.lt_of_lt_of_le zx hb1.size)))
        | fail)
    have K : Below y2t.heap.size y2t y2u := ((Below.refl y2t.heap.size y2t).drew).trans (hb1.trans (hb2.mono hb1.size))
    clear c0 c1 c2 c3 c4 c5 c6 c7 x0 x1 x2 x3 x4 x5 x6 x7 hd hy n2 n3 n4 n5 hq hgy zc zx hb1 hb2
    have Tt_111 := Tt_110.keep K
    have Tu_111 := Tu_110.keep K
    have Rs0_111 := Rs0_110.below K
    have Gs0_111 := Gs0_110.keep K
    have Cxt_111 := Cxt_110.below K
    have Xt_111 := Xt_110.keep K
    have Cxu_111 := Cxu_110.below K
    have Xu_111 := Xu_110.keep K
    have Ri0_111 := Ri0_110.below K
    have Gi0_111 := Gi0_110.keep K
    have B_111 := B_110.trans (K.mono B_110.size)
    clear Tt_110 Tu_110 Rs0_110 Gs0_110 Cxt_110 Xt_110 Cxu_110 Xu_110 Ri0_110 Gi0_110 B_110
    clear K
    have x0 : y2u.cell? ⟨xt.heap.size, 0, none⟩ = some (.int .i64 t.la) := Xt_111.c 0
    have x1 : y2u.cell? ⟨xt.heap.size, 1, none⟩ = some (.slice (some ⟨gxt, 0, none⟩) t.ts.length t.ts.length) := Xt_111.c 1
    go_wp2_with fail
    refine (Cxt_111.mark t.la 1 hlt hst ⟨by omega, by omega⟩).mono ?_
    rintro e mt ⟨rfl, iv⟩
    clear x0 x1
    clear Cxt_111
    have Tt_112 := Tt_111.iv iv (by omega)
    have Tu_112 := Tu_111.iv iv (by omega)
    have Rs0_112 := Rs0_111.iv iv (by omega)
    have Gs0_112 := Gs0_111.iv iv (by omega)
    have Xt_112 := Xt_111.iv iv (by omega)
    have Cxu_112 := Cxu_111.iv iv (by omega)
    have Xu_112 := Xu_111.iv iv (by omega)
    have Ri0_112 := Ri0_111.iv iv (by omega)
    have Gi0_112 := Gi0_111.iv iv (by omega)
    have B_112 := iv.toBelow B_111 B_111.size (by omega)
    clear Tt_111 Tu_111 Rs0_111 Gs0_111 Xt_111 Cxu_111 Xu_111 Ri0_111 Gi0_111 B_111
    clear iv
    obtain ⟨kt, hkt⟩ : ∃ z : Int, (1 : Int) + (totH t.ts : Int) = z := ⟨_, rfl⟩
    rw [hkt]
    have ktl : 1 ≤ kt ∧ kt ≤ 100000000 := by omega
    have ktn : ¬ kt < 0 := by omega
    clear hkt
    have x0 : mt.cell? ⟨xu.heap.size, 0, none⟩ = some (.int .i64 u.k) := Xu_112.c 0
    have x1 : mt.cell? ⟨xu.heap.size, 1, none⟩ = some (.string u.nm) := Xu_112.c 1
    have x2 : mt.cell? ⟨xu.heap.size, 2, none⟩ = some (.int .i64 u.n) := Xu_112.c 2
    have x3 : mt.cell? ⟨xu.heap.size, 3, none⟩ = some (.int .i64 u.p.q) := Xu_112.c 3
    have x4 : mt.cell? ⟨xu.heap.size, 4, none⟩ = some (.int .i64 u.p.s) := Xu_112.c 4
    have x5 : mt.cell? ⟨xu.heap.size, 5, none⟩ = some (.slice (some ⟨gxu, 0, none⟩) u.p.l.length u.p.l.length) := Xu_112.c 5
    have x6 : mt.cell? ⟨xu.heap.size, 6, none⟩ = some (.int .i64 u.p.fr) := Xu_112.c 6
    have x7 : mt.cell? ⟨xu.heap.size, 7, none⟩ = some (.int .i64 u.p.b) := Xu_112.c 7
    go_wp2_with fail
    refine (markWord_iv u kt Cxu_112 hlu ⟨by omega, by omega⟩).mono ?_
    rintro e mu ⟨rfl, iv⟩
    clear x0 x1 x2 x3 x4 x5 x6 x7
    clear Cxu_112
    have Tt_113 := Tt_112.iv iv (by omega)
    have Tu_113 := Tu_112.iv iv (by omega)
    have Rs0_113 := Rs0_112.iv iv (by omega)
    have Gs0_113 := Gs0_112.iv iv (by omega)
    have Xt_113 := Xt_112.iv iv (by omega)
    have Xu_113 := Xu_112.iv iv (by omega)
    have Ri0_113 := Ri0_112.iv iv (by omega)
    have Gi0_113 := Gi0_112.iv iv (by omega)
    have B_113 := iv.toBelow B_112 B_112.size (by omega)
    clear Tt_112 Tu_112 Rs0_112 Gs0_112 Xt_112 Xu_112 Ri0_112 Gi0_112 B_112
    clear iv
    obtain ⟨ku, hku⟩ : ∃ z : Int, kt + ((u.p.l.length * 7 : Nat) : Int) = z := ⟨_, rfl⟩
    rw [hku]
    have kul : 1 ≤ ku ∧ ku ≤ 200000000 := by omega
    have kun : ¬ ku < 0 := by omega
    clear hku
    clear Xt_113
    clear Xu_113
    have d0 : mu.cell? ⟨u7.heap.size, 0, none⟩ = some (.int .i64 t.la) := Gi0_113.c 0
    have d1 : mu.cell? ⟨u7.heap.size, 1, none⟩ = some (.slice ai0 r.length ci0) := Gi0_113.c 1
    have e0 : mu.cell? ⟨Ks, 0, none⟩ = some (.int .i64 t.la) := Gs0_113.c 0
    have e1 : mu.cell? ⟨Ks, 1, none⟩ = some (.slice as0 r.length cs0) := Gs0_113.c 1
    go_wp2_with fail
    refine (Ri0_113.eq t.la Rs0_113 hlr hsr).mono ?_
    rintro e wf0 ⟨rfl, hb⟩
    clear d0 d1 e0 e1
    have Tt_114 := Tt_113.keep hb
    have Tu_114 := Tu_113.keep hb
    have Rs0_114 := Rs0_113.below hb
    have Gs0_114 := Gs0_113.keep hb
    have Ri0_114 := Ri0_113.below hb
    have Gi0_114 := Gi0_113.keep hb
    have B_114 := B_113.trans (hb.mono B_113.size)
    clear Tt_113 Tu_113 Rs0_113 Gs0_113 Ri0_113 Gi0_113 B_113
    clear hb
    have d0 : wf0.cell? ⟨u7.heap.size, 0, none⟩ = some (.int .i64 t.la) := Gi0_114.c 0
    have d1 : wf0.cell? ⟨u7.heap.size, 1, none⟩ = some (.slice ai0 r.length ci0) := Gi0_114.c 1
    go_wp2_with fail
    refine (Ri0_114.mark t.la 1 hlr hsr ⟨by omega, by omega⟩).mono ?_
    rintro e mr0 ⟨rfl, M, iv⟩
    clear d0 d1
    clear Ri0_114
    have Tt_115 := Tt_114.iv iv (by omega)
    have Tu_115 := Tu_114.iv iv (by omega)
    have Rs0_115 := Rs0_114.iv iv (by omega)
    have Gs0_115 := Gs0_114.iv iv (by omega)
    have Gi0_115 := Gi0_114.iv iv (by omega)
    have B_115 := iv.toBelow B_114 B_114.size (by omega)
    clear Tt_114 Tu_114 Rs0_114 Gs0_114 Gi0_114 B_114
    have M0 := M
    clear M iv
    obtain ⟨r0, hr0⟩ : ∃ z : Int, (1 : Int) + (totK r : Int) = z := ⟨_, rfl⟩
    rw [hr0]
    have r0l : 1 ≤ r0 ∧ r0 ≤ 400000000 := by omega
    have r0n : ¬ r0 < 0 := by omega
    have Hr0 : Hid ((1 : Int) + (totK r : Int) = r0) := hr0
    clear hr0
    have d0 : mr0.cell? ⟨u7.heap.size, 0, none⟩ = some (.int .i64 t.la) := Gi0_115.c 0
    have d1 : mr0.cell? ⟨u7.heap.size, 1, none⟩ = some (.slice ai0 r.length ci0) := Gi0_115.c 1
    go_wp2_with fail
    refine (M0.held t.la hlr hsr ⟨by omega, by omega⟩).mono ?_
    rintro e ha0 ⟨rfl, hb⟩
    clear d0 d1
    have Tt_116 := Tt_115.keep hb
    have Tu_116 := Tu_115.keep hb
    have Rs0_116 := Rs0_115.below hb
    have Gs0_116 := Gs0_115.keep hb
    have Gi0_116 := Gi0_115.keep hb
    have M0_116 := M0.below hb
    have B_116 := B_115.trans (hb.mono B_115.size)
    clear Tt_115 Tu_115 Rs0_115 Gs0_115 Gi0_115 M0 B_115
    clear hb
    rw [Hr0.out]
    have M2 : TwoX w ha0 ha0.drew #[.int .i64 t.la, .slice t.a t.ts.length t.cap] #[.int .i64 u.k, .string u.nm, .int .i64 u.n, .int .i64 u.p.q, .int .i64 u.p.s, .slice u.p.a u.p.l.length u.p.cap, .int .i64 u.p.fr, .int .i64 u.p.b] := TwoX.keep (w0 := ha0) ⟨B_116, Below.refl _ _, Tt_116, Tu_116⟩ ((Below.refl _ _).drew)
    have MC : TwoB w ha0 (ha0.alloc (.cells #[.int .i64 0, .slice none 0 0] 37)).drew #[.int .i64 t.la, .slice t.a t.ts.length t.cap] #[.int .i64 u.k, .string u.nm, .int .i64 u.n, .int .i64 u.p.q, .int .i64 u.p.s, .slice u.p.a u.p.l.length u.p.cap, .int .i64 u.p.fr, .int .i64 u.p.b] ha0.heap.size #[.int .i64 0, .slice none 0 0] := (TwoB.new (w0 := ha0) ⟨B_116, Below.refl _ _, Tt_116, Tu_116⟩ #[.int .i64 0, .slice none 0 0] 37).keep ((Below.refl _ _).drew)
    have MA := MC.both
    have c0 : ha0.cell? ⟨w.heap.size, 0, none⟩ = some (.int .i64 t.la) := Tt_116.c 0
    have c1 : ha0.cell? ⟨w.heap.size, 1, none⟩ = some (.slice t.a t.ts.length t.cap) := Tt_116.c 1
    have d0 : ha0.cell? ⟨w.heap.size + 1, 0, none⟩ = some (.int .i64 u.k) := Tu_116.c 0
    have d1 : ha0.cell? ⟨w.heap.size + 1, 1, none⟩ = some (.string u.nm) := Tu_116.c 1
    have d2 : ha0.cell? ⟨w.heap.size + 1, 2, none⟩ = some (.int .i64 u.n) := Tu_116.c 2
    have d3 : ha0.cell? ⟨w.heap.size + 1, 3, none⟩ = some (.int .i64 u.p.q) := Tu_116.c 3
    have d4 : ha0.cell? ⟨w.heap.size + 1, 4, none⟩ = some (.int .i64 u.p.s) := Tu_116.c 4
    have d5 : ha0.cell? ⟨w.heap.size + 1, 5, none⟩ = some (.slice u.p.a u.p.l.length u.p.cap) := Tu_116.c 5
    have d6 : ha0.cell? ⟨w.heap.size + 1, 6, none⟩ = some (.int .i64 u.p.fr) := Tu_116.c 6
    have d7 : ha0.cell? ⟨w.heap.size + 1, 7, none⟩ = some (.int .i64 u.p.b) := Tu_116.c 7
    go_wp2
    rename_i K2 hK2
    have REST2 : ∀ {x0 x1 x4 x5 x7 x8 x10 x12 x14 x15 x16 x17 x18 x19 x20 x21 x22 x23 x24 x25 x26 x27 x28 x29 x30 x31 x32 x33 x34 x35 x36 x37 x38 x39 x40 x41 x42 x43 x44 x45 x46 x47 x48 x49 x50 x51 x52 x53 x54 x55 x56 x57 x58 x59 x60 x61 x62 x63 x64 x65 x66 x67 x68 x69 x70 x71 x72 x73 x74 x75 x76 x77 x78 x79 x80 x81 x82 x83 x84 x85 x86 x87 x88 x89 x90 x91 : Value} {Kh ch0 lo2 hi2 : Nat} {ah0 : Option Addr} {V2 : World}, TwoB w ha0 V2 #[.int .i64 t.la, .slice t.a t.ts.length t.cap] #[.int .i64 u.k, .string u.nm, .int .i64 u.n, .int .i64 u.p.q, .int .i64 u.p.s, .slice u.p.a u.p.l.length u.p.cap, .int .i64 u.p.fr, .int .i64 u.p.b] Kh #[.int .i64 t.la, .slice ah0 r.length ch0] → BkAns V2 lo2 hi2 (.slice ah0 r.length ch0) r → w.heap.size + 1 < lo2 → hi2 ≤ V2.heap.size → (Kh < lo2 ∨ hi2 ≤ Kh) → K2 ⟨#[x0, x1, .pointer (some ⟨w.heap.size, 0, none⟩), .pointer (some ⟨w.heap.size + 1, 0, none⟩), x4, x5, .pointer (some ⟨Ks, 0, none⟩), x7, x8, .pointer (some ⟨u7.heap.size, 0, none⟩), x10, .int .i64 r0, x12, .pointer (some ⟨Kh, 0, none⟩), x14, x15, x16, x17, x18, x19, x20, x21, x22, x23, x24, x25, x26, x27, x28, x29, x30, x31, x32, x33, x34, x35, x36, x37, x38, x39, x40, x41, x42, x43, x44, x45, x46, x47, x48, x49, x50, x51, x52, x53, x54, x55, x56, x57, x58, x59, x60, x61, x62, x63, x64, x65, x66, x67, x68, x69, x70, x71, x72, x73, x74, x75, x76, x77, x78, x79, x80, x81, x82, x83, x84, x85, x86, x87, x88, x89, x90, x91], []⟩ V2 := by
      intro x0 x1 x4 x5 x7 x8 x10 x12 x14 x15 x16 x17 x18 x19 x20 x21 x22 x23 x24 x25 x26 x27 x28 x29 x30 x31 x32 x33 x34 x35 x36 x37 x38 x39 x40 x41 x42 x43 x44 x45 x46 x47 x48 x49 x50 x51 x52 x53 x54 x55 x56 x57 x58 x59 x60 x61 x62 x63 x64 x65 x66 x67 x68 x69 x70 x71 x72 x73 x74 x75 x76 x77 x78 x79 x80 x81 x82 x83 x84 x85 x86 x87 x88 x89 x90 x91 Kh ch0 lo2 hi2 ah0 V2 HB RR2 zlo2 zhi2 zk2
      clear c0 c1 d0 d1 d2 d3 d4 d5 d6 d7 M2 MC MA
      refine hK2 _ _ ?_
      have Tt_217 := Tt_116.keep HB.both.now
      have Tu_217 := Tu_116.keep HB.both.now
      have Rs0_217 := Rs0_116.below HB.both.now
      have Gs0_217 := Gs0_116.keep HB.both.now
      have Gi0_217 := Gi0_116.keep HB.both.now
      have M0_217 := M0_116.below HB.both.now
      have B_217 := B_116.trans (HB.both.now.mono B_116.size)
      clear Tt_116 Tu_116 Rs0_116 Gs0_116 Gi0_116 M0_116 B_116
      have Gh0 := HB.box
      have Rh0 := RR2
      clear HB RR2
      have d0 : V2.cell? ⟨Kh, 0, none⟩ = some (.int .i64 t.la) := Gh0.c 0
      have d1 : V2.cell? ⟨Kh, 1, none⟩ = some (.slice ah0 r.length ch0) := Gh0.c 1
      have e0 : V2.cell? ⟨Ks, 0, none⟩ = some (.int .i64 t.la) := Gs0_217.c 0
      have e1 : V2.cell? ⟨Ks, 1, none⟩ = some (.slice as0 r.length cs0) := Gs0_217.c 1
      go_wp2_with fail
      refine (Rh0.eq t.la Rs0_217 hlr hsr).mono ?_
      rintro e wh0 ⟨rfl, hb⟩
      clear d0 d1 e0 e1
      have Tt_218 := Tt_217.keep hb
      have Tu_218 := Tu_217.keep hb
      have Rs0_218 := Rs0_217.below hb
      have Gs0_218 := Gs0_217.keep hb
      have Gi0_218 := Gi0_217.keep hb
      have M0_218 := M0_217.below hb
      have Gh0_218 := Gh0.keep hb
      have Rh0_218 := Rh0.below hb
      have B_218 := B_217.trans (hb.mono B_217.size)
      clear Tt_217 Tu_217 Rs0_217 Gs0_217 Gi0_217 M0_217 Gh0 Rh0 B_217
      clear hb
      have d0 : wh0.cell? ⟨u7.heap.size, 0, none⟩ = some (.int .i64 t.la) := Gi0_218.c 0
      have d1 : wh0.cell? ⟨u7.heap.size, 1, none⟩ = some (.slice ai0 r.length ci0) := Gi0_218.c 1
      go_wp2_with fail
      refine (M0_218.held t.la hlr hsr ⟨by omega, by omega⟩).mono ?_
      rintro e hz0 ⟨rfl, hb⟩
      clear d0 d1
      have Tt_219 := Tt_218.keep hb
      have Tu_219 := Tu_218.keep hb
      have Rs0_219 := Rs0_218.below hb
      have Gs0_219 := Gs0_218.keep hb
      have Gi0_219 := Gi0_218.keep hb
      have M0_219 := M0_218.below hb
      have Gh0_219 := Gh0_218.keep hb
      have Rh0_219 := Rh0_218.below hb
      have B_219 := B_218.trans (hb.mono B_218.size)
      clear Tt_218 Tu_218 Rs0_218 Gs0_218 Gi0_218 M0_218 Gh0_218 Rh0_218 B_218
      clear hb
      rw [Hr0.out]
      go_wp2
      go_ret
      exact ⟨rfl, B_219⟩
    go_region_held3 (fun w' => w'.cell? ⟨w.heap.size, 0, none⟩ = some (.int .i64 t.la) ∧ w'.cell? ⟨w.heap.size, 1, none⟩ = some (.slice t.a t.ts.length t.cap) ∧ w'.cell? ⟨w.heap.size + 1, 0, none⟩ = some (.int .i64 u.k) ∧ w'.cell? ⟨w.heap.size + 1, 1, none⟩ = some (.string u.nm) ∧ w'.cell? ⟨w.heap.size + 1, 2, none⟩ = some (.int .i64 u.n) ∧ w'.cell? ⟨w.heap.size + 1, 3, none⟩ = some (.int .i64 u.p.q) ∧ w'.cell? ⟨w.heap.size + 1, 4, none⟩ = some (.int .i64 u.p.s) ∧ w'.cell? ⟨w.heap.size + 1, 5, none⟩ = some (.slice u.p.a u.p.l.length u.p.cap) ∧ w'.cell? ⟨w.heap.size + 1, 6, none⟩ = some (.int .i64 u.p.fr) ∧ w'.cell? ⟨w.heap.size + 1, 7, none⟩ = some (.int .i64 u.p.b))
      (first | with_reducible exact hear_cells M5 | with_reducible exact hear_cells M4 | with_reducible exact hear_cells M3 | with_reducible exact hear_cells M2 | with_reducible exact hear_cells M5.both | with_reducible exact hear_cells M4.both | with_reducible exact hear_cells M3.both | with_reducible exact hear_cells MA | with_reducible exact hear_cells ((M5.put 0 (.int .i64 t.la)).put 1 (.slice ah0 r.length ch0)).both | with_reducible exact hear_cells (M5.keep (bel1 (.cells #[.int .i64 t.la, .slice ah0 r.length ch0] 37))) | with_reducible exact hear_cells (M5.keep (bel1 (.cells #[.int .i64 0, .slice none 0 0] 37))) | with_reducible exact hear_cells (M4.keep (bel1 (.cells #[.int .i64 0, .slice none 0 0] 37))) | with_reducible exact hear_cells (M3.keep (bel1 (.cells #[.int .i64 0, .slice none 0 0] 37))))
      (first
        | (go_at_call 7; refine (toBook_put t _ hlt hst (by first | exact (ht.below M2.old) | exact (ht.below MA.old))).mono ?_; rintro e p1 ⟨gp, rfl, hgp, hp1, hb1⟩; first | (have M3 := M2.keep hb1) | (have M3 := MC.keep hb1; obtain ⟨k0, k1⟩ := hear_box M3.box; have kf := M3.box.f))
        | (go_at_call 16; refine (toWord_put u _ hlu (by first | exact (hu.below M3.old hu.lt) | exact (hu.below M3.both.old hu.lt) | exact (hu.below (M3.keep (bel1 (.cells #[.int .i64 0, .slice none 0 0] 37))).old hu.lt))).mono ?_; rintro e p2 ⟨gq, rfl, hgq, hp2, hb2⟩; have hq2 : Below p1.heap.size p1 p2 := (by first | exact hb2 | exact (bel1 (.cells #[.int .i64 0, .slice none 0 0] 37)).trans (hb2.mono (by simp))); first | (have M4 := M3.keep hb2; have z2 : w.heap.size + 1 < p2.heap.size := (by first | exact M4.two.lt | exact M4.both.two.lt); try (obtain ⟨k0, k1⟩ := hear_box M4.box; have kf := M4.box.f)) | (have M4 := (TwoB.new M3 #[.int .i64 0, .slice none 0 0] 37).keep hb2; have z2 : w.heap.size + 1 < p2.heap.size := M4.both.two.lt; obtain ⟨k0, k1⟩ := hear_box M4.box; have kf := M4.box.f))
        | (go_at_call 17; refine (hIm _ _ _ _ _ (by first | exact hp1.below hq2 | exact (hp1.below hq2).below (bel1 (.cells #[.int .i64 0, .slice none 0 0] 37))) (by first | exact hp2 | exact hp2.below (bel1 (.cells #[.int .i64 0, .slice none 0 0] 37)))).mono ?_; rintro e p3 ⟨ah0, ch0, rfl, hR, hb3⟩; first | (have M5 := M4.keep hb3; try (have zk := M4.box.lt; obtain ⟨k0, k1⟩ := hear_box M5.box; have kf := M5.box.f)) | (have zk : p2.heap.size < (p2.alloc (.cells #[.int .i64 0, .slice none 0 0] 37)).heap.size := (by simp); have M5 := (TwoB.new M4 #[.int .i64 0, .slice none 0 0] 37).keep hb3; obtain ⟨k0, k1⟩ := hear_box M5.box; have kf := M5.box.f))
        | fail)
    all_goals first
      | exact REST2 (TwoB.new M5 #[.int .i64 t.la, .slice ah0 r.length ch0] 37) (hR.below (bel1 _)) (by first | exact z2 | (simp only [World.size_alloc]; omega)) (by simp) (Or.inr (Nat.le_refl _))
      | exact REST2 ((M5.put 0 (.int .i64 t.la)).put 1 (.slice ah0 r.length ch0)) ((hR.iv (iv_set _ _ 0 _) (Or.inr zk)).iv (iv_set _ _ 1 _) (Or.inr zk)) (by first | exact z2 | (simp only [World.size_alloc]; omega)) (by simp) (Or.inl zk)
  go_region_held3 (fun w' => w'.cell? ⟨w.heap.size, 0, none⟩ = some (.int .i64 t.la) ∧ w'.cell? ⟨w.heap.size, 1, none⟩ = some (.slice t.a t.ts.length t.cap) ∧ w'.cell? ⟨w.heap.size + 1, 0, none⟩ = some (.int .i64 u.k) ∧ w'.cell? ⟨w.heap.size + 1, 1, none⟩ = some (.string u.nm) ∧ w'.cell? ⟨w.heap.size + 1, 2, none⟩ = some (.int .i64 u.n) ∧ w'.cell? ⟨w.heap.size + 1, 3, none⟩ = some (.int .i64 u.p.q) ∧ w'.cell? ⟨w.heap.size + 1, 4, none⟩ = some (.int .i64 u.p.s) ∧ w'.cell? ⟨w.heap.size + 1, 5, none⟩ = some (.slice u.p.a u.p.l.length u.p.cap) ∧ w'.cell? ⟨w.heap.size + 1, 6, none⟩ = some (.int .i64 u.p.fr) ∧ w'.cell? ⟨w.heap.size + 1, 7, none⟩ = some (.int .i64 u.p.b))
    (first | with_reducible exact hear_cells M5 | with_reducible exact hear_cells M4 | with_reducible exact hear_cells M3 | with_reducible exact hear_cells M2 | with_reducible exact hear_cells M5.both | with_reducible exact hear_cells M4.both | with_reducible exact hear_cells M3.both | with_reducible exact hear_cells MA | with_reducible exact hear_cells ((M5.put 0 (.int .i64 t.la)).put 1 (.slice as0 r.length cs0)).both | with_reducible exact hear_cells (M5.keep (bel1 (.cells #[.int .i64 t.la, .slice as0 r.length cs0] 37))) | with_reducible exact hear_cells (M5.keep (bel1 (.cells #[.int .i64 0, .slice none 0 0] 37))) | with_reducible exact hear_cells (M4.keep (bel1 (.cells #[.int .i64 0, .slice none 0 0] 37))) | with_reducible exact hear_cells (M3.keep (bel1 (.cells #[.int .i64 0, .slice none 0 0] 37))))
    (first
      | (go_at_call 7; refine (toBook_put t _ hlt hst (by first | exact (ht.below M2.old) | exact (ht.below MA.old))).mono ?_; rintro e p1 ⟨gp, rfl, hgp, hp1, hb1⟩; first | (have M3 := M2.keep hb1) | (have M3 := MC.keep hb1; obtain ⟨k0, k1⟩ := hear_box M3.box; have kf := M3.box.f))
      | (go_at_call 16; refine (toWord_put u _ hlu (by first | exact (hu.below M3.old hu.lt) | exact (hu.below M3.both.old hu.lt) | exact (hu.below (M3.keep (bel1 (.cells #[.int .i64 0, .slice none 0 0] 37))).old hu.lt))).mono ?_; rintro e p2 ⟨gq, rfl, hgq, hp2, hb2⟩; have hq2 : Below p1.heap.size p1 p2 := (by first | exact hb2 | exact (bel1 (.cells #[.int .i64 0, .slice none 0 0] 37)).trans (hb2.mono (by simp))); first | (have M4 := M3.keep hb2; have z2 : w.heap.size + 1 < p2.heap.size := (by first | exact M4.two.lt | exact M4.both.two.lt); try (obtain ⟨k0, k1⟩ := hear_box M4.box; have kf := M4.box.f)) | (have M4 := (TwoB.new M3 #[.int .i64 0, .slice none 0 0] 37).keep hb2; have z2 : w.heap.size + 1 < p2.heap.size := M4.both.two.lt; obtain ⟨k0, k1⟩ := hear_box M4.box; have kf := M4.box.f))
      | (go_at_call 15; refine (hSp _ _ _ _ _ (by first | exact hp1.below hq2 | exact (hp1.below hq2).below (bel1 (.cells #[.int .i64 0, .slice none 0 0] 37))) (by first | exact hp2 | exact hp2.below (bel1 (.cells #[.int .i64 0, .slice none 0 0] 37)))).mono ?_; rintro e p3 ⟨as0, cs0, rfl, hR, hb3⟩; first | (have M5 := M4.keep hb3; try (have zk := M4.box.lt; obtain ⟨k0, k1⟩ := hear_box M5.box; have kf := M5.box.f)) | (have zk : p2.heap.size < (p2.alloc (.cells #[.int .i64 0, .slice none 0 0] 37)).heap.size := (by simp); have M5 := (TwoB.new M4 #[.int .i64 0, .slice none 0 0] 37).keep hb3; obtain ⟨k0, k1⟩ := hear_box M5.box; have kf := M5.box.f))
      | fail)
  all_goals first
    | exact REST1 (TwoB.new M5 #[.int .i64 t.la, .slice as0 r.length cs0] 37) (hR.below (bel1 _)) (by first | exact z2 | (simp only [World.size_alloc]; omega)) (by simp) (Or.inr (Nat.le_refl _))
    | exact REST1 ((M5.put 0 (.int .i64 t.la)).put 1 (.slice as0 r.length cs0)) ((hR.iv (iv_set _ _ 0 _) (Or.inr zk)).iv (iv_set _ _ 1 _) (Or.inr zk)) (by first | exact z2 | (simp only [World.size_alloc]; omega)) (by simp) (Or.inl zk)
theorem hearLaw_all (t : Bk) (u : Wd) (w : World)  (hnt : t.ts.length ≤ maxLen) (htt : ∀ u ∈ t.ts, u.nm.size ≤ maxLen ∧ u.p.l.length ≤ maxLen ∧ u.x.l.length ≤ maxLen) (hnu : u.nm.size ≤ maxLen) (hbu : u.p.l.length ≤ maxLen) (ht : BkAt w t) (hu : PtAt w u.p) :
    Calls Try.prog 4 #[.agg #[.int .i64 t.la, .slice t.a t.ts.length t.cap], .agg #[.int .i64 u.k, .string u.nm, .int .i64 u.n, .int .i64 u.p.q, .int .i64 u.p.s, .slice u.p.a u.p.l.length u.p.cap, .int .i64 u.p.fr, .int .i64 u.p.b]] w fun e w' => e = .returned (.bool true) ∧ Below w.heap.size w w' := by
  by_cases hsmt : leftHs 1048576 t.ts < 0
  · exact hearLaw_big0 t u w hnt htt hnu hbu ht hu   hsmt
  by_cases hsmu : leftN (leftHs 1048576 t.ts) u.nm.size u.p.l.length < 0
  · exact hearLaw_big1 t u w hnt htt hnu hbu ht hu   hsmt hsmu
  exact hearLaw_any t u w  hnt htt hnu hbu ht hu   hsmt hsmu
end Go.Proofs.Ytfcobpaaeijkoaa

namespace Go.Proofs.Ytfcobpaaeijkoaa
open Go.ChangeShapes Go.WideShapes Go.ChangeAt Go.RowKit

section
variable {H : Type} {enc : TypeId × Value → H} {w : World} {base : Nat} {spare : Nat → Bool} {held : Bool}

theorem some_of_get {α : Type} {r : Option α} {xs : List α} {n i : Nat} (h : r = xs[i]?) (hl : xs.length = n) (hi : i < n) : ∃ y, r = some y :=
  ⟨xs[i]'(by omega), by rw [h]; exact List.getElem?_eq_getElem (by omega)⟩
theorem list2 {α : Type} {l : List α} (h : l.length = 2) : ∃ a b, l = [a, b] := by
  match l, h with
  | [a, b], _ => exact ⟨a, b, rfl⟩
theorem list5 {α : Type} {l : List α} (h : l.length = 5) : ∃ a b c d e, l = [a, b, c, d, e] := by
  match l, h with
  | [a, b, c, d, e], _ => exact ⟨a, b, c, d, e, rfl⟩
theorem list7 {α : Type} {l : List α} (h : l.length = 7) : ∃ a b c d e f g, l = [a, b, c, d, e, f, g] := by
  match l, h with
  | [a, b, c, d, e, f, g], _ => exact ⟨a, b, c, d, e, f, g, rfl⟩

theorem cells_int : Try.prog.cellsOf 3 = 1 := by kernel_rfl
theorem cells_bool : Try.prog.cellsOf 4 = 1 := by kernel_rfl
theorem cells_kind : Try.prog.cellsOf 44 = 2 := by kernel_rfl
theorem cells_step : Try.prog.cellsOf 112 = 7 := by kernel_rfl
theorem cells_steps : Try.prog.cellsOf 45 = 1 := by kernel_rfl
theorem cells_path : Try.prog.cellsOf 47 = 5 := by kernel_rfl

theorem open_kind {fuel : Nat} {cs : List Value} {x : DataW H × List MemPlace} (h : DataW.trod enc Try.prog w base spare held fuel 44 cs = some x) : ∃ q s : Int, cs = [.int .i64 q, .int .i64 s] := by
  obtain ⟨xs, n, _, _, hlen, hxl, hf⟩ := DataW.trod_struct Try.underlying44 h
  rw [cells_kind] at hlen
  obtain ⟨c0, c1, rfl⟩ := list2 hlen
  obtain ⟨y0, h0⟩ := some_of_get (hf 0 _ rfl) hxl (by decide)
  obtain ⟨y1, h1⟩ := some_of_get (hf 1 _ rfl) hxl (by decide)
  obtain ⟨a0, e0, _⟩ := DataW.trod_int Try.underlying3 h0
  obtain ⟨a1, e1, _⟩ := DataW.trod_int Try.underlying3 h1
  simp [cells_int] at e0 e1
  exact ⟨a0, a1, by rw [e0, e1]⟩

theorem open_step {fuel : Nat} {cs : List Value} {x : DataW H × List MemPlace} (h : DataW.trod enc Try.prog w base spare held fuel 112 cs = some x) : ∃ s : Stp, cs = s.cells := by
  obtain ⟨xs, n, _, _, hlen, hxl, hf⟩ := DataW.trod_struct Try.underlying112 h
  rw [cells_step] at hlen
  obtain ⟨c0, c1, c2, c3, c4, c5, c6, rfl⟩ := list7 hlen
  obtain ⟨y0, h0⟩ := some_of_get (hf 0 _ rfl) hxl (by decide)
  obtain ⟨y1, h1⟩ := some_of_get (hf 1 _ rfl) hxl (by decide)
  obtain ⟨y2, h2⟩ := some_of_get (hf 2 _ rfl) hxl (by decide)
  obtain ⟨y3, h3⟩ := some_of_get (hf 3 _ rfl) hxl (by decide)
  obtain ⟨y4, h4⟩ := some_of_get (hf 4 _ rfl) hxl (by decide)
  obtain ⟨y5, h5⟩ := some_of_get (hf 5 _ rfl) hxl (by decide)
  obtain ⟨y6, h6⟩ := some_of_get (hf 6 _ rfl) hxl (by decide)
  obtain ⟨a0, e0, _⟩ := DataW.trod_int Try.underlying3 h0
  obtain ⟨a1, e1, _⟩ := DataW.trod_int Try.underlying3 h1
  obtain ⟨a2, e2, _⟩ := DataW.trod_int Try.underlying3 h2
  obtain ⟨a3, e3, _⟩ := DataW.trod_int Try.underlying3 h3
  obtain ⟨a4, e4, _⟩ := DataW.trod_int Try.underlying3 h4
  obtain ⟨a5, e5, _⟩ := DataW.trod_int Try.underlying3 h5
  obtain ⟨a6, e6, _⟩ := DataW.trod_bool Try.underlying4 h6
  simp [cells_int, cells_bool] at e0 e1 e2 e3 e4 e5 e6
  exact ⟨⟨a0, a1, a2, a3, a4, a5, a6⟩, by rw [e0, e1, e2, e3, e4, e5, e6]⟩

theorem open_steps {fuel : Nat} {cs : List Value} {x : DataW H × List MemPlace} (h : DataW.trod enc Try.prog w base spare held fuel 45 cs = some x) :
    ∃ (a : Option Addr) (b o cap : Nat) (l : List Stp), cs = [.slice a l.length cap] ∧ l.length ≤ maxLen ∧ StepsAt w a b o l := by
  rcases Go.Deep.open_slice Try.underlying45 h with ⟨rfl, _⟩ | ⟨a, len, cap, m, n, D, Pl, rfl, _, hl, hm, hmm, _, hx⟩
  · exact ⟨none, 0, 0, 0, [], rfl, by simp, ⟨fun h => absurd rfl h, fun h => absurd rfl h, fun i s hi => by simp at hi⟩⟩
  · have hml : len ≤ m := by rw [hmm]; split <;> omega
    rw [cells_step] at hx
    have h1 : ∀ i, i < len → ∃ s : Stp, w.cells? base (a.add (i * 7)) 7 = some s.cells := fun i hi => by
      obtain ⟨cs', hc, ht⟩ := hx i (by omega)
      obtain ⟨s, rfl⟩ := open_step ht
      exact ⟨s, hc⟩
    have : Inhabited Stp := ⟨.zero⟩
    obtain ⟨f, hf⟩ := Go.Deep.choose_lt h1
    obtain ⟨b, o, sp⟩ := a
    rcases Nat.eq_zero_or_pos len with e | h0
    · subst e
      exact ⟨some ⟨b, o, sp⟩, b, o, cap, [], rfl, by simp, ⟨fun h => absurd rfl h, fun h => absurd rfl h, fun i s hi => by simp at hi⟩⟩
    have hsp : sp = none := by
      obtain ⟨_, _, hget⟩ := World.cells?_some (hf 0 h0)
      have h2 := hget 0 (by omega)
      rw [Go.Deep.add_add] at h2
      exact World.cell?_spot (a := (⟨b, o, sp⟩ : Addr)) (v := .int .i64 (f 0).x) (by simpa [Addr.add] using h2)
    subst hsp
    have hcell : ∀ i, i < len → ∀ j v, (f i).cells[j]? = some v → w.cell? ⟨b, o + i * 7 + j, none⟩ = some v := fun i hi j v hv => by
      obtain ⟨_, hln, hget⟩ := World.cells?_some (hf i hi)
      have hj : j < 7 := by rw [← hln]; exact (List.getElem?_eq_some_iff.1 hv).1
      have h2 := hget j hj
      rw [hv, Go.Deep.add_add, Addr.add_mid] at h2
      rw [Nat.add_assoc]
      exact h2
    refine ⟨some ⟨b, o, none⟩, b, o, cap, (List.range len).map f, by simp, by simp; omega, ⟨fun _ => rfl, fun _ => World.block_lt_of_cell? w _ (hcell 0 h0 0 _ rfl), fun i s hi => ?_⟩⟩
    simp only [List.getElem?_map, Option.map_eq_some_iff] at hi
    obtain ⟨k, hk, rfl⟩ := hi
    obtain ⟨hil, rfl⟩ : i < len ∧ i = k := by
      rw [List.getElem?_eq_some_iff] at hk
      obtain ⟨h1, h2⟩ := hk
      simp at h1 h2
      exact ⟨h1, h2⟩
    exact fun j v hv => hcell i hil j v hv

theorem open_path {fuel : Nat} {cs : List Value} {x : DataW H × List MemPlace} (h : DataW.trod enc Try.prog w base spare held fuel 47 cs = some x) :
    ∃ (q s fr b : Int) (a : Option Addr) (b0 o cap : Nat) (l : List Stp), cs = [.int .i64 q, .int .i64 s, .slice a l.length cap, .int .i64 fr, .int .i64 b] ∧ l.length ≤ maxLen ∧ StepsAt w a b0 o l := by
  obtain ⟨xs, n, _, _, hlen, hxl, hf⟩ := DataW.trod_struct Try.underlying47 h
  rw [cells_path] at hlen
  obtain ⟨c0, c1, c2, c3, c4, rfl⟩ := list5 hlen
  obtain ⟨y0, h0⟩ := some_of_get (hf 0 _ rfl) hxl (by decide)
  obtain ⟨y1, h1⟩ := some_of_get (hf 1 _ rfl) hxl (by decide)
  obtain ⟨y2, h2⟩ := some_of_get (hf 2 _ rfl) hxl (by decide)
  obtain ⟨y3, h3⟩ := some_of_get (hf 3 _ rfl) hxl (by decide)
  obtain ⟨q, s, e0⟩ := open_kind h0
  obtain ⟨a, b0, o, cap, l, e1, hl, hs⟩ := open_steps h1
  obtain ⟨a2, e2, _⟩ := DataW.trod_int Try.underlying3 h2
  obtain ⟨a3, e3, _⟩ := DataW.trod_int Try.underlying3 h3
  simp [cells_int, cells_kind, cells_steps] at e0 e1 e2 e3
  exact ⟨q, s, a2, a3, a, b0, o, cap, l, by rw [e0.1, e0.2, e1, e2, e3], hl, hs⟩

set_option maxRecDepth 20000 in
theorem open_pathArg {r : Reach} {b : Nat} {v : Value} {d : DataW H} {p : List MemPlace} (hv : Value.okWide Try.prog w r b 47 v) (h : DataW.Trod enc Try.prog w base spare held 47 v d p) :
    ∃ (q s fr b : Int) (a : Option Addr) (b0 o cap : Nat) (l : List Stp), v = .agg #[.int .i64 q, .int .i64 s, .slice a l.length cap, .int .i64 fr, .int .i64 b] ∧ l.length ≤ maxLen ∧ StepsAt w a b0 o l := by
  obtain ⟨cs, rfl, _⟩ := okWide_struct Try.underlying47 hv
  obtain ⟨fuel, hf⟩ := h
  obtain ⟨q, s, fr, b, a, b0, o, cap, l, e, hl, hs⟩ := open_path hf
  refine ⟨q, s, fr, b, a, b0, o, cap, l, ?_, hl, hs⟩
  simp [Value.cells] at e
  rw [← e]
end
end Go.Proofs.Ytfcobpaaeijkoaa

namespace Go.Proofs.Ytfcobpaaeijkoaa
open Go.ChangeShapes Go.WideShapes Go.ChangeAt Go.RowKit

section
variable {H : Type} {enc : TypeId × Value → H} {w : World} {base : Nat} {spare : Nat → Bool} {held : Bool}
set_option maxRecDepth 20000 in
theorem open_strArg {r : Reach} {b : Nat} {v : Value} {d : DataW H} {p : List MemPlace} (hv : Value.okWide Try.prog w r b 9 v) (h : DataW.Trod enc Try.prog w base spare held 9 v d p) :
    ∃ s : ByteArray, v = .string s ∧ s.size ≤ maxLen := by
  obtain ⟨s, rfl⟩ := okWide_string Try.underlying9 hv
  obtain ⟨fuel, hf⟩ := h
  obtain ⟨s', e, _, hs⟩ := DataW.trod_string Try.underlying9 hf
  simp [Value.cells] at e
  subst e
  exact ⟨_, rfl, hs⟩
end
end Go.Proofs.Ytfcobpaaeijkoaa
