/- Joined texts: LkPastS, LkSeq, ILeaf, Impl, ImplPath, Follow, Follow2. -/
import Derived.RangeFuncNested
import Derived.RangeFuncBound
import Derived.RangeFuncCalls
import Derived.RangeFuncLeaves
import Derived.Shelf.Abstract
import Derived.Shelf.RegionOpen
import Derived.WalkKit
import Derived.OwnWalkIn
import Derived.TacticsInMore
import Derived.LoopNIn
import Derived.LoopIn
import Derived.Stop.RegionWithIn
import Derived.WalkSpells
import Derived.Test.YtfmdejilhbankaaGreatRows
import Derived.Test.YtfmdejilhbankaaGreatLkCopyB0
import Derived.Test.YtfmdejilhbankaaGreatJ04
import Derived.Test.YtfmdejilhbankaaGreatLkBook
import Derived.Test.YtfmdejilhbankaaGreatPbBel
import Derived.Test.YtfmdejilhbankaaGreatData
import Derived.Test.YtfmdejilhbankaaGreatData2
import Derived.Test.YtfmdejilhbankaaGreatCls
namespace Go.Proofs.YtfmdejilhbankaaGreat
open Go.RowKit

theorem keysF_len {ts us : List Hd} {k : Nat} {now : Int} (h : us.map Hd.key = ((ts.take k).filter (goesH now)).map Hd.key) : us.length ≤ k := by
  have e := congrArg List.length h
  rw [List.length_map, List.length_map] at e
  rw [e]
  exact Nat.le_trans (List.length_filter_le _ _) (by rw [List.length_take]; omega)
theorem keysF_push {ts us : List Hd} {k : Nat} {t u : Hd} {now : Int} (h : us.map Hd.key = ((ts.take k).filter (goesH now)).map Hd.key) (ht : ts[k]? = some t) (hg : goesH now t = true) (hu : u.key = t.key) : (us ++ [u]).map Hd.key = ((ts.take (k + 1)).filter (goesH now)).map Hd.key := by
  rw [List.take_add_one, ht, List.filter_append, List.map_append, List.map_append, h]
  simp [hu, hg]
theorem keysF_skip {ts us : List Hd} {k : Nat} {t : Hd} {now : Int} (h : us.map Hd.key = ((ts.take k).filter (goesH now)).map Hd.key) (ht : ts[k]? = some t) (hg : goesH now t = false) : us.map Hd.key = ((ts.take (k + 1)).filter (goesH now)).map Hd.key := by
  rw [List.take_add_one, ht, List.filter_append, List.map_append, h]
  simp [hg]

set_option maxHeartbeats 4000000 in
set_option maxRecDepth 20000 in
theorem linkPastS_any (la now : Int) (a : Option Addr) (b o cap : Nat) (ts : List Hd) (w : World) (hnow : -9223372036854775808 ≤ now) (hl : ts.length ≤ 1048576) (hsm : ∀ t ∈ ts, t.p.l.length ≤ 1048576 ∧ t.x.l.length ≤ 1048576) (hs : HdsAt w a b o ts) :
    Calls Tryz.prog 16 #[.agg #[.int .i64 la, .slice a ts.length cap], .int .i64 now] w
      fun e w' => ∃ (v : Value) (us : List Hd), e = .returned (.agg #[.int .i64 la, v]) ∧ us.map Hd.key = (ts.map Hd.key).filter (goesK now) ∧ BkOwn w' w.heap.size v us ∧ Below w.heap.size w w' := by
  obtain ⟨i0, hi, hz0, hz1, hz2⟩ := info_parts held_info
  have C0 : CbW w (((w.alloc (.cells #[.int .i64 la, .slice a ts.length cap] 29)).alloc (.cells #[.int .i64 0, .slice none 0 0] 29)).alloc (.cells #[.int .i64 la, .slice none 0 0] 29)) la (.slice a ts.length cap) (.slice none 0 0) [] := by
    refine ⟨bel3 _ _ _, ((Cbx.new w #[.int .i64 la, .slice a ts.length cap] 29).keep (bel1 _)).keep (bel1 _), ?_, ?_, BkOwn.nil _ _⟩
    · have h := (Cbx.new (w.alloc (.cells #[.int .i64 la, .slice a ts.length cap] 29)) #[.int .i64 0, .slice none 0 0] 29).keep (bel1 (.cells #[.int .i64 la, .slice none 0 0] 29))
      rwa [World.size_alloc] at h
    · have h := Cbx.new ((w.alloc (.cells #[.int .i64 la, .slice a ts.length cap] 29)).alloc (.cells #[.int .i64 0, .slice none 0 0] 29)) #[.int .i64 la, .slice none 0 0] 29
      rwa [World.size_alloc, World.size_alloc] at h
  go_enter Tryz.func16, Tryz.ntmps16
  go_wp2
  go_loopw [6] (fun x wr => ∃ (k : Nat) (v : Value) (us : List Hd), k ≤ ts.length ∧ x = .int .i64 k ∧ CbW w wr la (.slice a ts.length cap) v us ∧ us.map Hd.key = ((ts.take k).filter (goesH now)).map Hd.key) (fun x _ => ts.length - (intOf x).toNat)
  case atStart => exact ⟨0, _, [], Nat.zero_le _, rfl, C0, rfl⟩
  case round =>
    clear C0
    obtain ⟨k, v, us, hk, rfl, hC, hK⟩ := hrel
    have t1 : wr.cell? ⟨w.heap.size, 1, none⟩ = some (.slice a ts.length cap) := hC.arg.c 1
    by_cases hlt : k < ts.length
    · obtain ⟨t, htk⟩ : ∃ t, ts[k]? = some t := ⟨ts[k], List.getElem?_eq_getElem hlt⟩
      have hne : ts ≠ [] := by intro e; subst e; simp at hlt
      obtain rfl := hs.here hne
      have hm := List.mem_of_getElem? htk
      obtain ⟨hpl, hxl⟩ := hsm t hm
      have hul := keysF_len hK
      have k0 : (0 : Int) ≤ (k : Int) := by omega
      have k1 : (k : Int) < (ts.length : Int) := by omega
      have HK : Hid (us.map Hd.key = ((ts.take k).filter (goesH now)).map Hd.key) := hK
      have HT : Hid (ts[k]? = some t) := htk
      have hus : us.length ≤ 1048576 := by omega
      have hbl : b < w.heap.size := hs.lt hne
      obtain ⟨a1, c1, rfl⟩ := own_slice hC.own.row
      obtain ⟨p0, p1, p2, p3, p4, p5, p6, p7, p8, p9, p10, p11, p12⟩ := cl_cells ((hs.below hC.old).cell k t htk)
      have hTp := (hs.each t hm).p.below hC.old (hs.each t hm).p.lt
      clear htk hK hul
      cases hvp : liveK t.p.key now with
      | true =>
        have HG : Hid (goesH now t = true) := by show _ = _; unfold goesH goesK; rw [show t.key.2.2.1 = t.p.key from rfl, hvp, Bool.true_or]
        have ov := overS_any t.p now wr true hnow hpl hTp hvp
        clear hvp
        go_wp2_with (go_at_call 42; refine ov.mono ?_; rintro e w5 ⟨rfl, hb5⟩)
        have C5 := hC.keep hb5
        clear p0 p1 p2 p3 p4 p5 p6 p7 p8 p9 p10 p11 p12 ov hTp t1
        have D : Below w5.heap.size w5 w5.drew := (Below.refl _ _).drew
        have hF : ∀ W : World, Below w5.heap.size w5 W → W.cell? ⟨w.heap.size, 1, none⟩ = some (.slice (some ⟨b, o, none⟩) ts.length cap) ∧ W.cell? ⟨w.heap.size + 1 + 1, 1, none⟩ = some (.slice a1 us.length c1) := fun W hb => ⟨(C5.keep hb).arg.c 1, (C5.keep hb).bk.c 1⟩
        have hL : ∀ W : World, Below w5.heap.size w5 W → W.rangeAt b (o + k * 13) t.cl := fun W hb => (hs.below (C5.old.trans (hb.mono C5.old.size))).cell k t HT.out
        have hH : ∀ W : World, Below w5.heap.size w5 W → HdAt W t := fun W hb => (hs.each t hm).below (C5.old.trans (hb.mono C5.old.size))
        obtain ⟨x1, y1⟩ := hF w5.drew D
        obtain ⟨c0, c1', c2, c3, c4, c5, c6, c7, c8, c9, c10, c11, c12⟩ := cl_cells (hL w5.drew D)
        have hE : ∀ (W1 w9 : World) (u : Hd) (a9 : Option Addr) (c9 : Nat), CbW w W1 la (.slice (some ⟨b, o, none⟩) ts.length cap) (.slice a1 us.length c1) us → u.key = t.key → HdOwn W1 (w.heap.size + 1 + 1 + 1) u → (∀ t ∈ us, HdApart t u) → w9.ownsRow (w.heap.size + 1 + 1 + 1) 52 13 (.slice a9 (us.length + 1) c9) (us.length + 1) (hdCells us ++ u.cl) → W1.grownBy w9 (Value.slice a1 us.length c1).ownBlock →
            ∃ (k' : Nat) (v : Value) (us' : List Hd), k' ≤ ts.length ∧ Value.int .i64 ((k : Int) + 1) = .int .i64 k' ∧ CbW w (w9.setCell ⟨w.heap.size + 1 + 1, 1, none⟩ (.slice a9 (us.length + 1) c9)) la (.slice (some ⟨b, o, none⟩) ts.length cap) v us' ∧ us'.map Hd.key = ((ts.take k').filter (goesH now)).map Hd.key := fun W1 w9 u a9 c9 h1 h2 h3 h4 h5 h6 =>
          ⟨k + 1, _, us ++ [u], by omega, by go_num, h1.push h5 h6 h3 h4, keysF_push HK.out HT.out HG.out h2⟩
        refine wp_region_any (by kernel_rfl) ?_
        change wpAny _ _ _ _ _ _ _ (World.drew _)
        refine wpAny_take (i := 0) (v := .pointer (some ⟨w.heap.size + 1 + 1, 1, none⟩)) rfl (by kernel_rfl) (by kernel_rfl) (by kernel_rfl) (fun _ _ _ h => h) (Or.inl ⟨by rfl, fun W => by go_simp⟩) ?_
        refine wpAny_take (i := 2) (v := .pointer (some ⟨w.heap.size, 1, none⟩)) rfl (by kernel_rfl) (by kernel_rfl) (by kernel_rfl) (fun _ _ _ h => h) (Or.inl ⟨by rfl, fun W => by go_simp⟩) ?_
        refine wpAny_take (i := 4) (v := .int .i64 (k : Int)) rfl (by kernel_rfl) (by kernel_rfl) (by kernel_rfl) (fun _ _ _ h => h) (Or.inl ⟨by rfl, fun W => by go_simp⟩) ?_
        refine wpAny_ready (rs := [1, 3]) (by kernel_rfl) (by simp) ?_
        refine AllReady.cons rfl (fun K hK => ?_) ?_
        · go_simp
          refine hK _ _ ?_
          clear hK K
          refine wpAny_ready (rs := [3]) (by kernel_rfl) (by simp) ?_
          refine AllReady.cons rfl (fun K hK => ?_) ?_
          · go_simp
            refine hK _ _ ?_
            clear hK K
            refine wpAny_take (i := 5) (v := .pointer (some ⟨b, o + k * 13, none⟩)) rfl (by kernel_rfl) (by kernel_rfl) (by kernel_rfl) (fun _ _ _ h => h) (Or.inl ⟨by rfl, fun W => by go_simp⟩) ?_
            refine wpAny_ready (rs := [6]) (by kernel_rfl) (by simp) ?_
            refine AllReady.cons rfl (fun K hK => ?_) ?_
            · go_simp
              refine hK _ _ ?_
              clear hK K
              refine wpAny_ready (rs := [7]) (by kernel_rfl) (by simp) ?_
              refine AllReady.cons rfl (fun K hK => ?_) ?_
              · go_simp
                refine (heldS_any t _ hpl hxl (hH _ D)).mono ?_
                rintro e w2 ⟨u, rfl, hu, hO, hb2⟩
                obtain ⟨x1', y1'⟩ := hF w2 (D.trans (hb2.mono D.size))
                refine hK _ _ ?_
                clear hK K
                refine wpAny_ready (rs := [8]) (by kernel_rfl) (by simp) ?_
                refine AllReady.cons rfl (fun K hK => ?_) ?_
                · go_simp
                  have CC := (C5.keep (D.trans (hb2.mono D.size))).keep (bel1 (.cells #[.string u.nm, .int .i64 u.n, .int .i64 u.p.q, .int .i64 u.p.s, .slice u.p.a u.p.l.length u.p.cap, .int .i64 u.p.fr, .int .i64 u.p.b, .int .i64 u.sn, .int .i64 u.x.q, .int .i64 u.x.s, .slice u.x.a u.x.l.length u.x.cap, .int .i64 u.x.fr, .int .i64 u.x.b] 52))
                  have OO := (hO.lower (base' := w.heap.size + 1 + 1 + 1) (by have := C5.bk.lt; have : w5.drew.heap.size = w5.heap.size := rfl; omega)).below (bel1 (.cells #[.string u.nm, .int .i64 u.n, .int .i64 u.p.q, .int .i64 u.p.s, .slice u.p.a u.p.l.length u.p.cap, .int .i64 u.p.fr, .int .i64 u.p.b, .int .i64 u.sn, .int .i64 u.x.q, .int .i64 u.x.s, .slice u.x.a u.x.l.length u.x.cap, .int .i64 u.x.fr, .int .i64 u.x.b] 52))
                  have AP := apart_new C5.own hO (Nat.le_refl _)
                  have yb : (w2.alloc (.cells #[.string u.nm, .int .i64 u.n, .int .i64 u.p.q, .int .i64 u.p.s, .slice u.p.a u.p.l.length u.p.cap, .int .i64 u.p.fr, .int .i64 u.p.b, .int .i64 u.sn, .int .i64 u.x.q, .int .i64 u.x.s, .slice u.x.a u.x.l.length u.x.cap, .int .i64 u.x.fr, .int .i64 u.x.b] 52)).cell? ⟨w.heap.size + 1 + 1, 1, none⟩ = some (.slice a1 us.length c1) := CC.bk.c 1
                  refine hK _ _ ?_
                  clear hK K
                  refine wpAny_ready (rs := [9]) (by kernel_rfl) (by simp) ?_
                  refine AllReady.cons rfl (fun K hK => ?_) ?_
                  · have zc := CC.bk.lt
                    rw [World.size_alloc] at zc
                    refine wp_append_own _ (.tmp 38) (.tmp 45) 27 rfl (w.heap.size + 1 + 1 + 1) 52 i0 (.agg #[.string ⟨#[]⟩, .int .i64 0, .int .i64 0, .int .i64 0, .slice none 0 0, .int .i64 0, .int .i64 0, .int .i64 0, .int .i64 0, .int .i64 0, .slice none 0 0, .int .i64 0, .int .i64 0]) 13 144 Tryz.underlying27 hi hz0 hz1 hz2 rfl (by decide) (.slice a1 us.length c1) us.length (hdCells us) rfl CC.own.row ⟨w2.heap.size, 0, none⟩ 1 1 u.cl rfl rfl (cl_newL w2 u _) (cl_one u) (by unfold maxLen; omega) (by omega) (by simp; omega) ?_
                    intro v9 w9 hown9 hgrow9 hnil9
                    obtain ⟨a9, c9', rfl⟩ := own_slice hown9
                    obtain ⟨g0, g1, g2⟩ := CC.grow hgrow9
                    have z0 : w9.cell? ⟨w.heap.size + 1 + 1, 0, none⟩ = some (.int .i64 la) := g2.c 0
                    have z1 : w9.cell? ⟨w.heap.size + 1 + 1, 1, none⟩ = some (.slice a1 us.length c1) := g2.c 1
                    have zf := g2.f
                    refine hK _ _ ?_
                    clear hK K
                    refine wpAny_take (i := 10) (v := .pointer (some ⟨w.heap.size + 1 + 1, 1, none⟩)) rfl (by kernel_rfl) (by kernel_rfl) (by kernel_rfl) (fun _ _ _ h => h) (Or.inl ⟨by rfl, fun W => by go_simp⟩) ?_
                    refine wpAny_ready (rs := [11]) (by kernel_rfl) (by simp) ?_
                    refine AllReady.cons rfl (fun K hK => ?_) ?_
                    · go_simp
                      refine hK _ _ ?_
                      clear hK K
                      refine wpAny_done (by kernel_rfl) ?_ _
                      go_wp2
                      go_roundw
                      case rel => exact hE _ _ u _ _ CC hu OO AP hown9 hgrow9
                      case measure => simp [intOf]; omega
                    exact AllReady.nil
                  exact AllReady.nil
                exact AllReady.nil
              exact AllReady.nil
            exact AllReady.nil
          exact AllReady.nil
        refine AllReady.cons rfl (fun K hK => ?_) ?_
        · go_simp
          refine hK _ _ ?_
          clear hK K
          refine wpAny_take (i := 5) (v := .pointer (some ⟨b, o + k * 13, none⟩)) rfl (by kernel_rfl) (by kernel_rfl) (by kernel_rfl) (fun _ _ _ h => h) (Or.inl ⟨by rfl, fun W => by go_simp⟩) ?_
          refine wpAny_ready (rs := [1, 6]) (by kernel_rfl) (by simp) ?_
          refine AllReady.cons rfl (fun K hK => ?_) ?_
          · go_simp
            refine hK _ _ ?_
            clear hK K
            refine wpAny_ready (rs := [6]) (by kernel_rfl) (by simp) ?_
            refine AllReady.cons rfl (fun K hK => ?_) ?_
            · go_simp
              refine hK _ _ ?_
              clear hK K
              refine wpAny_ready (rs := [7]) (by kernel_rfl) (by simp) ?_
              refine AllReady.cons rfl (fun K hK => ?_) ?_
              · go_simp
                refine (heldS_any t _ hpl hxl (hH _ D)).mono ?_
                rintro e w2 ⟨u, rfl, hu, hO, hb2⟩
                obtain ⟨x1', y1'⟩ := hF w2 (D.trans (hb2.mono D.size))
                refine hK _ _ ?_
                clear hK K
                refine wpAny_ready (rs := [8]) (by kernel_rfl) (by simp) ?_
                refine AllReady.cons rfl (fun K hK => ?_) ?_
                · go_simp
                  have CC := (C5.keep (D.trans (hb2.mono D.size))).keep (bel1 (.cells #[.string u.nm, .int .i64 u.n, .int .i64 u.p.q, .int .i64 u.p.s, .slice u.p.a u.p.l.length u.p.cap, .int .i64 u.p.fr, .int .i64 u.p.b, .int .i64 u.sn, .int .i64 u.x.q, .int .i64 u.x.s, .slice u.x.a u.x.l.length u.x.cap, .int .i64 u.x.fr, .int .i64 u.x.b] 52))
                  have OO := (hO.lower (base' := w.heap.size + 1 + 1 + 1) (by have := C5.bk.lt; have : w5.drew.heap.size = w5.heap.size := rfl; omega)).below (bel1 (.cells #[.string u.nm, .int .i64 u.n, .int .i64 u.p.q, .int .i64 u.p.s, .slice u.p.a u.p.l.length u.p.cap, .int .i64 u.p.fr, .int .i64 u.p.b, .int .i64 u.sn, .int .i64 u.x.q, .int .i64 u.x.s, .slice u.x.a u.x.l.length u.x.cap, .int .i64 u.x.fr, .int .i64 u.x.b] 52))
                  have AP := apart_new C5.own hO (Nat.le_refl _)
                  have yb : (w2.alloc (.cells #[.string u.nm, .int .i64 u.n, .int .i64 u.p.q, .int .i64 u.p.s, .slice u.p.a u.p.l.length u.p.cap, .int .i64 u.p.fr, .int .i64 u.p.b, .int .i64 u.sn, .int .i64 u.x.q, .int .i64 u.x.s, .slice u.x.a u.x.l.length u.x.cap, .int .i64 u.x.fr, .int .i64 u.x.b] 52)).cell? ⟨w.heap.size + 1 + 1, 1, none⟩ = some (.slice a1 us.length c1) := CC.bk.c 1
                  refine hK _ _ ?_
                  clear hK K
                  refine wpAny_ready (rs := [9]) (by kernel_rfl) (by simp) ?_
                  refine AllReady.cons rfl (fun K hK => ?_) ?_
                  · have zc := CC.bk.lt
                    rw [World.size_alloc] at zc
                    refine wp_append_own _ (.tmp 38) (.tmp 45) 27 rfl (w.heap.size + 1 + 1 + 1) 52 i0 (.agg #[.string ⟨#[]⟩, .int .i64 0, .int .i64 0, .int .i64 0, .slice none 0 0, .int .i64 0, .int .i64 0, .int .i64 0, .int .i64 0, .int .i64 0, .slice none 0 0, .int .i64 0, .int .i64 0]) 13 144 Tryz.underlying27 hi hz0 hz1 hz2 rfl (by decide) (.slice a1 us.length c1) us.length (hdCells us) rfl CC.own.row ⟨w2.heap.size, 0, none⟩ 1 1 u.cl rfl rfl (cl_newL w2 u _) (cl_one u) (by unfold maxLen; omega) (by omega) (by simp; omega) ?_
                    intro v9 w9 hown9 hgrow9 hnil9
                    obtain ⟨a9, c9', rfl⟩ := own_slice hown9
                    obtain ⟨g0, g1, g2⟩ := CC.grow hgrow9
                    have z0 : w9.cell? ⟨w.heap.size + 1 + 1, 0, none⟩ = some (.int .i64 la) := g2.c 0
                    have z1 : w9.cell? ⟨w.heap.size + 1 + 1, 1, none⟩ = some (.slice a1 us.length c1) := g2.c 1
                    have zf := g2.f
                    refine hK _ _ ?_
                    clear hK K
                    refine wpAny_take (i := 10) (v := .pointer (some ⟨w.heap.size + 1 + 1, 1, none⟩)) rfl (by kernel_rfl) (by kernel_rfl) (by kernel_rfl) (fun _ _ _ h => h) (Or.inl ⟨by rfl, fun W => by go_simp⟩) ?_
                    refine wpAny_ready (rs := [11]) (by kernel_rfl) (by simp) ?_
                    refine AllReady.cons rfl (fun K hK => ?_) ?_
                    · go_simp
                      refine hK _ _ ?_
                      clear hK K
                      refine wpAny_done (by kernel_rfl) ?_ _
                      go_wp2
                      go_roundw
                      case rel => exact hE _ _ u _ _ CC hu OO AP hown9 hgrow9
                      case measure => simp [intOf]; omega
                    exact AllReady.nil
                  exact AllReady.nil
                exact AllReady.nil
              exact AllReady.nil
            exact AllReady.nil
          refine AllReady.cons rfl (fun K hK => ?_) ?_
          · go_simp
            refine hK _ _ ?_
            clear hK K
            refine wpAny_ready (rs := [1, 7]) (by kernel_rfl) (by simp) ?_
            refine AllReady.cons rfl (fun K hK => ?_) ?_
            · go_simp
              refine hK _ _ ?_
              clear hK K
              refine wpAny_ready (rs := [7]) (by kernel_rfl) (by simp) ?_
              refine AllReady.cons rfl (fun K hK => ?_) ?_
              · go_simp
                refine (heldS_any t _ hpl hxl (hH _ D)).mono ?_
                rintro e w2 ⟨u, rfl, hu, hO, hb2⟩
                obtain ⟨x1', y1'⟩ := hF w2 (D.trans (hb2.mono D.size))
                refine hK _ _ ?_
                clear hK K
                refine wpAny_ready (rs := [8]) (by kernel_rfl) (by simp) ?_
                refine AllReady.cons rfl (fun K hK => ?_) ?_
                · go_simp
                  have CC := (C5.keep (D.trans (hb2.mono D.size))).keep (bel1 (.cells #[.string u.nm, .int .i64 u.n, .int .i64 u.p.q, .int .i64 u.p.s, .slice u.p.a u.p.l.length u.p.cap, .int .i64 u.p.fr, .int .i64 u.p.b, .int .i64 u.sn, .int .i64 u.x.q, .int .i64 u.x.s, .slice u.x.a u.x.l.length u.x.cap, .int .i64 u.x.fr, .int .i64 u.x.b] 52))
                  have OO := (hO.lower (base' := w.heap.size + 1 + 1 + 1) (by have := C5.bk.lt; have : w5.drew.heap.size = w5.heap.size := rfl; omega)).below (bel1 (.cells #[.string u.nm, .int .i64 u.n, .int .i64 u.p.q, .int .i64 u.p.s, .slice u.p.a u.p.l.length u.p.cap, .int .i64 u.p.fr, .int .i64 u.p.b, .int .i64 u.sn, .int .i64 u.x.q, .int .i64 u.x.s, .slice u.x.a u.x.l.length u.x.cap, .int .i64 u.x.fr, .int .i64 u.x.b] 52))
                  have AP := apart_new C5.own hO (Nat.le_refl _)
                  have yb : (w2.alloc (.cells #[.string u.nm, .int .i64 u.n, .int .i64 u.p.q, .int .i64 u.p.s, .slice u.p.a u.p.l.length u.p.cap, .int .i64 u.p.fr, .int .i64 u.p.b, .int .i64 u.sn, .int .i64 u.x.q, .int .i64 u.x.s, .slice u.x.a u.x.l.length u.x.cap, .int .i64 u.x.fr, .int .i64 u.x.b] 52)).cell? ⟨w.heap.size + 1 + 1, 1, none⟩ = some (.slice a1 us.length c1) := CC.bk.c 1
                  refine hK _ _ ?_
                  clear hK K
                  refine wpAny_ready (rs := [9]) (by kernel_rfl) (by simp) ?_
                  refine AllReady.cons rfl (fun K hK => ?_) ?_
                  · have zc := CC.bk.lt
                    rw [World.size_alloc] at zc
                    refine wp_append_own _ (.tmp 38) (.tmp 45) 27 rfl (w.heap.size + 1 + 1 + 1) 52 i0 (.agg #[.string ⟨#[]⟩, .int .i64 0, .int .i64 0, .int .i64 0, .slice none 0 0, .int .i64 0, .int .i64 0, .int .i64 0, .int .i64 0, .int .i64 0, .slice none 0 0, .int .i64 0, .int .i64 0]) 13 144 Tryz.underlying27 hi hz0 hz1 hz2 rfl (by decide) (.slice a1 us.length c1) us.length (hdCells us) rfl CC.own.row ⟨w2.heap.size, 0, none⟩ 1 1 u.cl rfl rfl (cl_newL w2 u _) (cl_one u) (by unfold maxLen; omega) (by omega) (by simp; omega) ?_
                    intro v9 w9 hown9 hgrow9 hnil9
                    obtain ⟨a9, c9', rfl⟩ := own_slice hown9
                    obtain ⟨g0, g1, g2⟩ := CC.grow hgrow9
                    have z0 : w9.cell? ⟨w.heap.size + 1 + 1, 0, none⟩ = some (.int .i64 la) := g2.c 0
                    have z1 : w9.cell? ⟨w.heap.size + 1 + 1, 1, none⟩ = some (.slice a1 us.length c1) := g2.c 1
                    have zf := g2.f
                    refine hK _ _ ?_
                    clear hK K
                    refine wpAny_take (i := 10) (v := .pointer (some ⟨w.heap.size + 1 + 1, 1, none⟩)) rfl (by kernel_rfl) (by kernel_rfl) (by kernel_rfl) (fun _ _ _ h => h) (Or.inl ⟨by rfl, fun W => by go_simp⟩) ?_
                    refine wpAny_ready (rs := [11]) (by kernel_rfl) (by simp) ?_
                    refine AllReady.cons rfl (fun K hK => ?_) ?_
                    · go_simp
                      refine hK _ _ ?_
                      clear hK K
                      refine wpAny_done (by kernel_rfl) ?_ _
                      go_wp2
                      go_roundw
                      case rel => exact hE _ _ u _ _ CC hu OO AP hown9 hgrow9
                      case measure => simp [intOf]; omega
                    exact AllReady.nil
                  exact AllReady.nil
                exact AllReady.nil
              exact AllReady.nil
            refine AllReady.cons rfl (fun K hK => ?_) ?_
            · go_simp
              refine (heldS_any t _ hpl hxl (hH _ D)).mono ?_
              rintro e w2 ⟨u, rfl, hu, hO, hb2⟩
              obtain ⟨x1', y1'⟩ := hF w2 (D.trans (hb2.mono D.size))
              refine hK _ _ ?_
              clear hK K
              refine wpAny_ready (rs := [1, 8]) (by kernel_rfl) (by simp) ?_
              refine AllReady.cons rfl (fun K hK => ?_) ?_
              · go_simp
                refine hK _ _ ?_
                clear hK K
                refine wpAny_ready (rs := [8]) (by kernel_rfl) (by simp) ?_
                refine AllReady.cons rfl (fun K hK => ?_) ?_
                · go_simp
                  have CC := (C5.keep (D.trans (hb2.mono D.size))).keep (bel1 (.cells #[.string u.nm, .int .i64 u.n, .int .i64 u.p.q, .int .i64 u.p.s, .slice u.p.a u.p.l.length u.p.cap, .int .i64 u.p.fr, .int .i64 u.p.b, .int .i64 u.sn, .int .i64 u.x.q, .int .i64 u.x.s, .slice u.x.a u.x.l.length u.x.cap, .int .i64 u.x.fr, .int .i64 u.x.b] 52))
                  have OO := (hO.lower (base' := w.heap.size + 1 + 1 + 1) (by have := C5.bk.lt; have : w5.drew.heap.size = w5.heap.size := rfl; omega)).below (bel1 (.cells #[.string u.nm, .int .i64 u.n, .int .i64 u.p.q, .int .i64 u.p.s, .slice u.p.a u.p.l.length u.p.cap, .int .i64 u.p.fr, .int .i64 u.p.b, .int .i64 u.sn, .int .i64 u.x.q, .int .i64 u.x.s, .slice u.x.a u.x.l.length u.x.cap, .int .i64 u.x.fr, .int .i64 u.x.b] 52))
                  have AP := apart_new C5.own hO (Nat.le_refl _)
                  have yb : (w2.alloc (.cells #[.string u.nm, .int .i64 u.n, .int .i64 u.p.q, .int .i64 u.p.s, .slice u.p.a u.p.l.length u.p.cap, .int .i64 u.p.fr, .int .i64 u.p.b, .int .i64 u.sn, .int .i64 u.x.q, .int .i64 u.x.s, .slice u.x.a u.x.l.length u.x.cap, .int .i64 u.x.fr, .int .i64 u.x.b] 52)).cell? ⟨w.heap.size + 1 + 1, 1, none⟩ = some (.slice a1 us.length c1) := CC.bk.c 1
                  refine hK _ _ ?_
                  clear hK K
                  refine wpAny_ready (rs := [9]) (by kernel_rfl) (by simp) ?_
                  refine AllReady.cons rfl (fun K hK => ?_) ?_
                  · have zc := CC.bk.lt
                    rw [World.size_alloc] at zc
                    refine wp_append_own _ (.tmp 38) (.tmp 45) 27 rfl (w.heap.size + 1 + 1 + 1) 52 i0 (.agg #[.string ⟨#[]⟩, .int .i64 0, .int .i64 0, .int .i64 0, .slice none 0 0, .int .i64 0, .int .i64 0, .int .i64 0, .int .i64 0, .int .i64 0, .slice none 0 0, .int .i64 0, .int .i64 0]) 13 144 Tryz.underlying27 hi hz0 hz1 hz2 rfl (by decide) (.slice a1 us.length c1) us.length (hdCells us) rfl CC.own.row ⟨w2.heap.size, 0, none⟩ 1 1 u.cl rfl rfl (cl_newL w2 u _) (cl_one u) (by unfold maxLen; omega) (by omega) (by simp; omega) ?_
                    intro v9 w9 hown9 hgrow9 hnil9
                    obtain ⟨a9, c9', rfl⟩ := own_slice hown9
                    obtain ⟨g0, g1, g2⟩ := CC.grow hgrow9
                    have z0 : w9.cell? ⟨w.heap.size + 1 + 1, 0, none⟩ = some (.int .i64 la) := g2.c 0
                    have z1 : w9.cell? ⟨w.heap.size + 1 + 1, 1, none⟩ = some (.slice a1 us.length c1) := g2.c 1
                    have zf := g2.f
                    refine hK _ _ ?_
                    clear hK K
                    refine wpAny_take (i := 10) (v := .pointer (some ⟨w.heap.size + 1 + 1, 1, none⟩)) rfl (by kernel_rfl) (by kernel_rfl) (by kernel_rfl) (fun _ _ _ h => h) (Or.inl ⟨by rfl, fun W => by go_simp⟩) ?_
                    refine wpAny_ready (rs := [11]) (by kernel_rfl) (by simp) ?_
                    refine AllReady.cons rfl (fun K hK => ?_) ?_
                    · go_simp
                      refine hK _ _ ?_
                      clear hK K
                      refine wpAny_done (by kernel_rfl) ?_ _
                      go_wp2
                      go_roundw
                      case rel => exact hE _ _ u _ _ CC hu OO AP hown9 hgrow9
                      case measure => simp [intOf]; omega
                    exact AllReady.nil
                  exact AllReady.nil
                exact AllReady.nil
              refine AllReady.cons rfl (fun K hK => ?_) ?_
              · go_simp
                have CC := (C5.keep (D.trans (hb2.mono D.size))).keep (bel1 (.cells #[.string u.nm, .int .i64 u.n, .int .i64 u.p.q, .int .i64 u.p.s, .slice u.p.a u.p.l.length u.p.cap, .int .i64 u.p.fr, .int .i64 u.p.b, .int .i64 u.sn, .int .i64 u.x.q, .int .i64 u.x.s, .slice u.x.a u.x.l.length u.x.cap, .int .i64 u.x.fr, .int .i64 u.x.b] 52))
                have OO := (hO.lower (base' := w.heap.size + 1 + 1 + 1) (by have := C5.bk.lt; have : w5.drew.heap.size = w5.heap.size := rfl; omega)).below (bel1 (.cells #[.string u.nm, .int .i64 u.n, .int .i64 u.p.q, .int .i64 u.p.s, .slice u.p.a u.p.l.length u.p.cap, .int .i64 u.p.fr, .int .i64 u.p.b, .int .i64 u.sn, .int .i64 u.x.q, .int .i64 u.x.s, .slice u.x.a u.x.l.length u.x.cap, .int .i64 u.x.fr, .int .i64 u.x.b] 52))
                have AP := apart_new C5.own hO (Nat.le_refl _)
                have yb : (w2.alloc (.cells #[.string u.nm, .int .i64 u.n, .int .i64 u.p.q, .int .i64 u.p.s, .slice u.p.a u.p.l.length u.p.cap, .int .i64 u.p.fr, .int .i64 u.p.b, .int .i64 u.sn, .int .i64 u.x.q, .int .i64 u.x.s, .slice u.x.a u.x.l.length u.x.cap, .int .i64 u.x.fr, .int .i64 u.x.b] 52)).cell? ⟨w.heap.size + 1 + 1, 1, none⟩ = some (.slice a1 us.length c1) := CC.bk.c 1
                refine hK _ _ ?_
                clear hK K
                refine wpAny_ready (rs := [1]) (by kernel_rfl) (by simp) ?_
                refine AllReady.cons rfl (fun K hK => ?_) ?_
                · go_simp
                  refine hK _ _ ?_
                  clear hK K
                  refine wpAny_ready (rs := [9]) (by kernel_rfl) (by simp) ?_
                  refine AllReady.cons rfl (fun K hK => ?_) ?_
                  · have zc := CC.bk.lt
                    rw [World.size_alloc] at zc
                    refine wp_append_own _ (.tmp 38) (.tmp 45) 27 rfl (w.heap.size + 1 + 1 + 1) 52 i0 (.agg #[.string ⟨#[]⟩, .int .i64 0, .int .i64 0, .int .i64 0, .slice none 0 0, .int .i64 0, .int .i64 0, .int .i64 0, .int .i64 0, .int .i64 0, .slice none 0 0, .int .i64 0, .int .i64 0]) 13 144 Tryz.underlying27 hi hz0 hz1 hz2 rfl (by decide) (.slice a1 us.length c1) us.length (hdCells us) rfl CC.own.row ⟨w2.heap.size, 0, none⟩ 1 1 u.cl rfl rfl (cl_newL w2 u _) (cl_one u) (by unfold maxLen; omega) (by omega) (by simp; omega) ?_
                    intro v9 w9 hown9 hgrow9 hnil9
                    obtain ⟨a9, c9', rfl⟩ := own_slice hown9
                    obtain ⟨g0, g1, g2⟩ := CC.grow hgrow9
                    have z0 : w9.cell? ⟨w.heap.size + 1 + 1, 0, none⟩ = some (.int .i64 la) := g2.c 0
                    have z1 : w9.cell? ⟨w.heap.size + 1 + 1, 1, none⟩ = some (.slice a1 us.length c1) := g2.c 1
                    have zf := g2.f
                    refine hK _ _ ?_
                    clear hK K
                    refine wpAny_take (i := 10) (v := .pointer (some ⟨w.heap.size + 1 + 1, 1, none⟩)) rfl (by kernel_rfl) (by kernel_rfl) (by kernel_rfl) (fun _ _ _ h => h) (Or.inl ⟨by rfl, fun W => by go_simp⟩) ?_
                    refine wpAny_ready (rs := [11]) (by kernel_rfl) (by simp) ?_
                    refine AllReady.cons rfl (fun K hK => ?_) ?_
                    · go_simp
                      refine hK _ _ ?_
                      clear hK K
                      refine wpAny_done (by kernel_rfl) ?_ _
                      go_wp2
                      go_roundw
                      case rel => exact hE _ _ u _ _ CC hu OO AP hown9 hgrow9
                      case measure => simp [intOf]; omega
                    exact AllReady.nil
                  exact AllReady.nil
                exact AllReady.nil
              exact AllReady.nil
            exact AllReady.nil
          exact AllReady.nil
        exact AllReady.nil
      | false =>
        cases hvx : liveK t.x.key now with
        | true =>
          have HG : Hid (goesH now t = true) := by show _ = _; unfold goesH goesK; rw [show t.key.2.2.2.2 = t.x.key from rfl, hvx, Bool.or_true]
          have ov := overS_any t.p now wr false hnow hpl hTp hvp
          clear hvp
          have ov2 : ∀ w4, Below wr.heap.size wr w4 → Calls Tryz.prog 42 #[t.x.val, .int .i64 now] w4 fun e w' => e = .returned (.bool (!true)) ∧ Below w4.heap.size w4 w' := fun w4 hb4 => overS_any t.x now w4 true hnow hxl ((hs.each t hm).x.below (hC.old.trans (hb4.mono hC.old.size)) (hs.each t hm).x.lt) hvx
          clear hvx
          go_wp2_with fail
          refine ov.mono ?_
          rintro e w4 ⟨rfl, hb4⟩
          have T4 : w4.cell? ⟨w.heap.size, 1, none⟩ = some (.slice (some ⟨b, o, none⟩) ts.length cap) := (hC.keep hb4).arg.c 1
          obtain ⟨q0, q1, q2, q3, q4, q5, q6, q7, q8, q9, q10, q11, q12⟩ := cl_cells ((hs.below (hC.keep hb4).old).cell k t HT.out)
          go_wp2_with (go_at_call 42; refine (ov2 _ hb4).mono ?_; rintro e w5 ⟨rfl, hb5⟩)
          have C5 := (hC.keep hb4).keep hb5
          clear p0 p1 p2 p3 p4 p5 p6 p7 p8 p9 p10 p11 p12 ov hTp t1
          have D : Below w5.heap.size w5 w5.drew := (Below.refl _ _).drew
          have hF : ∀ W : World, Below w5.heap.size w5 W → W.cell? ⟨w.heap.size, 1, none⟩ = some (.slice (some ⟨b, o, none⟩) ts.length cap) ∧ W.cell? ⟨w.heap.size + 1 + 1, 1, none⟩ = some (.slice a1 us.length c1) := fun W hb => ⟨(C5.keep hb).arg.c 1, (C5.keep hb).bk.c 1⟩
          have hL : ∀ W : World, Below w5.heap.size w5 W → W.rangeAt b (o + k * 13) t.cl := fun W hb => (hs.below (C5.old.trans (hb.mono C5.old.size))).cell k t HT.out
          have hH : ∀ W : World, Below w5.heap.size w5 W → HdAt W t := fun W hb => (hs.each t hm).below (C5.old.trans (hb.mono C5.old.size))
          obtain ⟨x1, y1⟩ := hF w5.drew D
          obtain ⟨c0, c1', c2, c3, c4, c5, c6, c7, c8, c9, c10, c11, c12⟩ := cl_cells (hL w5.drew D)
          have hE : ∀ (W1 w9 : World) (u : Hd) (a9 : Option Addr) (c9 : Nat), CbW w W1 la (.slice (some ⟨b, o, none⟩) ts.length cap) (.slice a1 us.length c1) us → u.key = t.key → HdOwn W1 (w.heap.size + 1 + 1 + 1) u → (∀ t ∈ us, HdApart t u) → w9.ownsRow (w.heap.size + 1 + 1 + 1) 52 13 (.slice a9 (us.length + 1) c9) (us.length + 1) (hdCells us ++ u.cl) → W1.grownBy w9 (Value.slice a1 us.length c1).ownBlock →
              ∃ (k' : Nat) (v : Value) (us' : List Hd), k' ≤ ts.length ∧ Value.int .i64 ((k : Int) + 1) = .int .i64 k' ∧ CbW w (w9.setCell ⟨w.heap.size + 1 + 1, 1, none⟩ (.slice a9 (us.length + 1) c9)) la (.slice (some ⟨b, o, none⟩) ts.length cap) v us' ∧ us'.map Hd.key = ((ts.take k').filter (goesH now)).map Hd.key := fun W1 w9 u a9 c9 h1 h2 h3 h4 h5 h6 =>
            ⟨k + 1, _, us ++ [u], by omega, by go_num, h1.push h5 h6 h3 h4, keysF_push HK.out HT.out HG.out h2⟩
          refine wp_region_any (by kernel_rfl) ?_
          change wpAny _ _ _ _ _ _ _ (World.drew _)
          refine wpAny_take (i := 0) (v := .pointer (some ⟨w.heap.size + 1 + 1, 1, none⟩)) rfl (by kernel_rfl) (by kernel_rfl) (by kernel_rfl) (fun _ _ _ h => h) (Or.inl ⟨by rfl, fun W => by go_simp⟩) ?_
          refine wpAny_take (i := 2) (v := .pointer (some ⟨w.heap.size, 1, none⟩)) rfl (by kernel_rfl) (by kernel_rfl) (by kernel_rfl) (fun _ _ _ h => h) (Or.inl ⟨by rfl, fun W => by go_simp⟩) ?_
          refine wpAny_take (i := 4) (v := .int .i64 (k : Int)) rfl (by kernel_rfl) (by kernel_rfl) (by kernel_rfl) (fun _ _ _ h => h) (Or.inl ⟨by rfl, fun W => by go_simp⟩) ?_
          refine wpAny_ready (rs := [1, 3]) (by kernel_rfl) (by simp) ?_
          refine AllReady.cons rfl (fun K hK => ?_) ?_
          · go_simp
            refine hK _ _ ?_
            clear hK K
            refine wpAny_ready (rs := [3]) (by kernel_rfl) (by simp) ?_
            refine AllReady.cons rfl (fun K hK => ?_) ?_
            · go_simp
              refine hK _ _ ?_
              clear hK K
              refine wpAny_take (i := 5) (v := .pointer (some ⟨b, o + k * 13, none⟩)) rfl (by kernel_rfl) (by kernel_rfl) (by kernel_rfl) (fun _ _ _ h => h) (Or.inl ⟨by rfl, fun W => by go_simp⟩) ?_
              refine wpAny_ready (rs := [6]) (by kernel_rfl) (by simp) ?_
              refine AllReady.cons rfl (fun K hK => ?_) ?_
              · go_simp
                refine hK _ _ ?_
                clear hK K
                refine wpAny_ready (rs := [7]) (by kernel_rfl) (by simp) ?_
                refine AllReady.cons rfl (fun K hK => ?_) ?_
                · go_simp
                  refine (heldS_any t _ hpl hxl (hH _ D)).mono ?_
                  rintro e w2 ⟨u, rfl, hu, hO, hb2⟩
                  obtain ⟨x1', y1'⟩ := hF w2 (D.trans (hb2.mono D.size))
                  refine hK _ _ ?_
                  clear hK K
                  refine wpAny_ready (rs := [8]) (by kernel_rfl) (by simp) ?_
                  refine AllReady.cons rfl (fun K hK => ?_) ?_
                  · go_simp
                    have CC := (C5.keep (D.trans (hb2.mono D.size))).keep (bel1 (.cells #[.string u.nm, .int .i64 u.n, .int .i64 u.p.q, .int .i64 u.p.s, .slice u.p.a u.p.l.length u.p.cap, .int .i64 u.p.fr, .int .i64 u.p.b, .int .i64 u.sn, .int .i64 u.x.q, .int .i64 u.x.s, .slice u.x.a u.x.l.length u.x.cap, .int .i64 u.x.fr, .int .i64 u.x.b] 52))
                    have OO := (hO.lower (base' := w.heap.size + 1 + 1 + 1) (by have := C5.bk.lt; have : w5.drew.heap.size = w5.heap.size := rfl; omega)).below (bel1 (.cells #[.string u.nm, .int .i64 u.n, .int .i64 u.p.q, .int .i64 u.p.s, .slice u.p.a u.p.l.length u.p.cap, .int .i64 u.p.fr, .int .i64 u.p.b, .int .i64 u.sn, .int .i64 u.x.q, .int .i64 u.x.s, .slice u.x.a u.x.l.length u.x.cap, .int .i64 u.x.fr, .int .i64 u.x.b] 52))
                    have AP := apart_new C5.own hO (Nat.le_refl _)
                    have yb : (w2.alloc (.cells #[.string u.nm, .int .i64 u.n, .int .i64 u.p.q, .int .i64 u.p.s, .slice u.p.a u.p.l.length u.p.cap, .int .i64 u.p.fr, .int .i64 u.p.b, .int .i64 u.sn, .int .i64 u.x.q, .int .i64 u.x.s, .slice u.x.a u.x.l.length u.x.cap, .int .i64 u.x.fr, .int .i64 u.x.b] 52)).cell? ⟨w.heap.size + 1 + 1, 1, none⟩ = some (.slice a1 us.length c1) := CC.bk.c 1
                    refine hK _ _ ?_
                    clear hK K
                    refine wpAny_ready (rs := [9]) (by kernel_rfl) (by simp) ?_
                    refine AllReady.cons rfl (fun K hK => ?_) ?_
                    · have zc := CC.bk.lt
                      rw [World.size_alloc] at zc
                      refine wp_append_own _ (.tmp 38) (.tmp 45) 27 rfl (w.heap.size + 1 + 1 + 1) 52 i0 (.agg #[.string ⟨#[]⟩, .int .i64 0, .int .i64 0, .int .i64 0, .slice none 0 0, .int .i64 0, .int .i64 0, .int .i64 0, .int .i64 0, .int .i64 0, .slice none 0 0, .int .i64 0, .int .i64 0]) 13 144 Tryz.underlying27 hi hz0 hz1 hz2 rfl (by decide) (.slice a1 us.length c1) us.length (hdCells us) rfl CC.own.row ⟨w2.heap.size, 0, none⟩ 1 1 u.cl rfl rfl (cl_newL w2 u _) (cl_one u) (by unfold maxLen; omega) (by omega) (by simp; omega) ?_
                      intro v9 w9 hown9 hgrow9 hnil9
                      obtain ⟨a9, c9', rfl⟩ := own_slice hown9
                      obtain ⟨g0, g1, g2⟩ := CC.grow hgrow9
                      have z0 : w9.cell? ⟨w.heap.size + 1 + 1, 0, none⟩ = some (.int .i64 la) := g2.c 0
                      have z1 : w9.cell? ⟨w.heap.size + 1 + 1, 1, none⟩ = some (.slice a1 us.length c1) := g2.c 1
                      have zf := g2.f
                      refine hK _ _ ?_
                      clear hK K
                      refine wpAny_take (i := 10) (v := .pointer (some ⟨w.heap.size + 1 + 1, 1, none⟩)) rfl (by kernel_rfl) (by kernel_rfl) (by kernel_rfl) (fun _ _ _ h => h) (Or.inl ⟨by rfl, fun W => by go_simp⟩) ?_
                      refine wpAny_ready (rs := [11]) (by kernel_rfl) (by simp) ?_
                      refine AllReady.cons rfl (fun K hK => ?_) ?_
                      · go_simp
                        refine hK _ _ ?_
                        clear hK K
                        refine wpAny_done (by kernel_rfl) ?_ _
                        go_wp2
                        go_roundw
                        case rel => exact hE _ _ u _ _ CC hu OO AP hown9 hgrow9
                        case measure => simp [intOf]; omega
                      exact AllReady.nil
                    exact AllReady.nil
                  exact AllReady.nil
                exact AllReady.nil
              exact AllReady.nil
            exact AllReady.nil
          refine AllReady.cons rfl (fun K hK => ?_) ?_
          · go_simp
            refine hK _ _ ?_
            clear hK K
            refine wpAny_take (i := 5) (v := .pointer (some ⟨b, o + k * 13, none⟩)) rfl (by kernel_rfl) (by kernel_rfl) (by kernel_rfl) (fun _ _ _ h => h) (Or.inl ⟨by rfl, fun W => by go_simp⟩) ?_
            refine wpAny_ready (rs := [1, 6]) (by kernel_rfl) (by simp) ?_
            refine AllReady.cons rfl (fun K hK => ?_) ?_
            · go_simp
              refine hK _ _ ?_
              clear hK K
              refine wpAny_ready (rs := [6]) (by kernel_rfl) (by simp) ?_
              refine AllReady.cons rfl (fun K hK => ?_) ?_
              · go_simp
                refine hK _ _ ?_
                clear hK K
                refine wpAny_ready (rs := [7]) (by kernel_rfl) (by simp) ?_
                refine AllReady.cons rfl (fun K hK => ?_) ?_
                · go_simp
                  refine (heldS_any t _ hpl hxl (hH _ D)).mono ?_
                  rintro e w2 ⟨u, rfl, hu, hO, hb2⟩
                  obtain ⟨x1', y1'⟩ := hF w2 (D.trans (hb2.mono D.size))
                  refine hK _ _ ?_
                  clear hK K
                  refine wpAny_ready (rs := [8]) (by kernel_rfl) (by simp) ?_
                  refine AllReady.cons rfl (fun K hK => ?_) ?_
                  · go_simp
                    have CC := (C5.keep (D.trans (hb2.mono D.size))).keep (bel1 (.cells #[.string u.nm, .int .i64 u.n, .int .i64 u.p.q, .int .i64 u.p.s, .slice u.p.a u.p.l.length u.p.cap, .int .i64 u.p.fr, .int .i64 u.p.b, .int .i64 u.sn, .int .i64 u.x.q, .int .i64 u.x.s, .slice u.x.a u.x.l.length u.x.cap, .int .i64 u.x.fr, .int .i64 u.x.b] 52))
                    have OO := (hO.lower (base' := w.heap.size + 1 + 1 + 1) (by have := C5.bk.lt; have : w5.drew.heap.size = w5.heap.size := rfl; omega)).below (bel1 (.cells #[.string u.nm, .int .i64 u.n, .int .i64 u.p.q, .int .i64 u.p.s, .slice u.p.a u.p.l.length u.p.cap, .int .i64 u.p.fr, .int .i64 u.p.b, .int .i64 u.sn, .int .i64 u.x.q, .int .i64 u.x.s, .slice u.x.a u.x.l.length u.x.cap, .int .i64 u.x.fr, .int .i64 u.x.b] 52))
                    have AP := apart_new C5.own hO (Nat.le_refl _)
                    have yb : (w2.alloc (.cells #[.string u.nm, .int .i64 u.n, .int .i64 u.p.q, .int .i64 u.p.s, .slice u.p.a u.p.l.length u.p.cap, .int .i64 u.p.fr, .int .i64 u.p.b, .int .i64 u.sn, .int .i64 u.x.q, .int .i64 u.x.s, .slice u.x.a u.x.l.length u.x.cap, .int .i64 u.x.fr, .int .i64 u.x.b] 52)).cell? ⟨w.heap.size + 1 + 1, 1, none⟩ = some (.slice a1 us.length c1) := CC.bk.c 1
                    refine hK _ _ ?_
                    clear hK K
                    refine wpAny_ready (rs := [9]) (by kernel_rfl) (by simp) ?_
                    refine AllReady.cons rfl (fun K hK => ?_) ?_
                    · have zc := CC.bk.lt
                      rw [World.size_alloc] at zc
                      refine wp_append_own _ (.tmp 38) (.tmp 45) 27 rfl (w.heap.size + 1 + 1 + 1) 52 i0 (.agg #[.string ⟨#[]⟩, .int .i64 0, .int .i64 0, .int .i64 0, .slice none 0 0, .int .i64 0, .int .i64 0, .int .i64 0, .int .i64 0, .int .i64 0, .slice none 0 0, .int .i64 0, .int .i64 0]) 13 144 Tryz.underlying27 hi hz0 hz1 hz2 rfl (by decide) (.slice a1 us.length c1) us.length (hdCells us) rfl CC.own.row ⟨w2.heap.size, 0, none⟩ 1 1 u.cl rfl rfl (cl_newL w2 u _) (cl_one u) (by unfold maxLen; omega) (by omega) (by simp; omega) ?_
                      intro v9 w9 hown9 hgrow9 hnil9
                      obtain ⟨a9, c9', rfl⟩ := own_slice hown9
                      obtain ⟨g0, g1, g2⟩ := CC.grow hgrow9
                      have z0 : w9.cell? ⟨w.heap.size + 1 + 1, 0, none⟩ = some (.int .i64 la) := g2.c 0
                      have z1 : w9.cell? ⟨w.heap.size + 1 + 1, 1, none⟩ = some (.slice a1 us.length c1) := g2.c 1
                      have zf := g2.f
                      refine hK _ _ ?_
                      clear hK K
                      refine wpAny_take (i := 10) (v := .pointer (some ⟨w.heap.size + 1 + 1, 1, none⟩)) rfl (by kernel_rfl) (by kernel_rfl) (by kernel_rfl) (fun _ _ _ h => h) (Or.inl ⟨by rfl, fun W => by go_simp⟩) ?_
                      refine wpAny_ready (rs := [11]) (by kernel_rfl) (by simp) ?_
                      refine AllReady.cons rfl (fun K hK => ?_) ?_
                      · go_simp
                        refine hK _ _ ?_
                        clear hK K
                        refine wpAny_done (by kernel_rfl) ?_ _
                        go_wp2
                        go_roundw
                        case rel => exact hE _ _ u _ _ CC hu OO AP hown9 hgrow9
                        case measure => simp [intOf]; omega
                      exact AllReady.nil
                    exact AllReady.nil
                  exact AllReady.nil
                exact AllReady.nil
              exact AllReady.nil
            refine AllReady.cons rfl (fun K hK => ?_) ?_
            · go_simp
              refine hK _ _ ?_
              clear hK K
              refine wpAny_ready (rs := [1, 7]) (by kernel_rfl) (by simp) ?_
              refine AllReady.cons rfl (fun K hK => ?_) ?_
              · go_simp
                refine hK _ _ ?_
                clear hK K
                refine wpAny_ready (rs := [7]) (by kernel_rfl) (by simp) ?_
                refine AllReady.cons rfl (fun K hK => ?_) ?_
                · go_simp
                  refine (heldS_any t _ hpl hxl (hH _ D)).mono ?_
                  rintro e w2 ⟨u, rfl, hu, hO, hb2⟩
                  obtain ⟨x1', y1'⟩ := hF w2 (D.trans (hb2.mono D.size))
                  refine hK _ _ ?_
                  clear hK K
                  refine wpAny_ready (rs := [8]) (by kernel_rfl) (by simp) ?_
                  refine AllReady.cons rfl (fun K hK => ?_) ?_
                  · go_simp
                    have CC := (C5.keep (D.trans (hb2.mono D.size))).keep (bel1 (.cells #[.string u.nm, .int .i64 u.n, .int .i64 u.p.q, .int .i64 u.p.s, .slice u.p.a u.p.l.length u.p.cap, .int .i64 u.p.fr, .int .i64 u.p.b, .int .i64 u.sn, .int .i64 u.x.q, .int .i64 u.x.s, .slice u.x.a u.x.l.length u.x.cap, .int .i64 u.x.fr, .int .i64 u.x.b] 52))
                    have OO := (hO.lower (base' := w.heap.size + 1 + 1 + 1) (by have := C5.bk.lt; have : w5.drew.heap.size = w5.heap.size := rfl; omega)).below (bel1 (.cells #[.string u.nm, .int .i64 u.n, .int .i64 u.p.q, .int .i64 u.p.s, .slice u.p.a u.p.l.length u.p.cap, .int .i64 u.p.fr, .int .i64 u.p.b, .int .i64 u.sn, .int .i64 u.x.q, .int .i64 u.x.s, .slice u.x.a u.x.l.length u.x.cap, .int .i64 u.x.fr, .int .i64 u.x.b] 52))
                    have AP := apart_new C5.own hO (Nat.le_refl _)
                    have yb : (w2.alloc (.cells #[.string u.nm, .int .i64 u.n, .int .i64 u.p.q, .int .i64 u.p.s, .slice u.p.a u.p.l.length u.p.cap, .int .i64 u.p.fr, .int .i64 u.p.b, .int .i64 u.sn, .int .i64 u.x.q, .int .i64 u.x.s, .slice u.x.a u.x.l.length u.x.cap, .int .i64 u.x.fr, .int .i64 u.x.b] 52)).cell? ⟨w.heap.size + 1 + 1, 1, none⟩ = some (.slice a1 us.length c1) := CC.bk.c 1
                    refine hK _ _ ?_
                    clear hK K
                    refine wpAny_ready (rs := [9]) (by kernel_rfl) (by simp) ?_
                    refine AllReady.cons rfl (fun K hK => ?_) ?_
                    · have zc := CC.bk.lt
                      rw [World.size_alloc] at zc
                      refine wp_append_own _ (.tmp 38) (.tmp 45) 27 rfl (w.heap.size + 1 + 1 + 1) 52 i0 (.agg #[.string ⟨#[]⟩, .int .i64 0, .int .i64 0, .int .i64 0, .slice none 0 0, .int .i64 0, .int .i64 0, .int .i64 0, .int .i64 0, .int .i64 0, .slice none 0 0, .int .i64 0, .int .i64 0]) 13 144 Tryz.underlying27 hi hz0 hz1 hz2 rfl (by decide) (.slice a1 us.length c1) us.length (hdCells us) rfl CC.own.row ⟨w2.heap.size, 0, none⟩ 1 1 u.cl rfl rfl (cl_newL w2 u _) (cl_one u) (by unfold maxLen; omega) (by omega) (by simp; omega) ?_
                      intro v9 w9 hown9 hgrow9 hnil9
                      obtain ⟨a9, c9', rfl⟩ := own_slice hown9
                      obtain ⟨g0, g1, g2⟩ := CC.grow hgrow9
                      have z0 : w9.cell? ⟨w.heap.size + 1 + 1, 0, none⟩ = some (.int .i64 la) := g2.c 0
                      have z1 : w9.cell? ⟨w.heap.size + 1 + 1, 1, none⟩ = some (.slice a1 us.length c1) := g2.c 1
                      have zf := g2.f
                      refine hK _ _ ?_
                      clear hK K
                      refine wpAny_take (i := 10) (v := .pointer (some ⟨w.heap.size + 1 + 1, 1, none⟩)) rfl (by kernel_rfl) (by kernel_rfl) (by kernel_rfl) (fun _ _ _ h => h) (Or.inl ⟨by rfl, fun W => by go_simp⟩) ?_
                      refine wpAny_ready (rs := [11]) (by kernel_rfl) (by simp) ?_
                      refine AllReady.cons rfl (fun K hK => ?_) ?_
                      · go_simp
                        refine hK _ _ ?_
                        clear hK K
                        refine wpAny_done (by kernel_rfl) ?_ _
                        go_wp2
                        go_roundw
                        case rel => exact hE _ _ u _ _ CC hu OO AP hown9 hgrow9
                        case measure => simp [intOf]; omega
                      exact AllReady.nil
                    exact AllReady.nil
                  exact AllReady.nil
                exact AllReady.nil
              refine AllReady.cons rfl (fun K hK => ?_) ?_
              · go_simp
                refine (heldS_any t _ hpl hxl (hH _ D)).mono ?_
                rintro e w2 ⟨u, rfl, hu, hO, hb2⟩
                obtain ⟨x1', y1'⟩ := hF w2 (D.trans (hb2.mono D.size))
                refine hK _ _ ?_
                clear hK K
                refine wpAny_ready (rs := [1, 8]) (by kernel_rfl) (by simp) ?_
                refine AllReady.cons rfl (fun K hK => ?_) ?_
                · go_simp
                  refine hK _ _ ?_
                  clear hK K
                  refine wpAny_ready (rs := [8]) (by kernel_rfl) (by simp) ?_
                  refine AllReady.cons rfl (fun K hK => ?_) ?_
                  · go_simp
                    have CC := (C5.keep (D.trans (hb2.mono D.size))).keep (bel1 (.cells #[.string u.nm, .int .i64 u.n, .int .i64 u.p.q, .int .i64 u.p.s, .slice u.p.a u.p.l.length u.p.cap, .int .i64 u.p.fr, .int .i64 u.p.b, .int .i64 u.sn, .int .i64 u.x.q, .int .i64 u.x.s, .slice u.x.a u.x.l.length u.x.cap, .int .i64 u.x.fr, .int .i64 u.x.b] 52))
                    have OO := (hO.lower (base' := w.heap.size + 1 + 1 + 1) (by have := C5.bk.lt; have : w5.drew.heap.size = w5.heap.size := rfl; omega)).below (bel1 (.cells #[.string u.nm, .int .i64 u.n, .int .i64 u.p.q, .int .i64 u.p.s, .slice u.p.a u.p.l.length u.p.cap, .int .i64 u.p.fr, .int .i64 u.p.b, .int .i64 u.sn, .int .i64 u.x.q, .int .i64 u.x.s, .slice u.x.a u.x.l.length u.x.cap, .int .i64 u.x.fr, .int .i64 u.x.b] 52))
                    have AP := apart_new C5.own hO (Nat.le_refl _)
                    have yb : (w2.alloc (.cells #[.string u.nm, .int .i64 u.n, .int .i64 u.p.q, .int .i64 u.p.s, .slice u.p.a u.p.l.length u.p.cap, .int .i64 u.p.fr, .int .i64 u.p.b, .int .i64 u.sn, .int .i64 u.x.q, .int .i64 u.x.s, .slice u.x.a u.x.l.length u.x.cap, .int .i64 u.x.fr, .int .i64 u.x.b] 52)).cell? ⟨w.heap.size + 1 + 1, 1, none⟩ = some (.slice a1 us.length c1) := CC.bk.c 1
                    refine hK _ _ ?_
                    clear hK K
                    refine wpAny_ready (rs := [9]) (by kernel_rfl) (by simp) ?_
                    refine AllReady.cons rfl (fun K hK => ?_) ?_
                    · have zc := CC.bk.lt
                      rw [World.size_alloc] at zc
                      refine wp_append_own _ (.tmp 38) (.tmp 45) 27 rfl (w.heap.size + 1 + 1 + 1) 52 i0 (.agg #[.string ⟨#[]⟩, .int .i64 0, .int .i64 0, .int .i64 0, .slice none 0 0, .int .i64 0, .int .i64 0, .int .i64 0, .int .i64 0, .int .i64 0, .slice none 0 0, .int .i64 0, .int .i64 0]) 13 144 Tryz.underlying27 hi hz0 hz1 hz2 rfl (by decide) (.slice a1 us.length c1) us.length (hdCells us) rfl CC.own.row ⟨w2.heap.size, 0, none⟩ 1 1 u.cl rfl rfl (cl_newL w2 u _) (cl_one u) (by unfold maxLen; omega) (by omega) (by simp; omega) ?_
                      intro v9 w9 hown9 hgrow9 hnil9
                      obtain ⟨a9, c9', rfl⟩ := own_slice hown9
                      obtain ⟨g0, g1, g2⟩ := CC.grow hgrow9
                      have z0 : w9.cell? ⟨w.heap.size + 1 + 1, 0, none⟩ = some (.int .i64 la) := g2.c 0
                      have z1 : w9.cell? ⟨w.heap.size + 1 + 1, 1, none⟩ = some (.slice a1 us.length c1) := g2.c 1
                      have zf := g2.f
                      refine hK _ _ ?_
                      clear hK K
                      refine wpAny_take (i := 10) (v := .pointer (some ⟨w.heap.size + 1 + 1, 1, none⟩)) rfl (by kernel_rfl) (by kernel_rfl) (by kernel_rfl) (fun _ _ _ h => h) (Or.inl ⟨by rfl, fun W => by go_simp⟩) ?_
                      refine wpAny_ready (rs := [11]) (by kernel_rfl) (by simp) ?_
                      refine AllReady.cons rfl (fun K hK => ?_) ?_
                      · go_simp
                        refine hK _ _ ?_
                        clear hK K
                        refine wpAny_done (by kernel_rfl) ?_ _
                        go_wp2
                        go_roundw
                        case rel => exact hE _ _ u _ _ CC hu OO AP hown9 hgrow9
                        case measure => simp [intOf]; omega
                      exact AllReady.nil
                    exact AllReady.nil
                  exact AllReady.nil
                refine AllReady.cons rfl (fun K hK => ?_) ?_
                · go_simp
                  have CC := (C5.keep (D.trans (hb2.mono D.size))).keep (bel1 (.cells #[.string u.nm, .int .i64 u.n, .int .i64 u.p.q, .int .i64 u.p.s, .slice u.p.a u.p.l.length u.p.cap, .int .i64 u.p.fr, .int .i64 u.p.b, .int .i64 u.sn, .int .i64 u.x.q, .int .i64 u.x.s, .slice u.x.a u.x.l.length u.x.cap, .int .i64 u.x.fr, .int .i64 u.x.b] 52))
                  have OO := (hO.lower (base' := w.heap.size + 1 + 1 + 1) (by have := C5.bk.lt; have : w5.drew.heap.size = w5.heap.size := rfl; omega)).below (bel1 (.cells #[.string u.nm, .int .i64 u.n, .int .i64 u.p.q, .int .i64 u.p.s, .slice u.p.a u.p.l.length u.p.cap, .int .i64 u.p.fr, .int .i64 u.p.b, .int .i64 u.sn, .int .i64 u.x.q, .int .i64 u.x.s, .slice u.x.a u.x.l.length u.x.cap, .int .i64 u.x.fr, .int .i64 u.x.b] 52))
                  have AP := apart_new C5.own hO (Nat.le_refl _)
                  have yb : (w2.alloc (.cells #[.string u.nm, .int .i64 u.n, .int .i64 u.p.q, .int .i64 u.p.s, .slice u.p.a u.p.l.length u.p.cap, .int .i64 u.p.fr, .int .i64 u.p.b, .int .i64 u.sn, .int .i64 u.x.q, .int .i64 u.x.s, .slice u.x.a u.x.l.length u.x.cap, .int .i64 u.x.fr, .int .i64 u.x.b] 52)).cell? ⟨w.heap.size + 1 + 1, 1, none⟩ = some (.slice a1 us.length c1) := CC.bk.c 1
                  refine hK _ _ ?_
                  clear hK K
                  refine wpAny_ready (rs := [1]) (by kernel_rfl) (by simp) ?_
                  refine AllReady.cons rfl (fun K hK => ?_) ?_
                  · go_simp
                    refine hK _ _ ?_
                    clear hK K
                    refine wpAny_ready (rs := [9]) (by kernel_rfl) (by simp) ?_
                    refine AllReady.cons rfl (fun K hK => ?_) ?_
                    · have zc := CC.bk.lt
                      rw [World.size_alloc] at zc
                      refine wp_append_own _ (.tmp 38) (.tmp 45) 27 rfl (w.heap.size + 1 + 1 + 1) 52 i0 (.agg #[.string ⟨#[]⟩, .int .i64 0, .int .i64 0, .int .i64 0, .slice none 0 0, .int .i64 0, .int .i64 0, .int .i64 0, .int .i64 0, .int .i64 0, .slice none 0 0, .int .i64 0, .int .i64 0]) 13 144 Tryz.underlying27 hi hz0 hz1 hz2 rfl (by decide) (.slice a1 us.length c1) us.length (hdCells us) rfl CC.own.row ⟨w2.heap.size, 0, none⟩ 1 1 u.cl rfl rfl (cl_newL w2 u _) (cl_one u) (by unfold maxLen; omega) (by omega) (by simp; omega) ?_
                      intro v9 w9 hown9 hgrow9 hnil9
                      obtain ⟨a9, c9', rfl⟩ := own_slice hown9
                      obtain ⟨g0, g1, g2⟩ := CC.grow hgrow9
                      have z0 : w9.cell? ⟨w.heap.size + 1 + 1, 0, none⟩ = some (.int .i64 la) := g2.c 0
                      have z1 : w9.cell? ⟨w.heap.size + 1 + 1, 1, none⟩ = some (.slice a1 us.length c1) := g2.c 1
                      have zf := g2.f
                      refine hK _ _ ?_
                      clear hK K
                      refine wpAny_take (i := 10) (v := .pointer (some ⟨w.heap.size + 1 + 1, 1, none⟩)) rfl (by kernel_rfl) (by kernel_rfl) (by kernel_rfl) (fun _ _ _ h => h) (Or.inl ⟨by rfl, fun W => by go_simp⟩) ?_
                      refine wpAny_ready (rs := [11]) (by kernel_rfl) (by simp) ?_
                      refine AllReady.cons rfl (fun K hK => ?_) ?_
                      · go_simp
                        refine hK _ _ ?_
                        clear hK K
                        refine wpAny_done (by kernel_rfl) ?_ _
                        go_wp2
                        go_roundw
                        case rel => exact hE _ _ u _ _ CC hu OO AP hown9 hgrow9
                        case measure => simp [intOf]; omega
                      exact AllReady.nil
                    exact AllReady.nil
                  exact AllReady.nil
                exact AllReady.nil
              exact AllReady.nil
            exact AllReady.nil
          exact AllReady.nil
        | false =>
          have HG : Hid (goesH now t = false) := by show _ = _; unfold goesH goesK; rw [show t.key.2.2.1 = t.p.key from rfl, show t.key.2.2.2.2 = t.x.key from rfl, hvp, hvx]; rfl
          have ov := overS_any t.p now wr false hnow hpl hTp hvp
          clear hvp
          have ov2 : ∀ w4, Below wr.heap.size wr w4 → Calls Tryz.prog 42 #[t.x.val, .int .i64 now] w4 fun e w' => e = .returned (.bool (!false)) ∧ Below w4.heap.size w4 w' := fun w4 hb4 => overS_any t.x now w4 false hnow hxl ((hs.each t hm).x.below (hC.old.trans (hb4.mono hC.old.size)) (hs.each t hm).x.lt) hvx
          clear hvx
          go_wp2_with fail
          refine ov.mono ?_
          rintro e w4 ⟨rfl, hb4⟩
          have T4 : w4.cell? ⟨w.heap.size, 1, none⟩ = some (.slice (some ⟨b, o, none⟩) ts.length cap) := (hC.keep hb4).arg.c 1
          obtain ⟨q0, q1, q2, q3, q4, q5, q6, q7, q8, q9, q10, q11, q12⟩ := cl_cells ((hs.below (hC.keep hb4).old).cell k t HT.out)
          go_wp2_with (go_at_call 42; refine (ov2 _ hb4).mono ?_; rintro e w5 ⟨rfl, hb5⟩)
          have C5 := (hC.keep hb4).keep hb5
          go_roundw
          case rel => exact ⟨k + 1, _, us, by omega, by go_num, C5, keysF_skip HK.out HT.out HG.out⟩
          case measure => simp [intOf]; omega
    · obtain rfl : k = ts.length := by omega
      rw [List.take_length] at hK
      obtain ⟨a1, c1, rfl⟩ := own_slice hC.own.row
      have x0 : wr.cell? ⟨w.heap.size + 1 + 1, 0, none⟩ = some (.int .i64 la) := hC.bk.c 0
      have x1 : wr.cell? ⟨w.heap.size + 1 + 1, 1, none⟩ = some (.slice a1 us.length c1) := hC.bk.c 1
      have r0 : wr.cell? ⟨w.heap.size + 1, 0, none⟩ = some (.int .i64 0) := hC.res.c 0
      have r1 : wr.cell? ⟨w.heap.size + 1, 1, none⟩ = some (.slice none 0 0) := hC.res.c 1
      have rf := hC.res.f
      have HK : Hid (us.map Hd.key = (ts.map Hd.key).filter (goesK now)) := by show _ = _; rw [hK, List.filter_map]; rfl
      clear hK
      go_wp2
      refine bodyPost_ret (v := .agg #[.int .i64 la, .slice a1 us.length c1]) (by simp [results, Tryz.results16, go_sem, *]) rfl ⟨_, us, rfl, HK.out, ?_, ?_⟩
      · have hlt2 := hC.own.lt
        refine ((hC.own.spared (S := [w.heap.size + 1]) (Spared.trans (Spared.grown (grown_set _ _ _) (by simp)) (Spared.grown (grown_set _ _ _) (by simp))) (fun k hk hk' => ?_))).lower (by omega)
        simp at hk'
        have := (hlt2 k hk).1
        omega
      · iterate 2 (refine Below.setCell ?_ (by simp) _)
        exact hC.old
end Go.Proofs.YtfmdejilhbankaaGreat

namespace Go.Proofs.YtfmdejilhbankaaGreat
open Go.RowKit Go.Shelf
attribute [local go_sem] Oper.semAt_some

/-- A name and a path. -/
abbrev NP := ByteArray × Pt
def bothOf (t : Hd) : List NP := [(t.nm, t.p), (t.nm, t.x)]
/-- Whatever may be flown. -/
def mayL (ts : List Hd) : List NP := ts.flatMap bothOf
def mayTo (ts : List Hd) (k : Nat) : List NP := mayL (ts.take k)
theorem mayTo_zero (ts : List Hd) : mayTo ts 0 = [] := rfl
theorem mayTo_all (ts : List Hd) : mayTo ts ts.length = mayL ts := by rw [mayTo, List.take_length]
theorem mayTo_succ {ts : List Hd} {k : Nat} {t : Hd} (h : ts[k]? = some t) : mayTo ts (k + 1) = mayTo ts k ++ bothOf t := by
  unfold mayTo mayL
  rw [List.take_add_one, h, List.flatMap_append]
  simp
theorem mayL_length (ts : List Hd) : (mayL ts).length = 2 * ts.length := by
  induction ts with
  | nil => rfl
  | cons t ts ih =>
    show (bothOf t ++ mayL ts).length = _
    rw [List.length_append, ih]
    simp [bothOf]
    omega
theorem mayTo_length {ts : List Hd} {k : Nat} (h : k ≤ ts.length) : (mayTo ts k).length = 2 * k := by
  rw [mayTo, mayL_length, List.length_take]
  omega
theorem mayTo_pre (ts : List Hd) (k : Nat) : ∃ post, mayL ts = mayTo ts k ++ post := by
  refine ⟨mayL (ts.drop k), ?_⟩
  unfold mayTo mayL
  rw [← List.flatMap_append, List.take_append_drop]
theorem mayTo_pre1 {ts : List Hd} {k : Nat} {t : Hd} (h : ts[k]? = some t) : ∃ post, mayL ts = (mayTo ts k ++ [(t.nm, t.p)]) ++ post := by
  obtain ⟨post, hp⟩ := mayTo_pre ts (k + 1)
  refine ⟨(t.nm, t.x) :: post, ?_⟩
  rw [hp, mayTo_succ h]
  simp [bothOf]

/-- One of these. -/
abbrev NE (ts : List Hd) : Type := { x : NP // x ∈ mayL ts }
abbrev vN {ts : List Hd} (x : NE ts) : NP := x.1
abbrev encN {ts : List Hd} (x : NE ts) : Array Value := #[.string x.1.1, x.1.2.val]
theorem mem_held {ts : List Hd} {k : Nat} {t : Hd} (h : ts[k]? = some t) : (t.nm, t.p) ∈ mayL ts := List.mem_flatMap.2 ⟨t, List.mem_of_getElem? h, by simp [bothOf]⟩
theorem mem_sent {ts : List Hd} {k : Nat} {t : Hd} (h : ts[k]? = some t) : (t.nm, t.x) ∈ mayL ts := List.mem_flatMap.2 ⟨t, List.mem_of_getElem? h, by simp [bothOf]⟩
theorem of_may {ts : List Hd} (x : NE ts) : ∃ t ∈ ts, x.1 = (t.nm, t.p) ∨ x.1 = (t.nm, t.x) := by
  obtain ⟨x, hx⟩ := x
  obtain ⟨t, ht, h⟩ := List.mem_flatMap.1 hx
  exact ⟨t, ht, by simpa [bothOf] using h⟩

/-- Boxes of the iterator's kinds, and the row of block b, lie as they lay. -/
structure KeepS (n₀ b : Nat) (A B : World) : Prop where
  size : A.heap.size ≤ B.heap.size
  held : ∀ (k : Nat) (cs : Array Value), A.heap[k]? = some (.cells cs 52 (0, 0)) → B.heap[k]? = some (.cells cs 52 (0, 0))
  path : ∀ (k : Nat) (cs : Array Value), A.heap[k]? = some (.cells cs 43 (0, 0)) → B.heap[k]? = some (.cells cs 43 (0, 0))
  list : ∀ (k : Nat) (cs : Array Value), A.heap[k]? = some (.cells cs 27 (0, 0)) → B.heap[k]? = some (.cells cs 27 (0, 0))
  fn : ∀ (k : Nat) (cs : Array Value), A.heap[k]? = some (.cells cs 121 (0, 0)) → B.heap[k]? = some (.cells cs 121 (0, 0))
  row : b < n₀ → B.heap[b]? = A.heap[b]?
theorem KeepS.refl (n₀ b : Nat) (A : World) : KeepS n₀ b A A := ⟨Nat.le_refl _, fun _ _ h => h, fun _ _ h => h, fun _ _ h => h, fun _ _ h => h, fun _ => rfl⟩
theorem KeepS.trans {n₀ b : Nat} {A B C : World} (h : KeepS n₀ b A B) (k : KeepS n₀ b B C) : KeepS n₀ b A C :=
  ⟨Nat.le_trans h.size k.size, fun i c e => k.held i c (h.held i c e), fun i c e => k.path i c (h.path i c e), fun i c e => k.list i c (h.list i c e), fun i c e => k.fn i c (h.fn i c e), fun e => (k.row e).trans (h.row e)⟩
theorem KeepS.of {n₀ b : Nat} {A B : World} (hn : n₀ ≤ A.heap.size) (h : Below A.heap.size A B) : KeepS n₀ b A B :=
  ⟨h.size, fun i _ e => (h.block i (lt_of_block e)).trans e, fun i _ e => (h.block i (lt_of_block e)).trans e, fun i _ e => (h.block i (lt_of_block e)).trans e, fun i _ e => (h.block i (lt_of_block e)).trans e, fun e => h.block b (by omega)⟩
theorem KeepS.putObj {n₀ b : Nat} {w : World} (hn : n₀ ≤ w.heap.size) (W : World) (l : Nat) (o o' : Obj) (hl : w.heap.size ≤ l) (h : W.heap[l]? = some o) (hc : o.isCells = false) (_ : o.isWalk = false) : KeepS n₀ b W (W.putObj l o') := by
  have H : ∀ (k : Nat) (cs : Array Value) (T : TypeId), W.heap[k]? = some (.cells cs T (0, 0)) → (W.putObj l o').heap[k]? = some (.cells cs T (0, 0)) := fun k cs T e => by
    rw [World.putObj_heap_other (by rintro rfl; rw [h] at e; cases e; cases hc)]
    exact e
  exact ⟨by simp [World.putObj], fun k cs e => H k cs _ e, fun k cs e => H k cs _ e, fun k cs e => H k cs _ e, fun k cs e => H k cs _ e, fun e => World.putObj_heap_other (by omega)⟩
theorem grown_none {A B : World} (h : Below A.heap.size A B) : A.grownBy B none := ⟨h.os, h.tape, h.output, h.size, fun k hk _ => h.block k hk⟩
theorem cl_block {W : World} {H : Nat} {t : Hd} {T : TypeId} (h : W.heap[H]? = some (.cells #[.string t.nm, .int .i64 t.n, .int .i64 t.p.q, .int .i64 t.p.s, .slice t.p.a t.p.l.length t.p.cap, .int .i64 t.p.fr, .int .i64 t.p.b, .int .i64 t.sn, .int .i64 t.x.q, .int .i64 t.x.s, .slice t.x.a t.x.l.length t.x.cap, .int .i64 t.x.fr, .int .i64 t.x.b] T (0, 0))) : W.rangeAt H 0 t.cl := fun j v hv => by
  match j, hv with
  | 0, hv | 1, hv | 2, hv | 3, hv | 4, hv | 5, hv | 6, hv | 7, hv | 8, hv | 9, hv | 10, hv | 11, hv | 12, hv => simp at hv; subst hv; simp [World.cell?, h]

theorem paths_any (t : Hd) (w : World) :
    Calls Tryz.prog 81 #[t.val] w fun e w' => e = .returned (.agg #[.int .i64 t.p.q, .int .i64 t.p.s, .slice t.p.a t.p.l.length t.p.cap, .int .i64 t.p.fr, .int .i64 t.p.b, .int .i64 t.x.q, .int .i64 t.x.s, .slice t.x.a t.x.l.length t.x.cap, .int .i64 t.x.fr, .int .i64 t.x.b]) ∧ Below w.heap.size w w' := by
  go_enter Tryz.func81, Tryz.ntmps81
  go_wp2
  refine bodyPost_ret (v := .agg #[.int .i64 t.p.q, .int .i64 t.p.s, .slice t.p.a t.p.l.length t.p.cap, .int .i64 t.p.fr, .int .i64 t.p.b, .int .i64 t.x.q, .int .i64 t.x.s, .slice t.x.a t.x.l.length t.x.cap, .int .i64 t.x.fr, .int .i64 t.x.b]) (by simp [results, Tryz.results81, go_sem]) rfl ⟨rfl, ?_⟩
  exact bel2 _ _

theorem idx0 (t : Hd) (W : World) : (Instr.index 142 (.agg #[.int .i64 t.p.q, .int .i64 t.p.s, .slice t.p.a t.p.l.length t.p.cap, .int .i64 t.p.fr, .int .i64 t.p.b, .int .i64 t.x.q, .int .i64 t.x.s, .slice t.x.a t.x.l.length t.x.cap, .int .i64 t.x.fr, .int .i64 t.x.b]) (.int .i64 0)).run Tryz.prog W = .ok (.agg #[.int .i64 t.p.q, .int .i64 t.p.s, .slice t.p.a t.p.l.length t.p.cap, .int .i64 t.p.fr, .int .i64 t.p.b]) W := by
  simp [Instr.index, run_underlying Tryz.underlying142, go_sem]
theorem idx1 (t : Hd) (W : World) : (Instr.index 142 (.agg #[.int .i64 t.p.q, .int .i64 t.p.s, .slice t.p.a t.p.l.length t.p.cap, .int .i64 t.p.fr, .int .i64 t.p.b, .int .i64 t.x.q, .int .i64 t.x.s, .slice t.x.a t.x.l.length t.x.cap, .int .i64 t.x.fr, .int .i64 t.x.b]) (.int .i64 1)).run Tryz.prog W = .ok (.agg #[.int .i64 t.x.q, .int .i64 t.x.s, .slice t.x.a t.x.l.length t.x.cap, .int .i64 t.x.fr, .int .i64 t.x.b]) W := by
  simp [Instr.index, run_underlying Tryz.underlying142, go_sem]

set_option maxRecDepth 100000 in
set_option maxHeartbeats 4000000 in
theorem hs1_in (n : Nat) (hn : 1 ≤ n) (lp Ba Bb n₀ b o ca : Nat) (a : Option Addr) (ts : List Hd) (hl : ts.length ≤ 1048576) (J Jx : List (NE ts) → World → Prop)
    (hJ : ∀ s A B, J s A → A.grownBy B none → J s B)
    (hY : ∀ pre x W, J pre W → pre.length < 2 * ts.length → YieldAt Fence.wide (n - 1) Tryz.prog lp (encN x) W fun e W' =>
      (e = .returned (.bool true) ∧ J (pre ++ [x]) W' ∧ KeepS n₀ b W W') ∨ (e = .returned (.bool false) ∧ Jx (pre ++ [x]) W'))
    (W : World) (hnW : n₀ ≤ W.heap.size) (ha : W.heap[Ba]? = some (.cells #[.slice a ts.length ca] 27 (0, 0))) (hb : W.heap[Bb]? = some (.cells #[.func (.func 81) #[] #[]] 121 (0, 0)))
    (hs : HdsAt W a b o ts) (hbn : ts ≠ [] → b < n₀) (h0 : J [] W) :
    CallsIn Fence.wide n Tryz.prog 102 #[.func (.yield lp) #[] #[], .pointer (some ⟨Ba, 0, none⟩), .pointer (some ⟨Bb, 0, none⟩)] W fun e W' => (∃ v, e = .returned v) ∧
      ((∃ ys, ys.map vN = mayL ts ∧ J ys W') ∨ (∃ pre : List (NE ts), (∃ post, mayL ts = pre.map vN ++ post) ∧ Jx pre W')) := by
  refine callsIn_of_wp Tryz.func102 rfl trivial ?_ rfl
  simp only [Tryz.ntmps102, List.size_toArray, List.length_cons, List.length_nil, Nat.reduceAdd, Nat.reduceSub, Array.replicate_succ, Array.replicate_zero, List.push_toArray, List.append_toArray, List.nil_append, List.cons_append]
  have hca : W.cell? ⟨Ba, 0, none⟩ = some (.slice a ts.length ca) := by simp [World.cell?, ha]
  gi_wp2
  gi_loopw [10] (fun i wr => ∃ k : Nat, k ≤ ts.length ∧ i = .int .i64 k ∧ (∃ pre : List (NE ts), pre.map vN = mayTo ts k ∧ J pre wr) ∧ KeepS n₀ b W wr) (fun i _ => ts.length - (intOf i).toNat)
  case atStart => exact ⟨0, Nat.zero_le _, rfl, ⟨[], rfl, h0⟩, KeepS.refl _ _ _⟩
  case round =>
    obtain ⟨k, hk, rfl, hJs, hnx⟩ := hrel
    by_cases hlt : k < ts.length
    · obtain ⟨t, htk⟩ : ∃ t, ts[k]? = some t := ⟨ts[k], List.getElem?_eq_getElem hlt⟩
      have hne : ts ≠ [] := by intro e; subst e; simp at hlt
      obtain rfl := hs.here hne
      have hrow : wr.rangeAt b (o + k * 13) t.cl := fun j v hv => (World.cell?_of_block (w := W) (a := ⟨b, o + k * 13 + j, none⟩) (hnx.row (hbn hne))).trans (hs.cell k t htk j v hv)
      obtain ⟨e0, e1, e2, e3, e4, e5, e6, e7, e8, e9, e10, e11, e12⟩ := cl_cells hrow
      have hcb : wr.cell? ⟨Bb, 0, none⟩ = some (.func (.func 81) #[] #[]) := by simp [World.cell?, hnx.fn Bb _ hb]
      have k0 : (0 : Int) ≤ (k : Int) := by omega
      have k1 : (k : Int) < (ts.length : Int) := by omega
      have HT : Hid (ts[k]? = some t) := htk
      have hbl : Bb < wr.heap.size := lt_of_block (hnx.fn Bb _ hb)
      have hcb2 : (wr.alloc (.cells #[.string t.nm, .int .i64 t.n, .int .i64 t.p.q, .int .i64 t.p.s, .slice t.p.a t.p.l.length t.p.cap, .int .i64 t.p.fr, .int .i64 t.p.b, .int .i64 t.sn, .int .i64 t.x.q, .int .i64 t.x.s, .slice t.x.a t.x.l.length t.x.cap, .int .i64 t.x.fr, .int .i64 t.x.b] 52)).cell? ⟨Bb, 0, none⟩ = some (.func (.func 81) #[] #[]) := ((bel1 (w := wr) (.cells #[.string t.nm, .int .i64 t.n, .int .i64 t.p.q, .int .i64 t.p.s, .slice t.p.a t.p.l.length t.p.cap, .int .i64 t.p.fr, .int .i64 t.p.b, .int .i64 t.sn, .int .i64 t.x.q, .int .i64 t.x.s, .slice t.x.a t.x.l.length t.x.cap, .int .i64 t.x.fr, .int .i64 t.x.b] 52)).cell (p := ⟨Bb, 0, none⟩) hbl).trans hcb
      clear htk hrow
      gi_wp2_with (refine ⟨trivial, ?_⟩; gi_at_call 81; refine (callsIn_wide.2 (paths_any t _)).mono ?_; rintro e w2 ⟨rfl, hb2⟩)
      have B2 : Below wr.heap.size wr w2 := (bel1 (w := wr) (.cells #[.string t.nm, .int .i64 t.n, .int .i64 t.p.q, .int .i64 t.p.s, .slice t.p.a t.p.l.length t.p.cap, .int .i64 t.p.fr, .int .i64 t.p.b, .int .i64 t.sn, .int .i64 t.x.q, .int .i64 t.x.s, .slice t.x.a t.x.l.length t.x.cap, .int .i64 t.x.fr, .int .i64 t.x.b] 52)).trans (hb2.mono (by simp))
      have H2 : w2.heap[wr.heap.size]? = some (.cells #[.string t.nm, .int .i64 t.n, .int .i64 t.p.q, .int .i64 t.p.s, .slice t.p.a t.p.l.length t.p.cap, .int .i64 t.p.fr, .int .i64 t.p.b, .int .i64 t.sn, .int .i64 t.x.q, .int .i64 t.x.s, .slice t.x.a t.x.l.length t.x.cap, .int .i64 t.x.fr, .int .i64 t.x.b] 52 (0, 0)) := (hb2.block _ (by simp)).trans (heap_alloc_new wr (.cells #[.string t.nm, .int .i64 t.n, .int .i64 t.p.q, .int .i64 t.p.s, .slice t.p.a t.p.l.length t.p.cap, .int .i64 t.p.fr, .int .i64 t.p.b, .int .i64 t.sn, .int .i64 t.x.q, .int .i64 t.x.s, .slice t.x.a t.x.l.length t.x.cap, .int .i64 t.x.fr, .int .i64 t.x.b] 52))
      obtain ⟨pre, hpre, hJs⟩ := hJs
      have J2 := hJ _ _ _ hJs (grown_none B2)
      have K2 : KeepS n₀ b W w2 := hnx.trans (KeepS.of (by have := hnx.size; omega) B2)
      clear hJs e0 e1 e2 e3 e4 e5 e6 e7 e8 e9 e10 e11 e12 hcb hcb2 hb2 B2
      generalize wr.heap.size = B3 at H2 ⊢
      gi_loopw [17] (fun i wr3 => ∃ j : Nat, j ≤ 2 ∧ i = .int .i64 j ∧ (∃ pre : List (NE ts), J pre wr3 ∧ ((j = 0 ∧ pre.map vN = mayTo ts k) ∨ (j = 1 ∧ pre.map vN = mayTo ts k ++ [(t.nm, t.p)]) ∨ (j = 2 ∧ pre.map vN = mayTo ts (k + 1)))) ∧ KeepS n₀ b W wr3 ∧ wr3.heap[B3]? = some (.cells #[.string t.nm, .int .i64 t.n, .int .i64 t.p.q, .int .i64 t.p.s, .slice t.p.a t.p.l.length t.p.cap, .int .i64 t.p.fr, .int .i64 t.p.b, .int .i64 t.sn, .int .i64 t.x.q, .int .i64 t.x.s, .slice t.x.a t.x.l.length t.x.cap, .int .i64 t.x.fr, .int .i64 t.x.b] 52 (0, 0))) (fun i _ => 2 - (intOf i).toNat)
      case atStart => exact ⟨0, by omega, rfl, ⟨pre, J2, .inl ⟨rfl, hpre⟩⟩, K2, H2⟩
      case round =>
        clear J2 K2 H2 hpre pre
        obtain ⟨j, hj, rfl, ⟨pre, hJs, hpre⟩, hk3, hH⟩ := hrel
        rcases hpre with ⟨rfl, hpre⟩ | ⟨rfl, hpre⟩ | ⟨rfl, hpre⟩
        · skip
          obtain ⟨fn, tmps, assign, body, hy, hR⟩ := hY pre ⟨(t.nm, t.p), mem_held HT.out⟩ (wr.alloc (.cells #[.int .i64 t.p.q, .int .i64 t.p.s, .slice t.p.a t.p.l.length t.p.cap, .int .i64 t.p.fr, .int .i64 t.p.b] 43)) (hJ _ _ _ hJs (grown_none (bel1 _))) (by have e := congrArg List.length hpre; rw [List.length_map, mayTo_length (by omega)] at e; omega)
          have hnext : Hid ((pre ++ [(⟨(t.nm, t.p), mem_held HT.out⟩ : NE ts)]).map vN = mayTo ts k ++ [(t.nm, t.p)]) := by show _ = _; rw [List.map_append, hpre]; rfl
          have hpl : pre.length < 2 * ts.length := by have e := congrArg List.length hpre; rw [List.length_map, mayTo_length (by omega)] at e; omega
          clear hpre
          dsimp only [encN] at hy
          clear hY
          have c0 : (wr.alloc (.cells #[.int .i64 t.p.q, .int .i64 t.p.s, .slice t.p.a t.p.l.length t.p.cap, .int .i64 t.p.fr, .int .i64 t.p.b] 43)).cell? ⟨B3, 0, none⟩ = some (.string t.nm) := ((bel1 (w := wr) (.cells #[.int .i64 t.p.q, .int .i64 t.p.s, .slice t.p.a t.p.l.length t.p.cap, .int .i64 t.p.fr, .int .i64 t.p.b] 43)).cell (p := ⟨B3, 0, none⟩) (lt_of_block hH)).trans (cl_cells (cl_block hH)).1
          have ix := idx0 t
          gi_wp2_with fail
          refine hR.mono ?_
          rintro e W3 (⟨rfl, hJ3, hk4⟩ | ⟨rfl, hJx3⟩)
          · gi_wp2
            go_roundw
            case rel => exact ⟨1, by omega, rfl, ⟨_, hJ3, .inr (.inl ⟨rfl, hnext.out⟩)⟩, (hk3.trans (KeepS.of (by have := hk3.size; omega) (bel1 _))).trans hk4, hk4.held _ _ (((bel1 (w := wr) (.cells #[.int .i64 t.p.q, .int .i64 t.p.s, .slice t.p.a t.p.l.length t.p.cap, .int .i64 t.p.fr, .int .i64 t.p.b] 43)).block _ (lt_of_block hH)).trans hH)⟩
            case measure => simp [intOf]
          · gi_wp2
            refine bodyPost_ret (results_none rfl _ _ _) rfl ?_
            exact ⟨⟨_, rfl⟩, .inr ⟨_, by rw [hnext.out]; exact mayTo_pre1 HT.out, hJx3⟩⟩
        · skip
          obtain ⟨fn, tmps, assign, body, hy, hR⟩ := hY pre ⟨(t.nm, t.x), mem_sent HT.out⟩ (wr.alloc (.cells #[.int .i64 t.x.q, .int .i64 t.x.s, .slice t.x.a t.x.l.length t.x.cap, .int .i64 t.x.fr, .int .i64 t.x.b] 43)) (hJ _ _ _ hJs (grown_none (bel1 _))) (by have e := congrArg List.length hpre; rw [List.length_map, List.length_append, mayTo_length (by omega), List.length_singleton] at e; omega)
          have hnext : Hid ((pre ++ [(⟨(t.nm, t.x), mem_sent HT.out⟩ : NE ts)]).map vN = mayTo ts k ++ [(t.nm, t.p)] ++ [(t.nm, t.x)]) := by show _ = _; rw [List.map_append, hpre]; rfl
          have hpl : pre.length < 2 * ts.length := by have e := congrArg List.length hpre; rw [List.length_map, List.length_append, mayTo_length (by omega), List.length_singleton] at e; omega
          clear hpre
          dsimp only [encN] at hy
          clear hY
          have c0 : (wr.alloc (.cells #[.int .i64 t.x.q, .int .i64 t.x.s, .slice t.x.a t.x.l.length t.x.cap, .int .i64 t.x.fr, .int .i64 t.x.b] 43)).cell? ⟨B3, 0, none⟩ = some (.string t.nm) := ((bel1 (w := wr) (.cells #[.int .i64 t.x.q, .int .i64 t.x.s, .slice t.x.a t.x.l.length t.x.cap, .int .i64 t.x.fr, .int .i64 t.x.b] 43)).cell (p := ⟨B3, 0, none⟩) (lt_of_block hH)).trans (cl_cells (cl_block hH)).1
          have ix := idx1 t
          gi_wp2_with fail
          refine hR.mono ?_
          rintro e W3 (⟨rfl, hJ3, hk4⟩ | ⟨rfl, hJx3⟩)
          · gi_wp2
            go_roundw
            case rel => exact ⟨2, by omega, rfl, ⟨_, hJ3, .inr (.inr ⟨rfl, by rw [hnext.out, mayTo_succ HT.out]; simp [bothOf]⟩)⟩, (hk3.trans (KeepS.of (by have := hk3.size; omega) (bel1 _))).trans hk4, hk4.held _ _ (((bel1 (w := wr) (.cells #[.int .i64 t.x.q, .int .i64 t.x.s, .slice t.x.a t.x.l.length t.x.cap, .int .i64 t.x.fr, .int .i64 t.x.b] 43)).block _ (lt_of_block hH)).trans hH)⟩
            case measure => simp [intOf]
          · gi_wp2
            refine bodyPost_ret (results_none rfl _ _ _) rfl ?_
            exact ⟨⟨_, rfl⟩, .inr ⟨_, by rw [hnext.out]; obtain ⟨post, hp⟩ := mayTo_pre ts (k + 1); exact ⟨post, by rw [hp, mayTo_succ HT.out]; simp [bothOf]⟩, hJx3⟩⟩
        · gi_wp2
          go_roundw
          case rel => exact ⟨k + 1, by omega, by go_num, ⟨pre, hpre, hJs⟩, hk3⟩
          case measure => simp [intOf]; omega
    · obtain rfl : k = ts.length := by omega
      gi_wp2
      go_end0
      obtain ⟨pre, hpre, hJs⟩ := hJs
      exact ⟨⟨_, rfl⟩, .inl ⟨_, hpre.trans (mayTo_all ts), hJs⟩⟩
end Go.Proofs.YtfmdejilhbankaaGreat

namespace Go.Proofs.YtfmdejilhbankaaGreat
open Go.RowKit

theorem onSide_any (n : Int) (w : World) :
    Calls Tryz.prog 160 #[.int .i64 n] w fun e w' => e = .returned (.bool (inB n 0 15)) ∧ w' = w := by
  by_cases h1 : 0 ≤ n
  · go_enter Tryz.func160, Tryz.ntmps160
    go_wp2
    go_ret
    have e1 : decide (n < 16) = inB n 0 15 := by by_cases h : n < 16 <;> simp [inB, h, h1] <;> omega
    exact ⟨by rw [← e1]; rfl, rfl⟩
  · have h1' : decide (0 ≤ n) = false := by simpa using h1
    go_enter Tryz.func160, Tryz.ntmps160
    go_wp2
    go_ret
    exact ⟨by simp [inB, h1'], rfl⟩

theorem ordered_any (a b c d : Int) (w : World) :
    Calls Tryz.prog 145 #[.int .i64 a, .int .i64 b, .int .i64 c, .int .i64 d] w fun e w' => e = .returned (.bool (ordB a b c d)) ∧ w' = w := by
  by_cases h1 : a ≤ b
  · by_cases h2 : b ≤ c
    · go_enter Tryz.func145, Tryz.ntmps145
      go_wp2
      go_ret
      exact ⟨by simp [ordB, h1, h2], rfl⟩
    · have e1 : ordB a b c d = false := by simp [ordB]; omega
      rw [e1]
      clear e1
      go_enter Tryz.func145, Tryz.ntmps145
      go_wp2
      go_ret
      exact ⟨rfl, rfl⟩
  · have e1 : ordB a b c d = false := by simp [ordB]; omega
    rw [e1]
    clear e1
    go_enter Tryz.func145, Tryz.ntmps145
    go_wp2
    go_ret
    exact ⟨rfl, rfl⟩

theorem isBeside_any (a b : Int) (w : World) :
    Calls Tryz.prog 162 #[.int .i64 a, .int .i64 b] w fun e w' => e = .returned (.bool (inB (wrap64 (a - b)) (-1) 1)) ∧ w' = w := by
  by_cases h1 : -1 ≤ wrap64 (a - b)
  · go_enter Tryz.func162, Tryz.ntmps162
    go_wp2
    go_ret
    exact ⟨by simp [inB, h1], rfl⟩
  · have h1' : decide (-1 ≤ wrap64 (a - b)) = false := by simpa using h1
    go_enter Tryz.func162, Tryz.ntmps162
    go_wp2
    go_ret
    exact ⟨by simp [inB, h1'], rfl⟩

theorem stepOk_any (x y lo hi fr b : Int) (ho : Bool) (w : World) :
    Calls Tryz.prog 142 #[.agg #[.int .i64 x, .int .i64 y, .int .i64 lo, .int .i64 hi, .int .i64 fr, .int .i64 b, .bool ho]] w fun e w' => e = .returned (.bool (stepB x y lo hi fr b)) ∧ Below w.heap.size w w' := by
  have hb := (Below.refl w.heap.size w).alloc (Nat.le_refl _) (.cells #[.int .i64 x, .int .i64 y, .int .i64 lo, .int .i64 hi, .int .i64 fr, .int .i64 b, .bool ho] 102)
  cases h1 : inB x 0 15 with
  | false =>
    have e1 : stepB x y lo hi fr b = false := by simp [stepB, inB] at *; omega
    rw [e1]; clear e1
    go_enter Tryz.func142, Tryz.ntmps142
    go_wp2_with (first | (go_at_call 160; refine (onSide_any _ _).mono ?_; rintro e w' ⟨rfl, rfl⟩) | (go_at_call 145; refine (ordered_any _ _ _ _ _).mono ?_; rintro e w' ⟨rfl, rfl⟩))
    go_ret
    exact ⟨rfl, hb⟩
  | true =>
  cases h2 : inB y 0 15 with
  | false =>
    have e1 : stepB x y lo hi fr b = false := by simp [stepB, inB] at *; omega
    rw [e1]; clear e1
    go_enter Tryz.func142, Tryz.ntmps142
    go_wp2_with (first | (go_at_call 160; refine (onSide_any _ _).mono ?_; rintro e w' ⟨rfl, rfl⟩) | (go_at_call 145; refine (ordered_any _ _ _ _ _).mono ?_; rintro e w' ⟨rfl, rfl⟩))
    go_ret
    exact ⟨rfl, hb⟩
  | true =>
  cases h3 : ordB 0 lo hi 6 with
  | false =>
    have e1 : stepB x y lo hi fr b = false := by simp [stepB, inB, ordB] at *; omega
    rw [e1]; clear e1
    go_enter Tryz.func142, Tryz.ntmps142
    go_wp2_with (first | (go_at_call 160; refine (onSide_any _ _).mono ?_; rintro e w' ⟨rfl, rfl⟩) | (go_at_call 145; refine (ordered_any _ _ _ _ _).mono ?_; rintro e w' ⟨rfl, rfl⟩))
    go_ret
    exact ⟨rfl, hb⟩
  | true =>
    have e1 : stepB x y lo hi fr b = ordB 0 fr b 10000 := by
      rw [Bool.eq_iff_iff]; simp [stepB, inB, ordB] at *; omega
    rw [e1]; clear e1
    go_enter Tryz.func142, Tryz.ntmps142
    go_wp2_with (first | (go_at_call 160; refine (onSide_any _ _).mono ?_; rintro e w' ⟨rfl, rfl⟩) | (go_at_call 145; refine (ordered_any _ _ _ _ _).mono ?_; rintro e w' ⟨rfl, rfl⟩))
    go_ret
    exact ⟨rfl, hb⟩

theorem sharesLevel_any (x y lo hi fr b x' y' lo' hi' fr' b' : Int) (ho ho' : Bool) (w : World) :
    Calls Tryz.prog 163 #[.agg #[.int .i64 x, .int .i64 y, .int .i64 lo, .int .i64 hi, .int .i64 fr, .int .i64 b, .bool ho], .agg #[.int .i64 x', .int .i64 y', .int .i64 lo', .int .i64 hi', .int .i64 fr', .int .i64 b', .bool ho']] w
      fun e w' => e = .returned (.bool (levB lo hi lo' hi')) ∧ Below w.heap.size w w' := by
  have hb := ((Below.refl w.heap.size w).alloc (Nat.le_refl _) (.cells #[.int .i64 x, .int .i64 y, .int .i64 lo, .int .i64 hi, .int .i64 fr, .int .i64 b, .bool ho] 102)).alloc (by simp) (.cells #[.int .i64 x', .int .i64 y', .int .i64 lo', .int .i64 hi', .int .i64 fr', .int .i64 b', .bool ho'] 102)
  by_cases h1 : lo ≤ hi'
  · go_enter Tryz.func163, Tryz.ntmps163
    go_wp2
    go_ret
    exact ⟨by simp [levB, h1], hb⟩
  · have h1' : decide (lo ≤ hi') = false := by simpa using h1
    go_enter Tryz.func163, Tryz.ntmps163
    go_wp2
    go_ret
    exact ⟨by simp [levB, h1'], hb⟩

set_option maxHeartbeats 1000000 in
theorem follows_any (x y lo hi fr b x' y' lo' hi' fr' b' : Int) (ho ho' : Bool) (w : World) :
    Calls Tryz.prog 144 #[.agg #[.int .i64 x, .int .i64 y, .int .i64 lo, .int .i64 hi, .int .i64 fr, .int .i64 b, .bool ho], .agg #[.int .i64 x', .int .i64 y', .int .i64 lo', .int .i64 hi', .int .i64 fr', .int .i64 b', .bool ho']] w
      fun e w' => e = .returned (.bool (folB x y lo hi x' y' lo' hi')) ∧ Below w.heap.size w w' := by
  have hb := ((Below.refl w.heap.size w).alloc (Nat.le_refl _) (.cells #[.int .i64 x, .int .i64 y, .int .i64 lo, .int .i64 hi, .int .i64 fr, .int .i64 b, .bool ho] 102)).alloc (by simp) (.cells #[.int .i64 x', .int .i64 y', .int .i64 lo', .int .i64 hi', .int .i64 fr', .int .i64 b', .bool ho'] 102)
  cases h1 : (x == x') <;> cases h2 : (y == y') <;> cases h3 : inB (wrap64 (x - x')) (-1) 1 <;> cases h4 : inB (wrap64 (y - y')) (-1) 1
  all_goals
    go_enter Tryz.func144, Tryz.ntmps144
    go_wp2_with (first | (go_at_call 162; refine (isBeside_any _ _ _).mono ?_; rintro e w' ⟨rfl, rfl⟩) | (go_at_call 163; refine (sharesLevel_any x y lo hi fr b x' y' lo' hi' fr' b' ho ho' _).mono ?_; rintro e w1 ⟨rfl, hb1⟩))
    go_ret
    first
      | exact ⟨by simp [folB, h1, h2, h3, h4], hb⟩
      | exact ⟨by simp [folB, h1, h2, h3, h4], hb.trans (hb1.mono (by simp; omega))⟩
end Go.Proofs.YtfmdejilhbankaaGreat

namespace Go.Proofs.YtfmdejilhbankaaGreat
open Go.RowKit

theorem kindM_any (q s : Int) (w : World) :
    Calls Tryz.prog 141 #[.agg #[.int .i64 q, .int .i64 s]] w fun e w' => e = .returned (.bool (kindB q s)) ∧ Below w.heap.size w w' := by
  have hb := (Below.refl w.heap.size w).alloc (Nat.le_refl _) (.cells #[.int .i64 q, .int .i64 s] 40)
  by_cases h1 : 1 ≤ q
  · by_cases h2 : q ≤ s
    · go_enter Tryz.func141, Tryz.ntmps141
      go_wp2
      go_ret
      exact ⟨by simp [kindB, h1, h2], hb⟩
    · have e1 : kindB q s = false := by simp [kindB]; omega
      go_enter Tryz.func141, Tryz.ntmps141
      go_wp2
      go_ret
      exact ⟨by first | rfl | (rw [e1]; rfl), hb⟩
  · have e1 : kindB q s = false := by simp [kindB]; omega
    go_enter Tryz.func141, Tryz.ntmps141
    go_wp2
    go_ret
    exact ⟨by first | rfl | (rw [e1]; rfl), hb⟩

theorem kindIsOk_any (q s fr b : Int) (a : Option Addr) (n cap : Nat) (w : World) :
    Calls Tryz.prog 116 #[.agg #[.int .i64 q, .int .i64 s, .slice a n cap, .int .i64 fr, .int .i64 b]] w fun e w' => e = .returned (.bool (kindB q s)) ∧ Below w.heap.size w w' := by
  go_enter Tryz.func116, Tryz.ntmps116
  go_wp2_with (go_at_call 141; refine (kindM_any _ _ _).mono ?_; rintro e w1 ⟨rfl, hb1⟩)
  go_ret
  exact ⟨rfl, ((Below.refl _ _).alloc (Nat.le_refl _) _).trans (hb1.mono (by simp))⟩

theorem stepCount_any (q s fr b : Int) (a : Option Addr) (n cap : Nat) (w : World) (hn : n ≤ 1048576) :
    Calls Tryz.prog 117 #[.agg #[.int .i64 q, .int .i64 s, .slice a n cap, .int .i64 fr, .int .i64 b]] w fun e w' => e = .returned (.bool (inB n 1 40)) ∧ Below w.heap.size w w' := by
  have hb := (Below.refl w.heap.size w).alloc (Nat.le_refl _) (.cells #[.int .i64 q, .int .i64 s, .slice a n cap, .int .i64 fr, .int .i64 b] 43)
  by_cases h1 : (1 : Int) ≤ (n : Int)
  · have e1 : inB n 1 40 = decide ((n : Int) ≤ 40) := by simp [inB, h1]
    go_enter Tryz.func117, Tryz.ntmps117
    go_wp2
    go_ret
    exact ⟨by first | rfl | (rw [e1]; rfl), hb⟩
  · have e1 : inB n 1 40 = false := by simp [inB]; omega
    go_enter Tryz.func117, Tryz.ntmps117
    go_wp2
    go_ret
    exact ⟨by first | rfl | (rw [e1]; rfl), hb⟩

theorem endIsOk_any (q s fr b : Int) (a : Option Addr) (n cap : Nat) (w : World) :
    Calls Tryz.prog 120 #[.agg #[.int .i64 q, .int .i64 s, .slice a n cap, .int .i64 fr, .int .i64 b]] w fun e w' => e = .returned (.bool (ordB 0 fr b 10000)) ∧ Below w.heap.size w w' := by
  go_enter Tryz.func120, Tryz.ntmps120
  go_wp2_with (go_at_call 145; refine (ordered_any _ _ _ _ _).mono ?_; rintro e w' ⟨rfl, rfl⟩)
  go_ret
  exact ⟨rfl, (Below.refl _ _).alloc (Nat.le_refl _) _⟩

set_option maxHeartbeats 1000000 in
theorem stepsAreOk_any (q s fr b : Int) (a : Option Addr) (b0 o cap : Nat) (l : List Stp) (w : World) (hl : l.length ≤ 1048576) (hs : StepsAt w a b0 o l) :
    Calls Tryz.prog 118 #[.agg #[.int .i64 q, .int .i64 s, .slice a l.length cap, .int .i64 fr, .int .i64 b]] w fun e w' => e = .returned (.bool (okTo l l.length)) ∧ Below w.heap.size w w' := by
  go_enter Tryz.func118, Tryz.ntmps118
  go_wp2
  go_loopw [8] (fun v wr => ∃ k : Nat, k ≤ l.length ∧ v = .int .i64 k ∧ Below w.heap.size w wr ∧ okTo l k = true) (fun v _ => l.length - (intOf v).toNat)
  case atStart => exact ⟨0, Nat.zero_le _, rfl, (Below.refl _ _).alloc (Nat.le_refl _) _, rfl⟩
  case round =>
    obtain ⟨k, hk, rfl, hb, hgood⟩ := hrel
    have HG : Hid (okTo l k = true) := hgood
    clear hgood
    by_cases hlt : k < l.length
    · obtain ⟨t, htk⟩ : ∃ t, l[k]? = some t := ⟨l[k], List.getElem?_eq_getElem hlt⟩
      have hne : l ≠ [] := by intro e; subst e; simp at hlt
      obtain rfl := hs.here hne
      have hbw := hs.lt hne
      obtain ⟨d0, d1, d2, d3, d4, d5, d6⟩ := (hs.below hb (fun _ => hbw)).seven htk
      have HT : Hid (l.getD k .zero = t) := by show _ = _; simp [List.getD, htk]
      clear htk
      have HE : Hid (okS l k = stepB t.x t.y t.lo t.hi t.fr t.by_) := by show _ = _; unfold okS; rw [HT.out]
      cases hok : stepB t.x t.y t.lo t.hi t.fr t.by_ with
      | false =>
        have G1 : Hid (okTo l l.length = false) := all_not hlt (HE.out.trans hok)
        go_wp2_with (go_at_call 142; refine (stepOk_any _ _ _ _ _ _ _ _).mono ?_; rintro e w2 ⟨rfl, hb2⟩)
        go_ret
        exact ⟨by rw [G1.out]; rfl, (hb.alloc hb.size _).trans (hb2.mono (by have := hb.size; simp; omega))⟩
      | true =>
        have G1 : Hid (okTo l (k + 1) = true) := by show _ = _; unfold okTo; rw [all_succ]; have := HG.out; unfold okTo at this; rw [this, HE.out, hok]; rfl
        go_wp2_with (go_at_call 142; refine (stepOk_any _ _ _ _ _ _ _ _).mono ?_; rintro e w2 ⟨rfl, hb2⟩)
        go_roundw
        case rel => exact ⟨k + 1, by omega, by go_num, (hb.alloc hb.size _).trans (hb2.mono (by have := hb.size; simp; omega)), G1.out⟩
        case measure => simp [intOf]; omega
    · obtain rfl : k = l.length := by omega
      go_wp2
      go_ret
      exact ⟨by rw [HG.out]; rfl, hb⟩
end Go.Proofs.YtfmdejilhbankaaGreat

namespace Go.Proofs.YtfmdejilhbankaaGreat
open Go.RowKit

/-- What is asked of the check of two steps. -/
def FollowSaid : Prop := ∀ (q s fr b : Int) (a : Option Addr) (b0 o cap : Nat) (l : List Stp) (w : World), l.length ≤ 1048576 → StepsAt w a b0 o l →
    Calls Tryz.prog 119 #[.agg #[.int .i64 q, .int .i64 s, .slice a l.length cap, .int .i64 fr, .int .i64 b]] w fun e w' => e = .returned (.bool (folTo l (l.length - 1))) ∧ Below w.heap.size w w'

/-- The two blocks that the call itself laid: the path, and the list of checks. -/
structure Laid2 (w wr : World) (q s fr b : Int) (v : Value) : Prop where
  old : Below w.heap.size w wr
  size : w.heap.size + 2 ≤ wr.heap.size
  p0 : wr.cell? ⟨w.heap.size, 0, none⟩ = some (.int .i64 q)
  p1 : wr.cell? ⟨w.heap.size, 1, none⟩ = some (.int .i64 s)
  p2 : wr.cell? ⟨w.heap.size, 2, none⟩ = some v
  p3 : wr.cell? ⟨w.heap.size, 3, none⟩ = some (.int .i64 fr)
  p4 : wr.cell? ⟨w.heap.size, 4, none⟩ = some (.int .i64 b)
  f0 : wr.cell? ⟨w.heap.size + 1, 0, none⟩ = some (.func (.func 116) #[] #[])
  f1 : wr.cell? ⟨w.heap.size + 1, 1, none⟩ = some (.func (.func 117) #[] #[])
  f2 : wr.cell? ⟨w.heap.size + 1, 2, none⟩ = some (.func (.func 118) #[] #[])
  f3 : wr.cell? ⟨w.heap.size + 1, 3, none⟩ = some (.func (.func 119) #[] #[])
  f4 : wr.cell? ⟨w.heap.size + 1, 4, none⟩ = some (.func (.func 120) #[] #[])

theorem Laid2.below {w wr w2 : World} {q s fr b : Int} {v : Value} (h : Laid2 w wr q s fr b v) (hb : Below wr.heap.size wr w2) : Laid2 w w2 q s fr b v := by
  have z := h.size
  have c0 : ∀ j, w2.cell? ⟨w.heap.size, j, none⟩ = wr.cell? ⟨w.heap.size, j, none⟩ := fun j => hb.cell (p := ⟨w.heap.size, j, none⟩) (by show w.heap.size < _; omega)
  have c1 : ∀ j, w2.cell? ⟨w.heap.size + 1, j, none⟩ = wr.cell? ⟨w.heap.size + 1, j, none⟩ := fun j => hb.cell (p := ⟨w.heap.size + 1, j, none⟩) (by show w.heap.size + 1 < _; omega)
  exact ⟨h.old.trans (hb.mono (by omega)), Nat.le_trans z hb.size, (c0 _).trans h.p0, (c0 _).trans h.p1, (c0 _).trans h.p2, (c0 _).trans h.p3, (c0 _).trans h.p4,
    (c1 _).trans h.f0, (c1 _).trans h.f1, (c1 _).trans h.f2, (c1 _).trans h.f3, (c1 _).trans h.f4⟩

/-- The check at place i. -/
def chkB (q s fr b : Int) (l : List Stp) : Nat → Bool
  | 0 => kindB q s
  | 1 => inB l.length 1 40
  | 2 => okTo l l.length
  | 3 => folTo l (l.length - 1)
  | _ => ordB 0 fr b 10000
def chkTo (q s fr b : Int) (l : List Stp) (k : Nat) : Bool := (List.range k).all (chkB q s fr b l)
theorem chkTo_five (q s fr b : Int) (l : List Stp) : chkTo q s fr b l 5 = pathB q s fr b l := by
  rw [← checks_path]
  simp [chkTo, List.range_succ, chkB, Bool.and_assoc]

set_option maxHeartbeats 2000000 in
theorem pathOk_any (hF : FollowSaid) (q s fr b : Int) (a : Option Addr) (b0 o cap : Nat) (l : List Stp) (w : World) (hl : l.length ≤ 1048576) (hs : StepsAt w a b0 o l) :
    Calls Tryz.prog 85 #[.agg #[.int .i64 q, .int .i64 s, .slice a l.length cap, .int .i64 fr, .int .i64 b]] w fun e w' => e = .returned (.bool (pathB q s fr b l)) ∧ Below w.heap.size w w' := by
  have H5 : Hid (chkTo q s fr b l 5 = pathB q s fr b l) := chkTo_five q s fr b l
  go_enter Tryz.func85, Tryz.ntmps85
  go_wp2
  go_loopw [9] (fun v wr => ∃ k : Nat, k ≤ 5 ∧ v = .int .i64 k ∧ Laid2 w wr q s fr b (.slice a l.length cap) ∧ chkTo q s fr b l k = true) (fun v _ => 5 - (intOf v).toNat)
  case atStart =>
    refine ⟨0, by omega, rfl, ⟨((Below.refl _ _).alloc (Nat.le_refl _) _).alloc (by simp) _, by simp, ?_, ?_, ?_, ?_, ?_, ?_, ?_, ?_, ?_, ?_⟩, rfl⟩
    all_goals simp [go_sem]
  case round =>
    obtain ⟨k, hk, rfl, hL, hgood⟩ := hrel
    have HG : Hid (chkTo q s fr b l k = true) := hgood
    clear hgood
    have step : ∀ v, chkB q s fr b l k = v → Hid (chkTo q s fr b l (k + 1) = v) := fun v hv => by
      show _ = _
      have := HG.out
      unfold chkTo at *
      rw [all_succ, this, hv]; simp
    have stop : k < 5 → chkB q s fr b l k = false → Hid (pathB q s fr b l = false) := fun h hv => by
      show _ = _
      rw [← H5.out]
      exact all_not h hv
    have p0 := hL.p0
    have p1 := hL.p1
    have p2 := hL.p2
    have p3 := hL.p3
    have p4 := hL.p4
    have hs1 := hs.below hL.old hs.lt
    rcases (show k = 0 ∨ k = 1 ∨ k = 2 ∨ k = 3 ∨ k = 4 ∨ k = 5 by omega) with rfl | rfl | rfl | rfl | rfl | rfl
    · have f := hL.f0
      cases hv : kindB q s with
      | false =>
        have G := stop (by omega) hv
        clear step stop
        go_wp2_with (go_at_call 116; refine (kindIsOk_any _ _ _ _ _ _ _ _).mono ?_; rintro e w2 ⟨rfl, hb2⟩)
        go_ret
        exact ⟨by rw [G.out]; rfl, (hL.below hb2).old⟩
      | true =>
        have G := step _ hv
        clear step stop
        go_wp2_with (go_at_call 116; refine (kindIsOk_any _ _ _ _ _ _ _ _).mono ?_; rintro e w2 ⟨rfl, hb2⟩)
        go_roundw
        case rel => exact ⟨1, by omega, by go_num, hL.below hb2, G.out⟩
        case measure => simp [intOf]
    · have f := hL.f1
      cases hv : inB l.length 1 40 with
      | false =>
        have G := stop (by omega) hv
        clear step stop
        go_wp2_with (go_at_call 117; refine (stepCount_any _ _ _ _ _ _ _ _ hl).mono ?_; rintro e w2 ⟨rfl, hb2⟩)
        go_ret
        exact ⟨by rw [G.out]; rfl, (hL.below hb2).old⟩
      | true =>
        have G := step _ hv
        clear step stop
        go_wp2_with (go_at_call 117; refine (stepCount_any _ _ _ _ _ _ _ _ hl).mono ?_; rintro e w2 ⟨rfl, hb2⟩)
        go_roundw
        case rel => exact ⟨2, by omega, by go_num, hL.below hb2, G.out⟩
        case measure => simp [intOf]
    · have f := hL.f2
      cases hv : okTo l l.length with
      | false =>
        have G := stop (by omega) hv
        clear step stop
        go_wp2_with (go_at_call 118; refine (stepsAreOk_any _ _ _ _ _ b0 o _ _ _ hl hs1).mono ?_; rintro e w2 ⟨rfl, hb2⟩)
        go_ret
        exact ⟨by rw [G.out]; rfl, (hL.below hb2).old⟩
      | true =>
        have G := step _ hv
        clear step stop
        go_wp2_with (go_at_call 118; refine (stepsAreOk_any _ _ _ _ _ b0 o _ _ _ hl hs1).mono ?_; rintro e w2 ⟨rfl, hb2⟩)
        go_roundw
        case rel => exact ⟨3, by omega, by go_num, hL.below hb2, G.out⟩
        case measure => simp [intOf]
    · have f := hL.f3
      cases hv : folTo l (l.length - 1) with
      | false =>
        have G := stop (by omega) hv
        clear step stop
        go_wp2_with (go_at_call 119; refine (hF _ _ _ _ _ b0 o _ _ _ hl hs1).mono ?_; rintro e w2 ⟨rfl, hb2⟩)
        go_ret
        exact ⟨by rw [G.out]; rfl, (hL.below hb2).old⟩
      | true =>
        have G := step _ hv
        clear step stop
        go_wp2_with (go_at_call 119; refine (hF _ _ _ _ _ b0 o _ _ _ hl hs1).mono ?_; rintro e w2 ⟨rfl, hb2⟩)
        go_roundw
        case rel => exact ⟨4, by omega, by go_num, hL.below hb2, G.out⟩
        case measure => simp [intOf]
    · have f := hL.f4
      cases hv : ordB 0 fr b 10000 with
      | false =>
        have G := stop (by omega) hv
        clear step stop
        go_wp2_with (go_at_call 120; refine (endIsOk_any _ _ _ _ _ _ _ _).mono ?_; rintro e w2 ⟨rfl, hb2⟩)
        go_ret
        exact ⟨by rw [G.out]; rfl, (hL.below hb2).old⟩
      | true =>
        have G := step _ hv
        clear step stop
        go_wp2_with (go_at_call 120; refine (endIsOk_any _ _ _ _ _ _ _ _).mono ?_; rintro e w2 ⟨rfl, hb2⟩)
        go_roundw
        case rel => exact ⟨5, by omega, by go_num, hL.below hb2, G.out⟩
        case measure => simp [intOf]
    · clear step stop
      go_wp2
      go_ret
      exact ⟨by rw [← H5.out, HG.out]; rfl, hL.old⟩
end Go.Proofs.YtfmdejilhbankaaGreat

namespace Go.Proofs.YtfmdejilhbankaaGreat
open Go.RowKit Go.Shelf
attribute [local go_sem] Oper.semAt_some

/-- The j-th pair of steps. -/
def pairAt (l : List Stp) (j : Nat) : Stp × Stp := (l.getD j .zero, l.getD (j + 1) .zero)
/-- The first k pairs. -/
def pairsTo (l : List Stp) (k : Nat) : List (Stp × Stp) := (List.range k).map (pairAt l)
theorem pairsTo_succ (l : List Stp) (k : Nat) : pairsTo l (k + 1) = pairsTo l k ++ [pairAt l k] := by simp [pairsTo, List.range_succ]
theorem pairsTo_length (l : List Stp) (k : Nat) : (pairsTo l k).length = k := by simp [pairsTo]

abbrev encP (x : Stp × Stp) : Array Value := #[x.1.val, x.2.val]

set_option maxRecDepth 100000 in
set_option maxHeartbeats 2000000 in
theorem pairs1_in (n : Nat) (hn : 1 ≤ n) (lp Bs n₀ b0 o cap : Nat) (a : Option Addr) (l : List Stp) (hl : l.length ≤ 1048576) (hBs : Bs < n₀) (hb0 : l ≠ [] → b0 < n₀) (J Jx : List (Stp × Stp) → World → Prop) (hJ : ∀ s A, J s A → J s A.drew)
    (hY : ∀ pre x W, J pre W → pre.length < l.length → YieldAt Fence.wide (n - 1) Tryz.prog lp (encP x) W fun e W' =>
      (e = .returned (.bool true) ∧ J (pre ++ [x]) W' ∧ Below n₀ W W') ∨ (e = .returned (.bool false) ∧ Jx (pre ++ [x]) W'))
    (W : World) (hc : W.cell? ⟨Bs, 0, none⟩ = some (.slice a l.length cap)) (hs : StepsAt W a b0 o l) (h0 : J [] W) :
    CallsIn Fence.wide n Tryz.prog 161 #[.func (.yield lp) #[] #[], .pointer (some ⟨Bs, 0, none⟩)] W fun e W' => (∃ v, e = .returned v) ∧
      ((∃ ys, ys = pairsTo l (l.length - 1) ∧ J ys W') ∨ (∃ pre, (∃ k, k ≤ l.length - 1 ∧ pre = pairsTo l k) ∧ Jx pre W')) := by
  refine callsIn_of_wp Tryz.func161 rfl trivial ?_ rfl
  simp only [Tryz.ntmps161, List.size_toArray, List.length_cons, List.length_nil, Nat.reduceAdd, Nat.reduceSub, Array.replicate_succ, Array.replicate_zero, List.push_toArray, List.append_toArray, List.nil_append, List.cons_append]
  gi_wp2
  gi_loopw [3] (fun i wr => ∃ k : Nat, k ≤ l.length - 1 ∧ i = .int .i64 (k + 1 : Nat) ∧ J (pairsTo l k) wr ∧ Below n₀ W wr) (fun i _ => l.length - (intOf i).toNat)
  case atStart => exact ⟨0, Nat.zero_le _, rfl, h0, Below.refl _ _⟩
  case round =>
    obtain ⟨k, hk, rfl, hJs, hnx⟩ := hrel
    have hcx := (hnx.cell (p := ⟨Bs, 0, none⟩) hBs).trans hc
    by_cases hlt : k + 1 < l.length
    · obtain ⟨p, hpk⟩ : ∃ p, l[k]? = some p := ⟨l[k], List.getElem?_eq_getElem (by omega)⟩
      obtain ⟨t, htk⟩ : ∃ t, l[k + 1]? = some t := ⟨l[k + 1], List.getElem?_eq_getElem hlt⟩
      have hne : l ≠ [] := by intro e; subst e; simp at hlt
      obtain rfl := hs.here hne
      have hs' := hs.below hnx hb0
      obtain ⟨c0, c1, c2, c3, c4, c5, c6⟩ := hs'.seven hpk
      obtain ⟨d0, d1, d2, d3, d4, d5, d6⟩ := hs'.seven htk
      have HP : Hid (pairAt l k = (p, t)) := by show _ = _; simp [pairAt, List.getD, hpk, htk]
      obtain ⟨fn, tmps, assign, body, hy, hR⟩ := hY _ (p, t) wr.drew (hJ _ _ hJs) (by rw [pairsTo_length]; omega)
      dsimp only [encP] at hy
      have hR' := hR.mono (R' := fun e W' => ∃ bb : Bool, e = .returned (.bool bb) ∧ ((bb = true ∧ J (pairsTo l k ++ [(p, t)]) W' ∧ Below n₀ wr.drew W') ∨ (bb = false ∧ Jx (pairsTo l k ++ [(p, t)]) W'))) (by
        rintro e W' (⟨h1, h2, h3⟩ | ⟨h1, h2⟩)
        · exact ⟨true, h1, .inl ⟨rfl, h2, h3⟩⟩
        · exact ⟨false, h1, .inr ⟨rfl, h2⟩⟩)
      clear hpk htk hs' hY hR
      have k0 : (0 : Int) ≤ (k : Int) := by omega
      have k1 : (k : Int) + 1 < (l.length : Int) := by omega
      have k2 : (k : Int) < (l.length : Int) := by omega
      have k3 : k < l.length := by omega
      have k4 : (0 : Int) ≤ (k : Int) + 1 := by omega
      have k5 : IntKind.i64.wrap (k : Int) = (k : Int) := by rw [IntKind.wrap_i64]; omega
      gi_wp2
      gi_region_with (refine hR'.mono ?_; rintro e W3 ⟨bb, rfl, hor⟩)
      all_goals
        cases bb with
        | true =>
          obtain ⟨hJ3, hk3⟩ : J (pairsTo l k ++ [(p, t)]) W3 ∧ Below n₀ wr.drew W3 := by simpa using hor
          gi_wp2
          go_roundw
          case rel => exact ⟨k + 1, by omega, by go_num, by rw [pairsTo_succ, HP.out]; exact hJ3, hnx.drew.trans hk3⟩
          case measure => simp [intOf]; omega
        | false =>
          have hJx3 : Jx (pairsTo l k ++ [(p, t)]) W3 := by simpa using hor
          gi_wp2
          refine bodyPost_ret (results_none rfl _ _ _) rfl ?_
          exact ⟨⟨_, rfl⟩, .inr ⟨_, ⟨k + 1, by omega, by rw [pairsTo_succ, HP.out]⟩, hJx3⟩⟩
    · obtain rfl : k = l.length - 1 := by omega
      gi_wp2
      go_end0
      exact ⟨⟨_, rfl⟩, .inl ⟨_, rfl, hJs⟩⟩
end Go.Proofs.YtfmdejilhbankaaGreat

namespace Go.Proofs.YtfmdejilhbankaaGreat
open Go.RowKit Go.Shelf
attribute [local go_sem] Oper.semAt_some

set_option maxHeartbeats 1000000 in
theorem pairs_in (n : Nat) (a : Option Addr) (len cap : Nat) (w : World) :
    CallsIn Fence.wide n Tryz.prog 143 #[.slice a len cap] w fun e w' => e = .returned (.func (.func 161) #[] #[.pointer (some ⟨w.heap.size, 0, none⟩)]) ∧ w' = w.alloc (.cells #[.slice a len cap] 41) := by
  refine callsIn_of_wp Tryz.func143 rfl trivial ?_ rfl
  simp only [Tryz.ntmps143, List.size_toArray, List.length_cons, List.length_nil, Nat.reduceAdd, Nat.reduceSub, Array.replicate_succ, Array.replicate_zero, List.push_toArray, List.append_toArray, List.nil_append, List.cons_append]
  gi_wp2
  go_ret
  exact ⟨rfl, rfl⟩

theorem pairs_stops (n : Nat) (hn : 1 ≤ n) (Bs n₀ b0 o cap : Nat) (a : Option Addr) (l : List Stp) (hl : l.length ≤ 1048576) (w : World) (hBs : Bs < n₀) (hn₀ : n₀ ≤ w.heap.size)
    (hc : w.cell? ⟨Bs, 0, none⟩ = some (.slice a l.length cap)) (hs : StepsAt w a b0 o l) (hb0 : l ≠ [] → b0 < n₀) :
    SeqStopsK Fence.wide n Tryz.prog 161 #[.pointer (some ⟨Bs, 0, none⟩)] encP (Below n₀) (fun ys => ys = pairsTo l (l.length - 1)) (fun pre => ∃ k, k ≤ l.length - 1 ∧ pre = pairsTo l k) l.length w := fun lp J Jx W hW hJ _ hY h0 =>
  pairs1_in n hn lp Bs n₀ b0 o cap a l hl hBs hb0 J Jx (fun s A h => hJ s A A.drew none h ⟨rfl, rfl, rfl, Nat.le_refl _, fun _ _ _ => rfl⟩ (fun r e => by cases e)) hY W
    ((hW.cell (p := ⟨Bs, 0, none⟩) (Nat.lt_of_lt_of_le hBs hn₀)).trans hc) (hs.below hW (fun h => Nat.lt_of_lt_of_le (hb0 h) hn₀)) h0

/-- A block that holds one step. -/
def BoxS (W : World) (B : Nat) (s : Stp) : Prop := W.heap[B]? = some (.cells #[.int .i64 s.x, .int .i64 s.y, .int .i64 s.lo, .int .i64 s.hi, .int .i64 s.fr, .int .i64 s.by_, .bool s.ho] 102 (0, 0))
theorem BoxS.lt {W : World} {B : Nat} {s : Stp} (h : BoxS W B s) : B < W.heap.size := (Array.getElem?_eq_some_iff.1 h).1
theorem BoxS.kept {W W' : World} {row : Option Nat} {B : Nat} {s : Stp} (h : BoxS W B s) (hg : W.grownBy W' row) (hne : some B ≠ row) : BoxS W' B s := (hg.block B h.lt hne).trans h
theorem BoxS.alloc {W : World} {B : Nat} {s : Stp} (h : BoxS W B s) (ob : Obj) : BoxS (W.alloc ob) B s := (Below.heap_alloc W ob B h.lt).trans h
theorem BoxS.new (W : World) (s : Stp) : BoxS (W.alloc (.cells #[.int .i64 s.x, .int .i64 s.y, .int .i64 s.lo, .int .i64 s.hi, .int .i64 s.fr, .int .i64 s.by_, .bool s.ho] 102)) W.heap.size s := World.alloc_heap_new W _
theorem BoxS.own {X Y : World} {row : Option Nat} {B : Nat} {s : Stp} (h : BoxS X B s) (hg : X.grownBy Y row) (hr : ∀ r, row = some r → ∃ ob : Obj, X.heap[r]? = some ob ∧ ob.isCells = false) : BoxS Y B s :=
  h.kept hg (fun e' => by obtain ⟨ob, ho, hc⟩ := hr B e'.symm; rw [show X.heap[B]? = _ from h] at ho; cases ho; cases hc)
theorem BoxS.seven {W : World} {B : Nat} {s : Stp} (h : BoxS W B s) :
    W.cell? ⟨B, 0, none⟩ = some (.int .i64 s.x) ∧ W.cell? ⟨B, 1, none⟩ = some (.int .i64 s.y) ∧ W.cell? ⟨B, 2, none⟩ = some (.int .i64 s.lo) ∧ W.cell? ⟨B, 3, none⟩ = some (.int .i64 s.hi) ∧
    W.cell? ⟨B, 4, none⟩ = some (.int .i64 s.fr) ∧ W.cell? ⟨B, 5, none⟩ = some (.int .i64 s.by_) ∧ W.cell? ⟨B, 6, none⟩ = some (.bool s.ho) := by
  refine ⟨?_, ?_, ?_, ?_, ?_, ?_, ?_⟩ <;> simp [World.cell?, show W.heap[B]? = _ from h]

theorem keeps_below {W W' : World} (h : Below W.heap.size W W') : KeepsOthers W W' :=
  ⟨h.size, fun k _ hk _ => (h.block k (Array.getElem?_eq_some_iff.1 hk).1).trans hk⟩
theorem boxed_below {W W' : World} {B : Nat} {t : TypeId} {v : Value} (h : Boxed W B t v) (hb : Below W.heap.size W W') : Boxed W' B t v := (hb.block B h.lt).trans h

/-- A pair of which the second follows the first, as the program asks it. -/
def folP (x : Stp × Stp) : Bool := folB x.2.x x.2.y x.2.lo x.2.hi x.1.x x.1.y x.1.lo x.1.hi
theorem folTo_pairs (l : List Stp) (k : Nat) : folTo l k = (pairsTo l k).all folP := by
  simp only [folTo, pairsTo, List.all_map]
  rfl

set_option maxRecDepth 100000 in
set_option maxHeartbeats 4000000 in
theorem follow_any : FollowSaid := by
  intro q s fr b a b0 o cap l w hl hs
  refine (callsIn_wide (n := 4)).1 ?_
  refine callsIn_of_wp_marks Tryz.func119 rfl trivial ?_ rfl
  simp only [Tryz.ntmps119, List.size_toArray, List.length_cons, List.length_nil, Nat.reduceAdd, Nat.reduceSub, Array.replicate_succ, Array.replicate_zero, List.push_toArray, List.append_toArray, List.nil_append, List.cons_append]
  gi_wp2_with (refine ⟨trivial, ?_⟩; gi_at_call 143; refine (pairs_in _ _ _ _ _).mono ?_; rintro e w' ⟨rfl, rfl⟩)
  have bR := (Boxed.new (w.alloc (.cells #[.int .i64 q, .int .i64 s, .slice a l.length cap, .int .i64 fr, .int .i64 b] 43)) 4 (.bool false)).alloc (.cells #[.slice a l.length cap] 41)
  have bA := Boxed.new ((w.alloc (.cells #[.int .i64 q, .int .i64 s, .slice a l.length cap, .int .i64 fr, .int .i64 b] 43)).alloc (.cells #[.bool false] 4)) 41 (.slice a l.length cap)
  simp only [World.size_alloc] at bR bA
  have hB0 : Below w.heap.size w (((w.alloc (.cells #[.int .i64 q, .int .i64 s, .slice a l.length cap, .int .i64 fr, .int .i64 b] 43)).alloc (.cells #[.bool false] 4)).alloc (.cells #[.slice a l.length cap] 41)) := (((Below.refl _ w).alloc (Nat.le_refl _) _).alloc (by simp) _).alloc (by simp; omega) _
  have hsz : (((w.alloc (.cells #[.int .i64 q, .int .i64 s, .slice a l.length cap, .int .i64 fr, .int .i64 b] 43)).alloc (.cells #[.bool false] 4)).alloc (.cells #[.slice a l.length cap] 41)).heap.size = w.heap.size + 3 := by simp
  obtain ⟨W0, hW0⟩ : ∃ W0, (((w.alloc (.cells #[.int .i64 q, .int .i64 s, .slice a l.length cap, .int .i64 fr, .int .i64 b] 43)).alloc (.cells #[.bool false] 4)).alloc (.cells #[.slice a l.length cap] 41)) = W0 := ⟨_, rfl⟩
  rw [hW0] at bR bA hB0 hsz ⊢
  clear hW0
  refine wpIn_rangeFunc_ownH rfl (by omega) (gf := 161) (lb := #[.pointer (some ⟨w.heap.size + 1 + 1, 0, none⟩)]) rfl trivial (enters_of Tryz.func161 (by kernel_rfl) rfl)
    (pairs_stops _ (by omega) (w.heap.size + 1 + 1) W0.heap.size b0 o cap a l hl W0 (by omega) (Nat.le_refl _) bA.cell (hs.below hB0 hs.lt) (fun h => by have := hs.lt h; omega)) belowK_t (belowK_b (Nat.le_refl _)) (Below.refl _ _) (fun _ => rfl)
    (fun pre W => ((pre.all folP = true ∧ Boxed W (w.heap.size + 1) 4 (.bool false)) ∧ Boxed W (w.heap.size + 1 + 1) 41 (.slice a l.length cap)) ∧ Below w.heap.size w W)
    (fun c pre W => ((c = .ret ∧ pre.all folP = false) ∧ Boxed W (w.heap.size + 1) 4 (.bool false)) ∧ Below w.heap.size w W)
    (OwnFrom.and (OwnFrom.and (OwnFrom.and (ownFrom_pure _ _) (Own.from (boxed_own _ _ _) _)) (Own.from (boxed_own _ _ _) _)) (ownFrom_below (Nat.le_refl _) (by omega)))
    (fun c => OwnFrom.and (OwnFrom.and (ownFrom_pure _ _) (Own.from (boxed_own _ _ _) _)) (ownFrom_below (Nat.le_refl _) (by omega)))
    ⟨⟨⟨rfl, bR⟩, bA⟩, hB0⟩
    (fun x a' W => ∃ Bx By, w.heap.size + 1 < Bx ∧ w.heap.size + 1 < By ∧ BoxS W Bx x.1 ∧ BoxS W By x.2 ∧ a' = { tmps := #[.agg #[.int .i64 q, .int .i64 s, .slice a l.length cap, .int .i64 fr, .int .i64 b], .pointer (some ⟨w.heap.size, 0, none⟩), .pointer (some ⟨w.heap.size + 1, 0, none⟩), .pointer (some ⟨Bx, 0, none⟩), .pointer (some ⟨By, 0, none⟩), .pointer (some ⟨w.heap.size, 2, none⟩), .slice a l.length cap, .func (.func 161) #[] #[.pointer (some ⟨w.heap.size + 1 + 1, 0, none⟩)], x.1.val, x.2.val, undef, undef, undef, undef], defers := [] })
    (fun x a' _ X Y row hs' hg hr => by obtain ⟨Bx, By, h1, h2, h3, h4, h5⟩ := hs'; exact ⟨Bx, By, h1, h2, h3.own hg (fun r e => (hr r e).2), h4.own hg (fun r e => (hr r e).2), h5⟩)
    ?assign ?body ?done ?stop
  case assign =>
    rintro lp pre x W K ⟨⟨⟨hall, bR1⟩, bA1⟩, hB1⟩ hK
    have hW := bA1.lt
    gi_wp2
    exact hK _ _ (((KeepsOthers.alloc _ _).trans (KeepsOthers.alloc _ _)).from _) (((Below.refl _ W).alloc (by omega) _).alloc (by simp; omega) _) ⟨⟨⟨hall, (bR1.alloc _).alloc _⟩, (bA1.alloc _).alloc _⟩, (hB1.alloc hB1.size _).alloc (by simp; omega) _⟩
      ⟨W.heap.size, W.heap.size + 1, by omega, by omega, (BoxS.new W x.1).alloc _, by have := BoxS.new (W.alloc (.cells #[.int .i64 x.1.x, .int .i64 x.1.y, .int .i64 x.1.lo, .int .i64 x.1.hi, .int .i64 x.1.fr, .int .i64 x.1.by_, .bool x.1.ho] 102)) x.2; simpa using this, rfl⟩
  case body =>
    rintro lp pre x a' W _ _ ⟨⟨⟨hall, bR1⟩, bA1⟩, hB1⟩ ⟨Bx, By, hBx, hBy, bX, bY, rfl⟩ hlt
    obtain ⟨c0, c1, c2, c3, c4, c5, c6⟩ := bX.seven
    obtain ⟨d0, d1, d2, d3, d4, d5, d6⟩ := bY.seven
    have hW := bA1.lt
    have HA : Hid (pre.all folP = true) := hall
    clear hall
    cases hf : folB x.2.x x.2.y x.2.lo x.2.hi x.1.x x.1.y x.1.lo x.1.hi with
    | false =>
      have HE : Hid ((pre ++ [x]).all folP = false) := by show _ = _; rw [List.all_append, HA.out]; simp [folP, hf]
      gi_wp2_with (refine ⟨trivial, ?_⟩; gi_at_call 144; refine (CallsIn.inRound lp (callsIn_wide.2 (follows_any _ _ _ _ _ _ _ _ _ _ _ _ _ _ _))).mono ?_; rintro e w2 ⟨rfl, hb2⟩; have rc := (boxed_below bR1 hb2).cell; have rf := (boxed_below bR1 hb2).frozen)
      exact ⟨((keeps_below hb2).trans (KeepsOthers.setCell _ _ _)).from _, ⟨⟨rfl, HE.out⟩, (boxed_below bR1 hb2).set _⟩, (hB1.trans (hb2.mono hB1.size)).setCell (p := ⟨w.heap.size + 1, 0, none⟩) (by simp) _⟩
    | true =>
      have HE : Hid ((pre ++ [x]).all folP = true) := by show _ = _; rw [List.all_append, HA.out]; simp [folP, hf]
      gi_wp2_with (refine ⟨trivial, ?_⟩; gi_at_call 144; refine (CallsIn.inRound lp (callsIn_wide.2 (follows_any _ _ _ _ _ _ _ _ _ _ _ _ _ _ _))).mono ?_; rintro e w2 ⟨rfl, hb2⟩)
      exact ⟨(keeps_below hb2).from _, hb2.mono (by omega), ⟨⟨HE.out, boxed_below bR1 hb2⟩, boxed_below bA1 hb2⟩, hB1.trans (hb2.mono hB1.size)⟩
  case done =>
    rintro D zs W hD rfl ⟨⟨⟨hall, bR1⟩, bA1⟩, hB1⟩ hK
    have rc := bR1.cell
    have rf := bR1.frozen
    have HE : Hid (folTo l (l.length - 1) = true) := by show _ = _; rw [folTo_pairs]; exact hall
    clear hall
    gi_wp2
    have hK' := (KeepsOthers.setCell W ⟨w.heap.size + 1, 0, none⟩ (.bool true)).same D _ hK rfl
    refine ⟨by simp, .inl ⟨_, _, rfl, run_takeDeferred hK', ?_⟩⟩
    have hc5 := cell_kept (World.cell?_setCell_same' W ⟨w.heap.size + 1, 0, none⟩ (.bool true) (by rw [rc]; rfl)) (grownBy_putObj' _ D (.deferred none)) (fun r e => by cases e; exact ⟨_, hK', rfl⟩)
    refine ⟨.bool true, ?_, by rw [HE.out], (hB1.setCell (p := ⟨w.heap.size + 1, 0, none⟩) (by simp) _).trans (belowK_b (w := w) (Nat.le_refl _) _ D _ _ (by omega) hK' rfl rfl)⟩
    simp [results, Tryz.f119, go_sem, hc5]
  case stop =>
    rintro D c pre W hD ⟨k, hk, rfl⟩ ⟨⟨⟨rfl, hbad⟩, bR1⟩, hB1⟩ hK
    have HE : Hid (folTo l (l.length - 1) = false) := by
      show _ = _
      rw [← folTo_pairs] at hbad
      cases e : folTo l (l.length - 1) with
      | false => rfl
      | true =>
        exfalso
        simp only [folTo, List.all_eq_true, List.mem_range] at e
        have : folTo l k = true := by simp only [folTo, List.all_eq_true, List.mem_range]; exact fun i hi => e i (by omega)
        rw [this] at hbad
        cases hbad
    clear hbad
    gi_wp2
    refine ⟨by simp, .inl ⟨_, _, rfl, run_takeDeferred hK, ?_⟩⟩
    have hc5 := cell_kept bR1.cell (grownBy_putObj' _ D (.deferred none)) (fun r e => by cases e; exact ⟨_, hK, rfl⟩)
    refine ⟨.bool false, ?_, by rw [HE.out], hB1.trans (belowK_b (w := w) (Nat.le_refl _) W D _ _ (by omega) hK rfl rfl)⟩
    simp [results, Tryz.f119, go_sem, hc5]
end Go.Proofs.YtfmdejilhbankaaGreat
