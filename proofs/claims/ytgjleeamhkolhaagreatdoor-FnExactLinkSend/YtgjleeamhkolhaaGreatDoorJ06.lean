/- Joined texts: LkCopyBI, LkHrW, LkWord, LkSendI, LkRefW. -/
import Derived.Deep.DeepCutAuto
import Derived.Maps.AppendAt
import Derived.Deep.RegionHeld3
import Derived.Test.YtgjleeamhkolhaaGreatDoorJ05
import Derived.Test.YtgjleeamhkolhaaGreatDoorJ04
import Derived.Test.YtgjleeamhkolhaaGreatDoorOwnMore
import Derived.Test.YtgjleeamhkolhaaGreatDoorJ03
namespace Go.Proofs.YtgjleeamhkolhaaGreatDoor
open Go.RowKit

theorem copiedI_pt (p : Pt) (w : World) (hl : p.l.length ≤ 1048576) (ha : p.a = some ⟨p.b0, p.o, none⟩) (hs : PtAt w p) :
    Calls Tryz.prog 69 #[p.val] w fun e w' => ∃ a c, e = .returned (.agg #[.int .i64 p.q, .int .i64 p.s, .slice a p.l.length c, .int .i64 p.fr, .int .i64 p.b]) ∧ w'.ownsRow w.heap.size 98 7 (.slice a p.l.length c) p.l.length (stepCells p.l) ∧ Below w.heap.size w w' := by
  obtain ⟨q, s, fr, b, a, b0, o, cap, l⟩ := p
  simp only at hl ha hs ⊢
  subst ha
  refine (pathCopied_any q s fr b b0 o cap l w hl hs).mono ?_
  rintro e w' ⟨v, rfl, ho, hb⟩
  obtain ⟨a, c, rfl⟩ := own_slice ho
  exact ⟨a, c, rfl, ho, hb⟩
structure CiW (w wr : World) (la : Int) (va v : Value) (us : List Hd) : Prop where
  old : Below w.heap.size w wr
  arg : Cbx wr w.heap.size #[.int .i64 la, va]
  bk : Cbx wr (w.heap.size + 1) #[.int .i64 la, v]
  own : BkOwn wr (w.heap.size + 1 + 1) v us
theorem CiW.keep {w wr w2 : World} {la : Int} {va v : Value} {us : List Hd} (h : CiW w wr la va v us) (hb : Below wr.heap.size wr w2) : CiW w w2 la va v us :=
  ⟨h.old.trans (hb.mono h.old.size), h.arg.keep hb, h.bk.keep hb, h.own.below hb⟩
theorem CiW.grow {w W w' : World} {la : Int} {va v : Value} {us : List Hd} (h : CiW w W la va v us) (hg : W.grownBy w' v.ownBlock) : Cbx w' w.heap.size #[.int .i64 la, va] ∧ Cbx w' (w.heap.size + 1) #[.int .i64 la, v] := by
  have hs : Spared v.ownBlock.toList W w' := Spared.grown hg (by simp)
  have hb := owns_base h.own.row
  exact ⟨h.arg.spared hs (fun e => by have := hb _ (by simpa using e); omega), h.bk.spared hs (fun e => by have := hb _ (by simpa using e); omega)⟩
theorem CiW.push {w W w' : World} {la : Int} {va v v' : Value} {us : List Hd} {u : Hd} (h : CiW w W la va v us) (ho : w'.ownsRow (w.heap.size + 1 + 1) 63 13 v' (us.length + 1) (hdCells us ++ u.cl)) (hg : W.grownBy w' v.ownBlock) (hu : HdOwn W (w.heap.size + 1 + 1) u) (ha : ∀ t ∈ us, HdApart t u) :
    CiW w (w'.setCell ⟨w.heap.size + 1, 1, none⟩ v') la va v' (us ++ [u]) := by
  have hbase := owns_base h.own.row
  obtain ⟨g0, g2⟩ := h.grow hg
  have hN := h.own.push ho hg hu ha
  refine ⟨?_, bx_other g0 (by omega) _ _, ?_, ?_⟩
  · exact (h.old.grown hg h.old.size (fun k e => by have := hbase k e; omega)).setCell (by show _ ≤ w.heap.size + 1; omega) _
  · exact bx_set g2 1 v'
  · have hlt := hN.lt
    refine hN.spared (S := [w.heap.size + 1]) (Spared.grown (grown_set _ _ _) (by simp)) (fun k hk hk' => ?_)
    simp at hk'
    have := (hlt k hk).1
    omega

set_option maxHeartbeats 4000000 in
set_option maxRecDepth 20000 in
theorem copyBI_any (la : Int) (a : Option Addr) (b o cap : Nat) (ts : List Hd) (w : World) (hl : ts.length ≤ 1048576) (hsm : ∀ t ∈ ts, t.p.l.length ≤ 1048576 ∧ t.x.l.length ≤ 1048576) (hput : ∀ t ∈ ts, t.p.a = some ⟨t.p.b0, t.p.o, none⟩ ∧ t.x.a = some ⟨t.x.b0, t.x.o, none⟩) (hs : HdsAt w a b o ts) :
    Calls Tryz.prog 37 #[.agg #[.int .i64 la, .slice a ts.length cap]] w
      fun e w' => ∃ (v : Value) (us : List Hd), e = .returned (.pointer (some ⟨w.heap.size + 1, 0, none⟩)) ∧ us.map Hd.key = ts.map Hd.key ∧ Cbx w' (w.heap.size + 1) #[.int .i64 la, v] ∧ BkOwn w' (w.heap.size + 1 + 1) v us ∧ Below w.heap.size w w' := by
  obtain ⟨i0, hi, hz0, hz1, hz2⟩ := info_parts held_info
  have HPUT : Hid (∀ t ∈ ts, t.p.a = some ⟨t.p.b0, t.p.o, none⟩ ∧ t.x.a = some ⟨t.x.b0, t.x.o, none⟩) := hput
  clear hput
  have C0 : CiW w ((w.alloc (.cells #[.int .i64 la, .slice a ts.length cap] 34)).alloc (.cells #[.int .i64 la, .slice none 0 0] 78)) la (.slice a ts.length cap) (.slice none 0 0) [] := by
    refine ⟨bel2 _ _, (Cbx.new w #[.int .i64 la, .slice a ts.length cap] 34).keep (bel1 _), ?_, BkOwn.nil _ _⟩
    have h := Cbx.new (w.alloc (.cells #[.int .i64 la, .slice a ts.length cap] 34)) #[.int .i64 la, .slice none 0 0] 78
    rwa [World.size_alloc] at h
  go_enter Tryz.func37, Tryz.ntmps37
  go_wp2
  go_loopw [14] (fun x wr => ∃ (k : Nat) (v : Value) (us : List Hd), k ≤ ts.length ∧ x = .int .i64 k ∧ CiW w wr la (.slice a ts.length cap) v us ∧ us.map Hd.key = (ts.take k).map Hd.key) (fun x _ => ts.length - (intOf x).toNat)
  case atStart => exact ⟨0, _, [], Nat.zero_le _, rfl, C0, rfl⟩
  case round =>
    clear C0
    obtain ⟨k, v, us, hk, rfl, hC, hK⟩ := hrel
    by_cases hlt : k < ts.length
    · obtain ⟨t, htk⟩ : ∃ t, ts[k]? = some t := ⟨ts[k], List.getElem?_eq_getElem hlt⟩
      have hne : ts ≠ [] := by intro e; subst e; simp at hlt
      obtain rfl := hs.here hne
      have hm := List.mem_of_getElem? htk
      obtain ⟨hpl, hxl⟩ := hsm t hm
      have hul := keys_len hK hk
      have k0 : (0 : Int) ≤ (k : Int) := by omega
      have k1 : (k : Int) < (ts.length : Int) := by omega
      have HK : Hid (us.map Hd.key = (ts.take k).map Hd.key) := hK
      have HT : Hid (ts[k]? = some t) := htk
      have hus : us.length ≤ 1048576 := by omega
      obtain ⟨a1, c1, rfl⟩ := own_slice hC.own.row
      obtain ⟨e0, e1, e2, e3, e4, e5, e6, e7, e8, e9, e10, e11, e12⟩ := cl_cells ((hs.below hC.old).cell k t HT.out)
      have C1 := hC.keep (bel1 (.cells #[.string t.nm, .int .i64 t.n, .int .i64 t.p.q, .int .i64 t.p.s, .slice t.p.a t.p.l.length t.p.cap, .int .i64 t.p.fr, .int .i64 t.p.b, .int .i64 t.sn, .int .i64 t.x.q, .int .i64 t.x.s, .slice t.x.a t.x.l.length t.x.cap, .int .i64 t.x.fr, .int .i64 t.x.b] 63))
      have X1 := Cbx.new wr #[.string t.nm, .int .i64 t.n, .int .i64 t.p.q, .int .i64 t.p.s, .slice t.p.a t.p.l.length t.p.cap, .int .i64 t.p.fr, .int .i64 t.p.b, .int .i64 t.sn, .int .i64 t.x.q, .int .i64 t.x.s, .slice t.x.a t.x.l.length t.x.cap, .int .i64 t.x.fr, .int .i64 t.x.b] 63
      have H1 : HdAt (wr.alloc (.cells #[.string t.nm, .int .i64 t.n, .int .i64 t.p.q, .int .i64 t.p.s, .slice t.p.a t.p.l.length t.p.cap, .int .i64 t.p.fr, .int .i64 t.p.b, .int .i64 t.sn, .int .i64 t.x.q, .int .i64 t.x.s, .slice t.x.a t.x.l.length t.x.cap, .int .i64 t.x.fr, .int .i64 t.x.b] 63)) t := (hs.each t hm).below (C1.old)
      have HC0 : Hid (CiW w wr la (.slice (some ⟨b, o, none⟩) ts.length cap) (.slice a1 us.length c1) us) := hC
      have zr := hC.bk.lt
      clear htk hK hul hC
      go_wp2
      clear e0 e1 e2 e3 e4 e5 e6 e7 e8 e9 e10 e11 e12
      go_cut [] (fun wd => ∃ u : Hd, u.key = t.key ∧ CiW w wd la (.slice (some ⟨b, o, none⟩) ts.length cap) (.slice a1 us.length c1) us ∧ Cbx wd wr.heap.size #[.string u.nm, .int .i64 u.n, .int .i64 u.p.q, .int .i64 u.p.s, .slice u.p.a u.p.l.length u.p.cap, .int .i64 u.p.fr, .int .i64 u.p.b, .int .i64 u.sn, .int .i64 u.x.q, .int .i64 u.x.s, .slice u.x.a u.x.l.length u.x.cap, .int .i64 u.x.fr, .int .i64 u.x.b] ∧ HdOwn wd (wr.heap.size + 1) u)
      case first =>
        obtain ⟨W1, hW1⟩ : ∃ W1, wr.alloc (.cells #[.string t.nm, .int .i64 t.n, .int .i64 t.p.q, .int .i64 t.p.s, .slice t.p.a t.p.l.length t.p.cap, .int .i64 t.p.fr, .int .i64 t.p.b, .int .i64 t.sn, .int .i64 t.x.q, .int .i64 t.x.s, .slice t.x.a t.x.l.length t.x.cap, .int .i64 t.x.fr, .int .i64 t.x.b] 63) = W1 := ⟨_, rfl⟩
        have zW1 : W1.heap.size = wr.heap.size + 1 := by rw [← hW1]; simp
        rw [hW1] at C1 X1 H1 ⊢
        have ZW1 : Hid (W1.heap.size = wr.heap.size + 1) := zW1
        have BW1 : Hid (Below wr.heap.size wr W1) := by show Below _ _ _; rw [← hW1]; exact bel1 _
        clear zW1 hW1
        have D : Below W1.heap.size W1 W1.drew := (Below.refl _ _).drew
        have hF : ∀ W : World, Below W1.heap.size W1 W → W.cell? ⟨wr.heap.size, 0, none⟩ = some (.string t.nm) ∧ W.cell? ⟨wr.heap.size, 1, none⟩ = some (.int .i64 t.n) ∧ W.cell? ⟨wr.heap.size, 2, none⟩ = some (.int .i64 t.p.q) ∧ W.cell? ⟨wr.heap.size, 3, none⟩ = some (.int .i64 t.p.s) ∧ W.cell? ⟨wr.heap.size, 4, none⟩ = some (.slice t.p.a t.p.l.length t.p.cap) ∧ W.cell? ⟨wr.heap.size, 5, none⟩ = some (.int .i64 t.p.fr) ∧ W.cell? ⟨wr.heap.size, 6, none⟩ = some (.int .i64 t.p.b) ∧ W.cell? ⟨wr.heap.size, 7, none⟩ = some (.int .i64 t.sn) ∧ W.cell? ⟨wr.heap.size, 8, none⟩ = some (.int .i64 t.x.q) ∧ W.cell? ⟨wr.heap.size, 9, none⟩ = some (.int .i64 t.x.s) ∧ W.cell? ⟨wr.heap.size, 10, none⟩ = some (.slice t.x.a t.x.l.length t.x.cap) ∧ W.cell? ⟨wr.heap.size, 11, none⟩ = some (.int .i64 t.x.fr) ∧ W.cell? ⟨wr.heap.size, 12, none⟩ = some (.int .i64 t.x.b) ∧ ∀ j, W.frozen? ⟨wr.heap.size, j, none⟩ = false := fun W hb => by
          have h := X1.keep hb
          exact ⟨h.c 0, h.c 1, h.c 2, h.c 3, h.c 4, h.c 5, h.c 6, h.c 7, h.c 8, h.c 9, h.c 10, h.c 11, h.c 12, h.f⟩
        obtain ⟨d0, d1, d2, d3, d4, d5, d6, d7, d8, d9, d10, d11, d12, df⟩ := hF W1.drew D
        refine wp_region_any (by kernel_rfl) ?_
        change wpAny _ _ _ _ _ _ _ (World.drew _)
        refine wpAny_take (i := 0) (v := .pointer (some ⟨wr.heap.size, 2, none⟩)) rfl (by kernel_rfl) (by kernel_rfl) (by kernel_rfl) (fun _ _ _ h => h) (Or.inl ⟨by rfl, fun W => by go_simp⟩) ?_
        refine wpAny_take (i := 3) (v := .pointer (some ⟨wr.heap.size, 8, none⟩)) rfl (by kernel_rfl) (by kernel_rfl) (by kernel_rfl) (fun _ _ _ h => h) (Or.inl ⟨by rfl, fun W => by go_simp⟩) ?_
        refine wpAny_ready (rs := [1, 4]) (by kernel_rfl) (by simp) ?_
        refine AllReady.cons rfl (fun K hK => ?_) ?_
        · go_simp
          refine hK _ _ ?_
          clear hK K
          refine wpAny_ready (rs := [2, 4]) (by kernel_rfl) (by simp) ?_
          refine AllReady.cons rfl (fun K hK => ?_) ?_
          · go_simp
            refine (copiedI_pt t.p _ hpl (HPUT.out t hm).1 (H1.below D).p).mono ?_
            rintro e w2 ⟨a2, k2, rfl, o2, hb2⟩
            have hb12 := D.trans (hb2.mono D.size)
            obtain ⟨f0, f1, f2, f3, f4, f5, f6, f7, f8, f9, f10, f11, f12, ff⟩ := hF w2 hb12
            refine hK _ _ ?_
            clear hK K
            refine wpAny_ready (rs := [4]) (by kernel_rfl) (by simp) ?_
            refine AllReady.cons rfl (fun K hK => ?_) ?_
            · go_simp
              refine hK _ _ ?_
              clear hK K
              refine wpAny_take (i := 6) (v := .pointer (some ⟨wr.heap.size, 2, none⟩)) rfl (by kernel_rfl) (by kernel_rfl) (by kernel_rfl) (fun _ _ _ h => h) (Or.inl ⟨by rfl, fun W => by go_simp⟩) ?_
              refine wpAny_ready (rs := [5]) (by kernel_rfl) (by simp) ?_
              refine AllReady.cons rfl (fun K hK => ?_) ?_
              · go_simp
                refine (copiedI_pt t.x _ hxl (HPUT.out t hm).2 (H1.below hb12).x).mono ?_
                rintro e w3 ⟨a3, k3, rfl, o3, hb3⟩
                have hb13 := hb12.trans (hb3.mono hb12.size)
                obtain ⟨g0, g1, g2, g3, g4, g5, g6, g7, g8, g9, g10, g11, g12, gf⟩ := hF w3 hb13
                refine hK _ _ ?_
                clear hK K
                refine wpAny_ready (rs := [7]) (by kernel_rfl) (by simp) ?_
                refine AllReady.cons rfl (fun K hK => ?_) ?_
                · go_simp
                  refine hK _ _ ?_
                  clear hK K
                  refine wpAny_take (i := 8) (v := .pointer (some ⟨wr.heap.size, 8, none⟩)) rfl (by kernel_rfl) (by kernel_rfl) (by kernel_rfl) (fun _ _ _ h => h) (Or.inl ⟨by rfl, fun W => by go_simp⟩) ?_
                  refine wpAny_ready (rs := [9]) (by kernel_rfl) (by simp) ?_
                  refine AllReady.cons rfl (fun K hK => ?_) ?_
                  · go_simp
                    refine hK _ _ ?_
                    clear hK K
                    refine wpAny_done (by kernel_rfl) ?_ _
                    have z1 := ZW1.out
                    have B3 : Below wr.heap.size wr w3 := BW1.out.trans (hb13.mono (by omega))
                    have ne2 : ∀ k, (Value.slice a2 t.p.l.length k2).ownBlock = some k → k ≠ wr.heap.size := fun k e => by have : W1.heap.size ≤ k := owns_base o2 k e; omega
                    have ne3 : ∀ k, (Value.slice a3 t.x.l.length k3).ownBlock = some k → k ≠ wr.heap.size := fun k e => by have : w2.heap.size ≤ k := owns_base o3 k e; have := hb12.size; omega
                    have o2' := owns_below o2 hb3
                    have HI : Hid (∀ k, (Value.slice a2 t.p.l.length k2).ownBlock = some k → (Value.slice a3 t.x.l.length k3).ownBlock ≠ some k) := fun k e e' => by have := owns_lt o2 k e; have : w2.heap.size ≤ k := owns_base o3 k e'; omega
                    have X3 := X1.keep hb13
                    have O2 := owns_lowerO (base' := wr.heap.size + 1) o2' (show _ ≤ W1.heap.size by omega)
                    have O3 := owns_lowerO (base' := wr.heap.size + 1) o3 (show _ ≤ w2.heap.size by have := hb12.size; omega)
                    clear z1 o2' o2 o3 hb2 hb3 hb12
                    go_wp2
                    go_meet
                    case rel =>
                      refine ⟨⟨t.nm, t.n, ⟨t.p.q, t.p.s, t.p.fr, t.p.b, a2, 0, 0, k2, t.p.l⟩, t.sn, ⟨t.x.q, t.x.s, t.x.fr, t.x.b, a3, 0, 0, k3, t.x.l⟩⟩, rfl, HC0.out.keep ?_, ?_, ⟨?_, ?_, HI.out⟩⟩
                      · iterate 10 (refine Below.setCell ?_ (by simp) _)
                        exact B3
                      · have h := bx_set (bx_set (bx_set (bx_set (bx_set (bx_set (bx_set (bx_set (bx_set (bx_set (X3) 2 (.int .i64 t.p.q)) 3 (.int .i64 t.p.s)) 4 (.slice a2 t.p.l.length k2)) 5 (.int .i64 t.p.fr)) 6 (.int .i64 t.p.b)) 8 (.int .i64 t.x.q)) 9 (.int .i64 t.x.s)) 10 (.slice a3 t.x.l.length k3)) 11 (.int .i64 t.x.fr)) 12 (.int .i64 t.x.b)
                        simpa using h
                      · iterate 10 (refine owns_set ?_ ne2 _ _)
                        exact O2
                      · iterate 10 (refine owns_set ?_ ne3 _ _)
                        exact O3
                  exact AllReady.nil
                exact AllReady.nil
              exact AllReady.nil
            exact AllReady.nil
          refine AllReady.cons rfl (fun K hK => ?_) ?_
          · go_simp
            refine hK _ _ ?_
            clear hK K
            refine wpAny_ready (rs := [2]) (by kernel_rfl) (by simp) ?_
            refine AllReady.cons rfl (fun K hK => ?_) ?_
            · go_simp
              refine (copiedI_pt t.p _ hpl (HPUT.out t hm).1 (H1.below D).p).mono ?_
              rintro e w2 ⟨a2, k2, rfl, o2, hb2⟩
              have hb12 := D.trans (hb2.mono D.size)
              obtain ⟨f0, f1, f2, f3, f4, f5, f6, f7, f8, f9, f10, f11, f12, ff⟩ := hF w2 hb12
              refine hK _ _ ?_
              clear hK K
              refine wpAny_take (i := 6) (v := .pointer (some ⟨wr.heap.size, 2, none⟩)) rfl (by kernel_rfl) (by kernel_rfl) (by kernel_rfl) (fun _ _ _ h => h) (Or.inl ⟨by rfl, fun W => by go_simp⟩) ?_
              refine wpAny_ready (rs := [5]) (by kernel_rfl) (by simp) ?_
              refine AllReady.cons rfl (fun K hK => ?_) ?_
              · go_simp
                refine (copiedI_pt t.x _ hxl (HPUT.out t hm).2 (H1.below hb12).x).mono ?_
                rintro e w3 ⟨a3, k3, rfl, o3, hb3⟩
                have hb13 := hb12.trans (hb3.mono hb12.size)
                obtain ⟨g0, g1, g2, g3, g4, g5, g6, g7, g8, g9, g10, g11, g12, gf⟩ := hF w3 hb13
                refine hK _ _ ?_
                clear hK K
                refine wpAny_ready (rs := [7]) (by kernel_rfl) (by simp) ?_
                refine AllReady.cons rfl (fun K hK => ?_) ?_
                · go_simp
                  refine hK _ _ ?_
                  clear hK K
                  refine wpAny_take (i := 8) (v := .pointer (some ⟨wr.heap.size, 8, none⟩)) rfl (by kernel_rfl) (by kernel_rfl) (by kernel_rfl) (fun _ _ _ h => h) (Or.inl ⟨by rfl, fun W => by go_simp⟩) ?_
                  refine wpAny_ready (rs := [9]) (by kernel_rfl) (by simp) ?_
                  refine AllReady.cons rfl (fun K hK => ?_) ?_
                  · go_simp
                    refine hK _ _ ?_
                    clear hK K
                    refine wpAny_done (by kernel_rfl) ?_ _
                    have z1 := ZW1.out
                    have B3 : Below wr.heap.size wr w3 := BW1.out.trans (hb13.mono (by omega))
                    have ne2 : ∀ k, (Value.slice a2 t.p.l.length k2).ownBlock = some k → k ≠ wr.heap.size := fun k e => by have : W1.heap.size ≤ k := owns_base o2 k e; omega
                    have ne3 : ∀ k, (Value.slice a3 t.x.l.length k3).ownBlock = some k → k ≠ wr.heap.size := fun k e => by have : w2.heap.size ≤ k := owns_base o3 k e; have := hb12.size; omega
                    have o2' := owns_below o2 hb3
                    have HI : Hid (∀ k, (Value.slice a2 t.p.l.length k2).ownBlock = some k → (Value.slice a3 t.x.l.length k3).ownBlock ≠ some k) := fun k e e' => by have := owns_lt o2 k e; have : w2.heap.size ≤ k := owns_base o3 k e'; omega
                    have X3 := X1.keep hb13
                    have O2 := owns_lowerO (base' := wr.heap.size + 1) o2' (show _ ≤ W1.heap.size by omega)
                    have O3 := owns_lowerO (base' := wr.heap.size + 1) o3 (show _ ≤ w2.heap.size by have := hb12.size; omega)
                    clear z1 o2' o2 o3 hb2 hb3 hb12
                    go_wp2
                    go_meet
                    case rel =>
                      refine ⟨⟨t.nm, t.n, ⟨t.p.q, t.p.s, t.p.fr, t.p.b, a2, 0, 0, k2, t.p.l⟩, t.sn, ⟨t.x.q, t.x.s, t.x.fr, t.x.b, a3, 0, 0, k3, t.x.l⟩⟩, rfl, HC0.out.keep ?_, ?_, ⟨?_, ?_, HI.out⟩⟩
                      · iterate 10 (refine Below.setCell ?_ (by simp) _)
                        exact B3
                      · have h := bx_set (bx_set (bx_set (bx_set (bx_set (bx_set (bx_set (bx_set (bx_set (bx_set (X3) 2 (.int .i64 t.p.q)) 3 (.int .i64 t.p.s)) 4 (.slice a2 t.p.l.length k2)) 5 (.int .i64 t.p.fr)) 6 (.int .i64 t.p.b)) 8 (.int .i64 t.x.q)) 9 (.int .i64 t.x.s)) 10 (.slice a3 t.x.l.length k3)) 11 (.int .i64 t.x.fr)) 12 (.int .i64 t.x.b)
                        simpa using h
                      · iterate 10 (refine owns_set ?_ ne2 _ _)
                        exact O2
                      · iterate 10 (refine owns_set ?_ ne3 _ _)
                        exact O3
                  exact AllReady.nil
                exact AllReady.nil
              exact AllReady.nil
            exact AllReady.nil
          exact AllReady.nil
        refine AllReady.cons rfl (fun K hK => ?_) ?_
        · go_simp
          refine hK _ _ ?_
          clear hK K
          refine wpAny_ready (rs := [1]) (by kernel_rfl) (by simp) ?_
          refine AllReady.cons rfl (fun K hK => ?_) ?_
          · go_simp
            refine hK _ _ ?_
            clear hK K
            refine wpAny_ready (rs := [2]) (by kernel_rfl) (by simp) ?_
            refine AllReady.cons rfl (fun K hK => ?_) ?_
            · go_simp
              refine (copiedI_pt t.p _ hpl (HPUT.out t hm).1 (H1.below D).p).mono ?_
              rintro e w2 ⟨a2, k2, rfl, o2, hb2⟩
              have hb12 := D.trans (hb2.mono D.size)
              obtain ⟨f0, f1, f2, f3, f4, f5, f6, f7, f8, f9, f10, f11, f12, ff⟩ := hF w2 hb12
              refine hK _ _ ?_
              clear hK K
              refine wpAny_take (i := 6) (v := .pointer (some ⟨wr.heap.size, 2, none⟩)) rfl (by kernel_rfl) (by kernel_rfl) (by kernel_rfl) (fun _ _ _ h => h) (Or.inl ⟨by rfl, fun W => by go_simp⟩) ?_
              refine wpAny_ready (rs := [5]) (by kernel_rfl) (by simp) ?_
              refine AllReady.cons rfl (fun K hK => ?_) ?_
              · go_simp
                refine (copiedI_pt t.x _ hxl (HPUT.out t hm).2 (H1.below hb12).x).mono ?_
                rintro e w3 ⟨a3, k3, rfl, o3, hb3⟩
                have hb13 := hb12.trans (hb3.mono hb12.size)
                obtain ⟨g0, g1, g2, g3, g4, g5, g6, g7, g8, g9, g10, g11, g12, gf⟩ := hF w3 hb13
                refine hK _ _ ?_
                clear hK K
                refine wpAny_ready (rs := [7]) (by kernel_rfl) (by simp) ?_
                refine AllReady.cons rfl (fun K hK => ?_) ?_
                · go_simp
                  refine hK _ _ ?_
                  clear hK K
                  refine wpAny_take (i := 8) (v := .pointer (some ⟨wr.heap.size, 8, none⟩)) rfl (by kernel_rfl) (by kernel_rfl) (by kernel_rfl) (fun _ _ _ h => h) (Or.inl ⟨by rfl, fun W => by go_simp⟩) ?_
                  refine wpAny_ready (rs := [9]) (by kernel_rfl) (by simp) ?_
                  refine AllReady.cons rfl (fun K hK => ?_) ?_
                  · go_simp
                    refine hK _ _ ?_
                    clear hK K
                    refine wpAny_done (by kernel_rfl) ?_ _
                    have z1 := ZW1.out
                    have B3 : Below wr.heap.size wr w3 := BW1.out.trans (hb13.mono (by omega))
                    have ne2 : ∀ k, (Value.slice a2 t.p.l.length k2).ownBlock = some k → k ≠ wr.heap.size := fun k e => by have : W1.heap.size ≤ k := owns_base o2 k e; omega
                    have ne3 : ∀ k, (Value.slice a3 t.x.l.length k3).ownBlock = some k → k ≠ wr.heap.size := fun k e => by have : w2.heap.size ≤ k := owns_base o3 k e; have := hb12.size; omega
                    have o2' := owns_below o2 hb3
                    have HI : Hid (∀ k, (Value.slice a2 t.p.l.length k2).ownBlock = some k → (Value.slice a3 t.x.l.length k3).ownBlock ≠ some k) := fun k e e' => by have := owns_lt o2 k e; have : w2.heap.size ≤ k := owns_base o3 k e'; omega
                    have X3 := X1.keep hb13
                    have O2 := owns_lowerO (base' := wr.heap.size + 1) o2' (show _ ≤ W1.heap.size by omega)
                    have O3 := owns_lowerO (base' := wr.heap.size + 1) o3 (show _ ≤ w2.heap.size by have := hb12.size; omega)
                    clear z1 o2' o2 o3 hb2 hb3 hb12
                    go_wp2
                    go_meet
                    case rel =>
                      refine ⟨⟨t.nm, t.n, ⟨t.p.q, t.p.s, t.p.fr, t.p.b, a2, 0, 0, k2, t.p.l⟩, t.sn, ⟨t.x.q, t.x.s, t.x.fr, t.x.b, a3, 0, 0, k3, t.x.l⟩⟩, rfl, HC0.out.keep ?_, ?_, ⟨?_, ?_, HI.out⟩⟩
                      · iterate 10 (refine Below.setCell ?_ (by simp) _)
                        exact B3
                      · have h := bx_set (bx_set (bx_set (bx_set (bx_set (bx_set (bx_set (bx_set (bx_set (bx_set (X3) 2 (.int .i64 t.p.q)) 3 (.int .i64 t.p.s)) 4 (.slice a2 t.p.l.length k2)) 5 (.int .i64 t.p.fr)) 6 (.int .i64 t.p.b)) 8 (.int .i64 t.x.q)) 9 (.int .i64 t.x.s)) 10 (.slice a3 t.x.l.length k3)) 11 (.int .i64 t.x.fr)) 12 (.int .i64 t.x.b)
                        simpa using h
                      · iterate 10 (refine owns_set ?_ ne2 _ _)
                        exact O2
                      · iterate 10 (refine owns_set ?_ ne3 _ _)
                        exact O3
                  exact AllReady.nil
                exact AllReady.nil
              exact AllReady.nil
            exact AllReady.nil
          exact AllReady.nil
        exact AllReady.nil
      case rest =>
        clear C1 X1 H1
        obtain ⟨u, hu, hC, X2, hO⟩ := hcut
        have hzc : wr.heap.size < wc.heap.size := X2.lt
        have AP : ∀ t ∈ us, HdApart t u := apart_new HC0.out.own hO (by omega)
        have O2 := hO.lower (base' := w.heap.size + 1 + 1) (by omega)
        have D : Below wc.heap.size wc wc.drew := (Below.refl _ _).drew
        have hF : ∀ W : World, Below wc.heap.size wc W → W.cell? ⟨w.heap.size + 1, 1, none⟩ = some (.slice a1 us.length c1) ∧ W.cell? ⟨wr.heap.size, 0, none⟩ = some (.string u.nm) ∧ W.cell? ⟨wr.heap.size, 1, none⟩ = some (.int .i64 u.n) ∧ W.cell? ⟨wr.heap.size, 2, none⟩ = some (.int .i64 u.p.q) ∧ W.cell? ⟨wr.heap.size, 3, none⟩ = some (.int .i64 u.p.s) ∧ W.cell? ⟨wr.heap.size, 4, none⟩ = some (.slice u.p.a u.p.l.length u.p.cap) ∧ W.cell? ⟨wr.heap.size, 5, none⟩ = some (.int .i64 u.p.fr) ∧ W.cell? ⟨wr.heap.size, 6, none⟩ = some (.int .i64 u.p.b) ∧ W.cell? ⟨wr.heap.size, 7, none⟩ = some (.int .i64 u.sn) ∧ W.cell? ⟨wr.heap.size, 8, none⟩ = some (.int .i64 u.x.q) ∧ W.cell? ⟨wr.heap.size, 9, none⟩ = some (.int .i64 u.x.s) ∧ W.cell? ⟨wr.heap.size, 10, none⟩ = some (.slice u.x.a u.x.l.length u.x.cap) ∧ W.cell? ⟨wr.heap.size, 11, none⟩ = some (.int .i64 u.x.fr) ∧ W.cell? ⟨wr.heap.size, 12, none⟩ = some (.int .i64 u.x.b) ∧ ∀ j, W.frozen? ⟨wr.heap.size, j, none⟩ = false := fun W hb => by
          have h := X2.keep hb
          exact ⟨(hC.keep hb).bk.c 1, h.c 0, h.c 1, h.c 2, h.c 3, h.c 4, h.c 5, h.c 6, h.c 7, h.c 8, h.c 9, h.c 10, h.c 11, h.c 12, h.f⟩
        obtain ⟨y1, d0, d1, d2, d3, d4, d5, d6, d7, d8, d9, d10, d11, d12, df⟩ := hF wc.drew D
        have hE : ∀ (W1 w9 : World) (a9 : Option Addr) (c9 : Nat), CiW w W1 la (.slice (some ⟨b, o, none⟩) ts.length cap) (.slice a1 us.length c1) us → HdOwn W1 (w.heap.size + 1 + 1) u → w9.ownsRow (w.heap.size + 1 + 1) 63 13 (.slice a9 (us.length + 1) c9) (us.length + 1) (hdCells us ++ u.cl) → W1.grownBy w9 (Value.slice a1 us.length c1).ownBlock →
            ∃ (k' : Nat) (v : Value) (us' : List Hd), k' ≤ ts.length ∧ Value.int .i64 ((k : Int) + 1) = .int .i64 k' ∧ CiW w (w9.setCell ⟨w.heap.size + 1, 1, none⟩ (.slice a9 (us.length + 1) c9)) la (.slice (some ⟨b, o, none⟩) ts.length cap) v us' ∧ us'.map Hd.key = (ts.take k').map Hd.key := fun W1 w9 a9 c9 h1 h3 h5 h6 =>
          ⟨k + 1, _, us ++ [u], by omega, by go_num, h1.push h5 h6 h3 AP, keys_push HK.out HT.out hu⟩
        go_wp2
        refine wp_region_any (by kernel_rfl) ?_
        change wpAny _ _ _ _ _ _ _ (World.drew _)
        refine wpAny_take (i := 0) (v := .pointer (some ⟨w.heap.size + 1, 0, none⟩)) rfl (by kernel_rfl) (by kernel_rfl) (by kernel_rfl) (fun _ _ _ h => h) (Or.inl ⟨by rfl, fun W => by go_simp⟩) ?_
        refine wpAny_take (i := 1) (v := .pointer (some ⟨w.heap.size + 1, 0, none⟩)) rfl (by kernel_rfl) (by kernel_rfl) (by kernel_rfl) (fun _ _ _ h => h) (Or.inl ⟨by rfl, fun W => by go_simp⟩) ?_
        refine wpAny_take (i := 2) (v := .pointer (some ⟨w.heap.size + 1, 0, none⟩)) rfl (by kernel_rfl) (by kernel_rfl) (by kernel_rfl) (fun _ _ _ h => h) (Or.inl ⟨by rfl, fun W => by go_simp⟩) ?_
        refine wpAny_take (i := 3) (v := .pointer (some ⟨w.heap.size + 1, 0, none⟩)) rfl (by kernel_rfl) (by kernel_rfl) (by kernel_rfl) (fun _ _ _ h => h) (Or.inl ⟨by rfl, fun W => by go_simp⟩) ?_
        refine wpAny_take (i := 4) (v := .pointer (some ⟨w.heap.size + 1, 1, none⟩)) rfl (by kernel_rfl) (by kernel_rfl) (by kernel_rfl) (fun _ _ _ h => h) (Or.inl ⟨by rfl, fun W => by go_simp⟩) ?_
        refine wpAny_ready (rs := [5, 6]) (by kernel_rfl) (by simp) ?_
        refine AllReady.cons rfl (fun K hK => ?_) ?_
        · go_simp
          refine hK _ _ ?_
          clear hK K
          refine wpAny_ready (rs := [6]) (by kernel_rfl) (by simp) ?_
          refine AllReady.cons rfl (fun K hK => ?_) ?_
          · go_simp
            refine hK _ _ ?_
            clear hK K
            refine wpAny_ready (rs := [7]) (by kernel_rfl) (by simp) ?_
            refine AllReady.cons rfl (fun K hK => ?_) ?_
            · go_simp
              have CC := (hC.keep D).keep (bel1 (.cells #[.string u.nm, .int .i64 u.n, .int .i64 u.p.q, .int .i64 u.p.s, .slice u.p.a u.p.l.length u.p.cap, .int .i64 u.p.fr, .int .i64 u.p.b, .int .i64 u.sn, .int .i64 u.x.q, .int .i64 u.x.s, .slice u.x.a u.x.l.length u.x.cap, .int .i64 u.x.fr, .int .i64 u.x.b] 63))
              have OO := (O2.below D).below (bel1 (.cells #[.string u.nm, .int .i64 u.n, .int .i64 u.p.q, .int .i64 u.p.s, .slice u.p.a u.p.l.length u.p.cap, .int .i64 u.p.fr, .int .i64 u.p.b, .int .i64 u.sn, .int .i64 u.x.q, .int .i64 u.x.s, .slice u.x.a u.x.l.length u.x.cap, .int .i64 u.x.fr, .int .i64 u.x.b] 63))
              have yb : (wc.alloc (.cells #[.string u.nm, .int .i64 u.n, .int .i64 u.p.q, .int .i64 u.p.s, .slice u.p.a u.p.l.length u.p.cap, .int .i64 u.p.fr, .int .i64 u.p.b, .int .i64 u.sn, .int .i64 u.x.q, .int .i64 u.x.s, .slice u.x.a u.x.l.length u.x.cap, .int .i64 u.x.fr, .int .i64 u.x.b] 63)).cell? ⟨w.heap.size + 1, 1, none⟩ = some (.slice a1 us.length c1) := CC.bk.c 1
              refine hK _ _ ?_
              clear hK K
              refine wpAny_ready (rs := [8]) (by kernel_rfl) (by simp) ?_
              refine AllReady.cons rfl (fun K hK => ?_) ?_
              · have zc := CC.bk.lt
                rw [World.size_alloc] at zc
                refine wp_append_own _ (.tmp 31) (.tmp 33) 32 rfl (w.heap.size + 1 + 1) 63 i0 (.agg #[.string ⟨#[]⟩, .int .i64 0, .int .i64 0, .int .i64 0, .slice none 0 0, .int .i64 0, .int .i64 0, .int .i64 0, .int .i64 0, .int .i64 0, .slice none 0 0, .int .i64 0, .int .i64 0]) 13 144 Tryz.underlying32 hi hz0 hz1 hz2 rfl (by decide) (.slice a1 us.length c1) us.length (hdCells us) rfl CC.own.row ⟨wc.drew.heap.size, 0, none⟩ 1 1 u.cl rfl rfl (cl_newL wc.drew u _) (cl_one u) (by unfold maxLen; omega) (by omega) (by simp; omega) ?_
                intro v9 w9 hown9 hgrow9 hnil9
                obtain ⟨a9, c9', rfl⟩ := own_slice hown9
                obtain ⟨g0, g2⟩ := CC.grow hgrow9
                have z0 : w9.cell? ⟨w.heap.size + 1, 0, none⟩ = some (.int .i64 la) := g2.c 0
                have z1 : w9.cell? ⟨w.heap.size + 1, 1, none⟩ = some (.slice a1 us.length c1) := g2.c 1
                have zf := g2.f
                refine hK _ _ ?_
                clear hK K
                refine wpAny_take (i := 9) (v := .pointer (some ⟨w.heap.size + 1, 0, none⟩)) rfl (by kernel_rfl) (by kernel_rfl) (by kernel_rfl) (fun _ _ _ h => h) (Or.inl ⟨by rfl, fun W => by go_simp⟩) ?_
                refine wpAny_take (i := 10) (v := .pointer (some ⟨w.heap.size + 1, 0, none⟩)) rfl (by kernel_rfl) (by kernel_rfl) (by kernel_rfl) (fun _ _ _ h => h) (Or.inl ⟨by rfl, fun W => by go_simp⟩) ?_
                refine wpAny_take (i := 11) (v := .pointer (some ⟨w.heap.size + 1, 1, none⟩)) rfl (by kernel_rfl) (by kernel_rfl) (by kernel_rfl) (fun _ _ _ h => h) (Or.inl ⟨by rfl, fun W => by go_simp⟩) ?_
                refine wpAny_ready (rs := [12]) (by kernel_rfl) (by simp) ?_
                refine AllReady.cons rfl (fun K hK => ?_) ?_
                · go_simp
                  refine hK _ _ ?_
                  clear hK K
                  refine wpAny_done (by kernel_rfl) ?_ _
                  go_wp2
                  go_roundw
                  case rel => exact hE _ _ _ _ CC OO hown9 hgrow9
                  case measure => simp [intOf]; omega
                exact AllReady.nil
              exact AllReady.nil
            exact AllReady.nil
          exact AllReady.nil
        refine AllReady.cons rfl (fun K hK => ?_) ?_
        · go_simp
          refine hK _ _ ?_
          clear hK K
          refine wpAny_ready (rs := [5, 7]) (by kernel_rfl) (by simp) ?_
          refine AllReady.cons rfl (fun K hK => ?_) ?_
          · go_simp
            refine hK _ _ ?_
            clear hK K
            refine wpAny_ready (rs := [7]) (by kernel_rfl) (by simp) ?_
            refine AllReady.cons rfl (fun K hK => ?_) ?_
            · go_simp
              have CC := (hC.keep D).keep (bel1 (.cells #[.string u.nm, .int .i64 u.n, .int .i64 u.p.q, .int .i64 u.p.s, .slice u.p.a u.p.l.length u.p.cap, .int .i64 u.p.fr, .int .i64 u.p.b, .int .i64 u.sn, .int .i64 u.x.q, .int .i64 u.x.s, .slice u.x.a u.x.l.length u.x.cap, .int .i64 u.x.fr, .int .i64 u.x.b] 63))
              have OO := (O2.below D).below (bel1 (.cells #[.string u.nm, .int .i64 u.n, .int .i64 u.p.q, .int .i64 u.p.s, .slice u.p.a u.p.l.length u.p.cap, .int .i64 u.p.fr, .int .i64 u.p.b, .int .i64 u.sn, .int .i64 u.x.q, .int .i64 u.x.s, .slice u.x.a u.x.l.length u.x.cap, .int .i64 u.x.fr, .int .i64 u.x.b] 63))
              have yb : (wc.alloc (.cells #[.string u.nm, .int .i64 u.n, .int .i64 u.p.q, .int .i64 u.p.s, .slice u.p.a u.p.l.length u.p.cap, .int .i64 u.p.fr, .int .i64 u.p.b, .int .i64 u.sn, .int .i64 u.x.q, .int .i64 u.x.s, .slice u.x.a u.x.l.length u.x.cap, .int .i64 u.x.fr, .int .i64 u.x.b] 63)).cell? ⟨w.heap.size + 1, 1, none⟩ = some (.slice a1 us.length c1) := CC.bk.c 1
              refine hK _ _ ?_
              clear hK K
              refine wpAny_ready (rs := [8]) (by kernel_rfl) (by simp) ?_
              refine AllReady.cons rfl (fun K hK => ?_) ?_
              · have zc := CC.bk.lt
                rw [World.size_alloc] at zc
                refine wp_append_own _ (.tmp 31) (.tmp 33) 32 rfl (w.heap.size + 1 + 1) 63 i0 (.agg #[.string ⟨#[]⟩, .int .i64 0, .int .i64 0, .int .i64 0, .slice none 0 0, .int .i64 0, .int .i64 0, .int .i64 0, .int .i64 0, .int .i64 0, .slice none 0 0, .int .i64 0, .int .i64 0]) 13 144 Tryz.underlying32 hi hz0 hz1 hz2 rfl (by decide) (.slice a1 us.length c1) us.length (hdCells us) rfl CC.own.row ⟨wc.drew.heap.size, 0, none⟩ 1 1 u.cl rfl rfl (cl_newL wc.drew u _) (cl_one u) (by unfold maxLen; omega) (by omega) (by simp; omega) ?_
                intro v9 w9 hown9 hgrow9 hnil9
                obtain ⟨a9, c9', rfl⟩ := own_slice hown9
                obtain ⟨g0, g2⟩ := CC.grow hgrow9
                have z0 : w9.cell? ⟨w.heap.size + 1, 0, none⟩ = some (.int .i64 la) := g2.c 0
                have z1 : w9.cell? ⟨w.heap.size + 1, 1, none⟩ = some (.slice a1 us.length c1) := g2.c 1
                have zf := g2.f
                refine hK _ _ ?_
                clear hK K
                refine wpAny_take (i := 9) (v := .pointer (some ⟨w.heap.size + 1, 0, none⟩)) rfl (by kernel_rfl) (by kernel_rfl) (by kernel_rfl) (fun _ _ _ h => h) (Or.inl ⟨by rfl, fun W => by go_simp⟩) ?_
                refine wpAny_take (i := 10) (v := .pointer (some ⟨w.heap.size + 1, 0, none⟩)) rfl (by kernel_rfl) (by kernel_rfl) (by kernel_rfl) (fun _ _ _ h => h) (Or.inl ⟨by rfl, fun W => by go_simp⟩) ?_
                refine wpAny_take (i := 11) (v := .pointer (some ⟨w.heap.size + 1, 1, none⟩)) rfl (by kernel_rfl) (by kernel_rfl) (by kernel_rfl) (fun _ _ _ h => h) (Or.inl ⟨by rfl, fun W => by go_simp⟩) ?_
                refine wpAny_ready (rs := [12]) (by kernel_rfl) (by simp) ?_
                refine AllReady.cons rfl (fun K hK => ?_) ?_
                · go_simp
                  refine hK _ _ ?_
                  clear hK K
                  refine wpAny_done (by kernel_rfl) ?_ _
                  go_wp2
                  go_roundw
                  case rel => exact hE _ _ _ _ CC OO hown9 hgrow9
                  case measure => simp [intOf]; omega
                exact AllReady.nil
              exact AllReady.nil
            exact AllReady.nil
          refine AllReady.cons rfl (fun K hK => ?_) ?_
          · go_simp
            have CC := (hC.keep D).keep (bel1 (.cells #[.string u.nm, .int .i64 u.n, .int .i64 u.p.q, .int .i64 u.p.s, .slice u.p.a u.p.l.length u.p.cap, .int .i64 u.p.fr, .int .i64 u.p.b, .int .i64 u.sn, .int .i64 u.x.q, .int .i64 u.x.s, .slice u.x.a u.x.l.length u.x.cap, .int .i64 u.x.fr, .int .i64 u.x.b] 63))
            have OO := (O2.below D).below (bel1 (.cells #[.string u.nm, .int .i64 u.n, .int .i64 u.p.q, .int .i64 u.p.s, .slice u.p.a u.p.l.length u.p.cap, .int .i64 u.p.fr, .int .i64 u.p.b, .int .i64 u.sn, .int .i64 u.x.q, .int .i64 u.x.s, .slice u.x.a u.x.l.length u.x.cap, .int .i64 u.x.fr, .int .i64 u.x.b] 63))
            have yb : (wc.alloc (.cells #[.string u.nm, .int .i64 u.n, .int .i64 u.p.q, .int .i64 u.p.s, .slice u.p.a u.p.l.length u.p.cap, .int .i64 u.p.fr, .int .i64 u.p.b, .int .i64 u.sn, .int .i64 u.x.q, .int .i64 u.x.s, .slice u.x.a u.x.l.length u.x.cap, .int .i64 u.x.fr, .int .i64 u.x.b] 63)).cell? ⟨w.heap.size + 1, 1, none⟩ = some (.slice a1 us.length c1) := CC.bk.c 1
            refine hK _ _ ?_
            clear hK K
            refine wpAny_ready (rs := [5]) (by kernel_rfl) (by simp) ?_
            refine AllReady.cons rfl (fun K hK => ?_) ?_
            · go_simp
              refine hK _ _ ?_
              clear hK K
              refine wpAny_ready (rs := [8]) (by kernel_rfl) (by simp) ?_
              refine AllReady.cons rfl (fun K hK => ?_) ?_
              · have zc := CC.bk.lt
                rw [World.size_alloc] at zc
                refine wp_append_own _ (.tmp 31) (.tmp 33) 32 rfl (w.heap.size + 1 + 1) 63 i0 (.agg #[.string ⟨#[]⟩, .int .i64 0, .int .i64 0, .int .i64 0, .slice none 0 0, .int .i64 0, .int .i64 0, .int .i64 0, .int .i64 0, .int .i64 0, .slice none 0 0, .int .i64 0, .int .i64 0]) 13 144 Tryz.underlying32 hi hz0 hz1 hz2 rfl (by decide) (.slice a1 us.length c1) us.length (hdCells us) rfl CC.own.row ⟨wc.drew.heap.size, 0, none⟩ 1 1 u.cl rfl rfl (cl_newL wc.drew u _) (cl_one u) (by unfold maxLen; omega) (by omega) (by simp; omega) ?_
                intro v9 w9 hown9 hgrow9 hnil9
                obtain ⟨a9, c9', rfl⟩ := own_slice hown9
                obtain ⟨g0, g2⟩ := CC.grow hgrow9
                have z0 : w9.cell? ⟨w.heap.size + 1, 0, none⟩ = some (.int .i64 la) := g2.c 0
                have z1 : w9.cell? ⟨w.heap.size + 1, 1, none⟩ = some (.slice a1 us.length c1) := g2.c 1
                have zf := g2.f
                refine hK _ _ ?_
                clear hK K
                refine wpAny_take (i := 9) (v := .pointer (some ⟨w.heap.size + 1, 0, none⟩)) rfl (by kernel_rfl) (by kernel_rfl) (by kernel_rfl) (fun _ _ _ h => h) (Or.inl ⟨by rfl, fun W => by go_simp⟩) ?_
                refine wpAny_take (i := 10) (v := .pointer (some ⟨w.heap.size + 1, 0, none⟩)) rfl (by kernel_rfl) (by kernel_rfl) (by kernel_rfl) (fun _ _ _ h => h) (Or.inl ⟨by rfl, fun W => by go_simp⟩) ?_
                refine wpAny_take (i := 11) (v := .pointer (some ⟨w.heap.size + 1, 1, none⟩)) rfl (by kernel_rfl) (by kernel_rfl) (by kernel_rfl) (fun _ _ _ h => h) (Or.inl ⟨by rfl, fun W => by go_simp⟩) ?_
                refine wpAny_ready (rs := [12]) (by kernel_rfl) (by simp) ?_
                refine AllReady.cons rfl (fun K hK => ?_) ?_
                · go_simp
                  refine hK _ _ ?_
                  clear hK K
                  refine wpAny_done (by kernel_rfl) ?_ _
                  go_wp2
                  go_roundw
                  case rel => exact hE _ _ _ _ CC OO hown9 hgrow9
                  case measure => simp [intOf]; omega
                exact AllReady.nil
              exact AllReady.nil
            exact AllReady.nil
          exact AllReady.nil
        exact AllReady.nil
    · obtain rfl : k = ts.length := by omega
      rw [List.take_length] at hK
      have HK : Hid (us.map Hd.key = ts.map Hd.key) := hK
      clear hK
      go_wp2
      go_ret
      exact ⟨v, us, rfl, HK.out, hC.bk, hC.own, hC.old⟩
end Go.Proofs.YtgjleeamhkolhaaGreatDoor

namespace Go.Proofs.YtgjleeamhkolhaaGreatDoor
open Go.RowKit

structure HrW (w W : World) (K base : Nat) (la : Int) (v : Value) (us : List Hd) : Prop where
  old : Below w.heap.size w W
  k : w.heap.size ≤ K
  kb : K < base
  bk : Cbx W K #[.int .i64 la, v]
  own : BkOwn W base v us
theorem HrW.keep {w W W' : World} {K base : Nat} {la : Int} {v : Value} {us : List Hd} (h : HrW w W K base la v us) (hb : Below W.heap.size W W') : HrW w W' K base la v us :=
  ⟨h.old.trans (hb.mono h.old.size), h.k, h.kb, h.bk.keep hb, h.own.below hb⟩
end Go.Proofs.YtgjleeamhkolhaaGreatDoor

namespace Go.Proofs.YtgjleeamhkolhaaGreatDoor
open Go.RowKit

theorem wordOf_any (nm : ByteArray) (n k q s fr b : Int) (a : Option Addr) (m c : Nat) (w : World) :
    Calls Tryz.prog 219 #[.agg #[.string nm, .int .i64 n], .int .i64 k, .agg #[.int .i64 q, .int .i64 s, .slice a m c, .int .i64 fr, .int .i64 b]] w
      fun e w' => e = .returned (.agg #[.int .i64 k, .string nm, .int .i64 n, .int .i64 q, .int .i64 s, .slice a m c, .int .i64 fr, .int .i64 b]) ∧ Below w.heap.size w w' := by
  go_enter Tryz.func219, Tryz.ntmps219
  go_wp2
  refine bodyPost_ret (v := .agg #[.int .i64 k, .string nm, .int .i64 n, .int .i64 q, .int .i64 s, .slice a m c, .int .i64 fr, .int .i64 b]) (by simp [results, Tryz.results219, go_sem]) rfl ⟨rfl, ?_⟩
  exact bel3 _ _ _

theorem blk8 {w : World} {B : Nat} {a b c d e f g h : Value} {t : TypeId} (hb : w.heap[B]? = some (.cells #[a, b, c, d, e, f, g, h] t (0, 0))) :
    (w.cell? ⟨B, 0, none⟩ = some a ∧ w.cell? ⟨B, 1, none⟩ = some b ∧ w.cell? ⟨B, 2, none⟩ = some c ∧ w.cell? ⟨B, 3, none⟩ = some d ∧ w.cell? ⟨B, 4, none⟩ = some e ∧ w.cell? ⟨B, 5, none⟩ = some f ∧ w.cell? ⟨B, 6, none⟩ = some g ∧ w.cell? ⟨B, 7, none⟩ = some h) ∧ ∀ j, w.frozen? ⟨B, j, none⟩ = false := by
  refine ⟨⟨?_, ?_, ?_, ?_, ?_, ?_, ?_, ?_⟩, fun j => ?_⟩ <;> simp [World.cell?, World.frozen?, hb]
theorem blk7w {w : World} {B : Nat} {a b c d e f g : Value} {t : TypeId} (hb : w.heap[B]? = some (.cells #[a, b, c, d, e, f, g] t (0, 0))) :
    w.cell? ⟨B, 0, none⟩ = some a ∧ w.cell? ⟨B, 1, none⟩ = some b ∧ w.cell? ⟨B, 2, none⟩ = some c ∧ w.cell? ⟨B, 3, none⟩ = some d ∧ w.cell? ⟨B, 4, none⟩ = some e ∧ w.cell? ⟨B, 5, none⟩ = some f ∧ w.cell? ⟨B, 6, none⟩ = some g := by
  refine ⟨?_, ?_, ?_, ?_, ?_, ?_, ?_⟩ <;> simp [World.cell?, hb]

set_option maxRecDepth 20000 in
set_option maxHeartbeats 2000000 in
theorem word_any (nm : ByteArray) (n q s fr b : Int) (b0 o cap : Nat) (l : List Stp) (w : World) (hl : l.length ≤ 1048576) (hs : StepsAt w (some ⟨b0, o, none⟩) b0 o l) :
    Calls Tryz.prog 224 #[.agg #[.string nm, .int .i64 n, .int .i64 q, .int .i64 s, .slice (some ⟨b0, o, none⟩) l.length cap, .int .i64 fr, .int .i64 b]] w
      fun e w' => ∃ a c, e = .returned (.agg #[.int .i64 2, .string nm, .int .i64 n, .int .i64 q, .int .i64 s, .slice a l.length c, .int .i64 fr, .int .i64 b]) ∧ w'.ownsRow w.heap.size 98 7 (.slice a l.length c) l.length (stepCells l) ∧ Below w.heap.size w w' := by
  obtain ⟨W2, hW2⟩ : ∃ W2, (w.alloc (.cells #[.string nm, .int .i64 n, .int .i64 q, .int .i64 s, .slice (some ⟨b0, o, none⟩) l.length cap, .int .i64 fr, .int .i64 b] 159)).alloc (.cells #[.int .i64 0, .string ⟨#[]⟩, .int .i64 0, .int .i64 0, .int .i64 0, .slice none 0 0, .int .i64 0, .int .i64 0] 40) = W2 := ⟨_, rfl⟩
  have X2 := (Below.heap_alloc (w.alloc (.cells #[.string nm, .int .i64 n, .int .i64 q, .int .i64 s, .slice (some ⟨b0, o, none⟩) l.length cap, .int .i64 fr, .int .i64 b] 159)) (.cells #[.int .i64 0, .string ⟨#[]⟩, .int .i64 0, .int .i64 0, .int .i64 0, .slice none 0 0, .int .i64 0, .int .i64 0] 40) w.heap.size (by simp)).trans (heap_alloc_new w (.cells #[.string nm, .int .i64 n, .int .i64 q, .int .i64 s, .slice (some ⟨b0, o, none⟩) l.length cap, .int .i64 fr, .int .i64 b] 159))
  have Z2 := heap_alloc_new (w.alloc (.cells #[.string nm, .int .i64 n, .int .i64 q, .int .i64 s, .slice (some ⟨b0, o, none⟩) l.length cap, .int .i64 fr, .int .i64 b] 159)) (.cells #[.int .i64 0, .string ⟨#[]⟩, .int .i64 0, .int .i64 0, .int .i64 0, .slice none 0 0, .int .i64 0, .int .i64 0] 40)
  have B2 : Below w.heap.size w W2 := by rw [← hW2]; exact bel2 _ _
  have zW : W2.heap.size = w.heap.size + 1 + 1 := by rw [← hW2]; simp
  rw [World.size_alloc, hW2] at Z2
  rw [hW2] at X2
  have zA : w.heap.size < W2.heap.size := by omega
  have zB : w.heap.size + 1 < W2.heap.size := by omega
  go_enter Tryz.func224, Tryz.ntmps224
  go_wp2
  clear hW2 zW
  have D2 := (Below.refl W2.heap.size W2).drew
  have S2 : StepsAt W2.drew (some ⟨b0, o, none⟩) b0 o l := (hs.below B2 hs.lt).below D2 (hs.below B2 hs.lt).lt
  have X3f : ∀ w3 : World, Below W2.drew.heap.size W2.drew w3 → w3.heap[w.heap.size]? = some (.cells #[.string nm, .int .i64 n, .int .i64 q, .int .i64 s, .slice (some ⟨b0, o, none⟩) l.length cap, .int .i64 fr, .int .i64 b] 159 (0, 0)) := fun w3 hb => (hb.block _ zA).trans X2
  have Z3f : ∀ w3 : World, Below W2.drew.heap.size W2.drew w3 → w3.heap[w.heap.size + 1]? = some (.cells #[.int .i64 0, .string ⟨#[]⟩, .int .i64 0, .int .i64 0, .int .i64 0, .slice none 0 0, .int .i64 0, .int .i64 0] 40 (0, 0)) := fun w3 hb => (hb.block _ zB).trans Z2
  obtain ⟨x0, x1, x2, x3, x4, x5, x6⟩ := blk7w X2
  go_region_held3 (fun w' => w'.cell? ⟨w.heap.size, 0, none⟩ = some (.string nm) ∧ w'.cell? ⟨w.heap.size, 1, none⟩ = some (.int .i64 n) ∧ w'.cell? ⟨w.heap.size, 2, none⟩ = some (.int .i64 q) ∧ w'.cell? ⟨w.heap.size, 3, none⟩ = some (.int .i64 s) ∧ w'.cell? ⟨w.heap.size, 4, none⟩ = some (.slice (some ⟨b0, o, none⟩) l.length cap) ∧ w'.cell? ⟨w.heap.size, 5, none⟩ = some (.int .i64 fr) ∧ w'.cell? ⟨w.heap.size, 6, none⟩ = some (.int .i64 b))
    (simp [go_sem, *])
    (first
      | (go_at_call 69; refine (pathCopied_any q s fr b b0 o cap l _ hl S2).mono ?_; rintro e w3 ⟨v3, rfl, o3, hb3⟩; obtain ⟨a3, c3, rfl⟩ := owns_sliceL o3; obtain ⟨y0, y1, y2, y3, y4, y5, y6⟩ := blk7w (X3f w3 hb3))
      | (go_at_call 219; refine (wordOf_any nm n 2 q s fr b a3 l.length c3 _).mono ?_; rintro e w4 ⟨rfl, hb4⟩; have hb34 := hb3.trans (hb4.mono hb3.size); obtain ⟨u0, u1, u2, u3, u4, u5, u6⟩ := blk7w (X3f w4 hb34); obtain ⟨⟨z0, z1, z2, z3, z4, z5, z6, z7⟩, zf⟩ := blk8 (Z3f w4 hb34))
      | fail)
  have O4 := owns_below o3 hb4
  have hv : ∀ k, (Value.ownBlock (.slice a3 l.length c3)) = some k → k ≠ w.heap.size + 1 := fun k e => by have h1 : W2.heap.size ≤ k := owns_base o3 k e; omega
  have B4 := (B2.trans (D2.mono B2.size)).trans (hb34.mono (Nat.le_of_lt zA))
  clear X3f Z3f
  go_wp2
  refine bodyPost_ret (v := .agg #[.int .i64 2, .string nm, .int .i64 n, .int .i64 q, .int .i64 s, .slice a3 l.length c3, .int .i64 fr, .int .i64 b]) (by simp [results, Tryz.results224, go_sem, *]) rfl ⟨_, _, rfl, ?_, ?_⟩
  · iterate 8 (refine owns_set ?_ hv _ _)
    exact owns_lowerL O4 (show w.heap.size ≤ W2.heap.size by omega)
  · iterate 8 (refine Below.setCell ?_ (by simp) _)
    exact B4

theorem sent_any (t : Hd) (w : World) :
    Calls Tryz.prog 79 #[t.val] w fun e w' => e = .returned (.iface 159 (.agg #[.string t.nm, .int .i64 t.sn, .int .i64 t.x.q, .int .i64 t.x.s, .slice t.x.a t.x.l.length t.x.cap, .int .i64 t.x.fr, .int .i64 t.x.b])) ∧ Below w.heap.size w w' := by
  go_enter Tryz.func79, Tryz.ntmps79
  go_wp2
  go_ret
  exact ⟨rfl, bel1 _⟩

theorem method_word (nm : String) (h : Tryz.prog.underlying 74 = some (.interface #[(nm, 79)])) (xs : Array Value) (w : World) : (method 395 159 (.agg xs) nm).run Tryz.prog w = .ok (224, .agg xs) w := by
  rw [Tryz.underlying74] at h
  simp only [Option.some.injEq, TypeDesc.interface.injEq, Array.mk.injEq, List.cons.injEq, Prod.mk.injEq, and_true] at h
  subst h
  kernel_rfl
end Go.Proofs.YtgjleeamhkolhaaGreatDoor

namespace Go.Proofs.YtgjleeamhkolhaaGreatDoor
open Go.RowKit

theorem PtAt.grownS {w w' : World} {p : Pt} {g : Nat} (h : PtAt w p) (hg : w.grownBy w' (some g)) (hne : p.l ≠ [] → g ≠ p.b0) : PtAt w' p where
  here := h.here
  lt hl := Nat.lt_of_lt_of_le (h.lt hl) hg.size
  cell i s hi j v hv := by
    have hl : p.l ≠ [] := by intro e; rw [e] at hi; simp at hi
    rw [World.cell?_of_block (w := w) (a := ⟨p.b0, p.o + i * 7 + j, none⟩) (hg.block p.b0 (h.lt hl) (fun e => hne hl (by cases e; rfl)))]
    exact h.cell i s hi j v hv
theorem HrW.last {w W : World} {K base : Nat} {la : Int} {v : Value} {us : List Hd} (h : HrW w W K base la v us) (x : Int) : HrW w (W.setCell ⟨K, 0, none⟩ (.int .i64 x)) K base x v us := by
  refine ⟨Below.setCell h.old h.k _, h.k, h.kb, ?_, ?_⟩
  · obtain ⟨T, hh⟩ := h.bk.it
    exact ⟨T, by simp [World.setCell, Array.getElem?_modify, hh]⟩
  · refine h.own.spared (S := [K]) (Spared.grown (grown_set _ _ _) (fun k e => by cases e; simp)) (fun k hk e => ?_)
    have := (h.own.lt k hk).1
    have := h.kb
    simp at e
    omega
theorem HrW.putN {w W W' : World} {K base i : Nat} {la : Int} {v : Value} {us : List Hd} {u u' : Hd} (h : HrW w W K base la v us) (hu : us[i]? = some u) (hs : Spared v.ownBlock.toList W W') (row : W'.ownsRow base 63 13 v us.length (hdCells (us.set i u')))
    (hO : HdOwn W' base u → HdOwn W' base u') (hb : ∀ k ∈ u'.blks, k ∈ u.blks ∨ W.heap.size ≤ k) : HrW w W' K base la v (us.set i u') := by
  have hm := List.mem_of_getElem? hu
  have hro := h.own.row
  have keep : ∀ t ∈ us, HdOwn W' base t := fun t ht => (h.own.hd ht).spared hs (fun k hk hk' => (h.own.hd ht).row hro k hk (by simpa using hk'))
  have far : ∀ t ∈ us, ∀ k ∈ t.blks, k < W.heap.size := fun t ht k hk => ((h.own.hd ht).lt k hk).2
  have hU := hO (keep u hm)
  have hb0 := owns_base hro
  refine ⟨hs.toBelow h.old h.old.size (fun k hk => by have := hb0 k (by simpa using hk); have := h.k; have := h.kb; omega), h.k, h.kb, h.bk.spared hs (fun hk => by have := hb0 _ (by simpa using hk); have := h.kb; omega), ?_⟩
  refine ⟨by rw [List.length_set]; exact row, fun t ht => ?_, fun t ht => ?_, ?_⟩
  · rcases mem_set_cases ht with rfl | ⟨j, hj, htj⟩
    · exact ⟨hU.p, hU.x⟩
    · have := keep t (List.mem_of_getElem? htj)
      exact ⟨this.p, this.x⟩
  · rcases mem_set_cases ht with rfl | ⟨j, hj, htj⟩
    · exact hU.inn
    · exact h.own.inn t (List.mem_of_getElem? htj)
  · rw [List.pairwise_iff_getElem]
    intro a b ha hb' hab
    rw [List.length_set] at ha hb'
    rw [List.getElem_set, List.getElem_set]
    have e0 := List.pairwise_iff_getElem.1 h.own.two a b ha hb' hab
    have eu : ∀ (hi : i < us.length), us[i] = u := fun hi => by rw [List.getElem?_eq_getElem hi] at hu; simpa using hu
    split
    · rename_i e
      subst e
      rw [if_neg (by omega)]
      rw [eu ha] at e0
      intro k hk hk'
      rcases hb k hk with h1 | h1
      · exact e0 k h1 hk'
      · have := far _ (List.getElem_mem hb') k hk'; omega
    · split
      · rename_i e
        subst e
        rw [eu hb'] at e0
        intro k hk hk'
        rcases hb k hk' with h1 | h1
        · exact e0 k hk h1
        · have := far _ (List.getElem_mem ha) k hk; omega
      · exact e0

set_option maxRecDepth 20000 in
set_option maxHeartbeats 4000000 in
theorem send_any (p : Pt) (w W : World) (K base i g cap : Nat) (la : Int) (us : List Hd) (u : Hd) (hla : 0 ≤ la ∧ la ≤ 1000000) (hpl : p.l.length ≤ 1048576) (hpa : p.a = some ⟨p.b0, p.o, none⟩) (hp : PtAt W p) (hKb : p.l ≠ [] → K ≠ p.b0) (h : HrW w W K base la (.slice (some ⟨g, 0, none⟩) us.length cap) us) (hu : us[i]? = some u) :
    Calls Tryz.prog 49 #[.pointer (some ⟨K, 0, none⟩), .int .i64 i, p.val] W fun e w' => ∃ ya yc, e = .returned (.iface 159 (.agg #[.string u.nm, .int .i64 (la + 1), .int .i64 p.q, .int .i64 p.s, .slice ya p.l.length yc, .int .i64 p.fr, .int .i64 p.b])) ∧
      HrW w w' K base (la + 1) (.slice (some ⟨g, 0, none⟩) us.length cap) (us.set i (⟨u.nm, u.n, u.p, la + 1, ⟨p.q, p.s, p.fr, p.b, ya, u.x.b0, u.x.o, yc, p.l⟩⟩ : Hd)) := by
  have hil : i < us.length := (List.getElem?_eq_some_iff.1 hu).1
  have i0 : (0 : Int) ≤ (i : Int) := by omega
  have i1 : (i : Int) < (us.length : Int) := by omega
  have lw : IntKind.i64.wrap (la + 1) = la + 1 := by rw [IntKind.wrap_i64]; omega
  have HU : Hid (us[i]? = some u) := hu
  have HPA : Hid (p.a = some ⟨p.b0, p.o, none⟩) := hpa
  clear hpa
  have hKW := h.bk.lt
  have h1 := h.keep (bel1 (.cells #[.int .i64 p.q, .int .i64 p.s, .slice p.a p.l.length p.cap, .int .i64 p.fr, .int .i64 p.b] 38))
  have P1 := Cbx.new W #[.int .i64 p.q, .int .i64 p.s, .slice p.a p.l.length p.cap, .int .i64 p.fr, .int .i64 p.b] 38
  have p1 : PtAt (W.alloc (.cells #[.int .i64 p.q, .int .i64 p.s, .slice p.a p.l.length p.cap, .int .i64 p.fr, .int .i64 p.b] 38)) p := hp.below (bel1 _) hp.lt
  have x0 : (W.alloc (.cells #[.int .i64 p.q, .int .i64 p.s, .slice p.a p.l.length p.cap, .int .i64 p.fr, .int .i64 p.b] 38)).cell? ⟨K, 0, none⟩ = some (.int .i64 la) := h1.bk.c 0
  have xf : (W.alloc (.cells #[.int .i64 p.q, .int .i64 p.s, .slice p.a p.l.length p.cap, .int .i64 p.fr, .int .i64 p.b] 38)).frozen? ⟨K, 0, none⟩ = false := h1.bk.f 0
  have h2 := h1.last (la + 1)
  obtain ⟨W2, hW2⟩ : ∃ W2, (W.alloc (.cells #[.int .i64 p.q, .int .i64 p.s, .slice p.a p.l.length p.cap, .int .i64 p.fr, .int .i64 p.b] 38)).setCell ⟨K, 0, none⟩ (.int .i64 (la + 1)) = W2 := ⟨_, rfl⟩
  rw [hW2] at h2
  have gK : (W.alloc (.cells #[.int .i64 p.q, .int .i64 p.s, .slice p.a p.l.length p.cap, .int .i64 p.fr, .int .i64 p.b] 38)).grownBy W2 (some K) := by rw [← hW2]; exact grown_set _ _ _
  have P2 : Cbx W2 W.heap.size #[.int .i64 p.q, .int .i64 p.s, .slice p.a p.l.length p.cap, .int .i64 p.fr, .int .i64 p.b] := P1.spared (S := [K]) (Spared.grown gK (fun k e => by cases e; simp)) (by simp; omega)
  have p2 : PtAt W2 p := p1.grownS gK hKb
  clear hp p1 P1 h1 gK
  have D2 : Below W2.heap.size W2 W2.drew := (Below.refl _ _).drew
  have h2d := h2.keep D2
  have P2d := P2.keep D2
  have p2d := p2.below D2 p2.lt
  obtain ⟨y0, y1⟩ : W2.cell? ⟨K, 0, none⟩ = some (.int .i64 (la + 1)) ∧ W2.cell? ⟨K, 1, none⟩ = some (.slice (some ⟨g, 0, none⟩) us.length cap) := ⟨h2.bk.c 0, h2.bk.c 1⟩
  obtain ⟨b0, b1, b2, b3, b4⟩ : W2.cell? ⟨W.heap.size, 0, none⟩ = some (.int .i64 p.q) ∧ W2.cell? ⟨W.heap.size, 1, none⟩ = some (.int .i64 p.s) ∧ W2.cell? ⟨W.heap.size, 2, none⟩ = some (.slice p.a p.l.length p.cap) ∧ W2.cell? ⟨W.heap.size, 3, none⟩ = some (.int .i64 p.fr) ∧ W2.cell? ⟨W.heap.size, 4, none⟩ = some (.int .i64 p.b) := ⟨P2.c 0, P2.c 1, P2.c 2, P2.c 3, P2.c 4⟩
  have KS : ∀ X : World, Below W2.heap.size W2 X → X.cell? ⟨K, 0, none⟩ = some (.int .i64 (la + 1)) ∧ X.cell? ⟨K, 1, none⟩ = some (.slice (some ⟨g, 0, none⟩) us.length cap) ∧ X.cell? ⟨W.heap.size, 0, none⟩ = some (.int .i64 p.q) ∧ X.cell? ⟨W.heap.size, 1, none⟩ = some (.int .i64 p.s) ∧ X.cell? ⟨W.heap.size, 2, none⟩ = some (.slice p.a p.l.length p.cap) ∧ X.cell? ⟨W.heap.size, 3, none⟩ = some (.int .i64 p.fr) ∧ X.cell? ⟨W.heap.size, 4, none⟩ = some (.int .i64 p.b) := fun X hb => ⟨(h2.keep hb).bk.c 0, (h2.keep hb).bk.c 1, (P2.keep hb).c 0, (P2.keep hb).c 1, (P2.keep hb).c 2, (P2.keep hb).c 3, (P2.keep hb).c 4⟩
  have KH : Hid (∀ X : World, Below W2.heap.size W2 X → X.cell? ⟨K, 0, none⟩ = some (.int .i64 (la + 1)) ∧ X.cell? ⟨K, 1, none⟩ = some (.slice (some ⟨g, 0, none⟩) us.length cap) ∧ X.cell? ⟨W.heap.size, 0, none⟩ = some (.int .i64 p.q) ∧ X.cell? ⟨W.heap.size, 1, none⟩ = some (.int .i64 p.s) ∧ X.cell? ⟨W.heap.size, 2, none⟩ = some (.slice p.a p.l.length p.cap) ∧ X.cell? ⟨W.heap.size, 3, none⟩ = some (.int .i64 p.fr) ∧ X.cell? ⟨W.heap.size, 4, none⟩ = some (.int .i64 p.b)) := KS
  have gne : K ≠ g := by have := (h2.own.row.lt g rfl).1; have := h2.kb; omega
  have gnw : W.heap.size ≠ g := by have := (h.own.row.lt g rfl).2; omega
  clear KS
  go_enter Tryz.func49, Tryz.ntmps49
  go_wp2
  clear x0 xf hW2
  have C2 := fun X (hb : Below W2.heap.size W2 X) => copiedI_pt p X hpl HPA.out (p2.below hb p2.lt)
  have HC : Hid (∀ X (hb : Below W2.heap.size W2 X), _) := C2
  have R2 := fun X (hb : Below W2.heap.size W2 X) => (h2.keep hb).own.row
  have HR2 : Hid (∀ X (hb : Below W2.heap.size W2 X), _) := R2
  clear C2 R2
  go_region_held3 (fun w' => w'.cell? ⟨K, 0, none⟩ = some (.int .i64 (la + 1)) ∧ w'.cell? ⟨K, 1, none⟩ = some (.slice (some ⟨g, 0, none⟩) us.length cap) ∧ w'.cell? ⟨W.heap.size, 0, none⟩ = some (.int .i64 p.q) ∧ w'.cell? ⟨W.heap.size, 1, none⟩ = some (.int .i64 p.s) ∧ w'.cell? ⟨W.heap.size, 2, none⟩ = some (.slice p.a p.l.length p.cap) ∧ w'.cell? ⟨W.heap.size, 3, none⟩ = some (.int .i64 p.fr) ∧ w'.cell? ⟨W.heap.size, 4, none⟩ = some (.int .i64 p.b))
    (first | with_reducible exact KH.out _ D2 | with_reducible exact KH.out _ D3 | simp [go_sem, *])
    (first
      | (go_at_call 69; refine (HC.out _ D2).mono ?_; rintro e w3 ⟨ya, yc, rfl, ho3, hb3⟩; have D3 := D2.trans (hb3.mono D2.size); have kk := KH.out _ D3; have k0 := kk.1; have k1 := kk.2.1; have k2 := kk.2.2.1; have k3 := kk.2.2.2.1; have k4 := kk.2.2.2.2.1; have k5 := kk.2.2.2.2.2.1; have k6 := kk.2.2.2.2.2.2; clear kk; have R3 := HR2.out _ D3; have th3 : ∀ j, j < 13 → ∃ v, w3.cell? ⟨g, i * 13 + j, none⟩ = some v := fun j hj => ⟨_, (R3.cellAt (i * 13 + j) (by omega)).trans (List.getElem?_eq_getElem (by rw [hdCells_length]; omega))⟩; obtain ⟨v7, c7⟩ := th3 7 (by decide); obtain ⟨v8, c8⟩ := th3 8 (by decide); obtain ⟨v9, c9⟩ := th3 9 (by decide); obtain ⟨v10, c10⟩ := th3 10 (by decide); obtain ⟨v11, c11⟩ := th3 11 (by decide); obtain ⟨v12, c12⟩ := th3 12 (by decide); have cf := R3.frozenAt; clear th3)
      | fail)
  have r0 := hd_put R3 HU.out (j := 7) (t' := (⟨u.nm, u.n, u.p, la + 1, ⟨u.x.q, u.x.s, u.x.fr, u.x.b, u.x.a, u.x.b0, u.x.o, u.x.cap, u.x.l⟩⟩ : Hd)) (u := .int .i64 (la + 1)) (by decide) rfl
  have r1 := hd_put_set (t := (⟨u.nm, u.n, u.p, la + 1, ⟨u.x.q, u.x.s, u.x.fr, u.x.b, u.x.a, u.x.b0, u.x.o, u.x.cap, u.x.l⟩⟩ : Hd)) (t' := (⟨u.nm, u.n, u.p, la + 1, ⟨p.q, u.x.s, u.x.fr, u.x.b, u.x.a, u.x.b0, u.x.o, u.x.cap, u.x.l⟩⟩ : Hd)) (j := 8) (u := .int .i64 p.q) r0 hil (by decide) rfl
  have r2 := hd_put_set (t := (⟨u.nm, u.n, u.p, la + 1, ⟨p.q, u.x.s, u.x.fr, u.x.b, u.x.a, u.x.b0, u.x.o, u.x.cap, u.x.l⟩⟩ : Hd)) (t' := (⟨u.nm, u.n, u.p, la + 1, ⟨p.q, p.s, u.x.fr, u.x.b, u.x.a, u.x.b0, u.x.o, u.x.cap, u.x.l⟩⟩ : Hd)) (j := 9) (u := .int .i64 p.s) r1 hil (by decide) rfl
  have r3 := hd_put_set (t := (⟨u.nm, u.n, u.p, la + 1, ⟨p.q, p.s, u.x.fr, u.x.b, u.x.a, u.x.b0, u.x.o, u.x.cap, u.x.l⟩⟩ : Hd)) (t' := (⟨u.nm, u.n, u.p, la + 1, ⟨p.q, p.s, u.x.fr, u.x.b, ya, u.x.b0, u.x.o, yc, p.l⟩⟩ : Hd)) (j := 10) (u := .slice ya p.l.length yc) r2 hil (by decide) rfl
  have r4 := hd_put_set (t := (⟨u.nm, u.n, u.p, la + 1, ⟨p.q, p.s, u.x.fr, u.x.b, ya, u.x.b0, u.x.o, yc, p.l⟩⟩ : Hd)) (t' := (⟨u.nm, u.n, u.p, la + 1, ⟨p.q, p.s, p.fr, u.x.b, ya, u.x.b0, u.x.o, yc, p.l⟩⟩ : Hd)) (j := 11) (u := .int .i64 p.fr) r3 hil (by decide) rfl
  have r5 := hd_put_set (t := (⟨u.nm, u.n, u.p, la + 1, ⟨p.q, p.s, p.fr, u.x.b, ya, u.x.b0, u.x.o, yc, p.l⟩⟩ : Hd)) (t' := (⟨u.nm, u.n, u.p, la + 1, ⟨p.q, p.s, p.fr, p.b, ya, u.x.b0, u.x.o, yc, p.l⟩⟩ : Hd)) (j := 12) (u := .int .i64 p.b) r4 hil (by decide) rfl
  obtain ⟨W4, hW4⟩ : ∃ W4, ((((((w3.setCell ⟨g, i * 13 + 7, none⟩ (.int .i64 (la + 1))).setCell ⟨g, i * 13 + 8, none⟩ (.int .i64 p.q)).setCell ⟨g, i * 13 + 8 + 1, none⟩ (.int .i64 p.s)).setCell ⟨g, i * 13 + 8 + 2, none⟩ (.slice ya p.l.length yc)).setCell ⟨g, i * 13 + 8 + 3, none⟩ (.int .i64 p.fr)).setCell ⟨g, i * 13 + 8 + 4, none⟩ (.int .i64 p.b)) = W4 := ⟨_, rfl⟩
  have R4 : W4.ownsRow base 63 13 (.slice (some ⟨g, 0, none⟩) us.length cap) us.length (hdCells (us.set i (⟨u.nm, u.n, u.p, la + 1, ⟨p.q, p.s, p.fr, p.b, ya, u.x.b0, u.x.o, yc, p.l⟩⟩ : Hd))) := by rw [← hW4]; exact r5
  have S4 : Spared (Value.slice (some ⟨g, 0, none⟩) us.length cap).ownBlock.toList W2 W4 := (Spared.below D3).trans (by rw [← hW4]; exact Spared.grown (grown_over2 (grown_over2 (grown_over2 (grown_over2 (grown_over2 (grown_set w3 ⟨g, i * 13 + 7, none⟩ (.int .i64 (la + 1))) (grown_set _ ⟨g, i * 13 + 8, none⟩ (.int .i64 p.q))) (grown_set _ ⟨g, i * 13 + 9, none⟩ (.int .i64 p.s))) (grown_set _ ⟨g, i * 13 + 10, none⟩ (.slice ya p.l.length yc))) (grown_set _ ⟨g, i * 13 + 11, none⟩ (.int .i64 p.fr))) (grown_set _ ⟨g, i * 13 + 12, none⟩ (.int .i64 p.b))) (fun k e => by cases e; simp [Value.ownBlock]))
  have h4 : HrW w W4 K base (la + 1) (.slice (some ⟨g, 0, none⟩) us.length cap) (us.set i (⟨u.nm, u.n, u.p, la + 1, ⟨p.q, p.s, p.fr, p.b, ya, u.x.b0, u.x.o, yc, p.l⟩⟩ : Hd)) := by
    have hyo : W4.ownsRow W2.heap.size 98 7 (.slice ya p.l.length yc) p.l.length (stepCells p.l) := by
      have S34 : Spared (Value.slice (some ⟨g, 0, none⟩) us.length cap).ownBlock.toList w3 W4 := by rw [← hW4]; exact Spared.grown (grown_over2 (grown_over2 (grown_over2 (grown_over2 (grown_over2 (grown_set w3 ⟨g, i * 13 + 7, none⟩ (.int .i64 (la + 1))) (grown_set _ ⟨g, i * 13 + 8, none⟩ (.int .i64 p.q))) (grown_set _ ⟨g, i * 13 + 9, none⟩ (.int .i64 p.s))) (grown_set _ ⟨g, i * 13 + 10, none⟩ (.slice ya p.l.length yc))) (grown_set _ ⟨g, i * 13 + 11, none⟩ (.int .i64 p.fr))) (grown_set _ ⟨g, i * 13 + 12, none⟩ (.int .i64 p.b))) (fun k e => by cases e; simp [Value.ownBlock])
      have hg2 : g < W2.heap.size := (h2.own.row.lt g rfl).2
      refine S34.owns ho3 (fun k hk hk' => ?_)
      have := owns_base ho3 k hk
      simp [Value.ownBlock] at hk'
      simp at this
      omega
    refine h2.putN HU.out S4 R4 (fun hO => ⟨hO.p, owns_lowerO hyo ?_, ?_⟩) (fun k hk => ?_)
    · have := h2.own.row.lt g rfl; omega
    · intro k hk hk'
      have e1 := owns_base hyo k hk'
      have e2 := ((h2.own.hd (List.mem_of_getElem? HU.out)).lt k (by simp only [Hd.blks, List.mem_append, Option.mem_toList]; exact Or.inl hk)).2
      omega
    · simp only [Hd.blks, List.mem_append, Option.mem_toList] at hk ⊢
      rcases hk with hk | hk
      · exact Or.inl (Or.inl hk)
      · exact Or.inr (owns_base hyo k hk)
  have HU4 : (us.set i (⟨u.nm, u.n, u.p, la + 1, ⟨p.q, p.s, p.fr, p.b, ya, u.x.b0, u.x.o, yc, p.l⟩⟩ : Hd))[i]? = some (⟨u.nm, u.n, u.p, la + 1, ⟨p.q, p.s, p.fr, p.b, ya, u.x.b0, u.x.o, yc, p.l⟩⟩ : Hd) := List.getElem?_set_self hil
  have d0 : W4.cell? ⟨g, i * 13, none⟩ = some (.string u.nm) := (R4.cellAt (i * 13) (by omega)).trans (hdCells_at _ i (⟨u.nm, u.n, u.p, la + 1, ⟨p.q, p.s, p.fr, p.b, ya, u.x.b0, u.x.o, yc, p.l⟩⟩ : Hd) 0 HU4 (by decide))
  have d1 : W4.cell? ⟨g, i * 13 + 1, none⟩ = some (.int .i64 u.n) := (R4.cellAt (i * 13 + 1) (by omega)).trans (hdCells_at _ i (⟨u.nm, u.n, u.p, la + 1, ⟨p.q, p.s, p.fr, p.b, ya, u.x.b0, u.x.o, yc, p.l⟩⟩ : Hd) 1 HU4 (by decide))
  have d2 : W4.cell? ⟨g, i * 13 + 2, none⟩ = some (.int .i64 u.p.q) := (R4.cellAt (i * 13 + 2) (by omega)).trans (hdCells_at _ i (⟨u.nm, u.n, u.p, la + 1, ⟨p.q, p.s, p.fr, p.b, ya, u.x.b0, u.x.o, yc, p.l⟩⟩ : Hd) 2 HU4 (by decide))
  have d3 : W4.cell? ⟨g, i * 13 + 3, none⟩ = some (.int .i64 u.p.s) := (R4.cellAt (i * 13 + 3) (by omega)).trans (hdCells_at _ i (⟨u.nm, u.n, u.p, la + 1, ⟨p.q, p.s, p.fr, p.b, ya, u.x.b0, u.x.o, yc, p.l⟩⟩ : Hd) 3 HU4 (by decide))
  have d4 : W4.cell? ⟨g, i * 13 + 4, none⟩ = some (.slice u.p.a u.p.l.length u.p.cap) := (R4.cellAt (i * 13 + 4) (by omega)).trans (hdCells_at _ i (⟨u.nm, u.n, u.p, la + 1, ⟨p.q, p.s, p.fr, p.b, ya, u.x.b0, u.x.o, yc, p.l⟩⟩ : Hd) 4 HU4 (by decide))
  have d5 : W4.cell? ⟨g, i * 13 + 5, none⟩ = some (.int .i64 u.p.fr) := (R4.cellAt (i * 13 + 5) (by omega)).trans (hdCells_at _ i (⟨u.nm, u.n, u.p, la + 1, ⟨p.q, p.s, p.fr, p.b, ya, u.x.b0, u.x.o, yc, p.l⟩⟩ : Hd) 5 HU4 (by decide))
  have d6 : W4.cell? ⟨g, i * 13 + 6, none⟩ = some (.int .i64 u.p.b) := (R4.cellAt (i * 13 + 6) (by omega)).trans (hdCells_at _ i (⟨u.nm, u.n, u.p, la + 1, ⟨p.q, p.s, p.fr, p.b, ya, u.x.b0, u.x.o, yc, p.l⟩⟩ : Hd) 6 HU4 (by decide))
  have d7 : W4.cell? ⟨g, i * 13 + 7, none⟩ = some (.int .i64 (la + 1)) := (R4.cellAt (i * 13 + 7) (by omega)).trans (hdCells_at _ i (⟨u.nm, u.n, u.p, la + 1, ⟨p.q, p.s, p.fr, p.b, ya, u.x.b0, u.x.o, yc, p.l⟩⟩ : Hd) 7 HU4 (by decide))
  have d8 : W4.cell? ⟨g, i * 13 + 8, none⟩ = some (.int .i64 p.q) := (R4.cellAt (i * 13 + 8) (by omega)).trans (hdCells_at _ i (⟨u.nm, u.n, u.p, la + 1, ⟨p.q, p.s, p.fr, p.b, ya, u.x.b0, u.x.o, yc, p.l⟩⟩ : Hd) 8 HU4 (by decide))
  have d9 : W4.cell? ⟨g, i * 13 + 9, none⟩ = some (.int .i64 p.s) := (R4.cellAt (i * 13 + 9) (by omega)).trans (hdCells_at _ i (⟨u.nm, u.n, u.p, la + 1, ⟨p.q, p.s, p.fr, p.b, ya, u.x.b0, u.x.o, yc, p.l⟩⟩ : Hd) 9 HU4 (by decide))
  have d10 : W4.cell? ⟨g, i * 13 + 10, none⟩ = some (.slice ya p.l.length yc) := (R4.cellAt (i * 13 + 10) (by omega)).trans (hdCells_at _ i (⟨u.nm, u.n, u.p, la + 1, ⟨p.q, p.s, p.fr, p.b, ya, u.x.b0, u.x.o, yc, p.l⟩⟩ : Hd) 10 HU4 (by decide))
  have d11 : W4.cell? ⟨g, i * 13 + 11, none⟩ = some (.int .i64 p.fr) := (R4.cellAt (i * 13 + 11) (by omega)).trans (hdCells_at _ i (⟨u.nm, u.n, u.p, la + 1, ⟨p.q, p.s, p.fr, p.b, ya, u.x.b0, u.x.o, yc, p.l⟩⟩ : Hd) 11 HU4 (by decide))
  have d12 : W4.cell? ⟨g, i * 13 + 12, none⟩ = some (.int .i64 p.b) := (R4.cellAt (i * 13 + 12) (by omega)).trans (hdCells_at _ i (⟨u.nm, u.n, u.p, la + 1, ⟨p.q, p.s, p.fr, p.b, ya, u.x.b0, u.x.o, yc, p.l⟩⟩ : Hd) 12 HU4 (by decide))
  have y4 : W4.cell? ⟨K, 1, none⟩ = some (.slice (some ⟨g, 0, none⟩) us.length cap) := h4.bk.c 1
  have H4 : Hid (HrW w W4 K base (la + 1) (.slice (some ⟨g, 0, none⟩) us.length cap) (us.set i (⟨u.nm, u.n, u.p, la + 1, ⟨p.q, p.s, p.fr, p.b, ya, u.x.b0, u.x.o, yc, p.l⟩⟩ : Hd))) := h4
  rw [hW4]
  clear h4 hW4 r0 r1 r2 r3 r4 r5 S4 R4 R3 HU4 c7 c8 c9 c10 c11 c12 k0 k1 k2 k3 k4 k5 k6 cf
  go_wp2_with fail
  refine (sent_any (⟨u.nm, u.n, u.p, la + 1, ⟨p.q, p.s, p.fr, p.b, ya, u.x.b0, u.x.o, yc, p.l⟩⟩ : Hd) _).mono ?_
  rintro e w5 ⟨rfl, hb5⟩
  go_wp2
  go_ret
  exact ⟨ya, yc, rfl, H4.out.keep hb5⟩
end Go.Proofs.YtgjleeamhkolhaaGreatDoor

namespace Go.Proofs.YtgjleeamhkolhaaGreatDoor
open Go.RowKit

theorem refused_one (la : Int) (va : Option Addr) (vn vc : Nat) (w : World) : Calls Tryz.prog 36 #[.agg #[.int .i64 la, .slice va vn vc], .int .i64 1] w
    fun e w' => e = .returned (.agg #[.int .i64 0, .slice none 0 0]) ∧ Below w.heap.size w w' := by
  have B2 := bel2 (w := w) (.cells #[.int .i64 la, .slice va vn vc] 34) (.cells #[.int .i64 0, .slice none 0 0] 34)
  go_enter Tryz.func36, Tryz.ntmps36
  go_wp2
  refine bodyPost_ret (v := .agg #[.int .i64 0, .slice none 0 0]) (by simp [results, Tryz.results36, go_sem]) rfl ⟨rfl, ?_⟩
  exact B2

set_option maxHeartbeats 2000000 in
set_option maxRecDepth 20000 in
theorem refused_more (la c : Int) (hc : (c == 1) = false) (a : Option Addr) (b o cap : Nat) (ts : List Hd) (w : World) (hl : ts.length ≤ 1048576) (hsm : ∀ t ∈ ts, t.p.l.length ≤ 1048576 ∧ t.x.l.length ≤ 1048576) (hput : ∀ t ∈ ts, t.p.a = some ⟨t.p.b0, t.p.o, none⟩ ∧ t.x.a = some ⟨t.x.b0, t.x.o, none⟩) (hs : HdsAt w a b o ts) :
    Calls Tryz.prog 36 #[.agg #[.int .i64 la, .slice a ts.length cap], .int .i64 c] w
      fun e w' => ∃ (v : Value) (us : List Hd), e = .returned (.agg #[.int .i64 la, v]) ∧ us.map Hd.key = ts.map Hd.key ∧ BkOwn w' w.heap.size v us ∧ Below w.heap.size w w' := by
  have HP : Hid (∀ t ∈ ts, t.p.a = some ⟨t.p.b0, t.p.o, none⟩ ∧ t.x.a = some ⟨t.x.b0, t.x.o, none⟩) := hput
  clear hput
  have B2 := bel2 (w := w) (.cells #[.int .i64 la, .slice a ts.length cap] 34) (.cells #[.int .i64 0, .slice none 0 0] 34)
  have Z0 := Cbx.new (w.alloc (.cells #[.int .i64 la, .slice a ts.length cap] 34)) #[.int .i64 0, .slice none 0 0] 34
  rw [World.size_alloc] at Z0
  go_enter Tryz.func36, Tryz.ntmps36
  go_wp2_with fail
  refine (copyBI_any la a b o cap ts _ hl hsm HP.out (hs.below B2)).mono ?_
  rintro e w1 ⟨v, us, rfl, hk, hc1, ho, hb⟩
  have hsz : ((w.alloc (.cells #[.int .i64 la, .slice a ts.length cap] 34)).alloc (.cells #[.int .i64 0, .slice none 0 0] 34)).heap.size = w.heap.size + 1 + 1 := by simp
  rw [hsz] at hc1 ho hb
  have Z1 := Z0.keep (by rw [hsz]; exact hb)
  have c0 : w1.cell? ⟨w.heap.size + 1 + 1 + 1, 0, none⟩ = some (.int .i64 la) := hc1.c 0
  have c1 : w1.cell? ⟨w.heap.size + 1 + 1 + 1, 1, none⟩ = some v := hc1.c 1
  have z0 : w1.cell? ⟨w.heap.size + 1, 0, none⟩ = some (.int .i64 0) := Z1.c 0
  have z1 : w1.cell? ⟨w.heap.size + 1, 1, none⟩ = some (.slice none 0 0) := Z1.c 1
  have zf := Z1.f
  have B1 : Below w.heap.size w w1 := B2.trans (hb.mono (by omega))
  obtain ⟨av, nv, cv, rfl⟩ : ∃ av nv cv, v = .slice av nv cv := by
    rcases ho.row.2 with ⟨e1, _⟩ | ⟨g', c', _, e1, _⟩
    · exact ⟨_, _, _, e1⟩
    · exact ⟨_, _, _, e1⟩
  clear hsz
  go_wp2
  refine bodyPost_ret (v := .agg #[.int .i64 la, .slice av nv cv]) (by simp [results, Tryz.results36, go_sem, z0, z1]) rfl ⟨_, us, rfl, hk, ?_, ?_⟩
  · have hn : ∀ k ∈ bkBlks (.slice av nv cv) us, k ∉ [w.heap.size + 1] := fun k hk e => by have := (ho.lt k hk).1; simp at e; omega
    refine BkOwn.lower (base := w.heap.size + 1 + 1 + 1 + 1) ?_ (by omega)
    refine BkOwn.spared (S := [w.heap.size + 1]) ?_ (Spared.grown (grown_set _ ⟨w.heap.size + 1, 1, none⟩ _) (fun k e => by cases e; simp)) hn
    exact BkOwn.spared (S := [w.heap.size + 1]) ho (Spared.grown (grown_set _ ⟨w.heap.size + 1, 0, none⟩ _) (fun k e => by cases e; simp)) hn
  · iterate 2 (refine Below.setCell ?_ (show w.heap.size ≤ w.heap.size + 1 by omega) _)
    exact B1
end Go.Proofs.YtgjleeamhkolhaaGreatDoor
