/- l12SpoilTube, by its contract: some tube. -/
import Derived.Test.YtdjgkghmgjocbaaSpD
import Derived.Test.YtdjgkghmgjocbaaTbCopy
import Derived.Test.YtdjgkghmgjocbaaOfMany
import Derived.Test.YtdjgkghmgjocbaaSpBox
import Derived.Test.YtdjgkghmgjocbaaBoxDraw
import Derived.Maps.AppendAt
namespace Go.Proofs.Ytdjgkghmgjocbaa
open Go.RowKit

set_option maxRecDepth 20000 in
set_option maxHeartbeats 8000000 in
theorem spoilTube_any (B : Nat) (R : Rdr) (p : Nat) (nm : ByteArray) (v : Value) (base : Nat) (l : List Bx) (w : World) (h : RdAt w B R p) (hp : p ≤ 999990000) (hl : l.length ≤ 45) (hv : w.ownsRow base 59 6 v l.length (rowC l)) :
    Calls Try.prog 68 #[.pointer (some ⟨B, 0, none⟩), .agg #[.string nm, v]] w (TubeDrawn w B R p 1000) := by
  obtain ⟨i0, hi, hz0, hz1, hz2⟩ := info_parts pbox_inf
  have hB := lt_of_block h.blk
  obtain ⟨av, cv, rfl⟩ := owns_sliceB hv
  have R0 := ((RdW.refl h).alloc (.cells #[.string nm, .slice av l.length cv] 49)).alloc (.cells #[.string ⟨#[]⟩, .slice none 0 0] 49)
  have z0 := heap_alloc_new (w.alloc (.cells #[.string nm, .slice av l.length cv] 49)) (.cells #[.string ⟨#[]⟩, .slice none 0 0] 49)
  rw [World.size_alloc] at z0
  have hv2 := owns_below hv (bel2 (.cells #[.string nm, .slice av l.length cv] 49) (.cells #[.string ⟨#[]⟩, .slice none 0 0] 49))
  go_enter Try.func68, Try.ntmps68
  go_wp2_with fail
  refine (copyT_any nm _ base l _ (by omega) hv2).mono ?_
  rintro e w1 ⟨v1, rfl, ho1, hb1⟩
  obtain ⟨a1, c1, rfl⟩ := owns_sliceB ho1
  have T1 : SD w (w1.alloc (.cells #[.string nm, .slice a1 l.length c1] 49)) B R p w1.heap.size nm (.slice a1 l.length c1) l := by
    have hsz := hb1.size
    simp at hsz
    have rs1 := (hb1.block _ (lt_of_block z0)).trans z0
    exact ⟨(R0.below hb1).alloc _, by omega, heap_alloc_new w1 _, (Below.heap_alloc w1 _ _ (lt_of_block rs1)).trans rs1, owns_below (owns_lowerB ho1 (by simp)) ((Below.refl _ _).alloc (Nat.le_refl _) _)⟩
  have hX0 : w.heap.size + 1 < w1.heap.size := T1.ge
  clear R0 z0 hv2 ho1 hb1 hv
  go_wp2_with fail
  generalize w1.heap.size = X at *
  refine (pick_any B R p 4 _ T1.rd.rd (by omega)).mono ?_
  rintro e w2 ⟨rfl, r2, g2, s2⟩
  have D := T1.more r2 g2
  clear r2 g2 s2 T1
  generalize pickV R p 4 = m0 at *
  obtain ⟨t0, t1, tf⟩ := blk2 D.tb
  obtain ⟨f0, f1, ff⟩ := blk2 D.rs
  by_cases hm0 : m0 = 0
  · subst hm0
    go_wp2_with fail
    refine (pick_any B R (p + 1) 2 _ D.rd.rd (by omega)).mono ?_
    rintro e w3 ⟨rfl, r3, g3, s3⟩
    have D3 := D.more r3 g3
    obtain ⟨u0, u1⟩ := pickV_range (n := 2) h.rng (show p + 1 ≤ 1000000000 by omega) (by omega)
    clear r3 g3 s3 t0 t1 tf f0 f1 ff D
    generalize pickV R (p + 1) 2 = m1 at *
    go_wp2_with fail
    refine (many_any _ _ _ (by omega) (by omega) (by decide)).mono ?_
    rintro e wm ⟨sm, rfl, hw⟩
    have hw2 := hw.symm
    subst hw2
    clear hw
    have D4 := D3.alloc (.cells #[.string ⟨#[]⟩, .string ⟨#[65]⟩, .string sm] 9)
    have hS : StrsAt (w3.alloc (.cells #[.string ⟨#[]⟩, .string ⟨#[65]⟩, .string sm] 9)) w3.heap.size 3 := ⟨by simp, fun i hi => by rcases (show i = 0 ∨ i = 1 ∨ i = 2 by omega) with rfl | rfl | rfl <;> exact ⟨_, by simp [go_sem]; rfl⟩⟩
    go_wp2_with fail
    refine (of_any B R (p + 1 + 1) w3.heap.size 3 _ _ D4.rd.rd (by omega) (by omega) (by omega) (by have := D3.rd.lt; have := D3.rd.size; omega) hS).mono ?_
    rintro e w5 ⟨s5, rfl, R5⟩
    have D5 := D4.more R5.rd R5.gr
    obtain ⟨t0, t1, tf⟩ := blk2 D5.tb
    have D6 := D5.setNm s5
    obtain ⟨f0, f1, ff⟩ := blk2 D6.rs
    obtain ⟨y0, y1, yf⟩ := blk2 D6.tb
    obtain ⟨d0, d1, df⟩ := blk2 D5.rs
    have hXZ : X ≠ w.heap.size + 1 := by omega
    go_wp2
    exact bodyPost_ret (v := .agg #[.string s5, .slice a1 l.length c1]) (by simp [results, Try.results68, go_sem, *]) rfl (D6.drawn (by omega) (by omega))
  by_cases hm1 : m0 = 1
  · subst hm1
    go_wp2_with fail
    refine (pick_any B R (p + 1) 2 _ D.rd.rd (by omega)).mono ?_
    rintro e w3 ⟨rfl, r3, g3, s3⟩
    have D3 := D.more r3 g3
    obtain ⟨u0, u1⟩ := pickV_range (n := 2) h.rng (show p + 1 ≤ 1000000000 by omega) (by omega)
    clear r3 g3 s3 t0 t1 tf f0 f1 ff D
    generalize pickV R (p + 1) 2 = m1 at *
    go_wp2
    go_loopw [] (fun wr => ∃ (p3 : Nat) (v : Value) (l : List Bx), l.length ≤ 45 ∧ p3 ≤ p + 10 + l.length * 20 ∧ SD w wr B R p3 X nm v l) (fun wr => match wr.cell? ⟨X, 1, none⟩ with | some (.slice _ n _) => 46 - n | _ => 0)
    case atStart => exact ⟨p + 1 + 1, _, l, by omega, by omega, D3⟩
    case round =>
      clear D3
      obtain ⟨p3, v3, l3, hl3, hp3, E⟩ := hrel
      obtain ⟨a3, c3, rfl⟩ := owns_sliceB E.own
      obtain ⟨t0, t1, tf⟩ := blk2 E.tb
      by_cases hlt : (l3.length : Int) < 40 + m1
      · have Ed := E.below ((Below.refl wr.heap.size wr).drew)
        have hM : wr.cell? ⟨X, 1, none⟩ = some (.slice a3 l3.length c3) := t1
        go_wp2
        refine wp_region_any (by kernel_rfl) ?_
        change wpAny _ _ _ _ _ _ _ (World.drew _)
        refine wpAny_take (i := 0) (v := .pointer (some ⟨X, 1, none⟩)) rfl (by kernel_rfl) (by kernel_rfl) (by kernel_rfl) (fun _ _ _ h => h) (Or.inl ⟨by rfl, fun W => by go_simp⟩) ?_
        refine wpAny_take (i := 2) (v := .pointer (some ⟨B, 0, none⟩)) rfl (by kernel_rfl) (by kernel_rfl) (by kernel_rfl) (fun _ _ _ h => h) (Or.inl ⟨by rfl, fun W => by go_simp⟩) ?_
        refine wpAny_ready (rs := [1, 3]) (by kernel_rfl) (by simp) ?_
        refine AllReady.cons rfl (fun K hK => ?_) ?_
        · go_simp
          refine hK _ _ ?_
          clear hK K
          refine wpAny_ready (rs := [3]) (by kernel_rfl) (by simp) ?_
          refine AllReady.cons rfl (fun K hK => ?_) ?_
          · go_simp
            refine (box_draw B R p3 _ Ed.rd.rd (by omega)).mono ?_
            rintro e we ⟨s2, p2, rfl, hp2, R2⟩
            have E2 := Ed.more R2.rd R2.gr
            obtain ⟨x0, x1, xf⟩ := blk2 E2.tb
            have E3 := E2.alloc (.cells #[.int .i64 s2.x, .int .i64 s2.y, .int .i64 s2.lo, .int .i64 s2.hi, .int .i64 s2.in_, .int .i64 s2.out] 59)
            have y1 := (blk2 E3.tb).2.1
            have yl := lt_of_block E2.rs
            refine hK _ _ ?_
            clear hK K
            refine wpAny_ready (rs := [4]) (by kernel_rfl) (by simp) ?_
            refine AllReady.cons rfl (fun K hK => ?_) ?_
            · go_simp
              refine hK _ _ ?_
              clear hK K
              refine wpAny_ready (rs := [5]) (by kernel_rfl) (by simp) ?_
              refine AllReady.cons rfl (fun K hK => ?_) ?_
              · refine wp_append_own _ (.tmp 53) (.tmp 56) 47 rfl (w.heap.size + 1 + 1) 59 i0 (.agg #[.int .i64 0, .int .i64 0, .int .i64 0, .int .i64 0, .int .i64 0, .int .i64 0]) 6 48 Try.underlying47 hi hz0 hz1 hz2 rfl (by decide) (.slice a3 l3.length c3) _ _ rfl E3.own ⟨we.heap.size, 0, none⟩ 1 1 (Bx.cells s2) rfl rfl (six_newP we s2 _) (by simp [Value.oneCell']) (by unfold maxLen; omega) (by omega) (by simp; omega) ?_
                intro v7 w7 hown7 hgrow7 hnil7
                obtain ⟨b0, b1, bf⟩ := blk2 (E3.tb7 hgrow7)
                obtain ⟨a7, c7, rfl⟩ := owns_sliceB hown7
                refine hK _ _ ?_
                clear hK K
                refine wpAny_ready (rs := [6]) (by kernel_rfl) (by simp) ?_
                refine AllReady.cons rfl (fun K hK => ?_) ?_
                · go_simp
                  refine hK _ _ ?_
                  clear hK K
                  refine wpAny_ready (rs := [7]) (by kernel_rfl) (by simp) ?_
                  refine AllReady.cons rfl (fun K hK => ?_) ?_
                  · go_simp
                    refine hK _ _ ?_
                    clear hK K
                    refine wpAny_done (by kernel_rfl) ?_ _
                    have E4 := E3.push hgrow7 hown7
                    have y9 := (blk2 E4.tb).2.1
                    go_wp2
                    go_roundw
                    case rel => exact ⟨p2, _, _, by simp; omega, by simp; omega, E4⟩
                    case measure => simp [y9, hM]; omega
                  exact AllReady.nil
                exact AllReady.nil
              exact AllReady.nil
            exact AllReady.nil
          exact AllReady.nil
        refine AllReady.cons rfl (fun K hK => ?_) ?_
        · go_simp
          refine (box_draw B R p3 _ Ed.rd.rd (by omega)).mono ?_
          rintro e we ⟨s2, p2, rfl, hp2, R2⟩
          have E2 := Ed.more R2.rd R2.gr
          obtain ⟨x0, x1, xf⟩ := blk2 E2.tb
          have E3 := E2.alloc (.cells #[.int .i64 s2.x, .int .i64 s2.y, .int .i64 s2.lo, .int .i64 s2.hi, .int .i64 s2.in_, .int .i64 s2.out] 59)
          have y1 := (blk2 E3.tb).2.1
          have yl := lt_of_block E2.rs
          refine hK _ _ ?_
          clear hK K
          refine wpAny_ready (rs := [1, 4]) (by kernel_rfl) (by simp) ?_
          refine AllReady.cons rfl (fun K hK => ?_) ?_
          · go_simp
            refine hK _ _ ?_
            clear hK K
            refine wpAny_ready (rs := [4]) (by kernel_rfl) (by simp) ?_
            refine AllReady.cons rfl (fun K hK => ?_) ?_
            · go_simp
              refine hK _ _ ?_
              clear hK K
              refine wpAny_ready (rs := [5]) (by kernel_rfl) (by simp) ?_
              refine AllReady.cons rfl (fun K hK => ?_) ?_
              · refine wp_append_own _ (.tmp 53) (.tmp 56) 47 rfl (w.heap.size + 1 + 1) 59 i0 (.agg #[.int .i64 0, .int .i64 0, .int .i64 0, .int .i64 0, .int .i64 0, .int .i64 0]) 6 48 Try.underlying47 hi hz0 hz1 hz2 rfl (by decide) (.slice a3 l3.length c3) _ _ rfl E3.own ⟨we.heap.size, 0, none⟩ 1 1 (Bx.cells s2) rfl rfl (six_newP we s2 _) (by simp [Value.oneCell']) (by unfold maxLen; omega) (by omega) (by simp; omega) ?_
                intro v7 w7 hown7 hgrow7 hnil7
                obtain ⟨b0, b1, bf⟩ := blk2 (E3.tb7 hgrow7)
                obtain ⟨a7, c7, rfl⟩ := owns_sliceB hown7
                refine hK _ _ ?_
                clear hK K
                refine wpAny_ready (rs := [6]) (by kernel_rfl) (by simp) ?_
                refine AllReady.cons rfl (fun K hK => ?_) ?_
                · go_simp
                  refine hK _ _ ?_
                  clear hK K
                  refine wpAny_ready (rs := [7]) (by kernel_rfl) (by simp) ?_
                  refine AllReady.cons rfl (fun K hK => ?_) ?_
                  · go_simp
                    refine hK _ _ ?_
                    clear hK K
                    refine wpAny_done (by kernel_rfl) ?_ _
                    have E4 := E3.push hgrow7 hown7
                    have y9 := (blk2 E4.tb).2.1
                    go_wp2
                    go_roundw
                    case rel => exact ⟨p2, _, _, by simp; omega, by simp; omega, E4⟩
                    case measure => simp [y9, hM]; omega
                  exact AllReady.nil
                exact AllReady.nil
              exact AllReady.nil
            exact AllReady.nil
          refine AllReady.cons rfl (fun K hK => ?_) ?_
          · go_simp
            refine hK _ _ ?_
            clear hK K
            refine wpAny_ready (rs := [1]) (by kernel_rfl) (by simp) ?_
            refine AllReady.cons rfl (fun K hK => ?_) ?_
            · go_simp
              refine hK _ _ ?_
              clear hK K
              refine wpAny_ready (rs := [5]) (by kernel_rfl) (by simp) ?_
              refine AllReady.cons rfl (fun K hK => ?_) ?_
              · refine wp_append_own _ (.tmp 53) (.tmp 56) 47 rfl (w.heap.size + 1 + 1) 59 i0 (.agg #[.int .i64 0, .int .i64 0, .int .i64 0, .int .i64 0, .int .i64 0, .int .i64 0]) 6 48 Try.underlying47 hi hz0 hz1 hz2 rfl (by decide) (.slice a3 l3.length c3) _ _ rfl E3.own ⟨we.heap.size, 0, none⟩ 1 1 (Bx.cells s2) rfl rfl (six_newP we s2 _) (by simp [Value.oneCell']) (by unfold maxLen; omega) (by omega) (by simp; omega) ?_
                intro v7 w7 hown7 hgrow7 hnil7
                obtain ⟨b0, b1, bf⟩ := blk2 (E3.tb7 hgrow7)
                obtain ⟨a7, c7, rfl⟩ := owns_sliceB hown7
                refine hK _ _ ?_
                clear hK K
                refine wpAny_ready (rs := [6]) (by kernel_rfl) (by simp) ?_
                refine AllReady.cons rfl (fun K hK => ?_) ?_
                · go_simp
                  refine hK _ _ ?_
                  clear hK K
                  refine wpAny_ready (rs := [7]) (by kernel_rfl) (by simp) ?_
                  refine AllReady.cons rfl (fun K hK => ?_) ?_
                  · go_simp
                    refine hK _ _ ?_
                    clear hK K
                    refine wpAny_done (by kernel_rfl) ?_ _
                    have E4 := E3.push hgrow7 hown7
                    have y9 := (blk2 E4.tb).2.1
                    go_wp2
                    go_roundw
                    case rel => exact ⟨p2, _, _, by simp; omega, by simp; omega, E4⟩
                    case measure => simp [y9, hM]; omega
                  exact AllReady.nil
                exact AllReady.nil
              exact AllReady.nil
            exact AllReady.nil
          exact AllReady.nil
        exact AllReady.nil
      · obtain ⟨f0, f1, ff⟩ := blk2 E.rs
        have hXZ : X ≠ w.heap.size + 1 := by omega
        go_wp2
        exact bodyPost_ret (v := .agg #[.string nm, .slice a3 l3.length c3]) (by simp [results, Try.results68, go_sem, *]) rfl (E.drawn (by omega) (by omega))
  have e0 : (m0 == 0) = false := beq_eq_false_iff_ne.2 hm0
  have e1 : (m0 == 1) = false := beq_eq_false_iff_ne.2 hm1
  have hXZ : X ≠ w.heap.size + 1 := by omega
  by_cases hpos : 0 < l.length
  · have hposI : (0 : Int) < (l.length : Int) := by omega
    go_wp2_with fail
    refine (pick_any B R (p + 1) (l.length : Int) _ D.rd.rd (by omega)).mono ?_
    rintro e w3 ⟨rfl, r3, g3, s3⟩
    have D3 := D.more r3 g3
    obtain ⟨u0, u1⟩ := pickV_range (n := (l.length : Int)) h.rng (show p + 1 ≤ 1000000000 by omega) (by omega)
    clear r3 g3 s3 t0 t1 tf f0 f1 ff D
    generalize pickV R (p + 1) (l.length : Int) = zi at *
    obtain ⟨kn, rfl⟩ := Int.eq_ofNat_of_zero_le u0
    obtain ⟨t, ht⟩ : ∃ t, l[kn]? = some t := ⟨_, List.getElem?_eq_getElem (by omega)⟩
    obtain ⟨g, gc, hgv, _, _⟩ := owns_some D3.own hpos
    simp only [Value.slice.injEq] at hgv
    obtain ⟨rfl, _, rfl⟩ := hgv
    have HT : Hid (l[kn]? = some t) := ht
    have Ed := D3.below ((Below.refl w3.heap.size w3).drew)
    obtain ⟨t0, t1, tf⟩ := blk2 D3.tb
    have b0 := (D3.own.cellAt (kn * 6) (by omega)).trans (rowC_get l kn t ht 0 _ rfl)
    have b1 := (D3.own.cellAt (kn * 6 + 1) (by omega)).trans (rowC_get l kn t ht 1 _ rfl)
    have b2 := (D3.own.cellAt (kn * 6 + 2) (by omega)).trans (rowC_get l kn t ht 2 _ rfl)
    have b3 := (D3.own.cellAt (kn * 6 + 3) (by omega)).trans (rowC_get l kn t ht 3 _ rfl)
    have b4 := (D3.own.cellAt (kn * 6 + 4) (by omega)).trans (rowC_get l kn t ht 4 _ rfl)
    have b5 := (D3.own.cellAt (kn * 6 + 5) (by omega)).trans (rowC_get l kn t ht 5 _ rfl)
    clear ht
    go_wp2
    refine wp_region_any (by kernel_rfl) ?_
    change wpAny _ _ _ _ _ _ _ (World.drew _)
    refine wpAny_take (i := 0) (v := .pointer (some ⟨X, 1, none⟩)) rfl (by kernel_rfl) (by kernel_rfl) (by kernel_rfl) (fun _ _ _ h => h) (Or.inl ⟨by rfl, fun W => by go_simp⟩) ?_
    refine wpAny_take (i := 2) (v := .int .i64 kn) rfl (by kernel_rfl) (by kernel_rfl) (by kernel_rfl) (fun _ _ _ h => h) (Or.inl ⟨by rfl, fun W => by go_simp⟩) ?_
    refine wpAny_take (i := 3) (v := .pointer (some ⟨B, 0, none⟩)) rfl (by kernel_rfl) (by kernel_rfl) (by kernel_rfl) (fun _ _ _ h => h) (Or.inl ⟨by rfl, fun W => by go_simp⟩) ?_
    refine wpAny_take (i := 4) (v := .pointer (some ⟨X, 1, none⟩)) rfl (by kernel_rfl) (by kernel_rfl) (by kernel_rfl) (fun _ _ _ h => h) (Or.inl ⟨by rfl, fun W => by go_simp⟩) ?_
    refine wpAny_take (i := 6) (v := .int .i64 kn) rfl (by kernel_rfl) (by kernel_rfl) (by kernel_rfl) (fun _ _ _ h => h) (Or.inl ⟨by rfl, fun W => by go_simp⟩) ?_
    refine wpAny_ready (rs := [1, 5]) (by kernel_rfl) (by simp) ?_
    refine AllReady.cons rfl (fun K hK => ?_) ?_
    · go_simp
      refine hK _ _ ?_
      clear hK K
      refine wpAny_ready (rs := [5]) (by kernel_rfl) (by simp) ?_
      refine AllReady.cons rfl (fun K hK => ?_) ?_
      · go_simp
        refine hK _ _ ?_
        clear hK K
        refine wpAny_ready (rs := [7]) (by kernel_rfl) (by simp) ?_
        refine AllReady.cons rfl (fun K hK => ?_) ?_
        · go_simp
          refine hK _ _ ?_
          clear hK K
          refine wpAny_ready (rs := [8]) (by kernel_rfl) (by simp) ?_
          refine AllReady.cons rfl (fun K hK => ?_) ?_
          · go_simp
            refine hK _ _ ?_
            clear hK K
            refine wpAny_ready (rs := [9]) (by kernel_rfl) (by simp) ?_
            refine AllReady.cons rfl (fun K hK => ?_) ?_
            · go_simp
              refine (spoilBox_any B R (p + 1 + 1) ⟨t.x, t.y, t.lo, t.hi, t.in_, t.out⟩ _ Ed.rd.rd (by omega)).mono ?_
              rintro e we ⟨s2, p2, rfl, hp2, R2⟩
              have E9 := Ed.more R2.rd R2.gr
              obtain ⟨x0, x1, xf⟩ := blk2 E9.tb
              have q0 := (E9.own.cellAt (kn * 6) (by omega)).trans (rowC_get l kn t HT.out 0 _ rfl)
              have q1 := (E9.own.cellAt (kn * 6 + 1) (by omega)).trans (rowC_get l kn t HT.out 1 _ rfl)
              have q2 := (E9.own.cellAt (kn * 6 + 2) (by omega)).trans (rowC_get l kn t HT.out 2 _ rfl)
              have q3 := (E9.own.cellAt (kn * 6 + 3) (by omega)).trans (rowC_get l kn t HT.out 3 _ rfl)
              have q4 := (E9.own.cellAt (kn * 6 + 4) (by omega)).trans (rowC_get l kn t HT.out 4 _ rfl)
              have q5 := (E9.own.cellAt (kn * 6 + 5) (by omega)).trans (rowC_get l kn t HT.out 5 _ rfl)
              have qf := E9.own.frozenAt
              refine hK _ _ ?_
              clear hK K
              refine wpAny_ready (rs := [10]) (by kernel_rfl) (by simp) ?_
              refine AllReady.cons rfl (fun K hK => ?_) ?_
              · go_simp
                refine hK _ _ ?_
                clear hK K
                refine wpAny_ready (rs := [11]) (by kernel_rfl) (by simp) ?_
                refine AllReady.cons rfl (fun K hK => ?_) ?_
                · go_simp
                  refine hK _ _ ?_
                  clear hK K
                  refine wpAny_done (by kernel_rfl) ?_ _
                  have g0 : ∀ u : Bx, (l.set kn u)[kn]? = some u := fun u => List.getElem?_set_self (by omega)
                  have P0 := E9.put HT.out (j := 0) (t' := ⟨s2.x, t.y, t.lo, t.hi, t.in_, t.out⟩) (u := .int .i64 s2.x) (by decide) rfl
                  have P1 := P0.put (g0 _) (j := 1) (t' := ⟨s2.x, s2.y, t.lo, t.hi, t.in_, t.out⟩) (u := .int .i64 s2.y) (by decide) rfl
                  rw [List.set_set] at P1
                  have P2 := P1.put (g0 _) (j := 2) (t' := ⟨s2.x, s2.y, s2.lo, t.hi, t.in_, t.out⟩) (u := .int .i64 s2.lo) (by decide) rfl
                  rw [List.set_set] at P2
                  have P3 := P2.put (g0 _) (j := 3) (t' := ⟨s2.x, s2.y, s2.lo, s2.hi, t.in_, t.out⟩) (u := .int .i64 s2.hi) (by decide) rfl
                  rw [List.set_set] at P3
                  have P4 := P3.put (g0 _) (j := 4) (t' := ⟨s2.x, s2.y, s2.lo, s2.hi, s2.in_, t.out⟩) (u := .int .i64 s2.in_) (by decide) rfl
                  rw [List.set_set] at P4
                  have P5 := P4.put (g0 _) (j := 5) (t' := ⟨s2.x, s2.y, s2.lo, s2.hi, s2.in_, s2.out⟩) (u := .int .i64 s2.out) (by decide) rfl
                  rw [List.set_set, Nat.add_zero] at P5
                  have hls : (l.set kn (⟨s2.x, s2.y, s2.lo, s2.hi, s2.in_, s2.out⟩ : Bx)).length = l.length := List.length_set
                  rw [hls] at P5
                  clear P0 P1 P2 P3 P4 g0 q0 q1 q2 q3 q4 q5 qf x0 x1 xf E9 R2
                  generalize ((((((we.setCell ⟨g, kn * 6, none⟩ (.int .i64 s2.x)).setCell ⟨g, kn * 6 + 1, none⟩ (.int .i64 s2.y)).setCell ⟨g, kn * 6 + 2, none⟩ (.int .i64 s2.lo)).setCell ⟨g, kn * 6 + 3, none⟩ (.int .i64 s2.hi)).setCell ⟨g, kn * 6 + 4, none⟩ (.int .i64 s2.in_)).setCell ⟨g, kn * 6 + 5, none⟩ (.int .i64 s2.out)) = Wz at *
                  obtain ⟨x0, x1, xf⟩ := blk2 P5.tb
                  obtain ⟨f0, f1, ff⟩ := blk2 P5.rs
                  go_wp2
                  exact bodyPost_ret (v := .agg #[.string nm, .slice (some ⟨g, 0, none⟩) l.length c1]) (by simp [results, Try.results68, go_sem, *]) rfl (P5.drawn (by omega) (by omega))
                exact AllReady.nil
              exact AllReady.nil
            exact AllReady.nil
          exact AllReady.nil
        exact AllReady.nil
      exact AllReady.nil
    refine AllReady.cons rfl (fun K hK => ?_) ?_
    · go_simp
      refine hK _ _ ?_
      clear hK K
      refine wpAny_ready (rs := [1, 7]) (by kernel_rfl) (by simp) ?_
      refine AllReady.cons rfl (fun K hK => ?_) ?_
      · go_simp
        refine hK _ _ ?_
        clear hK K
        refine wpAny_ready (rs := [7]) (by kernel_rfl) (by simp) ?_
        refine AllReady.cons rfl (fun K hK => ?_) ?_
        · go_simp
          refine hK _ _ ?_
          clear hK K
          refine wpAny_ready (rs := [8]) (by kernel_rfl) (by simp) ?_
          refine AllReady.cons rfl (fun K hK => ?_) ?_
          · go_simp
            refine hK _ _ ?_
            clear hK K
            refine wpAny_ready (rs := [9]) (by kernel_rfl) (by simp) ?_
            refine AllReady.cons rfl (fun K hK => ?_) ?_
            · go_simp
              refine (spoilBox_any B R (p + 1 + 1) ⟨t.x, t.y, t.lo, t.hi, t.in_, t.out⟩ _ Ed.rd.rd (by omega)).mono ?_
              rintro e we ⟨s2, p2, rfl, hp2, R2⟩
              have E9 := Ed.more R2.rd R2.gr
              obtain ⟨x0, x1, xf⟩ := blk2 E9.tb
              have q0 := (E9.own.cellAt (kn * 6) (by omega)).trans (rowC_get l kn t HT.out 0 _ rfl)
              have q1 := (E9.own.cellAt (kn * 6 + 1) (by omega)).trans (rowC_get l kn t HT.out 1 _ rfl)
              have q2 := (E9.own.cellAt (kn * 6 + 2) (by omega)).trans (rowC_get l kn t HT.out 2 _ rfl)
              have q3 := (E9.own.cellAt (kn * 6 + 3) (by omega)).trans (rowC_get l kn t HT.out 3 _ rfl)
              have q4 := (E9.own.cellAt (kn * 6 + 4) (by omega)).trans (rowC_get l kn t HT.out 4 _ rfl)
              have q5 := (E9.own.cellAt (kn * 6 + 5) (by omega)).trans (rowC_get l kn t HT.out 5 _ rfl)
              have qf := E9.own.frozenAt
              refine hK _ _ ?_
              clear hK K
              refine wpAny_ready (rs := [10]) (by kernel_rfl) (by simp) ?_
              refine AllReady.cons rfl (fun K hK => ?_) ?_
              · go_simp
                refine hK _ _ ?_
                clear hK K
                refine wpAny_ready (rs := [11]) (by kernel_rfl) (by simp) ?_
                refine AllReady.cons rfl (fun K hK => ?_) ?_
                · go_simp
                  refine hK _ _ ?_
                  clear hK K
                  refine wpAny_done (by kernel_rfl) ?_ _
                  have g0 : ∀ u : Bx, (l.set kn u)[kn]? = some u := fun u => List.getElem?_set_self (by omega)
                  have P0 := E9.put HT.out (j := 0) (t' := ⟨s2.x, t.y, t.lo, t.hi, t.in_, t.out⟩) (u := .int .i64 s2.x) (by decide) rfl
                  have P1 := P0.put (g0 _) (j := 1) (t' := ⟨s2.x, s2.y, t.lo, t.hi, t.in_, t.out⟩) (u := .int .i64 s2.y) (by decide) rfl
                  rw [List.set_set] at P1
                  have P2 := P1.put (g0 _) (j := 2) (t' := ⟨s2.x, s2.y, s2.lo, t.hi, t.in_, t.out⟩) (u := .int .i64 s2.lo) (by decide) rfl
                  rw [List.set_set] at P2
                  have P3 := P2.put (g0 _) (j := 3) (t' := ⟨s2.x, s2.y, s2.lo, s2.hi, t.in_, t.out⟩) (u := .int .i64 s2.hi) (by decide) rfl
                  rw [List.set_set] at P3
                  have P4 := P3.put (g0 _) (j := 4) (t' := ⟨s2.x, s2.y, s2.lo, s2.hi, s2.in_, t.out⟩) (u := .int .i64 s2.in_) (by decide) rfl
                  rw [List.set_set] at P4
                  have P5 := P4.put (g0 _) (j := 5) (t' := ⟨s2.x, s2.y, s2.lo, s2.hi, s2.in_, s2.out⟩) (u := .int .i64 s2.out) (by decide) rfl
                  rw [List.set_set, Nat.add_zero] at P5
                  have hls : (l.set kn (⟨s2.x, s2.y, s2.lo, s2.hi, s2.in_, s2.out⟩ : Bx)).length = l.length := List.length_set
                  rw [hls] at P5
                  clear P0 P1 P2 P3 P4 g0 q0 q1 q2 q3 q4 q5 qf x0 x1 xf E9 R2
                  generalize ((((((we.setCell ⟨g, kn * 6, none⟩ (.int .i64 s2.x)).setCell ⟨g, kn * 6 + 1, none⟩ (.int .i64 s2.y)).setCell ⟨g, kn * 6 + 2, none⟩ (.int .i64 s2.lo)).setCell ⟨g, kn * 6 + 3, none⟩ (.int .i64 s2.hi)).setCell ⟨g, kn * 6 + 4, none⟩ (.int .i64 s2.in_)).setCell ⟨g, kn * 6 + 5, none⟩ (.int .i64 s2.out)) = Wz at *
                  obtain ⟨x0, x1, xf⟩ := blk2 P5.tb
                  obtain ⟨f0, f1, ff⟩ := blk2 P5.rs
                  go_wp2
                  exact bodyPost_ret (v := .agg #[.string nm, .slice (some ⟨g, 0, none⟩) l.length c1]) (by simp [results, Try.results68, go_sem, *]) rfl (P5.drawn (by omega) (by omega))
                exact AllReady.nil
              exact AllReady.nil
            exact AllReady.nil
          exact AllReady.nil
        exact AllReady.nil
      refine AllReady.cons rfl (fun K hK => ?_) ?_
      · go_simp
        refine hK _ _ ?_
        clear hK K
        refine wpAny_ready (rs := [1, 8]) (by kernel_rfl) (by simp) ?_
        refine AllReady.cons rfl (fun K hK => ?_) ?_
        · go_simp
          refine hK _ _ ?_
          clear hK K
          refine wpAny_ready (rs := [8]) (by kernel_rfl) (by simp) ?_
          refine AllReady.cons rfl (fun K hK => ?_) ?_
          · go_simp
            refine hK _ _ ?_
            clear hK K
            refine wpAny_ready (rs := [9]) (by kernel_rfl) (by simp) ?_
            refine AllReady.cons rfl (fun K hK => ?_) ?_
            · go_simp
              refine (spoilBox_any B R (p + 1 + 1) ⟨t.x, t.y, t.lo, t.hi, t.in_, t.out⟩ _ Ed.rd.rd (by omega)).mono ?_
              rintro e we ⟨s2, p2, rfl, hp2, R2⟩
              have E9 := Ed.more R2.rd R2.gr
              obtain ⟨x0, x1, xf⟩ := blk2 E9.tb
              have q0 := (E9.own.cellAt (kn * 6) (by omega)).trans (rowC_get l kn t HT.out 0 _ rfl)
              have q1 := (E9.own.cellAt (kn * 6 + 1) (by omega)).trans (rowC_get l kn t HT.out 1 _ rfl)
              have q2 := (E9.own.cellAt (kn * 6 + 2) (by omega)).trans (rowC_get l kn t HT.out 2 _ rfl)
              have q3 := (E9.own.cellAt (kn * 6 + 3) (by omega)).trans (rowC_get l kn t HT.out 3 _ rfl)
              have q4 := (E9.own.cellAt (kn * 6 + 4) (by omega)).trans (rowC_get l kn t HT.out 4 _ rfl)
              have q5 := (E9.own.cellAt (kn * 6 + 5) (by omega)).trans (rowC_get l kn t HT.out 5 _ rfl)
              have qf := E9.own.frozenAt
              refine hK _ _ ?_
              clear hK K
              refine wpAny_ready (rs := [10]) (by kernel_rfl) (by simp) ?_
              refine AllReady.cons rfl (fun K hK => ?_) ?_
              · go_simp
                refine hK _ _ ?_
                clear hK K
                refine wpAny_ready (rs := [11]) (by kernel_rfl) (by simp) ?_
                refine AllReady.cons rfl (fun K hK => ?_) ?_
                · go_simp
                  refine hK _ _ ?_
                  clear hK K
                  refine wpAny_done (by kernel_rfl) ?_ _
                  have g0 : ∀ u : Bx, (l.set kn u)[kn]? = some u := fun u => List.getElem?_set_self (by omega)
                  have P0 := E9.put HT.out (j := 0) (t' := ⟨s2.x, t.y, t.lo, t.hi, t.in_, t.out⟩) (u := .int .i64 s2.x) (by decide) rfl
                  have P1 := P0.put (g0 _) (j := 1) (t' := ⟨s2.x, s2.y, t.lo, t.hi, t.in_, t.out⟩) (u := .int .i64 s2.y) (by decide) rfl
                  rw [List.set_set] at P1
                  have P2 := P1.put (g0 _) (j := 2) (t' := ⟨s2.x, s2.y, s2.lo, t.hi, t.in_, t.out⟩) (u := .int .i64 s2.lo) (by decide) rfl
                  rw [List.set_set] at P2
                  have P3 := P2.put (g0 _) (j := 3) (t' := ⟨s2.x, s2.y, s2.lo, s2.hi, t.in_, t.out⟩) (u := .int .i64 s2.hi) (by decide) rfl
                  rw [List.set_set] at P3
                  have P4 := P3.put (g0 _) (j := 4) (t' := ⟨s2.x, s2.y, s2.lo, s2.hi, s2.in_, t.out⟩) (u := .int .i64 s2.in_) (by decide) rfl
                  rw [List.set_set] at P4
                  have P5 := P4.put (g0 _) (j := 5) (t' := ⟨s2.x, s2.y, s2.lo, s2.hi, s2.in_, s2.out⟩) (u := .int .i64 s2.out) (by decide) rfl
                  rw [List.set_set, Nat.add_zero] at P5
                  have hls : (l.set kn (⟨s2.x, s2.y, s2.lo, s2.hi, s2.in_, s2.out⟩ : Bx)).length = l.length := List.length_set
                  rw [hls] at P5
                  clear P0 P1 P2 P3 P4 g0 q0 q1 q2 q3 q4 q5 qf x0 x1 xf E9 R2
                  generalize ((((((we.setCell ⟨g, kn * 6, none⟩ (.int .i64 s2.x)).setCell ⟨g, kn * 6 + 1, none⟩ (.int .i64 s2.y)).setCell ⟨g, kn * 6 + 2, none⟩ (.int .i64 s2.lo)).setCell ⟨g, kn * 6 + 3, none⟩ (.int .i64 s2.hi)).setCell ⟨g, kn * 6 + 4, none⟩ (.int .i64 s2.in_)).setCell ⟨g, kn * 6 + 5, none⟩ (.int .i64 s2.out)) = Wz at *
                  obtain ⟨x0, x1, xf⟩ := blk2 P5.tb
                  obtain ⟨f0, f1, ff⟩ := blk2 P5.rs
                  go_wp2
                  exact bodyPost_ret (v := .agg #[.string nm, .slice (some ⟨g, 0, none⟩) l.length c1]) (by simp [results, Try.results68, go_sem, *]) rfl (P5.drawn (by omega) (by omega))
                exact AllReady.nil
              exact AllReady.nil
            exact AllReady.nil
          exact AllReady.nil
        refine AllReady.cons rfl (fun K hK => ?_) ?_
        · go_simp
          refine hK _ _ ?_
          clear hK K
          refine wpAny_ready (rs := [1, 9]) (by kernel_rfl) (by simp) ?_
          refine AllReady.cons rfl (fun K hK => ?_) ?_
          · go_simp
            refine hK _ _ ?_
            clear hK K
            refine wpAny_ready (rs := [9]) (by kernel_rfl) (by simp) ?_
            refine AllReady.cons rfl (fun K hK => ?_) ?_
            · go_simp
              refine (spoilBox_any B R (p + 1 + 1) ⟨t.x, t.y, t.lo, t.hi, t.in_, t.out⟩ _ Ed.rd.rd (by omega)).mono ?_
              rintro e we ⟨s2, p2, rfl, hp2, R2⟩
              have E9 := Ed.more R2.rd R2.gr
              obtain ⟨x0, x1, xf⟩ := blk2 E9.tb
              have q0 := (E9.own.cellAt (kn * 6) (by omega)).trans (rowC_get l kn t HT.out 0 _ rfl)
              have q1 := (E9.own.cellAt (kn * 6 + 1) (by omega)).trans (rowC_get l kn t HT.out 1 _ rfl)
              have q2 := (E9.own.cellAt (kn * 6 + 2) (by omega)).trans (rowC_get l kn t HT.out 2 _ rfl)
              have q3 := (E9.own.cellAt (kn * 6 + 3) (by omega)).trans (rowC_get l kn t HT.out 3 _ rfl)
              have q4 := (E9.own.cellAt (kn * 6 + 4) (by omega)).trans (rowC_get l kn t HT.out 4 _ rfl)
              have q5 := (E9.own.cellAt (kn * 6 + 5) (by omega)).trans (rowC_get l kn t HT.out 5 _ rfl)
              have qf := E9.own.frozenAt
              refine hK _ _ ?_
              clear hK K
              refine wpAny_ready (rs := [10]) (by kernel_rfl) (by simp) ?_
              refine AllReady.cons rfl (fun K hK => ?_) ?_
              · go_simp
                refine hK _ _ ?_
                clear hK K
                refine wpAny_ready (rs := [11]) (by kernel_rfl) (by simp) ?_
                refine AllReady.cons rfl (fun K hK => ?_) ?_
                · go_simp
                  refine hK _ _ ?_
                  clear hK K
                  refine wpAny_done (by kernel_rfl) ?_ _
                  have g0 : ∀ u : Bx, (l.set kn u)[kn]? = some u := fun u => List.getElem?_set_self (by omega)
                  have P0 := E9.put HT.out (j := 0) (t' := ⟨s2.x, t.y, t.lo, t.hi, t.in_, t.out⟩) (u := .int .i64 s2.x) (by decide) rfl
                  have P1 := P0.put (g0 _) (j := 1) (t' := ⟨s2.x, s2.y, t.lo, t.hi, t.in_, t.out⟩) (u := .int .i64 s2.y) (by decide) rfl
                  rw [List.set_set] at P1
                  have P2 := P1.put (g0 _) (j := 2) (t' := ⟨s2.x, s2.y, s2.lo, t.hi, t.in_, t.out⟩) (u := .int .i64 s2.lo) (by decide) rfl
                  rw [List.set_set] at P2
                  have P3 := P2.put (g0 _) (j := 3) (t' := ⟨s2.x, s2.y, s2.lo, s2.hi, t.in_, t.out⟩) (u := .int .i64 s2.hi) (by decide) rfl
                  rw [List.set_set] at P3
                  have P4 := P3.put (g0 _) (j := 4) (t' := ⟨s2.x, s2.y, s2.lo, s2.hi, s2.in_, t.out⟩) (u := .int .i64 s2.in_) (by decide) rfl
                  rw [List.set_set] at P4
                  have P5 := P4.put (g0 _) (j := 5) (t' := ⟨s2.x, s2.y, s2.lo, s2.hi, s2.in_, s2.out⟩) (u := .int .i64 s2.out) (by decide) rfl
                  rw [List.set_set, Nat.add_zero] at P5
                  have hls : (l.set kn (⟨s2.x, s2.y, s2.lo, s2.hi, s2.in_, s2.out⟩ : Bx)).length = l.length := List.length_set
                  rw [hls] at P5
                  clear P0 P1 P2 P3 P4 g0 q0 q1 q2 q3 q4 q5 qf x0 x1 xf E9 R2
                  generalize ((((((we.setCell ⟨g, kn * 6, none⟩ (.int .i64 s2.x)).setCell ⟨g, kn * 6 + 1, none⟩ (.int .i64 s2.y)).setCell ⟨g, kn * 6 + 2, none⟩ (.int .i64 s2.lo)).setCell ⟨g, kn * 6 + 3, none⟩ (.int .i64 s2.hi)).setCell ⟨g, kn * 6 + 4, none⟩ (.int .i64 s2.in_)).setCell ⟨g, kn * 6 + 5, none⟩ (.int .i64 s2.out)) = Wz at *
                  obtain ⟨x0, x1, xf⟩ := blk2 P5.tb
                  obtain ⟨f0, f1, ff⟩ := blk2 P5.rs
                  go_wp2
                  exact bodyPost_ret (v := .agg #[.string nm, .slice (some ⟨g, 0, none⟩) l.length c1]) (by simp [results, Try.results68, go_sem, *]) rfl (P5.drawn (by omega) (by omega))
                exact AllReady.nil
              exact AllReady.nil
            exact AllReady.nil
          refine AllReady.cons rfl (fun K hK => ?_) ?_
          · go_simp
            refine (spoilBox_any B R (p + 1 + 1) ⟨t.x, t.y, t.lo, t.hi, t.in_, t.out⟩ _ Ed.rd.rd (by omega)).mono ?_
            rintro e we ⟨s2, p2, rfl, hp2, R2⟩
            have E9 := Ed.more R2.rd R2.gr
            obtain ⟨x0, x1, xf⟩ := blk2 E9.tb
            have q0 := (E9.own.cellAt (kn * 6) (by omega)).trans (rowC_get l kn t HT.out 0 _ rfl)
            have q1 := (E9.own.cellAt (kn * 6 + 1) (by omega)).trans (rowC_get l kn t HT.out 1 _ rfl)
            have q2 := (E9.own.cellAt (kn * 6 + 2) (by omega)).trans (rowC_get l kn t HT.out 2 _ rfl)
            have q3 := (E9.own.cellAt (kn * 6 + 3) (by omega)).trans (rowC_get l kn t HT.out 3 _ rfl)
            have q4 := (E9.own.cellAt (kn * 6 + 4) (by omega)).trans (rowC_get l kn t HT.out 4 _ rfl)
            have q5 := (E9.own.cellAt (kn * 6 + 5) (by omega)).trans (rowC_get l kn t HT.out 5 _ rfl)
            have qf := E9.own.frozenAt
            refine hK _ _ ?_
            clear hK K
            refine wpAny_ready (rs := [1]) (by kernel_rfl) (by simp) ?_
            refine AllReady.cons rfl (fun K hK => ?_) ?_
            · go_simp
              refine hK _ _ ?_
              clear hK K
              refine wpAny_ready (rs := [10]) (by kernel_rfl) (by simp) ?_
              refine AllReady.cons rfl (fun K hK => ?_) ?_
              · go_simp
                refine hK _ _ ?_
                clear hK K
                refine wpAny_ready (rs := [11]) (by kernel_rfl) (by simp) ?_
                refine AllReady.cons rfl (fun K hK => ?_) ?_
                · go_simp
                  refine hK _ _ ?_
                  clear hK K
                  refine wpAny_done (by kernel_rfl) ?_ _
                  have g0 : ∀ u : Bx, (l.set kn u)[kn]? = some u := fun u => List.getElem?_set_self (by omega)
                  have P0 := E9.put HT.out (j := 0) (t' := ⟨s2.x, t.y, t.lo, t.hi, t.in_, t.out⟩) (u := .int .i64 s2.x) (by decide) rfl
                  have P1 := P0.put (g0 _) (j := 1) (t' := ⟨s2.x, s2.y, t.lo, t.hi, t.in_, t.out⟩) (u := .int .i64 s2.y) (by decide) rfl
                  rw [List.set_set] at P1
                  have P2 := P1.put (g0 _) (j := 2) (t' := ⟨s2.x, s2.y, s2.lo, t.hi, t.in_, t.out⟩) (u := .int .i64 s2.lo) (by decide) rfl
                  rw [List.set_set] at P2
                  have P3 := P2.put (g0 _) (j := 3) (t' := ⟨s2.x, s2.y, s2.lo, s2.hi, t.in_, t.out⟩) (u := .int .i64 s2.hi) (by decide) rfl
                  rw [List.set_set] at P3
                  have P4 := P3.put (g0 _) (j := 4) (t' := ⟨s2.x, s2.y, s2.lo, s2.hi, s2.in_, t.out⟩) (u := .int .i64 s2.in_) (by decide) rfl
                  rw [List.set_set] at P4
                  have P5 := P4.put (g0 _) (j := 5) (t' := ⟨s2.x, s2.y, s2.lo, s2.hi, s2.in_, s2.out⟩) (u := .int .i64 s2.out) (by decide) rfl
                  rw [List.set_set, Nat.add_zero] at P5
                  have hls : (l.set kn (⟨s2.x, s2.y, s2.lo, s2.hi, s2.in_, s2.out⟩ : Bx)).length = l.length := List.length_set
                  rw [hls] at P5
                  clear P0 P1 P2 P3 P4 g0 q0 q1 q2 q3 q4 q5 qf x0 x1 xf E9 R2
                  generalize ((((((we.setCell ⟨g, kn * 6, none⟩ (.int .i64 s2.x)).setCell ⟨g, kn * 6 + 1, none⟩ (.int .i64 s2.y)).setCell ⟨g, kn * 6 + 2, none⟩ (.int .i64 s2.lo)).setCell ⟨g, kn * 6 + 3, none⟩ (.int .i64 s2.hi)).setCell ⟨g, kn * 6 + 4, none⟩ (.int .i64 s2.in_)).setCell ⟨g, kn * 6 + 5, none⟩ (.int .i64 s2.out)) = Wz at *
                  obtain ⟨x0, x1, xf⟩ := blk2 P5.tb
                  obtain ⟨f0, f1, ff⟩ := blk2 P5.rs
                  go_wp2
                  exact bodyPost_ret (v := .agg #[.string nm, .slice (some ⟨g, 0, none⟩) l.length c1]) (by simp [results, Try.results68, go_sem, *]) rfl (P5.drawn (by omega) (by omega))
                exact AllReady.nil
              exact AllReady.nil
            exact AllReady.nil
          exact AllReady.nil
        exact AllReady.nil
      exact AllReady.nil
    exact AllReady.nil
  · have h0 : l = [] := List.eq_nil_of_length_eq_zero (by omega)
    subst h0
    go_wp2
    exact bodyPost_ret (v := .agg #[.string nm, .slice a1 0 c1]) (by simp [results, Try.results68, go_sem, *]) rfl (D.drawn (by simp) (by omega))
end Go.Proofs.Ytdjgkghmgjocbaa
