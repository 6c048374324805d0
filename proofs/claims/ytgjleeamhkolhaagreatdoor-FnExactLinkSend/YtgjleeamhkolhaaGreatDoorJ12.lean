/- Joined texts: LkMeetsS, LkNearS, LkBookS. -/
import Derived.Test.YtgjleeamhkolhaaGreatDoorLkMeets
import Derived.Test.YtgjleeamhkolhaaGreatDoorJ11
import Derived.Test.YtgjleeamhkolhaaGreatDoorJ09
import Derived.Test.YtgjleeamhkolhaaGreatDoorJ10
import Derived.Test.YtgjleeamhkolhaaGreatDoorJ04
import Derived.Test.YtgjleeamhkolhaaGreatDoorCls
namespace Go.Proofs.YtgjleeamhkolhaaGreatDoor
open Go.RowKit

abbrev nmB : ByteArray := ⟨#[98]⟩
theorem nameB_b : nameB nmB = true := by decide +kernel
set_option maxHeartbeats 8000000 in
set_option maxRecDepth 20000 in
theorem meetsS_any (p x : Pt) (now : Int) (w : World) (hpl : p.l.length ≤ 1048576) (hxl : x.l.length ≤ 1048576) (hp : PtAt w p) (hx : PtAt w x) :
    Calls Tryz.prog 61 #[p.val, x.val, .int .i64 now] w fun e w' => e = .returned (.bool (meetsK p.key x.key now)) ∧ Below w.heap.size w w' := by
  obtain ⟨W0, hW0⟩ : ∃ W0, ((w.alloc (.cells #[.int .i64 p.q, .int .i64 p.s, .slice p.a p.l.length p.cap, .int .i64 p.fr, .int .i64 p.b] 38)).alloc (.cells #[.int .i64 x.q, .int .i64 x.s, .slice x.a x.l.length x.cap, .int .i64 x.fr, .int .i64 x.b] 38)) = W0 := ⟨_, rfl⟩
  have B0 : Below w.heap.size w W0 := by rw [← hW0]; exact bel2 _ _
  have P0 : W0.heap[w.heap.size]? = some (.cells #[.int .i64 p.q, .int .i64 p.s, .slice p.a p.l.length p.cap, .int .i64 p.fr, .int .i64 p.b] 38 (0, 0)) := by
    rw [← hW0]
    have h := heap_alloc_new w (.cells #[.int .i64 p.q, .int .i64 p.s, .slice p.a p.l.length p.cap, .int .i64 p.fr, .int .i64 p.b] 38)
    exact ((bel1 _).block _ (lt_of_block h)).trans h
  have Q0 : W0.heap[w.heap.size + 1]? = some (.cells #[.int .i64 x.q, .int .i64 x.s, .slice x.a x.l.length x.cap, .int .i64 x.fr, .int .i64 x.b] 38 (0, 0)) := by
    rw [← hW0]
    have h := heap_alloc_new (w.alloc (.cells #[.int .i64 p.q, .int .i64 p.s, .slice p.a p.l.length p.cap, .int .i64 p.fr, .int .i64 p.b] 38)) (.cells #[.int .i64 x.q, .int .i64 x.s, .slice x.a x.l.length x.cap, .int .i64 x.fr, .int .i64 x.b] 38)
    rwa [World.size_alloc] at h
  have BC : Below w.heap.size w W0.drew := B0.drew
  have BC0 : Below W0.heap.size W0 W0.drew := (Below.refl _ _).drew
  go_enter Tryz.func61, Tryz.ntmps61
  go_wp2_with fail
  clear hW0
  refine wp_region_any (by kernel_rfl) ?_
  change wpAny _ _ _ _ _ _ _ (World.drew _)
  refine wpAny_take (i := 1) (v := .int .i64 now) rfl (by kernel_rfl) (by kernel_rfl) (by kernel_rfl) (fun _ _ _ h => h) (Or.inl ⟨by rfl, fun W => by go_simp⟩) ?_
  refine wpAny_take (i := 4) (v := .int .i64 now) rfl (by kernel_rfl) (by kernel_rfl) (by kernel_rfl) (fun _ _ _ h => h) (Or.inl ⟨by rfl, fun W => by go_simp⟩) ?_
  refine wpAny_ready (rs := [0, 3, 10]) (by kernel_rfl) (by simp) ?_
  refine AllReady.cons rfl (fun K hK => ?_) ?_
  · have l00 : W0.drew.cell? ⟨w.heap.size, 0, none⟩ = some (.int .i64 p.q) := by rw [BC0.cell (p := ⟨w.heap.size, 0, none⟩) (lt_of_block P0)]; simp [World.cell?, P0]
    have l01 : W0.drew.cell? ⟨w.heap.size, 1, none⟩ = some (.int .i64 p.s) := by rw [BC0.cell (p := ⟨w.heap.size, 1, none⟩) (lt_of_block P0)]; simp [World.cell?, P0]
    have l02 : W0.drew.cell? ⟨w.heap.size, 2, none⟩ = some (.slice p.a p.l.length p.cap) := by rw [BC0.cell (p := ⟨w.heap.size, 2, none⟩) (lt_of_block P0)]; simp [World.cell?, P0]
    have l03 : W0.drew.cell? ⟨w.heap.size, 3, none⟩ = some (.int .i64 p.fr) := by rw [BC0.cell (p := ⟨w.heap.size, 3, none⟩) (lt_of_block P0)]; simp [World.cell?, P0]
    have l04 : W0.drew.cell? ⟨w.heap.size, 4, none⟩ = some (.int .i64 p.b) := by rw [BC0.cell (p := ⟨w.heap.size, 4, none⟩) (lt_of_block P0)]; simp [World.cell?, P0]
    go_simp
    clear l00 l01 l02 l03 l04
    refine hK _ _ ?_
    clear hK K
    refine wpAny_ready (rs := [2, 3, 10]) (by kernel_rfl) (by simp) ?_
    refine AllReady.cons rfl (fun K hK => ?_) ?_
    · try go_simp
      refine (linkTubeS_any nmA p.q p.s p.fr p.b p.a p.b0 p.o p.cap p.l now _ hpl (hp.below BC hp.lt)).mono ?_
      rintro e w2 ⟨v2, rfl, ho2, hb2⟩
      obtain ⟨a2, g2, c2, rfl, R2⟩ := owns_rowB ho2
      have TA := R2.at_
      replace BC := BC.trans (hb2.mono BC.size)
      replace BC0 := BC0.trans (hb2.mono BC0.size)
      clear hb2 ho2 R2
      refine hK _ _ ?_
      clear hK K
      refine wpAny_ready (rs := [3, 10]) (by kernel_rfl) (by simp) ?_
      refine AllReady.cons rfl (fun K hK => ?_) ?_
      · have l30 : w2.cell? ⟨w.heap.size + 1, 0, none⟩ = some (.int .i64 x.q) := by rw [BC0.cell (p := ⟨w.heap.size + 1, 0, none⟩) (lt_of_block Q0)]; simp [World.cell?, Q0]
        have l31 : w2.cell? ⟨w.heap.size + 1, 1, none⟩ = some (.int .i64 x.s) := by rw [BC0.cell (p := ⟨w.heap.size + 1, 1, none⟩) (lt_of_block Q0)]; simp [World.cell?, Q0]
        have l32 : w2.cell? ⟨w.heap.size + 1, 2, none⟩ = some (.slice x.a x.l.length x.cap) := by rw [BC0.cell (p := ⟨w.heap.size + 1, 2, none⟩) (lt_of_block Q0)]; simp [World.cell?, Q0]
        have l33 : w2.cell? ⟨w.heap.size + 1, 3, none⟩ = some (.int .i64 x.fr) := by rw [BC0.cell (p := ⟨w.heap.size + 1, 3, none⟩) (lt_of_block Q0)]; simp [World.cell?, Q0]
        have l34 : w2.cell? ⟨w.heap.size + 1, 4, none⟩ = some (.int .i64 x.b) := by rw [BC0.cell (p := ⟨w.heap.size + 1, 4, none⟩) (lt_of_block Q0)]; simp [World.cell?, Q0]
        go_simp
        clear l30 l31 l32 l33 l34
        refine hK _ _ ?_
        clear hK K
        refine wpAny_ready (rs := [5, 10]) (by kernel_rfl) (by simp) ?_
        refine AllReady.cons rfl (fun K hK => ?_) ?_
        · try go_simp
          refine (linkTubeS_any nmB x.q x.s x.fr x.b x.a x.b0 x.o x.cap x.l now _ hxl (hx.below BC hx.lt)).mono ?_
          rintro e w5 ⟨v5, rfl, ho5, hb5⟩
          obtain ⟨a5, g5, c5, rfl, R5⟩ := owns_rowB ho5
          have TB := R5.at_
          replace BC := BC.trans (hb5.mono BC.size)
          replace BC0 := BC0.trans (hb5.mono BC0.size)
          replace TA := TA.below hb5 TA.lt
          clear hb5 ho5 R5
          refine hK _ _ ?_
          clear hK K
          refine wpAny_ready (rs := [6, 10]) (by kernel_rfl) (by simp) ?_
          refine AllReady.cons rfl (fun K hK => ?_) ?_
          · try go_simp
            refine (meetS_any (cutK nmA p.key now a2 g2 0 c2) (cutK nmB x.key now a5 g5 0 c5) _ (Nat.le_trans (cutBx_len _ now) (Nat.le_trans (tubeL_len _ _ _ _ _) (by omega))) (Nat.le_trans (cutBx_len _ now) (Nat.le_trans (tubeL_len _ _ _ _ _) (by omega))) ⟨TA⟩ ⟨TB⟩).mono ?_
            rintro e w6 ⟨rfl, hb6⟩
            replace BC := BC.trans (hb6.mono BC.size)
            replace BC0 := BC0.trans (hb6.mono BC0.size)
            rw [meets_name nameA nameB_b]
            obtain ⟨s1, s2, i1, i2, i3, hcl⟩ := clashC_five (cutK nmA p.key now a2 g2 0 c2).nm (cutK nmB x.key now a5 g5 0 c5).nm (meetTB (cutK nmA p.key now a2 g2 0 c2) (cutK nmB x.key now a5 g5 0 c5))
            rw [hcl]
            clear hcl
            clear hb6
            refine hK _ _ ?_
            clear hK K
            refine wpAny_take (i := 7) (v := .tuple #[.agg #[.string s1, .string s2, .int .i64 i1, .int .i64 i2, .int .i64 i3], .bool (meetsK p.key x.key now)]) rfl (by kernel_rfl) (by kernel_rfl) (by kernel_rfl) (fun _ _ _ h => h) (Or.inl ⟨by rfl, fun W => by go_simp⟩) ?_
            refine wpAny_take (i := 8) (v := .agg #[.string s1, .string s2, .int .i64 i1, .int .i64 i2, .int .i64 i3]) rfl (by kernel_rfl) (by kernel_rfl) (by kernel_rfl) (fun _ _ _ h => h) (Or.inl ⟨by rfl, fun W => by go_simp⟩) ?_
            refine wpAny_take (i := 9) (v := .bool (meetsK p.key x.key now)) rfl (by kernel_rfl) (by kernel_rfl) (by kernel_rfl) (fun _ _ _ h => h) (Or.inl ⟨by rfl, fun W => by go_simp⟩) ?_
            refine wpAny_ready (rs := [10]) (by kernel_rfl) (by simp) ?_
            refine AllReady.cons rfl (fun K hK => ?_) ?_
            · go_simp
              have XA : (w6.alloc (.cells #[.string ⟨#[]⟩, .string ⟨#[]⟩, .int .i64 0, .int .i64 0, .int .i64 0] 127)).heap[w6.heap.size]? = some (.cells #[.string ⟨#[]⟩, .string ⟨#[]⟩, .int .i64 0, .int .i64 0, .int .i64 0] 127 (0, 0)) := heap_alloc_new w6 (.cells #[.string ⟨#[]⟩, .string ⟨#[]⟩, .int .i64 0, .int .i64 0, .int .i64 0] 127)
              have zX : w.heap.size ≤ w6.heap.size := BC.size
              have BC6 := BC
              replace BC := BC.trans ((bel1 (w := w6) (.cells #[.string ⟨#[]⟩, .string ⟨#[]⟩, .int .i64 0, .int .i64 0, .int .i64 0] 127)).mono BC.size)
              replace BC0 := BC0.trans ((bel1 (w := w6) (.cells #[.string ⟨#[]⟩, .string ⟨#[]⟩, .int .i64 0, .int .i64 0, .int .i64 0] 127)).mono BC0.size)
              refine hK _ _ ?_
              clear hK K
              refine wpAny_ready (rs := [11]) (by kernel_rfl) (by simp) ?_
              refine AllReady.cons rfl (fun K hK => ?_) ?_
              · go_simp
                refine hK _ _ ?_
                clear hK K
                refine wpAny_take (i := 12) (v := .bool (meetsK p.key x.key now)) rfl (by kernel_rfl) (by kernel_rfl) (by kernel_rfl) (fun _ _ _ h => h) (Or.inl ⟨by rfl, fun W => by go_simp⟩) ?_
                refine wpAny_done (by kernel_rfl) ?_ _
                go_wp2
                go_ret
                exact ⟨rfl, BC6.trans ((bel1 _).mono BC6.size)⟩
              exact AllReady.nil
            exact AllReady.nil
          refine AllReady.cons rfl (fun K hK => ?_) ?_
          · go_simp
            have XA : (w5.alloc (.cells #[.string ⟨#[]⟩, .string ⟨#[]⟩, .int .i64 0, .int .i64 0, .int .i64 0] 127)).heap[w5.heap.size]? = some (.cells #[.string ⟨#[]⟩, .string ⟨#[]⟩, .int .i64 0, .int .i64 0, .int .i64 0] 127 (0, 0)) := heap_alloc_new w5 (.cells #[.string ⟨#[]⟩, .string ⟨#[]⟩, .int .i64 0, .int .i64 0, .int .i64 0] 127)
            have zX : w.heap.size ≤ w5.heap.size := BC.size
            replace BC := BC.trans ((bel1 (w := w5) (.cells #[.string ⟨#[]⟩, .string ⟨#[]⟩, .int .i64 0, .int .i64 0, .int .i64 0] 127)).mono BC.size)
            replace BC0 := BC0.trans ((bel1 (w := w5) (.cells #[.string ⟨#[]⟩, .string ⟨#[]⟩, .int .i64 0, .int .i64 0, .int .i64 0] 127)).mono BC0.size)
            replace TA := TA.below (bel1 (w := w5) (.cells #[.string ⟨#[]⟩, .string ⟨#[]⟩, .int .i64 0, .int .i64 0, .int .i64 0] 127)) TA.lt
            replace TB := TB.below (bel1 (w := w5) (.cells #[.string ⟨#[]⟩, .string ⟨#[]⟩, .int .i64 0, .int .i64 0, .int .i64 0] 127)) TB.lt
            refine hK _ _ ?_
            clear hK K
            refine wpAny_ready (rs := [6]) (by kernel_rfl) (by simp) ?_
            refine AllReady.cons rfl (fun K hK => ?_) ?_
            · try go_simp
              refine (meetS_any (cutK nmA p.key now a2 g2 0 c2) (cutK nmB x.key now a5 g5 0 c5) _ (Nat.le_trans (cutBx_len _ now) (Nat.le_trans (tubeL_len _ _ _ _ _) (by omega))) (Nat.le_trans (cutBx_len _ now) (Nat.le_trans (tubeL_len _ _ _ _ _) (by omega))) ⟨TA⟩ ⟨TB⟩).mono ?_
              rintro e w6 ⟨rfl, hb6⟩
              replace BC := BC.trans (hb6.mono BC.size)
              replace BC0 := BC0.trans (hb6.mono BC0.size)
              rw [meets_name nameA nameB_b]
              obtain ⟨s1, s2, i1, i2, i3, hcl⟩ := clashC_five (cutK nmA p.key now a2 g2 0 c2).nm (cutK nmB x.key now a5 g5 0 c5).nm (meetTB (cutK nmA p.key now a2 g2 0 c2) (cutK nmB x.key now a5 g5 0 c5))
              rw [hcl]
              clear hcl
              replace XA := (hb6.block _ (lt_of_block XA)).trans XA
              clear hb6
              refine hK _ _ ?_
              clear hK K
              refine wpAny_take (i := 7) (v := .tuple #[.agg #[.string s1, .string s2, .int .i64 i1, .int .i64 i2, .int .i64 i3], .bool (meetsK p.key x.key now)]) rfl (by kernel_rfl) (by kernel_rfl) (by kernel_rfl) (fun _ _ _ h => h) (Or.inl ⟨by rfl, fun W => by go_simp⟩) ?_
              refine wpAny_take (i := 8) (v := .agg #[.string s1, .string s2, .int .i64 i1, .int .i64 i2, .int .i64 i3]) rfl (by kernel_rfl) (by kernel_rfl) (by kernel_rfl) (fun _ _ _ h => h) (Or.inl ⟨by rfl, fun W => by go_simp⟩) ?_
              refine wpAny_take (i := 9) (v := .bool (meetsK p.key x.key now)) rfl (by kernel_rfl) (by kernel_rfl) (by kernel_rfl) (fun _ _ _ h => h) (Or.inl ⟨by rfl, fun W => by go_simp⟩) ?_
              refine wpAny_ready (rs := [11]) (by kernel_rfl) (by simp) ?_
              refine AllReady.cons rfl (fun K hK => ?_) ?_
              · have y0 : w6.cell? ⟨w5.heap.size, 0, none⟩ = some (.string ⟨#[]⟩) := by simp [World.cell?, XA]
                have y1 : w6.cell? ⟨w5.heap.size, 1, none⟩ = some (.string ⟨#[]⟩) := by simp [World.cell?, XA]
                have y2 : w6.cell? ⟨w5.heap.size, 2, none⟩ = some (.int .i64 0) := by simp [World.cell?, XA]
                have y3 : w6.cell? ⟨w5.heap.size, 3, none⟩ = some (.int .i64 0) := by simp [World.cell?, XA]
                have y4 : w6.cell? ⟨w5.heap.size, 4, none⟩ = some (.int .i64 0) := by simp [World.cell?, XA]
                have yf : ∀ j, w6.frozen? ⟨w5.heap.size, j, none⟩ = false := fun j => by simp [World.frozen?, XA]
                go_simp
                refine hK _ _ ?_
                clear hK K
                refine wpAny_take (i := 12) (v := .bool (meetsK p.key x.key now)) rfl (by kernel_rfl) (by kernel_rfl) (by kernel_rfl) (fun _ _ _ h => h) (Or.inl ⟨by rfl, fun W => by go_simp⟩) ?_
                refine wpAny_done (by kernel_rfl) ?_ _
                go_wp2
                go_ret
                exact ⟨rfl, by
                  iterate 5 (refine Below.setCell ?_ (by show _ ≤ w5.heap.size; exact zX) _)
                  exact BC⟩
              exact AllReady.nil
            exact AllReady.nil
          exact AllReady.nil
        refine AllReady.cons rfl (fun K hK => ?_) ?_
        · go_simp
          have XA : (w2.alloc (.cells #[.string ⟨#[]⟩, .string ⟨#[]⟩, .int .i64 0, .int .i64 0, .int .i64 0] 127)).heap[w2.heap.size]? = some (.cells #[.string ⟨#[]⟩, .string ⟨#[]⟩, .int .i64 0, .int .i64 0, .int .i64 0] 127 (0, 0)) := heap_alloc_new w2 (.cells #[.string ⟨#[]⟩, .string ⟨#[]⟩, .int .i64 0, .int .i64 0, .int .i64 0] 127)
          have zX : w.heap.size ≤ w2.heap.size := BC.size
          replace BC := BC.trans ((bel1 (w := w2) (.cells #[.string ⟨#[]⟩, .string ⟨#[]⟩, .int .i64 0, .int .i64 0, .int .i64 0] 127)).mono BC.size)
          replace BC0 := BC0.trans ((bel1 (w := w2) (.cells #[.string ⟨#[]⟩, .string ⟨#[]⟩, .int .i64 0, .int .i64 0, .int .i64 0] 127)).mono BC0.size)
          replace TA := TA.below (bel1 (w := w2) (.cells #[.string ⟨#[]⟩, .string ⟨#[]⟩, .int .i64 0, .int .i64 0, .int .i64 0] 127)) TA.lt
          refine hK _ _ ?_
          clear hK K
          refine wpAny_ready (rs := [5]) (by kernel_rfl) (by simp) ?_
          refine AllReady.cons rfl (fun K hK => ?_) ?_
          · try go_simp
            refine (linkTubeS_any nmB x.q x.s x.fr x.b x.a x.b0 x.o x.cap x.l now _ hxl (hx.below BC hx.lt)).mono ?_
            rintro e w5 ⟨v5, rfl, ho5, hb5⟩
            obtain ⟨a5, g5, c5, rfl, R5⟩ := owns_rowB ho5
            have TB := R5.at_
            replace BC := BC.trans (hb5.mono BC.size)
            replace BC0 := BC0.trans (hb5.mono BC0.size)
            replace TA := TA.below hb5 TA.lt
            replace XA := (hb5.block _ (lt_of_block XA)).trans XA
            clear hb5 ho5 R5
            refine hK _ _ ?_
            clear hK K
            refine wpAny_ready (rs := [6]) (by kernel_rfl) (by simp) ?_
            refine AllReady.cons rfl (fun K hK => ?_) ?_
            · try go_simp
              refine (meetS_any (cutK nmA p.key now a2 g2 0 c2) (cutK nmB x.key now a5 g5 0 c5) _ (Nat.le_trans (cutBx_len _ now) (Nat.le_trans (tubeL_len _ _ _ _ _) (by omega))) (Nat.le_trans (cutBx_len _ now) (Nat.le_trans (tubeL_len _ _ _ _ _) (by omega))) ⟨TA⟩ ⟨TB⟩).mono ?_
              rintro e w6 ⟨rfl, hb6⟩
              replace BC := BC.trans (hb6.mono BC.size)
              replace BC0 := BC0.trans (hb6.mono BC0.size)
              rw [meets_name nameA nameB_b]
              obtain ⟨s1, s2, i1, i2, i3, hcl⟩ := clashC_five (cutK nmA p.key now a2 g2 0 c2).nm (cutK nmB x.key now a5 g5 0 c5).nm (meetTB (cutK nmA p.key now a2 g2 0 c2) (cutK nmB x.key now a5 g5 0 c5))
              rw [hcl]
              clear hcl
              replace XA := (hb6.block _ (lt_of_block XA)).trans XA
              clear hb6
              refine hK _ _ ?_
              clear hK K
              refine wpAny_take (i := 7) (v := .tuple #[.agg #[.string s1, .string s2, .int .i64 i1, .int .i64 i2, .int .i64 i3], .bool (meetsK p.key x.key now)]) rfl (by kernel_rfl) (by kernel_rfl) (by kernel_rfl) (fun _ _ _ h => h) (Or.inl ⟨by rfl, fun W => by go_simp⟩) ?_
              refine wpAny_take (i := 8) (v := .agg #[.string s1, .string s2, .int .i64 i1, .int .i64 i2, .int .i64 i3]) rfl (by kernel_rfl) (by kernel_rfl) (by kernel_rfl) (fun _ _ _ h => h) (Or.inl ⟨by rfl, fun W => by go_simp⟩) ?_
              refine wpAny_take (i := 9) (v := .bool (meetsK p.key x.key now)) rfl (by kernel_rfl) (by kernel_rfl) (by kernel_rfl) (fun _ _ _ h => h) (Or.inl ⟨by rfl, fun W => by go_simp⟩) ?_
              refine wpAny_ready (rs := [11]) (by kernel_rfl) (by simp) ?_
              refine AllReady.cons rfl (fun K hK => ?_) ?_
              · have y0 : w6.cell? ⟨w2.heap.size, 0, none⟩ = some (.string ⟨#[]⟩) := by simp [World.cell?, XA]
                have y1 : w6.cell? ⟨w2.heap.size, 1, none⟩ = some (.string ⟨#[]⟩) := by simp [World.cell?, XA]
                have y2 : w6.cell? ⟨w2.heap.size, 2, none⟩ = some (.int .i64 0) := by simp [World.cell?, XA]
                have y3 : w6.cell? ⟨w2.heap.size, 3, none⟩ = some (.int .i64 0) := by simp [World.cell?, XA]
                have y4 : w6.cell? ⟨w2.heap.size, 4, none⟩ = some (.int .i64 0) := by simp [World.cell?, XA]
                have yf : ∀ j, w6.frozen? ⟨w2.heap.size, j, none⟩ = false := fun j => by simp [World.frozen?, XA]
                go_simp
                refine hK _ _ ?_
                clear hK K
                refine wpAny_take (i := 12) (v := .bool (meetsK p.key x.key now)) rfl (by kernel_rfl) (by kernel_rfl) (by kernel_rfl) (fun _ _ _ h => h) (Or.inl ⟨by rfl, fun W => by go_simp⟩) ?_
                refine wpAny_done (by kernel_rfl) ?_ _
                go_wp2
                go_ret
                exact ⟨rfl, by
                  iterate 5 (refine Below.setCell ?_ (by show _ ≤ w2.heap.size; exact zX) _)
                  exact BC⟩
              exact AllReady.nil
            exact AllReady.nil
          exact AllReady.nil
        exact AllReady.nil
      refine AllReady.cons rfl (fun K hK => ?_) ?_
      · go_simp
        have XA : (w2.alloc (.cells #[.string ⟨#[]⟩, .string ⟨#[]⟩, .int .i64 0, .int .i64 0, .int .i64 0] 127)).heap[w2.heap.size]? = some (.cells #[.string ⟨#[]⟩, .string ⟨#[]⟩, .int .i64 0, .int .i64 0, .int .i64 0] 127 (0, 0)) := heap_alloc_new w2 (.cells #[.string ⟨#[]⟩, .string ⟨#[]⟩, .int .i64 0, .int .i64 0, .int .i64 0] 127)
        have zX : w.heap.size ≤ w2.heap.size := BC.size
        replace BC := BC.trans ((bel1 (w := w2) (.cells #[.string ⟨#[]⟩, .string ⟨#[]⟩, .int .i64 0, .int .i64 0, .int .i64 0] 127)).mono BC.size)
        replace BC0 := BC0.trans ((bel1 (w := w2) (.cells #[.string ⟨#[]⟩, .string ⟨#[]⟩, .int .i64 0, .int .i64 0, .int .i64 0] 127)).mono BC0.size)
        replace TA := TA.below (bel1 (w := w2) (.cells #[.string ⟨#[]⟩, .string ⟨#[]⟩, .int .i64 0, .int .i64 0, .int .i64 0] 127)) TA.lt
        refine hK _ _ ?_
        clear hK K
        refine wpAny_ready (rs := [3]) (by kernel_rfl) (by simp) ?_
        refine AllReady.cons rfl (fun K hK => ?_) ?_
        · have l30 : (w2.alloc (.cells #[.string ⟨#[]⟩, .string ⟨#[]⟩, .int .i64 0, .int .i64 0, .int .i64 0] 127)).cell? ⟨w.heap.size + 1, 0, none⟩ = some (.int .i64 x.q) := by rw [BC0.cell (p := ⟨w.heap.size + 1, 0, none⟩) (lt_of_block Q0)]; simp [World.cell?, Q0]
          have l31 : (w2.alloc (.cells #[.string ⟨#[]⟩, .string ⟨#[]⟩, .int .i64 0, .int .i64 0, .int .i64 0] 127)).cell? ⟨w.heap.size + 1, 1, none⟩ = some (.int .i64 x.s) := by rw [BC0.cell (p := ⟨w.heap.size + 1, 1, none⟩) (lt_of_block Q0)]; simp [World.cell?, Q0]
          have l32 : (w2.alloc (.cells #[.string ⟨#[]⟩, .string ⟨#[]⟩, .int .i64 0, .int .i64 0, .int .i64 0] 127)).cell? ⟨w.heap.size + 1, 2, none⟩ = some (.slice x.a x.l.length x.cap) := by rw [BC0.cell (p := ⟨w.heap.size + 1, 2, none⟩) (lt_of_block Q0)]; simp [World.cell?, Q0]
          have l33 : (w2.alloc (.cells #[.string ⟨#[]⟩, .string ⟨#[]⟩, .int .i64 0, .int .i64 0, .int .i64 0] 127)).cell? ⟨w.heap.size + 1, 3, none⟩ = some (.int .i64 x.fr) := by rw [BC0.cell (p := ⟨w.heap.size + 1, 3, none⟩) (lt_of_block Q0)]; simp [World.cell?, Q0]
          have l34 : (w2.alloc (.cells #[.string ⟨#[]⟩, .string ⟨#[]⟩, .int .i64 0, .int .i64 0, .int .i64 0] 127)).cell? ⟨w.heap.size + 1, 4, none⟩ = some (.int .i64 x.b) := by rw [BC0.cell (p := ⟨w.heap.size + 1, 4, none⟩) (lt_of_block Q0)]; simp [World.cell?, Q0]
          go_simp
          clear l30 l31 l32 l33 l34
          refine hK _ _ ?_
          clear hK K
          refine wpAny_ready (rs := [5]) (by kernel_rfl) (by simp) ?_
          refine AllReady.cons rfl (fun K hK => ?_) ?_
          · try go_simp
            refine (linkTubeS_any nmB x.q x.s x.fr x.b x.a x.b0 x.o x.cap x.l now _ hxl (hx.below BC hx.lt)).mono ?_
            rintro e w5 ⟨v5, rfl, ho5, hb5⟩
            obtain ⟨a5, g5, c5, rfl, R5⟩ := owns_rowB ho5
            have TB := R5.at_
            replace BC := BC.trans (hb5.mono BC.size)
            replace BC0 := BC0.trans (hb5.mono BC0.size)
            replace TA := TA.below hb5 TA.lt
            replace XA := (hb5.block _ (lt_of_block XA)).trans XA
            clear hb5 ho5 R5
            refine hK _ _ ?_
            clear hK K
            refine wpAny_ready (rs := [6]) (by kernel_rfl) (by simp) ?_
            refine AllReady.cons rfl (fun K hK => ?_) ?_
            · try go_simp
              refine (meetS_any (cutK nmA p.key now a2 g2 0 c2) (cutK nmB x.key now a5 g5 0 c5) _ (Nat.le_trans (cutBx_len _ now) (Nat.le_trans (tubeL_len _ _ _ _ _) (by omega))) (Nat.le_trans (cutBx_len _ now) (Nat.le_trans (tubeL_len _ _ _ _ _) (by omega))) ⟨TA⟩ ⟨TB⟩).mono ?_
              rintro e w6 ⟨rfl, hb6⟩
              replace BC := BC.trans (hb6.mono BC.size)
              replace BC0 := BC0.trans (hb6.mono BC0.size)
              rw [meets_name nameA nameB_b]
              obtain ⟨s1, s2, i1, i2, i3, hcl⟩ := clashC_five (cutK nmA p.key now a2 g2 0 c2).nm (cutK nmB x.key now a5 g5 0 c5).nm (meetTB (cutK nmA p.key now a2 g2 0 c2) (cutK nmB x.key now a5 g5 0 c5))
              rw [hcl]
              clear hcl
              replace XA := (hb6.block _ (lt_of_block XA)).trans XA
              clear hb6
              refine hK _ _ ?_
              clear hK K
              refine wpAny_take (i := 7) (v := .tuple #[.agg #[.string s1, .string s2, .int .i64 i1, .int .i64 i2, .int .i64 i3], .bool (meetsK p.key x.key now)]) rfl (by kernel_rfl) (by kernel_rfl) (by kernel_rfl) (fun _ _ _ h => h) (Or.inl ⟨by rfl, fun W => by go_simp⟩) ?_
              refine wpAny_take (i := 8) (v := .agg #[.string s1, .string s2, .int .i64 i1, .int .i64 i2, .int .i64 i3]) rfl (by kernel_rfl) (by kernel_rfl) (by kernel_rfl) (fun _ _ _ h => h) (Or.inl ⟨by rfl, fun W => by go_simp⟩) ?_
              refine wpAny_take (i := 9) (v := .bool (meetsK p.key x.key now)) rfl (by kernel_rfl) (by kernel_rfl) (by kernel_rfl) (fun _ _ _ h => h) (Or.inl ⟨by rfl, fun W => by go_simp⟩) ?_
              refine wpAny_ready (rs := [11]) (by kernel_rfl) (by simp) ?_
              refine AllReady.cons rfl (fun K hK => ?_) ?_
              · have y0 : w6.cell? ⟨w2.heap.size, 0, none⟩ = some (.string ⟨#[]⟩) := by simp [World.cell?, XA]
                have y1 : w6.cell? ⟨w2.heap.size, 1, none⟩ = some (.string ⟨#[]⟩) := by simp [World.cell?, XA]
                have y2 : w6.cell? ⟨w2.heap.size, 2, none⟩ = some (.int .i64 0) := by simp [World.cell?, XA]
                have y3 : w6.cell? ⟨w2.heap.size, 3, none⟩ = some (.int .i64 0) := by simp [World.cell?, XA]
                have y4 : w6.cell? ⟨w2.heap.size, 4, none⟩ = some (.int .i64 0) := by simp [World.cell?, XA]
                have yf : ∀ j, w6.frozen? ⟨w2.heap.size, j, none⟩ = false := fun j => by simp [World.frozen?, XA]
                go_simp
                refine hK _ _ ?_
                clear hK K
                refine wpAny_take (i := 12) (v := .bool (meetsK p.key x.key now)) rfl (by kernel_rfl) (by kernel_rfl) (by kernel_rfl) (fun _ _ _ h => h) (Or.inl ⟨by rfl, fun W => by go_simp⟩) ?_
                refine wpAny_done (by kernel_rfl) ?_ _
                go_wp2
                go_ret
                exact ⟨rfl, by
                  iterate 5 (refine Below.setCell ?_ (by show _ ≤ w2.heap.size; exact zX) _)
                  exact BC⟩
              exact AllReady.nil
            exact AllReady.nil
          exact AllReady.nil
        exact AllReady.nil
      exact AllReady.nil
    refine AllReady.cons rfl (fun K hK => ?_) ?_
    · have l30 : W0.drew.cell? ⟨w.heap.size + 1, 0, none⟩ = some (.int .i64 x.q) := by rw [BC0.cell (p := ⟨w.heap.size + 1, 0, none⟩) (lt_of_block Q0)]; simp [World.cell?, Q0]
      have l31 : W0.drew.cell? ⟨w.heap.size + 1, 1, none⟩ = some (.int .i64 x.s) := by rw [BC0.cell (p := ⟨w.heap.size + 1, 1, none⟩) (lt_of_block Q0)]; simp [World.cell?, Q0]
      have l32 : W0.drew.cell? ⟨w.heap.size + 1, 2, none⟩ = some (.slice x.a x.l.length x.cap) := by rw [BC0.cell (p := ⟨w.heap.size + 1, 2, none⟩) (lt_of_block Q0)]; simp [World.cell?, Q0]
      have l33 : W0.drew.cell? ⟨w.heap.size + 1, 3, none⟩ = some (.int .i64 x.fr) := by rw [BC0.cell (p := ⟨w.heap.size + 1, 3, none⟩) (lt_of_block Q0)]; simp [World.cell?, Q0]
      have l34 : W0.drew.cell? ⟨w.heap.size + 1, 4, none⟩ = some (.int .i64 x.b) := by rw [BC0.cell (p := ⟨w.heap.size + 1, 4, none⟩) (lt_of_block Q0)]; simp [World.cell?, Q0]
      go_simp
      clear l30 l31 l32 l33 l34
      refine hK _ _ ?_
      clear hK K
      refine wpAny_ready (rs := [2, 10]) (by kernel_rfl) (by simp) ?_
      refine AllReady.cons rfl (fun K hK => ?_) ?_
      · try go_simp
        refine (linkTubeS_any nmA p.q p.s p.fr p.b p.a p.b0 p.o p.cap p.l now _ hpl (hp.below BC hp.lt)).mono ?_
        rintro e w2 ⟨v2, rfl, ho2, hb2⟩
        obtain ⟨a2, g2, c2, rfl, R2⟩ := owns_rowB ho2
        have TA := R2.at_
        replace BC := BC.trans (hb2.mono BC.size)
        replace BC0 := BC0.trans (hb2.mono BC0.size)
        clear hb2 ho2 R2
        refine hK _ _ ?_
        clear hK K
        refine wpAny_ready (rs := [5, 10]) (by kernel_rfl) (by simp) ?_
        refine AllReady.cons rfl (fun K hK => ?_) ?_
        · try go_simp
          refine (linkTubeS_any nmB x.q x.s x.fr x.b x.a x.b0 x.o x.cap x.l now _ hxl (hx.below BC hx.lt)).mono ?_
          rintro e w5 ⟨v5, rfl, ho5, hb5⟩
          obtain ⟨a5, g5, c5, rfl, R5⟩ := owns_rowB ho5
          have TB := R5.at_
          replace BC := BC.trans (hb5.mono BC.size)
          replace BC0 := BC0.trans (hb5.mono BC0.size)
          replace TA := TA.below hb5 TA.lt
          clear hb5 ho5 R5
          refine hK _ _ ?_
          clear hK K
          refine wpAny_ready (rs := [6, 10]) (by kernel_rfl) (by simp) ?_
          refine AllReady.cons rfl (fun K hK => ?_) ?_
          · try go_simp
            refine (meetS_any (cutK nmA p.key now a2 g2 0 c2) (cutK nmB x.key now a5 g5 0 c5) _ (Nat.le_trans (cutBx_len _ now) (Nat.le_trans (tubeL_len _ _ _ _ _) (by omega))) (Nat.le_trans (cutBx_len _ now) (Nat.le_trans (tubeL_len _ _ _ _ _) (by omega))) ⟨TA⟩ ⟨TB⟩).mono ?_
            rintro e w6 ⟨rfl, hb6⟩
            replace BC := BC.trans (hb6.mono BC.size)
            replace BC0 := BC0.trans (hb6.mono BC0.size)
            rw [meets_name nameA nameB_b]
            obtain ⟨s1, s2, i1, i2, i3, hcl⟩ := clashC_five (cutK nmA p.key now a2 g2 0 c2).nm (cutK nmB x.key now a5 g5 0 c5).nm (meetTB (cutK nmA p.key now a2 g2 0 c2) (cutK nmB x.key now a5 g5 0 c5))
            rw [hcl]
            clear hcl
            clear hb6
            refine hK _ _ ?_
            clear hK K
            refine wpAny_take (i := 7) (v := .tuple #[.agg #[.string s1, .string s2, .int .i64 i1, .int .i64 i2, .int .i64 i3], .bool (meetsK p.key x.key now)]) rfl (by kernel_rfl) (by kernel_rfl) (by kernel_rfl) (fun _ _ _ h => h) (Or.inl ⟨by rfl, fun W => by go_simp⟩) ?_
            refine wpAny_take (i := 8) (v := .agg #[.string s1, .string s2, .int .i64 i1, .int .i64 i2, .int .i64 i3]) rfl (by kernel_rfl) (by kernel_rfl) (by kernel_rfl) (fun _ _ _ h => h) (Or.inl ⟨by rfl, fun W => by go_simp⟩) ?_
            refine wpAny_take (i := 9) (v := .bool (meetsK p.key x.key now)) rfl (by kernel_rfl) (by kernel_rfl) (by kernel_rfl) (fun _ _ _ h => h) (Or.inl ⟨by rfl, fun W => by go_simp⟩) ?_
            refine wpAny_ready (rs := [10]) (by kernel_rfl) (by simp) ?_
            refine AllReady.cons rfl (fun K hK => ?_) ?_
            · go_simp
              have XA : (w6.alloc (.cells #[.string ⟨#[]⟩, .string ⟨#[]⟩, .int .i64 0, .int .i64 0, .int .i64 0] 127)).heap[w6.heap.size]? = some (.cells #[.string ⟨#[]⟩, .string ⟨#[]⟩, .int .i64 0, .int .i64 0, .int .i64 0] 127 (0, 0)) := heap_alloc_new w6 (.cells #[.string ⟨#[]⟩, .string ⟨#[]⟩, .int .i64 0, .int .i64 0, .int .i64 0] 127)
              have zX : w.heap.size ≤ w6.heap.size := BC.size
              have BC6 := BC
              replace BC := BC.trans ((bel1 (w := w6) (.cells #[.string ⟨#[]⟩, .string ⟨#[]⟩, .int .i64 0, .int .i64 0, .int .i64 0] 127)).mono BC.size)
              replace BC0 := BC0.trans ((bel1 (w := w6) (.cells #[.string ⟨#[]⟩, .string ⟨#[]⟩, .int .i64 0, .int .i64 0, .int .i64 0] 127)).mono BC0.size)
              refine hK _ _ ?_
              clear hK K
              refine wpAny_ready (rs := [11]) (by kernel_rfl) (by simp) ?_
              refine AllReady.cons rfl (fun K hK => ?_) ?_
              · go_simp
                refine hK _ _ ?_
                clear hK K
                refine wpAny_take (i := 12) (v := .bool (meetsK p.key x.key now)) rfl (by kernel_rfl) (by kernel_rfl) (by kernel_rfl) (fun _ _ _ h => h) (Or.inl ⟨by rfl, fun W => by go_simp⟩) ?_
                refine wpAny_done (by kernel_rfl) ?_ _
                go_wp2
                go_ret
                exact ⟨rfl, BC6.trans ((bel1 _).mono BC6.size)⟩
              exact AllReady.nil
            exact AllReady.nil
          refine AllReady.cons rfl (fun K hK => ?_) ?_
          · go_simp
            have XA : (w5.alloc (.cells #[.string ⟨#[]⟩, .string ⟨#[]⟩, .int .i64 0, .int .i64 0, .int .i64 0] 127)).heap[w5.heap.size]? = some (.cells #[.string ⟨#[]⟩, .string ⟨#[]⟩, .int .i64 0, .int .i64 0, .int .i64 0] 127 (0, 0)) := heap_alloc_new w5 (.cells #[.string ⟨#[]⟩, .string ⟨#[]⟩, .int .i64 0, .int .i64 0, .int .i64 0] 127)
            have zX : w.heap.size ≤ w5.heap.size := BC.size
            replace BC := BC.trans ((bel1 (w := w5) (.cells #[.string ⟨#[]⟩, .string ⟨#[]⟩, .int .i64 0, .int .i64 0, .int .i64 0] 127)).mono BC.size)
            replace BC0 := BC0.trans ((bel1 (w := w5) (.cells #[.string ⟨#[]⟩, .string ⟨#[]⟩, .int .i64 0, .int .i64 0, .int .i64 0] 127)).mono BC0.size)
            replace TA := TA.below (bel1 (w := w5) (.cells #[.string ⟨#[]⟩, .string ⟨#[]⟩, .int .i64 0, .int .i64 0, .int .i64 0] 127)) TA.lt
            replace TB := TB.below (bel1 (w := w5) (.cells #[.string ⟨#[]⟩, .string ⟨#[]⟩, .int .i64 0, .int .i64 0, .int .i64 0] 127)) TB.lt
            refine hK _ _ ?_
            clear hK K
            refine wpAny_ready (rs := [6]) (by kernel_rfl) (by simp) ?_
            refine AllReady.cons rfl (fun K hK => ?_) ?_
            · try go_simp
              refine (meetS_any (cutK nmA p.key now a2 g2 0 c2) (cutK nmB x.key now a5 g5 0 c5) _ (Nat.le_trans (cutBx_len _ now) (Nat.le_trans (tubeL_len _ _ _ _ _) (by omega))) (Nat.le_trans (cutBx_len _ now) (Nat.le_trans (tubeL_len _ _ _ _ _) (by omega))) ⟨TA⟩ ⟨TB⟩).mono ?_
              rintro e w6 ⟨rfl, hb6⟩
              replace BC := BC.trans (hb6.mono BC.size)
              replace BC0 := BC0.trans (hb6.mono BC0.size)
              rw [meets_name nameA nameB_b]
              obtain ⟨s1, s2, i1, i2, i3, hcl⟩ := clashC_five (cutK nmA p.key now a2 g2 0 c2).nm (cutK nmB x.key now a5 g5 0 c5).nm (meetTB (cutK nmA p.key now a2 g2 0 c2) (cutK nmB x.key now a5 g5 0 c5))
              rw [hcl]
              clear hcl
              replace XA := (hb6.block _ (lt_of_block XA)).trans XA
              clear hb6
              refine hK _ _ ?_
              clear hK K
              refine wpAny_take (i := 7) (v := .tuple #[.agg #[.string s1, .string s2, .int .i64 i1, .int .i64 i2, .int .i64 i3], .bool (meetsK p.key x.key now)]) rfl (by kernel_rfl) (by kernel_rfl) (by kernel_rfl) (fun _ _ _ h => h) (Or.inl ⟨by rfl, fun W => by go_simp⟩) ?_
              refine wpAny_take (i := 8) (v := .agg #[.string s1, .string s2, .int .i64 i1, .int .i64 i2, .int .i64 i3]) rfl (by kernel_rfl) (by kernel_rfl) (by kernel_rfl) (fun _ _ _ h => h) (Or.inl ⟨by rfl, fun W => by go_simp⟩) ?_
              refine wpAny_take (i := 9) (v := .bool (meetsK p.key x.key now)) rfl (by kernel_rfl) (by kernel_rfl) (by kernel_rfl) (fun _ _ _ h => h) (Or.inl ⟨by rfl, fun W => by go_simp⟩) ?_
              refine wpAny_ready (rs := [11]) (by kernel_rfl) (by simp) ?_
              refine AllReady.cons rfl (fun K hK => ?_) ?_
              · have y0 : w6.cell? ⟨w5.heap.size, 0, none⟩ = some (.string ⟨#[]⟩) := by simp [World.cell?, XA]
                have y1 : w6.cell? ⟨w5.heap.size, 1, none⟩ = some (.string ⟨#[]⟩) := by simp [World.cell?, XA]
                have y2 : w6.cell? ⟨w5.heap.size, 2, none⟩ = some (.int .i64 0) := by simp [World.cell?, XA]
                have y3 : w6.cell? ⟨w5.heap.size, 3, none⟩ = some (.int .i64 0) := by simp [World.cell?, XA]
                have y4 : w6.cell? ⟨w5.heap.size, 4, none⟩ = some (.int .i64 0) := by simp [World.cell?, XA]
                have yf : ∀ j, w6.frozen? ⟨w5.heap.size, j, none⟩ = false := fun j => by simp [World.frozen?, XA]
                go_simp
                refine hK _ _ ?_
                clear hK K
                refine wpAny_take (i := 12) (v := .bool (meetsK p.key x.key now)) rfl (by kernel_rfl) (by kernel_rfl) (by kernel_rfl) (fun _ _ _ h => h) (Or.inl ⟨by rfl, fun W => by go_simp⟩) ?_
                refine wpAny_done (by kernel_rfl) ?_ _
                go_wp2
                go_ret
                exact ⟨rfl, by
                  iterate 5 (refine Below.setCell ?_ (by show _ ≤ w5.heap.size; exact zX) _)
                  exact BC⟩
              exact AllReady.nil
            exact AllReady.nil
          exact AllReady.nil
        refine AllReady.cons rfl (fun K hK => ?_) ?_
        · go_simp
          have XA : (w2.alloc (.cells #[.string ⟨#[]⟩, .string ⟨#[]⟩, .int .i64 0, .int .i64 0, .int .i64 0] 127)).heap[w2.heap.size]? = some (.cells #[.string ⟨#[]⟩, .string ⟨#[]⟩, .int .i64 0, .int .i64 0, .int .i64 0] 127 (0, 0)) := heap_alloc_new w2 (.cells #[.string ⟨#[]⟩, .string ⟨#[]⟩, .int .i64 0, .int .i64 0, .int .i64 0] 127)
          have zX : w.heap.size ≤ w2.heap.size := BC.size
          replace BC := BC.trans ((bel1 (w := w2) (.cells #[.string ⟨#[]⟩, .string ⟨#[]⟩, .int .i64 0, .int .i64 0, .int .i64 0] 127)).mono BC.size)
          replace BC0 := BC0.trans ((bel1 (w := w2) (.cells #[.string ⟨#[]⟩, .string ⟨#[]⟩, .int .i64 0, .int .i64 0, .int .i64 0] 127)).mono BC0.size)
          replace TA := TA.below (bel1 (w := w2) (.cells #[.string ⟨#[]⟩, .string ⟨#[]⟩, .int .i64 0, .int .i64 0, .int .i64 0] 127)) TA.lt
          refine hK _ _ ?_
          clear hK K
          refine wpAny_ready (rs := [5]) (by kernel_rfl) (by simp) ?_
          refine AllReady.cons rfl (fun K hK => ?_) ?_
          · try go_simp
            refine (linkTubeS_any nmB x.q x.s x.fr x.b x.a x.b0 x.o x.cap x.l now _ hxl (hx.below BC hx.lt)).mono ?_
            rintro e w5 ⟨v5, rfl, ho5, hb5⟩
            obtain ⟨a5, g5, c5, rfl, R5⟩ := owns_rowB ho5
            have TB := R5.at_
            replace BC := BC.trans (hb5.mono BC.size)
            replace BC0 := BC0.trans (hb5.mono BC0.size)
            replace TA := TA.below hb5 TA.lt
            replace XA := (hb5.block _ (lt_of_block XA)).trans XA
            clear hb5 ho5 R5
            refine hK _ _ ?_
            clear hK K
            refine wpAny_ready (rs := [6]) (by kernel_rfl) (by simp) ?_
            refine AllReady.cons rfl (fun K hK => ?_) ?_
            · try go_simp
              refine (meetS_any (cutK nmA p.key now a2 g2 0 c2) (cutK nmB x.key now a5 g5 0 c5) _ (Nat.le_trans (cutBx_len _ now) (Nat.le_trans (tubeL_len _ _ _ _ _) (by omega))) (Nat.le_trans (cutBx_len _ now) (Nat.le_trans (tubeL_len _ _ _ _ _) (by omega))) ⟨TA⟩ ⟨TB⟩).mono ?_
              rintro e w6 ⟨rfl, hb6⟩
              replace BC := BC.trans (hb6.mono BC.size)
              replace BC0 := BC0.trans (hb6.mono BC0.size)
              rw [meets_name nameA nameB_b]
              obtain ⟨s1, s2, i1, i2, i3, hcl⟩ := clashC_five (cutK nmA p.key now a2 g2 0 c2).nm (cutK nmB x.key now a5 g5 0 c5).nm (meetTB (cutK nmA p.key now a2 g2 0 c2) (cutK nmB x.key now a5 g5 0 c5))
              rw [hcl]
              clear hcl
              replace XA := (hb6.block _ (lt_of_block XA)).trans XA
              clear hb6
              refine hK _ _ ?_
              clear hK K
              refine wpAny_take (i := 7) (v := .tuple #[.agg #[.string s1, .string s2, .int .i64 i1, .int .i64 i2, .int .i64 i3], .bool (meetsK p.key x.key now)]) rfl (by kernel_rfl) (by kernel_rfl) (by kernel_rfl) (fun _ _ _ h => h) (Or.inl ⟨by rfl, fun W => by go_simp⟩) ?_
              refine wpAny_take (i := 8) (v := .agg #[.string s1, .string s2, .int .i64 i1, .int .i64 i2, .int .i64 i3]) rfl (by kernel_rfl) (by kernel_rfl) (by kernel_rfl) (fun _ _ _ h => h) (Or.inl ⟨by rfl, fun W => by go_simp⟩) ?_
              refine wpAny_take (i := 9) (v := .bool (meetsK p.key x.key now)) rfl (by kernel_rfl) (by kernel_rfl) (by kernel_rfl) (fun _ _ _ h => h) (Or.inl ⟨by rfl, fun W => by go_simp⟩) ?_
              refine wpAny_ready (rs := [11]) (by kernel_rfl) (by simp) ?_
              refine AllReady.cons rfl (fun K hK => ?_) ?_
              · have y0 : w6.cell? ⟨w2.heap.size, 0, none⟩ = some (.string ⟨#[]⟩) := by simp [World.cell?, XA]
                have y1 : w6.cell? ⟨w2.heap.size, 1, none⟩ = some (.string ⟨#[]⟩) := by simp [World.cell?, XA]
                have y2 : w6.cell? ⟨w2.heap.size, 2, none⟩ = some (.int .i64 0) := by simp [World.cell?, XA]
                have y3 : w6.cell? ⟨w2.heap.size, 3, none⟩ = some (.int .i64 0) := by simp [World.cell?, XA]
                have y4 : w6.cell? ⟨w2.heap.size, 4, none⟩ = some (.int .i64 0) := by simp [World.cell?, XA]
                have yf : ∀ j, w6.frozen? ⟨w2.heap.size, j, none⟩ = false := fun j => by simp [World.frozen?, XA]
                go_simp
                refine hK _ _ ?_
                clear hK K
                refine wpAny_take (i := 12) (v := .bool (meetsK p.key x.key now)) rfl (by kernel_rfl) (by kernel_rfl) (by kernel_rfl) (fun _ _ _ h => h) (Or.inl ⟨by rfl, fun W => by go_simp⟩) ?_
                refine wpAny_done (by kernel_rfl) ?_ _
                go_wp2
                go_ret
                exact ⟨rfl, by
                  iterate 5 (refine Below.setCell ?_ (by show _ ≤ w2.heap.size; exact zX) _)
                  exact BC⟩
              exact AllReady.nil
            exact AllReady.nil
          exact AllReady.nil
        exact AllReady.nil
      refine AllReady.cons rfl (fun K hK => ?_) ?_
      · go_simp
        have XA : (W0.drew.alloc (.cells #[.string ⟨#[]⟩, .string ⟨#[]⟩, .int .i64 0, .int .i64 0, .int .i64 0] 127)).heap[W0.heap.size]? = some (.cells #[.string ⟨#[]⟩, .string ⟨#[]⟩, .int .i64 0, .int .i64 0, .int .i64 0] 127 (0, 0)) := heap_alloc_new W0.drew (.cells #[.string ⟨#[]⟩, .string ⟨#[]⟩, .int .i64 0, .int .i64 0, .int .i64 0] 127)
        have zX : w.heap.size ≤ W0.heap.size := BC.size
        replace BC := BC.trans ((bel1 (w := W0.drew) (.cells #[.string ⟨#[]⟩, .string ⟨#[]⟩, .int .i64 0, .int .i64 0, .int .i64 0] 127)).mono BC.size)
        replace BC0 := BC0.trans ((bel1 (w := W0.drew) (.cells #[.string ⟨#[]⟩, .string ⟨#[]⟩, .int .i64 0, .int .i64 0, .int .i64 0] 127)).mono BC0.size)
        refine hK _ _ ?_
        clear hK K
        refine wpAny_ready (rs := [2]) (by kernel_rfl) (by simp) ?_
        refine AllReady.cons rfl (fun K hK => ?_) ?_
        · try go_simp
          refine (linkTubeS_any nmA p.q p.s p.fr p.b p.a p.b0 p.o p.cap p.l now _ hpl (hp.below BC hp.lt)).mono ?_
          rintro e w2 ⟨v2, rfl, ho2, hb2⟩
          obtain ⟨a2, g2, c2, rfl, R2⟩ := owns_rowB ho2
          have TA := R2.at_
          replace BC := BC.trans (hb2.mono BC.size)
          replace BC0 := BC0.trans (hb2.mono BC0.size)
          replace XA := (hb2.block _ (lt_of_block XA)).trans XA
          clear hb2 ho2 R2
          refine hK _ _ ?_
          clear hK K
          refine wpAny_ready (rs := [5]) (by kernel_rfl) (by simp) ?_
          refine AllReady.cons rfl (fun K hK => ?_) ?_
          · try go_simp
            refine (linkTubeS_any nmB x.q x.s x.fr x.b x.a x.b0 x.o x.cap x.l now _ hxl (hx.below BC hx.lt)).mono ?_
            rintro e w5 ⟨v5, rfl, ho5, hb5⟩
            obtain ⟨a5, g5, c5, rfl, R5⟩ := owns_rowB ho5
            have TB := R5.at_
            replace BC := BC.trans (hb5.mono BC.size)
            replace BC0 := BC0.trans (hb5.mono BC0.size)
            replace TA := TA.below hb5 TA.lt
            replace XA := (hb5.block _ (lt_of_block XA)).trans XA
            clear hb5 ho5 R5
            refine hK _ _ ?_
            clear hK K
            refine wpAny_ready (rs := [6]) (by kernel_rfl) (by simp) ?_
            refine AllReady.cons rfl (fun K hK => ?_) ?_
            · try go_simp
              refine (meetS_any (cutK nmA p.key now a2 g2 0 c2) (cutK nmB x.key now a5 g5 0 c5) _ (Nat.le_trans (cutBx_len _ now) (Nat.le_trans (tubeL_len _ _ _ _ _) (by omega))) (Nat.le_trans (cutBx_len _ now) (Nat.le_trans (tubeL_len _ _ _ _ _) (by omega))) ⟨TA⟩ ⟨TB⟩).mono ?_
              rintro e w6 ⟨rfl, hb6⟩
              replace BC := BC.trans (hb6.mono BC.size)
              replace BC0 := BC0.trans (hb6.mono BC0.size)
              rw [meets_name nameA nameB_b]
              obtain ⟨s1, s2, i1, i2, i3, hcl⟩ := clashC_five (cutK nmA p.key now a2 g2 0 c2).nm (cutK nmB x.key now a5 g5 0 c5).nm (meetTB (cutK nmA p.key now a2 g2 0 c2) (cutK nmB x.key now a5 g5 0 c5))
              rw [hcl]
              clear hcl
              replace XA := (hb6.block _ (lt_of_block XA)).trans XA
              clear hb6
              refine hK _ _ ?_
              clear hK K
              refine wpAny_take (i := 7) (v := .tuple #[.agg #[.string s1, .string s2, .int .i64 i1, .int .i64 i2, .int .i64 i3], .bool (meetsK p.key x.key now)]) rfl (by kernel_rfl) (by kernel_rfl) (by kernel_rfl) (fun _ _ _ h => h) (Or.inl ⟨by rfl, fun W => by go_simp⟩) ?_
              refine wpAny_take (i := 8) (v := .agg #[.string s1, .string s2, .int .i64 i1, .int .i64 i2, .int .i64 i3]) rfl (by kernel_rfl) (by kernel_rfl) (by kernel_rfl) (fun _ _ _ h => h) (Or.inl ⟨by rfl, fun W => by go_simp⟩) ?_
              refine wpAny_take (i := 9) (v := .bool (meetsK p.key x.key now)) rfl (by kernel_rfl) (by kernel_rfl) (by kernel_rfl) (fun _ _ _ h => h) (Or.inl ⟨by rfl, fun W => by go_simp⟩) ?_
              refine wpAny_ready (rs := [11]) (by kernel_rfl) (by simp) ?_
              refine AllReady.cons rfl (fun K hK => ?_) ?_
              · have y0 : w6.cell? ⟨W0.heap.size, 0, none⟩ = some (.string ⟨#[]⟩) := by simp [World.cell?, XA]
                have y1 : w6.cell? ⟨W0.heap.size, 1, none⟩ = some (.string ⟨#[]⟩) := by simp [World.cell?, XA]
                have y2 : w6.cell? ⟨W0.heap.size, 2, none⟩ = some (.int .i64 0) := by simp [World.cell?, XA]
                have y3 : w6.cell? ⟨W0.heap.size, 3, none⟩ = some (.int .i64 0) := by simp [World.cell?, XA]
                have y4 : w6.cell? ⟨W0.heap.size, 4, none⟩ = some (.int .i64 0) := by simp [World.cell?, XA]
                have yf : ∀ j, w6.frozen? ⟨W0.heap.size, j, none⟩ = false := fun j => by simp [World.frozen?, XA]
                go_simp
                refine hK _ _ ?_
                clear hK K
                refine wpAny_take (i := 12) (v := .bool (meetsK p.key x.key now)) rfl (by kernel_rfl) (by kernel_rfl) (by kernel_rfl) (fun _ _ _ h => h) (Or.inl ⟨by rfl, fun W => by go_simp⟩) ?_
                refine wpAny_done (by kernel_rfl) ?_ _
                go_wp2
                go_ret
                exact ⟨rfl, by
                  iterate 5 (refine Below.setCell ?_ (by show _ ≤ W0.heap.size; exact zX) _)
                  exact BC⟩
              exact AllReady.nil
            exact AllReady.nil
          exact AllReady.nil
        exact AllReady.nil
      exact AllReady.nil
    refine AllReady.cons rfl (fun K hK => ?_) ?_
    · go_simp
      have XA : (W0.drew.alloc (.cells #[.string ⟨#[]⟩, .string ⟨#[]⟩, .int .i64 0, .int .i64 0, .int .i64 0] 127)).heap[W0.heap.size]? = some (.cells #[.string ⟨#[]⟩, .string ⟨#[]⟩, .int .i64 0, .int .i64 0, .int .i64 0] 127 (0, 0)) := heap_alloc_new W0.drew (.cells #[.string ⟨#[]⟩, .string ⟨#[]⟩, .int .i64 0, .int .i64 0, .int .i64 0] 127)
      have zX : w.heap.size ≤ W0.heap.size := BC.size
      replace BC := BC.trans ((bel1 (w := W0.drew) (.cells #[.string ⟨#[]⟩, .string ⟨#[]⟩, .int .i64 0, .int .i64 0, .int .i64 0] 127)).mono BC.size)
      replace BC0 := BC0.trans ((bel1 (w := W0.drew) (.cells #[.string ⟨#[]⟩, .string ⟨#[]⟩, .int .i64 0, .int .i64 0, .int .i64 0] 127)).mono BC0.size)
      refine hK _ _ ?_
      clear hK K
      refine wpAny_ready (rs := [2, 3]) (by kernel_rfl) (by simp) ?_
      refine AllReady.cons rfl (fun K hK => ?_) ?_
      · try go_simp
        refine (linkTubeS_any nmA p.q p.s p.fr p.b p.a p.b0 p.o p.cap p.l now _ hpl (hp.below BC hp.lt)).mono ?_
        rintro e w2 ⟨v2, rfl, ho2, hb2⟩
        obtain ⟨a2, g2, c2, rfl, R2⟩ := owns_rowB ho2
        have TA := R2.at_
        replace BC := BC.trans (hb2.mono BC.size)
        replace BC0 := BC0.trans (hb2.mono BC0.size)
        replace XA := (hb2.block _ (lt_of_block XA)).trans XA
        clear hb2 ho2 R2
        refine hK _ _ ?_
        clear hK K
        refine wpAny_ready (rs := [3]) (by kernel_rfl) (by simp) ?_
        refine AllReady.cons rfl (fun K hK => ?_) ?_
        · have l30 : w2.cell? ⟨w.heap.size + 1, 0, none⟩ = some (.int .i64 x.q) := by rw [BC0.cell (p := ⟨w.heap.size + 1, 0, none⟩) (lt_of_block Q0)]; simp [World.cell?, Q0]
          have l31 : w2.cell? ⟨w.heap.size + 1, 1, none⟩ = some (.int .i64 x.s) := by rw [BC0.cell (p := ⟨w.heap.size + 1, 1, none⟩) (lt_of_block Q0)]; simp [World.cell?, Q0]
          have l32 : w2.cell? ⟨w.heap.size + 1, 2, none⟩ = some (.slice x.a x.l.length x.cap) := by rw [BC0.cell (p := ⟨w.heap.size + 1, 2, none⟩) (lt_of_block Q0)]; simp [World.cell?, Q0]
          have l33 : w2.cell? ⟨w.heap.size + 1, 3, none⟩ = some (.int .i64 x.fr) := by rw [BC0.cell (p := ⟨w.heap.size + 1, 3, none⟩) (lt_of_block Q0)]; simp [World.cell?, Q0]
          have l34 : w2.cell? ⟨w.heap.size + 1, 4, none⟩ = some (.int .i64 x.b) := by rw [BC0.cell (p := ⟨w.heap.size + 1, 4, none⟩) (lt_of_block Q0)]; simp [World.cell?, Q0]
          go_simp
          clear l30 l31 l32 l33 l34
          refine hK _ _ ?_
          clear hK K
          refine wpAny_ready (rs := [5]) (by kernel_rfl) (by simp) ?_
          refine AllReady.cons rfl (fun K hK => ?_) ?_
          · try go_simp
            refine (linkTubeS_any nmB x.q x.s x.fr x.b x.a x.b0 x.o x.cap x.l now _ hxl (hx.below BC hx.lt)).mono ?_
            rintro e w5 ⟨v5, rfl, ho5, hb5⟩
            obtain ⟨a5, g5, c5, rfl, R5⟩ := owns_rowB ho5
            have TB := R5.at_
            replace BC := BC.trans (hb5.mono BC.size)
            replace BC0 := BC0.trans (hb5.mono BC0.size)
            replace TA := TA.below hb5 TA.lt
            replace XA := (hb5.block _ (lt_of_block XA)).trans XA
            clear hb5 ho5 R5
            refine hK _ _ ?_
            clear hK K
            refine wpAny_ready (rs := [6]) (by kernel_rfl) (by simp) ?_
            refine AllReady.cons rfl (fun K hK => ?_) ?_
            · try go_simp
              refine (meetS_any (cutK nmA p.key now a2 g2 0 c2) (cutK nmB x.key now a5 g5 0 c5) _ (Nat.le_trans (cutBx_len _ now) (Nat.le_trans (tubeL_len _ _ _ _ _) (by omega))) (Nat.le_trans (cutBx_len _ now) (Nat.le_trans (tubeL_len _ _ _ _ _) (by omega))) ⟨TA⟩ ⟨TB⟩).mono ?_
              rintro e w6 ⟨rfl, hb6⟩
              replace BC := BC.trans (hb6.mono BC.size)
              replace BC0 := BC0.trans (hb6.mono BC0.size)
              rw [meets_name nameA nameB_b]
              obtain ⟨s1, s2, i1, i2, i3, hcl⟩ := clashC_five (cutK nmA p.key now a2 g2 0 c2).nm (cutK nmB x.key now a5 g5 0 c5).nm (meetTB (cutK nmA p.key now a2 g2 0 c2) (cutK nmB x.key now a5 g5 0 c5))
              rw [hcl]
              clear hcl
              replace XA := (hb6.block _ (lt_of_block XA)).trans XA
              clear hb6
              refine hK _ _ ?_
              clear hK K
              refine wpAny_take (i := 7) (v := .tuple #[.agg #[.string s1, .string s2, .int .i64 i1, .int .i64 i2, .int .i64 i3], .bool (meetsK p.key x.key now)]) rfl (by kernel_rfl) (by kernel_rfl) (by kernel_rfl) (fun _ _ _ h => h) (Or.inl ⟨by rfl, fun W => by go_simp⟩) ?_
              refine wpAny_take (i := 8) (v := .agg #[.string s1, .string s2, .int .i64 i1, .int .i64 i2, .int .i64 i3]) rfl (by kernel_rfl) (by kernel_rfl) (by kernel_rfl) (fun _ _ _ h => h) (Or.inl ⟨by rfl, fun W => by go_simp⟩) ?_
              refine wpAny_take (i := 9) (v := .bool (meetsK p.key x.key now)) rfl (by kernel_rfl) (by kernel_rfl) (by kernel_rfl) (fun _ _ _ h => h) (Or.inl ⟨by rfl, fun W => by go_simp⟩) ?_
              refine wpAny_ready (rs := [11]) (by kernel_rfl) (by simp) ?_
              refine AllReady.cons rfl (fun K hK => ?_) ?_
              · have y0 : w6.cell? ⟨W0.heap.size, 0, none⟩ = some (.string ⟨#[]⟩) := by simp [World.cell?, XA]
                have y1 : w6.cell? ⟨W0.heap.size, 1, none⟩ = some (.string ⟨#[]⟩) := by simp [World.cell?, XA]
                have y2 : w6.cell? ⟨W0.heap.size, 2, none⟩ = some (.int .i64 0) := by simp [World.cell?, XA]
                have y3 : w6.cell? ⟨W0.heap.size, 3, none⟩ = some (.int .i64 0) := by simp [World.cell?, XA]
                have y4 : w6.cell? ⟨W0.heap.size, 4, none⟩ = some (.int .i64 0) := by simp [World.cell?, XA]
                have yf : ∀ j, w6.frozen? ⟨W0.heap.size, j, none⟩ = false := fun j => by simp [World.frozen?, XA]
                go_simp
                refine hK _ _ ?_
                clear hK K
                refine wpAny_take (i := 12) (v := .bool (meetsK p.key x.key now)) rfl (by kernel_rfl) (by kernel_rfl) (by kernel_rfl) (fun _ _ _ h => h) (Or.inl ⟨by rfl, fun W => by go_simp⟩) ?_
                refine wpAny_done (by kernel_rfl) ?_ _
                go_wp2
                go_ret
                exact ⟨rfl, by
                  iterate 5 (refine Below.setCell ?_ (by show _ ≤ W0.heap.size; exact zX) _)
                  exact BC⟩
              exact AllReady.nil
            exact AllReady.nil
          exact AllReady.nil
        exact AllReady.nil
      refine AllReady.cons rfl (fun K hK => ?_) ?_
      · have l30 : (W0.drew.alloc (.cells #[.string ⟨#[]⟩, .string ⟨#[]⟩, .int .i64 0, .int .i64 0, .int .i64 0] 127)).cell? ⟨w.heap.size + 1, 0, none⟩ = some (.int .i64 x.q) := by rw [BC0.cell (p := ⟨w.heap.size + 1, 0, none⟩) (lt_of_block Q0)]; simp [World.cell?, Q0]
        have l31 : (W0.drew.alloc (.cells #[.string ⟨#[]⟩, .string ⟨#[]⟩, .int .i64 0, .int .i64 0, .int .i64 0] 127)).cell? ⟨w.heap.size + 1, 1, none⟩ = some (.int .i64 x.s) := by rw [BC0.cell (p := ⟨w.heap.size + 1, 1, none⟩) (lt_of_block Q0)]; simp [World.cell?, Q0]
        have l32 : (W0.drew.alloc (.cells #[.string ⟨#[]⟩, .string ⟨#[]⟩, .int .i64 0, .int .i64 0, .int .i64 0] 127)).cell? ⟨w.heap.size + 1, 2, none⟩ = some (.slice x.a x.l.length x.cap) := by rw [BC0.cell (p := ⟨w.heap.size + 1, 2, none⟩) (lt_of_block Q0)]; simp [World.cell?, Q0]
        have l33 : (W0.drew.alloc (.cells #[.string ⟨#[]⟩, .string ⟨#[]⟩, .int .i64 0, .int .i64 0, .int .i64 0] 127)).cell? ⟨w.heap.size + 1, 3, none⟩ = some (.int .i64 x.fr) := by rw [BC0.cell (p := ⟨w.heap.size + 1, 3, none⟩) (lt_of_block Q0)]; simp [World.cell?, Q0]
        have l34 : (W0.drew.alloc (.cells #[.string ⟨#[]⟩, .string ⟨#[]⟩, .int .i64 0, .int .i64 0, .int .i64 0] 127)).cell? ⟨w.heap.size + 1, 4, none⟩ = some (.int .i64 x.b) := by rw [BC0.cell (p := ⟨w.heap.size + 1, 4, none⟩) (lt_of_block Q0)]; simp [World.cell?, Q0]
        have m30 : (W0.alloc (.cells #[.string ⟨#[]⟩, .string ⟨#[]⟩, .int .i64 0, .int .i64 0, .int .i64 0] 127)).cell? ⟨w.heap.size + 1, 0, none⟩ = some (.int .i64 x.q) := l30
        have m31 : (W0.alloc (.cells #[.string ⟨#[]⟩, .string ⟨#[]⟩, .int .i64 0, .int .i64 0, .int .i64 0] 127)).cell? ⟨w.heap.size + 1, 1, none⟩ = some (.int .i64 x.s) := l31
        have m32 : (W0.alloc (.cells #[.string ⟨#[]⟩, .string ⟨#[]⟩, .int .i64 0, .int .i64 0, .int .i64 0] 127)).cell? ⟨w.heap.size + 1, 2, none⟩ = some (.slice x.a x.l.length x.cap) := l32
        have m33 : (W0.alloc (.cells #[.string ⟨#[]⟩, .string ⟨#[]⟩, .int .i64 0, .int .i64 0, .int .i64 0] 127)).cell? ⟨w.heap.size + 1, 3, none⟩ = some (.int .i64 x.fr) := l33
        have m34 : (W0.alloc (.cells #[.string ⟨#[]⟩, .string ⟨#[]⟩, .int .i64 0, .int .i64 0, .int .i64 0] 127)).cell? ⟨w.heap.size + 1, 4, none⟩ = some (.int .i64 x.b) := l34
        go_simp
        clear l30 l31 l32 l33 l34 m30 m31 m32 m33 m34
        refine hK _ _ ?_
        clear hK K
        refine wpAny_ready (rs := [2]) (by kernel_rfl) (by simp) ?_
        refine AllReady.cons rfl (fun K hK => ?_) ?_
        · try go_simp
          refine (linkTubeS_any nmA p.q p.s p.fr p.b p.a p.b0 p.o p.cap p.l now _ hpl (hp.below BC hp.lt)).mono ?_
          rintro e w2 ⟨v2, rfl, ho2, hb2⟩
          obtain ⟨a2, g2, c2, rfl, R2⟩ := owns_rowB ho2
          have TA := R2.at_
          replace BC := BC.trans (hb2.mono BC.size)
          replace BC0 := BC0.trans (hb2.mono BC0.size)
          replace XA := (hb2.block _ (lt_of_block XA)).trans XA
          clear hb2 ho2 R2
          refine hK _ _ ?_
          clear hK K
          refine wpAny_ready (rs := [5]) (by kernel_rfl) (by simp) ?_
          refine AllReady.cons rfl (fun K hK => ?_) ?_
          · try go_simp
            refine (linkTubeS_any nmB x.q x.s x.fr x.b x.a x.b0 x.o x.cap x.l now _ hxl (hx.below BC hx.lt)).mono ?_
            rintro e w5 ⟨v5, rfl, ho5, hb5⟩
            obtain ⟨a5, g5, c5, rfl, R5⟩ := owns_rowB ho5
            have TB := R5.at_
            replace BC := BC.trans (hb5.mono BC.size)
            replace BC0 := BC0.trans (hb5.mono BC0.size)
            replace TA := TA.below hb5 TA.lt
            replace XA := (hb5.block _ (lt_of_block XA)).trans XA
            clear hb5 ho5 R5
            refine hK _ _ ?_
            clear hK K
            refine wpAny_ready (rs := [6]) (by kernel_rfl) (by simp) ?_
            refine AllReady.cons rfl (fun K hK => ?_) ?_
            · try go_simp
              refine (meetS_any (cutK nmA p.key now a2 g2 0 c2) (cutK nmB x.key now a5 g5 0 c5) _ (Nat.le_trans (cutBx_len _ now) (Nat.le_trans (tubeL_len _ _ _ _ _) (by omega))) (Nat.le_trans (cutBx_len _ now) (Nat.le_trans (tubeL_len _ _ _ _ _) (by omega))) ⟨TA⟩ ⟨TB⟩).mono ?_
              rintro e w6 ⟨rfl, hb6⟩
              replace BC := BC.trans (hb6.mono BC.size)
              replace BC0 := BC0.trans (hb6.mono BC0.size)
              rw [meets_name nameA nameB_b]
              obtain ⟨s1, s2, i1, i2, i3, hcl⟩ := clashC_five (cutK nmA p.key now a2 g2 0 c2).nm (cutK nmB x.key now a5 g5 0 c5).nm (meetTB (cutK nmA p.key now a2 g2 0 c2) (cutK nmB x.key now a5 g5 0 c5))
              rw [hcl]
              clear hcl
              replace XA := (hb6.block _ (lt_of_block XA)).trans XA
              clear hb6
              refine hK _ _ ?_
              clear hK K
              refine wpAny_take (i := 7) (v := .tuple #[.agg #[.string s1, .string s2, .int .i64 i1, .int .i64 i2, .int .i64 i3], .bool (meetsK p.key x.key now)]) rfl (by kernel_rfl) (by kernel_rfl) (by kernel_rfl) (fun _ _ _ h => h) (Or.inl ⟨by rfl, fun W => by go_simp⟩) ?_
              refine wpAny_take (i := 8) (v := .agg #[.string s1, .string s2, .int .i64 i1, .int .i64 i2, .int .i64 i3]) rfl (by kernel_rfl) (by kernel_rfl) (by kernel_rfl) (fun _ _ _ h => h) (Or.inl ⟨by rfl, fun W => by go_simp⟩) ?_
              refine wpAny_take (i := 9) (v := .bool (meetsK p.key x.key now)) rfl (by kernel_rfl) (by kernel_rfl) (by kernel_rfl) (fun _ _ _ h => h) (Or.inl ⟨by rfl, fun W => by go_simp⟩) ?_
              refine wpAny_ready (rs := [11]) (by kernel_rfl) (by simp) ?_
              refine AllReady.cons rfl (fun K hK => ?_) ?_
              · have y0 : w6.cell? ⟨W0.heap.size, 0, none⟩ = some (.string ⟨#[]⟩) := by simp [World.cell?, XA]
                have y1 : w6.cell? ⟨W0.heap.size, 1, none⟩ = some (.string ⟨#[]⟩) := by simp [World.cell?, XA]
                have y2 : w6.cell? ⟨W0.heap.size, 2, none⟩ = some (.int .i64 0) := by simp [World.cell?, XA]
                have y3 : w6.cell? ⟨W0.heap.size, 3, none⟩ = some (.int .i64 0) := by simp [World.cell?, XA]
                have y4 : w6.cell? ⟨W0.heap.size, 4, none⟩ = some (.int .i64 0) := by simp [World.cell?, XA]
                have yf : ∀ j, w6.frozen? ⟨W0.heap.size, j, none⟩ = false := fun j => by simp [World.frozen?, XA]
                go_simp
                refine hK _ _ ?_
                clear hK K
                refine wpAny_take (i := 12) (v := .bool (meetsK p.key x.key now)) rfl (by kernel_rfl) (by kernel_rfl) (by kernel_rfl) (fun _ _ _ h => h) (Or.inl ⟨by rfl, fun W => by go_simp⟩) ?_
                refine wpAny_done (by kernel_rfl) ?_ _
                go_wp2
                go_ret
                exact ⟨rfl, by
                  iterate 5 (refine Below.setCell ?_ (by show _ ≤ W0.heap.size; exact zX) _)
                  exact BC⟩
              exact AllReady.nil
            exact AllReady.nil
          exact AllReady.nil
        exact AllReady.nil
      exact AllReady.nil
    exact AllReady.nil
  refine AllReady.cons rfl (fun K hK => ?_) ?_
  · have l30 : W0.drew.cell? ⟨w.heap.size + 1, 0, none⟩ = some (.int .i64 x.q) := by rw [BC0.cell (p := ⟨w.heap.size + 1, 0, none⟩) (lt_of_block Q0)]; simp [World.cell?, Q0]
    have l31 : W0.drew.cell? ⟨w.heap.size + 1, 1, none⟩ = some (.int .i64 x.s) := by rw [BC0.cell (p := ⟨w.heap.size + 1, 1, none⟩) (lt_of_block Q0)]; simp [World.cell?, Q0]
    have l32 : W0.drew.cell? ⟨w.heap.size + 1, 2, none⟩ = some (.slice x.a x.l.length x.cap) := by rw [BC0.cell (p := ⟨w.heap.size + 1, 2, none⟩) (lt_of_block Q0)]; simp [World.cell?, Q0]
    have l33 : W0.drew.cell? ⟨w.heap.size + 1, 3, none⟩ = some (.int .i64 x.fr) := by rw [BC0.cell (p := ⟨w.heap.size + 1, 3, none⟩) (lt_of_block Q0)]; simp [World.cell?, Q0]
    have l34 : W0.drew.cell? ⟨w.heap.size + 1, 4, none⟩ = some (.int .i64 x.b) := by rw [BC0.cell (p := ⟨w.heap.size + 1, 4, none⟩) (lt_of_block Q0)]; simp [World.cell?, Q0]
    go_simp
    clear l30 l31 l32 l33 l34
    refine hK _ _ ?_
    clear hK K
    refine wpAny_ready (rs := [0, 10]) (by kernel_rfl) (by simp) ?_
    refine AllReady.cons rfl (fun K hK => ?_) ?_
    · have l00 : W0.drew.cell? ⟨w.heap.size, 0, none⟩ = some (.int .i64 p.q) := by rw [BC0.cell (p := ⟨w.heap.size, 0, none⟩) (lt_of_block P0)]; simp [World.cell?, P0]
      have l01 : W0.drew.cell? ⟨w.heap.size, 1, none⟩ = some (.int .i64 p.s) := by rw [BC0.cell (p := ⟨w.heap.size, 1, none⟩) (lt_of_block P0)]; simp [World.cell?, P0]
      have l02 : W0.drew.cell? ⟨w.heap.size, 2, none⟩ = some (.slice p.a p.l.length p.cap) := by rw [BC0.cell (p := ⟨w.heap.size, 2, none⟩) (lt_of_block P0)]; simp [World.cell?, P0]
      have l03 : W0.drew.cell? ⟨w.heap.size, 3, none⟩ = some (.int .i64 p.fr) := by rw [BC0.cell (p := ⟨w.heap.size, 3, none⟩) (lt_of_block P0)]; simp [World.cell?, P0]
      have l04 : W0.drew.cell? ⟨w.heap.size, 4, none⟩ = some (.int .i64 p.b) := by rw [BC0.cell (p := ⟨w.heap.size, 4, none⟩) (lt_of_block P0)]; simp [World.cell?, P0]
      go_simp
      clear l00 l01 l02 l03 l04
      refine hK _ _ ?_
      clear hK K
      refine wpAny_ready (rs := [2, 10]) (by kernel_rfl) (by simp) ?_
      refine AllReady.cons rfl (fun K hK => ?_) ?_
      · try go_simp
        refine (linkTubeS_any nmA p.q p.s p.fr p.b p.a p.b0 p.o p.cap p.l now _ hpl (hp.below BC hp.lt)).mono ?_
        rintro e w2 ⟨v2, rfl, ho2, hb2⟩
        obtain ⟨a2, g2, c2, rfl, R2⟩ := owns_rowB ho2
        have TA := R2.at_
        replace BC := BC.trans (hb2.mono BC.size)
        replace BC0 := BC0.trans (hb2.mono BC0.size)
        clear hb2 ho2 R2
        refine hK _ _ ?_
        clear hK K
        refine wpAny_ready (rs := [5, 10]) (by kernel_rfl) (by simp) ?_
        refine AllReady.cons rfl (fun K hK => ?_) ?_
        · try go_simp
          refine (linkTubeS_any nmB x.q x.s x.fr x.b x.a x.b0 x.o x.cap x.l now _ hxl (hx.below BC hx.lt)).mono ?_
          rintro e w5 ⟨v5, rfl, ho5, hb5⟩
          obtain ⟨a5, g5, c5, rfl, R5⟩ := owns_rowB ho5
          have TB := R5.at_
          replace BC := BC.trans (hb5.mono BC.size)
          replace BC0 := BC0.trans (hb5.mono BC0.size)
          replace TA := TA.below hb5 TA.lt
          clear hb5 ho5 R5
          refine hK _ _ ?_
          clear hK K
          refine wpAny_ready (rs := [6, 10]) (by kernel_rfl) (by simp) ?_
          refine AllReady.cons rfl (fun K hK => ?_) ?_
          · try go_simp
            refine (meetS_any (cutK nmA p.key now a2 g2 0 c2) (cutK nmB x.key now a5 g5 0 c5) _ (Nat.le_trans (cutBx_len _ now) (Nat.le_trans (tubeL_len _ _ _ _ _) (by omega))) (Nat.le_trans (cutBx_len _ now) (Nat.le_trans (tubeL_len _ _ _ _ _) (by omega))) ⟨TA⟩ ⟨TB⟩).mono ?_
            rintro e w6 ⟨rfl, hb6⟩
            replace BC := BC.trans (hb6.mono BC.size)
            replace BC0 := BC0.trans (hb6.mono BC0.size)
            rw [meets_name nameA nameB_b]
            obtain ⟨s1, s2, i1, i2, i3, hcl⟩ := clashC_five (cutK nmA p.key now a2 g2 0 c2).nm (cutK nmB x.key now a5 g5 0 c5).nm (meetTB (cutK nmA p.key now a2 g2 0 c2) (cutK nmB x.key now a5 g5 0 c5))
            rw [hcl]
            clear hcl
            clear hb6
            refine hK _ _ ?_
            clear hK K
            refine wpAny_take (i := 7) (v := .tuple #[.agg #[.string s1, .string s2, .int .i64 i1, .int .i64 i2, .int .i64 i3], .bool (meetsK p.key x.key now)]) rfl (by kernel_rfl) (by kernel_rfl) (by kernel_rfl) (fun _ _ _ h => h) (Or.inl ⟨by rfl, fun W => by go_simp⟩) ?_
            refine wpAny_take (i := 8) (v := .agg #[.string s1, .string s2, .int .i64 i1, .int .i64 i2, .int .i64 i3]) rfl (by kernel_rfl) (by kernel_rfl) (by kernel_rfl) (fun _ _ _ h => h) (Or.inl ⟨by rfl, fun W => by go_simp⟩) ?_
            refine wpAny_take (i := 9) (v := .bool (meetsK p.key x.key now)) rfl (by kernel_rfl) (by kernel_rfl) (by kernel_rfl) (fun _ _ _ h => h) (Or.inl ⟨by rfl, fun W => by go_simp⟩) ?_
            refine wpAny_ready (rs := [10]) (by kernel_rfl) (by simp) ?_
            refine AllReady.cons rfl (fun K hK => ?_) ?_
            · go_simp
              have XA : (w6.alloc (.cells #[.string ⟨#[]⟩, .string ⟨#[]⟩, .int .i64 0, .int .i64 0, .int .i64 0] 127)).heap[w6.heap.size]? = some (.cells #[.string ⟨#[]⟩, .string ⟨#[]⟩, .int .i64 0, .int .i64 0, .int .i64 0] 127 (0, 0)) := heap_alloc_new w6 (.cells #[.string ⟨#[]⟩, .string ⟨#[]⟩, .int .i64 0, .int .i64 0, .int .i64 0] 127)
              have zX : w.heap.size ≤ w6.heap.size := BC.size
              have BC6 := BC
              replace BC := BC.trans ((bel1 (w := w6) (.cells #[.string ⟨#[]⟩, .string ⟨#[]⟩, .int .i64 0, .int .i64 0, .int .i64 0] 127)).mono BC.size)
              replace BC0 := BC0.trans ((bel1 (w := w6) (.cells #[.string ⟨#[]⟩, .string ⟨#[]⟩, .int .i64 0, .int .i64 0, .int .i64 0] 127)).mono BC0.size)
              refine hK _ _ ?_
              clear hK K
              refine wpAny_ready (rs := [11]) (by kernel_rfl) (by simp) ?_
              refine AllReady.cons rfl (fun K hK => ?_) ?_
              · go_simp
                refine hK _ _ ?_
                clear hK K
                refine wpAny_take (i := 12) (v := .bool (meetsK p.key x.key now)) rfl (by kernel_rfl) (by kernel_rfl) (by kernel_rfl) (fun _ _ _ h => h) (Or.inl ⟨by rfl, fun W => by go_simp⟩) ?_
                refine wpAny_done (by kernel_rfl) ?_ _
                go_wp2
                go_ret
                exact ⟨rfl, BC6.trans ((bel1 _).mono BC6.size)⟩
              exact AllReady.nil
            exact AllReady.nil
          refine AllReady.cons rfl (fun K hK => ?_) ?_
          · go_simp
            have XA : (w5.alloc (.cells #[.string ⟨#[]⟩, .string ⟨#[]⟩, .int .i64 0, .int .i64 0, .int .i64 0] 127)).heap[w5.heap.size]? = some (.cells #[.string ⟨#[]⟩, .string ⟨#[]⟩, .int .i64 0, .int .i64 0, .int .i64 0] 127 (0, 0)) := heap_alloc_new w5 (.cells #[.string ⟨#[]⟩, .string ⟨#[]⟩, .int .i64 0, .int .i64 0, .int .i64 0] 127)
            have zX : w.heap.size ≤ w5.heap.size := BC.size
            replace BC := BC.trans ((bel1 (w := w5) (.cells #[.string ⟨#[]⟩, .string ⟨#[]⟩, .int .i64 0, .int .i64 0, .int .i64 0] 127)).mono BC.size)
            replace BC0 := BC0.trans ((bel1 (w := w5) (.cells #[.string ⟨#[]⟩, .string ⟨#[]⟩, .int .i64 0, .int .i64 0, .int .i64 0] 127)).mono BC0.size)
            replace TA := TA.below (bel1 (w := w5) (.cells #[.string ⟨#[]⟩, .string ⟨#[]⟩, .int .i64 0, .int .i64 0, .int .i64 0] 127)) TA.lt
            replace TB := TB.below (bel1 (w := w5) (.cells #[.string ⟨#[]⟩, .string ⟨#[]⟩, .int .i64 0, .int .i64 0, .int .i64 0] 127)) TB.lt
            refine hK _ _ ?_
            clear hK K
            refine wpAny_ready (rs := [6]) (by kernel_rfl) (by simp) ?_
            refine AllReady.cons rfl (fun K hK => ?_) ?_
            · try go_simp
              refine (meetS_any (cutK nmA p.key now a2 g2 0 c2) (cutK nmB x.key now a5 g5 0 c5) _ (Nat.le_trans (cutBx_len _ now) (Nat.le_trans (tubeL_len _ _ _ _ _) (by omega))) (Nat.le_trans (cutBx_len _ now) (Nat.le_trans (tubeL_len _ _ _ _ _) (by omega))) ⟨TA⟩ ⟨TB⟩).mono ?_
              rintro e w6 ⟨rfl, hb6⟩
              replace BC := BC.trans (hb6.mono BC.size)
              replace BC0 := BC0.trans (hb6.mono BC0.size)
              rw [meets_name nameA nameB_b]
              obtain ⟨s1, s2, i1, i2, i3, hcl⟩ := clashC_five (cutK nmA p.key now a2 g2 0 c2).nm (cutK nmB x.key now a5 g5 0 c5).nm (meetTB (cutK nmA p.key now a2 g2 0 c2) (cutK nmB x.key now a5 g5 0 c5))
              rw [hcl]
              clear hcl
              replace XA := (hb6.block _ (lt_of_block XA)).trans XA
              clear hb6
              refine hK _ _ ?_
              clear hK K
              refine wpAny_take (i := 7) (v := .tuple #[.agg #[.string s1, .string s2, .int .i64 i1, .int .i64 i2, .int .i64 i3], .bool (meetsK p.key x.key now)]) rfl (by kernel_rfl) (by kernel_rfl) (by kernel_rfl) (fun _ _ _ h => h) (Or.inl ⟨by rfl, fun W => by go_simp⟩) ?_
              refine wpAny_take (i := 8) (v := .agg #[.string s1, .string s2, .int .i64 i1, .int .i64 i2, .int .i64 i3]) rfl (by kernel_rfl) (by kernel_rfl) (by kernel_rfl) (fun _ _ _ h => h) (Or.inl ⟨by rfl, fun W => by go_simp⟩) ?_
              refine wpAny_take (i := 9) (v := .bool (meetsK p.key x.key now)) rfl (by kernel_rfl) (by kernel_rfl) (by kernel_rfl) (fun _ _ _ h => h) (Or.inl ⟨by rfl, fun W => by go_simp⟩) ?_
              refine wpAny_ready (rs := [11]) (by kernel_rfl) (by simp) ?_
              refine AllReady.cons rfl (fun K hK => ?_) ?_
              · have y0 : w6.cell? ⟨w5.heap.size, 0, none⟩ = some (.string ⟨#[]⟩) := by simp [World.cell?, XA]
                have y1 : w6.cell? ⟨w5.heap.size, 1, none⟩ = some (.string ⟨#[]⟩) := by simp [World.cell?, XA]
                have y2 : w6.cell? ⟨w5.heap.size, 2, none⟩ = some (.int .i64 0) := by simp [World.cell?, XA]
                have y3 : w6.cell? ⟨w5.heap.size, 3, none⟩ = some (.int .i64 0) := by simp [World.cell?, XA]
                have y4 : w6.cell? ⟨w5.heap.size, 4, none⟩ = some (.int .i64 0) := by simp [World.cell?, XA]
                have yf : ∀ j, w6.frozen? ⟨w5.heap.size, j, none⟩ = false := fun j => by simp [World.frozen?, XA]
                go_simp
                refine hK _ _ ?_
                clear hK K
                refine wpAny_take (i := 12) (v := .bool (meetsK p.key x.key now)) rfl (by kernel_rfl) (by kernel_rfl) (by kernel_rfl) (fun _ _ _ h => h) (Or.inl ⟨by rfl, fun W => by go_simp⟩) ?_
                refine wpAny_done (by kernel_rfl) ?_ _
                go_wp2
                go_ret
                exact ⟨rfl, by
                  iterate 5 (refine Below.setCell ?_ (by show _ ≤ w5.heap.size; exact zX) _)
                  exact BC⟩
              exact AllReady.nil
            exact AllReady.nil
          exact AllReady.nil
        refine AllReady.cons rfl (fun K hK => ?_) ?_
        · go_simp
          have XA : (w2.alloc (.cells #[.string ⟨#[]⟩, .string ⟨#[]⟩, .int .i64 0, .int .i64 0, .int .i64 0] 127)).heap[w2.heap.size]? = some (.cells #[.string ⟨#[]⟩, .string ⟨#[]⟩, .int .i64 0, .int .i64 0, .int .i64 0] 127 (0, 0)) := heap_alloc_new w2 (.cells #[.string ⟨#[]⟩, .string ⟨#[]⟩, .int .i64 0, .int .i64 0, .int .i64 0] 127)
          have zX : w.heap.size ≤ w2.heap.size := BC.size
          replace BC := BC.trans ((bel1 (w := w2) (.cells #[.string ⟨#[]⟩, .string ⟨#[]⟩, .int .i64 0, .int .i64 0, .int .i64 0] 127)).mono BC.size)
          replace BC0 := BC0.trans ((bel1 (w := w2) (.cells #[.string ⟨#[]⟩, .string ⟨#[]⟩, .int .i64 0, .int .i64 0, .int .i64 0] 127)).mono BC0.size)
          replace TA := TA.below (bel1 (w := w2) (.cells #[.string ⟨#[]⟩, .string ⟨#[]⟩, .int .i64 0, .int .i64 0, .int .i64 0] 127)) TA.lt
          refine hK _ _ ?_
          clear hK K
          refine wpAny_ready (rs := [5]) (by kernel_rfl) (by simp) ?_
          refine AllReady.cons rfl (fun K hK => ?_) ?_
          · try go_simp
            refine (linkTubeS_any nmB x.q x.s x.fr x.b x.a x.b0 x.o x.cap x.l now _ hxl (hx.below BC hx.lt)).mono ?_
            rintro e w5 ⟨v5, rfl, ho5, hb5⟩
            obtain ⟨a5, g5, c5, rfl, R5⟩ := owns_rowB ho5
            have TB := R5.at_
            replace BC := BC.trans (hb5.mono BC.size)
            replace BC0 := BC0.trans (hb5.mono BC0.size)
            replace TA := TA.below hb5 TA.lt
            replace XA := (hb5.block _ (lt_of_block XA)).trans XA
            clear hb5 ho5 R5
            refine hK _ _ ?_
            clear hK K
            refine wpAny_ready (rs := [6]) (by kernel_rfl) (by simp) ?_
            refine AllReady.cons rfl (fun K hK => ?_) ?_
            · try go_simp
              refine (meetS_any (cutK nmA p.key now a2 g2 0 c2) (cutK nmB x.key now a5 g5 0 c5) _ (Nat.le_trans (cutBx_len _ now) (Nat.le_trans (tubeL_len _ _ _ _ _) (by omega))) (Nat.le_trans (cutBx_len _ now) (Nat.le_trans (tubeL_len _ _ _ _ _) (by omega))) ⟨TA⟩ ⟨TB⟩).mono ?_
              rintro e w6 ⟨rfl, hb6⟩
              replace BC := BC.trans (hb6.mono BC.size)
              replace BC0 := BC0.trans (hb6.mono BC0.size)
              rw [meets_name nameA nameB_b]
              obtain ⟨s1, s2, i1, i2, i3, hcl⟩ := clashC_five (cutK nmA p.key now a2 g2 0 c2).nm (cutK nmB x.key now a5 g5 0 c5).nm (meetTB (cutK nmA p.key now a2 g2 0 c2) (cutK nmB x.key now a5 g5 0 c5))
              rw [hcl]
              clear hcl
              replace XA := (hb6.block _ (lt_of_block XA)).trans XA
              clear hb6
              refine hK _ _ ?_
              clear hK K
              refine wpAny_take (i := 7) (v := .tuple #[.agg #[.string s1, .string s2, .int .i64 i1, .int .i64 i2, .int .i64 i3], .bool (meetsK p.key x.key now)]) rfl (by kernel_rfl) (by kernel_rfl) (by kernel_rfl) (fun _ _ _ h => h) (Or.inl ⟨by rfl, fun W => by go_simp⟩) ?_
              refine wpAny_take (i := 8) (v := .agg #[.string s1, .string s2, .int .i64 i1, .int .i64 i2, .int .i64 i3]) rfl (by kernel_rfl) (by kernel_rfl) (by kernel_rfl) (fun _ _ _ h => h) (Or.inl ⟨by rfl, fun W => by go_simp⟩) ?_
              refine wpAny_take (i := 9) (v := .bool (meetsK p.key x.key now)) rfl (by kernel_rfl) (by kernel_rfl) (by kernel_rfl) (fun _ _ _ h => h) (Or.inl ⟨by rfl, fun W => by go_simp⟩) ?_
              refine wpAny_ready (rs := [11]) (by kernel_rfl) (by simp) ?_
              refine AllReady.cons rfl (fun K hK => ?_) ?_
              · have y0 : w6.cell? ⟨w2.heap.size, 0, none⟩ = some (.string ⟨#[]⟩) := by simp [World.cell?, XA]
                have y1 : w6.cell? ⟨w2.heap.size, 1, none⟩ = some (.string ⟨#[]⟩) := by simp [World.cell?, XA]
                have y2 : w6.cell? ⟨w2.heap.size, 2, none⟩ = some (.int .i64 0) := by simp [World.cell?, XA]
                have y3 : w6.cell? ⟨w2.heap.size, 3, none⟩ = some (.int .i64 0) := by simp [World.cell?, XA]
                have y4 : w6.cell? ⟨w2.heap.size, 4, none⟩ = some (.int .i64 0) := by simp [World.cell?, XA]
                have yf : ∀ j, w6.frozen? ⟨w2.heap.size, j, none⟩ = false := fun j => by simp [World.frozen?, XA]
                go_simp
                refine hK _ _ ?_
                clear hK K
                refine wpAny_take (i := 12) (v := .bool (meetsK p.key x.key now)) rfl (by kernel_rfl) (by kernel_rfl) (by kernel_rfl) (fun _ _ _ h => h) (Or.inl ⟨by rfl, fun W => by go_simp⟩) ?_
                refine wpAny_done (by kernel_rfl) ?_ _
                go_wp2
                go_ret
                exact ⟨rfl, by
                  iterate 5 (refine Below.setCell ?_ (by show _ ≤ w2.heap.size; exact zX) _)
                  exact BC⟩
              exact AllReady.nil
            exact AllReady.nil
          exact AllReady.nil
        exact AllReady.nil
      refine AllReady.cons rfl (fun K hK => ?_) ?_
      · go_simp
        have XA : (W0.drew.alloc (.cells #[.string ⟨#[]⟩, .string ⟨#[]⟩, .int .i64 0, .int .i64 0, .int .i64 0] 127)).heap[W0.heap.size]? = some (.cells #[.string ⟨#[]⟩, .string ⟨#[]⟩, .int .i64 0, .int .i64 0, .int .i64 0] 127 (0, 0)) := heap_alloc_new W0.drew (.cells #[.string ⟨#[]⟩, .string ⟨#[]⟩, .int .i64 0, .int .i64 0, .int .i64 0] 127)
        have zX : w.heap.size ≤ W0.heap.size := BC.size
        replace BC := BC.trans ((bel1 (w := W0.drew) (.cells #[.string ⟨#[]⟩, .string ⟨#[]⟩, .int .i64 0, .int .i64 0, .int .i64 0] 127)).mono BC.size)
        replace BC0 := BC0.trans ((bel1 (w := W0.drew) (.cells #[.string ⟨#[]⟩, .string ⟨#[]⟩, .int .i64 0, .int .i64 0, .int .i64 0] 127)).mono BC0.size)
        refine hK _ _ ?_
        clear hK K
        refine wpAny_ready (rs := [2]) (by kernel_rfl) (by simp) ?_
        refine AllReady.cons rfl (fun K hK => ?_) ?_
        · try go_simp
          refine (linkTubeS_any nmA p.q p.s p.fr p.b p.a p.b0 p.o p.cap p.l now _ hpl (hp.below BC hp.lt)).mono ?_
          rintro e w2 ⟨v2, rfl, ho2, hb2⟩
          obtain ⟨a2, g2, c2, rfl, R2⟩ := owns_rowB ho2
          have TA := R2.at_
          replace BC := BC.trans (hb2.mono BC.size)
          replace BC0 := BC0.trans (hb2.mono BC0.size)
          replace XA := (hb2.block _ (lt_of_block XA)).trans XA
          clear hb2 ho2 R2
          refine hK _ _ ?_
          clear hK K
          refine wpAny_ready (rs := [5]) (by kernel_rfl) (by simp) ?_
          refine AllReady.cons rfl (fun K hK => ?_) ?_
          · try go_simp
            refine (linkTubeS_any nmB x.q x.s x.fr x.b x.a x.b0 x.o x.cap x.l now _ hxl (hx.below BC hx.lt)).mono ?_
            rintro e w5 ⟨v5, rfl, ho5, hb5⟩
            obtain ⟨a5, g5, c5, rfl, R5⟩ := owns_rowB ho5
            have TB := R5.at_
            replace BC := BC.trans (hb5.mono BC.size)
            replace BC0 := BC0.trans (hb5.mono BC0.size)
            replace TA := TA.below hb5 TA.lt
            replace XA := (hb5.block _ (lt_of_block XA)).trans XA
            clear hb5 ho5 R5
            refine hK _ _ ?_
            clear hK K
            refine wpAny_ready (rs := [6]) (by kernel_rfl) (by simp) ?_
            refine AllReady.cons rfl (fun K hK => ?_) ?_
            · try go_simp
              refine (meetS_any (cutK nmA p.key now a2 g2 0 c2) (cutK nmB x.key now a5 g5 0 c5) _ (Nat.le_trans (cutBx_len _ now) (Nat.le_trans (tubeL_len _ _ _ _ _) (by omega))) (Nat.le_trans (cutBx_len _ now) (Nat.le_trans (tubeL_len _ _ _ _ _) (by omega))) ⟨TA⟩ ⟨TB⟩).mono ?_
              rintro e w6 ⟨rfl, hb6⟩
              replace BC := BC.trans (hb6.mono BC.size)
              replace BC0 := BC0.trans (hb6.mono BC0.size)
              rw [meets_name nameA nameB_b]
              obtain ⟨s1, s2, i1, i2, i3, hcl⟩ := clashC_five (cutK nmA p.key now a2 g2 0 c2).nm (cutK nmB x.key now a5 g5 0 c5).nm (meetTB (cutK nmA p.key now a2 g2 0 c2) (cutK nmB x.key now a5 g5 0 c5))
              rw [hcl]
              clear hcl
              replace XA := (hb6.block _ (lt_of_block XA)).trans XA
              clear hb6
              refine hK _ _ ?_
              clear hK K
              refine wpAny_take (i := 7) (v := .tuple #[.agg #[.string s1, .string s2, .int .i64 i1, .int .i64 i2, .int .i64 i3], .bool (meetsK p.key x.key now)]) rfl (by kernel_rfl) (by kernel_rfl) (by kernel_rfl) (fun _ _ _ h => h) (Or.inl ⟨by rfl, fun W => by go_simp⟩) ?_
              refine wpAny_take (i := 8) (v := .agg #[.string s1, .string s2, .int .i64 i1, .int .i64 i2, .int .i64 i3]) rfl (by kernel_rfl) (by kernel_rfl) (by kernel_rfl) (fun _ _ _ h => h) (Or.inl ⟨by rfl, fun W => by go_simp⟩) ?_
              refine wpAny_take (i := 9) (v := .bool (meetsK p.key x.key now)) rfl (by kernel_rfl) (by kernel_rfl) (by kernel_rfl) (fun _ _ _ h => h) (Or.inl ⟨by rfl, fun W => by go_simp⟩) ?_
              refine wpAny_ready (rs := [11]) (by kernel_rfl) (by simp) ?_
              refine AllReady.cons rfl (fun K hK => ?_) ?_
              · have y0 : w6.cell? ⟨W0.heap.size, 0, none⟩ = some (.string ⟨#[]⟩) := by simp [World.cell?, XA]
                have y1 : w6.cell? ⟨W0.heap.size, 1, none⟩ = some (.string ⟨#[]⟩) := by simp [World.cell?, XA]
                have y2 : w6.cell? ⟨W0.heap.size, 2, none⟩ = some (.int .i64 0) := by simp [World.cell?, XA]
                have y3 : w6.cell? ⟨W0.heap.size, 3, none⟩ = some (.int .i64 0) := by simp [World.cell?, XA]
                have y4 : w6.cell? ⟨W0.heap.size, 4, none⟩ = some (.int .i64 0) := by simp [World.cell?, XA]
                have yf : ∀ j, w6.frozen? ⟨W0.heap.size, j, none⟩ = false := fun j => by simp [World.frozen?, XA]
                go_simp
                refine hK _ _ ?_
                clear hK K
                refine wpAny_take (i := 12) (v := .bool (meetsK p.key x.key now)) rfl (by kernel_rfl) (by kernel_rfl) (by kernel_rfl) (fun _ _ _ h => h) (Or.inl ⟨by rfl, fun W => by go_simp⟩) ?_
                refine wpAny_done (by kernel_rfl) ?_ _
                go_wp2
                go_ret
                exact ⟨rfl, by
                  iterate 5 (refine Below.setCell ?_ (by show _ ≤ W0.heap.size; exact zX) _)
                  exact BC⟩
              exact AllReady.nil
            exact AllReady.nil
          exact AllReady.nil
        exact AllReady.nil
      exact AllReady.nil
    refine AllReady.cons rfl (fun K hK => ?_) ?_
    · go_simp
      have XA : (W0.drew.alloc (.cells #[.string ⟨#[]⟩, .string ⟨#[]⟩, .int .i64 0, .int .i64 0, .int .i64 0] 127)).heap[W0.heap.size]? = some (.cells #[.string ⟨#[]⟩, .string ⟨#[]⟩, .int .i64 0, .int .i64 0, .int .i64 0] 127 (0, 0)) := heap_alloc_new W0.drew (.cells #[.string ⟨#[]⟩, .string ⟨#[]⟩, .int .i64 0, .int .i64 0, .int .i64 0] 127)
      have zX : w.heap.size ≤ W0.heap.size := BC.size
      replace BC := BC.trans ((bel1 (w := W0.drew) (.cells #[.string ⟨#[]⟩, .string ⟨#[]⟩, .int .i64 0, .int .i64 0, .int .i64 0] 127)).mono BC.size)
      replace BC0 := BC0.trans ((bel1 (w := W0.drew) (.cells #[.string ⟨#[]⟩, .string ⟨#[]⟩, .int .i64 0, .int .i64 0, .int .i64 0] 127)).mono BC0.size)
      refine hK _ _ ?_
      clear hK K
      refine wpAny_ready (rs := [0]) (by kernel_rfl) (by simp) ?_
      refine AllReady.cons rfl (fun K hK => ?_) ?_
      · have l00 : (W0.drew.alloc (.cells #[.string ⟨#[]⟩, .string ⟨#[]⟩, .int .i64 0, .int .i64 0, .int .i64 0] 127)).cell? ⟨w.heap.size, 0, none⟩ = some (.int .i64 p.q) := by rw [BC0.cell (p := ⟨w.heap.size, 0, none⟩) (lt_of_block P0)]; simp [World.cell?, P0]
        have l01 : (W0.drew.alloc (.cells #[.string ⟨#[]⟩, .string ⟨#[]⟩, .int .i64 0, .int .i64 0, .int .i64 0] 127)).cell? ⟨w.heap.size, 1, none⟩ = some (.int .i64 p.s) := by rw [BC0.cell (p := ⟨w.heap.size, 1, none⟩) (lt_of_block P0)]; simp [World.cell?, P0]
        have l02 : (W0.drew.alloc (.cells #[.string ⟨#[]⟩, .string ⟨#[]⟩, .int .i64 0, .int .i64 0, .int .i64 0] 127)).cell? ⟨w.heap.size, 2, none⟩ = some (.slice p.a p.l.length p.cap) := by rw [BC0.cell (p := ⟨w.heap.size, 2, none⟩) (lt_of_block P0)]; simp [World.cell?, P0]
        have l03 : (W0.drew.alloc (.cells #[.string ⟨#[]⟩, .string ⟨#[]⟩, .int .i64 0, .int .i64 0, .int .i64 0] 127)).cell? ⟨w.heap.size, 3, none⟩ = some (.int .i64 p.fr) := by rw [BC0.cell (p := ⟨w.heap.size, 3, none⟩) (lt_of_block P0)]; simp [World.cell?, P0]
        have l04 : (W0.drew.alloc (.cells #[.string ⟨#[]⟩, .string ⟨#[]⟩, .int .i64 0, .int .i64 0, .int .i64 0] 127)).cell? ⟨w.heap.size, 4, none⟩ = some (.int .i64 p.b) := by rw [BC0.cell (p := ⟨w.heap.size, 4, none⟩) (lt_of_block P0)]; simp [World.cell?, P0]
        have m00 : (W0.alloc (.cells #[.string ⟨#[]⟩, .string ⟨#[]⟩, .int .i64 0, .int .i64 0, .int .i64 0] 127)).cell? ⟨w.heap.size, 0, none⟩ = some (.int .i64 p.q) := l00
        have m01 : (W0.alloc (.cells #[.string ⟨#[]⟩, .string ⟨#[]⟩, .int .i64 0, .int .i64 0, .int .i64 0] 127)).cell? ⟨w.heap.size, 1, none⟩ = some (.int .i64 p.s) := l01
        have m02 : (W0.alloc (.cells #[.string ⟨#[]⟩, .string ⟨#[]⟩, .int .i64 0, .int .i64 0, .int .i64 0] 127)).cell? ⟨w.heap.size, 2, none⟩ = some (.slice p.a p.l.length p.cap) := l02
        have m03 : (W0.alloc (.cells #[.string ⟨#[]⟩, .string ⟨#[]⟩, .int .i64 0, .int .i64 0, .int .i64 0] 127)).cell? ⟨w.heap.size, 3, none⟩ = some (.int .i64 p.fr) := l03
        have m04 : (W0.alloc (.cells #[.string ⟨#[]⟩, .string ⟨#[]⟩, .int .i64 0, .int .i64 0, .int .i64 0] 127)).cell? ⟨w.heap.size, 4, none⟩ = some (.int .i64 p.b) := l04
        go_simp
        clear l00 l01 l02 l03 l04 m00 m01 m02 m03 m04
        refine hK _ _ ?_
        clear hK K
        refine wpAny_ready (rs := [2]) (by kernel_rfl) (by simp) ?_
        refine AllReady.cons rfl (fun K hK => ?_) ?_
        · try go_simp
          refine (linkTubeS_any nmA p.q p.s p.fr p.b p.a p.b0 p.o p.cap p.l now _ hpl (hp.below BC hp.lt)).mono ?_
          rintro e w2 ⟨v2, rfl, ho2, hb2⟩
          obtain ⟨a2, g2, c2, rfl, R2⟩ := owns_rowB ho2
          have TA := R2.at_
          replace BC := BC.trans (hb2.mono BC.size)
          replace BC0 := BC0.trans (hb2.mono BC0.size)
          replace XA := (hb2.block _ (lt_of_block XA)).trans XA
          clear hb2 ho2 R2
          refine hK _ _ ?_
          clear hK K
          refine wpAny_ready (rs := [5]) (by kernel_rfl) (by simp) ?_
          refine AllReady.cons rfl (fun K hK => ?_) ?_
          · try go_simp
            refine (linkTubeS_any nmB x.q x.s x.fr x.b x.a x.b0 x.o x.cap x.l now _ hxl (hx.below BC hx.lt)).mono ?_
            rintro e w5 ⟨v5, rfl, ho5, hb5⟩
            obtain ⟨a5, g5, c5, rfl, R5⟩ := owns_rowB ho5
            have TB := R5.at_
            replace BC := BC.trans (hb5.mono BC.size)
            replace BC0 := BC0.trans (hb5.mono BC0.size)
            replace TA := TA.below hb5 TA.lt
            replace XA := (hb5.block _ (lt_of_block XA)).trans XA
            clear hb5 ho5 R5
            refine hK _ _ ?_
            clear hK K
            refine wpAny_ready (rs := [6]) (by kernel_rfl) (by simp) ?_
            refine AllReady.cons rfl (fun K hK => ?_) ?_
            · try go_simp
              refine (meetS_any (cutK nmA p.key now a2 g2 0 c2) (cutK nmB x.key now a5 g5 0 c5) _ (Nat.le_trans (cutBx_len _ now) (Nat.le_trans (tubeL_len _ _ _ _ _) (by omega))) (Nat.le_trans (cutBx_len _ now) (Nat.le_trans (tubeL_len _ _ _ _ _) (by omega))) ⟨TA⟩ ⟨TB⟩).mono ?_
              rintro e w6 ⟨rfl, hb6⟩
              replace BC := BC.trans (hb6.mono BC.size)
              replace BC0 := BC0.trans (hb6.mono BC0.size)
              rw [meets_name nameA nameB_b]
              obtain ⟨s1, s2, i1, i2, i3, hcl⟩ := clashC_five (cutK nmA p.key now a2 g2 0 c2).nm (cutK nmB x.key now a5 g5 0 c5).nm (meetTB (cutK nmA p.key now a2 g2 0 c2) (cutK nmB x.key now a5 g5 0 c5))
              rw [hcl]
              clear hcl
              replace XA := (hb6.block _ (lt_of_block XA)).trans XA
              clear hb6
              refine hK _ _ ?_
              clear hK K
              refine wpAny_take (i := 7) (v := .tuple #[.agg #[.string s1, .string s2, .int .i64 i1, .int .i64 i2, .int .i64 i3], .bool (meetsK p.key x.key now)]) rfl (by kernel_rfl) (by kernel_rfl) (by kernel_rfl) (fun _ _ _ h => h) (Or.inl ⟨by rfl, fun W => by go_simp⟩) ?_
              refine wpAny_take (i := 8) (v := .agg #[.string s1, .string s2, .int .i64 i1, .int .i64 i2, .int .i64 i3]) rfl (by kernel_rfl) (by kernel_rfl) (by kernel_rfl) (fun _ _ _ h => h) (Or.inl ⟨by rfl, fun W => by go_simp⟩) ?_
              refine wpAny_take (i := 9) (v := .bool (meetsK p.key x.key now)) rfl (by kernel_rfl) (by kernel_rfl) (by kernel_rfl) (fun _ _ _ h => h) (Or.inl ⟨by rfl, fun W => by go_simp⟩) ?_
              refine wpAny_ready (rs := [11]) (by kernel_rfl) (by simp) ?_
              refine AllReady.cons rfl (fun K hK => ?_) ?_
              · have y0 : w6.cell? ⟨W0.heap.size, 0, none⟩ = some (.string ⟨#[]⟩) := by simp [World.cell?, XA]
                have y1 : w6.cell? ⟨W0.heap.size, 1, none⟩ = some (.string ⟨#[]⟩) := by simp [World.cell?, XA]
                have y2 : w6.cell? ⟨W0.heap.size, 2, none⟩ = some (.int .i64 0) := by simp [World.cell?, XA]
                have y3 : w6.cell? ⟨W0.heap.size, 3, none⟩ = some (.int .i64 0) := by simp [World.cell?, XA]
                have y4 : w6.cell? ⟨W0.heap.size, 4, none⟩ = some (.int .i64 0) := by simp [World.cell?, XA]
                have yf : ∀ j, w6.frozen? ⟨W0.heap.size, j, none⟩ = false := fun j => by simp [World.frozen?, XA]
                go_simp
                refine hK _ _ ?_
                clear hK K
                refine wpAny_take (i := 12) (v := .bool (meetsK p.key x.key now)) rfl (by kernel_rfl) (by kernel_rfl) (by kernel_rfl) (fun _ _ _ h => h) (Or.inl ⟨by rfl, fun W => by go_simp⟩) ?_
                refine wpAny_done (by kernel_rfl) ?_ _
                go_wp2
                go_ret
                exact ⟨rfl, by
                  iterate 5 (refine Below.setCell ?_ (by show _ ≤ W0.heap.size; exact zX) _)
                  exact BC⟩
              exact AllReady.nil
            exact AllReady.nil
          exact AllReady.nil
        exact AllReady.nil
      exact AllReady.nil
    exact AllReady.nil
  refine AllReady.cons rfl (fun K hK => ?_) ?_
  · go_simp
    have XA : (W0.drew.alloc (.cells #[.string ⟨#[]⟩, .string ⟨#[]⟩, .int .i64 0, .int .i64 0, .int .i64 0] 127)).heap[W0.heap.size]? = some (.cells #[.string ⟨#[]⟩, .string ⟨#[]⟩, .int .i64 0, .int .i64 0, .int .i64 0] 127 (0, 0)) := heap_alloc_new W0.drew (.cells #[.string ⟨#[]⟩, .string ⟨#[]⟩, .int .i64 0, .int .i64 0, .int .i64 0] 127)
    have zX : w.heap.size ≤ W0.heap.size := BC.size
    replace BC := BC.trans ((bel1 (w := W0.drew) (.cells #[.string ⟨#[]⟩, .string ⟨#[]⟩, .int .i64 0, .int .i64 0, .int .i64 0] 127)).mono BC.size)
    replace BC0 := BC0.trans ((bel1 (w := W0.drew) (.cells #[.string ⟨#[]⟩, .string ⟨#[]⟩, .int .i64 0, .int .i64 0, .int .i64 0] 127)).mono BC0.size)
    refine hK _ _ ?_
    clear hK K
    refine wpAny_ready (rs := [0, 3]) (by kernel_rfl) (by simp) ?_
    refine AllReady.cons rfl (fun K hK => ?_) ?_
    · have l00 : (W0.drew.alloc (.cells #[.string ⟨#[]⟩, .string ⟨#[]⟩, .int .i64 0, .int .i64 0, .int .i64 0] 127)).cell? ⟨w.heap.size, 0, none⟩ = some (.int .i64 p.q) := by rw [BC0.cell (p := ⟨w.heap.size, 0, none⟩) (lt_of_block P0)]; simp [World.cell?, P0]
      have l01 : (W0.drew.alloc (.cells #[.string ⟨#[]⟩, .string ⟨#[]⟩, .int .i64 0, .int .i64 0, .int .i64 0] 127)).cell? ⟨w.heap.size, 1, none⟩ = some (.int .i64 p.s) := by rw [BC0.cell (p := ⟨w.heap.size, 1, none⟩) (lt_of_block P0)]; simp [World.cell?, P0]
      have l02 : (W0.drew.alloc (.cells #[.string ⟨#[]⟩, .string ⟨#[]⟩, .int .i64 0, .int .i64 0, .int .i64 0] 127)).cell? ⟨w.heap.size, 2, none⟩ = some (.slice p.a p.l.length p.cap) := by rw [BC0.cell (p := ⟨w.heap.size, 2, none⟩) (lt_of_block P0)]; simp [World.cell?, P0]
      have l03 : (W0.drew.alloc (.cells #[.string ⟨#[]⟩, .string ⟨#[]⟩, .int .i64 0, .int .i64 0, .int .i64 0] 127)).cell? ⟨w.heap.size, 3, none⟩ = some (.int .i64 p.fr) := by rw [BC0.cell (p := ⟨w.heap.size, 3, none⟩) (lt_of_block P0)]; simp [World.cell?, P0]
      have l04 : (W0.drew.alloc (.cells #[.string ⟨#[]⟩, .string ⟨#[]⟩, .int .i64 0, .int .i64 0, .int .i64 0] 127)).cell? ⟨w.heap.size, 4, none⟩ = some (.int .i64 p.b) := by rw [BC0.cell (p := ⟨w.heap.size, 4, none⟩) (lt_of_block P0)]; simp [World.cell?, P0]
      have m00 : (W0.alloc (.cells #[.string ⟨#[]⟩, .string ⟨#[]⟩, .int .i64 0, .int .i64 0, .int .i64 0] 127)).cell? ⟨w.heap.size, 0, none⟩ = some (.int .i64 p.q) := l00
      have m01 : (W0.alloc (.cells #[.string ⟨#[]⟩, .string ⟨#[]⟩, .int .i64 0, .int .i64 0, .int .i64 0] 127)).cell? ⟨w.heap.size, 1, none⟩ = some (.int .i64 p.s) := l01
      have m02 : (W0.alloc (.cells #[.string ⟨#[]⟩, .string ⟨#[]⟩, .int .i64 0, .int .i64 0, .int .i64 0] 127)).cell? ⟨w.heap.size, 2, none⟩ = some (.slice p.a p.l.length p.cap) := l02
      have m03 : (W0.alloc (.cells #[.string ⟨#[]⟩, .string ⟨#[]⟩, .int .i64 0, .int .i64 0, .int .i64 0] 127)).cell? ⟨w.heap.size, 3, none⟩ = some (.int .i64 p.fr) := l03
      have m04 : (W0.alloc (.cells #[.string ⟨#[]⟩, .string ⟨#[]⟩, .int .i64 0, .int .i64 0, .int .i64 0] 127)).cell? ⟨w.heap.size, 4, none⟩ = some (.int .i64 p.b) := l04
      go_simp
      clear l00 l01 l02 l03 l04 m00 m01 m02 m03 m04
      refine hK _ _ ?_
      clear hK K
      refine wpAny_ready (rs := [2, 3]) (by kernel_rfl) (by simp) ?_
      refine AllReady.cons rfl (fun K hK => ?_) ?_
      · try go_simp
        refine (linkTubeS_any nmA p.q p.s p.fr p.b p.a p.b0 p.o p.cap p.l now _ hpl (hp.below BC hp.lt)).mono ?_
        rintro e w2 ⟨v2, rfl, ho2, hb2⟩
        obtain ⟨a2, g2, c2, rfl, R2⟩ := owns_rowB ho2
        have TA := R2.at_
        replace BC := BC.trans (hb2.mono BC.size)
        replace BC0 := BC0.trans (hb2.mono BC0.size)
        replace XA := (hb2.block _ (lt_of_block XA)).trans XA
        clear hb2 ho2 R2
        refine hK _ _ ?_
        clear hK K
        refine wpAny_ready (rs := [3]) (by kernel_rfl) (by simp) ?_
        refine AllReady.cons rfl (fun K hK => ?_) ?_
        · have l30 : w2.cell? ⟨w.heap.size + 1, 0, none⟩ = some (.int .i64 x.q) := by rw [BC0.cell (p := ⟨w.heap.size + 1, 0, none⟩) (lt_of_block Q0)]; simp [World.cell?, Q0]
          have l31 : w2.cell? ⟨w.heap.size + 1, 1, none⟩ = some (.int .i64 x.s) := by rw [BC0.cell (p := ⟨w.heap.size + 1, 1, none⟩) (lt_of_block Q0)]; simp [World.cell?, Q0]
          have l32 : w2.cell? ⟨w.heap.size + 1, 2, none⟩ = some (.slice x.a x.l.length x.cap) := by rw [BC0.cell (p := ⟨w.heap.size + 1, 2, none⟩) (lt_of_block Q0)]; simp [World.cell?, Q0]
          have l33 : w2.cell? ⟨w.heap.size + 1, 3, none⟩ = some (.int .i64 x.fr) := by rw [BC0.cell (p := ⟨w.heap.size + 1, 3, none⟩) (lt_of_block Q0)]; simp [World.cell?, Q0]
          have l34 : w2.cell? ⟨w.heap.size + 1, 4, none⟩ = some (.int .i64 x.b) := by rw [BC0.cell (p := ⟨w.heap.size + 1, 4, none⟩) (lt_of_block Q0)]; simp [World.cell?, Q0]
          go_simp
          clear l30 l31 l32 l33 l34
          refine hK _ _ ?_
          clear hK K
          refine wpAny_ready (rs := [5]) (by kernel_rfl) (by simp) ?_
          refine AllReady.cons rfl (fun K hK => ?_) ?_
          · try go_simp
            refine (linkTubeS_any nmB x.q x.s x.fr x.b x.a x.b0 x.o x.cap x.l now _ hxl (hx.below BC hx.lt)).mono ?_
            rintro e w5 ⟨v5, rfl, ho5, hb5⟩
            obtain ⟨a5, g5, c5, rfl, R5⟩ := owns_rowB ho5
            have TB := R5.at_
            replace BC := BC.trans (hb5.mono BC.size)
            replace BC0 := BC0.trans (hb5.mono BC0.size)
            replace TA := TA.below hb5 TA.lt
            replace XA := (hb5.block _ (lt_of_block XA)).trans XA
            clear hb5 ho5 R5
            refine hK _ _ ?_
            clear hK K
            refine wpAny_ready (rs := [6]) (by kernel_rfl) (by simp) ?_
            refine AllReady.cons rfl (fun K hK => ?_) ?_
            · try go_simp
              refine (meetS_any (cutK nmA p.key now a2 g2 0 c2) (cutK nmB x.key now a5 g5 0 c5) _ (Nat.le_trans (cutBx_len _ now) (Nat.le_trans (tubeL_len _ _ _ _ _) (by omega))) (Nat.le_trans (cutBx_len _ now) (Nat.le_trans (tubeL_len _ _ _ _ _) (by omega))) ⟨TA⟩ ⟨TB⟩).mono ?_
              rintro e w6 ⟨rfl, hb6⟩
              replace BC := BC.trans (hb6.mono BC.size)
              replace BC0 := BC0.trans (hb6.mono BC0.size)
              rw [meets_name nameA nameB_b]
              obtain ⟨s1, s2, i1, i2, i3, hcl⟩ := clashC_five (cutK nmA p.key now a2 g2 0 c2).nm (cutK nmB x.key now a5 g5 0 c5).nm (meetTB (cutK nmA p.key now a2 g2 0 c2) (cutK nmB x.key now a5 g5 0 c5))
              rw [hcl]
              clear hcl
              replace XA := (hb6.block _ (lt_of_block XA)).trans XA
              clear hb6
              refine hK _ _ ?_
              clear hK K
              refine wpAny_take (i := 7) (v := .tuple #[.agg #[.string s1, .string s2, .int .i64 i1, .int .i64 i2, .int .i64 i3], .bool (meetsK p.key x.key now)]) rfl (by kernel_rfl) (by kernel_rfl) (by kernel_rfl) (fun _ _ _ h => h) (Or.inl ⟨by rfl, fun W => by go_simp⟩) ?_
              refine wpAny_take (i := 8) (v := .agg #[.string s1, .string s2, .int .i64 i1, .int .i64 i2, .int .i64 i3]) rfl (by kernel_rfl) (by kernel_rfl) (by kernel_rfl) (fun _ _ _ h => h) (Or.inl ⟨by rfl, fun W => by go_simp⟩) ?_
              refine wpAny_take (i := 9) (v := .bool (meetsK p.key x.key now)) rfl (by kernel_rfl) (by kernel_rfl) (by kernel_rfl) (fun _ _ _ h => h) (Or.inl ⟨by rfl, fun W => by go_simp⟩) ?_
              refine wpAny_ready (rs := [11]) (by kernel_rfl) (by simp) ?_
              refine AllReady.cons rfl (fun K hK => ?_) ?_
              · have y0 : w6.cell? ⟨W0.heap.size, 0, none⟩ = some (.string ⟨#[]⟩) := by simp [World.cell?, XA]
                have y1 : w6.cell? ⟨W0.heap.size, 1, none⟩ = some (.string ⟨#[]⟩) := by simp [World.cell?, XA]
                have y2 : w6.cell? ⟨W0.heap.size, 2, none⟩ = some (.int .i64 0) := by simp [World.cell?, XA]
                have y3 : w6.cell? ⟨W0.heap.size, 3, none⟩ = some (.int .i64 0) := by simp [World.cell?, XA]
                have y4 : w6.cell? ⟨W0.heap.size, 4, none⟩ = some (.int .i64 0) := by simp [World.cell?, XA]
                have yf : ∀ j, w6.frozen? ⟨W0.heap.size, j, none⟩ = false := fun j => by simp [World.frozen?, XA]
                go_simp
                refine hK _ _ ?_
                clear hK K
                refine wpAny_take (i := 12) (v := .bool (meetsK p.key x.key now)) rfl (by kernel_rfl) (by kernel_rfl) (by kernel_rfl) (fun _ _ _ h => h) (Or.inl ⟨by rfl, fun W => by go_simp⟩) ?_
                refine wpAny_done (by kernel_rfl) ?_ _
                go_wp2
                go_ret
                exact ⟨rfl, by
                  iterate 5 (refine Below.setCell ?_ (by show _ ≤ W0.heap.size; exact zX) _)
                  exact BC⟩
              exact AllReady.nil
            exact AllReady.nil
          exact AllReady.nil
        exact AllReady.nil
      refine AllReady.cons rfl (fun K hK => ?_) ?_
      · have l30 : (W0.drew.alloc (.cells #[.string ⟨#[]⟩, .string ⟨#[]⟩, .int .i64 0, .int .i64 0, .int .i64 0] 127)).cell? ⟨w.heap.size + 1, 0, none⟩ = some (.int .i64 x.q) := by rw [BC0.cell (p := ⟨w.heap.size + 1, 0, none⟩) (lt_of_block Q0)]; simp [World.cell?, Q0]
        have l31 : (W0.drew.alloc (.cells #[.string ⟨#[]⟩, .string ⟨#[]⟩, .int .i64 0, .int .i64 0, .int .i64 0] 127)).cell? ⟨w.heap.size + 1, 1, none⟩ = some (.int .i64 x.s) := by rw [BC0.cell (p := ⟨w.heap.size + 1, 1, none⟩) (lt_of_block Q0)]; simp [World.cell?, Q0]
        have l32 : (W0.drew.alloc (.cells #[.string ⟨#[]⟩, .string ⟨#[]⟩, .int .i64 0, .int .i64 0, .int .i64 0] 127)).cell? ⟨w.heap.size + 1, 2, none⟩ = some (.slice x.a x.l.length x.cap) := by rw [BC0.cell (p := ⟨w.heap.size + 1, 2, none⟩) (lt_of_block Q0)]; simp [World.cell?, Q0]
        have l33 : (W0.drew.alloc (.cells #[.string ⟨#[]⟩, .string ⟨#[]⟩, .int .i64 0, .int .i64 0, .int .i64 0] 127)).cell? ⟨w.heap.size + 1, 3, none⟩ = some (.int .i64 x.fr) := by rw [BC0.cell (p := ⟨w.heap.size + 1, 3, none⟩) (lt_of_block Q0)]; simp [World.cell?, Q0]
        have l34 : (W0.drew.alloc (.cells #[.string ⟨#[]⟩, .string ⟨#[]⟩, .int .i64 0, .int .i64 0, .int .i64 0] 127)).cell? ⟨w.heap.size + 1, 4, none⟩ = some (.int .i64 x.b) := by rw [BC0.cell (p := ⟨w.heap.size + 1, 4, none⟩) (lt_of_block Q0)]; simp [World.cell?, Q0]
        have m30 : (W0.alloc (.cells #[.string ⟨#[]⟩, .string ⟨#[]⟩, .int .i64 0, .int .i64 0, .int .i64 0] 127)).cell? ⟨w.heap.size + 1, 0, none⟩ = some (.int .i64 x.q) := l30
        have m31 : (W0.alloc (.cells #[.string ⟨#[]⟩, .string ⟨#[]⟩, .int .i64 0, .int .i64 0, .int .i64 0] 127)).cell? ⟨w.heap.size + 1, 1, none⟩ = some (.int .i64 x.s) := l31
        have m32 : (W0.alloc (.cells #[.string ⟨#[]⟩, .string ⟨#[]⟩, .int .i64 0, .int .i64 0, .int .i64 0] 127)).cell? ⟨w.heap.size + 1, 2, none⟩ = some (.slice x.a x.l.length x.cap) := l32
        have m33 : (W0.alloc (.cells #[.string ⟨#[]⟩, .string ⟨#[]⟩, .int .i64 0, .int .i64 0, .int .i64 0] 127)).cell? ⟨w.heap.size + 1, 3, none⟩ = some (.int .i64 x.fr) := l33
        have m34 : (W0.alloc (.cells #[.string ⟨#[]⟩, .string ⟨#[]⟩, .int .i64 0, .int .i64 0, .int .i64 0] 127)).cell? ⟨w.heap.size + 1, 4, none⟩ = some (.int .i64 x.b) := l34
        go_simp
        clear l30 l31 l32 l33 l34 m30 m31 m32 m33 m34
        refine hK _ _ ?_
        clear hK K
        refine wpAny_ready (rs := [2]) (by kernel_rfl) (by simp) ?_
        refine AllReady.cons rfl (fun K hK => ?_) ?_
        · try go_simp
          refine (linkTubeS_any nmA p.q p.s p.fr p.b p.a p.b0 p.o p.cap p.l now _ hpl (hp.below BC hp.lt)).mono ?_
          rintro e w2 ⟨v2, rfl, ho2, hb2⟩
          obtain ⟨a2, g2, c2, rfl, R2⟩ := owns_rowB ho2
          have TA := R2.at_
          replace BC := BC.trans (hb2.mono BC.size)
          replace BC0 := BC0.trans (hb2.mono BC0.size)
          replace XA := (hb2.block _ (lt_of_block XA)).trans XA
          clear hb2 ho2 R2
          refine hK _ _ ?_
          clear hK K
          refine wpAny_ready (rs := [5]) (by kernel_rfl) (by simp) ?_
          refine AllReady.cons rfl (fun K hK => ?_) ?_
          · try go_simp
            refine (linkTubeS_any nmB x.q x.s x.fr x.b x.a x.b0 x.o x.cap x.l now _ hxl (hx.below BC hx.lt)).mono ?_
            rintro e w5 ⟨v5, rfl, ho5, hb5⟩
            obtain ⟨a5, g5, c5, rfl, R5⟩ := owns_rowB ho5
            have TB := R5.at_
            replace BC := BC.trans (hb5.mono BC.size)
            replace BC0 := BC0.trans (hb5.mono BC0.size)
            replace TA := TA.below hb5 TA.lt
            replace XA := (hb5.block _ (lt_of_block XA)).trans XA
            clear hb5 ho5 R5
            refine hK _ _ ?_
            clear hK K
            refine wpAny_ready (rs := [6]) (by kernel_rfl) (by simp) ?_
            refine AllReady.cons rfl (fun K hK => ?_) ?_
            · try go_simp
              refine (meetS_any (cutK nmA p.key now a2 g2 0 c2) (cutK nmB x.key now a5 g5 0 c5) _ (Nat.le_trans (cutBx_len _ now) (Nat.le_trans (tubeL_len _ _ _ _ _) (by omega))) (Nat.le_trans (cutBx_len _ now) (Nat.le_trans (tubeL_len _ _ _ _ _) (by omega))) ⟨TA⟩ ⟨TB⟩).mono ?_
              rintro e w6 ⟨rfl, hb6⟩
              replace BC := BC.trans (hb6.mono BC.size)
              replace BC0 := BC0.trans (hb6.mono BC0.size)
              rw [meets_name nameA nameB_b]
              obtain ⟨s1, s2, i1, i2, i3, hcl⟩ := clashC_five (cutK nmA p.key now a2 g2 0 c2).nm (cutK nmB x.key now a5 g5 0 c5).nm (meetTB (cutK nmA p.key now a2 g2 0 c2) (cutK nmB x.key now a5 g5 0 c5))
              rw [hcl]
              clear hcl
              replace XA := (hb6.block _ (lt_of_block XA)).trans XA
              clear hb6
              refine hK _ _ ?_
              clear hK K
              refine wpAny_take (i := 7) (v := .tuple #[.agg #[.string s1, .string s2, .int .i64 i1, .int .i64 i2, .int .i64 i3], .bool (meetsK p.key x.key now)]) rfl (by kernel_rfl) (by kernel_rfl) (by kernel_rfl) (fun _ _ _ h => h) (Or.inl ⟨by rfl, fun W => by go_simp⟩) ?_
              refine wpAny_take (i := 8) (v := .agg #[.string s1, .string s2, .int .i64 i1, .int .i64 i2, .int .i64 i3]) rfl (by kernel_rfl) (by kernel_rfl) (by kernel_rfl) (fun _ _ _ h => h) (Or.inl ⟨by rfl, fun W => by go_simp⟩) ?_
              refine wpAny_take (i := 9) (v := .bool (meetsK p.key x.key now)) rfl (by kernel_rfl) (by kernel_rfl) (by kernel_rfl) (fun _ _ _ h => h) (Or.inl ⟨by rfl, fun W => by go_simp⟩) ?_
              refine wpAny_ready (rs := [11]) (by kernel_rfl) (by simp) ?_
              refine AllReady.cons rfl (fun K hK => ?_) ?_
              · have y0 : w6.cell? ⟨W0.heap.size, 0, none⟩ = some (.string ⟨#[]⟩) := by simp [World.cell?, XA]
                have y1 : w6.cell? ⟨W0.heap.size, 1, none⟩ = some (.string ⟨#[]⟩) := by simp [World.cell?, XA]
                have y2 : w6.cell? ⟨W0.heap.size, 2, none⟩ = some (.int .i64 0) := by simp [World.cell?, XA]
                have y3 : w6.cell? ⟨W0.heap.size, 3, none⟩ = some (.int .i64 0) := by simp [World.cell?, XA]
                have y4 : w6.cell? ⟨W0.heap.size, 4, none⟩ = some (.int .i64 0) := by simp [World.cell?, XA]
                have yf : ∀ j, w6.frozen? ⟨W0.heap.size, j, none⟩ = false := fun j => by simp [World.frozen?, XA]
                go_simp
                refine hK _ _ ?_
                clear hK K
                refine wpAny_take (i := 12) (v := .bool (meetsK p.key x.key now)) rfl (by kernel_rfl) (by kernel_rfl) (by kernel_rfl) (fun _ _ _ h => h) (Or.inl ⟨by rfl, fun W => by go_simp⟩) ?_
                refine wpAny_done (by kernel_rfl) ?_ _
                go_wp2
                go_ret
                exact ⟨rfl, by
                  iterate 5 (refine Below.setCell ?_ (by show _ ≤ W0.heap.size; exact zX) _)
                  exact BC⟩
              exact AllReady.nil
            exact AllReady.nil
          exact AllReady.nil
        exact AllReady.nil
      exact AllReady.nil
    refine AllReady.cons rfl (fun K hK => ?_) ?_
    · have l30 : (W0.drew.alloc (.cells #[.string ⟨#[]⟩, .string ⟨#[]⟩, .int .i64 0, .int .i64 0, .int .i64 0] 127)).cell? ⟨w.heap.size + 1, 0, none⟩ = some (.int .i64 x.q) := by rw [BC0.cell (p := ⟨w.heap.size + 1, 0, none⟩) (lt_of_block Q0)]; simp [World.cell?, Q0]
      have l31 : (W0.drew.alloc (.cells #[.string ⟨#[]⟩, .string ⟨#[]⟩, .int .i64 0, .int .i64 0, .int .i64 0] 127)).cell? ⟨w.heap.size + 1, 1, none⟩ = some (.int .i64 x.s) := by rw [BC0.cell (p := ⟨w.heap.size + 1, 1, none⟩) (lt_of_block Q0)]; simp [World.cell?, Q0]
      have l32 : (W0.drew.alloc (.cells #[.string ⟨#[]⟩, .string ⟨#[]⟩, .int .i64 0, .int .i64 0, .int .i64 0] 127)).cell? ⟨w.heap.size + 1, 2, none⟩ = some (.slice x.a x.l.length x.cap) := by rw [BC0.cell (p := ⟨w.heap.size + 1, 2, none⟩) (lt_of_block Q0)]; simp [World.cell?, Q0]
      have l33 : (W0.drew.alloc (.cells #[.string ⟨#[]⟩, .string ⟨#[]⟩, .int .i64 0, .int .i64 0, .int .i64 0] 127)).cell? ⟨w.heap.size + 1, 3, none⟩ = some (.int .i64 x.fr) := by rw [BC0.cell (p := ⟨w.heap.size + 1, 3, none⟩) (lt_of_block Q0)]; simp [World.cell?, Q0]
      have l34 : (W0.drew.alloc (.cells #[.string ⟨#[]⟩, .string ⟨#[]⟩, .int .i64 0, .int .i64 0, .int .i64 0] 127)).cell? ⟨w.heap.size + 1, 4, none⟩ = some (.int .i64 x.b) := by rw [BC0.cell (p := ⟨w.heap.size + 1, 4, none⟩) (lt_of_block Q0)]; simp [World.cell?, Q0]
      have m30 : (W0.alloc (.cells #[.string ⟨#[]⟩, .string ⟨#[]⟩, .int .i64 0, .int .i64 0, .int .i64 0] 127)).cell? ⟨w.heap.size + 1, 0, none⟩ = some (.int .i64 x.q) := l30
      have m31 : (W0.alloc (.cells #[.string ⟨#[]⟩, .string ⟨#[]⟩, .int .i64 0, .int .i64 0, .int .i64 0] 127)).cell? ⟨w.heap.size + 1, 1, none⟩ = some (.int .i64 x.s) := l31
      have m32 : (W0.alloc (.cells #[.string ⟨#[]⟩, .string ⟨#[]⟩, .int .i64 0, .int .i64 0, .int .i64 0] 127)).cell? ⟨w.heap.size + 1, 2, none⟩ = some (.slice x.a x.l.length x.cap) := l32
      have m33 : (W0.alloc (.cells #[.string ⟨#[]⟩, .string ⟨#[]⟩, .int .i64 0, .int .i64 0, .int .i64 0] 127)).cell? ⟨w.heap.size + 1, 3, none⟩ = some (.int .i64 x.fr) := l33
      have m34 : (W0.alloc (.cells #[.string ⟨#[]⟩, .string ⟨#[]⟩, .int .i64 0, .int .i64 0, .int .i64 0] 127)).cell? ⟨w.heap.size + 1, 4, none⟩ = some (.int .i64 x.b) := l34
      go_simp
      clear l30 l31 l32 l33 l34 m30 m31 m32 m33 m34
      refine hK _ _ ?_
      clear hK K
      refine wpAny_ready (rs := [0]) (by kernel_rfl) (by simp) ?_
      refine AllReady.cons rfl (fun K hK => ?_) ?_
      · have l00 : (W0.drew.alloc (.cells #[.string ⟨#[]⟩, .string ⟨#[]⟩, .int .i64 0, .int .i64 0, .int .i64 0] 127)).cell? ⟨w.heap.size, 0, none⟩ = some (.int .i64 p.q) := by rw [BC0.cell (p := ⟨w.heap.size, 0, none⟩) (lt_of_block P0)]; simp [World.cell?, P0]
        have l01 : (W0.drew.alloc (.cells #[.string ⟨#[]⟩, .string ⟨#[]⟩, .int .i64 0, .int .i64 0, .int .i64 0] 127)).cell? ⟨w.heap.size, 1, none⟩ = some (.int .i64 p.s) := by rw [BC0.cell (p := ⟨w.heap.size, 1, none⟩) (lt_of_block P0)]; simp [World.cell?, P0]
        have l02 : (W0.drew.alloc (.cells #[.string ⟨#[]⟩, .string ⟨#[]⟩, .int .i64 0, .int .i64 0, .int .i64 0] 127)).cell? ⟨w.heap.size, 2, none⟩ = some (.slice p.a p.l.length p.cap) := by rw [BC0.cell (p := ⟨w.heap.size, 2, none⟩) (lt_of_block P0)]; simp [World.cell?, P0]
        have l03 : (W0.drew.alloc (.cells #[.string ⟨#[]⟩, .string ⟨#[]⟩, .int .i64 0, .int .i64 0, .int .i64 0] 127)).cell? ⟨w.heap.size, 3, none⟩ = some (.int .i64 p.fr) := by rw [BC0.cell (p := ⟨w.heap.size, 3, none⟩) (lt_of_block P0)]; simp [World.cell?, P0]
        have l04 : (W0.drew.alloc (.cells #[.string ⟨#[]⟩, .string ⟨#[]⟩, .int .i64 0, .int .i64 0, .int .i64 0] 127)).cell? ⟨w.heap.size, 4, none⟩ = some (.int .i64 p.b) := by rw [BC0.cell (p := ⟨w.heap.size, 4, none⟩) (lt_of_block P0)]; simp [World.cell?, P0]
        have m00 : (W0.alloc (.cells #[.string ⟨#[]⟩, .string ⟨#[]⟩, .int .i64 0, .int .i64 0, .int .i64 0] 127)).cell? ⟨w.heap.size, 0, none⟩ = some (.int .i64 p.q) := l00
        have m01 : (W0.alloc (.cells #[.string ⟨#[]⟩, .string ⟨#[]⟩, .int .i64 0, .int .i64 0, .int .i64 0] 127)).cell? ⟨w.heap.size, 1, none⟩ = some (.int .i64 p.s) := l01
        have m02 : (W0.alloc (.cells #[.string ⟨#[]⟩, .string ⟨#[]⟩, .int .i64 0, .int .i64 0, .int .i64 0] 127)).cell? ⟨w.heap.size, 2, none⟩ = some (.slice p.a p.l.length p.cap) := l02
        have m03 : (W0.alloc (.cells #[.string ⟨#[]⟩, .string ⟨#[]⟩, .int .i64 0, .int .i64 0, .int .i64 0] 127)).cell? ⟨w.heap.size, 3, none⟩ = some (.int .i64 p.fr) := l03
        have m04 : (W0.alloc (.cells #[.string ⟨#[]⟩, .string ⟨#[]⟩, .int .i64 0, .int .i64 0, .int .i64 0] 127)).cell? ⟨w.heap.size, 4, none⟩ = some (.int .i64 p.b) := l04
        go_simp
        clear l00 l01 l02 l03 l04 m00 m01 m02 m03 m04
        refine hK _ _ ?_
        clear hK K
        refine wpAny_ready (rs := [2]) (by kernel_rfl) (by simp) ?_
        refine AllReady.cons rfl (fun K hK => ?_) ?_
        · try go_simp
          refine (linkTubeS_any nmA p.q p.s p.fr p.b p.a p.b0 p.o p.cap p.l now _ hpl (hp.below BC hp.lt)).mono ?_
          rintro e w2 ⟨v2, rfl, ho2, hb2⟩
          obtain ⟨a2, g2, c2, rfl, R2⟩ := owns_rowB ho2
          have TA := R2.at_
          replace BC := BC.trans (hb2.mono BC.size)
          replace BC0 := BC0.trans (hb2.mono BC0.size)
          replace XA := (hb2.block _ (lt_of_block XA)).trans XA
          clear hb2 ho2 R2
          refine hK _ _ ?_
          clear hK K
          refine wpAny_ready (rs := [5]) (by kernel_rfl) (by simp) ?_
          refine AllReady.cons rfl (fun K hK => ?_) ?_
          · try go_simp
            refine (linkTubeS_any nmB x.q x.s x.fr x.b x.a x.b0 x.o x.cap x.l now _ hxl (hx.below BC hx.lt)).mono ?_
            rintro e w5 ⟨v5, rfl, ho5, hb5⟩
            obtain ⟨a5, g5, c5, rfl, R5⟩ := owns_rowB ho5
            have TB := R5.at_
            replace BC := BC.trans (hb5.mono BC.size)
            replace BC0 := BC0.trans (hb5.mono BC0.size)
            replace TA := TA.below hb5 TA.lt
            replace XA := (hb5.block _ (lt_of_block XA)).trans XA
            clear hb5 ho5 R5
            refine hK _ _ ?_
            clear hK K
            refine wpAny_ready (rs := [6]) (by kernel_rfl) (by simp) ?_
            refine AllReady.cons rfl (fun K hK => ?_) ?_
            · try go_simp
              refine (meetS_any (cutK nmA p.key now a2 g2 0 c2) (cutK nmB x.key now a5 g5 0 c5) _ (Nat.le_trans (cutBx_len _ now) (Nat.le_trans (tubeL_len _ _ _ _ _) (by omega))) (Nat.le_trans (cutBx_len _ now) (Nat.le_trans (tubeL_len _ _ _ _ _) (by omega))) ⟨TA⟩ ⟨TB⟩).mono ?_
              rintro e w6 ⟨rfl, hb6⟩
              replace BC := BC.trans (hb6.mono BC.size)
              replace BC0 := BC0.trans (hb6.mono BC0.size)
              rw [meets_name nameA nameB_b]
              obtain ⟨s1, s2, i1, i2, i3, hcl⟩ := clashC_five (cutK nmA p.key now a2 g2 0 c2).nm (cutK nmB x.key now a5 g5 0 c5).nm (meetTB (cutK nmA p.key now a2 g2 0 c2) (cutK nmB x.key now a5 g5 0 c5))
              rw [hcl]
              clear hcl
              replace XA := (hb6.block _ (lt_of_block XA)).trans XA
              clear hb6
              refine hK _ _ ?_
              clear hK K
              refine wpAny_take (i := 7) (v := .tuple #[.agg #[.string s1, .string s2, .int .i64 i1, .int .i64 i2, .int .i64 i3], .bool (meetsK p.key x.key now)]) rfl (by kernel_rfl) (by kernel_rfl) (by kernel_rfl) (fun _ _ _ h => h) (Or.inl ⟨by rfl, fun W => by go_simp⟩) ?_
              refine wpAny_take (i := 8) (v := .agg #[.string s1, .string s2, .int .i64 i1, .int .i64 i2, .int .i64 i3]) rfl (by kernel_rfl) (by kernel_rfl) (by kernel_rfl) (fun _ _ _ h => h) (Or.inl ⟨by rfl, fun W => by go_simp⟩) ?_
              refine wpAny_take (i := 9) (v := .bool (meetsK p.key x.key now)) rfl (by kernel_rfl) (by kernel_rfl) (by kernel_rfl) (fun _ _ _ h => h) (Or.inl ⟨by rfl, fun W => by go_simp⟩) ?_
              refine wpAny_ready (rs := [11]) (by kernel_rfl) (by simp) ?_
              refine AllReady.cons rfl (fun K hK => ?_) ?_
              · have y0 : w6.cell? ⟨W0.heap.size, 0, none⟩ = some (.string ⟨#[]⟩) := by simp [World.cell?, XA]
                have y1 : w6.cell? ⟨W0.heap.size, 1, none⟩ = some (.string ⟨#[]⟩) := by simp [World.cell?, XA]
                have y2 : w6.cell? ⟨W0.heap.size, 2, none⟩ = some (.int .i64 0) := by simp [World.cell?, XA]
                have y3 : w6.cell? ⟨W0.heap.size, 3, none⟩ = some (.int .i64 0) := by simp [World.cell?, XA]
                have y4 : w6.cell? ⟨W0.heap.size, 4, none⟩ = some (.int .i64 0) := by simp [World.cell?, XA]
                have yf : ∀ j, w6.frozen? ⟨W0.heap.size, j, none⟩ = false := fun j => by simp [World.frozen?, XA]
                go_simp
                refine hK _ _ ?_
                clear hK K
                refine wpAny_take (i := 12) (v := .bool (meetsK p.key x.key now)) rfl (by kernel_rfl) (by kernel_rfl) (by kernel_rfl) (fun _ _ _ h => h) (Or.inl ⟨by rfl, fun W => by go_simp⟩) ?_
                refine wpAny_done (by kernel_rfl) ?_ _
                go_wp2
                go_ret
                exact ⟨rfl, by
                  iterate 5 (refine Below.setCell ?_ (by show _ ≤ W0.heap.size; exact zX) _)
                  exact BC⟩
              exact AllReady.nil
            exact AllReady.nil
          exact AllReady.nil
        exact AllReady.nil
      exact AllReady.nil
    exact AllReady.nil
  exact AllReady.nil
end Go.Proofs.YtgjleeamhkolhaaGreatDoor

namespace Go.Proofs.YtgjleeamhkolhaaGreatDoor
open Go.RowKit

theorem meetsS_val (p x : Pt) (now : Int) (v : Bool) (w : World) (hpl : p.l.length ≤ 1048576) (hxl : x.l.length ≤ 1048576) (hp : PtAt w p) (hx : PtAt w x) (hv : meetsK p.key x.key now = v) :
    Calls Tryz.prog 61 #[p.val, x.val, .int .i64 now] w fun e w' => e = .returned (.bool v) ∧ Below w.heap.size w w' := by
  rw [← hv]; exact meetsS_any p x now w hpl hxl hp hx

set_option maxHeartbeats 4000000 in
set_option maxRecDepth 20000 in
theorem nearS_any (t u : Hd) (now : Int) (v : Bool) (w : World) (htp : t.p.l.length ≤ 1048576) (htx : t.x.l.length ≤ 1048576) (hup : u.p.l.length ≤ 1048576) (hux : u.x.l.length ≤ 1048576) (ht : HdAt w t) (hu : HdAt w u) (hv : nearH t u now = v) :
    Calls Tryz.prog 55 #[t.val, u.val, .int .i64 now] w fun e w' => e = .returned (.bool v) ∧ Below w.heap.size w w' := by
  unfold nearH at hv
  have B := bel2 (w := w) (.cells #[.string t.nm, .int .i64 t.n, .int .i64 t.p.q, .int .i64 t.p.s, .slice t.p.a t.p.l.length t.p.cap, .int .i64 t.p.fr, .int .i64 t.p.b, .int .i64 t.sn, .int .i64 t.x.q, .int .i64 t.x.s, .slice t.x.a t.x.l.length t.x.cap, .int .i64 t.x.fr, .int .i64 t.x.b] 63) (.cells #[.string u.nm, .int .i64 u.n, .int .i64 u.p.q, .int .i64 u.p.s, .slice u.p.a u.p.l.length u.p.cap, .int .i64 u.p.fr, .int .i64 u.p.b, .int .i64 u.sn, .int .i64 u.x.q, .int .i64 u.x.s, .slice u.x.a u.x.l.length u.x.cap, .int .i64 u.x.fr, .int .i64 u.x.b] 63)
  have X := (HdIn.new w t 63).keep (bel1 (.cells #[.string u.nm, .int .i64 u.n, .int .i64 u.p.q, .int .i64 u.p.s, .slice u.p.a u.p.l.length u.p.cap, .int .i64 u.p.fr, .int .i64 u.p.b, .int .i64 u.sn, .int .i64 u.x.q, .int .i64 u.x.s, .slice u.x.a u.x.l.length u.x.cap, .int .i64 u.x.fr, .int .i64 u.x.b] 63)) (HdIn.new w t 63).lt
  have Y := HdIn.new (w.alloc (.cells #[.string t.nm, .int .i64 t.n, .int .i64 t.p.q, .int .i64 t.p.s, .slice t.p.a t.p.l.length t.p.cap, .int .i64 t.p.fr, .int .i64 t.p.b, .int .i64 t.sn, .int .i64 t.x.q, .int .i64 t.x.s, .slice t.x.a t.x.l.length t.x.cap, .int .i64 t.x.fr, .int .i64 t.x.b] 63)) u 63
  rw [World.size_alloc] at Y
  obtain ⟨c0, c1, c2, c3, c4, c5, c6, c7, c8, c9, c10, c11, c12⟩ := cl_cells X.cs
  obtain ⟨d0, d1, d2, d3, d4, d5, d6, d7, d8, d9, d10, d11, d12⟩ := cl_cells Y.cs
  simp only [Nat.zero_add] at c0 c1 c2 c3 c4 c5 c6 c7 c8 c9 c10 c11 c12 d0 d1 d2 d3 d4 d5 d6 d7 d8 d9 d10 d11 d12
  go_enter Tryz.func55, Tryz.ntmps55
  cases hm : meetsK t.p.key u.p.key now with
  | true =>
    obtain rfl : true = v := by rw [← hv, hm] <;> simp
    clear hv
    go_wp2_with (go_at_call 61; refine (meetsS_val t.p u.p now true _ htp hup (ht.p.below B ht.p.lt) (hu.p.below B hu.p.lt) hm).mono ?_; rintro e wn ⟨rfl, hbn⟩)
    go_ret
    exact ⟨rfl, B.trans (hbn.mono B.size)⟩
  | false =>
    rw [hm, Bool.false_or] at hv
    go_wp2_with fail
    refine (meetsS_val t.p u.p now false _ htp hup (ht.p.below B ht.p.lt) (hu.p.below B hu.p.lt) hm).mono ?_
    rintro e wn ⟨rfl, hbn⟩
    replace B := B.trans (hbn.mono B.size)
    replace X := X.keep hbn X.lt
    replace Y := Y.keep hbn Y.lt
    clear c0 c1 c2 c3 c4 c5 c6 c7 c8 c9 c10 c11 c12 d0 d1 d2 d3 d4 d5 d6 d7 d8 d9 d10 d11 d12 hbn hm
    obtain ⟨c0, c1, c2, c3, c4, c5, c6, c7, c8, c9, c10, c11, c12⟩ := cl_cells X.cs
    obtain ⟨d0, d1, d2, d3, d4, d5, d6, d7, d8, d9, d10, d11, d12⟩ := cl_cells Y.cs
    simp only [Nat.zero_add] at c0 c1 c2 c3 c4 c5 c6 c7 c8 c9 c10 c11 c12 d0 d1 d2 d3 d4 d5 d6 d7 d8 d9 d10 d11 d12
    cases hm : meetsK t.p.key u.x.key now with
    | true =>
      obtain rfl : true = v := by rw [← hv, hm] <;> simp
      clear hv
      go_wp2_with (go_at_call 61; refine (meetsS_val t.p u.x now true _ htp hux (ht.p.below B ht.p.lt) (hu.x.below B hu.x.lt) hm).mono ?_; rintro e wn ⟨rfl, hbn⟩)
      go_ret
      exact ⟨rfl, B.trans (hbn.mono B.size)⟩
    | false =>
      rw [hm, Bool.false_or] at hv
      go_wp2_with fail
      refine (meetsS_val t.p u.x now false _ htp hux (ht.p.below B ht.p.lt) (hu.x.below B hu.x.lt) hm).mono ?_
      rintro e wn ⟨rfl, hbn⟩
      replace B := B.trans (hbn.mono B.size)
      replace X := X.keep hbn X.lt
      replace Y := Y.keep hbn Y.lt
      clear c0 c1 c2 c3 c4 c5 c6 c7 c8 c9 c10 c11 c12 d0 d1 d2 d3 d4 d5 d6 d7 d8 d9 d10 d11 d12 hbn hm
      obtain ⟨c0, c1, c2, c3, c4, c5, c6, c7, c8, c9, c10, c11, c12⟩ := cl_cells X.cs
      obtain ⟨d0, d1, d2, d3, d4, d5, d6, d7, d8, d9, d10, d11, d12⟩ := cl_cells Y.cs
      simp only [Nat.zero_add] at c0 c1 c2 c3 c4 c5 c6 c7 c8 c9 c10 c11 c12 d0 d1 d2 d3 d4 d5 d6 d7 d8 d9 d10 d11 d12
      cases hm : meetsK t.x.key u.p.key now with
      | true =>
        obtain rfl : true = v := by rw [← hv, hm] <;> simp
        clear hv
        go_wp2_with (go_at_call 61; refine (meetsS_val t.x u.p now true _ htx hup (ht.x.below B ht.x.lt) (hu.p.below B hu.p.lt) hm).mono ?_; rintro e wn ⟨rfl, hbn⟩)
        go_ret
        exact ⟨rfl, B.trans (hbn.mono B.size)⟩
      | false =>
        rw [hm, Bool.false_or] at hv
        go_wp2_with fail
        refine (meetsS_val t.x u.p now false _ htx hup (ht.x.below B ht.x.lt) (hu.p.below B hu.p.lt) hm).mono ?_
        rintro e wn ⟨rfl, hbn⟩
        replace B := B.trans (hbn.mono B.size)
        replace X := X.keep hbn X.lt
        replace Y := Y.keep hbn Y.lt
        clear c0 c1 c2 c3 c4 c5 c6 c7 c8 c9 c10 c11 c12 d0 d1 d2 d3 d4 d5 d6 d7 d8 d9 d10 d11 d12 hbn hm
        obtain ⟨c0, c1, c2, c3, c4, c5, c6, c7, c8, c9, c10, c11, c12⟩ := cl_cells X.cs
        obtain ⟨d0, d1, d2, d3, d4, d5, d6, d7, d8, d9, d10, d11, d12⟩ := cl_cells Y.cs
        simp only [Nat.zero_add] at c0 c1 c2 c3 c4 c5 c6 c7 c8 c9 c10 c11 c12 d0 d1 d2 d3 d4 d5 d6 d7 d8 d9 d10 d11 d12
        cases hm : meetsK t.x.key u.x.key now with
        | true =>
          obtain rfl : true = v := by rw [← hv, hm] <;> simp
          clear hv
          go_wp2_with (go_at_call 61; refine (meetsS_val t.x u.x now true _ htx hux (ht.x.below B ht.x.lt) (hu.x.below B hu.x.lt) hm).mono ?_; rintro e wn ⟨rfl, hbn⟩)
          go_ret
          exact ⟨rfl, B.trans (hbn.mono B.size)⟩
        | false =>
          obtain rfl : false = v := by rw [← hv, hm] <;> rfl
          clear hv
          go_wp2_with (go_at_call 61; refine (meetsS_val t.x u.x now false _ htx hux (ht.x.below B ht.x.lt) (hu.x.below B hu.x.lt) hm).mono ?_; rintro e wn ⟨rfl, hbn⟩)
          go_ret
          exact ⟨rfl, B.trans (hbn.mono B.size)⟩

set_option maxRecDepth 20000 in
theorem sameS_any (t u : Hd) (v : Bool) (w : World) (hv : sameH t u = v) :
    Calls Tryz.prog 54 #[t.val, u.val] w fun e w' => e = .returned (.bool v) ∧ Below w.heap.size w w' := by
  unfold sameH at hv
  have B := bel2 (w := w) (.cells #[.string t.nm, .int .i64 t.n, .int .i64 t.p.q, .int .i64 t.p.s, .slice t.p.a t.p.l.length t.p.cap, .int .i64 t.p.fr, .int .i64 t.p.b, .int .i64 t.sn, .int .i64 t.x.q, .int .i64 t.x.s, .slice t.x.a t.x.l.length t.x.cap, .int .i64 t.x.fr, .int .i64 t.x.b] 63) (.cells #[.string u.nm, .int .i64 u.n, .int .i64 u.p.q, .int .i64 u.p.s, .slice u.p.a u.p.l.length u.p.cap, .int .i64 u.p.fr, .int .i64 u.p.b, .int .i64 u.sn, .int .i64 u.x.q, .int .i64 u.x.s, .slice u.x.a u.x.l.length u.x.cap, .int .i64 u.x.fr, .int .i64 u.x.b] 63)
  cases h1 : (t.n == u.n) with
  | true =>
    obtain rfl : true = v := by rw [← hv, h1]; rfl
    clear hv
    go_enter Tryz.func54, Tryz.ntmps54
    go_wp2
    go_ret
    exact ⟨rfl, B⟩
  | false =>
    rw [h1, Bool.false_or] at hv
    cases h2 : (t.n == u.sn) with
    | true =>
      obtain rfl : true = v := by rw [← hv, h2]; rfl
      clear hv
      go_enter Tryz.func54, Tryz.ntmps54
      go_wp2
      go_ret
      exact ⟨rfl, B⟩
    | false =>
      rw [h2, Bool.false_or] at hv
      cases h3 : (t.sn == u.n) with
      | true =>
        obtain rfl : true = v := by rw [← hv, h3]; rfl
        clear hv
        go_enter Tryz.func54, Tryz.ntmps54
        go_wp2
        go_ret
        exact ⟨rfl, B⟩
      | false =>
        rw [h3, Bool.false_or] at hv
        cases h4 : (t.sn == u.sn) with
        | false =>
          obtain rfl : false = v := by rw [← hv, h4]; rfl
          clear hv
          go_enter Tryz.func54, Tryz.ntmps54
          go_wp2
          go_ret
          exact ⟨rfl, B⟩
        | true =>
          rw [h4, Bool.true_and] at hv
          by_cases h5 : 0 < t.sn
          · obtain rfl : true = v := by rw [← hv] <;> simp [h5]
            clear hv
            go_enter Tryz.func54, Tryz.ntmps54
            go_wp2
            go_ret
            exact ⟨rfl, B⟩
          · obtain rfl : false = v := by rw [← hv] <;> simp [h5]
            clear hv
            go_enter Tryz.func54, Tryz.ntmps54
            go_wp2
            go_ret
            exact ⟨rfl, B⟩
end Go.Proofs.YtgjleeamhkolhaaGreatDoor

namespace Go.Proofs.YtgjleeamhkolhaaGreatDoor
open Go.RowKit

set_option maxHeartbeats 8000000 in
set_option maxRecDepth 20000 in
theorem bookS_any (la now : Int) (a : Option Addr) (b o ca : Nat) (ts : List Hd) (v : Bool) (w : World) (hl : ts.length ≤ 1048576) (hsm : ∀ t ∈ ts, t.p.l.length ≤ 1048576 ∧ t.x.l.length ≤ 1048576) (hs : HdsAt w a b o ts) (hv : bookS la now ts = v) :
    Calls Tryz.prog 23 #[.agg #[.int .i64 la, .slice a ts.length ca], .int .i64 now] w fun e w' => e = .returned (.bool v) ∧ Below w.heap.size w w' := by
  have B0 := bel1 (w := w) (.cells #[.int .i64 la, .slice a ts.length ca] 34)
  have X0 := Cbx.new w #[.int .i64 la, .slice a ts.length ca] 34
  unfold bookS at hv
  by_cases h8 : ts.length ≤ 8
  · rw [decide_eq_true h8, Bool.true_and] at hv
    have h8' : ¬ (8 : Int) < (ts.length : Int) := by omega
    cases hn : inB now 0 10000 with
    | false =>
      obtain rfl : false = v := by rw [← hv, hn]; rfl
      have HN : Hid (inB now 0 10000 = false) := hn
      clear hv hn
      go_enter Tryz.func23, Tryz.ntmps23
      go_wp2_with (go_at_call 52; refine (in_val now 0 10000 false _ HN.out).mono ?_; rintro e w1 ⟨rfl, rfl⟩)
      go_ret
      exact ⟨rfl, B0⟩
    | true =>
      rw [hn, Bool.true_and] at hv
      have HN : Hid (inB now 0 10000 = true) := hn
      clear hn
      cases hn : inB la 0 1000000 with
      | false =>
        obtain rfl : false = v := by rw [← hv, hn]; rfl
        have HL : Hid (inB la 0 1000000 = false) := hn
        clear hv hn
        go_enter Tryz.func23, Tryz.ntmps23
        go_wp2_with fail
        refine (in_val now 0 10000 true _ HN.out).mono ?_
        rintro e w1 ⟨rfl, rfl⟩
        go_wp2_with fail
        refine (in_val la 0 1000000 false _ HL.out).mono ?_
        rintro e w1 ⟨rfl, rfl⟩
        go_wp2
        go_ret
        exact ⟨rfl, B0⟩
      | true =>
        rw [hn, Bool.true_and] at hv
        have HL : Hid (inB la 0 1000000 = true) := hn
        have HV : Hid (rowsTo la now ts ts.length = v) := hv
        clear hv hn
        go_enter Tryz.func23, Tryz.ntmps23
        go_wp2_with fail
        refine (in_val now 0 10000 true _ HN.out).mono ?_
        rintro e w1 ⟨rfl, rfl⟩
        go_wp2_with fail
        refine (in_val la 0 1000000 true _ HL.out).mono ?_
        rintro e w1 ⟨rfl, rfl⟩
        go_wp2
        go_loopw [5] (fun x wr => ∃ k : Nat, k ≤ ts.length ∧ x = .int .i64 k ∧ Below w.heap.size w wr ∧ Cbx wr w.heap.size #[.int .i64 la, .slice a ts.length ca] ∧ rowsTo la now ts k = true) (fun x _ => ts.length - (intOf x).toNat)
        case atStart => exact ⟨0, Nat.zero_le _, rfl, B0, X0, rfl⟩
        case round =>
          clear X0 B0
          obtain ⟨k, hk, rfl, hb, hX, hrk⟩ := hrel
          have HRK : Hid (rowsTo la now ts k = true) := hrk
          clear hrk
          have r0 : wr.cell? ⟨w.heap.size, 0, none⟩ = some (.int .i64 la) := hX.c 0
          have r1 : wr.cell? ⟨w.heap.size, 1, none⟩ = some (.slice a ts.length ca) := hX.c 1
          by_cases hlt : k < ts.length
          · obtain ⟨t, htk⟩ : ∃ t, ts[k]? = some t := ⟨ts[k], List.getElem?_eq_getElem hlt⟩
            have hne : ts ≠ [] := by intro e; subst e; simp at hlt
            obtain rfl := hs.here hne
            have htm := List.mem_of_getElem? htk
            have hm := hsm t htm
            have hsb := hs.below hb
            have BA := hb.trans ((bel1 (w := wr) (.cells #[.string t.nm, .int .i64 t.n, .int .i64 t.p.q, .int .i64 t.p.s, .slice t.p.a t.p.l.length t.p.cap, .int .i64 t.p.fr, .int .i64 t.p.b, .int .i64 t.sn, .int .i64 t.x.q, .int .i64 t.x.s, .slice t.x.a t.x.l.length t.x.cap, .int .i64 t.x.fr, .int .i64 t.x.b] 63)).mono hb.size)
            have XA := hX.keep (bel1 (.cells #[.string t.nm, .int .i64 t.n, .int .i64 t.p.q, .int .i64 t.p.s, .slice t.p.a t.p.l.length t.p.cap, .int .i64 t.p.fr, .int .i64 t.p.b, .int .i64 t.sn, .int .i64 t.x.q, .int .i64 t.x.s, .slice t.x.a t.x.l.length t.x.cap, .int .i64 t.x.fr, .int .i64 t.x.b] 63))
            have YA := HdIn.new wr t 63
            have HT : Hid (ts[k]? = some t) := htk
            obtain ⟨rr0, rr1, r2, r3, r4, r5, r6, r7, r8, r9, r10, r11, r12⟩ := cl_cells (hsb.cell _ _ htk)
            have c0 : (wr.alloc (.cells #[.string t.nm, .int .i64 t.n, .int .i64 t.p.q, .int .i64 t.p.s, .slice t.p.a t.p.l.length t.p.cap, .int .i64 t.p.fr, .int .i64 t.p.b, .int .i64 t.sn, .int .i64 t.x.q, .int .i64 t.x.s, .slice t.x.a t.x.l.length t.x.cap, .int .i64 t.x.fr, .int .i64 t.x.b] 63)).cell? ⟨w.heap.size, 0, none⟩ = some (.int .i64 la) := XA.c 0
            have c1 : (wr.alloc (.cells #[.string t.nm, .int .i64 t.n, .int .i64 t.p.q, .int .i64 t.p.s, .slice t.p.a t.p.l.length t.p.cap, .int .i64 t.p.fr, .int .i64 t.p.b, .int .i64 t.sn, .int .i64 t.x.q, .int .i64 t.x.s, .slice t.x.a t.x.l.length t.x.cap, .int .i64 t.x.fr, .int .i64 t.x.b] 63)).cell? ⟨w.heap.size, 1, none⟩ = some (.slice (some ⟨b, o, none⟩) ts.length ca) := XA.c 1
            obtain ⟨d0, d1, d2, d3, d4, d5, d6, d7, d8, d9, d10, d11, d12⟩ := cl_cells YA.cs
            simp only [Nat.zero_add] at d0 d1 d2 d3 d4 d5 d6 d7 d8 d9 d10 d11 d12
            have q0 := Cls.cell (w := (wr.alloc (.cells #[.string t.nm, .int .i64 t.n, .int .i64 t.p.q, .int .i64 t.p.s, .slice t.p.a t.p.l.length t.p.cap, .int .i64 t.p.fr, .int .i64 t.p.b, .int .i64 t.sn, .int .i64 t.x.q, .int .i64 t.x.s, .slice t.x.a t.x.l.length t.x.cap, .int .i64 t.x.fr, .int .i64 t.x.b] 63))) (b := b) (Nat.lt_of_lt_of_le (hs.lt hne) BA.size)
            have q1 := Cls.cell (w := (wr.alloc (.cells #[.string t.nm, .int .i64 t.n, .int .i64 t.p.q, .int .i64 t.p.s, .slice t.p.a t.p.l.length t.p.cap, .int .i64 t.p.fr, .int .i64 t.p.b, .int .i64 t.sn, .int .i64 t.x.q, .int .i64 t.x.s, .slice t.x.a t.x.l.length t.x.cap, .int .i64 t.x.fr, .int .i64 t.x.b] 63))) XA.lt
            have q2 := Cls.cell (w := (wr.alloc (.cells #[.string t.nm, .int .i64 t.n, .int .i64 t.p.q, .int .i64 t.p.s, .slice t.p.a t.p.l.length t.p.cap, .int .i64 t.p.fr, .int .i64 t.p.b, .int .i64 t.sn, .int .i64 t.x.q, .int .i64 t.x.s, .slice t.x.a t.x.l.length t.x.cap, .int .i64 t.x.fr, .int .i64 t.x.b] 63))) YA.lt
            have qn := Cls.any (wr.alloc (.cells #[.string t.nm, .int .i64 t.n, .int .i64 t.p.q, .int .i64 t.p.s, .slice t.p.a t.p.l.length t.p.cap, .int .i64 t.p.fr, .int .i64 t.p.b, .int .i64 t.sn, .int .i64 t.x.q, .int .i64 t.x.s, .slice t.x.a t.x.l.length t.x.cap, .int .i64 t.x.fr, .int .i64 t.x.b] 63))
            have hH : ∀ u : Cls (wr.alloc (.cells #[.string t.nm, .int .i64 t.n, .int .i64 t.p.q, .int .i64 t.p.s, .slice t.p.a t.p.l.length t.p.cap, .int .i64 t.p.fr, .int .i64 t.p.b, .int .i64 t.sn, .int .i64 t.x.q, .int .i64 t.x.s, .slice t.x.a t.x.l.length t.x.cap, .int .i64 t.x.fr, .int .i64 t.x.b] 63)), Calls Tryz.prog 53 #[t.val] u.it fun e w' => e = .returned (.bool (heldB t)) ∧ Below u.it.heap.size u.it w' := fun u => heldOkS_any t _ u.it hm.1 hm.2 (((hs.each t htm).below BA).below u.same) rfl
            clear htk
            cases hh : heldB t with
            | false =>
              rw [hh] at hH
              have k0 : (0 : Int) ≤ (k : Int) := by omega
              have k1 : (k : Int) < (ts.length : Int) := by omega
              obtain rfl : false = v := by rw [← HV.out]; exact (rowsTo_not HT.out (by unfold rowB; rw [hh]; simp only [Bool.false_and])).symm
              go_wp2
              refine wp_region_cls (by kernel_rfl) (by kernel_rfl) ?_
              repeat (go_big_quiet_step ((go_at_call 53; exact Calls.cls_of (hH _))))
              refine wpQuiet_nil ?_
              rintro _ ⟨u, rfl⟩
              clear c0 c1 d0 d1 d2 d3 d4 d5 d6 d7 d8 d9 d10 d11 d12 hH q0 q1 q2 qn
              go_wp2
              go_ret
              exact ⟨rfl, BA.trans (u.same.mono BA.size)⟩
            | true =>
              have HH : Hid (heldB t = true) := hh
              rw [hh] at hH
              clear hh
              by_cases hn1 : t.n ≤ la
              · have hn1' : decide (la < t.n) = false := decide_eq_false (by omega)
                by_cases hn2 : t.sn ≤ la
                · have hn2' : decide (la < t.sn) = false := decide_eq_false (by omega)
                  rcases k with _ | m
                  · have HASC : Hid (ascAt (ts.map nkey) 0 = true) := by show _ = _; rfl
                    have k1 : (0 : Int) < (ts.length : Int) := by omega
                    simp only [Nat.zero_mul, Nat.add_zero] at rr0 rr1 r2 r3 r4 r5 r6 r7 r8 r9 r10 r11 r12
                    go_wp2
                    refine wp_region_cls (by kernel_rfl) (by kernel_rfl) ?_
                    repeat (go_big_quiet_step ((go_at_call 53; exact Calls.cls_of (hH _))))
                    refine wpQuiet_nil ?_
                    rintro w2 ⟨u, hu⟩
                    clear c0 c1 d0 d1 d2 d3 d4 d5 d6 d7 d8 d9 d10 d11 d12 hH q0 q1 q2 qn
                    have hb2 := u.same
                    rw [← hu] at hb2
                    clear hu u
                    have B2 := BA.trans (hb2.mono BA.size)
                    have X2 := XA.keep hb2
                    have Y2 := YA.keep hb2 YA.lt
                    have hs2 := hs.below B2
                    clear hb2 BA XA YA hsb
                    generalize wr.heap.size = HB at Y2 ⊢
                    go_wp2
                    go_loopw [7] (fun x wi => ∃ j : Nat, j ≤ 0 ∧ x = .int .i64 j ∧ Below w2.heap.size w2 wi ∧ (ts.take j).all (fun u => !(sameH u t || nearH u t now)) = true) (fun x _ => 0 - (intOf x).toNat)
                    case atStart => exact ⟨0, Nat.zero_le _, rfl, Below.refl _ _, rfl⟩
                    case round =>
                      obtain ⟨j, hj, rfl, hbi, hal⟩ := hrel
                      have HA : Hid ((ts.take j).all (fun u => !(sameH u t || nearH u t now)) = true) := hal
                      have BI := B2.trans (hbi.mono B2.size)
                      clear hal
                      by_cases hjl : j < 0
                      · exact absurd hjl (by omega)
                      · obtain rfl : j = 0 := by omega
                        have HR : Hid (rowsTo la now ts (0 + 1) = true) := by
                          show _ = _
                          rw [rowsTo_succ HT.out, HRK.out]
                          unfold rowB
                          rw [HA.out, HH.out, decide_eq_true hn1, decide_eq_true hn2, HASC.out]
                          rfl
                        have j2 : ¬ ((0 : Int) < (0 : Int)) := by omega
                        go_wp2
                        go_roundw
                        case rel => exact ⟨0 + 1, by omega, by go_num, (B2.trans (hbi.mono B2.size)), X2.keep hbi, HR.out⟩
                        case measure => simp [intOf]; omega
                  · obtain ⟨s, hsk⟩ : ∃ s, ts[m]? = some s := ⟨ts[m]'(by omega), List.getElem?_eq_getElem _⟩
                    have g0 : (wr.alloc (.cells #[.string t.nm, .int .i64 t.n, .int .i64 t.p.q, .int .i64 t.p.s, .slice t.p.a t.p.l.length t.p.cap, .int .i64 t.p.fr, .int .i64 t.p.b, .int .i64 t.sn, .int .i64 t.x.q, .int .i64 t.x.s, .slice t.x.a t.x.l.length t.x.cap, .int .i64 t.x.fr, .int .i64 t.x.b] 63)).cell? ⟨b, o + m * 13, none⟩ = some (.string s.nm) := (cl_cells ((hs.below BA).cell _ _ hsk)).1
                    have HSM : Hid (ts[m]? = some s) := hsk
                    have k0 : (0 : Int) ≤ (m : Int) := by omega
                    have k1 : (m : Int) + 1 < (ts.length : Int) := by omega
                    have k2 : (m : Int) < (ts.length : Int) := by omega
                    have k4 : (0 : Int) ≤ (m : Int) + 1 := by omega
                    have k6 : (0 : Int) < (m : Int) + 1 := by omega
                    have k6' : decide ((0 : Int) < (m : Int) + 1) = true := decide_eq_true k6
                    have k5 : IntKind.i64.wrap (m : Int) = (m : Int) := by rw [IntKind.wrap_i64]; omega
                    have k7 : m < ts.length := by omega
                    clear hsk
                    cases h2 : ltN s.nm t.nm with
                    | false =>
                      have HASC : Hid (ascAt (ts.map nkey) (m + 1) = false) := by show _ = _; rw [ascAt_n HSM.out HT.out, h2]
                      have h2' : Op.bytesLess s.nm.toList t.nm.toList = false := h2
                      clear h2
                      obtain rfl : false = v := by rw [← HV.out]; exact (rowsTo_not HT.out (by unfold rowB; rw [HASC.out]; simp only [Bool.false_and, Bool.and_false])).symm
                      go_wp2
                      refine wp_region_cls (by kernel_rfl) (by kernel_rfl) ?_
                      repeat (go_big_quiet_step ((go_at_call 53; exact Calls.cls_of (hH _))))
                      refine wpQuiet_nil ?_
                      rintro _ ⟨u, rfl⟩
                      clear c0 c1 d0 d1 d2 d3 d4 d5 d6 d7 d8 d9 d10 d11 d12 hH q0 q1 q2 qn
                      go_wp2
                      go_ret
                      exact ⟨rfl, BA.trans (u.same.mono BA.size)⟩
                    | true =>
                      have HASC : Hid (ascAt (ts.map nkey) (m + 1) = true) := by show _ = _; rw [ascAt_n HSM.out HT.out, h2]
                      have h2' : Op.bytesLess s.nm.toList t.nm.toList = true := h2
                      clear h2
                      go_wp2
                      refine wp_region_cls (by kernel_rfl) (by kernel_rfl) ?_
                      repeat (go_big_quiet_step ((go_at_call 53; exact Calls.cls_of (hH _))))
                      refine wpQuiet_nil ?_
                      rintro w2 ⟨u, hu⟩
                      clear c0 c1 d0 d1 d2 d3 d4 d5 d6 d7 d8 d9 d10 d11 d12 hH q0 q1 q2 qn
                      have hb2 := u.same
                      rw [← hu] at hb2
                      clear hu u
                      have B2 := BA.trans (hb2.mono BA.size)
                      have X2 := XA.keep hb2
                      have Y2 := YA.keep hb2 YA.lt
                      have hs2 := hs.below B2
                      clear hb2 BA XA YA hsb
                      generalize wr.heap.size = HB at Y2 ⊢
                      go_wp2
                      go_loopw [7] (fun x wi => ∃ j : Nat, j ≤ (m + 1) ∧ x = .int .i64 j ∧ Below w2.heap.size w2 wi ∧ (ts.take j).all (fun u => !(sameH u t || nearH u t now)) = true) (fun x _ => (m + 1) - (intOf x).toNat)
                      case atStart => exact ⟨0, Nat.zero_le _, rfl, Below.refl _ _, rfl⟩
                      case round =>
                        obtain ⟨j, hj, rfl, hbi, hal⟩ := hrel
                        have HA : Hid ((ts.take j).all (fun u => !(sameH u t || nearH u t now)) = true) := hal
                        have BI := B2.trans (hbi.mono B2.size)
                        clear hal
                        by_cases hjl : j < (m + 1)
                        · obtain ⟨s, hsj⟩ : ∃ s, ts[j]? = some s := ⟨ts[j]'(by omega), List.getElem?_eq_getElem _⟩
                          have hsi := hs2.below hbi
                          have hms := List.mem_of_getElem? hsj
                          obtain ⟨f0, f1, f2, f3, f4, f5, f6, f7, f8, f9, f10, f11, f12⟩ := cl_cells (hsi.cell _ _ hsj)
                          obtain ⟨e0, e1, e2, e3, e4, e5, e6, e7, e8, e9, e10, e11, e12⟩ := cl_cells (Y2.keep hbi Y2.lt).cs
                          simp only [Nat.zero_add] at e0 e1 e2 e3 e4 e5 e6 e7 e8 e9 e10 e11 e12
                          have y0 : wr.cell? ⟨w.heap.size, 0, none⟩ = some (.int .i64 la) := (X2.keep hbi).c 0
                          have y1 : wr.cell? ⟨w.heap.size, 1, none⟩ = some (.slice (some ⟨b, o, none⟩) ts.length ca) := (X2.keep hbi).c 1
                          have p0 := Cls.cell (hsi.lt hne)
                          have p1 := Cls.cell (X2.keep hbi).lt
                          have p2 := Cls.cell (Y2.keep hbi Y2.lt).lt
                          have pn := Cls.any wr
                          have j0 : (0 : Int) ≤ (j : Int) := by omega
                          have j1 : (j : Int) < (ts.length : Int) := by omega
                          have j2 : (j : Int) < ((m : Int) + 1) := by omega
                          have HSJ : Hid (ts[j]? = some s) := hsj
                          have hS : ∀ u : Cls wr, Calls Tryz.prog 54 #[s.val, t.val] u.it fun e w' => e = .returned (.bool (sameH s t)) ∧ Below u.it.heap.size u.it w' := fun u => sameS_any s t _ u.it rfl
                          have hN : ∀ u : Cls wr, Calls Tryz.prog 55 #[s.val, t.val, .int .i64 now] u.it fun e w' => e = .returned (.bool (nearH s t now)) ∧ Below u.it.heap.size u.it w' := fun u => nearS_any s t now _ u.it (hsm s hms).1 (hsm s hms).2 hm.1 hm.2 ((hsi.each s hms).below u.same) ((hsi.each t htm).below u.same) rfl
                          have HNO : Hid ((sameH s t || nearH s t now) = true → rowsTo la now ts ts.length = false) := fun h => by
                            refine rowsTo_not HT.out ?_
                            unfold rowB
                            have : ((ts.take ((m + 1))).all fun u => !(sameH u t || nearH u t now)) = false := by
                              rw [List.all_eq_false]
                              exact ⟨s, List.mem_take_iff_getElem.2 ⟨j, by have := (List.getElem?_eq_some_iff.1 HSJ.out).1; omega, (List.getElem?_eq_some_iff.1 HSJ.out).2⟩, by rw [h]; decide⟩
                            rw [this]
                            simp only [Bool.and_false]
                          clear hsj
                          cases h1 : sameH s t with
                          | true =>
                            obtain rfl : false = v := by rw [← HV.out]; exact (HNO.out (by rw [h1]; rfl)).symm
                            rw [h1] at hS
                            clear h1
                            go_wp2
                            refine wp_region_cls (by kernel_rfl) (by kernel_rfl) ?_
                            repeat (go_big_quiet_step ((first | (go_at_call 54; exact Calls.cls_of (hS _)) | (go_at_call 55; exact Calls.cls_of (hN _)))))
                            refine wpQuiet_nil ?_
                            rintro _ ⟨u3, rfl⟩
                            clear y0 y1 e0 e1 e2 e3 e4 e5 e6 e7 e8 e9 e10 e11 e12 f0 f1 f2 f3 f4 f5 f6 f7 f8 f9 f10 f11 f12 hS hN p0 p1 p2 pn
                            go_wp2
                            go_ret
                            exact ⟨rfl, BI.trans (u3.same.mono BI.size)⟩
                          | false =>
                            rw [h1] at hS
                            cases h2 : nearH s t now with
                            | true =>
                              obtain rfl : false = v := by rw [← HV.out]; exact (HNO.out (by rw [h1, h2]; rfl)).symm
                              rw [h2] at hN
                              clear h1 h2
                              go_wp2
                              refine wp_region_cls (by kernel_rfl) (by kernel_rfl) ?_
                              repeat (go_big_quiet_step ((first | (go_at_call 54; exact Calls.cls_of (hS _)) | (go_at_call 55; exact Calls.cls_of (hN _)))))
                              refine wpQuiet_nil ?_
                              rintro _ ⟨u3, rfl⟩
                              clear y0 y1 e0 e1 e2 e3 e4 e5 e6 e7 e8 e9 e10 e11 e12 f0 f1 f2 f3 f4 f5 f6 f7 f8 f9 f10 f11 f12 hS hN p0 p1 p2 pn
                              go_wp2
                              go_ret
                              exact ⟨rfl, BI.trans (u3.same.mono BI.size)⟩
                            | false =>
                              have HNX : Hid ((ts.take (j + 1)).all (fun u => !(sameH u t || nearH u t now)) = true) := by show _ = _; rw [all_takeH ts _ HSJ.out, HA.out, h1, h2]; rfl
                              rw [h2] at hN
                              clear h1 h2
                              go_wp2
                              refine wp_region_cls (by kernel_rfl) (by kernel_rfl) ?_
                              repeat (go_big_quiet_step ((first | (go_at_call 54; exact Calls.cls_of (hS _)) | (go_at_call 55; exact Calls.cls_of (hN _)))))
                              refine wpQuiet_nil ?_
                              rintro _ ⟨u3, rfl⟩
                              clear y0 y1 e0 e1 e2 e3 e4 e5 e6 e7 e8 e9 e10 e11 e12 f0 f1 f2 f3 f4 f5 f6 f7 f8 f9 f10 f11 f12 hS hN p0 p1 p2 pn
                              go_wp2
                              go_roundw
                              case rel => exact ⟨j + 1, by omega, by go_num, hbi.trans (u3.same.mono hbi.size), HNX.out⟩
                              case measure => simp [intOf]; omega
                        · obtain rfl : j = (m + 1) := by omega
                          have HR : Hid (rowsTo la now ts ((m + 1) + 1) = true) := by
                            show _ = _
                            rw [rowsTo_succ HT.out, HRK.out]
                            unfold rowB
                            rw [HA.out, HH.out, decide_eq_true hn1, decide_eq_true hn2, HASC.out]
                            rfl
                          have j2 : ¬ (((m : Int) + 1) < ((m : Int) + 1)) := by omega
                          go_wp2
                          go_roundw
                          case rel => exact ⟨(m + 1) + 1, by omega, by go_num, (B2.trans (hbi.mono B2.size)), X2.keep hbi, HR.out⟩
                          case measure => simp [intOf]; omega
                · have hn2' : decide (la < t.sn) = true := decide_eq_true (by omega)
                  have k0 : (0 : Int) ≤ (k : Int) := by omega
                  have k1 : (k : Int) < (ts.length : Int) := by omega
                  obtain rfl : false = v := by rw [← HV.out]; exact (rowsTo_not HT.out (by unfold rowB; rw [HH.out, decide_eq_false hn2]; simp only [Bool.false_and, Bool.and_false])).symm
                  go_wp2
                  refine wp_region_cls (by kernel_rfl) (by kernel_rfl) ?_
                  repeat (go_big_quiet_step ((go_at_call 53; exact Calls.cls_of (hH _))))
                  refine wpQuiet_nil ?_
                  rintro _ ⟨u, rfl⟩
                  clear c0 c1 d0 d1 d2 d3 d4 d5 d6 d7 d8 d9 d10 d11 d12 hH q0 q1 q2 qn
                  go_wp2
                  go_ret
                  exact ⟨rfl, BA.trans (u.same.mono BA.size)⟩
              · have hn1' : decide (la < t.n) = true := decide_eq_true (by omega)
                have k0 : (0 : Int) ≤ (k : Int) := by omega
                have k1 : (k : Int) < (ts.length : Int) := by omega
                obtain rfl : false = v := by rw [← HV.out]; exact (rowsTo_not HT.out (by unfold rowB; rw [HH.out, decide_eq_false hn1]; simp only [Bool.false_and, Bool.and_false])).symm
                go_wp2
                refine wp_region_cls (by kernel_rfl) (by kernel_rfl) ?_
                repeat (go_big_quiet_step ((go_at_call 53; exact Calls.cls_of (hH _))))
                refine wpQuiet_nil ?_
                rintro _ ⟨u, rfl⟩
                clear c0 c1 d0 d1 d2 d3 d4 d5 d6 d7 d8 d9 d10 d11 d12 hH q0 q1 q2 qn
                go_wp2
                go_ret
                exact ⟨rfl, BA.trans (u.same.mono BA.size)⟩
          · obtain rfl : k = ts.length := by omega
            obtain rfl : true = v := by rw [← HV.out]; exact HRK.out.symm
            go_wp2
            go_ret
            exact ⟨rfl, hb⟩
  · obtain rfl : false = v := by rw [← hv, decide_eq_false h8]; rfl
    have h8' : (8 : Int) < (ts.length : Int) := by omega
    clear hv
    go_enter Tryz.func23, Tryz.ntmps23
    go_wp2
    go_ret
    exact ⟨rfl, B0⟩
end Go.Proofs.YtgjleeamhkolhaaGreatDoor
