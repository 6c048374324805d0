/- Joined texts: LkMeetsN, LkMeetsS. -/
import Derived.Test.YtfmdejilhbankaaGreatPbMeetD
import Derived.Test.YtfmdejilhbankaaGreatJ05
import Derived.Test.YtfmdejilhbankaaGreatPbMeetS2
namespace Go.Proofs.YtfmdejilhbankaaGreat
open Go.RowKit

theorem clashC_five (x y : ByteArray) (c : Cl) : ∃ s1 s2 i1 i2 i3, clashC x y c = #[.string s1, .string s2, .int .i64 i1, .int .i64 i2, .int .i64 i3] := by
  rcases c with _ | ⟨t, i, j⟩
  · exact ⟨_, _, _, _, _, rfl⟩
  · exact ⟨_, _, _, _, _, rfl⟩
theorem namesT_apart {a b : ByteArray} (h : ¬ a = b) : (a.toList == b.toList) = false := by
  cases hh : (a.toList == b.toList) with
  | false => rfl
  | true =>
    rw [ByteArray.toList_eq, ByteArray.toList_eq] at hh
    have e := eq_of_beq hh
    obtain ⟨⟨x⟩⟩ := a
    obtain ⟨⟨y⟩⟩ := b
    exact absurd (by simp at e; subst e; rfl) h
end Go.Proofs.YtfmdejilhbankaaGreat

namespace Go.Proofs.YtfmdejilhbankaaGreat
open Go.RowKit

abbrev nmB : ByteArray := ⟨#[98]⟩
theorem nameB_b : nameB nmB = true := by decide +kernel
set_option maxHeartbeats 8000000 in
set_option maxRecDepth 20000 in
theorem meetsS_any (p x : Pt) (now : Int) (w : World) (hpl : p.l.length ≤ 1048576) (hxl : x.l.length ≤ 1048576) (hp : PtAt w p) (hx : PtAt w x) :
    Calls Tryz.prog 51 #[p.val, x.val, .int .i64 now] w fun e w' => e = .returned (.bool (meetsK p.key x.key now)) ∧ Below w.heap.size w w' := by
  obtain ⟨W0, hW0⟩ : ∃ W0, ((w.alloc (.cells #[.int .i64 p.q, .int .i64 p.s, .slice p.a p.l.length p.cap, .int .i64 p.fr, .int .i64 p.b] 43)).alloc (.cells #[.int .i64 x.q, .int .i64 x.s, .slice x.a x.l.length x.cap, .int .i64 x.fr, .int .i64 x.b] 43)) = W0 := ⟨_, rfl⟩
  have B0 : Below w.heap.size w W0 := by rw [← hW0]; exact bel2 _ _
  have P0 : W0.heap[w.heap.size]? = some (.cells #[.int .i64 p.q, .int .i64 p.s, .slice p.a p.l.length p.cap, .int .i64 p.fr, .int .i64 p.b] 43 (0, 0)) := by
    rw [← hW0]
    have h := heap_alloc_new w (.cells #[.int .i64 p.q, .int .i64 p.s, .slice p.a p.l.length p.cap, .int .i64 p.fr, .int .i64 p.b] 43)
    exact ((bel1 _).block _ (lt_of_block h)).trans h
  have Q0 : W0.heap[w.heap.size + 1]? = some (.cells #[.int .i64 x.q, .int .i64 x.s, .slice x.a x.l.length x.cap, .int .i64 x.fr, .int .i64 x.b] 43 (0, 0)) := by
    rw [← hW0]
    have h := heap_alloc_new (w.alloc (.cells #[.int .i64 p.q, .int .i64 p.s, .slice p.a p.l.length p.cap, .int .i64 p.fr, .int .i64 p.b] 43)) (.cells #[.int .i64 x.q, .int .i64 x.s, .slice x.a x.l.length x.cap, .int .i64 x.fr, .int .i64 x.b] 43)
    rwa [World.size_alloc] at h
  have BC : Below w.heap.size w W0.drew := B0.drew
  have BC0 : Below W0.heap.size W0 W0.drew := (Below.refl _ _).drew
  go_enter Tryz.func51, Tryz.ntmps51
  go_wp2_with fail
  clear hW0
  refine wp_region_any (by kernel_rfl) ?_
  change wpAny _ _ _ _ _ _ _ (World.drew _)
  refine wpAny_take (i := 1) (v := .int .i64 now) rfl (by kernel_rfl) (by kernel_rfl) (by kernel_rfl) (fun _ _ _ h => h) (Or.inl ⟨by rfl, fun W => by go_simp⟩) ?_
  refine wpAny_take (i := 4) (v := .int .i64 now) rfl (by kernel_rfl) (by kernel_rfl) (by kernel_rfl) (fun _ _ _ h => h) (Or.inl ⟨by rfl, fun W => by go_simp⟩) ?_
  refine wpAny_ready (rs := [0, 3, 10]) (by kernel_rfl) (by simp) ?_
  refine AllReady.cons rfl (fun K hK => ?_) ?_
  · have l00 : W0.drew.cell? ⟨w.heap.size, 0, none⟩ = some (.int .i64 p.q) := by rw [BC0.cell (p := ⟨w.heap.size, 0, none⟩) (lt_of_block P0)]; simp [World.cell?, P0]
    have l01 : W0.drew.cell? ⟨w.heap.size, 1, none⟩ = some (.int .i64 p.s) := by rw [BC0.cell (p := ⟨w.heap.size, 1, none⟩) (lt_of_block P0)]; simp [World.cell?, P0]
    have l02 : W0.drew.cell? ⟨w.heap.size, 2, none⟩ = some (.slice p.a p.l.length p.cap) := by rw [BC0.cell (p := ⟨w.heap.size, 2, none⟩) (lt_of_block P0)]; simp [World.cell?, P0]
    have l03 : W0.drew.cell? ⟨w.heap.size, 3, none⟩ = some (.int .i64 p.fr) := by rw [BC0.cell (p := ⟨w.heap.size, 3, none⟩) (lt_of_block P0)]; simp [World.cell?, P0]
    have l04 : W0.drew.cell? ⟨w.heap.size, 4, none⟩ = some (.int .i64 p.b) := by rw [BC0.cell (p := ⟨w.heap.size, 4, none⟩) (lt_of_block P0)]; simp [World.cell?, P0]
    go_simp
    clear l00 l01 l02 l03 l04
    refine hK _ _ ?_
    clear hK K
    refine wpAny_ready (rs := [2, 3, 10]) (by kernel_rfl) (by simp) ?_
    refine AllReady.cons rfl (fun K hK => ?_) ?_
    · try go_simp
      refine (linkTubeS_any nmA p.q p.s p.fr p.b p.a p.b0 p.o p.cap p.l now _ hpl (hp.below BC hp.lt)).mono ?_
      rintro e w2 ⟨v2, rfl, ho2, hb2⟩
      obtain ⟨a2, g2, c2, rfl, R2⟩ := owns_rowB ho2
      have TA := R2.at_
      replace BC := BC.trans (hb2.mono BC.size)
      replace BC0 := BC0.trans (hb2.mono BC0.size)
      clear hb2 ho2 R2
      refine hK _ _ ?_
      clear hK K
      refine wpAny_ready (rs := [3, 10]) (by kernel_rfl) (by simp) ?_
      refine AllReady.cons rfl (fun K hK => ?_) ?_
      · have l30 : w2.cell? ⟨w.heap.size + 1, 0, none⟩ = some (.int .i64 x.q) := by rw [BC0.cell (p := ⟨w.heap.size + 1, 0, none⟩) (lt_of_block Q0)]; simp [World.cell?, Q0]
        have l31 : w2.cell? ⟨w.heap.size + 1, 1, none⟩ = some (.int .i64 x.s) := by rw [BC0.cell (p := ⟨w.heap.size + 1, 1, none⟩) (lt_of_block Q0)]; simp [World.cell?, Q0]
        have l32 : w2.cell? ⟨w.heap.size + 1, 2, none⟩ = some (.slice x.a x.l.length x.cap) := by rw [BC0.cell (p := ⟨w.heap.size + 1, 2, none⟩) (lt_of_block Q0)]; simp [World.cell?, Q0]
        have l33 : w2.cell? ⟨w.heap.size + 1, 3, none⟩ = some (.int .i64 x.fr) := by rw [BC0.cell (p := ⟨w.heap.size + 1, 3, none⟩) (lt_of_block Q0)]; simp [World.cell?, Q0]
        have l34 : w2.cell? ⟨w.heap.size + 1, 4, none⟩ = some (.int .i64 x.b) := by rw [BC0.cell (p := ⟨w.heap.size + 1, 4, none⟩) (lt_of_block Q0)]; simp [World.cell?, Q0]
        go_simp
        clear l30 l31 l32 l33 l34
        refine hK _ _ ?_
        clear hK K
        refine wpAny_ready (rs := [5, 10]) (by kernel_rfl) (by simp) ?_
        refine AllReady.cons rfl (fun K hK => ?_) ?_
        · try go_simp
          refine (linkTubeS_any nmB x.q x.s x.fr x.b x.a x.b0 x.o x.cap x.l now _ hxl (hx.below BC hx.lt)).mono ?_
          rintro e w5 ⟨v5, rfl, ho5, hb5⟩
          obtain ⟨a5, g5, c5, rfl, R5⟩ := owns_rowB ho5
          have TB := R5.at_
          replace BC := BC.trans (hb5.mono BC.size)
          replace BC0 := BC0.trans (hb5.mono BC0.size)
          replace TA := TA.below hb5 TA.lt
          clear hb5 ho5 R5
          refine hK _ _ ?_
          clear hK K
          refine wpAny_ready (rs := [6, 10]) (by kernel_rfl) (by simp) ?_
          refine AllReady.cons rfl (fun K hK => ?_) ?_
          · try go_simp
            refine (meetS_any (cutK nmA p.key now a2 g2 0 c2) (cutK nmB x.key now a5 g5 0 c5) _ (Nat.le_trans (cutBx_len _ now) (Nat.le_trans (tubeL_len _ _ _ _ _) (by omega))) (Nat.le_trans (cutBx_len _ now) (Nat.le_trans (tubeL_len _ _ _ _ _) (by omega))) ⟨TA⟩ ⟨TB⟩).mono ?_
            rintro e w6 ⟨rfl, hb6⟩
            replace BC := BC.trans (hb6.mono BC.size)
            replace BC0 := BC0.trans (hb6.mono BC0.size)
            rw [meets_name nameA nameB_b]
            obtain ⟨s1, s2, i1, i2, i3, hcl⟩ := clashC_five (cutK nmA p.key now a2 g2 0 c2).nm (cutK nmB x.key now a5 g5 0 c5).nm (meetTB (cutK nmA p.key now a2 g2 0 c2) (cutK nmB x.key now a5 g5 0 c5))
            rw [hcl]
            clear hcl
            clear hb6
            refine hK _ _ ?_
            clear hK K
            refine wpAny_take (i := 7) (v := .tuple #[.agg #[.string s1, .string s2, .int .i64 i1, .int .i64 i2, .int .i64 i3], .bool (meetsK p.key x.key now)]) rfl (by kernel_rfl) (by kernel_rfl) (by kernel_rfl) (fun _ _ _ h => h) (Or.inl ⟨by rfl, fun W => by go_simp⟩) ?_
            refine wpAny_take (i := 8) (v := .agg #[.string s1, .string s2, .int .i64 i1, .int .i64 i2, .int .i64 i3]) rfl (by kernel_rfl) (by kernel_rfl) (by kernel_rfl) (fun _ _ _ h => h) (Or.inl ⟨by rfl, fun W => by go_simp⟩) ?_
            refine wpAny_take (i := 9) (v := .bool (meetsK p.key x.key now)) rfl (by kernel_rfl) (by kernel_rfl) (by kernel_rfl) (fun _ _ _ h => h) (Or.inl ⟨by rfl, fun W => by go_simp⟩) ?_
            refine wpAny_ready (rs := [10]) (by kernel_rfl) (by simp) ?_
            refine AllReady.cons rfl (fun K hK => ?_) ?_
            · go_simp
              have XA : (w6.alloc (.cells #[.string ⟨#[]⟩, .string ⟨#[]⟩, .int .i64 0, .int .i64 0, .int .i64 0] 113)).heap[w6.heap.size]? = some (.cells #[.string ⟨#[]⟩, .string ⟨#[]⟩, .int .i64 0, .int .i64 0, .int .i64 0] 113 (0, 0)) := heap_alloc_new w6 (.cells #[.string ⟨#[]⟩, .string ⟨#[]⟩, .int .i64 0, .int .i64 0, .int .i64 0] 113)
              have zX : w.heap.size ≤ w6.heap.size := BC.size
              have BC6 := BC
              replace BC := BC.trans ((bel1 (w := w6) (.cells #[.string ⟨#[]⟩, .string ⟨#[]⟩, .int .i64 0, .int .i64 0, .int .i64 0] 113)).mono BC.size)
              replace BC0 := BC0.trans ((bel1 (w := w6) (.cells #[.string ⟨#[]⟩, .string ⟨#[]⟩, .int .i64 0, .int .i64 0, .int .i64 0] 113)).mono BC0.size)
              refine hK _ _ ?_
              clear hK K
              refine wpAny_ready (rs := [11]) (by kernel_rfl) (by simp) ?_
              refine AllReady.cons rfl (fun K hK => ?_) ?_
              · go_simp
                refine hK _ _ ?_
                clear hK K
                refine wpAny_take (i := 12) (v := .bool (meetsK p.key x.key now)) rfl (by kernel_rfl) (by kernel_rfl) (by kernel_rfl) (fun _ _ _ h => h) (Or.inl ⟨by rfl, fun W => by go_simp⟩) ?_
                refine wpAny_done (by kernel_rfl) ?_ _
                go_wp2
                go_ret
                exact ⟨rfl, BC6.trans ((bel1 _).mono BC6.size)⟩
              exact AllReady.nil
            exact AllReady.nil
          refine AllReady.cons rfl (fun K hK => ?_) ?_
          · go_simp
            have XA : (w5.alloc (.cells #[.string ⟨#[]⟩, .string ⟨#[]⟩, .int .i64 0, .int .i64 0, .int .i64 0] 113)).heap[w5.heap.size]? = some (.cells #[.string ⟨#[]⟩, .string ⟨#[]⟩, .int .i64 0, .int .i64 0, .int .i64 0] 113 (0, 0)) := heap_alloc_new w5 (.cells #[.string ⟨#[]⟩, .string ⟨#[]⟩, .int .i64 0, .int .i64 0, .int .i64 0] 113)
            have zX : w.heap.size ≤ w5.heap.size := BC.size
            replace BC := BC.trans ((bel1 (w := w5) (.cells #[.string ⟨#[]⟩, .string ⟨#[]⟩, .int .i64 0, .int .i64 0, .int .i64 0] 113)).mono BC.size)
            replace BC0 := BC0.trans ((bel1 (w := w5) (.cells #[.string ⟨#[]⟩, .string ⟨#[]⟩, .int .i64 0, .int .i64 0, .int .i64 0] 113)).mono BC0.size)
            replace TA := TA.below (bel1 (w := w5) (.cells #[.string ⟨#[]⟩, .string ⟨#[]⟩, .int .i64 0, .int .i64 0, .int .i64 0] 113)) TA.lt
            replace TB := TB.below (bel1 (w := w5) (.cells #[.string ⟨#[]⟩, .string ⟨#[]⟩, .int .i64 0, .int .i64 0, .int .i64 0] 113)) TB.lt
            refine hK _ _ ?_
            clear hK K
            refine wpAny_ready (rs := [6]) (by kernel_rfl) (by simp) ?_
            refine AllReady.cons rfl (fun K hK => ?_) ?_
            · try go_simp
              refine (meetS_any (cutK nmA p.key now a2 g2 0 c2) (cutK nmB x.key now a5 g5 0 c5) _ (Nat.le_trans (cutBx_len _ now) (Nat.le_trans (tubeL_len _ _ _ _ _) (by omega))) (Nat.le_trans (cutBx_len _ now) (Nat.le_trans (tubeL_len _ _ _ _ _) (by omega))) ⟨TA⟩ ⟨TB⟩).mono ?_
              rintro e w6 ⟨rfl, hb6⟩
              replace BC := BC.trans (hb6.mono BC.size)
              replace BC0 := BC0.trans (hb6.mono BC0.size)
              rw [meets_name nameA nameB_b]
              obtain ⟨s1, s2, i1, i2, i3, hcl⟩ := clashC_five (cutK nmA p.key now a2 g2 0 c2).nm (cutK nmB x.key now a5 g5 0 c5).nm (meetTB (cutK nmA p.key now a2 g2 0 c2) (cutK nmB x.key now a5 g5 0 c5))
              rw [hcl]
              clear hcl
              replace XA := (hb6.block _ (lt_of_block XA)).trans XA
              clear hb6
              refine hK _ _ ?_
              clear hK K
              refine wpAny_take (i := 7) (v := .tuple #[.agg #[.string s1, .string s2, .int .i64 i1, .int .i64 i2, .int .i64 i3], .bool (meetsK p.key x.key now)]) rfl (by kernel_rfl) (by kernel_rfl) (by kernel_rfl) (fun _ _ _ h => h) (Or.inl ⟨by rfl, fun W => by go_simp⟩) ?_
              refine wpAny_take (i := 8) (v := .agg #[.string s1, .string s2, .int .i64 i1, .int .i64 i2, .int .i64 i3]) rfl (by kernel_rfl) (by kernel_rfl) (by kernel_rfl) (fun _ _ _ h => h) (Or.inl ⟨by rfl, fun W => by go_simp⟩) ?_
              refine wpAny_take (i := 9) (v := .bool (meetsK p.key x.key now)) rfl (by kernel_rfl) (by kernel_rfl) (by kernel_rfl) (fun _ _ _ h => h) (Or.inl ⟨by rfl, fun W => by go_simp⟩) ?_
              refine wpAny_ready (rs := [11]) (by kernel_rfl) (by simp) ?_
              refine AllReady.cons rfl (fun K hK => ?_) ?_
              · have y0 : w6.cell? ⟨w5.heap.size, 0, none⟩ = some (.string ⟨#[]⟩) := by simp [World.cell?, XA]
                have y1 : w6.cell? ⟨w5.heap.size, 1, none⟩ = some (.string ⟨#[]⟩) := by simp [World.cell?, XA]
                have y2 : w6.cell? ⟨w5.heap.size, 2, none⟩ = some (.int .i64 0) := by simp [World.cell?, XA]
                have y3 : w6.cell? ⟨w5.heap.size, 3, none⟩ = some (.int .i64 0) := by simp [World.cell?, XA]
                have y4 : w6.cell? ⟨w5.heap.size, 4, none⟩ = some (.int .i64 0) := by simp [World.cell?, XA]
                have yf : ∀ j, w6.frozen? ⟨w5.heap.size, j, none⟩ = false := fun j => by simp [World.frozen?, XA]
                go_simp
                refine hK _ _ ?_
                clear hK K
                refine wpAny_take (i := 12) (v := .bool (meetsK p.key x.key now)) rfl (by kernel_rfl) (by kernel_rfl) (by kernel_rfl) (fun _ _ _ h => h) (Or.inl ⟨by rfl, fun W => by go_simp⟩) ?_
                refine wpAny_done (by kernel_rfl) ?_ _
                go_wp2
                go_ret
                exact ⟨rfl, by
                  iterate 5 (refine Below.setCell ?_ (by show _ ≤ w5.heap.size; exact zX) _)
                  exact BC⟩
              exact AllReady.nil
            exact AllReady.nil
          exact AllReady.nil
        refine AllReady.cons rfl (fun K hK => ?_) ?_
        · go_simp
          have XA : (w2.alloc (.cells #[.string ⟨#[]⟩, .string ⟨#[]⟩, .int .i64 0, .int .i64 0, .int .i64 0] 113)).heap[w2.heap.size]? = some (.cells #[.string ⟨#[]⟩, .string ⟨#[]⟩, .int .i64 0, .int .i64 0, .int .i64 0] 113 (0, 0)) := heap_alloc_new w2 (.cells #[.string ⟨#[]⟩, .string ⟨#[]⟩, .int .i64 0, .int .i64 0, .int .i64 0] 113)
          have zX : w.heap.size ≤ w2.heap.size := BC.size
          replace BC := BC.trans ((bel1 (w := w2) (.cells #[.string ⟨#[]⟩, .string ⟨#[]⟩, .int .i64 0, .int .i64 0, .int .i64 0] 113)).mono BC.size)
          replace BC0 := BC0.trans ((bel1 (w := w2) (.cells #[.string ⟨#[]⟩, .string ⟨#[]⟩, .int .i64 0, .int .i64 0, .int .i64 0] 113)).mono BC0.size)
          replace TA := TA.below (bel1 (w := w2) (.cells #[.string ⟨#[]⟩, .string ⟨#[]⟩, .int .i64 0, .int .i64 0, .int .i64 0] 113)) TA.lt
          refine hK _ _ ?_
          clear hK K
          refine wpAny_ready (rs := [5]) (by kernel_rfl) (by simp) ?_
          refine AllReady.cons rfl (fun K hK => ?_) ?_
          · try go_simp
            refine (linkTubeS_any nmB x.q x.s x.fr x.b x.a x.b0 x.o x.cap x.l now _ hxl (hx.below BC hx.lt)).mono ?_
            rintro e w5 ⟨v5, rfl, ho5, hb5⟩
            obtain ⟨a5, g5, c5, rfl, R5⟩ := owns_rowB ho5
            have TB := R5.at_
            replace BC := BC.trans (hb5.mono BC.size)
            replace BC0 := BC0.trans (hb5.mono BC0.size)
            replace TA := TA.below hb5 TA.lt
            replace XA := (hb5.block _ (lt_of_block XA)).trans XA
            clear hb5 ho5 R5
            refine hK _ _ ?_
            clear hK K
            refine wpAny_ready (rs := [6]) (by kernel_rfl) (by simp) ?_
            refine AllReady.cons rfl (fun K hK => ?_) ?_
            · try go_simp
              refine (meetS_any (cutK nmA p.key now a2 g2 0 c2) (cutK nmB x.key now a5 g5 0 c5) _ (Nat.le_trans (cutBx_len _ now) (Nat.le_trans (tubeL_len _ _ _ _ _) (by omega))) (Nat.le_trans (cutBx_len _ now) (Nat.le_trans (tubeL_len _ _ _ _ _) (by omega))) ⟨TA⟩ ⟨TB⟩).mono ?_
              rintro e w6 ⟨rfl, hb6⟩
              replace BC := BC.trans (hb6.mono BC.size)
              replace BC0 := BC0.trans (hb6.mono BC0.size)
              rw [meets_name nameA nameB_b]
              obtain ⟨s1, s2, i1, i2, i3, hcl⟩ := clashC_five (cutK nmA p.key now a2 g2 0 c2).nm (cutK nmB x.key now a5 g5 0 c5).nm (meetTB (cutK nmA p.key now a2 g2 0 c2) (cutK nmB x.key now a5 g5 0 c5))
              rw [hcl]
              clear hcl
              replace XA := (hb6.block _ (lt_of_block XA)).trans XA
              clear hb6
              refine hK _ _ ?_
              clear hK K
              refine wpAny_take (i := 7) (v := .tuple #[.agg #[.string s1, .string s2, .int .i64 i1, .int .i64 i2, .int .i64 i3], .bool (meetsK p.key x.key now)]) rfl (by kernel_rfl) (by kernel_rfl) (by kernel_rfl) (fun _ _ _ h => h) (Or.inl ⟨by rfl, fun W => by go_simp⟩) ?_
              refine wpAny_take (i := 8) (v := .agg #[.string s1, .string s2, .int .i64 i1, .int .i64 i2, .int .i64 i3]) rfl (by kernel_rfl) (by kernel_rfl) (by kernel_rfl) (fun _ _ _ h => h) (Or.inl ⟨by rfl, fun W => by go_simp⟩) ?_
              refine wpAny_take (i := 9) (v := .bool (meetsK p.key x.key now)) rfl (by kernel_rfl) (by kernel_rfl) (by kernel_rfl) (fun _ _ _ h => h) (Or.inl ⟨by rfl, fun W => by go_simp⟩) ?_
              refine wpAny_ready (rs := [11]) (by kernel_rfl) (by simp) ?_
              refine AllReady.cons rfl (fun K hK => ?_) ?_
              · have y0 : w6.cell? ⟨w2.heap.size, 0, none⟩ = some (.string ⟨#[]⟩) := by simp [World.cell?, XA]
                have y1 : w6.cell? ⟨w2.heap.size, 1, none⟩ = some (.string ⟨#[]⟩) := by simp [World.cell?, XA]
                have y2 : w6.cell? ⟨w2.heap.size, 2, none⟩ = some (.int .i64 0) := by simp [World.cell?, XA]
                have y3 : w6.cell? ⟨w2.heap.size, 3, none⟩ = some (.int .i64 0) := by simp [World.cell?, XA]
                have y4 : w6.cell? ⟨w2.heap.size, 4, none⟩ = some (.int .i64 0) := by simp [World.cell?, XA]
                have yf : ∀ j, w6.frozen? ⟨w2.heap.size, j, none⟩ = false := fun j => by simp [World.frozen?, XA]
                go_simp
                refine hK _ _ ?_
                clear hK K
                refine wpAny_take (i := 12) (v := .bool (meetsK p.key x.key now)) rfl (by kernel_rfl) (by kernel_rfl) (by kernel_rfl) (fun _ _ _ h => h) (Or.inl ⟨by rfl, fun W => by go_simp⟩) ?_
                refine wpAny_done (by kernel_rfl) ?_ _
                go_wp2
                go_ret
                exact ⟨rfl, by
                  iterate 5 (refine Below.setCell ?_ (by show _ ≤ w2.heap.size; exact zX) _)
                  exact BC⟩
              exact AllReady.nil
            exact AllReady.nil
          exact AllReady.nil
        exact AllReady.nil
      refine AllReady.cons rfl (fun K hK => ?_) ?_
      · go_simp
        have XA : (w2.alloc (.cells #[.string ⟨#[]⟩, .string ⟨#[]⟩, .int .i64 0, .int .i64 0, .int .i64 0] 113)).heap[w2.heap.size]? = some (.cells #[.string ⟨#[]⟩, .string ⟨#[]⟩, .int .i64 0, .int .i64 0, .int .i64 0] 113 (0, 0)) := heap_alloc_new w2 (.cells #[.string ⟨#[]⟩, .string ⟨#[]⟩, .int .i64 0, .int .i64 0, .int .i64 0] 113)
        have zX : w.heap.size ≤ w2.heap.size := BC.size
        replace BC := BC.trans ((bel1 (w := w2) (.cells #[.string ⟨#[]⟩, .string ⟨#[]⟩, .int .i64 0, .int .i64 0, .int .i64 0] 113)).mono BC.size)
        replace BC0 := BC0.trans ((bel1 (w := w2) (.cells #[.string ⟨#[]⟩, .string ⟨#[]⟩, .int .i64 0, .int .i64 0, .int .i64 0] 113)).mono BC0.size)
        replace TA := TA.below (bel1 (w := w2) (.cells #[.string ⟨#[]⟩, .string ⟨#[]⟩, .int .i64 0, .int .i64 0, .int .i64 0] 113)) TA.lt
        refine hK _ _ ?_
        clear hK K
        refine wpAny_ready (rs := [3]) (by kernel_rfl) (by simp) ?_
        refine AllReady.cons rfl (fun K hK => ?_) ?_
        · have l30 : (w2.alloc (.cells #[.string ⟨#[]⟩, .string ⟨#[]⟩, .int .i64 0, .int .i64 0, .int .i64 0] 113)).cell? ⟨w.heap.size + 1, 0, none⟩ = some (.int .i64 x.q) := by rw [BC0.cell (p := ⟨w.heap.size + 1, 0, none⟩) (lt_of_block Q0)]; simp [World.cell?, Q0]
          have l31 : (w2.alloc (.cells #[.string ⟨#[]⟩, .string ⟨#[]⟩, .int .i64 0, .int .i64 0, .int .i64 0] 113)).cell? ⟨w.heap.size + 1, 1, none⟩ = some (.int .i64 x.s) := by rw [BC0.cell (p := ⟨w.heap.size + 1, 1, none⟩) (lt_of_block Q0)]; simp [World.cell?, Q0]
          have l32 : (w2.alloc (.cells #[.string ⟨#[]⟩, .string ⟨#[]⟩, .int .i64 0, .int .i64 0, .int .i64 0] 113)).cell? ⟨w.heap.size + 1, 2, none⟩ = some (.slice x.a x.l.length x.cap) := by rw [BC0.cell (p := ⟨w.heap.size + 1, 2, none⟩) (lt_of_block Q0)]; simp [World.cell?, Q0]
          have l33 : (w2.alloc (.cells #[.string ⟨#[]⟩, .string ⟨#[]⟩, .int .i64 0, .int .i64 0, .int .i64 0] 113)).cell? ⟨w.heap.size + 1, 3, none⟩ = some (.int .i64 x.fr) := by rw [BC0.cell (p := ⟨w.heap.size + 1, 3, none⟩) (lt_of_block Q0)]; simp [World.cell?, Q0]
          have l34 : (w2.alloc (.cells #[.string ⟨#[]⟩, .string ⟨#[]⟩, .int .i64 0, .int .i64 0, .int .i64 0] 113)).cell? ⟨w.heap.size + 1, 4, none⟩ = some (.int .i64 x.b) := by rw [BC0.cell (p := ⟨w.heap.size + 1, 4, none⟩) (lt_of_block Q0)]; simp [World.cell?, Q0]
          go_simp
          clear l30 l31 l32 l33 l34
          refine hK _ _ ?_
          clear hK K
          refine wpAny_ready (rs := [5]) (by kernel_rfl) (by simp) ?_
          refine AllReady.cons rfl (fun K hK => ?_) ?_
          · try go_simp
            refine (linkTubeS_any nmB x.q x.s x.fr x.b x.a x.b0 x.o x.cap x.l now _ hxl (hx.below BC hx.lt)).mono ?_
            rintro e w5 ⟨v5, rfl, ho5, hb5⟩
            obtain ⟨a5, g5, c5, rfl, R5⟩ := owns_rowB ho5
            have TB := R5.at_
            replace BC := BC.trans (hb5.mono BC.size)
            replace BC0 := BC0.trans (hb5.mono BC0.size)
            replace TA := TA.below hb5 TA.lt
            replace XA := (hb5.block _ (lt_of_block XA)).trans XA
            clear hb5 ho5 R5
            refine hK _ _ ?_
            clear hK K
            refine wpAny_ready (rs := [6]) (by kernel_rfl) (by simp) ?_
            refine AllReady.cons rfl (fun K hK => ?_) ?_
            · try go_simp
              refine (meetS_any (cutK nmA p.key now a2 g2 0 c2) (cutK nmB x.key now a5 g5 0 c5) _ (Nat.le_trans (cutBx_len _ now) (Nat.le_trans (tubeL_len _ _ _ _ _) (by omega))) (Nat.le_trans (cutBx_len _ now) (Nat.le_trans (tubeL_len _ _ _ _ _) (by omega))) ⟨TA⟩ ⟨TB⟩).mono ?_
              rintro e w6 ⟨rfl, hb6⟩
              replace BC := BC.trans (hb6.mono BC.size)
              replace BC0 := BC0.trans (hb6.mono BC0.size)
              rw [meets_name nameA nameB_b]
              obtain ⟨s1, s2, i1, i2, i3, hcl⟩ := clashC_five (cutK nmA p.key now a2 g2 0 c2).nm (cutK nmB x.key now a5 g5 0 c5).nm (meetTB (cutK nmA p.key now a2 g2 0 c2) (cutK nmB x.key now a5 g5 0 c5))
              rw [hcl]
              clear hcl
              replace XA := (hb6.block _ (lt_of_block XA)).trans XA
              clear hb6
              refine hK _ _ ?_
              clear hK K
              refine wpAny_take (i := 7) (v := .tuple #[.agg #[.string s1, .string s2, .int .i64 i1, .int .i64 i2, .int .i64 i3], .bool (meetsK p.key x.key now)]) rfl (by kernel_rfl) (by kernel_rfl) (by kernel_rfl) (fun _ _ _ h => h) (Or.inl ⟨by rfl, fun W => by go_simp⟩) ?_
              refine wpAny_take (i := 8) (v := .agg #[.string s1, .string s2, .int .i64 i1, .int .i64 i2, .int .i64 i3]) rfl (by kernel_rfl) (by kernel_rfl) (by kernel_rfl) (fun _ _ _ h => h) (Or.inl ⟨by rfl, fun W => by go_simp⟩) ?_
              refine wpAny_take (i := 9) (v := .bool (meetsK p.key x.key now)) rfl (by kernel_rfl) (by kernel_rfl) (by kernel_rfl) (fun _ _ _ h => h) (Or.inl ⟨by rfl, fun W => by go_simp⟩) ?_
              refine wpAny_ready (rs := [11]) (by kernel_rfl) (by simp) ?_
              refine AllReady.cons rfl (fun K hK => ?_) ?_
              · have y0 : w6.cell? ⟨w2.heap.size, 0, none⟩ = some (.string ⟨#[]⟩) := by simp [World.cell?, XA]
                have y1 : w6.cell? ⟨w2.heap.size, 1, none⟩ = some (.string ⟨#[]⟩) := by simp [World.cell?, XA]
                have y2 : w6.cell? ⟨w2.heap.size, 2, none⟩ = some (.int .i64 0) := by simp [World.cell?, XA]
                have y3 : w6.cell? ⟨w2.heap.size, 3, none⟩ = some (.int .i64 0) := by simp [World.cell?, XA]
                have y4 : w6.cell? ⟨w2.heap.size, 4, none⟩ = some (.int .i64 0) := by simp [World.cell?, XA]
                have yf : ∀ j, w6.frozen? ⟨w2.heap.size, j, none⟩ = false := fun j => by simp [World.frozen?, XA]
                go_simp
                refine hK _ _ ?_
                clear hK K
                refine wpAny_take (i := 12) (v := .bool (meetsK p.key x.key now)) rfl (by kernel_rfl) (by kernel_rfl) (by kernel_rfl) (fun _ _ _ h => h) (Or.inl ⟨by rfl, fun W => by go_simp⟩) ?_
                refine wpAny_done (by kernel_rfl) ?_ _
                go_wp2
                go_ret
                exact ⟨rfl, by
                  iterate 5 (refine Below.setCell ?_ (by show _ ≤ w2.heap.size; exact zX) _)
                  exact BC⟩
              exact AllReady.nil
            exact AllReady.nil
          exact AllReady.nil
        exact AllReady.nil
      exact AllReady.nil
    refine AllReady.cons rfl (fun K hK => ?_) ?_
    · have l30 : W0.drew.cell? ⟨w.heap.size + 1, 0, none⟩ = some (.int .i64 x.q) := by rw [BC0.cell (p := ⟨w.heap.size + 1, 0, none⟩) (lt_of_block Q0)]; simp [World.cell?, Q0]
      have l31 : W0.drew.cell? ⟨w.heap.size + 1, 1, none⟩ = some (.int .i64 x.s) := by rw [BC0.cell (p := ⟨w.heap.size + 1, 1, none⟩) (lt_of_block Q0)]; simp [World.cell?, Q0]
      have l32 : W0.drew.cell? ⟨w.heap.size + 1, 2, none⟩ = some (.slice x.a x.l.length x.cap) := by rw [BC0.cell (p := ⟨w.heap.size + 1, 2, none⟩) (lt_of_block Q0)]; simp [World.cell?, Q0]
      have l33 : W0.drew.cell? ⟨w.heap.size + 1, 3, none⟩ = some (.int .i64 x.fr) := by rw [BC0.cell (p := ⟨w.heap.size + 1, 3, none⟩) (lt_of_block Q0)]; simp [World.cell?, Q0]
      have l34 : W0.drew.cell? ⟨w.heap.size + 1, 4, none⟩ = some (.int .i64 x.b) := by rw [BC0.cell (p := ⟨w.heap.size + 1, 4, none⟩) (lt_of_block Q0)]; simp [World.cell?, Q0]
      go_simp
      clear l30 l31 l32 l33 l34
      refine hK _ _ ?_
      clear hK K
      refine wpAny_ready (rs := [2, 10]) (by kernel_rfl) (by simp) ?_
      refine AllReady.cons rfl (fun K hK => ?_) ?_
      · try go_simp
        refine (linkTubeS_any nmA p.q p.s p.fr p.b p.a p.b0 p.o p.cap p.l now _ hpl (hp.below BC hp.lt)).mono ?_
        rintro e w2 ⟨v2, rfl, ho2, hb2⟩
        obtain ⟨a2, g2, c2, rfl, R2⟩ := owns_rowB ho2
        have TA := R2.at_
        replace BC := BC.trans (hb2.mono BC.size)
        replace BC0 := BC0.trans (hb2.mono BC0.size)
        clear hb2 ho2 R2
        refine hK _ _ ?_
        clear hK K
        refine wpAny_ready (rs := [5, 10]) (by kernel_rfl) (by simp) ?_
        refine AllReady.cons rfl (fun K hK => ?_) ?_
        · try go_simp
          refine (linkTubeS_any nmB x.q x.s x.fr x.b x.a x.b0 x.o x.cap x.l now _ hxl (hx.below BC hx.lt)).mono ?_
          rintro e w5 ⟨v5, rfl, ho5, hb5⟩
          obtain ⟨a5, g5, c5, rfl, R5⟩ := owns_rowB ho5
          have TB := R5.at_
          replace BC := BC.trans (hb5.mono BC.size)
          replace BC0 := BC0.trans (hb5.mono BC0.size)
          replace TA := TA.below hb5 TA.lt
          clear hb5 ho5 R5
          refine hK _ _ ?_
          clear hK K
          refine wpAny_ready (rs := [6, 10]) (by kernel_rfl) (by simp) ?_
          refine AllReady.cons rfl (fun K hK => ?_) ?_
          · try go_simp
            refine (meetS_any (cutK nmA p.key now a2 g2 0 c2) (cutK nmB x.key now a5 g5 0 c5) _ (Nat.le_trans (cutBx_len _ now) (Nat.le_trans (tubeL_len _ _ _ _ _) (by omega))) (Nat.le_trans (cutBx_len _ now) (Nat.le_trans (tubeL_len _ _ _ _ _) (by omega))) ⟨TA⟩ ⟨TB⟩).mono ?_
            rintro e w6 ⟨rfl, hb6⟩
            replace BC := BC.trans (hb6.mono BC.size)
            replace BC0 := BC0.trans (hb6.mono BC0.size)
            rw [meets_name nameA nameB_b]
            obtain ⟨s1, s2, i1, i2, i3, hcl⟩ := clashC_five (cutK nmA p.key now a2 g2 0 c2).nm (cutK nmB x.key now a5 g5 0 c5).nm (meetTB (cutK nmA p.key now a2 g2 0 c2) (cutK nmB x.key now a5 g5 0 c5))
            rw [hcl]
            clear hcl
            clear hb6
            refine hK _ _ ?_
            clear hK K
            refine wpAny_take (i := 7) (v := .tuple #[.agg #[.string s1, .string s2, .int .i64 i1, .int .i64 i2, .int .i64 i3], .bool (meetsK p.key x.key now)]) rfl (by kernel_rfl) (by kernel_rfl) (by kernel_rfl) (fun _ _ _ h => h) (Or.inl ⟨by rfl, fun W => by go_simp⟩) ?_
            refine wpAny_take (i := 8) (v := .agg #[.string s1, .string s2, .int .i64 i1, .int .i64 i2, .int .i64 i3]) rfl (by kernel_rfl) (by kernel_rfl) (by kernel_rfl) (fun _ _ _ h => h) (Or.inl ⟨by rfl, fun W => by go_simp⟩) ?_
            refine wpAny_take (i := 9) (v := .bool (meetsK p.key x.key now)) rfl (by kernel_rfl) (by kernel_rfl) (by kernel_rfl) (fun _ _ _ h => h) (Or.inl ⟨by rfl, fun W => by go_simp⟩) ?_
            refine wpAny_ready (rs := [10]) (by kernel_rfl) (by simp) ?_
            refine AllReady.cons rfl (fun K hK => ?_) ?_
            · go_simp
              have XA : (w6.alloc (.cells #[.string ⟨#[]⟩, .string ⟨#[]⟩, .int .i64 0, .int .i64 0, .int .i64 0] 113)).heap[w6.heap.size]? = some (.cells #[.string ⟨#[]⟩, .string ⟨#[]⟩, .int .i64 0, .int .i64 0, .int .i64 0] 113 (0, 0)) := heap_alloc_new w6 (.cells #[.string ⟨#[]⟩, .string ⟨#[]⟩, .int .i64 0, .int .i64 0, .int .i64 0] 113)
              have zX : w.heap.size ≤ w6.heap.size := BC.size
              have BC6 := BC
              replace BC := BC.trans ((bel1 (w := w6) (.cells #[.string ⟨#[]⟩, .string ⟨#[]⟩, .int .i64 0, .int .i64 0, .int .i64 0] 113)).mono BC.size)
              replace BC0 := BC0.trans ((bel1 (w := w6) (.cells #[.string ⟨#[]⟩, .string ⟨#[]⟩, .int .i64 0, .int .i64 0, .int .i64 0] 113)).mono BC0.size)
              refine hK _ _ ?_
              clear hK K
              refine wpAny_ready (rs := [11]) (by kernel_rfl) (by simp) ?_
              refine AllReady.cons rfl (fun K hK => ?_) ?_
              · go_simp
                refine hK _ _ ?_
                clear hK K
                refine wpAny_take (i := 12) (v := .bool (meetsK p.key x.key now)) rfl (by kernel_rfl) (by kernel_rfl) (by kernel_rfl) (fun _ _ _ h => h) (Or.inl ⟨by rfl, fun W => by go_simp⟩) ?_
                refine wpAny_done (by kernel_rfl) ?_ _
                go_wp2
                go_ret
                exact ⟨rfl, BC6.trans ((bel1 _).mono BC6.size)⟩
              exact AllReady.nil
            exact AllReady.nil
          refine AllReady.cons rfl (fun K hK => ?_) ?_
          · go_simp
            have XA : (w5.alloc (.cells #[.string ⟨#[]⟩, .string ⟨#[]⟩, .int .i64 0, .int .i64 0, .int .i64 0] 113)).heap[w5.heap.size]? = some (.cells #[.string ⟨#[]⟩, .string ⟨#[]⟩, .int .i64 0, .int .i64 0, .int .i64 0] 113 (0, 0)) := heap_alloc_new w5 (.cells #[.string ⟨#[]⟩, .string ⟨#[]⟩, .int .i64 0, .int .i64 0, .int .i64 0] 113)
            have zX : w.heap.size ≤ w5.heap.size := BC.size
            replace BC := BC.trans ((bel1 (w := w5) (.cells #[.string ⟨#[]⟩, .string ⟨#[]⟩, .int .i64 0, .int .i64 0, .int .i64 0] 113)).mono BC.size)
            replace BC0 := BC0.trans ((bel1 (w := w5) (.cells #[.string ⟨#[]⟩, .string ⟨#[]⟩, .int .i64 0, .int .i64 0, .int .i64 0] 113)).mono BC0.size)
            replace TA := TA.below (bel1 (w := w5) (.cells #[.string ⟨#[]⟩, .string ⟨#[]⟩, .int .i64 0, .int .i64 0, .int .i64 0] 113)) TA.lt
            replace TB := TB.below (bel1 (w := w5) (.cells #[.string ⟨#[]⟩, .string ⟨#[]⟩, .int .i64 0, .int .i64 0, .int .i64 0] 113)) TB.lt
            refine hK _ _ ?_
            clear hK K
            refine wpAny_ready (rs := [6]) (by kernel_rfl) (by simp) ?_
            refine AllReady.cons rfl (fun K hK => ?_) ?_
            · try go_simp
              refine (meetS_any (cutK nmA p.key now a2 g2 0 c2) (cutK nmB x.key now a5 g5 0 c5) _ (Nat.le_trans (cutBx_len _ now) (Nat.le_trans (tubeL_len _ _ _ _ _) (by omega))) (Nat.le_trans (cutBx_len _ now) (Nat.le_trans (tubeL_len _ _ _ _ _) (by omega))) ⟨TA⟩ ⟨TB⟩).mono ?_
              rintro e w6 ⟨rfl, hb6⟩
              replace BC := BC.trans (hb6.mono BC.size)
              replace BC0 := BC0.trans (hb6.mono BC0.size)
              rw [meets_name nameA nameB_b]
              obtain ⟨s1, s2, i1, i2, i3, hcl⟩ := clashC_five (cutK nmA p.key now a2 g2 0 c2).nm (cutK nmB x.key now a5 g5 0 c5).nm (meetTB (cutK nmA p.key now a2 g2 0 c2) (cutK nmB x.key now a5 g5 0 c5))
              rw [hcl]
              clear hcl
              replace XA := (hb6.block _ (lt_of_block XA)).trans XA
              clear hb6
              refine hK _ _ ?_
              clear hK K
              refine wpAny_take (i := 7) (v := .tuple #[.agg #[.string s1, .string s2, .int .i64 i1, .int .i64 i2, .int .i64 i3], .bool (meetsK p.key x.key now)]) rfl (by kernel_rfl) (by kernel_rfl) (by kernel_rfl) (fun _ _ _ h => h) (Or.inl ⟨by rfl, fun W => by go_simp⟩) ?_
              refine wpAny_take (i := 8) (v := .agg #[.string s1, .string s2, .int .i64 i1, .int .i64 i2, .int .i64 i3]) rfl (by kernel_rfl) (by kernel_rfl) (by kernel_rfl) (fun _ _ _ h => h) (Or.inl ⟨by rfl, fun W => by go_simp⟩) ?_
              refine wpAny_take (i := 9) (v := .bool (meetsK p.key x.key now)) rfl (by kernel_rfl) (by kernel_rfl) (by kernel_rfl) (fun _ _ _ h => h) (Or.inl ⟨by rfl, fun W => by go_simp⟩) ?_
              refine wpAny_ready (rs := [11]) (by kernel_rfl) (by simp) ?_
              refine AllReady.cons rfl (fun K hK => ?_) ?_
              · have y0 : w6.cell? ⟨w5.heap.size, 0, none⟩ = some (.string ⟨#[]⟩) := by simp [World.cell?, XA]
                have y1 : w6.cell? ⟨w5.heap.size, 1, none⟩ = some (.string ⟨#[]⟩) := by simp [World.cell?, XA]
                have y2 : w6.cell? ⟨w5.heap.size, 2, none⟩ = some (.int .i64 0) := by simp [World.cell?, XA]
                have y3 : w6.cell? ⟨w5.heap.size, 3, none⟩ = some (.int .i64 0) := by simp [World.cell?, XA]
                have y4 : w6.cell? ⟨w5.heap.size, 4, none⟩ = some (.int .i64 0) := by simp [World.cell?, XA]
                have yf : ∀ j, w6.frozen? ⟨w5.heap.size, j, none⟩ = false := fun j => by simp [World.frozen?, XA]
                go_simp
                refine hK _ _ ?_
                clear hK K
                refine wpAny_take (i := 12) (v := .bool (meetsK p.key x.key now)) rfl (by kernel_rfl) (by kernel_rfl) (by kernel_rfl) (fun _ _ _ h => h) (Or.inl ⟨by rfl, fun W => by go_simp⟩) ?_
                refine wpAny_done (by kernel_rfl) ?_ _
                go_wp2
                go_ret
                exact ⟨rfl, by
                  iterate 5 (refine Below.setCell ?_ (by show _ ≤ w5.heap.size; exact zX) _)
                  exact BC⟩
              exact AllReady.nil
            exact AllReady.nil
          exact AllReady.nil
        refine AllReady.cons rfl (fun K hK => ?_) ?_
        · go_simp
          have XA : (w2.alloc (.cells #[.string ⟨#[]⟩, .string ⟨#[]⟩, .int .i64 0, .int .i64 0, .int .i64 0] 113)).heap[w2.heap.size]? = some (.cells #[.string ⟨#[]⟩, .string ⟨#[]⟩, .int .i64 0, .int .i64 0, .int .i64 0] 113 (0, 0)) := heap_alloc_new w2 (.cells #[.string ⟨#[]⟩, .string ⟨#[]⟩, .int .i64 0, .int .i64 0, .int .i64 0] 113)
          have zX : w.heap.size ≤ w2.heap.size := BC.size
          replace BC := BC.trans ((bel1 (w := w2) (.cells #[.string ⟨#[]⟩, .string ⟨#[]⟩, .int .i64 0, .int .i64 0, .int .i64 0] 113)).mono BC.size)
          replace BC0 := BC0.trans ((bel1 (w := w2) (.cells #[.string ⟨#[]⟩, .string ⟨#[]⟩, .int .i64 0, .int .i64 0, .int .i64 0] 113)).mono BC0.size)
          replace TA := TA.below (bel1 (w := w2) (.cells #[.string ⟨#[]⟩, .string ⟨#[]⟩, .int .i64 0, .int .i64 0, .int .i64 0] 113)) TA.lt
          refine hK _ _ ?_
          clear hK K
          refine wpAny_ready (rs := [5]) (by kernel_rfl) (by simp) ?_
          refine AllReady.cons rfl (fun K hK => ?_) ?_
          · try go_simp
            refine (linkTubeS_any nmB x.q x.s x.fr x.b x.a x.b0 x.o x.cap x.l now _ hxl (hx.below BC hx.lt)).mono ?_
            rintro e w5 ⟨v5, rfl, ho5, hb5⟩
            obtain ⟨a5, g5, c5, rfl, R5⟩ := owns_rowB ho5
            have TB := R5.at_
            replace BC := BC.trans (hb5.mono BC.size)
            replace BC0 := BC0.trans (hb5.mono BC0.size)
            replace TA := TA.below hb5 TA.lt
            replace XA := (hb5.block _ (lt_of_block XA)).trans XA
            clear hb5 ho5 R5
            refine hK _ _ ?_
            clear hK K
            refine wpAny_ready (rs := [6]) (by kernel_rfl) (by simp) ?_
            refine AllReady.cons rfl (fun K hK => ?_) ?_
            · try go_simp
              refine (meetS_any (cutK nmA p.key now a2 g2 0 c2) (cutK nmB x.key now a5 g5 0 c5) _ (Nat.le_trans (cutBx_len _ now) (Nat.le_trans (tubeL_len _ _ _ _ _) (by omega))) (Nat.le_trans (cutBx_len _ now) (Nat.le_trans (tubeL_len _ _ _ _ _) (by omega))) ⟨TA⟩ ⟨TB⟩).mono ?_
              rintro e w6 ⟨rfl, hb6⟩
              replace BC := BC.trans (hb6.mono BC.size)
              replace BC0 := BC0.trans (hb6.mono BC0.size)
              rw [meets_name nameA nameB_b]
              obtain ⟨s1, s2, i1, i2, i3, hcl⟩ := clashC_five (cutK nmA p.key now a2 g2 0 c2).nm (cutK nmB x.key now a5 g5 0 c5).nm (meetTB (cutK nmA p.key now a2 g2 0 c2) (cutK nmB x.key now a5 g5 0 c5))
              rw [hcl]
              clear hcl
              replace XA := (hb6.block _ (lt_of_block XA)).trans XA
              clear hb6
              refine hK _ _ ?_
              clear hK K
              refine wpAny_take (i := 7) (v := .tuple #[.agg #[.string s1, .string s2, .int .i64 i1, .int .i64 i2, .int .i64 i3], .bool (meetsK p.key x.key now)]) rfl (by kernel_rfl) (by kernel_rfl) (by kernel_rfl) (fun _ _ _ h => h) (Or.inl ⟨by rfl, fun W => by go_simp⟩) ?_
              refine wpAny_take (i := 8) (v := .agg #[.string s1, .string s2, .int .i64 i1, .int .i64 i2, .int .i64 i3]) rfl (by kernel_rfl) (by kernel_rfl) (by kernel_rfl) (fun _ _ _ h => h) (Or.inl ⟨by rfl, fun W => by go_simp⟩) ?_
              refine wpAny_take (i := 9) (v := .bool (meetsK p.key x.key now)) rfl (by kernel_rfl) (by kernel_rfl) (by kernel_rfl) (fun _ _ _ h => h) (Or.inl ⟨by rfl, fun W => by go_simp⟩) ?_
              refine wpAny_ready (rs := [11]) (by kernel_rfl) (by simp) ?_
              refine AllReady.cons rfl (fun K hK => ?_) ?_
              · have y0 : w6.cell? ⟨w2.heap.size, 0, none⟩ = some (.string ⟨#[]⟩) := by simp [World.cell?, XA]
                have y1 : w6.cell? ⟨w2.heap.size, 1, none⟩ = some (.string ⟨#[]⟩) := by simp [World.cell?, XA]
                have y2 : w6.cell? ⟨w2.heap.size, 2, none⟩ = some (.int .i64 0) := by simp [World.cell?, XA]
                have y3 : w6.cell? ⟨w2.heap.size, 3, none⟩ = some (.int .i64 0) := by simp [World.cell?, XA]
                have y4 : w6.cell? ⟨w2.heap.size, 4, none⟩ = some (.int .i64 0) := by simp [World.cell?, XA]
                have yf : ∀ j, w6.frozen? ⟨w2.heap.size, j, none⟩ = false := fun j => by simp [World.frozen?, XA]
                go_simp
                refine hK _ _ ?_
                clear hK K
                refine wpAny_take (i := 12) (v := .bool (meetsK p.key x.key now)) rfl (by kernel_rfl) (by kernel_rfl) (by kernel_rfl) (fun _ _ _ h => h) (Or.inl ⟨by rfl, fun W => by go_simp⟩) ?_
                refine wpAny_done (by kernel_rfl) ?_ _
                go_wp2
                go_ret
                exact ⟨rfl, by
                  iterate 5 (refine Below.setCell ?_ (by show _ ≤ w2.heap.size; exact zX) _)
                  exact BC⟩
              exact AllReady.nil
            exact AllReady.nil
          exact AllReady.nil
        exact AllReady.nil
      refine AllReady.cons rfl (fun K hK => ?_) ?_
      · go_simp
        have XA : (W0.drew.alloc (.cells #[.string ⟨#[]⟩, .string ⟨#[]⟩, .int .i64 0, .int .i64 0, .int .i64 0] 113)).heap[W0.heap.size]? = some (.cells #[.string ⟨#[]⟩, .string ⟨#[]⟩, .int .i64 0, .int .i64 0, .int .i64 0] 113 (0, 0)) := heap_alloc_new W0.drew (.cells #[.string ⟨#[]⟩, .string ⟨#[]⟩, .int .i64 0, .int .i64 0, .int .i64 0] 113)
        have zX : w.heap.size ≤ W0.heap.size := BC.size
        replace BC := BC.trans ((bel1 (w := W0.drew) (.cells #[.string ⟨#[]⟩, .string ⟨#[]⟩, .int .i64 0, .int .i64 0, .int .i64 0] 113)).mono BC.size)
        replace BC0 := BC0.trans ((bel1 (w := W0.drew) (.cells #[.string ⟨#[]⟩, .string ⟨#[]⟩, .int .i64 0, .int .i64 0, .int .i64 0] 113)).mono BC0.size)
        refine hK _ _ ?_
        clear hK K
        refine wpAny_ready (rs := [2]) (by kernel_rfl) (by simp) ?_
        refine AllReady.cons rfl (fun K hK => ?_) ?_
        · try go_simp
          refine (linkTubeS_any nmA p.q p.s p.fr p.b p.a p.b0 p.o p.cap p.l now _ hpl (hp.below BC hp.lt)).mono ?_
          rintro e w2 ⟨v2, rfl, ho2, hb2⟩
          obtain ⟨a2, g2, c2, rfl, R2⟩ := owns_rowB ho2
          have TA := R2.at_
          replace BC := BC.trans (hb2.mono BC.size)
          replace BC0 := BC0.trans (hb2.mono BC0.size)
          replace XA := (hb2.block _ (lt_of_block XA)).trans XA
          clear hb2 ho2 R2
          refine hK _ _ ?_
          clear hK K
          refine wpAny_ready (rs := [5]) (by kernel_rfl) (by simp) ?_
          refine AllReady.cons rfl (fun K hK => ?_) ?_
          · try go_simp
            refine (linkTubeS_any nmB x.q x.s x.fr x.b x.a x.b0 x.o x.cap x.l now _ hxl (hx.below BC hx.lt)).mono ?_
            rintro e w5 ⟨v5, rfl, ho5, hb5⟩
            obtain ⟨a5, g5, c5, rfl, R5⟩ := owns_rowB ho5
            have TB := R5.at_
            replace BC := BC.trans (hb5.mono BC.size)
            replace BC0 := BC0.trans (hb5.mono BC0.size)
            replace TA := TA.below hb5 TA.lt
            replace XA := (hb5.block _ (lt_of_block XA)).trans XA
            clear hb5 ho5 R5
            refine hK _ _ ?_
            clear hK K
            refine wpAny_ready (rs := [6]) (by kernel_rfl) (by simp) ?_
            refine AllReady.cons rfl (fun K hK => ?_) ?_
            · try go_simp
              refine (meetS_any (cutK nmA p.key now a2 g2 0 c2) (cutK nmB x.key now a5 g5 0 c5) _ (Nat.le_trans (cutBx_len _ now) (Nat.le_trans (tubeL_len _ _ _ _ _) (by omega))) (Nat.le_trans (cutBx_len _ now) (Nat.le_trans (tubeL_len _ _ _ _ _) (by omega))) ⟨TA⟩ ⟨TB⟩).mono ?_
              rintro e w6 ⟨rfl, hb6⟩
              replace BC := BC.trans (hb6.mono BC.size)
              replace BC0 := BC0.trans (hb6.mono BC0.size)
              rw [meets_name nameA nameB_b]
              obtain ⟨s1, s2, i1, i2, i3, hcl⟩ := clashC_five (cutK nmA p.key now a2 g2 0 c2).nm (cutK nmB x.key now a5 g5 0 c5).nm (meetTB (cutK nmA p.key now a2 g2 0 c2) (cutK nmB x.key now a5 g5 0 c5))
              rw [hcl]
              clear hcl
              replace XA := (hb6.block _ (lt_of_block XA)).trans XA
              clear hb6
              refine hK _ _ ?_
              clear hK K
              refine wpAny_take (i := 7) (v := .tuple #[.agg #[.string s1, .string s2, .int .i64 i1, .int .i64 i2, .int .i64 i3], .bool (meetsK p.key x.key now)]) rfl (by kernel_rfl) (by kernel_rfl) (by kernel_rfl) (fun _ _ _ h => h) (Or.inl ⟨by rfl, fun W => by go_simp⟩) ?_
              refine wpAny_take (i := 8) (v := .agg #[.string s1, .string s2, .int .i64 i1, .int .i64 i2, .int .i64 i3]) rfl (by kernel_rfl) (by kernel_rfl) (by kernel_rfl) (fun _ _ _ h => h) (Or.inl ⟨by rfl, fun W => by go_simp⟩) ?_
              refine wpAny_take (i := 9) (v := .bool (meetsK p.key x.key now)) rfl (by kernel_rfl) (by kernel_rfl) (by kernel_rfl) (fun _ _ _ h => h) (Or.inl ⟨by rfl, fun W => by go_simp⟩) ?_
              refine wpAny_ready (rs := [11]) (by kernel_rfl) (by simp) ?_
              refine AllReady.cons rfl (fun K hK => ?_) ?_
              · have y0 : w6.cell? ⟨W0.heap.size, 0, none⟩ = some (.string ⟨#[]⟩) := by simp [World.cell?, XA]
                have y1 : w6.cell? ⟨W0.heap.size, 1, none⟩ = some (.string ⟨#[]⟩) := by simp [World.cell?, XA]
                have y2 : w6.cell? ⟨W0.heap.size, 2, none⟩ = some (.int .i64 0) := by simp [World.cell?, XA]
                have y3 : w6.cell? ⟨W0.heap.size, 3, none⟩ = some (.int .i64 0) := by simp [World.cell?, XA]
                have y4 : w6.cell? ⟨W0.heap.size, 4, none⟩ = some (.int .i64 0) := by simp [World.cell?, XA]
                have yf : ∀ j, w6.frozen? ⟨W0.heap.size, j, none⟩ = false := fun j => by simp [World.frozen?, XA]
                go_simp
                refine hK _ _ ?_
                clear hK K
                refine wpAny_take (i := 12) (v := .bool (meetsK p.key x.key now)) rfl (by kernel_rfl) (by kernel_rfl) (by kernel_rfl) (fun _ _ _ h => h) (Or.inl ⟨by rfl, fun W => by go_simp⟩) ?_
                refine wpAny_done (by kernel_rfl) ?_ _
                go_wp2
                go_ret
                exact ⟨rfl, by
                  iterate 5 (refine Below.setCell ?_ (by show _ ≤ W0.heap.size; exact zX) _)
                  exact BC⟩
              exact AllReady.nil
            exact AllReady.nil
          exact AllReady.nil
        exact AllReady.nil
      exact AllReady.nil
    refine AllReady.cons rfl (fun K hK => ?_) ?_
    · go_simp
      have XA : (W0.drew.alloc (.cells #[.string ⟨#[]⟩, .string ⟨#[]⟩, .int .i64 0, .int .i64 0, .int .i64 0] 113)).heap[W0.heap.size]? = some (.cells #[.string ⟨#[]⟩, .string ⟨#[]⟩, .int .i64 0, .int .i64 0, .int .i64 0] 113 (0, 0)) := heap_alloc_new W0.drew (.cells #[.string ⟨#[]⟩, .string ⟨#[]⟩, .int .i64 0, .int .i64 0, .int .i64 0] 113)
      have zX : w.heap.size ≤ W0.heap.size := BC.size
      replace BC := BC.trans ((bel1 (w := W0.drew) (.cells #[.string ⟨#[]⟩, .string ⟨#[]⟩, .int .i64 0, .int .i64 0, .int .i64 0] 113)).mono BC.size)
      replace BC0 := BC0.trans ((bel1 (w := W0.drew) (.cells #[.string ⟨#[]⟩, .string ⟨#[]⟩, .int .i64 0, .int .i64 0, .int .i64 0] 113)).mono BC0.size)
      refine hK _ _ ?_
      clear hK K
      refine wpAny_ready (rs := [2, 3]) (by kernel_rfl) (by simp) ?_
      refine AllReady.cons rfl (fun K hK => ?_) ?_
      · try go_simp
        refine (linkTubeS_any nmA p.q p.s p.fr p.b p.a p.b0 p.o p.cap p.l now _ hpl (hp.below BC hp.lt)).mono ?_
        rintro e w2 ⟨v2, rfl, ho2, hb2⟩
        obtain ⟨a2, g2, c2, rfl, R2⟩ := owns_rowB ho2
        have TA := R2.at_
        replace BC := BC.trans (hb2.mono BC.size)
        replace BC0 := BC0.trans (hb2.mono BC0.size)
        replace XA := (hb2.block _ (lt_of_block XA)).trans XA
        clear hb2 ho2 R2
        refine hK _ _ ?_
        clear hK K
        refine wpAny_ready (rs := [3]) (by kernel_rfl) (by simp) ?_
        refine AllReady.cons rfl (fun K hK => ?_) ?_
        · have l30 : w2.cell? ⟨w.heap.size + 1, 0, none⟩ = some (.int .i64 x.q) := by rw [BC0.cell (p := ⟨w.heap.size + 1, 0, none⟩) (lt_of_block Q0)]; simp [World.cell?, Q0]
          have l31 : w2.cell? ⟨w.heap.size + 1, 1, none⟩ = some (.int .i64 x.s) := by rw [BC0.cell (p := ⟨w.heap.size + 1, 1, none⟩) (lt_of_block Q0)]; simp [World.cell?, Q0]
          have l32 : w2.cell? ⟨w.heap.size + 1, 2, none⟩ = some (.slice x.a x.l.length x.cap) := by rw [BC0.cell (p := ⟨w.heap.size + 1, 2, none⟩) (lt_of_block Q0)]; simp [World.cell?, Q0]
          have l33 : w2.cell? ⟨w.heap.size + 1, 3, none⟩ = some (.int .i64 x.fr) := by rw [BC0.cell (p := ⟨w.heap.size + 1, 3, none⟩) (lt_of_block Q0)]; simp [World.cell?, Q0]
          have l34 : w2.cell? ⟨w.heap.size + 1, 4, none⟩ = some (.int .i64 x.b) := by rw [BC0.cell (p := ⟨w.heap.size + 1, 4, none⟩) (lt_of_block Q0)]; simp [World.cell?, Q0]
          go_simp
          clear l30 l31 l32 l33 l34
          refine hK _ _ ?_
          clear hK K
          refine wpAny_ready (rs := [5]) (by kernel_rfl) (by simp) ?_
          refine AllReady.cons rfl (fun K hK => ?_) ?_
          · try go_simp
            refine (linkTubeS_any nmB x.q x.s x.fr x.b x.a x.b0 x.o x.cap x.l now _ hxl (hx.below BC hx.lt)).mono ?_
            rintro e w5 ⟨v5, rfl, ho5, hb5⟩
            obtain ⟨a5, g5, c5, rfl, R5⟩ := owns_rowB ho5
            have TB := R5.at_
            replace BC := BC.trans (hb5.mono BC.size)
            replace BC0 := BC0.trans (hb5.mono BC0.size)
            replace TA := TA.below hb5 TA.lt
            replace XA := (hb5.block _ (lt_of_block XA)).trans XA
            clear hb5 ho5 R5
            refine hK _ _ ?_
            clear hK K
            refine wpAny_ready (rs := [6]) (by kernel_rfl) (by simp) ?_
            refine AllReady.cons rfl (fun K hK => ?_) ?_
            · try go_simp
              refine (meetS_any (cutK nmA p.key now a2 g2 0 c2) (cutK nmB x.key now a5 g5 0 c5) _ (Nat.le_trans (cutBx_len _ now) (Nat.le_trans (tubeL_len _ _ _ _ _) (by omega))) (Nat.le_trans (cutBx_len _ now) (Nat.le_trans (tubeL_len _ _ _ _ _) (by omega))) ⟨TA⟩ ⟨TB⟩).mono ?_
              rintro e w6 ⟨rfl, hb6⟩
              replace BC := BC.trans (hb6.mono BC.size)
              replace BC0 := BC0.trans (hb6.mono BC0.size)
              rw [meets_name nameA nameB_b]
              obtain ⟨s1, s2, i1, i2, i3, hcl⟩ := clashC_five (cutK nmA p.key now a2 g2 0 c2).nm (cutK nmB x.key now a5 g5 0 c5).nm (meetTB (cutK nmA p.key now a2 g2 0 c2) (cutK nmB x.key now a5 g5 0 c5))
              rw [hcl]
              clear hcl
              replace XA := (hb6.block _ (lt_of_block XA)).trans XA
              clear hb6
              refine hK _ _ ?_
              clear hK K
              refine wpAny_take (i := 7) (v := .tuple #[.agg #[.string s1, .string s2, .int .i64 i1, .int .i64 i2, .int .i64 i3], .bool (meetsK p.key x.key now)]) rfl (by kernel_rfl) (by kernel_rfl) (by kernel_rfl) (fun _ _ _ h => h) (Or.inl ⟨by rfl, fun W => by go_simp⟩) ?_
              refine wpAny_take (i := 8) (v := .agg #[.string s1, .string s2, .int .i64 i1, .int .i64 i2, .int .i64 i3]) rfl (by kernel_rfl) (by kernel_rfl) (by kernel_rfl) (fun _ _ _ h => h) (Or.inl ⟨by rfl, fun W => by go_simp⟩) ?_
              refine wpAny_take (i := 9) (v := .bool (meetsK p.key x.key now)) rfl (by kernel_rfl) (by kernel_rfl) (by kernel_rfl) (fun _ _ _ h => h) (Or.inl ⟨by rfl, fun W => by go_simp⟩) ?_
              refine wpAny_ready (rs := [11]) (by kernel_rfl) (by simp) ?_
              refine AllReady.cons rfl (fun K hK => ?_) ?_
              · have y0 : w6.cell? ⟨W0.heap.size, 0, none⟩ = some (.string ⟨#[]⟩) := by simp [World.cell?, XA]
                have y1 : w6.cell? ⟨W0.heap.size, 1, none⟩ = some (.string ⟨#[]⟩) := by simp [World.cell?, XA]
                have y2 : w6.cell? ⟨W0.heap.size, 2, none⟩ = some (.int .i64 0) := by simp [World.cell?, XA]
                have y3 : w6.cell? ⟨W0.heap.size, 3, none⟩ = some (.int .i64 0) := by simp [World.cell?, XA]
                have y4 : w6.cell? ⟨W0.heap.size, 4, none⟩ = some (.int .i64 0) := by simp [World.cell?, XA]
                have yf : ∀ j, w6.frozen? ⟨W0.heap.size, j, none⟩ = false := fun j => by simp [World.frozen?, XA]
                go_simp
                refine hK _ _ ?_
                clear hK K
                refine wpAny_take (i := 12) (v := .bool (meetsK p.key x.key now)) rfl (by kernel_rfl) (by kernel_rfl) (by kernel_rfl) (fun _ _ _ h => h) (Or.inl ⟨by rfl, fun W => by go_simp⟩) ?_
                refine wpAny_done (by kernel_rfl) ?_ _
                go_wp2
                go_ret
                exact ⟨rfl, by
                  iterate 5 (refine Below.setCell ?_ (by show _ ≤ W0.heap.size; exact zX) _)
                  exact BC⟩
              exact AllReady.nil
            exact AllReady.nil
          exact AllReady.nil
        exact AllReady.nil
      refine AllReady.cons rfl (fun K hK => ?_) ?_
      · have l30 : (W0.drew.alloc (.cells #[.string ⟨#[]⟩, .string ⟨#[]⟩, .int .i64 0, .int .i64 0, .int .i64 0] 113)).cell? ⟨w.heap.size + 1, 0, none⟩ = some (.int .i64 x.q) := by rw [BC0.cell (p := ⟨w.heap.size + 1, 0, none⟩) (lt_of_block Q0)]; simp [World.cell?, Q0]
        have l31 : (W0.drew.alloc (.cells #[.string ⟨#[]⟩, .string ⟨#[]⟩, .int .i64 0, .int .i64 0, .int .i64 0] 113)).cell? ⟨w.heap.size + 1, 1, none⟩ = some (.int .i64 x.s) := by rw [BC0.cell (p := ⟨w.heap.size + 1, 1, none⟩) (lt_of_block Q0)]; simp [World.cell?, Q0]
        have l32 : (W0.drew.alloc (.cells #[.string ⟨#[]⟩, .string ⟨#[]⟩, .int .i64 0, .int .i64 0, .int .i64 0] 113)).cell? ⟨w.heap.size + 1, 2, none⟩ = some (.slice x.a x.l.length x.cap) := by rw [BC0.cell (p := ⟨w.heap.size + 1, 2, none⟩) (lt_of_block Q0)]; simp [World.cell?, Q0]
        have l33 : (W0.drew.alloc (.cells #[.string ⟨#[]⟩, .string ⟨#[]⟩, .int .i64 0, .int .i64 0, .int .i64 0] 113)).cell? ⟨w.heap.size + 1, 3, none⟩ = some (.int .i64 x.fr) := by rw [BC0.cell (p := ⟨w.heap.size + 1, 3, none⟩) (lt_of_block Q0)]; simp [World.cell?, Q0]
        have l34 : (W0.drew.alloc (.cells #[.string ⟨#[]⟩, .string ⟨#[]⟩, .int .i64 0, .int .i64 0, .int .i64 0] 113)).cell? ⟨w.heap.size + 1, 4, none⟩ = some (.int .i64 x.b) := by rw [BC0.cell (p := ⟨w.heap.size + 1, 4, none⟩) (lt_of_block Q0)]; simp [World.cell?, Q0]
        have m30 : (W0.alloc (.cells #[.string ⟨#[]⟩, .string ⟨#[]⟩, .int .i64 0, .int .i64 0, .int .i64 0] 113)).cell? ⟨w.heap.size + 1, 0, none⟩ = some (.int .i64 x.q) := l30
        have m31 : (W0.alloc (.cells #[.string ⟨#[]⟩, .string ⟨#[]⟩, .int .i64 0, .int .i64 0, .int .i64 0] 113)).cell? ⟨w.heap.size + 1, 1, none⟩ = some (.int .i64 x.s) := l31
        have m32 : (W0.alloc (.cells #[.string ⟨#[]⟩, .string ⟨#[]⟩, .int .i64 0, .int .i64 0, .int .i64 0] 113)).cell? ⟨w.heap.size + 1, 2, none⟩ = some (.slice x.a x.l.length x.cap) := l32
        have m33 : (W0.alloc (.cells #[.string ⟨#[]⟩, .string ⟨#[]⟩, .int .i64 0, .int .i64 0, .int .i64 0] 113)).cell? ⟨w.heap.size + 1, 3, none⟩ = some (.int .i64 x.fr) := l33
        have m34 : (W0.alloc (.cells #[.string ⟨#[]⟩, .string ⟨#[]⟩, .int .i64 0, .int .i64 0, .int .i64 0] 113)).cell? ⟨w.heap.size + 1, 4, none⟩ = some (.int .i64 x.b) := l34
        go_simp
        clear l30 l31 l32 l33 l34 m30 m31 m32 m33 m34
        refine hK _ _ ?_
        clear hK K
        refine wpAny_ready (rs := [2]) (by kernel_rfl) (by simp) ?_
        refine AllReady.cons rfl (fun K hK => ?_) ?_
        · try go_simp
          refine (linkTubeS_any nmA p.q p.s p.fr p.b p.a p.b0 p.o p.cap p.l now _ hpl (hp.below BC hp.lt)).mono ?_
          rintro e w2 ⟨v2, rfl, ho2, hb2⟩
          obtain ⟨a2, g2, c2, rfl, R2⟩ := owns_rowB ho2
          have TA := R2.at_
          replace BC := BC.trans (hb2.mono BC.size)
          replace BC0 := BC0.trans (hb2.mono BC0.size)
          replace XA := (hb2.block _ (lt_of_block XA)).trans XA
          clear hb2 ho2 R2
          refine hK _ _ ?_
          clear hK K
          refine wpAny_ready (rs := [5]) (by kernel_rfl) (by simp) ?_
          refine AllReady.cons rfl (fun K hK => ?_) ?_
          · try go_simp
            refine (linkTubeS_any nmB x.q x.s x.fr x.b x.a x.b0 x.o x.cap x.l now _ hxl (hx.below BC hx.lt)).mono ?_
            rintro e w5 ⟨v5, rfl, ho5, hb5⟩
            obtain ⟨a5, g5, c5, rfl, R5⟩ := owns_rowB ho5
            have TB := R5.at_
            replace BC := BC.trans (hb5.mono BC.size)
            replace BC0 := BC0.trans (hb5.mono BC0.size)
            replace TA := TA.below hb5 TA.lt
            replace XA := (hb5.block _ (lt_of_block XA)).trans XA
            clear hb5 ho5 R5
            refine hK _ _ ?_
            clear hK K
            refine wpAny_ready (rs := [6]) (by kernel_rfl) (by simp) ?_
            refine AllReady.cons rfl (fun K hK => ?_) ?_
            · try go_simp
              refine (meetS_any (cutK nmA p.key now a2 g2 0 c2) (cutK nmB x.key now a5 g5 0 c5) _ (Nat.le_trans (cutBx_len _ now) (Nat.le_trans (tubeL_len _ _ _ _ _) (by omega))) (Nat.le_trans (cutBx_len _ now) (Nat.le_trans (tubeL_len _ _ _ _ _) (by omega))) ⟨TA⟩ ⟨TB⟩).mono ?_
              rintro e w6 ⟨rfl, hb6⟩
              replace BC := BC.trans (hb6.mono BC.size)
              replace BC0 := BC0.trans (hb6.mono BC0.size)
              rw [meets_name nameA nameB_b]
              obtain ⟨s1, s2, i1, i2, i3, hcl⟩ := clashC_five (cutK nmA p.key now a2 g2 0 c2).nm (cutK nmB x.key now a5 g5 0 c5).nm (meetTB (cutK nmA p.key now a2 g2 0 c2) (cutK nmB x.key now a5 g5 0 c5))
              rw [hcl]
              clear hcl
              replace XA := (hb6.block _ (lt_of_block XA)).trans XA
              clear hb6
              refine hK _ _ ?_
              clear hK K
              refine wpAny_take (i := 7) (v := .tuple #[.agg #[.string s1, .string s2, .int .i64 i1, .int .i64 i2, .int .i64 i3], .bool (meetsK p.key x.key now)]) rfl (by kernel_rfl) (by kernel_rfl) (by kernel_rfl) (fun _ _ _ h => h) (Or.inl ⟨by rfl, fun W => by go_simp⟩) ?_
              refine wpAny_take (i := 8) (v := .agg #[.string s1, .string s2, .int .i64 i1, .int .i64 i2, .int .i64 i3]) rfl (by kernel_rfl) (by kernel_rfl) (by kernel_rfl) (fun _ _ _ h => h) (Or.inl ⟨by rfl, fun W => by go_simp⟩) ?_
              refine wpAny_take (i := 9) (v := .bool (meetsK p.key x.key now)) rfl (by kernel_rfl) (by kernel_rfl) (by kernel_rfl) (fun _ _ _ h => h) (Or.inl ⟨by rfl, fun W => by go_simp⟩) ?_
              refine wpAny_ready (rs := [11]) (by kernel_rfl) (by simp) ?_
              refine AllReady.cons rfl (fun K hK => ?_) ?_
              · have y0 : w6.cell? ⟨W0.heap.size, 0, none⟩ = some (.string ⟨#[]⟩) := by simp [World.cell?, XA]
                have y1 : w6.cell? ⟨W0.heap.size, 1, none⟩ = some (.string ⟨#[]⟩) := by simp [World.cell?, XA]
                have y2 : w6.cell? ⟨W0.heap.size, 2, none⟩ = some (.int .i64 0) := by simp [World.cell?, XA]
                have y3 : w6.cell? ⟨W0.heap.size, 3, none⟩ = some (.int .i64 0) := by simp [World.cell?, XA]
                have y4 : w6.cell? ⟨W0.heap.size, 4, none⟩ = some (.int .i64 0) := by simp [World.cell?, XA]
                have yf : ∀ j, w6.frozen? ⟨W0.heap.size, j, none⟩ = false := fun j => by simp [World.frozen?, XA]
                go_simp
                refine hK _ _ ?_
                clear hK K
                refine wpAny_take (i := 12) (v := .bool (meetsK p.key x.key now)) rfl (by kernel_rfl) (by kernel_rfl) (by kernel_rfl) (fun _ _ _ h => h) (Or.inl ⟨by rfl, fun W => by go_simp⟩) ?_
                refine wpAny_done (by kernel_rfl) ?_ _
                go_wp2
                go_ret
                exact ⟨rfl, by
                  iterate 5 (refine Below.setCell ?_ (by show _ ≤ W0.heap.size; exact zX) _)
                  exact BC⟩
              exact AllReady.nil
            exact AllReady.nil
          exact AllReady.nil
        exact AllReady.nil
      exact AllReady.nil
    exact AllReady.nil
  refine AllReady.cons rfl (fun K hK => ?_) ?_
  · have l30 : W0.drew.cell? ⟨w.heap.size + 1, 0, none⟩ = some (.int .i64 x.q) := by rw [BC0.cell (p := ⟨w.heap.size + 1, 0, none⟩) (lt_of_block Q0)]; simp [World.cell?, Q0]
    have l31 : W0.drew.cell? ⟨w.heap.size + 1, 1, none⟩ = some (.int .i64 x.s) := by rw [BC0.cell (p := ⟨w.heap.size + 1, 1, none⟩) (lt_of_block Q0)]; simp [World.cell?, Q0]
    have l32 : W0.drew.cell? ⟨w.heap.size + 1, 2, none⟩ = some (.slice x.a x.l.length x.cap) := by rw [BC0.cell (p := ⟨w.heap.size + 1, 2, none⟩) (lt_of_block Q0)]; simp [World.cell?, Q0]
    have l33 : W0.drew.cell? ⟨w.heap.size + 1, 3, none⟩ = some (.int .i64 x.fr) := by rw [BC0.cell (p := ⟨w.heap.size + 1, 3, none⟩) (lt_of_block Q0)]; simp [World.cell?, Q0]
    have l34 : W0.drew.cell? ⟨w.heap.size + 1, 4, none⟩ = some (.int .i64 x.b) := by rw [BC0.cell (p := ⟨w.heap.size + 1, 4, none⟩) (lt_of_block Q0)]; simp [World.cell?, Q0]
    go_simp
    clear l30 l31 l32 l33 l34
    refine hK _ _ ?_
    clear hK K
    refine wpAny_ready (rs := [0, 10]) (by kernel_rfl) (by simp) ?_
    refine AllReady.cons rfl (fun K hK => ?_) ?_
    · have l00 : W0.drew.cell? ⟨w.heap.size, 0, none⟩ = some (.int .i64 p.q) := by rw [BC0.cell (p := ⟨w.heap.size, 0, none⟩) (lt_of_block P0)]; simp [World.cell?, P0]
      have l01 : W0.drew.cell? ⟨w.heap.size, 1, none⟩ = some (.int .i64 p.s) := by rw [BC0.cell (p := ⟨w.heap.size, 1, none⟩) (lt_of_block P0)]; simp [World.cell?, P0]
      have l02 : W0.drew.cell? ⟨w.heap.size, 2, none⟩ = some (.slice p.a p.l.length p.cap) := by rw [BC0.cell (p := ⟨w.heap.size, 2, none⟩) (lt_of_block P0)]; simp [World.cell?, P0]
      have l03 : W0.drew.cell? ⟨w.heap.size, 3, none⟩ = some (.int .i64 p.fr) := by rw [BC0.cell (p := ⟨w.heap.size, 3, none⟩) (lt_of_block P0)]; simp [World.cell?, P0]
      have l04 : W0.drew.cell? ⟨w.heap.size, 4, none⟩ = some (.int .i64 p.b) := by rw [BC0.cell (p := ⟨w.heap.size, 4, none⟩) (lt_of_block P0)]; simp [World.cell?, P0]
      go_simp
      clear l00 l01 l02 l03 l04
      refine hK _ _ ?_
      clear hK K
      refine wpAny_ready (rs := [2, 10]) (by kernel_rfl) (by simp) ?_
      refine AllReady.cons rfl (fun K hK => ?_) ?_
      · try go_simp
        refine (linkTubeS_any nmA p.q p.s p.fr p.b p.a p.b0 p.o p.cap p.l now _ hpl (hp.below BC hp.lt)).mono ?_
        rintro e w2 ⟨v2, rfl, ho2, hb2⟩
        obtain ⟨a2, g2, c2, rfl, R2⟩ := owns_rowB ho2
        have TA := R2.at_
        replace BC := BC.trans (hb2.mono BC.size)
        replace BC0 := BC0.trans (hb2.mono BC0.size)
        clear hb2 ho2 R2
        refine hK _ _ ?_
        clear hK K
        refine wpAny_ready (rs := [5, 10]) (by kernel_rfl) (by simp) ?_
        refine AllReady.cons rfl (fun K hK => ?_) ?_
        · try go_simp
          refine (linkTubeS_any nmB x.q x.s x.fr x.b x.a x.b0 x.o x.cap x.l now _ hxl (hx.below BC hx.lt)).mono ?_
          rintro e w5 ⟨v5, rfl, ho5, hb5⟩
          obtain ⟨a5, g5, c5, rfl, R5⟩ := owns_rowB ho5
          have TB := R5.at_
          replace BC := BC.trans (hb5.mono BC.size)
          replace BC0 := BC0.trans (hb5.mono BC0.size)
          replace TA := TA.below hb5 TA.lt
          clear hb5 ho5 R5
          refine hK _ _ ?_
          clear hK K
          refine wpAny_ready (rs := [6, 10]) (by kernel_rfl) (by simp) ?_
          refine AllReady.cons rfl (fun K hK => ?_) ?_
          · try go_simp
            refine (meetS_any (cutK nmA p.key now a2 g2 0 c2) (cutK nmB x.key now a5 g5 0 c5) _ (Nat.le_trans (cutBx_len _ now) (Nat.le_trans (tubeL_len _ _ _ _ _) (by omega))) (Nat.le_trans (cutBx_len _ now) (Nat.le_trans (tubeL_len _ _ _ _ _) (by omega))) ⟨TA⟩ ⟨TB⟩).mono ?_
            rintro e w6 ⟨rfl, hb6⟩
            replace BC := BC.trans (hb6.mono BC.size)
            replace BC0 := BC0.trans (hb6.mono BC0.size)
            rw [meets_name nameA nameB_b]
            obtain ⟨s1, s2, i1, i2, i3, hcl⟩ := clashC_five (cutK nmA p.key now a2 g2 0 c2).nm (cutK nmB x.key now a5 g5 0 c5).nm (meetTB (cutK nmA p.key now a2 g2 0 c2) (cutK nmB x.key now a5 g5 0 c5))
            rw [hcl]
            clear hcl
            clear hb6
            refine hK _ _ ?_
            clear hK K
            refine wpAny_take (i := 7) (v := .tuple #[.agg #[.string s1, .string s2, .int .i64 i1, .int .i64 i2, .int .i64 i3], .bool (meetsK p.key x.key now)]) rfl (by kernel_rfl) (by kernel_rfl) (by kernel_rfl) (fun _ _ _ h => h) (Or.inl ⟨by rfl, fun W => by go_simp⟩) ?_
            refine wpAny_take (i := 8) (v := .agg #[.string s1, .string s2, .int .i64 i1, .int .i64 i2, .int .i64 i3]) rfl (by kernel_rfl) (by kernel_rfl) (by kernel_rfl) (fun _ _ _ h => h) (Or.inl ⟨by rfl, fun W => by go_simp⟩) ?_
            refine wpAny_take (i := 9) (v := .bool (meetsK p.key x.key now)) rfl (by kernel_rfl) (by kernel_rfl) (by kernel_rfl) (fun _ _ _ h => h) (Or.inl ⟨by rfl, fun W => by go_simp⟩) ?_
            refine wpAny_ready (rs := [10]) (by kernel_rfl) (by simp) ?_
            refine AllReady.cons rfl (fun K hK => ?_) ?_
            · go_simp
              have XA : (w6.alloc (.cells #[.string ⟨#[]⟩, .string ⟨#[]⟩, .int .i64 0, .int .i64 0, .int .i64 0] 113)).heap[w6.heap.size]? = some (.cells #[.string ⟨#[]⟩, .string ⟨#[]⟩, .int .i64 0, .int .i64 0, .int .i64 0] 113 (0, 0)) := heap_alloc_new w6 (.cells #[.string ⟨#[]⟩, .string ⟨#[]⟩, .int .i64 0, .int .i64 0, .int .i64 0] 113)
              have zX : w.heap.size ≤ w6.heap.size := BC.size
              have BC6 := BC
              replace BC := BC.trans ((bel1 (w := w6) (.cells #[.string ⟨#[]⟩, .string ⟨#[]⟩, .int .i64 0, .int .i64 0, .int .i64 0] 113)).mono BC.size)
              replace BC0 := BC0.trans ((bel1 (w := w6) (.cells #[.string ⟨#[]⟩, .string ⟨#[]⟩, .int .i64 0, .int .i64 0, .int .i64 0] 113)).mono BC0.size)
              refine hK _ _ ?_
              clear hK K
              refine wpAny_ready (rs := [11]) (by kernel_rfl) (by simp) ?_
              refine AllReady.cons rfl (fun K hK => ?_) ?_
              · go_simp
                refine hK _ _ ?_
                clear hK K
                refine wpAny_take (i := 12) (v := .bool (meetsK p.key x.key now)) rfl (by kernel_rfl) (by kernel_rfl) (by kernel_rfl) (fun _ _ _ h => h) (Or.inl ⟨by rfl, fun W => by go_simp⟩) ?_
                refine wpAny_done (by kernel_rfl) ?_ _
                go_wp2
                go_ret
                exact ⟨rfl, BC6.trans ((bel1 _).mono BC6.size)⟩
              exact AllReady.nil
            exact AllReady.nil
          refine AllReady.cons rfl (fun K hK => ?_) ?_
          · go_simp
            have XA : (w5.alloc (.cells #[.string ⟨#[]⟩, .string ⟨#[]⟩, .int .i64 0, .int .i64 0, .int .i64 0] 113)).heap[w5.heap.size]? = some (.cells #[.string ⟨#[]⟩, .string ⟨#[]⟩, .int .i64 0, .int .i64 0, .int .i64 0] 113 (0, 0)) := heap_alloc_new w5 (.cells #[.string ⟨#[]⟩, .string ⟨#[]⟩, .int .i64 0, .int .i64 0, .int .i64 0] 113)
            have zX : w.heap.size ≤ w5.heap.size := BC.size
            replace BC := BC.trans ((bel1 (w := w5) (.cells #[.string ⟨#[]⟩, .string ⟨#[]⟩, .int .i64 0, .int .i64 0, .int .i64 0] 113)).mono BC.size)
            replace BC0 := BC0.trans ((bel1 (w := w5) (.cells #[.string ⟨#[]⟩, .string ⟨#[]⟩, .int .i64 0, .int .i64 0, .int .i64 0] 113)).mono BC0.size)
            replace TA := TA.below (bel1 (w := w5) (.cells #[.string ⟨#[]⟩, .string ⟨#[]⟩, .int .i64 0, .int .i64 0, .int .i64 0] 113)) TA.lt
            replace TB := TB.below (bel1 (w := w5) (.cells #[.string ⟨#[]⟩, .string ⟨#[]⟩, .int .i64 0, .int .i64 0, .int .i64 0] 113)) TB.lt
            refine hK _ _ ?_
            clear hK K
            refine wpAny_ready (rs := [6]) (by kernel_rfl) (by simp) ?_
            refine AllReady.cons rfl (fun K hK => ?_) ?_
            · try go_simp
              refine (meetS_any (cutK nmA p.key now a2 g2 0 c2) (cutK nmB x.key now a5 g5 0 c5) _ (Nat.le_trans (cutBx_len _ now) (Nat.le_trans (tubeL_len _ _ _ _ _) (by omega))) (Nat.le_trans (cutBx_len _ now) (Nat.le_trans (tubeL_len _ _ _ _ _) (by omega))) ⟨TA⟩ ⟨TB⟩).mono ?_
              rintro e w6 ⟨rfl, hb6⟩
              replace BC := BC.trans (hb6.mono BC.size)
              replace BC0 := BC0.trans (hb6.mono BC0.size)
              rw [meets_name nameA nameB_b]
              obtain ⟨s1, s2, i1, i2, i3, hcl⟩ := clashC_five (cutK nmA p.key now a2 g2 0 c2).nm (cutK nmB x.key now a5 g5 0 c5).nm (meetTB (cutK nmA p.key now a2 g2 0 c2) (cutK nmB x.key now a5 g5 0 c5))
              rw [hcl]
              clear hcl
              replace XA := (hb6.block _ (lt_of_block XA)).trans XA
              clear hb6
              refine hK _ _ ?_
              clear hK K
              refine wpAny_take (i := 7) (v := .tuple #[.agg #[.string s1, .string s2, .int .i64 i1, .int .i64 i2, .int .i64 i3], .bool (meetsK p.key x.key now)]) rfl (by kernel_rfl) (by kernel_rfl) (by kernel_rfl) (fun _ _ _ h => h) (Or.inl ⟨by rfl, fun W => by go_simp⟩) ?_
              refine wpAny_take (i := 8) (v := .agg #[.string s1, .string s2, .int .i64 i1, .int .i64 i2, .int .i64 i3]) rfl (by kernel_rfl) (by kernel_rfl) (by kernel_rfl) (fun _ _ _ h => h) (Or.inl ⟨by rfl, fun W => by go_simp⟩) ?_
              refine wpAny_take (i := 9) (v := .bool (meetsK p.key x.key now)) rfl (by kernel_rfl) (by kernel_rfl) (by kernel_rfl) (fun _ _ _ h => h) (Or.inl ⟨by rfl, fun W => by go_simp⟩) ?_
              refine wpAny_ready (rs := [11]) (by kernel_rfl) (by simp) ?_
              refine AllReady.cons rfl (fun K hK => ?_) ?_
              · have y0 : w6.cell? ⟨w5.heap.size, 0, none⟩ = some (.string ⟨#[]⟩) := by simp [World.cell?, XA]
                have y1 : w6.cell? ⟨w5.heap.size, 1, none⟩ = some (.string ⟨#[]⟩) := by simp [World.cell?, XA]
                have y2 : w6.cell? ⟨w5.heap.size, 2, none⟩ = some (.int .i64 0) := by simp [World.cell?, XA]
                have y3 : w6.cell? ⟨w5.heap.size, 3, none⟩ = some (.int .i64 0) := by simp [World.cell?, XA]
                have y4 : w6.cell? ⟨w5.heap.size, 4, none⟩ = some (.int .i64 0) := by simp [World.cell?, XA]
                have yf : ∀ j, w6.frozen? ⟨w5.heap.size, j, none⟩ = false := fun j => by simp [World.frozen?, XA]
                go_simp
                refine hK _ _ ?_
                clear hK K
                refine wpAny_take (i := 12) (v := .bool (meetsK p.key x.key now)) rfl (by kernel_rfl) (by kernel_rfl) (by kernel_rfl) (fun _ _ _ h => h) (Or.inl ⟨by rfl, fun W => by go_simp⟩) ?_
                refine wpAny_done (by kernel_rfl) ?_ _
                go_wp2
                go_ret
                exact ⟨rfl, by
                  iterate 5 (refine Below.setCell ?_ (by show _ ≤ w5.heap.size; exact zX) _)
                  exact BC⟩
              exact AllReady.nil
            exact AllReady.nil
          exact AllReady.nil
        refine AllReady.cons rfl (fun K hK => ?_) ?_
        · go_simp
          have XA : (w2.alloc (.cells #[.string ⟨#[]⟩, .string ⟨#[]⟩, .int .i64 0, .int .i64 0, .int .i64 0] 113)).heap[w2.heap.size]? = some (.cells #[.string ⟨#[]⟩, .string ⟨#[]⟩, .int .i64 0, .int .i64 0, .int .i64 0] 113 (0, 0)) := heap_alloc_new w2 (.cells #[.string ⟨#[]⟩, .string ⟨#[]⟩, .int .i64 0, .int .i64 0, .int .i64 0] 113)
          have zX : w.heap.size ≤ w2.heap.size := BC.size
          replace BC := BC.trans ((bel1 (w := w2) (.cells #[.string ⟨#[]⟩, .string ⟨#[]⟩, .int .i64 0, .int .i64 0, .int .i64 0] 113)).mono BC.size)
          replace BC0 := BC0.trans ((bel1 (w := w2) (.cells #[.string ⟨#[]⟩, .string ⟨#[]⟩, .int .i64 0, .int .i64 0, .int .i64 0] 113)).mono BC0.size)
          replace TA := TA.below (bel1 (w := w2) (.cells #[.string ⟨#[]⟩, .string ⟨#[]⟩, .int .i64 0, .int .i64 0, .int .i64 0] 113)) TA.lt
          refine hK _ _ ?_
          clear hK K
          refine wpAny_ready (rs := [5]) (by kernel_rfl) (by simp) ?_
          refine AllReady.cons rfl (fun K hK => ?_) ?_
          · try go_simp
            refine (linkTubeS_any nmB x.q x.s x.fr x.b x.a x.b0 x.o x.cap x.l now _ hxl (hx.below BC hx.lt)).mono ?_
            rintro e w5 ⟨v5, rfl, ho5, hb5⟩
            obtain ⟨a5, g5, c5, rfl, R5⟩ := owns_rowB ho5
            have TB := R5.at_
            replace BC := BC.trans (hb5.mono BC.size)
            replace BC0 := BC0.trans (hb5.mono BC0.size)
            replace TA := TA.below hb5 TA.lt
            replace XA := (hb5.block _ (lt_of_block XA)).trans XA
            clear hb5 ho5 R5
            refine hK _ _ ?_
            clear hK K
            refine wpAny_ready (rs := [6]) (by kernel_rfl) (by simp) ?_
            refine AllReady.cons rfl (fun K hK => ?_) ?_
            · try go_simp
              refine (meetS_any (cutK nmA p.key now a2 g2 0 c2) (cutK nmB x.key now a5 g5 0 c5) _ (Nat.le_trans (cutBx_len _ now) (Nat.le_trans (tubeL_len _ _ _ _ _) (by omega))) (Nat.le_trans (cutBx_len _ now) (Nat.le_trans (tubeL_len _ _ _ _ _) (by omega))) ⟨TA⟩ ⟨TB⟩).mono ?_
              rintro e w6 ⟨rfl, hb6⟩
              replace BC := BC.trans (hb6.mono BC.size)
              replace BC0 := BC0.trans (hb6.mono BC0.size)
              rw [meets_name nameA nameB_b]
              obtain ⟨s1, s2, i1, i2, i3, hcl⟩ := clashC_five (cutK nmA p.key now a2 g2 0 c2).nm (cutK nmB x.key now a5 g5 0 c5).nm (meetTB (cutK nmA p.key now a2 g2 0 c2) (cutK nmB x.key now a5 g5 0 c5))
              rw [hcl]
              clear hcl
              replace XA := (hb6.block _ (lt_of_block XA)).trans XA
              clear hb6
              refine hK _ _ ?_
              clear hK K
              refine wpAny_take (i := 7) (v := .tuple #[.agg #[.string s1, .string s2, .int .i64 i1, .int .i64 i2, .int .i64 i3], .bool (meetsK p.key x.key now)]) rfl (by kernel_rfl) (by kernel_rfl) (by kernel_rfl) (fun _ _ _ h => h) (Or.inl ⟨by rfl, fun W => by go_simp⟩) ?_
              refine wpAny_take (i := 8) (v := .agg #[.string s1, .string s2, .int .i64 i1, .int .i64 i2, .int .i64 i3]) rfl (by kernel_rfl) (by kernel_rfl) (by kernel_rfl) (fun _ _ _ h => h) (Or.inl ⟨by rfl, fun W => by go_simp⟩) ?_
              refine wpAny_take (i := 9) (v := .bool (meetsK p.key x.key now)) rfl (by kernel_rfl) (by kernel_rfl) (by kernel_rfl) (fun _ _ _ h => h) (Or.inl ⟨by rfl, fun W => by go_simp⟩) ?_
              refine wpAny_ready (rs := [11]) (by kernel_rfl) (by simp) ?_
              refine AllReady.cons rfl (fun K hK => ?_) ?_
              · have y0 : w6.cell? ⟨w2.heap.size, 0, none⟩ = some (.string ⟨#[]⟩) := by simp [World.cell?, XA]
                have y1 : w6.cell? ⟨w2.heap.size, 1, none⟩ = some (.string ⟨#[]⟩) := by simp [World.cell?, XA]
                have y2 : w6.cell? ⟨w2.heap.size, 2, none⟩ = some (.int .i64 0) := by simp [World.cell?, XA]
                have y3 : w6.cell? ⟨w2.heap.size, 3, none⟩ = some (.int .i64 0) := by simp [World.cell?, XA]
                have y4 : w6.cell? ⟨w2.heap.size, 4, none⟩ = some (.int .i64 0) := by simp [World.cell?, XA]
                have yf : ∀ j, w6.frozen? ⟨w2.heap.size, j, none⟩ = false := fun j => by simp [World.frozen?, XA]
                go_simp
                refine hK _ _ ?_
                clear hK K
                refine wpAny_take (i := 12) (v := .bool (meetsK p.key x.key now)) rfl (by kernel_rfl) (by kernel_rfl) (by kernel_rfl) (fun _ _ _ h => h) (Or.inl ⟨by rfl, fun W => by go_simp⟩) ?_
                refine wpAny_done (by kernel_rfl) ?_ _
                go_wp2
                go_ret
                exact ⟨rfl, by
                  iterate 5 (refine Below.setCell ?_ (by show _ ≤ w2.heap.size; exact zX) _)
                  exact BC⟩
              exact AllReady.nil
            exact AllReady.nil
          exact AllReady.nil
        exact AllReady.nil
      refine AllReady.cons rfl (fun K hK => ?_) ?_
      · go_simp
        have XA : (W0.drew.alloc (.cells #[.string ⟨#[]⟩, .string ⟨#[]⟩, .int .i64 0, .int .i64 0, .int .i64 0] 113)).heap[W0.heap.size]? = some (.cells #[.string ⟨#[]⟩, .string ⟨#[]⟩, .int .i64 0, .int .i64 0, .int .i64 0] 113 (0, 0)) := heap_alloc_new W0.drew (.cells #[.string ⟨#[]⟩, .string ⟨#[]⟩, .int .i64 0, .int .i64 0, .int .i64 0] 113)
        have zX : w.heap.size ≤ W0.heap.size := BC.size
        replace BC := BC.trans ((bel1 (w := W0.drew) (.cells #[.string ⟨#[]⟩, .string ⟨#[]⟩, .int .i64 0, .int .i64 0, .int .i64 0] 113)).mono BC.size)
        replace BC0 := BC0.trans ((bel1 (w := W0.drew) (.cells #[.string ⟨#[]⟩, .string ⟨#[]⟩, .int .i64 0, .int .i64 0, .int .i64 0] 113)).mono BC0.size)
        refine hK _ _ ?_
        clear hK K
        refine wpAny_ready (rs := [2]) (by kernel_rfl) (by simp) ?_
        refine AllReady.cons rfl (fun K hK => ?_) ?_
        · try go_simp
          refine (linkTubeS_any nmA p.q p.s p.fr p.b p.a p.b0 p.o p.cap p.l now _ hpl (hp.below BC hp.lt)).mono ?_
          rintro e w2 ⟨v2, rfl, ho2, hb2⟩
          obtain ⟨a2, g2, c2, rfl, R2⟩ := owns_rowB ho2
          have TA := R2.at_
          replace BC := BC.trans (hb2.mono BC.size)
          replace BC0 := BC0.trans (hb2.mono BC0.size)
          replace XA := (hb2.block _ (lt_of_block XA)).trans XA
          clear hb2 ho2 R2
          refine hK _ _ ?_
          clear hK K
          refine wpAny_ready (rs := [5]) (by kernel_rfl) (by simp) ?_
          refine AllReady.cons rfl (fun K hK => ?_) ?_
          · try go_simp
            refine (linkTubeS_any nmB x.q x.s x.fr x.b x.a x.b0 x.o x.cap x.l now _ hxl (hx.below BC hx.lt)).mono ?_
            rintro e w5 ⟨v5, rfl, ho5, hb5⟩
            obtain ⟨a5, g5, c5, rfl, R5⟩ := owns_rowB ho5
            have TB := R5.at_
            replace BC := BC.trans (hb5.mono BC.size)
            replace BC0 := BC0.trans (hb5.mono BC0.size)
            replace TA := TA.below hb5 TA.lt
            replace XA := (hb5.block _ (lt_of_block XA)).trans XA
            clear hb5 ho5 R5
            refine hK _ _ ?_
            clear hK K
            refine wpAny_ready (rs := [6]) (by kernel_rfl) (by simp) ?_
            refine AllReady.cons rfl (fun K hK => ?_) ?_
            · try go_simp
              refine (meetS_any (cutK nmA p.key now a2 g2 0 c2) (cutK nmB x.key now a5 g5 0 c5) _ (Nat.le_trans (cutBx_len _ now) (Nat.le_trans (tubeL_len _ _ _ _ _) (by omega))) (Nat.le_trans (cutBx_len _ now) (Nat.le_trans (tubeL_len _ _ _ _ _) (by omega))) ⟨TA⟩ ⟨TB⟩).mono ?_
              rintro e w6 ⟨rfl, hb6⟩
              replace BC := BC.trans (hb6.mono BC.size)
              replace BC0 := BC0.trans (hb6.mono BC0.size)
              rw [meets_name nameA nameB_b]
              obtain ⟨s1, s2, i1, i2, i3, hcl⟩ := clashC_five (cutK nmA p.key now a2 g2 0 c2).nm (cutK nmB x.key now a5 g5 0 c5).nm (meetTB (cutK nmA p.key now a2 g2 0 c2) (cutK nmB x.key now a5 g5 0 c5))
              rw [hcl]
              clear hcl
              replace XA := (hb6.block _ (lt_of_block XA)).trans XA
              clear hb6
              refine hK _ _ ?_
              clear hK K
              refine wpAny_take (i := 7) (v := .tuple #[.agg #[.string s1, .string s2, .int .i64 i1, .int .i64 i2, .int .i64 i3], .bool (meetsK p.key x.key now)]) rfl (by kernel_rfl) (by kernel_rfl) (by kernel_rfl) (fun _ _ _ h => h) (Or.inl ⟨by rfl, fun W => by go_simp⟩) ?_
              refine wpAny_take (i := 8) (v := .agg #[.string s1, .string s2, .int .i64 i1, .int .i64 i2, .int .i64 i3]) rfl (by kernel_rfl) (by kernel_rfl) (by kernel_rfl) (fun _ _ _ h => h) (Or.inl ⟨by rfl, fun W => by go_simp⟩) ?_
              refine wpAny_take (i := 9) (v := .bool (meetsK p.key x.key now)) rfl (by kernel_rfl) (by kernel_rfl) (by kernel_rfl) (fun _ _ _ h => h) (Or.inl ⟨by rfl, fun W => by go_simp⟩) ?_
              refine wpAny_ready (rs := [11]) (by kernel_rfl) (by simp) ?_
              refine AllReady.cons rfl (fun K hK => ?_) ?_
              · have y0 : w6.cell? ⟨W0.heap.size, 0, none⟩ = some (.string ⟨#[]⟩) := by simp [World.cell?, XA]
                have y1 : w6.cell? ⟨W0.heap.size, 1, none⟩ = some (.string ⟨#[]⟩) := by simp [World.cell?, XA]
                have y2 : w6.cell? ⟨W0.heap.size, 2, none⟩ = some (.int .i64 0) := by simp [World.cell?, XA]
                have y3 : w6.cell? ⟨W0.heap.size, 3, none⟩ = some (.int .i64 0) := by simp [World.cell?, XA]
                have y4 : w6.cell? ⟨W0.heap.size, 4, none⟩ = some (.int .i64 0) := by simp [World.cell?, XA]
                have yf : ∀ j, w6.frozen? ⟨W0.heap.size, j, none⟩ = false := fun j => by simp [World.frozen?, XA]
                go_simp
                refine hK _ _ ?_
                clear hK K
                refine wpAny_take (i := 12) (v := .bool (meetsK p.key x.key now)) rfl (by kernel_rfl) (by kernel_rfl) (by kernel_rfl) (fun _ _ _ h => h) (Or.inl ⟨by rfl, fun W => by go_simp⟩) ?_
                refine wpAny_done (by kernel_rfl) ?_ _
                go_wp2
                go_ret
                exact ⟨rfl, by
                  iterate 5 (refine Below.setCell ?_ (by show _ ≤ W0.heap.size; exact zX) _)
                  exact BC⟩
              exact AllReady.nil
            exact AllReady.nil
          exact AllReady.nil
        exact AllReady.nil
      exact AllReady.nil
    refine AllReady.cons rfl (fun K hK => ?_) ?_
    · go_simp
      have XA : (W0.drew.alloc (.cells #[.string ⟨#[]⟩, .string ⟨#[]⟩, .int .i64 0, .int .i64 0, .int .i64 0] 113)).heap[W0.heap.size]? = some (.cells #[.string ⟨#[]⟩, .string ⟨#[]⟩, .int .i64 0, .int .i64 0, .int .i64 0] 113 (0, 0)) := heap_alloc_new W0.drew (.cells #[.string ⟨#[]⟩, .string ⟨#[]⟩, .int .i64 0, .int .i64 0, .int .i64 0] 113)
      have zX : w.heap.size ≤ W0.heap.size := BC.size
      replace BC := BC.trans ((bel1 (w := W0.drew) (.cells #[.string ⟨#[]⟩, .string ⟨#[]⟩, .int .i64 0, .int .i64 0, .int .i64 0] 113)).mono BC.size)
      replace BC0 := BC0.trans ((bel1 (w := W0.drew) (.cells #[.string ⟨#[]⟩, .string ⟨#[]⟩, .int .i64 0, .int .i64 0, .int .i64 0] 113)).mono BC0.size)
      refine hK _ _ ?_
      clear hK K
      refine wpAny_ready (rs := [0]) (by kernel_rfl) (by simp) ?_
      refine AllReady.cons rfl (fun K hK => ?_) ?_
      · have l00 : (W0.drew.alloc (.cells #[.string ⟨#[]⟩, .string ⟨#[]⟩, .int .i64 0, .int .i64 0, .int .i64 0] 113)).cell? ⟨w.heap.size, 0, none⟩ = some (.int .i64 p.q) := by rw [BC0.cell (p := ⟨w.heap.size, 0, none⟩) (lt_of_block P0)]; simp [World.cell?, P0]
        have l01 : (W0.drew.alloc (.cells #[.string ⟨#[]⟩, .string ⟨#[]⟩, .int .i64 0, .int .i64 0, .int .i64 0] 113)).cell? ⟨w.heap.size, 1, none⟩ = some (.int .i64 p.s) := by rw [BC0.cell (p := ⟨w.heap.size, 1, none⟩) (lt_of_block P0)]; simp [World.cell?, P0]
        have l02 : (W0.drew.alloc (.cells #[.string ⟨#[]⟩, .string ⟨#[]⟩, .int .i64 0, .int .i64 0, .int .i64 0] 113)).cell? ⟨w.heap.size, 2, none⟩ = some (.slice p.a p.l.length p.cap) := by rw [BC0.cell (p := ⟨w.heap.size, 2, none⟩) (lt_of_block P0)]; simp [World.cell?, P0]
        have l03 : (W0.drew.alloc (.cells #[.string ⟨#[]⟩, .string ⟨#[]⟩, .int .i64 0, .int .i64 0, .int .i64 0] 113)).cell? ⟨w.heap.size, 3, none⟩ = some (.int .i64 p.fr) := by rw [BC0.cell (p := ⟨w.heap.size, 3, none⟩) (lt_of_block P0)]; simp [World.cell?, P0]
        have l04 : (W0.drew.alloc (.cells #[.string ⟨#[]⟩, .string ⟨#[]⟩, .int .i64 0, .int .i64 0, .int .i64 0] 113)).cell? ⟨w.heap.size, 4, none⟩ = some (.int .i64 p.b) := by rw [BC0.cell (p := ⟨w.heap.size, 4, none⟩) (lt_of_block P0)]; simp [World.cell?, P0]
        have m00 : (W0.alloc (.cells #[.string ⟨#[]⟩, .string ⟨#[]⟩, .int .i64 0, .int .i64 0, .int .i64 0] 113)).cell? ⟨w.heap.size, 0, none⟩ = some (.int .i64 p.q) := l00
        have m01 : (W0.alloc (.cells #[.string ⟨#[]⟩, .string ⟨#[]⟩, .int .i64 0, .int .i64 0, .int .i64 0] 113)).cell? ⟨w.heap.size, 1, none⟩ = some (.int .i64 p.s) := l01
        have m02 : (W0.alloc (.cells #[.string ⟨#[]⟩, .string ⟨#[]⟩, .int .i64 0, .int .i64 0, .int .i64 0] 113)).cell? ⟨w.heap.size, 2, none⟩ = some (.slice p.a p.l.length p.cap) := l02
        have m03 : (W0.alloc (.cells #[.string ⟨#[]⟩, .string ⟨#[]⟩, .int .i64 0, .int .i64 0, .int .i64 0] 113)).cell? ⟨w.heap.size, 3, none⟩ = some (.int .i64 p.fr) := l03
        have m04 : (W0.alloc (.cells #[.string ⟨#[]⟩, .string ⟨#[]⟩, .int .i64 0, .int .i64 0, .int .i64 0] 113)).cell? ⟨w.heap.size, 4, none⟩ = some (.int .i64 p.b) := l04
        go_simp
        clear l00 l01 l02 l03 l04 m00 m01 m02 m03 m04
        refine hK _ _ ?_
        clear hK K
        refine wpAny_ready (rs := [2]) (by kernel_rfl) (by simp) ?_
        refine AllReady.cons rfl (fun K hK => ?_) ?_
        · try go_simp
          refine (linkTubeS_any nmA p.q p.s p.fr p.b p.a p.b0 p.o p.cap p.l now _ hpl (hp.below BC hp.lt)).mono ?_
          rintro e w2 ⟨v2, rfl, ho2, hb2⟩
          obtain ⟨a2, g2, c2, rfl, R2⟩ := owns_rowB ho2
          have TA := R2.at_
          replace BC := BC.trans (hb2.mono BC.size)
          replace BC0 := BC0.trans (hb2.mono BC0.size)
          replace XA := (hb2.block _ (lt_of_block XA)).trans XA
          clear hb2 ho2 R2
          refine hK _ _ ?_
          clear hK K
          refine wpAny_ready (rs := [5]) (by kernel_rfl) (by simp) ?_
          refine AllReady.cons rfl (fun K hK => ?_) ?_
          · try go_simp
            refine (linkTubeS_any nmB x.q x.s x.fr x.b x.a x.b0 x.o x.cap x.l now _ hxl (hx.below BC hx.lt)).mono ?_
            rintro e w5 ⟨v5, rfl, ho5, hb5⟩
            obtain ⟨a5, g5, c5, rfl, R5⟩ := owns_rowB ho5
            have TB := R5.at_
            replace BC := BC.trans (hb5.mono BC.size)
            replace BC0 := BC0.trans (hb5.mono BC0.size)
            replace TA := TA.below hb5 TA.lt
            replace XA := (hb5.block _ (lt_of_block XA)).trans XA
            clear hb5 ho5 R5
            refine hK _ _ ?_
            clear hK K
            refine wpAny_ready (rs := [6]) (by kernel_rfl) (by simp) ?_
            refine AllReady.cons rfl (fun K hK => ?_) ?_
            · try go_simp
              refine (meetS_any (cutK nmA p.key now a2 g2 0 c2) (cutK nmB x.key now a5 g5 0 c5) _ (Nat.le_trans (cutBx_len _ now) (Nat.le_trans (tubeL_len _ _ _ _ _) (by omega))) (Nat.le_trans (cutBx_len _ now) (Nat.le_trans (tubeL_len _ _ _ _ _) (by omega))) ⟨TA⟩ ⟨TB⟩).mono ?_
              rintro e w6 ⟨rfl, hb6⟩
              replace BC := BC.trans (hb6.mono BC.size)
              replace BC0 := BC0.trans (hb6.mono BC0.size)
              rw [meets_name nameA nameB_b]
              obtain ⟨s1, s2, i1, i2, i3, hcl⟩ := clashC_five (cutK nmA p.key now a2 g2 0 c2).nm (cutK nmB x.key now a5 g5 0 c5).nm (meetTB (cutK nmA p.key now a2 g2 0 c2) (cutK nmB x.key now a5 g5 0 c5))
              rw [hcl]
              clear hcl
              replace XA := (hb6.block _ (lt_of_block XA)).trans XA
              clear hb6
              refine hK _ _ ?_
              clear hK K
              refine wpAny_take (i := 7) (v := .tuple #[.agg #[.string s1, .string s2, .int .i64 i1, .int .i64 i2, .int .i64 i3], .bool (meetsK p.key x.key now)]) rfl (by kernel_rfl) (by kernel_rfl) (by kernel_rfl) (fun _ _ _ h => h) (Or.inl ⟨by rfl, fun W => by go_simp⟩) ?_
              refine wpAny_take (i := 8) (v := .agg #[.string s1, .string s2, .int .i64 i1, .int .i64 i2, .int .i64 i3]) rfl (by kernel_rfl) (by kernel_rfl) (by kernel_rfl) (fun _ _ _ h => h) (Or.inl ⟨by rfl, fun W => by go_simp⟩) ?_
              refine wpAny_take (i := 9) (v := .bool (meetsK p.key x.key now)) rfl (by kernel_rfl) (by kernel_rfl) (by kernel_rfl) (fun _ _ _ h => h) (Or.inl ⟨by rfl, fun W => by go_simp⟩) ?_
              refine wpAny_ready (rs := [11]) (by kernel_rfl) (by simp) ?_
              refine AllReady.cons rfl (fun K hK => ?_) ?_
              · have y0 : w6.cell? ⟨W0.heap.size, 0, none⟩ = some (.string ⟨#[]⟩) := by simp [World.cell?, XA]
                have y1 : w6.cell? ⟨W0.heap.size, 1, none⟩ = some (.string ⟨#[]⟩) := by simp [World.cell?, XA]
                have y2 : w6.cell? ⟨W0.heap.size, 2, none⟩ = some (.int .i64 0) := by simp [World.cell?, XA]
                have y3 : w6.cell? ⟨W0.heap.size, 3, none⟩ = some (.int .i64 0) := by simp [World.cell?, XA]
                have y4 : w6.cell? ⟨W0.heap.size, 4, none⟩ = some (.int .i64 0) := by simp [World.cell?, XA]
                have yf : ∀ j, w6.frozen? ⟨W0.heap.size, j, none⟩ = false := fun j => by simp [World.frozen?, XA]
                go_simp
                refine hK _ _ ?_
                clear hK K
                refine wpAny_take (i := 12) (v := .bool (meetsK p.key x.key now)) rfl (by kernel_rfl) (by kernel_rfl) (by kernel_rfl) (fun _ _ _ h => h) (Or.inl ⟨by rfl, fun W => by go_simp⟩) ?_
                refine wpAny_done (by kernel_rfl) ?_ _
                go_wp2
                go_ret
                exact ⟨rfl, by
                  iterate 5 (refine Below.setCell ?_ (by show _ ≤ W0.heap.size; exact zX) _)
                  exact BC⟩
              exact AllReady.nil
            exact AllReady.nil
          exact AllReady.nil
        exact AllReady.nil
      exact AllReady.nil
    exact AllReady.nil
  refine AllReady.cons rfl (fun K hK => ?_) ?_
  · go_simp
    have XA : (W0.drew.alloc (.cells #[.string ⟨#[]⟩, .string ⟨#[]⟩, .int .i64 0, .int .i64 0, .int .i64 0] 113)).heap[W0.heap.size]? = some (.cells #[.string ⟨#[]⟩, .string ⟨#[]⟩, .int .i64 0, .int .i64 0, .int .i64 0] 113 (0, 0)) := heap_alloc_new W0.drew (.cells #[.string ⟨#[]⟩, .string ⟨#[]⟩, .int .i64 0, .int .i64 0, .int .i64 0] 113)
    have zX : w.heap.size ≤ W0.heap.size := BC.size
    replace BC := BC.trans ((bel1 (w := W0.drew) (.cells #[.string ⟨#[]⟩, .string ⟨#[]⟩, .int .i64 0, .int .i64 0, .int .i64 0] 113)).mono BC.size)
    replace BC0 := BC0.trans ((bel1 (w := W0.drew) (.cells #[.string ⟨#[]⟩, .string ⟨#[]⟩, .int .i64 0, .int .i64 0, .int .i64 0] 113)).mono BC0.size)
    refine hK _ _ ?_
    clear hK K
    refine wpAny_ready (rs := [0, 3]) (by kernel_rfl) (by simp) ?_
    refine AllReady.cons rfl (fun K hK => ?_) ?_
    · have l00 : (W0.drew.alloc (.cells #[.string ⟨#[]⟩, .string ⟨#[]⟩, .int .i64 0, .int .i64 0, .int .i64 0] 113)).cell? ⟨w.heap.size, 0, none⟩ = some (.int .i64 p.q) := by rw [BC0.cell (p := ⟨w.heap.size, 0, none⟩) (lt_of_block P0)]; simp [World.cell?, P0]
      have l01 : (W0.drew.alloc (.cells #[.string ⟨#[]⟩, .string ⟨#[]⟩, .int .i64 0, .int .i64 0, .int .i64 0] 113)).cell? ⟨w.heap.size, 1, none⟩ = some (.int .i64 p.s) := by rw [BC0.cell (p := ⟨w.heap.size, 1, none⟩) (lt_of_block P0)]; simp [World.cell?, P0]
      have l02 : (W0.drew.alloc (.cells #[.string ⟨#[]⟩, .string ⟨#[]⟩, .int .i64 0, .int .i64 0, .int .i64 0] 113)).cell? ⟨w.heap.size, 2, none⟩ = some (.slice p.a p.l.length p.cap) := by rw [BC0.cell (p := ⟨w.heap.size, 2, none⟩) (lt_of_block P0)]; simp [World.cell?, P0]
      have l03 : (W0.drew.alloc (.cells #[.string ⟨#[]⟩, .string ⟨#[]⟩, .int .i64 0, .int .i64 0, .int .i64 0] 113)).cell? ⟨w.heap.size, 3, none⟩ = some (.int .i64 p.fr) := by rw [BC0.cell (p := ⟨w.heap.size, 3, none⟩) (lt_of_block P0)]; simp [World.cell?, P0]
      have l04 : (W0.drew.alloc (.cells #[.string ⟨#[]⟩, .string ⟨#[]⟩, .int .i64 0, .int .i64 0, .int .i64 0] 113)).cell? ⟨w.heap.size, 4, none⟩ = some (.int .i64 p.b) := by rw [BC0.cell (p := ⟨w.heap.size, 4, none⟩) (lt_of_block P0)]; simp [World.cell?, P0]
      have m00 : (W0.alloc (.cells #[.string ⟨#[]⟩, .string ⟨#[]⟩, .int .i64 0, .int .i64 0, .int .i64 0] 113)).cell? ⟨w.heap.size, 0, none⟩ = some (.int .i64 p.q) := l00
      have m01 : (W0.alloc (.cells #[.string ⟨#[]⟩, .string ⟨#[]⟩, .int .i64 0, .int .i64 0, .int .i64 0] 113)).cell? ⟨w.heap.size, 1, none⟩ = some (.int .i64 p.s) := l01
      have m02 : (W0.alloc (.cells #[.string ⟨#[]⟩, .string ⟨#[]⟩, .int .i64 0, .int .i64 0, .int .i64 0] 113)).cell? ⟨w.heap.size, 2, none⟩ = some (.slice p.a p.l.length p.cap) := l02
      have m03 : (W0.alloc (.cells #[.string ⟨#[]⟩, .string ⟨#[]⟩, .int .i64 0, .int .i64 0, .int .i64 0] 113)).cell? ⟨w.heap.size, 3, none⟩ = some (.int .i64 p.fr) := l03
      have m04 : (W0.alloc (.cells #[.string ⟨#[]⟩, .string ⟨#[]⟩, .int .i64 0, .int .i64 0, .int .i64 0] 113)).cell? ⟨w.heap.size, 4, none⟩ = some (.int .i64 p.b) := l04
      go_simp
      clear l00 l01 l02 l03 l04 m00 m01 m02 m03 m04
      refine hK _ _ ?_
      clear hK K
      refine wpAny_ready (rs := [2, 3]) (by kernel_rfl) (by simp) ?_
      refine AllReady.cons rfl (fun K hK => ?_) ?_
      · try go_simp
        refine (linkTubeS_any nmA p.q p.s p.fr p.b p.a p.b0 p.o p.cap p.l now _ hpl (hp.below BC hp.lt)).mono ?_
        rintro e w2 ⟨v2, rfl, ho2, hb2⟩
        obtain ⟨a2, g2, c2, rfl, R2⟩ := owns_rowB ho2
        have TA := R2.at_
        replace BC := BC.trans (hb2.mono BC.size)
        replace BC0 := BC0.trans (hb2.mono BC0.size)
        replace XA := (hb2.block _ (lt_of_block XA)).trans XA
        clear hb2 ho2 R2
        refine hK _ _ ?_
        clear hK K
        refine wpAny_ready (rs := [3]) (by kernel_rfl) (by simp) ?_
        refine AllReady.cons rfl (fun K hK => ?_) ?_
        · have l30 : w2.cell? ⟨w.heap.size + 1, 0, none⟩ = some (.int .i64 x.q) := by rw [BC0.cell (p := ⟨w.heap.size + 1, 0, none⟩) (lt_of_block Q0)]; simp [World.cell?, Q0]
          have l31 : w2.cell? ⟨w.heap.size + 1, 1, none⟩ = some (.int .i64 x.s) := by rw [BC0.cell (p := ⟨w.heap.size + 1, 1, none⟩) (lt_of_block Q0)]; simp [World.cell?, Q0]
          have l32 : w2.cell? ⟨w.heap.size + 1, 2, none⟩ = some (.slice x.a x.l.length x.cap) := by rw [BC0.cell (p := ⟨w.heap.size + 1, 2, none⟩) (lt_of_block Q0)]; simp [World.cell?, Q0]
          have l33 : w2.cell? ⟨w.heap.size + 1, 3, none⟩ = some (.int .i64 x.fr) := by rw [BC0.cell (p := ⟨w.heap.size + 1, 3, none⟩) (lt_of_block Q0)]; simp [World.cell?, Q0]
          have l34 : w2.cell? ⟨w.heap.size + 1, 4, none⟩ = some (.int .i64 x.b) := by rw [BC0.cell (p := ⟨w.heap.size + 1, 4, none⟩) (lt_of_block Q0)]; simp [World.cell?, Q0]
          go_simp
          clear l30 l31 l32 l33 l34
          refine hK _ _ ?_
          clear hK K
          refine wpAny_ready (rs := [5]) (by kernel_rfl) (by simp) ?_
          refine AllReady.cons rfl (fun K hK => ?_) ?_
          · try go_simp
            refine (linkTubeS_any nmB x.q x.s x.fr x.b x.a x.b0 x.o x.cap x.l now _ hxl (hx.below BC hx.lt)).mono ?_
            rintro e w5 ⟨v5, rfl, ho5, hb5⟩
            obtain ⟨a5, g5, c5, rfl, R5⟩ := owns_rowB ho5
            have TB := R5.at_
            replace BC := BC.trans (hb5.mono BC.size)
            replace BC0 := BC0.trans (hb5.mono BC0.size)
            replace TA := TA.below hb5 TA.lt
            replace XA := (hb5.block _ (lt_of_block XA)).trans XA
            clear hb5 ho5 R5
            refine hK _ _ ?_
            clear hK K
            refine wpAny_ready (rs := [6]) (by kernel_rfl) (by simp) ?_
            refine AllReady.cons rfl (fun K hK => ?_) ?_
            · try go_simp
              refine (meetS_any (cutK nmA p.key now a2 g2 0 c2) (cutK nmB x.key now a5 g5 0 c5) _ (Nat.le_trans (cutBx_len _ now) (Nat.le_trans (tubeL_len _ _ _ _ _) (by omega))) (Nat.le_trans (cutBx_len _ now) (Nat.le_trans (tubeL_len _ _ _ _ _) (by omega))) ⟨TA⟩ ⟨TB⟩).mono ?_
              rintro e w6 ⟨rfl, hb6⟩
              replace BC := BC.trans (hb6.mono BC.size)
              replace BC0 := BC0.trans (hb6.mono BC0.size)
              rw [meets_name nameA nameB_b]
              obtain ⟨s1, s2, i1, i2, i3, hcl⟩ := clashC_five (cutK nmA p.key now a2 g2 0 c2).nm (cutK nmB x.key now a5 g5 0 c5).nm (meetTB (cutK nmA p.key now a2 g2 0 c2) (cutK nmB x.key now a5 g5 0 c5))
              rw [hcl]
              clear hcl
              replace XA := (hb6.block _ (lt_of_block XA)).trans XA
              clear hb6
              refine hK _ _ ?_
              clear hK K
              refine wpAny_take (i := 7) (v := .tuple #[.agg #[.string s1, .string s2, .int .i64 i1, .int .i64 i2, .int .i64 i3], .bool (meetsK p.key x.key now)]) rfl (by kernel_rfl) (by kernel_rfl) (by kernel_rfl) (fun _ _ _ h => h) (Or.inl ⟨by rfl, fun W => by go_simp⟩) ?_
              refine wpAny_take (i := 8) (v := .agg #[.string s1, .string s2, .int .i64 i1, .int .i64 i2, .int .i64 i3]) rfl (by kernel_rfl) (by kernel_rfl) (by kernel_rfl) (fun _ _ _ h => h) (Or.inl ⟨by rfl, fun W => by go_simp⟩) ?_
              refine wpAny_take (i := 9) (v := .bool (meetsK p.key x.key now)) rfl (by kernel_rfl) (by kernel_rfl) (by kernel_rfl) (fun _ _ _ h => h) (Or.inl ⟨by rfl, fun W => by go_simp⟩) ?_
              refine wpAny_ready (rs := [11]) (by kernel_rfl) (by simp) ?_
              refine AllReady.cons rfl (fun K hK => ?_) ?_
              · have y0 : w6.cell? ⟨W0.heap.size, 0, none⟩ = some (.string ⟨#[]⟩) := by simp [World.cell?, XA]
                have y1 : w6.cell? ⟨W0.heap.size, 1, none⟩ = some (.string ⟨#[]⟩) := by simp [World.cell?, XA]
                have y2 : w6.cell? ⟨W0.heap.size, 2, none⟩ = some (.int .i64 0) := by simp [World.cell?, XA]
                have y3 : w6.cell? ⟨W0.heap.size, 3, none⟩ = some (.int .i64 0) := by simp [World.cell?, XA]
                have y4 : w6.cell? ⟨W0.heap.size, 4, none⟩ = some (.int .i64 0) := by simp [World.cell?, XA]
                have yf : ∀ j, w6.frozen? ⟨W0.heap.size, j, none⟩ = false := fun j => by simp [World.frozen?, XA]
                go_simp
                refine hK _ _ ?_
                clear hK K
                refine wpAny_take (i := 12) (v := .bool (meetsK p.key x.key now)) rfl (by kernel_rfl) (by kernel_rfl) (by kernel_rfl) (fun _ _ _ h => h) (Or.inl ⟨by rfl, fun W => by go_simp⟩) ?_
                refine wpAny_done (by kernel_rfl) ?_ _
                go_wp2
                go_ret
                exact ⟨rfl, by
                  iterate 5 (refine Below.setCell ?_ (by show _ ≤ W0.heap.size; exact zX) _)
                  exact BC⟩
              exact AllReady.nil
            exact AllReady.nil
          exact AllReady.nil
        exact AllReady.nil
      refine AllReady.cons rfl (fun K hK => ?_) ?_
      · have l30 : (W0.drew.alloc (.cells #[.string ⟨#[]⟩, .string ⟨#[]⟩, .int .i64 0, .int .i64 0, .int .i64 0] 113)).cell? ⟨w.heap.size + 1, 0, none⟩ = some (.int .i64 x.q) := by rw [BC0.cell (p := ⟨w.heap.size + 1, 0, none⟩) (lt_of_block Q0)]; simp [World.cell?, Q0]
        have l31 : (W0.drew.alloc (.cells #[.string ⟨#[]⟩, .string ⟨#[]⟩, .int .i64 0, .int .i64 0, .int .i64 0] 113)).cell? ⟨w.heap.size + 1, 1, none⟩ = some (.int .i64 x.s) := by rw [BC0.cell (p := ⟨w.heap.size + 1, 1, none⟩) (lt_of_block Q0)]; simp [World.cell?, Q0]
        have l32 : (W0.drew.alloc (.cells #[.string ⟨#[]⟩, .string ⟨#[]⟩, .int .i64 0, .int .i64 0, .int .i64 0] 113)).cell? ⟨w.heap.size + 1, 2, none⟩ = some (.slice x.a x.l.length x.cap) := by rw [BC0.cell (p := ⟨w.heap.size + 1, 2, none⟩) (lt_of_block Q0)]; simp [World.cell?, Q0]
        have l33 : (W0.drew.alloc (.cells #[.string ⟨#[]⟩, .string ⟨#[]⟩, .int .i64 0, .int .i64 0, .int .i64 0] 113)).cell? ⟨w.heap.size + 1, 3, none⟩ = some (.int .i64 x.fr) := by rw [BC0.cell (p := ⟨w.heap.size + 1, 3, none⟩) (lt_of_block Q0)]; simp [World.cell?, Q0]
        have l34 : (W0.drew.alloc (.cells #[.string ⟨#[]⟩, .string ⟨#[]⟩, .int .i64 0, .int .i64 0, .int .i64 0] 113)).cell? ⟨w.heap.size + 1, 4, none⟩ = some (.int .i64 x.b) := by rw [BC0.cell (p := ⟨w.heap.size + 1, 4, none⟩) (lt_of_block Q0)]; simp [World.cell?, Q0]
        have m30 : (W0.alloc (.cells #[.string ⟨#[]⟩, .string ⟨#[]⟩, .int .i64 0, .int .i64 0, .int .i64 0] 113)).cell? ⟨w.heap.size + 1, 0, none⟩ = some (.int .i64 x.q) := l30
        have m31 : (W0.alloc (.cells #[.string ⟨#[]⟩, .string ⟨#[]⟩, .int .i64 0, .int .i64 0, .int .i64 0] 113)).cell? ⟨w.heap.size + 1, 1, none⟩ = some (.int .i64 x.s) := l31
        have m32 : (W0.alloc (.cells #[.string ⟨#[]⟩, .string ⟨#[]⟩, .int .i64 0, .int .i64 0, .int .i64 0] 113)).cell? ⟨w.heap.size + 1, 2, none⟩ = some (.slice x.a x.l.length x.cap) := l32
        have m33 : (W0.alloc (.cells #[.string ⟨#[]⟩, .string ⟨#[]⟩, .int .i64 0, .int .i64 0, .int .i64 0] 113)).cell? ⟨w.heap.size + 1, 3, none⟩ = some (.int .i64 x.fr) := l33
        have m34 : (W0.alloc (.cells #[.string ⟨#[]⟩, .string ⟨#[]⟩, .int .i64 0, .int .i64 0, .int .i64 0] 113)).cell? ⟨w.heap.size + 1, 4, none⟩ = some (.int .i64 x.b) := l34
        go_simp
        clear l30 l31 l32 l33 l34 m30 m31 m32 m33 m34
        refine hK _ _ ?_
        clear hK K
        refine wpAny_ready (rs := [2]) (by kernel_rfl) (by simp) ?_
        refine AllReady.cons rfl (fun K hK => ?_) ?_
        · try go_simp
          refine (linkTubeS_any nmA p.q p.s p.fr p.b p.a p.b0 p.o p.cap p.l now _ hpl (hp.below BC hp.lt)).mono ?_
          rintro e w2 ⟨v2, rfl, ho2, hb2⟩
          obtain ⟨a2, g2, c2, rfl, R2⟩ := owns_rowB ho2
          have TA := R2.at_
          replace BC := BC.trans (hb2.mono BC.size)
          replace BC0 := BC0.trans (hb2.mono BC0.size)
          replace XA := (hb2.block _ (lt_of_block XA)).trans XA
          clear hb2 ho2 R2
          refine hK _ _ ?_
          clear hK K
          refine wpAny_ready (rs := [5]) (by kernel_rfl) (by simp) ?_
          refine AllReady.cons rfl (fun K hK => ?_) ?_
          · try go_simp
            refine (linkTubeS_any nmB x.q x.s x.fr x.b x.a x.b0 x.o x.cap x.l now _ hxl (hx.below BC hx.lt)).mono ?_
            rintro e w5 ⟨v5, rfl, ho5, hb5⟩
            obtain ⟨a5, g5, c5, rfl, R5⟩ := owns_rowB ho5
            have TB := R5.at_
            replace BC := BC.trans (hb5.mono BC.size)
            replace BC0 := BC0.trans (hb5.mono BC0.size)
            replace TA := TA.below hb5 TA.lt
            replace XA := (hb5.block _ (lt_of_block XA)).trans XA
            clear hb5 ho5 R5
            refine hK _ _ ?_
            clear hK K
            refine wpAny_ready (rs := [6]) (by kernel_rfl) (by simp) ?_
            refine AllReady.cons rfl (fun K hK => ?_) ?_
            · try go_simp
              refine (meetS_any (cutK nmA p.key now a2 g2 0 c2) (cutK nmB x.key now a5 g5 0 c5) _ (Nat.le_trans (cutBx_len _ now) (Nat.le_trans (tubeL_len _ _ _ _ _) (by omega))) (Nat.le_trans (cutBx_len _ now) (Nat.le_trans (tubeL_len _ _ _ _ _) (by omega))) ⟨TA⟩ ⟨TB⟩).mono ?_
              rintro e w6 ⟨rfl, hb6⟩
              replace BC := BC.trans (hb6.mono BC.size)
              replace BC0 := BC0.trans (hb6.mono BC0.size)
              rw [meets_name nameA nameB_b]
              obtain ⟨s1, s2, i1, i2, i3, hcl⟩ := clashC_five (cutK nmA p.key now a2 g2 0 c2).nm (cutK nmB x.key now a5 g5 0 c5).nm (meetTB (cutK nmA p.key now a2 g2 0 c2) (cutK nmB x.key now a5 g5 0 c5))
              rw [hcl]
              clear hcl
              replace XA := (hb6.block _ (lt_of_block XA)).trans XA
              clear hb6
              refine hK _ _ ?_
              clear hK K
              refine wpAny_take (i := 7) (v := .tuple #[.agg #[.string s1, .string s2, .int .i64 i1, .int .i64 i2, .int .i64 i3], .bool (meetsK p.key x.key now)]) rfl (by kernel_rfl) (by kernel_rfl) (by kernel_rfl) (fun _ _ _ h => h) (Or.inl ⟨by rfl, fun W => by go_simp⟩) ?_
              refine wpAny_take (i := 8) (v := .agg #[.string s1, .string s2, .int .i64 i1, .int .i64 i2, .int .i64 i3]) rfl (by kernel_rfl) (by kernel_rfl) (by kernel_rfl) (fun _ _ _ h => h) (Or.inl ⟨by rfl, fun W => by go_simp⟩) ?_
              refine wpAny_take (i := 9) (v := .bool (meetsK p.key x.key now)) rfl (by kernel_rfl) (by kernel_rfl) (by kernel_rfl) (fun _ _ _ h => h) (Or.inl ⟨by rfl, fun W => by go_simp⟩) ?_
              refine wpAny_ready (rs := [11]) (by kernel_rfl) (by simp) ?_
              refine AllReady.cons rfl (fun K hK => ?_) ?_
              · have y0 : w6.cell? ⟨W0.heap.size, 0, none⟩ = some (.string ⟨#[]⟩) := by simp [World.cell?, XA]
                have y1 : w6.cell? ⟨W0.heap.size, 1, none⟩ = some (.string ⟨#[]⟩) := by simp [World.cell?, XA]
                have y2 : w6.cell? ⟨W0.heap.size, 2, none⟩ = some (.int .i64 0) := by simp [World.cell?, XA]
                have y3 : w6.cell? ⟨W0.heap.size, 3, none⟩ = some (.int .i64 0) := by simp [World.cell?, XA]
                have y4 : w6.cell? ⟨W0.heap.size, 4, none⟩ = some (.int .i64 0) := by simp [World.cell?, XA]
                have yf : ∀ j, w6.frozen? ⟨W0.heap.size, j, none⟩ = false := fun j => by simp [World.frozen?, XA]
                go_simp
                refine hK _ _ ?_
                clear hK K
                refine wpAny_take (i := 12) (v := .bool (meetsK p.key x.key now)) rfl (by kernel_rfl) (by kernel_rfl) (by kernel_rfl) (fun _ _ _ h => h) (Or.inl ⟨by rfl, fun W => by go_simp⟩) ?_
                refine wpAny_done (by kernel_rfl) ?_ _
                go_wp2
                go_ret
                exact ⟨rfl, by
                  iterate 5 (refine Below.setCell ?_ (by show _ ≤ W0.heap.size; exact zX) _)
                  exact BC⟩
              exact AllReady.nil
            exact AllReady.nil
          exact AllReady.nil
        exact AllReady.nil
      exact AllReady.nil
    refine AllReady.cons rfl (fun K hK => ?_) ?_
    · have l30 : (W0.drew.alloc (.cells #[.string ⟨#[]⟩, .string ⟨#[]⟩, .int .i64 0, .int .i64 0, .int .i64 0] 113)).cell? ⟨w.heap.size + 1, 0, none⟩ = some (.int .i64 x.q) := by rw [BC0.cell (p := ⟨w.heap.size + 1, 0, none⟩) (lt_of_block Q0)]; simp [World.cell?, Q0]
      have l31 : (W0.drew.alloc (.cells #[.string ⟨#[]⟩, .string ⟨#[]⟩, .int .i64 0, .int .i64 0, .int .i64 0] 113)).cell? ⟨w.heap.size + 1, 1, none⟩ = some (.int .i64 x.s) := by rw [BC0.cell (p := ⟨w.heap.size + 1, 1, none⟩) (lt_of_block Q0)]; simp [World.cell?, Q0]
      have l32 : (W0.drew.alloc (.cells #[.string ⟨#[]⟩, .string ⟨#[]⟩, .int .i64 0, .int .i64 0, .int .i64 0] 113)).cell? ⟨w.heap.size + 1, 2, none⟩ = some (.slice x.a x.l.length x.cap) := by rw [BC0.cell (p := ⟨w.heap.size + 1, 2, none⟩) (lt_of_block Q0)]; simp [World.cell?, Q0]
      have l33 : (W0.drew.alloc (.cells #[.string ⟨#[]⟩, .string ⟨#[]⟩, .int .i64 0, .int .i64 0, .int .i64 0] 113)).cell? ⟨w.heap.size + 1, 3, none⟩ = some (.int .i64 x.fr) := by rw [BC0.cell (p := ⟨w.heap.size + 1, 3, none⟩) (lt_of_block Q0)]; simp [World.cell?, Q0]
      have l34 : (W0.drew.alloc (.cells #[.string ⟨#[]⟩, .string ⟨#[]⟩, .int .i64 0, .int .i64 0, .int .i64 0] 113)).cell? ⟨w.heap.size + 1, 4, none⟩ = some (.int .i64 x.b) := by rw [BC0.cell (p := ⟨w.heap.size + 1, 4, none⟩) (lt_of_block Q0)]; simp [World.cell?, Q0]
      have m30 : (W0.alloc (.cells #[.string ⟨#[]⟩, .string ⟨#[]⟩, .int .i64 0, .int .i64 0, .int .i64 0] 113)).cell? ⟨w.heap.size + 1, 0, none⟩ = some (.int .i64 x.q) := l30
      have m31 : (W0.alloc (.cells #[.string ⟨#[]⟩, .string ⟨#[]⟩, .int .i64 0, .int .i64 0, .int .i64 0] 113)).cell? ⟨w.heap.size + 1, 1, none⟩ = some (.int .i64 x.s) := l31
      have m32 : (W0.alloc (.cells #[.string ⟨#[]⟩, .string ⟨#[]⟩, .int .i64 0, .int .i64 0, .int .i64 0] 113)).cell? ⟨w.heap.size + 1, 2, none⟩ = some (.slice x.a x.l.length x.cap) := l32
      have m33 : (W0.alloc (.cells #[.string ⟨#[]⟩, .string ⟨#[]⟩, .int .i64 0, .int .i64 0, .int .i64 0] 113)).cell? ⟨w.heap.size + 1, 3, none⟩ = some (.int .i64 x.fr) := l33
      have m34 : (W0.alloc (.cells #[.string ⟨#[]⟩, .string ⟨#[]⟩, .int .i64 0, .int .i64 0, .int .i64 0] 113)).cell? ⟨w.heap.size + 1, 4, none⟩ = some (.int .i64 x.b) := l34
      go_simp
      clear l30 l31 l32 l33 l34 m30 m31 m32 m33 m34
      refine hK _ _ ?_
      clear hK K
      refine wpAny_ready (rs := [0]) (by kernel_rfl) (by simp) ?_
      refine AllReady.cons rfl (fun K hK => ?_) ?_
      · have l00 : (W0.drew.alloc (.cells #[.string ⟨#[]⟩, .string ⟨#[]⟩, .int .i64 0, .int .i64 0, .int .i64 0] 113)).cell? ⟨w.heap.size, 0, none⟩ = some (.int .i64 p.q) := by rw [BC0.cell (p := ⟨w.heap.size, 0, none⟩) (lt_of_block P0)]; simp [World.cell?, P0]
        have l01 : (W0.drew.alloc (.cells #[.string ⟨#[]⟩, .string ⟨#[]⟩, .int .i64 0, .int .i64 0, .int .i64 0] 113)).cell? ⟨w.heap.size, 1, none⟩ = some (.int .i64 p.s) := by rw [BC0.cell (p := ⟨w.heap.size, 1, none⟩) (lt_of_block P0)]; simp [World.cell?, P0]
        have l02 : (W0.drew.alloc (.cells #[.string ⟨#[]⟩, .string ⟨#[]⟩, .int .i64 0, .int .i64 0, .int .i64 0] 113)).cell? ⟨w.heap.size, 2, none⟩ = some (.slice p.a p.l.length p.cap) := by rw [BC0.cell (p := ⟨w.heap.size, 2, none⟩) (lt_of_block P0)]; simp [World.cell?, P0]
        have l03 : (W0.drew.alloc (.cells #[.string ⟨#[]⟩, .string ⟨#[]⟩, .int .i64 0, .int .i64 0, .int .i64 0] 113)).cell? ⟨w.heap.size, 3, none⟩ = some (.int .i64 p.fr) := by rw [BC0.cell (p := ⟨w.heap.size, 3, none⟩) (lt_of_block P0)]; simp [World.cell?, P0]
        have l04 : (W0.drew.alloc (.cells #[.string ⟨#[]⟩, .string ⟨#[]⟩, .int .i64 0, .int .i64 0, .int .i64 0] 113)).cell? ⟨w.heap.size, 4, none⟩ = some (.int .i64 p.b) := by rw [BC0.cell (p := ⟨w.heap.size, 4, none⟩) (lt_of_block P0)]; simp [World.cell?, P0]
        have m00 : (W0.alloc (.cells #[.string ⟨#[]⟩, .string ⟨#[]⟩, .int .i64 0, .int .i64 0, .int .i64 0] 113)).cell? ⟨w.heap.size, 0, none⟩ = some (.int .i64 p.q) := l00
        have m01 : (W0.alloc (.cells #[.string ⟨#[]⟩, .string ⟨#[]⟩, .int .i64 0, .int .i64 0, .int .i64 0] 113)).cell? ⟨w.heap.size, 1, none⟩ = some (.int .i64 p.s) := l01
        have m02 : (W0.alloc (.cells #[.string ⟨#[]⟩, .string ⟨#[]⟩, .int .i64 0, .int .i64 0, .int .i64 0] 113)).cell? ⟨w.heap.size, 2, none⟩ = some (.slice p.a p.l.length p.cap) := l02
        have m03 : (W0.alloc (.cells #[.string ⟨#[]⟩, .string ⟨#[]⟩, .int .i64 0, .int .i64 0, .int .i64 0] 113)).cell? ⟨w.heap.size, 3, none⟩ = some (.int .i64 p.fr) := l03
        have m04 : (W0.alloc (.cells #[.string ⟨#[]⟩, .string ⟨#[]⟩, .int .i64 0, .int .i64 0, .int .i64 0] 113)).cell? ⟨w.heap.size, 4, none⟩ = some (.int .i64 p.b) := l04
        go_simp
        clear l00 l01 l02 l03 l04 m00 m01 m02 m03 m04
        refine hK _ _ ?_
        clear hK K
        refine wpAny_ready (rs := [2]) (by kernel_rfl) (by simp) ?_
        refine AllReady.cons rfl (fun K hK => ?_) ?_
        · try go_simp
          refine (linkTubeS_any nmA p.q p.s p.fr p.b p.a p.b0 p.o p.cap p.l now _ hpl (hp.below BC hp.lt)).mono ?_
          rintro e w2 ⟨v2, rfl, ho2, hb2⟩
          obtain ⟨a2, g2, c2, rfl, R2⟩ := owns_rowB ho2
          have TA := R2.at_
          replace BC := BC.trans (hb2.mono BC.size)
          replace BC0 := BC0.trans (hb2.mono BC0.size)
          replace XA := (hb2.block _ (lt_of_block XA)).trans XA
          clear hb2 ho2 R2
          refine hK _ _ ?_
          clear hK K
          refine wpAny_ready (rs := [5]) (by kernel_rfl) (by simp) ?_
          refine AllReady.cons rfl (fun K hK => ?_) ?_
          · try go_simp
            refine (linkTubeS_any nmB x.q x.s x.fr x.b x.a x.b0 x.o x.cap x.l now _ hxl (hx.below BC hx.lt)).mono ?_
            rintro e w5 ⟨v5, rfl, ho5, hb5⟩
            obtain ⟨a5, g5, c5, rfl, R5⟩ := owns_rowB ho5
            have TB := R5.at_
            replace BC := BC.trans (hb5.mono BC.size)
            replace BC0 := BC0.trans (hb5.mono BC0.size)
            replace TA := TA.below hb5 TA.lt
            replace XA := (hb5.block _ (lt_of_block XA)).trans XA
            clear hb5 ho5 R5
            refine hK _ _ ?_
            clear hK K
            refine wpAny_ready (rs := [6]) (by kernel_rfl) (by simp) ?_
            refine AllReady.cons rfl (fun K hK => ?_) ?_
            · try go_simp
              refine (meetS_any (cutK nmA p.key now a2 g2 0 c2) (cutK nmB x.key now a5 g5 0 c5) _ (Nat.le_trans (cutBx_len _ now) (Nat.le_trans (tubeL_len _ _ _ _ _) (by omega))) (Nat.le_trans (cutBx_len _ now) (Nat.le_trans (tubeL_len _ _ _ _ _) (by omega))) ⟨TA⟩ ⟨TB⟩).mono ?_
              rintro e w6 ⟨rfl, hb6⟩
              replace BC := BC.trans (hb6.mono BC.size)
              replace BC0 := BC0.trans (hb6.mono BC0.size)
              rw [meets_name nameA nameB_b]
              obtain ⟨s1, s2, i1, i2, i3, hcl⟩ := clashC_five (cutK nmA p.key now a2 g2 0 c2).nm (cutK nmB x.key now a5 g5 0 c5).nm (meetTB (cutK nmA p.key now a2 g2 0 c2) (cutK nmB x.key now a5 g5 0 c5))
              rw [hcl]
              clear hcl
              replace XA := (hb6.block _ (lt_of_block XA)).trans XA
              clear hb6
              refine hK _ _ ?_
              clear hK K
              refine wpAny_take (i := 7) (v := .tuple #[.agg #[.string s1, .string s2, .int .i64 i1, .int .i64 i2, .int .i64 i3], .bool (meetsK p.key x.key now)]) rfl (by kernel_rfl) (by kernel_rfl) (by kernel_rfl) (fun _ _ _ h => h) (Or.inl ⟨by rfl, fun W => by go_simp⟩) ?_
              refine wpAny_take (i := 8) (v := .agg #[.string s1, .string s2, .int .i64 i1, .int .i64 i2, .int .i64 i3]) rfl (by kernel_rfl) (by kernel_rfl) (by kernel_rfl) (fun _ _ _ h => h) (Or.inl ⟨by rfl, fun W => by go_simp⟩) ?_
              refine wpAny_take (i := 9) (v := .bool (meetsK p.key x.key now)) rfl (by kernel_rfl) (by kernel_rfl) (by kernel_rfl) (fun _ _ _ h => h) (Or.inl ⟨by rfl, fun W => by go_simp⟩) ?_
              refine wpAny_ready (rs := [11]) (by kernel_rfl) (by simp) ?_
              refine AllReady.cons rfl (fun K hK => ?_) ?_
              · have y0 : w6.cell? ⟨W0.heap.size, 0, none⟩ = some (.string ⟨#[]⟩) := by simp [World.cell?, XA]
                have y1 : w6.cell? ⟨W0.heap.size, 1, none⟩ = some (.string ⟨#[]⟩) := by simp [World.cell?, XA]
                have y2 : w6.cell? ⟨W0.heap.size, 2, none⟩ = some (.int .i64 0) := by simp [World.cell?, XA]
                have y3 : w6.cell? ⟨W0.heap.size, 3, none⟩ = some (.int .i64 0) := by simp [World.cell?, XA]
                have y4 : w6.cell? ⟨W0.heap.size, 4, none⟩ = some (.int .i64 0) := by simp [World.cell?, XA]
                have yf : ∀ j, w6.frozen? ⟨W0.heap.size, j, none⟩ = false := fun j => by simp [World.frozen?, XA]
                go_simp
                refine hK _ _ ?_
                clear hK K
                refine wpAny_take (i := 12) (v := .bool (meetsK p.key x.key now)) rfl (by kernel_rfl) (by kernel_rfl) (by kernel_rfl) (fun _ _ _ h => h) (Or.inl ⟨by rfl, fun W => by go_simp⟩) ?_
                refine wpAny_done (by kernel_rfl) ?_ _
                go_wp2
                go_ret
                exact ⟨rfl, by
                  iterate 5 (refine Below.setCell ?_ (by show _ ≤ W0.heap.size; exact zX) _)
                  exact BC⟩
              exact AllReady.nil
            exact AllReady.nil
          exact AllReady.nil
        exact AllReady.nil
      exact AllReady.nil
    exact AllReady.nil
  exact AllReady.nil
end Go.Proofs.YtfmdejilhbankaaGreat
