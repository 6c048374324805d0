/- l12Copy, by its contract. -/
import Derived.Test.YtdjgkghmgjocbaaTbD
import Derived.Test.YtdjgkghmgjocbaaPbBel
import Derived.Maps.AppendAt
namespace Go.Proofs.Ytdjgkghmgjocbaa
open Go.RowKit

theorem rowC_oneB (l : List Bx) : ∀ u ∈ rowC l, u.oneCell' = true := by
  intro u hu
  simp only [rowC, List.mem_flatMap] at hu
  obtain ⟨s, _, h⟩ := hu
  simp at h
  rcases h with rfl | rfl | rfl | rfl | rfl | rfl <;> rfl
theorem row_newsB {w : World} {base g cap : Nat} {l : List Bx} (h : w.ownsRow base 59 6 (.slice (some ⟨g, 0, none⟩) l.length cap) l.length (rowC l)) : ∀ j u, (rowC l)[j]? = some u → w.cell? ((⟨g, 0, none⟩ : Addr).add j) = some u := by
  intro j u hj
  have hlt : j < l.length * 6 := by rw [← rowC_length]; exact (List.getElem?_eq_some_iff.1 hj).1
  have := (h.cellAt j (by omega)).trans hj
  rw [Addr.add_mid, Nat.zero_add]
  exact this

set_option maxRecDepth 20000 in
set_option maxHeartbeats 4000000 in
theorem copyT_row (nm : ByteArray) (g cap base : Nat) (l : List Bx) (w : World) (hl : l.length ≤ 45) (h : w.ownsRow base 59 6 (.slice (some ⟨g, 0, none⟩) l.length cap) l.length (rowC l)) :
    Calls Try.prog 97 #[.agg #[.string nm, (.slice (some ⟨g, 0, none⟩) l.length cap)]] w fun e w' => ∃ v', e = .returned (.agg #[.string nm, v']) ∧ w'.ownsRow w.heap.size 59 6 v' l.length (rowC l) ∧ Below w.heap.size w w' := by
  obtain ⟨i0, hi, hz0, hz1, hz2⟩ := info_parts pbox_inf
  have hnew := row_newsB (owns_below (owns_below (owns_below (owns_below h ((Below.refl _ _).alloc (Nat.le_refl _) (.cells #[.string nm, .slice (some ⟨g, 0, none⟩) l.length cap] 49))) ((Below.refl _ _).alloc (Nat.le_refl _) (.cells #[.string ⟨#[]⟩, .slice none 0 0] 49))) ((Below.refl _ _).drew)) ((Below.refl _ _).alloc (Nat.le_refl _) (.cells #[] 59)))
  have hE := owns_empty (w := ((w.alloc (.cells #[.string nm, (.slice (some ⟨g, 0, none⟩) l.length cap)] 49)).alloc (.cells #[.string ⟨#[]⟩, .slice none 0 0] 49))) (base := w.heap.size + 1 + 1) (e := 59) (size := 6) (by simp)
  simp only [World.size_alloc] at hE
  go_enter Try.func97, Try.ntmps97
  go_wp2
  refine wp_region_any (by kernel_rfl) ?_
  change wpAny _ _ _ _ _ _ _ (World.drew _)
  refine wpAny_take (i := 0) (v := .pointer (some ⟨w.heap.size, 0, none⟩)) rfl (by kernel_rfl) (by kernel_rfl) (by kernel_rfl) (fun _ _ _ h => h) (Or.inl ⟨by rfl, fun W => by go_simp⟩) ?_
  refine wpAny_take (i := 3) (v := .pointer (some ⟨w.heap.size, 1, none⟩)) rfl (by kernel_rfl) (by kernel_rfl) (by kernel_rfl) (fun _ _ _ h => h) (Or.inl ⟨by rfl, fun W => by go_simp⟩) ?_
  refine wpAny_ready (rs := [1, 2, 4]) (by kernel_rfl) (by simp) ?_
  refine AllReady.cons rfl (fun K hK => ?_) ?_
  · go_simp
    refine hK _ _ ?_
    clear hK K
    refine wpAny_ready (rs := [2, 4]) (by kernel_rfl) (by simp) ?_
    refine AllReady.cons rfl (fun K hK => ?_) ?_
    · go_simp
      refine hK _ _ ?_
      clear hK K
      refine wpAny_ready (rs := [4]) (by kernel_rfl) (by simp) ?_
      refine AllReady.cons rfl (fun K hK => ?_) ?_
      · go_simp
        refine hK _ _ ?_
        clear hK K
        refine wpAny_ready (rs := [5]) (by kernel_rfl) (by simp) ?_
        refine AllReady.cons rfl (fun K hK => ?_) ?_
        · refine wp_append_own _ (.tmp 5) (.tmp 7) 47 rfl (w.heap.size + 1 + 1) 59 i0 (.agg #[.int .i64 0, .int .i64 0, .int .i64 0, .int .i64 0, .int .i64 0, .int .i64 0]) 6 48 Try.underlying47 hi hz0 hz1 hz2 rfl (by decide) (.slice (some ⟨w.heap.size + 1 + 1, 0, none⟩) 0 0) 0 [] rfl hE ⟨g, 0, none⟩ l.length cap (rowC l) rfl (rowC_length l) hnew (rowC_oneB l) (by unfold maxLen; omega) (by omega) (by simp) ?_
          intro v5 w5 hown5 hgrow5 hnil5
          simp only [Nat.zero_add, List.nil_append] at hown5
          obtain ⟨a5, c5, rfl⟩ := owns_sliceB hown5
          have k0 : ∀ j, w5.cell? ⟨w.heap.size, j, none⟩ = _ := fun j => World.cell?_of_block (a := ⟨w.heap.size, j, none⟩) (hgrow5.block w.heap.size (by simp; omega) (by simp [Value.ownBlock]; omega))
          have k1 : ∀ j, w5.cell? ⟨w.heap.size + 1, j, none⟩ = _ := fun j => World.cell?_of_block (a := ⟨w.heap.size + 1, j, none⟩) (hgrow5.block (w.heap.size + 1) (by simp) (by simp [Value.ownBlock]))
          have k2 : ∀ j, w5.frozen? ⟨w.heap.size + 1, j, none⟩ = _ := fun j => World.frozen?_of_block (a := ⟨w.heap.size + 1, j, none⟩) (hgrow5.block (w.heap.size + 1) (by simp) (by simp [Value.ownBlock]))
          have m0 : w5.cell? ⟨w.heap.size, 0, none⟩ = some (.string nm) := by rw [k0]; simp [go_sem]
          have m1 : w5.cell? ⟨w.heap.size + 1, 0, none⟩ = some (.string ⟨#[]⟩) := by rw [k1]; simp [go_sem]
          have m2 : w5.cell? ⟨w.heap.size + 1, 1, none⟩ = some (.slice none 0 0) := by rw [k1]; simp [go_sem]
          have m3 : ∀ j, w5.frozen? ⟨w.heap.size + 1, j, none⟩ = false := fun j => by rw [k2]; simp [go_sem]
          clear k0 k1 k2
          have HB5 : Below w.heap.size w w5 := ((bel2 _ _).drew.alloc (by simp; omega) _).grown hgrow5 (by simp; omega) (fun k e => by simp [Value.ownBlock] at e; omega)
          refine hK _ _ ?_
          clear hK K
          refine wpAny_ready (rs := [6]) (by kernel_rfl) (by simp) ?_
          refine AllReady.cons rfl (fun K hK => ?_) ?_
          · go_simp
            refine hK _ _ ?_
            clear hK K
            refine wpAny_ready (rs := [7]) (by kernel_rfl) (by simp) ?_
            refine AllReady.cons rfl (fun K hK => ?_) ?_
            · go_simp
              refine hK _ _ ?_
              clear hK K
              refine wpAny_done (by kernel_rfl) ?_ _
              go_wp2
              refine bodyPost_ret (v := .agg #[.string nm, .slice a5 l.length c5]) (by simp [results, Try.results97, go_sem, *]) rfl ⟨_, rfl, ?_, ?_⟩
              · have hh : ∀ k, (Value.ownBlock (.slice a5 l.length c5)) = some k → k ≠ w.heap.size + 1 := fun k e => by have := owns_base hown5 k e; omega
                iterate 2 (refine owns_set ?_ hh _ _)
                exact owns_lowerB hown5 (by omega)
              · iterate 2 (refine Below.setCell ?_ (by simp <;> omega) _)
                exact HB5
            exact AllReady.nil
          exact AllReady.nil
        exact AllReady.nil
      exact AllReady.nil
    refine AllReady.cons rfl (fun K hK => ?_) ?_
    · go_simp
      refine hK _ _ ?_
      clear hK K
      refine wpAny_ready (rs := [2]) (by kernel_rfl) (by simp) ?_
      refine AllReady.cons rfl (fun K hK => ?_) ?_
      · go_simp
        refine hK _ _ ?_
        clear hK K
        refine wpAny_ready (rs := [5]) (by kernel_rfl) (by simp) ?_
        refine AllReady.cons rfl (fun K hK => ?_) ?_
        · refine wp_append_own _ (.tmp 5) (.tmp 7) 47 rfl (w.heap.size + 1 + 1) 59 i0 (.agg #[.int .i64 0, .int .i64 0, .int .i64 0, .int .i64 0, .int .i64 0, .int .i64 0]) 6 48 Try.underlying47 hi hz0 hz1 hz2 rfl (by decide) (.slice (some ⟨w.heap.size + 1 + 1, 0, none⟩) 0 0) 0 [] rfl hE ⟨g, 0, none⟩ l.length cap (rowC l) rfl (rowC_length l) hnew (rowC_oneB l) (by unfold maxLen; omega) (by omega) (by simp) ?_
          intro v5 w5 hown5 hgrow5 hnil5
          simp only [Nat.zero_add, List.nil_append] at hown5
          obtain ⟨a5, c5, rfl⟩ := owns_sliceB hown5
          have k0 : ∀ j, w5.cell? ⟨w.heap.size, j, none⟩ = _ := fun j => World.cell?_of_block (a := ⟨w.heap.size, j, none⟩) (hgrow5.block w.heap.size (by simp; omega) (by simp [Value.ownBlock]; omega))
          have k1 : ∀ j, w5.cell? ⟨w.heap.size + 1, j, none⟩ = _ := fun j => World.cell?_of_block (a := ⟨w.heap.size + 1, j, none⟩) (hgrow5.block (w.heap.size + 1) (by simp) (by simp [Value.ownBlock]))
          have k2 : ∀ j, w5.frozen? ⟨w.heap.size + 1, j, none⟩ = _ := fun j => World.frozen?_of_block (a := ⟨w.heap.size + 1, j, none⟩) (hgrow5.block (w.heap.size + 1) (by simp) (by simp [Value.ownBlock]))
          have m0 : w5.cell? ⟨w.heap.size, 0, none⟩ = some (.string nm) := by rw [k0]; simp [go_sem]
          have m1 : w5.cell? ⟨w.heap.size + 1, 0, none⟩ = some (.string ⟨#[]⟩) := by rw [k1]; simp [go_sem]
          have m2 : w5.cell? ⟨w.heap.size + 1, 1, none⟩ = some (.slice none 0 0) := by rw [k1]; simp [go_sem]
          have m3 : ∀ j, w5.frozen? ⟨w.heap.size + 1, j, none⟩ = false := fun j => by rw [k2]; simp [go_sem]
          clear k0 k1 k2
          have HB5 : Below w.heap.size w w5 := ((bel2 _ _).drew.alloc (by simp; omega) _).grown hgrow5 (by simp; omega) (fun k e => by simp [Value.ownBlock] at e; omega)
          refine hK _ _ ?_
          clear hK K
          refine wpAny_ready (rs := [6]) (by kernel_rfl) (by simp) ?_
          refine AllReady.cons rfl (fun K hK => ?_) ?_
          · go_simp
            refine hK _ _ ?_
            clear hK K
            refine wpAny_ready (rs := [7]) (by kernel_rfl) (by simp) ?_
            refine AllReady.cons rfl (fun K hK => ?_) ?_
            · go_simp
              refine hK _ _ ?_
              clear hK K
              refine wpAny_done (by kernel_rfl) ?_ _
              go_wp2
              refine bodyPost_ret (v := .agg #[.string nm, .slice a5 l.length c5]) (by simp [results, Try.results97, go_sem, *]) rfl ⟨_, rfl, ?_, ?_⟩
              · have hh : ∀ k, (Value.ownBlock (.slice a5 l.length c5)) = some k → k ≠ w.heap.size + 1 := fun k e => by have := owns_base hown5 k e; omega
                iterate 2 (refine owns_set ?_ hh _ _)
                exact owns_lowerB hown5 (by omega)
              · iterate 2 (refine Below.setCell ?_ (by simp <;> omega) _)
                exact HB5
            exact AllReady.nil
          exact AllReady.nil
        exact AllReady.nil
      exact AllReady.nil
    exact AllReady.nil
  refine AllReady.cons rfl (fun K hK => ?_) ?_
  · go_simp
    refine hK _ _ ?_
    clear hK K
    refine wpAny_ready (rs := [1, 4]) (by kernel_rfl) (by simp) ?_
    refine AllReady.cons rfl (fun K hK => ?_) ?_
    · go_simp
      refine hK _ _ ?_
      clear hK K
      refine wpAny_ready (rs := [4]) (by kernel_rfl) (by simp) ?_
      refine AllReady.cons rfl (fun K hK => ?_) ?_
      · go_simp
        refine hK _ _ ?_
        clear hK K
        refine wpAny_ready (rs := [5]) (by kernel_rfl) (by simp) ?_
        refine AllReady.cons rfl (fun K hK => ?_) ?_
        · refine wp_append_own _ (.tmp 5) (.tmp 7) 47 rfl (w.heap.size + 1 + 1) 59 i0 (.agg #[.int .i64 0, .int .i64 0, .int .i64 0, .int .i64 0, .int .i64 0, .int .i64 0]) 6 48 Try.underlying47 hi hz0 hz1 hz2 rfl (by decide) (.slice (some ⟨w.heap.size + 1 + 1, 0, none⟩) 0 0) 0 [] rfl hE ⟨g, 0, none⟩ l.length cap (rowC l) rfl (rowC_length l) hnew (rowC_oneB l) (by unfold maxLen; omega) (by omega) (by simp) ?_
          intro v5 w5 hown5 hgrow5 hnil5
          simp only [Nat.zero_add, List.nil_append] at hown5
          obtain ⟨a5, c5, rfl⟩ := owns_sliceB hown5
          have k0 : ∀ j, w5.cell? ⟨w.heap.size, j, none⟩ = _ := fun j => World.cell?_of_block (a := ⟨w.heap.size, j, none⟩) (hgrow5.block w.heap.size (by simp; omega) (by simp [Value.ownBlock]; omega))
          have k1 : ∀ j, w5.cell? ⟨w.heap.size + 1, j, none⟩ = _ := fun j => World.cell?_of_block (a := ⟨w.heap.size + 1, j, none⟩) (hgrow5.block (w.heap.size + 1) (by simp) (by simp [Value.ownBlock]))
          have k2 : ∀ j, w5.frozen? ⟨w.heap.size + 1, j, none⟩ = _ := fun j => World.frozen?_of_block (a := ⟨w.heap.size + 1, j, none⟩) (hgrow5.block (w.heap.size + 1) (by simp) (by simp [Value.ownBlock]))
          have m0 : w5.cell? ⟨w.heap.size, 0, none⟩ = some (.string nm) := by rw [k0]; simp [go_sem]
          have m1 : w5.cell? ⟨w.heap.size + 1, 0, none⟩ = some (.string ⟨#[]⟩) := by rw [k1]; simp [go_sem]
          have m2 : w5.cell? ⟨w.heap.size + 1, 1, none⟩ = some (.slice none 0 0) := by rw [k1]; simp [go_sem]
          have m3 : ∀ j, w5.frozen? ⟨w.heap.size + 1, j, none⟩ = false := fun j => by rw [k2]; simp [go_sem]
          clear k0 k1 k2
          have HB5 : Below w.heap.size w w5 := ((bel2 _ _).drew.alloc (by simp; omega) _).grown hgrow5 (by simp; omega) (fun k e => by simp [Value.ownBlock] at e; omega)
          refine hK _ _ ?_
          clear hK K
          refine wpAny_ready (rs := [6]) (by kernel_rfl) (by simp) ?_
          refine AllReady.cons rfl (fun K hK => ?_) ?_
          · go_simp
            refine hK _ _ ?_
            clear hK K
            refine wpAny_ready (rs := [7]) (by kernel_rfl) (by simp) ?_
            refine AllReady.cons rfl (fun K hK => ?_) ?_
            · go_simp
              refine hK _ _ ?_
              clear hK K
              refine wpAny_done (by kernel_rfl) ?_ _
              go_wp2
              refine bodyPost_ret (v := .agg #[.string nm, .slice a5 l.length c5]) (by simp [results, Try.results97, go_sem, *]) rfl ⟨_, rfl, ?_, ?_⟩
              · have hh : ∀ k, (Value.ownBlock (.slice a5 l.length c5)) = some k → k ≠ w.heap.size + 1 := fun k e => by have := owns_base hown5 k e; omega
                iterate 2 (refine owns_set ?_ hh _ _)
                exact owns_lowerB hown5 (by omega)
              · iterate 2 (refine Below.setCell ?_ (by simp <;> omega) _)
                exact HB5
            exact AllReady.nil
          exact AllReady.nil
        exact AllReady.nil
      exact AllReady.nil
    refine AllReady.cons rfl (fun K hK => ?_) ?_
    · go_simp
      refine hK _ _ ?_
      clear hK K
      refine wpAny_ready (rs := [1, 5]) (by kernel_rfl) (by simp) ?_
      refine AllReady.cons rfl (fun K hK => ?_) ?_
      · go_simp
        refine hK _ _ ?_
        clear hK K
        refine wpAny_ready (rs := [5]) (by kernel_rfl) (by simp) ?_
        refine AllReady.cons rfl (fun K hK => ?_) ?_
        · refine wp_append_own _ (.tmp 5) (.tmp 7) 47 rfl (w.heap.size + 1 + 1) 59 i0 (.agg #[.int .i64 0, .int .i64 0, .int .i64 0, .int .i64 0, .int .i64 0, .int .i64 0]) 6 48 Try.underlying47 hi hz0 hz1 hz2 rfl (by decide) (.slice (some ⟨w.heap.size + 1 + 1, 0, none⟩) 0 0) 0 [] rfl hE ⟨g, 0, none⟩ l.length cap (rowC l) rfl (rowC_length l) hnew (rowC_oneB l) (by unfold maxLen; omega) (by omega) (by simp) ?_
          intro v5 w5 hown5 hgrow5 hnil5
          simp only [Nat.zero_add, List.nil_append] at hown5
          obtain ⟨a5, c5, rfl⟩ := owns_sliceB hown5
          have k0 : ∀ j, w5.cell? ⟨w.heap.size, j, none⟩ = _ := fun j => World.cell?_of_block (a := ⟨w.heap.size, j, none⟩) (hgrow5.block w.heap.size (by simp; omega) (by simp [Value.ownBlock]; omega))
          have k1 : ∀ j, w5.cell? ⟨w.heap.size + 1, j, none⟩ = _ := fun j => World.cell?_of_block (a := ⟨w.heap.size + 1, j, none⟩) (hgrow5.block (w.heap.size + 1) (by simp) (by simp [Value.ownBlock]))
          have k2 : ∀ j, w5.frozen? ⟨w.heap.size + 1, j, none⟩ = _ := fun j => World.frozen?_of_block (a := ⟨w.heap.size + 1, j, none⟩) (hgrow5.block (w.heap.size + 1) (by simp) (by simp [Value.ownBlock]))
          have m0 : w5.cell? ⟨w.heap.size, 0, none⟩ = some (.string nm) := by rw [k0]; simp [go_sem]
          have m1 : w5.cell? ⟨w.heap.size + 1, 0, none⟩ = some (.string ⟨#[]⟩) := by rw [k1]; simp [go_sem]
          have m2 : w5.cell? ⟨w.heap.size + 1, 1, none⟩ = some (.slice none 0 0) := by rw [k1]; simp [go_sem]
          have m3 : ∀ j, w5.frozen? ⟨w.heap.size + 1, j, none⟩ = false := fun j => by rw [k2]; simp [go_sem]
          clear k0 k1 k2
          have HB5 : Below w.heap.size w w5 := ((bel2 _ _).drew.alloc (by simp; omega) _).grown hgrow5 (by simp; omega) (fun k e => by simp [Value.ownBlock] at e; omega)
          refine hK _ _ ?_
          clear hK K
          refine wpAny_ready (rs := [6]) (by kernel_rfl) (by simp) ?_
          refine AllReady.cons rfl (fun K hK => ?_) ?_
          · go_simp
            refine hK _ _ ?_
            clear hK K
            refine wpAny_ready (rs := [7]) (by kernel_rfl) (by simp) ?_
            refine AllReady.cons rfl (fun K hK => ?_) ?_
            · go_simp
              refine hK _ _ ?_
              clear hK K
              refine wpAny_done (by kernel_rfl) ?_ _
              go_wp2
              refine bodyPost_ret (v := .agg #[.string nm, .slice a5 l.length c5]) (by simp [results, Try.results97, go_sem, *]) rfl ⟨_, rfl, ?_, ?_⟩
              · have hh : ∀ k, (Value.ownBlock (.slice a5 l.length c5)) = some k → k ≠ w.heap.size + 1 := fun k e => by have := owns_base hown5 k e; omega
                iterate 2 (refine owns_set ?_ hh _ _)
                exact owns_lowerB hown5 (by omega)
              · iterate 2 (refine Below.setCell ?_ (by simp <;> omega) _)
                exact HB5
            exact AllReady.nil
          exact AllReady.nil
        exact AllReady.nil
      refine AllReady.cons rfl (fun K hK => ?_) ?_
      · refine wp_append_own _ (.tmp 5) (.tmp 7) 47 rfl (w.heap.size + 1 + 1) 59 i0 (.agg #[.int .i64 0, .int .i64 0, .int .i64 0, .int .i64 0, .int .i64 0, .int .i64 0]) 6 48 Try.underlying47 hi hz0 hz1 hz2 rfl (by decide) (.slice (some ⟨w.heap.size + 1 + 1, 0, none⟩) 0 0) 0 [] rfl hE ⟨g, 0, none⟩ l.length cap (rowC l) rfl (rowC_length l) hnew (rowC_oneB l) (by unfold maxLen; omega) (by omega) (by simp) ?_
        intro v5 w5 hown5 hgrow5 hnil5
        simp only [Nat.zero_add, List.nil_append] at hown5
        obtain ⟨a5, c5, rfl⟩ := owns_sliceB hown5
        have k0 : ∀ j, w5.cell? ⟨w.heap.size, j, none⟩ = _ := fun j => World.cell?_of_block (a := ⟨w.heap.size, j, none⟩) (hgrow5.block w.heap.size (by simp; omega) (by simp [Value.ownBlock]; omega))
        have k1 : ∀ j, w5.cell? ⟨w.heap.size + 1, j, none⟩ = _ := fun j => World.cell?_of_block (a := ⟨w.heap.size + 1, j, none⟩) (hgrow5.block (w.heap.size + 1) (by simp) (by simp [Value.ownBlock]))
        have k2 : ∀ j, w5.frozen? ⟨w.heap.size + 1, j, none⟩ = _ := fun j => World.frozen?_of_block (a := ⟨w.heap.size + 1, j, none⟩) (hgrow5.block (w.heap.size + 1) (by simp) (by simp [Value.ownBlock]))
        have m0 : w5.cell? ⟨w.heap.size, 0, none⟩ = some (.string nm) := by rw [k0]; simp [go_sem]
        have m1 : w5.cell? ⟨w.heap.size + 1, 0, none⟩ = some (.string ⟨#[]⟩) := by rw [k1]; simp [go_sem]
        have m2 : w5.cell? ⟨w.heap.size + 1, 1, none⟩ = some (.slice none 0 0) := by rw [k1]; simp [go_sem]
        have m3 : ∀ j, w5.frozen? ⟨w.heap.size + 1, j, none⟩ = false := fun j => by rw [k2]; simp [go_sem]
        clear k0 k1 k2
        have HB5 : Below w.heap.size w w5 := ((bel2 _ _).drew.alloc (by simp; omega) _).grown hgrow5 (by simp; omega) (fun k e => by simp [Value.ownBlock] at e; omega)
        refine hK _ _ ?_
        clear hK K
        refine wpAny_ready (rs := [1]) (by kernel_rfl) (by simp) ?_
        refine AllReady.cons rfl (fun K hK => ?_) ?_
        · go_simp
          refine hK _ _ ?_
          clear hK K
          refine wpAny_ready (rs := [6]) (by kernel_rfl) (by simp) ?_
          refine AllReady.cons rfl (fun K hK => ?_) ?_
          · go_simp
            refine hK _ _ ?_
            clear hK K
            refine wpAny_ready (rs := [7]) (by kernel_rfl) (by simp) ?_
            refine AllReady.cons rfl (fun K hK => ?_) ?_
            · go_simp
              refine hK _ _ ?_
              clear hK K
              refine wpAny_done (by kernel_rfl) ?_ _
              go_wp2
              refine bodyPost_ret (v := .agg #[.string nm, .slice a5 l.length c5]) (by simp [results, Try.results97, go_sem, *]) rfl ⟨_, rfl, ?_, ?_⟩
              · have hh : ∀ k, (Value.ownBlock (.slice a5 l.length c5)) = some k → k ≠ w.heap.size + 1 := fun k e => by have := owns_base hown5 k e; omega
                iterate 2 (refine owns_set ?_ hh _ _)
                exact owns_lowerB hown5 (by omega)
              · iterate 2 (refine Below.setCell ?_ (by simp <;> omega) _)
                exact HB5
            exact AllReady.nil
          exact AllReady.nil
        exact AllReady.nil
      exact AllReady.nil
    exact AllReady.nil
  refine AllReady.cons rfl (fun K hK => ?_) ?_
  · go_simp
    refine hK _ _ ?_
    clear hK K
    refine wpAny_ready (rs := [1, 2]) (by kernel_rfl) (by simp) ?_
    refine AllReady.cons rfl (fun K hK => ?_) ?_
    · go_simp
      refine hK _ _ ?_
      clear hK K
      refine wpAny_ready (rs := [2]) (by kernel_rfl) (by simp) ?_
      refine AllReady.cons rfl (fun K hK => ?_) ?_
      · go_simp
        refine hK _ _ ?_
        clear hK K
        refine wpAny_ready (rs := [5]) (by kernel_rfl) (by simp) ?_
        refine AllReady.cons rfl (fun K hK => ?_) ?_
        · refine wp_append_own _ (.tmp 5) (.tmp 7) 47 rfl (w.heap.size + 1 + 1) 59 i0 (.agg #[.int .i64 0, .int .i64 0, .int .i64 0, .int .i64 0, .int .i64 0, .int .i64 0]) 6 48 Try.underlying47 hi hz0 hz1 hz2 rfl (by decide) (.slice (some ⟨w.heap.size + 1 + 1, 0, none⟩) 0 0) 0 [] rfl hE ⟨g, 0, none⟩ l.length cap (rowC l) rfl (rowC_length l) hnew (rowC_oneB l) (by unfold maxLen; omega) (by omega) (by simp) ?_
          intro v5 w5 hown5 hgrow5 hnil5
          simp only [Nat.zero_add, List.nil_append] at hown5
          obtain ⟨a5, c5, rfl⟩ := owns_sliceB hown5
          have k0 : ∀ j, w5.cell? ⟨w.heap.size, j, none⟩ = _ := fun j => World.cell?_of_block (a := ⟨w.heap.size, j, none⟩) (hgrow5.block w.heap.size (by simp; omega) (by simp [Value.ownBlock]; omega))
          have k1 : ∀ j, w5.cell? ⟨w.heap.size + 1, j, none⟩ = _ := fun j => World.cell?_of_block (a := ⟨w.heap.size + 1, j, none⟩) (hgrow5.block (w.heap.size + 1) (by simp) (by simp [Value.ownBlock]))
          have k2 : ∀ j, w5.frozen? ⟨w.heap.size + 1, j, none⟩ = _ := fun j => World.frozen?_of_block (a := ⟨w.heap.size + 1, j, none⟩) (hgrow5.block (w.heap.size + 1) (by simp) (by simp [Value.ownBlock]))
          have m0 : w5.cell? ⟨w.heap.size, 0, none⟩ = some (.string nm) := by rw [k0]; simp [go_sem]
          have m1 : w5.cell? ⟨w.heap.size + 1, 0, none⟩ = some (.string ⟨#[]⟩) := by rw [k1]; simp [go_sem]
          have m2 : w5.cell? ⟨w.heap.size + 1, 1, none⟩ = some (.slice none 0 0) := by rw [k1]; simp [go_sem]
          have m3 : ∀ j, w5.frozen? ⟨w.heap.size + 1, j, none⟩ = false := fun j => by rw [k2]; simp [go_sem]
          clear k0 k1 k2
          have HB5 : Below w.heap.size w w5 := ((bel2 _ _).drew.alloc (by simp; omega) _).grown hgrow5 (by simp; omega) (fun k e => by simp [Value.ownBlock] at e; omega)
          refine hK _ _ ?_
          clear hK K
          refine wpAny_ready (rs := [6]) (by kernel_rfl) (by simp) ?_
          refine AllReady.cons rfl (fun K hK => ?_) ?_
          · go_simp
            refine hK _ _ ?_
            clear hK K
            refine wpAny_ready (rs := [7]) (by kernel_rfl) (by simp) ?_
            refine AllReady.cons rfl (fun K hK => ?_) ?_
            · go_simp
              refine hK _ _ ?_
              clear hK K
              refine wpAny_done (by kernel_rfl) ?_ _
              go_wp2
              refine bodyPost_ret (v := .agg #[.string nm, .slice a5 l.length c5]) (by simp [results, Try.results97, go_sem, *]) rfl ⟨_, rfl, ?_, ?_⟩
              · have hh : ∀ k, (Value.ownBlock (.slice a5 l.length c5)) = some k → k ≠ w.heap.size + 1 := fun k e => by have := owns_base hown5 k e; omega
                iterate 2 (refine owns_set ?_ hh _ _)
                exact owns_lowerB hown5 (by omega)
              · iterate 2 (refine Below.setCell ?_ (by simp <;> omega) _)
                exact HB5
            exact AllReady.nil
          exact AllReady.nil
        exact AllReady.nil
      exact AllReady.nil
    refine AllReady.cons rfl (fun K hK => ?_) ?_
    · go_simp
      refine hK _ _ ?_
      clear hK K
      refine wpAny_ready (rs := [1, 5]) (by kernel_rfl) (by simp) ?_
      refine AllReady.cons rfl (fun K hK => ?_) ?_
      · go_simp
        refine hK _ _ ?_
        clear hK K
        refine wpAny_ready (rs := [5]) (by kernel_rfl) (by simp) ?_
        refine AllReady.cons rfl (fun K hK => ?_) ?_
        · refine wp_append_own _ (.tmp 5) (.tmp 7) 47 rfl (w.heap.size + 1 + 1) 59 i0 (.agg #[.int .i64 0, .int .i64 0, .int .i64 0, .int .i64 0, .int .i64 0, .int .i64 0]) 6 48 Try.underlying47 hi hz0 hz1 hz2 rfl (by decide) (.slice (some ⟨w.heap.size + 1 + 1, 0, none⟩) 0 0) 0 [] rfl hE ⟨g, 0, none⟩ l.length cap (rowC l) rfl (rowC_length l) hnew (rowC_oneB l) (by unfold maxLen; omega) (by omega) (by simp) ?_
          intro v5 w5 hown5 hgrow5 hnil5
          simp only [Nat.zero_add, List.nil_append] at hown5
          obtain ⟨a5, c5, rfl⟩ := owns_sliceB hown5
          have k0 : ∀ j, w5.cell? ⟨w.heap.size, j, none⟩ = _ := fun j => World.cell?_of_block (a := ⟨w.heap.size, j, none⟩) (hgrow5.block w.heap.size (by simp; omega) (by simp [Value.ownBlock]; omega))
          have k1 : ∀ j, w5.cell? ⟨w.heap.size + 1, j, none⟩ = _ := fun j => World.cell?_of_block (a := ⟨w.heap.size + 1, j, none⟩) (hgrow5.block (w.heap.size + 1) (by simp) (by simp [Value.ownBlock]))
          have k2 : ∀ j, w5.frozen? ⟨w.heap.size + 1, j, none⟩ = _ := fun j => World.frozen?_of_block (a := ⟨w.heap.size + 1, j, none⟩) (hgrow5.block (w.heap.size + 1) (by simp) (by simp [Value.ownBlock]))
          have m0 : w5.cell? ⟨w.heap.size, 0, none⟩ = some (.string nm) := by rw [k0]; simp [go_sem]
          have m1 : w5.cell? ⟨w.heap.size + 1, 0, none⟩ = some (.string ⟨#[]⟩) := by rw [k1]; simp [go_sem]
          have m2 : w5.cell? ⟨w.heap.size + 1, 1, none⟩ = some (.slice none 0 0) := by rw [k1]; simp [go_sem]
          have m3 : ∀ j, w5.frozen? ⟨w.heap.size + 1, j, none⟩ = false := fun j => by rw [k2]; simp [go_sem]
          clear k0 k1 k2
          have HB5 : Below w.heap.size w w5 := ((bel2 _ _).drew.alloc (by simp; omega) _).grown hgrow5 (by simp; omega) (fun k e => by simp [Value.ownBlock] at e; omega)
          refine hK _ _ ?_
          clear hK K
          refine wpAny_ready (rs := [6]) (by kernel_rfl) (by simp) ?_
          refine AllReady.cons rfl (fun K hK => ?_) ?_
          · go_simp
            refine hK _ _ ?_
            clear hK K
            refine wpAny_ready (rs := [7]) (by kernel_rfl) (by simp) ?_
            refine AllReady.cons rfl (fun K hK => ?_) ?_
            · go_simp
              refine hK _ _ ?_
              clear hK K
              refine wpAny_done (by kernel_rfl) ?_ _
              go_wp2
              refine bodyPost_ret (v := .agg #[.string nm, .slice a5 l.length c5]) (by simp [results, Try.results97, go_sem, *]) rfl ⟨_, rfl, ?_, ?_⟩
              · have hh : ∀ k, (Value.ownBlock (.slice a5 l.length c5)) = some k → k ≠ w.heap.size + 1 := fun k e => by have := owns_base hown5 k e; omega
                iterate 2 (refine owns_set ?_ hh _ _)
                exact owns_lowerB hown5 (by omega)
              · iterate 2 (refine Below.setCell ?_ (by simp <;> omega) _)
                exact HB5
            exact AllReady.nil
          exact AllReady.nil
        exact AllReady.nil
      refine AllReady.cons rfl (fun K hK => ?_) ?_
      · refine wp_append_own _ (.tmp 5) (.tmp 7) 47 rfl (w.heap.size + 1 + 1) 59 i0 (.agg #[.int .i64 0, .int .i64 0, .int .i64 0, .int .i64 0, .int .i64 0, .int .i64 0]) 6 48 Try.underlying47 hi hz0 hz1 hz2 rfl (by decide) (.slice (some ⟨w.heap.size + 1 + 1, 0, none⟩) 0 0) 0 [] rfl hE ⟨g, 0, none⟩ l.length cap (rowC l) rfl (rowC_length l) hnew (rowC_oneB l) (by unfold maxLen; omega) (by omega) (by simp) ?_
        intro v5 w5 hown5 hgrow5 hnil5
        simp only [Nat.zero_add, List.nil_append] at hown5
        obtain ⟨a5, c5, rfl⟩ := owns_sliceB hown5
        have k0 : ∀ j, w5.cell? ⟨w.heap.size, j, none⟩ = _ := fun j => World.cell?_of_block (a := ⟨w.heap.size, j, none⟩) (hgrow5.block w.heap.size (by simp; omega) (by simp [Value.ownBlock]; omega))
        have k1 : ∀ j, w5.cell? ⟨w.heap.size + 1, j, none⟩ = _ := fun j => World.cell?_of_block (a := ⟨w.heap.size + 1, j, none⟩) (hgrow5.block (w.heap.size + 1) (by simp) (by simp [Value.ownBlock]))
        have k2 : ∀ j, w5.frozen? ⟨w.heap.size + 1, j, none⟩ = _ := fun j => World.frozen?_of_block (a := ⟨w.heap.size + 1, j, none⟩) (hgrow5.block (w.heap.size + 1) (by simp) (by simp [Value.ownBlock]))
        have m0 : w5.cell? ⟨w.heap.size, 0, none⟩ = some (.string nm) := by rw [k0]; simp [go_sem]
        have m1 : w5.cell? ⟨w.heap.size + 1, 0, none⟩ = some (.string ⟨#[]⟩) := by rw [k1]; simp [go_sem]
        have m2 : w5.cell? ⟨w.heap.size + 1, 1, none⟩ = some (.slice none 0 0) := by rw [k1]; simp [go_sem]
        have m3 : ∀ j, w5.frozen? ⟨w.heap.size + 1, j, none⟩ = false := fun j => by rw [k2]; simp [go_sem]
        clear k0 k1 k2
        have HB5 : Below w.heap.size w w5 := ((bel2 _ _).drew.alloc (by simp; omega) _).grown hgrow5 (by simp; omega) (fun k e => by simp [Value.ownBlock] at e; omega)
        refine hK _ _ ?_
        clear hK K
        refine wpAny_ready (rs := [1]) (by kernel_rfl) (by simp) ?_
        refine AllReady.cons rfl (fun K hK => ?_) ?_
        · go_simp
          refine hK _ _ ?_
          clear hK K
          refine wpAny_ready (rs := [6]) (by kernel_rfl) (by simp) ?_
          refine AllReady.cons rfl (fun K hK => ?_) ?_
          · go_simp
            refine hK _ _ ?_
            clear hK K
            refine wpAny_ready (rs := [7]) (by kernel_rfl) (by simp) ?_
            refine AllReady.cons rfl (fun K hK => ?_) ?_
            · go_simp
              refine hK _ _ ?_
              clear hK K
              refine wpAny_done (by kernel_rfl) ?_ _
              go_wp2
              refine bodyPost_ret (v := .agg #[.string nm, .slice a5 l.length c5]) (by simp [results, Try.results97, go_sem, *]) rfl ⟨_, rfl, ?_, ?_⟩
              · have hh : ∀ k, (Value.ownBlock (.slice a5 l.length c5)) = some k → k ≠ w.heap.size + 1 := fun k e => by have := owns_base hown5 k e; omega
                iterate 2 (refine owns_set ?_ hh _ _)
                exact owns_lowerB hown5 (by omega)
              · iterate 2 (refine Below.setCell ?_ (by simp <;> omega) _)
                exact HB5
            exact AllReady.nil
          exact AllReady.nil
        exact AllReady.nil
      exact AllReady.nil
    exact AllReady.nil
  exact AllReady.nil
set_option maxRecDepth 20000 in
set_option maxHeartbeats 4000000 in
theorem copyT_nil (nm : ByteArray)  (w : World) :
    Calls Try.prog 97 #[.agg #[.string nm, (.slice none 0 0)]] w fun e w' => ∃ v', e = .returned (.agg #[.string nm, v']) ∧ w'.ownsRow w.heap.size 59 6 v' 0 (rowC []) ∧ Below w.heap.size w w' := by
  obtain ⟨i0, hi, hz0, hz1, hz2⟩ := info_parts pbox_inf
  have hE := owns_empty (w := ((w.alloc (.cells #[.string nm, (.slice none 0 0)] 49)).alloc (.cells #[.string ⟨#[]⟩, .slice none 0 0] 49))) (base := w.heap.size + 1 + 1) (e := 59) (size := 6) (by simp)
  simp only [World.size_alloc] at hE
  go_enter Try.func97, Try.ntmps97
  go_wp2
  refine wp_region_any (by kernel_rfl) ?_
  change wpAny _ _ _ _ _ _ _ (World.drew _)
  refine wpAny_take (i := 0) (v := .pointer (some ⟨w.heap.size, 0, none⟩)) rfl (by kernel_rfl) (by kernel_rfl) (by kernel_rfl) (fun _ _ _ h => h) (Or.inl ⟨by rfl, fun W => by go_simp⟩) ?_
  refine wpAny_take (i := 3) (v := .pointer (some ⟨w.heap.size, 1, none⟩)) rfl (by kernel_rfl) (by kernel_rfl) (by kernel_rfl) (fun _ _ _ h => h) (Or.inl ⟨by rfl, fun W => by go_simp⟩) ?_
  refine wpAny_ready (rs := [1, 2, 4]) (by kernel_rfl) (by simp) ?_
  refine AllReady.cons rfl (fun K hK => ?_) ?_
  · go_simp
    refine hK _ _ ?_
    clear hK K
    refine wpAny_ready (rs := [2, 4]) (by kernel_rfl) (by simp) ?_
    refine AllReady.cons rfl (fun K hK => ?_) ?_
    · go_simp
      refine hK _ _ ?_
      clear hK K
      refine wpAny_ready (rs := [4]) (by kernel_rfl) (by simp) ?_
      refine AllReady.cons rfl (fun K hK => ?_) ?_
      · go_simp
        refine hK _ _ ?_
        clear hK K
        refine wpAny_ready (rs := [5]) (by kernel_rfl) (by simp) ?_
        refine AllReady.cons rfl (fun K hK => ?_) ?_
        · go_simp
          refine hK _ _ ?_
          clear hK K
          refine wpAny_ready (rs := [6]) (by kernel_rfl) (by simp) ?_
          refine AllReady.cons rfl (fun K hK => ?_) ?_
          · go_simp
            refine hK _ _ ?_
            clear hK K
            refine wpAny_ready (rs := [7]) (by kernel_rfl) (by simp) ?_
            refine AllReady.cons rfl (fun K hK => ?_) ?_
            · go_simp
              refine hK _ _ ?_
              clear hK K
              refine wpAny_done (by kernel_rfl) ?_ _
              go_wp2
              refine bodyPost_ret (v := .agg #[.string nm, .slice (some ⟨w.heap.size + 1 + 1, 0, none⟩) 0 0]) (by simp [results, Try.results97, go_sem, *]) rfl ⟨_, rfl, ?_, (bel3 _ _ _).drew⟩
              have hF := owns_empty (w := (w.alloc (.cells #[.string nm, .slice none 0 0] 49)).alloc (.cells #[.string nm, .slice (some ⟨w.heap.size + 1 + 1, 0, none⟩) 0 0] 49)) (base := w.heap.size) (e := 59) (size := 6) (by simp; omega)
              simp only [World.size_alloc] at hF
              exact owns_below hF ((Below.refl _ _).drew)
            exact AllReady.nil
          exact AllReady.nil
        exact AllReady.nil
      exact AllReady.nil
    refine AllReady.cons rfl (fun K hK => ?_) ?_
    · go_simp
      refine hK _ _ ?_
      clear hK K
      refine wpAny_ready (rs := [2]) (by kernel_rfl) (by simp) ?_
      refine AllReady.cons rfl (fun K hK => ?_) ?_
      · go_simp
        refine hK _ _ ?_
        clear hK K
        refine wpAny_ready (rs := [5]) (by kernel_rfl) (by simp) ?_
        refine AllReady.cons rfl (fun K hK => ?_) ?_
        · go_simp
          refine hK _ _ ?_
          clear hK K
          refine wpAny_ready (rs := [6]) (by kernel_rfl) (by simp) ?_
          refine AllReady.cons rfl (fun K hK => ?_) ?_
          · go_simp
            refine hK _ _ ?_
            clear hK K
            refine wpAny_ready (rs := [7]) (by kernel_rfl) (by simp) ?_
            refine AllReady.cons rfl (fun K hK => ?_) ?_
            · go_simp
              refine hK _ _ ?_
              clear hK K
              refine wpAny_done (by kernel_rfl) ?_ _
              go_wp2
              refine bodyPost_ret (v := .agg #[.string nm, .slice (some ⟨w.heap.size + 1 + 1, 0, none⟩) 0 0]) (by simp [results, Try.results97, go_sem, *]) rfl ⟨_, rfl, ?_, (bel3 _ _ _).drew⟩
              have hF := owns_empty (w := (w.alloc (.cells #[.string nm, .slice none 0 0] 49)).alloc (.cells #[.string nm, .slice (some ⟨w.heap.size + 1 + 1, 0, none⟩) 0 0] 49)) (base := w.heap.size) (e := 59) (size := 6) (by simp; omega)
              simp only [World.size_alloc] at hF
              exact owns_below hF ((Below.refl _ _).drew)
            exact AllReady.nil
          exact AllReady.nil
        exact AllReady.nil
      exact AllReady.nil
    exact AllReady.nil
  refine AllReady.cons rfl (fun K hK => ?_) ?_
  · go_simp
    refine hK _ _ ?_
    clear hK K
    refine wpAny_ready (rs := [1, 4]) (by kernel_rfl) (by simp) ?_
    refine AllReady.cons rfl (fun K hK => ?_) ?_
    · go_simp
      refine hK _ _ ?_
      clear hK K
      refine wpAny_ready (rs := [4]) (by kernel_rfl) (by simp) ?_
      refine AllReady.cons rfl (fun K hK => ?_) ?_
      · go_simp
        refine hK _ _ ?_
        clear hK K
        refine wpAny_ready (rs := [5]) (by kernel_rfl) (by simp) ?_
        refine AllReady.cons rfl (fun K hK => ?_) ?_
        · go_simp
          refine hK _ _ ?_
          clear hK K
          refine wpAny_ready (rs := [6]) (by kernel_rfl) (by simp) ?_
          refine AllReady.cons rfl (fun K hK => ?_) ?_
          · go_simp
            refine hK _ _ ?_
            clear hK K
            refine wpAny_ready (rs := [7]) (by kernel_rfl) (by simp) ?_
            refine AllReady.cons rfl (fun K hK => ?_) ?_
            · go_simp
              refine hK _ _ ?_
              clear hK K
              refine wpAny_done (by kernel_rfl) ?_ _
              go_wp2
              refine bodyPost_ret (v := .agg #[.string nm, .slice (some ⟨w.heap.size + 1 + 1, 0, none⟩) 0 0]) (by simp [results, Try.results97, go_sem, *]) rfl ⟨_, rfl, ?_, (bel3 _ _ _).drew⟩
              have hF := owns_empty (w := (w.alloc (.cells #[.string nm, .slice none 0 0] 49)).alloc (.cells #[.string nm, .slice (some ⟨w.heap.size + 1 + 1, 0, none⟩) 0 0] 49)) (base := w.heap.size) (e := 59) (size := 6) (by simp; omega)
              simp only [World.size_alloc] at hF
              exact owns_below hF ((Below.refl _ _).drew)
            exact AllReady.nil
          exact AllReady.nil
        exact AllReady.nil
      exact AllReady.nil
    refine AllReady.cons rfl (fun K hK => ?_) ?_
    · go_simp
      refine hK _ _ ?_
      clear hK K
      refine wpAny_ready (rs := [1, 5]) (by kernel_rfl) (by simp) ?_
      refine AllReady.cons rfl (fun K hK => ?_) ?_
      · go_simp
        refine hK _ _ ?_
        clear hK K
        refine wpAny_ready (rs := [5]) (by kernel_rfl) (by simp) ?_
        refine AllReady.cons rfl (fun K hK => ?_) ?_
        · go_simp
          refine hK _ _ ?_
          clear hK K
          refine wpAny_ready (rs := [6]) (by kernel_rfl) (by simp) ?_
          refine AllReady.cons rfl (fun K hK => ?_) ?_
          · go_simp
            refine hK _ _ ?_
            clear hK K
            refine wpAny_ready (rs := [7]) (by kernel_rfl) (by simp) ?_
            refine AllReady.cons rfl (fun K hK => ?_) ?_
            · go_simp
              refine hK _ _ ?_
              clear hK K
              refine wpAny_done (by kernel_rfl) ?_ _
              go_wp2
              refine bodyPost_ret (v := .agg #[.string nm, .slice (some ⟨w.heap.size + 1 + 1, 0, none⟩) 0 0]) (by simp [results, Try.results97, go_sem, *]) rfl ⟨_, rfl, ?_, (bel3 _ _ _).drew⟩
              have hF := owns_empty (w := (w.alloc (.cells #[.string nm, .slice none 0 0] 49)).alloc (.cells #[.string nm, .slice (some ⟨w.heap.size + 1 + 1, 0, none⟩) 0 0] 49)) (base := w.heap.size) (e := 59) (size := 6) (by simp; omega)
              simp only [World.size_alloc] at hF
              exact owns_below hF ((Below.refl _ _).drew)
            exact AllReady.nil
          exact AllReady.nil
        exact AllReady.nil
      refine AllReady.cons rfl (fun K hK => ?_) ?_
      · go_simp
        refine hK _ _ ?_
        clear hK K
        refine wpAny_ready (rs := [1]) (by kernel_rfl) (by simp) ?_
        refine AllReady.cons rfl (fun K hK => ?_) ?_
        · go_simp
          refine hK _ _ ?_
          clear hK K
          refine wpAny_ready (rs := [6]) (by kernel_rfl) (by simp) ?_
          refine AllReady.cons rfl (fun K hK => ?_) ?_
          · go_simp
            refine hK _ _ ?_
            clear hK K
            refine wpAny_ready (rs := [7]) (by kernel_rfl) (by simp) ?_
            refine AllReady.cons rfl (fun K hK => ?_) ?_
            · go_simp
              refine hK _ _ ?_
              clear hK K
              refine wpAny_done (by kernel_rfl) ?_ _
              go_wp2
              refine bodyPost_ret (v := .agg #[.string nm, .slice (some ⟨w.heap.size + 1 + 1, 0, none⟩) 0 0]) (by simp [results, Try.results97, go_sem, *]) rfl ⟨_, rfl, ?_, (bel3 _ _ _).drew⟩
              have hF := owns_empty (w := (w.alloc (.cells #[.string nm, .slice none 0 0] 49)).alloc (.cells #[.string nm, .slice (some ⟨w.heap.size + 1 + 1, 0, none⟩) 0 0] 49)) (base := w.heap.size) (e := 59) (size := 6) (by simp; omega)
              simp only [World.size_alloc] at hF
              exact owns_below hF ((Below.refl _ _).drew)
            exact AllReady.nil
          exact AllReady.nil
        exact AllReady.nil
      exact AllReady.nil
    exact AllReady.nil
  refine AllReady.cons rfl (fun K hK => ?_) ?_
  · go_simp
    refine hK _ _ ?_
    clear hK K
    refine wpAny_ready (rs := [1, 2]) (by kernel_rfl) (by simp) ?_
    refine AllReady.cons rfl (fun K hK => ?_) ?_
    · go_simp
      refine hK _ _ ?_
      clear hK K
      refine wpAny_ready (rs := [2]) (by kernel_rfl) (by simp) ?_
      refine AllReady.cons rfl (fun K hK => ?_) ?_
      · go_simp
        refine hK _ _ ?_
        clear hK K
        refine wpAny_ready (rs := [5]) (by kernel_rfl) (by simp) ?_
        refine AllReady.cons rfl (fun K hK => ?_) ?_
        · go_simp
          refine hK _ _ ?_
          clear hK K
          refine wpAny_ready (rs := [6]) (by kernel_rfl) (by simp) ?_
          refine AllReady.cons rfl (fun K hK => ?_) ?_
          · go_simp
            refine hK _ _ ?_
            clear hK K
            refine wpAny_ready (rs := [7]) (by kernel_rfl) (by simp) ?_
            refine AllReady.cons rfl (fun K hK => ?_) ?_
            · go_simp
              refine hK _ _ ?_
              clear hK K
              refine wpAny_done (by kernel_rfl) ?_ _
              go_wp2
              refine bodyPost_ret (v := .agg #[.string nm, .slice (some ⟨w.heap.size + 1 + 1, 0, none⟩) 0 0]) (by simp [results, Try.results97, go_sem, *]) rfl ⟨_, rfl, ?_, (bel3 _ _ _).drew⟩
              have hF := owns_empty (w := (w.alloc (.cells #[.string nm, .slice none 0 0] 49)).alloc (.cells #[.string nm, .slice (some ⟨w.heap.size + 1 + 1, 0, none⟩) 0 0] 49)) (base := w.heap.size) (e := 59) (size := 6) (by simp; omega)
              simp only [World.size_alloc] at hF
              exact owns_below hF ((Below.refl _ _).drew)
            exact AllReady.nil
          exact AllReady.nil
        exact AllReady.nil
      exact AllReady.nil
    refine AllReady.cons rfl (fun K hK => ?_) ?_
    · go_simp
      refine hK _ _ ?_
      clear hK K
      refine wpAny_ready (rs := [1, 5]) (by kernel_rfl) (by simp) ?_
      refine AllReady.cons rfl (fun K hK => ?_) ?_
      · go_simp
        refine hK _ _ ?_
        clear hK K
        refine wpAny_ready (rs := [5]) (by kernel_rfl) (by simp) ?_
        refine AllReady.cons rfl (fun K hK => ?_) ?_
        · go_simp
          refine hK _ _ ?_
          clear hK K
          refine wpAny_ready (rs := [6]) (by kernel_rfl) (by simp) ?_
          refine AllReady.cons rfl (fun K hK => ?_) ?_
          · go_simp
            refine hK _ _ ?_
            clear hK K
            refine wpAny_ready (rs := [7]) (by kernel_rfl) (by simp) ?_
            refine AllReady.cons rfl (fun K hK => ?_) ?_
            · go_simp
              refine hK _ _ ?_
              clear hK K
              refine wpAny_done (by kernel_rfl) ?_ _
              go_wp2
              refine bodyPost_ret (v := .agg #[.string nm, .slice (some ⟨w.heap.size + 1 + 1, 0, none⟩) 0 0]) (by simp [results, Try.results97, go_sem, *]) rfl ⟨_, rfl, ?_, (bel3 _ _ _).drew⟩
              have hF := owns_empty (w := (w.alloc (.cells #[.string nm, .slice none 0 0] 49)).alloc (.cells #[.string nm, .slice (some ⟨w.heap.size + 1 + 1, 0, none⟩) 0 0] 49)) (base := w.heap.size) (e := 59) (size := 6) (by simp; omega)
              simp only [World.size_alloc] at hF
              exact owns_below hF ((Below.refl _ _).drew)
            exact AllReady.nil
          exact AllReady.nil
        exact AllReady.nil
      refine AllReady.cons rfl (fun K hK => ?_) ?_
      · go_simp
        refine hK _ _ ?_
        clear hK K
        refine wpAny_ready (rs := [1]) (by kernel_rfl) (by simp) ?_
        refine AllReady.cons rfl (fun K hK => ?_) ?_
        · go_simp
          refine hK _ _ ?_
          clear hK K
          refine wpAny_ready (rs := [6]) (by kernel_rfl) (by simp) ?_
          refine AllReady.cons rfl (fun K hK => ?_) ?_
          · go_simp
            refine hK _ _ ?_
            clear hK K
            refine wpAny_ready (rs := [7]) (by kernel_rfl) (by simp) ?_
            refine AllReady.cons rfl (fun K hK => ?_) ?_
            · go_simp
              refine hK _ _ ?_
              clear hK K
              refine wpAny_done (by kernel_rfl) ?_ _
              go_wp2
              refine bodyPost_ret (v := .agg #[.string nm, .slice (some ⟨w.heap.size + 1 + 1, 0, none⟩) 0 0]) (by simp [results, Try.results97, go_sem, *]) rfl ⟨_, rfl, ?_, (bel3 _ _ _).drew⟩
              have hF := owns_empty (w := (w.alloc (.cells #[.string nm, .slice none 0 0] 49)).alloc (.cells #[.string nm, .slice (some ⟨w.heap.size + 1 + 1, 0, none⟩) 0 0] 49)) (base := w.heap.size) (e := 59) (size := 6) (by simp; omega)
              simp only [World.size_alloc] at hF
              exact owns_below hF ((Below.refl _ _).drew)
            exact AllReady.nil
          exact AllReady.nil
        exact AllReady.nil
      exact AllReady.nil
    exact AllReady.nil
  exact AllReady.nil
theorem copyT_any (nm : ByteArray) (v : Value) (base : Nat) (l : List Bx) (w : World) (hl : l.length ≤ 45) (h : w.ownsRow base 59 6 v l.length (rowC l)) :
    Calls Try.prog 97 #[.agg #[.string nm, v]] w fun e w' => ∃ v', e = .returned (.agg #[.string nm, v']) ∧ w'.ownsRow w.heap.size 59 6 v' l.length (rowC l) ∧ Below w.heap.size w w' := by
  rcases h.2 with ⟨rfl, h0⟩ | ⟨g, cap, cur, rfl, _⟩
  · have : l = [] := List.eq_nil_of_length_eq_zero h0
    subst this
    exact copyT_nil nm w
  · exact copyT_row nm g cap base l w hl h
end Go.Proofs.Ytdjgkghmgjocbaa
