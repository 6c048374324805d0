/- l12Any and DrawProbeMeet, by their contracts: two tubes in memory of the call's own. -/
import Derived.Test.YtdjgkghmgjocbaaTbDraw
import Derived.Test.YtdjgkghmgjocbaaSpTube
import Derived.Test.YtdjgkghmgjocbaaOpen11
namespace Go.Proofs.Ytdjgkghmgjocbaa
open Go.RowKit

set_option maxRecDepth 20000 in
set_option maxHeartbeats 4000000 in
theorem any_draw (B : Nat) (R : Rdr) (p : Nat) (w : World) (h : RdAt w B R p) (hp : p ≤ 999980000) :
    Calls Try.prog 39 #[.pointer (some ⟨B, 0, none⟩)] w (TubeDrawn w B R p 2100) := by
  have hB := lt_of_block h.blk
  have R0 := ((RdW.refl h).alloc (.cells #[.string ⟨#[]⟩, .slice none 0 0] 49)).alloc (.cells #[.string ⟨#[97, 49]⟩, .string ⟨#[98]⟩, .string ⟨#[99, 45, 99]⟩, .string ⟨#[113]⟩] 9)
  have z0 := (Below.heap_alloc (w.alloc (.cells #[.string ⟨#[]⟩, .slice none 0 0] 49)) (.cells #[.string ⟨#[97, 49]⟩, .string ⟨#[98]⟩, .string ⟨#[99, 45, 99]⟩, .string ⟨#[113]⟩] 9) w.heap.size (by simp)).trans (heap_alloc_new w (.cells #[.string ⟨#[]⟩, .slice none 0 0] 49))
  have hS : StrsAt ((w.alloc (.cells #[.string ⟨#[]⟩, .slice none 0 0] 49)).alloc (.cells #[.string ⟨#[97, 49]⟩, .string ⟨#[98]⟩, .string ⟨#[99, 45, 99]⟩, .string ⟨#[113]⟩] 9)) (w.heap.size + 1) 4 := ⟨by simp, fun i hi => by rcases (show i = 0 ∨ i = 1 ∨ i = 2 ∨ i = 3 by omega) with rfl | rfl | rfl | rfl <;> exact ⟨_, by simp [go_sem]; rfl⟩⟩
  go_enter Try.func39, Try.ntmps39
  go_wp2_with fail
  refine (of_any B R p (w.heap.size + 1) 4 _ _ R0.rd (by omega) (by omega) (by omega) (by omega) hS).mono ?_
  rintro e w1 ⟨s1, rfl, Q1⟩
  have R1 := R0.more Q1.rd Q1.gr
  have z1 := R0.keep z0 (by omega) Q1.gr
  have y1 : w.heap.size + 1 < w1.heap.size := by have := Q1.size; simp at this; omega
  clear R0 z0 hS Q1
  go_wp2_with fail
  refine (tube_draw B R (p + 1) s1 _ R1.rd (by omega)).mono ?_
  rintro e w2 ⟨nm2, v2, l2, p2, rfl, ho2, hl2, hp2, Q2⟩
  obtain ⟨a2, c2, rfl⟩ := owns_sliceB ho2
  have R2 := (R1.more Q2.rd Q2.gr).alloc (.cells #[.string nm2, .slice a2 l2.length c2] 49)
  have z2' := R1.keep z1 (by omega) Q2.gr
  have z2 := (Below.heap_alloc w2 (.cells #[.string nm2, .slice a2 l2.length c2] 49) _ (lt_of_block z2')).trans z2'
  have t2 := heap_alloc_new w2 (.cells #[.string nm2, .slice a2 l2.length c2] 49)
  have o2 := owns_below ho2 ((Below.refl w2.heap.size w2).alloc (Nat.le_refl _) (.cells #[.string nm2, .slice a2 l2.length c2] 49))
  have y2 := Q2.size
  clear ho2 Q2 z1 R1 z2'
  go_wp2_with fail
  refine (pick_any B R p2 14 _ R2.rd (by omega)).mono ?_
  rintro e w4 ⟨rfl, r4, g4, s4⟩
  have R4 := R2.more r4 g4
  have z4 := R2.keep z2 (by omega) g4
  have t4 := R2.keep t2 (by omega) g4
  have o4 := owns_grownB o2 g4 (fun k e => by cases e; omega)
  have y4 : w2.heap.size < w4.heap.size := by rw [s4]; simp
  clear r4 g4 s4 R2 z2 t2 o2
  generalize pickV R p2 14 = m0
  obtain ⟨f0, f1, ff⟩ := blk2 z4
  obtain ⟨k0, k1, kf⟩ := blk2 t4
  by_cases hm : m0 = 0
  · subst hm
    go_wp2_with fail
    refine (spoilTube_any B R (p2 + 1) nm2 _ w1.heap.size l2 _ R4.rd (by omega) hl2 o4).mono ?_
    rintro e w5 ⟨nm5, v5, l5, p5, rfl, ho5, hl5, hp5, Q5⟩
    obtain ⟨a5, c5, rfl⟩ := owns_sliceB ho5
    have R5 := R4.more Q5.rd Q5.gr
    have z5 := R4.keep z4 (by omega) Q5.gr
    obtain ⟨f0, f1, ff⟩ := blk2 z5
    go_wp2
    refine bodyPost_ret (v := .agg #[.string nm5, .slice a5 l5.length c5]) (by simp [results, Try.results39, go_sem, *]) rfl ⟨nm5, _, l5, p5, rfl, ?_, hl5, by omega, ?_⟩
    · have hh : ∀ k, (Value.ownBlock (.slice a5 l5.length c5)) = some k → k ≠ w.heap.size := fun k e => by have := owns_base ho5 k e; omega
      exact owns_set (owns_set (owns_lowerB ho5 (by omega)) hh _ _) hh _ _
    · exact (R5.set (Nat.le_refl _) _ _).set (Nat.le_refl _) _ _
  · have hm1 : (m0 == 0) = false := beq_eq_false_iff_ne.2 hm
    have hne : w2.heap.size ≠ w.heap.size := by omega
    go_wp2
    refine bodyPost_ret (v := .agg #[.string nm2, .slice a2 l2.length c2]) (by simp [results, Try.results39, go_sem, *]) rfl ⟨nm2, _, l2, p2 + 1, rfl, ?_, hl2, by omega, ?_⟩
    · have hh : ∀ k, (Value.ownBlock (.slice a2 l2.length c2)) = some k → k ≠ w.heap.size := fun k e => by have := owns_base o4 k e; omega
      exact owns_set (owns_set (owns_lowerB o4 (by omega)) hh _ _) hh _ _
    · exact (R4.set (Nat.le_refl _) _ _).set (Nat.le_refl _) _ _

theorem tube_of {w : World} {base : Nat} {nm : ByteArray} {v : Value} {l : List Bx} (h : w.ownsRow base 59 6 v l.length (rowC l)) : ∃ t : Tb, Value.agg #[.string nm, v] = t.val ∧ TubeAt w t ∧ t.l = l := by
  obtain ⟨a, g, cap, rfl, hr⟩ := owns_rowB h
  exact ⟨⟨nm, a, g, 0, cap, l⟩, rfl, ⟨hr.at_⟩, rfl⟩

set_option maxRecDepth 20000 in
set_option maxHeartbeats 4000000 in
theorem meet_draw (a : Option Addr) (b o cap : Nat) (zs : List Int) (w : World) (hz : BytesAt w a b o zs) (hl : zs.length ≤ 1048576) (hc : zs.length ≤ cap) :
    Calls Try.prog 15 #[.slice a zs.length cap] w fun e w' => ∃ t u : Tb, e = .returned (.tuple #[t.val, u.val]) ∧ TubeAt w' t ∧ TubeAt w' u ∧ t.l.length ≤ 1048576 ∧ u.l.length ≤ 1048576 ∧ Below w.heap.size w w' := by
  have z1 := (Below.heap_alloc (w.alloc (.cells #[.string ⟨#[]⟩, .slice none 0 0] 49)) (.cells #[.string ⟨#[]⟩, .slice none 0 0] 49) w.heap.size (by simp)).trans (heap_alloc_new w (.cells #[.string ⟨#[]⟩, .slice none 0 0] 49))
  have z2 := heap_alloc_new (w.alloc (.cells #[.string ⟨#[]⟩, .slice none 0 0] 49)) (.cells #[.string ⟨#[]⟩, .slice none 0 0] 49)
  rw [World.size_alloc] at z2
  have hz2 : BytesAt ((w.alloc (.cells #[.string ⟨#[]⟩, .slice none 0 0] 49)).alloc (.cells #[.string ⟨#[]⟩, .slice none 0 0] 49)) a b o zs :=
    ⟨hz.here, fun hn => by have := hz.lt hn; simp; omega, fun i z hi => by
      have hn : zs ≠ [] := by intro e; subst e; simp at hi
      rw [(bel2 _ _).cell (p := ⟨b, o + i, none⟩) (hz.lt hn)]
      exact hz.cell i z hi, hz.rng⟩
  go_enter Try.func15, Try.ntmps15
  go_wp2_with fail
  refine (open_any a b o cap zs _ hz2 hl hc).mono ?_
  rintro e w1 ⟨R, rfl, r1, hb1, s1⟩
  have B1 : Below w.heap.size w w1 := (bel2 _ _).trans (hb1.mono (by simp; omega))
  have y1 := (hb1.block _ (lt_of_block z1)).trans z1
  have y2 := (hb1.block _ (lt_of_block z2)).trans z2
  simp only [World.size_alloc] at r1 s1
  clear hb1 z1 z2 hz2 hz
  go_wp2_with fail
  refine (any_draw (w.heap.size + 1 + 1) R 0 _ r1 (by omega)).mono ?_
  rintro e w2 ⟨nm2, v2, l2, p2, rfl, o2, hl2, hp2, Q2⟩
  have B2 := B1.grown Q2.gr (by omega) (fun k e => by cases e; omega)
  have x1 := (RdW.refl r1).keep y1 (by omega) Q2.gr
  have x2 := (RdW.refl r1).keep y2 (by omega) Q2.gr
  have q2 := Q2.size
  clear y1 y2 B1
  go_wp2_with fail
  refine (any_draw (w.heap.size + 1 + 1) R p2 _ Q2.rd (by omega)).mono ?_
  rintro e w3 ⟨nm3, v3, l3, p3, rfl, o3, hl3, hp3, Q3⟩
  have B3 := B2.grown Q3.gr (by omega) (fun k e => by cases e; omega)
  have u1 := (RdW.refl Q2.rd).keep x1 (by omega) Q3.gr
  have u2 := (RdW.refl Q2.rd).keep x2 (by omega) Q3.gr
  have o2' := owns_grownB o2 Q3.gr (fun k e => by cases e; omega)
  obtain ⟨a2, c2, rfl⟩ := owns_sliceB o2
  obtain ⟨a3, c3, rfl⟩ := owns_sliceB o3
  obtain ⟨f0, f1, ff⟩ := blk2 u1
  obtain ⟨k0, k1, kf⟩ := blk2 u2
  go_wp2
  have h2 : ∀ k, (Value.ownBlock (.slice a2 l2.length c2)) = some k → k ≠ w.heap.size ∧ k ≠ w.heap.size + 1 := fun k e => by have := owns_base o2' k e; omega
  have h3 : ∀ k, (Value.ownBlock (.slice a3 l3.length c3)) = some k → k ≠ w.heap.size ∧ k ≠ w.heap.size + 1 := fun k e => by have := owns_base o3 k e; omega
  have O2 := owns_set (owns_set (owns_set (owns_set o2' (fun k e => (h2 k e).1) 0 (.string nm2)) (fun k e => (h2 k e).1) 1 (.slice a2 l2.length c2)) (fun k e => (h2 k e).2) 0 (.string nm3)) (fun k e => (h2 k e).2) 1 (.slice a3 l3.length c3)
  have O3 := owns_set (owns_set (owns_set (owns_set o3 (fun k e => (h3 k e).1) 0 (.string nm2)) (fun k e => (h3 k e).1) 1 (.slice a2 l2.length c2)) (fun k e => (h3 k e).2) 0 (.string nm3)) (fun k e => (h3 k e).2) 1 (.slice a3 l3.length c3)
  obtain ⟨t, et, ht, hlt⟩ := tube_of (nm := nm2) O2
  obtain ⟨u, eu, hu, hlu⟩ := tube_of (nm := nm3) O3
  refine bodyPost_ret (v := .tuple #[.agg #[.string nm2, .slice a2 l2.length c2], .agg #[.string nm3, .slice a3 l3.length c3]]) (by simp [results, Try.results15, go_sem, *]) rfl ⟨t, u, by rw [et, eu], ht, hu, by rw [hlt]; omega, by rw [hlu]; omega, ?_⟩
  iterate 4 (refine Below.setCell ?_ (by simp) _)
  exact B3
end Go.Proofs.Ytdjgkghmgjocbaa
