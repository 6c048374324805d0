/- l11DrawBox, by its contract: some box. -/
import Derived.Test.YtdjgkghmgjocbaaRdW11
import Derived.Test.YtdjgkghmgjocbaaPbData
namespace Go.Proofs.Ytdjgkghmgjocbaa
open Go.RowKit

set_option maxRecDepth 20000 in
set_option maxHeartbeats 4000000 in
theorem box_draw (B : Nat) (R : Rdr) (p : Nat) (w : World) (h : RdAt w B R p) (hp : p ≤ 999999000) :
    Calls Try.prog 96 #[.pointer (some ⟨B, 0, none⟩)] w fun e w' => ∃ (s : Bx) (p' : Nat), e = .returned s.val ∧ p' ≤ p + 9 ∧ RdW w w' B R p' := by
  have hB := lt_of_block h.blk
  have R0 := (RdW.refl h).alloc (.cells #[.int .i64 0, .int .i64 0, .int .i64 0, .int .i64 0, .int .i64 0, .int .i64 0] 59)
  have b0 := heap_alloc_new w (.cells #[.int .i64 0, .int .i64 0, .int .i64 0, .int .i64 0, .int .i64 0, .int .i64 0] 59)
  have z0 : (w.alloc (.cells #[.int .i64 0, .int .i64 0, .int .i64 0, .int .i64 0, .int .i64 0, .int .i64 0] 59)).heap.size = w.heap.size + 1 := by simp
  go_enter Try.func96, Try.ntmps96
  go_wp2_with fail
  refine (pick_any B R p 6 _ R0.rd (by omega)).mono ?_
  rintro e w1 ⟨rfl, r1, g1, s1⟩
  have R1 := R0.more r1 g1
  have b1 := R0.keep b0 (by omega) g1
  have z1 := s1.trans z0
  clear g1 s1 r1 R0 b0 z0
  generalize pickV R p 6 = n1
  go_wp2_with fail
  refine (pick_any B R (p + 1) 6 _ R1.rd (by omega)).mono ?_
  rintro e w2 ⟨rfl, r2, g2, s2⟩
  have R2 := R1.more r2 g2
  have b2 := R1.keep b1 (by omega) g2
  have z2 := s2.trans z1
  clear g2 s2 r2 R1 b1 z1
  generalize pickV R (p + 1) 6 = n2
  go_wp2_with fail
  refine (pick_any B R (p + 1 + 1) 3 _ R2.rd (by omega)).mono ?_
  rintro e w3 ⟨rfl, r3, g3, s3⟩
  have R3 := R2.more r3 g3
  have b3 := R2.keep b2 (by omega) g3
  have z3 := s3.trans z2
  clear g3 s3 r3 R2 b2 z2
  generalize pickV R (p + 1 + 1) 3 = n3
  go_wp2_with fail
  refine (pick_any B R (p + 1 + 1 + 1) 60 _ R3.rd (by omega)).mono ?_
  rintro e w4 ⟨rfl, r4, g4, s4⟩
  have R4 := R3.more r4 g4
  have b4 := R3.keep b3 (by omega) g4
  have z4 := s4.trans z3
  clear g4 s4 r4 R3 b3 z3
  generalize pickV R (p + 1 + 1 + 1) 60 = n4
  go_wp2
  have R5 := R4.alloc (.cells #[.int .i64 n1, .int .i64 n2, .int .i64 n3, .int .i64 0, .int .i64 n4, .int .i64 0] 59)
  have bk : (w4.alloc (.cells #[.int .i64 n1, .int .i64 n2, .int .i64 n3, .int .i64 0, .int .i64 n4, .int .i64 0] 59)).heap[w.heap.size + 1]? = some (.cells #[.int .i64 n1, .int .i64 n2, .int .i64 n3, .int .i64 0, .int .i64 n4, .int .i64 0] 59 (0, 0)) := by rw [← z4]; exact heap_alloc_new w4 _
  have bb := (Below.heap_alloc w4 (.cells #[.int .i64 n1, .int .i64 n2, .int .i64 n3, .int .i64 0, .int .i64 n4, .int .i64 0] 59) _ (by omega)).trans b4
  clear b4 z4 R4
  generalize (w4.alloc (.cells #[.int .i64 n1, .int .i64 n2, .int .i64 n3, .int .i64 0, .int .i64 n4, .int .i64 0] 59)) = W at *
  obtain ⟨k0, k1, k2, k3, k4, k5, kf⟩ := blk6 bk
  have q0 : ∀ u : ClsR W B, u.it.cell? ⟨w.heap.size + 1, 2, none⟩ = some (.int .i64 n3) := fun u => (ClsR.cell (lt_of_block bk) (by omega) u 2).trans k2
  have qn := ClsR.any W B
  refine region_picks 3 6 _ _ R5.rd (by kernel_rfl) (by kernel_rfl) (by decide) (by decide) rfl rfl rfl (by kernel_rfl) ?_
  refine pc_quiet 3 rfl (by omega) ?_
  simp only [List.take_succ_cons, List.take_zero]
  repeat (go_big_quiet_step (fail))
  refine wpQuiet_nil ?_
  simp only [List.drop_succ_cons, List.drop_zero]
  refine pc_pick (by omega) rfl 3 (fun W' => by go_simp) ?_
  generalize pickV R (p + 1 + 1 + 1 + 1) 3 = m1
  simp only [Act.put, List.setIfInBounds_toArray, List.set_cons_succ, List.set_cons_zero]
  refine pc_quiet 2 rfl (by omega) ?_
  simp only [List.take_succ_cons, List.take_zero]
  repeat (go_big_quiet_step (fail))
  refine wpQuiet_nil ?_
  refine wpMoves_nil ?_
  intro w5 gw5 sw5 rw5
  refine any_end1 (N := 6) _ rfl (by kernel_rfl) (by kernel_rfl) rfl rfl ?_
  have Rw5 := R5.more rw5 gw5
  have bkw5 := R5.keep bk (by omega) gw5
  have bbw5 := R5.keep bb (by omega) gw5
  clear q0 qn k0 k1 k2 k3 k4 k5 kf bk bb R5 gw5 sw5 rw5
  generalize wrap64 (n3 + m1) = y1
  obtain ⟨k0, k1, k2, k3, k4, k5, kf⟩ := blk6 bkw5
  unfold Oper.wp
  go_simp
  have R6 := Rw5.set (show w.heap.size ≤ w.heap.size + 1 by omega) 3 (.int .i64 y1)
  have bk6 := blk6_set3 bkw5 (.int .i64 y1)
  have bb6 := (heap_setCell_other w5 ⟨w.heap.size + 1, 3, none⟩ w.heap.size (.int .i64 y1) (by simp)).trans bbw5
  clear k0 k1 k2 k3 k4 k5 kf bkw5 bbw5 Rw5
  generalize w5.setCell ⟨w.heap.size + 1, 3, none⟩ (.int .i64 y1) = W at *
  go_wp2
  obtain ⟨k0, k1, k2, k3, k4, k5, kf⟩ := blk6 bk6
  have q0 : ∀ u : ClsR W B, u.it.cell? ⟨w.heap.size + 1, 4, none⟩ = some (.int .i64 n4) := fun u => (ClsR.cell (lt_of_block bk6) (by omega) u 4).trans k4
  have qn := ClsR.any W B
  refine region_picks 3 6 _ _ R6.rd (by kernel_rfl) (by kernel_rfl) (by decide) (by decide) rfl rfl rfl (by kernel_rfl) ?_
  refine pc_quiet 3 rfl (by omega) ?_
  simp only [List.take_succ_cons, List.take_zero]
  repeat (go_big_quiet_step (fail))
  refine wpQuiet_nil ?_
  simp only [List.drop_succ_cons, List.drop_zero]
  refine pc_pick (by omega) rfl 20 (fun W' => by go_simp) ?_
  generalize pickV R (p + 1 + 1 + 1 + 1 + 1) 20 = m2
  simp only [Act.put, List.setIfInBounds_toArray, List.set_cons_succ, List.set_cons_zero]
  refine pc_quiet 2 rfl (by omega) ?_
  simp only [List.take_succ_cons, List.take_zero]
  repeat (go_big_quiet_step (fail))
  refine wpQuiet_nil ?_
  refine wpMoves_nil ?_
  intro w6 gw6 sw6 rw6
  refine any_end1 (N := 6) _ rfl (by kernel_rfl) (by kernel_rfl) rfl rfl ?_
  have Rw6 := R6.more rw6 gw6
  have bkw6 := R6.keep bk6 (by omega) gw6
  have bbw6 := R6.keep bb6 (by omega) gw6
  clear q0 qn k0 k1 k2 k3 k4 k5 kf bk6 bb6 R6 gw6 sw6 rw6
  generalize wrap64 (n4 + m2) = y2
  obtain ⟨k0, k1, k2, k3, k4, k5, kf⟩ := blk6 bkw6
  unfold Oper.wp
  go_simp
  have R7 := Rw6.set (show w.heap.size ≤ w.heap.size + 1 by omega) 5 (.int .i64 y2)
  have bk7 := blk6_set5 bkw6 (.int .i64 y2)
  have bb7 := (heap_setCell_other w6 ⟨w.heap.size + 1, 5, none⟩ w.heap.size (.int .i64 y2) (by simp)).trans bbw6
  clear k0 k1 k2 k3 k4 k5 kf bkw6 bbw6 Rw6
  generalize w6.setCell ⟨w.heap.size + 1, 5, none⟩ (.int .i64 y2) = W at *
  go_wp2_with fail
  refine (pick_any B R (p + 1 + 1 + 1 + 1 + 1 + 1) 24 _ R7.rd (by omega)).mono ?_
  rintro e w7 ⟨rfl, r8, g8, s8⟩
  have R8 := R7.more r8 g8
  have bk8 := R7.keep bk7 (by omega) g8
  have bb8 := R7.keep bb7 (by omega) g8
  clear bk7 bb7 R7 g8 s8 r8
  generalize pickV R (p + 1 + 1 + 1 + 1 + 1 + 1) 24 = n5
  obtain ⟨k0, k1, k2, k3, k4, k5, kf⟩ := blk6 bk8
  obtain ⟨m0, m1', m2', m3, m4, m5, mf⟩ := blk6 bb8
  by_cases h0 : n5 = 0
  · subst h0
    go_wp2_with fail
    refine (pick_any B R (p + 1 + 1 + 1 + 1 + 1 + 1 + 1) 2 _ R8.rd (by omega)).mono ?_
    rintro e w8 ⟨rfl, r9, g9, s9⟩
    have R9 := R8.more r9 g9
    have bk9 := R8.keep bk8 (by omega) g9
    have bb9 := R8.keep bb8 (by omega) g9
    clear k0 k1 k2 k3 k4 k5 kf m0 m1' m2' m3 m4 m5 mf bk8 bb8 R8 g9 s9 r9
    generalize pickV R (p + 1 + 1 + 1 + 1 + 1 + 1 + 1) 2 = n6
    obtain ⟨k0, k1, k2, k3, k4, k5, kf⟩ := blk6 bk9
    obtain ⟨m0, m1', m2', m3, m4, m5, mf⟩ := blk6 bb9
    go_wp2
    generalize wrap64 (15 - n6) = y3
    refine bodyPost_ret (v := .agg #[.int .i64 y3, .int .i64 n2, .int .i64 n3, .int .i64 y1, .int .i64 n4, .int .i64 y2]) (by simp [results, Try.results96, go_sem, *]) rfl ⟨⟨y3, n2, n3, y1, n4, y2⟩, p + 1 + 1 + 1 + 1 + 1 + 1 + 1 + 1, rfl, by omega, ?_⟩
    iterate 6 (refine RdW.set ?_ (Nat.le_refl _) _ _)
    exact R9.set (by omega) 0 _
  have h0' : (n5 == 0) = false := beq_eq_false_iff_ne.2 h0
  by_cases h1 : n5 = 1
  · subst h1
    have R8' := R8.set (show w.heap.size ≤ w.heap.size + 1 by omega) 5 (.int .i64 10000)
    have bk8' := blk6_set5 bk8 (.int .i64 10000)
    have bb8' := (heap_setCell_other w7 ⟨w.heap.size + 1, 5, none⟩ w.heap.size (.int .i64 10000) (by simp)).trans bb8
    go_wp2_with fail
    refine (pick_any B R (p + 1 + 1 + 1 + 1 + 1 + 1 + 1) 9 _ R8'.rd (by omega)).mono ?_
    rintro e w8 ⟨rfl, r9, g9, s9⟩
    have R9 := R8'.more r9 g9
    have bk9 := R8'.keep bk8' (by omega) g9
    have bb9 := R8'.keep bb8' (by omega) g9
    clear k0 k1 k2 k3 k4 k5 kf m0 m1' m2' m3 m4 m5 mf bk8 bb8 R8 bk8' bb8' R8' g9 s9 r9
    generalize pickV R (p + 1 + 1 + 1 + 1 + 1 + 1 + 1) 9 = n6
    obtain ⟨k0, k1, k2, k3, k4, k5, kf⟩ := blk6 bk9
    obtain ⟨m0, m1', m2', m3, m4, m5, mf⟩ := blk6 bb9
    go_wp2
    generalize wrap64 (10000 - n6) = y3
    refine bodyPost_ret (v := .agg #[.int .i64 n1, .int .i64 n2, .int .i64 n3, .int .i64 y1, .int .i64 y3, .int .i64 10000]) (by simp [results, Try.results96, go_sem, *]) rfl ⟨⟨n1, n2, n3, y1, y3, 10000⟩, p + 1 + 1 + 1 + 1 + 1 + 1 + 1 + 1, rfl, by omega, ?_⟩
    iterate 6 (refine RdW.set ?_ (Nat.le_refl _) _ _)
    exact R9.set (by omega) 4 _
  have h1' : (n5 == 1) = false := beq_eq_false_iff_ne.2 h1
  by_cases h2 : n5 = 2
  · subst h2
    go_wp2
    refine bodyPost_ret (v := .agg #[.int .i64 n1, .int .i64 n2, .int .i64 n3, .int .i64 6, .int .i64 n4, .int .i64 y2]) (by simp [results, Try.results96, go_sem, *]) rfl ⟨⟨n1, n2, n3, 6, n4, y2⟩, p + 1 + 1 + 1 + 1 + 1 + 1 + 1, rfl, by omega, ?_⟩
    iterate 6 (refine RdW.set ?_ (Nat.le_refl _) _ _)
    exact R8.set (by omega) 3 _
  · have h2' : (n5 == 2) = false := beq_eq_false_iff_ne.2 h2
    go_wp2
    refine bodyPost_ret (v := .agg #[.int .i64 n1, .int .i64 n2, .int .i64 n3, .int .i64 y1, .int .i64 n4, .int .i64 y2]) (by simp [results, Try.results96, go_sem, *]) rfl ⟨⟨n1, n2, n3, y1, n4, y2⟩, p + 1 + 1 + 1 + 1 + 1 + 1 + 1, rfl, by omega, ?_⟩
    iterate 6 (refine RdW.set ?_ (Nat.le_refl _) _ _)
    exact R8
end Go.Proofs.Ytdjgkghmgjocbaa
