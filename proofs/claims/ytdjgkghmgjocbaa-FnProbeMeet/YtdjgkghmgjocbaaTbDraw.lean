/- l12Tube, by its contract: some tube. -/
import Derived.Test.YtdjgkghmgjocbaaTbD
import Derived.Test.YtdjgkghmgjocbaaBoxDraw
import Derived.Test.YtdjgkghmgjocbaaPbSpec
import Derived.Maps.AppendAt
import Derived.Deep.RegionHeld3
namespace Go.Proofs.Ytdjgkghmgjocbaa
open Go.RowKit

set_option maxRecDepth 20000 in
set_option maxHeartbeats 8000000 in
theorem tube_draw (B : Nat) (R : Rdr) (p : Nat) (nm : ByteArray) (w : World) (h : RdAt w B R p) (hp : p ≤ 999990000) :
    Calls Try.prog 65 #[.pointer (some ⟨B, 0, none⟩), .string nm] w (TubeDrawn w B R p 1000) := by
  obtain ⟨i0, hi, hz0, hz1, hz2⟩ := info_parts pbox_inf
  have hB := lt_of_block h.blk
  have R0 := ((RdW.refl h).alloc (.cells #[.string ⟨#[]⟩, .slice none 0 0] 49)).alloc (.cells #[.string nm, .slice none 0 0] 49)
  have z0 := (Below.heap_alloc (w.alloc (.cells #[.string ⟨#[]⟩, .slice none 0 0] 49)) (.cells #[.string nm, .slice none 0 0] 49) w.heap.size (by simp)).trans (heap_alloc_new w (.cells #[.string ⟨#[]⟩, .slice none 0 0] 49))
  have x0 := heap_alloc_new (w.alloc (.cells #[.string ⟨#[]⟩, .slice none 0 0] 49)) (.cells #[.string nm, .slice none 0 0] 49)
  rw [World.size_alloc] at x0
  go_enter Try.func65, Try.ntmps65
  go_wp2_with fail
  refine (box_draw B R p _ R0.rd (by omega)).mono ?_
  rintro e w1 ⟨s1, p1, rfl, hp1, R1⟩
  have T1 : TD w (w1.alloc (.cells #[.int .i64 s1.x, .int .i64 s1.y, .int .i64 s1.lo, .int .i64 s1.hi, .int .i64 s1.in_, .int .i64 s1.out] 59)) B R p1 w1.heap.size nm (.slice none 0 0) [] s1 := by
    have hsz := R1.gr.size
    simp at hsz
    have tb1 := R0.keep x0 (by omega) R1.gr
    have rs1 := R0.keep z0 (by omega) R1.gr
    exact ⟨(R0.more R1.rd R1.gr).alloc _, by omega, (Below.heap_alloc w1 _ _ (lt_of_block tb1)).trans tb1, (Below.heap_alloc w1 _ _ (lt_of_block rs1)).trans rs1, heap_alloc_new w1 _, World.ownsRow_nil _ _ _ _⟩
  have hY0 : w.heap.size + 1 < w1.heap.size := T1.ge
  clear R0 z0 x0 R1
  go_wp2_with fail
  generalize w1.heap.size = Y at *
  refine (pick_any B R p1 7 _ T1.rd.rd (by omega)).mono ?_
  rintro e w2 ⟨rfl, r2, g2, s2⟩
  have T2 := T1.more r2 g2
  obtain ⟨u0, u1⟩ := pickV_range (n := 7) h.rng (show p1 ≤ 1000000000 by omega) (by omega)
  clear r2 g2 s2 T1
  generalize pickV R p1 7 = n0 at *
  obtain ⟨nn, rfl⟩ := Int.eq_ofNat_of_zero_le u0
  go_wp2
  go_loopw [7] (fun x wr => ∃ (k p' : Nat) (v : Value) (l : List Bx) (s : Bx), x = .int .i64 k ∧ k + l.length ≤ 6 ∧ p' ≤ p + 10 + l.length * 12 ∧ TD w wr B R p' Y nm v l s) (fun x _ => (intOf x).toNat)
  case atStart => exact ⟨nn, p1 + 1, _, [], s1, rfl, by simp; omega, by simp; omega, T2⟩
  case round =>
    clear T2
    obtain ⟨k, p', v, l, s, rfl, hk, hp', D⟩ := hrel
    obtain ⟨t0, t1, tf⟩ := blk2 D.tb
    by_cases hpos : 0 < k
    · have hk0 : (0 : Int) < (k : Int) := by omega
      obtain ⟨k0, k1, k2, k3, k4, k5, kf⟩ := blk6 D.bx
      have hYl := lt_of_block D.bx
      have D1 := D.alloc (.cells #[.int .i64 s.x, .int .i64 s.y, .int .i64 s.lo, .int .i64 s.hi, .int .i64 s.in_, .int .i64 s.out] 59)
      go_wp2_with (at_builtin; refine wpList_append_own _ rfl (.tmp 21) (.tmp 23) 47 rfl (Y + 1) 59 i0 (.agg #[.int .i64 0, .int .i64 0, .int .i64 0, .int .i64 0, .int .i64 0, .int .i64 0]) 6 48 Try.underlying47 hi hz0 hz1 hz2 rfl (by decide) v _ _ rfl D1.own ⟨wr.heap.size, 0, none⟩ 1 1 (Bx.cells s) rfl rfl (six_newP wr s _) (by simp [Value.oneCell']) (by unfold maxLen; omega) (by omega) (by simp; omega) ?_; intro v7 w7 hown7 hgrow7 hnil7; obtain ⟨b0, b1, bf⟩ := blk2 (D1.tb7 hgrow7); obtain ⟨a7, c7, rfl⟩ := owns_sliceB hown7)
      have D8 := D1.push hgrow7 hown7
      clear hnil7 D t0 t1 tf k0 k1 k2 k3 k4 k5 kf b0 b1 bf hgrow7 hown7 D1 hYl
      generalize w7.setCell ⟨w.heap.size + 1, 1, none⟩ (.slice a7 (l.length + 1) c7) = W8 at *
      refine (pick_any B R p' 10 _ D8.rd.rd (by omega)).mono ?_
      rintro e w9 ⟨rfl, r9, g9, s9⟩
      have D9 := D8.more r9 g9
      clear r9 g9 s9 D8
      generalize pickV R p' 10 = m0
      by_cases hm0 : m0 = 0
      · subst hm0
        go_wp2_with fail
        refine (box_draw B R (p' + 1) _ D9.rd.rd (by omega)).mono ?_
        rintro e wa ⟨s2, p2, rfl, hp2, R2⟩
        have Da := D9.more R2.rd R2.gr
        clear R2 D9
        obtain ⟨k0, k1, k2, k3, k4, k5, kf⟩ := blk6 Da.bx
        have Db := (((((Da.setY 0 (.int .i64 s2.x) (s' := ⟨s2.x, s.y, s.lo, s.hi, s.in_, s.out⟩) rfl).setY 1 (.int .i64 s2.y) (s' := ⟨s2.x, s2.y, s.lo, s.hi, s.in_, s.out⟩) rfl).setY 2 (.int .i64 s2.lo) (s' := ⟨s2.x, s2.y, s2.lo, s.hi, s.in_, s.out⟩) rfl).setY 3 (.int .i64 s2.hi) (s' := ⟨s2.x, s2.y, s2.lo, s2.hi, s.in_, s.out⟩) rfl).setY 4 (.int .i64 s2.in_) (s' := ⟨s2.x, s2.y, s2.lo, s2.hi, s2.in_, s.out⟩) rfl).setY 5 (.int .i64 s2.out) (s' := ⟨s2.x, s2.y, s2.lo, s2.hi, s2.in_, s2.out⟩) rfl
        go_wp2
        go_roundw
        case rel => exact ⟨k - 1, _, _, _, _, by go_num, by simp; omega, by simp; omega, Db⟩
        case measure => simp [intOf]; omega
      · have hm1 : (m0 == 0) = false := beq_eq_false_iff_ne.2 hm0
        go_wp2
        obtain ⟨k0, k1, k2, k3, k4, k5, kf⟩ := blk6 D9.bx
        have hYB : Y ≠ B := by have := D9.rd.lt; have := D9.ge; omega
        have qn := ClsR.any w9 B
        have q0 : ∀ u : ClsR w9 B, u.it.cell? ⟨Y, 0, none⟩ = some (.int .i64 s.x) := fun u => (ClsR.cell (lt_of_block D9.bx) hYB u 0).trans k0
        refine region_picks 3 7 _ _ D9.rd.rd (by kernel_rfl) (by kernel_rfl) (by decide) (by decide) rfl rfl rfl (by kernel_rfl) ?_
        refine pc_quiet 3 rfl (by omega) ?_
        simp only [List.take_succ_cons, List.take_zero]
        repeat (go_big_quiet_step (fail))
        refine wpQuiet_nil ?_
        simp only [List.drop_succ_cons, List.drop_zero]
        refine pc_pick (by omega) rfl 3 (fun W' => by go_simp) ?_
        generalize pickV R (p' + 1) 3 = m1
        simp only [Act.put, List.setIfInBounds_toArray, List.set_cons_succ, List.set_cons_zero]
        refine pc_quiet 3 rfl (by omega) ?_
        simp only [List.take_succ_cons, List.take_zero]
        repeat (go_big_quiet_step (fail))
        refine wpQuiet_nil ?_
        refine wpMoves_nil ?_
        intro wa g9 s9 r9
        have Da := D9.more r9 g9
        clear q0 qn k0 k1 k2 k3 k4 k5 kf r9 g9 s9 hYB D9
        refine any_end0 (by kernel_rfl) ?_
        generalize wrap64 (wrap64 (s.x + m1) - 1) = x2
        go_wp2
        obtain ⟨k0, k1, k2, k3, k4, k5, kf⟩ := blk6 Da.bx
        have hYB : Y ≠ B := by have := Da.rd.lt; have := Da.ge; omega
        have qn := ClsR.any wa B
        have q0 : ∀ u : ClsR wa B, u.it.cell? ⟨Y, 1, none⟩ = some (.int .i64 s.y) := fun u => (ClsR.cell (lt_of_block Da.bx) hYB u 1).trans k1
        refine region_picks 3 7 _ _ Da.rd.rd (by kernel_rfl) (by kernel_rfl) (by decide) (by decide) rfl rfl rfl (by kernel_rfl) ?_
        refine pc_quiet 3 rfl (by omega) ?_
        simp only [List.take_succ_cons, List.take_zero]
        repeat (go_big_quiet_step (fail))
        refine wpQuiet_nil ?_
        simp only [List.drop_succ_cons, List.drop_zero]
        refine pc_pick (by omega) rfl 3 (fun W' => by go_simp) ?_
        generalize pickV R (p' + 1 + 1) 3 = m2
        simp only [Act.put, List.setIfInBounds_toArray, List.set_cons_succ, List.set_cons_zero]
        refine pc_quiet 3 rfl (by omega) ?_
        simp only [List.take_succ_cons, List.take_zero]
        repeat (go_big_quiet_step (fail))
        refine wpQuiet_nil ?_
        refine wpMoves_nil ?_
        intro wb g9 s9 r9
        have Db := Da.more r9 g9
        clear q0 qn k0 k1 k2 k3 k4 k5 kf r9 g9 s9 hYB Da
        refine any_end0 (by kernel_rfl) ?_
        generalize wrap64 (wrap64 (s.y + m2) - 1) = y2
        rcases Bool.eq_false_or_eq_true (inB x2 0 15) with hi1 | hi1
        · rcases Bool.eq_false_or_eq_true (inB y2 0 15) with hi2 | hi2
          · obtain ⟨k0, k1, k2, k3, k4, k5, kf⟩ := blk6 Db.bx
            have Dz := (Db.setY 0 (.int .i64 x2) (s' := ⟨x2, s.y, s.lo, s.hi, s.in_, s.out⟩) rfl).setY 1 (.int .i64 y2) (s' := ⟨x2, y2, s.lo, s.hi, s.in_, s.out⟩) rfl
            by_cases hT : wrap64 (s.out + 20) < 10000
            · go_wp2_with (go_at_call 80; refine (pin_any _ _ _ _).mono ?_; rintro e w' ⟨rfl, hw⟩; have hw2 := hw.symm; subst hw2; clear hw)
              clear k0 k1 k2 k3 k4 k5 kf Db
              generalize (wb.setCell ⟨Y, 0, none⟩ (.int .i64 x2)).setCell ⟨Y, 1, none⟩ (.int .i64 y2) = Wz at *
              obtain ⟨k0, k1, k2, k3, k4, k5, kf⟩ := blk6 Dz.bx
              have hYB : Y ≠ B := by have := Dz.rd.lt; have := Dz.ge; omega
              have qn := ClsR.any Wz B
              have q0 : ∀ u : ClsR Wz B, u.it.cell? ⟨Y, 4, none⟩ = some (.int .i64 s.in_) := fun u => (ClsR.cell (lt_of_block Dz.bx) hYB u 4).trans k4
              refine region_picks 4 7 _ _ Dz.rd.rd (by kernel_rfl) (by kernel_rfl) (by decide) (by decide) rfl rfl rfl (by kernel_rfl) ?_
              refine pc_quiet 4 rfl (by omega) ?_
              simp only [List.take_succ_cons, List.take_zero]
              repeat (go_big_quiet_step (fail))
              refine wpQuiet_nil ?_
              simp only [List.drop_succ_cons, List.drop_zero]
              refine pc_pick (by omega) rfl 4 (fun W' => by go_simp) ?_
              generalize pickV R (p' + 1 + 1 + 1) 4 = m3
              simp only [Act.put, List.setIfInBounds_toArray, List.set_cons_succ, List.set_cons_zero]
              refine pc_quiet 2 rfl (by omega) ?_
              simp only [List.take_succ_cons, List.take_zero]
              repeat (go_big_quiet_step (fail))
              refine wpQuiet_nil ?_
              refine wpMoves_nil ?_
              intro wc g9 s9 r9
              have Dc := Dz.more r9 g9
              clear q0 qn k0 k1 k2 k3 k4 k5 kf r9 g9 s9 hYB Dz
              refine any_end1 (N := 7) _ rfl (by kernel_rfl) (by kernel_rfl) rfl rfl ?_
              generalize wrap64 (wrap64 (s.in_ + 1) + m3) = in2
              obtain ⟨k0, k1, k2, k3, k4, k5, kf⟩ := blk6 Dc.bx
              unfold Oper.wp
              go_simp
              have Dd := Dc.setY 4 (.int .i64 in2) (s' := ⟨x2, y2, s.lo, s.hi, in2, s.out⟩) rfl
              clear k0 k1 k2 k3 k4 k5 kf Dc
              generalize wc.setCell ⟨Y, 4, none⟩ (.int .i64 in2) = Wd at *
              go_wp2
              obtain ⟨k0, k1, k2, k3, k4, k5, kf⟩ := blk6 Dd.bx
              have hYB : Y ≠ B := by have := Dd.rd.lt; have := Dd.ge; omega
              have qn := ClsR.any Wd B
              have q0 : ∀ u : ClsR Wd B, u.it.cell? ⟨Y, 5, none⟩ = some (.int .i64 s.out) := fun u => (ClsR.cell (lt_of_block Dd.bx) hYB u 5).trans k5
              refine region_picks 4 7 _ _ Dd.rd.rd (by kernel_rfl) (by kernel_rfl) (by decide) (by decide) rfl rfl rfl (by kernel_rfl) ?_
              refine pc_quiet 4 rfl (by omega) ?_
              simp only [List.take_succ_cons, List.take_zero]
              repeat (go_big_quiet_step (fail))
              refine wpQuiet_nil ?_
              simp only [List.drop_succ_cons, List.drop_zero]
              refine pc_pick (by omega) rfl 6 (fun W' => by go_simp) ?_
              generalize pickV R (p' + 1 + 1 + 1 + 1) 6 = m4
              simp only [Act.put, List.setIfInBounds_toArray, List.set_cons_succ, List.set_cons_zero]
              refine pc_quiet 2 rfl (by omega) ?_
              simp only [List.take_succ_cons, List.take_zero]
              repeat (go_big_quiet_step (fail))
              refine wpQuiet_nil ?_
              refine wpMoves_nil ?_
              intro we g9 s9 r9
              have De := Dd.more r9 g9
              clear q0 qn k0 k1 k2 k3 k4 k5 kf r9 g9 s9 hYB Dd
              refine any_end1 (N := 7) _ rfl (by kernel_rfl) (by kernel_rfl) rfl rfl ?_
              generalize wrap64 (wrap64 (s.out + 1) + m4) = out2
              obtain ⟨k0, k1, k2, k3, k4, k5, kf⟩ := blk6 De.bx
              unfold Oper.wp
              go_simp
              have Df := De.setY 5 (.int .i64 out2) (s' := ⟨x2, y2, s.lo, s.hi, in2, out2⟩) rfl
              clear k0 k1 k2 k3 k4 k5 kf De
              generalize we.setCell ⟨Y, 5, none⟩ (.int .i64 out2) = Wf at *
              obtain ⟨k0, k1, k2, k3, k4, k5, kf⟩ := blk6 Df.bx
              by_cases hO : out2 < in2
              · have Dg := Df.setY 5 (.int .i64 in2) (s' := ⟨x2, y2, s.lo, s.hi, in2, in2⟩) rfl
                go_wp2
                go_roundw
                case rel => exact ⟨k - 1, _, _, _, _, by go_num, by simp; omega, by simp; omega, Dg⟩
                case measure => simp [intOf]; omega
              · go_wp2
                go_roundw
                case rel => exact ⟨k - 1, _, _, _, _, by go_num, by simp; omega, by simp; omega, Df⟩
                case measure => simp [intOf]; omega
            · go_wp2_with (go_at_call 80; refine (pin_any _ _ _ _).mono ?_; rintro e w' ⟨rfl, hw⟩; have hw2 := hw.symm; subst hw2; clear hw)
              go_roundw
              case rel => exact ⟨k - 1, _, _, _, _, by go_num, by simp; omega, by simp; omega, Dz⟩
              case measure => simp [intOf]; omega
          · obtain ⟨k0, k1, k2, k3, k4, k5, kf⟩ := blk6 Db.bx
            have Dz := Db
            by_cases hT : wrap64 (s.out + 20) < 10000
            · go_wp2_with (go_at_call 80; refine (pin_any _ _ _ _).mono ?_; rintro e w' ⟨rfl, hw⟩; have hw2 := hw.symm; subst hw2; clear hw)
              clear k0 k1 k2 k3 k4 k5 kf Db
              obtain ⟨k0, k1, k2, k3, k4, k5, kf⟩ := blk6 Dz.bx
              have hYB : Y ≠ B := by have := Dz.rd.lt; have := Dz.ge; omega
              have qn := ClsR.any wb B
              have q0 : ∀ u : ClsR wb B, u.it.cell? ⟨Y, 4, none⟩ = some (.int .i64 s.in_) := fun u => (ClsR.cell (lt_of_block Dz.bx) hYB u 4).trans k4
              refine region_picks 4 7 _ _ Dz.rd.rd (by kernel_rfl) (by kernel_rfl) (by decide) (by decide) rfl rfl rfl (by kernel_rfl) ?_
              refine pc_quiet 4 rfl (by omega) ?_
              simp only [List.take_succ_cons, List.take_zero]
              repeat (go_big_quiet_step (fail))
              refine wpQuiet_nil ?_
              simp only [List.drop_succ_cons, List.drop_zero]
              refine pc_pick (by omega) rfl 4 (fun W' => by go_simp) ?_
              generalize pickV R (p' + 1 + 1 + 1) 4 = m3
              simp only [Act.put, List.setIfInBounds_toArray, List.set_cons_succ, List.set_cons_zero]
              refine pc_quiet 2 rfl (by omega) ?_
              simp only [List.take_succ_cons, List.take_zero]
              repeat (go_big_quiet_step (fail))
              refine wpQuiet_nil ?_
              refine wpMoves_nil ?_
              intro wc g9 s9 r9
              have Dc := Dz.more r9 g9
              clear q0 qn k0 k1 k2 k3 k4 k5 kf r9 g9 s9 hYB Dz
              refine any_end1 (N := 7) _ rfl (by kernel_rfl) (by kernel_rfl) rfl rfl ?_
              generalize wrap64 (wrap64 (s.in_ + 1) + m3) = in2
              obtain ⟨k0, k1, k2, k3, k4, k5, kf⟩ := blk6 Dc.bx
              unfold Oper.wp
              go_simp
              have Dd := Dc.setY 4 (.int .i64 in2) (s' := ⟨s.x, s.y, s.lo, s.hi, in2, s.out⟩) rfl
              clear k0 k1 k2 k3 k4 k5 kf Dc
              generalize wc.setCell ⟨Y, 4, none⟩ (.int .i64 in2) = Wd at *
              go_wp2
              obtain ⟨k0, k1, k2, k3, k4, k5, kf⟩ := blk6 Dd.bx
              have hYB : Y ≠ B := by have := Dd.rd.lt; have := Dd.ge; omega
              have qn := ClsR.any Wd B
              have q0 : ∀ u : ClsR Wd B, u.it.cell? ⟨Y, 5, none⟩ = some (.int .i64 s.out) := fun u => (ClsR.cell (lt_of_block Dd.bx) hYB u 5).trans k5
              refine region_picks 4 7 _ _ Dd.rd.rd (by kernel_rfl) (by kernel_rfl) (by decide) (by decide) rfl rfl rfl (by kernel_rfl) ?_
              refine pc_quiet 4 rfl (by omega) ?_
              simp only [List.take_succ_cons, List.take_zero]
              repeat (go_big_quiet_step (fail))
              refine wpQuiet_nil ?_
              simp only [List.drop_succ_cons, List.drop_zero]
              refine pc_pick (by omega) rfl 6 (fun W' => by go_simp) ?_
              generalize pickV R (p' + 1 + 1 + 1 + 1) 6 = m4
              simp only [Act.put, List.setIfInBounds_toArray, List.set_cons_succ, List.set_cons_zero]
              refine pc_quiet 2 rfl (by omega) ?_
              simp only [List.take_succ_cons, List.take_zero]
              repeat (go_big_quiet_step (fail))
              refine wpQuiet_nil ?_
              refine wpMoves_nil ?_
              intro we g9 s9 r9
              have De := Dd.more r9 g9
              clear q0 qn k0 k1 k2 k3 k4 k5 kf r9 g9 s9 hYB Dd
              refine any_end1 (N := 7) _ rfl (by kernel_rfl) (by kernel_rfl) rfl rfl ?_
              generalize wrap64 (wrap64 (s.out + 1) + m4) = out2
              obtain ⟨k0, k1, k2, k3, k4, k5, kf⟩ := blk6 De.bx
              unfold Oper.wp
              go_simp
              have Df := De.setY 5 (.int .i64 out2) (s' := ⟨s.x, s.y, s.lo, s.hi, in2, out2⟩) rfl
              clear k0 k1 k2 k3 k4 k5 kf De
              generalize we.setCell ⟨Y, 5, none⟩ (.int .i64 out2) = Wf at *
              obtain ⟨k0, k1, k2, k3, k4, k5, kf⟩ := blk6 Df.bx
              by_cases hO : out2 < in2
              · have Dg := Df.setY 5 (.int .i64 in2) (s' := ⟨s.x, s.y, s.lo, s.hi, in2, in2⟩) rfl
                go_wp2
                go_roundw
                case rel => exact ⟨k - 1, _, _, _, _, by go_num, by simp; omega, by simp; omega, Dg⟩
                case measure => simp [intOf]; omega
              · go_wp2
                go_roundw
                case rel => exact ⟨k - 1, _, _, _, _, by go_num, by simp; omega, by simp; omega, Df⟩
                case measure => simp [intOf]; omega
            · go_wp2_with (go_at_call 80; refine (pin_any _ _ _ _).mono ?_; rintro e w' ⟨rfl, hw⟩; have hw2 := hw.symm; subst hw2; clear hw)
              go_roundw
              case rel => exact ⟨k - 1, _, _, _, _, by go_num, by simp; omega, by simp; omega, Dz⟩
              case measure => simp [intOf]; omega
        · obtain ⟨k0, k1, k2, k3, k4, k5, kf⟩ := blk6 Db.bx
          have Dz := Db
          by_cases hT : wrap64 (s.out + 20) < 10000
          · go_wp2_with (go_at_call 80; refine (pin_any _ _ _ _).mono ?_; rintro e w' ⟨rfl, hw⟩; have hw2 := hw.symm; subst hw2; clear hw)
            clear k0 k1 k2 k3 k4 k5 kf Db
            obtain ⟨k0, k1, k2, k3, k4, k5, kf⟩ := blk6 Dz.bx
            have hYB : Y ≠ B := by have := Dz.rd.lt; have := Dz.ge; omega
            have qn := ClsR.any wb B
            have q0 : ∀ u : ClsR wb B, u.it.cell? ⟨Y, 4, none⟩ = some (.int .i64 s.in_) := fun u => (ClsR.cell (lt_of_block Dz.bx) hYB u 4).trans k4
            refine region_picks 4 7 _ _ Dz.rd.rd (by kernel_rfl) (by kernel_rfl) (by decide) (by decide) rfl rfl rfl (by kernel_rfl) ?_
            refine pc_quiet 4 rfl (by omega) ?_
            simp only [List.take_succ_cons, List.take_zero]
            repeat (go_big_quiet_step (fail))
            refine wpQuiet_nil ?_
            simp only [List.drop_succ_cons, List.drop_zero]
            refine pc_pick (by omega) rfl 4 (fun W' => by go_simp) ?_
            generalize pickV R (p' + 1 + 1 + 1) 4 = m3
            simp only [Act.put, List.setIfInBounds_toArray, List.set_cons_succ, List.set_cons_zero]
            refine pc_quiet 2 rfl (by omega) ?_
            simp only [List.take_succ_cons, List.take_zero]
            repeat (go_big_quiet_step (fail))
            refine wpQuiet_nil ?_
            refine wpMoves_nil ?_
            intro wc g9 s9 r9
            have Dc := Dz.more r9 g9
            clear q0 qn k0 k1 k2 k3 k4 k5 kf r9 g9 s9 hYB Dz
            refine any_end1 (N := 7) _ rfl (by kernel_rfl) (by kernel_rfl) rfl rfl ?_
            generalize wrap64 (wrap64 (s.in_ + 1) + m3) = in2
            obtain ⟨k0, k1, k2, k3, k4, k5, kf⟩ := blk6 Dc.bx
            unfold Oper.wp
            go_simp
            have Dd := Dc.setY 4 (.int .i64 in2) (s' := ⟨s.x, s.y, s.lo, s.hi, in2, s.out⟩) rfl
            clear k0 k1 k2 k3 k4 k5 kf Dc
            generalize wc.setCell ⟨Y, 4, none⟩ (.int .i64 in2) = Wd at *
            go_wp2
            obtain ⟨k0, k1, k2, k3, k4, k5, kf⟩ := blk6 Dd.bx
            have hYB : Y ≠ B := by have := Dd.rd.lt; have := Dd.ge; omega
            have qn := ClsR.any Wd B
            have q0 : ∀ u : ClsR Wd B, u.it.cell? ⟨Y, 5, none⟩ = some (.int .i64 s.out) := fun u => (ClsR.cell (lt_of_block Dd.bx) hYB u 5).trans k5
            refine region_picks 4 7 _ _ Dd.rd.rd (by kernel_rfl) (by kernel_rfl) (by decide) (by decide) rfl rfl rfl (by kernel_rfl) ?_
            refine pc_quiet 4 rfl (by omega) ?_
            simp only [List.take_succ_cons, List.take_zero]
            repeat (go_big_quiet_step (fail))
            refine wpQuiet_nil ?_
            simp only [List.drop_succ_cons, List.drop_zero]
            refine pc_pick (by omega) rfl 6 (fun W' => by go_simp) ?_
            generalize pickV R (p' + 1 + 1 + 1 + 1) 6 = m4
            simp only [Act.put, List.setIfInBounds_toArray, List.set_cons_succ, List.set_cons_zero]
            refine pc_quiet 2 rfl (by omega) ?_
            simp only [List.take_succ_cons, List.take_zero]
            repeat (go_big_quiet_step (fail))
            refine wpQuiet_nil ?_
            refine wpMoves_nil ?_
            intro we g9 s9 r9
            have De := Dd.more r9 g9
            clear q0 qn k0 k1 k2 k3 k4 k5 kf r9 g9 s9 hYB Dd
            refine any_end1 (N := 7) _ rfl (by kernel_rfl) (by kernel_rfl) rfl rfl ?_
            generalize wrap64 (wrap64 (s.out + 1) + m4) = out2
            obtain ⟨k0, k1, k2, k3, k4, k5, kf⟩ := blk6 De.bx
            unfold Oper.wp
            go_simp
            have Df := De.setY 5 (.int .i64 out2) (s' := ⟨s.x, s.y, s.lo, s.hi, in2, out2⟩) rfl
            clear k0 k1 k2 k3 k4 k5 kf De
            generalize we.setCell ⟨Y, 5, none⟩ (.int .i64 out2) = Wf at *
            obtain ⟨k0, k1, k2, k3, k4, k5, kf⟩ := blk6 Df.bx
            by_cases hO : out2 < in2
            · have Dg := Df.setY 5 (.int .i64 in2) (s' := ⟨s.x, s.y, s.lo, s.hi, in2, in2⟩) rfl
              go_wp2
              go_roundw
              case rel => exact ⟨k - 1, _, _, _, _, by go_num, by simp; omega, by simp; omega, Dg⟩
              case measure => simp [intOf]; omega
            · go_wp2
              go_roundw
              case rel => exact ⟨k - 1, _, _, _, _, by go_num, by simp; omega, by simp; omega, Df⟩
              case measure => simp [intOf]; omega
          · go_wp2_with (go_at_call 80; refine (pin_any _ _ _ _).mono ?_; rintro e w' ⟨rfl, hw⟩; have hw2 := hw.symm; subst hw2; clear hw)
            go_roundw
            case rel => exact ⟨k - 1, _, _, _, _, by go_num, by simp; omega, by simp; omega, Dz⟩
            case measure => simp [intOf]; omega
    · go_wp2_with fail
      refine (pick_any B R p' 40 _ D.rd.rd (by omega)).mono ?_
      rintro e w9 ⟨rfl, r9, g9, s9⟩
      have D9 := D.more r9 g9
      clear r9 g9 s9 D t0 t1 tf
      generalize pickV R p' 40 = m0
      have hlen : l.length ≤ 6 := by omega
      by_cases hm0 : m0 = 0
      · subst hm0
        go_wp2
        go_loopw [] (fun wr => ∃ (p3 : Nat) (v : Value) (l : List Bx), l.length ≤ 40 ∧ p3 ≤ p + 100 + l.length * 20 ∧ TD w wr B R p3 Y nm v l s) (fun wr => match wr.cell? ⟨w.heap.size + 1, 1, none⟩ with | some (.slice _ n _) => 41 - n | _ => 0)
        case atStart => exact ⟨p' + 1, v, l, by omega, by omega, D9⟩
        case round =>
          clear D9
          obtain ⟨p3, v3, l3, hl3, hp3, E⟩ := hrel
          obtain ⟨a3, c3, rfl⟩ := owns_sliceB E.own
          obtain ⟨t0, t1, tf⟩ := blk2 E.tb
          have hXB : w.heap.size + 1 ≠ B := by have := E.rd.lt; omega
          have hl3i : (l3.length : Int) ≤ 40 := by omega
          go_wp2
          have qn := ClsR.any wr B
          have q0 : ∀ u : ClsR wr B, u.it.cell? ⟨w.heap.size + 1, 1, none⟩ = some (.slice a3 l3.length c3) := fun u => (ClsR.cell (lt_of_block E.tb) hXB u 1).trans t1
          refine region_picks 4 7 _ _ E.rd.rd (by kernel_rfl) (by kernel_rfl) (by decide) (by decide) rfl rfl rfl (by kernel_rfl) ?_
          refine pc_quiet 4 rfl (by omega) ?_
          simp only [List.take_succ_cons, List.take_zero]
          repeat (go_big_quiet_step (fail))
          refine wpQuiet_nil ?_
          simp only [List.drop_succ_cons, List.drop_zero]
          refine pc_pick (by omega) rfl 2 (fun W' => by go_simp) ?_
          obtain ⟨m1, m2⟩ := pickV_range (n := 2) h.rng (show p3 ≤ 1000000000 by omega) (by omega)
          generalize pickV R p3 2 = m at *
          simp only [Act.put, List.setIfInBounds_toArray, List.set_cons_succ, List.set_cons_zero]
          refine pc_quiet 2 rfl (by omega) ?_
          simp only [List.take_succ_cons, List.take_zero]
          repeat (go_big_quiet_step (fail))
          refine wpQuiet_nil ?_
          refine wpMoves_nil ?_
          intro wc g9 s9 r9
          have hEq : wc.cell? ⟨w.heap.size + 1, 1, none⟩ = some (.slice a3 l3.length c3) := (blk2 (E.more r9 g9).tb).2.1
          have E1 := E.more r9 g9
          clear q0 qn t0 tf r9 g9 s9 E
          refine any_end0 (by kernel_rfl) ?_
          by_cases hlt : (l3.length : Int) < 40 - m
          · have Ed := E1.below ((Below.refl wc.heap.size wc).drew)
            obtain ⟨t0, t1', tf⟩ := blk2 E1.tb
            have hM : wr.cell? ⟨w.heap.size + 1, 1, none⟩ = some (.slice a3 l3.length c3) := t1
            go_wp2
            refine wp_region_any (by kernel_rfl) ?_
            change wpAny _ _ _ _ _ _ _ (World.drew _)
            refine wpAny_take (i := 0) (v := .pointer (some ⟨w.heap.size + 1, 1, none⟩)) rfl (by kernel_rfl) (by kernel_rfl) (by kernel_rfl) (fun _ _ _ h => h) (Or.inl ⟨by rfl, fun W => by go_simp⟩) ?_
            refine wpAny_take (i := 2) (v := .pointer (some ⟨B, 0, none⟩)) rfl (by kernel_rfl) (by kernel_rfl) (by kernel_rfl) (fun _ _ _ h => h) (Or.inl ⟨by rfl, fun W => by go_simp⟩) ?_
            refine wpAny_ready (rs := [1, 3]) (by kernel_rfl) (by simp) ?_
            refine AllReady.cons rfl (fun K hK => ?_) ?_
            · go_simp
              refine hK _ _ ?_
              clear hK K
              refine wpAny_ready (rs := [3]) (by kernel_rfl) (by simp) ?_
              refine AllReady.cons rfl (fun K hK => ?_) ?_
              · go_simp
                refine (box_draw B R (p3 + 1) _ Ed.rd.rd (by omega)).mono ?_
                rintro e we ⟨s2, p2, rfl, hp2, R2⟩
                have E2 := Ed.more R2.rd R2.gr
                obtain ⟨x0, x1, xf⟩ := blk2 E2.tb
                have E3 := E2.alloc (.cells #[.int .i64 s2.x, .int .i64 s2.y, .int .i64 s2.lo, .int .i64 s2.hi, .int .i64 s2.in_, .int .i64 s2.out] 59)
                have y1 := (blk2 E3.tb).2.1
                have yl := lt_of_block E2.bx
                refine hK _ _ ?_
                clear hK K
                refine wpAny_ready (rs := [4]) (by kernel_rfl) (by simp) ?_
                refine AllReady.cons rfl (fun K hK => ?_) ?_
                · go_simp
                  refine hK _ _ ?_
                  clear hK K
                  refine wpAny_ready (rs := [5]) (by kernel_rfl) (by simp) ?_
                  refine AllReady.cons rfl (fun K hK => ?_) ?_
                  · refine wp_append_own _ (.tmp 90) (.tmp 93) 47 rfl (Y + 1) 59 i0 (.agg #[.int .i64 0, .int .i64 0, .int .i64 0, .int .i64 0, .int .i64 0, .int .i64 0]) 6 48 Try.underlying47 hi hz0 hz1 hz2 rfl (by decide) (.slice a3 l3.length c3) _ _ rfl E3.own ⟨we.heap.size, 0, none⟩ 1 1 (Bx.cells s2) rfl rfl (six_newP we s2 _) (by simp [Value.oneCell']) (by unfold maxLen; omega) (by omega) (by simp; omega) ?_
                    intro v7 w7 hown7 hgrow7 hnil7
                    obtain ⟨b0, b1, bf⟩ := blk2 (E3.tb7 hgrow7)
                    obtain ⟨a7, c7, rfl⟩ := owns_sliceB hown7
                    refine hK _ _ ?_
                    clear hK K
                    refine wpAny_ready (rs := [6]) (by kernel_rfl) (by simp) ?_
                    refine AllReady.cons rfl (fun K hK => ?_) ?_
                    · go_simp
                      refine hK _ _ ?_
                      clear hK K
                      refine wpAny_ready (rs := [7]) (by kernel_rfl) (by simp) ?_
                      refine AllReady.cons rfl (fun K hK => ?_) ?_
                      · go_simp
                        refine hK _ _ ?_
                        clear hK K
                        refine wpAny_done (by kernel_rfl) ?_ _
                        have E4 := E3.push hgrow7 hown7
                        have y9 := (blk2 E4.tb).2.1
                        go_wp2
                        go_roundw
                        case rel => exact ⟨p2, _, _, by simp; omega, by simp; omega, E4⟩
                        case measure => simp [y9, hM]; omega
                      exact AllReady.nil
                    exact AllReady.nil
                  exact AllReady.nil
                exact AllReady.nil
              exact AllReady.nil
            refine AllReady.cons rfl (fun K hK => ?_) ?_
            · go_simp
              refine (box_draw B R (p3 + 1) _ Ed.rd.rd (by omega)).mono ?_
              rintro e we ⟨s2, p2, rfl, hp2, R2⟩
              have E2 := Ed.more R2.rd R2.gr
              obtain ⟨x0, x1, xf⟩ := blk2 E2.tb
              have E3 := E2.alloc (.cells #[.int .i64 s2.x, .int .i64 s2.y, .int .i64 s2.lo, .int .i64 s2.hi, .int .i64 s2.in_, .int .i64 s2.out] 59)
              have y1 := (blk2 E3.tb).2.1
              have yl := lt_of_block E2.bx
              refine hK _ _ ?_
              clear hK K
              refine wpAny_ready (rs := [1, 4]) (by kernel_rfl) (by simp) ?_
              refine AllReady.cons rfl (fun K hK => ?_) ?_
              · go_simp
                refine hK _ _ ?_
                clear hK K
                refine wpAny_ready (rs := [4]) (by kernel_rfl) (by simp) ?_
                refine AllReady.cons rfl (fun K hK => ?_) ?_
                · go_simp
                  refine hK _ _ ?_
                  clear hK K
                  refine wpAny_ready (rs := [5]) (by kernel_rfl) (by simp) ?_
                  refine AllReady.cons rfl (fun K hK => ?_) ?_
                  · refine wp_append_own _ (.tmp 90) (.tmp 93) 47 rfl (Y + 1) 59 i0 (.agg #[.int .i64 0, .int .i64 0, .int .i64 0, .int .i64 0, .int .i64 0, .int .i64 0]) 6 48 Try.underlying47 hi hz0 hz1 hz2 rfl (by decide) (.slice a3 l3.length c3) _ _ rfl E3.own ⟨we.heap.size, 0, none⟩ 1 1 (Bx.cells s2) rfl rfl (six_newP we s2 _) (by simp [Value.oneCell']) (by unfold maxLen; omega) (by omega) (by simp; omega) ?_
                    intro v7 w7 hown7 hgrow7 hnil7
                    obtain ⟨b0, b1, bf⟩ := blk2 (E3.tb7 hgrow7)
                    obtain ⟨a7, c7, rfl⟩ := owns_sliceB hown7
                    refine hK _ _ ?_
                    clear hK K
                    refine wpAny_ready (rs := [6]) (by kernel_rfl) (by simp) ?_
                    refine AllReady.cons rfl (fun K hK => ?_) ?_
                    · go_simp
                      refine hK _ _ ?_
                      clear hK K
                      refine wpAny_ready (rs := [7]) (by kernel_rfl) (by simp) ?_
                      refine AllReady.cons rfl (fun K hK => ?_) ?_
                      · go_simp
                        refine hK _ _ ?_
                        clear hK K
                        refine wpAny_done (by kernel_rfl) ?_ _
                        have E4 := E3.push hgrow7 hown7
                        have y9 := (blk2 E4.tb).2.1
                        go_wp2
                        go_roundw
                        case rel => exact ⟨p2, _, _, by simp; omega, by simp; omega, E4⟩
                        case measure => simp [y9, hM]; omega
                      exact AllReady.nil
                    exact AllReady.nil
                  exact AllReady.nil
                exact AllReady.nil
              refine AllReady.cons rfl (fun K hK => ?_) ?_
              · go_simp
                refine hK _ _ ?_
                clear hK K
                refine wpAny_ready (rs := [1]) (by kernel_rfl) (by simp) ?_
                refine AllReady.cons rfl (fun K hK => ?_) ?_
                · go_simp
                  refine hK _ _ ?_
                  clear hK K
                  refine wpAny_ready (rs := [5]) (by kernel_rfl) (by simp) ?_
                  refine AllReady.cons rfl (fun K hK => ?_) ?_
                  · refine wp_append_own _ (.tmp 90) (.tmp 93) 47 rfl (Y + 1) 59 i0 (.agg #[.int .i64 0, .int .i64 0, .int .i64 0, .int .i64 0, .int .i64 0, .int .i64 0]) 6 48 Try.underlying47 hi hz0 hz1 hz2 rfl (by decide) (.slice a3 l3.length c3) _ _ rfl E3.own ⟨we.heap.size, 0, none⟩ 1 1 (Bx.cells s2) rfl rfl (six_newP we s2 _) (by simp [Value.oneCell']) (by unfold maxLen; omega) (by omega) (by simp; omega) ?_
                    intro v7 w7 hown7 hgrow7 hnil7
                    obtain ⟨b0, b1, bf⟩ := blk2 (E3.tb7 hgrow7)
                    obtain ⟨a7, c7, rfl⟩ := owns_sliceB hown7
                    refine hK _ _ ?_
                    clear hK K
                    refine wpAny_ready (rs := [6]) (by kernel_rfl) (by simp) ?_
                    refine AllReady.cons rfl (fun K hK => ?_) ?_
                    · go_simp
                      refine hK _ _ ?_
                      clear hK K
                      refine wpAny_ready (rs := [7]) (by kernel_rfl) (by simp) ?_
                      refine AllReady.cons rfl (fun K hK => ?_) ?_
                      · go_simp
                        refine hK _ _ ?_
                        clear hK K
                        refine wpAny_done (by kernel_rfl) ?_ _
                        have E4 := E3.push hgrow7 hown7
                        have y9 := (blk2 E4.tb).2.1
                        go_wp2
                        go_roundw
                        case rel => exact ⟨p2, _, _, by simp; omega, by simp; omega, E4⟩
                        case measure => simp [y9, hM]; omega
                      exact AllReady.nil
                    exact AllReady.nil
                  exact AllReady.nil
                exact AllReady.nil
              exact AllReady.nil
            exact AllReady.nil
          · obtain ⟨t0, t1', tf⟩ := blk2 E1.tb
            obtain ⟨f0, f1, ff⟩ := blk2 E1.rs
            go_wp2
            exact bodyPost_ret (v := .agg #[.string nm, .slice a3 l3.length c3]) (by simp [results, Try.results65, go_sem, *]) rfl (E1.drawn (by omega) (by omega))
      · have hm1 : (m0 == 0) = false := beq_eq_false_iff_ne.2 hm0
        obtain ⟨a9, c9, rfl⟩ := owns_sliceB D9.own
        obtain ⟨t0, t1, tf⟩ := blk2 D9.tb
        obtain ⟨f0, f1, ff⟩ := blk2 D9.rs
        go_wp2
        exact bodyPost_ret (v := .agg #[.string nm, .slice a9 l.length c9]) (by simp [results, Try.results65, go_sem, *]) rfl (D9.drawn (by omega) (by omega))
end Go.Proofs.Ytdjgkghmgjocbaa
