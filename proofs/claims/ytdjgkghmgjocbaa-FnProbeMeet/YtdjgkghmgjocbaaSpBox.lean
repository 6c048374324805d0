/- l11SpoilBox, by its contract: some box. -/
import Derived.Test.YtdjgkghmgjocbaaRdW11
import Derived.Test.YtdjgkghmgjocbaaMix11
import Derived.Test.YtdjgkghmgjocbaaPbData
namespace Go.Proofs.Ytdjgkghmgjocbaa
open Go.RowKit

/-- A box and a result's box in a call's own memory, beside the reader. -/
structure BxD (w W : World) (B : Nat) (R : Rdr) (p X Z : Nat) (s : Bx) : Prop where
  rd : RdW w W B R p
  geX : w.heap.size ≤ X
  geZ : w.heap.size ≤ Z
  ne : X ≠ Z
  bx : W.heap[X]? = some (.cells #[.int .i64 s.x, .int .i64 s.y, .int .i64 s.lo, .int .i64 s.hi, .int .i64 s.in_, .int .i64 s.out] 59 (0, 0))
  rs : W.heap[Z]? = some (.cells #[.int .i64 0, .int .i64 0, .int .i64 0, .int .i64 0, .int .i64 0, .int .i64 0] 59 (0, 0))
section
variable {w W W' : World} {B : Nat} {R : Rdr} {p X Z : Nat} {s : Bx}
theorem BxD.xB (h : BxD w W B R p X Z s) : X ≠ B ∧ Z ≠ B ∧ B < w.heap.size := by have := h.rd.lt; have := h.geX; have := h.geZ; omega
theorem BxD.more {p' : Nat} (h : BxD w W B R p X Z s) (hr : RdAt W' B R p') (hg : W.grownBy W' (some B)) : BxD w W' B R p' X Z s :=
  ⟨h.rd.more hr hg, h.geX, h.geZ, h.ne, h.rd.keep h.bx h.xB.1 hg, h.rd.keep h.rs h.xB.2.1 hg⟩
theorem BxD.alloc (h : BxD w W B R p X Z s) (ob : Obj) : BxD w (W.alloc ob) B R p X Z s :=
  ⟨h.rd.alloc ob, h.geX, h.geZ, h.ne, (Below.heap_alloc W ob X (lt_of_block h.bx)).trans h.bx, (Below.heap_alloc W ob Z (lt_of_block h.rs)).trans h.rs⟩
end

set_option maxRecDepth 20000 in
set_option maxHeartbeats 4000000 in
theorem spoilBox_0 (B : Nat) (R : Rdr) (p : Nat) (s : Bx) (w : World) (h : RdAt w B R p) (hp : p ≤ 999999000) (hm : pickV R p 6 = 0) :
    Calls Try.prog 99 #[.pointer (some ⟨B, 0, none⟩), s.val] w fun e w' => ∃ (s : Bx) (p' : Nat), e = .returned s.val ∧ p' ≤ p + 2 ∧ RdW w w' B R p' := by
  have hB := lt_of_block h.blk
  obtain ⟨sx, sy, slo, shi, sin, sout⟩ := s
  have HM : Hid (pickV R p 6 = 0) := hm
  clear hm
  have D0 : BxD w ((w.alloc (.cells #[.int .i64 sx, .int .i64 sy, .int .i64 slo, .int .i64 shi, .int .i64 sin, .int .i64 sout] 59)).alloc (.cells #[.int .i64 0, .int .i64 0, .int .i64 0, .int .i64 0, .int .i64 0, .int .i64 0] 59)) B R p w.heap.size (w.heap.size + 1) ⟨sx, sy, slo, shi, sin, sout⟩ :=
    ⟨((RdW.refl h).alloc _).alloc _, by omega, by omega, by omega, (Below.heap_alloc _ _ _ (by simp)).trans (heap_alloc_new w _), by have := heap_alloc_new (w.alloc (.cells #[.int .i64 sx, .int .i64 sy, .int .i64 slo, .int .i64 shi, .int .i64 sin, .int .i64 sout] 59)) (.cells #[.int .i64 0, .int .i64 0, .int .i64 0, .int .i64 0, .int .i64 0, .int .i64 0] 59); simpa using this⟩
  go_enter Try.func99, Try.ntmps99
  go_wp2_with fail
  refine (pick_any B R p 6 _ D0.rd.rd (by omega)).mono ?_
  rintro e w1 ⟨rfl, r1, g1, s1⟩
  have D1 := D0.more r1 g1
  clear r1 g1 s1 D0
  rw [HM.out]
  go_wp2_with fail
  have N1 := heap_alloc_new w1 (.cells #[.int .i64 (-1), .int .i64 (16), .int .i64 (-9223372036854775808), .int .i64 (9223372036854775807)] 3)
  have D2 := D1.alloc (.cells #[.int .i64 (-1), .int .i64 (16), .int .i64 (-9223372036854775808), .int .i64 (9223372036854775807)] 3)
  have hN : w1.heap.size ≠ B := by have := D1.rd.lt; have := D1.rd.size; omega
  refine (pick_any B R (p + 1) 4 _ D2.rd.rd (by omega)).mono ?_
  rintro e w2 ⟨rfl, r2, g2, s2⟩
  have D3 := D2.more r2 g2
  have N2 := D2.rd.keep N1 hN g2
  obtain ⟨z0', z1'⟩ := pickV_range (n := 4) h.rng (show p + 1 ≤ 1000000000 by omega) (by omega)
  generalize pickV R (p + 1) 4 = zi at *
  obtain ⟨zn, rfl⟩ := Int.eq_ofNat_of_zero_le z0'
  obtain ⟨z, hz⟩ : ∃ z, w2.cell? ⟨w1.heap.size, zn, none⟩ = some (Value.int .i64 z) := by
    rw [cell_of_row w2 w1.heap.size zn _ _ _ N2]
    have h3 : zn = 0 ∨ zn = 1 ∨ zn = 2 ∨ zn = 3 := by omega
    rcases h3 with rfl | rfl | rfl | rfl <;> exact ⟨_, rfl⟩
  have hzn : (zn : Int) < 4 := z1'
  have hzp : (0 : Int) ≤ (zn : Int) := by omega
  clear r2 g2 s2 D1 D2 N1 N2 z0' z1'
  obtain ⟨k0, k1, k2, k3, k4, k5, kf⟩ := blk6 D3.bx
  obtain ⟨m0, m1, m2, m3, m4, m5, mf⟩ := blk6 D3.rs
  have hne := D3.ne
  go_wp2
  refine bodyPost_ret (v := (Bx.mk (z) (sy) (slo) (shi) (sin) (sout)).val) (by simp [results, Try.results99, go_sem, *]) rfl ⟨⟨z, sy, slo, shi, sin, sout⟩, p + 2, rfl, Nat.le_refl _, ?_⟩
  iterate 7 (refine RdW.set ?_ (by omega) _ _)
  exact D3.rd
set_option maxRecDepth 20000 in
set_option maxHeartbeats 4000000 in
theorem spoilBox_1 (B : Nat) (R : Rdr) (p : Nat) (s : Bx) (w : World) (h : RdAt w B R p) (hp : p ≤ 999999000) (hm : pickV R p 6 = 1) :
    Calls Try.prog 99 #[.pointer (some ⟨B, 0, none⟩), s.val] w fun e w' => ∃ (s : Bx) (p' : Nat), e = .returned s.val ∧ p' ≤ p + 2 ∧ RdW w w' B R p' := by
  have hB := lt_of_block h.blk
  obtain ⟨sx, sy, slo, shi, sin, sout⟩ := s
  have HM : Hid (pickV R p 6 = 1) := hm
  clear hm
  have D0 : BxD w ((w.alloc (.cells #[.int .i64 sx, .int .i64 sy, .int .i64 slo, .int .i64 shi, .int .i64 sin, .int .i64 sout] 59)).alloc (.cells #[.int .i64 0, .int .i64 0, .int .i64 0, .int .i64 0, .int .i64 0, .int .i64 0] 59)) B R p w.heap.size (w.heap.size + 1) ⟨sx, sy, slo, shi, sin, sout⟩ :=
    ⟨((RdW.refl h).alloc _).alloc _, by omega, by omega, by omega, (Below.heap_alloc _ _ _ (by simp)).trans (heap_alloc_new w _), by have := heap_alloc_new (w.alloc (.cells #[.int .i64 sx, .int .i64 sy, .int .i64 slo, .int .i64 shi, .int .i64 sin, .int .i64 sout] 59)) (.cells #[.int .i64 0, .int .i64 0, .int .i64 0, .int .i64 0, .int .i64 0, .int .i64 0] 59); simpa using this⟩
  go_enter Try.func99, Try.ntmps99
  go_wp2_with fail
  refine (pick_any B R p 6 _ D0.rd.rd (by omega)).mono ?_
  rintro e w1 ⟨rfl, r1, g1, s1⟩
  have D1 := D0.more r1 g1
  clear r1 g1 s1 D0
  rw [HM.out]
  go_wp2_with fail
  have N1 := heap_alloc_new w1 (.cells #[.int .i64 (-1), .int .i64 (16)] 3)
  have D2 := D1.alloc (.cells #[.int .i64 (-1), .int .i64 (16)] 3)
  have hN : w1.heap.size ≠ B := by have := D1.rd.lt; have := D1.rd.size; omega
  refine (pick_any B R (p + 1) 2 _ D2.rd.rd (by omega)).mono ?_
  rintro e w2 ⟨rfl, r2, g2, s2⟩
  have D3 := D2.more r2 g2
  have N2 := D2.rd.keep N1 hN g2
  obtain ⟨z0', z1'⟩ := pickV_range (n := 2) h.rng (show p + 1 ≤ 1000000000 by omega) (by omega)
  generalize pickV R (p + 1) 2 = zi at *
  obtain ⟨zn, rfl⟩ := Int.eq_ofNat_of_zero_le z0'
  obtain ⟨z, hz⟩ : ∃ z, w2.cell? ⟨w1.heap.size, zn, none⟩ = some (Value.int .i64 z) := by
    rw [cell_of_row w2 w1.heap.size zn _ _ _ N2]
    have h3 : zn = 0 ∨ zn = 1 := by omega
    rcases h3 with rfl | rfl <;> exact ⟨_, rfl⟩
  have hzn : (zn : Int) < 2 := z1'
  have hzp : (0 : Int) ≤ (zn : Int) := by omega
  clear r2 g2 s2 D1 D2 N1 N2 z0' z1'
  obtain ⟨k0, k1, k2, k3, k4, k5, kf⟩ := blk6 D3.bx
  obtain ⟨m0, m1, m2, m3, m4, m5, mf⟩ := blk6 D3.rs
  have hne := D3.ne
  go_wp2
  refine bodyPost_ret (v := (Bx.mk (sx) (z) (slo) (shi) (sin) (sout)).val) (by simp [results, Try.results99, go_sem, *]) rfl ⟨⟨sx, z, slo, shi, sin, sout⟩, p + 2, rfl, Nat.le_refl _, ?_⟩
  iterate 7 (refine RdW.set ?_ (by omega) _ _)
  exact D3.rd
set_option maxRecDepth 20000 in
set_option maxHeartbeats 4000000 in
theorem spoilBox_3 (B : Nat) (R : Rdr) (p : Nat) (s : Bx) (w : World) (h : RdAt w B R p) (hp : p ≤ 999999000) (hm : pickV R p 6 = 3) :
    Calls Try.prog 99 #[.pointer (some ⟨B, 0, none⟩), s.val] w fun e w' => ∃ (s : Bx) (p' : Nat), e = .returned s.val ∧ p' ≤ p + 2 ∧ RdW w w' B R p' := by
  have hB := lt_of_block h.blk
  obtain ⟨sx, sy, slo, shi, sin, sout⟩ := s
  have HM : Hid (pickV R p 6 = 3) := hm
  clear hm
  have D0 : BxD w ((w.alloc (.cells #[.int .i64 sx, .int .i64 sy, .int .i64 slo, .int .i64 shi, .int .i64 sin, .int .i64 sout] 59)).alloc (.cells #[.int .i64 0, .int .i64 0, .int .i64 0, .int .i64 0, .int .i64 0, .int .i64 0] 59)) B R p w.heap.size (w.heap.size + 1) ⟨sx, sy, slo, shi, sin, sout⟩ :=
    ⟨((RdW.refl h).alloc _).alloc _, by omega, by omega, by omega, (Below.heap_alloc _ _ _ (by simp)).trans (heap_alloc_new w _), by have := heap_alloc_new (w.alloc (.cells #[.int .i64 sx, .int .i64 sy, .int .i64 slo, .int .i64 shi, .int .i64 sin, .int .i64 sout] 59)) (.cells #[.int .i64 0, .int .i64 0, .int .i64 0, .int .i64 0, .int .i64 0, .int .i64 0] 59); simpa using this⟩
  go_enter Try.func99, Try.ntmps99
  go_wp2_with fail
  refine (pick_any B R p 6 _ D0.rd.rd (by omega)).mono ?_
  rintro e w1 ⟨rfl, r1, g1, s1⟩
  have D1 := D0.more r1 g1
  clear r1 g1 s1 D0
  rw [HM.out]
  go_wp2_with fail
  have N1 := heap_alloc_new w1 (.cells #[.int .i64 (6), .int .i64 (7)] 3)
  have D2 := D1.alloc (.cells #[.int .i64 (6), .int .i64 (7)] 3)
  have hN : w1.heap.size ≠ B := by have := D1.rd.lt; have := D1.rd.size; omega
  refine (pick_any B R (p + 1) 2 _ D2.rd.rd (by omega)).mono ?_
  rintro e w2 ⟨rfl, r2, g2, s2⟩
  have D3 := D2.more r2 g2
  have N2 := D2.rd.keep N1 hN g2
  obtain ⟨z0', z1'⟩ := pickV_range (n := 2) h.rng (show p + 1 ≤ 1000000000 by omega) (by omega)
  generalize pickV R (p + 1) 2 = zi at *
  obtain ⟨zn, rfl⟩ := Int.eq_ofNat_of_zero_le z0'
  obtain ⟨z, hz⟩ : ∃ z, w2.cell? ⟨w1.heap.size, zn, none⟩ = some (Value.int .i64 z) := by
    rw [cell_of_row w2 w1.heap.size zn _ _ _ N2]
    have h3 : zn = 0 ∨ zn = 1 := by omega
    rcases h3 with rfl | rfl <;> exact ⟨_, rfl⟩
  have hzn : (zn : Int) < 2 := z1'
  have hzp : (0 : Int) ≤ (zn : Int) := by omega
  clear r2 g2 s2 D1 D2 N1 N2 z0' z1'
  obtain ⟨k0, k1, k2, k3, k4, k5, kf⟩ := blk6 D3.bx
  obtain ⟨m0, m1, m2, m3, m4, m5, mf⟩ := blk6 D3.rs
  have hne := D3.ne
  go_wp2
  refine bodyPost_ret (v := (Bx.mk (sx) (sy) (slo) (z) (sin) (sout)).val) (by simp [results, Try.results99, go_sem, *]) rfl ⟨⟨sx, sy, slo, z, sin, sout⟩, p + 2, rfl, Nat.le_refl _, ?_⟩
  iterate 7 (refine RdW.set ?_ (by omega) _ _)
  exact D3.rd
set_option maxRecDepth 20000 in
set_option maxHeartbeats 4000000 in
theorem spoilBox_5 (B : Nat) (R : Rdr) (p : Nat) (s : Bx) (w : World) (h : RdAt w B R p) (hp : p ≤ 999999000) (hm : ¬ (pickV R p 6 = 0 ∨ pickV R p 6 = 1 ∨ pickV R p 6 = 2 ∨ pickV R p 6 = 3 ∨ pickV R p 6 = 4)) :
    Calls Try.prog 99 #[.pointer (some ⟨B, 0, none⟩), s.val] w fun e w' => ∃ (s : Bx) (p' : Nat), e = .returned s.val ∧ p' ≤ p + 2 ∧ RdW w w' B R p' := by
  have hB := lt_of_block h.blk
  obtain ⟨sx, sy, slo, shi, sin, sout⟩ := s
  have HM : Hid (¬ (pickV R p 6 = 0 ∨ pickV R p 6 = 1 ∨ pickV R p 6 = 2 ∨ pickV R p 6 = 3 ∨ pickV R p 6 = 4)) := hm
  clear hm
  have D0 : BxD w ((w.alloc (.cells #[.int .i64 sx, .int .i64 sy, .int .i64 slo, .int .i64 shi, .int .i64 sin, .int .i64 sout] 59)).alloc (.cells #[.int .i64 0, .int .i64 0, .int .i64 0, .int .i64 0, .int .i64 0, .int .i64 0] 59)) B R p w.heap.size (w.heap.size + 1) ⟨sx, sy, slo, shi, sin, sout⟩ :=
    ⟨((RdW.refl h).alloc _).alloc _, by omega, by omega, by omega, (Below.heap_alloc _ _ _ (by simp)).trans (heap_alloc_new w _), by have := heap_alloc_new (w.alloc (.cells #[.int .i64 sx, .int .i64 sy, .int .i64 slo, .int .i64 shi, .int .i64 sin, .int .i64 sout] 59)) (.cells #[.int .i64 0, .int .i64 0, .int .i64 0, .int .i64 0, .int .i64 0, .int .i64 0] 59); simpa using this⟩
  go_enter Try.func99, Try.ntmps99
  go_wp2_with fail
  refine (pick_any B R p 6 _ D0.rd.rd (by omega)).mono ?_
  rintro e w1 ⟨rfl, r1, g1, s1⟩
  have D1 := D0.more r1 g1
  clear r1 g1 s1 D0
  generalize pickV R p 6 = z0 at *
  have e0 : (z0 == 0) = false := beq_eq_false_iff_ne.2 (by have := HM.out; omega)
  have e1 : (z0 == 1) = false := beq_eq_false_iff_ne.2 (by have := HM.out; omega)
  have e2 : (z0 == 2) = false := beq_eq_false_iff_ne.2 (by have := HM.out; omega)
  have e3 : (z0 == 3) = false := beq_eq_false_iff_ne.2 (by have := HM.out; omega)
  have e4 : (z0 == 4) = false := beq_eq_false_iff_ne.2 (by have := HM.out; omega)
  go_wp2_with fail
  have N1 := heap_alloc_new w1 (.cells #[.int .i64 (10000), .int .i64 (10001)] 3)
  have D2 := D1.alloc (.cells #[.int .i64 (10000), .int .i64 (10001)] 3)
  have hN : w1.heap.size ≠ B := by have := D1.rd.lt; have := D1.rd.size; omega
  refine (pick_any B R (p + 1) 2 _ D2.rd.rd (by omega)).mono ?_
  rintro e w2 ⟨rfl, r2, g2, s2⟩
  have D3 := D2.more r2 g2
  have N2 := D2.rd.keep N1 hN g2
  obtain ⟨z0', z1'⟩ := pickV_range (n := 2) h.rng (show p + 1 ≤ 1000000000 by omega) (by omega)
  generalize pickV R (p + 1) 2 = zi at *
  obtain ⟨zn, rfl⟩ := Int.eq_ofNat_of_zero_le z0'
  obtain ⟨z, hz⟩ : ∃ z, w2.cell? ⟨w1.heap.size, zn, none⟩ = some (Value.int .i64 z) := by
    rw [cell_of_row w2 w1.heap.size zn _ _ _ N2]
    have h3 : zn = 0 ∨ zn = 1 := by omega
    rcases h3 with rfl | rfl <;> exact ⟨_, rfl⟩
  have hzn : (zn : Int) < 2 := z1'
  have hzp : (0 : Int) ≤ (zn : Int) := by omega
  clear r2 g2 s2 D1 D2 N1 N2 z0' z1'
  obtain ⟨k0, k1, k2, k3, k4, k5, kf⟩ := blk6 D3.bx
  obtain ⟨m0, m1, m2, m3, m4, m5, mf⟩ := blk6 D3.rs
  have hne := D3.ne
  go_wp2
  refine bodyPost_ret (v := (Bx.mk (sx) (sy) (slo) (shi) (sin) (z)).val) (by simp [results, Try.results99, go_sem, *]) rfl ⟨⟨sx, sy, slo, shi, sin, z⟩, p + 2, rfl, Nat.le_refl _, ?_⟩
  iterate 7 (refine RdW.set ?_ (by omega) _ _)
  exact D3.rd
set_option maxRecDepth 20000 in
set_option maxHeartbeats 4000000 in
theorem spoilBox_2 (B : Nat) (R : Rdr) (p : Nat) (s : Bx) (w : World) (h : RdAt w B R p) (hp : p ≤ 999999000) (hm : pickV R p 6 = 2) :
    Calls Try.prog 99 #[.pointer (some ⟨B, 0, none⟩), s.val] w fun e w' => ∃ (s : Bx) (p' : Nat), e = .returned s.val ∧ p' ≤ p + 2 ∧ RdW w w' B R p' := by
  have hB := lt_of_block h.blk
  obtain ⟨sx, sy, slo, shi, sin, sout⟩ := s
  have HM : Hid (pickV R p 6 = 2) := hm
  clear hm
  have D0 : BxD w ((w.alloc (.cells #[.int .i64 sx, .int .i64 sy, .int .i64 slo, .int .i64 shi, .int .i64 sin, .int .i64 sout] 59)).alloc (.cells #[.int .i64 0, .int .i64 0, .int .i64 0, .int .i64 0, .int .i64 0, .int .i64 0] 59)) B R p w.heap.size (w.heap.size + 1) ⟨sx, sy, slo, shi, sin, sout⟩ :=
    ⟨((RdW.refl h).alloc _).alloc _, by omega, by omega, by omega, (Below.heap_alloc _ _ _ (by simp)).trans (heap_alloc_new w _), by have := heap_alloc_new (w.alloc (.cells #[.int .i64 sx, .int .i64 sy, .int .i64 slo, .int .i64 shi, .int .i64 sin, .int .i64 sout] 59)) (.cells #[.int .i64 0, .int .i64 0, .int .i64 0, .int .i64 0, .int .i64 0, .int .i64 0] 59); simpa using this⟩
  go_enter Try.func99, Try.ntmps99
  go_wp2_with fail
  refine (pick_any B R p 6 _ D0.rd.rd (by omega)).mono ?_
  rintro e w1 ⟨rfl, r1, g1, s1⟩
  have D1 := D0.more r1 g1
  clear r1 g1 s1 D0
  rw [HM.out]
  obtain ⟨hXB, hZB, hBZ⟩ := D1.xB
  obtain ⟨k0, k1, k2, k3, k4, k5, kf⟩ := blk6 D1.bx
  go_wp2
  have qn := ClsR.any w1 B
  have q0 : ∀ u : ClsR w1 B, u.it.cell? ⟨w.heap.size, 3, none⟩ = some (.int .i64 shi) := fun u => (ClsR.cell (lt_of_block D1.bx) hXB u 3).trans k3
  refine region_mixes 7 5 11 #[.int .i64 (-1), .int .i64 (wrap64 (shi + 1)), .int .i64 shi] 3 _ _ D1.rd.rd (by kernel_rfl) (by kernel_rfl) (by decide) (by decide) (by decide) rfl rfl rfl rfl (by kernel_rfl) ?_
  refine mx_quiet 5 rfl (by omega) (by omega) ?_
  simp only [List.take_succ_cons, List.take_zero]
  repeat (go_big_quiet_step (fail))
  refine wpQuiet_nil ?_
  simp only [List.drop_succ_cons, List.drop_zero]
  refine mx_build (by decide) rfl 3 (fun W' => by go_simp) ?_
  simp only [Act.put, List.setIfInBounds_toArray, List.set_cons_succ, List.set_cons_zero]
  refine mx_quiet 1 rfl (by omega) (by omega) ?_
  simp only [List.take_succ_cons, List.take_zero]
  repeat (go_big_quiet_step (fail))
  refine wpQuiet_nil ?_
  simp only [List.drop_succ_cons, List.drop_zero]
  refine mx_pick (by omega) (by decide) rfl 3 (fun W' => by go_simp) ?_
  obtain ⟨z0, z1⟩ := pickV_range (n := 3) h.rng (show p + 1 ≤ 1000000000 by omega) (by omega)
  generalize pickV R (p + 1) 3 = zi at *
  obtain ⟨zn, rfl⟩ := Int.eq_ofNat_of_zero_le z0
  obtain ⟨z, hz⟩ : ∃ z, #[.int .i64 (-1), .int .i64 (wrap64 (shi + 1)), .int .i64 shi][zn]? = some (Value.int .i64 z) := by
    have h3 : zn = 0 ∨ zn = 1 ∨ zn = 2 := by omega
    rcases h3 with rfl | rfl | rfl <;> exact ⟨_, rfl⟩
  have qm := ClsN.any w1 B #[.int .i64 (-1), .int .i64 (wrap64 (shi + 1)), .int .i64 shi] 3
  have q5 : ∀ u : ClsN w1 B #[.int .i64 (-1), .int .i64 (wrap64 (shi + 1)), .int .i64 shi] 3, u.it.cell? ⟨w1.heap.size, zn, none⟩ = some (.int .i64 z) := fun u => (ClsN.at_ u zn).trans hz
  clear hz
  simp only [Act.put, List.setIfInBounds_toArray, List.set_cons_succ, List.set_cons_zero]
  refine mx_after 2 rfl (by omega) (by omega) (by kernel_rfl) ?_
  simp only [List.take_succ_cons, List.take_zero]
  repeat (go_big_quiet_step (fail))
  refine wpQuiet_nil ?_
  simp only [List.drop_succ_cons, List.drop_zero]
  refine mx_quiet 1 rfl (by omega) (by omega) ?_
  simp only [List.take_succ_cons, List.take_zero]
  repeat (go_big_quiet_step (fail))
  refine wpQuiet_nil ?_
  refine wpMoves_nil ?_
  intro w3 g3 s3 r3 _
  have D3 := D1.more r3 g3
  clear q0 q5 qm qn k0 k1 k2 k3 k4 k5 kf D1 r3 g3 s3
  refine any_end1 (N := 11) _ rfl (by kernel_rfl) (by kernel_rfl) rfl rfl ?_
  obtain ⟨k0, k1, k2, k3, k4, k5, kf⟩ := blk6 D3.bx
  obtain ⟨m0, m1, m2, m3, m4, m5, mf⟩ := blk6 D3.rs
  have hne := D3.ne
  unfold Oper.wp
  go_simp
  go_wp2
  refine bodyPost_ret (v := (Bx.mk (sx) (sy) (z) (shi) (sin) (sout)).val) (by simp [results, Try.results99, go_sem, *]) rfl ?_
  refine ⟨⟨⟨sx, sy, z, shi, sin, sout⟩, rfl⟩, p + 1 + 1, Nat.le_refl _, ?_⟩
  iterate 7 (refine RdW.set ?_ (by omega) _ _)
  exact D3.rd
set_option maxRecDepth 20000 in
set_option maxHeartbeats 4000000 in
theorem spoilBox_4 (B : Nat) (R : Rdr) (p : Nat) (s : Bx) (w : World) (h : RdAt w B R p) (hp : p ≤ 999999000) (hm : pickV R p 6 = 4) :
    Calls Try.prog 99 #[.pointer (some ⟨B, 0, none⟩), s.val] w fun e w' => ∃ (s : Bx) (p' : Nat), e = .returned s.val ∧ p' ≤ p + 2 ∧ RdW w w' B R p' := by
  have hB := lt_of_block h.blk
  obtain ⟨sx, sy, slo, shi, sin, sout⟩ := s
  have HM : Hid (pickV R p 6 = 4) := hm
  clear hm
  have D0 : BxD w ((w.alloc (.cells #[.int .i64 sx, .int .i64 sy, .int .i64 slo, .int .i64 shi, .int .i64 sin, .int .i64 sout] 59)).alloc (.cells #[.int .i64 0, .int .i64 0, .int .i64 0, .int .i64 0, .int .i64 0, .int .i64 0] 59)) B R p w.heap.size (w.heap.size + 1) ⟨sx, sy, slo, shi, sin, sout⟩ :=
    ⟨((RdW.refl h).alloc _).alloc _, by omega, by omega, by omega, (Below.heap_alloc _ _ _ (by simp)).trans (heap_alloc_new w _), by have := heap_alloc_new (w.alloc (.cells #[.int .i64 sx, .int .i64 sy, .int .i64 slo, .int .i64 shi, .int .i64 sin, .int .i64 sout] 59)) (.cells #[.int .i64 0, .int .i64 0, .int .i64 0, .int .i64 0, .int .i64 0, .int .i64 0] 59); simpa using this⟩
  go_enter Try.func99, Try.ntmps99
  go_wp2_with fail
  refine (pick_any B R p 6 _ D0.rd.rd (by omega)).mono ?_
  rintro e w1 ⟨rfl, r1, g1, s1⟩
  have D1 := D0.more r1 g1
  clear r1 g1 s1 D0
  rw [HM.out]
  obtain ⟨hXB, hZB, hBZ⟩ := D1.xB
  obtain ⟨k0, k1, k2, k3, k4, k5, kf⟩ := blk6 D1.bx
  go_wp2
  have qn := ClsR.any w1 B
  have q0 : ∀ u : ClsR w1 B, u.it.cell? ⟨w.heap.size, 5, none⟩ = some (.int .i64 sout) := fun u => (ClsR.cell (lt_of_block D1.bx) hXB u 5).trans k5
  refine region_mixes 7 5 11 #[.int .i64 (-1), .int .i64 sout, .int .i64 (wrap64 (sout + 1))] 3 _ _ D1.rd.rd (by kernel_rfl) (by kernel_rfl) (by decide) (by decide) (by decide) rfl rfl rfl rfl (by kernel_rfl) ?_
  refine mx_quiet 5 rfl (by omega) (by omega) ?_
  simp only [List.take_succ_cons, List.take_zero]
  repeat (go_big_quiet_step (fail))
  refine wpQuiet_nil ?_
  simp only [List.drop_succ_cons, List.drop_zero]
  refine mx_build (by decide) rfl 3 (fun W' => by go_simp) ?_
  simp only [Act.put, List.setIfInBounds_toArray, List.set_cons_succ, List.set_cons_zero]
  refine mx_quiet 1 rfl (by omega) (by omega) ?_
  simp only [List.take_succ_cons, List.take_zero]
  repeat (go_big_quiet_step (fail))
  refine wpQuiet_nil ?_
  simp only [List.drop_succ_cons, List.drop_zero]
  refine mx_pick (by omega) (by decide) rfl 3 (fun W' => by go_simp) ?_
  obtain ⟨z0, z1⟩ := pickV_range (n := 3) h.rng (show p + 1 ≤ 1000000000 by omega) (by omega)
  generalize pickV R (p + 1) 3 = zi at *
  obtain ⟨zn, rfl⟩ := Int.eq_ofNat_of_zero_le z0
  obtain ⟨z, hz⟩ : ∃ z, #[.int .i64 (-1), .int .i64 sout, .int .i64 (wrap64 (sout + 1))][zn]? = some (Value.int .i64 z) := by
    have h3 : zn = 0 ∨ zn = 1 ∨ zn = 2 := by omega
    rcases h3 with rfl | rfl | rfl <;> exact ⟨_, rfl⟩
  have qm := ClsN.any w1 B #[.int .i64 (-1), .int .i64 sout, .int .i64 (wrap64 (sout + 1))] 3
  have q5 : ∀ u : ClsN w1 B #[.int .i64 (-1), .int .i64 sout, .int .i64 (wrap64 (sout + 1))] 3, u.it.cell? ⟨w1.heap.size, zn, none⟩ = some (.int .i64 z) := fun u => (ClsN.at_ u zn).trans hz
  clear hz
  simp only [Act.put, List.setIfInBounds_toArray, List.set_cons_succ, List.set_cons_zero]
  refine mx_after 2 rfl (by omega) (by omega) (by kernel_rfl) ?_
  simp only [List.take_succ_cons, List.take_zero]
  repeat (go_big_quiet_step (fail))
  refine wpQuiet_nil ?_
  simp only [List.drop_succ_cons, List.drop_zero]
  refine mx_quiet 1 rfl (by omega) (by omega) ?_
  simp only [List.take_succ_cons, List.take_zero]
  repeat (go_big_quiet_step (fail))
  refine wpQuiet_nil ?_
  refine wpMoves_nil ?_
  intro w3 g3 s3 r3 _
  have D3 := D1.more r3 g3
  clear q0 q5 qm qn k0 k1 k2 k3 k4 k5 kf D1 r3 g3 s3
  refine any_end1 (N := 11) _ rfl (by kernel_rfl) (by kernel_rfl) rfl rfl ?_
  obtain ⟨k0, k1, k2, k3, k4, k5, kf⟩ := blk6 D3.bx
  obtain ⟨m0, m1, m2, m3, m4, m5, mf⟩ := blk6 D3.rs
  have hne := D3.ne
  unfold Oper.wp
  go_simp
  go_wp2
  refine bodyPost_ret (v := (Bx.mk (sx) (sy) (slo) (shi) (z) (sout)).val) (by simp [results, Try.results99, go_sem, *]) rfl ?_
  refine ⟨⟨⟨sx, sy, slo, shi, z, sout⟩, rfl⟩, p + 1 + 1, Nat.le_refl _, ?_⟩
  iterate 7 (refine RdW.set ?_ (by omega) _ _)
  exact D3.rd

/-- **l11SpoilBox**: some box; at most two picks. -/
theorem spoilBox_any (B : Nat) (R : Rdr) (p : Nat) (s : Bx) (w : World) (h : RdAt w B R p) (hp : p ≤ 999999000) :
    Calls Try.prog 99 #[.pointer (some ⟨B, 0, none⟩), s.val] w fun e w' => ∃ (s : Bx) (p' : Nat), e = .returned s.val ∧ p' ≤ p + 2 ∧ RdW w w' B R p' := by
  by_cases h0 : pickV R p 6 = 0
  · exact spoilBox_0 B R p s w h hp h0
  by_cases h1 : pickV R p 6 = 1
  · exact spoilBox_1 B R p s w h hp h1
  by_cases h2 : pickV R p 6 = 2
  · exact spoilBox_2 B R p s w h hp h2
  by_cases h3 : pickV R p 6 = 3
  · exact spoilBox_3 B R p s w h hp h3
  by_cases h4 : pickV R p 6 = 4
  · exact spoilBox_4 B R p s w h hp h4
  exact spoilBox_5 B R p s w h hp (by omega)
end Go.Proofs.Ytdjgkghmgjocbaa
