/- What draws, by its contracts: a reader opened, a kind, a cell beside another. -/
import Derived.Test.YtijcdikekgmfoaaGreatDoorPick
import Derived.Test.YtijcdikekgmfoaaGreatDoorSpanSpec
namespace Go.Proofs.YtijcdikekgmfoaaGreatDoor
open Go.RowKit

theorem RdAt.alloc {w : World} {B : Nat} {R : Rdr} {p : Nat} (h : RdAt w B R p) (ob : Obj) : RdAt (w.alloc ob) B R p :=
  h.below (k := w.heap.size) ((Below.refl _ _).alloc (Nat.le_refl _) ob) (lt_of_block h.blk)

def lessV (a b : Int) : Int := if a < b then 0 else wrap64 (a - b)
theorem less_any (a b : Int) (w : World) : Calls Tryz.prog 111 #[.int .i64 a, .int .i64 b] w fun e w' => e = .returned (.int .i64 (lessV a b)) ∧ w' = w := by
  by_cases h : a < b
  · have HE : Hid (lessV a b = 0) := by show _ = _; unfold lessV; rw [if_pos h]
    go_enter Tryz.func111, Tryz.ntmps111
    go_wp2
    go_ret
    exact ⟨by rw [HE.out]; rfl, rfl⟩
  · have HE : Hid (lessV a b = wrap64 (a - b)) := by show _ = _; unfold lessV; rw [if_neg h]
    go_enter Tryz.func111, Tryz.ntmps111
    go_wp2
    go_ret
    exact ⟨by rw [HE.out]; rfl, rfl⟩

/-- The reader, p bytes on, in a world in which all that lay in w, but the reader, lies as it lay. -/
structure RdW (w w' : World) (B : Nat) (R : Rdr) (p : Nat) : Prop where
  lt : B < w.heap.size
  rd : RdAt w' B R p
  gr : w.grownBy w' (some B)
section
variable {w w' w'' : World} {B : Nat} {R : Rdr} {p : Nat}
theorem RdW.refl (h : RdAt w B R p) : RdW w w B R p := ⟨lt_of_block h.blk, h, grown_refl _ _⟩
theorem RdW.size (h : RdW w w' B R p) : w.heap.size ≤ w'.heap.size := h.gr.size
theorem RdW.set (h : RdW w w' B R p) {k : Nat} (hk : w.heap.size ≤ k) (j : Nat) (v : Value) : RdW w (w'.setCell ⟨k, j, none⟩ v) B R p := by
  have := h.lt
  refine ⟨h.lt, h.rd.grown (grown_set w' ⟨k, j, none⟩ v) (by simp; omega) (fun i e => by cases e; show B ≤ k; omega), ⟨h.gr.os, h.gr.tape, h.gr.output, by simpa [World.setCell] using h.gr.size, fun i hi hne => ?_⟩⟩
  exact (heap_setCell_other w' ⟨k, j, none⟩ i v (by show i ≠ k; omega)).trans (h.gr.block i hi hne)
theorem RdW.grown (h : RdW w w' B R p) {row : Option Nat} (hg : w'.grownBy w'' row) (hr : ∀ k, row = some k → w.heap.size ≤ k) : RdW w w'' B R p := by
  have hl := h.lt
  have hs := h.gr.size
  refine ⟨h.lt, h.rd.grown hg (fun e => by have := hr _ e; omega) (fun k e => by have := hr _ e; omega), ⟨hg.os.trans h.gr.os, hg.tape.trans h.gr.tape, hg.output.trans h.gr.output, Nat.le_trans hs hg.size, fun i hi hne => ?_⟩⟩
  exact (hg.block i (by omega) (fun e => by have := hr i e.symm; omega)).trans (h.gr.block i hi hne)
theorem RdW.below (h : RdW w w' B R p) (hb : Below w'.heap.size w' w'') : RdW w w'' B R p :=
  h.grown (row := none) ⟨hb.os, hb.tape, hb.output, hb.size, fun k hk _ => hb.block k hk⟩ (fun k e => by cases e)
theorem RdW.alloc (h : RdW w w' B R p) (ob : Obj) : RdW w (w'.alloc ob) B R p := h.below ((Below.refl _ _).alloc (Nat.le_refl _) ob)
theorem RdW.drew (h : RdW w w' B R p) : RdW w w'.drew B R p := h.below (Below.refl _ _).drew
theorem RdW.more (h : RdW w w' B R p) {p' : Nat} (hr : RdAt w'' B R p') (hg : w'.grownBy w'' (some B)) : RdW w w'' B R p' := ⟨h.lt, hr, grown_over2 h.gr hg⟩
theorem RdW.keep (_h : RdW w w' B R p) {w0 : World} {b : Nat} {ob : Obj} (hb : w'.heap[b]? = some ob) (hne : b ≠ B) (hg : w'.grownBy w0 (some B)) : w0.heap[b]? = some ob :=
  (hg.block b (lt_of_block hb) (fun e => hne (by cases e; rfl))).trans hb
end

set_option maxRecDepth 20000 in
set_option maxHeartbeats 1000000 in
theorem kind_draw (B : Nat) (R : Rdr) (p : Nat) (w : World) (h : RdAt w B R p) (hp : p ≤ 999999000) :
    Calls Tryz.prog 110 #[.pointer (some ⟨B, 0, none⟩)] w fun e w' => ∃ q s, e = .returned (.agg #[.int .i64 q, .int .i64 s]) ∧ RdW w w' B R (p + 3) := by
  have hB := lt_of_block h.blk
  have R0 := (RdW.refl h).alloc (.cells #[.int .i64 0, .int .i64 0] 24)
  go_enter Tryz.func110, Tryz.ntmps110
  go_wp2_with fail
  refine (pick_any B R p 3 _ R0.rd (by omega)).mono ?_
  rintro e w1 ⟨rfl, r1, g1, s1⟩
  have R1 := R0.more r1 g1
  have z1 : w1.heap.size = w.heap.size + 1 := by rw [s1]; simp
  have b1 := R0.keep (heap_alloc_new w (.cells #[.int .i64 0, .int .i64 0] 24)) (by omega) g1
  clear g1 s1 r1 R0
  generalize pickV R p 3 = n1
  go_wp2
  generalize wrap64 (1 + n1) = x
  have R2 := R1.alloc (.cells #[.int .i64 x, .int .i64 0] 24)
  have bk : (w1.alloc (.cells #[.int .i64 x, .int .i64 0] 24)).heap[w.heap.size + 1]? = some (.cells #[.int .i64 x, .int .i64 0] 24 (0, 0)) := by rw [← z1]; exact heap_alloc_new w1 _
  have bb := (Below.heap_alloc w1 (.cells #[.int .i64 x, .int .i64 0] 24) _ (by omega)).trans b1
  clear b1 z1 R1
  generalize (w1.alloc (.cells #[.int .i64 x, .int .i64 0] 24)) = W at *
  obtain ⟨k0, k1, kf⟩ := blk2 bk
  have q0 : ∀ u : ClsR W B, u.it.cell? ⟨w.heap.size + 1, 0, none⟩ = some (.int .i64 x) := fun u => (ClsR.cell (lt_of_block bk) (by omega) u 0).trans k0
  have qn := ClsR.any W B
  refine region_picks 3 6 _ _ R2.rd (by kernel_rfl) (by kernel_rfl) (by decide) (by decide) rfl rfl rfl (by kernel_rfl) ?_
  refine pc_quiet 3 rfl (by omega) ?_
  simp only [List.take_succ_cons, List.take_zero]
  repeat (go_big_quiet_step (fail))
  refine wpQuiet_nil ?_
  simp only [List.drop_succ_cons, List.drop_zero]
  refine pc_pick (by omega) rfl 4 (fun W' => by go_simp) ?_
  generalize pickV R (p + 1) 4 = n2
  simp only [Act.put, List.setIfInBounds_toArray, List.set_cons_succ, List.set_cons_zero]
  refine pc_quiet 2 rfl (by omega) ?_
  simp only [List.take_succ_cons, List.take_zero]
  repeat (go_big_quiet_step (fail))
  refine wpQuiet_nil ?_
  refine wpMoves_nil ?_
  intro w2 g2 s2 r3
  refine any_end1 (N := 6) _ rfl (by kernel_rfl) (by kernel_rfl) rfl rfl ?_
  have R3 := R2.more r3 g2
  have bk2 := R2.keep bk (by omega) g2
  have bb2 := R2.keep bb (by omega) g2
  clear q0 qn k0 k1 kf bk bb R2 g2 s2 r3
  generalize wrap64 (x + n2) = y
  obtain ⟨k0, k1, kf⟩ := blk2 bk2
  unfold Oper.wp
  go_simp
  have R4 := R3.set (show w.heap.size ≤ w.heap.size + 1 by omega) 1 (.int .i64 y)
  have bk3 := blk2_set1 bk2 (.int .i64 y)
  have bb3 := (heap_setCell_other w2 ⟨w.heap.size + 1, 1, none⟩ w.heap.size (.int .i64 y) (by simp)).trans bb2
  generalize w2.setCell ⟨w.heap.size + 1, 1, none⟩ (.int .i64 y) = w3 at *
  clear k0 k1 kf bk2 bb2 R3
  go_wp2_with fail
  refine (pick_any B R (p + 2) 16 _ R4.rd (by omega)).mono ?_
  rintro e w4 ⟨rfl, r5, g5, s5⟩
  have R5 := R4.more r5 g5
  have bk5 := R4.keep bk3 (by omega) g5
  have bb5 := R4.keep bb3 (by omega) g5
  clear bk3 bb3 R4 g5 s5 r5
  generalize pickV R (p + 2) 16 = n3
  obtain ⟨k0, k1, kf⟩ := blk2 bk5
  obtain ⟨m0, m1, mf⟩ := blk2 bb5
  by_cases h0 : n3 = 0
  · subst h0
    go_wp2
    refine bodyPost_ret (v := .agg #[.int .i64 x, .int .i64 50]) (by simp [results, Tryz.results110, go_sem, *]) rfl ⟨x, 50, rfl, ?_⟩
    exact ((R5.set (by omega) 1 _).set (Nat.le_refl _) 0 _).set (Nat.le_refl _) 1 _
  · have h1 : (n3 == 0) = false := beq_eq_false_iff_ne.2 h0
    go_wp2
    refine bodyPost_ret (v := .agg #[.int .i64 x, .int .i64 y]) (by simp [results, Tryz.results110, go_sem, *]) rfl ⟨x, y, rfl, ?_⟩
    exact (R5.set (Nat.le_refl _) 0 _).set (Nat.le_refl _) 1 _

set_option maxRecDepth 20000 in
set_option maxHeartbeats 1000000 in
theorem step_draw (B : Nat) (R : Rdr) (p : Nat) (x y : Int) (w : World) (h : RdAt w B R p) (hp : p ≤ 999999000) :
    Calls Tryz.prog 109 #[.pointer (some ⟨B, 0, none⟩), .int .i64 x, .int .i64 y] w fun e w' => ∃ c d p', e = .returned (.tuple #[.int .i64 c, .int .i64 d]) ∧ p' ≤ p + 40 ∧ RdW w w' B R p' := by
  have hB := lt_of_block h.blk
  go_enter Tryz.func109, Tryz.ntmps109
  go_wp2
  go_loopw [8] (fun u wr => ∃ k p' : Nat, k ≤ 20 ∧ u = .int .i64 k ∧ p' ≤ p + 2 * k ∧ RdW w wr B R p') (fun u _ => 20 - (intOf u).toNat)
  case atStart => exact ⟨0, p, by omega, rfl, by omega, RdW.refl h⟩
  case round =>
    obtain ⟨k, p', hk, rfl, hp', R1⟩ := hrel
    by_cases hlt : k < 20
    · have k0 : (0 : Int) ≤ (k : Int) := by omega
      have k1 : (k : Int) < 20 := by omega
      go_wp2_with fail
      refine (pick_any B R p' 3 _ R1.rd (by omega)).mono ?_
      rintro e w2 ⟨rfl, r2, g2, s2⟩
      have R2 := R1.more r2 g2
      clear r2 g2 s2
      generalize pickV R p' 3 = n1
      go_wp2_with fail
      generalize wrap64 (wrap64 (x + n1) - 1) = c
      refine (pick_any B R (p' + 1) 3 _ R2.rd (by omega)).mono ?_
      rintro e w3 ⟨rfl, r3, g3, s3⟩
      have R3 := R2.more r3 g3
      clear r3 g3 s3 R1 R2
      generalize pickV R (p' + 1) 3 = n2
      have HR : Hid (RdW w w3 B R (p' + 2)) := R3
      by_cases e1 : c = x
      · subst e1
        have f1 : (c != c) = false := by simp
        by_cases e2 : wrap64 (wrap64 (y + n2) - 1) = y
        · have f2 : (wrap64 (wrap64 (y + n2) - 1) != y) = false := by simp [e2]
          clear e2
          go_wp2
          go_roundw
          case rel => exact ⟨k + 1, p' + 2, by omega, rfl, by omega, HR.out⟩
          case measure => simp [intOf]; omega
        · have f2 : (wrap64 (wrap64 (y + n2) - 1) != y) = true := by simp [e2]
          clear e2
          go_wp2_with fail
          refine (in_any c 0 15 _).mono ?_
          rintro e wx ⟨rfl, rfl⟩
          cases h3 : inB c 0 15 with
          | false =>
            go_wp2
            go_roundw
            case rel => exact ⟨k + 1, p' + 2, by omega, rfl, by omega, HR.out⟩
            case measure => simp [intOf]; omega
          | true =>
            go_wp2_with fail
            refine (in_any _ 0 15 _).mono ?_
            rintro e wx ⟨rfl, rfl⟩
            cases h4 : inB (wrap64 (wrap64 (y + n2) - 1)) 0 15 with
            | false =>
              go_wp2
              go_roundw
              case rel => exact ⟨k + 1, p' + 2, by omega, rfl, by omega, HR.out⟩
              case measure => simp [intOf]; omega
            | true =>
              go_wp2
              go_ret2
              exact ⟨_, _, p' + 2, rfl, by omega, HR.out⟩
      · have f1 : (c != x) = true := by simp [e1]
        go_wp2_with fail
        refine (in_any c 0 15 _).mono ?_
        rintro e wx ⟨rfl, rfl⟩
        cases h3 : inB c 0 15 with
        | false =>
          go_wp2
          go_roundw
          case rel => exact ⟨k + 1, p' + 2, by omega, rfl, by omega, HR.out⟩
          case measure => simp [intOf]; omega
        | true =>
          go_wp2_with fail
          refine (in_any _ 0 15 _).mono ?_
          rintro e wx ⟨rfl, rfl⟩
          cases h4 : inB (wrap64 (wrap64 (y + n2) - 1)) 0 15 with
          | false =>
            go_wp2
            go_roundw
            case rel => exact ⟨k + 1, p' + 2, by omega, rfl, by omega, HR.out⟩
            case measure => simp [intOf]; omega
          | true =>
            go_wp2
            go_ret2
            exact ⟨_, _, p' + 2, rfl, by omega, HR.out⟩
    · have hk20 : k = 20 := by omega
      subst hk20
      by_cases hx : 0 < x
      · go_wp2
        go_ret2
        exact ⟨_, _, p', rfl, by omega, R1⟩
      · go_wp2
        go_ret2
        exact ⟨⟨_, _, rfl⟩, p', by omega, R1⟩
end Go.Proofs.YtijcdikekgmfoaaGreatDoor
