/- The program's small functions on spans, by their contracts. -/
import Derived.Test.YtijcdikekgmfoaaGreatDoorRows
import Derived.Test.YtijcdikekgmfoaaGreatDoorSpanData
import Derived.Test.YtijcdikekgmfoaaGreatDoorCls
import Derived.WalkKit
import Derived.WalkSpells
import Derived.Deep.RegionHeld3
namespace Go.Proofs.YtijcdikekgmfoaaGreatDoor
open Go.RowKit

theorem mx_hi {a c : Int} (h : a < c) : mxB a c = c := by unfold mxB; rw [if_neg (by omega)]
theorem mx_lo {a c : Int} (h : c ≤ a) : mxB a c = a := by unfold mxB; split <;> omega
theorem mn_hi {b d : Int} (h : d < b) : mnB b d = d := by unfold mnB; rw [if_neg (by omega)]
theorem mn_lo {b d : Int} (h : b ≤ d) : mnB b d = b := by unfold mnB; split <;> omega
theorem three_bel {w : World} (c1 c2 c3 : Obj) : Below w.heap.size w (((w.alloc c1).alloc c2).alloc c3) := (((Below.refl w.heap.size w).alloc (Nat.le_refl _) _).alloc (by simp) _).alloc (by simp; omega) _

theorem meet_any (a b c d : Int) (w : World) :
    Calls Tryz.prog 97 #[.agg #[.int .i64 a, .int .i64 b], .agg #[.int .i64 c, .int .i64 d]] w fun e w' => e = .returned (.agg #[.int .i64 (mxB a c), .int .i64 (mnB b d)]) ∧ Below w.heap.size w w' := by
  go_enter Tryz.func97, Tryz.ntmps97
  go_wp2
  all_goals rename_i h1
  · rw [mx_hi h1, mn_hi h]
    exact bodyPost_ret (v := .agg #[.int .i64 c, .int .i64 d]) (by simp [results, Tryz.results97, go_sem]) rfl ⟨rfl, three_bel _ _ _⟩
  · rw [mx_hi h1, mn_lo h]
    exact bodyPost_ret (v := .agg #[.int .i64 c, .int .i64 b]) (by simp [results, Tryz.results97, go_sem]) rfl ⟨rfl, three_bel _ _ _⟩
  · rw [mx_lo h1, mn_hi h]
    exact bodyPost_ret (v := .agg #[.int .i64 a, .int .i64 d]) (by simp [results, Tryz.results97, go_sem]) rfl ⟨rfl, three_bel _ _ _⟩
  · rw [mx_lo h1, mn_lo h]
    exact bodyPost_ret (v := .agg #[.int .i64 a, .int .i64 b]) (by simp [results, Tryz.results97, go_sem]) rfl ⟨rfl, three_bel _ _ _⟩

set_option maxHeartbeats 2000000 in
set_option maxRecDepth 20000 in
theorem tightL_any (a b c d e f : Int) (w : World) (ha : -100000 ≤ a ∧ a ≤ 100000) (hb : -100000 ≤ b ∧ b ≤ 100000) (he : -100000 ≤ e ∧ e ≤ 100000) (hf : -100000 ≤ f ∧ f ≤ 100000) :
    Calls Tryz.prog 46 #[.agg #[.int .i64 a, .int .i64 b], .agg #[.int .i64 c, .int .i64 d], .agg #[.int .i64 e, .int .i64 f]] w
      fun x w' => x = .returned (.tuple #[.agg #[.int .i64 a, .int .i64 b], .agg #[.int .i64 (mxB c (a + e)), .int .i64 (mnB d (b + f))]]) ∧ Below w.heap.size w w' := by
  obtain ⟨a0, a1⟩ := ha
  obtain ⟨b0, b1⟩ := hb
  obtain ⟨e0, e1⟩ := he
  obtain ⟨f0, f1⟩ := hf
  have w0 : IntKind.i64.wrap (a + e) = a + e := by rw [IntKind.wrap_i64]; omega
  have w2 : IntKind.i64.wrap (b + f) = b + f := by rw [IntKind.wrap_i64]; omega
  go_enter Tryz.func46, Tryz.ntmps46
  go_wp2
  go_region_held3 (fun w' => w'.cell? ⟨w.heap.size, 0, none⟩ = some (.int .i64 a) ∧ w'.cell? ⟨w.heap.size, 1, none⟩ = some (.int .i64 b) ∧ w'.cell? ⟨w.heap.size + 1, 0, none⟩ = some (.int .i64 c) ∧ w'.cell? ⟨w.heap.size + 1, 1, none⟩ = some (.int .i64 d) ∧ w'.cell? ⟨w.heap.size + 1 + 1, 0, none⟩ = some (.int .i64 e) ∧ w'.cell? ⟨w.heap.size + 1 + 1, 1, none⟩ = some (.int .i64 f))
    (simp [go_sem, *])
    (first | (go_at_call 97; refine (meet_any _ _ _ _ _).mono ?_; rintro x w1 ⟨rfl, hb1⟩; obtain ⟨hc1, hf1⟩ := old_cells hb1; have r0 : w1.cell? ⟨w.heap.size + 1 + 1 + 1, 0, none⟩ = some (.int .i64 0) := (by rw [hc1 _ _ (by simp)]; simp [go_sem]); have r1 : w1.cell? ⟨w.heap.size + 1 + 1 + 1, 1, none⟩ = some (.int .i64 0) := (by rw [hc1 _ _ (by simp)]; simp [go_sem]); have r2 : w1.cell? ⟨w.heap.size + 1 + 1 + 1 + 1, 0, none⟩ = some (.int .i64 0) := (by rw [hc1 _ _ (by simp)]; simp [go_sem]); have r3 : w1.cell? ⟨w.heap.size + 1 + 1 + 1 + 1, 1, none⟩ = some (.int .i64 0) := (by rw [hc1 _ _ (by simp)]; simp [go_sem]); have r4 : ∀ j, w1.frozen? ⟨w.heap.size + 1 + 1 + 1, j, none⟩ = false := (by intro j; rw [hf1 _ _ (by simp)]; simp [go_sem]); have r5 : ∀ j, w1.frozen? ⟨w.heap.size + 1 + 1 + 1 + 1, j, none⟩ = false := (by intro j; rw [hf1 _ _ (by simp)]; simp [go_sem])))
  have hb01 : Below w.heap.size w w1 := (((three_bel _ _ _).alloc (by simp; omega) _).alloc (by simp; omega) _).drew.trans (hb1.mono (by simp [World.drew]; omega))
  clear hb1 hc1 hf1
  go_wp2
  refine bodyPost_ret (v := .tuple #[.agg #[.int .i64 a, .int .i64 b], .agg #[.int .i64 (mxB c (a + e)), .int .i64 (mnB d (b + f))]]) (by simp [results, Tryz.results46, go_sem, *]) rfl ⟨rfl, ?_⟩
  iterate 4 (refine Below.setCell ?_ (by simp; omega) _)
  exact hb01
set_option maxHeartbeats 2000000 in
set_option maxRecDepth 20000 in
theorem tightE_any (a b c d e f : Int) (w : World) (hc : -100000 ≤ c ∧ c ≤ 100000) (hd : -100000 ≤ d ∧ d ≤ 100000) (he : -100000 ≤ e ∧ e ≤ 100000) (hf : -100000 ≤ f ∧ f ≤ 100000) :
    Calls Tryz.prog 48 #[.agg #[.int .i64 a, .int .i64 b], .agg #[.int .i64 c, .int .i64 d], .agg #[.int .i64 e, .int .i64 f]] w
      fun x w' => x = .returned (.tuple #[.agg #[.int .i64 (mxB a (c - f)), .int .i64 (mnB b (d - e))], .agg #[.int .i64 c, .int .i64 d]]) ∧ Below w.heap.size w w' := by
  obtain ⟨c0, c1⟩ := hc
  obtain ⟨d0, d1⟩ := hd
  obtain ⟨e0, e1⟩ := he
  obtain ⟨f0, f1⟩ := hf
  have w0 : IntKind.i64.wrap (c - f) = c - f := by rw [IntKind.wrap_i64]; omega
  have w2 : IntKind.i64.wrap (d - e) = d - e := by rw [IntKind.wrap_i64]; omega
  go_enter Tryz.func48, Tryz.ntmps48
  go_wp2
  go_region_held3 (fun w' => w'.cell? ⟨w.heap.size, 0, none⟩ = some (.int .i64 a) ∧ w'.cell? ⟨w.heap.size, 1, none⟩ = some (.int .i64 b) ∧ w'.cell? ⟨w.heap.size + 1, 0, none⟩ = some (.int .i64 c) ∧ w'.cell? ⟨w.heap.size + 1, 1, none⟩ = some (.int .i64 d) ∧ w'.cell? ⟨w.heap.size + 1 + 1, 0, none⟩ = some (.int .i64 e) ∧ w'.cell? ⟨w.heap.size + 1 + 1, 1, none⟩ = some (.int .i64 f))
    (simp [go_sem, *])
    (first | (go_at_call 97; refine (meet_any _ _ _ _ _).mono ?_; rintro x w1 ⟨rfl, hb1⟩; obtain ⟨hc1, hf1⟩ := old_cells hb1; have r0 : w1.cell? ⟨w.heap.size + 1 + 1 + 1, 0, none⟩ = some (.int .i64 0) := (by rw [hc1 _ _ (by simp)]; simp [go_sem]); have r1 : w1.cell? ⟨w.heap.size + 1 + 1 + 1, 1, none⟩ = some (.int .i64 0) := (by rw [hc1 _ _ (by simp)]; simp [go_sem]); have r2 : w1.cell? ⟨w.heap.size + 1 + 1 + 1 + 1, 0, none⟩ = some (.int .i64 0) := (by rw [hc1 _ _ (by simp)]; simp [go_sem]); have r3 : w1.cell? ⟨w.heap.size + 1 + 1 + 1 + 1, 1, none⟩ = some (.int .i64 0) := (by rw [hc1 _ _ (by simp)]; simp [go_sem]); have r4 : ∀ j, w1.frozen? ⟨w.heap.size + 1 + 1 + 1, j, none⟩ = false := (by intro j; rw [hf1 _ _ (by simp)]; simp [go_sem]); have r5 : ∀ j, w1.frozen? ⟨w.heap.size + 1 + 1 + 1 + 1, j, none⟩ = false := (by intro j; rw [hf1 _ _ (by simp)]; simp [go_sem])))
  have hb01 : Below w.heap.size w w1 := (((three_bel _ _ _).alloc (by simp; omega) _).alloc (by simp; omega) _).drew.trans (hb1.mono (by simp [World.drew]; omega))
  clear hb1 hc1 hf1
  go_wp2
  refine bodyPost_ret (v := .tuple #[.agg #[.int .i64 (mxB a (c - f)), .int .i64 (mnB b (d - e))], .agg #[.int .i64 c, .int .i64 d]]) (by simp [results, Tryz.results48, go_sem, *]) rfl ⟨rfl, ?_⟩
  iterate 4 (refine Below.setCell ?_ (by simp; omega) _)
  exact hb01
theorem spanNo_any (a b : Int) (w : World) :
    Calls Tryz.prog 95 #[.agg #[.int .i64 a, .int .i64 b]] w fun e w' => e = .returned (.bool (decide (b < a))) ∧ Below w.heap.size w w' := by
  go_enter Tryz.func95, Tryz.ntmps95
  go_wp2
  go_ret
  exact ⟨rfl, (Below.refl _ _).alloc (Nat.le_refl _) _⟩
theorem spanNo_val (a b : Int) (v : Bool) (w : World) (hv : decide (b < a) = v) :
    Calls Tryz.prog 95 #[.agg #[.int .i64 a, .int .i64 b]] w fun e w' => e = .returned (.bool v) ∧ Below w.heap.size w w' := by
  rw [← hv]; exact spanNo_any a b w
end Go.Proofs.YtijcdikekgmfoaaGreatDoor
