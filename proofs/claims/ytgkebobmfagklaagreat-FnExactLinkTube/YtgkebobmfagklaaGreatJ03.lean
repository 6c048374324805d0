/- Joined texts: PbSpan, PbTubeK, PbName, PbTubeS, PbName2, PbImpl, PbTubeI, PbEq, PbTubeE, PbInfo, PbCutS, PbField. -/
import Derived.WalkKit
import Derived.WalkSpells
import Derived.Lib.OthersKept
import Derived.Laws.RangeAny
import Derived.Deep.RegionHeld3
import Derived.Maps.AppendAt
import Derived.Test.YtgkebobmfagklaaGreatRows
import Derived.Test.YtgkebobmfagklaaGreatJ02
import Derived.Test.YtgkebobmfagklaaGreatJ01
namespace Go.Proofs.YtgkebobmfagklaaGreat
open Go.RowKit


theorem ofCell_any (a b : Int) (w : World) :
    Calls Tryz.prog 95 #[.int .i64 a, .int .i64 b] w fun e w' => e = .returned (.agg #[.int .i64 a, .int .i64 b]) ∧ Below w.heap.size w w' := by
  go_enter Tryz.func95, Tryz.ntmps95
  go_wp2
  exact bodyPost_ret (v := .agg #[.int .i64 a, .int .i64 b]) (by simp [results, Tryz.results95, go_sem]) rfl ⟨rfl, bel1 _⟩

theorem upCell_any (b : Int) (w : World) :
    Calls Tryz.prog 85 #[.int .i64 b] w fun e w' => e = .returned (.agg #[.int .i64 0, .int .i64 b]) ∧ Below w.heap.size w w' := by
  go_enter Tryz.func85, Tryz.ntmps85
  go_wp2_with fail
  refine (ofCell_any _ _ _).mono ?_
  rintro e w1 ⟨rfl, hb1⟩
  obtain ⟨hc1, hf1⟩ := old_cells hb1
  have r0 : w1.cell? ⟨w.heap.size, 0, none⟩ = some (.int .i64 0) := by rw [hc1 _ _ (by simp)]; simp [go_sem]
  have r1 : w1.cell? ⟨w.heap.size, 1, none⟩ = some (.int .i64 0) := by rw [hc1 _ _ (by simp)]; simp [go_sem]
  have f0 : ∀ j, w1.frozen? ⟨w.heap.size, j, none⟩ = false := by intro j; rw [hf1 _ _ (by simp)]; simp [go_sem]
  have hb01 : Below w.heap.size w w1 := (bel1 _).trans (hb1.mono (by simp))
  clear hb1 hc1 hf1
  go_wp2
  refine bodyPost_ret (v := .agg #[.int .i64 0, .int .i64 b]) (by simp [results, Tryz.results85, go_sem, *]) rfl ⟨rfl, ?_⟩
  iterate 2 (refine Below.setCell ?_ (by simp) _)
  exact hb01

theorem emptyCell_any (a b : Int) (w : World) :
    Calls Tryz.prog 96 #[.agg #[.int .i64 a, .int .i64 b]] w fun e w' => e = .returned (.bool (decide (b < a))) ∧ Below w.heap.size w w' := by
  go_enter Tryz.func96, Tryz.ntmps96
  go_wp2
  go_ret
  exact ⟨rfl, bel1 _⟩
theorem emptyCell_val (a b : Int) (v : Bool) (w : World) (hv : decide (b < a) = v) :
    Calls Tryz.prog 96 #[.agg #[.int .i64 a, .int .i64 b]] w fun e w' => e = .returned (.bool v) ∧ Below w.heap.size w w' := by
  rw [← hv]; exact emptyCell_any a b w

theorem meetCell_any (a b c d : Int) (w : World) :
    Calls Tryz.prog 97 #[.agg #[.int .i64 a, .int .i64 b], .agg #[.int .i64 c, .int .i64 d]] w fun e w' => e = .returned (.agg #[.int .i64 (max a c), .int .i64 (min b d)]) ∧ Below w.heap.size w w' := by
  rcases (show (a < c ∧ max a c = c) ∨ (¬ a < c ∧ max a c = a) by omega) with ⟨h1, e1⟩ | ⟨h1, e1⟩ <;> rcases (show (d < b ∧ min b d = d) ∨ (¬ d < b ∧ min b d = b) by omega) with ⟨h2, e2⟩ | ⟨h2, e2⟩
  all_goals
    rw [e1, e2]
    clear e1 e2
    go_enter Tryz.func97, Tryz.ntmps97
    go_wp2_with fail
    refine (ofCell_any _ _ _).mono ?_
    rintro e w1 ⟨rfl, hb1⟩
    obtain ⟨hc1, hf1⟩ := old_cells hb1
    have r0 : w1.cell? ⟨w.heap.size + 1 + 1, 0, none⟩ = some (.int .i64 0) := by rw [hc1 _ _ (by simp)]; simp [go_sem]
    have r1 : w1.cell? ⟨w.heap.size + 1 + 1, 1, none⟩ = some (.int .i64 0) := by rw [hc1 _ _ (by simp)]; simp [go_sem]
    have f0 : ∀ j, w1.frozen? ⟨w.heap.size + 1 + 1, j, none⟩ = false := by intro j; rw [hf1 _ _ (by simp)]; simp [go_sem]
    have hb01 : Below w.heap.size w w1 := (bel3 _ _ _).trans (hb1.mono (by simp; omega))
    clear hb1 hc1 hf1
    go_wp2
    refine bodyPost_ret (v := .agg #[.int .i64 _, .int .i64 _]) (by simp [results, Tryz.results97, go_sem, *]) rfl ⟨rfl, ?_⟩
    iterate 2 (refine Below.setCell ?_ (by simp; omega) _)
    exact hb01

theorem numCell_equal (n : Nat) (i j : Int) (w : World) : (Op.equalIn (n + 1) 112 (.int .i64 i) (.int .i64 j)).run Tryz.prog w = .ok (i == j) w := by
  simp [Op.equalIn, run_underlying Tryz.underlying112, Result.andThen]
theorem numCell_part0 (i j : Int) (w : World) : (part 112 #[.int .i64 i, .int .i64 j] 0).run Tryz.prog w = .ok (.int .i64 i) w := by
  simp [part, isAgg, run_underlying Tryz.underlying112, Result.andThen]
theorem numCell_part1 (i j : Int) (w : World) : (part 112 #[.int .i64 i, .int .i64 j] 1).run Tryz.prog w = .ok (.int .i64 j) w := by
  simp [part, isAgg, run_underlying Tryz.underlying112, Result.andThen]
theorem spanCell_equal (w : World) (n : Nat) (i j i' j' : Int) : (Op.equalIn (n + 1 + 1) 114 (.agg #[.int .i64 i, .int .i64 j]) (.agg #[.int .i64 i', .int .i64 j'])).run Tryz.prog w = .ok (decide (i = i' ∧ j = j')) w := by
  rw [Op.equalIn]
  by_cases h1 : i = i'
  · by_cases h2 : j = j'
    · simp [run_underlying Tryz.underlying114, Result.andThen, numCell_equal, numCell_part0, numCell_part1, h1, h2]
    · simp [run_underlying Tryz.underlying114, Result.andThen, numCell_equal, numCell_part0, numCell_part1, h1, h2]
  · simp [run_underlying Tryz.underlying114, Result.andThen, numCell_equal, numCell_part0, h1]
theorem spanCell_eql (w : World) (i j i' j' : Int) : (binOp .eql 114 (.agg #[.int .i64 i, .int .i64 j]) (.agg #[.int .i64 i', .int .i64 j'])).run Tryz.prog w = .ok (.bool (decide (i = i' ∧ j = j'))) w := by
  rw [run_eql_struct, spanCell_equal w 9998]; rfl

set_option maxHeartbeats 1000000 in
theorem liesCell_any (a b c d : Int) (w : World) :
    Calls Tryz.prog 87 #[.agg #[.int .i64 a, .int .i64 b], .agg #[.int .i64 c, .int .i64 d]] w fun e w' => e = .returned (.bool (liesB a b c d)) ∧ Below w.heap.size w w' := by
  by_cases h : b < a
  · have G : Hid (liesB a b c d = false) := lies_none h
    go_enter Tryz.func87, Tryz.ntmps87
    go_wp2
    have q0 := fun (u : Cls ((w.alloc (.cells #[.int .i64 a, .int .i64 b] 114)).alloc (.cells #[.int .i64 c, .int .i64 d] 114))) (o : Nat) => Cls.cell (b := w.heap.size) (by simp; omega) u o
    have qn := Cls.any ((w.alloc (.cells #[.int .i64 a, .int .i64 b] 114)).alloc (.cells #[.int .i64 c, .int .i64 d] 114))
    refine wp_region_cls (by kernel_rfl) (by kernel_rfl) ?_
    repeat (go_big_quiet_step (first | (go_at_call 96; exact Calls.cls_of (emptyCell_val a b true _ (by simpa using h)))))
    refine wpQuiet_nil ?_
    rintro _ ⟨u, rfl⟩
    go_wp2
    go_ret
    exact ⟨by rw [G.out]; rfl, (bel2 _ _).trans (u.same.mono (by simp; omega))⟩
  · have G : Hid ((decide (max a c = a) && decide (min b d = b)) = liesB a b c d) := lies_same h
    have E : ∀ wx : World, (binOp .eql 114 (.agg #[.int .i64 (max a c), .int .i64 (min b d)]) (.agg #[.int .i64 a, .int .i64 b])).run Tryz.prog wx = .ok (.bool (decide (max a c = a ∧ min b d = b))) wx := fun wx => spanCell_eql wx _ _ _ _
    go_enter Tryz.func87, Tryz.ntmps87
    go_wp2
    have q0 := fun (u : Cls ((w.alloc (.cells #[.int .i64 a, .int .i64 b] 114)).alloc (.cells #[.int .i64 c, .int .i64 d] 114))) (o : Nat) => Cls.cell (b := w.heap.size) (by simp; omega) u o
    have q1 := fun (u : Cls ((w.alloc (.cells #[.int .i64 a, .int .i64 b] 114)).alloc (.cells #[.int .i64 c, .int .i64 d] 114))) (o : Nat) => Cls.cell (b := w.heap.size + 1) (by simp) u o
    have qn := Cls.any ((w.alloc (.cells #[.int .i64 a, .int .i64 b] 114)).alloc (.cells #[.int .i64 c, .int .i64 d] 114))
    refine wp_region_cls (by kernel_rfl) (by kernel_rfl) ?_
    repeat (go_big_quiet_step (first | (go_at_call 96; exact Calls.cls_of (emptyCell_val a b false _ (by simpa using h))) | (go_at_call 97; exact Calls.cls_of (meetCell_any a b c d _))))
    refine wpQuiet_nil ?_
    rintro _ ⟨u, rfl⟩
    go_wp2
    go_ret
    exact ⟨by rw [← G.out]; rfl, (bel2 _ _).trans (u.same.mono (by simp; omega))⟩
theorem liesCell_val (a b c d : Int) (v : Bool) (w : World) (hv : liesB a b c d = v) :
    Calls Tryz.prog 87 #[.agg #[.int .i64 a, .int .i64 b], .agg #[.int .i64 c, .int .i64 d]] w fun e w' => e = .returned (.bool v) ∧ Below w.heap.size w w' := by
  rw [← hv]; exact liesCell_any a b c d w

theorem ofLevel_any (a b : Int) (w : World) :
    Calls Tryz.prog 98 #[.int .i64 a, .int .i64 b] w fun e w' => e = .returned (.agg #[.int .i64 a, .int .i64 b]) ∧ Below w.heap.size w w' := by
  go_enter Tryz.func98, Tryz.ntmps98
  go_wp2
  exact bodyPost_ret (v := .agg #[.int .i64 a, .int .i64 b]) (by simp [results, Tryz.results98, go_sem]) rfl ⟨rfl, bel1 _⟩

theorem upLevel_any (b : Int) (w : World) :
    Calls Tryz.prog 91 #[.int .i64 b] w fun e w' => e = .returned (.agg #[.int .i64 0, .int .i64 b]) ∧ Below w.heap.size w w' := by
  go_enter Tryz.func91, Tryz.ntmps91
  go_wp2_with fail
  refine (ofLevel_any _ _ _).mono ?_
  rintro e w1 ⟨rfl, hb1⟩
  obtain ⟨hc1, hf1⟩ := old_cells hb1
  have r0 : w1.cell? ⟨w.heap.size, 0, none⟩ = some (.int .i64 0) := by rw [hc1 _ _ (by simp)]; simp [go_sem]
  have r1 : w1.cell? ⟨w.heap.size, 1, none⟩ = some (.int .i64 0) := by rw [hc1 _ _ (by simp)]; simp [go_sem]
  have f0 : ∀ j, w1.frozen? ⟨w.heap.size, j, none⟩ = false := by intro j; rw [hf1 _ _ (by simp)]; simp [go_sem]
  have hb01 : Below w.heap.size w w1 := (bel1 _).trans (hb1.mono (by simp))
  clear hb1 hc1 hf1
  go_wp2
  refine bodyPost_ret (v := .agg #[.int .i64 0, .int .i64 b]) (by simp [results, Tryz.results91, go_sem, *]) rfl ⟨rfl, ?_⟩
  iterate 2 (refine Below.setCell ?_ (by simp) _)
  exact hb01

theorem emptyLevel_any (a b : Int) (w : World) :
    Calls Tryz.prog 99 #[.agg #[.int .i64 a, .int .i64 b]] w fun e w' => e = .returned (.bool (decide (b < a))) ∧ Below w.heap.size w w' := by
  go_enter Tryz.func99, Tryz.ntmps99
  go_wp2
  go_ret
  exact ⟨rfl, bel1 _⟩
theorem emptyLevel_val (a b : Int) (v : Bool) (w : World) (hv : decide (b < a) = v) :
    Calls Tryz.prog 99 #[.agg #[.int .i64 a, .int .i64 b]] w fun e w' => e = .returned (.bool v) ∧ Below w.heap.size w w' := by
  rw [← hv]; exact emptyLevel_any a b w

theorem meetLevel_any (a b c d : Int) (w : World) :
    Calls Tryz.prog 100 #[.agg #[.int .i64 a, .int .i64 b], .agg #[.int .i64 c, .int .i64 d]] w fun e w' => e = .returned (.agg #[.int .i64 (max a c), .int .i64 (min b d)]) ∧ Below w.heap.size w w' := by
  rcases (show (a < c ∧ max a c = c) ∨ (¬ a < c ∧ max a c = a) by omega) with ⟨h1, e1⟩ | ⟨h1, e1⟩ <;> rcases (show (d < b ∧ min b d = d) ∨ (¬ d < b ∧ min b d = b) by omega) with ⟨h2, e2⟩ | ⟨h2, e2⟩
  all_goals
    rw [e1, e2]
    clear e1 e2
    go_enter Tryz.func100, Tryz.ntmps100
    go_wp2_with fail
    refine (ofLevel_any _ _ _).mono ?_
    rintro e w1 ⟨rfl, hb1⟩
    obtain ⟨hc1, hf1⟩ := old_cells hb1
    have r0 : w1.cell? ⟨w.heap.size + 1 + 1, 0, none⟩ = some (.int .i64 0) := by rw [hc1 _ _ (by simp)]; simp [go_sem]
    have r1 : w1.cell? ⟨w.heap.size + 1 + 1, 1, none⟩ = some (.int .i64 0) := by rw [hc1 _ _ (by simp)]; simp [go_sem]
    have f0 : ∀ j, w1.frozen? ⟨w.heap.size + 1 + 1, j, none⟩ = false := by intro j; rw [hf1 _ _ (by simp)]; simp [go_sem]
    have hb01 : Below w.heap.size w w1 := (bel3 _ _ _).trans (hb1.mono (by simp; omega))
    clear hb1 hc1 hf1
    go_wp2
    refine bodyPost_ret (v := .agg #[.int .i64 _, .int .i64 _]) (by simp [results, Tryz.results100, go_sem, *]) rfl ⟨rfl, ?_⟩
    iterate 2 (refine Below.setCell ?_ (by simp; omega) _)
    exact hb01

theorem numLevel_equal (n : Nat) (i j : Int) (w : World) : (Op.equalIn (n + 1) 118 (.int .i64 i) (.int .i64 j)).run Tryz.prog w = .ok (i == j) w := by
  simp [Op.equalIn, run_underlying Tryz.underlying118, Result.andThen]
theorem numLevel_part0 (i j : Int) (w : World) : (part 118 #[.int .i64 i, .int .i64 j] 0).run Tryz.prog w = .ok (.int .i64 i) w := by
  simp [part, isAgg, run_underlying Tryz.underlying118, Result.andThen]
theorem numLevel_part1 (i j : Int) (w : World) : (part 118 #[.int .i64 i, .int .i64 j] 1).run Tryz.prog w = .ok (.int .i64 j) w := by
  simp [part, isAgg, run_underlying Tryz.underlying118, Result.andThen]
theorem spanLevel_equal (w : World) (n : Nat) (i j i' j' : Int) : (Op.equalIn (n + 1 + 1) 120 (.agg #[.int .i64 i, .int .i64 j]) (.agg #[.int .i64 i', .int .i64 j'])).run Tryz.prog w = .ok (decide (i = i' ∧ j = j')) w := by
  rw [Op.equalIn]
  by_cases h1 : i = i'
  · by_cases h2 : j = j'
    · simp [run_underlying Tryz.underlying120, Result.andThen, numLevel_equal, numLevel_part0, numLevel_part1, h1, h2]
    · simp [run_underlying Tryz.underlying120, Result.andThen, numLevel_equal, numLevel_part0, numLevel_part1, h1, h2]
  · simp [run_underlying Tryz.underlying120, Result.andThen, numLevel_equal, numLevel_part0, h1]
theorem spanLevel_eql (w : World) (i j i' j' : Int) : (binOp .eql 120 (.agg #[.int .i64 i, .int .i64 j]) (.agg #[.int .i64 i', .int .i64 j'])).run Tryz.prog w = .ok (.bool (decide (i = i' ∧ j = j'))) w := by
  rw [run_eql_struct, spanLevel_equal w 9998]; rfl

set_option maxHeartbeats 1000000 in
theorem liesLevel_any (a b c d : Int) (w : World) :
    Calls Tryz.prog 90 #[.agg #[.int .i64 a, .int .i64 b], .agg #[.int .i64 c, .int .i64 d]] w fun e w' => e = .returned (.bool (liesB a b c d)) ∧ Below w.heap.size w w' := by
  by_cases h : b < a
  · have G : Hid (liesB a b c d = false) := lies_none h
    go_enter Tryz.func90, Tryz.ntmps90
    go_wp2
    have q0 := fun (u : Cls ((w.alloc (.cells #[.int .i64 a, .int .i64 b] 120)).alloc (.cells #[.int .i64 c, .int .i64 d] 120))) (o : Nat) => Cls.cell (b := w.heap.size) (by simp; omega) u o
    have qn := Cls.any ((w.alloc (.cells #[.int .i64 a, .int .i64 b] 120)).alloc (.cells #[.int .i64 c, .int .i64 d] 120))
    refine wp_region_cls (by kernel_rfl) (by kernel_rfl) ?_
    repeat (go_big_quiet_step (first | (go_at_call 99; exact Calls.cls_of (emptyLevel_val a b true _ (by simpa using h)))))
    refine wpQuiet_nil ?_
    rintro _ ⟨u, rfl⟩
    go_wp2
    go_ret
    exact ⟨by rw [G.out]; rfl, (bel2 _ _).trans (u.same.mono (by simp; omega))⟩
  · have G : Hid ((decide (max a c = a) && decide (min b d = b)) = liesB a b c d) := lies_same h
    have E : ∀ wx : World, (binOp .eql 120 (.agg #[.int .i64 (max a c), .int .i64 (min b d)]) (.agg #[.int .i64 a, .int .i64 b])).run Tryz.prog wx = .ok (.bool (decide (max a c = a ∧ min b d = b))) wx := fun wx => spanLevel_eql wx _ _ _ _
    go_enter Tryz.func90, Tryz.ntmps90
    go_wp2
    have q0 := fun (u : Cls ((w.alloc (.cells #[.int .i64 a, .int .i64 b] 120)).alloc (.cells #[.int .i64 c, .int .i64 d] 120))) (o : Nat) => Cls.cell (b := w.heap.size) (by simp; omega) u o
    have q1 := fun (u : Cls ((w.alloc (.cells #[.int .i64 a, .int .i64 b] 120)).alloc (.cells #[.int .i64 c, .int .i64 d] 120))) (o : Nat) => Cls.cell (b := w.heap.size + 1) (by simp) u o
    have qn := Cls.any ((w.alloc (.cells #[.int .i64 a, .int .i64 b] 120)).alloc (.cells #[.int .i64 c, .int .i64 d] 120))
    refine wp_region_cls (by kernel_rfl) (by kernel_rfl) ?_
    repeat (go_big_quiet_step (first | (go_at_call 99; exact Calls.cls_of (emptyLevel_val a b false _ (by simpa using h))) | (go_at_call 100; exact Calls.cls_of (meetLevel_any a b c d _))))
    refine wpQuiet_nil ?_
    rintro _ ⟨u, rfl⟩
    go_wp2
    go_ret
    exact ⟨by rw [← G.out]; rfl, (bel2 _ _).trans (u.same.mono (by simp; omega))⟩
theorem liesLevel_val (a b c d : Int) (v : Bool) (w : World) (hv : liesB a b c d = v) :
    Calls Tryz.prog 90 #[.agg #[.int .i64 a, .int .i64 b], .agg #[.int .i64 c, .int .i64 d]] w fun e w' => e = .returned (.bool v) ∧ Below w.heap.size w w' := by
  rw [← hv]; exact liesLevel_any a b c d w

theorem ofTick_any (a b : Int) (w : World) :
    Calls Tryz.prog 101 #[.int .i64 a, .int .i64 b] w fun e w' => e = .returned (.agg #[.int .i64 a, .int .i64 b]) ∧ Below w.heap.size w w' := by
  go_enter Tryz.func101, Tryz.ntmps101
  go_wp2
  exact bodyPost_ret (v := .agg #[.int .i64 a, .int .i64 b]) (by simp [results, Tryz.results101, go_sem]) rfl ⟨rfl, bel1 _⟩

theorem upTick_any (b : Int) (w : World) :
    Calls Tryz.prog 94 #[.int .i64 b] w fun e w' => e = .returned (.agg #[.int .i64 0, .int .i64 b]) ∧ Below w.heap.size w w' := by
  go_enter Tryz.func94, Tryz.ntmps94
  go_wp2_with fail
  refine (ofTick_any _ _ _).mono ?_
  rintro e w1 ⟨rfl, hb1⟩
  obtain ⟨hc1, hf1⟩ := old_cells hb1
  have r0 : w1.cell? ⟨w.heap.size, 0, none⟩ = some (.int .i64 0) := by rw [hc1 _ _ (by simp)]; simp [go_sem]
  have r1 : w1.cell? ⟨w.heap.size, 1, none⟩ = some (.int .i64 0) := by rw [hc1 _ _ (by simp)]; simp [go_sem]
  have f0 : ∀ j, w1.frozen? ⟨w.heap.size, j, none⟩ = false := by intro j; rw [hf1 _ _ (by simp)]; simp [go_sem]
  have hb01 : Below w.heap.size w w1 := (bel1 _).trans (hb1.mono (by simp))
  clear hb1 hc1 hf1
  go_wp2
  refine bodyPost_ret (v := .agg #[.int .i64 0, .int .i64 b]) (by simp [results, Tryz.results94, go_sem, *]) rfl ⟨rfl, ?_⟩
  iterate 2 (refine Below.setCell ?_ (by simp) _)
  exact hb01

theorem emptyTick_any (a b : Int) (w : World) :
    Calls Tryz.prog 102 #[.agg #[.int .i64 a, .int .i64 b]] w fun e w' => e = .returned (.bool (decide (b < a))) ∧ Below w.heap.size w w' := by
  go_enter Tryz.func102, Tryz.ntmps102
  go_wp2
  go_ret
  exact ⟨rfl, bel1 _⟩
theorem emptyTick_val (a b : Int) (v : Bool) (w : World) (hv : decide (b < a) = v) :
    Calls Tryz.prog 102 #[.agg #[.int .i64 a, .int .i64 b]] w fun e w' => e = .returned (.bool v) ∧ Below w.heap.size w w' := by
  rw [← hv]; exact emptyTick_any a b w

theorem meetTick_any (a b c d : Int) (w : World) :
    Calls Tryz.prog 103 #[.agg #[.int .i64 a, .int .i64 b], .agg #[.int .i64 c, .int .i64 d]] w fun e w' => e = .returned (.agg #[.int .i64 (max a c), .int .i64 (min b d)]) ∧ Below w.heap.size w w' := by
  rcases (show (a < c ∧ max a c = c) ∨ (¬ a < c ∧ max a c = a) by omega) with ⟨h1, e1⟩ | ⟨h1, e1⟩ <;> rcases (show (d < b ∧ min b d = d) ∨ (¬ d < b ∧ min b d = b) by omega) with ⟨h2, e2⟩ | ⟨h2, e2⟩
  all_goals
    rw [e1, e2]
    clear e1 e2
    go_enter Tryz.func103, Tryz.ntmps103
    go_wp2_with fail
    refine (ofTick_any _ _ _).mono ?_
    rintro e w1 ⟨rfl, hb1⟩
    obtain ⟨hc1, hf1⟩ := old_cells hb1
    have r0 : w1.cell? ⟨w.heap.size + 1 + 1, 0, none⟩ = some (.int .i64 0) := by rw [hc1 _ _ (by simp)]; simp [go_sem]
    have r1 : w1.cell? ⟨w.heap.size + 1 + 1, 1, none⟩ = some (.int .i64 0) := by rw [hc1 _ _ (by simp)]; simp [go_sem]
    have f0 : ∀ j, w1.frozen? ⟨w.heap.size + 1 + 1, j, none⟩ = false := by intro j; rw [hf1 _ _ (by simp)]; simp [go_sem]
    have hb01 : Below w.heap.size w w1 := (bel3 _ _ _).trans (hb1.mono (by simp; omega))
    clear hb1 hc1 hf1
    go_wp2
    refine bodyPost_ret (v := .agg #[.int .i64 _, .int .i64 _]) (by simp [results, Tryz.results103, go_sem, *]) rfl ⟨rfl, ?_⟩
    iterate 2 (refine Below.setCell ?_ (by simp; omega) _)
    exact hb01

theorem numTick_equal (n : Nat) (i j : Int) (w : World) : (Op.equalIn (n + 1) 124 (.int .i64 i) (.int .i64 j)).run Tryz.prog w = .ok (i == j) w := by
  simp [Op.equalIn, run_underlying Tryz.underlying124, Result.andThen]
theorem numTick_part0 (i j : Int) (w : World) : (part 124 #[.int .i64 i, .int .i64 j] 0).run Tryz.prog w = .ok (.int .i64 i) w := by
  simp [part, isAgg, run_underlying Tryz.underlying124, Result.andThen]
theorem numTick_part1 (i j : Int) (w : World) : (part 124 #[.int .i64 i, .int .i64 j] 1).run Tryz.prog w = .ok (.int .i64 j) w := by
  simp [part, isAgg, run_underlying Tryz.underlying124, Result.andThen]
theorem spanTick_equal (w : World) (n : Nat) (i j i' j' : Int) : (Op.equalIn (n + 1 + 1) 126 (.agg #[.int .i64 i, .int .i64 j]) (.agg #[.int .i64 i', .int .i64 j'])).run Tryz.prog w = .ok (decide (i = i' ∧ j = j')) w := by
  rw [Op.equalIn]
  by_cases h1 : i = i'
  · by_cases h2 : j = j'
    · simp [run_underlying Tryz.underlying126, Result.andThen, numTick_equal, numTick_part0, numTick_part1, h1, h2]
    · simp [run_underlying Tryz.underlying126, Result.andThen, numTick_equal, numTick_part0, numTick_part1, h1, h2]
  · simp [run_underlying Tryz.underlying126, Result.andThen, numTick_equal, numTick_part0, h1]
theorem spanTick_eql (w : World) (i j i' j' : Int) : (binOp .eql 126 (.agg #[.int .i64 i, .int .i64 j]) (.agg #[.int .i64 i', .int .i64 j'])).run Tryz.prog w = .ok (.bool (decide (i = i' ∧ j = j'))) w := by
  rw [run_eql_struct, spanTick_equal w 9998]; rfl

set_option maxHeartbeats 1000000 in
theorem liesTick_any (a b c d : Int) (w : World) :
    Calls Tryz.prog 93 #[.agg #[.int .i64 a, .int .i64 b], .agg #[.int .i64 c, .int .i64 d]] w fun e w' => e = .returned (.bool (liesB a b c d)) ∧ Below w.heap.size w w' := by
  by_cases h : b < a
  · have G : Hid (liesB a b c d = false) := lies_none h
    go_enter Tryz.func93, Tryz.ntmps93
    go_wp2
    have q0 := fun (u : Cls ((w.alloc (.cells #[.int .i64 a, .int .i64 b] 126)).alloc (.cells #[.int .i64 c, .int .i64 d] 126))) (o : Nat) => Cls.cell (b := w.heap.size) (by simp; omega) u o
    have qn := Cls.any ((w.alloc (.cells #[.int .i64 a, .int .i64 b] 126)).alloc (.cells #[.int .i64 c, .int .i64 d] 126))
    refine wp_region_cls (by kernel_rfl) (by kernel_rfl) ?_
    repeat (go_big_quiet_step (first | (go_at_call 102; exact Calls.cls_of (emptyTick_val a b true _ (by simpa using h)))))
    refine wpQuiet_nil ?_
    rintro _ ⟨u, rfl⟩
    go_wp2
    go_ret
    exact ⟨by rw [G.out]; rfl, (bel2 _ _).trans (u.same.mono (by simp; omega))⟩
  · have G : Hid ((decide (max a c = a) && decide (min b d = b)) = liesB a b c d) := lies_same h
    have E : ∀ wx : World, (binOp .eql 126 (.agg #[.int .i64 (max a c), .int .i64 (min b d)]) (.agg #[.int .i64 a, .int .i64 b])).run Tryz.prog wx = .ok (.bool (decide (max a c = a ∧ min b d = b))) wx := fun wx => spanTick_eql wx _ _ _ _
    go_enter Tryz.func93, Tryz.ntmps93
    go_wp2
    have q0 := fun (u : Cls ((w.alloc (.cells #[.int .i64 a, .int .i64 b] 126)).alloc (.cells #[.int .i64 c, .int .i64 d] 126))) (o : Nat) => Cls.cell (b := w.heap.size) (by simp; omega) u o
    have q1 := fun (u : Cls ((w.alloc (.cells #[.int .i64 a, .int .i64 b] 126)).alloc (.cells #[.int .i64 c, .int .i64 d] 126))) (o : Nat) => Cls.cell (b := w.heap.size + 1) (by simp) u o
    have qn := Cls.any ((w.alloc (.cells #[.int .i64 a, .int .i64 b] 126)).alloc (.cells #[.int .i64 c, .int .i64 d] 126))
    refine wp_region_cls (by kernel_rfl) (by kernel_rfl) ?_
    repeat (go_big_quiet_step (first | (go_at_call 102; exact Calls.cls_of (emptyTick_val a b false _ (by simpa using h))) | (go_at_call 103; exact Calls.cls_of (meetTick_any a b c d _))))
    refine wpQuiet_nil ?_
    rintro _ ⟨u, rfl⟩
    go_wp2
    go_ret
    exact ⟨by rw [← G.out]; rfl, (bel2 _ _).trans (u.same.mono (by simp; omega))⟩
theorem liesTick_val (a b c d : Int) (v : Bool) (w : World) (hv : liesB a b c d = v) :
    Calls Tryz.prog 93 #[.agg #[.int .i64 a, .int .i64 b], .agg #[.int .i64 c, .int .i64 d]] w fun e w' => e = .returned (.bool v) ∧ Below w.heap.size w w' := by
  rw [← hv]; exact liesTick_any a b c d w

theorem xs_any (x y lo hi i o : Int) (w : World) :
    Calls Tryz.prog 86 #[.agg #[.int .i64 x, .int .i64 y, .int .i64 lo, .int .i64 hi, .int .i64 i, .int .i64 o]] w fun e w' => e = .returned (.agg #[.int .i64 x, .int .i64 x]) ∧ Below w.heap.size w w' := by
  go_enter Tryz.func86, Tryz.ntmps86
  go_wp2_with fail
  refine (ofCell_any _ _ _).mono ?_
  rintro e w1 ⟨rfl, hb1⟩
  obtain ⟨hc1, hf1⟩ := old_cells hb1
  have r0 : w1.cell? ⟨w.heap.size + 1, 0, none⟩ = some (.int .i64 0) := by rw [hc1 _ _ (by simp)]; simp [go_sem]
  have r1 : w1.cell? ⟨w.heap.size + 1, 1, none⟩ = some (.int .i64 0) := by rw [hc1 _ _ (by simp)]; simp [go_sem]
  have f0 : ∀ j, w1.frozen? ⟨w.heap.size + 1, j, none⟩ = false := by intro j; rw [hf1 _ _ (by simp)]; simp [go_sem]
  have hb01 : Below w.heap.size w w1 := (bel2 _ _).trans (hb1.mono (by simp; omega))
  clear hb1 hc1 hf1
  go_wp2
  refine bodyPost_ret (v := .agg #[.int .i64 x, .int .i64 x]) (by simp [results, Tryz.results86, go_sem, *]) rfl ⟨rfl, ?_⟩
  iterate 2 (refine Below.setCell ?_ (by simp) _)
  exact hb01

theorem ys_any (x y lo hi i o : Int) (w : World) :
    Calls Tryz.prog 88 #[.agg #[.int .i64 x, .int .i64 y, .int .i64 lo, .int .i64 hi, .int .i64 i, .int .i64 o]] w fun e w' => e = .returned (.agg #[.int .i64 y, .int .i64 y]) ∧ Below w.heap.size w w' := by
  go_enter Tryz.func88, Tryz.ntmps88
  go_wp2_with fail
  refine (ofCell_any _ _ _).mono ?_
  rintro e w1 ⟨rfl, hb1⟩
  obtain ⟨hc1, hf1⟩ := old_cells hb1
  have r0 : w1.cell? ⟨w.heap.size + 1, 0, none⟩ = some (.int .i64 0) := by rw [hc1 _ _ (by simp)]; simp [go_sem]
  have r1 : w1.cell? ⟨w.heap.size + 1, 1, none⟩ = some (.int .i64 0) := by rw [hc1 _ _ (by simp)]; simp [go_sem]
  have f0 : ∀ j, w1.frozen? ⟨w.heap.size + 1, j, none⟩ = false := by intro j; rw [hf1 _ _ (by simp)]; simp [go_sem]
  have hb01 : Below w.heap.size w w1 := (bel2 _ _).trans (hb1.mono (by simp; omega))
  clear hb1 hc1 hf1
  go_wp2
  refine bodyPost_ret (v := .agg #[.int .i64 y, .int .i64 y]) (by simp [results, Tryz.results88, go_sem, *]) rfl ⟨rfl, ?_⟩
  iterate 2 (refine Below.setCell ?_ (by simp) _)
  exact hb01

theorem levels_any (x y lo hi i o : Int) (w : World) :
    Calls Tryz.prog 89 #[.agg #[.int .i64 x, .int .i64 y, .int .i64 lo, .int .i64 hi, .int .i64 i, .int .i64 o]] w fun e w' => e = .returned (.agg #[.int .i64 lo, .int .i64 hi]) ∧ Below w.heap.size w w' := by
  go_enter Tryz.func89, Tryz.ntmps89
  go_wp2_with fail
  refine (ofLevel_any _ _ _).mono ?_
  rintro e w1 ⟨rfl, hb1⟩
  obtain ⟨hc1, hf1⟩ := old_cells hb1
  have r0 : w1.cell? ⟨w.heap.size + 1, 0, none⟩ = some (.int .i64 0) := by rw [hc1 _ _ (by simp)]; simp [go_sem]
  have r1 : w1.cell? ⟨w.heap.size + 1, 1, none⟩ = some (.int .i64 0) := by rw [hc1 _ _ (by simp)]; simp [go_sem]
  have f0 : ∀ j, w1.frozen? ⟨w.heap.size + 1, j, none⟩ = false := by intro j; rw [hf1 _ _ (by simp)]; simp [go_sem]
  have hb01 : Below w.heap.size w w1 := (bel2 _ _).trans (hb1.mono (by simp; omega))
  clear hb1 hc1 hf1
  go_wp2
  refine bodyPost_ret (v := .agg #[.int .i64 lo, .int .i64 hi]) (by simp [results, Tryz.results89, go_sem, *]) rfl ⟨rfl, ?_⟩
  iterate 2 (refine Below.setCell ?_ (by simp) _)
  exact hb01

theorem ticks_any (x y lo hi i o : Int) (w : World) :
    Calls Tryz.prog 92 #[.agg #[.int .i64 x, .int .i64 y, .int .i64 lo, .int .i64 hi, .int .i64 i, .int .i64 o]] w fun e w' => e = .returned (.agg #[.int .i64 i, .int .i64 o]) ∧ Below w.heap.size w w' := by
  go_enter Tryz.func92, Tryz.ntmps92
  go_wp2_with fail
  refine (ofTick_any _ _ _).mono ?_
  rintro e w1 ⟨rfl, hb1⟩
  obtain ⟨hc1, hf1⟩ := old_cells hb1
  have r0 : w1.cell? ⟨w.heap.size + 1, 0, none⟩ = some (.int .i64 0) := by rw [hc1 _ _ (by simp)]; simp [go_sem]
  have r1 : w1.cell? ⟨w.heap.size + 1, 1, none⟩ = some (.int .i64 0) := by rw [hc1 _ _ (by simp)]; simp [go_sem]
  have f0 : ∀ j, w1.frozen? ⟨w.heap.size + 1, j, none⟩ = false := by intro j; rw [hf1 _ _ (by simp)]; simp [go_sem]
  have hb01 : Below w.heap.size w w1 := (bel2 _ _).trans (hb1.mono (by simp; omega))
  clear hb1 hc1 hf1
  go_wp2
  refine bodyPost_ret (v := .agg #[.int .i64 i, .int .i64 o]) (by simp [results, Tryz.results92, go_sem, *]) rfl ⟨rfl, ?_⟩
  iterate 2 (refine Below.setCell ?_ (by simp) _)
  exact hb01
end Go.Proofs.YtgkebobmfagklaaGreat

namespace Go.Proofs.YtgkebobmfagklaaGreat
open Go.RowKit

theorem BoxesAt.set {w : World} {a : Option Addr} {b o : Nat} {l : List Bx} (h : BoxesAt w a b o l) {p : Addr} (hp : p.block ≠ b) (v : Value) : BoxesAt (w.setCell p v) a b o l where
  here := h.here
  lt hl := by have := h.lt hl; simpa [World.setCell] using this
  cell i s hi j u hu := by
    rw [World.cell?_setCell_other _ _ _ _ (by intro e; exact hp (by rw [e]))]
    exact h.cell i s hi j u hu

/-- A tube that lies in a block of its own. -/
structure TubeIn (W : World) (B : Nat) (t : Tb) : Prop where
  lt : B < W.heap.size
  c0 : W.cell? ⟨B, 0, none⟩ = some (.string t.nm)
  c1 : W.cell? ⟨B, 1, none⟩ = some (.slice t.a t.l.length t.cap)
theorem TubeIn.keep {W W' : World} {B : Nat} {t : Tb} (h : TubeIn W B t) (hb : Below W.heap.size W W') : TubeIn W' B t where
  lt := Nat.lt_of_lt_of_le h.lt hb.size
  c0 := (hb.cell (p := ⟨B, 0, none⟩) h.lt).trans h.c0
  c1 := (hb.cell (p := ⟨B, 1, none⟩) h.lt).trans h.c1
theorem TubeIn.new (w : World) (t : Tb) (T : TypeId) : TubeIn (w.alloc (.cells #[.string t.nm, .slice t.a t.l.length t.cap] T)) w.heap.size t where
  lt := by simp
  c0 := by simp [go_sem]
  c1 := by simp [go_sem]
/-- The same tube, its boxes in block g. -/
abbrev Tb.put (t : Tb) (g : Nat) : Tb := ⟨t.nm, some ⟨g, 0, none⟩, g, 0, t.l.length, t.l⟩

theorem there_put {w : World} {b o n : Nat} (h : w.there b o n) {p : Addr} (hp : p.block ≠ b) (v : Value) : (w.setCell p v).there b o n := fun j hj => by
  have hb := heap_setCell_other w p b v (fun e => hp e.symm)
  have h1 := h j hj
  rw [World.cell?_of_block (a := ⟨b, o + j, none⟩) hb, World.frozen?_of_block (a := ⟨b, o + j, none⟩) hb]
  exact h1
end Go.Proofs.YtgkebobmfagklaaGreat

namespace Go.Proofs.YtgkebobmfagklaaGreat
open Go.RowKit

/-- What may stand in a name. -/
def letB (n : Int) : Bool := (decide (97 ≤ n) && decide (n ≤ 122)) || (decide (48 ≤ n) && decide (n ≤ 57)) || (n == 45)
/-- The byte at a place. -/
def byteAt (s : ByteArray) (i : Nat) : Nat := if h : i < s.size then (s[i]'h).toNat else 0
/-- The first k bytes may stand in a name. -/
def nameTo (s : ByteArray) (k : Nat) : Bool := (List.range k).all fun i => letB (byteAt s i)
/-- A name. -/
def nameB (s : ByteArray) : Bool := inB s.size 1 8 && nameTo s s.size
theorem nameTo_zero (s : ByteArray) : nameTo s 0 = true := rfl
theorem nameTo_succ (s : ByteArray) (k : Nat) : nameTo s (k + 1) = (nameTo s k && letB (byteAt s k)) := by
  simp [nameTo, List.range_succ, List.all_append]
theorem nameTo_not {s : ByteArray} {k n : Nat} (hk : k < n) (h : letB (byteAt s k) = false) : nameTo s n = false := by
  unfold nameTo
  rw [List.all_eq_false]
  exact ⟨k, by simpa using hk, by simp [h]⟩
theorem byteAt_lt {s : ByteArray} {i : Nat} (h : i < s.size) : byteAt s i = (s[i]'h).toNat := by simp [byteAt, h]
theorem letB_high {n : Int} (h : 128 ≤ n) : letB n = false := by simp [letB]; omega

set_option maxHeartbeats 1000000 in
theorem nameS_any (s : ByteArray) (w : World) :
    Calls Tryz.prog 35 #[.string s] w fun e w' => e = .returned (.bool (nameB s)) ∧ w' = w := by
  cases hn : inB s.size 1 8 with
  | false =>
    have G : Hid (nameB s = false) := by show _ = _; unfold nameB; rw [hn]; rfl
    go_enter Tryz.func35, Tryz.ntmps35
    go_wp2_with (go_at_call 49; refine (pin_any _ _ _ _).mono ?_; rintro e w' ⟨rfl, rfl⟩)
    go_ret
    exact ⟨by rw [G.out]; rfl, rfl⟩
  | true =>
    have G : Hid (nameB s = nameTo s s.size) := by show _ = _; unfold nameB; rw [hn]; rfl
    have hs : s.size ≤ 8 := by have := (inB_iff _ _ _).1 hn; omega
    go_enter Tryz.func35, Tryz.ntmps35
    go_wp2_with (go_at_call 49; refine (pin_any _ _ _ _).mono ?_; rintro e w' ⟨rfl, rfl⟩)
    go_loopw [3] (fun v wr => ∃ k : Nat, k ≤ s.size ∧ v = .int .i64 k ∧ wr = w' ∧ nameTo s k = true) (fun v _ => s.size - (intOf v).toNat)
    case atStart => exact ⟨0, Nat.zero_le _, rfl, rfl, nameTo_zero s⟩
    case round =>
      obtain ⟨k, hk, rfl, rfl, hg⟩ := hrel
      have HG : Hid (nameTo s k = true) := hg
      clear hg hn
      by_cases hlt : k < s.size
      · obtain ⟨n, HN, hix⟩ : ∃ n : Int, Hid (letB n = letB (byteAt s k)) ∧ ∀ wx : World, (Instr.index 9 (.string s) (.int .i64 k)).run Tryz.prog wx = .ok (.int .u8 n) wx :=
          ⟨(byteAt s k : Int), rfl, fun wx => by rw [run_index_string _ _ _ _ _ Tryz.underlying9, dif_pos ⟨by omega, by omega⟩, byteAt_lt hlt]; simp⟩
        rcases (show (97 ≤ n ∧ n ≤ 122) ∨ (97 ≤ n ∧ ¬ n ≤ 122 ∧ 48 ≤ n ∧ ¬ n ≤ 57 ∧ ¬ n = 45) ∨ (¬ 97 ≤ n ∧ 48 ≤ n ∧ n ≤ 57) ∨ (¬ 97 ≤ n ∧ 48 ≤ n ∧ ¬ n ≤ 57 ∧ ¬ n = 45) ∨ (¬ 97 ≤ n ∧ ¬ 48 ≤ n ∧ n = 45) ∨ (¬ 97 ≤ n ∧ ¬ 48 ≤ n ∧ ¬ n = 45) by omega) with ⟨h1, h2⟩ | ⟨h1, h2, h3, h4, h5⟩ | ⟨h1, h2, h3⟩ | ⟨h1, h2, h3, h5⟩ | ⟨h1, h2, h3⟩ | ⟨h1, h2, h3⟩
        · have G1 : Hid (letB (byteAt s k) = true) := by show _ = _; rw [← HN.out]; simp [letB]; omega
          have h9 : (n == 45) = false := by simp; omega
          go_wp2
          go_roundw
          case rel => exact ⟨k + 1, by omega, by go_num, trivial, by rw [nameTo_succ, HG.out, G1.out]; rfl⟩
          case measure => simp [intOf]; omega
        · have G1 : Hid (letB (byteAt s k) = false) := by show _ = _; rw [← HN.out]; simp [letB]; omega
          have h9 : (n == 45) = false := by simp; omega
          go_wp2
          go_ret
          exact ⟨by rw [G.out, nameTo_not hlt G1.out]; rfl, rfl⟩
        · have G1 : Hid (letB (byteAt s k) = true) := by show _ = _; rw [← HN.out]; simp [letB]; omega
          have h9 : (n == 45) = false := by simp; omega
          go_wp2
          go_roundw
          case rel => exact ⟨k + 1, by omega, by go_num, trivial, by rw [nameTo_succ, HG.out, G1.out]; rfl⟩
          case measure => simp [intOf]; omega
        · have G1 : Hid (letB (byteAt s k) = false) := by show _ = _; rw [← HN.out]; simp [letB]; omega
          have h9 : (n == 45) = false := by simp; omega
          go_wp2
          go_ret
          exact ⟨by rw [G.out, nameTo_not hlt G1.out]; rfl, rfl⟩
        · have G1 : Hid (letB (byteAt s k) = true) := by show _ = _; rw [← HN.out]; simp [letB]; omega
          have h9 : (n == 45) = true := by simp; omega
          go_wp2
          go_roundw
          case rel => exact ⟨k + 1, by omega, by go_num, trivial, by rw [nameTo_succ, HG.out, G1.out]; rfl⟩
          case measure => simp [intOf]; omega
        · have G1 : Hid (letB (byteAt s k) = false) := by show _ = _; rw [← HN.out]; simp [letB]; omega
          have h9 : (n == 45) = false := by simp; omega
          go_wp2
          go_ret
          exact ⟨by rw [G.out, nameTo_not hlt G1.out]; rfl, rfl⟩
      · obtain rfl : k = s.size := by omega
        go_wp2
        go_ret
        exact ⟨by rw [G.out, HG.out]; rfl, rfl⟩
end Go.Proofs.YtgkebobmfagklaaGreat

namespace Go.Proofs.YtgkebobmfagklaaGreat
open Go.RowKit

/-- A tube is ok. -/
def tubeB (t : Tb) : Bool := nameB t.nm && decide (t.l.length ≤ 40) && t.l.all boxB

set_option maxHeartbeats 1000000 in
theorem tubeOkS_any (t : Tb) (w : World) (hl : t.l.length ≤ 1048576) (h : TubeAt w t) :
    Calls Tryz.prog 26 #[t.val] w fun e w' => e = .returned (.bool (tubeB t)) ∧ Below w.heap.size w w' := by
  obtain ⟨nm, a, b, o, cap, l⟩ := t
  simp only at hl
  have T0 := TubeIn.new w ⟨nm, a, b, o, cap, l⟩ 30
  cases hn : nameB nm with
  | false =>
    have G : Hid (tubeB ⟨nm, a, b, o, cap, l⟩ = false) := by show _ = _; unfold tubeB; rw [hn]; rfl
    have HN : Hid (nameB nm = false) := hn
    clear hn
    go_enter Tryz.func26, Tryz.ntmps26
    go_wp2_with (go_at_call 35; refine (nameS_any _ _).mono ?_; rw [HN.out]; rintro e w' ⟨rfl, rfl⟩)
    go_ret
    exact ⟨by rw [G.out]; rfl, bel1 _⟩
  | true =>
    have HN : Hid (nameB nm = true) := hn
    clear hn
    by_cases h2 : l.length ≤ 40
    · have G : Hid (tubeB ⟨nm, a, b, o, cap, l⟩ = l.all boxB) := by show _ = _; unfold tubeB; rw [HN.out]; simp [h2]
      have h2' : ¬ (40 : Int) < l.length := by omega
      go_enter Tryz.func26, Tryz.ntmps26
      go_wp2_with (go_at_call 35; refine (nameS_any _ _).mono ?_; rw [HN.out]; rintro e w' ⟨rfl, hw⟩; subst hw)
      go_loopw [3] (fun v wr => ∃ k : Nat, k ≤ l.length ∧ v = .int .i64 k ∧ Below w.heap.size w wr ∧ TubeIn wr w.heap.size ⟨nm, a, b, o, cap, l⟩ ∧ (l.take k).all boxB = true) (fun v _ => l.length - (intOf v).toNat)
      case atStart => exact ⟨0, Nat.zero_le _, rfl, bel1 _, T0, rfl⟩
      case round =>
        obtain ⟨k, hk, rfl, hb, hT, hall⟩ := hrel
        have HA : Hid ((l.take k).all boxB = true) := hall
        have c0 := hT.c0
        have c1 := hT.c1
        clear hall T0 h2'
        by_cases hlt : k < l.length
        · obtain ⟨s, hsk⟩ : ∃ s, l[k]? = some s := ⟨l[k], List.getElem?_eq_getElem hlt⟩
          have hne : l ≠ [] := by intro e; subst e; simp at hlt
          have hat := (h.below hb).at_
          obtain rfl : a = some ⟨b, o, none⟩ := hat.here hne
          obtain ⟨d0, d1, d2, d3, d4, d5⟩ := hat.six hsk
          have k0 : (0 : Int) ≤ (k : Int) := by omega
          have k1 : (k : Int) < (l.length : Int) := by omega
          have HS : Hid (l[k]? = some s) := hsk
          clear hsk
          cases hh : boxB s with
          | true =>
            have HB : Hid (boxB s = true) := hh
            clear hh
            go_wp2_with fail
            refine (boxOkS_val s true _ HB.out).mono ?_
            rintro e w2 ⟨rfl, hb2⟩
            have T2 := hT.keep hb2
            clear c0 c1 d0 d1 d2 d3 d4 d5
            go_wp2
            go_roundw
            case rel => exact ⟨k + 1, by omega, by go_num, hb.trans (hb2.mono hb.size), T2, by rw [all_take l boxB HS.out, HA.out, HB.out]; rfl⟩
            case measure => simp [intOf]; omega
          | false =>
            have HB : Hid (boxB s = false) := hh
            clear hh
            go_wp2_with fail
            refine (boxOkS_val s false _ HB.out).mono ?_
            rintro e w2 ⟨rfl, hb2⟩
            clear c0 c1 d0 d1 d2 d3 d4 d5
            go_wp2
            go_ret
            exact ⟨by rw [G.out, all_miss HS.out HB.out]; rfl, hb.trans (hb2.mono hb.size)⟩
        · obtain rfl : k = l.length := by omega
          go_wp2
          go_ret
          have e1 := HA.out
          rw [List.take_length] at e1
          exact ⟨by rw [G.out, e1]; rfl, hb⟩
    · have G : Hid (tubeB ⟨nm, a, b, o, cap, l⟩ = false) := by show _ = _; unfold tubeB; simp [h2]
      have h2' : (40 : Int) < l.length := by omega
      go_enter Tryz.func26, Tryz.ntmps26
      go_wp2_with (go_at_call 35; refine (nameS_any _ _).mono ?_; rw [HN.out]; rintro e w' ⟨rfl, rfl⟩)
      go_ret
      exact ⟨by rw [G.out]; rfl, bel1 _⟩
end Go.Proofs.YtgkebobmfagklaaGreat

namespace Go.Proofs.YtgkebobmfagklaaGreat
open Go.RowKit

theorem mayStand_any (n : Int) (w : World) :
    Calls Tryz.prog 79 #[.int .i32 n] w fun e w' => e = .returned (.bool (letB n)) ∧ w' = w := by
  rcases (show (97 ≤ n ∧ n ≤ 122) ∨ (97 ≤ n ∧ ¬ n ≤ 122 ∧ 48 ≤ n ∧ ¬ n ≤ 57 ∧ ¬ n = 45) ∨ (¬ 97 ≤ n ∧ 48 ≤ n ∧ n ≤ 57) ∨ (¬ 97 ≤ n ∧ 48 ≤ n ∧ ¬ n ≤ 57 ∧ ¬ n = 45) ∨ (¬ 97 ≤ n ∧ ¬ 48 ≤ n ∧ n = 45) ∨ (¬ 97 ≤ n ∧ ¬ 48 ≤ n ∧ ¬ n = 45) by omega) with ⟨h1, h2⟩ | ⟨h1, h2, h3, h4, h5⟩ | ⟨h1, h2, h3⟩ | ⟨h1, h2, h3, h5⟩ | ⟨h1, h2, h3⟩ | ⟨h1, h2, h3⟩
  all_goals
    go_enter Tryz.func79, Tryz.ntmps79
    go_wp2
    go_ret
    first
      | exact ⟨by simp [letB]; omega, rfl⟩
      | exact ⟨by simp [letB], rfl⟩
      | exact ⟨by simp [letB, *], rfl⟩

theorem mayStand_val (n : Int) (v : Bool) (w : World) (hv : letB n = v) : Calls Tryz.prog 79 #[.int .i32 n] w fun e w' => e = .returned (.bool v) ∧ w' = w := by
  rw [← hv]; exact mayStand_any n w

set_option maxHeartbeats 1000000 in
theorem isName_any (s : ByteArray) (w : World) :
    Calls Tryz.prog 63 #[.string s] w fun e w' => e = .returned (.bool (nameB s)) ∧ Below w.heap.size w w' := by
  rcases (show s.size < 1 ∨ (¬ s.size < 1 ∧ 8 < s.size) ∨ (¬ s.size < 1 ∧ ¬ 8 < s.size) by omega) with h1 | ⟨h1, h2⟩ | ⟨h1, h2⟩
  · have G : Hid (nameB s = false) := by show _ = _; unfold nameB; simp [inB]; omega
    have h1' : (s.size : Int) < 1 := by omega
    go_enter Tryz.func63, Tryz.ntmps63
    go_wp2
    go_ret
    exact ⟨by rw [G.out]; rfl, Below.refl _ _⟩
  · have G : Hid (nameB s = false) := by show _ = _; unfold nameB; simp [inB]; omega
    have h1' : ¬ (s.size : Int) < 1 := by omega
    have h2' : (8 : Int) < s.size := by omega
    go_enter Tryz.func63, Tryz.ntmps63
    go_wp2
    go_ret
    exact ⟨by rw [G.out]; rfl, Below.refl _ _⟩
  · have G : Hid (nameB s = nameTo s s.size) := by show _ = _; unfold nameB; simp [inB]; omega
    have h1' : ¬ (s.size : Int) < 1 := by omega
    have h2' : ¬ (8 : Int) < s.size := by omega
    go_enter Tryz.func63, Tryz.ntmps63
    go_wp2
    go_loopw [15] (fun _ wr => ∃ k : Nat, k ≤ s.size ∧ wr.heap[w.heap.size]? = some (.stringIter s k) ∧ Below w.heap.size w wr ∧ nameTo s k = true) (fun _ wr => s.size - wr.iterPos w.heap.size)
    case atStart => exact ⟨0, Nat.zero_le _, World.iter_heap w s 0, (Below.refl _ w).alloc (Nat.le_refl _) _, nameTo_zero s⟩
    case round =>
      obtain ⟨k, hk, hit, hb, hg⟩ := hrel
      have HG : Hid (nameTo s k = true) := hg
      clear hg
      by_cases hlt : k < s.size
      · have HB := byteAt_lt hlt
        by_cases ha : (s[k]'hlt).toNat < 128
        · obtain ⟨n, hn, hnx⟩ : ∃ n : Int, n = (byteAt s k : Nat) ∧ ∀ ty, (Instr.next (.pointer (some ⟨w.heap.size, 0, none⟩)) true ty).run Tryz.prog wr = .ok (.tuple #[.bool true, .int .i64 k, .int .i32 n]) (wr.iterAt w.heap.size s (k + 1)) :=
            ⟨_, rfl, fun ty => by rw [HB]; exact Lib.run_next_ascii_at wr w.heap.size s k ty hit hlt ha⟩
          have HI2 : Hid ((wr.iterAt w.heap.size s (k + 1)).heap[w.heap.size]? = some (.stringIter s (k + 1))) := Lib.iterAt_heap wr w.heap.size s k (k + 1) hit
          have hb2 := Lib.below_iterAt hb (k := w.heap.size) (Nat.le_refl _) s (k + 1)
          have HM : Hid (wr.iterPos w.heap.size = k) := by show _ = _; simp only [World.iterPos, hit]
          generalize (wr.iterAt w.heap.size s (k + 1)) = W at *
          clear hit HB ha
          cases hl : letB n with
          | true =>
            have G1 : Hid (letB (byteAt s k : Nat) = true) := by show _ = _; rw [← hn]; exact hl
            have HL : Hid (letB n = true) := hl
            clear hl hn
            go_wp2_with (go_at_call 79; refine (mayStand_val _ _ _ HL.out).mono ?_; rintro e w1 ⟨rfl, rfl⟩)
            go_roundw
            case rel => exact ⟨k + 1, by omega, HI2.out, hb2, by rw [nameTo_succ, HG.out, G1.out]; rfl⟩
            case measure =>
              have e1 := HM.out
              simp only [World.iterPos, HI2.out] at e1 ⊢
              omega
          | false =>
            have G1 : Hid (letB (byteAt s k : Nat) = false) := by show _ = _; rw [← hn]; exact hl
            have HL : Hid (letB n = false) := hl
            clear hl hn
            go_wp2_with (go_at_call 79; refine (mayStand_val _ _ _ HL.out).mono ?_; rintro e w1 ⟨rfl, rfl⟩)
            go_ret
            exact ⟨by rw [G.out, nameTo_not hlt G1.out]; rfl, hb2⟩
        · have hnx : ∀ ty, (Instr.next (.pointer (some ⟨w.heap.size, 0, none⟩)) true ty).run Tryz.prog wr = _ := fun ty => Lib.run_next_any_at wr w.heap.size s k ty hit hlt
          have hd := (decode_high s k hlt (by omega)).1
          have hb2 := Lib.below_iterAt hb (k := w.heap.size) (Nat.le_refl _) s (k + (Utf8.decode s k).2)
          have HL : Hid (letB ((Utf8.decode s k).1 : Nat) = false) := letB_high (by omega)
          have G1 : Hid (letB (byteAt s k) = false) := letB_high (by omega)
          generalize (wr.iterAt w.heap.size s (k + (Utf8.decode s k).2)) = W at *
          generalize (Utf8.decode s k).1 = r at *
          clear hit HB ha hd
          go_wp2_with (go_at_call 79; refine (mayStand_val _ _ _ HL.out).mono ?_; rintro e w1 ⟨rfl, rfl⟩)
          go_ret
          exact ⟨by rw [G.out, nameTo_not hlt G1.out]; rfl, hb2⟩
      · obtain rfl : k = s.size := by omega
        have hnx : ∀ ty, (Instr.next (.pointer (some ⟨w.heap.size, 0, none⟩)) true ty).run Tryz.prog wr = _ := fun ty => Lib.run_next_end_at wr w.heap.size s s.size ty hit hlt
        go_wp2
        go_ret
        exact ⟨by rw [G.out, HG.out]; rfl, hb⟩
end Go.Proofs.YtgkebobmfagklaaGreat

namespace Go.Proofs.YtgkebobmfagklaaGreat
open Go.RowKit

/-- The cells of one box, in every world of a class. -/
theorem Cls.six {W : World} {b : Nat} {s : Bx} (hb : b < W.heap.size) (h : W.rangeAt b 0 s.cells) : (∀ u : Cls W, u.it.cell? ⟨b, 0, none⟩ = some (.int .i64 s.x)) ∧ (∀ u : Cls W, u.it.cell? ⟨b, 1, none⟩ = some (.int .i64 s.y)) ∧ (∀ u : Cls W, u.it.cell? ⟨b, 2, none⟩ = some (.int .i64 s.lo)) ∧
    (∀ u : Cls W, u.it.cell? ⟨b, 3, none⟩ = some (.int .i64 s.hi)) ∧ (∀ u : Cls W, u.it.cell? ⟨b, 4, none⟩ = some (.int .i64 s.in_)) ∧ (∀ u : Cls W, u.it.cell? ⟨b, 5, none⟩ = some (.int .i64 s.out)) :=
  ⟨fun u => (u.cell hb 0).trans (h 0 _ rfl), fun u => (u.cell hb 1).trans (h 1 _ rfl), fun u => (u.cell hb 2).trans (h 2 _ rfl), fun u => (u.cell hb 3).trans (h 3 _ rfl), fun u => (u.cell hb 4).trans (h 4 _ rfl), fun u => (u.cell hb 5).trans (h 5 _ rfl)⟩
/-- The cells of a box that was laid. -/
theorem box_new (w : World) (s : Bx) (t : TypeId) : (w.alloc (.cells #[.int .i64 s.x, .int .i64 s.y, .int .i64 s.lo, .int .i64 s.hi, .int .i64 s.in_, .int .i64 s.out] t)).rangeAt w.heap.size 0 s.cells := by
  intro j u hj
  match j, hj with
  | 0, hj => simp at hj; subst hj; simp [go_sem]
  | 1, hj => simp at hj; subst hj; simp [go_sem]
  | 2, hj => simp at hj; subst hj; simp [go_sem]
  | 3, hj => simp at hj; subst hj; simp [go_sem]
  | 4, hj => simp at hj; subst hj; simp [go_sem]
  | 5, hj => simp at hj; subst hj; simp [go_sem]

set_option maxHeartbeats 4000000 in
theorem boxOk_a (x y lo hi i o : Int) (w : World) (h1 : liesB x x 0 15 = false) :
    Calls Tryz.prog 80 #[.agg #[.int .i64 x, .int .i64 y, .int .i64 lo, .int .i64 hi, .int .i64 i, .int .i64 o]] w fun e w' => e = .returned (.bool (boxB ⟨x, y, lo, hi, i, o⟩)) ∧ Below w.heap.size w w' := by
  have ER : Hid (boxB ⟨x, y, lo, hi, i, o⟩ = (liesB x x 0 15 && liesB y y 0 15 && liesB lo hi 0 6 && liesB i o 0 10000)) := boxB_lies _
  have hn := box_new w ⟨x, y, lo, hi, i, o⟩ 51
  go_enter Tryz.func80, Tryz.ntmps80
  go_wp2_with fail
  refine (upCell_any _ _).mono ?_
  rintro e w1 ⟨rfl, hb1⟩
  have hn1 := range_below hn hb1 (by simp)
  have B1 : Below w.heap.size w w1 := (bel1 _).trans (hb1.mono (by simp))
  have z1 : w.heap.size < w1.heap.size := by have := hb1.size; simp at this; omega
  clear hn hb1
  go_wp2
  have hn2 := World.rangeAt_alloc hn1 (.cells #[.int .i64 0, .int .i64 15] 114)
  have m0 : (w1.alloc (.cells #[.int .i64 0, .int .i64 15] 114)).cell? ⟨w1.heap.size, 0, none⟩ = some (.int .i64 0) := by simp [go_sem]
  have m1 : (w1.alloc (.cells #[.int .i64 0, .int .i64 15] 114)).cell? ⟨w1.heap.size, 1, none⟩ = some (.int .i64 15) := by simp [go_sem]
  have z2 : w1.heap.size < (w1.alloc (.cells #[.int .i64 0, .int .i64 15] 114)).heap.size := by simp
  have B2 := B1.trans ((bel1 (w := w1) (.cells #[.int .i64 0, .int .i64 15] 114)).mono B1.size)
  generalize w1.alloc (.cells #[.int .i64 0, .int .i64 15] 114) = W at *
  obtain ⟨q0, q1, q2, q3, q4, q5⟩ := Cls.six (by omega) hn2
  have p0 : ∀ u : Cls W, u.it.cell? ⟨w1.heap.size, 0, none⟩ = some (.int .i64 0) := fun u => (u.cell z2 0).trans m0
  have p1 : ∀ u : Cls W, u.it.cell? ⟨w1.heap.size, 1, none⟩ = some (.int .i64 15) := fun u => (u.cell z2 1).trans m1
  have qn := Cls.any W
  clear m0 m1 hn1 hn2
  refine wp_region_cls (by kernel_rfl) (by kernel_rfl) ?_
  repeat (go_big_quiet_step (first
    | (go_at_call 86; exact Calls.cls_of (xs_any x y lo hi i o _))
    | (go_at_call 88; exact Calls.cls_of (ys_any x y lo hi i o _))
    | (go_at_call 89; exact Calls.cls_of (levels_any x y lo hi i o _))
    | (go_at_call 92; exact Calls.cls_of (ticks_any x y lo hi i o _))
    | (go_at_call 91; exact Calls.cls_of (upLevel_any 6 _))
    | (go_at_call 94; exact Calls.cls_of (upTick_any 10000 _))
    | (go_at_call 87; exact Calls.cls_of (liesCell_val _ _ _ _ _ _ (by first | exact h1 | exact h2)))
    | (go_at_call 90; exact Calls.cls_of (liesLevel_val lo hi 0 6 _ _ h3))
    | (go_at_call 93; exact Calls.cls_of (liesTick_any i o 0 10000 _))))
  refine wpQuiet_nil ?_
  rintro _ ⟨u, rfl⟩
  clear q0 q1 q2 q3 q4 q5 p0 p1 qn
  go_wp2
  go_ret
  exact ⟨by rw [ER.out]; simp [*], B2.trans (u.same.mono B2.size)⟩
set_option maxHeartbeats 4000000 in
theorem boxOk_b (x y lo hi i o : Int) (w : World) (h1 : liesB x x 0 15 = true) (h2 : liesB y y 0 15 = false) :
    Calls Tryz.prog 80 #[.agg #[.int .i64 x, .int .i64 y, .int .i64 lo, .int .i64 hi, .int .i64 i, .int .i64 o]] w fun e w' => e = .returned (.bool (boxB ⟨x, y, lo, hi, i, o⟩)) ∧ Below w.heap.size w w' := by
  have ER : Hid (boxB ⟨x, y, lo, hi, i, o⟩ = (liesB x x 0 15 && liesB y y 0 15 && liesB lo hi 0 6 && liesB i o 0 10000)) := boxB_lies _
  have hn := box_new w ⟨x, y, lo, hi, i, o⟩ 51
  go_enter Tryz.func80, Tryz.ntmps80
  go_wp2_with fail
  refine (upCell_any _ _).mono ?_
  rintro e w1 ⟨rfl, hb1⟩
  have hn1 := range_below hn hb1 (by simp)
  have B1 : Below w.heap.size w w1 := (bel1 _).trans (hb1.mono (by simp))
  have z1 : w.heap.size < w1.heap.size := by have := hb1.size; simp at this; omega
  clear hn hb1
  go_wp2
  have hn2 := World.rangeAt_alloc hn1 (.cells #[.int .i64 0, .int .i64 15] 114)
  have m0 : (w1.alloc (.cells #[.int .i64 0, .int .i64 15] 114)).cell? ⟨w1.heap.size, 0, none⟩ = some (.int .i64 0) := by simp [go_sem]
  have m1 : (w1.alloc (.cells #[.int .i64 0, .int .i64 15] 114)).cell? ⟨w1.heap.size, 1, none⟩ = some (.int .i64 15) := by simp [go_sem]
  have z2 : w1.heap.size < (w1.alloc (.cells #[.int .i64 0, .int .i64 15] 114)).heap.size := by simp
  have B2 := B1.trans ((bel1 (w := w1) (.cells #[.int .i64 0, .int .i64 15] 114)).mono B1.size)
  generalize w1.alloc (.cells #[.int .i64 0, .int .i64 15] 114) = W at *
  obtain ⟨q0, q1, q2, q3, q4, q5⟩ := Cls.six (by omega) hn2
  have p0 : ∀ u : Cls W, u.it.cell? ⟨w1.heap.size, 0, none⟩ = some (.int .i64 0) := fun u => (u.cell z2 0).trans m0
  have p1 : ∀ u : Cls W, u.it.cell? ⟨w1.heap.size, 1, none⟩ = some (.int .i64 15) := fun u => (u.cell z2 1).trans m1
  have qn := Cls.any W
  clear m0 m1 hn1 hn2
  refine wp_region_cls (by kernel_rfl) (by kernel_rfl) ?_
  repeat (go_big_quiet_step (first
    | (go_at_call 86; exact Calls.cls_of (xs_any x y lo hi i o _))
    | (go_at_call 88; exact Calls.cls_of (ys_any x y lo hi i o _))
    | (go_at_call 89; exact Calls.cls_of (levels_any x y lo hi i o _))
    | (go_at_call 92; exact Calls.cls_of (ticks_any x y lo hi i o _))
    | (go_at_call 91; exact Calls.cls_of (upLevel_any 6 _))
    | (go_at_call 94; exact Calls.cls_of (upTick_any 10000 _))
    | (go_at_call 87; exact Calls.cls_of (liesCell_val _ _ _ _ _ _ (by first | exact h1 | exact h2)))
    | (go_at_call 90; exact Calls.cls_of (liesLevel_val lo hi 0 6 _ _ h3))
    | (go_at_call 93; exact Calls.cls_of (liesTick_any i o 0 10000 _))))
  refine wpQuiet_nil ?_
  rintro _ ⟨u, rfl⟩
  clear q0 q1 q2 q3 q4 q5 p0 p1 qn
  go_wp2
  go_ret
  exact ⟨by rw [ER.out]; simp [*], B2.trans (u.same.mono B2.size)⟩
set_option maxHeartbeats 4000000 in
theorem boxOk_c (x y lo hi i o : Int) (w : World) (h1 : liesB x x 0 15 = true) (h2 : liesB y y 0 15 = true) (h3 : liesB lo hi 0 6 = false) :
    Calls Tryz.prog 80 #[.agg #[.int .i64 x, .int .i64 y, .int .i64 lo, .int .i64 hi, .int .i64 i, .int .i64 o]] w fun e w' => e = .returned (.bool (boxB ⟨x, y, lo, hi, i, o⟩)) ∧ Below w.heap.size w w' := by
  have ER : Hid (boxB ⟨x, y, lo, hi, i, o⟩ = (liesB x x 0 15 && liesB y y 0 15 && liesB lo hi 0 6 && liesB i o 0 10000)) := boxB_lies _
  have hn := box_new w ⟨x, y, lo, hi, i, o⟩ 51
  go_enter Tryz.func80, Tryz.ntmps80
  go_wp2_with fail
  refine (upCell_any _ _).mono ?_
  rintro e w1 ⟨rfl, hb1⟩
  have hn1 := range_below hn hb1 (by simp)
  have B1 : Below w.heap.size w w1 := (bel1 _).trans (hb1.mono (by simp))
  have z1 : w.heap.size < w1.heap.size := by have := hb1.size; simp at this; omega
  clear hn hb1
  go_wp2
  have hn2 := World.rangeAt_alloc hn1 (.cells #[.int .i64 0, .int .i64 15] 114)
  have m0 : (w1.alloc (.cells #[.int .i64 0, .int .i64 15] 114)).cell? ⟨w1.heap.size, 0, none⟩ = some (.int .i64 0) := by simp [go_sem]
  have m1 : (w1.alloc (.cells #[.int .i64 0, .int .i64 15] 114)).cell? ⟨w1.heap.size, 1, none⟩ = some (.int .i64 15) := by simp [go_sem]
  have z2 : w1.heap.size < (w1.alloc (.cells #[.int .i64 0, .int .i64 15] 114)).heap.size := by simp
  have B2 := B1.trans ((bel1 (w := w1) (.cells #[.int .i64 0, .int .i64 15] 114)).mono B1.size)
  generalize w1.alloc (.cells #[.int .i64 0, .int .i64 15] 114) = W at *
  obtain ⟨q0, q1, q2, q3, q4, q5⟩ := Cls.six (by omega) hn2
  have p0 : ∀ u : Cls W, u.it.cell? ⟨w1.heap.size, 0, none⟩ = some (.int .i64 0) := fun u => (u.cell z2 0).trans m0
  have p1 : ∀ u : Cls W, u.it.cell? ⟨w1.heap.size, 1, none⟩ = some (.int .i64 15) := fun u => (u.cell z2 1).trans m1
  have qn := Cls.any W
  clear m0 m1 hn1 hn2
  refine wp_region_cls (by kernel_rfl) (by kernel_rfl) ?_
  repeat (go_big_quiet_step (first
    | (go_at_call 86; exact Calls.cls_of (xs_any x y lo hi i o _))
    | (go_at_call 88; exact Calls.cls_of (ys_any x y lo hi i o _))
    | (go_at_call 89; exact Calls.cls_of (levels_any x y lo hi i o _))
    | (go_at_call 92; exact Calls.cls_of (ticks_any x y lo hi i o _))
    | (go_at_call 91; exact Calls.cls_of (upLevel_any 6 _))
    | (go_at_call 94; exact Calls.cls_of (upTick_any 10000 _))
    | (go_at_call 87; exact Calls.cls_of (liesCell_val _ _ _ _ _ _ (by first | exact h1 | exact h2)))
    | (go_at_call 90; exact Calls.cls_of (liesLevel_val lo hi 0 6 _ _ h3))
    | (go_at_call 93; exact Calls.cls_of (liesTick_any i o 0 10000 _))))
  refine wpQuiet_nil ?_
  rintro _ ⟨u, rfl⟩
  clear q0 q1 q2 q3 q4 q5 p0 p1 qn
  go_wp2
  go_ret
  exact ⟨by rw [ER.out]; simp [*], B2.trans (u.same.mono B2.size)⟩
set_option maxHeartbeats 4000000 in
theorem boxOk_d (x y lo hi i o : Int) (w : World) (h1 : liesB x x 0 15 = true) (h2 : liesB y y 0 15 = true) (h3 : liesB lo hi 0 6 = true) :
    Calls Tryz.prog 80 #[.agg #[.int .i64 x, .int .i64 y, .int .i64 lo, .int .i64 hi, .int .i64 i, .int .i64 o]] w fun e w' => e = .returned (.bool (boxB ⟨x, y, lo, hi, i, o⟩)) ∧ Below w.heap.size w w' := by
  have ER : Hid (boxB ⟨x, y, lo, hi, i, o⟩ = (liesB x x 0 15 && liesB y y 0 15 && liesB lo hi 0 6 && liesB i o 0 10000)) := boxB_lies _
  have hn := box_new w ⟨x, y, lo, hi, i, o⟩ 51
  go_enter Tryz.func80, Tryz.ntmps80
  go_wp2_with fail
  refine (upCell_any _ _).mono ?_
  rintro e w1 ⟨rfl, hb1⟩
  have hn1 := range_below hn hb1 (by simp)
  have B1 : Below w.heap.size w w1 := (bel1 _).trans (hb1.mono (by simp))
  have z1 : w.heap.size < w1.heap.size := by have := hb1.size; simp at this; omega
  clear hn hb1
  go_wp2
  have hn2 := World.rangeAt_alloc hn1 (.cells #[.int .i64 0, .int .i64 15] 114)
  have m0 : (w1.alloc (.cells #[.int .i64 0, .int .i64 15] 114)).cell? ⟨w1.heap.size, 0, none⟩ = some (.int .i64 0) := by simp [go_sem]
  have m1 : (w1.alloc (.cells #[.int .i64 0, .int .i64 15] 114)).cell? ⟨w1.heap.size, 1, none⟩ = some (.int .i64 15) := by simp [go_sem]
  have z2 : w1.heap.size < (w1.alloc (.cells #[.int .i64 0, .int .i64 15] 114)).heap.size := by simp
  have B2 := B1.trans ((bel1 (w := w1) (.cells #[.int .i64 0, .int .i64 15] 114)).mono B1.size)
  generalize w1.alloc (.cells #[.int .i64 0, .int .i64 15] 114) = W at *
  obtain ⟨q0, q1, q2, q3, q4, q5⟩ := Cls.six (by omega) hn2
  have p0 : ∀ u : Cls W, u.it.cell? ⟨w1.heap.size, 0, none⟩ = some (.int .i64 0) := fun u => (u.cell z2 0).trans m0
  have p1 : ∀ u : Cls W, u.it.cell? ⟨w1.heap.size, 1, none⟩ = some (.int .i64 15) := fun u => (u.cell z2 1).trans m1
  have qn := Cls.any W
  clear m0 m1 hn1 hn2
  refine wp_region_cls (by kernel_rfl) (by kernel_rfl) ?_
  repeat (go_big_quiet_step (first
    | (go_at_call 86; exact Calls.cls_of (xs_any x y lo hi i o _))
    | (go_at_call 88; exact Calls.cls_of (ys_any x y lo hi i o _))
    | (go_at_call 89; exact Calls.cls_of (levels_any x y lo hi i o _))
    | (go_at_call 92; exact Calls.cls_of (ticks_any x y lo hi i o _))
    | (go_at_call 91; exact Calls.cls_of (upLevel_any 6 _))
    | (go_at_call 94; exact Calls.cls_of (upTick_any 10000 _))
    | (go_at_call 87; exact Calls.cls_of (liesCell_val _ _ _ _ _ _ (by first | exact h1 | exact h2)))
    | (go_at_call 90; exact Calls.cls_of (liesLevel_val lo hi 0 6 _ _ h3))
    | (go_at_call 93; exact Calls.cls_of (liesTick_any i o 0 10000 _))))
  refine wpQuiet_nil ?_
  rintro _ ⟨u, rfl⟩
  clear q0 q1 q2 q3 q4 q5 p0 p1 qn
  go_wp2
  go_ret
  exact ⟨by rw [ER.out]; simp [*], B2.trans (u.same.mono B2.size)⟩
theorem boxOk_any (x y lo hi i o : Int) (w : World) :
    Calls Tryz.prog 80 #[.agg #[.int .i64 x, .int .i64 y, .int .i64 lo, .int .i64 hi, .int .i64 i, .int .i64 o]] w fun e w' => e = .returned (.bool (boxB ⟨x, y, lo, hi, i, o⟩)) ∧ Below w.heap.size w w' := by
  cases h1 : liesB x x 0 15
  · exact boxOk_a x y lo hi i o w h1
  cases h2 : liesB y y 0 15
  · exact boxOk_b x y lo hi i o w h1 h2
  cases h3 : liesB lo hi 0 6
  · exact boxOk_c x y lo hi i o w h1 h2 h3
  · exact boxOk_d x y lo hi i o w h1 h2 h3
theorem boxOk_val (s : Bx) (v : Bool) (w : World) (hv : boxB s = v) :
    Calls Tryz.prog 80 #[s.val] w fun e w' => e = .returned (.bool v) ∧ Below w.heap.size w w' := by
  rw [← hv]; exact boxOk_any s.x s.y s.lo s.hi s.in_ s.out w
end Go.Proofs.YtgkebobmfagklaaGreat

namespace Go.Proofs.YtgkebobmfagklaaGreat
open Go.RowKit

theorem lane_any (t : Tb) (w : World) :
    Calls Tryz.prog 31 #[t.val] w fun e w' => e = .returned t.val ∧ Below w.heap.size w w' := by
  go_enter Tryz.func31, Tryz.ntmps31
  go_wp2
  exact bodyPost_ret (v := t.val) (by simp [results, Tryz.results31, go_sem]) rfl ⟨rfl, bel2 _ _⟩

set_option maxHeartbeats 1000000 in
theorem allOk_any (a : Option Addr) (b o cap : Nat) (l : List Bx) (w : World) (hl : l.length ≤ 1048576) (hs : BoxesAt w a b o l) :
    Calls Tryz.prog 64 #[.slice a l.length cap] w fun e w' => e = .returned (.bool (l.all boxB)) ∧ Below w.heap.size w w' := by
  go_enter Tryz.func64, Tryz.ntmps64
  go_wp2
  go_loopw [7] (fun v wr => ∃ k : Nat, k ≤ l.length ∧ v = .int .i64 k ∧ Below w.heap.size w wr ∧ (l.take k).all boxB = true) (fun v _ => l.length - (intOf v).toNat)
  case atStart => exact ⟨0, Nat.zero_le _, rfl, Below.refl _ _, rfl⟩
  case round =>
    obtain ⟨k, hk, rfl, hb, hall⟩ := hrel
    have HA : Hid ((l.take k).all boxB = true) := hall
    clear hall
    by_cases hlt : k < l.length
    · obtain ⟨s, hsk⟩ : ∃ s, l[k]? = some s := ⟨l[k], List.getElem?_eq_getElem hlt⟩
      have hne : l ≠ [] := by intro e; subst e; simp at hlt
      obtain rfl := hs.here hne
      have hbw := hs.lt hne
      obtain ⟨d0, d1, d2, d3, d4, d5⟩ := (hs.below hb (fun _ => hbw)).six hsk
      have k0 : (0 : Int) ≤ (k : Int) := by omega
      have k1 : (k : Int) < (l.length : Int) := by omega
      have HS : Hid (l[k]? = some s) := hsk
      clear hsk
      cases hh : boxB s with
      | true =>
        have HB : Hid (boxB s = true) := hh
        clear hh
        go_wp2_with fail
        refine (boxOk_val s true _ HB.out).mono ?_
        rintro e w2 ⟨rfl, hb2⟩
        clear d0 d1 d2 d3 d4 d5
        have B2 := (hb.alloc hb.size (.cells #[.int .i64 s.x, .int .i64 s.y, .int .i64 s.lo, .int .i64 s.hi, .int .i64 s.in_, .int .i64 s.out] 51)).trans (hb2.mono (by simp; have := hb.size; omega))
        go_wp2
        go_roundw
        case rel => exact ⟨k + 1, by omega, by go_num, B2, by rw [all_take l boxB HS.out, HA.out, HB.out]; rfl⟩
        case measure => simp [intOf]; omega
      | false =>
        have HB : Hid (boxB s = false) := hh
        clear hh
        go_wp2_with fail
        refine (boxOk_val s false _ HB.out).mono ?_
        rintro e w2 ⟨rfl, hb2⟩
        clear d0 d1 d2 d3 d4 d5
        have B2 := (hb.alloc hb.size (.cells #[.int .i64 s.x, .int .i64 s.y, .int .i64 s.lo, .int .i64 s.hi, .int .i64 s.in_, .int .i64 s.out] 51)).trans (hb2.mono (by simp; have := hb.size; omega))
        go_wp2
        go_ret
        exact ⟨by rw [all_miss HS.out HB.out]; rfl, B2⟩
    · obtain rfl : k = l.length := by omega
      go_wp2
      go_ret
      have e1 := HA.out
      rw [List.take_length] at e1
      exact ⟨by rw [e1]; rfl, hb⟩

theorem laneName_any (t : Tb) (w : World) :
    Calls Tryz.prog 46 #[t.val] w fun e w' => e = .returned (.bool (nameB t.nm)) ∧ Below w.heap.size w w' := by
  go_enter Tryz.func46, Tryz.ntmps46
  go_wp2_with fail
  refine (isName_any _ _).mono ?_
  rintro e w1 ⟨rfl, hb1⟩
  go_wp2
  go_ret
  exact ⟨rfl, (bel1 _).trans (hb1.mono (by simp))⟩
theorem laneRoom_any (t : Tb) (w : World) :
    Calls Tryz.prog 47 #[t.val] w fun e w' => e = .returned (.bool (decide (t.l.length ≤ 40))) ∧ Below w.heap.size w w' := by
  have e1 : decide (t.l.length ≤ 40) = decide ((t.l.length : Int) ≤ 40) := by rw [Bool.eq_iff_iff]; simp; omega
  rw [e1]
  clear e1
  go_enter Tryz.func47, Tryz.ntmps47
  go_wp2
  go_ret
  exact ⟨rfl, bel1 _⟩
theorem laneBoxes_any (t : Tb) (w : World) (hl : t.l.length ≤ 1048576) (h : TubeAt w t) :
    Calls Tryz.prog 48 #[t.val] w fun e w' => e = .returned (.bool (t.l.all boxB)) ∧ Below w.heap.size w w' := by
  go_enter Tryz.func48, Tryz.ntmps48
  go_wp2_with fail
  refine (allOk_any _ t.b t.o _ _ _ hl (h.at_.below (bel1 _) h.at_.lt)).mono ?_
  rintro e w1 ⟨rfl, hb1⟩
  go_wp2
  go_ret
  exact ⟨rfl, (bel1 _).trans (hb1.mono (by simp))⟩

/-- The three checks of a tube lie in block c. -/
structure Chk (W : World) (c : Nat) : Prop where
  lt : c < W.heap.size
  f0 : W.cell? ⟨c, 0, none⟩ = some (.func (.func 46) #[] #[])
  f1 : W.cell? ⟨c, 1, none⟩ = some (.func (.func 47) #[] #[])
  f2 : W.cell? ⟨c, 2, none⟩ = some (.func (.func 48) #[] #[])
theorem Chk.keep {W W' : World} {c : Nat} (h : Chk W c) (hb : Below W.heap.size W W') : Chk W' c :=
  ⟨Nat.lt_of_lt_of_le h.lt hb.size, (hb.cell (p := ⟨c, 0, none⟩) h.lt).trans h.f0, (hb.cell (p := ⟨c, 1, none⟩) h.lt).trans h.f1, (hb.cell (p := ⟨c, 2, none⟩) h.lt).trans h.f2⟩

/-- The check at place i. -/
def tchk (t : Tb) : Nat → Bool
  | 0 => nameB t.nm
  | 1 => decide (t.l.length ≤ 40)
  | _ => t.l.all boxB
def tchkTo (t : Tb) (k : Nat) : Bool := (List.range k).all (tchk t)
theorem tchkTo_three (t : Tb) : tchkTo t 3 = tubeB t := by simp [tchkTo, List.range_succ, tchk, tubeB, Bool.and_assoc]
theorem tchkTo_succ (t : Tb) (k : Nat) : tchkTo t (k + 1) = (tchkTo t k && tchk t k) := by simp [tchkTo, List.range_succ, List.all_append]
theorem tchkTo_not {t : Tb} {k : Nat} (hk : k < 3) (h : tchk t k = false) : tchkTo t 3 = false := by
  unfold tchkTo
  rw [List.all_eq_false]
  exact ⟨k, by simpa using hk, by simp [h]⟩

set_option maxHeartbeats 2000000 in
theorem allPass_any (t : Tb) (c : Nat) (w : World) (hl : t.l.length ≤ 1048576) (h : TubeAt w t) (hc : Chk w c) :
    Calls Tryz.prog 45 #[t.val, .slice (some ⟨c, 0, none⟩) 3 3] w fun e w' => e = .returned (.bool (tubeB t)) ∧ Below w.heap.size w w' := by
  have H3 : Hid (tchkTo t 3 = tubeB t) := tchkTo_three t
  have T0 := TubeIn.new w t 69
  have C0 := hc.keep (bel1 (.cells #[.string t.nm, .slice t.a t.l.length t.cap] 69))
  go_enter Tryz.func45, Tryz.ntmps45
  go_wp2
  go_loopw [9] (fun v wr => ∃ k : Nat, k ≤ 3 ∧ v = .int .i64 k ∧ Below w.heap.size w wr ∧ TubeIn wr w.heap.size t ∧ Chk wr c ∧ tchkTo t k = true) (fun v _ => 3 - (intOf v).toNat)
  case atStart => exact ⟨0, by omega, rfl, bel1 _, T0, C0, rfl⟩
  case round =>
    obtain ⟨k, hk, rfl, hb, hT, hC, hall⟩ := hrel
    have HG : Hid (tchkTo t k = true) := hall
    clear hall T0 C0
    have step : ∀ v, tchk t k = v → Hid (tchkTo t (k + 1) = v) := fun v hv => by
      show _ = _; rw [tchkTo_succ, HG.out, hv]; rfl
    have stop : k < 3 → tchk t k = false → Hid (tubeB t = false) := fun h hv => by
      show _ = _; rw [← H3.out]; exact tchkTo_not h hv
    have c0 := hT.c0
    have c1 := hT.c1
    have hs1 := h.below hb
    rcases (show k = 0 ∨ k = 1 ∨ k = 2 ∨ k = 3 by omega) with rfl | rfl | rfl | rfl
    · have f := hC.f0
      cases hv : nameB t.nm with
      | false =>
        have G := stop (by omega) hv
        have HV : Hid (nameB t.nm = false) := hv
        clear step stop hv
        go_wp2_with (go_at_call 46; refine (laneName_any t _).mono ?_; rw [HV.out]; rintro e w2 ⟨rfl, hb2⟩)
        go_ret
        exact ⟨by rw [G.out]; rfl, hb.trans (hb2.mono hb.size)⟩
      | true =>
        have G := step _ hv
        have HV : Hid (nameB t.nm = true) := hv
        clear step stop hv
        go_wp2_with (go_at_call 46; refine (laneName_any t _).mono ?_; rw [HV.out]; rintro e w2 ⟨rfl, hb2⟩)
        go_roundw
        case rel => exact ⟨1, by omega, by go_num, hb.trans (hb2.mono hb.size), hT.keep hb2, hC.keep hb2, G.out⟩
        case measure => simp [intOf]
    · have f := hC.f1
      cases hv : decide (t.l.length ≤ 40) with
      | false =>
        have G := stop (by omega) hv
        have HV : Hid (decide (t.l.length ≤ 40) = false) := hv
        clear step stop hv
        go_wp2_with (go_at_call 47; refine (laneRoom_any t _).mono ?_; rw [HV.out]; rintro e w2 ⟨rfl, hb2⟩)
        go_ret
        exact ⟨by rw [G.out]; rfl, hb.trans (hb2.mono hb.size)⟩
      | true =>
        have G := step _ hv
        have HV : Hid (decide (t.l.length ≤ 40) = true) := hv
        clear step stop hv
        go_wp2_with (go_at_call 47; refine (laneRoom_any t _).mono ?_; rw [HV.out]; rintro e w2 ⟨rfl, hb2⟩)
        go_roundw
        case rel => exact ⟨2, by omega, by go_num, hb.trans (hb2.mono hb.size), hT.keep hb2, hC.keep hb2, G.out⟩
        case measure => simp [intOf]
    · have f := hC.f2
      cases hv : t.l.all boxB with
      | false =>
        have G := stop (by omega) hv
        have HV : Hid (t.l.all boxB = false) := hv
        clear step stop hv
        go_wp2_with (go_at_call 48; refine (laneBoxes_any t _ hl hs1).mono ?_; rw [HV.out]; rintro e w2 ⟨rfl, hb2⟩)
        go_ret
        exact ⟨by rw [G.out]; rfl, hb.trans (hb2.mono hb.size)⟩
      | true =>
        have G := step _ hv
        have HV : Hid (t.l.all boxB = true) := hv
        clear step stop hv
        go_wp2_with (go_at_call 48; refine (laneBoxes_any t _ hl hs1).mono ?_; rw [HV.out]; rintro e w2 ⟨rfl, hb2⟩)
        go_roundw
        case rel => exact ⟨3, by omega, by go_num, hb.trans (hb2.mono hb.size), hT.keep hb2, hC.keep hb2, G.out⟩
        case measure => simp [intOf]
    · clear step stop
      go_wp2
      go_ret
      exact ⟨by rw [← H3.out, HG.out]; rfl, hb⟩

theorem tubeOk_any (t : Tb) (w : World) (hl : t.l.length ≤ 1048576) (h : TubeAt w t) :
    Calls Tryz.prog 30 #[t.val] w fun e w' => e = .returned (.bool (tubeB t)) ∧ Below w.heap.size w w' := by
  go_enter Tryz.func30, Tryz.ntmps30
  go_wp2_with fail
  refine (lane_any _ _).mono ?_
  rintro e w1 ⟨rfl, hb1⟩
  have B1 : Below w.heap.size w w1 := (bel1 _).trans (hb1.mono (by simp))
  clear hb1
  go_wp2_with fail
  refine (allPass_any t w1.heap.size _ hl ((h.below B1).below (bel1 _)) ⟨by simp, by simp [go_sem], by simp [go_sem], by simp [go_sem]⟩).mono ?_
  rintro e w2 ⟨rfl, hb2⟩
  go_wp2
  go_ret
  exact ⟨rfl, (B1.alloc B1.size _).trans (hb2.mono (by simp; have := B1.size; omega))⟩
theorem tubeOk_val (t : Tb) (v : Bool) (w : World) (hl : t.l.length ≤ 1048576) (h : TubeAt w t) (hv : tubeB t = v) :
    Calls Tryz.prog 30 #[t.val] w fun e w' => e = .returned (.bool v) ∧ Below w.heap.size w w' := by
  rw [← hv]; exact tubeOk_any t w hl h
theorem tubeOkS_val (t : Tb) (v : Bool) (w : World) (hl : t.l.length ≤ 1048576) (h : TubeAt w t) (hv : tubeB t = v) :
    Calls Tryz.prog 26 #[t.val] w fun e w' => e = .returned (.bool v) ∧ Below w.heap.size w w' := by
  rw [← hv]; exact tubeOkS_any t w hl h
end Go.Proofs.YtgkebobmfagklaaGreat

namespace Go.Proofs.YtgkebobmfagklaaGreat
open Go.RowKit

theorem eqPbox_same (x y lo hi i o : Int) (w : World) :
    Calls Tryz.prog 33 #[.agg #[.int .i64 x, .int .i64 y, .int .i64 lo, .int .i64 hi, .int .i64 i, .int .i64 o], .agg #[.int .i64 x, .int .i64 y, .int .i64 lo, .int .i64 hi, .int .i64 i, .int .i64 o]] w
      fun e w' => e = .returned (.bool true) ∧ Below w.heap.size w w' := by
  go_enter Tryz.func33, Tryz.ntmps33
  go_wp2
  go_ret
  exact ⟨rfl, ((Below.refl _ _).alloc (Nat.le_refl _) _).alloc (by simp) _⟩

set_option maxHeartbeats 1000000 in
theorem eqPboxes_same (a a' : Option Addr) (b o cap b' o' cap' : Nat) (l : List Bx) (w : World) (hl : l.length ≤ 1048576) (hs : BoxesAt w a b o l) (hs' : BoxesAt w a' b' o' l) :
    Calls Tryz.prog 20 #[.slice a l.length cap, .slice a' l.length cap'] w fun e w' => e = .returned (.bool true) ∧ Below w.heap.size w w' := by
  go_enter Tryz.func20, Tryz.ntmps20
  go_wp2
  go_loopw [5] (fun v wr => ∃ k : Nat, k ≤ l.length ∧ v = .int .i64 k ∧ Below w.heap.size w wr) (fun v _ => l.length - (intOf v).toNat)
  case atStart => exact ⟨0, Nat.zero_le _, rfl, Below.refl _ _⟩
  case round =>
    obtain ⟨k, hk, rfl, hb⟩ := hrel
    by_cases hlt : k < l.length
    · obtain ⟨s, hsk⟩ : ∃ s, l[k]? = some s := ⟨l[k], List.getElem?_eq_getElem hlt⟩
      have hne : l ≠ [] := by intro e; subst e; simp at hlt
      obtain rfl := hs.here hne
      obtain rfl := hs'.here hne
      have hbw := hs.lt hne
      have hbw' := hs'.lt hne
      obtain ⟨c0, c1, c2, c3, c4, c5⟩ := (hs.below hb (fun _ => hbw)).six hsk
      obtain ⟨d0, d1, d2, d3, d4, d5⟩ := (hs'.below hb (fun _ => hbw')).six hsk
      have k0 : (0 : Int) ≤ (k : Int) := by omega
      have k1 : (k : Int) < (l.length : Int) := by omega
      have hbx : b < wr.heap.size := Nat.lt_of_lt_of_le hbw hb.size
      have hbx' : b' < wr.heap.size := Nat.lt_of_lt_of_le hbw' hb.size
      have HS : Hid (l[k]? = some s) := hsk
      clear hsk
      go_wp2
      go_region_held3 (fun w' => w'.cell? ⟨b, o + k * 6, none⟩ = some (.int .i64 s.x) ∧ w'.cell? ⟨b, o + k * 6 + 1, none⟩ = some (.int .i64 s.y) ∧ w'.cell? ⟨b, o + k * 6 + 2, none⟩ = some (.int .i64 s.lo) ∧ w'.cell? ⟨b, o + k * 6 + 3, none⟩ = some (.int .i64 s.hi) ∧ w'.cell? ⟨b, o + k * 6 + 4, none⟩ = some (.int .i64 s.in_) ∧ w'.cell? ⟨b, o + k * 6 + 5, none⟩ = some (.int .i64 s.out) ∧
        w'.cell? ⟨b', o' + k * 6, none⟩ = some (.int .i64 s.x) ∧ w'.cell? ⟨b', o' + k * 6 + 1, none⟩ = some (.int .i64 s.y) ∧ w'.cell? ⟨b', o' + k * 6 + 2, none⟩ = some (.int .i64 s.lo) ∧ w'.cell? ⟨b', o' + k * 6 + 3, none⟩ = some (.int .i64 s.hi) ∧ w'.cell? ⟨b', o' + k * 6 + 4, none⟩ = some (.int .i64 s.in_) ∧ w'.cell? ⟨b', o' + k * 6 + 5, none⟩ = some (.int .i64 s.out))
        (simp [go_sem, *])
        (first | (go_at_call 33; refine (eqPbox_same _ _ _ _ _ _ _).mono ?_; rintro e w1 ⟨rfl, hb1⟩; have hc1 : ∀ j, w1.cell? ⟨b, j, none⟩ = wr.cell? ⟨b, j, none⟩ := fun j => hb1.cell (p := ⟨b, j, none⟩) hbx; have hc2 : ∀ j, w1.cell? ⟨b', j, none⟩ = wr.cell? ⟨b', j, none⟩ := fun j => hb1.cell (p := ⟨b', j, none⟩) hbx'))
      go_wp2
      go_roundw
      case rel => exact ⟨k + 1, by omega, by go_num, hb.drew.trans (hb1.mono hb.size)⟩
      case measure => simp [intOf]; omega
    · go_wp2
      go_ret
      exact ⟨rfl, hb⟩

end Go.Proofs.YtgkebobmfagklaaGreat

namespace Go.Proofs.YtgkebobmfagklaaGreat
open Go.RowKit

theorem eqTube_same (t u : Tb) (w : World) (hn : t.nm = u.nm) (hl : t.l = u.l) (hle : t.l.length ≤ 1048576) (ht : TubeAt w t) (hu : TubeAt w u) :
    Calls Tryz.prog 8 #[t.val, u.val] w fun e w' => e = .returned (.bool true) ∧ Below w.heap.size w w' := by
  obtain ⟨nm, a, b, o, cap, l⟩ := t
  obtain ⟨nm', a', b', o', cap', l'⟩ := u
  simp only at hn hl hle
  subst hn hl
  go_enter Tryz.func8, Tryz.ntmps8
  go_wp2_with fail
  refine (eqPboxes_same _ _ b o _ b' o' _ l _ hle (ht.at_.below (bel2 _ _) ht.at_.lt) (hu.at_.below (bel2 _ _) hu.at_.lt)).mono ?_
  rintro e w1 ⟨rfl, hb1⟩
  go_wp2
  go_ret
  exact ⟨rfl, (bel2 _ _).trans (hb1.mono (by simp; omega))⟩
end Go.Proofs.YtgkebobmfagklaaGreat

namespace Go.Proofs.YtgkebobmfagklaaGreat
open Go.RowKit

theorem pbox_info : (Tryz.prog.info? 51).map (fun i => (i.zero, i.size, i.bytes)) = some (some (.agg #[.int .i64 0, .int .i64 0, .int .i64 0, .int .i64 0, .int .i64 0, .int .i64 0]), 6, 48) := by kernel_rfl
end Go.Proofs.YtgkebobmfagklaaGreat

namespace Go.Proofs.YtgkebobmfagklaaGreat
open Go.RowKit

theorem old_allocC {W : World} {B : Nat} (hB : B < W.heap.size) : ∀ (ob : Obj) (j : Nat), (W.alloc ob).cell? ⟨B, j, none⟩ = W.cell? ⟨B, j, none⟩ := fun ob j => (bel1 ob).cell (p := ⟨B, j, none⟩) hB

/-- What ProbeCut answers. -/
def cutNm (t : Tb) : ByteArray := if tubeB t then t.nm else ⟨#[]⟩
def cutBx (t : Tb) (n : Int) : List Bx := if tubeB t then cutL n t.l else []
theorem cutBx_len (t : Tb) (n : Int) : (cutBx t n).length ≤ t.l.length := by
  unfold cutBx; split
  · exact cutL_len n _
  · simp

/-- The blocks of the call: the tube, the answer, what has been laid up to now. -/
structure CutW (w wr : World) (t : Tb) (v : Value) (m : List Bx) : Prop where
  old : Below w.heap.size w wr
  tube : wr.heap[w.heap.size]? = some (.cells #[.string t.nm, .slice t.a t.l.length t.cap] 30 (0, 0))
  res : wr.heap[w.heap.size + 1]? = some (.cells #[.string ⟨#[]⟩, .slice none 0 0] 30 (0, 0))
  out : wr.heap[w.heap.size + 1 + 1]? = some (.cells #[.string t.nm, v] 30 (0, 0))
  own : wr.ownsRow (w.heap.size + 1 + 1 + 1) 51 6 v m.length (rowC m)
theorem CutW.lt {w wr : World} {t : Tb} {v : Value} {m : List Bx} (h : CutW w wr t v m) : w.heap.size + 1 + 1 < wr.heap.size := lt_of_block h.out
theorem CutW.keep {w wr w2 : World} {t : Tb} {v : Value} {m : List Bx} (h : CutW w wr t v m) (hb : Below wr.heap.size wr w2) : CutW w w2 t v m :=
  ⟨h.old.trans (hb.mono h.old.size), (hb.block _ (lt_of_block h.tube)).trans h.tube, (hb.block _ (lt_of_block h.res)).trans h.res, (hb.block _ (lt_of_block h.out)).trans h.out, owns_below h.own hb⟩
theorem CutW.push {w W w' : World} {t : Tb} {v v' : Value} {m : List Bx} {s : Bx} (h : CutW w W t v m) (ho : w'.ownsRow (w.heap.size + 1 + 1 + 1) 51 6 v' (m.length + 1) (rowC m ++ s.cells)) (hg : W.grownBy w' v.ownBlock) :
    CutW w (w'.setCell ⟨w.heap.size + 1 + 1, 1, none⟩ v') t v' (m ++ [s]) := by
  have hbase := owns_base h.own
  have ne : ∀ k, k < w.heap.size + 1 + 1 + 1 → some k ≠ v.ownBlock := fun k hk e => by have := hbase k e.symm; omega
  have z := h.lt
  have h1 : w'.heap[w.heap.size + 1 + 1]? = some (.cells #[.string t.nm, v] 30 (0, 0)) := (hg.block _ z (ne _ (by omega))).trans h.out
  refine ⟨?_, ?_, ?_, ?_, ?_⟩
  · exact (h.old.grown hg h.old.size (fun k e => by have := hbase k e; omega)).setCell (by show _ ≤ w.heap.size + 1 + 1; omega) _
  · rw [heap_setCell_other _ _ _ _ (by show w.heap.size ≠ w.heap.size + 1 + 1; omega)]
    exact (hg.block _ (by omega) (ne _ (by omega))).trans h.tube
  · rw [heap_setCell_other _ _ _ _ (by show w.heap.size + 1 ≠ w.heap.size + 1 + 1; omega)]
    exact (hg.block _ (by omega) (ne _ (by omega))).trans h.res
  · exact blk2_set1 h1 v'
  · rw [rowC_snoc, List.length_append]
    exact owns_set ho (fun k e => by have := owns_base ho k e; omega) _ _
theorem CutW.new (w w1 : World) (t : Tb) (hb : Below (((w.alloc (.cells #[.string t.nm, .slice t.a t.l.length t.cap] 30)).alloc (.cells #[.string ⟨#[]⟩, .slice none 0 0] 30)).alloc (.cells #[.string t.nm, .slice none 0 0] 30)).heap.size (((w.alloc (.cells #[.string t.nm, .slice t.a t.l.length t.cap] 30)).alloc (.cells #[.string ⟨#[]⟩, .slice none 0 0] 30)).alloc (.cells #[.string t.nm, .slice none 0 0] 30)) w1) :
    CutW w w1 t (.slice none 0 0) [] where
  old := (bel3 _ _ _).trans (hb.mono (by simp; omega))
  tube := (hb.block _ (by simp; omega)).trans ((Below.heap_alloc _ _ _ (by simp <;> omega)).trans ((Below.heap_alloc _ _ _ (by simp)).trans (heap_alloc_new w _)))
  res := (hb.block _ (by simp <;> omega)).trans ((Below.heap_alloc _ _ _ (by simp)).trans (by have := heap_alloc_new (w.alloc (.cells #[.string t.nm, .slice t.a t.l.length t.cap] 30)) (.cells #[.string ⟨#[]⟩, .slice none 0 0] 30); rwa [World.size_alloc] at this))
  out := (hb.block _ (by simp)).trans (by have := heap_alloc_new ((w.alloc (.cells #[.string t.nm, .slice t.a t.l.length t.cap] 30)).alloc (.cells #[.string ⟨#[]⟩, .slice none 0 0] 30)) (.cells #[.string t.nm, .slice none 0 0] 30); rwa [World.size_alloc, World.size_alloc] at this)
  own := World.ownsRow_nil _ _ _ _

theorem CutW.grow {w W w' : World} {t : Tb} {v : Value} {m : List Bx} (h : CutW w W t v m) (hg : W.grownBy w' v.ownBlock) : w'.heap[w.heap.size + 1 + 1]? = some (.cells #[.string t.nm, v] 30 (0, 0)) :=
  (hg.block _ h.lt (fun e => by have := owns_base h.own _ e.symm; omega)).trans h.out
theorem owns_slice {w : World} {base e size n : Nat} {v : Value} {xs : List Value} (h : w.ownsRow base e size v n xs) : ∃ a c, v = .slice a n c := by
  rcases h.2 with ⟨rfl, rfl⟩ | ⟨g, cap, cur, rfl, _⟩
  · exact ⟨none, 0, rfl⟩
  · exact ⟨_, _, rfl⟩
theorem owns_lower {w : World} {base base' e size n : Nat} {v : Value} {xs : List Value} (h : w.ownsRow base e size v n xs) (hb : base' ≤ base) : w.ownsRow base' e size v n xs :=
  ⟨h.1, h.2.imp id fun ⟨g, cap, cur, h1, h2, h3⟩ => ⟨g, cap, cur, h1, Nat.le_trans hb h2, h3⟩⟩

set_option maxHeartbeats 4000000 in
set_option maxRecDepth 20000 in
theorem cutS_any (nm : ByteArray) (a : Option Addr) (b o cap : Nat) (l : List Bx) (n : Int) (w : World) (hl : l.length ≤ 1048576) (hs : BoxesAt w a b o l) :
    Calls Tryz.prog 14 #[.agg #[.string nm, .slice a l.length cap], .int .i64 n] w
      fun e w' => ∃ v, e = .returned (.agg #[.string (cutNm ⟨nm, a, b, o, cap, l⟩), v]) ∧ w'.ownsRow w.heap.size 51 6 v (cutBx ⟨nm, a, b, o, cap, l⟩ n).length (rowC (cutBx ⟨nm, a, b, o, cap, l⟩ n)) ∧ Below w.heap.size w w' := by
  obtain ⟨i0, hi, hz0, hz1, hz2⟩ := info_parts pbox_info
  have A0 : TubeAt w ⟨nm, a, b, o, cap, l⟩ := ⟨hs⟩
  cases h1 : tubeB ⟨nm, a, b, o, cap, l⟩ with
  | false =>
    have G : Hid (cutNm ⟨nm, a, b, o, cap, l⟩ = ⟨#[]⟩ ∧ cutBx ⟨nm, a, b, o, cap, l⟩ n = []) := by show _ ∧ _; unfold cutNm cutBx; rw [h1]; simp
    have H1 : Hid (tubeB ⟨nm, a, b, o, cap, l⟩ = false) := h1
    clear h1
    go_enter Tryz.func14, Tryz.ntmps14
    go_wp2_with fail
    refine (tubeOkS_val ⟨nm, a, b, o, cap, l⟩ false _ hl (A0.below (bel3 _ _ _)) H1.out).mono ?_
    rintro e w1 ⟨rfl, hb1⟩
    have C := CutW.new w w1 ⟨nm, a, b, o, cap, l⟩ hb1
    obtain ⟨r0, r1, rf⟩ := blk2 C.res
    clear hb1
    go_wp2
    refine bodyPost_ret (v := .agg #[.string ⟨#[]⟩, .slice none 0 0]) (by simp [results, Tryz.results14, go_sem, *]) rfl ⟨.slice none 0 0, by rw [G.out.1], by rw [G.out.2]; exact World.ownsRow_nil _ _ _ _, ?_⟩
    iterate 2 (refine Below.setCell ?_ (by simp) _)
    exact C.old
  | true =>
    have G : Hid (cutNm ⟨nm, a, b, o, cap, l⟩ = nm ∧ cutBx ⟨nm, a, b, o, cap, l⟩ n = cutL n l) := by show _ ∧ _; unfold cutNm cutBx; rw [h1]; simp
    have H1 : Hid (tubeB ⟨nm, a, b, o, cap, l⟩ = true) := h1
    clear h1
    go_enter Tryz.func14, Tryz.ntmps14
    go_wp2_with fail
    refine (tubeOkS_val ⟨nm, a, b, o, cap, l⟩ true _ hl (A0.below (bel3 _ _ _)) H1.out).mono ?_
    rintro e w1 ⟨rfl, hb1⟩
    have C0 := CutW.new w w1 ⟨nm, a, b, o, cap, l⟩ hb1
    clear hb1 A0
    go_wp2
    go_loopw [6] (fun x wr => ∃ (k : Nat) (v : Value), k ≤ l.length ∧ x = .int .i64 k ∧ CutW w wr ⟨nm, a, b, o, cap, l⟩ v (cutL n (l.take k))) (fun x _ => l.length - (intOf x).toNat)
    case atStart => exact ⟨0, _, Nat.zero_le _, rfl, C0⟩
    case round =>
      clear C0
      obtain ⟨k, v, hk, rfl, hC⟩ := hrel
      obtain ⟨t0, t1, tf⟩ := blk2 hC.tube
      by_cases hlt : k < l.length
      · obtain ⟨s, hsk⟩ : ∃ s, l[k]? = some s := ⟨l[k], List.getElem?_eq_getElem hlt⟩
        have hne : l ≠ [] := by intro e; subst e; simp at hlt
        obtain rfl := hs.here hne
        have hbw := hs.lt hne
        obtain ⟨c0, c1, c2, c3, c4, c5⟩ := (hs.below hC.old (fun _ => hbw)).six hsk
        have k0 : (0 : Int) ≤ (k : Int) := by omega
        have k1 : (k : Int) < (l.length : Int) := by omega
        have HS : Hid (l[k]? = some s) := hsk
        have zC := hC.lt
        have hlen := cutL_len_take n l k
        clear hsk
        by_cases h2 : s.out < n
        · have HT : Hid (cutL n (l.take (k + 1)) = cutL n (l.take k)) := by show _ = _; rw [cutL_take HS.out, if_neg (by omega)]
          go_wp2
          go_roundw
          case rel => exact ⟨k + 1, v, by omega, by go_num, by rw [HT.out]; exact hC.keep (bel1 _)⟩
          case measure => simp [intOf]; omega
        · by_cases h3 : s.in_ < n
          · have HT : Hid (cutL n (l.take (k + 1)) = cutL n (l.take k) ++ [{ s with in_ := n }]) := by show _ = _; rw [cutL_take HS.out, if_pos (by omega), show max s.in_ n = n by omega]
            have C1 := hC.keep (bel1 (.cells #[.int .i64 s.x, .int .i64 s.y, .int .i64 s.lo, .int .i64 s.hi, .int .i64 n, .int .i64 s.out] 51))
            obtain ⟨u0, u1, uf⟩ := blk2 C1.out
            have na := old_allocC zC
            have C2 := C1.keep (bel1 (.cells #[.int .i64 s.x, .int .i64 s.y, .int .i64 s.lo, .int .i64 s.hi, .int .i64 n, .int .i64 s.out] 51))
            go_wp2_with (at_builtin; refine wpList_append_own _ rfl (.tmp 38) (.tmp 40) 28 rfl (w.heap.size + 1 + 1 + 1) 51 i0 (.agg #[.int .i64 0, .int .i64 0, .int .i64 0, .int .i64 0, .int .i64 0, .int .i64 0]) 6 48 Tryz.underlying28 hi hz0 hz1 hz2 rfl (by decide) v _ _ rfl C2.own ⟨wr.heap.size + 1, 0, none⟩ 1 1 (Bx.cells { s with in_ := n }) rfl rfl (six_new2P wr { s with in_ := n } _ _) (by simp [Value.oneCell']) (by unfold maxLen; omega) (by omega) (by simp; omega) ?_; intro v7 w7 hown7 hgrow7 hnil7; obtain ⟨p0, p1, pf⟩ := blk2 (C2.grow hgrow7); obtain ⟨a7, c7, rfl⟩ := owns_slice hown7)
            go_roundw
            case rel => exact ⟨k + 1, _, by omega, by go_num, by rw [HT.out]; exact C2.push hown7 hgrow7⟩
            case measure => simp [intOf]; omega
          · have HT : Hid (cutL n (l.take (k + 1)) = cutL n (l.take k) ++ [s]) := by show _ = _; rw [cutL_take HS.out, if_pos (by omega), show max s.in_ n = s.in_ by omega]
            have C1 := hC.keep (bel1 (.cells #[.int .i64 s.x, .int .i64 s.y, .int .i64 s.lo, .int .i64 s.hi, .int .i64 s.in_, .int .i64 s.out] 51))
            obtain ⟨u0, u1, uf⟩ := blk2 C1.out
            have na := old_allocC zC
            have C2 := C1.keep (bel1 (.cells #[.int .i64 s.x, .int .i64 s.y, .int .i64 s.lo, .int .i64 s.hi, .int .i64 s.in_, .int .i64 s.out] 51))
            go_wp2_with (at_builtin; refine wpList_append_own _ rfl (.tmp 38) (.tmp 40) 28 rfl (w.heap.size + 1 + 1 + 1) 51 i0 (.agg #[.int .i64 0, .int .i64 0, .int .i64 0, .int .i64 0, .int .i64 0, .int .i64 0]) 6 48 Tryz.underlying28 hi hz0 hz1 hz2 rfl (by decide) v _ _ rfl C2.own ⟨wr.heap.size + 1, 0, none⟩ 1 1 (Bx.cells s) rfl rfl (six_new2P wr s _ _) (by simp [Value.oneCell']) (by unfold maxLen; omega) (by omega) (by simp; omega) ?_; intro v7 w7 hown7 hgrow7 hnil7; obtain ⟨p0, p1, pf⟩ := blk2 (C2.grow hgrow7); obtain ⟨a7, c7, rfl⟩ := owns_slice hown7)
            go_roundw
            case rel => exact ⟨k + 1, _, by omega, by go_num, by rw [HT.out]; exact C2.push hown7 hgrow7⟩
            case measure => simp [intOf]; omega
      · obtain rfl : k = l.length := by omega
        rw [List.take_length] at hC
        obtain ⟨va, vc, rfl⟩ := owns_slice hC.own
        obtain ⟨u0, u1, uf⟩ := blk2 hC.out
        obtain ⟨r0, r1, rf⟩ := blk2 hC.res
        go_wp2
        refine bodyPost_ret (v := .agg #[.string nm, .slice va (cutL n l).length vc]) (by simp [results, Tryz.results14, go_sem, *]) rfl ⟨_, by rw [G.out.1], ?_, ?_⟩
        · rw [G.out.2]
          refine owns_lower (base := w.heap.size + 1 + 1 + 1) ?_ (by omega)
          iterate 2 (refine owns_set ?_ (fun k e => by have := owns_base hC.own k e; omega) _ _)
          exact hC.own
        · iterate 2 (refine Below.setCell ?_ (by simp) _)
          exact hC.old
end Go.Proofs.YtgkebobmfagklaaGreat

namespace Go.Proofs.YtgkebobmfagklaaGreat
open Go.RowKit

theorem lane_field (nm : ByteArray) (a : Option Addr) (n c : Nat) (w : World) : (Instr.field 69 (.agg #[.string nm, .slice a n c]) 1).run Tryz.prog w = .ok (.slice a n c) w := by
  simp [Instr.field, part, isAgg, asAgg, run_underlying Tryz.underlying69, run_underlying Tryz.underlying67, Result.andThen]
theorem lane_at (nm : ByteArray) (a : Option Addr) (cap : Nat) (l : List Bx) (w : World) :
    Calls Tryz.prog 31 #[.agg #[.string nm, .slice a l.length cap]] w fun e w' => e = .returned (.agg #[.string nm, .slice a l.length cap]) ∧ Below w.heap.size w w' := lane_any ⟨nm, a, 0, 0, cap, l⟩ w
end Go.Proofs.YtgkebobmfagklaaGreat
