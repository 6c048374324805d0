/- The program's spans of cells, levels and ticks, by their contracts. -/
import Derived.Test.YtmaoflgnbhhblaaPbBel
import Derived.Test.YtmaoflgnbhhblaaRows
import Derived.Test.YtmaoflgnbhhblaaPbData
import Derived.Test.YtmaoflgnbhhblaaCls
import Derived.WalkKit
import Derived.WalkSpells
namespace Go.Proofs.Ytmaoflgnbhhblaa
open Go.RowKit


theorem ofCell_any (a b : Int) (w : World) :
    Calls Try.prog 47 #[.int .i64 a, .int .i64 b] w fun e w' => e = .returned (.agg #[.int .i64 a, .int .i64 b]) ∧ Below w.heap.size w w' := by
  go_enter Try.func47, Try.ntmps47
  go_wp2
  exact bodyPost_ret (v := .agg #[.int .i64 a, .int .i64 b]) (by simp [results, Try.results47, go_sem]) rfl ⟨rfl, bel1 _⟩

theorem upCell_any (b : Int) (w : World) :
    Calls Try.prog 37 #[.int .i64 b] w fun e w' => e = .returned (.agg #[.int .i64 0, .int .i64 b]) ∧ Below w.heap.size w w' := by
  go_enter Try.func37, Try.ntmps37
  go_wp2_with fail
  refine (ofCell_any _ _ _).mono ?_
  rintro e w1 ⟨rfl, hb1⟩
  obtain ⟨hc1, hf1⟩ := old_cells hb1
  have r0 : w1.cell? ⟨w.heap.size, 0, none⟩ = some (.int .i64 0) := by rw [hc1 _ _ (by simp)]; simp [go_sem]
  have r1 : w1.cell? ⟨w.heap.size, 1, none⟩ = some (.int .i64 0) := by rw [hc1 _ _ (by simp)]; simp [go_sem]
  have f0 : ∀ j, w1.frozen? ⟨w.heap.size, j, none⟩ = false := by intro j; rw [hf1 _ _ (by simp)]; simp [go_sem]
  have hb01 : Below w.heap.size w w1 := (bel1 _).trans (hb1.mono (by simp))
  clear hb1 hc1 hf1
  go_wp2
  refine bodyPost_ret (v := .agg #[.int .i64 0, .int .i64 b]) (by simp [results, Try.results37, go_sem, *]) rfl ⟨rfl, ?_⟩
  iterate 2 (refine Below.setCell ?_ (by simp) _)
  exact hb01

theorem emptyCell_any (a b : Int) (w : World) :
    Calls Try.prog 48 #[.agg #[.int .i64 a, .int .i64 b]] w fun e w' => e = .returned (.bool (decide (b < a))) ∧ Below w.heap.size w w' := by
  go_enter Try.func48, Try.ntmps48
  go_wp2
  go_ret
  exact ⟨rfl, bel1 _⟩
theorem emptyCell_val (a b : Int) (v : Bool) (w : World) (hv : decide (b < a) = v) :
    Calls Try.prog 48 #[.agg #[.int .i64 a, .int .i64 b]] w fun e w' => e = .returned (.bool v) ∧ Below w.heap.size w w' := by
  rw [← hv]; exact emptyCell_any a b w

theorem meetCell_any (a b c d : Int) (w : World) :
    Calls Try.prog 49 #[.agg #[.int .i64 a, .int .i64 b], .agg #[.int .i64 c, .int .i64 d]] w fun e w' => e = .returned (.agg #[.int .i64 (max a c), .int .i64 (min b d)]) ∧ Below w.heap.size w w' := by
  rcases (show (a < c ∧ max a c = c) ∨ (¬ a < c ∧ max a c = a) by omega) with ⟨h1, e1⟩ | ⟨h1, e1⟩ <;> rcases (show (d < b ∧ min b d = d) ∨ (¬ d < b ∧ min b d = b) by omega) with ⟨h2, e2⟩ | ⟨h2, e2⟩
  all_goals
    rw [e1, e2]
    clear e1 e2
    go_enter Try.func49, Try.ntmps49
    go_wp2_with fail
    refine (ofCell_any _ _ _).mono ?_
    rintro e w1 ⟨rfl, hb1⟩
    obtain ⟨hc1, hf1⟩ := old_cells hb1
    have r0 : w1.cell? ⟨w.heap.size + 1 + 1, 0, none⟩ = some (.int .i64 0) := by rw [hc1 _ _ (by simp)]; simp [go_sem]
    have r1 : w1.cell? ⟨w.heap.size + 1 + 1, 1, none⟩ = some (.int .i64 0) := by rw [hc1 _ _ (by simp)]; simp [go_sem]
    have f0 : ∀ j, w1.frozen? ⟨w.heap.size + 1 + 1, j, none⟩ = false := by intro j; rw [hf1 _ _ (by simp)]; simp [go_sem]
    have hb01 : Below w.heap.size w w1 := (bel3 _ _ _).trans (hb1.mono (by simp; omega))
    clear hb1 hc1 hf1
    go_wp2
    refine bodyPost_ret (v := .agg #[.int .i64 _, .int .i64 _]) (by simp [results, Try.results49, go_sem, *]) rfl ⟨rfl, ?_⟩
    iterate 2 (refine Below.setCell ?_ (by simp; omega) _)
    exact hb01

theorem numCell_equal (n : Nat) (i j : Int) (w : World) : (Op.equalIn (n + 1) 63 (.int .i64 i) (.int .i64 j)).run Try.prog w = .ok (i == j) w := by
  simp [Op.equalIn, run_underlying Try.underlying63, Result.andThen]
theorem numCell_part0 (i j : Int) (w : World) : (part 63 #[.int .i64 i, .int .i64 j] 0).run Try.prog w = .ok (.int .i64 i) w := by
  simp [part, isAgg, run_underlying Try.underlying63, Result.andThen]
theorem numCell_part1 (i j : Int) (w : World) : (part 63 #[.int .i64 i, .int .i64 j] 1).run Try.prog w = .ok (.int .i64 j) w := by
  simp [part, isAgg, run_underlying Try.underlying63, Result.andThen]
theorem spanCell_equal (w : World) (n : Nat) (i j i' j' : Int) : (Op.equalIn (n + 1 + 1) 65 (.agg #[.int .i64 i, .int .i64 j]) (.agg #[.int .i64 i', .int .i64 j'])).run Try.prog w = .ok (decide (i = i' ∧ j = j')) w := by
  rw [Op.equalIn]
  by_cases h1 : i = i'
  · by_cases h2 : j = j'
    · simp [run_underlying Try.underlying65, Result.andThen, numCell_equal, numCell_part0, numCell_part1, h1, h2]
    · simp [run_underlying Try.underlying65, Result.andThen, numCell_equal, numCell_part0, numCell_part1, h1, h2]
  · simp [run_underlying Try.underlying65, Result.andThen, numCell_equal, numCell_part0, h1]
theorem spanCell_eql (w : World) (i j i' j' : Int) : (binOp .eql 65 (.agg #[.int .i64 i, .int .i64 j]) (.agg #[.int .i64 i', .int .i64 j'])).run Try.prog w = .ok (.bool (decide (i = i' ∧ j = j'))) w := by
  rw [run_eql_struct, spanCell_equal w 9998]; rfl

set_option maxHeartbeats 1000000 in
theorem liesCell_any (a b c d : Int) (w : World) :
    Calls Try.prog 39 #[.agg #[.int .i64 a, .int .i64 b], .agg #[.int .i64 c, .int .i64 d]] w fun e w' => e = .returned (.bool (liesB a b c d)) ∧ Below w.heap.size w w' := by
  by_cases h : b < a
  · have G : Hid (liesB a b c d = false) := lies_none h
    go_enter Try.func39, Try.ntmps39
    go_wp2
    have q0 := fun (u : Cls ((w.alloc (.cells #[.int .i64 a, .int .i64 b] 65)).alloc (.cells #[.int .i64 c, .int .i64 d] 65))) (o : Nat) => Cls.cell (b := w.heap.size) (by simp; omega) u o
    have qn := Cls.any ((w.alloc (.cells #[.int .i64 a, .int .i64 b] 65)).alloc (.cells #[.int .i64 c, .int .i64 d] 65))
    refine wp_region_cls (by kernel_rfl) (by kernel_rfl) ?_
    repeat (go_big_quiet_step (first | (go_at_call 48; exact Calls.cls_of (emptyCell_val a b true _ (by simpa using h)))))
    refine wpQuiet_nil ?_
    rintro _ ⟨u, rfl⟩
    go_wp2
    go_ret
    exact ⟨by rw [G.out]; rfl, (bel2 _ _).trans (u.same.mono (by simp; omega))⟩
  · have G : Hid ((decide (max a c = a) && decide (min b d = b)) = liesB a b c d) := lies_same h
    have E : ∀ wx : World, (binOp .eql 65 (.agg #[.int .i64 (max a c), .int .i64 (min b d)]) (.agg #[.int .i64 a, .int .i64 b])).run Try.prog wx = .ok (.bool (decide (max a c = a ∧ min b d = b))) wx := fun wx => spanCell_eql wx _ _ _ _
    go_enter Try.func39, Try.ntmps39
    go_wp2
    have q0 := fun (u : Cls ((w.alloc (.cells #[.int .i64 a, .int .i64 b] 65)).alloc (.cells #[.int .i64 c, .int .i64 d] 65))) (o : Nat) => Cls.cell (b := w.heap.size) (by simp; omega) u o
    have q1 := fun (u : Cls ((w.alloc (.cells #[.int .i64 a, .int .i64 b] 65)).alloc (.cells #[.int .i64 c, .int .i64 d] 65))) (o : Nat) => Cls.cell (b := w.heap.size + 1) (by simp) u o
    have qn := Cls.any ((w.alloc (.cells #[.int .i64 a, .int .i64 b] 65)).alloc (.cells #[.int .i64 c, .int .i64 d] 65))
    refine wp_region_cls (by kernel_rfl) (by kernel_rfl) ?_
    repeat (go_big_quiet_step (first | (go_at_call 48; exact Calls.cls_of (emptyCell_val a b false _ (by simpa using h))) | (go_at_call 49; exact Calls.cls_of (meetCell_any a b c d _))))
    refine wpQuiet_nil ?_
    rintro _ ⟨u, rfl⟩
    go_wp2
    go_ret
    exact ⟨by rw [← G.out]; rfl, (bel2 _ _).trans (u.same.mono (by simp; omega))⟩
theorem liesCell_val (a b c d : Int) (v : Bool) (w : World) (hv : liesB a b c d = v) :
    Calls Try.prog 39 #[.agg #[.int .i64 a, .int .i64 b], .agg #[.int .i64 c, .int .i64 d]] w fun e w' => e = .returned (.bool v) ∧ Below w.heap.size w w' := by
  rw [← hv]; exact liesCell_any a b c d w

theorem ofLevel_any (a b : Int) (w : World) :
    Calls Try.prog 50 #[.int .i64 a, .int .i64 b] w fun e w' => e = .returned (.agg #[.int .i64 a, .int .i64 b]) ∧ Below w.heap.size w w' := by
  go_enter Try.func50, Try.ntmps50
  go_wp2
  exact bodyPost_ret (v := .agg #[.int .i64 a, .int .i64 b]) (by simp [results, Try.results50, go_sem]) rfl ⟨rfl, bel1 _⟩

theorem upLevel_any (b : Int) (w : World) :
    Calls Try.prog 43 #[.int .i64 b] w fun e w' => e = .returned (.agg #[.int .i64 0, .int .i64 b]) ∧ Below w.heap.size w w' := by
  go_enter Try.func43, Try.ntmps43
  go_wp2_with fail
  refine (ofLevel_any _ _ _).mono ?_
  rintro e w1 ⟨rfl, hb1⟩
  obtain ⟨hc1, hf1⟩ := old_cells hb1
  have r0 : w1.cell? ⟨w.heap.size, 0, none⟩ = some (.int .i64 0) := by rw [hc1 _ _ (by simp)]; simp [go_sem]
  have r1 : w1.cell? ⟨w.heap.size, 1, none⟩ = some (.int .i64 0) := by rw [hc1 _ _ (by simp)]; simp [go_sem]
  have f0 : ∀ j, w1.frozen? ⟨w.heap.size, j, none⟩ = false := by intro j; rw [hf1 _ _ (by simp)]; simp [go_sem]
  have hb01 : Below w.heap.size w w1 := (bel1 _).trans (hb1.mono (by simp))
  clear hb1 hc1 hf1
  go_wp2
  refine bodyPost_ret (v := .agg #[.int .i64 0, .int .i64 b]) (by simp [results, Try.results43, go_sem, *]) rfl ⟨rfl, ?_⟩
  iterate 2 (refine Below.setCell ?_ (by simp) _)
  exact hb01

theorem emptyLevel_any (a b : Int) (w : World) :
    Calls Try.prog 51 #[.agg #[.int .i64 a, .int .i64 b]] w fun e w' => e = .returned (.bool (decide (b < a))) ∧ Below w.heap.size w w' := by
  go_enter Try.func51, Try.ntmps51
  go_wp2
  go_ret
  exact ⟨rfl, bel1 _⟩
theorem emptyLevel_val (a b : Int) (v : Bool) (w : World) (hv : decide (b < a) = v) :
    Calls Try.prog 51 #[.agg #[.int .i64 a, .int .i64 b]] w fun e w' => e = .returned (.bool v) ∧ Below w.heap.size w w' := by
  rw [← hv]; exact emptyLevel_any a b w

theorem meetLevel_any (a b c d : Int) (w : World) :
    Calls Try.prog 52 #[.agg #[.int .i64 a, .int .i64 b], .agg #[.int .i64 c, .int .i64 d]] w fun e w' => e = .returned (.agg #[.int .i64 (max a c), .int .i64 (min b d)]) ∧ Below w.heap.size w w' := by
  rcases (show (a < c ∧ max a c = c) ∨ (¬ a < c ∧ max a c = a) by omega) with ⟨h1, e1⟩ | ⟨h1, e1⟩ <;> rcases (show (d < b ∧ min b d = d) ∨ (¬ d < b ∧ min b d = b) by omega) with ⟨h2, e2⟩ | ⟨h2, e2⟩
  all_goals
    rw [e1, e2]
    clear e1 e2
    go_enter Try.func52, Try.ntmps52
    go_wp2_with fail
    refine (ofLevel_any _ _ _).mono ?_
    rintro e w1 ⟨rfl, hb1⟩
    obtain ⟨hc1, hf1⟩ := old_cells hb1
    have r0 : w1.cell? ⟨w.heap.size + 1 + 1, 0, none⟩ = some (.int .i64 0) := by rw [hc1 _ _ (by simp)]; simp [go_sem]
    have r1 : w1.cell? ⟨w.heap.size + 1 + 1, 1, none⟩ = some (.int .i64 0) := by rw [hc1 _ _ (by simp)]; simp [go_sem]
    have f0 : ∀ j, w1.frozen? ⟨w.heap.size + 1 + 1, j, none⟩ = false := by intro j; rw [hf1 _ _ (by simp)]; simp [go_sem]
    have hb01 : Below w.heap.size w w1 := (bel3 _ _ _).trans (hb1.mono (by simp; omega))
    clear hb1 hc1 hf1
    go_wp2
    refine bodyPost_ret (v := .agg #[.int .i64 _, .int .i64 _]) (by simp [results, Try.results52, go_sem, *]) rfl ⟨rfl, ?_⟩
    iterate 2 (refine Below.setCell ?_ (by simp; omega) _)
    exact hb01

theorem numLevel_equal (n : Nat) (i j : Int) (w : World) : (Op.equalIn (n + 1) 69 (.int .i64 i) (.int .i64 j)).run Try.prog w = .ok (i == j) w := by
  simp [Op.equalIn, run_underlying Try.underlying69, Result.andThen]
theorem numLevel_part0 (i j : Int) (w : World) : (part 69 #[.int .i64 i, .int .i64 j] 0).run Try.prog w = .ok (.int .i64 i) w := by
  simp [part, isAgg, run_underlying Try.underlying69, Result.andThen]
theorem numLevel_part1 (i j : Int) (w : World) : (part 69 #[.int .i64 i, .int .i64 j] 1).run Try.prog w = .ok (.int .i64 j) w := by
  simp [part, isAgg, run_underlying Try.underlying69, Result.andThen]
theorem spanLevel_equal (w : World) (n : Nat) (i j i' j' : Int) : (Op.equalIn (n + 1 + 1) 71 (.agg #[.int .i64 i, .int .i64 j]) (.agg #[.int .i64 i', .int .i64 j'])).run Try.prog w = .ok (decide (i = i' ∧ j = j')) w := by
  rw [Op.equalIn]
  by_cases h1 : i = i'
  · by_cases h2 : j = j'
    · simp [run_underlying Try.underlying71, Result.andThen, numLevel_equal, numLevel_part0, numLevel_part1, h1, h2]
    · simp [run_underlying Try.underlying71, Result.andThen, numLevel_equal, numLevel_part0, numLevel_part1, h1, h2]
  · simp [run_underlying Try.underlying71, Result.andThen, numLevel_equal, numLevel_part0, h1]
theorem spanLevel_eql (w : World) (i j i' j' : Int) : (binOp .eql 71 (.agg #[.int .i64 i, .int .i64 j]) (.agg #[.int .i64 i', .int .i64 j'])).run Try.prog w = .ok (.bool (decide (i = i' ∧ j = j'))) w := by
  rw [run_eql_struct, spanLevel_equal w 9998]; rfl

set_option maxHeartbeats 1000000 in
theorem liesLevel_any (a b c d : Int) (w : World) :
    Calls Try.prog 42 #[.agg #[.int .i64 a, .int .i64 b], .agg #[.int .i64 c, .int .i64 d]] w fun e w' => e = .returned (.bool (liesB a b c d)) ∧ Below w.heap.size w w' := by
  by_cases h : b < a
  · have G : Hid (liesB a b c d = false) := lies_none h
    go_enter Try.func42, Try.ntmps42
    go_wp2
    have q0 := fun (u : Cls ((w.alloc (.cells #[.int .i64 a, .int .i64 b] 71)).alloc (.cells #[.int .i64 c, .int .i64 d] 71))) (o : Nat) => Cls.cell (b := w.heap.size) (by simp; omega) u o
    have qn := Cls.any ((w.alloc (.cells #[.int .i64 a, .int .i64 b] 71)).alloc (.cells #[.int .i64 c, .int .i64 d] 71))
    refine wp_region_cls (by kernel_rfl) (by kernel_rfl) ?_
    repeat (go_big_quiet_step (first | (go_at_call 51; exact Calls.cls_of (emptyLevel_val a b true _ (by simpa using h)))))
    refine wpQuiet_nil ?_
    rintro _ ⟨u, rfl⟩
    go_wp2
    go_ret
    exact ⟨by rw [G.out]; rfl, (bel2 _ _).trans (u.same.mono (by simp; omega))⟩
  · have G : Hid ((decide (max a c = a) && decide (min b d = b)) = liesB a b c d) := lies_same h
    have E : ∀ wx : World, (binOp .eql 71 (.agg #[.int .i64 (max a c), .int .i64 (min b d)]) (.agg #[.int .i64 a, .int .i64 b])).run Try.prog wx = .ok (.bool (decide (max a c = a ∧ min b d = b))) wx := fun wx => spanLevel_eql wx _ _ _ _
    go_enter Try.func42, Try.ntmps42
    go_wp2
    have q0 := fun (u : Cls ((w.alloc (.cells #[.int .i64 a, .int .i64 b] 71)).alloc (.cells #[.int .i64 c, .int .i64 d] 71))) (o : Nat) => Cls.cell (b := w.heap.size) (by simp; omega) u o
    have q1 := fun (u : Cls ((w.alloc (.cells #[.int .i64 a, .int .i64 b] 71)).alloc (.cells #[.int .i64 c, .int .i64 d] 71))) (o : Nat) => Cls.cell (b := w.heap.size + 1) (by simp) u o
    have qn := Cls.any ((w.alloc (.cells #[.int .i64 a, .int .i64 b] 71)).alloc (.cells #[.int .i64 c, .int .i64 d] 71))
    refine wp_region_cls (by kernel_rfl) (by kernel_rfl) ?_
    repeat (go_big_quiet_step (first | (go_at_call 51; exact Calls.cls_of (emptyLevel_val a b false _ (by simpa using h))) | (go_at_call 52; exact Calls.cls_of (meetLevel_any a b c d _))))
    refine wpQuiet_nil ?_
    rintro _ ⟨u, rfl⟩
    go_wp2
    go_ret
    exact ⟨by rw [← G.out]; rfl, (bel2 _ _).trans (u.same.mono (by simp; omega))⟩
theorem liesLevel_val (a b c d : Int) (v : Bool) (w : World) (hv : liesB a b c d = v) :
    Calls Try.prog 42 #[.agg #[.int .i64 a, .int .i64 b], .agg #[.int .i64 c, .int .i64 d]] w fun e w' => e = .returned (.bool v) ∧ Below w.heap.size w w' := by
  rw [← hv]; exact liesLevel_any a b c d w

theorem ofTick_any (a b : Int) (w : World) :
    Calls Try.prog 53 #[.int .i64 a, .int .i64 b] w fun e w' => e = .returned (.agg #[.int .i64 a, .int .i64 b]) ∧ Below w.heap.size w w' := by
  go_enter Try.func53, Try.ntmps53
  go_wp2
  exact bodyPost_ret (v := .agg #[.int .i64 a, .int .i64 b]) (by simp [results, Try.results53, go_sem]) rfl ⟨rfl, bel1 _⟩

theorem upTick_any (b : Int) (w : World) :
    Calls Try.prog 46 #[.int .i64 b] w fun e w' => e = .returned (.agg #[.int .i64 0, .int .i64 b]) ∧ Below w.heap.size w w' := by
  go_enter Try.func46, Try.ntmps46
  go_wp2_with fail
  refine (ofTick_any _ _ _).mono ?_
  rintro e w1 ⟨rfl, hb1⟩
  obtain ⟨hc1, hf1⟩ := old_cells hb1
  have r0 : w1.cell? ⟨w.heap.size, 0, none⟩ = some (.int .i64 0) := by rw [hc1 _ _ (by simp)]; simp [go_sem]
  have r1 : w1.cell? ⟨w.heap.size, 1, none⟩ = some (.int .i64 0) := by rw [hc1 _ _ (by simp)]; simp [go_sem]
  have f0 : ∀ j, w1.frozen? ⟨w.heap.size, j, none⟩ = false := by intro j; rw [hf1 _ _ (by simp)]; simp [go_sem]
  have hb01 : Below w.heap.size w w1 := (bel1 _).trans (hb1.mono (by simp))
  clear hb1 hc1 hf1
  go_wp2
  refine bodyPost_ret (v := .agg #[.int .i64 0, .int .i64 b]) (by simp [results, Try.results46, go_sem, *]) rfl ⟨rfl, ?_⟩
  iterate 2 (refine Below.setCell ?_ (by simp) _)
  exact hb01

theorem emptyTick_any (a b : Int) (w : World) :
    Calls Try.prog 54 #[.agg #[.int .i64 a, .int .i64 b]] w fun e w' => e = .returned (.bool (decide (b < a))) ∧ Below w.heap.size w w' := by
  go_enter Try.func54, Try.ntmps54
  go_wp2
  go_ret
  exact ⟨rfl, bel1 _⟩
theorem emptyTick_val (a b : Int) (v : Bool) (w : World) (hv : decide (b < a) = v) :
    Calls Try.prog 54 #[.agg #[.int .i64 a, .int .i64 b]] w fun e w' => e = .returned (.bool v) ∧ Below w.heap.size w w' := by
  rw [← hv]; exact emptyTick_any a b w

theorem meetTick_any (a b c d : Int) (w : World) :
    Calls Try.prog 55 #[.agg #[.int .i64 a, .int .i64 b], .agg #[.int .i64 c, .int .i64 d]] w fun e w' => e = .returned (.agg #[.int .i64 (max a c), .int .i64 (min b d)]) ∧ Below w.heap.size w w' := by
  rcases (show (a < c ∧ max a c = c) ∨ (¬ a < c ∧ max a c = a) by omega) with ⟨h1, e1⟩ | ⟨h1, e1⟩ <;> rcases (show (d < b ∧ min b d = d) ∨ (¬ d < b ∧ min b d = b) by omega) with ⟨h2, e2⟩ | ⟨h2, e2⟩
  all_goals
    rw [e1, e2]
    clear e1 e2
    go_enter Try.func55, Try.ntmps55
    go_wp2_with fail
    refine (ofTick_any _ _ _).mono ?_
    rintro e w1 ⟨rfl, hb1⟩
    obtain ⟨hc1, hf1⟩ := old_cells hb1
    have r0 : w1.cell? ⟨w.heap.size + 1 + 1, 0, none⟩ = some (.int .i64 0) := by rw [hc1 _ _ (by simp)]; simp [go_sem]
    have r1 : w1.cell? ⟨w.heap.size + 1 + 1, 1, none⟩ = some (.int .i64 0) := by rw [hc1 _ _ (by simp)]; simp [go_sem]
    have f0 : ∀ j, w1.frozen? ⟨w.heap.size + 1 + 1, j, none⟩ = false := by intro j; rw [hf1 _ _ (by simp)]; simp [go_sem]
    have hb01 : Below w.heap.size w w1 := (bel3 _ _ _).trans (hb1.mono (by simp; omega))
    clear hb1 hc1 hf1
    go_wp2
    refine bodyPost_ret (v := .agg #[.int .i64 _, .int .i64 _]) (by simp [results, Try.results55, go_sem, *]) rfl ⟨rfl, ?_⟩
    iterate 2 (refine Below.setCell ?_ (by simp; omega) _)
    exact hb01

theorem numTick_equal (n : Nat) (i j : Int) (w : World) : (Op.equalIn (n + 1) 75 (.int .i64 i) (.int .i64 j)).run Try.prog w = .ok (i == j) w := by
  simp [Op.equalIn, run_underlying Try.underlying75, Result.andThen]
theorem numTick_part0 (i j : Int) (w : World) : (part 75 #[.int .i64 i, .int .i64 j] 0).run Try.prog w = .ok (.int .i64 i) w := by
  simp [part, isAgg, run_underlying Try.underlying75, Result.andThen]
theorem numTick_part1 (i j : Int) (w : World) : (part 75 #[.int .i64 i, .int .i64 j] 1).run Try.prog w = .ok (.int .i64 j) w := by
  simp [part, isAgg, run_underlying Try.underlying75, Result.andThen]
theorem spanTick_equal (w : World) (n : Nat) (i j i' j' : Int) : (Op.equalIn (n + 1 + 1) 77 (.agg #[.int .i64 i, .int .i64 j]) (.agg #[.int .i64 i', .int .i64 j'])).run Try.prog w = .ok (decide (i = i' ∧ j = j')) w := by
  rw [Op.equalIn]
  by_cases h1 : i = i'
  · by_cases h2 : j = j'
    · simp [run_underlying Try.underlying77, Result.andThen, numTick_equal, numTick_part0, numTick_part1, h1, h2]
    · simp [run_underlying Try.underlying77, Result.andThen, numTick_equal, numTick_part0, numTick_part1, h1, h2]
  · simp [run_underlying Try.underlying77, Result.andThen, numTick_equal, numTick_part0, h1]
theorem spanTick_eql (w : World) (i j i' j' : Int) : (binOp .eql 77 (.agg #[.int .i64 i, .int .i64 j]) (.agg #[.int .i64 i', .int .i64 j'])).run Try.prog w = .ok (.bool (decide (i = i' ∧ j = j'))) w := by
  rw [run_eql_struct, spanTick_equal w 9998]; rfl

set_option maxHeartbeats 1000000 in
theorem liesTick_any (a b c d : Int) (w : World) :
    Calls Try.prog 45 #[.agg #[.int .i64 a, .int .i64 b], .agg #[.int .i64 c, .int .i64 d]] w fun e w' => e = .returned (.bool (liesB a b c d)) ∧ Below w.heap.size w w' := by
  by_cases h : b < a
  · have G : Hid (liesB a b c d = false) := lies_none h
    go_enter Try.func45, Try.ntmps45
    go_wp2
    have q0 := fun (u : Cls ((w.alloc (.cells #[.int .i64 a, .int .i64 b] 77)).alloc (.cells #[.int .i64 c, .int .i64 d] 77))) (o : Nat) => Cls.cell (b := w.heap.size) (by simp; omega) u o
    have qn := Cls.any ((w.alloc (.cells #[.int .i64 a, .int .i64 b] 77)).alloc (.cells #[.int .i64 c, .int .i64 d] 77))
    refine wp_region_cls (by kernel_rfl) (by kernel_rfl) ?_
    repeat (go_big_quiet_step (first | (go_at_call 54; exact Calls.cls_of (emptyTick_val a b true _ (by simpa using h)))))
    refine wpQuiet_nil ?_
    rintro _ ⟨u, rfl⟩
    go_wp2
    go_ret
    exact ⟨by rw [G.out]; rfl, (bel2 _ _).trans (u.same.mono (by simp; omega))⟩
  · have G : Hid ((decide (max a c = a) && decide (min b d = b)) = liesB a b c d) := lies_same h
    have E : ∀ wx : World, (binOp .eql 77 (.agg #[.int .i64 (max a c), .int .i64 (min b d)]) (.agg #[.int .i64 a, .int .i64 b])).run Try.prog wx = .ok (.bool (decide (max a c = a ∧ min b d = b))) wx := fun wx => spanTick_eql wx _ _ _ _
    go_enter Try.func45, Try.ntmps45
    go_wp2
    have q0 := fun (u : Cls ((w.alloc (.cells #[.int .i64 a, .int .i64 b] 77)).alloc (.cells #[.int .i64 c, .int .i64 d] 77))) (o : Nat) => Cls.cell (b := w.heap.size) (by simp; omega) u o
    have q1 := fun (u : Cls ((w.alloc (.cells #[.int .i64 a, .int .i64 b] 77)).alloc (.cells #[.int .i64 c, .int .i64 d] 77))) (o : Nat) => Cls.cell (b := w.heap.size + 1) (by simp) u o
    have qn := Cls.any ((w.alloc (.cells #[.int .i64 a, .int .i64 b] 77)).alloc (.cells #[.int .i64 c, .int .i64 d] 77))
    refine wp_region_cls (by kernel_rfl) (by kernel_rfl) ?_
    repeat (go_big_quiet_step (first | (go_at_call 54; exact Calls.cls_of (emptyTick_val a b false _ (by simpa using h))) | (go_at_call 55; exact Calls.cls_of (meetTick_any a b c d _))))
    refine wpQuiet_nil ?_
    rintro _ ⟨u, rfl⟩
    go_wp2
    go_ret
    exact ⟨by rw [← G.out]; rfl, (bel2 _ _).trans (u.same.mono (by simp; omega))⟩
theorem liesTick_val (a b c d : Int) (v : Bool) (w : World) (hv : liesB a b c d = v) :
    Calls Try.prog 45 #[.agg #[.int .i64 a, .int .i64 b], .agg #[.int .i64 c, .int .i64 d]] w fun e w' => e = .returned (.bool v) ∧ Below w.heap.size w w' := by
  rw [← hv]; exact liesTick_any a b c d w

theorem xs_any (x y lo hi i o : Int) (w : World) :
    Calls Try.prog 38 #[.agg #[.int .i64 x, .int .i64 y, .int .i64 lo, .int .i64 hi, .int .i64 i, .int .i64 o]] w fun e w' => e = .returned (.agg #[.int .i64 x, .int .i64 x]) ∧ Below w.heap.size w w' := by
  go_enter Try.func38, Try.ntmps38
  go_wp2_with fail
  refine (ofCell_any _ _ _).mono ?_
  rintro e w1 ⟨rfl, hb1⟩
  obtain ⟨hc1, hf1⟩ := old_cells hb1
  have r0 : w1.cell? ⟨w.heap.size + 1, 0, none⟩ = some (.int .i64 0) := by rw [hc1 _ _ (by simp)]; simp [go_sem]
  have r1 : w1.cell? ⟨w.heap.size + 1, 1, none⟩ = some (.int .i64 0) := by rw [hc1 _ _ (by simp)]; simp [go_sem]
  have f0 : ∀ j, w1.frozen? ⟨w.heap.size + 1, j, none⟩ = false := by intro j; rw [hf1 _ _ (by simp)]; simp [go_sem]
  have hb01 : Below w.heap.size w w1 := (bel2 _ _).trans (hb1.mono (by simp; omega))
  clear hb1 hc1 hf1
  go_wp2
  refine bodyPost_ret (v := .agg #[.int .i64 x, .int .i64 x]) (by simp [results, Try.results38, go_sem, *]) rfl ⟨rfl, ?_⟩
  iterate 2 (refine Below.setCell ?_ (by simp) _)
  exact hb01

theorem ys_any (x y lo hi i o : Int) (w : World) :
    Calls Try.prog 40 #[.agg #[.int .i64 x, .int .i64 y, .int .i64 lo, .int .i64 hi, .int .i64 i, .int .i64 o]] w fun e w' => e = .returned (.agg #[.int .i64 y, .int .i64 y]) ∧ Below w.heap.size w w' := by
  go_enter Try.func40, Try.ntmps40
  go_wp2_with fail
  refine (ofCell_any _ _ _).mono ?_
  rintro e w1 ⟨rfl, hb1⟩
  obtain ⟨hc1, hf1⟩ := old_cells hb1
  have r0 : w1.cell? ⟨w.heap.size + 1, 0, none⟩ = some (.int .i64 0) := by rw [hc1 _ _ (by simp)]; simp [go_sem]
  have r1 : w1.cell? ⟨w.heap.size + 1, 1, none⟩ = some (.int .i64 0) := by rw [hc1 _ _ (by simp)]; simp [go_sem]
  have f0 : ∀ j, w1.frozen? ⟨w.heap.size + 1, j, none⟩ = false := by intro j; rw [hf1 _ _ (by simp)]; simp [go_sem]
  have hb01 : Below w.heap.size w w1 := (bel2 _ _).trans (hb1.mono (by simp; omega))
  clear hb1 hc1 hf1
  go_wp2
  refine bodyPost_ret (v := .agg #[.int .i64 y, .int .i64 y]) (by simp [results, Try.results40, go_sem, *]) rfl ⟨rfl, ?_⟩
  iterate 2 (refine Below.setCell ?_ (by simp) _)
  exact hb01

theorem levels_any (x y lo hi i o : Int) (w : World) :
    Calls Try.prog 41 #[.agg #[.int .i64 x, .int .i64 y, .int .i64 lo, .int .i64 hi, .int .i64 i, .int .i64 o]] w fun e w' => e = .returned (.agg #[.int .i64 lo, .int .i64 hi]) ∧ Below w.heap.size w w' := by
  go_enter Try.func41, Try.ntmps41
  go_wp2_with fail
  refine (ofLevel_any _ _ _).mono ?_
  rintro e w1 ⟨rfl, hb1⟩
  obtain ⟨hc1, hf1⟩ := old_cells hb1
  have r0 : w1.cell? ⟨w.heap.size + 1, 0, none⟩ = some (.int .i64 0) := by rw [hc1 _ _ (by simp)]; simp [go_sem]
  have r1 : w1.cell? ⟨w.heap.size + 1, 1, none⟩ = some (.int .i64 0) := by rw [hc1 _ _ (by simp)]; simp [go_sem]
  have f0 : ∀ j, w1.frozen? ⟨w.heap.size + 1, j, none⟩ = false := by intro j; rw [hf1 _ _ (by simp)]; simp [go_sem]
  have hb01 : Below w.heap.size w w1 := (bel2 _ _).trans (hb1.mono (by simp; omega))
  clear hb1 hc1 hf1
  go_wp2
  refine bodyPost_ret (v := .agg #[.int .i64 lo, .int .i64 hi]) (by simp [results, Try.results41, go_sem, *]) rfl ⟨rfl, ?_⟩
  iterate 2 (refine Below.setCell ?_ (by simp) _)
  exact hb01

theorem ticks_any (x y lo hi i o : Int) (w : World) :
    Calls Try.prog 44 #[.agg #[.int .i64 x, .int .i64 y, .int .i64 lo, .int .i64 hi, .int .i64 i, .int .i64 o]] w fun e w' => e = .returned (.agg #[.int .i64 i, .int .i64 o]) ∧ Below w.heap.size w w' := by
  go_enter Try.func44, Try.ntmps44
  go_wp2_with fail
  refine (ofTick_any _ _ _).mono ?_
  rintro e w1 ⟨rfl, hb1⟩
  obtain ⟨hc1, hf1⟩ := old_cells hb1
  have r0 : w1.cell? ⟨w.heap.size + 1, 0, none⟩ = some (.int .i64 0) := by rw [hc1 _ _ (by simp)]; simp [go_sem]
  have r1 : w1.cell? ⟨w.heap.size + 1, 1, none⟩ = some (.int .i64 0) := by rw [hc1 _ _ (by simp)]; simp [go_sem]
  have f0 : ∀ j, w1.frozen? ⟨w.heap.size + 1, j, none⟩ = false := by intro j; rw [hf1 _ _ (by simp)]; simp [go_sem]
  have hb01 : Below w.heap.size w w1 := (bel2 _ _).trans (hb1.mono (by simp; omega))
  clear hb1 hc1 hf1
  go_wp2
  refine bodyPost_ret (v := .agg #[.int .i64 i, .int .i64 o]) (by simp [results, Try.results44, go_sem, *]) rfl ⟨rfl, ?_⟩
  iterate 2 (refine Below.setCell ?_ (by simp) _)
  exact hb01
end Go.Proofs.Ytmaoflgnbhhblaa
