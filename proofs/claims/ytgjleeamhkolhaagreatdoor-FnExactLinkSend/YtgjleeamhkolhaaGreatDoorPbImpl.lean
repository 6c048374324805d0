/- The program's ProbeBoxOk, by its contract. -/
import Derived.Test.YtgjleeamhkolhaaGreatDoorPbSpan
namespace Go.Proofs.YtgjleeamhkolhaaGreatDoor
open Go.RowKit

/-- The cells of one box, in every world of a class. -/
theorem Cls.six {W : World} {b : Nat} {s : Bx} (hb : b < W.heap.size) (h : W.rangeAt b 0 s.cells) : (∀ u : Cls W, u.it.cell? ⟨b, 0, none⟩ = some (.int .i64 s.x)) ∧ (∀ u : Cls W, u.it.cell? ⟨b, 1, none⟩ = some (.int .i64 s.y)) ∧ (∀ u : Cls W, u.it.cell? ⟨b, 2, none⟩ = some (.int .i64 s.lo)) ∧
    (∀ u : Cls W, u.it.cell? ⟨b, 3, none⟩ = some (.int .i64 s.hi)) ∧ (∀ u : Cls W, u.it.cell? ⟨b, 4, none⟩ = some (.int .i64 s.in_)) ∧ (∀ u : Cls W, u.it.cell? ⟨b, 5, none⟩ = some (.int .i64 s.out)) :=
  ⟨fun u => (u.cell hb 0).trans (h 0 _ rfl), fun u => (u.cell hb 1).trans (h 1 _ rfl), fun u => (u.cell hb 2).trans (h 2 _ rfl), fun u => (u.cell hb 3).trans (h 3 _ rfl), fun u => (u.cell hb 4).trans (h 4 _ rfl), fun u => (u.cell hb 5).trans (h 5 _ rfl)⟩
/-- The cells of a box that was laid. -/
theorem box_new (w : World) (s : Bx) (t : TypeId) : (w.alloc (.cells #[.int .i64 s.x, .int .i64 s.y, .int .i64 s.lo, .int .i64 s.hi, .int .i64 s.in_, .int .i64 s.out] t)).rangeAt w.heap.size 0 s.cells := by
  intro j u hj
  match j, hj with
  | 0, hj => simp at hj; subst hj; simp [go_sem]
  | 1, hj => simp at hj; subst hj; simp [go_sem]
  | 2, hj => simp at hj; subst hj; simp [go_sem]
  | 3, hj => simp at hj; subst hj; simp [go_sem]
  | 4, hj => simp at hj; subst hj; simp [go_sem]
  | 5, hj => simp at hj; subst hj; simp [go_sem]

set_option maxHeartbeats 4000000 in
theorem boxOk_a (x y lo hi i o : Int) (w : World) (h1 : liesB x x 0 15 = false) :
    Calls Tryz.prog 169 #[.agg #[.int .i64 x, .int .i64 y, .int .i64 lo, .int .i64 hi, .int .i64 i, .int .i64 o]] w fun e w' => e = .returned (.bool (boxB ⟨x, y, lo, hi, i, o⟩)) ∧ Below w.heap.size w w' := by
  have ER : Hid (boxB ⟨x, y, lo, hi, i, o⟩ = (liesB x x 0 15 && liesB y y 0 15 && liesB lo hi 0 6 && liesB i o 0 10000)) := boxB_lies _
  have hn := box_new w ⟨x, y, lo, hi, i, o⟩ 195
  go_enter Tryz.func169, Tryz.ntmps169
  go_wp2_with fail
  refine (upCell_any _ _).mono ?_
  rintro e w1 ⟨rfl, hb1⟩
  have hn1 := range_below hn hb1 (by simp)
  have B1 : Below w.heap.size w w1 := (bel1 _).trans (hb1.mono (by simp))
  have z1 : w.heap.size < w1.heap.size := by have := hb1.size; simp at this; omega
  clear hn hb1
  go_wp2
  have hn2 := World.rangeAt_alloc hn1 (.cells #[.int .i64 0, .int .i64 15] 247)
  have m0 : (w1.alloc (.cells #[.int .i64 0, .int .i64 15] 247)).cell? ⟨w1.heap.size, 0, none⟩ = some (.int .i64 0) := by simp [go_sem]
  have m1 : (w1.alloc (.cells #[.int .i64 0, .int .i64 15] 247)).cell? ⟨w1.heap.size, 1, none⟩ = some (.int .i64 15) := by simp [go_sem]
  have z2 : w1.heap.size < (w1.alloc (.cells #[.int .i64 0, .int .i64 15] 247)).heap.size := by simp
  have B2 := B1.trans ((bel1 (w := w1) (.cells #[.int .i64 0, .int .i64 15] 247)).mono B1.size)
  generalize w1.alloc (.cells #[.int .i64 0, .int .i64 15] 247) = W at *
  obtain ⟨q0, q1, q2, q3, q4, q5⟩ := Cls.six (by omega) hn2
  have p0 : ∀ u : Cls W, u.it.cell? ⟨w1.heap.size, 0, none⟩ = some (.int .i64 0) := fun u => (u.cell z2 0).trans m0
  have p1 : ∀ u : Cls W, u.it.cell? ⟨w1.heap.size, 1, none⟩ = some (.int .i64 15) := fun u => (u.cell z2 1).trans m1
  have qn := Cls.any W
  clear m0 m1 hn1 hn2
  refine wp_region_cls (by kernel_rfl) (by kernel_rfl) ?_
  repeat (go_big_quiet_step (first
    | (go_at_call 180; exact Calls.cls_of (xs_any x y lo hi i o _))
    | (go_at_call 182; exact Calls.cls_of (ys_any x y lo hi i o _))
    | (go_at_call 183; exact Calls.cls_of (levels_any x y lo hi i o _))
    | (go_at_call 171; exact Calls.cls_of (ticks_any x y lo hi i o _))
    | (go_at_call 185; exact Calls.cls_of (upLevel_any 6 _))
    | (go_at_call 187; exact Calls.cls_of (upTick_any 10000 _))
    | (go_at_call 181; exact Calls.cls_of (liesCell_val _ _ _ _ _ _ (by first | exact h1 | exact h2)))
    | (go_at_call 184; exact Calls.cls_of (liesLevel_val lo hi 0 6 _ _ h3))
    | (go_at_call 186; exact Calls.cls_of (liesTick_any i o 0 10000 _))))
  refine wpQuiet_nil ?_
  rintro _ ⟨u, rfl⟩
  clear q0 q1 q2 q3 q4 q5 p0 p1 qn
  go_wp2
  go_ret
  exact ⟨by rw [ER.out]; simp [*], B2.trans (u.same.mono B2.size)⟩
set_option maxHeartbeats 4000000 in
theorem boxOk_b (x y lo hi i o : Int) (w : World) (h1 : liesB x x 0 15 = true) (h2 : liesB y y 0 15 = false) :
    Calls Tryz.prog 169 #[.agg #[.int .i64 x, .int .i64 y, .int .i64 lo, .int .i64 hi, .int .i64 i, .int .i64 o]] w fun e w' => e = .returned (.bool (boxB ⟨x, y, lo, hi, i, o⟩)) ∧ Below w.heap.size w w' := by
  have ER : Hid (boxB ⟨x, y, lo, hi, i, o⟩ = (liesB x x 0 15 && liesB y y 0 15 && liesB lo hi 0 6 && liesB i o 0 10000)) := boxB_lies _
  have hn := box_new w ⟨x, y, lo, hi, i, o⟩ 195
  go_enter Tryz.func169, Tryz.ntmps169
  go_wp2_with fail
  refine (upCell_any _ _).mono ?_
  rintro e w1 ⟨rfl, hb1⟩
  have hn1 := range_below hn hb1 (by simp)
  have B1 : Below w.heap.size w w1 := (bel1 _).trans (hb1.mono (by simp))
  have z1 : w.heap.size < w1.heap.size := by have := hb1.size; simp at this; omega
  clear hn hb1
  go_wp2
  have hn2 := World.rangeAt_alloc hn1 (.cells #[.int .i64 0, .int .i64 15] 247)
  have m0 : (w1.alloc (.cells #[.int .i64 0, .int .i64 15] 247)).cell? ⟨w1.heap.size, 0, none⟩ = some (.int .i64 0) := by simp [go_sem]
  have m1 : (w1.alloc (.cells #[.int .i64 0, .int .i64 15] 247)).cell? ⟨w1.heap.size, 1, none⟩ = some (.int .i64 15) := by simp [go_sem]
  have z2 : w1.heap.size < (w1.alloc (.cells #[.int .i64 0, .int .i64 15] 247)).heap.size := by simp
  have B2 := B1.trans ((bel1 (w := w1) (.cells #[.int .i64 0, .int .i64 15] 247)).mono B1.size)
  generalize w1.alloc (.cells #[.int .i64 0, .int .i64 15] 247) = W at *
  obtain ⟨q0, q1, q2, q3, q4, q5⟩ := Cls.six (by omega) hn2
  have p0 : ∀ u : Cls W, u.it.cell? ⟨w1.heap.size, 0, none⟩ = some (.int .i64 0) := fun u => (u.cell z2 0).trans m0
  have p1 : ∀ u : Cls W, u.it.cell? ⟨w1.heap.size, 1, none⟩ = some (.int .i64 15) := fun u => (u.cell z2 1).trans m1
  have qn := Cls.any W
  clear m0 m1 hn1 hn2
  refine wp_region_cls (by kernel_rfl) (by kernel_rfl) ?_
  repeat (go_big_quiet_step (first
    | (go_at_call 180; exact Calls.cls_of (xs_any x y lo hi i o _))
    | (go_at_call 182; exact Calls.cls_of (ys_any x y lo hi i o _))
    | (go_at_call 183; exact Calls.cls_of (levels_any x y lo hi i o _))
    | (go_at_call 171; exact Calls.cls_of (ticks_any x y lo hi i o _))
    | (go_at_call 185; exact Calls.cls_of (upLevel_any 6 _))
    | (go_at_call 187; exact Calls.cls_of (upTick_any 10000 _))
    | (go_at_call 181; exact Calls.cls_of (liesCell_val _ _ _ _ _ _ (by first | exact h1 | exact h2)))
    | (go_at_call 184; exact Calls.cls_of (liesLevel_val lo hi 0 6 _ _ h3))
    | (go_at_call 186; exact Calls.cls_of (liesTick_any i o 0 10000 _))))
  refine wpQuiet_nil ?_
  rintro _ ⟨u, rfl⟩
  clear q0 q1 q2 q3 q4 q5 p0 p1 qn
  go_wp2
  go_ret
  exact ⟨by rw [ER.out]; simp [*], B2.trans (u.same.mono B2.size)⟩
set_option maxHeartbeats 4000000 in
theorem boxOk_c (x y lo hi i o : Int) (w : World) (h1 : liesB x x 0 15 = true) (h2 : liesB y y 0 15 = true) (h3 : liesB lo hi 0 6 = false) :
    Calls Tryz.prog 169 #[.agg #[.int .i64 x, .int .i64 y, .int .i64 lo, .int .i64 hi, .int .i64 i, .int .i64 o]] w fun e w' => e = .returned (.bool (boxB ⟨x, y, lo, hi, i, o⟩)) ∧ Below w.heap.size w w' := by
  have ER : Hid (boxB ⟨x, y, lo, hi, i, o⟩ = (liesB x x 0 15 && liesB y y 0 15 && liesB lo hi 0 6 && liesB i o 0 10000)) := boxB_lies _
  have hn := box_new w ⟨x, y, lo, hi, i, o⟩ 195
  go_enter Tryz.func169, Tryz.ntmps169
  go_wp2_with fail
  refine (upCell_any _ _).mono ?_
  rintro e w1 ⟨rfl, hb1⟩
  have hn1 := range_below hn hb1 (by simp)
  have B1 : Below w.heap.size w w1 := (bel1 _).trans (hb1.mono (by simp))
  have z1 : w.heap.size < w1.heap.size := by have := hb1.size; simp at this; omega
  clear hn hb1
  go_wp2
  have hn2 := World.rangeAt_alloc hn1 (.cells #[.int .i64 0, .int .i64 15] 247)
  have m0 : (w1.alloc (.cells #[.int .i64 0, .int .i64 15] 247)).cell? ⟨w1.heap.size, 0, none⟩ = some (.int .i64 0) := by simp [go_sem]
  have m1 : (w1.alloc (.cells #[.int .i64 0, .int .i64 15] 247)).cell? ⟨w1.heap.size, 1, none⟩ = some (.int .i64 15) := by simp [go_sem]
  have z2 : w1.heap.size < (w1.alloc (.cells #[.int .i64 0, .int .i64 15] 247)).heap.size := by simp
  have B2 := B1.trans ((bel1 (w := w1) (.cells #[.int .i64 0, .int .i64 15] 247)).mono B1.size)
  generalize w1.alloc (.cells #[.int .i64 0, .int .i64 15] 247) = W at *
  obtain ⟨q0, q1, q2, q3, q4, q5⟩ := Cls.six (by omega) hn2
  have p0 : ∀ u : Cls W, u.it.cell? ⟨w1.heap.size, 0, none⟩ = some (.int .i64 0) := fun u => (u.cell z2 0).trans m0
  have p1 : ∀ u : Cls W, u.it.cell? ⟨w1.heap.size, 1, none⟩ = some (.int .i64 15) := fun u => (u.cell z2 1).trans m1
  have qn := Cls.any W
  clear m0 m1 hn1 hn2
  refine wp_region_cls (by kernel_rfl) (by kernel_rfl) ?_
  repeat (go_big_quiet_step (first
    | (go_at_call 180; exact Calls.cls_of (xs_any x y lo hi i o _))
    | (go_at_call 182; exact Calls.cls_of (ys_any x y lo hi i o _))
    | (go_at_call 183; exact Calls.cls_of (levels_any x y lo hi i o _))
    | (go_at_call 171; exact Calls.cls_of (ticks_any x y lo hi i o _))
    | (go_at_call 185; exact Calls.cls_of (upLevel_any 6 _))
    | (go_at_call 187; exact Calls.cls_of (upTick_any 10000 _))
    | (go_at_call 181; exact Calls.cls_of (liesCell_val _ _ _ _ _ _ (by first | exact h1 | exact h2)))
    | (go_at_call 184; exact Calls.cls_of (liesLevel_val lo hi 0 6 _ _ h3))
    | (go_at_call 186; exact Calls.cls_of (liesTick_any i o 0 10000 _))))
  refine wpQuiet_nil ?_
  rintro _ ⟨u, rfl⟩
  clear q0 q1 q2 q3 q4 q5 p0 p1 qn
  go_wp2
  go_ret
  exact ⟨by rw [ER.out]; simp [*], B2.trans (u.same.mono B2.size)⟩
set_option maxHeartbeats 4000000 in
theorem boxOk_d (x y lo hi i o : Int) (w : World) (h1 : liesB x x 0 15 = true) (h2 : liesB y y 0 15 = true) (h3 : liesB lo hi 0 6 = true) :
    Calls Tryz.prog 169 #[.agg #[.int .i64 x, .int .i64 y, .int .i64 lo, .int .i64 hi, .int .i64 i, .int .i64 o]] w fun e w' => e = .returned (.bool (boxB ⟨x, y, lo, hi, i, o⟩)) ∧ Below w.heap.size w w' := by
  have ER : Hid (boxB ⟨x, y, lo, hi, i, o⟩ = (liesB x x 0 15 && liesB y y 0 15 && liesB lo hi 0 6 && liesB i o 0 10000)) := boxB_lies _
  have hn := box_new w ⟨x, y, lo, hi, i, o⟩ 195
  go_enter Tryz.func169, Tryz.ntmps169
  go_wp2_with fail
  refine (upCell_any _ _).mono ?_
  rintro e w1 ⟨rfl, hb1⟩
  have hn1 := range_below hn hb1 (by simp)
  have B1 : Below w.heap.size w w1 := (bel1 _).trans (hb1.mono (by simp))
  have z1 : w.heap.size < w1.heap.size := by have := hb1.size; simp at this; omega
  clear hn hb1
  go_wp2
  have hn2 := World.rangeAt_alloc hn1 (.cells #[.int .i64 0, .int .i64 15] 247)
  have m0 : (w1.alloc (.cells #[.int .i64 0, .int .i64 15] 247)).cell? ⟨w1.heap.size, 0, none⟩ = some (.int .i64 0) := by simp [go_sem]
  have m1 : (w1.alloc (.cells #[.int .i64 0, .int .i64 15] 247)).cell? ⟨w1.heap.size, 1, none⟩ = some (.int .i64 15) := by simp [go_sem]
  have z2 : w1.heap.size < (w1.alloc (.cells #[.int .i64 0, .int .i64 15] 247)).heap.size := by simp
  have B2 := B1.trans ((bel1 (w := w1) (.cells #[.int .i64 0, .int .i64 15] 247)).mono B1.size)
  generalize w1.alloc (.cells #[.int .i64 0, .int .i64 15] 247) = W at *
  obtain ⟨q0, q1, q2, q3, q4, q5⟩ := Cls.six (by omega) hn2
  have p0 : ∀ u : Cls W, u.it.cell? ⟨w1.heap.size, 0, none⟩ = some (.int .i64 0) := fun u => (u.cell z2 0).trans m0
  have p1 : ∀ u : Cls W, u.it.cell? ⟨w1.heap.size, 1, none⟩ = some (.int .i64 15) := fun u => (u.cell z2 1).trans m1
  have qn := Cls.any W
  clear m0 m1 hn1 hn2
  refine wp_region_cls (by kernel_rfl) (by kernel_rfl) ?_
  repeat (go_big_quiet_step (first
    | (go_at_call 180; exact Calls.cls_of (xs_any x y lo hi i o _))
    | (go_at_call 182; exact Calls.cls_of (ys_any x y lo hi i o _))
    | (go_at_call 183; exact Calls.cls_of (levels_any x y lo hi i o _))
    | (go_at_call 171; exact Calls.cls_of (ticks_any x y lo hi i o _))
    | (go_at_call 185; exact Calls.cls_of (upLevel_any 6 _))
    | (go_at_call 187; exact Calls.cls_of (upTick_any 10000 _))
    | (go_at_call 181; exact Calls.cls_of (liesCell_val _ _ _ _ _ _ (by first | exact h1 | exact h2)))
    | (go_at_call 184; exact Calls.cls_of (liesLevel_val lo hi 0 6 _ _ h3))
    | (go_at_call 186; exact Calls.cls_of (liesTick_any i o 0 10000 _))))
  refine wpQuiet_nil ?_
  rintro _ ⟨u, rfl⟩
  clear q0 q1 q2 q3 q4 q5 p0 p1 qn
  go_wp2
  go_ret
  exact ⟨by rw [ER.out]; simp [*], B2.trans (u.same.mono B2.size)⟩
theorem boxOk_any (x y lo hi i o : Int) (w : World) :
    Calls Tryz.prog 169 #[.agg #[.int .i64 x, .int .i64 y, .int .i64 lo, .int .i64 hi, .int .i64 i, .int .i64 o]] w fun e w' => e = .returned (.bool (boxB ⟨x, y, lo, hi, i, o⟩)) ∧ Below w.heap.size w w' := by
  cases h1 : liesB x x 0 15
  · exact boxOk_a x y lo hi i o w h1
  cases h2 : liesB y y 0 15
  · exact boxOk_b x y lo hi i o w h1 h2
  cases h3 : liesB lo hi 0 6
  · exact boxOk_c x y lo hi i o w h1 h2 h3
  · exact boxOk_d x y lo hi i o w h1 h2 h3
theorem boxOk_val (s : Bx) (v : Bool) (w : World) (hv : boxB s = v) :
    Calls Tryz.prog 169 #[s.val] w fun e w' => e = .returned (.bool v) ∧ Below w.heap.size w w' := by
  rw [← hv]; exact boxOk_any s.x s.y s.lo s.hi s.in_ s.out w
end Go.Proofs.YtgjleeamhkolhaaGreatDoor
