/- The program's isIn, by its contract. -/
import Derived.Test.YtdfmcedookogpaaPbImpl
namespace Go.Proofs.Ytdfmcedookogpaa
open Go.RowKit

/-- As the program asks it. -/
def inBx (s t : Bx) : Bool := liesB s.x s.x t.x t.x && liesB s.y s.y t.y t.y && liesB s.lo s.hi t.lo t.hi && liesB s.in_ s.out t.in_ t.out
theorem in_cover {s t : Bx} (h : boxB s = true) : inBx s t = coverB t s := by
  rw [boxB_iff] at h
  rw [Bool.eq_iff_iff]
  simp [inBx, liesB, coverB]
  omega
set_option maxHeartbeats 4000000 in
theorem isIn_a (x y lo hi i o x' y' lo' hi' i' o' : Int) (w : World) (h1 : liesB x x x' x' = false) :
    Calls Try.prog 76 #[.agg #[.int .i64 x, .int .i64 y, .int .i64 lo, .int .i64 hi, .int .i64 i, .int .i64 o], .agg #[.int .i64 x', .int .i64 y', .int .i64 lo', .int .i64 hi', .int .i64 i', .int .i64 o']] w
      fun e w' => e = .returned (.bool (inBx ⟨x, y, lo, hi, i, o⟩ ⟨x', y', lo', hi', i', o'⟩)) ∧ Below w.heap.size w w' := by
  have ER : Hid (inBx ⟨x, y, lo, hi, i, o⟩ ⟨x', y', lo', hi', i', o'⟩ = (liesB x x x' x' && liesB y y y' y' && liesB lo hi lo' hi' && liesB i o i' o')) := rfl
  have hn := World.rangeAt_alloc (box_new w ⟨x, y, lo, hi, i, o⟩ 25) (.cells #[.int .i64 x', .int .i64 y', .int .i64 lo', .int .i64 hi', .int .i64 i', .int .i64 o'] 25)
  have hm := box_new (w.alloc (.cells #[.int .i64 x, .int .i64 y, .int .i64 lo, .int .i64 hi, .int .i64 i, .int .i64 o] 25)) ⟨x', y', lo', hi', i', o'⟩ 25
  rw [World.size_alloc] at hm
  have B2 := bel2 (w := w) (.cells #[.int .i64 x, .int .i64 y, .int .i64 lo, .int .i64 hi, .int .i64 i, .int .i64 o] 25) (.cells #[.int .i64 x', .int .i64 y', .int .i64 lo', .int .i64 hi', .int .i64 i', .int .i64 o'] 25)
  have z2 : ((w.alloc (.cells #[.int .i64 x, .int .i64 y, .int .i64 lo, .int .i64 hi, .int .i64 i, .int .i64 o] 25)).alloc (.cells #[.int .i64 x', .int .i64 y', .int .i64 lo', .int .i64 hi', .int .i64 i', .int .i64 o'] 25)).heap.size = w.heap.size + 1 + 1 := by simp
  go_enter Try.func76, Try.ntmps76
  go_wp2
  generalize (w.alloc (.cells #[.int .i64 x, .int .i64 y, .int .i64 lo, .int .i64 hi, .int .i64 i, .int .i64 o] 25)).alloc (.cells #[.int .i64 x', .int .i64 y', .int .i64 lo', .int .i64 hi', .int .i64 i', .int .i64 o'] 25) = W at *
  obtain ⟨q0, q1, q2, q3, q4, q5⟩ := Cls.six (by omega) hn
  obtain ⟨p0, p1, p2, p3, p4, p5⟩ := Cls.six (by omega) hm
  have qn := Cls.any W
  clear hn hm
  refine wp_region_cls (by kernel_rfl) (by kernel_rfl) ?_
  repeat (go_big_quiet_step (first
    | (go_at_call 32; exact Calls.cls_of (xs_any _ _ _ _ _ _ _))
    | (go_at_call 34; exact Calls.cls_of (ys_any _ _ _ _ _ _ _))
    | (go_at_call 35; exact Calls.cls_of (levels_any _ _ _ _ _ _ _))
    | (go_at_call 38; exact Calls.cls_of (ticks_any _ _ _ _ _ _ _))
    | (go_at_call 33; exact Calls.cls_of (liesCell_val _ _ _ _ _ _ (by first | exact h1 | exact h2)))
    | (go_at_call 36; exact Calls.cls_of (liesLevel_val _ _ _ _ _ _ h3))
    | (go_at_call 39; exact Calls.cls_of (liesTick_any _ _ _ _ _))))
  refine wpQuiet_nil ?_
  rintro _ ⟨u, rfl⟩
  clear q0 q1 q2 q3 q4 q5 p0 p1 p2 p3 p4 p5 qn
  go_wp2
  go_ret
  exact ⟨by rw [ER.out]; simp [*], B2.trans (u.same.mono B2.size)⟩
set_option maxHeartbeats 4000000 in
theorem isIn_b (x y lo hi i o x' y' lo' hi' i' o' : Int) (w : World) (h1 : liesB x x x' x' = true) (h2 : liesB y y y' y' = false) :
    Calls Try.prog 76 #[.agg #[.int .i64 x, .int .i64 y, .int .i64 lo, .int .i64 hi, .int .i64 i, .int .i64 o], .agg #[.int .i64 x', .int .i64 y', .int .i64 lo', .int .i64 hi', .int .i64 i', .int .i64 o']] w
      fun e w' => e = .returned (.bool (inBx ⟨x, y, lo, hi, i, o⟩ ⟨x', y', lo', hi', i', o'⟩)) ∧ Below w.heap.size w w' := by
  have ER : Hid (inBx ⟨x, y, lo, hi, i, o⟩ ⟨x', y', lo', hi', i', o'⟩ = (liesB x x x' x' && liesB y y y' y' && liesB lo hi lo' hi' && liesB i o i' o')) := rfl
  have hn := World.rangeAt_alloc (box_new w ⟨x, y, lo, hi, i, o⟩ 25) (.cells #[.int .i64 x', .int .i64 y', .int .i64 lo', .int .i64 hi', .int .i64 i', .int .i64 o'] 25)
  have hm := box_new (w.alloc (.cells #[.int .i64 x, .int .i64 y, .int .i64 lo, .int .i64 hi, .int .i64 i, .int .i64 o] 25)) ⟨x', y', lo', hi', i', o'⟩ 25
  rw [World.size_alloc] at hm
  have B2 := bel2 (w := w) (.cells #[.int .i64 x, .int .i64 y, .int .i64 lo, .int .i64 hi, .int .i64 i, .int .i64 o] 25) (.cells #[.int .i64 x', .int .i64 y', .int .i64 lo', .int .i64 hi', .int .i64 i', .int .i64 o'] 25)
  have z2 : ((w.alloc (.cells #[.int .i64 x, .int .i64 y, .int .i64 lo, .int .i64 hi, .int .i64 i, .int .i64 o] 25)).alloc (.cells #[.int .i64 x', .int .i64 y', .int .i64 lo', .int .i64 hi', .int .i64 i', .int .i64 o'] 25)).heap.size = w.heap.size + 1 + 1 := by simp
  go_enter Try.func76, Try.ntmps76
  go_wp2
  generalize (w.alloc (.cells #[.int .i64 x, .int .i64 y, .int .i64 lo, .int .i64 hi, .int .i64 i, .int .i64 o] 25)).alloc (.cells #[.int .i64 x', .int .i64 y', .int .i64 lo', .int .i64 hi', .int .i64 i', .int .i64 o'] 25) = W at *
  obtain ⟨q0, q1, q2, q3, q4, q5⟩ := Cls.six (by omega) hn
  obtain ⟨p0, p1, p2, p3, p4, p5⟩ := Cls.six (by omega) hm
  have qn := Cls.any W
  clear hn hm
  refine wp_region_cls (by kernel_rfl) (by kernel_rfl) ?_
  repeat (go_big_quiet_step (first
    | (go_at_call 32; exact Calls.cls_of (xs_any _ _ _ _ _ _ _))
    | (go_at_call 34; exact Calls.cls_of (ys_any _ _ _ _ _ _ _))
    | (go_at_call 35; exact Calls.cls_of (levels_any _ _ _ _ _ _ _))
    | (go_at_call 38; exact Calls.cls_of (ticks_any _ _ _ _ _ _ _))
    | (go_at_call 33; exact Calls.cls_of (liesCell_val _ _ _ _ _ _ (by first | exact h1 | exact h2)))
    | (go_at_call 36; exact Calls.cls_of (liesLevel_val _ _ _ _ _ _ h3))
    | (go_at_call 39; exact Calls.cls_of (liesTick_any _ _ _ _ _))))
  refine wpQuiet_nil ?_
  rintro _ ⟨u, rfl⟩
  clear q0 q1 q2 q3 q4 q5 p0 p1 p2 p3 p4 p5 qn
  go_wp2
  go_ret
  exact ⟨by rw [ER.out]; simp [*], B2.trans (u.same.mono B2.size)⟩
set_option maxHeartbeats 4000000 in
theorem isIn_c (x y lo hi i o x' y' lo' hi' i' o' : Int) (w : World) (h1 : liesB x x x' x' = true) (h2 : liesB y y y' y' = true) (h3 : liesB lo hi lo' hi' = false) :
    Calls Try.prog 76 #[.agg #[.int .i64 x, .int .i64 y, .int .i64 lo, .int .i64 hi, .int .i64 i, .int .i64 o], .agg #[.int .i64 x', .int .i64 y', .int .i64 lo', .int .i64 hi', .int .i64 i', .int .i64 o']] w
      fun e w' => e = .returned (.bool (inBx ⟨x, y, lo, hi, i, o⟩ ⟨x', y', lo', hi', i', o'⟩)) ∧ Below w.heap.size w w' := by
  have ER : Hid (inBx ⟨x, y, lo, hi, i, o⟩ ⟨x', y', lo', hi', i', o'⟩ = (liesB x x x' x' && liesB y y y' y' && liesB lo hi lo' hi' && liesB i o i' o')) := rfl
  have hn := World.rangeAt_alloc (box_new w ⟨x, y, lo, hi, i, o⟩ 25) (.cells #[.int .i64 x', .int .i64 y', .int .i64 lo', .int .i64 hi', .int .i64 i', .int .i64 o'] 25)
  have hm := box_new (w.alloc (.cells #[.int .i64 x, .int .i64 y, .int .i64 lo, .int .i64 hi, .int .i64 i, .int .i64 o] 25)) ⟨x', y', lo', hi', i', o'⟩ 25
  rw [World.size_alloc] at hm
  have B2 := bel2 (w := w) (.cells #[.int .i64 x, .int .i64 y, .int .i64 lo, .int .i64 hi, .int .i64 i, .int .i64 o] 25) (.cells #[.int .i64 x', .int .i64 y', .int .i64 lo', .int .i64 hi', .int .i64 i', .int .i64 o'] 25)
  have z2 : ((w.alloc (.cells #[.int .i64 x, .int .i64 y, .int .i64 lo, .int .i64 hi, .int .i64 i, .int .i64 o] 25)).alloc (.cells #[.int .i64 x', .int .i64 y', .int .i64 lo', .int .i64 hi', .int .i64 i', .int .i64 o'] 25)).heap.size = w.heap.size + 1 + 1 := by simp
  go_enter Try.func76, Try.ntmps76
  go_wp2
  generalize (w.alloc (.cells #[.int .i64 x, .int .i64 y, .int .i64 lo, .int .i64 hi, .int .i64 i, .int .i64 o] 25)).alloc (.cells #[.int .i64 x', .int .i64 y', .int .i64 lo', .int .i64 hi', .int .i64 i', .int .i64 o'] 25) = W at *
  obtain ⟨q0, q1, q2, q3, q4, q5⟩ := Cls.six (by omega) hn
  obtain ⟨p0, p1, p2, p3, p4, p5⟩ := Cls.six (by omega) hm
  have qn := Cls.any W
  clear hn hm
  refine wp_region_cls (by kernel_rfl) (by kernel_rfl) ?_
  repeat (go_big_quiet_step (first
    | (go_at_call 32; exact Calls.cls_of (xs_any _ _ _ _ _ _ _))
    | (go_at_call 34; exact Calls.cls_of (ys_any _ _ _ _ _ _ _))
    | (go_at_call 35; exact Calls.cls_of (levels_any _ _ _ _ _ _ _))
    | (go_at_call 38; exact Calls.cls_of (ticks_any _ _ _ _ _ _ _))
    | (go_at_call 33; exact Calls.cls_of (liesCell_val _ _ _ _ _ _ (by first | exact h1 | exact h2)))
    | (go_at_call 36; exact Calls.cls_of (liesLevel_val _ _ _ _ _ _ h3))
    | (go_at_call 39; exact Calls.cls_of (liesTick_any _ _ _ _ _))))
  refine wpQuiet_nil ?_
  rintro _ ⟨u, rfl⟩
  clear q0 q1 q2 q3 q4 q5 p0 p1 p2 p3 p4 p5 qn
  go_wp2
  go_ret
  exact ⟨by rw [ER.out]; simp [*], B2.trans (u.same.mono B2.size)⟩
set_option maxHeartbeats 4000000 in
theorem isIn_d (x y lo hi i o x' y' lo' hi' i' o' : Int) (w : World) (h1 : liesB x x x' x' = true) (h2 : liesB y y y' y' = true) (h3 : liesB lo hi lo' hi' = true) :
    Calls Try.prog 76 #[.agg #[.int .i64 x, .int .i64 y, .int .i64 lo, .int .i64 hi, .int .i64 i, .int .i64 o], .agg #[.int .i64 x', .int .i64 y', .int .i64 lo', .int .i64 hi', .int .i64 i', .int .i64 o']] w
      fun e w' => e = .returned (.bool (inBx ⟨x, y, lo, hi, i, o⟩ ⟨x', y', lo', hi', i', o'⟩)) ∧ Below w.heap.size w w' := by
  have ER : Hid (inBx ⟨x, y, lo, hi, i, o⟩ ⟨x', y', lo', hi', i', o'⟩ = (liesB x x x' x' && liesB y y y' y' && liesB lo hi lo' hi' && liesB i o i' o')) := rfl
  have hn := World.rangeAt_alloc (box_new w ⟨x, y, lo, hi, i, o⟩ 25) (.cells #[.int .i64 x', .int .i64 y', .int .i64 lo', .int .i64 hi', .int .i64 i', .int .i64 o'] 25)
  have hm := box_new (w.alloc (.cells #[.int .i64 x, .int .i64 y, .int .i64 lo, .int .i64 hi, .int .i64 i, .int .i64 o] 25)) ⟨x', y', lo', hi', i', o'⟩ 25
  rw [World.size_alloc] at hm
  have B2 := bel2 (w := w) (.cells #[.int .i64 x, .int .i64 y, .int .i64 lo, .int .i64 hi, .int .i64 i, .int .i64 o] 25) (.cells #[.int .i64 x', .int .i64 y', .int .i64 lo', .int .i64 hi', .int .i64 i', .int .i64 o'] 25)
  have z2 : ((w.alloc (.cells #[.int .i64 x, .int .i64 y, .int .i64 lo, .int .i64 hi, .int .i64 i, .int .i64 o] 25)).alloc (.cells #[.int .i64 x', .int .i64 y', .int .i64 lo', .int .i64 hi', .int .i64 i', .int .i64 o'] 25)).heap.size = w.heap.size + 1 + 1 := by simp
  go_enter Try.func76, Try.ntmps76
  go_wp2
  generalize (w.alloc (.cells #[.int .i64 x, .int .i64 y, .int .i64 lo, .int .i64 hi, .int .i64 i, .int .i64 o] 25)).alloc (.cells #[.int .i64 x', .int .i64 y', .int .i64 lo', .int .i64 hi', .int .i64 i', .int .i64 o'] 25) = W at *
  obtain ⟨q0, q1, q2, q3, q4, q5⟩ := Cls.six (by omega) hn
  obtain ⟨p0, p1, p2, p3, p4, p5⟩ := Cls.six (by omega) hm
  have qn := Cls.any W
  clear hn hm
  refine wp_region_cls (by kernel_rfl) (by kernel_rfl) ?_
  repeat (go_big_quiet_step (first
    | (go_at_call 32; exact Calls.cls_of (xs_any _ _ _ _ _ _ _))
    | (go_at_call 34; exact Calls.cls_of (ys_any _ _ _ _ _ _ _))
    | (go_at_call 35; exact Calls.cls_of (levels_any _ _ _ _ _ _ _))
    | (go_at_call 38; exact Calls.cls_of (ticks_any _ _ _ _ _ _ _))
    | (go_at_call 33; exact Calls.cls_of (liesCell_val _ _ _ _ _ _ (by first | exact h1 | exact h2)))
    | (go_at_call 36; exact Calls.cls_of (liesLevel_val _ _ _ _ _ _ h3))
    | (go_at_call 39; exact Calls.cls_of (liesTick_any _ _ _ _ _))))
  refine wpQuiet_nil ?_
  rintro _ ⟨u, rfl⟩
  clear q0 q1 q2 q3 q4 q5 p0 p1 p2 p3 p4 p5 qn
  go_wp2
  go_ret
  exact ⟨by rw [ER.out]; simp [*], B2.trans (u.same.mono B2.size)⟩
theorem isIn_any (s t : Bx) (w : World) :
    Calls Try.prog 76 #[s.val, t.val] w fun e w' => e = .returned (.bool (inBx s t)) ∧ Below w.heap.size w w' := by
  obtain ⟨x, y, lo, hi, i, o⟩ := s
  obtain ⟨x', y', lo', hi', i', o'⟩ := t
  cases h1 : liesB x x x' x'
  · exact isIn_a x y lo hi i o x' y' lo' hi' i' o' w h1
  cases h2 : liesB y y y' y'
  · exact isIn_b x y lo hi i o x' y' lo' hi' i' o' w h1 h2
  cases h3 : liesB lo hi lo' hi'
  · exact isIn_c x y lo hi i o x' y' lo' hi' i' o' w h1 h2 h3
  · exact isIn_d x y lo hi i o x' y' lo' hi' i' o' w h1 h2 h3
theorem isIn_val (s t : Bx) (v : Bool) (w : World) (h : boxB s = true) (hv : coverB t s = v) :
    Calls Try.prog 76 #[s.val, t.val] w fun e w' => e = .returned (.bool v) ∧ Below w.heap.size w w' := by
  rw [← hv, ← in_cover h]; exact isIn_any s t w
end Go.Proofs.Ytdfmcedookogpaa
