/- The walks of the laws on ProbeBoxOk and ProbeClose. -/
import Derived.Test.YtdfmcedookogpaaPbClose2
import Derived.Test.YtdfmcedookogpaaPbSpec2
import Derived.Test.YtdfmcedookogpaaPbCopy
namespace Go.Proofs.Ytdfmcedookogpaa
open Go.RowKit

theorem boxLaw_any (s : Bx) (w : World) :
    Calls Try.prog 3 #[s.val] w fun e w' => e = .returned (.bool true) ∧ Below w.heap.size w w' := by
  have hn := box_new w s 23
  go_enter Try.func3, Try.ntmps3
  go_wp2_with fail
  refine (toPbox_any _ _ _ _ _ _ _).mono ?_
  rintro e w1 ⟨rfl, hb1⟩
  have B1 : Below w.heap.size w w1 := (bel1 _).trans (hb1.mono (by simp))
  have n1 := range_below hn hb1 (by simp)
  have z1 : w.heap.size < w1.heap.size := by have := hb1.size; simp at this; omega
  clear hb1 hn
  go_wp2_with fail
  refine (boxOkS_any _ _ _ _ _ _ _).mono ?_
  rintro e w2 ⟨rfl, hb2⟩
  have n2 := range_below n1 hb2 z1
  have B2 := B1.trans (hb2.mono B1.size)
  have c0 := n2 0 _ rfl
  have c1 := n2 1 _ rfl
  have c2 := n2 2 _ rfl
  have c3 := n2 3 _ rfl
  have c4 := n2 4 _ rfl
  have c5 := n2 5 _ rfl
  simp only [Nat.zero_add, Nat.add_zero] at c0 c1 c2 c3 c4 c5
  go_wp2_with fail
  refine (toPbox_any _ _ _ _ _ _ _).mono ?_
  rintro e w3 ⟨rfl, hb3⟩
  have B3 := B2.trans (hb3.mono B2.size)
  clear c0 c1 c2 c3 c4 c5
  go_wp2_with fail
  refine (boxOk_any _ _ _ _ _ _ _).mono ?_
  rintro e w4 ⟨rfl, hb4⟩
  have B4 := B3.trans (hb4.mono B3.size)
  go_wp2
  go_ret
  exact ⟨rfl, B4⟩

set_option maxHeartbeats 1000000 in
theorem closeLaw_any (s t : Bx) (w : World) :
    Calls Try.prog 4 #[s.val, t.val] w fun e w' => e = .returned (.bool true) ∧ Below w.heap.size w w' := by
  have T0 := Two.new w s t 23
  go_enter Try.func4, Try.ntmps4
  go_wp2
  generalize (w.alloc (.cells #[.int .i64 s.x, .int .i64 s.y, .int .i64 s.lo, .int .i64 s.hi, .int .i64 s.in_, .int .i64 s.out] 23)).alloc (.cells #[.int .i64 t.x, .int .i64 t.y, .int .i64 t.lo, .int .i64 t.hi, .int .i64 t.in_, .int .i64 t.out] 23) = W at *
  obtain ⟨q0, q1, q2, q3, q4, q5⟩ := Cls.six (by have := T0.lt; omega) T0.one
  obtain ⟨p0, p1, p2, p3, p4, p5⟩ := Cls.six T0.lt T0.two
  have qn := Cls.any W
  refine wp_region_cls (by kernel_rfl) (by kernel_rfl) ?_
  repeat (go_big_quiet_step (first
    | (go_at_call 10; exact Calls.cls_of (toPbox_any _ _ _ _ _ _ _))
    | (go_at_call 12; exact Calls.cls_of (closeP_any _ _ _ _ _ _ _ _ _ _ _ _ _))))
  refine wpQuiet_nil ?_
  rintro _ ⟨u, rfl⟩
  have T1 := T0.keep u.same
  clear q0 q1 q2 q3 q4 q5 p0 p1 p2 p3 p4 p5 qn T0
  generalize u.it = W1 at *
  clear u
  go_wp2
  obtain ⟨q0, q1, q2, q3, q4, q5⟩ := Cls.six (by have := T1.lt; omega) T1.one
  obtain ⟨p0, p1, p2, p3, p4, p5⟩ := Cls.six T1.lt T1.two
  have qn := Cls.any W1
  refine wp_region_cls (by kernel_rfl) (by kernel_rfl) ?_
  repeat (go_big_quiet_step (first
    | (go_at_call 10; exact Calls.cls_of (toPbox_any _ _ _ _ _ _ _))
    | (go_at_call 13; exact Calls.cls_of (close_any s t _))))
  refine wpQuiet_nil ?_
  rintro _ ⟨u, rfl⟩
  have T2 := T1.keep u.same
  clear q0 q1 q2 q3 q4 q5 p0 p1 p2 p3 p4 p5 qn T1
  generalize u.it = W2 at *
  clear u
  go_wp2
  go_ret
  exact ⟨rfl, T2.old⟩
end Go.Proofs.Ytdfmcedookogpaa
