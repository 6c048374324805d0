/- The program's ProbeClose, by its contract. -/
import Derived.Deep.RegionHeld3
import Derived.Test.YtgjleeamhkolhaaGreatDoorPbImpl
namespace Go.Proofs.YtgjleeamhkolhaaGreatDoor
open Go.RowKit

theorem widen_any (a b c : Int) (w : World) (ha : -100 ≤ a ∧ a ≤ 100) (hb : -100 ≤ b ∧ b ≤ 100) (hc : -100 ≤ c ∧ c ≤ 100) :
    Calls Tryz.prog 188 #[.agg #[.int .i64 a, .int .i64 b], .int .i64 c] w fun e w' => e = .returned (.agg #[.int .i64 (a - c), .int .i64 (b + c)]) ∧ Below w.heap.size w w' := by
  have w0 : IntKind.i64.wrap (a - c) = a - c := by rw [IntKind.wrap_i64]; omega
  have w2 : IntKind.i64.wrap (b + c) = b + c := by rw [IntKind.wrap_i64]; omega
  go_enter Tryz.func188, Tryz.ntmps188
  go_wp2_with fail
  refine (ofCell_any _ _ _).mono ?_
  rintro e w1 ⟨rfl, hb1⟩
  obtain ⟨hc1, hf1⟩ := old_cells hb1
  have r0 : w1.cell? ⟨w.heap.size + 1, 0, none⟩ = some (.int .i64 0) := by rw [hc1 _ _ (by simp)]; simp [go_sem]
  have r1 : w1.cell? ⟨w.heap.size + 1, 1, none⟩ = some (.int .i64 0) := by rw [hc1 _ _ (by simp)]; simp [go_sem]
  have f0 : ∀ j, w1.frozen? ⟨w.heap.size + 1, j, none⟩ = false := by intro j; rw [hf1 _ _ (by simp)]; simp [go_sem]
  have hb01 : Below w.heap.size w w1 := (bel2 _ _).trans (hb1.mono (by simp; omega))
  clear hb1 hc1 hf1
  go_wp2
  refine bodyPost_ret (v := .agg #[.int .i64 (a - c), .int .i64 (b + c)]) (by simp [results, Tryz.results188, go_sem, *]) rfl ⟨rfl, ?_⟩
  iterate 2 (refine Below.setCell ?_ (by simp) _)
  exact hb01

theorem meetsCell_any (a b c d : Int) (w : World) :
    Calls Tryz.prog 189 #[.agg #[.int .i64 a, .int .i64 b], .agg #[.int .i64 c, .int .i64 d]] w fun e w' => e = .returned (.bool (meetB a b c d)) ∧ Below w.heap.size w w' := by
  go_enter Tryz.func189, Tryz.ntmps189
  go_wp2_with fail
  refine (meetCell_any _ _ _ _ _).mono ?_
  rintro e w1 ⟨rfl, hb1⟩
  have B1 : Below w.heap.size w w1 := (bel2 _ _).trans (hb1.mono (by simp; omega))
  go_wp2_with fail
  refine (emptyCell_any _ _ _).mono ?_
  rintro e w2 ⟨rfl, hb2⟩
  go_wp2
  go_ret
  exact ⟨rfl, B1.trans (hb2.mono B1.size)⟩
theorem meetsCell_val (a b c d : Int) (v : Bool) (w : World) (hv : meetB a b c d = v) :
    Calls Tryz.prog 189 #[.agg #[.int .i64 a, .int .i64 b], .agg #[.int .i64 c, .int .i64 d]] w fun e w' => e = .returned (.bool v) ∧ Below w.heap.size w w' := by
  rw [← hv]; exact meetsCell_any a b c d w

theorem meetsLevel_any (a b c d : Int) (w : World) :
    Calls Tryz.prog 190 #[.agg #[.int .i64 a, .int .i64 b], .agg #[.int .i64 c, .int .i64 d]] w fun e w' => e = .returned (.bool (meetB a b c d)) ∧ Below w.heap.size w w' := by
  go_enter Tryz.func190, Tryz.ntmps190
  go_wp2_with fail
  refine (meetLevel_any _ _ _ _ _).mono ?_
  rintro e w1 ⟨rfl, hb1⟩
  have B1 : Below w.heap.size w w1 := (bel2 _ _).trans (hb1.mono (by simp; omega))
  go_wp2_with fail
  refine (emptyLevel_any _ _ _).mono ?_
  rintro e w2 ⟨rfl, hb2⟩
  go_wp2
  go_ret
  exact ⟨rfl, B1.trans (hb2.mono B1.size)⟩
theorem meetsLevel_val (a b c d : Int) (v : Bool) (w : World) (hv : meetB a b c d = v) :
    Calls Tryz.prog 190 #[.agg #[.int .i64 a, .int .i64 b], .agg #[.int .i64 c, .int .i64 d]] w fun e w' => e = .returned (.bool v) ∧ Below w.heap.size w w' := by
  rw [← hv]; exact meetsLevel_any a b c d w

set_option maxHeartbeats 4000000 in
theorem beside_a (x y lo hi i o x' y' lo' hi' i' o' : Int) (w : World) (hA : boxB ⟨x, y, lo, hi, i, o⟩ = true) (hB : boxB ⟨x', y', lo', hi', i', o'⟩ = true) (h1 : meetB (x - 1) (x + 1) x' x' = false) :
    Calls Tryz.prog 170 #[.agg #[.int .i64 x, .int .i64 y, .int .i64 lo, .int .i64 hi, .int .i64 i, .int .i64 o], .agg #[.int .i64 x', .int .i64 y', .int .i64 lo', .int .i64 hi', .int .i64 i', .int .i64 o']] w
      fun e w' => e = .returned (.bool (besideB ⟨x, y, lo, hi, i, o⟩ ⟨x', y', lo', hi', i', o'⟩)) ∧ Below w.heap.size w w' := by
  have ER : Hid (besideB ⟨x, y, lo, hi, i, o⟩ ⟨x', y', lo', hi', i', o'⟩ = (meetB (x - 1) (x + 1) x' x' && meetB (y - 1) (y + 1) y' y' && meetB lo hi lo' hi')) := beside_meets _ _ hA hB
  rw [boxB_iff] at hA
  simp only at hA
  have X : -100 ≤ x ∧ x ≤ 100 := by omega
  have Y : -100 ≤ y ∧ y ≤ 100 := by omega
  have O : (-100 : Int) ≤ 1 ∧ (1 : Int) ≤ 100 := by omega
  clear hA hB
  have hn := World.rangeAt_alloc (box_new w ⟨x, y, lo, hi, i, o⟩ 195) (.cells #[.int .i64 x', .int .i64 y', .int .i64 lo', .int .i64 hi', .int .i64 i', .int .i64 o'] 195)
  have hm := box_new (w.alloc (.cells #[.int .i64 x, .int .i64 y, .int .i64 lo, .int .i64 hi, .int .i64 i, .int .i64 o] 195)) ⟨x', y', lo', hi', i', o'⟩ 195
  rw [World.size_alloc] at hm
  have B2 := bel2 (w := w) (.cells #[.int .i64 x, .int .i64 y, .int .i64 lo, .int .i64 hi, .int .i64 i, .int .i64 o] 195) (.cells #[.int .i64 x', .int .i64 y', .int .i64 lo', .int .i64 hi', .int .i64 i', .int .i64 o'] 195)
  have z2 : ((w.alloc (.cells #[.int .i64 x, .int .i64 y, .int .i64 lo, .int .i64 hi, .int .i64 i, .int .i64 o] 195)).alloc (.cells #[.int .i64 x', .int .i64 y', .int .i64 lo', .int .i64 hi', .int .i64 i', .int .i64 o'] 195)).heap.size = w.heap.size + 1 + 1 := by simp
  have W1 := widen_any x x 1
  have W2 := widen_any y y 1
  go_enter Tryz.func170, Tryz.ntmps170
  go_wp2
  generalize (w.alloc (.cells #[.int .i64 x, .int .i64 y, .int .i64 lo, .int .i64 hi, .int .i64 i, .int .i64 o] 195)).alloc (.cells #[.int .i64 x', .int .i64 y', .int .i64 lo', .int .i64 hi', .int .i64 i', .int .i64 o'] 195) = W at *
  obtain ⟨q0, q1, q2, q3, q4, q5⟩ := Cls.six (by omega) hn
  obtain ⟨p0, p1, p2, p3, p4, p5⟩ := Cls.six (by omega) hm
  have qn := Cls.any W
  clear hn hm W1 W2
  refine wp_region_cls (by kernel_rfl) (by kernel_rfl) ?_
  repeat (go_big_quiet_step (first
    | (go_at_call 180; exact Calls.cls_of (xs_any _ _ _ _ _ _ _))
    | (go_at_call 182; exact Calls.cls_of (ys_any _ _ _ _ _ _ _))
    | (go_at_call 183; exact Calls.cls_of (levels_any _ _ _ _ _ _ _))
    | (go_at_call 188; exact Calls.cls_of (widen_any _ _ _ _ (by first | exact X | exact Y) (by first | exact X | exact Y) O))
    | (go_at_call 189; exact Calls.cls_of (meetsCell_val _ _ _ _ _ _ (by first | exact h1 | exact h2)))
    | (go_at_call 190; exact Calls.cls_of (meetsLevel_any _ _ _ _ _))))
  refine wpQuiet_nil ?_
  rintro _ ⟨u, rfl⟩
  clear q0 q1 q2 q3 q4 q5 p0 p1 p2 p3 p4 p5 qn
  go_wp2
  go_ret
  exact ⟨by rw [ER.out]; simp [*], B2.trans (u.same.mono B2.size)⟩

set_option maxHeartbeats 4000000 in
theorem beside_b (x y lo hi i o x' y' lo' hi' i' o' : Int) (w : World) (hA : boxB ⟨x, y, lo, hi, i, o⟩ = true) (hB : boxB ⟨x', y', lo', hi', i', o'⟩ = true) (h1 : meetB (x - 1) (x + 1) x' x' = true) (h2 : meetB (y - 1) (y + 1) y' y' = false) :
    Calls Tryz.prog 170 #[.agg #[.int .i64 x, .int .i64 y, .int .i64 lo, .int .i64 hi, .int .i64 i, .int .i64 o], .agg #[.int .i64 x', .int .i64 y', .int .i64 lo', .int .i64 hi', .int .i64 i', .int .i64 o']] w
      fun e w' => e = .returned (.bool (besideB ⟨x, y, lo, hi, i, o⟩ ⟨x', y', lo', hi', i', o'⟩)) ∧ Below w.heap.size w w' := by
  have ER : Hid (besideB ⟨x, y, lo, hi, i, o⟩ ⟨x', y', lo', hi', i', o'⟩ = (meetB (x - 1) (x + 1) x' x' && meetB (y - 1) (y + 1) y' y' && meetB lo hi lo' hi')) := beside_meets _ _ hA hB
  rw [boxB_iff] at hA
  simp only at hA
  have X : -100 ≤ x ∧ x ≤ 100 := by omega
  have Y : -100 ≤ y ∧ y ≤ 100 := by omega
  have O : (-100 : Int) ≤ 1 ∧ (1 : Int) ≤ 100 := by omega
  clear hA hB
  have hn := World.rangeAt_alloc (box_new w ⟨x, y, lo, hi, i, o⟩ 195) (.cells #[.int .i64 x', .int .i64 y', .int .i64 lo', .int .i64 hi', .int .i64 i', .int .i64 o'] 195)
  have hm := box_new (w.alloc (.cells #[.int .i64 x, .int .i64 y, .int .i64 lo, .int .i64 hi, .int .i64 i, .int .i64 o] 195)) ⟨x', y', lo', hi', i', o'⟩ 195
  rw [World.size_alloc] at hm
  have B2 := bel2 (w := w) (.cells #[.int .i64 x, .int .i64 y, .int .i64 lo, .int .i64 hi, .int .i64 i, .int .i64 o] 195) (.cells #[.int .i64 x', .int .i64 y', .int .i64 lo', .int .i64 hi', .int .i64 i', .int .i64 o'] 195)
  have z2 : ((w.alloc (.cells #[.int .i64 x, .int .i64 y, .int .i64 lo, .int .i64 hi, .int .i64 i, .int .i64 o] 195)).alloc (.cells #[.int .i64 x', .int .i64 y', .int .i64 lo', .int .i64 hi', .int .i64 i', .int .i64 o'] 195)).heap.size = w.heap.size + 1 + 1 := by simp
  have W1 := widen_any x x 1
  have W2 := widen_any y y 1
  go_enter Tryz.func170, Tryz.ntmps170
  go_wp2
  generalize (w.alloc (.cells #[.int .i64 x, .int .i64 y, .int .i64 lo, .int .i64 hi, .int .i64 i, .int .i64 o] 195)).alloc (.cells #[.int .i64 x', .int .i64 y', .int .i64 lo', .int .i64 hi', .int .i64 i', .int .i64 o'] 195) = W at *
  obtain ⟨q0, q1, q2, q3, q4, q5⟩ := Cls.six (by omega) hn
  obtain ⟨p0, p1, p2, p3, p4, p5⟩ := Cls.six (by omega) hm
  have qn := Cls.any W
  clear hn hm W1 W2
  refine wp_region_cls (by kernel_rfl) (by kernel_rfl) ?_
  repeat (go_big_quiet_step (first
    | (go_at_call 180; exact Calls.cls_of (xs_any _ _ _ _ _ _ _))
    | (go_at_call 182; exact Calls.cls_of (ys_any _ _ _ _ _ _ _))
    | (go_at_call 183; exact Calls.cls_of (levels_any _ _ _ _ _ _ _))
    | (go_at_call 188; exact Calls.cls_of (widen_any _ _ _ _ (by first | exact X | exact Y) (by first | exact X | exact Y) O))
    | (go_at_call 189; exact Calls.cls_of (meetsCell_val _ _ _ _ _ _ (by first | exact h1 | exact h2)))
    | (go_at_call 190; exact Calls.cls_of (meetsLevel_any _ _ _ _ _))))
  refine wpQuiet_nil ?_
  rintro _ ⟨u, rfl⟩
  clear q0 q1 q2 q3 q4 q5 p0 p1 p2 p3 p4 p5 qn
  go_wp2
  go_ret
  exact ⟨by rw [ER.out]; simp [*], B2.trans (u.same.mono B2.size)⟩

set_option maxHeartbeats 4000000 in
theorem beside_c (x y lo hi i o x' y' lo' hi' i' o' : Int) (w : World) (hA : boxB ⟨x, y, lo, hi, i, o⟩ = true) (hB : boxB ⟨x', y', lo', hi', i', o'⟩ = true) (h1 : meetB (x - 1) (x + 1) x' x' = true) (h2 : meetB (y - 1) (y + 1) y' y' = true) :
    Calls Tryz.prog 170 #[.agg #[.int .i64 x, .int .i64 y, .int .i64 lo, .int .i64 hi, .int .i64 i, .int .i64 o], .agg #[.int .i64 x', .int .i64 y', .int .i64 lo', .int .i64 hi', .int .i64 i', .int .i64 o']] w
      fun e w' => e = .returned (.bool (besideB ⟨x, y, lo, hi, i, o⟩ ⟨x', y', lo', hi', i', o'⟩)) ∧ Below w.heap.size w w' := by
  have ER : Hid (besideB ⟨x, y, lo, hi, i, o⟩ ⟨x', y', lo', hi', i', o'⟩ = (meetB (x - 1) (x + 1) x' x' && meetB (y - 1) (y + 1) y' y' && meetB lo hi lo' hi')) := beside_meets _ _ hA hB
  rw [boxB_iff] at hA
  simp only at hA
  have X : -100 ≤ x ∧ x ≤ 100 := by omega
  have Y : -100 ≤ y ∧ y ≤ 100 := by omega
  have O : (-100 : Int) ≤ 1 ∧ (1 : Int) ≤ 100 := by omega
  clear hA hB
  have hn := World.rangeAt_alloc (box_new w ⟨x, y, lo, hi, i, o⟩ 195) (.cells #[.int .i64 x', .int .i64 y', .int .i64 lo', .int .i64 hi', .int .i64 i', .int .i64 o'] 195)
  have hm := box_new (w.alloc (.cells #[.int .i64 x, .int .i64 y, .int .i64 lo, .int .i64 hi, .int .i64 i, .int .i64 o] 195)) ⟨x', y', lo', hi', i', o'⟩ 195
  rw [World.size_alloc] at hm
  have B2 := bel2 (w := w) (.cells #[.int .i64 x, .int .i64 y, .int .i64 lo, .int .i64 hi, .int .i64 i, .int .i64 o] 195) (.cells #[.int .i64 x', .int .i64 y', .int .i64 lo', .int .i64 hi', .int .i64 i', .int .i64 o'] 195)
  have z2 : ((w.alloc (.cells #[.int .i64 x, .int .i64 y, .int .i64 lo, .int .i64 hi, .int .i64 i, .int .i64 o] 195)).alloc (.cells #[.int .i64 x', .int .i64 y', .int .i64 lo', .int .i64 hi', .int .i64 i', .int .i64 o'] 195)).heap.size = w.heap.size + 1 + 1 := by simp
  have W1 := widen_any x x 1
  have W2 := widen_any y y 1
  go_enter Tryz.func170, Tryz.ntmps170
  go_wp2
  generalize (w.alloc (.cells #[.int .i64 x, .int .i64 y, .int .i64 lo, .int .i64 hi, .int .i64 i, .int .i64 o] 195)).alloc (.cells #[.int .i64 x', .int .i64 y', .int .i64 lo', .int .i64 hi', .int .i64 i', .int .i64 o'] 195) = W at *
  obtain ⟨q0, q1, q2, q3, q4, q5⟩ := Cls.six (by omega) hn
  obtain ⟨p0, p1, p2, p3, p4, p5⟩ := Cls.six (by omega) hm
  have qn := Cls.any W
  clear hn hm W1 W2
  refine wp_region_cls (by kernel_rfl) (by kernel_rfl) ?_
  repeat (go_big_quiet_step (first
    | (go_at_call 180; exact Calls.cls_of (xs_any _ _ _ _ _ _ _))
    | (go_at_call 182; exact Calls.cls_of (ys_any _ _ _ _ _ _ _))
    | (go_at_call 183; exact Calls.cls_of (levels_any _ _ _ _ _ _ _))
    | (go_at_call 188; exact Calls.cls_of (widen_any _ _ _ _ (by first | exact X | exact Y) (by first | exact X | exact Y) O))
    | (go_at_call 189; exact Calls.cls_of (meetsCell_val _ _ _ _ _ _ (by first | exact h1 | exact h2)))
    | (go_at_call 190; exact Calls.cls_of (meetsLevel_any _ _ _ _ _))))
  refine wpQuiet_nil ?_
  rintro _ ⟨u, rfl⟩
  clear q0 q1 q2 q3 q4 q5 p0 p1 p2 p3 p4 p5 qn
  go_wp2
  go_ret
  exact ⟨by rw [ER.out]; simp [*], B2.trans (u.same.mono B2.size)⟩
theorem beside_any (s t : Bx) (w : World) (hA : boxB s = true) (hB : boxB t = true) :
    Calls Tryz.prog 170 #[s.val, t.val] w fun e w' => e = .returned (.bool (besideB s t)) ∧ Below w.heap.size w w' := by
  obtain ⟨x, y, lo, hi, i, o⟩ := s
  obtain ⟨x', y', lo', hi', i', o'⟩ := t
  cases h1 : meetB (x - 1) (x + 1) x' x'
  · exact beside_a x y lo hi i o x' y' lo' hi' i' o' w hA hB h1
  cases h2 : meetB (y - 1) (y + 1) y' y'
  · exact beside_b x y lo hi i o x' y' lo' hi' i' o' w hA hB h1 h2
  · exact beside_c x y lo hi i o x' y' lo' hi' i' o' w hA hB h1 h2
theorem beside_val (s t : Bx) (v : Bool) (w : World) (hA : boxB s = true) (hB : boxB t = true) (hv : besideB s t = v) :
    Calls Tryz.prog 170 #[s.val, t.val] w fun e w' => e = .returned (.bool v) ∧ Below w.heap.size w w' := by
  rw [← hv]; exact beside_any s t w hA hB
end Go.Proofs.YtgjleeamhkolhaaGreatDoor
