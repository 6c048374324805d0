/- The specification's ProbeBoxOk, by its contract. -/
import Derived.WalkKit
import Derived.WalkSpells
import Derived.Test.YtgjleeamhkolhaaGreatDoorRows
import Derived.Test.YtgjleeamhkolhaaGreatDoorPbData
import Derived.Test.YtgjleeamhkolhaaGreatDoorPbInS
namespace Go.Proofs.YtgjleeamhkolhaaGreatDoor
open Go.RowKit

theorem boxOkS_any (x y lo hi i o : Int) (w : World) :
    Calls Tryz.prog 134 #[.agg #[.int .i64 x, .int .i64 y, .int .i64 lo, .int .i64 hi, .int .i64 i, .int .i64 o]] w fun e w' => e = .returned (.bool (boxB ⟨x, y, lo, hi, i, o⟩)) ∧ Below w.heap.size w w' := by
  have hb := (Below.refl w.heap.size w).alloc (Nat.le_refl _) (.cells #[.int .i64 x, .int .i64 y, .int .i64 lo, .int .i64 hi, .int .i64 i, .int .i64 o] 195)
  have ER : Hid (boxB ⟨x, y, lo, hi, i, o⟩ = (inB x 0 15 && inB y 0 15 && inB lo 0 hi && decide (hi ≤ 6) && inB i 0 o && decide (o ≤ 10000))) := rfl
  rcases Bool.eq_false_or_eq_true (inB x 0 15) with h1 | h1
  rcases Bool.eq_false_or_eq_true (inB y 0 15) with h2 | h2
  rcases Bool.eq_false_or_eq_true (inB lo 0 hi) with h3 | h3
  rcases Bool.eq_false_or_eq_true (decide (hi ≤ 6)) with h4 | h4
  rcases Bool.eq_false_or_eq_true (inB i 0 o) with h5 | h5
  all_goals
    go_enter Tryz.func134, Tryz.ntmps134
    go_wp2_with (go_at_call 57; refine (pin_any _ _ _ _).mono ?_; rintro e w' ⟨rfl, rfl⟩)
    go_ret
    exact ⟨by rw [ER.out]; simp [*], hb⟩
theorem boxOkS_val (s : Bx) (v : Bool) (w : World) (hv : boxB s = v) :
    Calls Tryz.prog 134 #[s.val] w fun e w' => e = .returned (.bool v) ∧ Below w.heap.size w w' := by
  rw [← hv]; exact boxOkS_any s.x s.y s.lo s.hi s.in_ s.out w
end Go.Proofs.YtgjleeamhkolhaaGreatDoor
