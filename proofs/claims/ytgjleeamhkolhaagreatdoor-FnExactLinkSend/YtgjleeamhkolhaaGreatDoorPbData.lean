/- Plain data of boxes of the probe; nothing of the program's text is named here. -/
import Derived.Test.YtgjleeamhkolhaaGreatDoorBoxData
namespace Go.Proofs.YtgjleeamhkolhaaGreatDoor
open Go.RowKit

/-- A box as a value. -/
abbrev Bx.val (s : Bx) : Value := .agg #[.int .i64 s.x, .int .i64 s.y, .int .i64 s.lo, .int .i64 s.hi, .int .i64 s.in_, .int .i64 s.out]
/-- A span lies in another one. -/
def liesB (a b c d : Int) : Bool := decide (a ≤ b) && (decide (c ≤ a) && decide (b ≤ d))
/-- Two spans have a number in common. -/
def meetB (a b c d : Int) : Bool := !decide (min b d < max a c)
/-- A box is ok. -/
def boxB (s : Bx) : Bool := inB s.x 0 15 && inB s.y 0 15 && inB s.lo 0 s.hi && decide (s.hi ≤ 6) && inB s.in_ 0 s.out && decide (s.out ≤ 10000)
/-- As the program asks it. -/
theorem boxB_lies (s : Bx) : boxB s = (liesB s.x s.x 0 15 && liesB s.y s.y 0 15 && liesB s.lo s.hi 0 6 && liesB s.in_ s.out 0 10000) := by
  rw [Bool.eq_iff_iff]; simp [boxB, liesB, inB]; omega
theorem boxB_iff (s : Bx) : boxB s = true ↔ 0 ≤ s.x ∧ s.x ≤ 15 ∧ 0 ≤ s.y ∧ s.y ≤ 15 ∧ 0 ≤ s.lo ∧ s.lo ≤ s.hi ∧ s.hi ≤ 6 ∧ 0 ≤ s.in_ ∧ s.in_ ≤ s.out ∧ s.out ≤ 10000 := by
  simp [boxB, inB]; omega
/-- Beside each other, on a level in common. -/
def besideB (a b : Bx) : Bool := inB (a.x - b.x) (-1) 1 && inB (a.y - b.y) (-1) 1 && decide (a.lo ≤ b.hi) && decide (b.lo ≤ a.hi)
/-- Too near, of two that are ok. -/
def nearB (a b : Bx) : Bool := besideB a b && decide (a.in_ ≤ b.out) && decide (b.in_ ≤ a.out)
/-- When two come too near first; and whether they do. -/
def closeT (a b : Bx) : Int := if boxB a && boxB b && nearB a b then max a.in_ b.in_ else 0
def closeB (a b : Bx) : Bool := boxB a && boxB b && nearB a b
/-- Two spans have the same ends. -/
theorem lies_same {a b c d : Int} (h : ¬ b < a) : (decide (max a c = a) && decide (min b d = b)) = liesB a b c d := by
  rw [Bool.eq_iff_iff]; simp [liesB]; omega
theorem lies_none {a b c d : Int} (h : b < a) : liesB a b c d = false := by
  simp [liesB]; omega
theorem beside_meets (a b : Bx) (ha : boxB a = true) (hb : boxB b = true) :
    besideB a b = (meetB (a.x - 1) (a.x + 1) b.x b.x && meetB (a.y - 1) (a.y + 1) b.y b.y && meetB a.lo a.hi b.lo b.hi) := by
  rw [boxB_iff] at ha hb
  rw [Bool.eq_iff_iff]; simp [besideB, meetB, inB]; omega
theorem near_ticks (a b : Bx) (ha : boxB a = true) (hb : boxB b = true) : nearB a b = (besideB a b && !decide (min a.out b.out < max a.in_ b.in_)) := by
  rw [boxB_iff] at ha hb
  unfold nearB
  cases besideB a b
  · rfl
  · rw [Bool.eq_iff_iff]; simp; omega
end Go.Proofs.YtgjleeamhkolhaaGreatDoor
