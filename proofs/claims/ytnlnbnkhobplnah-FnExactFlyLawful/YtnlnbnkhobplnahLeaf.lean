/- The small functions under FlyPathOk, each by its contract. -/
import Derived.Test.YtnlnbnkhobplnahRows
import Derived.Test.YtnlnbnkhobplnahData
import Derived.WalkKit
import Derived.WalkSpells
namespace Go.Proofs.Ytnlnbnkhobplnah
open Go.RowKit

theorem in_any (n a b : Int) (w : World) :
    Calls Try.prog 16 #[.int .i64 n, .int .i64 a, .int .i64 b] w fun e w' => e = .returned (.bool (inB n a b)) ∧ w' = w := by
  by_cases h1 : a ≤ n
  · by_cases h2 : n ≤ b
    · go_enter Try.func16, Try.ntmps16
      go_wp2
      go_ret
      exact ⟨by simp [inB, h1, h2], rfl⟩
    · have h2' : decide (n ≤ b) = false := by simpa using h2
      go_enter Try.func16, Try.ntmps16
      go_wp2
      go_ret
      exact ⟨by simp [inB, h2'], rfl⟩
  · have h1' : decide (a ≤ n) = false := by simpa using h1
    go_enter Try.func16, Try.ntmps16
    go_wp2
    go_ret
    exact ⟨by simp [inB, h1'], rfl⟩

theorem onSide_any (n : Int) (w : World) :
    Calls Try.prog 42 #[.int .i64 n] w fun e w' => e = .returned (.bool (inB n 0 15)) ∧ w' = w := by
  by_cases h1 : 0 ≤ n
  · go_enter Try.func42, Try.ntmps42
    go_wp2
    go_ret
    have e1 : decide (n < 16) = inB n 0 15 := by by_cases h : n < 16 <;> simp [inB, h, h1] <;> omega
    exact ⟨by rw [← e1]; rfl, rfl⟩
  · have h1' : decide (0 ≤ n) = false := by simpa using h1
    go_enter Try.func42, Try.ntmps42
    go_wp2
    go_ret
    exact ⟨by simp [inB, h1'], rfl⟩

theorem ordered_any (a b c d : Int) (w : World) :
    Calls Try.prog 38 #[.int .i64 a, .int .i64 b, .int .i64 c, .int .i64 d] w fun e w' => e = .returned (.bool (ordB a b c d)) ∧ w' = w := by
  by_cases h1 : a ≤ b
  · by_cases h2 : b ≤ c
    · go_enter Try.func38, Try.ntmps38
      go_wp2
      go_ret
      exact ⟨by simp [ordB, h1, h2], rfl⟩
    · have e1 : ordB a b c d = false := by simp [ordB]; omega
      rw [e1]
      clear e1
      go_enter Try.func38, Try.ntmps38
      go_wp2
      go_ret
      exact ⟨rfl, rfl⟩
  · have e1 : ordB a b c d = false := by simp [ordB]; omega
    rw [e1]
    clear e1
    go_enter Try.func38, Try.ntmps38
    go_wp2
    go_ret
    exact ⟨rfl, rfl⟩

theorem isBeside_any (a b : Int) (w : World) :
    Calls Try.prog 44 #[.int .i64 a, .int .i64 b] w fun e w' => e = .returned (.bool (inB (wrap64 (a - b)) (-1) 1)) ∧ w' = w := by
  by_cases h1 : -1 ≤ wrap64 (a - b)
  · go_enter Try.func44, Try.ntmps44
    go_wp2
    go_ret
    exact ⟨by simp [inB, h1], rfl⟩
  · have h1' : decide (-1 ≤ wrap64 (a - b)) = false := by simpa using h1
    go_enter Try.func44, Try.ntmps44
    go_wp2
    go_ret
    exact ⟨by simp [inB, h1'], rfl⟩

theorem stepOk_any (x y lo hi fr b : Int) (ho : Bool) (w : World) :
    Calls Try.prog 35 #[.agg #[.int .i64 x, .int .i64 y, .int .i64 lo, .int .i64 hi, .int .i64 fr, .int .i64 b, .bool ho]] w fun e w' => e = .returned (.bool (stepB x y lo hi fr b)) ∧ Below w.heap.size w w' := by
  have hb := (Below.refl w.heap.size w).alloc (Nat.le_refl _) (.cells #[.int .i64 x, .int .i64 y, .int .i64 lo, .int .i64 hi, .int .i64 fr, .int .i64 b, .bool ho] 46)
  cases h1 : inB x 0 15 with
  | false =>
    have e1 : stepB x y lo hi fr b = false := by simp [stepB, inB] at *; omega
    rw [e1]; clear e1
    go_enter Try.func35, Try.ntmps35
    go_wp2_with (first | (go_at_call 42; refine (onSide_any _ _).mono ?_; rintro e w' ⟨rfl, rfl⟩) | (go_at_call 38; refine (ordered_any _ _ _ _ _).mono ?_; rintro e w' ⟨rfl, rfl⟩))
    go_ret
    exact ⟨rfl, hb⟩
  | true =>
  cases h2 : inB y 0 15 with
  | false =>
    have e1 : stepB x y lo hi fr b = false := by simp [stepB, inB] at *; omega
    rw [e1]; clear e1
    go_enter Try.func35, Try.ntmps35
    go_wp2_with (first | (go_at_call 42; refine (onSide_any _ _).mono ?_; rintro e w' ⟨rfl, rfl⟩) | (go_at_call 38; refine (ordered_any _ _ _ _ _).mono ?_; rintro e w' ⟨rfl, rfl⟩))
    go_ret
    exact ⟨rfl, hb⟩
  | true =>
  cases h3 : ordB 0 lo hi 6 with
  | false =>
    have e1 : stepB x y lo hi fr b = false := by simp [stepB, inB, ordB] at *; omega
    rw [e1]; clear e1
    go_enter Try.func35, Try.ntmps35
    go_wp2_with (first | (go_at_call 42; refine (onSide_any _ _).mono ?_; rintro e w' ⟨rfl, rfl⟩) | (go_at_call 38; refine (ordered_any _ _ _ _ _).mono ?_; rintro e w' ⟨rfl, rfl⟩))
    go_ret
    exact ⟨rfl, hb⟩
  | true =>
    have e1 : stepB x y lo hi fr b = ordB 0 fr b 10000 := by
      rw [Bool.eq_iff_iff]; simp [stepB, inB, ordB] at *; omega
    rw [e1]; clear e1
    go_enter Try.func35, Try.ntmps35
    go_wp2_with (first | (go_at_call 42; refine (onSide_any _ _).mono ?_; rintro e w' ⟨rfl, rfl⟩) | (go_at_call 38; refine (ordered_any _ _ _ _ _).mono ?_; rintro e w' ⟨rfl, rfl⟩))
    go_ret
    exact ⟨rfl, hb⟩

theorem sharesLevel_any (x y lo hi fr b x' y' lo' hi' fr' b' : Int) (ho ho' : Bool) (w : World) :
    Calls Try.prog 45 #[.agg #[.int .i64 x, .int .i64 y, .int .i64 lo, .int .i64 hi, .int .i64 fr, .int .i64 b, .bool ho], .agg #[.int .i64 x', .int .i64 y', .int .i64 lo', .int .i64 hi', .int .i64 fr', .int .i64 b', .bool ho']] w
      fun e w' => e = .returned (.bool (levB lo hi lo' hi')) ∧ Below w.heap.size w w' := by
  have hb := ((Below.refl w.heap.size w).alloc (Nat.le_refl _) (.cells #[.int .i64 x, .int .i64 y, .int .i64 lo, .int .i64 hi, .int .i64 fr, .int .i64 b, .bool ho] 46)).alloc (by simp) (.cells #[.int .i64 x', .int .i64 y', .int .i64 lo', .int .i64 hi', .int .i64 fr', .int .i64 b', .bool ho'] 46)
  by_cases h1 : lo ≤ hi'
  · go_enter Try.func45, Try.ntmps45
    go_wp2
    go_ret
    exact ⟨by simp [levB, h1], hb⟩
  · have h1' : decide (lo ≤ hi') = false := by simpa using h1
    go_enter Try.func45, Try.ntmps45
    go_wp2
    go_ret
    exact ⟨by simp [levB, h1'], hb⟩

theorem stepOkS_any (x y lo hi fr b : Int) (ho : Bool) (w : World) :
    Calls Try.prog 17 #[.agg #[.int .i64 x, .int .i64 y, .int .i64 lo, .int .i64 hi, .int .i64 fr, .int .i64 b, .bool ho]] w fun e w' => e = .returned (.bool (stepB x y lo hi fr b)) ∧ Below w.heap.size w w' := by
  have hb := (Below.refl w.heap.size w).alloc (Nat.le_refl _) (.cells #[.int .i64 x, .int .i64 y, .int .i64 lo, .int .i64 hi, .int .i64 fr, .int .i64 b, .bool ho] 46)
  have er : stepB x y lo hi fr b = (inB x 0 15 && inB y 0 15 && inB lo 0 hi && decide (hi ≤ 6) && inB fr 0 b && decide (b ≤ 10000)) := by
    rw [Bool.eq_iff_iff]; simp [stepB, inB]; omega
  have ER : Hid (stepB x y lo hi fr b = (inB x 0 15 && inB y 0 15 && inB lo 0 hi && decide (hi ≤ 6) && inB fr 0 b && decide (b ≤ 10000))) := er
  clear er
  rcases Bool.eq_false_or_eq_true (inB x 0 15) with h1 | h1
  rcases Bool.eq_false_or_eq_true (inB y 0 15) with h2 | h2
  rcases Bool.eq_false_or_eq_true (inB lo 0 hi) with h3 | h3
  rcases Bool.eq_false_or_eq_true (decide (hi ≤ 6)) with h4 | h4
  rcases Bool.eq_false_or_eq_true (inB fr 0 b) with h5 | h5
  all_goals
    go_enter Try.func17, Try.ntmps17
    go_wp2_with (go_at_call 16; refine (in_any _ _ _ _).mono ?_; rintro e w' ⟨rfl, rfl⟩)
    go_ret
    exact ⟨by rw [ER.out]; simp [*], hb⟩

end Go.Proofs.Ytnlnbnkhobplnah
