/- The walk of the law on FlyKindOk: it answers true at every kind, and turns no memory that was there. -/
import Derived.Test.YtnlnbnkhobplnadRows
import Derived.WalkKit
import Derived.WalkSpells
import Derived.RowKit3
namespace Go.Proofs.Ytnlnbnkhobplnad
open Go.RowKit

theorem kind_to (q s : Int) (w : World) :
    Calls Try.prog 13 #[.agg #[.int .i64 q, .int .i64 s]] w fun e w' => e = .returned (.agg #[.int .i64 q, .int .i64 s]) ∧ Below w.heap.size w w' := by
  go_enter Try.func13, Try.ntmps13
  go_wp2
  refine bodyPost_ret (v := .agg #[.int .i64 q, .int .i64 s]) (by simp [results, Try.results13, go_sem]) rfl ⟨rfl, ?_⟩
  exact (((Below.refl _ _).alloc (Nat.le_refl _) _).alloc (by simp) _).alloc (by simp; omega) _

/-- By the bounds. -/
def kindOk (q s : Int) : Bool := decide (1 ≤ q) && decide (q ≤ s) && decide (s ≤ 50)

theorem kind_in (n a b : Int) (w : World) :
    Calls Try.prog 25 #[.int .i64 n, .int .i64 a, .int .i64 b] w fun e w' => e = .returned (.bool (decide (a ≤ n) && decide (n ≤ b))) ∧ w' = w := by
  by_cases h1 : a ≤ n
  · by_cases h2 : n ≤ b
    · go_enter Try.func25, Try.ntmps25
      go_wp2
      go_ret
      exact ⟨by simp [h1, h2], rfl⟩
    · go_enter Try.func25, Try.ntmps25
      go_wp2
      go_ret
      exact ⟨by simp [h2], rfl⟩
  · have h1' : decide (a ≤ n) = false := by simpa using h1
    go_enter Try.func25, Try.ntmps25
    go_wp2
    go_ret
    exact ⟨by simp, rfl⟩

theorem kind_spec (q s : Int) (w : World) :
    Calls Try.prog 12 #[.agg #[.int .i64 q, .int .i64 s]] w fun e w' => e = .returned (.bool (kindOk q s)) ∧ Below w.heap.size w w' := by
  have hb := (Below.refl w.heap.size w).alloc (Nat.le_refl _) (.cells #[.int .i64 q, .int .i64 s] 40)
  cases hk : (decide (1 ≤ q) && decide (q ≤ s)) with
  | true =>
    have e1 : kindOk q s = decide (s ≤ 50) := by simp [kindOk, hk]
    rw [e1]
    clear e1
    go_enter Try.func12, Try.ntmps12
    go_wp2_with (go_at_call 25; refine (kind_in _ _ _ _).mono ?_; rintro e w' ⟨rfl, rfl⟩)
    go_ret
    exact ⟨rfl, hb⟩
  | false =>
    have e1 : kindOk q s = false := by simp [kindOk, hk]
    rw [e1]
    clear e1
    go_enter Try.func12, Try.ntmps12
    go_wp2_with (go_at_call 25; refine (kind_in _ _ _ _).mono ?_; rintro e w' ⟨rfl, rfl⟩)
    go_ret
    exact ⟨rfl, hb⟩

theorem kind_meth (q s : Int) (w : World) :
    Calls Try.prog 26 #[.agg #[.int .i64 q, .int .i64 s]] w fun e w' => e = .returned (.bool (kindOk q s)) ∧ Below w.heap.size w w' := by
  have hb := (Below.refl w.heap.size w).alloc (Nat.le_refl _) (.cells #[.int .i64 q, .int .i64 s] 40)
  by_cases h1 : 1 ≤ q
  · by_cases h2 : q ≤ s
    · go_enter Try.func26, Try.ntmps26
      go_wp2
      go_ret
      exact ⟨by simp [kindOk, h1, h2], hb⟩
    · have h2' : decide (q ≤ s) = false := by simpa using h2
      go_enter Try.func26, Try.ntmps26
      go_wp2
      go_ret
      exact ⟨by simp [kindOk, h2'], hb⟩
  · have h1' : decide (1 ≤ q) = false := by simpa using h1
    go_enter Try.func26, Try.ntmps26
    go_wp2
    go_ret
    exact ⟨by simp [kindOk, h1'], hb⟩

theorem kind_impl (q s : Int) (w : World) :
    Calls Try.prog 14 #[.agg #[.int .i64 q, .int .i64 s]] w fun e w' => e = .returned (.bool (kindOk q s)) ∧ Below w.heap.size w w' := by
  go_enter Try.func14, Try.ntmps14
  go_wp2_with (go_at_call 26; refine (kind_meth q s _).mono ?_; rintro e w1 ⟨rfl, hb1⟩)
  go_ret
  exact ⟨rfl, ((Below.refl _ _).alloc (Nat.le_refl _) _).trans (hb1.mono (by simp))⟩

/-- What lay ahead of a call lies there behind it. -/
theorem old_cells {W w1 : World} (hb : Below W.heap.size W w1) : (∀ b o, b < W.heap.size → w1.cell? ⟨b, o, none⟩ = W.cell? ⟨b, o, none⟩) ∧ (∀ b o, b < W.heap.size → w1.frozen? ⟨b, o, none⟩ = W.frozen? ⟨b, o, none⟩) :=
  ⟨fun b o h => hb.cell (p := ⟨b, o, none⟩) h, fun b o h => hb.frozen (p := ⟨b, o, none⟩) h⟩

theorem kind_law (q s : Int) (w : World) :
    Calls Try.prog 4 #[.agg #[.int .i64 q, .int .i64 s]] w fun e w' => e = .returned (.bool true) ∧ Below w.heap.size w w' := by
  go_enter Try.func4, Try.ntmps4
  go_wp2_with fail
  refine (kind_to q s _).mono ?_
  rintro e w1 ⟨rfl, hb1⟩
  go_wp2_with fail
  refine (kind_spec q s _).mono ?_
  rintro e w2 ⟨rfl, hb2⟩
  obtain ⟨hc, _⟩ := old_cells (hb1.trans (hb2.mono hb1.size))
  have hc0 : w2.cell? ⟨w.heap.size, 0, none⟩ = some (.int .i64 q) := by rw [hc _ _ (by simp)]; simp [go_sem]
  have hc1 : w2.cell? ⟨w.heap.size, 1, none⟩ = some (.int .i64 s) := by rw [hc _ _ (by simp)]; simp [go_sem]
  clear hc
  go_wp2_with fail
  refine (kind_to q s _).mono ?_
  rintro e w3 ⟨rfl, hb3⟩
  go_wp2_with fail
  refine (kind_impl q s _).mono ?_
  rintro e w4 ⟨rfl, hb4⟩
  have hz1 := hb1.size
  have hz2 := hb2.size
  have hz3 := hb3.size
  simp at hz1
  have hb : Below w.heap.size w w4 := ((((Below.refl _ _).alloc (Nat.le_refl _) _).trans (hb1.mono (by simp))).trans (hb2.mono (by omega))).trans ((hb3.mono (by omega)).trans (hb4.mono (by omega)))
  go_wp2
  go_ret
  exact ⟨rfl, hb⟩
end Go.Proofs.Ytnlnbnkhobplnad
