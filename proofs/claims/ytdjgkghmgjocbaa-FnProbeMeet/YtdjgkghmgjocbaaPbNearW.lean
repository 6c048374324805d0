/- The law's own wpAbs and wpNear, by their contracts: of boxes that are ok. -/
import Derived.Test.YtdjgkghmgjocbaaPbNearM
import Derived.Test.YtdjgkghmgjocbaaPbSpec
namespace Go.Proofs.Ytdjgkghmgjocbaa
open Go.RowKit

def absI (n : Int) : Int := if n < 0 then -n else n
theorem wpAbs_any (n : Int) (w : World) (hn : -100 ≤ n ∧ n ≤ 100) :
    Calls Try.prog 48 #[.int .i64 n] w fun e w' => e = .returned (.int .i64 (absI n)) ∧ w' = w := by
  have wn : IntKind.i64.wrap (-n) = -n := by rw [IntKind.wrap_i64]; omega
  by_cases h : n < 0
  · have G : Hid (absI n = -n) := by show _ = _; unfold absI; rw [if_pos h]
    go_enter Try.func48, Try.ntmps48
    go_wp2
    go_ret
    exact ⟨by rw [G.out]; rfl, rfl⟩
  · have G : Hid (absI n = n) := by show _ = _; unfold absI; rw [if_neg h]
    go_enter Try.func48, Try.ntmps48
    go_wp2
    go_ret
    exact ⟨by rw [G.out]; rfl, rfl⟩

theorem nearAt_as (a b : Bx) (t : Int) : nearAtB a b t = true ↔ (a.in_ ≤ t ∧ t ≤ a.out ∧ b.in_ ≤ t ∧ t ≤ b.out ∧ absI (a.x - b.x) < 2 ∧ absI (a.y - b.y) < 2 ∧ a.lo ≤ b.hi ∧ b.lo ≤ a.hi) := by
  simp only [nearAtB, besideB, inB, absI, Bool.and_eq_true, decide_eq_true_eq]
  constructor
  · intro h
    refine ⟨by omega, by omega, by omega, by omega, ?_, ?_, by omega, by omega⟩ <;> split <;> omega
  · rintro ⟨h1, h2, h3, h4, h5, h6, h7, h8⟩
    split at h5 <;> split at h6 <;> omega
set_option maxHeartbeats 4000000 in
theorem wpNear_any (x y lo hi i o x' y' lo' hi' i' o' t : Int) (w : World) (ha : boxB ⟨x, y, lo, hi, i, o⟩ = true) (hb' : boxB ⟨x', y', lo', hi', i', o'⟩ = true) :
    Calls Try.prog 20 #[.agg #[.int .i64 x, .int .i64 y, .int .i64 lo, .int .i64 hi, .int .i64 i, .int .i64 o], .agg #[.int .i64 x', .int .i64 y', .int .i64 lo', .int .i64 hi', .int .i64 i', .int .i64 o'], .int .i64 t] w
      fun e w' => e = .returned (.bool (nearAtB ⟨x, y, lo, hi, i, o⟩ ⟨x', y', lo', hi', i', o'⟩ t)) ∧ Below w.heap.size w w' := by
  have hb : ∀ c1 c2 : Array Value, Below w.heap.size w ((w.alloc (.cells c1 59)).alloc (.cells c2 59)) := fun c1 c2 => ((Below.refl w.heap.size w).alloc (Nat.le_refl _) _).alloc (by simp) _
  have NA : Hid (nearAtB ⟨x, y, lo, hi, i, o⟩ ⟨x', y', lo', hi', i', o'⟩ t = true ↔ (i ≤ t ∧ t ≤ o ∧ i' ≤ t ∧ t ≤ o' ∧ absI (x - x') < 2 ∧ absI (y - y') < 2 ∧ lo ≤ hi' ∧ lo' ≤ hi)) := nearAt_as _ _ _
  rw [boxB_iff] at ha hb'
  simp only at ha hb'
  have wx : IntKind.i64.wrap (x - x') = x - x' := by rw [IntKind.wrap_i64]; omega
  have wy : IntKind.i64.wrap (y - y') = y - y' := by rw [IntKind.wrap_i64]; omega
  have bx : -100 ≤ x - x' ∧ x - x' ≤ 100 := by omega
  have by_ : -100 ≤ y - y' ∧ y - y' ≤ 100 := by omega
  have L : Hid (0 ≤ lo ∧ lo ≤ hi ∧ hi ≤ 6 ∧ 0 ≤ lo' ∧ lo' ≤ hi' ∧ hi' ≤ 6) := ⟨by omega, by omega, by omega, by omega, by omega, by omega⟩
  clear ha hb'
  by_cases h1 : t < i
  rotate_left
  by_cases h2 : o < t
  rotate_left
  by_cases h3 : t < i'
  rotate_left
  by_cases h4 : o' < t
  rotate_left
  by_cases h5 : 2 ≤ absI (x - x')
  rotate_left
  by_cases h6 : 2 ≤ absI (y - y')
  rotate_left
  · go_enter Try.func20, Try.ntmps20
    go_wp2_with (go_at_call 48; refine (wpAbs_any _ _ (by first | exact bx | exact by_)).mono ?_; rintro e w' ⟨rfl, rfl⟩)
    go_loopw [7] (fun v wr => ∃ n : Int, lo ≤ n ∧ n ≤ hi + 1 ∧ v = .int .i64 n ∧ wr = (w.alloc (.cells #[.int .i64 x, .int .i64 y, .int .i64 lo, .int .i64 hi, .int .i64 i, .int .i64 o] 59)).alloc (.cells #[.int .i64 x', .int .i64 y', .int .i64 lo', .int .i64 hi', .int .i64 i', .int .i64 o'] 59) ∧ ∀ k, lo ≤ k → k < n → ¬ (lo' ≤ k ∧ k ≤ hi')) (fun v _ => (hi + 1 - intOf v).toNat)
    case atStart => exact ⟨lo, Int.le_refl _, by have := L.out; omega, rfl, rfl, fun k a b => by omega⟩
    case round =>
      obtain ⟨n, n0, n1, rfl, rfl, hno⟩ := hrel
      have HN : Hid (∀ k, lo ≤ k → k < n → ¬ (lo' ≤ k ∧ k ≤ hi')) := hno
      clear hno
      have wn : IntKind.i64.wrap (n + 1) = n + 1 := by have := L.out; rw [IntKind.wrap_i64]; omega
      by_cases hlt : n ≤ hi
      · by_cases ha : lo' ≤ n
        · by_cases hc : n ≤ hi'
          · have G : Hid (nearAtB ⟨x, y, lo, hi, i, o⟩ ⟨x', y', lo', hi', i', o'⟩ t = true) := by
              show _ = _
              rw [NA.out]
              omega
            go_wp2
            go_ret
            exact ⟨by rw [G.out]; rfl, hb _ _⟩
          · go_wp2
            go_roundw
            case rel => exact ⟨n + 1, by omega, by omega, by first | rfl | trivial, by first | rfl | trivial, fun k k0 k1 => by rcases (show k < n ∨ k = n by omega) with h | h; exact HN.out k k0 h; omega⟩
            case measure => simp [intOf]; omega
        · go_wp2
          go_roundw
          case rel => exact ⟨n + 1, by omega, by omega, by first | rfl | trivial, by first | rfl | trivial, fun k k0 k1 => by rcases (show k < n ∨ k = n by omega) with h | h; exact HN.out k k0 h; omega⟩
          case measure => simp [intOf]; omega
      · have G : Hid (nearAtB ⟨x, y, lo, hi, i, o⟩ ⟨x', y', lo', hi', i', o'⟩ t = false) := by
          show _ = _
          rw [← Bool.not_eq_true, NA.out]
          rintro ⟨_, _, _, _, _, _, m1, m2⟩
          have := L.out
          exact HN.out (max lo lo') (by omega) (by omega) (by omega)
        go_wp2
        go_ret
        exact ⟨by rw [G.out]; rfl, hb _ _⟩
  all_goals
    have G : Hid (nearAtB ⟨x, y, lo, hi, i, o⟩ ⟨x', y', lo', hi', i', o'⟩ t = false) := by
      show _ = _
      rw [← Bool.not_eq_true, NA.out]
      omega
    go_enter Try.func20, Try.ntmps20
    go_wp2_with (go_at_call 48; refine (wpAbs_any _ _ (by first | exact bx | exact by_)).mono ?_; rintro e w' ⟨rfl, rfl⟩)
    go_ret
    exact ⟨by rw [G.out]; rfl, hb _ _⟩
theorem wpNear_val (a b : Bx) (t : Int) (v : Bool) (w : World) (ha : boxB a = true) (hb : boxB b = true) (hv : nearAtB a b t = v) :
    Calls Try.prog 20 #[a.val, b.val, .int .i64 t] w fun e w' => e = .returned (.bool v) ∧ Below w.heap.size w w' := by
  rw [← hv]; exact wpNear_any a.x a.y a.lo a.hi a.in_ a.out b.x b.y b.lo b.hi b.in_ b.out t w ha hb
end Go.Proofs.Ytdjgkghmgjocbaa
