/- The specification's FlyWithin and FlySmaller, by their contracts. -/
import Derived.Test.YtibfdggcgioklahBoxData
import Derived.Test.YtibfdggcgioklahSLeaf
import Derived.Test.YtibfdggcgioklahCls
namespace Go.Proofs.Ytibfdggcgioklah
open Go.RowKit

theorem has_any (x y lo hi i o px py l t : Int) (w : World) :
    Calls Try.prog 58 #[.agg #[.int .i64 x, .int .i64 y, .int .i64 lo, .int .i64 hi, .int .i64 i, .int .i64 o], .int .i64 px, .int .i64 py, .int .i64 l, .int .i64 t] w
      fun e w' => e = .returned (.bool (hasB ⟨x, y, lo, hi, i, o⟩ px py l t)) ∧ Below w.heap.size w w' := by
  have hb := (Below.refl w.heap.size w).alloc (Nat.le_refl _) (.cells #[.int .i64 x, .int .i64 y, .int .i64 lo, .int .i64 hi, .int .i64 i, .int .i64 o] 79)
  have ER : Hid (hasB ⟨x, y, lo, hi, i, o⟩ px py l t = ((x == px) && (y == py) && inB l lo hi && inB t i o)) := rfl
  rcases Bool.eq_false_or_eq_true (x == px) with h1 | h1
  rcases Bool.eq_false_or_eq_true (y == py) with h2 | h2
  rcases Bool.eq_false_or_eq_true (inB l lo hi) with h3 | h3
  all_goals
    go_enter Try.func58, Try.ntmps58
    go_wp2_with (go_at_call 32; refine (in_any _ _ _ _).mono ?_; rintro e w' ⟨rfl, rfl⟩)
    go_ret
    exact ⟨by rw [ER.out]; simp [*], hb⟩

theorem has_val (x y lo hi i o px py l t : Int) (v : Bool) (w : World) (hv : hasB ⟨x, y, lo, hi, i, o⟩ px py l t = v) :
    Calls Try.prog 58 #[.agg #[.int .i64 x, .int .i64 y, .int .i64 lo, .int .i64 hi, .int .i64 i, .int .i64 o], .int .i64 px, .int .i64 py, .int .i64 l, .int .i64 t] w
      fun e w' => e = .returned (.bool v) ∧ Below w.heap.size w w' := by
  rw [← hv]; exact has_any x y lo hi i o px py l t w

set_option maxHeartbeats 1000000 in
theorem withinS_any (a : Option Addr) (b o cap : Nat) (l : List Bx) (px py lev t : Int) (w : World) (hl : l.length ≤ 1048576) (hs : BoxesAt w a b o l) :
    Calls Try.prog 24 #[.slice a l.length cap, .int .i64 px, .int .i64 py, .int .i64 lev, .int .i64 t] w fun e w' => e = .returned (.bool (withinB l px py lev t)) ∧ Below w.heap.size w w' := by
  go_enter Try.func24, Try.ntmps24
  go_wp2
  go_loopw [11] (fun v wr => ∃ k : Nat, k ≤ l.length ∧ v = .int .i64 k ∧ Below w.heap.size w wr ∧ (l.take k).any (fun s => hasB s px py lev t) = false) (fun v _ => l.length - (intOf v).toNat)
  case atStart => exact ⟨0, Nat.zero_le _, rfl, Below.refl _ _, rfl⟩
  case round =>
    obtain ⟨k, hk, rfl, hb, hno⟩ := hrel
    have HN : Hid ((l.take k).any (fun s => hasB s px py lev t) = false) := hno
    clear hno
    by_cases hlt : k < l.length
    · obtain ⟨s, hsk⟩ : ∃ s, l[k]? = some s := ⟨l[k], List.getElem?_eq_getElem hlt⟩
      have hne : l ≠ [] := by intro e; subst e; simp at hlt
      obtain rfl := hs.here hne
      have hbw := hs.lt hne
      obtain ⟨c0, c1, c2, c3, c4, c5⟩ := (hs.below hb (fun _ => hbw)).six hsk
      have k0 : (0 : Int) ≤ (k : Int) := by omega
      have k1 : (k : Int) < (l.length : Int) := by omega
      have HS : Hid (l[k]? = some s) := hsk
      clear hsk
      cases hh : hasB s px py lev t with
      | true =>
        go_wp2_with fail
        refine (has_val _ _ _ _ _ _ _ _ _ _ _ _ hh).mono ?_
        rintro e w2 ⟨rfl, hb2⟩
        go_wp2
        go_ret
        exact ⟨by rw [withinB, any_hit (f := fun s => hasB s px py lev t) HS.out hh]; rfl, hb.trans (hb2.mono hb.size)⟩
      | false =>
        go_wp2_with fail
        refine (has_val _ _ _ _ _ _ _ _ _ _ _ _ hh).mono ?_
        rintro e w2 ⟨rfl, hb2⟩
        go_wp2
        go_roundw
        case rel => exact ⟨k + 1, by omega, by go_num, hb.trans (hb2.mono hb.size), by rw [any_take l (fun s => hasB s px py lev t) HS.out, HN.out, hh]; rfl⟩
        case measure => simp [intOf]; omega
    · obtain rfl : k = l.length := by omega
      go_wp2
      go_ret
      refine ⟨?_, hb⟩
      have e1 := HN.out
      rw [List.take_length] at e1
      rw [withinB, e1]; rfl
end Go.Proofs.Ytibfdggcgioklah
