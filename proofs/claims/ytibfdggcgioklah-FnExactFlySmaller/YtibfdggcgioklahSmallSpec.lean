/- The specification's FlySmaller, by its contract. -/
import Derived.Test.YtibfdggcgioklahBoxData
import Derived.Test.YtibfdggcgioklahCls
import Derived.Test.YtibfdggcgioklahRows
import Derived.WalkKit
import Derived.WalkSpells
namespace Go.Proofs.Ytibfdggcgioklah
open Go.RowKit

theorem noneS_any (x y lo hi i o : Int) (w : World) :
    Calls Try.prog 64 #[.agg #[.int .i64 x, .int .i64 y, .int .i64 lo, .int .i64 hi, .int .i64 i, .int .i64 o]] w fun e w' => e = .returned (.bool (noneB ⟨x, y, lo, hi, i, o⟩)) ∧ Below w.heap.size w w' := by
  have hb := (Below.refl w.heap.size w).alloc (Nat.le_refl _) (.cells #[.int .i64 x, .int .i64 y, .int .i64 lo, .int .i64 hi, .int .i64 i, .int .i64 o] 79)
  have ER : Hid (noneB ⟨x, y, lo, hi, i, o⟩ = (decide (hi < lo) || decide (o < i))) := rfl
  by_cases h1 : hi < lo
  all_goals
    go_enter Try.func64, Try.ntmps64
    go_wp2
    go_ret
    exact ⟨by rw [ER.out]; simp [h1] <;> omega, hb⟩

set_option maxHeartbeats 1000000 in
theorem coverS_any (x y lo hi i o x' y' lo' hi' i' o' : Int) (w : World) :
    Calls Try.prog 65 #[.agg #[.int .i64 x, .int .i64 y, .int .i64 lo, .int .i64 hi, .int .i64 i, .int .i64 o], .agg #[.int .i64 x', .int .i64 y', .int .i64 lo', .int .i64 hi', .int .i64 i', .int .i64 o']] w
      fun e w' => e = .returned (.bool (coverB ⟨x, y, lo, hi, i, o⟩ ⟨x', y', lo', hi', i', o'⟩)) ∧ Below w.heap.size w w' := by
  have hb : ∀ c1 c2 : Array Value, Below w.heap.size w ((w.alloc (.cells c1 79)).alloc (.cells c2 79)) := fun c1 c2 => ((Below.refl w.heap.size w).alloc (Nat.le_refl _) _).alloc (by simp) _
  have ER : Hid (coverB ⟨x, y, lo, hi, i, o⟩ ⟨x', y', lo', hi', i', o'⟩ = ((x' == x) && (y' == y) && decide (lo ≤ lo') && decide (hi' ≤ hi) && decide (i ≤ i') && decide (o' ≤ o))) := rfl
  rcases Bool.eq_false_or_eq_true (x' == x) with h1 | h1
  rcases Bool.eq_false_or_eq_true (y' == y) with h2 | h2
  rcases Bool.eq_false_or_eq_true (decide (lo ≤ lo')) with h3 | h3
  rcases Bool.eq_false_or_eq_true (decide (hi' ≤ hi)) with h4 | h4
  rcases Bool.eq_false_or_eq_true (decide (i ≤ i')) with h5 | h5
  all_goals
    go_enter Try.func65, Try.ntmps65
    go_wp2
    go_ret
    exact ⟨by rw [ER.out]; simp [*], hb _ _⟩

theorem noneS_val (x y lo hi i o : Int) (v : Bool) (w : World) (hv : noneB ⟨x, y, lo, hi, i, o⟩ = v) :
    Calls Try.prog 64 #[.agg #[.int .i64 x, .int .i64 y, .int .i64 lo, .int .i64 hi, .int .i64 i, .int .i64 o]] w fun e w' => e = .returned (.bool v) ∧ Below w.heap.size w w' := by
  rw [← hv]; exact noneS_any x y lo hi i o w
theorem coverS_val (x y lo hi i o x' y' lo' hi' i' o' : Int) (v : Bool) (w : World) (hv : coverB ⟨x, y, lo, hi, i, o⟩ ⟨x', y', lo', hi', i', o'⟩ = v) :
    Calls Try.prog 65 #[.agg #[.int .i64 x, .int .i64 y, .int .i64 lo, .int .i64 hi, .int .i64 i, .int .i64 o], .agg #[.int .i64 x', .int .i64 y', .int .i64 lo', .int .i64 hi', .int .i64 i', .int .i64 o']] w
      fun e w' => e = .returned (.bool v) ∧ Below w.heap.size w w' := by
  rw [← hv]; exact coverS_any x y lo hi i o x' y' lo' hi' i' o' w

/-- One of these has all of it, or it has nothing. -/
def foundB (m : List Bx) (a : Bx) : Bool := noneB a || m.any fun b => coverB b a
theorem foundB_nil (a : Bx) : foundB [] a = noneB a := by simp [foundB]
theorem foundB_take (m : List Bx) (a : Bx) {k : Nat} {s : Bx} (h : m[k]? = some s) : foundB (m.take (k + 1)) a = (foundB (m.take k) a || coverB s a) := by
  unfold foundB; rw [any_take m (fun b => coverB b a) h, Bool.or_assoc]

set_option maxHeartbeats 4000000 in
theorem smallS_any (a a' : Option Addr) (b o cap b' o' cap' : Nat) (l m : List Bx) (w : World) (hl : l.length ≤ 1048576) (hm : m.length ≤ 1048576) (hs : BoxesAt w a b o l) (hs' : BoxesAt w a' b' o' m) :
    Calls Try.prog 28 #[.slice a l.length cap, .slice a' m.length cap'] w fun e w' => e = .returned (.bool (smallB l m)) ∧ Below w.heap.size w w' := by
  go_enter Try.func28, Try.ntmps28
  go_wp2
  go_loopw [5] (fun v wr => ∃ k : Nat, k ≤ l.length ∧ v = .int .i64 k ∧ Below w.heap.size w wr ∧ ((l.take k).all (foundB m)) = true) (fun v _ => l.length - (intOf v).toNat)
  case atStart => exact ⟨0, Nat.zero_le _, rfl, Below.refl _ _, rfl⟩
  case round =>
    obtain ⟨k, hk, rfl, hb, hall⟩ := hrel
    have HA : Hid (((l.take k).all (foundB m)) = true) := hall
    clear hall
    by_cases hlt : k < l.length
    · obtain ⟨s, hsk⟩ : ∃ s, l[k]? = some s := ⟨l[k], List.getElem?_eq_getElem hlt⟩
      have hne : l ≠ [] := by intro e; subst e; simp at hlt
      obtain rfl := hs.here hne
      have hbw := hs.lt hne
      obtain ⟨c0, c1, c2, c3, c4, c5⟩ := (hs.below hb (fun _ => hbw)).six hsk
      have k0 : (0 : Int) ≤ (k : Int) := by omega
      have k1 : (k : Int) < (l.length : Int) := by omega
      have HS : Hid (l[k]? = some s) := hsk
      go_wp2_with fail
      refine (noneS_any _ _ _ _ _ _ _).mono ?_
      rintro e w2 ⟨rfl, hb2⟩
      have hb02 : Below w.heap.size w w2 := hb.trans (hb2.mono hb.size)
      clear c0 c1 c2 c3 c4 c5
      go_wp2
      go_loopw [6, 7] (fun v u wi => ∃ j : Nat, j ≤ m.length ∧ u = .int .i64 j ∧ v = .bool (foundB (m.take j) s) ∧ Below w.heap.size w wi) (fun _ u _ => m.length - (intOf u).toNat)
      case atStart => exact ⟨0, Nat.zero_le _, rfl, by rw [List.take_zero, foundB_nil], hb02⟩
      case round =>
        obtain ⟨j, hj, rfl, rfl, hbi⟩ := hrel
        by_cases hltj : j < m.length
        · obtain ⟨t, htj⟩ : ∃ t, m[j]? = some t := ⟨m[j], List.getElem?_eq_getElem hltj⟩
          have hne' : m ≠ [] := by intro e; subst e; simp at hltj
          obtain rfl := hs'.here hne'
          have hbw' := hs'.lt hne'
          obtain ⟨c0, c1, c2, c3, c4, c5⟩ := (hs.below hbi (fun _ => hbw)).six hsk
          obtain ⟨d0, d1, d2, d3, d4, d5⟩ := (hs'.below hbi (fun _ => hbw')).six htj
          have j0 : (0 : Int) ≤ (j : Int) := by omega
          have j1 : (j : Int) < (m.length : Int) := by omega
          have HT : Hid (m[j]? = some t) := htj
          have hbx : b < wr.heap.size := Nat.lt_of_lt_of_le hbw hbi.size
          have hbx' : b' < wr.heap.size := Nat.lt_of_lt_of_le hbw' hbi.size
          clear htj
          have qn := Cls.any wr
          have q0 := Cls.cell hbx
          have q1 := Cls.cell hbx'
          cases hf : foundB (m.take j) s with
          | true =>
            have hn : Hid (foundB (m.take (j + 1)) s = true) := by show _ = _; rw [foundB_take m s HT.out, hf]; rfl
            go_wp2
            refine wp_region_cls (by kernel_rfl) (by kernel_rfl) ?_
            repeat (go_big_quiet_step (fail))
            refine wpQuiet_nil ?_
            rintro _ ⟨u, rfl⟩
            go_wp2
            go_roundw
            case rel => exact ⟨j + 1, by omega, by go_num, by rw [hn.out], hbi.trans (u.same.mono hbi.size)⟩
            case measure => simp [intOf]; omega
          | false =>
            have hn : Hid (foundB (m.take (j + 1)) s = coverB t s) := by show _ = _; rw [foundB_take m s HT.out, hf]; rfl
            go_wp2
            refine wp_region_cls (by kernel_rfl) (by kernel_rfl) ?_
            repeat (go_big_quiet_step ((go_at_call 65; exact Calls.cls_of (coverS_any _ _ _ _ _ _ _ _ _ _ _ _ _))))
            refine wpQuiet_nil ?_
            rintro _ ⟨u, rfl⟩
            go_wp2
            go_roundw
            case rel => exact ⟨j + 1, by omega, by go_num, by rw [hn.out], hbi.trans (u.same.mono hbi.size)⟩
            case measure => simp [intOf]; omega
        · obtain rfl : j = m.length := by omega
          rw [List.take_length]
          cases hf : foundB m s with
          | true =>
            go_wp2
            go_roundw
            case rel => exact ⟨k + 1, by omega, by go_num, hbi, by rw [all_take l (foundB m) HS.out, HA.out, hf]; rfl⟩
            case measure => simp [intOf]; omega
          | false =>
            go_wp2
            go_ret
            exact ⟨by rw [show smallB l m = false from all_miss HS.out hf]; rfl, hbi⟩
    · obtain rfl : k = l.length := by omega
      go_wp2
      go_ret
      refine ⟨?_, hb⟩
      have e1 := HA.out
      rw [List.take_length] at e1
      rw [show smallB l m = true from e1]; rfl
end Go.Proofs.Ytibfdggcgioklah
