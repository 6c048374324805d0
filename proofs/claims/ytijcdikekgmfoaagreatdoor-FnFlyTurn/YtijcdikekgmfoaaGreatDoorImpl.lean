/- The program's checks of a path, by their contracts. -/
import Derived.Test.YtijcdikekgmfoaaGreatDoorILeaf
import Derived.Test.YtijcdikekgmfoaaGreatDoorData2
import Derived.Test.YtijcdikekgmfoaaGreatDoorCls
namespace Go.Proofs.YtijcdikekgmfoaaGreatDoor
open Go.RowKit

theorem kindM_any (q s : Int) (w : World) :
    Calls Tryz.prog 99 #[.agg #[.int .i64 q, .int .i64 s]] w fun e w' => e = .returned (.bool (kindB q s)) ∧ Below w.heap.size w w' := by
  have hb := (Below.refl w.heap.size w).alloc (Nat.le_refl _) (.cells #[.int .i64 q, .int .i64 s] 24)
  by_cases h1 : 1 ≤ q
  · by_cases h2 : q ≤ s
    · go_enter Tryz.func99, Tryz.ntmps99
      go_wp2
      go_ret
      exact ⟨by simp [kindB, h1, h2], hb⟩
    · have e1 : kindB q s = false := by simp [kindB]; omega
      go_enter Tryz.func99, Tryz.ntmps99
      go_wp2
      go_ret
      exact ⟨by first | rfl | (rw [e1]; rfl), hb⟩
  · have e1 : kindB q s = false := by simp [kindB]; omega
    go_enter Tryz.func99, Tryz.ntmps99
    go_wp2
    go_ret
    exact ⟨by first | rfl | (rw [e1]; rfl), hb⟩

theorem kindIsOk_any (q s fr b : Int) (a : Option Addr) (n cap : Nat) (w : World) :
    Calls Tryz.prog 49 #[.agg #[.int .i64 q, .int .i64 s, .slice a n cap, .int .i64 fr, .int .i64 b]] w fun e w' => e = .returned (.bool (kindB q s)) ∧ Below w.heap.size w w' := by
  go_enter Tryz.func49, Tryz.ntmps49
  go_wp2_with (go_at_call 99; refine (kindM_any _ _ _).mono ?_; rintro e w1 ⟨rfl, hb1⟩)
  go_ret
  exact ⟨rfl, ((Below.refl _ _).alloc (Nat.le_refl _) _).trans (hb1.mono (by simp))⟩

theorem stepCount_any (q s fr b : Int) (a : Option Addr) (n cap : Nat) (w : World) (hn : n ≤ 1048576) :
    Calls Tryz.prog 50 #[.agg #[.int .i64 q, .int .i64 s, .slice a n cap, .int .i64 fr, .int .i64 b]] w fun e w' => e = .returned (.bool (inB n 1 40)) ∧ Below w.heap.size w w' := by
  have hb := (Below.refl w.heap.size w).alloc (Nat.le_refl _) (.cells #[.int .i64 q, .int .i64 s, .slice a n cap, .int .i64 fr, .int .i64 b] 27)
  by_cases h1 : (1 : Int) ≤ (n : Int)
  · have e1 : inB n 1 40 = decide ((n : Int) ≤ 40) := by simp [inB, h1]
    go_enter Tryz.func50, Tryz.ntmps50
    go_wp2
    go_ret
    exact ⟨by first | rfl | (rw [e1]; rfl), hb⟩
  · have e1 : inB n 1 40 = false := by simp [inB]; omega
    go_enter Tryz.func50, Tryz.ntmps50
    go_wp2
    go_ret
    exact ⟨by first | rfl | (rw [e1]; rfl), hb⟩

theorem endIsOk_any (q s fr b : Int) (a : Option Addr) (n cap : Nat) (w : World) :
    Calls Tryz.prog 53 #[.agg #[.int .i64 q, .int .i64 s, .slice a n cap, .int .i64 fr, .int .i64 b]] w fun e w' => e = .returned (.bool (ordB 0 fr b 10000)) ∧ Below w.heap.size w w' := by
  go_enter Tryz.func53, Tryz.ntmps53
  go_wp2_with (go_at_call 103; refine (ordered_any _ _ _ _ _).mono ?_; rintro e w' ⟨rfl, rfl⟩)
  go_ret
  exact ⟨rfl, (Below.refl _ _).alloc (Nat.le_refl _) _⟩

set_option maxHeartbeats 1000000 in
theorem stepsAreOk_any (q s fr b : Int) (a : Option Addr) (b0 o cap : Nat) (l : List Stp) (w : World) (hl : l.length ≤ 1048576) (hs : StepsAt w a b0 o l) :
    Calls Tryz.prog 51 #[.agg #[.int .i64 q, .int .i64 s, .slice a l.length cap, .int .i64 fr, .int .i64 b]] w fun e w' => e = .returned (.bool (okTo l l.length)) ∧ Below w.heap.size w w' := by
  go_enter Tryz.func51, Tryz.ntmps51
  go_wp2
  go_loopw [8] (fun v wr => ∃ k : Nat, k ≤ l.length ∧ v = .int .i64 k ∧ Below w.heap.size w wr ∧ okTo l k = true) (fun v _ => l.length - (intOf v).toNat)
  case atStart => exact ⟨0, Nat.zero_le _, rfl, (Below.refl _ _).alloc (Nat.le_refl _) _, rfl⟩
  case round =>
    obtain ⟨k, hk, rfl, hb, hgood⟩ := hrel
    have HG : Hid (okTo l k = true) := hgood
    clear hgood
    by_cases hlt : k < l.length
    · obtain ⟨t, htk⟩ : ∃ t, l[k]? = some t := ⟨l[k], List.getElem?_eq_getElem hlt⟩
      have hne : l ≠ [] := by intro e; subst e; simp at hlt
      obtain rfl := hs.here hne
      have hbw := hs.lt hne
      obtain ⟨d0, d1, d2, d3, d4, d5, d6⟩ := (hs.below hb (fun _ => hbw)).seven htk
      have HT : Hid (l.getD k .zero = t) := by show _ = _; simp [List.getD, htk]
      clear htk
      have HE : Hid (okS l k = stepB t.x t.y t.lo t.hi t.fr t.by_) := by show _ = _; unfold okS; rw [HT.out]
      cases hok : stepB t.x t.y t.lo t.hi t.fr t.by_ with
      | false =>
        have G1 : Hid (okTo l l.length = false) := all_not hlt (HE.out.trans hok)
        go_wp2_with (go_at_call 100; refine (stepOk_any _ _ _ _ _ _ _ _).mono ?_; rintro e w2 ⟨rfl, hb2⟩)
        go_ret
        exact ⟨by rw [G1.out]; rfl, (hb.alloc hb.size _).trans (hb2.mono (by have := hb.size; simp; omega))⟩
      | true =>
        have G1 : Hid (okTo l (k + 1) = true) := by show _ = _; unfold okTo; rw [all_succ]; have := HG.out; unfold okTo at this; rw [this, HE.out, hok]; rfl
        go_wp2_with (go_at_call 100; refine (stepOk_any _ _ _ _ _ _ _ _).mono ?_; rintro e w2 ⟨rfl, hb2⟩)
        go_roundw
        case rel => exact ⟨k + 1, by omega, by go_num, (hb.alloc hb.size _).trans (hb2.mono (by have := hb.size; simp; omega)), G1.out⟩
        case measure => simp [intOf]; omega
    · obtain rfl : k = l.length := by omega
      go_wp2
      go_ret
      exact ⟨by rw [HG.out]; rfl, hb⟩
end Go.Proofs.YtijcdikekgmfoaaGreatDoor
