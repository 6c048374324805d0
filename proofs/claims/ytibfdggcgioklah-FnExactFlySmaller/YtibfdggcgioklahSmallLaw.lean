/- The program's FlySmaller, by its contract, and the walk of the law on it. -/
import Derived.Test.YtibfdggcgioklahBoxImpl2
import Derived.Test.YtibfdggcgioklahBoxCopy
import Derived.Test.YtibfdggcgioklahBoxEq
import Derived.Test.YtibfdggcgioklahSmallSpec
namespace Go.Proofs.Ytibfdggcgioklah
open Go.RowKit

theorem spanNone_any (a b : Int) (w : World) :
    Calls Try.prog 78 #[.agg #[.int .i64 a, .int .i64 b]] w fun e w' => e = .returned (.bool (decide (b < a))) ∧ Below w.heap.size w w' := by
  go_enter Try.func78, Try.ntmps78
  go_wp2
  go_ret
  exact ⟨rfl, (Below.refl _ _).alloc (Nat.le_refl _) _⟩
theorem spanNone_val (a b : Int) (v : Bool) (w : World) (hv : decide (b < a) = v) :
    Calls Try.prog 78 #[.agg #[.int .i64 a, .int .i64 b]] w fun e w' => e = .returned (.bool v) ∧ Below w.heap.size w w' := by
  rw [← hv]; exact spanNone_any a b w

theorem roomNone_any (x y lo hi i o : Int) (w : World) :
    Calls Try.prog 66 #[.agg #[.int .i64 x, .int .i64 y, .int .i64 lo, .int .i64 hi, .int .i64 i, .int .i64 o]] w fun e w' => e = .returned (.bool (noneB ⟨x, y, lo, hi, i, o⟩)) ∧ Below w.heap.size w w' := by
  have ER : Hid (noneB ⟨x, y, lo, hi, i, o⟩ = (decide (hi < lo) || decide (o < i))) := rfl
  have hb := (Below.refl w.heap.size w).alloc (Nat.le_refl _) (.cells #[.int .i64 x, .int .i64 y, .int .i64 lo, .int .i64 hi, .int .i64 i, .int .i64 o] 85)
  cases h1 : decide (hi < lo) with
  | true =>
    go_enter Try.func66, Try.ntmps66
    go_wp2_with fail
    refine (spanNone_val _ _ _ _ h1).mono ?_
    rintro e w1 ⟨rfl, hb1⟩
    go_wp2
    go_ret
    exact ⟨by rw [ER.out, h1]; rfl, hb.trans (hb1.mono (by simp))⟩
  | false =>
    go_enter Try.func66, Try.ntmps66
    go_wp2_with fail
    refine (spanNone_val _ _ _ _ h1).mono ?_
    rintro e w1 ⟨rfl, hb1⟩
    have c4 : w1.cell? ⟨w.heap.size, 4, none⟩ = some (.int .i64 i) := by rw [hb1.cell (p := ⟨w.heap.size, 4, none⟩) (by simp)]; simp [go_sem]
    have c5 : w1.cell? ⟨w.heap.size, 5, none⟩ = some (.int .i64 o) := by rw [hb1.cell (p := ⟨w.heap.size, 5, none⟩) (by simp)]; simp [go_sem]
    have hb01 : Below w.heap.size w w1 := hb.trans (hb1.mono (by simp))
    clear hb1
    go_wp2_with fail
    refine (spanNone_any _ _ _).mono ?_
    rintro e w2 ⟨rfl, hb2⟩
    go_wp2
    go_ret
    exact ⟨by rw [ER.out, h1]; rfl, hb01.trans (hb2.mono hb01.size)⟩
theorem roomNone_val (x y lo hi i o : Int) (v : Bool) (w : World) (hv : noneB ⟨x, y, lo, hi, i, o⟩ = v) :
    Calls Try.prog 66 #[.agg #[.int .i64 x, .int .i64 y, .int .i64 lo, .int .i64 hi, .int .i64 i, .int .i64 o]] w fun e w' => e = .returned (.bool v) ∧ Below w.heap.size w w' := by
  rw [← hv]; exact roomNone_any x y lo hi i o w
theorem roomIn_val (x y lo hi i o : Int) (b base : Nat) (l : List Bx) (v : Bool) (w : World) (hl : l.length ≤ 1048576) (hG : Groups w b base 85 l) (hv : (l.any fun s => coverB s ⟨x, y, lo, hi, i, o⟩) = v) :
    Calls Try.prog 61 #[.agg #[.int .i64 x, .int .i64 y, .int .i64 lo, .int .i64 hi, .int .i64 i, .int .i64 o], .map (some b)] w fun e w' => e = .returned (.bool v) ∧ Below w.heap.size w w' := by
  rw [← hv]; exact roomIn_any x y lo hi i o b base l w hl hG

set_option maxHeartbeats 4000000 in
set_option maxRecDepth 20000 in
theorem smallI_any (a a' : Option Addr) (b o cap b' o' cap' : Nat) (l m : List Bx) (w : World) (hl : l.length ≤ 1048576) (hm : m.length ≤ 1048576) (hs : BoxesAt w a b o l) (hs' : BoxesAt w a' b' o' m) :
    Calls Try.prog 29 #[.slice a l.length cap, .slice a' m.length cap'] w fun e w' => e = .returned (.bool (smallB l m)) ∧ Below w.heap.size w w' := by
  go_enter Try.func29, Try.ntmps29
  go_wp2_with fail
  refine (rooms_any _ b' o' _ _ _ hm hs').mono ?_
  rintro e w1 ⟨rfl, hG, hb1⟩
  go_wp2
  go_loopw [13] (fun v wr => ∃ k : Nat, k ≤ l.length ∧ v = .int .i64 k ∧ Below w1.heap.size w1 wr ∧ ((l.take k).all (foundB m)) = true) (fun v _ => l.length - (intOf v).toNat)
  case atStart => exact ⟨0, Nat.zero_le _, rfl, Below.refl _ _, rfl⟩
  case round =>
    obtain ⟨k, hk, rfl, hb, hall⟩ := hrel
    have HA : Hid (((l.take k).all (foundB m)) = true) := hall
    have hb0 : Below w.heap.size w wr := hb1.trans (hb.mono hb1.size)
    have hGr := hG.below hb
    clear hall
    by_cases hlt : k < l.length
    · obtain ⟨s, hsk⟩ : ∃ s, l[k]? = some s := ⟨l[k], List.getElem?_eq_getElem hlt⟩
      have hne : l ≠ [] := by intro e; subst e; simp at hlt
      obtain rfl := hs.here hne
      have hbw := hs.lt hne
      obtain ⟨c0, c1, c2, c3, c4, c5⟩ := (hs.below hb0 (fun _ => hbw)).six hsk
      have k0 : (0 : Int) ≤ (k : Int) := by omega
      have k1 : (k : Int) < (l.length : Int) := by omega
      have HS : Hid (l[k]? = some s) := hsk
      clear hsk
      go_wp2_with fail
      refine (roomOf_any _ _ _ _ _ _ _).mono ?_
      rintro e w2 ⟨rfl, hb2⟩
      have hb02 : Below wr.heap.size wr w2 := ((Below.refl _ _).alloc (Nat.le_refl _) _).trans (hb2.mono (by simp))
      clear hb2 c0 c1 c2 c3 c4 c5
      cases hn : noneB s with
      | true =>
        have hf : foundB m s = true := by unfold foundB; rw [hn]; rfl
        go_wp2_with fail
        refine (roomNone_val _ _ _ _ _ _ _ _ hn).mono ?_
        rintro e w3 ⟨rfl, hb3⟩
        have hb03 : Below wr.heap.size wr w3 := (hb02.alloc hb02.size _).trans (hb3.mono (by have := hb02.size; simp; omega))
        go_wp2
        go_roundw
        case rel => exact ⟨k + 1, by omega, by go_num, hb.trans (hb03.mono hb.size), by rw [all_take l (foundB m) HS.out, HA.out, hf]; rfl⟩
        case measure => simp [intOf]; omega
      | false =>
        go_wp2_with fail
        refine (roomNone_val _ _ _ _ _ _ _ _ hn).mono ?_
        rintro e w3 ⟨rfl, hb3⟩
        have hb03 : Below wr.heap.size wr w3 := (hb02.alloc hb02.size _).trans (hb3.mono (by have := hb02.size; simp; omega))
        have d0 : w3.cell? ⟨w2.heap.size, 0, none⟩ = some (.int .i64 s.x) := by rw [hb3.cell (p := ⟨w2.heap.size, 0, none⟩) (by simp)]; simp [go_sem]
        have d1 : w3.cell? ⟨w2.heap.size, 1, none⟩ = some (.int .i64 s.y) := by rw [hb3.cell (p := ⟨w2.heap.size, 1, none⟩) (by simp)]; simp [go_sem]
        have d2 : w3.cell? ⟨w2.heap.size, 2, none⟩ = some (.int .i64 s.lo) := by rw [hb3.cell (p := ⟨w2.heap.size, 2, none⟩) (by simp)]; simp [go_sem]
        have d3 : w3.cell? ⟨w2.heap.size, 3, none⟩ = some (.int .i64 s.hi) := by rw [hb3.cell (p := ⟨w2.heap.size, 3, none⟩) (by simp)]; simp [go_sem]
        have d4 : w3.cell? ⟨w2.heap.size, 4, none⟩ = some (.int .i64 s.in_) := by rw [hb3.cell (p := ⟨w2.heap.size, 4, none⟩) (by simp)]; simp [go_sem]
        have d5 : w3.cell? ⟨w2.heap.size, 5, none⟩ = some (.int .i64 s.out) := by rw [hb3.cell (p := ⟨w2.heap.size, 5, none⟩) (by simp)]; simp [go_sem]
        have hG3 := hGr.below hb03
        clear hb3
        cases hc : (m.any fun t => coverB t s) with
        | true =>
          have hf : foundB m s = true := by unfold foundB; rw [hc, Bool.or_true]
          go_wp2_with fail
          refine (roomIn_val _ _ _ _ _ _ _ _ _ _ _ hm hG3 hc).mono ?_
          rintro e w4 ⟨rfl, hb4⟩
          go_wp2
          go_roundw
          case rel => exact ⟨k + 1, by omega, by go_num, (hb.trans (hb03.mono hb.size)).trans (hb4.mono (by have := hb03.size; have := hb.size; omega)), by rw [all_take l (foundB m) HS.out, HA.out, hf]; rfl⟩
          case measure => simp [intOf]; omega
        | false =>
          have hf : foundB m s = false := by unfold foundB; rw [hn, hc]; rfl
          go_wp2_with fail
          refine (roomIn_val _ _ _ _ _ _ _ _ _ _ _ hm hG3 hc).mono ?_
          rintro e w4 ⟨rfl, hb4⟩
          go_wp2
          go_ret
          exact ⟨by rw [show smallB l m = false from all_miss HS.out hf]; rfl, (hb0.trans (hb03.mono hb0.size)).trans (hb4.mono (by have := hb03.size; have := hb0.size; omega))⟩
    · obtain rfl : k = l.length := by omega
      go_wp2
      go_ret
      refine ⟨?_, hb0⟩
      have e1 := HA.out
      rw [List.take_length] at e1
      rw [show smallB l m = true from e1]; rfl

theorem leftB_or (n m : Nat) : leftB 1048576 n = -1 ∨ (0 ≤ leftB 1048576 n ∧ n ≤ 1048576 ∧ leftB 1048576 n = 1048576 - n ∧ (leftB (1048576 - n) m = -1 ∨ (0 ≤ leftB (1048576 - n) m ∧ m ≤ 1048576))) := by
  unfold leftB; split
  · exact Or.inl rfl
  · refine Or.inr ⟨by omega, by omega, rfl, ?_⟩
    split
    · exact Or.inl rfl
    · exact Or.inr ⟨by omega, by omega⟩

theorem smallLaw_big1 (a a' : Option Addr) (n cap m cap' : Nat) (w : World) (hn : n ≤ maxLen) (h1 : leftB 1048576 n = -1) :
    Calls Try.prog 7 #[.slice a n cap, .slice a' m cap'] w fun e w' => e = .returned (.bool true) ∧ Below w.heap.size w w' := by
  go_enter Try.func7, Try.ntmps7
  go_wp2_with (go_at_call 23; refine (szBoxes_any _ _ _ _ _ hn (by omega) (by omega)).mono ?_; rintro e w1 ⟨rfl, rfl⟩)
  go_ret
  exact ⟨rfl, Below.refl _ _⟩

theorem smallLaw_big2 (a a' : Option Addr) (n cap m cap' : Nat) (w : World) (hn : n ≤ maxLen) (hm : m ≤ maxLen) (h0 : 0 ≤ leftB 1048576 n) (e1 : leftB 1048576 n = 1048576 - n) (h1 : leftB (1048576 - n) m = -1) :
    Calls Try.prog 7 #[.slice a n cap, .slice a' m cap'] w fun e w' => e = .returned (.bool true) ∧ Below w.heap.size w w' := by
  go_enter Try.func7, Try.ntmps7
  go_wp2_with fail
  refine (szBoxes_any _ _ _ _ _ hn (by omega) (by omega)).mono ?_
  rw [e1] at h0 ⊢
  rintro e w1 ⟨rfl, rfl⟩
  go_wp2_with fail
  refine (szBoxes_any _ _ _ _ _ hm (by omega) (by omega)).mono ?_
  rintro e w2 ⟨rfl, rfl⟩
  go_wp2
  go_ret
  exact ⟨rfl, Below.refl _ _⟩

set_option maxHeartbeats 4000000 in
theorem smallLaw_any (a a' : Option Addr) (b o cap b' o' cap' : Nat) (l m : List Bx) (w : World) (h0 : 0 ≤ leftB 1048576 l.length) (hl : l.length ≤ 1048576) (e1 : leftB 1048576 l.length = 1048576 - l.length) (h1 : 0 ≤ leftB (1048576 - l.length) m.length) (hm : m.length ≤ 1048576)
    (hs : BoxesAt w a b o l) (hs' : BoxesAt w a' b' o' m) :
    Calls Try.prog 7 #[.slice a l.length cap, .slice a' m.length cap'] w fun e w' => e = .returned (.bool true) ∧ Below w.heap.size w w' := by
  go_enter Try.func7, Try.ntmps7
  go_wp2_with fail
  refine (szBoxes_any _ _ _ _ _ (by unfold maxLen; omega) (by omega) (by omega)).mono ?_
  rw [e1] at h0 ⊢
  rintro e w1 ⟨rfl, rfl⟩
  go_wp2_with fail
  refine (szBoxes_any _ _ _ _ _ (by unfold maxLen; omega) (by omega) (by omega)).mono ?_
  rintro e w2 ⟨rfl, rfl⟩
  go_wp2_with fail
  refine (toBoxes_any _ b o _ _ _ hl hs).mono ?_
  rintro e w3 ⟨g3, rfl, hg3, hg3', hs3, hb3⟩
  go_wp2_with fail
  refine (toBoxes_any _ b' o' _ _ _ hm (hs'.below hb3 hs'.lt)).mono ?_
  rintro e w4 ⟨g4, rfl, hg4, hg4', hs4, hb4⟩
  have hb04 : Below w2.heap.size w2 w4 := hb3.trans (hb4.mono hb3.size)
  go_wp2_with fail
  refine (smallS_any _ _ g3 0 _ g4 0 _ _ _ _ hl hm (hs3.below hb4 hs3.lt) hs4).mono ?_
  rintro e w5 ⟨rfl, hb5⟩
  have hb05 : Below w2.heap.size w2 w5 := hb04.trans (hb5.mono hb04.size)
  clear hb3 hb4 hb5 hs3 hs4 hb04
  go_wp2_with fail
  refine (toBoxes_any _ b o _ _ _ hl (hs.below hb05 hs.lt)).mono ?_
  rintro e w6 ⟨g6, rfl, hg6, hg6', hs6, hb6⟩
  have hb06 : Below w2.heap.size w2 w6 := hb05.trans (hb6.mono hb05.size)
  go_wp2_with fail
  refine (toBoxes_any _ b' o' _ _ _ hm (hs'.below hb06 hs'.lt)).mono ?_
  rintro e w7 ⟨g7, rfl, hg7, hg7', hs7, hb7⟩
  have hb07 : Below w2.heap.size w2 w7 := hb06.trans (hb7.mono hb06.size)
  have hs67 := hs6.below hb7 hs6.lt
  have hg67 : g6 < w7.heap.size := Nat.lt_of_lt_of_le hg6' hb7.size
  go_wp2_with fail
  refine (smallI_any _ _ g6 0 _ g7 0 _ _ _ _ hl hm hs67 hs7).mono ?_
  rintro e w8 ⟨rfl, hb8⟩
  have hb08 : Below w2.heap.size w2 w8 := hb07.trans (hb8.mono hb07.size)
  have hs68 := hs67.below hb8 (fun _ => hg67)
  have hs78 := hs7.below hb8 (fun _ => hg7')
  have hg68 : g6 < w8.heap.size := Nat.lt_of_lt_of_le hg67 hb8.size
  have hg78 : g7 < w8.heap.size := Nat.lt_of_lt_of_le hg7' hb8.size
  clear hb6 hb7 hb8 hs6 hs67 hs7 hb05 hb06 hb07
  go_wp2_with fail
  refine (toBoxes_any _ b o _ _ _ hl (hs.below hb08 hs.lt)).mono ?_
  rintro e w9 ⟨g9, rfl, hg9, hg9', hs9, hb9⟩
  have hb09 : Below w2.heap.size w2 w9 := hb08.trans (hb9.mono hb08.size)
  have hs79 := hs78.below hb9 (fun _ => hg78)
  have hg79 : g7 < w9.heap.size := Nat.lt_of_lt_of_le hg78 hb9.size
  go_wp2_with fail
  refine (eqBoxes_same _ _ g6 0 _ g9 0 _ _ _ hl (hs68.below hb9 (fun _ => hg68)) hs9).mono ?_
  rintro e w10 ⟨rfl, hb10⟩
  have hb010 : Below w2.heap.size w2 w10 := hb09.trans (hb10.mono hb09.size)
  have hs710 := hs79.below hb10 (fun _ => hg79)
  have hg710 : g7 < w10.heap.size := Nat.lt_of_lt_of_le hg79 hb10.size
  clear hb9 hb10 hs68 hs78 hs79 hs9 hb08 hb09
  go_wp2_with fail
  refine (toBoxes_any _ b' o' _ _ _ hm (hs'.below hb010 hs'.lt)).mono ?_
  rintro e w11 ⟨g11, rfl, hg11, hg11', hs11, hb11⟩
  have hb011 : Below w2.heap.size w2 w11 := hb010.trans (hb11.mono hb010.size)
  go_wp2_with fail
  refine (eqBoxes_same _ _ g7 0 _ g11 0 _ _ _ hm (hs710.below hb11 (fun _ => hg710)) hs11).mono ?_
  rintro e w12 ⟨rfl, hb12⟩
  go_wp2
  go_ret
  exact ⟨rfl, hb011.trans (hb12.mono hb011.size)⟩
end Go.Proofs.Ytibfdggcgioklah
