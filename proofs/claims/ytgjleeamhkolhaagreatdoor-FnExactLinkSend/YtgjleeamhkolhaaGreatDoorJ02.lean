/- Joined texts: IntsAt, SLeaf, Spec, LawSpec, BoxP, LawImpl, Meth, SpanWin, SeqAll, WalkData, SpanLeaf, ILeaf, Impl, ImplPath, Follow, Follow2, WalkSaid, Last, SpanSpec, SpanSaid, SpanImpl, AnyA, AnyB. -/
import Derived.WalkKit
import Derived.WalkSpells
import Derived.Maps.AppendAt
import Derived.RangeFuncNested
import Derived.RangeFuncBound
import Derived.RangeFuncCalls
import Derived.RangeFuncLeaves
import Derived.Shelf.Abstract
import Derived.Shelf.RegionOpen
import Derived.OwnWalkIn
import Derived.TacticsInMore
import Derived.LoopNIn
import Derived.LoopIn
import Derived.Stop.RegionWithIn
import Derived.Deep.RegionHeld3
import Derived.Deep.Quiet
import Derived.Deep.DeepCutAuto
import Derived.OrdersIn
import Derived.Test.YtgjleeamhkolhaaGreatDoorRows
import Derived.Test.YtgjleeamhkolhaaGreatDoorData
import Derived.Test.YtgjleeamhkolhaaGreatDoorCls
import Derived.Test.YtgjleeamhkolhaaGreatDoorLawData
import Derived.Test.YtgjleeamhkolhaaGreatDoorSpanBack
import Derived.Test.YtgjleeamhkolhaaGreatDoorJ01
import Derived.Test.YtgjleeamhkolhaaGreatDoorData2
import Derived.Test.YtgjleeamhkolhaaGreatDoorOwnMore
namespace Go.Proofs.YtgjleeamhkolhaaGreatDoor
open Go.RowKit

structure IntsAt (w : World) (a : Option Addr) (b o : Nat) (zs : List Int) : Prop where
  here : zs ≠ [] → a = some ⟨b, o, none⟩
  lt : zs ≠ [] → b < w.heap.size
  cell : ∀ (i : Nat) (z : Int), zs[i]? = some z → w.cell? ⟨b, o + i, none⟩ = some (.int .i64 z)

theorem IntsAt.below {w w' : World} {a : Option Addr} {b o B : Nat} {zs : List Int} (h : IntsAt w a b o zs) (hb : Below B w w') (hB : zs ≠ [] → b < B) : IntsAt w' a b o zs where
  here := h.here
  lt hl := Nat.lt_of_lt_of_le (h.lt hl) hb.size
  cell i z hi := by
    have hne : zs ≠ [] := by intro e; subst e; simp at hi
    rw [hb.cell (p := ⟨b, o + i, none⟩) (hB hne)]
    exact h.cell i z hi
theorem IntsAt.alloc {w : World} {a : Option Addr} {b o : Nat} {zs : List Int} (h : IntsAt w a b o zs) (ob : Obj) : IntsAt (w.alloc ob) a b o zs :=
  h.below ((Below.refl w.heap.size w).alloc (Nat.le_refl _) ob) h.lt

end Go.Proofs.YtgjleeamhkolhaaGreatDoor

namespace Go.Proofs.YtgjleeamhkolhaaGreatDoor
open Go.RowKit

theorem in_any (n a b : Int) (w : World) :
    Calls Tryz.prog 52 #[.int .i64 n, .int .i64 a, .int .i64 b] w fun e w' => e = .returned (.bool (inB n a b)) ∧ w' = w := by
  by_cases h1 : a ≤ n
  · by_cases h2 : n ≤ b
    · go_enter Tryz.func52, Tryz.ntmps52
      go_wp2
      go_ret
      exact ⟨by simp [inB, h1, h2], rfl⟩
    · have h2' : decide (n ≤ b) = false := by simpa using h2
      go_enter Tryz.func52, Tryz.ntmps52
      go_wp2
      go_ret
      exact ⟨by simp [inB, h2'], rfl⟩
  · have h1' : decide (a ≤ n) = false := by simpa using h1
    go_enter Tryz.func52, Tryz.ntmps52
    go_wp2
    go_ret
    exact ⟨by simp [inB, h1'], rfl⟩

theorem stepOkS_any (x y lo hi fr b : Int) (ho : Bool) (w : World) :
    Calls Tryz.prog 82 #[.agg #[.int .i64 x, .int .i64 y, .int .i64 lo, .int .i64 hi, .int .i64 fr, .int .i64 b, .bool ho]] w fun e w' => e = .returned (.bool (stepB x y lo hi fr b)) ∧ Below w.heap.size w w' := by
  have hb := (Below.refl w.heap.size w).alloc (Nat.le_refl _) (.cells #[.int .i64 x, .int .i64 y, .int .i64 lo, .int .i64 hi, .int .i64 fr, .int .i64 b, .bool ho] 98)
  have er : stepB x y lo hi fr b = (inB x 0 15 && inB y 0 15 && inB lo 0 hi && decide (hi ≤ 6) && inB fr 0 b && decide (b ≤ 10000)) := by
    rw [Bool.eq_iff_iff]; simp [stepB, inB]; omega
  have ER : Hid (stepB x y lo hi fr b = (inB x 0 15 && inB y 0 15 && inB lo 0 hi && decide (hi ≤ 6) && inB fr 0 b && decide (b ≤ 10000))) := er
  clear er
  rcases Bool.eq_false_or_eq_true (inB x 0 15) with h1 | h1
  rcases Bool.eq_false_or_eq_true (inB y 0 15) with h2 | h2
  rcases Bool.eq_false_or_eq_true (inB lo 0 hi) with h3 | h3
  rcases Bool.eq_false_or_eq_true (decide (hi ≤ 6)) with h4 | h4
  rcases Bool.eq_false_or_eq_true (inB fr 0 b) with h5 | h5
  all_goals
    go_enter Tryz.func82, Tryz.ntmps82
    go_wp2_with (go_at_call 52; refine (in_any _ _ _ _).mono ?_; rintro e w' ⟨rfl, rfl⟩)
    go_ret
    exact ⟨by rw [ER.out]; simp [*], hb⟩

theorem folN (x y lo hi x' y' lo' hi' : Int) : folB x y lo hi x' y' lo' hi' = (((x != x') || (y != y')) && inB (wrap64 (x - x')) (-1) 1 && inB (wrap64 (y - y')) (-1) 1 && levB lo hi lo' hi') := by
  unfold folB bne; cases (x == x') <;> cases (y == y') <;> rfl

set_option maxHeartbeats 1000000 in
theorem nextS_any (x y lo hi fr b x' y' lo' hi' fr' b' : Int) (ho ho' : Bool) (w : World) :
    Calls Tryz.prog 83 #[.agg #[.int .i64 x, .int .i64 y, .int .i64 lo, .int .i64 hi, .int .i64 fr, .int .i64 b, .bool ho], .agg #[.int .i64 x', .int .i64 y', .int .i64 lo', .int .i64 hi', .int .i64 fr', .int .i64 b', .bool ho']] w
      fun e w' => e = .returned (.bool (folB x y lo hi x' y' lo' hi')) ∧ Below w.heap.size w w' := by
  have hb : ∀ c1 c2 : Array Value, Below w.heap.size w ((w.alloc (.cells c1 98)).alloc (.cells c2 98)) := fun c1 c2 => ((Below.refl w.heap.size w).alloc (Nat.le_refl _) _).alloc (by simp) _
  rcases Bool.eq_false_or_eq_true (inB (wrap64 (x - x')) (-1) 1) with h3 | h3
  rcases Bool.eq_false_or_eq_true (inB (wrap64 (y - y')) (-1) 1) with h4 | h4
  rcases (show ((x != x') = false ∧ (y != y') = false) ∨ ((x != x') = false ∧ (y != y') = true) ∨ (x != x') = true by cases (x != x') <;> cases (y != y') <;> simp) with ⟨h1, h2⟩ | ⟨h1, h2⟩ | h1
  rotate_left
  rcases Bool.eq_false_or_eq_true (decide (lo ≤ hi')) with h5 | h5
  rotate_left 2
  rcases Bool.eq_false_or_eq_true (decide (lo ≤ hi')) with h5 | h5
  all_goals
    go_enter Tryz.func83, Tryz.ntmps83
    go_wp2_with (go_at_call 52; refine (in_any _ _ _ _).mono ?_; rintro e w' ⟨rfl, rfl⟩)
    go_ret
    exact ⟨by rw [folN]; simp [levB, *], hb _ _⟩

theorem in_val (n a b : Int) (v : Bool) (w : World) (hv : inB n a b = v) :
    Calls Tryz.prog 52 #[.int .i64 n, .int .i64 a, .int .i64 b] w fun e w' => e = .returned (.bool v) ∧ w' = w := by
  rw [← hv]; exact in_any n a b w
end Go.Proofs.YtgjleeamhkolhaaGreatDoor

namespace Go.Proofs.YtgjleeamhkolhaaGreatDoor
open Go.RowKit

theorem kindS_any (q s : Int) (w : World) :
    Calls Tryz.prog 81 #[.agg #[.int .i64 q, .int .i64 s]] w fun e w' => e = .returned (.bool (kindB q s)) ∧ Below w.heap.size w w' := by
  have hb := (Below.refl w.heap.size w).alloc (Nat.le_refl _) (.cells #[.int .i64 q, .int .i64 s] 35)
  have ER : Hid (kindB q s = (inB q 1 s && decide (s ≤ 50))) := by
    show _ = _
    rw [Bool.eq_iff_iff]; simp [kindB, inB]; omega
  cases hk : inB q 1 s
  all_goals
    go_enter Tryz.func81, Tryz.ntmps81
    go_wp2_with (go_at_call 52; refine (in_any _ _ _ _).mono ?_; rintro e w' ⟨rfl, rfl⟩)
    go_ret
    exact ⟨by rw [ER.out, hk]; simp, hb⟩

set_option maxHeartbeats 2000000 in
theorem pathS_no (q s fr b : Int) (a : Option Addr) (_b0 _o cap : Nat) (l : List Stp) (w : World) (_hl : l.length ≤ 1048576)
    (hno : (kindB q s && inB l.length 1 40 && inB fr 0 b && decide (b ≤ 10000)) = false) :
    Calls Tryz.prog 59 #[.agg #[.int .i64 q, .int .i64 s, .slice a l.length cap, .int .i64 fr, .int .i64 b]] w fun e w' => e = .returned (.bool false) ∧ Below w.heap.size w w' := by
  rcases (show kindB q s = false ∨ (kindB q s = true ∧ inB l.length 1 40 = false) ∨ (kindB q s = true ∧ inB l.length 1 40 = true ∧ inB fr 0 b = false) ∨ (kindB q s = true ∧ inB l.length 1 40 = true ∧ inB fr 0 b = true ∧ 10000 < b) by
    by_cases h : b ≤ 10000
    · revert hno; cases kindB q s <;> cases inB l.length 1 40 <;> cases inB fr 0 b <;> simp [h]
    · have h' : 10000 < b := by omega
      cases kindB q s <;> cases inB l.length 1 40 <;> cases inB fr 0 b <;> simp [h']) with h1 | ⟨h1, h2⟩ | ⟨h1, h2, h3⟩ | ⟨h1, h2, h3, h4⟩
  all_goals
    clear hno
    go_enter Tryz.func59, Tryz.ntmps59
    go_wp2_with fail
    refine (kindS_any _ _ _).mono ?_
    rintro e w1 ⟨rfl, hb1⟩
    have hb01 : Below w.heap.size w w1 := ((Below.refl w.heap.size w).alloc (Nat.le_refl _) _).trans (hb1.mono (by simp))
    have c2 : w1.cell? ⟨w.heap.size, 2, none⟩ = some (.slice a l.length cap) := by rw [hb1.cell (p := ⟨w.heap.size, 2, none⟩) (by simp)]; simp [go_sem]
    have c3 : w1.cell? ⟨w.heap.size, 3, none⟩ = some (.int .i64 fr) := by rw [hb1.cell (p := ⟨w.heap.size, 3, none⟩) (by simp)]; simp [go_sem]
    have c4 : w1.cell? ⟨w.heap.size, 4, none⟩ = some (.int .i64 b) := by rw [hb1.cell (p := ⟨w.heap.size, 4, none⟩) (by simp)]; simp [go_sem]
    clear hb1
    go_wp2_with (go_at_call 52; refine (in_any _ _ _ _).mono ?_; rintro e w' ⟨rfl, rfl⟩)
    go_ret
    exact ⟨rfl, hb01⟩

theorem stepOkS_val (x y lo hi fr b : Int) (ho v : Bool) (w : World) (hv : stepB x y lo hi fr b = v) :
    Calls Tryz.prog 82 #[.agg #[.int .i64 x, .int .i64 y, .int .i64 lo, .int .i64 hi, .int .i64 fr, .int .i64 b, .bool ho]] w fun e w' => e = .returned (.bool v) ∧ Below w.heap.size w w' := by
  rw [← hv]; exact stepOkS_any x y lo hi fr b ho w

theorem nextS_val (x y lo hi fr b x' y' lo' hi' fr' b' : Int) (ho ho' v : Bool) (w : World) (hv : folB x y lo hi x' y' lo' hi' = v) :
    Calls Tryz.prog 83 #[.agg #[.int .i64 x, .int .i64 y, .int .i64 lo, .int .i64 hi, .int .i64 fr, .int .i64 b, .bool ho], .agg #[.int .i64 x', .int .i64 y', .int .i64 lo', .int .i64 hi', .int .i64 fr', .int .i64 b', .bool ho']] w
      fun e w' => e = .returned (.bool v) ∧ Below w.heap.size w w' := by
  rw [← hv]; exact nextS_any x y lo hi fr b x' y' lo' hi' fr' b' ho ho' w

set_option maxHeartbeats 4000000 in
theorem pathS_yes (q s fr b : Int) (a : Option Addr) (b0 o cap : Nat) (l : List Stp) (w : World) (hs : StepsAt w a b0 o l)
    (h1 : kindB q s = true) (h2 : inB l.length 1 40 = true) (h3 : inB fr 0 b = true) (h4 : b ≤ 10000) :
    Calls Tryz.prog 59 #[.agg #[.int .i64 q, .int .i64 s, .slice a l.length cap, .int .i64 fr, .int .i64 b]] w fun e w' => e = .returned (.bool (goodTo l l.length)) ∧ Below w.heap.size w w' := by
  have hn := (inB_iff _ _ _).1 h2
  go_enter Tryz.func59, Tryz.ntmps59
  go_wp2_with fail
  refine (kindS_any _ _ _).mono ?_
  rintro e w1 ⟨rfl, hb1⟩
  have hb01 : Below w.heap.size w w1 := ((Below.refl w.heap.size w).alloc (Nat.le_refl _) _).trans (hb1.mono (by simp))
  have hz : w.heap.size < w1.heap.size := by have := hb1.size; simp at this; omega
  have c2 : w1.cell? ⟨w.heap.size, 2, none⟩ = some (.slice a l.length cap) := by rw [hb1.cell (p := ⟨w.heap.size, 2, none⟩) (by simp)]; simp [go_sem]
  have c3 : w1.cell? ⟨w.heap.size, 3, none⟩ = some (.int .i64 fr) := by rw [hb1.cell (p := ⟨w.heap.size, 3, none⟩) (by simp)]; simp [go_sem]
  have c4 : w1.cell? ⟨w.heap.size, 4, none⟩ = some (.int .i64 b) := by rw [hb1.cell (p := ⟨w.heap.size, 4, none⟩) (by simp)]; simp [go_sem]
  clear hb1
  go_wp2_with (go_at_call 52; refine (in_any _ _ _ _).mono ?_; rintro e w' ⟨rfl, rfl⟩)
  clear c3 c4
  go_loopw [3] (fun v wr => ∃ k : Nat, k ≤ l.length ∧ v = .int .i64 k ∧ Below w.heap.size w wr ∧ w.heap.size < wr.heap.size ∧ wr.cell? ⟨w.heap.size, 2, none⟩ = some (.slice a l.length cap) ∧ goodTo l k = true) (fun v _ => l.length - (intOf v).toNat)
  case atStart => exact ⟨0, Nat.zero_le _, rfl, hb01, hz, c2, goodTo_zero l⟩
  case round =>
    clear hb01 hz c2 h1 h2 h3
    obtain ⟨k, hk, rfl, hb, hz, c2, hgood⟩ := hrel
    have HG : Hid (goodTo l k = true) := hgood
    clear hgood
    by_cases hlt : k < l.length
    · obtain ⟨t, htk⟩ : ∃ t, l[k]? = some t := ⟨l[k], List.getElem?_eq_getElem hlt⟩
      have hne : l ≠ [] := by intro e; subst e; simp at hlt
      obtain rfl := hs.here hne
      have hbw := hs.lt hne
      have hbx : b0 < wr.heap.size := Nat.lt_of_lt_of_le hbw hb.size
      obtain ⟨d0, d1, d2, d3, d4, d5, d6⟩ := (hs.below hb (fun _ => hbw)).seven htk
      have k0 : (0 : Int) ≤ (k : Int) := by omega
      have k1 : (k : Int) < (l.length : Int) := by omega
      have HT : Hid (l.getD k .zero = t) := by show _ = _; simp [List.getD, htk]
      have HS := (hs.below hb (fun _ => hbw))
      clear htk
      cases hok : stepB t.x t.y t.lo t.hi t.fr t.by_ with
      | false =>
        go_wp2
        have qn := Cls.any wr
        have q0 := Cls.cell hbx
        have q1 := Cls.cell hz
        refine wp_region_cls (by kernel_rfl) (by kernel_rfl) ?_
        repeat (go_big_quiet_step ((go_at_call 82; exact Calls.cls_of (stepOkS_val _ _ _ _ _ _ _ _ _ hok))))
        refine wpQuiet_nil ?_
        rintro _ ⟨u, rfl⟩
        go_wp2
        go_ret
        exact ⟨by rw [goodTo_not hlt (goodS_bad HT.out hok)]; rfl, hb.trans (u.same.mono hb.size)⟩
      | true =>
        have qn := Cls.any wr
        have q0 := Cls.cell hbx
        have q1 := Cls.cell hz
        rcases Nat.eq_zero_or_pos k with hk0 | hk0
        · have G1 : Hid (goodTo l (k + 1) = true) := by
            show _ = _
            subst hk0; rw [goodTo_succ, HG.out, goodS_first HT.out hok]; rfl
          subst hk0
          clear hk k0
          simp only [Nat.zero_mul, Nat.add_zero] at d0 d1 d2 d3 d4 d5 d6
          go_wp2
          refine wp_region_cls (by kernel_rfl) (by kernel_rfl) ?_
          repeat (go_big_quiet_step ((go_at_call 82; exact Calls.cls_of (stepOkS_val _ _ _ _ _ _ _ _ _ hok))))
          refine wpQuiet_nil ?_
          rintro _ ⟨u, rfl⟩
          go_wp2
          go_roundw
          case rel => exact ⟨0 + 1, by omega, by go_num, hb.trans (u.same.mono hb.size), Nat.lt_of_lt_of_le hz u.same.size, by rw [q1 u]; exact c2, G1.out⟩
          case measure => simp [intOf]; omega
        · obtain ⟨p, hpk⟩ : ∃ p, l[k - 1]? = some p := ⟨l[k - 1], List.getElem?_eq_getElem (by omega)⟩
          have HP : Hid (l.getD (k - 1) .zero = p) := by show _ = _; simp [List.getD, hpk]
          obtain ⟨m, rfl⟩ : ∃ m, k = m + 1 := ⟨k - 1, by omega⟩
          simp only [Nat.add_sub_cancel] at hpk HP
          obtain ⟨g0, g1, g2, g3, g4, g5, g6⟩ := HS.seven hpk
          clear hpk HS hk0
          cases hfo : folB p.x p.y p.lo p.hi t.x t.y t.lo t.hi with
          | false =>
            have G1 : Hid (goodTo l l.length = false) := by
              show _ = _
              exact goodTo_not hlt (goodS_next HT.out HP.out hok hfo)
            go_wp2
            refine wp_region_cls (by kernel_rfl) (by kernel_rfl) ?_
            repeat (go_big_quiet_step (first | (go_at_call 82; exact Calls.cls_of (stepOkS_val _ _ _ _ _ _ _ _ _ hok)) | (go_at_call 83; exact Calls.cls_of (nextS_val _ _ _ _ _ _ _ _ _ _ _ _ _ _ _ _ hfo))))
            refine wpQuiet_nil ?_
            rintro _ ⟨u, rfl⟩
            go_wp2
            go_ret
            exact ⟨by rw [G1.out]; rfl, hb.trans (u.same.mono hb.size)⟩
          | true =>
            have G1 : Hid (goodTo l (m + 1 + 1) = true) := by
              show _ = _
              rw [goodTo_succ, HG.out, goodS_next HT.out HP.out hok hfo]; rfl
            go_wp2
            refine wp_region_cls (by kernel_rfl) (by kernel_rfl) ?_
            repeat (go_big_quiet_step (first | (go_at_call 82; exact Calls.cls_of (stepOkS_val _ _ _ _ _ _ _ _ _ hok)) | (go_at_call 83; exact Calls.cls_of (nextS_val _ _ _ _ _ _ _ _ _ _ _ _ _ _ _ _ hfo))))
            refine wpQuiet_nil ?_
            rintro _ ⟨u, rfl⟩
            go_wp2
            go_roundw
            case rel => exact ⟨m + 1 + 1, by omega, by go_num, hb.trans (u.same.mono hb.size), Nat.lt_of_lt_of_le hz u.same.size, by rw [q1 u]; exact c2, G1.out⟩
            case measure => simp [intOf]; omega
    · obtain rfl : k = l.length := by omega
      go_wp2
      go_ret
      exact ⟨by rw [HG.out]; rfl, hb⟩

theorem pathS_any (q s fr b : Int) (a : Option Addr) (b0 o cap : Nat) (l : List Stp) (w : World) (hl : l.length ≤ 1048576) (hs : StepsAt w a b0 o l) :
    Calls Tryz.prog 59 #[.agg #[.int .i64 q, .int .i64 s, .slice a l.length cap, .int .i64 fr, .int .i64 b]] w fun e w' => e = .returned (.bool (pathB q s fr b l)) ∧ Below w.heap.size w w' := by
  cases h : (kindB q s && inB l.length 1 40 && inB fr 0 b && decide (b ≤ 10000)) with
  | false =>
    have e1 : pathB q s fr b l = false := by unfold pathB; rw [h]; rfl
    rw [e1]
    exact pathS_no q s fr b a b0 o cap l w hl h
  | true =>
    have e1 : pathB q s fr b l = goodTo l l.length := by unfold pathB; rw [h]; rfl
    rw [e1]
    simp only [Bool.and_eq_true, decide_eq_true_eq] at h
    exact pathS_yes q s fr b a b0 o cap l w hs h.1.1.1 h.1.1.2 h.1.2 h.2
end Go.Proofs.YtgjleeamhkolhaaGreatDoor

namespace Go.Proofs.YtgjleeamhkolhaaGreatDoor
open Go.RowKit

theorem low_any (q s fr b : Int) (a : Option Addr) (b0 o cap : Nat) (l : List Stp) (k : Nat) (w : World) (hl : l.length ≤ 1048576) (hs : StepsAt w a b0 o l) :
    Calls Tryz.prog 105 #[.agg #[.int .i64 q, .int .i64 s, .slice a l.length cap, .int .i64 fr, .int .i64 b], .int .i64 (k : Int)] w fun e w' => e = .returned (.int .i64 (lowB fr l k)) ∧ Below w.heap.size w w' := by
  have hb := (Below.refl w.heap.size w).alloc (Nat.le_refl _) (.cells #[.int .i64 q, .int .i64 s, .slice a l.length cap, .int .i64 fr, .int .i64 b] 38)
  by_cases hlt : k < l.length
  · obtain ⟨t, htk⟩ : ∃ t, l[k]? = some t := ⟨l[k], List.getElem?_eq_getElem hlt⟩
    have hne : l ≠ [] := by intro e; subst e; simp at hlt
    obtain rfl := hs.here hne
    have hbw := hs.lt hne
    obtain ⟨_, _, _, _, d4, _, _⟩ := (hs.alloc (.cells #[.int .i64 q, .int .i64 s, .slice (some ⟨b0, o, none⟩) l.length cap, .int .i64 fr, .int .i64 b] 38)).seven htk
    have HE : Hid (lowB fr l k = t.fr) := by show _ = _; unfold lowB; rw [if_pos hlt]; simp [List.getD, htk]
    clear htk
    go_enter Tryz.func105, Tryz.ntmps105
    go_wp2
    go_ret
    exact ⟨by rw [HE.out]; rfl, hb⟩
  · have HE : Hid (lowB fr l k = fr) := by show _ = _; unfold lowB; rw [if_neg hlt]
    go_enter Tryz.func105, Tryz.ntmps105
    go_wp2
    go_ret
    exact ⟨by rw [HE.out]; rfl, hb⟩

theorem high_any (q s fr b : Int) (a : Option Addr) (b0 o cap : Nat) (l : List Stp) (k : Nat) (w : World) (hl : l.length ≤ 1048576) (hs : StepsAt w a b0 o l) :
    Calls Tryz.prog 106 #[.agg #[.int .i64 q, .int .i64 s, .slice a l.length cap, .int .i64 fr, .int .i64 b], .int .i64 (k : Int)] w fun e w' => e = .returned (.int .i64 (highB b l k)) ∧ Below w.heap.size w w' := by
  have hb := (Below.refl w.heap.size w).alloc (Nat.le_refl _) (.cells #[.int .i64 q, .int .i64 s, .slice a l.length cap, .int .i64 fr, .int .i64 b] 38)
  by_cases hlt : k < l.length
  · obtain ⟨t, htk⟩ : ∃ t, l[k]? = some t := ⟨l[k], List.getElem?_eq_getElem hlt⟩
    have hne : l ≠ [] := by intro e; subst e; simp at hlt
    obtain rfl := hs.here hne
    have hbw := hs.lt hne
    obtain ⟨_, _, _, _, _, d5, _⟩ := (hs.alloc (.cells #[.int .i64 q, .int .i64 s, .slice (some ⟨b0, o, none⟩) l.length cap, .int .i64 fr, .int .i64 b] 38)).seven htk
    have HE : Hid (highB b l k = t.by_) := by show _ = _; unfold highB; rw [if_pos hlt]; simp [List.getD, htk]
    clear htk
    go_enter Tryz.func106, Tryz.ntmps106
    go_wp2
    go_ret
    exact ⟨by rw [HE.out]; rfl, hb⟩
  · have HE : Hid (highB b l k = b) := by show _ = _; unfold highB; rw [if_neg hlt]
    go_enter Tryz.func106, Tryz.ntmps106
    go_wp2
    go_ret
    exact ⟨by rw [HE.out]; rfl, hb⟩

theorem most_any (q s fr b : Int) (a : Option Addr) (b0 o cap : Nat) (l : List Stp) (k : Nat) (w : World) (hl : l.length ≤ 1048576) (hs : StepsAt w a b0 o l) (hlt : k < l.length) :
    Calls Tryz.prog 108 #[.agg #[.int .i64 q, .int .i64 s, .slice a l.length cap, .int .i64 fr, .int .i64 b], .int .i64 (k : Int)] w fun e w' => e = .returned (.int .i64 (mostB s l k)) ∧ Below w.heap.size w w' := by
  have hb := (Below.refl w.heap.size w).alloc (Nat.le_refl _) (.cells #[.int .i64 q, .int .i64 s, .slice a l.length cap, .int .i64 fr, .int .i64 b] 38)
  obtain ⟨t, htk⟩ : ∃ t, l[k]? = some t := ⟨l[k], List.getElem?_eq_getElem hlt⟩
  have hne : l ≠ [] := by intro e; subst e; simp at hlt
  obtain rfl := hs.here hne
  have hbw := hs.lt hne
  obtain ⟨_, _, _, _, _, _, d6⟩ := (hs.alloc (.cells #[.int .i64 q, .int .i64 s, .slice (some ⟨b0, o, none⟩) l.length cap, .int .i64 fr, .int .i64 b] 38)).seven htk
  have HE : Hid (mostB s l k = if t.ho then 10000 else s) := by show _ = _; unfold mostB; simp [List.getD, htk]
  clear htk
  cases hho : t.ho with
  | true =>
    have HF : Hid (mostB s l k = 10000) := by show _ = _; rw [HE.out, hho]; rfl
    rw [hho] at d6
    go_enter Tryz.func108, Tryz.ntmps108
    go_wp2
    go_ret
    exact ⟨by rw [HF.out]; rfl, hb⟩
  | false =>
    have HF : Hid (mostB s l k = s) := by show _ = _; rw [HE.out, hho]; rfl
    rw [hho] at d6
    go_enter Tryz.func108, Tryz.ntmps108
    go_wp2
    go_ret
    exact ⟨by rw [HF.out]; rfl, hb⟩
end Go.Proofs.YtgjleeamhkolhaaGreatDoor

namespace Go.Proofs.YtgjleeamhkolhaaGreatDoor
open Go.RowKit

structure BoxP (w wr : World) (q s fr b : Int) (v : Value) : Prop where
  old : Below w.heap.size w wr
  lt : w.heap.size < wr.heap.size
  p0 : wr.cell? ⟨w.heap.size, 0, none⟩ = some (.int .i64 q)
  p1 : wr.cell? ⟨w.heap.size, 1, none⟩ = some (.int .i64 s)
  p2 : wr.cell? ⟨w.heap.size, 2, none⟩ = some v
  p3 : wr.cell? ⟨w.heap.size, 3, none⟩ = some (.int .i64 fr)
  p4 : wr.cell? ⟨w.heap.size, 4, none⟩ = some (.int .i64 b)
theorem BoxP.below {w wr w2 : World} {q s fr b : Int} {v : Value} (h : BoxP w wr q s fr b v) (hb : Below wr.heap.size wr w2) : BoxP w w2 q s fr b v := by
  have c0 : ∀ j, w2.cell? ⟨w.heap.size, j, none⟩ = wr.cell? ⟨w.heap.size, j, none⟩ := fun j => hb.cell (p := ⟨w.heap.size, j, none⟩) h.lt
  exact ⟨h.old.trans (hb.mono (Nat.le_of_lt h.lt)), Nat.lt_of_lt_of_le h.lt hb.size, (c0 _).trans h.p0, (c0 _).trans h.p1, (c0 _).trans h.p2, (c0 _).trans h.p3, (c0 _).trans h.p4⟩
theorem BoxP.keep {w wr w2 : World} {q s fr b : Int} {v : Value} (h : BoxP w wr q s fr b v) (hb : Below (w.heap.size + 1) wr w2) : BoxP w w2 q s fr b v := by
  have c0 : ∀ j, w2.cell? ⟨w.heap.size, j, none⟩ = wr.cell? ⟨w.heap.size, j, none⟩ := fun j => hb.cell (p := ⟨w.heap.size, j, none⟩) (Nat.lt_succ_self _)
  exact ⟨h.old.trans (hb.mono (by omega)), Nat.lt_of_lt_of_le h.lt hb.size, (c0 _).trans h.p0, (c0 _).trans h.p1, (c0 _).trans h.p2, (c0 _).trans h.p3, (c0 _).trans h.p4⟩
theorem BoxP.new (w : World) (q s fr b : Int) (v : Value) (t : TypeId) : BoxP w (w.alloc (.cells #[.int .i64 q, .int .i64 s, v, .int .i64 fr, .int .i64 b] t)) q s fr b v :=
  ⟨(Below.refl _ _).alloc (Nat.le_refl _) _, by simp, by simp [go_sem], by simp [go_sem], by simp [go_sem], by simp [go_sem], by simp [go_sem]⟩
end Go.Proofs.YtgjleeamhkolhaaGreatDoor

namespace Go.Proofs.YtgjleeamhkolhaaGreatDoor
open Go.RowKit

set_option maxHeartbeats 1000000 in
theorem stay_any (x y lo hi fr b q s : Int) (ho : Bool) (w : World) :
    Calls Tryz.prog 145 #[.agg #[.int .i64 x, .int .i64 y, .int .i64 lo, .int .i64 hi, .int .i64 fr, .int .i64 b, .bool ho], .agg #[.int .i64 q, .int .i64 s]] w
      fun e w' => e = .returned (.tuple #[.int .i64 q, .int .i64 (if ho then 10000 else s)]) ∧ Below w.heap.size w w' := by
  have hb : ∀ c1 c2 : Array Value, Below w.heap.size w ((w.alloc (.cells c1 98)).alloc (.cells c2 35)) := fun c1 c2 => ((Below.refl w.heap.size w).alloc (Nat.le_refl _) _).alloc (by simp) _
  cases ho with
  | true =>
    go_enter Tryz.func145, Tryz.ntmps145
    go_wp2
    go_ret2
    exact ⟨rfl, hb _ _⟩
  | false =>
    go_enter Tryz.func145, Tryz.ntmps145
    go_wp2
    go_quiet (fail)
    go_wp2
    go_ret2
    exact ⟨rfl, (hb _ _).trans ⟨rfl, rfl, rfl, Nat.le_refl _, fun _ _ => rfl⟩⟩

set_option maxHeartbeats 1000000 in
theorem windowS_any (x y lo hi fr b : Int) (ho : Bool) (w : World) :
    Calls Tryz.prog 217 #[.agg #[.int .i64 x, .int .i64 y, .int .i64 lo, .int .i64 hi, .int .i64 fr, .int .i64 b, .bool ho]] w
      fun e w' => e = .returned (.tuple #[.int .i64 fr, .int .i64 b]) ∧ Below w.heap.size w w' := by
  have hb : ∀ c1 : Array Value, Below w.heap.size w (w.alloc (.cells c1 98)) := fun c1 => (Below.refl w.heap.size w).alloc (Nat.le_refl _) _
  go_enter Tryz.func217, Tryz.ntmps217
  go_wp2
  go_quiet (fail)
  go_wp2
  go_ret2
  exact ⟨rfl, (hb _).trans ⟨rfl, rfl, rfl, Nat.le_refl _, fun _ _ => rfl⟩⟩

set_option maxHeartbeats 1000000 in
theorem windowE_any (fr b : Int) (w : World) :
    Calls Tryz.prog 236 #[.agg #[.int .i64 fr, .int .i64 b]] w
      fun e w' => e = .returned (.tuple #[.int .i64 fr, .int .i64 b]) ∧ Below w.heap.size w w' := by
  have hb : ∀ c1 : Array Value, Below w.heap.size w (w.alloc (.cells c1 235)) := fun c1 => (Below.refl w.heap.size w).alloc (Nat.le_refl _) _
  go_enter Tryz.func236, Tryz.ntmps236
  go_wp2
  go_quiet (fail)
  go_wp2
  go_ret2
  exact ⟨rfl, (hb _).trans ⟨rfl, rfl, rfl, Nat.le_refl _, fun _ _ => rfl⟩⟩

theorem bound_info : (Tryz.prog.info? 210).map (fun i => (i.zero, i.size, i.bytes)) = some (some .nilIface, 1, 16) := by kernel_rfl

abbrev stepV (s : Stp) : Value := .iface 98 s.val
def bndTo (l : List Stp) (k : Nat) : List Value := (List.range k).map fun i => stepV (l.getD i .zero)
theorem bndTo_succ (l : List Stp) (k : Nat) : bndTo l (k + 1) = bndTo l k ++ [stepV (l.getD k .zero)] := by simp [bndTo, List.range_succ]
theorem bndTo_length (l : List Stp) (k : Nat) : (bndTo l k).length = k := by simp [bndTo]

theorem owns_from {w : World} {base e size n : Nat} {v : Value} {xs : List Value} (h : w.ownsRow base e size v n xs) : ∀ k, v.ownBlock = some k → base ≤ k := by
  intro k hk
  rcases h.2 with ⟨rfl, _⟩ | ⟨g, cap, cur, rfl, hg, _⟩
  · simp [Value.ownBlock] at hk
  · simp [Value.ownBlock] at hk; omega
theorem owns_mono {w : World} {base base' e size n : Nat} {v : Value} {xs : List Value} (h : w.ownsRow base e size v n xs) (hb : base' ≤ base) : w.ownsRow base' e size v n xs :=
  ⟨h.1, h.2.imp id fun ⟨g, cap, cur, h1, h2, h3⟩ => ⟨g, cap, cur, h1, Nat.le_trans hb h2, h3⟩⟩

set_option maxHeartbeats 2000000 in
theorem bounds_any (q s fr b : Int) (a : Option Addr) (b0 o cap : Nat) (l : List Stp) (w : World) (hl : l.length ≤ 1048576) (hs : StepsAt w a b0 o l) :
    Calls Tryz.prog 144 #[.agg #[.int .i64 q, .int .i64 s, .slice a l.length cap, .int .i64 fr, .int .i64 b]] w
      fun e w' => ∃ v, e = .returned v ∧ w'.ownsRow w.heap.size 210 1 v (l.length + 1) (bndTo l l.length ++ [.iface 235 (.agg #[.int .i64 fr, .int .i64 b])]) ∧ Below w.heap.size w w' := by
  obtain ⟨i0, hi, hz0, hz1, hz2⟩ := info_parts bound_info
  go_enter Tryz.func144, Tryz.ntmps144
  go_wp2
  go_loopw [3, 9] (fun u v wr => ∃ k : Nat, k ≤ l.length ∧ v = .int .i64 k ∧ BoxP w wr q s fr b (.slice a l.length cap) ∧ wr.ownsRow (w.heap.size + 1) 210 1 u k (bndTo l k)) (fun _ v _ => l.length - (intOf v).toNat)
  case atStart => exact ⟨0, Nat.zero_le _, rfl, BoxP.new w q s fr b _ _, World.ownsRow_nil _ _ _ _⟩
  case round =>
    obtain ⟨k, hk, rfl, hB, hown⟩ := hrel
    by_cases hlt : k < l.length
    · obtain ⟨t, htk⟩ : ∃ t, l[k]? = some t := ⟨l[k], List.getElem?_eq_getElem hlt⟩
      have hne : l ≠ [] := by intro e; subst e; simp at hlt
      obtain rfl := hs.here hne
      obtain ⟨d0, d1, d2, d3, d4, d5, d6⟩ := (hs.below hB.old hs.lt).seven htk
      have HT : Hid (l.getD k .zero = t) := by show _ = _; simp [List.getD, htk]
      clear htk
      have hz := hB.lt
      have c1 : ∀ (j : Nat) (u : Value), [stepV t][j]? = some u → ((wr.alloc (.cells #[.int .i64 t.x, .int .i64 t.y, .int .i64 t.lo, .int .i64 t.hi, .int .i64 t.fr, .int .i64 t.by_, .bool t.ho] 98)).alloc (.cells #[stepV t] 210)).cell? ((⟨wr.heap.size + 1, 0, none⟩ : Addr).add j) = some u := by
        intro j u hj
        match j, hj with
        | 0, hj => simp at hj; subst hj; simp [Addr.add, go_sem]
      have HC : Hid (∀ (j : Nat) (u : Value), [stepV t][j]? = some u → ((wr.alloc (.cells #[.int .i64 t.x, .int .i64 t.y, .int .i64 t.lo, .int .i64 t.hi, .int .i64 t.fr, .int .i64 t.by_, .bool t.ho] 98)).alloc (.cells #[stepV t] 210)).cell? ((⟨wr.heap.size + 1, 0, none⟩ : Addr).add j) = some u) := c1
      clear c1
      go_wp2_with (at_builtin; (refine wpList_append_own _ rfl _ _ 207 rfl (w.heap.size + 1) 210 i0 .nilIface 1 16 Tryz.underlying207 hi hz0 hz1 hz2 rfl (by decide) _ _ _ rfl ((hown.alloc _).alloc _) ⟨wr.heap.size + 1, 0, none⟩ 1 1 [stepV t] rfl rfl HC.out (by simp [Value.oneCell']) (by unfold maxLen; omega) (by omega) (by simp; omega) ?_); intro v' w1 hown' hgrow _)
      have hbel : Below (w.heap.size + 1) wr w1 := (((Below.refl (w.heap.size + 1) wr).alloc (by omega) _).alloc (by simp; omega) _).grown hgrow (by simp; omega) (owns_from hown)
      refine ⟨⟨k + 1, by omega, by go_num, hB.keep hbel, ?_⟩, by simp [intOf]; omega⟩
      rw [bndTo_succ, HT.out]
      exact hown'
    · obtain rfl : k = l.length := by omega
      have hz := hB.lt
      have p3 := hB.p3
      have p4 := hB.p4
      go_wp2_with (at_builtin; (refine wpList_append_own _ rfl _ _ 207 rfl (w.heap.size + 1) 210 i0 .nilIface 1 16 Tryz.underlying207 hi hz0 hz1 hz2 rfl (by decide) _ _ _ rfl (hown.alloc _) ⟨wr.heap.size, 0, none⟩ 1 1 [.iface 235 (.agg #[.int .i64 fr, .int .i64 b])] rfl rfl (cell_one_new _ _ _) (by simp [Value.oneCell']) (by unfold maxLen; omega) (by omega) (by simp; omega) ?_); intro v' w1 hown' hgrow _)
      have hbel : Below (w.heap.size + 1) wr w1 := ((Below.refl (w.heap.size + 1) wr).alloc (by omega) _).grown hgrow (by simp; omega) (owns_from hown)
      go_ret
      exact ⟨_, rfl, owns_mono hown' (by omega), (hB.keep hbel).old⟩
end Go.Proofs.YtgjleeamhkolhaaGreatDoor

namespace Go.Proofs.YtgjleeamhkolhaaGreatDoor
open Go.RowKit

theorem method_step (nm : String) (h : Tryz.prog.underlying 209 = some (.interface #[(nm, 212)])) (t : Stp) (w : World) : (method 395 98 t.val nm).run Tryz.prog w = .ok (217, t.val) w := by
  rw [Tryz.underlying209] at h
  simp only [Option.some.injEq, TypeDesc.interface.injEq, Array.mk.injEq, List.cons.injEq, Prod.mk.injEq, and_true] at h
  subst h
  kernel_rfl
theorem method_end (nm : String) (h : Tryz.prog.underlying 209 = some (.interface #[(nm, 212)])) (fr b : Int) (w : World) : (method 395 235 (.agg #[.int .i64 fr, .int .i64 b]) nm).run Tryz.prog w = .ok (236, .agg #[.int .i64 fr, .int .i64 b]) w := by
  rw [Tryz.underlying209] at h
  simp only [Option.some.injEq, TypeDesc.interface.injEq, Array.mk.injEq, List.cons.injEq, Prod.mk.injEq, and_true] at h
  subst h
  kernel_rfl
end Go.Proofs.YtgjleeamhkolhaaGreatDoor

namespace Go.Proofs.YtgjleeamhkolhaaGreatDoor
open Go.RowKit

def winL (fr b : Int) (l : List Stp) (k : Nat) : List (Int × Int) := (List.range k).map fun i => (lowB fr l i, highB b l i)
theorem winL_succ (fr b : Int) (l : List Stp) (k : Nat) : winL fr b l (k + 1) = winL fr b l k ++ [(lowB fr l k, highB b l k)] := by simp [winL, List.range_succ]

theorem span_info2 : (Tryz.prog.info? 152).map (fun i => (i.zero, i.size, i.bytes)) = some (some (.agg #[.int .i64 0, .int .i64 0]), 2, 16) := by kernel_rfl

set_option maxRecDepth 20000 in
set_option maxHeartbeats 2000000 in
theorem winds_any (q s fr b : Int) (a : Option Addr) (b0 o cap : Nat) (l : List Stp) (w : World) (hl : l.length ≤ 1048576) (hs : StepsAt w a b0 o l) :
    Calls Tryz.prog 122 #[.agg #[.int .i64 q, .int .i64 s, .slice a l.length cap, .int .i64 fr, .int .i64 b]] w
      fun e w' => ∃ v, e = .returned v ∧ w'.ownsRow w.heap.size 152 2 v (l.length + 1) (spanCells (winL fr b l (l.length + 1))) ∧ Below w.heap.size w w' := by
  obtain ⟨i0, hi, hz0, hz1, hz2⟩ := info_parts span_info2
  go_enter Tryz.func122, Tryz.ntmps122
  go_wp2_with fail
  refine (bounds_any _ _ _ _ _ b0 o _ _ _ hl (hs.alloc _)).mono ?_
  rintro e w1 ⟨v, rfl, hown, hb1⟩
  have hB1 := (BoxP.new w q s fr b (.slice a l.length cap) 38).below hb1
  obtain ⟨g, vcap, rfl, _, hg⟩ := owns_some hown (by omega)
  have HX : Hid (∀ j, j < l.length + 1 → w1.cell? ⟨g, j, none⟩ = (bndTo l l.length ++ [Value.iface 235 (.agg #[.int .i64 fr, .int .i64 b])])[j]?) := fun j hj => hown.cellAt j (by omega)
  clear hown hb1
  go_wp2
  go_loopw [3, 11] (fun v u wr => ∃ k : Nat, k ≤ l.length + 1 ∧ u = .int .i64 k ∧ Below w1.heap.size w1 wr ∧ wr.ownsRow w1.heap.size 152 2 v k (spanCells (winL fr b l k))) (fun _ u _ => l.length + 1 - (intOf u).toNat)
  case atStart => exact ⟨0, Nat.zero_le _, rfl, Below.refl _ _, World.ownsRow_nil _ _ _ _⟩
  case round =>
    obtain ⟨k, hk, rfl, hb, hown⟩ := hrel
    by_cases hlt : k < l.length + 1
    · have hcell : wr.cell? ⟨g, k, none⟩ = _ := (hb.cell (p := ⟨g, k, none⟩) hg).trans (HX.out k hlt)
      have hz := hb.size
      by_cases hkl : k < l.length
      · have e1 : (bndTo l l.length ++ [Value.iface 235 (.agg #[.int .i64 fr, .int .i64 b])])[k]? = some (stepV (l.getD k .zero)) := by
          rw [List.getElem?_append_left (by rw [bndTo_length]; exact hkl)]
          simp [bndTo, hkl]
        rw [e1] at hcell
        obtain ⟨t, ht⟩ : ∃ t, l.getD k .zero = t := ⟨_, rfl⟩
        rw [ht] at hcell
        clear e1
        have hm := method_step _ Tryz.underlying209 t
        have HE : Hid (winL fr b l (k + 1) = winL fr b l k ++ [(t.fr, t.by_)]) := by show _ = _; rw [winL_succ]; unfold lowB highB; rw [if_pos hkl, if_pos hkl, ht]
        clear ht
        go_wp2_with (first
          | (go_at_call 217; refine (windowS_any _ _ _ _ _ _ _ _).mono ?_; rintro e w2 ⟨rfl, hb2⟩)
          | (at_builtin; (refine wpList_append_own _ rfl _ _ 119 rfl w1.heap.size 152 i0 (.agg #[.int .i64 0, .int .i64 0]) 2 16 Tryz.underlying119 hi hz0 hz1 hz2 rfl (by decide) _ _ _ rfl ((owns_below hown hb2).alloc _) ⟨w2.heap.size, 0, none⟩ 1 1 [.int .i64 t.fr, .int .i64 t.by_] rfl rfl (two_new _ _ _ _) (by simp [Value.oneCell']) (by unfold maxLen; omega) (by omega) (by have := hb2.size; simp; omega) ?_); intro v' w3 hown' hgrow _))
        have hbel : Below w1.heap.size wr w3 := ((hb2.mono hz).alloc (by have := hb2.size; omega) _).grown hgrow (by have := hb2.size; simp; omega) (owns_base hown)
        go_roundw
        case rel =>
          refine ⟨k + 1, by omega, by go_num, hb.trans hbel, ?_⟩
          rw [HE.out, spanCells_snoc]
          exact hown'
        case measure => simp [intOf]; omega
      · have e1 : (bndTo l l.length ++ [Value.iface 235 (.agg #[.int .i64 fr, .int .i64 b])])[k]? = some (Value.iface 235 (.agg #[.int .i64 fr, .int .i64 b])) := by
          rw [List.getElem?_append_right (by rw [bndTo_length]; omega), bndTo_length, show k - l.length = 0 by omega]
          rfl
        rw [e1] at hcell
        clear e1
        have hm := method_end _ Tryz.underlying209 fr b
        have HE : Hid (winL fr b l (k + 1) = winL fr b l k ++ [(fr, b)]) := by show _ = _; rw [winL_succ]; unfold lowB highB; rw [if_neg hkl, if_neg hkl]
        go_wp2_with (first
          | (go_at_call 236; refine (windowE_any _ _ _).mono ?_; rintro e w2 ⟨rfl, hb2⟩)
          | (at_builtin; (refine wpList_append_own _ rfl _ _ 119 rfl w1.heap.size 152 i0 (.agg #[.int .i64 0, .int .i64 0]) 2 16 Tryz.underlying119 hi hz0 hz1 hz2 rfl (by decide) _ _ _ rfl ((owns_below hown hb2).alloc _) ⟨w2.heap.size, 0, none⟩ 1 1 [.int .i64 fr, .int .i64 b] rfl rfl (two_new _ _ _ _) (by simp [Value.oneCell']) (by unfold maxLen; omega) (by omega) (by have := hb2.size; simp; omega) ?_); intro v' w3 hown' hgrow _))
        have hbel : Below w1.heap.size wr w3 := ((hb2.mono hz).alloc (by have := hb2.size; omega) _).grown hgrow (by have := hb2.size; simp; omega) (owns_base hown)
        go_roundw
        case rel =>
          refine ⟨k + 1, by omega, by go_num, hb.trans hbel, ?_⟩
          rw [HE.out, spanCells_snoc]
          exact hown'
        case measure => simp [intOf]; omega
    · obtain rfl : k = l.length + 1 := by omega
      have hz := hB1.old.size
      go_wp2
      go_ret
      exact ⟨_, rfl, ⟨hown.1, hown.2.imp id fun ⟨g, cap, cur, h1, h2, h3⟩ => ⟨g, cap, cur, h1, by omega, h3⟩⟩, hB1.old.trans (hb.mono hB1.old.size)⟩
end Go.Proofs.YtgjleeamhkolhaaGreatDoor

namespace Go.Proofs.YtgjleeamhkolhaaGreatDoor
open Go.RowKit Go.Shelf
attribute [local go_sem] Oper.semAt_some

abbrev El (l : List Stp) : Type := { x : Nat × Stp // l[x.1]? = some x.2 }
def allE (l : List Stp) : Nat → List (El l)
  | 0 => []
  | k + 1 => allE l k ++ (match h : l[k]? with | some t => [⟨(k, t), h⟩] | none => [])
theorem allE_succ {l : List Stp} {k : Nat} {t : Stp} (h : l[k]? = some t) : allE l (k + 1) = allE l k ++ [⟨(k, t), h⟩] := by
  show allE l k ++ (match h : l[k]? with | some t => [⟨(k, t), h⟩] | none => []) = _
  congr 1
  split
  · rename_i u hu
    rw [h] at hu
    cases hu
    rfl
  · rename_i hu
    rw [h] at hu
    cases hu
theorem allE_length (l : List Stp) : ∀ k, k ≤ l.length → (allE l k).length = k
  | 0, _ => rfl
  | k + 1, hk => by
    rw [allE_succ (t := l[k]) (List.getElem?_eq_getElem (by omega)), List.length_append, allE_length l k (by omega)]; rfl
def backE (l : List Stp) : Nat → List (El l)
  | 0 => []
  | k + 1 => backE l k ++ (match h : l[l.length - 1 - k]? with | some t => [⟨(l.length - 1 - k, t), h⟩] | none => [])
theorem backE_succ {l : List Stp} {k m : Nat} {t : Stp} (hm : l.length - 1 - k = m) (h : l[m]? = some t) : backE l (k + 1) = backE l k ++ [⟨(m, t), h⟩] := by
  subst hm
  show backE l k ++ (match h : l[l.length - 1 - k]? with | some t => [⟨(l.length - 1 - k, t), h⟩] | none => []) = _
  congr 1
  split
  · rename_i u hu
    rw [h] at hu
    cases hu
    rfl
  · rename_i hu
    rw [h] at hu
    cases hu
theorem backE_length (l : List Stp) : ∀ k, k ≤ l.length → (backE l k).length = k
  | 0, _ => rfl
  | k + 1, hk => by
    rw [backE_succ (t := l[l.length - 1 - k]) rfl (List.getElem?_eq_getElem (by omega)), List.length_append, backE_length l k (by omega)]; rfl

structure KeepX (n₀ g : Nat) (A B : World) : Prop where
  size : A.heap.size ≤ B.heap.size
  block : ∀ i, i < n₀ → i ≠ g → B.heap[i]? = A.heap[i]?
theorem KeepX.refl (n₀ g : Nat) (A : World) : KeepX n₀ g A A := ⟨Nat.le_refl _, fun _ _ _ => rfl⟩
theorem KeepX.trans {n₀ g : Nat} {A B C : World} (h : KeepX n₀ g A B) (k : KeepX n₀ g B C) : KeepX n₀ g A C := ⟨Nat.le_trans h.size k.size, fun i hi hg => (k.block i hi hg).trans (h.block i hi hg)⟩
theorem KeepX.cell {n₀ g : Nat} {A B : World} (h : KeepX n₀ g A B) {p : Addr} (hp : p.block < n₀) (hg : p.block ≠ g) : B.cell? p = A.cell? p := World.cell?_of_block (h.block p.block hp hg)
theorem KeepX.putObj {n₀ g : Nat} {w : World} (hn : n₀ ≤ w.heap.size) (W : World) (l : Nat) (o o' : Obj) (hl : w.heap.size ≤ l) (_ : W.heap[l]? = some o) (_ : o.isCells = false) (_ : o.isWalk = false) : KeepX n₀ g W (W.putObj l o') :=
  ⟨by simp, fun i hi _ => World.putObj_heap_other (by omega)⟩
theorem StepsAt.keepX {w w' : World} {a : Option Addr} {b o n₀ g : Nat} {l : List Stp} (h : StepsAt w a b o l) (hb : KeepX n₀ g w w') (hB : l ≠ [] → b < n₀ ∧ b ≠ g) : StepsAt w' a b o l where
  here := h.here
  lt hl := Nat.lt_of_lt_of_le (h.lt hl) hb.size
  cell i s hi j v hv := by
    have hne : l ≠ [] := by intro e; subst e; simp at hi
    rw [hb.cell (p := ⟨b, o + i * 7 + j, none⟩) (hB hne).1 (hB hne).2]
    exact h.cell i s hi j v hv

abbrev encA {l : List Stp} (x : El l) : Array Value := #[.int .i64 (x.1.1 : Int), x.1.2.val]

set_option maxRecDepth 100000 in
set_option maxHeartbeats 2000000 in
theorem all1_in (n : Nat) (hn : 1 ≤ n) (lp Bs n₀ b0 o cap : Nat) (a : Option Addr) (l : List Stp) (hl : l.length ≤ 1048576) (gr : Nat) (hBs : Bs < n₀ ∧ Bs ≠ gr) (hb0 : l ≠ [] → b0 < n₀ ∧ b0 ≠ gr) (J Jx : List (El l) → World → Prop) (hJ : ∀ s A A', J s A → A.grownBy A' none → J s A')
    (hY : ∀ pre x W, J pre W → pre.length < l.length → YieldAt Fence.wide (n - 1) Tryz.prog lp (encA x) W fun e W' =>
      (e = .returned (.bool true) ∧ J (pre ++ [x]) W' ∧ KeepX n₀ gr W W') ∨ (e = .returned (.bool false) ∧ Jx (pre ++ [x]) W'))
    (W : World) (hn₀ : n₀ ≤ W.heap.size) (hc : W.cell? ⟨Bs, 0, none⟩ = some (.slice a l.length cap)) (hs : StepsAt W a b0 o l) (h0 : J [] W) :
    CallsIn Fence.wide n Tryz.prog 147 #[.func (.yield lp) #[] #[], .pointer (some ⟨Bs, 0, none⟩)] W fun e W' => (∃ v, e = .returned v) ∧
      ((∃ ys, ys = allE l l.length ∧ J ys W') ∨ (∃ pre, (∃ k, k ≤ l.length ∧ pre = allE l k) ∧ Jx pre W')) := by
  refine callsIn_of_wp Tryz.func147 rfl trivial ?_ rfl
  simp only [Tryz.ntmps147, List.size_toArray, List.length_cons, List.length_nil, Nat.reduceAdd, Nat.reduceSub, Array.replicate_succ, Array.replicate_zero, List.push_toArray, List.append_toArray, List.nil_append, List.cons_append]
  gi_wp2
  gi_loopw [7] (fun i wr => ∃ k : Nat, k ≤ l.length ∧ i = .int .i64 (k : Int) ∧ J (allE l k) wr ∧ KeepX n₀ gr W wr) (fun i _ => l.length - (intOf i).toNat)
  case atStart => exact ⟨0, Nat.zero_le _, rfl, h0, KeepX.refl _ _ _⟩
  case round =>
    obtain ⟨k, hk, rfl, hJs, hnx⟩ := hrel
    have hcx := (hnx.cell (p := ⟨Bs, 0, none⟩) hBs.1 hBs.2).trans hc
    by_cases hlt : k < l.length
    · obtain ⟨t, htk⟩ : ∃ t, l[k]? = some t := ⟨l[k], List.getElem?_eq_getElem hlt⟩
      have hne : l ≠ [] := by intro e; subst e; simp at hlt
      obtain rfl := hs.here hne
      have hs' := hs.keepX hnx hb0
      obtain ⟨d0, d1, d2, d3, d4, d5, d6⟩ := hs'.seven htk
      have HP : Hid (allE l (k + 1) = allE l k ++ [⟨(k, t), htk⟩]) := allE_succ htk
      have hga : wr.grownBy (wr.alloc (.cells #[.int .i64 t.x, .int .i64 t.y, .int .i64 t.lo, .int .i64 t.hi, .int .i64 t.fr, .int .i64 t.by_, .bool t.ho] 98)) none :=
        ⟨rfl, rfl, rfl, by simp, fun j hj _ => Below.heap_alloc wr _ j hj⟩
      have hba : KeepX n₀ gr W (wr.alloc (.cells #[.int .i64 t.x, .int .i64 t.y, .int .i64 t.lo, .int .i64 t.hi, .int .i64 t.fr, .int .i64 t.by_, .bool t.ho] 98)) := hnx.trans ⟨by simp, fun i hi _ => Below.heap_alloc wr _ i (by have := hnx.size; omega)⟩
      obtain ⟨fn, tmps, assign, body, hy, hR⟩ := hY _ ⟨(k, t), htk⟩ _ (hJ _ _ _ hJs hga) (by rw [allE_length l k hk]; omega)
      dsimp only [encA] at hy
      have hR' := hR.mono (R' := fun e W' => ∃ bb : Bool, e = .returned (.bool bb) ∧ ((bb = true ∧ J (allE l k ++ [⟨(k, t), htk⟩]) W' ∧ KeepX n₀ gr (wr.alloc (.cells #[.int .i64 t.x, .int .i64 t.y, .int .i64 t.lo, .int .i64 t.hi, .int .i64 t.fr, .int .i64 t.by_, .bool t.ho] 98)) W') ∨ (bb = false ∧ Jx (allE l k ++ [⟨(k, t), htk⟩]) W'))) (by
        rintro e W' (⟨h1, h2, h3⟩ | ⟨h1, h2⟩)
        · exact ⟨true, h1, .inl ⟨rfl, h2, h3⟩⟩
        · exact ⟨false, h1, .inr ⟨rfl, h2⟩⟩)
      clear hs' hY hR
      have k0 : (0 : Int) ≤ (k : Int) := by omega
      have k1 : (k : Int) < (l.length : Int) := by omega
      gi_wp2_with (refine hR'.mono ?_; rintro e W3 ⟨bb, rfl, hor⟩)
      all_goals rename_i hbb
      · refine bodyPost_ret (results_none rfl _ _ _) rfl ?_
        rcases hor with ⟨rfl, hJ3, hk3⟩ | ⟨rfl, hJx3⟩
        · cases hbb
        · exact ⟨⟨_, rfl⟩, .inr ⟨_, ⟨k + 1, by omega, HP.out.symm⟩, hJx3⟩⟩
      · rcases hor with ⟨rfl, hJ3, hk3⟩ | ⟨rfl, hJx3⟩
        · exact ⟨⟨k + 1, by omega, by go_num, by rw [HP.out]; exact hJ3, hba.trans hk3⟩, by simp [intOf]; omega⟩
        · cases hbb
    · obtain rfl : k = l.length := by omega
      gi_wp2
      go_end0
      exact ⟨⟨_, rfl⟩, .inl ⟨_, rfl, hJs⟩⟩
set_option maxRecDepth 100000 in
set_option maxHeartbeats 2000000 in
theorem back1_in (n : Nat) (hn : 1 ≤ n) (lp Bs n₀ b0 o cap : Nat) (a : Option Addr) (l : List Stp) (hl : l.length ≤ 1048576) (gr : Nat) (hBs : Bs < n₀ ∧ Bs ≠ gr) (hb0 : l ≠ [] → b0 < n₀ ∧ b0 ≠ gr) (J Jx : List (El l) → World → Prop)
    (hY : ∀ pre x W, J pre W → pre.length < l.length → YieldAt Fence.wide (n - 1) Tryz.prog lp (encA x) W fun e W' =>
      (e = .returned (.bool true) ∧ J (pre ++ [x]) W' ∧ KeepX n₀ gr W W') ∨ (e = .returned (.bool false) ∧ Jx (pre ++ [x]) W'))
    (W : World) (hc : W.cell? ⟨Bs, 0, none⟩ = some (.slice a l.length cap)) (hs : StepsAt W a b0 o l) (h0 : J [] W) :
    CallsIn Fence.wide n Tryz.prog 149 #[.func (.yield lp) #[] #[], .pointer (some ⟨Bs, 0, none⟩)] W fun e W' => (∃ v, e = .returned v) ∧
      ((∃ ys, ys = backE l l.length ∧ J ys W') ∨ (∃ pre, (∃ k, k ≤ l.length ∧ pre = backE l k) ∧ Jx pre W')) := by
  refine callsIn_of_wp Tryz.func149 rfl trivial ?_ rfl
  simp only [Tryz.ntmps149, List.size_toArray, List.length_cons, List.length_nil, Nat.reduceAdd, Nat.reduceSub, Array.replicate_succ, Array.replicate_zero, List.push_toArray, List.append_toArray, List.nil_append, List.cons_append]
  gi_wp2
  gi_loopw [3] (fun i wr => ∃ k : Nat, k ≤ l.length ∧ i = .int .i64 (((l.length - k : Nat) : Int) - 1) ∧ J (backE l k) wr ∧ KeepX n₀ gr W wr) (fun i _ => (intOf i + 1).toNat)
  case atStart => exact ⟨0, Nat.zero_le _, by rw [Nat.sub_zero], h0, KeepX.refl _ _ _⟩
  case round =>
    obtain ⟨k, hk, rfl, hJs, hnx⟩ := hrel
    have hcx := (hnx.cell (p := ⟨Bs, 0, none⟩) hBs.1 hBs.2).trans hc
    by_cases hlt : k < l.length
    · obtain ⟨t, htk⟩ : ∃ t, l[l.length - 1 - k]? = some t := ⟨l[l.length - 1 - k], List.getElem?_eq_getElem (by omega)⟩
      have hne : l ≠ [] := by intro e; subst e; simp at hlt
      obtain rfl := hs.here hne
      have hs' := hs.keepX hnx hb0
      obtain ⟨m, hm, hm2⟩ : ∃ m, l.length - 1 - k = m ∧ l.length - k = m + 1 := ⟨l.length - 1 - k, rfl, by omega⟩
      rw [hm] at htk
      have e0 : ((l.length - k : Nat) : Int) - 1 = (m : Int) := by omega
      rw [e0]
      obtain ⟨d0, d1, d2, d3, d4, d5, d6⟩ := hs'.seven htk
      have HP : Hid (backE l (k + 1) = backE l k ++ [⟨(m, t), htk⟩]) := backE_succ hm htk
      obtain ⟨fn, tmps, assign, body, hy, hR⟩ := hY _ ⟨(m, t), htk⟩ wr hJs (by rw [backE_length l k hk]; omega)
      dsimp only [encA] at hy
      have hR' := hR.mono (R' := fun e W' => ∃ bb : Bool, e = .returned (.bool bb) ∧ ((bb = true ∧ J (backE l k ++ [⟨(m, t), htk⟩]) W' ∧ KeepX n₀ gr wr W') ∨ (bb = false ∧ Jx (backE l k ++ [⟨(m, t), htk⟩]) W'))) (by
        rintro e W' (⟨h1, h2, h3⟩ | ⟨h1, h2⟩)
        · exact ⟨true, h1, .inl ⟨rfl, h2, h3⟩⟩
        · exact ⟨false, h1, .inr ⟨rfl, h2⟩⟩)
      clear hs' hY hR
      have k0 : (0 : Int) ≤ (m : Int) := by omega
      have k1 : (m : Int) < (l.length : Int) := by omega
      gi_wp2_with (refine hR'.mono ?_; rintro e W3 ⟨bb, rfl, hor⟩)
      all_goals rename_i hbb
      · refine bodyPost_ret (results_none rfl _ _ _) rfl ?_
        rcases hor with ⟨rfl, hJ3, hk3⟩ | ⟨rfl, hJx3⟩
        · cases hbb
        · exact ⟨⟨_, rfl⟩, .inr ⟨_, ⟨k + 1, by omega, HP.out.symm⟩, hJx3⟩⟩
      · rcases hor with ⟨rfl, hJ3, hk3⟩ | ⟨rfl, hJx3⟩
        · exact ⟨⟨k + 1, by omega, by rw [show l.length - (k + 1) = m by omega], by rw [HP.out]; exact hJ3, hnx.trans hk3⟩, by simp [intOf]⟩
        · cases hbb
    · obtain rfl : k = l.length := by omega
      rw [Nat.sub_self]
      gi_wp2
      go_end0
      exact ⟨⟨_, rfl⟩, .inl ⟨_, rfl, hJs⟩⟩

theorem all_any (a : Option Addr) (len cap : Nat) (w : World) :
    Calls Tryz.prog 124 #[.slice a len cap] w fun e w' => e = .returned (.func (.func 147) #[] #[.pointer (some ⟨w.heap.size, 0, none⟩)]) ∧ w' = w.alloc (.cells #[.slice a len cap] 36) := by
  go_enter Tryz.func124, Tryz.ntmps124
  go_wp2
  go_ret
  exact ⟨rfl, rfl⟩
theorem backw_any (a : Option Addr) (len cap : Nat) (w : World) :
    Calls Tryz.prog 126 #[.slice a len cap] w fun e w' => e = .returned (.func (.func 149) #[] #[.pointer (some ⟨w.heap.size, 0, none⟩)]) ∧ w' = w.alloc (.cells #[.slice a len cap] 36) := by
  go_enter Tryz.func126, Tryz.ntmps126
  go_wp2
  go_ret
  exact ⟨rfl, rfl⟩

theorem all_stops (n : Nat) (hn : 1 ≤ n) (Bs n₀ b0 o cap gr : Nat) (a : Option Addr) (l : List Stp) (hl : l.length ≤ 1048576) (w : World) (hBs : Bs < n₀ ∧ Bs ≠ gr) (hn₀ : n₀ ≤ w.heap.size)
    (hc : w.cell? ⟨Bs, 0, none⟩ = some (.slice a l.length cap)) (hs : StepsAt w a b0 o l) (hb0 : l ≠ [] → b0 < n₀ ∧ b0 ≠ gr) :
    SeqStopsK Fence.wide n Tryz.prog 147 #[.pointer (some ⟨Bs, 0, none⟩)] encA (KeepX n₀ gr) (fun ys => ys = allE l l.length) (fun pre => ∃ k, k ≤ l.length ∧ pre = allE l k) l.length w := fun lp J Jx W hW hJ _ hY h0 =>
  all1_in n hn lp Bs n₀ b0 o cap a l hl gr hBs hb0 J Jx (fun s A A' h hg => hJ s A A' none h hg (fun r e => by cases e)) hY W (Nat.le_trans hn₀ hW.size)
    ((hW.cell (p := ⟨Bs, 0, none⟩) (Nat.lt_of_lt_of_le hBs.1 hn₀)).trans hc) (hs.below hW (fun h => Nat.lt_of_lt_of_le (hb0 h).1 hn₀)) h0
theorem back_stops (n : Nat) (hn : 1 ≤ n) (Bs n₀ b0 o cap gr : Nat) (a : Option Addr) (l : List Stp) (hl : l.length ≤ 1048576) (w : World) (hBs : Bs < n₀ ∧ Bs ≠ gr) (hn₀ : n₀ ≤ w.heap.size)
    (hc : w.cell? ⟨Bs, 0, none⟩ = some (.slice a l.length cap)) (hs : StepsAt w a b0 o l) (hb0 : l ≠ [] → b0 < n₀ ∧ b0 ≠ gr) :
    SeqStopsK Fence.wide n Tryz.prog 149 #[.pointer (some ⟨Bs, 0, none⟩)] encA (KeepX n₀ gr) (fun ys => ys = backE l l.length) (fun pre => ∃ k, k ≤ l.length ∧ pre = backE l k) l.length w := fun lp J Jx W hW _ _ hY h0 =>
  back1_in n hn lp Bs n₀ b0 o cap a l hl gr hBs hb0 J Jx hY W
    ((hW.cell (p := ⟨Bs, 0, none⟩) (Nat.lt_of_lt_of_le hBs.1 hn₀)).trans hc) (hs.below hW (fun h => Nat.lt_of_lt_of_le (hb0 h).1 hn₀)) h0
end Go.Proofs.YtgjleeamhkolhaaGreatDoor

namespace Go.Proofs.YtgjleeamhkolhaaGreatDoor
open Go.RowKit

def tightB (d : Bool) (q mo : Int) (e lf : Int × Int) : (Int × Int) × (Int × Int) :=
  if d then (e, (mxB lf.1 (e.1 + q), mnB lf.2 (e.2 + mo))) else ((mxB e.1 (lf.1 - mo), mnB e.2 (lf.2 - q)), lf)
def stayMost (s : Int) (t : Stp) : Int := if t.ho then 10000 else s
def tightR (d : Bool) (q s : Int) (r : List (Int × Int)) (x : Nat × Stp) : (Int × Int) × (Int × Int) := tightB d q (stayMost s x.2) (r.getD x.1 (0, 0)) (r.getD (x.1 + 1) (0, 0))
def rowStep (d : Bool) (q s : Int) (r : List (Int × Int)) (x : Nat × Stp) : List (Int × Int) := (r.set x.1 (tightR d q s r x).1).set (x.1 + 1) (tightR d q s r x).2
def okStep (d : Bool) (q s : Int) (r : List (Int × Int)) (x : Nat × Stp) : Bool := someB (tightR d q s r x).1 && someB (tightR d q s r x).2
def foldW (d : Bool) (q s : Int) {l : List Stp} (r : List (Int × Int)) (pre : List (El l)) : List (Int × Int) × Bool := pre.foldl (fun a x => (rowStep d q s a.1 x.1, a.2 && okStep d q s a.1 x.1)) (r, true)

theorem foldW_snoc (d : Bool) (q s : Int) {l : List Stp} (r : List (Int × Int)) (pre : List (El l)) (x : El l) :
    foldW d q s r (pre ++ [x]) = (rowStep d q s (foldW d q s r pre).1 x.1, (foldW d q s r pre).2 && okStep d q s (foldW d q s r pre).1 x.1) := by
  simp [foldW, List.foldl_append]
theorem fold_off (d : Bool) (q s : Int) {l : List Stp} : ∀ (post : List (El l)) (a : List (Int × Int) × Bool), a.2 = false → (post.foldl (fun a x => (rowStep d q s a.1 x.1, a.2 && okStep d q s a.1 x.1)) a).2 = false
  | [], _, h => h
  | x :: r, a, h => fold_off d q s r _ (by show (a.2 && _) = false; rw [h]; rfl)
theorem foldW_off (d : Bool) (q s : Int) {l : List Stp} (r : List (Int × Int)) (pre post : List (El l)) (h : (foldW d q s r pre).2 = false) : (foldW d q s r (pre ++ post)).2 = false := by
  unfold foldW
  rw [List.foldl_append]
  exact fold_off d q s post _ h

structure GoodRow (n : Nat) (r : List (Int × Int)) : Prop where
  len : r.length = n + 1
  at_ : ∀ (i : Nat) (x : Int × Int), r[i]? = some x → 0 ≤ x.1 ∧ x.1 ≤ x.2 ∧ x.2 ≤ 10000
theorem GoodRow.getD {n : Nat} {r : List (Int × Int)} (h : GoodRow n r) {i : Nat} (hi : i ≤ n) : r[i]? = some (r.getD i (0, 0)) := by
  rw [List.getD_eq_getElem?_getD, List.getElem?_eq_getElem (by rw [h.len]; omega)]; rfl
theorem GoodRow.tight {n : Nat} {r : List (Int × Int)} (h : GoodRow n r) {d : Bool} {q s : Int} {x : Nat × Stp} (hx : x.1 < n) (hok : okStep d q s r x = true) :
    (0 ≤ (tightR d q s r x).1.1 ∧ (tightR d q s r x).1.1 ≤ (tightR d q s r x).1.2 ∧ (tightR d q s r x).1.2 ≤ 10000) ∧ (0 ≤ (tightR d q s r x).2.1 ∧ (tightR d q s r x).2.1 ≤ (tightR d q s r x).2.2 ∧ (tightR d q s r x).2.2 ≤ 10000) := by
  have h1 := h.at_ _ _ (h.getD (show x.1 ≤ n by omega))
  have h2 := h.at_ _ _ (h.getD (show x.1 + 1 ≤ n by omega))
  unfold okStep at hok
  simp only [someB, Bool.and_eq_true, decide_eq_true_eq] at hok
  unfold tightR tightB at *
  cases d with
  | true =>
    simp only [if_true] at *
    have m1 := mxB_le (r.getD (x.1 + 1) (0, 0)).1 ((r.getD x.1 (0, 0)).1 + q)
    have m2 := mnB_le (r.getD (x.1 + 1) (0, 0)).2 ((r.getD x.1 (0, 0)).2 + stayMost s x.2)
    omega
  | false =>
    simp only [Bool.false_eq_true, if_false] at *
    have m1 := mxB_le (r.getD x.1 (0, 0)).1 ((r.getD (x.1 + 1) (0, 0)).1 - stayMost s x.2)
    have m2 := mnB_le (r.getD x.1 (0, 0)).2 ((r.getD (x.1 + 1) (0, 0)).2 - q)
    omega
theorem GoodRow.step {n : Nat} {r : List (Int × Int)} (h : GoodRow n r) {d : Bool} {q s : Int} {x : Nat × Stp} (hx : x.1 < n) (hok : okStep d q s r x = true) : GoodRow n (rowStep d q s r x) where
  len := by unfold rowStep; rw [List.length_set, List.length_set]; exact h.len
  at_ i y hy := by
    obtain ⟨t1, t2⟩ := h.tight hx hok
    unfold rowStep at hy
    by_cases e2 : x.1 + 1 = i
    · subst e2
      rw [List.getElem?_set_self (by rw [List.length_set, h.len]; omega)] at hy
      cases hy
      exact t2
    · rw [List.getElem?_set_ne e2] at hy
      by_cases e1 : x.1 = i
      · subst e1
        rw [List.getElem?_set_self (by rw [h.len]; omega)] at hy
        cases hy
        exact t1
      · rw [List.getElem?_set_ne e1] at hy
        exact h.at_ i y hy

def mixL (q s fr b : Int) (l : List Stp) (k : Nat) : List (Int × Int) := (List.range (l.length + 1)).map fun i => if i ≤ k then fwdS q s fr b l i else (lowB fr l i, highB b l i)
theorem mixL_length (q s fr b : Int) (l : List Stp) (k : Nat) : (mixL q s fr b l k).length = l.length + 1 := by simp [mixL]
theorem mixL_get (q s fr b : Int) (l : List Stp) (k i : Nat) (h : i < l.length + 1) : (mixL q s fr b l k)[i]? = some (if i ≤ k then fwdS q s fr b l i else (lowB fr l i, highB b l i)) := by simp [mixL, h]
theorem mixL_zero (q s fr b : Int) (l : List Stp) : mixL q s fr b l 0 = winL fr b l (l.length + 1) := by
  unfold mixL winL
  apply List.map_congr_left
  intro i _
  by_cases h : i ≤ 0
  · have e : i = 0 := by omega
    subst e
    rfl
  · rw [if_neg h]
theorem mixL_all (q s fr b : Int) (l : List Stp) : mixL q s fr b l l.length = fwdL q s fr b l (l.length + 1) := by
  unfold mixL fwdL
  apply List.map_congr_left
  intro i hi
  rw [if_pos (by have := List.mem_range.1 hi; omega)]
theorem getD_of {r : List (Int × Int)} {i : Nat} {x : Int × Int} (h : r[i]? = some x) : r.getD i (0, 0) = x := by rw [List.getD_eq_getElem?_getD, h]; rfl
theorem stayMost_at {s : Int} {l : List Stp} {k : Nat} {t : Stp} (h : l[k]? = some t) : stayMost s t = mostB s l k := by
  unfold stayMost mostB; rw [show l.getD k .zero = t by rw [List.getD_eq_getElem?_getD, h]; rfl]

theorem mixL_tight {q s fr b : Int} {l : List Stp} {k : Nat} {t : Stp} (h : l[k]? = some t) : tightR true q s (mixL q s fr b l k) (k, t) = (fwdS q s fr b l k, fwdS q s fr b l (k + 1)) := by
  have hk : k < l.length := (List.getElem?_eq_some_iff.1 h).1
  have e1 := getD_of (mixL_get q s fr b l k k (by omega))
  have e2 := getD_of (mixL_get q s fr b l k (k + 1) (by omega))
  rw [if_pos (Nat.le_refl _)] at e1
  rw [if_neg (by omega)] at e2
  unfold tightR tightB
  simp only [if_true]
  rw [e1, e2, stayMost_at h]
  rfl
theorem mixL_step {q s fr b : Int} {l : List Stp} {k : Nat} {t : Stp} (h : l[k]? = some t) : rowStep true q s (mixL q s fr b l k) (k, t) = mixL q s fr b l (k + 1) := by
  have hk : k < l.length := (List.getElem?_eq_some_iff.1 h).1
  unfold rowStep
  rw [mixL_tight h]
  apply List.ext_getElem?
  intro i
  by_cases hi : i < l.length + 1
  · rw [mixL_get _ _ _ _ _ _ _ hi]
    by_cases e2 : k + 1 = i
    · subst e2
      rw [List.getElem?_set_self (by rw [List.length_set, mixL_length]; omega), if_pos (Nat.le_refl _)]
    · rw [List.getElem?_set_ne e2]
      by_cases e1 : k = i
      · subst e1
        rw [List.getElem?_set_self (by rw [mixL_length]; omega), if_pos (by omega)]
      · rw [List.getElem?_set_ne e1, mixL_get _ _ _ _ _ _ _ hi]
        by_cases h3 : i ≤ k
        · rw [if_pos h3, if_pos (by omega)]
        · rw [if_neg h3, if_neg (by omega)]
  · rw [List.getElem?_eq_none (by simp [mixL_length]; omega), List.getElem?_eq_none (by rw [mixL_length]; omega)]

theorem first_some {q s fr b : Int} {l : List Stp} (hp : pathB q s fr b l = true) (i : Nat) : 0 ≤ lowB fr l i ∧ lowB fr l i ≤ highB b l i ∧ highB b l i ≤ 10000 := by
  simp only [pathB, Bool.and_eq_true, decide_eq_true_eq] at hp
  obtain ⟨⟨⟨⟨_, _⟩, h3⟩, h4⟩, h5⟩ := hp
  have h3' := (inB_iff _ _ _).1 h3
  unfold lowB highB
  by_cases hk : i < l.length
  · rw [if_pos hk, if_pos hk]
    simp only [goodTo, List.all_eq_true, List.mem_range] at h5
    have := (Bool.and_eq_true_iff.1 (h5 i hk)).1
    simp only [stepB, decide_eq_true_eq] at this
    omega
  · rw [if_neg hk, if_neg hk]
    omega
theorem win_good {q s fr b : Int} {l : List Stp} (hp : pathB q s fr b l = true) : GoodRow l.length (winL fr b l (l.length + 1)) where
  len := by simp [winL]
  at_ i x hx := by
    simp only [winL, List.getElem?_map, Option.map_eq_some_iff] at hx
    obtain ⟨k, _, rfl⟩ := hx
    exact first_some hp k

theorem fwd_fold {q s fr b : Int} {l : List Stp} (hp : pathB q s fr b l = true) : ∀ k, k ≤ l.length →
    (foldW true q s (winL fr b l (l.length + 1)) (allE l k)).2 = fwdTo q s fr b l (k + 1) ∧ (fwdTo q s fr b l (k + 1) = true → (foldW true q s (winL fr b l (l.length + 1)) (allE l k)).1 = mixL q s fr b l k)
  | 0, _ => by
    refine ⟨?_, fun _ => by rw [mixL_zero]; rfl⟩
    have := first_some hp 0
    show true = _
    simp [fwdTo, someB, fwdS]
    exact decide_eq_true this.2.1
  | k + 1, hk => by
    obtain ⟨h1, h2⟩ := fwd_fold hp k (by omega)
    obtain ⟨t, ht⟩ : ∃ t, l[k]? = some t := ⟨l[k], List.getElem?_eq_getElem (by omega)⟩
    rw [allE_succ ht, foldW_snoc]
    cases hf : fwdTo q s fr b l (k + 1) with
    | false =>
      have e : fwdTo q s fr b l (k + 1 + 1) = false := by
        cases e : fwdTo q s fr b l (k + 1 + 1) with
        | false => rfl
        | true =>
          have : fwdTo q s fr b l (k + 1) = true := by
            simp only [fwdTo, List.all_eq_true, List.mem_range] at e ⊢
            exact fun i hi => e i (by omega)
          rw [this] at hf
          cases hf
      rw [h1, hf, e]
      exact ⟨rfl, fun h => by cases h⟩
    | true =>
      have hr := h2 hf
      have hs : someB (fwdS q s fr b l k) = true := by
        have := fwdTo_at hf (show k < k + 1 by omega)
        simpa [someB] using this
      rw [h1, hf, hr, fwdTo_succ hf]
      refine ⟨?_, fun _ => mixL_step ht⟩
      show (true && (someB (tightR true q s (mixL q s fr b l k) (k, t)).1 && someB (tightR true q s (mixL q s fr b l k) (k, t)).2)) = _
      rw [mixL_tight ht, hs]; rfl

theorem back_tight {q s fr b : Int} {l : List Stp} {k m : Nat} {t : Stp} (hk : k < l.length) (hm : l.length - (k + 1) = m) (h : l[m]? = some t) :
    tightR false q s (backL q s fr b l l.length k) (m, t) = (bwdS q s fr b l l.length (k + 1), bwdS q s fr b l l.length k) := by
  have e1 := getD_of (backL_now q s fr b l l.length k hk)
  have e2 := getD_of (backL_next q s fr b l l.length k hk)
  rw [hm] at e1 e2
  unfold tightR tightB
  simp only [Bool.false_eq_true, if_false]
  rw [e1, e2, stayMost_at h]
  simp only [bwdS]
  rw [hm]
theorem back_fold {q s fr b : Int} {l : List Stp} (hp : pathB q s fr b l = true) (hf : fwdTo q s fr b l (l.length + 1) = true) : ∀ k, k ≤ l.length →
    foldW false q s (fwdL q s fr b l (l.length + 1)) (backE l k) = (backL q s fr b l l.length k, true)
  | 0, _ => by rw [backL_zero]; rfl
  | k + 1, hk => by
    have ih := back_fold hp hf k (by omega)
    obtain ⟨m, hm⟩ : ∃ m, l.length - (k + 1) = m := ⟨_, rfl⟩
    obtain ⟨t, ht⟩ : ∃ t, l[m]? = some t := ⟨l[m], List.getElem?_eq_getElem (by omega)⟩
    rw [backE_succ (show l.length - 1 - k = m by omega) ht, foldW_snoc, ih]
    have hT := back_tight (q := q) (s := s) (fr := fr) (b := b) (show k < l.length by omega) hm ht
    have s1 := (bwd_in hp hf (k + 1) (by omega)).1
    have s2 := (bwd_in hp hf k (by omega)).1
    show (((backL q s fr b l l.length k).set m (tightR false q s (backL q s fr b l l.length k) (m, t)).1).set (m + 1) (tightR false q s (backL q s fr b l l.length k) (m, t)).2, true && (someB (tightR false q s (backL q s fr b l l.length k) (m, t)).1 && someB (tightR false q s (backL q s fr b l l.length k) (m, t)).2)) = _
    rw [hT, backL_succ q s fr b l l.length k (by omega), hm]
    have e2 := backL_next q s fr b l l.length k (by omega)
    rw [hm] at e2
    congr 1
    · apply List.ext_getElem?
      intro i
      by_cases e : m + 1 = i
      · subst e
        rw [List.getElem?_set_self (by rw [List.length_set, backL_length]; omega), List.getElem?_set_ne (by omega), e2]
      · rw [List.getElem?_set_ne e]
    · simp [someB]
      exact ⟨s1, s2⟩
theorem fwd_good {q s fr b : Int} {l : List Stp} (hp : pathB q s fr b l = true) (hf : fwdTo q s fr b l (l.length + 1) = true) : GoodRow l.length (fwdL q s fr b l (l.length + 1)) where
  len := by simp [fwdL]
  at_ i x hx := by
    simp only [fwdL, List.getElem?_map, Option.map_eq_some_iff] at hx
    obtain ⟨k, hk, rfl⟩ := hx
    have hk' : k < l.length + 1 := by
      have := List.mem_of_getElem? hk
      simpa using this
    have h1 := fwd_range hp k
    have h2 := fwdTo_at hf hk'
    omega
end Go.Proofs.YtgjleeamhkolhaaGreatDoor

namespace Go.Proofs.YtgjleeamhkolhaaGreatDoor
open Go.RowKit

theorem mx_hi {a c : Int} (h : a < c) : mxB a c = c := by unfold mxB; rw [if_neg (by omega)]
theorem mx_lo {a c : Int} (h : c ≤ a) : mxB a c = a := by unfold mxB; split <;> omega
theorem mn_hi {b d : Int} (h : d < b) : mnB b d = d := by unfold mnB; rw [if_neg (by omega)]
theorem mn_lo {b d : Int} (h : b ≤ d) : mnB b d = b := by unfold mnB; split <;> omega
theorem three_bel {w : World} (c1 c2 c3 : Obj) : Below w.heap.size w (((w.alloc c1).alloc c2).alloc c3) := (((Below.refl w.heap.size w).alloc (Nat.le_refl _) _).alloc (by simp) _).alloc (by simp; omega) _

theorem meet_any (a b c d : Int) (w : World) :
    Calls Tryz.prog 148 #[.agg #[.int .i64 a, .int .i64 b], .agg #[.int .i64 c, .int .i64 d]] w fun e w' => e = .returned (.agg #[.int .i64 (mxB a c), .int .i64 (mnB b d)]) ∧ Below w.heap.size w w' := by
  go_enter Tryz.func148, Tryz.ntmps148
  go_wp2
  all_goals rename_i h1
  · rw [mx_hi h1, mn_hi h]
    exact bodyPost_ret (v := .agg #[.int .i64 c, .int .i64 d]) (by simp [results, Tryz.results148, go_sem]) rfl ⟨rfl, three_bel _ _ _⟩
  · rw [mx_hi h1, mn_lo h]
    exact bodyPost_ret (v := .agg #[.int .i64 c, .int .i64 b]) (by simp [results, Tryz.results148, go_sem]) rfl ⟨rfl, three_bel _ _ _⟩
  · rw [mx_lo h1, mn_hi h]
    exact bodyPost_ret (v := .agg #[.int .i64 a, .int .i64 d]) (by simp [results, Tryz.results148, go_sem]) rfl ⟨rfl, three_bel _ _ _⟩
  · rw [mx_lo h1, mn_lo h]
    exact bodyPost_ret (v := .agg #[.int .i64 a, .int .i64 b]) (by simp [results, Tryz.results148, go_sem]) rfl ⟨rfl, three_bel _ _ _⟩

set_option maxHeartbeats 2000000 in
set_option maxRecDepth 20000 in
theorem tightL_any (a b c d e f : Int) (w : World) (ha : -100000 ≤ a ∧ a ≤ 100000) (hb : -100000 ≤ b ∧ b ≤ 100000) (he : -100000 ≤ e ∧ e ≤ 100000) (hf : -100000 ≤ f ∧ f ≤ 100000) :
    Calls Tryz.prog 125 #[.agg #[.int .i64 a, .int .i64 b], .agg #[.int .i64 c, .int .i64 d], .agg #[.int .i64 e, .int .i64 f]] w
      fun x w' => x = .returned (.tuple #[.agg #[.int .i64 a, .int .i64 b], .agg #[.int .i64 (mxB c (a + e)), .int .i64 (mnB d (b + f))]]) ∧ Below w.heap.size w w' := by
  obtain ⟨a0, a1⟩ := ha
  obtain ⟨b0, b1⟩ := hb
  obtain ⟨e0, e1⟩ := he
  obtain ⟨f0, f1⟩ := hf
  have w0 : IntKind.i64.wrap (a + e) = a + e := by rw [IntKind.wrap_i64]; omega
  have w2 : IntKind.i64.wrap (b + f) = b + f := by rw [IntKind.wrap_i64]; omega
  go_enter Tryz.func125, Tryz.ntmps125
  go_wp2
  go_region_held3 (fun w' => w'.cell? ⟨w.heap.size, 0, none⟩ = some (.int .i64 a) ∧ w'.cell? ⟨w.heap.size, 1, none⟩ = some (.int .i64 b) ∧ w'.cell? ⟨w.heap.size + 1, 0, none⟩ = some (.int .i64 c) ∧ w'.cell? ⟨w.heap.size + 1, 1, none⟩ = some (.int .i64 d) ∧ w'.cell? ⟨w.heap.size + 1 + 1, 0, none⟩ = some (.int .i64 e) ∧ w'.cell? ⟨w.heap.size + 1 + 1, 1, none⟩ = some (.int .i64 f))
    (simp [go_sem, *])
    (first | (go_at_call 148; refine (meet_any _ _ _ _ _).mono ?_; rintro x w1 ⟨rfl, hb1⟩; obtain ⟨hc1, hf1⟩ := old_cells hb1; have r0 : w1.cell? ⟨w.heap.size + 1 + 1 + 1, 0, none⟩ = some (.int .i64 0) := (by rw [hc1 _ _ (by simp)]; simp [go_sem]); have r1 : w1.cell? ⟨w.heap.size + 1 + 1 + 1, 1, none⟩ = some (.int .i64 0) := (by rw [hc1 _ _ (by simp)]; simp [go_sem]); have r2 : w1.cell? ⟨w.heap.size + 1 + 1 + 1 + 1, 0, none⟩ = some (.int .i64 0) := (by rw [hc1 _ _ (by simp)]; simp [go_sem]); have r3 : w1.cell? ⟨w.heap.size + 1 + 1 + 1 + 1, 1, none⟩ = some (.int .i64 0) := (by rw [hc1 _ _ (by simp)]; simp [go_sem]); have r4 : ∀ j, w1.frozen? ⟨w.heap.size + 1 + 1 + 1, j, none⟩ = false := (by intro j; rw [hf1 _ _ (by simp)]; simp [go_sem]); have r5 : ∀ j, w1.frozen? ⟨w.heap.size + 1 + 1 + 1 + 1, j, none⟩ = false := (by intro j; rw [hf1 _ _ (by simp)]; simp [go_sem])))
  have hb01 : Below w.heap.size w w1 := (((three_bel _ _ _).alloc (by simp; omega) _).alloc (by simp; omega) _).drew.trans (hb1.mono (by simp [World.drew]; omega))
  clear hb1 hc1 hf1
  go_wp2
  refine bodyPost_ret (v := .tuple #[.agg #[.int .i64 a, .int .i64 b], .agg #[.int .i64 (mxB c (a + e)), .int .i64 (mnB d (b + f))]]) (by simp [results, Tryz.results125, go_sem, *]) rfl ⟨rfl, ?_⟩
  iterate 4 (refine Below.setCell ?_ (by simp; omega) _)
  exact hb01
set_option maxHeartbeats 2000000 in
set_option maxRecDepth 20000 in
theorem tightE_any (a b c d e f : Int) (w : World) (hc : -100000 ≤ c ∧ c ≤ 100000) (hd : -100000 ≤ d ∧ d ≤ 100000) (he : -100000 ≤ e ∧ e ≤ 100000) (hf : -100000 ≤ f ∧ f ≤ 100000) :
    Calls Tryz.prog 127 #[.agg #[.int .i64 a, .int .i64 b], .agg #[.int .i64 c, .int .i64 d], .agg #[.int .i64 e, .int .i64 f]] w
      fun x w' => x = .returned (.tuple #[.agg #[.int .i64 (mxB a (c - f)), .int .i64 (mnB b (d - e))], .agg #[.int .i64 c, .int .i64 d]]) ∧ Below w.heap.size w w' := by
  obtain ⟨c0, c1⟩ := hc
  obtain ⟨d0, d1⟩ := hd
  obtain ⟨e0, e1⟩ := he
  obtain ⟨f0, f1⟩ := hf
  have w0 : IntKind.i64.wrap (c - f) = c - f := by rw [IntKind.wrap_i64]; omega
  have w2 : IntKind.i64.wrap (d - e) = d - e := by rw [IntKind.wrap_i64]; omega
  go_enter Tryz.func127, Tryz.ntmps127
  go_wp2
  go_region_held3 (fun w' => w'.cell? ⟨w.heap.size, 0, none⟩ = some (.int .i64 a) ∧ w'.cell? ⟨w.heap.size, 1, none⟩ = some (.int .i64 b) ∧ w'.cell? ⟨w.heap.size + 1, 0, none⟩ = some (.int .i64 c) ∧ w'.cell? ⟨w.heap.size + 1, 1, none⟩ = some (.int .i64 d) ∧ w'.cell? ⟨w.heap.size + 1 + 1, 0, none⟩ = some (.int .i64 e) ∧ w'.cell? ⟨w.heap.size + 1 + 1, 1, none⟩ = some (.int .i64 f))
    (simp [go_sem, *])
    (first | (go_at_call 148; refine (meet_any _ _ _ _ _).mono ?_; rintro x w1 ⟨rfl, hb1⟩; obtain ⟨hc1, hf1⟩ := old_cells hb1; have r0 : w1.cell? ⟨w.heap.size + 1 + 1 + 1, 0, none⟩ = some (.int .i64 0) := (by rw [hc1 _ _ (by simp)]; simp [go_sem]); have r1 : w1.cell? ⟨w.heap.size + 1 + 1 + 1, 1, none⟩ = some (.int .i64 0) := (by rw [hc1 _ _ (by simp)]; simp [go_sem]); have r2 : w1.cell? ⟨w.heap.size + 1 + 1 + 1 + 1, 0, none⟩ = some (.int .i64 0) := (by rw [hc1 _ _ (by simp)]; simp [go_sem]); have r3 : w1.cell? ⟨w.heap.size + 1 + 1 + 1 + 1, 1, none⟩ = some (.int .i64 0) := (by rw [hc1 _ _ (by simp)]; simp [go_sem]); have r4 : ∀ j, w1.frozen? ⟨w.heap.size + 1 + 1 + 1, j, none⟩ = false := (by intro j; rw [hf1 _ _ (by simp)]; simp [go_sem]); have r5 : ∀ j, w1.frozen? ⟨w.heap.size + 1 + 1 + 1 + 1, j, none⟩ = false := (by intro j; rw [hf1 _ _ (by simp)]; simp [go_sem])))
  have hb01 : Below w.heap.size w w1 := (((three_bel _ _ _).alloc (by simp; omega) _).alloc (by simp; omega) _).drew.trans (hb1.mono (by simp [World.drew]; omega))
  clear hb1 hc1 hf1
  go_wp2
  refine bodyPost_ret (v := .tuple #[.agg #[.int .i64 (mxB a (c - f)), .int .i64 (mnB b (d - e))], .agg #[.int .i64 c, .int .i64 d]]) (by simp [results, Tryz.results127, go_sem, *]) rfl ⟨rfl, ?_⟩
  iterate 4 (refine Below.setCell ?_ (by simp; omega) _)
  exact hb01
theorem spanNo_any (a b : Int) (w : World) :
    Calls Tryz.prog 146 #[.agg #[.int .i64 a, .int .i64 b]] w fun e w' => e = .returned (.bool (decide (b < a))) ∧ Below w.heap.size w w' := by
  go_enter Tryz.func146, Tryz.ntmps146
  go_wp2
  go_ret
  exact ⟨rfl, (Below.refl _ _).alloc (Nat.le_refl _) _⟩
theorem spanNo_val (a b : Int) (v : Bool) (w : World) (hv : decide (b < a) = v) :
    Calls Tryz.prog 146 #[.agg #[.int .i64 a, .int .i64 b]] w fun e w' => e = .returned (.bool v) ∧ Below w.heap.size w w' := by
  rw [← hv]; exact spanNo_any a b w
end Go.Proofs.YtgjleeamhkolhaaGreatDoor

namespace Go.Proofs.YtgjleeamhkolhaaGreatDoor
open Go.RowKit

theorem onSide_any (n : Int) (w : World) :
    Calls Tryz.prog 174 #[.int .i64 n] w fun e w' => e = .returned (.bool (inB n 0 15)) ∧ w' = w := by
  by_cases h1 : 0 ≤ n
  · go_enter Tryz.func174, Tryz.ntmps174
    go_wp2
    go_ret
    have e1 : decide (n < 16) = inB n 0 15 := by by_cases h : n < 16 <;> simp [inB, h, h1] <;> omega
    exact ⟨by rw [← e1]; rfl, rfl⟩
  · have h1' : decide (0 ≤ n) = false := by simpa using h1
    go_enter Tryz.func174, Tryz.ntmps174
    go_wp2
    go_ret
    exact ⟨by simp [inB, h1'], rfl⟩

theorem ordered_any (a b c d : Int) (w : World) :
    Calls Tryz.prog 163 #[.int .i64 a, .int .i64 b, .int .i64 c, .int .i64 d] w fun e w' => e = .returned (.bool (ordB a b c d)) ∧ w' = w := by
  by_cases h1 : a ≤ b
  · by_cases h2 : b ≤ c
    · go_enter Tryz.func163, Tryz.ntmps163
      go_wp2
      go_ret
      exact ⟨by simp [ordB, h1, h2], rfl⟩
    · have e1 : ordB a b c d = false := by simp [ordB]; omega
      rw [e1]
      clear e1
      go_enter Tryz.func163, Tryz.ntmps163
      go_wp2
      go_ret
      exact ⟨rfl, rfl⟩
  · have e1 : ordB a b c d = false := by simp [ordB]; omega
    rw [e1]
    clear e1
    go_enter Tryz.func163, Tryz.ntmps163
    go_wp2
    go_ret
    exact ⟨rfl, rfl⟩

theorem isBeside_any (a b : Int) (w : World) :
    Calls Tryz.prog 176 #[.int .i64 a, .int .i64 b] w fun e w' => e = .returned (.bool (inB (wrap64 (a - b)) (-1) 1)) ∧ w' = w := by
  by_cases h1 : -1 ≤ wrap64 (a - b)
  · go_enter Tryz.func176, Tryz.ntmps176
    go_wp2
    go_ret
    exact ⟨by simp [inB, h1], rfl⟩
  · have h1' : decide (-1 ≤ wrap64 (a - b)) = false := by simpa using h1
    go_enter Tryz.func176, Tryz.ntmps176
    go_wp2
    go_ret
    exact ⟨by simp [inB, h1'], rfl⟩

theorem stepOk_any (x y lo hi fr b : Int) (ho : Bool) (w : World) :
    Calls Tryz.prog 160 #[.agg #[.int .i64 x, .int .i64 y, .int .i64 lo, .int .i64 hi, .int .i64 fr, .int .i64 b, .bool ho]] w fun e w' => e = .returned (.bool (stepB x y lo hi fr b)) ∧ Below w.heap.size w w' := by
  have hb := (Below.refl w.heap.size w).alloc (Nat.le_refl _) (.cells #[.int .i64 x, .int .i64 y, .int .i64 lo, .int .i64 hi, .int .i64 fr, .int .i64 b, .bool ho] 98)
  cases h1 : inB x 0 15 with
  | false =>
    have e1 : stepB x y lo hi fr b = false := by simp [stepB, inB] at *; omega
    rw [e1]; clear e1
    go_enter Tryz.func160, Tryz.ntmps160
    go_wp2_with (first | (go_at_call 174; refine (onSide_any _ _).mono ?_; rintro e w' ⟨rfl, rfl⟩) | (go_at_call 163; refine (ordered_any _ _ _ _ _).mono ?_; rintro e w' ⟨rfl, rfl⟩))
    go_ret
    exact ⟨rfl, hb⟩
  | true =>
  cases h2 : inB y 0 15 with
  | false =>
    have e1 : stepB x y lo hi fr b = false := by simp [stepB, inB] at *; omega
    rw [e1]; clear e1
    go_enter Tryz.func160, Tryz.ntmps160
    go_wp2_with (first | (go_at_call 174; refine (onSide_any _ _).mono ?_; rintro e w' ⟨rfl, rfl⟩) | (go_at_call 163; refine (ordered_any _ _ _ _ _).mono ?_; rintro e w' ⟨rfl, rfl⟩))
    go_ret
    exact ⟨rfl, hb⟩
  | true =>
  cases h3 : ordB 0 lo hi 6 with
  | false =>
    have e1 : stepB x y lo hi fr b = false := by simp [stepB, inB, ordB] at *; omega
    rw [e1]; clear e1
    go_enter Tryz.func160, Tryz.ntmps160
    go_wp2_with (first | (go_at_call 174; refine (onSide_any _ _).mono ?_; rintro e w' ⟨rfl, rfl⟩) | (go_at_call 163; refine (ordered_any _ _ _ _ _).mono ?_; rintro e w' ⟨rfl, rfl⟩))
    go_ret
    exact ⟨rfl, hb⟩
  | true =>
    have e1 : stepB x y lo hi fr b = ordB 0 fr b 10000 := by
      rw [Bool.eq_iff_iff]; simp [stepB, inB, ordB] at *; omega
    rw [e1]; clear e1
    go_enter Tryz.func160, Tryz.ntmps160
    go_wp2_with (first | (go_at_call 174; refine (onSide_any _ _).mono ?_; rintro e w' ⟨rfl, rfl⟩) | (go_at_call 163; refine (ordered_any _ _ _ _ _).mono ?_; rintro e w' ⟨rfl, rfl⟩))
    go_ret
    exact ⟨rfl, hb⟩

theorem sharesLevel_any (x y lo hi fr b x' y' lo' hi' fr' b' : Int) (ho ho' : Bool) (w : World) :
    Calls Tryz.prog 177 #[.agg #[.int .i64 x, .int .i64 y, .int .i64 lo, .int .i64 hi, .int .i64 fr, .int .i64 b, .bool ho], .agg #[.int .i64 x', .int .i64 y', .int .i64 lo', .int .i64 hi', .int .i64 fr', .int .i64 b', .bool ho']] w
      fun e w' => e = .returned (.bool (levB lo hi lo' hi')) ∧ Below w.heap.size w w' := by
  have hb := ((Below.refl w.heap.size w).alloc (Nat.le_refl _) (.cells #[.int .i64 x, .int .i64 y, .int .i64 lo, .int .i64 hi, .int .i64 fr, .int .i64 b, .bool ho] 98)).alloc (by simp) (.cells #[.int .i64 x', .int .i64 y', .int .i64 lo', .int .i64 hi', .int .i64 fr', .int .i64 b', .bool ho'] 98)
  by_cases h1 : lo ≤ hi'
  · go_enter Tryz.func177, Tryz.ntmps177
    go_wp2
    go_ret
    exact ⟨by simp [levB, h1], hb⟩
  · have h1' : decide (lo ≤ hi') = false := by simpa using h1
    go_enter Tryz.func177, Tryz.ntmps177
    go_wp2
    go_ret
    exact ⟨by simp [levB, h1'], hb⟩

set_option maxHeartbeats 1000000 in
theorem follows_any (x y lo hi fr b x' y' lo' hi' fr' b' : Int) (ho ho' : Bool) (w : World) :
    Calls Tryz.prog 162 #[.agg #[.int .i64 x, .int .i64 y, .int .i64 lo, .int .i64 hi, .int .i64 fr, .int .i64 b, .bool ho], .agg #[.int .i64 x', .int .i64 y', .int .i64 lo', .int .i64 hi', .int .i64 fr', .int .i64 b', .bool ho']] w
      fun e w' => e = .returned (.bool (folB x y lo hi x' y' lo' hi')) ∧ Below w.heap.size w w' := by
  have hb := ((Below.refl w.heap.size w).alloc (Nat.le_refl _) (.cells #[.int .i64 x, .int .i64 y, .int .i64 lo, .int .i64 hi, .int .i64 fr, .int .i64 b, .bool ho] 98)).alloc (by simp) (.cells #[.int .i64 x', .int .i64 y', .int .i64 lo', .int .i64 hi', .int .i64 fr', .int .i64 b', .bool ho'] 98)
  cases h1 : (x == x') <;> cases h2 : (y == y') <;> cases h3 : inB (wrap64 (x - x')) (-1) 1 <;> cases h4 : inB (wrap64 (y - y')) (-1) 1
  all_goals
    go_enter Tryz.func162, Tryz.ntmps162
    go_wp2_with (first | (go_at_call 176; refine (isBeside_any _ _ _).mono ?_; rintro e w' ⟨rfl, rfl⟩) | (go_at_call 177; refine (sharesLevel_any x y lo hi fr b x' y' lo' hi' fr' b' ho ho' _).mono ?_; rintro e w1 ⟨rfl, hb1⟩))
    go_ret
    first
      | exact ⟨by simp [folB, h1, h2, h3, h4], hb⟩
      | exact ⟨by simp [folB, h1, h2, h3, h4], hb.trans (hb1.mono (by simp; omega))⟩
end Go.Proofs.YtgjleeamhkolhaaGreatDoor

namespace Go.Proofs.YtgjleeamhkolhaaGreatDoor
open Go.RowKit

theorem kindM_any (q s : Int) (w : World) :
    Calls Tryz.prog 159 #[.agg #[.int .i64 q, .int .i64 s]] w fun e w' => e = .returned (.bool (kindB q s)) ∧ Below w.heap.size w w' := by
  have hb := (Below.refl w.heap.size w).alloc (Nat.le_refl _) (.cells #[.int .i64 q, .int .i64 s] 35)
  by_cases h1 : 1 ≤ q
  · by_cases h2 : q ≤ s
    · go_enter Tryz.func159, Tryz.ntmps159
      go_wp2
      go_ret
      exact ⟨by simp [kindB, h1, h2], hb⟩
    · have e1 : kindB q s = false := by simp [kindB]; omega
      go_enter Tryz.func159, Tryz.ntmps159
      go_wp2
      go_ret
      exact ⟨by first | rfl | (rw [e1]; rfl), hb⟩
  · have e1 : kindB q s = false := by simp [kindB]; omega
    go_enter Tryz.func159, Tryz.ntmps159
    go_wp2
    go_ret
    exact ⟨by first | rfl | (rw [e1]; rfl), hb⟩

theorem kindIsOk_any (q s fr b : Int) (a : Option Addr) (n cap : Nat) (w : World) :
    Calls Tryz.prog 139 #[.agg #[.int .i64 q, .int .i64 s, .slice a n cap, .int .i64 fr, .int .i64 b]] w fun e w' => e = .returned (.bool (kindB q s)) ∧ Below w.heap.size w w' := by
  go_enter Tryz.func139, Tryz.ntmps139
  go_wp2_with (go_at_call 159; refine (kindM_any _ _ _).mono ?_; rintro e w1 ⟨rfl, hb1⟩)
  go_ret
  exact ⟨rfl, ((Below.refl _ _).alloc (Nat.le_refl _) _).trans (hb1.mono (by simp))⟩

theorem stepCount_any (q s fr b : Int) (a : Option Addr) (n cap : Nat) (w : World) (hn : n ≤ 1048576) :
    Calls Tryz.prog 140 #[.agg #[.int .i64 q, .int .i64 s, .slice a n cap, .int .i64 fr, .int .i64 b]] w fun e w' => e = .returned (.bool (inB n 1 40)) ∧ Below w.heap.size w w' := by
  have hb := (Below.refl w.heap.size w).alloc (Nat.le_refl _) (.cells #[.int .i64 q, .int .i64 s, .slice a n cap, .int .i64 fr, .int .i64 b] 38)
  by_cases h1 : (1 : Int) ≤ (n : Int)
  · have e1 : inB n 1 40 = decide ((n : Int) ≤ 40) := by simp [inB, h1]
    go_enter Tryz.func140, Tryz.ntmps140
    go_wp2
    go_ret
    exact ⟨by first | rfl | (rw [e1]; rfl), hb⟩
  · have e1 : inB n 1 40 = false := by simp [inB]; omega
    go_enter Tryz.func140, Tryz.ntmps140
    go_wp2
    go_ret
    exact ⟨by first | rfl | (rw [e1]; rfl), hb⟩

theorem endIsOk_any (q s fr b : Int) (a : Option Addr) (n cap : Nat) (w : World) :
    Calls Tryz.prog 143 #[.agg #[.int .i64 q, .int .i64 s, .slice a n cap, .int .i64 fr, .int .i64 b]] w fun e w' => e = .returned (.bool (ordB 0 fr b 10000)) ∧ Below w.heap.size w w' := by
  go_enter Tryz.func143, Tryz.ntmps143
  go_wp2_with (go_at_call 163; refine (ordered_any _ _ _ _ _).mono ?_; rintro e w' ⟨rfl, rfl⟩)
  go_ret
  exact ⟨rfl, (Below.refl _ _).alloc (Nat.le_refl _) _⟩

set_option maxHeartbeats 1000000 in
theorem stepsAreOk_any (q s fr b : Int) (a : Option Addr) (b0 o cap : Nat) (l : List Stp) (w : World) (hl : l.length ≤ 1048576) (hs : StepsAt w a b0 o l) :
    Calls Tryz.prog 141 #[.agg #[.int .i64 q, .int .i64 s, .slice a l.length cap, .int .i64 fr, .int .i64 b]] w fun e w' => e = .returned (.bool (okTo l l.length)) ∧ Below w.heap.size w w' := by
  go_enter Tryz.func141, Tryz.ntmps141
  go_wp2
  go_loopw [8] (fun v wr => ∃ k : Nat, k ≤ l.length ∧ v = .int .i64 k ∧ Below w.heap.size w wr ∧ okTo l k = true) (fun v _ => l.length - (intOf v).toNat)
  case atStart => exact ⟨0, Nat.zero_le _, rfl, (Below.refl _ _).alloc (Nat.le_refl _) _, rfl⟩
  case round =>
    obtain ⟨k, hk, rfl, hb, hgood⟩ := hrel
    have HG : Hid (okTo l k = true) := hgood
    clear hgood
    by_cases hlt : k < l.length
    · obtain ⟨t, htk⟩ : ∃ t, l[k]? = some t := ⟨l[k], List.getElem?_eq_getElem hlt⟩
      have hne : l ≠ [] := by intro e; subst e; simp at hlt
      obtain rfl := hs.here hne
      have hbw := hs.lt hne
      obtain ⟨d0, d1, d2, d3, d4, d5, d6⟩ := (hs.below hb (fun _ => hbw)).seven htk
      have HT : Hid (l.getD k .zero = t) := by show _ = _; simp [List.getD, htk]
      clear htk
      have HE : Hid (okS l k = stepB t.x t.y t.lo t.hi t.fr t.by_) := by show _ = _; unfold okS; rw [HT.out]
      cases hok : stepB t.x t.y t.lo t.hi t.fr t.by_ with
      | false =>
        have G1 : Hid (okTo l l.length = false) := all_not hlt (HE.out.trans hok)
        go_wp2_with (go_at_call 160; refine (stepOk_any _ _ _ _ _ _ _ _).mono ?_; rintro e w2 ⟨rfl, hb2⟩)
        go_ret
        exact ⟨by rw [G1.out]; rfl, (hb.alloc hb.size _).trans (hb2.mono (by have := hb.size; simp; omega))⟩
      | true =>
        have G1 : Hid (okTo l (k + 1) = true) := by show _ = _; unfold okTo; rw [all_succ]; have := HG.out; unfold okTo at this; rw [this, HE.out, hok]; rfl
        go_wp2_with (go_at_call 160; refine (stepOk_any _ _ _ _ _ _ _ _).mono ?_; rintro e w2 ⟨rfl, hb2⟩)
        go_roundw
        case rel => exact ⟨k + 1, by omega, by go_num, (hb.alloc hb.size _).trans (hb2.mono (by have := hb.size; simp; omega)), G1.out⟩
        case measure => simp [intOf]; omega
    · obtain rfl : k = l.length := by omega
      go_wp2
      go_ret
      exact ⟨by rw [HG.out]; rfl, hb⟩
end Go.Proofs.YtgjleeamhkolhaaGreatDoor

namespace Go.Proofs.YtgjleeamhkolhaaGreatDoor
open Go.RowKit

def FollowSaid : Prop := ∀ (q s fr b : Int) (a : Option Addr) (b0 o cap : Nat) (l : List Stp) (w : World), l.length ≤ 1048576 → StepsAt w a b0 o l →
    Calls Tryz.prog 142 #[.agg #[.int .i64 q, .int .i64 s, .slice a l.length cap, .int .i64 fr, .int .i64 b]] w fun e w' => e = .returned (.bool (folTo l (l.length - 1))) ∧ Below w.heap.size w w'

structure Laid2 (w wr : World) (q s fr b : Int) (v : Value) : Prop where
  old : Below w.heap.size w wr
  size : w.heap.size + 2 ≤ wr.heap.size
  p0 : wr.cell? ⟨w.heap.size, 0, none⟩ = some (.int .i64 q)
  p1 : wr.cell? ⟨w.heap.size, 1, none⟩ = some (.int .i64 s)
  p2 : wr.cell? ⟨w.heap.size, 2, none⟩ = some v
  p3 : wr.cell? ⟨w.heap.size, 3, none⟩ = some (.int .i64 fr)
  p4 : wr.cell? ⟨w.heap.size, 4, none⟩ = some (.int .i64 b)
  f0 : wr.cell? ⟨w.heap.size + 1, 0, none⟩ = some (.func (.func 139) #[] #[])
  f1 : wr.cell? ⟨w.heap.size + 1, 1, none⟩ = some (.func (.func 140) #[] #[])
  f2 : wr.cell? ⟨w.heap.size + 1, 2, none⟩ = some (.func (.func 141) #[] #[])
  f3 : wr.cell? ⟨w.heap.size + 1, 3, none⟩ = some (.func (.func 142) #[] #[])
  f4 : wr.cell? ⟨w.heap.size + 1, 4, none⟩ = some (.func (.func 143) #[] #[])

theorem Laid2.below {w wr w2 : World} {q s fr b : Int} {v : Value} (h : Laid2 w wr q s fr b v) (hb : Below wr.heap.size wr w2) : Laid2 w w2 q s fr b v := by
  have z := h.size
  have c0 : ∀ j, w2.cell? ⟨w.heap.size, j, none⟩ = wr.cell? ⟨w.heap.size, j, none⟩ := fun j => hb.cell (p := ⟨w.heap.size, j, none⟩) (by show w.heap.size < _; omega)
  have c1 : ∀ j, w2.cell? ⟨w.heap.size + 1, j, none⟩ = wr.cell? ⟨w.heap.size + 1, j, none⟩ := fun j => hb.cell (p := ⟨w.heap.size + 1, j, none⟩) (by show w.heap.size + 1 < _; omega)
  exact ⟨h.old.trans (hb.mono (by omega)), Nat.le_trans z hb.size, (c0 _).trans h.p0, (c0 _).trans h.p1, (c0 _).trans h.p2, (c0 _).trans h.p3, (c0 _).trans h.p4,
    (c1 _).trans h.f0, (c1 _).trans h.f1, (c1 _).trans h.f2, (c1 _).trans h.f3, (c1 _).trans h.f4⟩

def chkB (q s fr b : Int) (l : List Stp) : Nat → Bool
  | 0 => kindB q s
  | 1 => inB l.length 1 40
  | 2 => okTo l l.length
  | 3 => folTo l (l.length - 1)
  | _ => ordB 0 fr b 10000
def chkTo (q s fr b : Int) (l : List Stp) (k : Nat) : Bool := (List.range k).all (chkB q s fr b l)
theorem chkTo_five (q s fr b : Int) (l : List Stp) : chkTo q s fr b l 5 = pathB q s fr b l := by
  rw [← checks_path]
  simp [chkTo, List.range_succ, chkB, Bool.and_assoc]

set_option maxHeartbeats 2000000 in
theorem pathOk_any (hF : FollowSaid) (q s fr b : Int) (a : Option Addr) (b0 o cap : Nat) (l : List Stp) (w : World) (hl : l.length ≤ 1048576) (hs : StepsAt w a b0 o l) :
    Calls Tryz.prog 121 #[.agg #[.int .i64 q, .int .i64 s, .slice a l.length cap, .int .i64 fr, .int .i64 b]] w fun e w' => e = .returned (.bool (pathB q s fr b l)) ∧ Below w.heap.size w w' := by
  have H5 : Hid (chkTo q s fr b l 5 = pathB q s fr b l) := chkTo_five q s fr b l
  go_enter Tryz.func121, Tryz.ntmps121
  go_wp2
  go_loopw [9] (fun v wr => ∃ k : Nat, k ≤ 5 ∧ v = .int .i64 k ∧ Laid2 w wr q s fr b (.slice a l.length cap) ∧ chkTo q s fr b l k = true) (fun v _ => 5 - (intOf v).toNat)
  case atStart =>
    refine ⟨0, by omega, rfl, ⟨((Below.refl _ _).alloc (Nat.le_refl _) _).alloc (by simp) _, by simp, ?_, ?_, ?_, ?_, ?_, ?_, ?_, ?_, ?_, ?_⟩, rfl⟩
    all_goals simp [go_sem]
  case round =>
    obtain ⟨k, hk, rfl, hL, hgood⟩ := hrel
    have HG : Hid (chkTo q s fr b l k = true) := hgood
    clear hgood
    have step : ∀ v, chkB q s fr b l k = v → Hid (chkTo q s fr b l (k + 1) = v) := fun v hv => by
      show _ = _
      have := HG.out
      unfold chkTo at *
      rw [all_succ, this, hv]; simp
    have stop : k < 5 → chkB q s fr b l k = false → Hid (pathB q s fr b l = false) := fun h hv => by
      show _ = _
      rw [← H5.out]
      exact all_not h hv
    have p0 := hL.p0
    have p1 := hL.p1
    have p2 := hL.p2
    have p3 := hL.p3
    have p4 := hL.p4
    have hs1 := hs.below hL.old hs.lt
    rcases (show k = 0 ∨ k = 1 ∨ k = 2 ∨ k = 3 ∨ k = 4 ∨ k = 5 by omega) with rfl | rfl | rfl | rfl | rfl | rfl
    · have f := hL.f0
      cases hv : kindB q s with
      | false =>
        have G := stop (by omega) hv
        clear step stop
        go_wp2_with (go_at_call 139; refine (kindIsOk_any _ _ _ _ _ _ _ _).mono ?_; rintro e w2 ⟨rfl, hb2⟩)
        go_ret
        exact ⟨by rw [G.out]; rfl, (hL.below hb2).old⟩
      | true =>
        have G := step _ hv
        clear step stop
        go_wp2_with (go_at_call 139; refine (kindIsOk_any _ _ _ _ _ _ _ _).mono ?_; rintro e w2 ⟨rfl, hb2⟩)
        go_roundw
        case rel => exact ⟨1, by omega, by go_num, hL.below hb2, G.out⟩
        case measure => simp [intOf]
    · have f := hL.f1
      cases hv : inB l.length 1 40 with
      | false =>
        have G := stop (by omega) hv
        clear step stop
        go_wp2_with (go_at_call 140; refine (stepCount_any _ _ _ _ _ _ _ _ hl).mono ?_; rintro e w2 ⟨rfl, hb2⟩)
        go_ret
        exact ⟨by rw [G.out]; rfl, (hL.below hb2).old⟩
      | true =>
        have G := step _ hv
        clear step stop
        go_wp2_with (go_at_call 140; refine (stepCount_any _ _ _ _ _ _ _ _ hl).mono ?_; rintro e w2 ⟨rfl, hb2⟩)
        go_roundw
        case rel => exact ⟨2, by omega, by go_num, hL.below hb2, G.out⟩
        case measure => simp [intOf]
    · have f := hL.f2
      cases hv : okTo l l.length with
      | false =>
        have G := stop (by omega) hv
        clear step stop
        go_wp2_with (go_at_call 141; refine (stepsAreOk_any _ _ _ _ _ b0 o _ _ _ hl hs1).mono ?_; rintro e w2 ⟨rfl, hb2⟩)
        go_ret
        exact ⟨by rw [G.out]; rfl, (hL.below hb2).old⟩
      | true =>
        have G := step _ hv
        clear step stop
        go_wp2_with (go_at_call 141; refine (stepsAreOk_any _ _ _ _ _ b0 o _ _ _ hl hs1).mono ?_; rintro e w2 ⟨rfl, hb2⟩)
        go_roundw
        case rel => exact ⟨3, by omega, by go_num, hL.below hb2, G.out⟩
        case measure => simp [intOf]
    · have f := hL.f3
      cases hv : folTo l (l.length - 1) with
      | false =>
        have G := stop (by omega) hv
        clear step stop
        go_wp2_with (go_at_call 142; refine (hF _ _ _ _ _ b0 o _ _ _ hl hs1).mono ?_; rintro e w2 ⟨rfl, hb2⟩)
        go_ret
        exact ⟨by rw [G.out]; rfl, (hL.below hb2).old⟩
      | true =>
        have G := step _ hv
        clear step stop
        go_wp2_with (go_at_call 142; refine (hF _ _ _ _ _ b0 o _ _ _ hl hs1).mono ?_; rintro e w2 ⟨rfl, hb2⟩)
        go_roundw
        case rel => exact ⟨4, by omega, by go_num, hL.below hb2, G.out⟩
        case measure => simp [intOf]
    · have f := hL.f4
      cases hv : ordB 0 fr b 10000 with
      | false =>
        have G := stop (by omega) hv
        clear step stop
        go_wp2_with (go_at_call 143; refine (endIsOk_any _ _ _ _ _ _ _ _).mono ?_; rintro e w2 ⟨rfl, hb2⟩)
        go_ret
        exact ⟨by rw [G.out]; rfl, (hL.below hb2).old⟩
      | true =>
        have G := step _ hv
        clear step stop
        go_wp2_with (go_at_call 143; refine (endIsOk_any _ _ _ _ _ _ _ _).mono ?_; rintro e w2 ⟨rfl, hb2⟩)
        go_roundw
        case rel => exact ⟨5, by omega, by go_num, hL.below hb2, G.out⟩
        case measure => simp [intOf]
    · clear step stop
      go_wp2
      go_ret
      exact ⟨by rw [← H5.out, HG.out]; rfl, hL.old⟩
end Go.Proofs.YtgjleeamhkolhaaGreatDoor

namespace Go.Proofs.YtgjleeamhkolhaaGreatDoor
open Go.RowKit Go.Shelf
attribute [local go_sem] Oper.semAt_some

def pairAt (l : List Stp) (j : Nat) : Stp × Stp := (l.getD j .zero, l.getD (j + 1) .zero)
def pairsTo (l : List Stp) (k : Nat) : List (Stp × Stp) := (List.range k).map (pairAt l)
theorem pairsTo_succ (l : List Stp) (k : Nat) : pairsTo l (k + 1) = pairsTo l k ++ [pairAt l k] := by simp [pairsTo, List.range_succ]
theorem pairsTo_length (l : List Stp) (k : Nat) : (pairsTo l k).length = k := by simp [pairsTo]

abbrev encP (x : Stp × Stp) : Array Value := #[x.1.val, x.2.val]

set_option maxRecDepth 100000 in
set_option maxHeartbeats 2000000 in
theorem pairs1_in (n : Nat) (hn : 1 ≤ n) (lp Bs n₀ b0 o cap : Nat) (a : Option Addr) (l : List Stp) (hl : l.length ≤ 1048576) (hBs : Bs < n₀) (hb0 : l ≠ [] → b0 < n₀) (J Jx : List (Stp × Stp) → World → Prop) (hJ : ∀ s A, J s A → J s A.drew)
    (hY : ∀ pre x W, J pre W → pre.length < l.length → YieldAt Fence.wide (n - 1) Tryz.prog lp (encP x) W fun e W' =>
      (e = .returned (.bool true) ∧ J (pre ++ [x]) W' ∧ Below n₀ W W') ∨ (e = .returned (.bool false) ∧ Jx (pre ++ [x]) W'))
    (W : World) (hc : W.cell? ⟨Bs, 0, none⟩ = some (.slice a l.length cap)) (hs : StepsAt W a b0 o l) (h0 : J [] W) :
    CallsIn Fence.wide n Tryz.prog 175 #[.func (.yield lp) #[] #[], .pointer (some ⟨Bs, 0, none⟩)] W fun e W' => (∃ v, e = .returned v) ∧
      ((∃ ys, ys = pairsTo l (l.length - 1) ∧ J ys W') ∨ (∃ pre, (∃ k, k ≤ l.length - 1 ∧ pre = pairsTo l k) ∧ Jx pre W')) := by
  refine callsIn_of_wp Tryz.func175 rfl trivial ?_ rfl
  simp only [Tryz.ntmps175, List.size_toArray, List.length_cons, List.length_nil, Nat.reduceAdd, Nat.reduceSub, Array.replicate_succ, Array.replicate_zero, List.push_toArray, List.append_toArray, List.nil_append, List.cons_append]
  gi_wp2
  gi_loopw [3] (fun i wr => ∃ k : Nat, k ≤ l.length - 1 ∧ i = .int .i64 (k + 1 : Nat) ∧ J (pairsTo l k) wr ∧ Below n₀ W wr) (fun i _ => l.length - (intOf i).toNat)
  case atStart => exact ⟨0, Nat.zero_le _, rfl, h0, Below.refl _ _⟩
  case round =>
    obtain ⟨k, hk, rfl, hJs, hnx⟩ := hrel
    have hcx := (hnx.cell (p := ⟨Bs, 0, none⟩) hBs).trans hc
    by_cases hlt : k + 1 < l.length
    · obtain ⟨p, hpk⟩ : ∃ p, l[k]? = some p := ⟨l[k], List.getElem?_eq_getElem (by omega)⟩
      obtain ⟨t, htk⟩ : ∃ t, l[k + 1]? = some t := ⟨l[k + 1], List.getElem?_eq_getElem hlt⟩
      have hne : l ≠ [] := by intro e; subst e; simp at hlt
      obtain rfl := hs.here hne
      have hs' := hs.below hnx hb0
      obtain ⟨c0, c1, c2, c3, c4, c5, c6⟩ := hs'.seven hpk
      obtain ⟨d0, d1, d2, d3, d4, d5, d6⟩ := hs'.seven htk
      have HP : Hid (pairAt l k = (p, t)) := by show _ = _; simp [pairAt, List.getD, hpk, htk]
      obtain ⟨fn, tmps, assign, body, hy, hR⟩ := hY _ (p, t) wr.drew (hJ _ _ hJs) (by rw [pairsTo_length]; omega)
      dsimp only [encP] at hy
      have hR' := hR.mono (R' := fun e W' => ∃ bb : Bool, e = .returned (.bool bb) ∧ ((bb = true ∧ J (pairsTo l k ++ [(p, t)]) W' ∧ Below n₀ wr.drew W') ∨ (bb = false ∧ Jx (pairsTo l k ++ [(p, t)]) W'))) (by
        rintro e W' (⟨h1, h2, h3⟩ | ⟨h1, h2⟩)
        · exact ⟨true, h1, .inl ⟨rfl, h2, h3⟩⟩
        · exact ⟨false, h1, .inr ⟨rfl, h2⟩⟩)
      clear hpk htk hs' hY hR
      have k0 : (0 : Int) ≤ (k : Int) := by omega
      have k1 : (k : Int) + 1 < (l.length : Int) := by omega
      have k2 : (k : Int) < (l.length : Int) := by omega
      have k3 : k < l.length := by omega
      have k4 : (0 : Int) ≤ (k : Int) + 1 := by omega
      have k5 : IntKind.i64.wrap (k : Int) = (k : Int) := by rw [IntKind.wrap_i64]; omega
      gi_wp2
      gi_region_with (refine hR'.mono ?_; rintro e W3 ⟨bb, rfl, hor⟩)
      all_goals
        cases bb with
        | true =>
          obtain ⟨hJ3, hk3⟩ : J (pairsTo l k ++ [(p, t)]) W3 ∧ Below n₀ wr.drew W3 := by simpa using hor
          gi_wp2
          go_roundw
          case rel => exact ⟨k + 1, by omega, by go_num, by rw [pairsTo_succ, HP.out]; exact hJ3, hnx.drew.trans hk3⟩
          case measure => simp [intOf]; omega
        | false =>
          have hJx3 : Jx (pairsTo l k ++ [(p, t)]) W3 := by simpa using hor
          gi_wp2
          refine bodyPost_ret (results_none rfl _ _ _) rfl ?_
          exact ⟨⟨_, rfl⟩, .inr ⟨_, ⟨k + 1, by omega, by rw [pairsTo_succ, HP.out]⟩, hJx3⟩⟩
    · obtain rfl : k = l.length - 1 := by omega
      gi_wp2
      go_end0
      exact ⟨⟨_, rfl⟩, .inl ⟨_, rfl, hJs⟩⟩
end Go.Proofs.YtgjleeamhkolhaaGreatDoor

namespace Go.Proofs.YtgjleeamhkolhaaGreatDoor
open Go.RowKit Go.Shelf
attribute [local go_sem] Oper.semAt_some

set_option maxHeartbeats 1000000 in
theorem pairs_in (n : Nat) (a : Option Addr) (len cap : Nat) (w : World) :
    CallsIn Fence.wide n Tryz.prog 161 #[.slice a len cap] w fun e w' => e = .returned (.func (.func 175) #[] #[.pointer (some ⟨w.heap.size, 0, none⟩)]) ∧ w' = w.alloc (.cells #[.slice a len cap] 36) := by
  refine callsIn_of_wp Tryz.func161 rfl trivial ?_ rfl
  simp only [Tryz.ntmps161, List.size_toArray, List.length_cons, List.length_nil, Nat.reduceAdd, Nat.reduceSub, Array.replicate_succ, Array.replicate_zero, List.push_toArray, List.append_toArray, List.nil_append, List.cons_append]
  gi_wp2
  go_ret
  exact ⟨rfl, rfl⟩

theorem pairs_stops (n : Nat) (hn : 1 ≤ n) (Bs n₀ b0 o cap : Nat) (a : Option Addr) (l : List Stp) (hl : l.length ≤ 1048576) (w : World) (hBs : Bs < n₀) (hn₀ : n₀ ≤ w.heap.size)
    (hc : w.cell? ⟨Bs, 0, none⟩ = some (.slice a l.length cap)) (hs : StepsAt w a b0 o l) (hb0 : l ≠ [] → b0 < n₀) :
    SeqStopsK Fence.wide n Tryz.prog 175 #[.pointer (some ⟨Bs, 0, none⟩)] encP (Below n₀) (fun ys => ys = pairsTo l (l.length - 1)) (fun pre => ∃ k, k ≤ l.length - 1 ∧ pre = pairsTo l k) l.length w := fun lp J Jx W hW hJ _ hY h0 =>
  pairs1_in n hn lp Bs n₀ b0 o cap a l hl hBs hb0 J Jx (fun s A h => hJ s A A.drew none h ⟨rfl, rfl, rfl, Nat.le_refl _, fun _ _ _ => rfl⟩ (fun r e => by cases e)) hY W
    ((hW.cell (p := ⟨Bs, 0, none⟩) (Nat.lt_of_lt_of_le hBs hn₀)).trans hc) (hs.below hW (fun h => Nat.lt_of_lt_of_le (hb0 h) hn₀)) h0

def BoxS (W : World) (B : Nat) (s : Stp) : Prop := W.heap[B]? = some (.cells #[.int .i64 s.x, .int .i64 s.y, .int .i64 s.lo, .int .i64 s.hi, .int .i64 s.fr, .int .i64 s.by_, .bool s.ho] 98 (0, 0))
theorem BoxS.lt {W : World} {B : Nat} {s : Stp} (h : BoxS W B s) : B < W.heap.size := (Array.getElem?_eq_some_iff.1 h).1
theorem BoxS.kept {W W' : World} {row : Option Nat} {B : Nat} {s : Stp} (h : BoxS W B s) (hg : W.grownBy W' row) (hne : some B ≠ row) : BoxS W' B s := (hg.block B h.lt hne).trans h
theorem BoxS.alloc {W : World} {B : Nat} {s : Stp} (h : BoxS W B s) (ob : Obj) : BoxS (W.alloc ob) B s := (Below.heap_alloc W ob B h.lt).trans h
theorem BoxS.new (W : World) (s : Stp) : BoxS (W.alloc (.cells #[.int .i64 s.x, .int .i64 s.y, .int .i64 s.lo, .int .i64 s.hi, .int .i64 s.fr, .int .i64 s.by_, .bool s.ho] 98)) W.heap.size s := World.alloc_heap_new W _
theorem BoxS.own {X Y : World} {row : Option Nat} {B : Nat} {s : Stp} (h : BoxS X B s) (hg : X.grownBy Y row) (hr : ∀ r, row = some r → ∃ ob : Obj, X.heap[r]? = some ob ∧ ob.isCells = false) : BoxS Y B s :=
  h.kept hg (fun e' => by obtain ⟨ob, ho, hc⟩ := hr B e'.symm; rw [show X.heap[B]? = _ from h] at ho; cases ho; cases hc)
theorem BoxS.seven {W : World} {B : Nat} {s : Stp} (h : BoxS W B s) :
    W.cell? ⟨B, 0, none⟩ = some (.int .i64 s.x) ∧ W.cell? ⟨B, 1, none⟩ = some (.int .i64 s.y) ∧ W.cell? ⟨B, 2, none⟩ = some (.int .i64 s.lo) ∧ W.cell? ⟨B, 3, none⟩ = some (.int .i64 s.hi) ∧
    W.cell? ⟨B, 4, none⟩ = some (.int .i64 s.fr) ∧ W.cell? ⟨B, 5, none⟩ = some (.int .i64 s.by_) ∧ W.cell? ⟨B, 6, none⟩ = some (.bool s.ho) := by
  refine ⟨?_, ?_, ?_, ?_, ?_, ?_, ?_⟩ <;> simp [World.cell?, show W.heap[B]? = _ from h]

theorem keeps_below {W W' : World} (h : Below W.heap.size W W') : KeepsOthers W W' :=
  ⟨h.size, fun k _ hk _ => (h.block k (Array.getElem?_eq_some_iff.1 hk).1).trans hk⟩
theorem boxed_below {W W' : World} {B : Nat} {t : TypeId} {v : Value} (h : Boxed W B t v) (hb : Below W.heap.size W W') : Boxed W' B t v := (hb.block B h.lt).trans h

def folP (x : Stp × Stp) : Bool := folB x.2.x x.2.y x.2.lo x.2.hi x.1.x x.1.y x.1.lo x.1.hi
theorem folTo_pairs (l : List Stp) (k : Nat) : folTo l k = (pairsTo l k).all folP := by
  simp only [folTo, pairsTo, List.all_map]
  rfl

set_option maxRecDepth 100000 in
set_option maxHeartbeats 4000000 in
theorem follow_any : FollowSaid := by
  intro q s fr b a b0 o cap l w hl hs
  refine (callsIn_wide (n := 4)).1 ?_
  refine callsIn_of_wp_marks Tryz.func142 rfl trivial ?_ rfl
  simp only [Tryz.ntmps142, List.size_toArray, List.length_cons, List.length_nil, Nat.reduceAdd, Nat.reduceSub, Array.replicate_succ, Array.replicate_zero, List.push_toArray, List.append_toArray, List.nil_append, List.cons_append]
  gi_wp2_with (refine ⟨trivial, ?_⟩; gi_at_call 161; refine (pairs_in _ _ _ _ _).mono ?_; rintro e w' ⟨rfl, rfl⟩)
  have bR := (Boxed.new (w.alloc (.cells #[.int .i64 q, .int .i64 s, .slice a l.length cap, .int .i64 fr, .int .i64 b] 38)) 4 (.bool false)).alloc (.cells #[.slice a l.length cap] 36)
  have bA := Boxed.new ((w.alloc (.cells #[.int .i64 q, .int .i64 s, .slice a l.length cap, .int .i64 fr, .int .i64 b] 38)).alloc (.cells #[.bool false] 4)) 36 (.slice a l.length cap)
  simp only [World.size_alloc] at bR bA
  have hB0 : Below w.heap.size w (((w.alloc (.cells #[.int .i64 q, .int .i64 s, .slice a l.length cap, .int .i64 fr, .int .i64 b] 38)).alloc (.cells #[.bool false] 4)).alloc (.cells #[.slice a l.length cap] 36)) := (((Below.refl _ w).alloc (Nat.le_refl _) _).alloc (by simp) _).alloc (by simp; omega) _
  have hsz : (((w.alloc (.cells #[.int .i64 q, .int .i64 s, .slice a l.length cap, .int .i64 fr, .int .i64 b] 38)).alloc (.cells #[.bool false] 4)).alloc (.cells #[.slice a l.length cap] 36)).heap.size = w.heap.size + 3 := by simp
  obtain ⟨W0, hW0⟩ : ∃ W0, (((w.alloc (.cells #[.int .i64 q, .int .i64 s, .slice a l.length cap, .int .i64 fr, .int .i64 b] 38)).alloc (.cells #[.bool false] 4)).alloc (.cells #[.slice a l.length cap] 36)) = W0 := ⟨_, rfl⟩
  rw [hW0] at bR bA hB0 hsz ⊢
  clear hW0
  refine wpIn_rangeFunc_ownH rfl (by omega) (gf := 175) (lb := #[.pointer (some ⟨w.heap.size + 1 + 1, 0, none⟩)]) rfl trivial (enters_of Tryz.func175 (by kernel_rfl) rfl)
    (pairs_stops _ (by omega) (w.heap.size + 1 + 1) W0.heap.size b0 o cap a l hl W0 (by omega) (Nat.le_refl _) bA.cell (hs.below hB0 hs.lt) (fun h => by have := hs.lt h; omega)) belowK_t (belowK_b (Nat.le_refl _)) (Below.refl _ _) (fun _ => rfl)
    (fun pre W => ((pre.all folP = true ∧ Boxed W (w.heap.size + 1) 4 (.bool false)) ∧ Boxed W (w.heap.size + 1 + 1) 36 (.slice a l.length cap)) ∧ Below w.heap.size w W)
    (fun c pre W => ((c = .ret ∧ pre.all folP = false) ∧ Boxed W (w.heap.size + 1) 4 (.bool false)) ∧ Below w.heap.size w W)
    (OwnFrom.and (OwnFrom.and (OwnFrom.and (ownFrom_pure _ _) (Own.from (boxed_own _ _ _) _)) (Own.from (boxed_own _ _ _) _)) (ownFrom_below (Nat.le_refl _) (by omega)))
    (fun c => OwnFrom.and (OwnFrom.and (ownFrom_pure _ _) (Own.from (boxed_own _ _ _) _)) (ownFrom_below (Nat.le_refl _) (by omega)))
    ⟨⟨⟨rfl, bR⟩, bA⟩, hB0⟩
    (fun x a' W => ∃ Bx By, w.heap.size + 1 < Bx ∧ w.heap.size + 1 < By ∧ BoxS W Bx x.1 ∧ BoxS W By x.2 ∧ a' = { tmps := #[.agg #[.int .i64 q, .int .i64 s, .slice a l.length cap, .int .i64 fr, .int .i64 b], .pointer (some ⟨w.heap.size, 0, none⟩), .pointer (some ⟨w.heap.size + 1, 0, none⟩), .pointer (some ⟨Bx, 0, none⟩), .pointer (some ⟨By, 0, none⟩), .pointer (some ⟨w.heap.size, 2, none⟩), .slice a l.length cap, .func (.func 175) #[] #[.pointer (some ⟨w.heap.size + 1 + 1, 0, none⟩)], x.1.val, x.2.val, undef, undef, undef, undef], defers := [] })
    (fun x a' _ X Y row hs' hg hr => by obtain ⟨Bx, By, h1, h2, h3, h4, h5⟩ := hs'; exact ⟨Bx, By, h1, h2, h3.own hg (fun r e => (hr r e).2), h4.own hg (fun r e => (hr r e).2), h5⟩)
    ?assign ?body ?done ?stop
  case assign =>
    rintro lp pre x W K ⟨⟨⟨hall, bR1⟩, bA1⟩, hB1⟩ hK
    have hW := bA1.lt
    gi_wp2
    exact hK _ _ (((KeepsOthers.alloc _ _).trans (KeepsOthers.alloc _ _)).from _) (((Below.refl _ W).alloc (by omega) _).alloc (by simp; omega) _) ⟨⟨⟨hall, (bR1.alloc _).alloc _⟩, (bA1.alloc _).alloc _⟩, (hB1.alloc hB1.size _).alloc (by simp; omega) _⟩
      ⟨W.heap.size, W.heap.size + 1, by omega, by omega, (BoxS.new W x.1).alloc _, by have := BoxS.new (W.alloc (.cells #[.int .i64 x.1.x, .int .i64 x.1.y, .int .i64 x.1.lo, .int .i64 x.1.hi, .int .i64 x.1.fr, .int .i64 x.1.by_, .bool x.1.ho] 98)) x.2; simpa using this, rfl⟩
  case body =>
    rintro lp pre x a' W _ _ ⟨⟨⟨hall, bR1⟩, bA1⟩, hB1⟩ ⟨Bx, By, hBx, hBy, bX, bY, rfl⟩ hlt
    obtain ⟨c0, c1, c2, c3, c4, c5, c6⟩ := bX.seven
    obtain ⟨d0, d1, d2, d3, d4, d5, d6⟩ := bY.seven
    have hW := bA1.lt
    have HA : Hid (pre.all folP = true) := hall
    clear hall
    cases hf : folB x.2.x x.2.y x.2.lo x.2.hi x.1.x x.1.y x.1.lo x.1.hi with
    | false =>
      have HE : Hid ((pre ++ [x]).all folP = false) := by show _ = _; rw [List.all_append, HA.out]; simp [folP, hf]
      gi_wp2_with (refine ⟨trivial, ?_⟩; gi_at_call 162; refine (CallsIn.inRound lp (callsIn_wide.2 (follows_any _ _ _ _ _ _ _ _ _ _ _ _ _ _ _))).mono ?_; rintro e w2 ⟨rfl, hb2⟩; have rc := (boxed_below bR1 hb2).cell; have rf := (boxed_below bR1 hb2).frozen)
      exact ⟨((keeps_below hb2).trans (KeepsOthers.setCell _ _ _)).from _, ⟨⟨rfl, HE.out⟩, (boxed_below bR1 hb2).set _⟩, (hB1.trans (hb2.mono hB1.size)).setCell (p := ⟨w.heap.size + 1, 0, none⟩) (by simp) _⟩
    | true =>
      have HE : Hid ((pre ++ [x]).all folP = true) := by show _ = _; rw [List.all_append, HA.out]; simp [folP, hf]
      gi_wp2_with (refine ⟨trivial, ?_⟩; gi_at_call 162; refine (CallsIn.inRound lp (callsIn_wide.2 (follows_any _ _ _ _ _ _ _ _ _ _ _ _ _ _ _))).mono ?_; rintro e w2 ⟨rfl, hb2⟩)
      exact ⟨(keeps_below hb2).from _, hb2.mono (by omega), ⟨⟨HE.out, boxed_below bR1 hb2⟩, boxed_below bA1 hb2⟩, hB1.trans (hb2.mono hB1.size)⟩
  case done =>
    rintro D zs W hD rfl ⟨⟨⟨hall, bR1⟩, bA1⟩, hB1⟩ hK
    have rc := bR1.cell
    have rf := bR1.frozen
    have HE : Hid (folTo l (l.length - 1) = true) := by show _ = _; rw [folTo_pairs]; exact hall
    clear hall
    gi_wp2
    have hK' := (KeepsOthers.setCell W ⟨w.heap.size + 1, 0, none⟩ (.bool true)).same D _ hK rfl
    refine ⟨by simp, .inl ⟨_, _, rfl, run_takeDeferred hK', ?_⟩⟩
    have hc5 := cell_kept (World.cell?_setCell_same' W ⟨w.heap.size + 1, 0, none⟩ (.bool true) (by rw [rc]; rfl)) (grownBy_putObj' _ D (.deferred none)) (fun r e => by cases e; exact ⟨_, hK', rfl⟩)
    refine ⟨.bool true, ?_, by rw [HE.out], (hB1.setCell (p := ⟨w.heap.size + 1, 0, none⟩) (by simp) _).trans (belowK_b (w := w) (Nat.le_refl _) _ D _ _ (by omega) hK' rfl rfl)⟩
    simp [results, Tryz.f142, go_sem, hc5]
  case stop =>
    rintro D c pre W hD ⟨k, hk, rfl⟩ ⟨⟨⟨rfl, hbad⟩, bR1⟩, hB1⟩ hK
    have HE : Hid (folTo l (l.length - 1) = false) := by
      show _ = _
      rw [← folTo_pairs] at hbad
      cases e : folTo l (l.length - 1) with
      | false => rfl
      | true =>
        exfalso
        simp only [folTo, List.all_eq_true, List.mem_range] at e
        have : folTo l k = true := by simp only [folTo, List.all_eq_true, List.mem_range]; exact fun i hi => e i (by omega)
        rw [this] at hbad
        cases hbad
    clear hbad
    gi_wp2
    refine ⟨by simp, .inl ⟨_, _, rfl, run_takeDeferred hK, ?_⟩⟩
    have hc5 := cell_kept bR1.cell (grownBy_putObj' _ D (.deferred none)) (fun r e => by cases e; exact ⟨_, hK, rfl⟩)
    refine ⟨.bool false, ?_, by rw [HE.out], hB1.trans (belowK_b (w := w) (Nat.le_refl _) W D _ _ (by omega) hK rfl rfl)⟩
    simp [results, Tryz.f142, go_sem, hc5]
end Go.Proofs.YtgjleeamhkolhaaGreatDoor

namespace Go.Proofs.YtgjleeamhkolhaaGreatDoor
open Go.RowKit Go.Shelf

def WalkSaid : Prop := ∀ (d : Bool) (gf tf : Nat) (q s : Int) (l : List Stp) (g scap base Bs : Nat) (r : List (Int × Int)) (S : List (El l) → Prop) (Sp : List (El l) → Prop) (seqn : List (El l)) (w : World)
    (_hq : 1 ≤ q ∧ q ≤ 50) (_hs0 : 1 ≤ s ∧ s ≤ 50) (_hl : l.length ≤ 1048576) (_hr : GoodRow l.length r)
    (_hown : w.ownsRow base 152 2 (.slice (some ⟨g, 0, none⟩) (l.length + 1) scap) (l.length + 1) (spanCells r))
    (_hseq : ∀ W, Below w.heap.size w W → SeqStopsK Fence.wide 3 Tryz.prog gf #[.pointer (some ⟨Bs, 0, none⟩)] encA (KeepX w.heap.size g) S Sp l.length W)
    (_heg : ∀ args w, (callFunc gf args).run Tryz.prog w = .ok (.enter gf args) w) (_hS : ∀ xs, S xs → xs = seqn) (_hSp : ∀ xs, Sp xs → ∃ post, seqn = xs ++ post)
    (_htf : ∀ args w, (callFunc tf args).run Tryz.prog w = .ok (.enter tf args) w)
    (_hT : ∀ (mo : Int) (e lf : Int × Int) (w : World), (1 ≤ mo ∧ mo ≤ 10000) → (0 ≤ e.1 ∧ e.1 ≤ e.2 ∧ e.2 ≤ 10000) → (0 ≤ lf.1 ∧ lf.1 ≤ lf.2 ∧ lf.2 ≤ 10000) →
      Calls Tryz.prog tf #[.agg #[.int .i64 e.1, .int .i64 e.2], .agg #[.int .i64 lf.1, .int .i64 lf.2], .agg #[.int .i64 q, .int .i64 mo]] w
        fun x w' => x = .returned (.tuple #[.agg #[.int .i64 (tightB d q mo e lf).1.1, .int .i64 (tightB d q mo e lf).1.2], .agg #[.int .i64 (tightB d q mo e lf).2.1, .int .i64 (tightB d q mo e lf).2.2]]) ∧ Below w.heap.size w w'),
    Calls Tryz.prog 123 #[.agg #[.int .i64 q, .int .i64 s], .slice (some ⟨g, 0, none⟩) (l.length + 1) scap, .func (.func gf) #[] #[.pointer (some ⟨Bs, 0, none⟩)], .func (.func tf) #[] #[]] w
      fun e w' => e = .returned (.bool (foldW d q s r seqn).2) ∧ w.grownBy w' (some g) ∧ ((foldW d q s r seqn).2 = true → w'.ownsRow base 152 2 (.slice (some ⟨g, 0, none⟩) (l.length + 1) scap) (l.length + 1) (spanCells (foldW d q s r seqn).1))

theorem allE_prefix (l : List Stp) (k : Nat) : ∀ (m : Nat), ∃ post, allE l (k + m) = allE l k ++ post
  | 0 => ⟨[], by simp⟩
  | m + 1 => by
    obtain ⟨post, h⟩ := allE_prefix l k m
    exact ⟨post ++ _, by rw [← List.append_assoc, ← h]; rfl⟩
theorem backE_prefix (l : List Stp) (k : Nat) : ∀ (m : Nat), ∃ post, backE l (k + m) = backE l k ++ post
  | 0 => ⟨[], by simp⟩
  | m + 1 => by
    obtain ⟨post, h⟩ := backE_prefix l k m
    exact ⟨post ++ _, by rw [← List.append_assoc, ← h]; rfl⟩

theorem walkF_any (hW : WalkSaid) (q s : Int) (l : List Stp) (g scap base Bs b0 o cap : Nat) (a : Option Addr) (r : List (Int × Int)) (w : World)
    (hq : 1 ≤ q ∧ q ≤ 50) (hs0 : 1 ≤ s ∧ s ≤ 50) (hl : l.length ≤ 1048576) (hr : GoodRow l.length r)
    (hown : w.ownsRow base 152 2 (.slice (some ⟨g, 0, none⟩) (l.length + 1) scap) (l.length + 1) (spanCells r))
    (hBs : Bs < w.heap.size ∧ Bs ≠ g) (hc : w.cell? ⟨Bs, 0, none⟩ = some (.slice a l.length cap)) (hs : StepsAt w a b0 o l) (hb0 : l ≠ [] → b0 < w.heap.size ∧ b0 ≠ g) :
    Calls Tryz.prog 123 #[.agg #[.int .i64 q, .int .i64 s], .slice (some ⟨g, 0, none⟩) (l.length + 1) scap, .func (.func 147) #[] #[.pointer (some ⟨Bs, 0, none⟩)], .func (.func 125) #[] #[]] w
      fun e w' => e = .returned (.bool (foldW true q s r (allE l l.length)).2) ∧ w.grownBy w' (some g) ∧ ((foldW true q s r (allE l l.length)).2 = true → w'.ownsRow base 152 2 (.slice (some ⟨g, 0, none⟩) (l.length + 1) scap) (l.length + 1) (spanCells (foldW true q s r (allE l l.length)).1)) :=
  hW true _ _ q s l g scap base Bs r (fun ys => ys = allE l l.length) (fun pre => ∃ k, k ≤ l.length ∧ pre = allE l k) (allE l l.length) w hq hs0 hl hr hown
    (fun W hWb => all_stops 3 (by omega) Bs w.heap.size b0 o cap g a l hl W hBs hWb.size ((hWb.cell (p := ⟨Bs, 0, none⟩) hBs.1).trans hc) (hs.below hWb (fun h => (hb0 h).1)) hb0)
    (enters_of Tryz.func147 (by kernel_rfl) rfl) (fun _ h => h)
    (fun xs hx => by
      obtain ⟨k, hk, rfl⟩ := hx
      obtain ⟨post, hp⟩ := allE_prefix l k (l.length - k)
      rw [show k + (l.length - k) = l.length by omega] at hp
      exact ⟨post, hp⟩)
    (enters_of Tryz.func125 (by kernel_rfl) rfl)
    (fun mo e lf w hm he hf => tightL_any _ _ _ _ _ _ w (by omega) (by omega) (by omega) (by omega))

theorem walkB_any (hW : WalkSaid) (q s : Int) (l : List Stp) (g scap base Bs b0 o cap : Nat) (a : Option Addr) (r : List (Int × Int)) (w : World)
    (hq : 1 ≤ q ∧ q ≤ 50) (hs0 : 1 ≤ s ∧ s ≤ 50) (hl : l.length ≤ 1048576) (hr : GoodRow l.length r)
    (hown : w.ownsRow base 152 2 (.slice (some ⟨g, 0, none⟩) (l.length + 1) scap) (l.length + 1) (spanCells r))
    (hBs : Bs < w.heap.size ∧ Bs ≠ g) (hc : w.cell? ⟨Bs, 0, none⟩ = some (.slice a l.length cap)) (hs : StepsAt w a b0 o l) (hb0 : l ≠ [] → b0 < w.heap.size ∧ b0 ≠ g) :
    Calls Tryz.prog 123 #[.agg #[.int .i64 q, .int .i64 s], .slice (some ⟨g, 0, none⟩) (l.length + 1) scap, .func (.func 149) #[] #[.pointer (some ⟨Bs, 0, none⟩)], .func (.func 127) #[] #[]] w
      fun e w' => e = .returned (.bool (foldW false q s r (backE l l.length)).2) ∧ w.grownBy w' (some g) ∧ ((foldW false q s r (backE l l.length)).2 = true → w'.ownsRow base 152 2 (.slice (some ⟨g, 0, none⟩) (l.length + 1) scap) (l.length + 1) (spanCells (foldW false q s r (backE l l.length)).1)) :=
  hW false _ _ q s l g scap base Bs r (fun ys => ys = backE l l.length) (fun pre => ∃ k, k ≤ l.length ∧ pre = backE l k) (backE l l.length) w hq hs0 hl hr hown
    (fun W hWb => back_stops 3 (by omega) Bs w.heap.size b0 o cap g a l hl W hBs hWb.size ((hWb.cell (p := ⟨Bs, 0, none⟩) hBs.1).trans hc) (hs.below hWb (fun h => (hb0 h).1)) hb0)
    (enters_of Tryz.func149 (by kernel_rfl) rfl) (fun _ h => h)
    (fun xs hx => by
      obtain ⟨k, hk, rfl⟩ := hx
      obtain ⟨post, hp⟩ := backE_prefix l k (l.length - k)
      rw [show k + (l.length - k) = l.length by omega] at hp
      exact ⟨post, hp⟩)
    (enters_of Tryz.func127 (by kernel_rfl) rfl)
    (fun mo e lf w hm he hf => tightE_any _ _ _ _ _ _ w (by omega) (by omega) (by omega) (by omega))
end Go.Proofs.YtgjleeamhkolhaaGreatDoor

namespace Go.Proofs.YtgjleeamhkolhaaGreatDoor
open Go.RowKit

section
variable {P : Program} {ops : Array Oper} {md : Region.Mode} {C : World → Prop} {last : Nat} {Q : Exit → Act → World → Prop}

def anyL (P : Program) (md : Region.Mode) (ops : Array Oper) (C : World → Prop) (last : Nat) (Q : Exit → Act → World → Prop) : Nat → Array Bool → Act → Prop
  | 0, _, _ => False
  | fuel + 1, listed, a => Region.ready md ops listed ≠ [] ∧ ∀ i ∈ Region.ready md ops listed,
      (i = last → Region.ready md ops (listed.setIfInBounds last true) = [] ∧ ∀ w, C w → wpOp P ops Q last (fun a' w' => Q .normal a' w') a w) ∧
      (i ≠ last → qOp P ops C i (anyL P md ops C last Q fuel (listed.setIfInBounds i true)) a)

theorem any_done {listed : Array Bool} (h : Region.ready md ops listed = []) {a : Act} {w : World} (hq : Q .normal a w) : ∀ fuel, wpAny P md ops Q fuel listed a w
  | 0 => ⟨h, hq⟩
  | _ + 1 => ⟨fun _ => hq, fun i hi => by rw [h] at hi; cases hi⟩

theorem any_of_L : ∀ (fuel : Nat) (listed : Array Bool) (a : Act) (w : World), C w → anyL P md ops C last Q fuel listed a → wpAny P md ops Q fuel listed a w
  | 0, _, _, _, _, h => h.elim
  | fuel + 1, listed, a, w, hw, h => ⟨fun e => absurd e h.1, fun i hi => by
      by_cases e : i = last
      · subst e
        obtain ⟨h1, h2⟩ := (h.2 i hi).1 rfl
        exact wpOp_mono (fun a' w' hq => any_done h1 hq fuel) (h2 w hw)
      · exact wpOp_of_qOp hw (fun a' w' hw' hk => any_of_L fuel _ a' w' hw' hk) ((h.2 i hi).2 e)⟩

theorem anyL_take {i x : Nat} {oi : Oper} {v : Value} (hi : ops[i]? = some oi) (hsel : ∀ (j : Nat) (o : Oper) cs b, ops[j]? = some o → o.op ≠ .select cs b)
    (hx : x = i ∨ ∃ ox, ops[x]? = some ox ∧ ∃ e ∈ ox.after, Region.binds md e = true ∧ e.on = i)
    (hwait : ∀ oL, ops[last]? = some oL → ∃ e ∈ oL.after, Region.binds md e = true ∧ e.on = x) :
    ∀ (fuel : Nat) (listed : Array Bool) (a : Act), listed.getD x true = false →
      (∀ j oj, ops[j]? = some oj → j ≠ i → listed.getD j true = false → (∀ e ∈ oj.after, Region.binds md e = true → e.on ≠ i) → oi.apart ops oj = true) →
      i ∈ Region.ready md ops listed → YieldsIn P ops C oi v a →
      anyL P md ops C last Q fuel (listed.setIfInBounds i true) (a.put oi.dst v) → anyL P md ops C last Q (fuel + 1) listed a := by
  intro fuel
  induction fuel with
  | zero => intro _ _ _ _ _ _ H; exact H.elim
  | succ fuel ih =>
    intro listed a hxu hfree hr hy H
    have hun : listed.getD i true = false := (mem_ready.1 hr).1
    have clash : listed.getD i false = true → False := fun h1 => by
      rcases Nat.lt_or_ge i listed.size with h' | h'
      · simp [h'] at hun h1; rw [hun] at h1; cases h1
      · simp [Array.getElem?_eq_none h'] at h1
    have clashx : listed.getD x false = true → False := fun h1 => by
      rcases Nat.lt_or_ge x listed.size with h' | h'
      · simp [h'] at hxu h1; rw [hxu] at h1; cases h1
      · simp [Array.getElem?_eq_none h'] at h1
    refine ⟨fun e => (by rw [e] at hr; cases hr), fun j hj => ?_⟩
    obtain ⟨hjun, oj, hoj, hall⟩ := mem_ready.1 hj
    have hjl : j ≠ last := fun e => by
      subst e
      obtain ⟨y, hy', hb, ho⟩ := hwait oj hoj
      exact clashx (by have := hall y hy' hb; rwa [ho] at this)
    refine ⟨fun e => absurd e hjl, fun _ => ?_⟩
    by_cases hji : j = i
    · subst hji
      exact hy.qOp hi H
    · have hnot : ∀ e ∈ oj.after, Region.binds md e = true → e.on ≠ i := fun e he hb heq => clash (by have := hall e he hb; rwa [heq] at this)
      have h1 := (H.2 j (ready_mono hj hji)).2 hjl
      have h2 := qOp_put hoj (hfree j oj hoj hji hjun hnot) (fun cs b => hsel i oi cs b hi) (fun cs b => hsel j oj cs b hoj) hy h1
      have hjx : j ≠ x := fun e => by
        rcases hx with rfl | ⟨ox, hox, y, hy', hb, ho⟩
        · exact hji e
        · subst e
          rw [hoj] at hox
          cases hox
          exact hnot y hy' hb ho
      refine qOp_mono (fun a' h3 => ih (listed.setIfInBounds j true) a' (by rw [getD_set_ne true hjx]; exact hxu) (fun k ok hk hki hku hkn => hfree k ok hk hki ?_ hkn) (ready_mono hr (Ne.symm hji)) h3.1 ?_) h2
      · by_cases hjk : j = k
        · subst hjk; exact hjun
        · rw [getD_set_ne true hjk] at hku; exact hku
      · rw [Array.setIfInBounds_comm _ _ hji]
        exact h3.2

def waitsAt (md : Region.Mode) (ops : Array Oper) (last k : Nat) (listed : Array Bool) : Option Nat :=
  (List.range last).find? fun x => !(listed.getD x true) && (x == k || (match ops[x]? with | none => false | some ox => ox.after.toList.any fun e => Region.binds md e && e.on == k)) &&
    (match ops[last]? with | none => true | some oL => oL.after.toList.any fun e => Region.binds md e && e.on == x)
def lexL (md : Region.Mode) (ops : Array Oper) (last : Nat) : Nat → Nat → Array Bool → Bool
  | 0, k, listed => Region.ready md ops listed == [k] && (Region.ready md ops (listed.setIfInBounds k true)).isEmpty
  | fuel + 1, k, listed => (Region.ready md ops listed).contains k && Region.free md ops listed k && (waitsAt md ops last k listed).isSome && lexL md ops last fuel (k + 1) (listed.setIfInBounds k true)

theorem anyL_lex (hs : Region.noSelect ops = true) : ∀ (l : List Oper) (k : Nat) (listed : Array Bool) (a : Act), (∀ j, j < l.length → l[j]? = ops[k + j]?) → last = k + l.length →
    lexL md ops last l.length k listed = true → wpQuiet P ops C (fun a' => ∀ w, C w → wpOp P ops Q last (fun a'' w'' => Q .normal a'' w'') a' w) l a → anyL P md ops C last Q (l.length + 1) listed a
  | [], k, listed, a, _, hk, hB, h => by
    simp only [List.length_nil, Nat.add_zero] at hk
    subst hk
    simp only [List.length_nil, lexL, Bool.and_eq_true, beq_iff_eq, List.isEmpty_iff] at hB
    refine ⟨by rw [hB.1]; simp, fun i hi => ⟨fun e => ⟨hB.2, h⟩, fun e => ?_⟩⟩
    rw [hB.1] at hi
    simp at hi
    exact absurd hi e
  | o :: l, k, listed, a, hl, hk, hB, h => by
    have h0 : ops[k]? = some o := by simpa using (hl 0 (by simp)).symm
    simp only [List.length_cons, lexL, Bool.and_eq_true] at hB
    obtain ⟨⟨⟨hr, hf⟩, hwt⟩, hB'⟩ := hB
    obtain ⟨x, hxw⟩ := Option.isSome_iff_exists.1 hwt
    have hxp := List.find?_some hxw
    simp only [Bool.and_eq_true, Bool.not_eq_true'] at hxp
    obtain ⟨⟨hx1, hx2⟩, hx3⟩ := hxp
    have hst : qOp P ops C k (wpQuiet P ops C (fun a' => ∀ w, C w → wpOp P ops Q last (fun a'' w'' => Q .normal a'' w'') a' w) l) a := by unfold qOp; simp only [h0]; exact h
    obtain ⟨v, hy, hK⟩ := yieldsIn_of_qOp h0 hst
    have hkl : k < last := by rw [hk]; simp
    refine anyL_take (x := x) h0 (Region.noSelect_spec hs) ?_ (fun oL hoL => ?_) (l.length + 1) listed a hx1 (Region.free_spec h0 hf) (by simpa using hr) hy
      (anyL_lex hs l (k + 1) _ _ (fun j hj => by have := hl (j + 1) (by simp; omega); simpa [Nat.add_assoc, Nat.add_comm 1 j] using this) (by rw [hk]; simp; omega) hB' hK)
    · simp only [Bool.or_eq_true, beq_iff_eq] at hx2
      rcases hx2 with h1 | h1
      · exact Or.inl h1
      · right
        cases hox : ops[x]? with
        | none => rw [hox] at h1; cases h1
        | some ox =>
          rw [hox] at h1
          simp only [List.any_eq_true, Bool.and_eq_true, beq_iff_eq] at h1
          obtain ⟨e, he, h2, h3⟩ := h1
          exact ⟨ox, rfl, e, by simpa using he, h2, h3⟩
    · rw [hoL] at hx3
      simp only [List.any_eq_true, Bool.and_eq_true, beq_iff_eq] at hx3
      obtain ⟨e, he, h2, h3⟩ := hx3
      exact ⟨e, by simpa using he, h2, h3⟩

def initL : List Oper → List Oper
  | [] => []
  | [_] => []
  | o :: o' :: l => o :: initL (o' :: l)
def endL : List Oper → List Oper
  | [] => []
  | [o] => [o]
  | _ :: o' :: l => endL (o' :: l)
theorem init_end : ∀ l : List Oper, l = initL l ++ endL l
  | [] => rfl
  | [_] => rfl
  | o :: o' :: l => by
    have := init_end (o' :: l)
    simp only [initL, endL, List.cons_append]
    rw [← this]
theorem end_one : ∀ l : List Oper, l ≠ [] → ∃ o, endL l = [o]
  | [], h => absurd rfl h
  | [o], _ => ⟨o, rfl⟩
  | _ :: o' :: l, _ => end_one (o' :: l) (by simp)

theorem wp_region_last {id : Nat} {a : Act} {w : World} {l : List Oper} (hm : P.follows .mixedOrders = true) (hne : l ≠ []) (hs : Region.noSelect l.toArray = true)
    (hB : lexL .any l.toArray (l.length - 1) (l.length - 1) 0 (Array.replicate l.length false) = true)
    (h : wpQuiet P l.toArray (fun w' => ∃ u : Cls w, w' = u.it) (fun a' => ∀ w', (∃ u : Cls w, w' = u.it) → wpList P l.toArray Q (endL l) a' w') (initL l) a) : (Code.region id l.toArray true).wp P Q a w := by
  obtain ⟨o, ho⟩ := end_one l hne
  have hsp := init_end l
  rw [ho] at hsp
  have hlen : (initL l).length = l.length - 1 := by have := congrArg List.length hsp; simp at this; omega
  have hpos : l.length = (initL l).length + 1 := by have := congrArg List.length hsp; simpa using this
  have hget : ∀ j, j < (initL l).length → (initL l)[j]? = l.toArray[0 + j]? := fun j hj => by
    rw [Nat.zero_add, List.getElem?_toArray, hsp, List.getElem?_append_left (by simpa [← hsp] using hj)]
    rw [← hsp]
  have hlast : l.toArray[l.length - 1]? = some o := by
    have h1 : (initL l ++ [o])[(initL l).length]? = some o := by simp
    rw [← hsp] at h1
    rw [List.getElem?_toArray, ← hlen]
    exact h1
  refine wp_region_any hm ?_
  have key := any_of_L (P := P) (md := .any) (ops := l.toArray) (C := fun w' => ∃ u : Cls w, w' = u.it) (last := l.length - 1) (Q := Q) ((initL l).length + 1) (Array.replicate l.length false) a { w with drawn := w.drawn + 1 }
    ⟨⟨_, (Below.refl w.heap.size w).drew⟩, rfl⟩
    (anyL_lex hs (initL l) 0 _ a hget (by omega) (by rw [hlen]; exact hB) (by
      have e1 : (fun a' => ∀ w', (∃ u : Cls w, w' = u.it) → wpList P l.toArray Q (endL l) a' w') = (fun a' => ∀ w', (∃ u : Cls w, w' = u.it) → wpOp P l.toArray Q (l.length - 1) (fun a'' w'' => Q .normal a'' w'') a' w') := by
        funext a'
        rw [ho]
        simp only [wpOp, hlast, wpList]
      rw [← e1]
      exact h))
  rw [← hpos] at key
  simpa using key
end
end Go.Proofs.YtgjleeamhkolhaaGreatDoor

namespace Go.Proofs.YtgjleeamhkolhaaGreatDoor
open Go.RowKit

theorem max_any (a b : Int) (w : World) : Calls Tryz.prog 58 #[.int .i64 a, .int .i64 b] w fun e w' => e = .returned (.int .i64 (mxB a b)) ∧ w' = w := by
  by_cases h : b < a
  · have HE : Hid (mxB a b = a) := by show _ = _; unfold mxB; rw [if_pos h]
    go_enter Tryz.func58, Tryz.ntmps58
    go_wp2
    go_ret
    exact ⟨by rw [HE.out]; rfl, rfl⟩
  · have HE : Hid (mxB a b = b) := by show _ = _; unfold mxB; rw [if_neg h]
    go_enter Tryz.func58, Tryz.ntmps58
    go_wp2
    go_ret
    exact ⟨by rw [HE.out]; rfl, rfl⟩
theorem min_any (a b : Int) (w : World) : Calls Tryz.prog 107 #[.int .i64 a, .int .i64 b] w fun e w' => e = .returned (.int .i64 (mnB a b)) ∧ w' = w := by
  by_cases h : a < b
  · have HE : Hid (mnB a b = a) := by show _ = _; unfold mnB; rw [if_pos h]
    go_enter Tryz.func107, Tryz.ntmps107
    go_wp2
    go_ret
    exact ⟨by rw [HE.out]; rfl, rfl⟩
  · have HE : Hid (mnB a b = b) := by show _ = _; unfold mnB; rw [if_neg h]
    go_enter Tryz.func107, Tryz.ntmps107
    go_wp2
    go_ret
    exact ⟨by rw [HE.out]; rfl, rfl⟩

theorem span_info : (Tryz.prog.info? 152).map (fun i => (i.zero, i.size, i.bytes)) = some (some (.agg #[.int .i64 0, .int .i64 0]), 2, 16) := by kernel_rfl

set_option maxRecDepth 20000 in
set_option maxHeartbeats 4000000 in
theorem spansS_wide (q s fr b : Int) (a : Option Addr) (b0 o cap : Nat) (l : List Stp) (w : World) (hs : StepsAt w a b0 o l) (hp : Wide q s fr b l) :
    Calls Tryz.prog 84 #[.agg #[.int .i64 q, .int .i64 s, .slice a l.length cap, .int .i64 fr, .int .i64 b]] w
      fun e w' => ∃ v, e = .returned (.tuple #[v, .bool (spanB q s fr b l)]) ∧ w'.ownsRow w.heap.size 152 2 v (spansL q s fr b l).length (spanCells (spansL q s fr b l)) ∧ Below w.heap.size w w' := by
  obtain ⟨i0, hi, hz0, hz1, hz2⟩ := info_parts span_info
  have HL := hp.len
  have hl : l.length ≤ 1048576 := by omega
  have HK := hp.kind
  go_enter Tryz.func84, Tryz.ntmps84
  go_wp2
  go_loopw [4, 6] (fun v u wr => ∃ k : Nat, k ≤ l.length + 1 ∧ u = .int .i64 k ∧ BoxP w wr q s fr b (.slice a l.length cap) ∧ wr.ownsRow (w.heap.size + 1) 152 2 v k (spanCells (fwdL q s fr b l k)) ∧ fwdTo q s fr b l k = true) (fun _ u _ => l.length + 1 - (intOf u).toNat)
  case atStart =>
    refine ⟨0, Nat.zero_le _, rfl, (BoxP.new w q s fr b _ _).keep ((Below.refl _ _).alloc (by simp) _), ?_, rfl⟩
    have h0 := owns_empty (base := w.heap.size + 1) (e := 152) (size := 2) (w := w.alloc (.cells #[.int .i64 q, .int .i64 s, .slice a l.length cap, .int .i64 fr, .int .i64 b] 38)) (by simp)
    rw [World.size_alloc] at h0
    exact h0
  case round =>
    obtain ⟨k, hk, rfl, hB, hown, hgood⟩ := hrel
    have HG : Hid (fwdTo q s fr b l k = true) := hgood
    clear hgood
    by_cases hlt : k < l.length + 1
    · have p0 := hB.p0
      have p1 := hB.p1
      have p2 := hB.p2
      have p3 := hB.p3
      have p4 := hB.p4
      have pl := hB.lt
      have k0 : (0 : Int) ≤ (k : Int) := by omega
      have k1 : (k : Int) ≤ (l.length : Int) := by omega
      have hS0 := hs.below hB.old hs.lt
      have hS : ∀ W, Below wr.heap.size wr W → StepsAt W a b0 o l := fun W h => hS0.below h hS0.lt
      have hR := Below.refl wr.heap.size wr
      go_wp2
      go_cut [7] (fun s7 wc => ∃ B, s7 = .pointer (some ⟨B, 0, none⟩) ∧ wr.heap.size ≤ B ∧ Below wr.heap.size wr wc ∧ wc.heap[B]? = some (.cells #[.int .i64 (lowB fr l k), .int .i64 (highB b l k)] 152 (0, 0)))
      case first =>
        go_region_held3 (fun w' => w'.cell? ⟨w.heap.size, 0, none⟩ = some (.int .i64 q) ∧ w'.cell? ⟨w.heap.size, 1, none⟩ = some (.int .i64 s) ∧ w'.cell? ⟨w.heap.size, 2, none⟩ = some (.slice a l.length cap) ∧ w'.cell? ⟨w.heap.size, 3, none⟩ = some (.int .i64 fr) ∧ w'.cell? ⟨w.heap.size, 4, none⟩ = some (.int .i64 b))
          (simp [go_sem, World.cell?_alloc_lt, *])
          (first
            | (go_at_call 105; refine (low_any _ _ _ _ _ b0 o _ _ k _ hl (hS _ ?_)).mono ?_; (first | exact hR.drew | exact hR.drew.alloc (Nat.le_refl _) _); rintro e w2 ⟨rfl, hb2⟩; have hb02 : Below wr.heap.size wr w2 := (by first | exact hR.drew.trans hb2 | exact (hR.drew.alloc (Nat.le_refl _) _).trans (hb2.mono (by simp))); have y0 : ∀ j, w2.cell? ⟨w.heap.size, j, none⟩ = wr.cell? ⟨w.heap.size, j, none⟩ := fun j => hb02.cell (p := ⟨w.heap.size, j, none⟩) pl; have z2 : w.heap.size < w2.heap.size := Nat.lt_of_lt_of_le pl hb02.size; (first | (have T2 : w2.heap[wr.heap.size]? = some (.cells #[.int .i64 0, .int .i64 0] 152 (0, 0)) := blk2_after hb2; obtain ⟨t20, t21, t22⟩ := blk2 T2) | (have T2 : w2.heap[wr.heap.size]? = some (.cells #[.int .i64 0, .int .i64 0] 152 (0, 0)) := blk2_after_drew hb2; obtain ⟨t20, t21, t22⟩ := blk2 T2) | skip))
            | (go_at_call 106; refine (high_any _ _ _ _ _ b0 o _ _ k _ hl (hS _ ?_)).mono ?_; (first | exact hb02 | exact hb02.alloc hb02.size _); rintro e w3 ⟨rfl, hb3⟩; have hb03 : Below wr.heap.size wr w3 := (by first | exact hb02.trans (hb3.mono hb02.size) | exact (hb02.alloc hb02.size _).trans (hb3.mono (by have := hb02.size; simp; omega))); have y1 : ∀ j, w3.cell? ⟨w.heap.size, j, none⟩ = wr.cell? ⟨w.heap.size, j, none⟩ := fun j => hb03.cell (p := ⟨w.heap.size, j, none⟩) pl; have z3 : w.heap.size < w3.heap.size := Nat.lt_of_lt_of_le pl hb03.size; (first | (have T3 := blk2_kept T2 hb3; obtain ⟨t30, t31, t32⟩ := blk2 T3) | (have T3 := blk2_after hb3; obtain ⟨t30, t31, t32⟩ := blk2 T3) | (have hw3 : Below w2.heap.size w2 w3 := hb3))))
        · go_wp2
          go_meet
          case rel => exact ⟨w3.heap.size, rfl, hb03.size, hb03.alloc hb03.size _, heap_alloc_new w3 _⟩
        · go_wp2
          go_meet
          case rel => exact ⟨w2.heap.size, rfl, hb02.size, (hb03.setCell (p := ⟨w2.heap.size, 0, none⟩) hb02.size _).setCell (p := ⟨w2.heap.size, 1, none⟩) hb02.size _, blk2_set1 (blk2_set0 T3 _) _⟩
        · go_wp2
          go_meet
          case rel => exact ⟨wr.heap.size, rfl, Nat.le_refl _, (hb03.setCell (p := ⟨wr.heap.size, 0, none⟩) (Nat.le_refl _) _).setCell (p := ⟨wr.heap.size, 1, none⟩) (Nat.le_refl _) _, blk2_set1 (blk2_set0 T3 _) _⟩
      case rest =>
        clear p0 p1 p2 p3 p4 hS hR
        obtain ⟨B, rfl, hBs, hbc, hblk⟩ := hcut
        have hBc := hB.below hbc
        have hownc := owns_below hown hbc
        have hBlt := lt_of_block hblk
        have hBne : ∀ j, u4.ownBlock = some j → j ≠ B := fun j hj => by have := owns_lt hown j hj; omega
        go_upto_if 26 with (fail)
        go_cut [] (fun wd => Below wr.heap.size wr wd ∧ wd.heap[B]? = some (.cells #[.int .i64 (fwdS q s fr b l k).1, .int .i64 (fwdS q s fr b l k).2] 152 (0, 0)))
        case first =>
          rcases Nat.eq_zero_or_pos k with hk0 | hk0
          · subst hk0
            go_wp2
            go_meet
            case rel => exact ⟨hbc, hblk⟩
          · obtain ⟨m, rfl⟩ : ∃ m, k = m + 1 := ⟨k - 1, by omega⟩
            have hml : m < l.length := by omega
            obtain ⟨g, ocap, rfl, hg1, hg2⟩ := owns_some hown (by omega)
            have hx0 := (hownc.cellAt (m * 2) (by omega)).trans (spanCells_get _ m _ (fwdL_get q s fr b l (m + 1) m (by omega))).1
            have hx1 := (hownc.cellAt (m * 2 + 1) (by omega)).trans (spanCells_get _ m _ (fwdL_get q s fr b l (m + 1) m (by omega))).2
            obtain ⟨c0, c1, cf⟩ := blk2 hblk
            have p0 := hBc.p0
            have p1 := hBc.p1
            have p2 := hBc.p2
            have p3 := hBc.p3
            have p4 := hBc.p4
            have pl := hBc.lt
            have r1 := hp.fwd_range m
            have r2 := fwdTo_at HG.out (show m < m + 1 by omega)
            have hgc : g < wc.heap.size := Nat.lt_of_lt_of_le hg2 hbc.size
            obtain ⟨f1, hf1⟩ : ∃ f1, (fwdS q s fr b l m).1 = f1 := ⟨_, rfl⟩
            obtain ⟨f2, hf2⟩ : ∃ f2, (fwdS q s fr b l m).2 = f2 := ⟨_, rfl⟩
            have F1 : Hid ((fwdS q s fr b l m).1 = f1) := hf1
            have F2 : Hid ((fwdS q s fr b l m).2 = f2) := hf2
            rw [hf1] at hx0 r1 r2
            rw [hf2] at hx1 r1 r2
            clear hf1 hf2
            have wm : IntKind.i64.wrap (m : Int) = (m : Int) := by rw [IntKind.wrap_i64]; omega
            have wf : IntKind.i64.wrap (f1 + q) = f1 + q := by rw [IntKind.wrap_i64]; omega
            have m0 : (0 : Int) ≤ (m : Int) := by omega
            have m1 : (m : Int) < (m : Int) + 1 := by omega
            have qn := Cls.any wc
            have q0 := Cls.cell hBlt
            have q1 := Cls.cell hgc
            have q2 := Cls.cell pl
            go_wp2
            refine wp_region_last (by kernel_rfl) (by simp) (by kernel_rfl) (by kernel_rfl) ?_
            simp only [initL, endL]
            repeat (go_big_quiet_step ((go_at_call 58; exact Calls.cls_of_same (max_any _ _ _))))
            refine wpQuiet_nil ?_
            rintro _ ⟨u, rfl⟩
            have T1 := blk2_kept hblk u.same
            obtain ⟨t0, t1, tf⟩ := blk2 T1
            clear c0 c1 cf q0 q1 q2 qn p0 p1 p2 p3 p4 pl
            go_wp2
            have T2 := blk2_set0 T1 (.int .i64 (mxB (lowB fr l (m + 1)) (f1 + q)))
            have bu : Below wr.heap.size wr u.it := hbc.trans (u.same.mono hbc.size)
            have b8 : Below wr.heap.size wr (u.it.setCell ⟨B, 0, none⟩ (.int .i64 (mxB (lowB fr l (m + 1)) (f1 + q)))) := bu.setCell (p := ⟨B, 0, none⟩) hBs _
            clear T1 t0 t1 tf bu
            generalize u.it.setCell ⟨B, 0, none⟩ (.int .i64 (mxB (lowB fr l (m + 1)) (f1 + q))) = w8 at T2 b8 ⊢
            have hBc8 := hB.below b8
            have hown8 := owns_below hown b8
            have hx8 := (hown8.cellAt (m * 2 + 1) (by omega)).trans (spanCells_get _ m _ (fwdL_get q s fr b l (m + 1) m (by omega))).2
            rw [F2.out] at hx8
            clear hx0 hx1
            obtain ⟨c0, c1, cf⟩ := blk2 T2
            have p0 := hBc8.p0
            have p1 := hBc8.p1
            have p2 := hBc8.p2
            have p3 := hBc8.p3
            have p4 := hBc8.p4
            have pl := hBc8.lt
            have hg8 : g < w8.heap.size := Nat.lt_of_lt_of_le hg2 b8.size
            have hB8 : B < w8.heap.size := lt_of_block T2
            have mr := hp.most_range m
            obtain ⟨mo, hmo⟩ : ∃ mo, mostB s l m = mo := ⟨_, rfl⟩
            have MO : Hid (mostB s l m = mo) := hmo
            rw [hmo] at mr
            have wf2 : IntKind.i64.wrap (f2 + mo) = f2 + mo := by rw [IntKind.wrap_i64]; omega
            have qn := Cls.any w8
            have q0 := Cls.cell hB8
            have q1 := Cls.cell hg8
            have q2 := Cls.cell pl
            have hS8 : ∀ u : Cls w8, StepsAt u.it a b0 o l := fun u => (hs.below hBc8.old hs.lt).below u.same (hs.below hBc8.old hs.lt).lt
            have HM : ∀ (u : Cls w8), Calls Tryz.prog 108 #[.agg #[.int .i64 q, .int .i64 s, .slice a l.length cap, .int .i64 fr, .int .i64 b], .int .i64 (m : Int)] u.it fun e w' => e = .returned (.int .i64 mo) ∧ Below u.it.heap.size u.it w' := fun u => by
              have := most_any q s fr b a b0 o cap l m u.it hl (hS8 u) hml
              rwa [hmo] at this
            clear hmo hS8
            refine wp_region_last (by kernel_rfl) (by simp) (by kernel_rfl) (by kernel_rfl) ?_
            simp only [initL, endL]
            repeat (go_big_quiet_step (first | (go_at_call 108; exact Calls.cls_of (HM _)) | (go_at_call 107; exact Calls.cls_of_same (min_any _ _ _))))
            refine wpQuiet_nil ?_
            rintro _ ⟨u2, rfl⟩
            have T3 := blk2_kept T2 u2.same
            obtain ⟨t0, t1, tf⟩ := blk2 T3
            clear c0 c1 cf q0 q1 q2 qn p0 p1 p2 p3 p4 pl HM
            go_wp2
            go_meet
            case rel =>
              refine ⟨(b8.trans (u2.same.mono b8.size)).setCell (p := ⟨B, 1, none⟩) hBs _, ?_⟩
              have T4 := blk2_set1 T3 (.int .i64 (mnB (highB b l (m + 1)) (f2 + mo)))
              simp only [fwdS]
              rw [F1.out, F2.out, MO.out]
              exact T4
        case rest =>
          obtain ⟨hbd, hblkd⟩ := hcut
          have hBd := hB.below hbd
          have hownd := owns_below hown hbd
          obtain ⟨c0, c1, cf⟩ := blk2 hblkd
          clear hblk hbc hBc hownc
          cases hsm : someB (fwdS q s fr b l k) with
          | false =>
            have hgt : (fwdS q s fr b l k).2 < (fwdS q s fr b l k).1 := by simp [someB] at hsm; omega
            have HE : Hid (spanB q s fr b l = false) := by show _ = _; unfold spanB; rw [fwdTo_not hlt hsm]; rfl
            have HE2 : Hid (spansL q s fr b l = []) := by show _ = _; unfold spansL; rw [HE.out]; rfl
            have H0 : Hid ((wc.alloc (.cells #[] 152)).ownsRow w.heap.size 152 2 (.slice (some ⟨wc.heap.size, 0, none⟩) 0 0) 0 []) := owns_empty (by have := hBd.lt; omega)
            clear hsm
            go_wp2
            go_ret2
            exact ⟨_, by rw [HE.out]; rfl, by rw [HE2.out]; exact H0.out, hBd.old.alloc (by have := hBd.lt; omega) _⟩
          | true =>
            have hle : ¬ (fwdS q s fr b l k).2 < (fwdS q s fr b l k).1 := by simp [someB] at hsm; omega
            have G1 : Hid (fwdTo q s fr b l (k + 1) = true) := by show _ = _; rw [fwdTo_succ HG.out, hsm]
            clear hsm
            have hz := hBd.lt
            go_wp2_with (at_builtin; (refine wpList_append_own _ rfl _ _ 119 rfl (w.heap.size + 1) 152 i0 (.agg #[.int .i64 0, .int .i64 0]) 2 16 Tryz.underlying119 hi hz0 hz1 hz2 rfl (by decide) _ _ _ rfl (hownd.alloc _) ⟨wc.heap.size, 0, none⟩ 1 1 (spanC (fwdS q s fr b l k)) rfl rfl (two_new _ _ _ _) (by simp [Value.oneCell']) (by unfold maxLen; omega) (by omega) (by simp; omega) ?_); intro v' w1 hown' hgrow _)
            have hbel : Below (w.heap.size + 1) wr w1 := ((hbd.mono (by omega)).alloc (by omega) _).grown hgrow (by simp; omega) (owns_base hownd)
            refine ⟨⟨k + 1, by omega, by go_num, hB.keep hbel, ?_, G1.out⟩, by simp [intOf]; omega⟩
            rw [fwdL_succ, spanCells_snoc]
            exact hown'
    · obtain rfl : k = l.length + 1 := by omega
      obtain ⟨g, ocap, rfl, hg1, hg2⟩ := owns_some hown (by omega)
      rw [← backL_zero] at hown
      go_wp2
      go_loopw [8] (fun v wi => ∃ i : Nat, i ≤ l.length ∧ v = .int .i64 ((i : Int) - 1) ∧ BoxP w wi q s fr b (.slice a l.length cap) ∧ wi.ownsRow (w.heap.size + 1) 152 2 (.slice (some ⟨g, 0, none⟩) (l.length + 1) ocap) (l.length + 1) (spanCells (backL q s fr b l l.length (l.length - i)))) (fun v _ => (intOf v + 1).toNat)
      case atStart => exact ⟨l.length, Nat.le_refl _, rfl, hB, by rw [Nat.sub_self]; exact hown⟩
      case round =>
        clear hB hown hg2
        obtain ⟨i, hi', rfl, hB, hown⟩ := hrel
        rcases i with _ | m
        · have HE : Hid (spanB q s fr b l = true) := by show _ = _; rw [hp.span_fwd]; exact HG.out
          have HL2 : Hid ((spansL q s fr b l).length = l.length + 1) := by show _ = _; rw [← backL_all HE.out, backL_length]
          go_wp2
          go_ret2
          refine ⟨_, by rw [HE.out]; rfl, ?_, hB.old⟩
          rw [HL2.out, ← backL_all HE.out]
          refine ⟨hown.1, hown.2.imp id fun ⟨g, cap, cur, h1, h2, h3⟩ => ⟨g, cap, cur, h1, by omega, h3⟩⟩
        · have e0 : (((m + 1 : Nat) : Int) - 1) = (m : Int) := by omega
          rw [e0]
          obtain ⟨J, hJ, e1, e2, e3⟩ : ∃ J, J < l.length ∧ l.length - (m + 1) = J ∧ l.length - (J + 1) = m ∧ l.length - m = J + 1 := ⟨l.length - (m + 1), by omega, rfl, by omega, by omega⟩
          rw [e1] at hown
          have gn := backL_now q s fr b l l.length J hJ
          have gx := backL_next q s fr b l l.length J hJ
          rw [e2] at gn gx
          have x0 := (hown.cellAt (m * 2) (by omega)).trans (spanCells_get _ m _ gn).1
          have x1 := (hown.cellAt (m * 2 + 1) (by omega)).trans (spanCells_get _ m _ gn).2
          have y0 := (hown.cellAt ((m + 1) * 2) (by omega)).trans (spanCells_get _ (m + 1) _ gx).1
          have y1 := (hown.cellAt ((m + 1) * 2 + 1) (by omega)).trans (spanCells_get _ (m + 1) _ gx).2
          have r1 := hp.fwd_range m
          have r2 := fwdTo_at HG.out (show m < l.length + 1 by omega)
          have r3 := hp.bwd_in HG.out J (by omega)
          have r4 := hp.fwd_range (l.length - J)
          have r5 := hp.bwd_in HG.out (J + 1) (by omega)
          have BS : Hid (bwdS q s fr b l l.length (J + 1) = (mxB (fwdS q s fr b l m).1 ((bwdS q s fr b l l.length J).1 - mostB s l m), mnB (fwdS q s fr b l m).2 ((bwdS q s fr b l l.length J).2 - q))) := by
            show _ = _
            simp only [bwdS]
            rw [e2]
          have hle := r5.1
          rw [BS.out] at hle
          have hml : m < l.length := by omega
          have mr := hp.most_range m
          clear r5 gn gx
          obtain ⟨f1, hf1⟩ : ∃ f1, (fwdS q s fr b l m).1 = f1 := ⟨_, rfl⟩
          obtain ⟨f2, hf2⟩ : ∃ f2, (fwdS q s fr b l m).2 = f2 := ⟨_, rfl⟩
          obtain ⟨h1, hh1⟩ : ∃ h1, (bwdS q s fr b l l.length J).1 = h1 := ⟨_, rfl⟩
          obtain ⟨h2, hh2⟩ : ∃ h2, (bwdS q s fr b l l.length J).2 = h2 := ⟨_, rfl⟩
          obtain ⟨mo, hmo⟩ : ∃ mo, mostB s l m = mo := ⟨_, rfl⟩
          rw [hf1] at x0 r1 r2
          rw [hf2] at x1 r1 r2
          rw [hh1] at y0 r3
          rw [hh2] at y1 r3
          rw [hmo] at mr
          have BS2 : Hid (bwdS q s fr b l l.length (J + 1) = (mxB f1 (h1 - mo), mnB f2 (h2 - q))) := by
            show _ = _
            rw [BS.out, hf1, hf2, hh1, hh2, hmo]
          have hle2 : mxB f1 (h1 - mo) ≤ mnB f2 (h2 - q) := by
            have := hle
            simp only [hf1, hf2, hh1, hh2, hmo] at this
            exact this
          obtain ⟨n1, hn1⟩ : ∃ n1, mxB f1 (h1 - mo) = n1 := ⟨_, rfl⟩
          obtain ⟨n2, hn2⟩ : ∃ n2, mnB f2 (h2 - q) = n2 := ⟨_, rfl⟩
          rw [hn1, hn2] at hle2
          have BS3 : Hid (bwdS q s fr b l l.length (J + 1) = (n1, n2)) := by show _ = _; rw [BS2.out, hn1, hn2]
          have MX : ∀ (W : World), Calls Tryz.prog 58 #[.int .i64 f1, .int .i64 (h1 - mo)] W fun e w' => e = .returned (.int .i64 n1) ∧ w' = W := fun W => by rw [← hn1]; exact max_any _ _ _
          have MN : ∀ (W : World), Calls Tryz.prog 107 #[.int .i64 f2, .int .i64 (h2 - q)] W fun e w' => e = .returned (.int .i64 n2) ∧ w' = W := fun W => by rw [← hn2]; exact min_any _ _ _
          have wf1 : IntKind.i64.wrap (h1 - mo) = h1 - mo := by rw [IntKind.wrap_i64]; omega
          have wf2 : IntKind.i64.wrap (h2 - q) = h2 - q := by rw [IntKind.wrap_i64]; omega
          have wm : IntKind.i64.wrap ((m : Int) + 1) = (m : Int) + 1 := by rw [IntKind.wrap_i64]; omega
          have hS0 := hs.below hB.old hs.lt
          have HM : ∀ (u : Cls wr), Calls Tryz.prog 108 #[.agg #[.int .i64 q, .int .i64 s, .slice a l.length cap, .int .i64 fr, .int .i64 b], .int .i64 (m : Int)] u.it fun e w' => e = .returned (.int .i64 mo) ∧ Below u.it.heap.size u.it w' := fun u => by
            have := most_any q s fr b a b0 o cap l m u.it hl (hS0.below u.same hS0.lt) hml
            rwa [hmo] at this
          clear hle BS BS2 hf1 hf2 hh1 hh2 hn1 hn2 hS0 r4
          have p0 := hB.p0
          have p1 := hB.p1
          have p2 := hB.p2
          have p3 := hB.p3
          have p4 := hB.p4
          have pl := hB.lt
          have hgr : g < wr.heap.size := (hown.lt g rfl).2
          have m0 : (0 : Int) ≤ (m : Int) := by omega
          have m1 : (m : Int) < (l.length : Int) + 1 := by omega
          have m2 : (m : Int) + 1 < (l.length : Int) + 1 := by omega
          have m3 : (0 : Int) ≤ (m : Int) + 1 := by omega
          have qn := Cls.any wr
          have q1 := Cls.cell hgr
          have q2 := Cls.cell pl
          go_wp2
          refine wp_region_last (by kernel_rfl) (by simp) (by kernel_rfl) (by kernel_rfl) ?_
          simp only [initL, endL]
          repeat (go_big_quiet_step (first | (go_at_call 108; exact Calls.cls_of (HM _)) | (go_at_call 58; exact Calls.cls_of_same (MX _))))
          refine wpQuiet_nil ?_
          rintro _ ⟨u, rfl⟩
          have hownu := owns_below hown u.same
          have t0 := (hownu.cellAt (m * 2) (by omega)).trans ((hown.cellAt (m * 2) (by omega)).symm.trans x0)
          have tf := hownu.frozenAt
          clear q1 q2 qn HM MX
          go_wp2
          have bu : Below (w.heap.size + 1) wr u.it := u.same.mono (by omega)
          have b8 : Below (w.heap.size + 1) wr (u.it.setCell ⟨g, m * 2, none⟩ (.int .i64 n1)) := bu.setCell (p := ⟨g, m * 2, none⟩) hg1 _
          have hown8 := owns_put hownu (j := m * 2) (by omega) (.int .i64 n1)
          have hlen : (spanCells (backL q s fr b l l.length J)).length = (l.length + 1) * 2 := hown.1
          have z0 : ((spanCells (backL q s fr b l l.length J)).set (m * 2) (.int .i64 n1))[m * 2]? = some (.int .i64 n1) := List.getElem?_set_self (by omega)
          have z1 : ((spanCells (backL q s fr b l l.length J)).set (m * 2) (.int .i64 n1))[m * 2 + 1]? = some (.int .i64 f2) := by
            rw [List.getElem?_set_ne (by omega), ← hown.cellAt (m * 2 + 1) (by omega)]; exact x1
          have z2 : ((spanCells (backL q s fr b l l.length J)).set (m * 2) (.int .i64 n1))[(m + 1) * 2 + 1]? = some (.int .i64 h2) := by
            rw [List.getElem?_set_ne (by omega), ← hown.cellAt ((m + 1) * 2 + 1) (by omega)]; exact y1
          clear t0 tf hownu bu x0 x1 y0 y1 p0 p1 p2 p3 p4
          generalize u.it.setCell ⟨g, m * 2, none⟩ (.int .i64 n1) = w8 at hown8 b8 ⊢
          have hB8 := hB.keep b8
          have x1 := (hown8.cellAt (m * 2 + 1) (by omega)).trans z1
          have y1 := (hown8.cellAt ((m + 1) * 2 + 1) (by omega)).trans z2
          have p0 := hB8.p0
          have p1 := hB8.p1
          have pl8 := hB8.lt
          have hgr8 : g < w8.heap.size := (hown8.lt g rfl).2
          have qn := Cls.any w8
          have q1 := Cls.cell hgr8
          have q2 := Cls.cell pl8
          refine wp_region_last (by kernel_rfl) (by simp) (by kernel_rfl) (by kernel_rfl) ?_
          simp only [initL, endL]
          repeat (go_big_quiet_step ((go_at_call 107; exact Calls.cls_of_same (MN _))))
          refine wpQuiet_nil ?_
          rintro _ ⟨u2, rfl⟩
          have hownu2 := owns_below hown8 u2.same
          have t0 := (hownu2.cellAt (m * 2 + 1) (by omega)).trans z1
          have tf := hownu2.frozenAt
          clear q1 q2 qn MN
          go_wp2
          have b9 : Below (w.heap.size + 1) w8 (u2.it.setCell ⟨g, m * 2 + 1, none⟩ (.int .i64 n2)) := (u2.same.mono (by omega)).setCell (p := ⟨g, m * 2 + 1, none⟩) hg1 _
          have hown9 := owns_put hownu2 (j := m * 2 + 1) (by omega) (.int .i64 n2)
          have z3 : (((spanCells (backL q s fr b l l.length J)).set (m * 2) (.int .i64 n1)).set (m * 2 + 1) (.int .i64 n2))[m * 2]? = some (.int .i64 n1) := by
            rw [List.getElem?_set_ne (by omega)]; exact z0
          have z4 : (((spanCells (backL q s fr b l l.length J)).set (m * 2) (.int .i64 n1)).set (m * 2 + 1) (.int .i64 n2))[m * 2 + 1]? = some (.int .i64 n2) := List.getElem?_set_self (by rw [List.length_set]; omega)
          clear t0 tf hownu2 x1 y1 p0 p1
          generalize u2.it.setCell ⟨g, m * 2 + 1, none⟩ (.int .i64 n2) = w9 at hown9 b9 ⊢
          have hB9 := hB8.keep b9
          have x0 := (hown9.cellAt (m * 2) (by omega)).trans z3
          have x1 := (hown9.cellAt (m * 2 + 1) (by omega)).trans z4
          have hgr9 : g < w9.heap.size := (hown9.lt g rfl).2
          have RW : Hid (w9.ownsRow (w.heap.size + 1) 152 2 (.slice (some ⟨g, 0, none⟩) (l.length + 1) ocap) (l.length + 1) (spanCells (backL q s fr b l l.length (l.length - m)))) := by
            show World.ownsRow _ _ _ _ _ _ _
            rw [e3, backL_succ q s fr b l l.length J hJ, e2, BS3.out, spanCells_set]
            exact hown9
          have qn := Cls.any w9
          have q1 := Cls.cell hgr9
          clear z0 z1 z2 z3 z4 hown9 hown8 hown hlen
          refine wp_region_cls (by kernel_rfl) (by kernel_rfl) ?_
          repeat (go_big_quiet_step (fail))
          refine wpQuiet_nil ?_
          rintro _ ⟨u3, rfl⟩
          clear q1 qn
          go_wp2
          go_roundw
          case rel => exact ⟨m, by omega, by go_num, hB9.below u3.same, owns_below RW.out u3.same⟩
          case measure => simp [intOf]
end Go.Proofs.YtgjleeamhkolhaaGreatDoor

namespace Go.Proofs.YtgjleeamhkolhaaGreatDoor
open Go.RowKit

def SpansSaid : Prop := ∀ (q s fr b : Int) (a : Option Addr) (b0 o cap : Nat) (l : List Stp) (w : World), l.length ≤ 1048576 → StepsAt w a b0 o l →
    Calls Tryz.prog 98 #[.agg #[.int .i64 q, .int .i64 s, .slice a l.length cap, .int .i64 fr, .int .i64 b]] w
      fun e w' => ∃ v, e = .returned (.tuple #[v, .bool (flyB q s fr b l)]) ∧ w'.ownsRow w.heap.size 152 2 v (flyL q s fr b l).length (spanCells (flyL q s fr b l)) ∧ Below w.heap.size w w'
end Go.Proofs.YtgjleeamhkolhaaGreatDoor

namespace Go.Proofs.YtgjleeamhkolhaaGreatDoor
open Go.RowKit

theorem box_grown {w wr w2 : World} {q s fr b : Int} {v : Value} {g : Nat} (h : BoxP w wr q s fr b v) (hg : wr.grownBy w2 (some g)) (hn : w.heap.size < g) : BoxP w w2 q s fr b v :=
  h.keep ((Below.refl _ _).grown hg h.lt (fun k e => by cases e; omega))

set_option maxRecDepth 20000 in
set_option maxHeartbeats 4000000 in
theorem spans_any (hW : WalkSaid) (hF : FollowSaid) : SpansSaid := by
  intro q s fr b a b0 o cap l w hl hs
  have hB0 := BoxP.new w q s fr b (.slice a l.length cap) 38
  cases hp : pathB q s fr b l with
  | false =>
    have e1 : flyB q s fr b l = false := by unfold flyB; rw [hp]; rfl
    have e2 : flyL q s fr b l = [] := by unfold flyL; rw [hp]; rfl
    rw [e1, e2]
    go_enter Tryz.func98, Tryz.ntmps98
    go_wp2_with fail
    refine (pathOk_any hF _ _ _ _ _ b0 o _ _ _ hl (hs.alloc _)).mono ?_
    rw [hp]
    rintro e w1 ⟨rfl, hb1⟩
    have hB1 := hB0.below hb1
    go_wp2
    go_ret2
    exact ⟨_, rfl, World.ownsRow_nil _ _ _ _, hB1.old⟩
  | true =>
    have e1 : flyB q s fr b l = fwdTo q s fr b l (l.length + 1) := by unfold flyB; rw [hp, span_fwd hp]; rfl
    have e2 : flyL q s fr b l = spansL q s fr b l := by unfold flyL; rw [hp]; rfl
    have kr := kind_range hp
    have hne : l ≠ [] := by have := path_len hp; intro e; subst e; simp at this
    have hfold := fwd_fold hp l.length (Nat.le_refl _)
    rw [e1, e2]
    go_enter Tryz.func98, Tryz.ntmps98
    go_wp2_with fail
    refine (pathOk_any hF _ _ _ _ _ b0 o _ _ _ hl (hs.alloc _)).mono ?_
    rw [hp]
    rintro e w1 ⟨rfl, hb1⟩
    have hB1 := hB0.below hb1
    have c0 := hB1.p0
    have c1 := hB1.p1
    have c2 := hB1.p2
    have c3 := hB1.p3
    have c4 := hB1.p4
    clear hb1 hB0
    go_wp2_with fail
    refine (winds_any _ _ _ _ _ b0 o _ _ _ hl (hs.below hB1.old hs.lt)).mono ?_
    rintro e w2 ⟨v, rfl, ho2, hb2⟩
    obtain ⟨g, scap, rfl, hg1, hg2⟩ := owns_some ho2 (by omega)
    have hB2 := hB1.below hb2
    have z1 := hB1.lt
    have z2 := hB2.lt
    clear c0 c1 c2 c3 c4 hb2 hB1
    have c0 := hB2.p0
    have c1 := hB2.p1
    have c2 := hB2.p2
    have c3 := hB2.p3
    have c4 := hB2.p4
    have hs2 := hs.below hB2.old hs.lt
    have hbw := hs.lt hne
    have hW1 := fun (W : World) (hW2 : Below w2.heap.size w2 W) (Bs : Nat) (hBs : w2.heap.size ≤ Bs ∧ Bs < W.heap.size) (hc : W.cell? ⟨Bs, 0, none⟩ = some (.slice a l.length cap)) =>
      walkF_any hW q s l g scap w1.heap.size Bs b0 o cap a (winL fr b l (l.length + 1)) W ⟨kr.1, by omega⟩ ⟨by omega, kr.2.2⟩ hl (win_good hp) (owns_below ho2 hW2) ⟨hBs.2, by omega⟩ hc (hs2.below hW2 hs2.lt) (fun _ => ⟨by have := hW2.size; omega, by omega⟩)
    have hal : Below w2.heap.size w2 (w2.drew.alloc (.cells #[.slice a l.length cap] 36)) := ((Below.refl w2.heap.size w2).drew).alloc (Nat.le_refl _) _
    have hsz : (w2.drew.alloc (.cells #[.slice a l.length cap] 36)).heap.size = w2.heap.size + 1 := World.size_alloc _ _
    have hcl : (w2.drew.alloc (.cells #[.slice a l.length cap] 36)).cell? ⟨w2.heap.size, 0, none⟩ = some (.slice a l.length cap) := (Boxed.new w2.drew 36 (.slice a l.length cap)).cell
    have HWK := hW1 _ hal w2.heap.size ⟨Nat.le_refl _, by omega⟩ hcl
    have HC : ∀ w4, (w2.drew.alloc (.cells #[.slice a l.length cap] 36)).grownBy w4 (some g) → ∀ j, w4.cell? ⟨w.heap.size, j, none⟩ = w2.cell? ⟨w.heap.size, j, none⟩ := fun w4 hg4 j =>
      (World.cell?_of_block (a := ⟨w.heap.size, j, none⟩) (hg4.block w.heap.size (by omega) (fun e => by cases e; omega))).trans (hal.cell (p := ⟨w.heap.size, j, none⟩) z2)
    clear hW1 hcl
    go_wp2
    go_region_held3 (fun w' => w'.cell? ⟨w.heap.size, 0, none⟩ = some (.int .i64 q) ∧ w'.cell? ⟨w.heap.size, 1, none⟩ = some (.int .i64 s) ∧ w'.cell? ⟨w.heap.size, 2, none⟩ = some (.slice a l.length cap) ∧ w'.cell? ⟨w.heap.size, 3, none⟩ = some (.int .i64 fr) ∧ w'.cell? ⟨w.heap.size, 4, none⟩ = some (.int .i64 b))
      (simp [go_sem, World.cell?_alloc_lt, *])
      (first
        | (go_at_call 124; refine (all_any _ _ _ _).mono ?_; rintro e w3 ⟨rfl, rfl⟩)
        | (go_at_call 123; refine HWK.mono ?_; rintro e w4 ⟨rfl, hg4, ho4⟩; have n0 := HC w4 hg4))
    have hB4 : BoxP w w4 q s fr b (.slice a l.length cap) := box_grown (hB2.below hal) hg4 (by omega)
    rw [hfold.1] at ho4
    clear c0 c1 c2 c3 c4 n0 HC HWK
    cases hf : fwdTo q s fr b l (l.length + 1) with
    | false =>
      have e3 : spansL q s fr b l = [] := by unfold spansL; rw [span_fwd hp, hf]; rfl
      go_wp2
      go_ret2
      exact ⟨_, by rw [hf]; rfl, by rw [e3]; exact World.ownsRow_nil _ _ _ _, hB4.old⟩
    | true =>
      have ho5 := ho4 hf
      rw [hfold.2 hf, mixL_all] at ho5
      have z4 := hB4.lt
      have zg : w2.heap.size + 1 ≤ w4.heap.size := by have := hg4.size; omega
      have hs4 : StepsAt w4 a b0 o l := hs.below hB4.old hs.lt
      have hbk := back_fold hp hf l.length (Nat.le_refl _)
      have HE : Hid (backL q s fr b l l.length l.length = spansL q s fr b l) := backL_all (by rw [span_fwd hp]; exact hf)
      clear ho4 hal hsz hg4 hB2 hs2
      have c0 := hB4.p0
      have c1 := hB4.p1
      have c2 := hB4.p2
      have c3 := hB4.p3
      have c4 := hB4.p4
      have hal : Below w4.heap.size w4 (w4.drew.alloc (.cells #[.slice a l.length cap] 36)) := ((Below.refl w4.heap.size w4).drew).alloc (Nat.le_refl _) _
      have hsz : (w4.drew.alloc (.cells #[.slice a l.length cap] 36)).heap.size = w4.heap.size + 1 := World.size_alloc _ _
      have hcl : (w4.drew.alloc (.cells #[.slice a l.length cap] 36)).cell? ⟨w4.heap.size, 0, none⟩ = some (.slice a l.length cap) := (Boxed.new w4.drew 36 (.slice a l.length cap)).cell
      have HWK := walkB_any hW q s l g scap w1.heap.size w4.heap.size b0 o cap a (fwdL q s fr b l (l.length + 1)) _ ⟨kr.1, by omega⟩ ⟨by omega, kr.2.2⟩ hl (fwd_good hp hf) (owns_below ho5 hal) ⟨by omega, by omega⟩ hcl (hs4.below hal hs4.lt) (fun _ => ⟨by omega, by omega⟩)
      rw [hbk] at HWK
      have HC : ∀ w5, (w4.drew.alloc (.cells #[.slice a l.length cap] 36)).grownBy w5 (some g) → ∀ j, w5.cell? ⟨w.heap.size, j, none⟩ = w4.cell? ⟨w.heap.size, j, none⟩ := fun w5 hg5 j =>
        (World.cell?_of_block (a := ⟨w.heap.size, j, none⟩) (hg5.block w.heap.size (by omega) (fun e => by cases e; omega))).trans (hal.cell (p := ⟨w.heap.size, j, none⟩) z4)
      clear hcl hbk
      go_wp2
      go_region_held3 (fun w' => w'.cell? ⟨w.heap.size, 0, none⟩ = some (.int .i64 q) ∧ w'.cell? ⟨w.heap.size, 1, none⟩ = some (.int .i64 s) ∧ w'.cell? ⟨w.heap.size, 2, none⟩ = some (.slice a l.length cap) ∧ w'.cell? ⟨w.heap.size, 3, none⟩ = some (.int .i64 fr) ∧ w'.cell? ⟨w.heap.size, 4, none⟩ = some (.int .i64 b))
        (simp [go_sem, World.cell?_alloc_lt, *])
        (first
          | (go_at_call 126; refine (backw_any _ _ _ _).mono ?_; rintro e w5 ⟨rfl, rfl⟩)
          | (go_at_call 123; refine HWK.mono ?_; rintro e w6 ⟨rfl, hg6, ho6⟩; have n0 := HC w6 hg6))
      have ho7 := ho6 trivial
      have hB6 : BoxP w w6 q s fr b (.slice a l.length cap) := box_grown (hB4.below hal) hg6 (by omega)
      clear c0 c1 c2 c3 c4 n0 HC HWK ho6
      go_wp2
      go_ret2
      refine ⟨_, by rw [hf]; rfl, ?_, hB6.old⟩
      have hlen : (spansL q s fr b l).length = l.length + 1 := by rw [← HE.out, backL_length]
      rw [hlen, ← HE.out]
      exact ⟨ho7.1, ho7.2.imp id fun ⟨g, cap, cur, h1, h2, h3⟩ => ⟨g, cap, cur, h1, by omega, h3⟩⟩
end Go.Proofs.YtgjleeamhkolhaaGreatDoor

namespace Go.Proofs.YtgjleeamhkolhaaGreatDoor
open Go.RowKit

section
variable {P : Program} {ops : Array Oper} {md : Region.Mode} {Q : Exit → Act → World → Prop} {w0 : World} {A : Nat → Bool} {tl : Nat} {Z : Array Value} {T : TypeId}

def Clsd (w0 : World) (X : World → Prop) : Prop := (∀ w, X w → Below w0.heap.size w0 w) ∧ ∀ w w', X w → Below w.heap.size w w' → X w'
def YA (P : Program) (ops : Array Oper) (w0 : World) (o : Oper) (v : Value) (a : Act) : Prop := ∀ X, Clsd w0 X → YieldsIn P ops X o v a
structure CS (w0 : World) (Z : Array Value) (T : TypeId) (σ : List (Nat × Nat)) (w : World) : Prop where
  old : Below w0.heap.size w0 w
  at_ : ∀ p ∈ σ, w0.heap.size ≤ p.2 ∧ w.heap[p.2]? = some (.cells Z T (0, 0))
theorem CS.closed (σ : List (Nat × Nat)) : Clsd w0 (CS w0 Z T σ) :=
  ⟨fun _ h => h.old, fun _ _ h hb => ⟨h.old.trans (hb.mono h.old.size), fun p hp => ⟨(h.at_ p hp).1, (hb.block _ (lt_of_block (h.at_ p hp).2)).trans (h.at_ p hp).2⟩⟩⟩
theorem CS.alloc {σ : List (Nat × Nat)} {w : World} (h : CS w0 Z T σ w) (i : Nat) : CS w0 Z T ((i, w.heap.size) :: σ) (w.alloc (.cells Z T)) where
  old := h.old.alloc h.old.size _
  at_ p hp := by
    rcases List.mem_cons.1 hp with rfl | hp
    · exact ⟨h.old.size, heap_alloc_new w _⟩
    · exact ⟨(h.at_ p hp).1, (Below.heap_alloc w _ _ (lt_of_block (h.at_ p hp).2)).trans (h.at_ p hp).2⟩

def anyA (P : Program) (md : Region.Mode) (ops : Array Oper) (Q : Exit → Act → World → Prop) (w0 : World) (A : Nat → Bool) (tl : Nat) (Z : Array Value) (T : TypeId) : Nat → Array Bool → List (Nat × Nat) → Act → Prop
  | 0, _, _, _ => False
  | fuel + 1, listed, σ, a => Region.ready md ops listed ≠ [] ∧ ∀ i ∈ Region.ready md ops listed,
      (i = tl → ∀ w, CS w0 Z T σ w → wpOp P ops Q i (wpAny P md ops Q fuel (listed.setIfInBounds i true)) a w) ∧
      (i ≠ tl → A i = true → ∀ o B, ops[i]? = some o → w0.heap.size ≤ B → B ∉ σ.map (·.2) → anyA P md ops Q w0 A tl Z T fuel (listed.setIfInBounds i true) ((i, B) :: σ) (a.put o.dst (.pointer (some ⟨B, 0, none⟩)))) ∧
      (i ≠ tl → A i = false → ∃ o v, ops[i]? = some o ∧ YA P ops w0 o v a ∧ anyA P md ops Q w0 A tl Z T fuel (listed.setIfInBounds i true) σ (a.put o.dst v))

theorem any_of_A (hA : ∀ i o, A i = true → ops[i]? = some o → o.guard = none ∧ ∀ ρ w, (execOp ρ o).run P w = .ok (.value (.pointer (some ⟨w.heap.size, 0, none⟩))) (w.alloc (.cells Z T))) :
    ∀ (fuel : Nat) (listed : Array Bool) (σ : List (Nat × Nat)) (a : Act) (w : World), CS w0 Z T σ w → anyA P md ops Q w0 A tl Z T fuel listed σ a → wpAny P md ops Q fuel listed a w
  | 0, _, _, _, _, _, h => h.elim
  | fuel + 1, listed, σ, a, w, hw, h => ⟨fun e => absurd e h.1, fun i hi => by
      obtain ⟨h1, h2, h3⟩ := h.2 i hi
      by_cases e : i = tl
      · exact h1 e w hw
      · cases ha : A i with
        | true =>
          obtain ⟨_, o, ho, _⟩ := mem_ready.1 hi
          obtain ⟨hg, hr⟩ := hA i o ha ho
          have hk := h2 e ha o w.heap.size ho hw.old.size (fun hm => by
            obtain ⟨p, hp, hpe⟩ := List.mem_map.1 hm
            have := lt_of_block (hw.at_ p hp).2
            omega)
          refine wpOp_step ho (fun K' hK => ?_)
          rw [if_pos (by simp [Region.wanted, hg])]
          unfold Oper.wp
          rw [hr]
          exact hK _ _ (any_of_A hA fuel _ _ _ _ (hw.alloc i) hk)
        | false =>
          obtain ⟨o, v, ho, hy, hk⟩ := h3 e ha
          exact wpOp_of_qOp (C := CS w0 Z T σ) hw (fun a' w' hw' hk' => any_of_A hA fuel _ σ a' w' hw' hk') ((hy _ (CS.closed σ)).qOp ho hk)⟩

theorem YA.put {o oj : Oper} {v u : Value} {a : Act} (h : YA P ops w0 o v a) (hs : ∀ cs b, o.op ≠ .select cs b) (hap : ∀ d, oj.dst = some d → d ∉ o.looksAt ops) : YA P ops w0 o v (a.put oj.dst u) := fun X hX =>
  (h X hX).of_same (execOp_put o hs a oj.dst u hap) (wanted_put o a oj.dst u hap)
theorem YA.unput {o oi : Oper} {v u : Value} {a : Act} (h : YA P ops w0 o v (a.put oi.dst u)) (hs : ∀ cs b, o.op ≠ .select cs b) (hap : ∀ d, oi.dst = some d → d ∉ o.looksAt ops) : YA P ops w0 o v a := fun X hX =>
  (h X hX).of_same (execOp_put o hs a oi.dst u hap).symm (wanted_put o a oi.dst u hap).symm

theorem anyA_take {i x : Nat} {oi : Oper} {v : Value} (hi : ops[i]? = some oi) (hia : A i = false) (hit : i ≠ tl) (hsel : ∀ (j : Nat) (o : Oper) cs b, ops[j]? = some o → o.op ≠ .select cs b)
    (hx : x = i ∨ ∃ ox, ops[x]? = some ox ∧ ∃ e ∈ ox.after, Region.binds md e = true ∧ e.on = i)
    (hwait : ∀ oL, ops[tl]? = some oL → ∃ e ∈ oL.after, Region.binds md e = true ∧ e.on = x) :
    ∀ (fuel : Nat) (listed : Array Bool) (σ : List (Nat × Nat)) (a : Act), listed.getD x true = false →
      (∀ j oj, ops[j]? = some oj → j ≠ i → listed.getD j true = false → (∀ e ∈ oj.after, Region.binds md e = true → e.on ≠ i) → oi.apart ops oj = true) →
      i ∈ Region.ready md ops listed → YA P ops w0 oi v a →
      anyA P md ops Q w0 A tl Z T fuel (listed.setIfInBounds i true) σ (a.put oi.dst v) → anyA P md ops Q w0 A tl Z T (fuel + 1) listed σ a := by
  intro fuel
  induction fuel with
  | zero => intro _ _ _ _ _ _ _ H; exact H.elim
  | succ fuel ih =>
    intro listed σ a hxu hfree hr hy H
    have hun : listed.getD i true = false := (mem_ready.1 hr).1
    have clash : listed.getD i false = true → False := fun h1 => by
      rcases Nat.lt_or_ge i listed.size with h' | h'
      · simp [h'] at hun h1; rw [hun] at h1; cases h1
      · simp [Array.getElem?_eq_none h'] at h1
    have clashx : listed.getD x false = true → False := fun h1 => by
      rcases Nat.lt_or_ge x listed.size with h' | h'
      · simp [h'] at hxu h1; rw [hxu] at h1; cases h1
      · simp [Array.getElem?_eq_none h'] at h1
    refine ⟨fun e => (by rw [e] at hr; cases hr), fun j hj => ?_⟩
    obtain ⟨hjun, oj, hoj, hall⟩ := mem_ready.1 hj
    have hjl : j ≠ tl := fun e => by
      subst e
      obtain ⟨y, hy', hb, ho⟩ := hwait oj hoj
      exact clashx (by have := hall y hy' hb; rwa [ho] at this)
    refine ⟨fun e => absurd e hjl, ?_⟩
    by_cases hji : j = i
    · subst hji
      exact ⟨fun _ ha => absurd (hia.symm.trans ha) (by simp), fun _ _ => ⟨oi, v, hi, hy, H⟩⟩
    · have hnot : ∀ e ∈ oj.after, Region.binds md e = true → e.on ≠ i := fun e he hb heq => clash (by have := hall e he hb; rwa [heq] at this)
      obtain ⟨a1, a2, a3⟩ := Oper.apart_spec (hfree j oj hoj hji hjun hnot)
      have hjx : j ≠ x := fun e => by
        rcases hx with rfl | ⟨ox, hox, y, hy', hb, ho⟩
        · exact hji e
        · subst e
          rw [hoj] at hox
          cases hox
          exact hnot y hy' hb ho
      obtain ⟨_, h2, h3⟩ := H.2 j (ready_mono hj hji)
      have hxu' : (listed.setIfInBounds j true).getD x true = false := by rw [getD_set_ne true hjx]; exact hxu
      have hfree' : ∀ k ok, ops[k]? = some ok → k ≠ i → (listed.setIfInBounds j true).getD k true = false → (∀ e ∈ ok.after, Region.binds md e = true → e.on ≠ i) → oi.apart ops ok = true := fun k ok hk hki hku hkn => hfree k ok hk hki (by
        by_cases hjk : j = k
        · subst hjk; exact hjun
        · rw [getD_set_ne true hjk] at hku; exact hku) hkn
      refine ⟨fun _ ha o B ho hB hBσ => ?_, fun _ ha => ?_⟩
      · rw [hoj] at ho
        cases ho
        have := h2 hjl ha oj B hoj hB hBσ
        rw [Array.setIfInBounds_comm _ _ (Ne.symm hji), Act.put_comm a v _ a2] at this
        exact ih _ _ _ hxu' hfree' (ready_mono hr (Ne.symm hji)) (hy.put (fun cs b => hsel i oi cs b hi) a3) this
      · obtain ⟨o, u, ho, hyj, hk⟩ := h3 hjl ha
        rw [hoj] at ho
        cases ho
        rw [Array.setIfInBounds_comm _ _ (Ne.symm hji), Act.put_comm a v _ a2] at hk
        exact ⟨oj, u, hoj, hyj.unput (fun cs b => hsel j oj cs b hoj) a1, ih _ _ _ hxu' hfree' (ready_mono hr (Ne.symm hji)) (hy.put (fun cs b => hsel i oi cs b hi) a3) hk⟩

def wpQA (P : Program) (ops : Array Oper) (w0 : World) (Fin : Act → Prop) : List Oper → Act → Prop
  | [], a => Fin a
  | o :: rest, a => ∃ v, YA P ops w0 o v a ∧ wpQA P ops w0 Fin rest (a.put o.dst v)
def listTo (listed : Array Bool) (k : Nat) : Nat → Array Bool
  | 0 => listed
  | n + 1 => listTo (listed.setIfInBounds k true) (k + 1) n
def lexA (md : Region.Mode) (ops : Array Oper) (A : Nat → Bool) (tl : Nat) : Nat → Nat → Array Bool → Bool
  | 0, _, _ => true
  | n + 1, k, listed => (Region.ready md ops listed).contains k && Region.free md ops listed k && (!(A k)) && (k != tl) && (waitsAt md ops tl k listed).isSome && lexA md ops A tl n (k + 1) (listed.setIfInBounds k true)

theorem anyA_lex (hs : Region.noSelect ops = true) (m : Nat) : ∀ (l : List Oper) (k : Nat) (listed : Array Bool) (a : Act), (∀ j, j < l.length → l[j]? = ops[k + j]?) → lexA md ops A tl l.length k listed = true →
    wpQA P ops w0 (anyA P md ops Q w0 A tl Z T m (listTo listed k l.length) []) l a → anyA P md ops Q w0 A tl Z T (l.length + m) listed [] a
  | [], _, _, a, _, _, h => by simpa [wpQA, listTo] using h
  | o :: l, k, listed, a, hl, hB, h => by
    have h0 : ops[k]? = some o := by simpa using (hl 0 (by simp)).symm
    simp only [List.length_cons, lexA, Bool.and_eq_true] at hB
    obtain ⟨⟨⟨⟨⟨hr, hf⟩, hk1⟩, hk2⟩, hwt⟩, hB'⟩ := hB
    obtain ⟨x, hxw⟩ := Option.isSome_iff_exists.1 hwt
    have hxp := List.find?_some hxw
    simp only [Bool.and_eq_true, Bool.not_eq_true'] at hxp
    obtain ⟨⟨hx1, hx2⟩, hx3⟩ := hxp
    obtain ⟨v, hy, hK⟩ := h
    have ih := anyA_lex hs m l (k + 1) (listed.setIfInBounds k true) (a.put o.dst v) (fun j hj => by have := hl (j + 1) (by simp; omega); simpa [Nat.add_assoc, Nat.add_comm 1 j] using this) hB' hK
    have e : (o :: l).length + m = (l.length + m) + 1 := by simp; omega
    rw [e]
    refine anyA_take (x := x) h0 (by simpa using hk1) (by simpa using hk2) (Region.noSelect_spec hs) ?_ (fun oL hoL => ?_) (l.length + m) listed [] a hx1 (Region.free_spec h0 hf) (by simpa using hr) hy ih
    · simp only [Bool.or_eq_true, beq_iff_eq] at hx2
      rcases hx2 with h1 | h1
      · exact Or.inl h1
      · right
        cases hox : ops[x]? with
        | none => rw [hox] at h1; cases h1
        | some ox =>
          rw [hox] at h1
          simp only [List.any_eq_true, Bool.and_eq_true, beq_iff_eq] at h1
          obtain ⟨e, he, h2, h3⟩ := h1
          exact ⟨ox, rfl, e, by simpa using he, h2, h3⟩
    · rw [hoL] at hx3
      simp only [List.any_eq_true, Bool.and_eq_true, beq_iff_eq] at hx3
      obtain ⟨e, he, h2, h3⟩ := hx3
      exact ⟨e, by simpa using he, h2, h3⟩
end
end Go.Proofs.YtgjleeamhkolhaaGreatDoor

namespace Go.Proofs.YtgjleeamhkolhaaGreatDoor
open Go.RowKit

section
variable {P : Program} {ops : Array Oper} {md : Region.Mode} {Q : Exit → Act → World → Prop} {w0 : World} {A : Nat → Bool} {Z : Array Value} {T : TypeId}

theorem YA_of {o : Oper} {v : Value} {a : Act} (hg : o.guard = none) (h : ∀ W, Below w0.heap.size w0 W → (execOp a.eval o).run P W = .ok (.value v) W) : YA P ops w0 o v a := fun X hX =>
  .inl ⟨by simp [Region.wanted, hg], fun W hW => by unfold Oper.quietAt; rw [h W (hX.1 W hW)]; exact ⟨rfl, rfl⟩⟩
theorem YA_call {o : Oper} {v : Value} {a : Act} {f : FuncId} {args : Array Value} (hg : o.guard = none) (h : ∀ W, Below w0.heap.size w0 W → (execOp a.eval o).run P W = .ok (.enter f args) W)
    (hc : ∀ W, Calls P f args W fun e w' => e = .returned v ∧ Below W.heap.size W w') : YA P ops w0 o v a := fun X hX =>
  .inl ⟨by simp [Region.wanted, hg], fun W hW => by
    unfold Oper.quietAt
    rw [h W (hX.1 W hW)]
    exact ⟨rfl, (hc W).mono fun e w' ⟨h1, h2⟩ => ⟨h1, hX.2 W w' hW h2⟩⟩⟩

theorem wpQA_cons {F : Act → Prop} {o : Oper} {rest : List Oper} {a : Act} (v : Value) (h : YA P ops w0 o v a) (hr : wpQA P ops w0 F rest (a.put o.dst v)) : wpQA P ops w0 F (o :: rest) a := ⟨v, h, hr⟩
theorem wpQA_nil {F : Act → Prop} {a : Act} (h : F a) : wpQA P ops w0 F [] a := h

theorem wpOp_go {i : Nat} {o : Oper} {K : Act → World → Prop} {a : Act} {w : World} (ho : ops[i]? = some o) (hg : o.guard = none) (h : ∀ K' : Act → World → Prop, (∀ a w, K a w → K' a w) → o.wp P a w K' Q) : wpOp P ops Q i K a w :=
  wpOp_step ho (fun K' hK => by rw [if_pos (by simp [Region.wanted, hg])]; exact h K' hK)

def noDefer (ops : Array Oper) : Bool := ops.all fun o => match o.op with | .defer _ => false | _ => true
theorem noDefer_at (h : noDefer ops = true) {i : Nat} {o : Oper} (ho : ops[i]? = some o) : ∀ c, o.op ≠ .defer c := fun c hc => by
  have hm : o ∈ ops := Array.mem_of_getElem? ho
  have := Array.all_eq_true'.1 h o hm
  rw [hc] at this
  cases this

theorem opIn_of {lp n : Nat} (hd : noDefer ops = true) (hQ : ¬ LetsOut Q) {i : Nat} {K K' : Act → World → Prop} {a : Act} {w : World} (hK : ∀ a w, K a w → K' a w) (h : wpOp P ops Q i K a w) : wpOpIn (Fence.wide.inRound lp) n P ops Q i K' a w := by
  unfold wpOp at h
  unfold wpOpIn
  cases ho : ops[i]? with
  | none => simp only [ho] at h ⊢; exact hK _ _ h
  | some o =>
    simp only [ho] at h ⊢
    split
    · rename_i hw
      rw [if_pos hw] at h
      rcases h with h | h
      · refine ⟨fun _ _ => trivial, ?_⟩
        rw [Oper.semAt_eq _ _ _ (noDefer_at hd ho)]
        unfold Oper.wp at h
        generalize (execOp a.eval o).run P w = r at h ⊢
        cases r with
        | ok x w' =>
          cases x <;> simp only [Oper.upon] at h <;> simp only [Oper.uponIn]
          case value v => exact hK _ _ h
          case skip => exact hK _ _ h
          case defer d => exact hK _ _ h
          case enter f args =>
            refine ⟨fun e => by simp [Fence.wide, Fence.inRound] at e, CallsIn.inRound lp (callsIn_wide.2 (h.mono fun e w'' he => ?_))⟩
            cases e with
            | returned v => exact hK _ _ he
            | panicked c => exact he
            | outgrown => exact he
          case row row args =>
            refine ⟨fun e => by simp [Fence.wide, Fence.inRound] at e, fun c cs _ => ?_⟩
            obtain ⟨v, w'', hr, hs⟩ := h c cs
            exact ⟨v, w'', hK _ _ hr, stepsIn_wide.2 hs⟩
        | halt x w' => cases x <;> simp only [Oper.upon] at h <;> simp only [Oper.uponIn] <;> exact h
      · exact absurd h.2 hQ
    · rename_i hw
      rw [if_neg hw] at h
      exact ⟨fun _ _ => trivial, hK _ _ h⟩

theorem anyIn_of {lp n : Nat} (hd : noDefer ops = true) (hQ : ¬ LetsOut Q) : ∀ (fuel : Nat) (listed : Array Bool) (a : Act) (w : World), wpAny P md ops Q fuel listed a w → wpAnyIn (Fence.wide.inRound lp) n P md ops Q fuel listed a w
  | 0, _, _, _, h => h
  | fuel + 1, _, _, _, h => ⟨h.1, fun i hi => opIn_of hd hQ (fun a' w' h' => anyIn_of hd hQ fuel _ a' w' h') (h.2 i hi)⟩

end
end Go.Proofs.YtgjleeamhkolhaaGreatDoor
