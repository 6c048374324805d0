/- Joined texts: Spec, LawSpec, LawImpl, Last, GrownMore, SpanSpec, CopyS, NextSpec, NextImpl. -/
import Derived.Maps.AppendAt
import Derived.Deep.Quiet
import Derived.Deep.RegionHeld3
import Derived.Deep.DeepCutAuto
import Derived.Test.YtgkebobmfagklaaJ01
namespace Go.Proofs.Ytgkebobmfagklaa
open Go.RowKit

theorem kindS_any (q s : Int) (w : World) :
    Calls Try.prog 49 #[.agg #[.int .i64 q, .int .i64 s]] w fun e w' => e = .returned (.bool (kindB q s)) ∧ Below w.heap.size w w' := by
  have hb := (Below.refl w.heap.size w).alloc (Nat.le_refl _) (.cells #[.int .i64 q, .int .i64 s] 31)
  have ER : Hid (kindB q s = (inB q 1 s && decide (s ≤ 50))) := by
    show _ = _
    rw [Bool.eq_iff_iff]; simp [kindB, inB]; omega
  cases hk : inB q 1 s
  all_goals
    go_enter Try.func49, Try.ntmps49
    go_wp2_with (go_at_call 34; refine (in_any _ _ _ _).mono ?_; rintro e w' ⟨rfl, rfl⟩)
    go_ret
    exact ⟨by rw [ER.out, hk]; simp, hb⟩

set_option maxHeartbeats 2000000 in
theorem pathS_no (q s fr b : Int) (a : Option Addr) (_b0 _o cap : Nat) (l : List Stp) (w : World) (_hl : l.length ≤ 1048576)
    (hno : (kindB q s && inB l.length 1 40 && inB fr 0 b && decide (b ≤ 10000)) = false) :
    Calls Try.prog 31 #[.agg #[.int .i64 q, .int .i64 s, .slice a l.length cap, .int .i64 fr, .int .i64 b]] w fun e w' => e = .returned (.bool false) ∧ Below w.heap.size w w' := by
  rcases (show kindB q s = false ∨ (kindB q s = true ∧ inB l.length 1 40 = false) ∨ (kindB q s = true ∧ inB l.length 1 40 = true ∧ inB fr 0 b = false) ∨ (kindB q s = true ∧ inB l.length 1 40 = true ∧ inB fr 0 b = true ∧ 10000 < b) by
    by_cases h : b ≤ 10000
    · revert hno; cases kindB q s <;> cases inB l.length 1 40 <;> cases inB fr 0 b <;> simp [h]
    · have h' : 10000 < b := by omega
      cases kindB q s <;> cases inB l.length 1 40 <;> cases inB fr 0 b <;> simp [h']) with h1 | ⟨h1, h2⟩ | ⟨h1, h2, h3⟩ | ⟨h1, h2, h3, h4⟩
  all_goals
    clear hno
    go_enter Try.func31, Try.ntmps31
    go_wp2_with fail
    refine (kindS_any _ _ _).mono ?_
    rintro e w1 ⟨rfl, hb1⟩
    have hb01 : Below w.heap.size w w1 := ((Below.refl w.heap.size w).alloc (Nat.le_refl _) _).trans (hb1.mono (by simp))
    have c2 : w1.cell? ⟨w.heap.size, 2, none⟩ = some (.slice a l.length cap) := by rw [hb1.cell (p := ⟨w.heap.size, 2, none⟩) (by simp)]; simp [go_sem]
    have c3 : w1.cell? ⟨w.heap.size, 3, none⟩ = some (.int .i64 fr) := by rw [hb1.cell (p := ⟨w.heap.size, 3, none⟩) (by simp)]; simp [go_sem]
    have c4 : w1.cell? ⟨w.heap.size, 4, none⟩ = some (.int .i64 b) := by rw [hb1.cell (p := ⟨w.heap.size, 4, none⟩) (by simp)]; simp [go_sem]
    clear hb1
    go_wp2_with (go_at_call 34; refine (in_any _ _ _ _).mono ?_; rintro e w' ⟨rfl, rfl⟩)
    go_ret
    exact ⟨rfl, hb01⟩

theorem stepOkS_val (x y lo hi fr b : Int) (ho v : Bool) (w : World) (hv : stepB x y lo hi fr b = v) :
    Calls Try.prog 50 #[.agg #[.int .i64 x, .int .i64 y, .int .i64 lo, .int .i64 hi, .int .i64 fr, .int .i64 b, .bool ho]] w fun e w' => e = .returned (.bool v) ∧ Below w.heap.size w w' := by
  rw [← hv]; exact stepOkS_any x y lo hi fr b ho w

theorem nextS_val (x y lo hi fr b x' y' lo' hi' fr' b' : Int) (ho ho' v : Bool) (w : World) (hv : folB x y lo hi x' y' lo' hi' = v) :
    Calls Try.prog 51 #[.agg #[.int .i64 x, .int .i64 y, .int .i64 lo, .int .i64 hi, .int .i64 fr, .int .i64 b, .bool ho], .agg #[.int .i64 x', .int .i64 y', .int .i64 lo', .int .i64 hi', .int .i64 fr', .int .i64 b', .bool ho']] w
      fun e w' => e = .returned (.bool v) ∧ Below w.heap.size w w' := by
  rw [← hv]; exact nextS_any x y lo hi fr b x' y' lo' hi' fr' b' ho ho' w

set_option maxHeartbeats 4000000 in
theorem pathS_yes (q s fr b : Int) (a : Option Addr) (b0 o cap : Nat) (l : List Stp) (w : World) (hs : StepsAt w a b0 o l)
    (h1 : kindB q s = true) (h2 : inB l.length 1 40 = true) (h3 : inB fr 0 b = true) (h4 : b ≤ 10000) :
    Calls Try.prog 31 #[.agg #[.int .i64 q, .int .i64 s, .slice a l.length cap, .int .i64 fr, .int .i64 b]] w fun e w' => e = .returned (.bool (goodTo l l.length)) ∧ Below w.heap.size w w' := by
  have hn := (inB_iff _ _ _).1 h2
  go_enter Try.func31, Try.ntmps31
  go_wp2_with fail
  refine (kindS_any _ _ _).mono ?_
  rintro e w1 ⟨rfl, hb1⟩
  have hb01 : Below w.heap.size w w1 := ((Below.refl w.heap.size w).alloc (Nat.le_refl _) _).trans (hb1.mono (by simp))
  have hz : w.heap.size < w1.heap.size := by have := hb1.size; simp at this; omega
  have c2 : w1.cell? ⟨w.heap.size, 2, none⟩ = some (.slice a l.length cap) := by rw [hb1.cell (p := ⟨w.heap.size, 2, none⟩) (by simp)]; simp [go_sem]
  have c3 : w1.cell? ⟨w.heap.size, 3, none⟩ = some (.int .i64 fr) := by rw [hb1.cell (p := ⟨w.heap.size, 3, none⟩) (by simp)]; simp [go_sem]
  have c4 : w1.cell? ⟨w.heap.size, 4, none⟩ = some (.int .i64 b) := by rw [hb1.cell (p := ⟨w.heap.size, 4, none⟩) (by simp)]; simp [go_sem]
  clear hb1
  go_wp2_with (go_at_call 34; refine (in_any _ _ _ _).mono ?_; rintro e w' ⟨rfl, rfl⟩)
  clear c3 c4
  go_loopw [3] (fun v wr => ∃ k : Nat, k ≤ l.length ∧ v = .int .i64 k ∧ Below w.heap.size w wr ∧ w.heap.size < wr.heap.size ∧ wr.cell? ⟨w.heap.size, 2, none⟩ = some (.slice a l.length cap) ∧ goodTo l k = true) (fun v _ => l.length - (intOf v).toNat)
  case atStart => exact ⟨0, Nat.zero_le _, rfl, hb01, hz, c2, goodTo_zero l⟩
  case round =>
    clear hb01 hz c2 h1 h2 h3
    obtain ⟨k, hk, rfl, hb, hz, c2, hgood⟩ := hrel
    have HG : Hid (goodTo l k = true) := hgood
    clear hgood
    by_cases hlt : k < l.length
    · obtain ⟨t, htk⟩ : ∃ t, l[k]? = some t := ⟨l[k], List.getElem?_eq_getElem hlt⟩
      have hne : l ≠ [] := by intro e; subst e; simp at hlt
      obtain rfl := hs.here hne
      have hbw := hs.lt hne
      have hbx : b0 < wr.heap.size := Nat.lt_of_lt_of_le hbw hb.size
      obtain ⟨d0, d1, d2, d3, d4, d5, d6⟩ := (hs.below hb (fun _ => hbw)).seven htk
      have k0 : (0 : Int) ≤ (k : Int) := by omega
      have k1 : (k : Int) < (l.length : Int) := by omega
      have HT : Hid (l.getD k .zero = t) := by show _ = _; simp [List.getD, htk]
      have HS := (hs.below hb (fun _ => hbw))
      clear htk
      cases hok : stepB t.x t.y t.lo t.hi t.fr t.by_ with
      | false =>
        go_wp2
        have qn := Cls.any wr
        have q0 := Cls.cell hbx
        have q1 := Cls.cell hz
        refine wp_region_cls (by kernel_rfl) (by kernel_rfl) ?_
        repeat (go_big_quiet_step ((go_at_call 50; exact Calls.cls_of (stepOkS_val _ _ _ _ _ _ _ _ _ hok))))
        refine wpQuiet_nil ?_
        rintro _ ⟨u, rfl⟩
        go_wp2
        go_ret
        exact ⟨by rw [goodTo_not hlt (goodS_bad HT.out hok)]; rfl, hb.trans (u.same.mono hb.size)⟩
      | true =>
        have qn := Cls.any wr
        have q0 := Cls.cell hbx
        have q1 := Cls.cell hz
        rcases Nat.eq_zero_or_pos k with hk0 | hk0
        · have G1 : Hid (goodTo l (k + 1) = true) := by
            show _ = _
            subst hk0; rw [goodTo_succ, HG.out, goodS_first HT.out hok]; rfl
          subst hk0
          clear hk k0
          simp only [Nat.zero_mul, Nat.add_zero] at d0 d1 d2 d3 d4 d5 d6
          go_wp2
          refine wp_region_cls (by kernel_rfl) (by kernel_rfl) ?_
          repeat (go_big_quiet_step ((go_at_call 50; exact Calls.cls_of (stepOkS_val _ _ _ _ _ _ _ _ _ hok))))
          refine wpQuiet_nil ?_
          rintro _ ⟨u, rfl⟩
          go_wp2
          go_roundw
          case rel => exact ⟨0 + 1, by omega, by go_num, hb.trans (u.same.mono hb.size), Nat.lt_of_lt_of_le hz u.same.size, by rw [q1 u]; exact c2, G1.out⟩
          case measure => simp [intOf]; omega
        · obtain ⟨p, hpk⟩ : ∃ p, l[k - 1]? = some p := ⟨l[k - 1], List.getElem?_eq_getElem (by omega)⟩
          have HP : Hid (l.getD (k - 1) .zero = p) := by show _ = _; simp [List.getD, hpk]
          obtain ⟨m, rfl⟩ : ∃ m, k = m + 1 := ⟨k - 1, by omega⟩
          simp only [Nat.add_sub_cancel] at hpk HP
          obtain ⟨g0, g1, g2, g3, g4, g5, g6⟩ := HS.seven hpk
          clear hpk HS hk0
          cases hfo : folB p.x p.y p.lo p.hi t.x t.y t.lo t.hi with
          | false =>
            have G1 : Hid (goodTo l l.length = false) := by
              show _ = _
              exact goodTo_not hlt (goodS_next HT.out HP.out hok hfo)
            go_wp2
            refine wp_region_cls (by kernel_rfl) (by kernel_rfl) ?_
            repeat (go_big_quiet_step (first | (go_at_call 50; exact Calls.cls_of (stepOkS_val _ _ _ _ _ _ _ _ _ hok)) | (go_at_call 51; exact Calls.cls_of (nextS_val _ _ _ _ _ _ _ _ _ _ _ _ _ _ _ _ hfo))))
            refine wpQuiet_nil ?_
            rintro _ ⟨u, rfl⟩
            go_wp2
            go_ret
            exact ⟨by rw [G1.out]; rfl, hb.trans (u.same.mono hb.size)⟩
          | true =>
            have G1 : Hid (goodTo l (m + 1 + 1) = true) := by
              show _ = _
              rw [goodTo_succ, HG.out, goodS_next HT.out HP.out hok hfo]; rfl
            go_wp2
            refine wp_region_cls (by kernel_rfl) (by kernel_rfl) ?_
            repeat (go_big_quiet_step (first | (go_at_call 50; exact Calls.cls_of (stepOkS_val _ _ _ _ _ _ _ _ _ hok)) | (go_at_call 51; exact Calls.cls_of (nextS_val _ _ _ _ _ _ _ _ _ _ _ _ _ _ _ _ hfo))))
            refine wpQuiet_nil ?_
            rintro _ ⟨u, rfl⟩
            go_wp2
            go_roundw
            case rel => exact ⟨m + 1 + 1, by omega, by go_num, hb.trans (u.same.mono hb.size), Nat.lt_of_lt_of_le hz u.same.size, by rw [q1 u]; exact c2, G1.out⟩
            case measure => simp [intOf]; omega
    · obtain rfl : k = l.length := by omega
      go_wp2
      go_ret
      exact ⟨by rw [HG.out]; rfl, hb⟩

theorem pathS_any (q s fr b : Int) (a : Option Addr) (b0 o cap : Nat) (l : List Stp) (w : World) (hl : l.length ≤ 1048576) (hs : StepsAt w a b0 o l) :
    Calls Try.prog 31 #[.agg #[.int .i64 q, .int .i64 s, .slice a l.length cap, .int .i64 fr, .int .i64 b]] w fun e w' => e = .returned (.bool (pathB q s fr b l)) ∧ Below w.heap.size w w' := by
  cases h : (kindB q s && inB l.length 1 40 && inB fr 0 b && decide (b ≤ 10000)) with
  | false =>
    have e1 : pathB q s fr b l = false := by unfold pathB; rw [h]; rfl
    rw [e1]
    exact pathS_no q s fr b a b0 o cap l w hl h
  | true =>
    have e1 : pathB q s fr b l = goodTo l l.length := by unfold pathB; rw [h]; rfl
    rw [e1]
    simp only [Bool.and_eq_true, decide_eq_true_eq] at h
    exact pathS_yes q s fr b a b0 o cap l w hs h.1.1.1 h.1.1.2 h.1.2 h.2
end Go.Proofs.Ytgkebobmfagklaa

namespace Go.Proofs.Ytgkebobmfagklaa
open Go.RowKit

theorem low_any (q s fr b : Int) (a : Option Addr) (b0 o cap : Nat) (l : List Stp) (k : Nat) (w : World) (hl : l.length ≤ 1048576) (hs : StepsAt w a b0 o l) :
    Calls Try.prog 57 #[.agg #[.int .i64 q, .int .i64 s, .slice a l.length cap, .int .i64 fr, .int .i64 b], .int .i64 (k : Int)] w fun e w' => e = .returned (.int .i64 (lowB fr l k)) ∧ Below w.heap.size w w' := by
  have hb := (Below.refl w.heap.size w).alloc (Nat.le_refl _) (.cells #[.int .i64 q, .int .i64 s, .slice a l.length cap, .int .i64 fr, .int .i64 b] 34)
  by_cases hlt : k < l.length
  · obtain ⟨t, htk⟩ : ∃ t, l[k]? = some t := ⟨l[k], List.getElem?_eq_getElem hlt⟩
    have hne : l ≠ [] := by intro e; subst e; simp at hlt
    obtain rfl := hs.here hne
    have hbw := hs.lt hne
    obtain ⟨_, _, _, _, d4, _, _⟩ := (hs.alloc (.cells #[.int .i64 q, .int .i64 s, .slice (some ⟨b0, o, none⟩) l.length cap, .int .i64 fr, .int .i64 b] 34)).seven htk
    have HE : Hid (lowB fr l k = t.fr) := by show _ = _; unfold lowB; rw [if_pos hlt]; simp [List.getD, htk]
    clear htk
    go_enter Try.func57, Try.ntmps57
    go_wp2
    go_ret
    exact ⟨by rw [HE.out]; rfl, hb⟩
  · have HE : Hid (lowB fr l k = fr) := by show _ = _; unfold lowB; rw [if_neg hlt]
    go_enter Try.func57, Try.ntmps57
    go_wp2
    go_ret
    exact ⟨by rw [HE.out]; rfl, hb⟩

theorem high_any (q s fr b : Int) (a : Option Addr) (b0 o cap : Nat) (l : List Stp) (k : Nat) (w : World) (hl : l.length ≤ 1048576) (hs : StepsAt w a b0 o l) :
    Calls Try.prog 58 #[.agg #[.int .i64 q, .int .i64 s, .slice a l.length cap, .int .i64 fr, .int .i64 b], .int .i64 (k : Int)] w fun e w' => e = .returned (.int .i64 (highB b l k)) ∧ Below w.heap.size w w' := by
  have hb := (Below.refl w.heap.size w).alloc (Nat.le_refl _) (.cells #[.int .i64 q, .int .i64 s, .slice a l.length cap, .int .i64 fr, .int .i64 b] 34)
  by_cases hlt : k < l.length
  · obtain ⟨t, htk⟩ : ∃ t, l[k]? = some t := ⟨l[k], List.getElem?_eq_getElem hlt⟩
    have hne : l ≠ [] := by intro e; subst e; simp at hlt
    obtain rfl := hs.here hne
    have hbw := hs.lt hne
    obtain ⟨_, _, _, _, _, d5, _⟩ := (hs.alloc (.cells #[.int .i64 q, .int .i64 s, .slice (some ⟨b0, o, none⟩) l.length cap, .int .i64 fr, .int .i64 b] 34)).seven htk
    have HE : Hid (highB b l k = t.by_) := by show _ = _; unfold highB; rw [if_pos hlt]; simp [List.getD, htk]
    clear htk
    go_enter Try.func58, Try.ntmps58
    go_wp2
    go_ret
    exact ⟨by rw [HE.out]; rfl, hb⟩
  · have HE : Hid (highB b l k = b) := by show _ = _; unfold highB; rw [if_neg hlt]
    go_enter Try.func58, Try.ntmps58
    go_wp2
    go_ret
    exact ⟨by rw [HE.out]; rfl, hb⟩

theorem most_any (q s fr b : Int) (a : Option Addr) (b0 o cap : Nat) (l : List Stp) (k : Nat) (w : World) (hl : l.length ≤ 1048576) (hs : StepsAt w a b0 o l) (hlt : k < l.length) :
    Calls Try.prog 59 #[.agg #[.int .i64 q, .int .i64 s, .slice a l.length cap, .int .i64 fr, .int .i64 b], .int .i64 (k : Int)] w fun e w' => e = .returned (.int .i64 (mostB s l k)) ∧ Below w.heap.size w w' := by
  have hb := (Below.refl w.heap.size w).alloc (Nat.le_refl _) (.cells #[.int .i64 q, .int .i64 s, .slice a l.length cap, .int .i64 fr, .int .i64 b] 34)
  obtain ⟨t, htk⟩ : ∃ t, l[k]? = some t := ⟨l[k], List.getElem?_eq_getElem hlt⟩
  have hne : l ≠ [] := by intro e; subst e; simp at hlt
  obtain rfl := hs.here hne
  have hbw := hs.lt hne
  obtain ⟨_, _, _, _, _, _, d6⟩ := (hs.alloc (.cells #[.int .i64 q, .int .i64 s, .slice (some ⟨b0, o, none⟩) l.length cap, .int .i64 fr, .int .i64 b] 34)).seven htk
  have HE : Hid (mostB s l k = if t.ho then 10000 else s) := by show _ = _; unfold mostB; simp [List.getD, htk]
  clear htk
  cases hho : t.ho with
  | true =>
    have HF : Hid (mostB s l k = 10000) := by show _ = _; rw [HE.out, hho]; rfl
    rw [hho] at d6
    go_enter Try.func59, Try.ntmps59
    go_wp2
    go_ret
    exact ⟨by rw [HF.out]; rfl, hb⟩
  | false =>
    have HF : Hid (mostB s l k = s) := by show _ = _; rw [HE.out, hho]; rfl
    rw [hho] at d6
    go_enter Try.func59, Try.ntmps59
    go_wp2
    go_ret
    exact ⟨by rw [HF.out]; rfl, hb⟩
end Go.Proofs.Ytgkebobmfagklaa

namespace Go.Proofs.Ytgkebobmfagklaa
open Go.RowKit

set_option maxHeartbeats 1000000 in
theorem stay_any (x y lo hi fr b q s : Int) (ho : Bool) (w : World) :
    Calls Try.prog 70 #[.agg #[.int .i64 x, .int .i64 y, .int .i64 lo, .int .i64 hi, .int .i64 fr, .int .i64 b, .bool ho], .agg #[.int .i64 q, .int .i64 s]] w
      fun e w' => e = .returned (.tuple #[.int .i64 q, .int .i64 (if ho then 10000 else s)]) ∧ Below w.heap.size w w' := by
  have hb : ∀ c1 c2 : Array Value, Below w.heap.size w ((w.alloc (.cells c1 75)).alloc (.cells c2 31)) := fun c1 c2 => ((Below.refl w.heap.size w).alloc (Nat.le_refl _) _).alloc (by simp) _
  cases ho with
  | true =>
    go_enter Try.func70, Try.ntmps70
    go_wp2
    go_ret2
    exact ⟨rfl, hb _ _⟩
  | false =>
    go_enter Try.func70, Try.ntmps70
    go_wp2
    go_quiet (fail)
    go_wp2
    go_ret2
    exact ⟨rfl, (hb _ _).trans ⟨rfl, rfl, rfl, Nat.le_refl _, fun _ _ => rfl⟩⟩

set_option maxHeartbeats 1000000 in
theorem windowS_any (x y lo hi fr b : Int) (ho : Bool) (w : World) :
    Calls Try.prog 107 #[.agg #[.int .i64 x, .int .i64 y, .int .i64 lo, .int .i64 hi, .int .i64 fr, .int .i64 b, .bool ho]] w
      fun e w' => e = .returned (.tuple #[.int .i64 fr, .int .i64 b]) ∧ Below w.heap.size w w' := by
  have hb : ∀ c1 : Array Value, Below w.heap.size w (w.alloc (.cells c1 75)) := fun c1 => (Below.refl w.heap.size w).alloc (Nat.le_refl _) _
  go_enter Try.func107, Try.ntmps107
  go_wp2
  go_quiet (fail)
  go_wp2
  go_ret2
  exact ⟨rfl, (hb _).trans ⟨rfl, rfl, rfl, Nat.le_refl _, fun _ _ => rfl⟩⟩

set_option maxHeartbeats 1000000 in
theorem windowE_any (fr b : Int) (w : World) :
    Calls Try.prog 108 #[.agg #[.int .i64 fr, .int .i64 b]] w
      fun e w' => e = .returned (.tuple #[.int .i64 fr, .int .i64 b]) ∧ Below w.heap.size w w' := by
  have hb : ∀ c1 : Array Value, Below w.heap.size w (w.alloc (.cells c1 112)) := fun c1 => (Below.refl w.heap.size w).alloc (Nat.le_refl _) _
  go_enter Try.func108, Try.ntmps108
  go_wp2
  go_quiet (fail)
  go_wp2
  go_ret2
  exact ⟨rfl, (hb _).trans ⟨rfl, rfl, rfl, Nat.le_refl _, fun _ _ => rfl⟩⟩

theorem bound_info : (Try.prog.info? 101).map (fun i => (i.zero, i.size, i.bytes)) = some (some .nilIface, 1, 16) := by kernel_rfl

/-- A step as a bound. -/
abbrev stepV (s : Stp) : Value := .iface 75 s.val
/-- What the list of bounds holds when k steps are in. -/
def bndTo (l : List Stp) (k : Nat) : List Value := (List.range k).map fun i => stepV (l.getD i .zero)
theorem bndTo_succ (l : List Stp) (k : Nat) : bndTo l (k + 1) = bndTo l k ++ [stepV (l.getD k .zero)] := by simp [bndTo, List.range_succ]
theorem bndTo_length (l : List Stp) (k : Nat) : (bndTo l k).length = k := by simp [bndTo]

theorem owns_from {w : World} {base e size n : Nat} {v : Value} {xs : List Value} (h : w.ownsRow base e size v n xs) : ∀ k, v.ownBlock = some k → base ≤ k := by
  intro k hk
  rcases h.2 with ⟨rfl, _⟩ | ⟨g, cap, cur, rfl, hg, _⟩
  · simp [Value.ownBlock] at hk
  · simp [Value.ownBlock] at hk; omega
theorem owns_mono {w : World} {base base' e size n : Nat} {v : Value} {xs : List Value} (h : w.ownsRow base e size v n xs) (hb : base' ≤ base) : w.ownsRow base' e size v n xs :=
  ⟨h.1, h.2.imp id fun ⟨g, cap, cur, h1, h2, h3⟩ => ⟨g, cap, cur, h1, Nat.le_trans hb h2, h3⟩⟩

set_option maxHeartbeats 2000000 in
theorem bounds_any (q s fr b : Int) (a : Option Addr) (b0 o cap : Nat) (l : List Stp) (w : World) (hl : l.length ≤ 1048576) (hs : StepsAt w a b0 o l) :
    Calls Try.prog 76 #[.agg #[.int .i64 q, .int .i64 s, .slice a l.length cap, .int .i64 fr, .int .i64 b]] w
      fun e w' => ∃ v, e = .returned v ∧ w'.ownsRow w.heap.size 101 1 v (l.length + 1) (bndTo l l.length ++ [.iface 112 (.agg #[.int .i64 fr, .int .i64 b])]) ∧ Below w.heap.size w w' := by
  obtain ⟨i0, hi, hz0, hz1, hz2⟩ := info_parts bound_info
  go_enter Try.func76, Try.ntmps76
  go_wp2
  go_loopw [3, 9] (fun u v wr => ∃ k : Nat, k ≤ l.length ∧ v = .int .i64 k ∧ BoxP w wr q s fr b (.slice a l.length cap) ∧ wr.ownsRow (w.heap.size + 1) 101 1 u k (bndTo l k)) (fun _ v _ => l.length - (intOf v).toNat)
  case atStart => exact ⟨0, Nat.zero_le _, rfl, BoxP.new w q s fr b _ _, World.ownsRow_nil _ _ _ _⟩
  case round =>
    obtain ⟨k, hk, rfl, hB, hown⟩ := hrel
    by_cases hlt : k < l.length
    · obtain ⟨t, htk⟩ : ∃ t, l[k]? = some t := ⟨l[k], List.getElem?_eq_getElem hlt⟩
      have hne : l ≠ [] := by intro e; subst e; simp at hlt
      obtain rfl := hs.here hne
      obtain ⟨d0, d1, d2, d3, d4, d5, d6⟩ := (hs.below hB.old hs.lt).seven htk
      have HT : Hid (l.getD k .zero = t) := by show _ = _; simp [List.getD, htk]
      clear htk
      have hz := hB.lt
      have c1 : ∀ (j : Nat) (u : Value), [stepV t][j]? = some u → ((wr.alloc (.cells #[.int .i64 t.x, .int .i64 t.y, .int .i64 t.lo, .int .i64 t.hi, .int .i64 t.fr, .int .i64 t.by_, .bool t.ho] 75)).alloc (.cells #[stepV t] 101)).cell? ((⟨wr.heap.size + 1, 0, none⟩ : Addr).add j) = some u := by
        intro j u hj
        match j, hj with
        | 0, hj => simp at hj; subst hj; simp [Addr.add, go_sem]
      have HC : Hid (∀ (j : Nat) (u : Value), [stepV t][j]? = some u → ((wr.alloc (.cells #[.int .i64 t.x, .int .i64 t.y, .int .i64 t.lo, .int .i64 t.hi, .int .i64 t.fr, .int .i64 t.by_, .bool t.ho] 75)).alloc (.cells #[stepV t] 101)).cell? ((⟨wr.heap.size + 1, 0, none⟩ : Addr).add j) = some u) := c1
      clear c1
      go_wp2_with (at_builtin; (refine wpList_append_own _ rfl _ _ 98 rfl (w.heap.size + 1) 101 i0 .nilIface 1 16 Try.underlying98 hi hz0 hz1 hz2 rfl (by decide) _ _ _ rfl ((hown.alloc _).alloc _) ⟨wr.heap.size + 1, 0, none⟩ 1 1 [stepV t] rfl rfl HC.out (by simp [Value.oneCell']) (by unfold maxLen; omega) (by omega) (by simp; omega) ?_); intro v' w1 hown' hgrow _)
      have hbel : Below (w.heap.size + 1) wr w1 := (((Below.refl (w.heap.size + 1) wr).alloc (by omega) _).alloc (by simp; omega) _).grown hgrow (by simp; omega) (owns_from hown)
      refine ⟨⟨k + 1, by omega, by go_num, hB.keep hbel, ?_⟩, by simp [intOf]; omega⟩
      rw [bndTo_succ, HT.out]
      exact hown'
    · obtain rfl : k = l.length := by omega
      have hz := hB.lt
      have p3 := hB.p3
      have p4 := hB.p4
      go_wp2_with (at_builtin; (refine wpList_append_own _ rfl _ _ 98 rfl (w.heap.size + 1) 101 i0 .nilIface 1 16 Try.underlying98 hi hz0 hz1 hz2 rfl (by decide) _ _ _ rfl (hown.alloc _) ⟨wr.heap.size, 0, none⟩ 1 1 [.iface 112 (.agg #[.int .i64 fr, .int .i64 b])] rfl rfl (cell_one_new _ _ _) (by simp [Value.oneCell']) (by unfold maxLen; omega) (by omega) (by simp; omega) ?_); intro v' w1 hown' hgrow _)
      have hbel : Below (w.heap.size + 1) wr w1 := ((Below.refl (w.heap.size + 1) wr).alloc (by omega) _).grown hgrow (by simp; omega) (owns_from hown)
      go_ret
      exact ⟨_, rfl, owns_mono hown' (by omega), (hB.keep hbel).old⟩
end Go.Proofs.Ytgkebobmfagklaa

namespace Go.Proofs.Ytgkebobmfagklaa
open Go.RowKit

section
variable {P : Program} {ops : Array Oper} {md : Region.Mode} {C : World → Prop} {last : Nat} {Q : Exit → Act → World → Prop}

/-- Whatever order is picked from here on: all operations but the last one are quiet; the last one comes up when nothing else is left. -/
def anyL (P : Program) (md : Region.Mode) (ops : Array Oper) (C : World → Prop) (last : Nat) (Q : Exit → Act → World → Prop) : Nat → Array Bool → Act → Prop
  | 0, _, _ => False
  | fuel + 1, listed, a => Region.ready md ops listed ≠ [] ∧ ∀ i ∈ Region.ready md ops listed,
      (i = last → Region.ready md ops (listed.setIfInBounds last true) = [] ∧ ∀ w, C w → wpOp P ops Q last (fun a' w' => Q .normal a' w') a w) ∧
      (i ≠ last → qOp P ops C i (anyL P md ops C last Q fuel (listed.setIfInBounds i true)) a)

theorem any_done {listed : Array Bool} (h : Region.ready md ops listed = []) {a : Act} {w : World} (hq : Q .normal a w) : ∀ fuel, wpAny P md ops Q fuel listed a w
  | 0 => ⟨h, hq⟩
  | _ + 1 => ⟨fun _ => hq, fun i hi => by rw [h] at hi; cases hi⟩

theorem any_of_L : ∀ (fuel : Nat) (listed : Array Bool) (a : Act) (w : World), C w → anyL P md ops C last Q fuel listed a → wpAny P md ops Q fuel listed a w
  | 0, _, _, _, _, h => h.elim
  | fuel + 1, listed, a, w, hw, h => ⟨fun e => absurd e h.1, fun i hi => by
      by_cases e : i = last
      · subst e
        obtain ⟨h1, h2⟩ := (h.2 i hi).1 rfl
        exact wpOp_mono (fun a' w' hq => any_done h1 hq fuel) (h2 w hw)
      · exact wpOp_of_qOp hw (fun a' w' hw' hk => any_of_L fuel _ a' w' hw' hk) ((h.2 i hi).2 e)⟩

/-- An operation that is quiet, may come up now, and is apart from what does not wait for it, may be taken first. -/
theorem anyL_take {i x : Nat} {oi : Oper} {v : Value} (hi : ops[i]? = some oi) (hsel : ∀ (j : Nat) (o : Oper) cs b, ops[j]? = some o → o.op ≠ .select cs b)
    (hx : x = i ∨ ∃ ox, ops[x]? = some ox ∧ ∃ e ∈ ox.after, Region.binds md e = true ∧ e.on = i)
    (hwait : ∀ oL, ops[last]? = some oL → ∃ e ∈ oL.after, Region.binds md e = true ∧ e.on = x) :
    ∀ (fuel : Nat) (listed : Array Bool) (a : Act), listed.getD x true = false →
      (∀ j oj, ops[j]? = some oj → j ≠ i → listed.getD j true = false → (∀ e ∈ oj.after, Region.binds md e = true → e.on ≠ i) → oi.apart ops oj = true) →
      i ∈ Region.ready md ops listed → YieldsIn P ops C oi v a →
      anyL P md ops C last Q fuel (listed.setIfInBounds i true) (a.put oi.dst v) → anyL P md ops C last Q (fuel + 1) listed a := by
  intro fuel
  induction fuel with
  | zero => intro _ _ _ _ _ _ H; exact H.elim
  | succ fuel ih =>
    intro listed a hxu hfree hr hy H
    have hun : listed.getD i true = false := (mem_ready.1 hr).1
    have clash : listed.getD i false = true → False := fun h1 => by
      rcases Nat.lt_or_ge i listed.size with h' | h'
      · simp [h'] at hun h1; rw [hun] at h1; cases h1
      · simp [Array.getElem?_eq_none h'] at h1
    have clashx : listed.getD x false = true → False := fun h1 => by
      rcases Nat.lt_or_ge x listed.size with h' | h'
      · simp [h'] at hxu h1; rw [hxu] at h1; cases h1
      · simp [Array.getElem?_eq_none h'] at h1
    refine ⟨fun e => (by rw [e] at hr; cases hr), fun j hj => ?_⟩
    obtain ⟨hjun, oj, hoj, hall⟩ := mem_ready.1 hj
    have hjl : j ≠ last := fun e => by
      subst e
      obtain ⟨y, hy', hb, ho⟩ := hwait oj hoj
      exact clashx (by have := hall y hy' hb; rwa [ho] at this)
    refine ⟨fun e => absurd e hjl, fun _ => ?_⟩
    by_cases hji : j = i
    · subst hji
      exact hy.qOp hi H
    · have hnot : ∀ e ∈ oj.after, Region.binds md e = true → e.on ≠ i := fun e he hb heq => clash (by have := hall e he hb; rwa [heq] at this)
      have h1 := (H.2 j (ready_mono hj hji)).2 hjl
      have h2 := qOp_put hoj (hfree j oj hoj hji hjun hnot) (fun cs b => hsel i oi cs b hi) (fun cs b => hsel j oj cs b hoj) hy h1
      have hjx : j ≠ x := fun e => by
        rcases hx with rfl | ⟨ox, hox, y, hy', hb, ho⟩
        · exact hji e
        · subst e
          rw [hoj] at hox
          cases hox
          exact hnot y hy' hb ho
      refine qOp_mono (fun a' h3 => ih (listed.setIfInBounds j true) a' (by rw [getD_set_ne true hjx]; exact hxu) (fun k ok hk hki hku hkn => hfree k ok hk hki ?_ hkn) (ready_mono hr (Ne.symm hji)) h3.1 ?_) h2
      · by_cases hjk : j = k
        · subst hjk; exact hjun
        · rw [getD_set_ne true hjk] at hku; exact hku
      · rw [Array.setIfInBounds_comm _ _ hji]
        exact h3.2

/-- While the k-th operation is not done, the last one cannot come up: it waits for it, or for one that is not done and waits for it. -/
def waitsAt (md : Region.Mode) (ops : Array Oper) (last k : Nat) (listed : Array Bool) : Option Nat :=
  (List.range last).find? fun x => !(listed.getD x true) && (x == k || (match ops[x]? with | none => false | some ox => ox.after.toList.any fun e => Region.binds md e && e.on == k)) &&
    (match ops[last]? with | none => true | some oL => oL.after.toList.any fun e => Region.binds md e && e.on == x)
/-- The Bool over a region: its lexical order may be walked, and the last operation comes up when nothing else is left. -/
def lexL (md : Region.Mode) (ops : Array Oper) (last : Nat) : Nat → Nat → Array Bool → Bool
  | 0, k, listed => Region.ready md ops listed == [k] && (Region.ready md ops (listed.setIfInBounds k true)).isEmpty
  | fuel + 1, k, listed => (Region.ready md ops listed).contains k && Region.free md ops listed k && (waitsAt md ops last k listed).isSome && lexL md ops last fuel (k + 1) (listed.setIfInBounds k true)

theorem anyL_lex (hs : Region.noSelect ops = true) : ∀ (l : List Oper) (k : Nat) (listed : Array Bool) (a : Act), (∀ j, j < l.length → l[j]? = ops[k + j]?) → last = k + l.length →
    lexL md ops last l.length k listed = true → wpQuiet P ops C (fun a' => ∀ w, C w → wpOp P ops Q last (fun a'' w'' => Q .normal a'' w'') a' w) l a → anyL P md ops C last Q (l.length + 1) listed a
  | [], k, listed, a, _, hk, hB, h => by
    simp only [List.length_nil, Nat.add_zero] at hk
    subst hk
    simp only [List.length_nil, lexL, Bool.and_eq_true, beq_iff_eq, List.isEmpty_iff] at hB
    refine ⟨by rw [hB.1]; simp, fun i hi => ⟨fun e => ⟨hB.2, h⟩, fun e => ?_⟩⟩
    rw [hB.1] at hi
    simp at hi
    exact absurd hi e
  | o :: l, k, listed, a, hl, hk, hB, h => by
    have h0 : ops[k]? = some o := by simpa using (hl 0 (by simp)).symm
    simp only [List.length_cons, lexL, Bool.and_eq_true] at hB
    obtain ⟨⟨⟨hr, hf⟩, hwt⟩, hB'⟩ := hB
    obtain ⟨x, hxw⟩ := Option.isSome_iff_exists.1 hwt
    have hxp := List.find?_some hxw
    simp only [Bool.and_eq_true, Bool.not_eq_true'] at hxp
    obtain ⟨⟨hx1, hx2⟩, hx3⟩ := hxp
    have hst : qOp P ops C k (wpQuiet P ops C (fun a' => ∀ w, C w → wpOp P ops Q last (fun a'' w'' => Q .normal a'' w'') a' w) l) a := by unfold qOp; simp only [h0]; exact h
    obtain ⟨v, hy, hK⟩ := yieldsIn_of_qOp h0 hst
    have hkl : k < last := by rw [hk]; simp
    refine anyL_take (x := x) h0 (Region.noSelect_spec hs) ?_ (fun oL hoL => ?_) (l.length + 1) listed a hx1 (Region.free_spec h0 hf) (by simpa using hr) hy
      (anyL_lex hs l (k + 1) _ _ (fun j hj => by have := hl (j + 1) (by simp; omega); simpa [Nat.add_assoc, Nat.add_comm 1 j] using this) (by rw [hk]; simp; omega) hB' hK)
    · simp only [Bool.or_eq_true, beq_iff_eq] at hx2
      rcases hx2 with h1 | h1
      · exact Or.inl h1
      · right
        cases hox : ops[x]? with
        | none => rw [hox] at h1; cases h1
        | some ox =>
          rw [hox] at h1
          simp only [List.any_eq_true, Bool.and_eq_true, beq_iff_eq] at h1
          obtain ⟨e, he, h2, h3⟩ := h1
          exact ⟨ox, rfl, e, by simpa using he, h2, h3⟩
    · rw [hoL] at hx3
      simp only [List.any_eq_true, Bool.and_eq_true, beq_iff_eq] at hx3
      obtain ⟨e, he, h2, h3⟩ := hx3
      exact ⟨e, by simpa using he, h2, h3⟩

/-- All but the last. -/
def initL : List Oper → List Oper
  | [] => []
  | [_] => []
  | o :: o' :: l => o :: initL (o' :: l)
/-- The last alone. -/
def endL : List Oper → List Oper
  | [] => []
  | [o] => [o]
  | _ :: o' :: l => endL (o' :: l)
theorem init_end : ∀ l : List Oper, l = initL l ++ endL l
  | [] => rfl
  | [_] => rfl
  | o :: o' :: l => by
    have := init_end (o' :: l)
    simp only [initL, endL, List.cons_append]
    rw [← this]
theorem end_one : ∀ l : List Oper, l ≠ [] → ∃ o, endL l = [o]
  | [], h => absurd rfl h
  | [o], _ => ⟨o, rfl⟩
  | _ :: o' :: l, _ => end_one (o' :: l) (by simp)

theorem wp_region_last {id : Nat} {a : Act} {w : World} {l : List Oper} (hm : P.follows .mixedOrders = true) (hne : l ≠ []) (hs : Region.noSelect l.toArray = true)
    (hB : lexL .any l.toArray (l.length - 1) (l.length - 1) 0 (Array.replicate l.length false) = true)
    (h : wpQuiet P l.toArray (fun w' => ∃ u : Cls w, w' = u.it) (fun a' => ∀ w', (∃ u : Cls w, w' = u.it) → wpList P l.toArray Q (endL l) a' w') (initL l) a) : (Code.region id l.toArray true).wp P Q a w := by
  obtain ⟨o, ho⟩ := end_one l hne
  have hsp := init_end l
  rw [ho] at hsp
  have hlen : (initL l).length = l.length - 1 := by have := congrArg List.length hsp; simp at this; omega
  have hpos : l.length = (initL l).length + 1 := by have := congrArg List.length hsp; simpa using this
  have hget : ∀ j, j < (initL l).length → (initL l)[j]? = l.toArray[0 + j]? := fun j hj => by
    rw [Nat.zero_add, List.getElem?_toArray, hsp, List.getElem?_append_left (by simpa [← hsp] using hj)]
    rw [← hsp]
  have hlast : l.toArray[l.length - 1]? = some o := by
    have h1 : (initL l ++ [o])[(initL l).length]? = some o := by simp
    rw [← hsp] at h1
    rw [List.getElem?_toArray, ← hlen]
    exact h1
  refine wp_region_any hm ?_
  have key := any_of_L (P := P) (md := .any) (ops := l.toArray) (C := fun w' => ∃ u : Cls w, w' = u.it) (last := l.length - 1) (Q := Q) ((initL l).length + 1) (Array.replicate l.length false) a { w with drawn := w.drawn + 1 }
    ⟨⟨_, (Below.refl w.heap.size w).drew⟩, rfl⟩
    (anyL_lex hs (initL l) 0 _ a hget (by omega) (by rw [hlen]; exact hB) (by
      have e1 : (fun a' => ∀ w', (∃ u : Cls w, w' = u.it) → wpList P l.toArray Q (endL l) a' w') = (fun a' => ∀ w', (∃ u : Cls w, w' = u.it) → wpOp P l.toArray Q (l.length - 1) (fun a'' w'' => Q .normal a'' w'') a' w') := by
        funext a'
        rw [ho]
        simp only [wpOp, hlast, wpList]
      rw [← e1]
      exact h))
  rw [← hpos] at key
  simpa using key
end
end Go.Proofs.Ytgkebobmfagklaa

namespace Go.Proofs.Ytgkebobmfagklaa
open Go.RowKit

theorem grown_set (W : World) (p : Addr) (v : Value) : W.grownBy (W.setCell p v) (some p.block) :=
  ⟨rfl, rfl, rfl, by simp [World.setCell], fun k _ hk => heap_setCell_other W p k v (fun e => hk (by rw [e]))⟩

theorem grown_over2 {a b c : World} {row : Option Nat} (h : a.grownBy b row) (k : b.grownBy c row) : a.grownBy c row :=
  ⟨k.os.trans h.os, k.tape.trans h.tape, k.output.trans h.output, Nat.le_trans h.size k.size, fun i hi hne => (k.block i (Nat.lt_of_lt_of_le hi h.size) hne).trans (h.block i hi hne)⟩

/-- The marks: numbers one behind another. -/
def markV (k0 : Int) (n : Nat) : List Value := (List.range n).map fun (j : Nat) => .int .i64 (k0 + (j : Int))
theorem markV_length (k0 : Int) (n : Nat) : (markV k0 n).length = n := by simp [markV]
theorem markV_get (k0 : Int) {n i : Nat} (h : i < n) : (markV k0 n)[i]? = some (.int .i64 (k0 + (i : Int))) := by simp [markV, h]
end Go.Proofs.Ytgkebobmfagklaa

namespace Go.Proofs.Ytgkebobmfagklaa
open Go.RowKit

theorem max_any (a b : Int) (w : World) : Calls Try.prog 47 #[.int .i64 a, .int .i64 b] w fun e w' => e = .returned (.int .i64 (mxB a b)) ∧ w' = w := by
  by_cases h : b < a
  · have HE : Hid (mxB a b = a) := by show _ = _; unfold mxB; rw [if_pos h]
    go_enter Try.func47, Try.ntmps47
    go_wp2
    go_ret
    exact ⟨by rw [HE.out]; rfl, rfl⟩
  · have HE : Hid (mxB a b = b) := by show _ = _; unfold mxB; rw [if_neg h]
    go_enter Try.func47, Try.ntmps47
    go_wp2
    go_ret
    exact ⟨by rw [HE.out]; rfl, rfl⟩
theorem min_any (a b : Int) (w : World) : Calls Try.prog 48 #[.int .i64 a, .int .i64 b] w fun e w' => e = .returned (.int .i64 (mnB a b)) ∧ w' = w := by
  by_cases h : a < b
  · have HE : Hid (mnB a b = a) := by show _ = _; unfold mnB; rw [if_pos h]
    go_enter Try.func48, Try.ntmps48
    go_wp2
    go_ret
    exact ⟨by rw [HE.out]; rfl, rfl⟩
  · have HE : Hid (mnB a b = b) := by show _ = _; unfold mnB; rw [if_neg h]
    go_enter Try.func48, Try.ntmps48
    go_wp2
    go_ret
    exact ⟨by rw [HE.out]; rfl, rfl⟩

theorem span_info : (Try.prog.info? 61).map (fun i => (i.zero, i.size, i.bytes)) = some (some (.agg #[.int .i64 0, .int .i64 0]), 2, 16) := by kernel_rfl

set_option maxRecDepth 20000 in
set_option maxHeartbeats 4000000 in
theorem spansS_wide (q s fr b : Int) (a : Option Addr) (b0 o cap : Nat) (l : List Stp) (w : World) (hs : StepsAt w a b0 o l) (hp : Wide q s fr b l) :
    Calls Try.prog 52 #[.agg #[.int .i64 q, .int .i64 s, .slice a l.length cap, .int .i64 fr, .int .i64 b]] w
      fun e w' => ∃ v, e = .returned (.tuple #[v, .bool (spanB q s fr b l)]) ∧ w'.ownsRow w.heap.size 61 2 v (spansL q s fr b l).length (spanCells (spansL q s fr b l)) ∧ Below w.heap.size w w' := by
  obtain ⟨i0, hi, hz0, hz1, hz2⟩ := info_parts span_info
  have HL := hp.len
  have hl : l.length ≤ 1048576 := by omega
  have HK := hp.kind
  go_enter Try.func52, Try.ntmps52
  go_wp2
  go_loopw [4, 6] (fun v u wr => ∃ k : Nat, k ≤ l.length + 1 ∧ u = .int .i64 k ∧ BoxP w wr q s fr b (.slice a l.length cap) ∧ wr.ownsRow (w.heap.size + 1) 61 2 v k (spanCells (fwdL q s fr b l k)) ∧ fwdTo q s fr b l k = true) (fun _ u _ => l.length + 1 - (intOf u).toNat)
  case atStart =>
    refine ⟨0, Nat.zero_le _, rfl, (BoxP.new w q s fr b _ _).keep ((Below.refl _ _).alloc (by simp) _), ?_, rfl⟩
    have h0 := owns_empty (base := w.heap.size + 1) (e := 61) (size := 2) (w := w.alloc (.cells #[.int .i64 q, .int .i64 s, .slice a l.length cap, .int .i64 fr, .int .i64 b] 34)) (by simp)
    rw [World.size_alloc] at h0
    exact h0
  case round =>
    obtain ⟨k, hk, rfl, hB, hown, hgood⟩ := hrel
    have HG : Hid (fwdTo q s fr b l k = true) := hgood
    clear hgood
    by_cases hlt : k < l.length + 1
    · have p0 := hB.p0
      have p1 := hB.p1
      have p2 := hB.p2
      have p3 := hB.p3
      have p4 := hB.p4
      have pl := hB.lt
      have k0 : (0 : Int) ≤ (k : Int) := by omega
      have k1 : (k : Int) ≤ (l.length : Int) := by omega
      have hS0 := hs.below hB.old hs.lt
      have hS : ∀ W, Below wr.heap.size wr W → StepsAt W a b0 o l := fun W h => hS0.below h hS0.lt
      have hR := Below.refl wr.heap.size wr
      go_wp2
      go_cut [7] (fun s7 wc => ∃ B, s7 = .pointer (some ⟨B, 0, none⟩) ∧ wr.heap.size ≤ B ∧ Below wr.heap.size wr wc ∧ wc.heap[B]? = some (.cells #[.int .i64 (lowB fr l k), .int .i64 (highB b l k)] 61 (0, 0)))
      case first =>
        go_region_held3 (fun w' => w'.cell? ⟨w.heap.size, 0, none⟩ = some (.int .i64 q) ∧ w'.cell? ⟨w.heap.size, 1, none⟩ = some (.int .i64 s) ∧ w'.cell? ⟨w.heap.size, 2, none⟩ = some (.slice a l.length cap) ∧ w'.cell? ⟨w.heap.size, 3, none⟩ = some (.int .i64 fr) ∧ w'.cell? ⟨w.heap.size, 4, none⟩ = some (.int .i64 b))
          (simp [go_sem, World.cell?_alloc_lt, *])
          (first
            | (go_at_call 57; refine (low_any _ _ _ _ _ b0 o _ _ k _ hl (hS _ ?_)).mono ?_; (first | exact hR.drew | exact hR.drew.alloc (Nat.le_refl _) _); rintro e w2 ⟨rfl, hb2⟩; have hb02 : Below wr.heap.size wr w2 := (by first | exact hR.drew.trans hb2 | exact (hR.drew.alloc (Nat.le_refl _) _).trans (hb2.mono (by simp))); have y0 : ∀ j, w2.cell? ⟨w.heap.size, j, none⟩ = wr.cell? ⟨w.heap.size, j, none⟩ := fun j => hb02.cell (p := ⟨w.heap.size, j, none⟩) pl; have z2 : w.heap.size < w2.heap.size := Nat.lt_of_lt_of_le pl hb02.size; (first | (have T2 : w2.heap[wr.heap.size]? = some (.cells #[.int .i64 0, .int .i64 0] 61 (0, 0)) := blk2_after hb2; obtain ⟨t20, t21, t22⟩ := blk2 T2) | (have T2 : w2.heap[wr.heap.size]? = some (.cells #[.int .i64 0, .int .i64 0] 61 (0, 0)) := blk2_after_drew hb2; obtain ⟨t20, t21, t22⟩ := blk2 T2) | skip))
            | (go_at_call 58; refine (high_any _ _ _ _ _ b0 o _ _ k _ hl (hS _ ?_)).mono ?_; (first | exact hb02 | exact hb02.alloc hb02.size _); rintro e w3 ⟨rfl, hb3⟩; have hb03 : Below wr.heap.size wr w3 := (by first | exact hb02.trans (hb3.mono hb02.size) | exact (hb02.alloc hb02.size _).trans (hb3.mono (by have := hb02.size; simp; omega))); have y1 : ∀ j, w3.cell? ⟨w.heap.size, j, none⟩ = wr.cell? ⟨w.heap.size, j, none⟩ := fun j => hb03.cell (p := ⟨w.heap.size, j, none⟩) pl; have z3 : w.heap.size < w3.heap.size := Nat.lt_of_lt_of_le pl hb03.size; (first | (have T3 := blk2_kept T2 hb3; obtain ⟨t30, t31, t32⟩ := blk2 T3) | (have T3 := blk2_after hb3; obtain ⟨t30, t31, t32⟩ := blk2 T3) | (have hw3 : Below w2.heap.size w2 w3 := hb3))))
        · go_wp2
          go_meet
          case rel => exact ⟨w3.heap.size, rfl, hb03.size, hb03.alloc hb03.size _, heap_alloc_new w3 _⟩
        · go_wp2
          go_meet
          case rel => exact ⟨w2.heap.size, rfl, hb02.size, (hb03.setCell (p := ⟨w2.heap.size, 0, none⟩) hb02.size _).setCell (p := ⟨w2.heap.size, 1, none⟩) hb02.size _, blk2_set1 (blk2_set0 T3 _) _⟩
        · go_wp2
          go_meet
          case rel => exact ⟨wr.heap.size, rfl, Nat.le_refl _, (hb03.setCell (p := ⟨wr.heap.size, 0, none⟩) (Nat.le_refl _) _).setCell (p := ⟨wr.heap.size, 1, none⟩) (Nat.le_refl _) _, blk2_set1 (blk2_set0 T3 _) _⟩
      case rest =>
        clear p0 p1 p2 p3 p4 hS hR
        obtain ⟨B, rfl, hBs, hbc, hblk⟩ := hcut
        have hBc := hB.below hbc
        have hownc := owns_below hown hbc
        have hBlt := lt_of_block hblk
        have hBne : ∀ j, u4.ownBlock = some j → j ≠ B := fun j hj => by have := owns_lt hown j hj; omega
        go_upto_if 26 with (fail)
        go_cut [] (fun wd => Below wr.heap.size wr wd ∧ wd.heap[B]? = some (.cells #[.int .i64 (fwdS q s fr b l k).1, .int .i64 (fwdS q s fr b l k).2] 61 (0, 0)))
        case first =>
          rcases Nat.eq_zero_or_pos k with hk0 | hk0
          · subst hk0
            go_wp2
            go_meet
            case rel => exact ⟨hbc, hblk⟩
          · obtain ⟨m, rfl⟩ : ∃ m, k = m + 1 := ⟨k - 1, by omega⟩
            have hml : m < l.length := by omega
            obtain ⟨g, ocap, rfl, hg1, hg2⟩ := owns_some hown (by omega)
            have hx0 := (hownc.cellAt (m * 2) (by omega)).trans (spanCells_get _ m _ (fwdL_get q s fr b l (m + 1) m (by omega))).1
            have hx1 := (hownc.cellAt (m * 2 + 1) (by omega)).trans (spanCells_get _ m _ (fwdL_get q s fr b l (m + 1) m (by omega))).2
            obtain ⟨c0, c1, cf⟩ := blk2 hblk
            have p0 := hBc.p0
            have p1 := hBc.p1
            have p2 := hBc.p2
            have p3 := hBc.p3
            have p4 := hBc.p4
            have pl := hBc.lt
            have r1 := hp.fwd_range m
            have r2 := fwdTo_at HG.out (show m < m + 1 by omega)
            have hgc : g < wc.heap.size := Nat.lt_of_lt_of_le hg2 hbc.size
            obtain ⟨f1, hf1⟩ : ∃ f1, (fwdS q s fr b l m).1 = f1 := ⟨_, rfl⟩
            obtain ⟨f2, hf2⟩ : ∃ f2, (fwdS q s fr b l m).2 = f2 := ⟨_, rfl⟩
            have F1 : Hid ((fwdS q s fr b l m).1 = f1) := hf1
            have F2 : Hid ((fwdS q s fr b l m).2 = f2) := hf2
            rw [hf1] at hx0 r1 r2
            rw [hf2] at hx1 r1 r2
            clear hf1 hf2
            have wm : IntKind.i64.wrap (m : Int) = (m : Int) := by rw [IntKind.wrap_i64]; omega
            have wf : IntKind.i64.wrap (f1 + q) = f1 + q := by rw [IntKind.wrap_i64]; omega
            have m0 : (0 : Int) ≤ (m : Int) := by omega
            have m1 : (m : Int) < (m : Int) + 1 := by omega
            have qn := Cls.any wc
            have q0 := Cls.cell hBlt
            have q1 := Cls.cell hgc
            have q2 := Cls.cell pl
            go_wp2
            refine wp_region_last (by kernel_rfl) (by simp) (by kernel_rfl) (by kernel_rfl) ?_
            simp only [initL, endL]
            repeat (go_big_quiet_step ((go_at_call 47; exact Calls.cls_of_same (max_any _ _ _))))
            refine wpQuiet_nil ?_
            rintro _ ⟨u, rfl⟩
            have T1 := blk2_kept hblk u.same
            obtain ⟨t0, t1, tf⟩ := blk2 T1
            clear c0 c1 cf q0 q1 q2 qn p0 p1 p2 p3 p4 pl
            go_wp2
            have T2 := blk2_set0 T1 (.int .i64 (mxB (lowB fr l (m + 1)) (f1 + q)))
            have bu : Below wr.heap.size wr u.it := hbc.trans (u.same.mono hbc.size)
            have b8 : Below wr.heap.size wr (u.it.setCell ⟨B, 0, none⟩ (.int .i64 (mxB (lowB fr l (m + 1)) (f1 + q)))) := bu.setCell (p := ⟨B, 0, none⟩) hBs _
            clear T1 t0 t1 tf bu
            generalize u.it.setCell ⟨B, 0, none⟩ (.int .i64 (mxB (lowB fr l (m + 1)) (f1 + q))) = w8 at T2 b8 ⊢
            have hBc8 := hB.below b8
            have hown8 := owns_below hown b8
            have hx8 := (hown8.cellAt (m * 2 + 1) (by omega)).trans (spanCells_get _ m _ (fwdL_get q s fr b l (m + 1) m (by omega))).2
            rw [F2.out] at hx8
            clear hx0 hx1
            obtain ⟨c0, c1, cf⟩ := blk2 T2
            have p0 := hBc8.p0
            have p1 := hBc8.p1
            have p2 := hBc8.p2
            have p3 := hBc8.p3
            have p4 := hBc8.p4
            have pl := hBc8.lt
            have hg8 : g < w8.heap.size := Nat.lt_of_lt_of_le hg2 b8.size
            have hB8 : B < w8.heap.size := lt_of_block T2
            have mr := hp.most_range m
            obtain ⟨mo, hmo⟩ : ∃ mo, mostB s l m = mo := ⟨_, rfl⟩
            have MO : Hid (mostB s l m = mo) := hmo
            rw [hmo] at mr
            have wf2 : IntKind.i64.wrap (f2 + mo) = f2 + mo := by rw [IntKind.wrap_i64]; omega
            have qn := Cls.any w8
            have q0 := Cls.cell hB8
            have q1 := Cls.cell hg8
            have q2 := Cls.cell pl
            have hS8 : ∀ u : Cls w8, StepsAt u.it a b0 o l := fun u => (hs.below hBc8.old hs.lt).below u.same (hs.below hBc8.old hs.lt).lt
            have HM : ∀ (u : Cls w8), Calls Try.prog 59 #[.agg #[.int .i64 q, .int .i64 s, .slice a l.length cap, .int .i64 fr, .int .i64 b], .int .i64 (m : Int)] u.it fun e w' => e = .returned (.int .i64 mo) ∧ Below u.it.heap.size u.it w' := fun u => by
              have := most_any q s fr b a b0 o cap l m u.it hl (hS8 u) hml
              rwa [hmo] at this
            clear hmo hS8
            refine wp_region_last (by kernel_rfl) (by simp) (by kernel_rfl) (by kernel_rfl) ?_
            simp only [initL, endL]
            repeat (go_big_quiet_step (first | (go_at_call 59; exact Calls.cls_of (HM _)) | (go_at_call 48; exact Calls.cls_of_same (min_any _ _ _))))
            refine wpQuiet_nil ?_
            rintro _ ⟨u2, rfl⟩
            have T3 := blk2_kept T2 u2.same
            obtain ⟨t0, t1, tf⟩ := blk2 T3
            clear c0 c1 cf q0 q1 q2 qn p0 p1 p2 p3 p4 pl HM
            go_wp2
            go_meet
            case rel =>
              refine ⟨(b8.trans (u2.same.mono b8.size)).setCell (p := ⟨B, 1, none⟩) hBs _, ?_⟩
              have T4 := blk2_set1 T3 (.int .i64 (mnB (highB b l (m + 1)) (f2 + mo)))
              simp only [fwdS]
              rw [F1.out, F2.out, MO.out]
              exact T4
        case rest =>
          obtain ⟨hbd, hblkd⟩ := hcut
          have hBd := hB.below hbd
          have hownd := owns_below hown hbd
          obtain ⟨c0, c1, cf⟩ := blk2 hblkd
          clear hblk hbc hBc hownc
          cases hsm : someB (fwdS q s fr b l k) with
          | false =>
            have hgt : (fwdS q s fr b l k).2 < (fwdS q s fr b l k).1 := by simp [someB] at hsm; omega
            have HE : Hid (spanB q s fr b l = false) := by show _ = _; unfold spanB; rw [fwdTo_not hlt hsm]; rfl
            have HE2 : Hid (spansL q s fr b l = []) := by show _ = _; unfold spansL; rw [HE.out]; rfl
            have H0 : Hid ((wc.alloc (.cells #[] 61)).ownsRow w.heap.size 61 2 (.slice (some ⟨wc.heap.size, 0, none⟩) 0 0) 0 []) := owns_empty (by have := hBd.lt; omega)
            clear hsm
            go_wp2
            go_ret2
            exact ⟨_, by rw [HE.out]; rfl, by rw [HE2.out]; exact H0.out, hBd.old.alloc (by have := hBd.lt; omega) _⟩
          | true =>
            have hle : ¬ (fwdS q s fr b l k).2 < (fwdS q s fr b l k).1 := by simp [someB] at hsm; omega
            have G1 : Hid (fwdTo q s fr b l (k + 1) = true) := by show _ = _; rw [fwdTo_succ HG.out, hsm]
            clear hsm
            have hz := hBd.lt
            go_wp2_with (at_builtin; (refine wpList_append_own _ rfl _ _ 79 rfl (w.heap.size + 1) 61 i0 (.agg #[.int .i64 0, .int .i64 0]) 2 16 Try.underlying79 hi hz0 hz1 hz2 rfl (by decide) _ _ _ rfl (hownd.alloc _) ⟨wc.heap.size, 0, none⟩ 1 1 (spanC (fwdS q s fr b l k)) rfl rfl (two_new _ _ _ _) (by simp [Value.oneCell']) (by unfold maxLen; omega) (by omega) (by simp; omega) ?_); intro v' w1 hown' hgrow _)
            have hbel : Below (w.heap.size + 1) wr w1 := ((hbd.mono (by omega)).alloc (by omega) _).grown hgrow (by simp; omega) (owns_base hownd)
            refine ⟨⟨k + 1, by omega, by go_num, hB.keep hbel, ?_, G1.out⟩, by simp [intOf]; omega⟩
            rw [fwdL_succ, spanCells_snoc]
            exact hown'
    · obtain rfl : k = l.length + 1 := by omega
      obtain ⟨g, ocap, rfl, hg1, hg2⟩ := owns_some hown (by omega)
      rw [← backL_zero] at hown
      go_wp2
      go_loopw [8] (fun v wi => ∃ i : Nat, i ≤ l.length ∧ v = .int .i64 ((i : Int) - 1) ∧ BoxP w wi q s fr b (.slice a l.length cap) ∧ wi.ownsRow (w.heap.size + 1) 61 2 (.slice (some ⟨g, 0, none⟩) (l.length + 1) ocap) (l.length + 1) (spanCells (backL q s fr b l l.length (l.length - i)))) (fun v _ => (intOf v + 1).toNat)
      case atStart => exact ⟨l.length, Nat.le_refl _, rfl, hB, by rw [Nat.sub_self]; exact hown⟩
      case round =>
        clear hB hown hg2
        obtain ⟨i, hi', rfl, hB, hown⟩ := hrel
        rcases i with _ | m
        · have HE : Hid (spanB q s fr b l = true) := by show _ = _; rw [hp.span_fwd]; exact HG.out
          have HL2 : Hid ((spansL q s fr b l).length = l.length + 1) := by show _ = _; rw [← backL_all HE.out, backL_length]
          go_wp2
          go_ret2
          refine ⟨_, by rw [HE.out]; rfl, ?_, hB.old⟩
          rw [HL2.out, ← backL_all HE.out]
          refine ⟨hown.1, hown.2.imp id fun ⟨g, cap, cur, h1, h2, h3⟩ => ⟨g, cap, cur, h1, by omega, h3⟩⟩
        · have e0 : (((m + 1 : Nat) : Int) - 1) = (m : Int) := by omega
          rw [e0]
          obtain ⟨J, hJ, e1, e2, e3⟩ : ∃ J, J < l.length ∧ l.length - (m + 1) = J ∧ l.length - (J + 1) = m ∧ l.length - m = J + 1 := ⟨l.length - (m + 1), by omega, rfl, by omega, by omega⟩
          rw [e1] at hown
          have gn := backL_now q s fr b l l.length J hJ
          have gx := backL_next q s fr b l l.length J hJ
          rw [e2] at gn gx
          have x0 := (hown.cellAt (m * 2) (by omega)).trans (spanCells_get _ m _ gn).1
          have x1 := (hown.cellAt (m * 2 + 1) (by omega)).trans (spanCells_get _ m _ gn).2
          have y0 := (hown.cellAt ((m + 1) * 2) (by omega)).trans (spanCells_get _ (m + 1) _ gx).1
          have y1 := (hown.cellAt ((m + 1) * 2 + 1) (by omega)).trans (spanCells_get _ (m + 1) _ gx).2
          have r1 := hp.fwd_range m
          have r2 := fwdTo_at HG.out (show m < l.length + 1 by omega)
          have r3 := hp.bwd_in HG.out J (by omega)
          have r4 := hp.fwd_range (l.length - J)
          have r5 := hp.bwd_in HG.out (J + 1) (by omega)
          have BS : Hid (bwdS q s fr b l l.length (J + 1) = (mxB (fwdS q s fr b l m).1 ((bwdS q s fr b l l.length J).1 - mostB s l m), mnB (fwdS q s fr b l m).2 ((bwdS q s fr b l l.length J).2 - q))) := by
            show _ = _
            simp only [bwdS]
            rw [e2]
          have hle := r5.1
          rw [BS.out] at hle
          have hml : m < l.length := by omega
          have mr := hp.most_range m
          clear r5 gn gx
          obtain ⟨f1, hf1⟩ : ∃ f1, (fwdS q s fr b l m).1 = f1 := ⟨_, rfl⟩
          obtain ⟨f2, hf2⟩ : ∃ f2, (fwdS q s fr b l m).2 = f2 := ⟨_, rfl⟩
          obtain ⟨h1, hh1⟩ : ∃ h1, (bwdS q s fr b l l.length J).1 = h1 := ⟨_, rfl⟩
          obtain ⟨h2, hh2⟩ : ∃ h2, (bwdS q s fr b l l.length J).2 = h2 := ⟨_, rfl⟩
          obtain ⟨mo, hmo⟩ : ∃ mo, mostB s l m = mo := ⟨_, rfl⟩
          rw [hf1] at x0 r1 r2
          rw [hf2] at x1 r1 r2
          rw [hh1] at y0 r3
          rw [hh2] at y1 r3
          rw [hmo] at mr
          have BS2 : Hid (bwdS q s fr b l l.length (J + 1) = (mxB f1 (h1 - mo), mnB f2 (h2 - q))) := by
            show _ = _
            rw [BS.out, hf1, hf2, hh1, hh2, hmo]
          have hle2 : mxB f1 (h1 - mo) ≤ mnB f2 (h2 - q) := by
            have := hle
            simp only [hf1, hf2, hh1, hh2, hmo] at this
            exact this
          obtain ⟨n1, hn1⟩ : ∃ n1, mxB f1 (h1 - mo) = n1 := ⟨_, rfl⟩
          obtain ⟨n2, hn2⟩ : ∃ n2, mnB f2 (h2 - q) = n2 := ⟨_, rfl⟩
          rw [hn1, hn2] at hle2
          have BS3 : Hid (bwdS q s fr b l l.length (J + 1) = (n1, n2)) := by show _ = _; rw [BS2.out, hn1, hn2]
          have MX : ∀ (W : World), Calls Try.prog 47 #[.int .i64 f1, .int .i64 (h1 - mo)] W fun e w' => e = .returned (.int .i64 n1) ∧ w' = W := fun W => by rw [← hn1]; exact max_any _ _ _
          have MN : ∀ (W : World), Calls Try.prog 48 #[.int .i64 f2, .int .i64 (h2 - q)] W fun e w' => e = .returned (.int .i64 n2) ∧ w' = W := fun W => by rw [← hn2]; exact min_any _ _ _
          have wf1 : IntKind.i64.wrap (h1 - mo) = h1 - mo := by rw [IntKind.wrap_i64]; omega
          have wf2 : IntKind.i64.wrap (h2 - q) = h2 - q := by rw [IntKind.wrap_i64]; omega
          have wm : IntKind.i64.wrap ((m : Int) + 1) = (m : Int) + 1 := by rw [IntKind.wrap_i64]; omega
          have hS0 := hs.below hB.old hs.lt
          have HM : ∀ (u : Cls wr), Calls Try.prog 59 #[.agg #[.int .i64 q, .int .i64 s, .slice a l.length cap, .int .i64 fr, .int .i64 b], .int .i64 (m : Int)] u.it fun e w' => e = .returned (.int .i64 mo) ∧ Below u.it.heap.size u.it w' := fun u => by
            have := most_any q s fr b a b0 o cap l m u.it hl (hS0.below u.same hS0.lt) hml
            rwa [hmo] at this
          clear hle BS BS2 hf1 hf2 hh1 hh2 hn1 hn2 hS0 r4
          have p0 := hB.p0
          have p1 := hB.p1
          have p2 := hB.p2
          have p3 := hB.p3
          have p4 := hB.p4
          have pl := hB.lt
          have hgr : g < wr.heap.size := (hown.lt g rfl).2
          have m0 : (0 : Int) ≤ (m : Int) := by omega
          have m1 : (m : Int) < (l.length : Int) + 1 := by omega
          have m2 : (m : Int) + 1 < (l.length : Int) + 1 := by omega
          have m3 : (0 : Int) ≤ (m : Int) + 1 := by omega
          have qn := Cls.any wr
          have q1 := Cls.cell hgr
          have q2 := Cls.cell pl
          go_wp2
          refine wp_region_last (by kernel_rfl) (by simp) (by kernel_rfl) (by kernel_rfl) ?_
          simp only [initL, endL]
          repeat (go_big_quiet_step (first | (go_at_call 59; exact Calls.cls_of (HM _)) | (go_at_call 47; exact Calls.cls_of_same (MX _))))
          refine wpQuiet_nil ?_
          rintro _ ⟨u, rfl⟩
          have hownu := owns_below hown u.same
          have t0 := (hownu.cellAt (m * 2) (by omega)).trans ((hown.cellAt (m * 2) (by omega)).symm.trans x0)
          have tf := hownu.frozenAt
          clear q1 q2 qn HM MX
          go_wp2
          have bu : Below (w.heap.size + 1) wr u.it := u.same.mono (by omega)
          have b8 : Below (w.heap.size + 1) wr (u.it.setCell ⟨g, m * 2, none⟩ (.int .i64 n1)) := bu.setCell (p := ⟨g, m * 2, none⟩) hg1 _
          have hown8 := owns_put hownu (j := m * 2) (by omega) (.int .i64 n1)
          have hlen : (spanCells (backL q s fr b l l.length J)).length = (l.length + 1) * 2 := hown.1
          have z0 : ((spanCells (backL q s fr b l l.length J)).set (m * 2) (.int .i64 n1))[m * 2]? = some (.int .i64 n1) := List.getElem?_set_self (by omega)
          have z1 : ((spanCells (backL q s fr b l l.length J)).set (m * 2) (.int .i64 n1))[m * 2 + 1]? = some (.int .i64 f2) := by
            rw [List.getElem?_set_ne (by omega), ← hown.cellAt (m * 2 + 1) (by omega)]; exact x1
          have z2 : ((spanCells (backL q s fr b l l.length J)).set (m * 2) (.int .i64 n1))[(m + 1) * 2 + 1]? = some (.int .i64 h2) := by
            rw [List.getElem?_set_ne (by omega), ← hown.cellAt ((m + 1) * 2 + 1) (by omega)]; exact y1
          clear t0 tf hownu bu x0 x1 y0 y1 p0 p1 p2 p3 p4
          generalize u.it.setCell ⟨g, m * 2, none⟩ (.int .i64 n1) = w8 at hown8 b8 ⊢
          have hB8 := hB.keep b8
          have x1 := (hown8.cellAt (m * 2 + 1) (by omega)).trans z1
          have y1 := (hown8.cellAt ((m + 1) * 2 + 1) (by omega)).trans z2
          have p0 := hB8.p0
          have p1 := hB8.p1
          have pl8 := hB8.lt
          have hgr8 : g < w8.heap.size := (hown8.lt g rfl).2
          have qn := Cls.any w8
          have q1 := Cls.cell hgr8
          have q2 := Cls.cell pl8
          refine wp_region_last (by kernel_rfl) (by simp) (by kernel_rfl) (by kernel_rfl) ?_
          simp only [initL, endL]
          repeat (go_big_quiet_step ((go_at_call 48; exact Calls.cls_of_same (MN _))))
          refine wpQuiet_nil ?_
          rintro _ ⟨u2, rfl⟩
          have hownu2 := owns_below hown8 u2.same
          have t0 := (hownu2.cellAt (m * 2 + 1) (by omega)).trans z1
          have tf := hownu2.frozenAt
          clear q1 q2 qn MN
          go_wp2
          have b9 : Below (w.heap.size + 1) w8 (u2.it.setCell ⟨g, m * 2 + 1, none⟩ (.int .i64 n2)) := (u2.same.mono (by omega)).setCell (p := ⟨g, m * 2 + 1, none⟩) hg1 _
          have hown9 := owns_put hownu2 (j := m * 2 + 1) (by omega) (.int .i64 n2)
          have z3 : (((spanCells (backL q s fr b l l.length J)).set (m * 2) (.int .i64 n1)).set (m * 2 + 1) (.int .i64 n2))[m * 2]? = some (.int .i64 n1) := by
            rw [List.getElem?_set_ne (by omega)]; exact z0
          have z4 : (((spanCells (backL q s fr b l l.length J)).set (m * 2) (.int .i64 n1)).set (m * 2 + 1) (.int .i64 n2))[m * 2 + 1]? = some (.int .i64 n2) := List.getElem?_set_self (by rw [List.length_set]; omega)
          clear t0 tf hownu2 x1 y1 p0 p1
          generalize u2.it.setCell ⟨g, m * 2 + 1, none⟩ (.int .i64 n2) = w9 at hown9 b9 ⊢
          have hB9 := hB8.keep b9
          have x0 := (hown9.cellAt (m * 2) (by omega)).trans z3
          have x1 := (hown9.cellAt (m * 2 + 1) (by omega)).trans z4
          have hgr9 : g < w9.heap.size := (hown9.lt g rfl).2
          have RW : Hid (w9.ownsRow (w.heap.size + 1) 61 2 (.slice (some ⟨g, 0, none⟩) (l.length + 1) ocap) (l.length + 1) (spanCells (backL q s fr b l l.length (l.length - m)))) := by
            show World.ownsRow _ _ _ _ _ _ _
            rw [e3, backL_succ q s fr b l l.length J hJ, e2, BS3.out, spanCells_set]
            exact hown9
          have qn := Cls.any w9
          have q1 := Cls.cell hgr9
          clear z0 z1 z2 z3 z4 hown9 hown8 hown hlen
          refine wp_region_cls (by kernel_rfl) (by kernel_rfl) ?_
          repeat (go_big_quiet_step (fail))
          refine wpQuiet_nil ?_
          rintro _ ⟨u3, rfl⟩
          clear q1 qn
          go_wp2
          go_roundw
          case rel => exact ⟨m, by omega, by go_num, hB9.below u3.same, owns_below RW.out u3.same⟩
          case measure => simp [intOf]
end Go.Proofs.Ytgkebobmfagklaa

namespace Go.Proofs.Ytgkebobmfagklaa
open Go.RowKit

set_option maxRecDepth 20000 in
set_option maxHeartbeats 1000000 in
theorem copyS_any (q s fr b : Int) (a : Option Addr) (b0 o cap : Nat) (l : List Stp) (w : World) (hl0 : 1 ≤ l.length) (hl : l.length ≤ 1048576) (hs : StepsAt w a b0 o l) :
    Calls Try.prog 35 #[.agg #[.int .i64 q, .int .i64 s, .slice a l.length cap, .int .i64 fr, .int .i64 b]] w
      fun e w' => ∃ g gcap, e = .returned (.agg #[.int .i64 q, .int .i64 s, .slice (some ⟨g, 0, none⟩) l.length gcap, .int .i64 fr, .int .i64 b]) ∧
        w'.ownsRow w.heap.size 75 7 (.slice (some ⟨g, 0, none⟩) l.length gcap) l.length (stepCells l) ∧ Below w.heap.size w w' := by
  obtain ⟨i0, hi, hz0, hz1, hz2⟩ := info_parts step_info
  have hne : l ≠ [] := by intro e; subst e; simp at hl0
  obtain rfl := hs.here hne
  go_enter Try.func35, Try.ntmps35
  have hB0 := (BoxP.new w q s fr b (.slice (some ⟨b0, o, none⟩) l.length cap) 34)
  have hE := owns_empty (w := ((w.alloc (.cells #[.int .i64 q, .int .i64 s, .slice (some ⟨b0, o, none⟩) l.length cap, .int .i64 fr, .int .i64 b] 34)).alloc (.cells #[.int .i64 0, .int .i64 0, .slice none 0 0, .int .i64 0, .int .i64 0] 34))) (base := w.heap.size + 1 + 1) (e := 75) (size := 7) (by simp)
  simp only [World.size_alloc] at hE
  have hnew := steps_news (((hs.alloc (.cells #[.int .i64 q, .int .i64 s, .slice (some ⟨b0, o, none⟩) l.length cap, .int .i64 fr, .int .i64 b] 34)).alloc (.cells #[.int .i64 0, .int .i64 0, .slice none 0 0, .int .i64 0, .int .i64 0] 34)).alloc (.cells #[] 75))
  have hC : ∀ w4, (((w.alloc (.cells #[.int .i64 q, .int .i64 s, .slice (some ⟨b0, o, none⟩) l.length cap, .int .i64 fr, .int .i64 b] 34)).alloc (.cells #[.int .i64 0, .int .i64 0, .slice none 0 0, .int .i64 0, .int .i64 0] 34)).alloc (.cells #[] 75)).grownBy w4 (Value.slice (some ⟨w.heap.size + 1 + 1, 0, none⟩) 0 0).ownBlock →
      w4.cell? ⟨w.heap.size, 0, none⟩ = some (.int .i64 q) ∧ w4.cell? ⟨w.heap.size, 1, none⟩ = some (.int .i64 s) ∧ w4.cell? ⟨w.heap.size, 2, none⟩ = some (.slice (some ⟨b0, o, none⟩) l.length cap) ∧ w4.cell? ⟨w.heap.size, 3, none⟩ = some (.int .i64 fr) ∧ w4.cell? ⟨w.heap.size, 4, none⟩ = some (.int .i64 b) ∧
      w4.cell? ⟨w.heap.size + 1, 0, none⟩ = some (.int .i64 0) ∧ w4.cell? ⟨w.heap.size + 1, 1, none⟩ = some (.int .i64 0) ∧ w4.cell? ⟨w.heap.size + 1, 2, none⟩ = some (.slice none 0 0) ∧ w4.cell? ⟨w.heap.size + 1, 3, none⟩ = some (.int .i64 0) ∧ w4.cell? ⟨w.heap.size + 1, 4, none⟩ = some (.int .i64 0) := fun w4 hg => by
    have k0 : ∀ j, w4.cell? ⟨w.heap.size, j, none⟩ = _ := fun j => World.cell?_of_block (a := ⟨w.heap.size, j, none⟩) (hg.block w.heap.size (by simp; omega) (by simp [Value.ownBlock]; omega))
    have k1 : ∀ j, w4.cell? ⟨w.heap.size + 1, j, none⟩ = _ := fun j => World.cell?_of_block (a := ⟨w.heap.size + 1, j, none⟩) (hg.block (w.heap.size + 1) (by simp) (by simp [Value.ownBlock]))
    simp only [k0, k1]
    simp [go_sem]
  have hF : ∀ w4, (((w.alloc (.cells #[.int .i64 q, .int .i64 s, .slice (some ⟨b0, o, none⟩) l.length cap, .int .i64 fr, .int .i64 b] 34)).alloc (.cells #[.int .i64 0, .int .i64 0, .slice none 0 0, .int .i64 0, .int .i64 0] 34)).alloc (.cells #[] 75)).grownBy w4 (Value.slice (some ⟨w.heap.size + 1 + 1, 0, none⟩) 0 0).ownBlock →
      (∀ j, w4.frozen? ⟨w.heap.size, j, none⟩ = false) ∧ ∀ j, w4.frozen? ⟨w.heap.size + 1, j, none⟩ = false := fun w4 hg => by
    have k0 : ∀ j, w4.frozen? ⟨w.heap.size, j, none⟩ = _ := fun j => World.frozen?_of_block (a := ⟨w.heap.size, j, none⟩) (hg.block w.heap.size (by simp; omega) (by simp [Value.ownBlock]; omega))
    have k1 : ∀ j, w4.frozen? ⟨w.heap.size + 1, j, none⟩ = _ := fun j => World.frozen?_of_block (a := ⟨w.heap.size + 1, j, none⟩) (hg.block (w.heap.size + 1) (by simp) (by simp [Value.ownBlock]))
    simp only [k0, k1]
    simp [go_sem]
  go_wp2_with (at_builtin; refine wpList_append_own _ rfl (.tmp 3) (.tmp 5) 32 rfl (w.heap.size + 1 + 1) 75 i0 (.agg #[.int .i64 0, .int .i64 0, .int .i64 0, .int .i64 0, .int .i64 0, .int .i64 0, .bool false]) 7 56 Try.underlying32 hi hz0 hz1 hz2 rfl (by decide) (.slice (some ⟨w.heap.size + 1 + 1, 0, none⟩) 0 0) 0 [] rfl hE ⟨b0, o, none⟩ l.length cap (stepCells l) rfl (stepCells_length l) hnew (stepCells_one l) (by unfold maxLen; omega) (by omega) (by simp) ?_; intro v' w4 hown4 hgrow4 hnil4; simp only [Nat.zero_add, List.nil_append] at hown4; obtain ⟨g4, gc4, rfl, hg4, hgl4⟩ := owns_some hown4 (by omega); have c4 := hC w4 hgrow4; have f4 := hF w4 hgrow4; have z0 := c4.1; have z1 := c4.2.1; have z2 := c4.2.2.1; have z3 := c4.2.2.2.1; have z4 := c4.2.2.2.2.1; have y0 := c4.2.2.2.2.2.1; have y1 := c4.2.2.2.2.2.2.1; have y2 := c4.2.2.2.2.2.2.2.1; have y3 := c4.2.2.2.2.2.2.2.2.1; have y4 := c4.2.2.2.2.2.2.2.2.2)
  have HB4 : Below w.heap.size w w4 := ((((Below.refl w.heap.size w).alloc (Nat.le_refl _) _).alloc (by simp) _).alloc (by simp; omega) _).grown hgrow4 (by simp; omega) (fun k e => by simp [Value.ownBlock] at e; omega)
  refine bodyPost_ret (v := .agg #[.int .i64 q, .int .i64 s, .slice (some ⟨g4, 0, none⟩) l.length gc4, .int .i64 fr, .int .i64 b]) (by simp [results, Try.results35, go_sem, *]) rfl ⟨g4, gc4, rfl, ?_, ?_⟩
  · have hh : ∀ k, (Value.slice (some ⟨g4, 0, none⟩) l.length gc4).ownBlock = some k → k ≠ w.heap.size ∧ k ≠ w.heap.size + 1 := fun k e => by simp [Value.ownBlock] at e; omega
    iterate 6 (refine owns_set ?_ (fun k e => by first | exact (hh k e).1 | exact (hh k e).2) _ _)
    exact ⟨hown4.1, hown4.2.imp id fun ⟨g, cap, cur, h1, h2, h3⟩ => ⟨g, cap, cur, h1, by omega, h3⟩⟩
  · iterate 6 (refine Below.setCell ?_ (by simp <;> omega) _)
    exact HB4

end Go.Proofs.Ytgkebobmfagklaa

namespace Go.Proofs.Ytgkebobmfagklaa
open Go.RowKit

set_option maxRecDepth 20000 in
set_option maxHeartbeats 4000000 in
theorem heldS_any (q s fr b : Int) (a : Option Addr) (b0 o cap : Nat) (l : List Stp) (c : Option Addr) (cb co ccap : Nat) (zs : List Int) (w : World) (hl0 : 1 ≤ l.length) (hl : l.length ≤ 1048576) (hs : StepsAt w a b0 o l) (hz : IntsAt w c cb co zs) (hn : zs.length ≤ l.length) :
    Calls Try.prog 30 #[.agg #[.int .i64 q, .int .i64 s, .slice a l.length cap, .int .i64 fr, .int .i64 b], .slice c zs.length ccap] w
      fun e w' => ∃ g gcap, e = .returned (.agg #[.int .i64 q, .int .i64 s, .slice (some ⟨g, 0, none⟩) l.length gcap, .int .i64 fr, .int .i64 b]) ∧
        w'.ownsRow w.heap.size 75 7 (.slice (some ⟨g, 0, none⟩) l.length gcap) l.length (stepCells (heldL l zs zs.length)) ∧ Below w.heap.size w w' := by
  go_enter Try.func30, Try.ntmps30
  go_wp2_with fail
  refine (copyS_any _ _ _ _ _ b0 o _ _ _ hl0 hl ((hs.alloc _).alloc _)).mono ?_
  rintro e w1 ⟨g, gcap, rfl, hown1, hb1⟩
  have hg1 := (hown1.lt g rfl).1
  have hgl1 := (hown1.lt g rfl).2
  simp only [World.size_alloc] at hg1 hb1
  have hb01 : Below w.heap.size w w1 := (((Below.refl w.heap.size w).alloc (Nat.le_refl _) _).alloc (by simp) _).trans (hb1.mono (by omega))
  have z1 := hb1.size
  have hx2 := PathAt.new w1 q s fr b (.slice (some ⟨g, 0, none⟩) l.length gcap)
  have hr0 := ResP.new (w.alloc (.cells #[.int .i64 q, .int .i64 s, .slice a l.length cap, .int .i64 fr, .int .i64 b] 34))
  simp only [World.size_alloc] at hr0
  have hr1 := hr0.keep hb1 (by omega)
  have hal : Below w1.heap.size w1 (w1.alloc (.cells #[.int .i64 q, .int .i64 s, .slice (some ⟨g, 0, none⟩) l.length gcap, .int .i64 fr, .int .i64 b] 34)) := (Below.refl w1.heap.size w1).alloc (Nat.le_refl _) _
  have hr2 := hr1.keep hal hr1.lt
  have hb02 := hb01.trans (hal.mono hb01.size)
  have hown2 : (w1.alloc (.cells #[.int .i64 q, .int .i64 s, .slice (some ⟨g, 0, none⟩) l.length gcap, .int .i64 fr, .int .i64 b] 34)).ownsRow w.heap.size 75 7 (.slice (some ⟨g, 0, none⟩) l.length gcap) l.length (stepCells (heldL l zs 0)) := by
    rw [heldL_zero]
    have := owns_below hown1 hal
    refine ⟨this.1, this.2.imp id fun ⟨g, cap, cur, h1, h2, h3⟩ => ⟨g, cap, cur, h1, by simp at h2; omega, h3⟩⟩
  clear hr0 hr1 hal hown1 hb1 z1 hb01
  go_wp2_with fail
  go_loopw [6] (fun u wr => ∃ k : Nat, k ≤ zs.length ∧ u = .int .i64 k ∧ PathAt wr w1.heap.size q s fr b (.slice (some ⟨g, 0, none⟩) l.length gcap) ∧ ResP wr (w.heap.size + 1) ∧ Below w.heap.size w wr ∧ wr.ownsRow w.heap.size 75 7 (.slice (some ⟨g, 0, none⟩) l.length gcap) l.length (stepCells (heldL l zs k))) (fun u _ => zs.length - (intOf u).toNat)
  case atStart => exact ⟨0, Nat.zero_le _, rfl, hx2, hr2, hb02, hown2⟩
  case round =>
    clear hx2 hr2 hb02 hown2
    obtain ⟨k, hk, rfl, hx, hr, hb, hown⟩ := hrel
    obtain ⟨⟨p0, p1, p2, p3, p4⟩, pf⟩ := hx.cells
    obtain ⟨⟨r0, r1, r2, r3, r4⟩, rf⟩ := hr.cells
    by_cases hlt : k < zs.length
    · have hne : zs ≠ [] := by intro e; subst e; simp at hlt
      obtain rfl := hz.here hne
      obtain ⟨z, hzk⟩ : ∃ z, zs[k]? = some z := ⟨zs[k], List.getElem?_eq_getElem hlt⟩
      have hkl : k < l.length := by omega
      obtain ⟨t, ht⟩ : ∃ t, l.getD k .zero = t := ⟨_, rfl⟩
      have hnow := heldL_now l zs k hkl
      rw [ht] at hnow
      have x4 := (hown.cellAt (k * 7 + 4) (by omega)).trans (stepCells_at _ k t 4 hnow (by decide))
      have x5 := (hown.cellAt (k * 7 + 5) (by omega)).trans (stepCells_at _ k t 5 hnow (by decide))
      simp only [List.getElem?_cons_succ, List.getElem?_cons_zero] at x4 x5
      have zc := (hz.below hb hz.lt).cell k z hzk
      have hcb := (hz.below hb hz.lt).lt hne
      have hgr : g < wr.heap.size := (hown.lt g rfl).2
      have hpr : w1.heap.size < wr.heap.size := hx.lt
      have m0 : (0 : Int) ≤ (k : Int) := by omega
      have m1 : (k : Int) < (zs.length : Int) := by omega
      have m2 : (k : Int) < (l.length : Int) := by omega
      obtain ⟨n1, hn1⟩ : ∃ n1, mxB t.fr z = n1 := ⟨_, rfl⟩
      obtain ⟨n2, hn2⟩ : ∃ n2, mnB t.by_ z = n2 := ⟨_, rfl⟩
      have MX : ∀ (W : World), Calls Try.prog 47 #[.int .i64 t.fr, .int .i64 z] W fun e w' => e = .returned (.int .i64 n1) ∧ w' = W := fun W => by rw [← hn1]; exact max_any _ _ _
      have MN : ∀ (W : World), Calls Try.prog 48 #[.int .i64 t.by_, .int .i64 z] W fun e w' => e = .returned (.int .i64 n2) ∧ w' = W := fun W => by rw [← hn2]; exact min_any _ _ _
      have HO : Hid (wr.ownsRow w.heap.size 75 7 (.slice (some ⟨g, 0, none⟩) l.length gcap) l.length (stepCells (heldL l zs k))) := hown
      have HX : Hid (PathAt wr w1.heap.size q s fr b (.slice (some ⟨g, 0, none⟩) l.length gcap)) := hx
      have HR : Hid (ResP wr (w.heap.size + 1)) := hr
      have HB : Hid (Below w.heap.size w wr) := hb
      have hsl : (stepCells (heldL l zs k)).length = l.length * 7 := hown.1
      clear hx hr hb hown hnow pf r0 r1 r2 r3 r4 rf p3 p4 p0 p1
      have qn := Cls.any wr
      have q1 := Cls.cell hgr
      have q2 := Cls.cell hpr
      have q3 := Cls.cell hcb
      go_wp2
      refine wp_region_last (by kernel_rfl) (by simp) (by kernel_rfl) (by kernel_rfl) ?_
      simp only [initL, endL]
      repeat (go_big_quiet_step ((go_at_call 47; exact Calls.cls_of_same (MX _))))
      refine wpQuiet_nil ?_
      rintro _ ⟨u, rfl⟩
      have hownu := owns_below HO.out u.same
      have t0 := (hownu.cellAt (k * 7 + 4) (by omega)).trans ((HO.out.cellAt (k * 7 + 4) (by omega)).symm.trans x4)
      have tf := hownu.frozenAt
      clear q1 q2 q3 qn MX
      go_wp2
      have hown8 := owns_put hownu (j := k * 7 + 4) (by omega) (.int .i64 n1)
      have hx8 := (HX.out.keep u.same hpr).set (p := ⟨g, k * 7 + 4, none⟩) (by show w1.heap.size ≠ g; omega) (.int .i64 n1)
      have hr8 := (HR.out.keep u.same HR.out.lt).set (p := ⟨g, k * 7 + 4, none⟩) (by show w.heap.size + 1 ≠ g; omega) (.int .i64 n1)
      have hb8 := (HB.out.trans (u.same.mono HB.out.size)).setCell (p := ⟨g, k * 7 + 4, none⟩) (by show w.heap.size ≤ g; omega) (.int .i64 n1)
      have z5 : ((stepCells (heldL l zs k)).set (k * 7 + 4) (.int .i64 n1))[k * 7 + 5]? = some (.int .i64 t.by_) := by
        rw [List.getElem?_set_ne (by omega), ← HO.out.cellAt (k * 7 + 5) (by omega)]; exact x5
      clear t0 tf hownu x4 x5 p2 zc hcb
      generalize u.it.setCell ⟨g, k * 7 + 4, none⟩ (.int .i64 n1) = w8 at hown8 hx8 hr8 hb8 ⊢
      have x5 := (hown8.cellAt (k * 7 + 5) (by omega)).trans z5
      obtain ⟨⟨_, _, p2, _, _⟩, _⟩ := hx8.cells
      have zc := (hz.below hb8 hz.lt).cell k z hzk
      have hcb := (hz.below hb8 hz.lt).lt hne
      have hgr8 : g < w8.heap.size := (hown8.lt g rfl).2
      have hpr8 : w1.heap.size < w8.heap.size := hx8.lt
      have qn := Cls.any w8
      have q1 := Cls.cell hgr8
      have q2 := Cls.cell hpr8
      have q3 := Cls.cell hcb
      have HO8 : Hid (w8.ownsRow w.heap.size 75 7 (.slice (some ⟨g, 0, none⟩) l.length gcap) l.length ((stepCells (heldL l zs k)).set (k * 7 + 4) (.int .i64 n1))) := hown8
      have HX8 : Hid (PathAt w8 w1.heap.size q s fr b (.slice (some ⟨g, 0, none⟩) l.length gcap)) := hx8
      have HR8 : Hid (ResP w8 (w.heap.size + 1)) := hr8
      have HB8 : Hid (Below w.heap.size w w8) := hb8
      clear hx8 hr8 hb8 hown8 hpr hgr HX HR HB
      refine wp_region_last (by kernel_rfl) (by simp) (by kernel_rfl) (by kernel_rfl) ?_
      simp only [initL, endL]
      repeat (go_big_quiet_step ((go_at_call 48; exact Calls.cls_of_same (MN _))))
      refine wpQuiet_nil ?_
      rintro _ ⟨u2, rfl⟩
      have hownu := owns_below HO8.out u2.same
      have t0 := (hownu.cellAt (k * 7 + 5) (by omega)).trans z5
      have tf := hownu.frozenAt
      clear q1 q2 q3 qn MN
      go_wp2
      have hown9 := owns_put hownu (j := k * 7 + 5) (by omega) (.int .i64 n2)
      have hx9 := (HX8.out.keep u2.same hpr8).set (p := ⟨g, k * 7 + 5, none⟩) (by show w1.heap.size ≠ g; omega) (.int .i64 n2)
      have hr9 := (HR8.out.keep u2.same HR8.out.lt).set (p := ⟨g, k * 7 + 5, none⟩) (by show w.heap.size + 1 ≠ g; omega) (.int .i64 n2)
      have hb9 := (HB8.out.trans (u2.same.mono HB8.out.size)).setCell (p := ⟨g, k * 7 + 5, none⟩) (by show w.heap.size ≤ g; omega) (.int .i64 n2)
      have ER : stepCells (heldL l zs (k + 1)) = ((stepCells (heldL l zs k)).set (k * 7 + 4) (.int .i64 n1)).set (k * 7 + 5) (.int .i64 n2) := by
        have hgz : zs.getD k 0 = z := by rw [List.getD_eq_getElem?_getD, hzk]; rfl
        have hnow := heldL_now l zs k hkl
        rw [heldL_succ, ht, hgz, ← hn1, ← hn2]
        rw [ht] at hnow
        exact stepCells_set _ k t (t.hold z) hnow rfl
      rw [← ER] at hown9
      go_roundw
      case rel => exact ⟨k + 1, by omega, by go_num, hx9, hr9, hb9, hown9⟩
      case measure => simp [intOf]; omega
    · obtain rfl : k = zs.length := by omega
      go_wp2
      refine bodyPost_ret (v := .agg #[.int .i64 q, .int .i64 s, .slice (some ⟨g, 0, none⟩) l.length gcap, .int .i64 fr, .int .i64 b]) (by simp [results, Try.results30, go_sem, *]) rfl ⟨g, gcap, rfl, ?_, ?_⟩
      · have hh : ∀ j, (Value.slice (some ⟨g, 0, none⟩) l.length gcap).ownBlock = some j → j ≠ w.heap.size + 1 := fun j e => by simp [Value.ownBlock] at e; omega
        iterate 5 (refine owns_set ?_ (fun j e => hh j e) _ _)
        exact hown
      · iterate 5 (refine Below.setCell ?_ (by simp <;> omega) _)
        exact hb
end Go.Proofs.Ytgkebobmfagklaa

namespace Go.Proofs.Ytgkebobmfagklaa
open Go.RowKit

theorem isIn_any (x1 x2 y1 y2 : Int) (w : World) :
    Calls Try.prog 42 #[.agg #[.int .i64 x1, .int .i64 x2], .agg #[.int .i64 y1, .int .i64 y2]] w fun e w' => e = .returned (.bool (decide (y1 ≤ x1) && decide (x2 ≤ y2))) ∧ Below w.heap.size w w' := by
  go_enter Try.func42, Try.ntmps42
  cases h : decide (y1 ≤ x1) with
  | false =>
    go_wp2
    go_ret
    exact ⟨rfl, ((Below.refl w.heap.size w).alloc (Nat.le_refl _) _).alloc (by simp) _⟩
  | true =>
    go_wp2
    go_ret
    exact ⟨rfl, ((Below.refl w.heap.size w).alloc (Nat.le_refl _) _).alloc (by simp) _⟩
theorem isIn_val (t y1 y2 : Int) (v : Bool) (w : World) (hv : inB t y1 y2 = v) :
    Calls Try.prog 42 #[.agg #[.int .i64 t, .int .i64 t], .agg #[.int .i64 y1, .int .i64 y2]] w fun e w' => e = .returned (.bool v) ∧ Below w.heap.size w w' := by
  rw [← hv]; exact isIn_any t t y1 y2 w

set_option maxRecDepth 20000 in
set_option maxHeartbeats 1000000 in
theorem behind_dead (q s fr b : Int) (a : Option Addr) (n cap : Nat) (a' : Option Addr) (cap' : Nat) (z : Int) (w : World) :
    Calls Try.prog 62 #[.agg #[.int .i64 q, .int .i64 s, .slice a n cap, .int .i64 fr, .int .i64 b], .slice a' 0 cap', .int .i64 z] w fun e w' => e = .returned (.slice none 0 0) ∧ Below w.heap.size w w' := by
  go_enter Try.func62, Try.ntmps62
  go_wp2
  obtain ⟨W1, hW1, hB1⟩ : ∃ W1, (w.alloc (.cells #[.int .i64 q, .int .i64 s, .slice a n cap, .int .i64 fr, .int .i64 b] 34)).alloc (.cells #[.int .i64 z, .int .i64 z] 61) = W1 ∧ Below w.heap.size w W1 :=
    ⟨_, rfl, ((Below.refl w.heap.size w).alloc (Nat.le_refl _) _).alloc (by simp) _⟩
  rw [hW1]
  clear hW1
  have qn := Cls.any W1
  refine wp_region_cls (by kernel_rfl) (by kernel_rfl) ?_
  repeat (go_big_quiet_step (fail))
  refine wpQuiet_nil ?_
  rintro _ ⟨u, rfl⟩
  have hb2 := hB1.trans (u.same.mono hB1.size)
  clear qn
  go_wp2
  go_ret
  exact ⟨rfl, hb2⟩

set_option maxRecDepth 20000 in
set_option maxHeartbeats 4000000 in
/-- A row of spans that a call owns, the piece from k on being what is open. -/
theorem behind_live (q s fr b : Int) (a : Option Addr) (b0 o cap : Nat) (l : List Stp) (g scap base k m cp : Nat) (R : List (Int × Int)) (z : Int) (w : World)
    (hl : l.length ≤ 1048576) (hs : StepsAt w a b0 o l) (hkm : k + m = l.length) (hcp : m + 1 ≤ cp) (hq : 1 ≤ q ∧ q ≤ 50) (hs0 : 1 ≤ s ∧ s ≤ 50) (e lf : Int × Int) (hb0 : l ≠ [] → b0 ≠ g)
    (he : R[k]? = some e) (hlf : m ≠ 0 → R[k + 1]? = some lf) (her : 0 ≤ e.1 ∧ e.2 ≤ 10000)
    (hown : w.ownsRow base 61 2 (.slice (some ⟨g, 0, none⟩) (l.length + 1) scap) (l.length + 1) (spanCells R)) :
    Calls Try.prog 62 #[.agg #[.int .i64 q, .int .i64 s, .slice a l.length cap, .int .i64 fr, .int .i64 b], .slice (some ⟨g, k * 2, none⟩) (m + 1) cp, .int .i64 z] w
      fun x w' => w.grownBy w' (some g) ∧
        ((inB z e.1 e.2 = false ∧ x = .returned (.slice none 0 0)) ∨
        (inB z e.1 e.2 = true ∧ m = 0 ∧ ∃ a' cp', x = .returned (.slice a' 0 cp')) ∨
        (inB z e.1 e.2 = true ∧ m ≠ 0 ∧ x = .returned (.slice (some ⟨g, (k + 1) * 2, none⟩) m (cp - 1)) ∧
          w'.ownsRow base 61 2 (.slice (some ⟨g, 0, none⟩) (l.length + 1) scap) (l.length + 1) (spanCells (R.set (k + 1) (mxB lf.1 (z + q), mnB lf.2 (z + mostB s l k)))))) := by
  have hgl := (hown.lt g rfl).2
  go_enter Try.func62, Try.ntmps62
  go_wp2
  obtain ⟨W1, hW1, hB1, hx1, hc0, hc1, hsz1⟩ : ∃ W1, (w.alloc (.cells #[.int .i64 q, .int .i64 s, .slice a l.length cap, .int .i64 fr, .int .i64 b] 34)).alloc (.cells #[.int .i64 z, .int .i64 z] 61) = W1 ∧ Below w.heap.size w W1 ∧
      PathAt W1 w.heap.size q s fr b (.slice a l.length cap) ∧ W1.cell? ⟨w.heap.size + 1, 0, none⟩ = some (.int .i64 z) ∧ W1.cell? ⟨w.heap.size + 1, 1, none⟩ = some (.int .i64 z) ∧ w.heap.size + 1 < W1.heap.size :=
    ⟨_, rfl, ((Below.refl w.heap.size w).alloc (Nat.le_refl _) _).alloc (by simp) _,
      (PathAt.new w q s fr b (.slice a l.length cap)).keep ((Below.refl (w.heap.size + 1) (w.alloc (.cells #[.int .i64 q, .int .i64 s, .slice a l.length cap, .int .i64 fr, .int .i64 b] 34))).alloc (by simp) _) (by omega),
      by simp [go_sem], by simp [go_sem], by simp⟩
  rw [hW1]
  clear hW1
  have ho1 := owns_below hown hB1
  obtain ⟨⟨p0, p1, p2, p3, p4⟩, pf⟩ := hx1.cells
  have x0 := (ho1.cellAt (k * 2) (by omega)).trans (spanCells_get _ _ _ he).1
  have x1 := (ho1.cellAt (k * 2 + 1) (by omega)).trans (spanCells_get _ _ _ he).2
  have hg1 : g < W1.heap.size := Nat.lt_of_lt_of_le hgl hB1.size
  cases hin : inB z e.1 e.2 with
  | false =>
    have HI : ∀ (u : Cls W1), Calls Try.prog 42 #[.agg #[.int .i64 z, .int .i64 z], .agg #[.int .i64 e.1, .int .i64 e.2]] u.it fun x w' => x = .returned (.bool false) ∧ Below u.it.heap.size u.it w' := fun u => isIn_val _ _ _ _ _ hin
    have qn := Cls.any W1
    have q1 := Cls.cell hg1
    have q2 := Cls.cell hsz1
    have mn : ((m : Int) + 1 == 0) = false := by simp; omega
    refine wp_region_cls (by kernel_rfl) (by kernel_rfl) ?_
    repeat (go_big_quiet_step ((go_at_call 42; exact Calls.cls_of (HI _))))
    refine wpQuiet_nil ?_
    rintro _ ⟨u, rfl⟩
    have hb2 := hB1.trans (u.same.mono hB1.size)
    clear qn q1 q2 HI
    have HN : Hid (inB z e.1 e.2 = false) := hin
    clear hin
    go_wp2
    go_ret
    exact ⟨⟨hb2.os, hb2.tape, hb2.output, hb2.size, fun i hi _ => hb2.block i hi⟩, .inl ⟨HN.out, rfl⟩⟩
  | true =>
    have hzr := (inB_iff _ _ _).1 hin
    have HI : ∀ (u : Cls W1), Calls Try.prog 42 #[.agg #[.int .i64 z, .int .i64 z], .agg #[.int .i64 e.1, .int .i64 e.2]] u.it fun x w' => x = .returned (.bool true) ∧ Below u.it.heap.size u.it w' := fun u => isIn_val _ _ _ _ _ hin
    have qn := Cls.any W1
    have q1 := Cls.cell hg1
    have q2 := Cls.cell hsz1
    have mn : ((m : Int) + 1 == 0) = false := by simp; omega
    refine wp_region_cls (by kernel_rfl) (by kernel_rfl) ?_
    repeat (go_big_quiet_step ((go_at_call 42; exact Calls.cls_of (HI _))))
    refine wpQuiet_nil ?_
    rintro _ ⟨u, rfl⟩
    have hb2 := hB1.trans (u.same.mono hB1.size)
    clear qn q1 q2 HI
    have HN : Hid (inB z e.1 e.2 = true) := hin
    clear hin
    rcases m with _ | m
    · by_cases hc : cp = 1
      · go_wp2
        go_ret
        exact ⟨⟨hb2.os, hb2.tape, hb2.output, hb2.size, fun i hi _ => hb2.block i hi⟩, .inr ⟨HN.out, _, _, rfl⟩⟩
      · go_wp2
        go_ret
        exact ⟨⟨hb2.os, hb2.tape, hb2.output, hb2.size, fun i hi _ => hb2.block i hi⟩, .inr ⟨HN.out, _, _, rfl⟩⟩
    · have hlf' := hlf (by omega)
      obtain ⟨t, ht⟩ : ∃ t, l[k]? = some t := ⟨l[k], List.getElem?_eq_getElem (by omega)⟩
      have hne : l ≠ [] := by intro e'; subst e'; simp at ht
      obtain rfl := hs.here hne
      have ho2 := owns_below ho1 u.same
      have hx2 := hx1.keep u.same hx1.lt
      have hs2 := hs.below hb2 hs.lt
      have d0 := (u.same.cell (p := ⟨w.heap.size + 1, 0, none⟩) hsz1).trans hc0
      have d1 := (u.same.cell (p := ⟨w.heap.size + 1, 1, none⟩) hsz1).trans hc1
      have hsz2 : w.heap.size + 1 < u.it.heap.size := Nat.lt_of_lt_of_le hsz1 u.same.size
      have hg2 : g < u.it.heap.size := Nat.lt_of_lt_of_le hg1 u.same.size
      clear hx1 hc0 hc1 p0 p1 p2 p3 p4 pf x0 x1 hs hlf
      generalize u.it = W2 at hb2 ho2 hx2 hs2 d0 d1 hsz2 hg2 ⊢
      clear u
      obtain ⟨⟨p0, p1, p2, p3, p4⟩, pf⟩ := hx2.cells
      obtain ⟨c0, c1, c2, c3, c4, c5, c6⟩ := hs2.seven ht
      have hbl := hs2.lt hne
      obtain ⟨mo, hmo⟩ : ∃ mo, mostB s l k = mo := ⟨_, rfl⟩
      have hmr : 1 ≤ mo ∧ mo ≤ 10000 := by rw [← hmo]; unfold mostB; split <;> omega
      have ST : ∀ (u : Cls W2), Calls Try.prog 70 #[.agg #[.int .i64 t.x, .int .i64 t.y, .int .i64 t.lo, .int .i64 t.hi, .int .i64 t.fr, .int .i64 t.by_, .bool t.ho], .agg #[.int .i64 q, .int .i64 s]] u.it fun x w' => x = .returned (.tuple #[.int .i64 q, .int .i64 mo]) ∧ Below u.it.heap.size u.it w' := fun u => by
        have := stay_any t.x t.y t.lo t.hi t.fr t.by_ q s t.ho u.it
        rwa [show (if t.ho then (10000 : Int) else s) = mo by rw [← hmo]; unfold mostB; rw [getD_is ht]] at this
      have hc : ¬ cp = 1 := by omega
      have hw1 : IntKind.i64.wrap ((l.length : Int) - ((m : Int) + 1)) = (k : Int) := by rw [IntKind.wrap_i64]; omega
      have k0 : (0 : Int) ≤ (k : Int) := by omega
      have k1 : (k : Int) < (l.length : Int) := by omega
      have mp : (0 : Int) < (m : Int) + 1 := by omega
      have qn := Cls.any W2
      have q1 := Cls.cell hbl
      have q2 := Cls.cell hx2.lt
      go_wp2
      refine wp_region_cls (by kernel_rfl) (by kernel_rfl) ?_
      repeat (go_big_quiet_step ((go_at_call 70; exact Calls.cls_of (ST _))))
      refine wpQuiet_nil ?_
      rintro _ ⟨u, rfl⟩
      have hb3 := hb2.trans (u.same.mono hb2.size)
      have ho3 := owns_below ho2 u.same
      have d0' := (u.same.cell (p := ⟨w.heap.size + 1, 0, none⟩) hsz2).trans d0
      have d1' := (u.same.cell (p := ⟨w.heap.size + 1, 1, none⟩) hsz2).trans d1
      have hsz3 : w.heap.size + 1 < u.it.heap.size := Nat.lt_of_lt_of_le hsz2 u.same.size
      have hg3 : g < u.it.heap.size := Nat.lt_of_lt_of_le hg2 u.same.size
      clear q1 q2 qn ST p0 p1 p2 p3 p4 pf c0 c1 c2 c3 c4 c5 c6 hx2 hs2 hbl d0 d1 hsz2 hg2 ho2 hb2
      generalize u.it = W3 at hb3 ho3 d0' d1' hsz3 hg3 ⊢
      clear u
      have y0 := (ho3.cellAt (k * 2 + 2) (by omega)).trans ((congrArg (fun i => (spanCells R)[i]?) (show k * 2 + 2 = (k + 1) * 2 by omega)).trans (spanCells_get _ _ _ hlf').1)
      have y1 := (ho3.cellAt (k * 2 + 2 + 1) (by omega)).trans ((congrArg (fun i => (spanCells R)[i]?) (show k * 2 + 2 + 1 = (k + 1) * 2 + 1 by omega)).trans (spanCells_get _ _ _ hlf').2)
      obtain ⟨n1, hn1⟩ : ∃ n1, mxB lf.1 (z + q) = n1 := ⟨_, rfl⟩
      obtain ⟨n2, hn2⟩ : ∃ n2, mnB lf.2 (z + mo) = n2 := ⟨_, rfl⟩
      have TL : ∀ (u : Cls W3), Calls Try.prog 67 #[.agg #[.int .i64 z, .int .i64 z], .agg #[.int .i64 lf.1, .int .i64 lf.2], .agg #[.int .i64 q, .int .i64 mo]] u.it fun x w' => x = .returned (.tuple #[.agg #[.int .i64 z, .int .i64 z], .agg #[.int .i64 n1, .int .i64 n2]]) ∧ Below u.it.heap.size u.it w' := fun u => by
        rw [← hn1, ← hn2]
        exact tightL_any z z lf.1 lf.2 q mo u.it (by omega) (by omega) (by omega) (by omega)
      have qn := Cls.any W3
      have q1 := Cls.cell hg3
      have q2 := Cls.cell hsz3
      go_wp2
      refine wp_region_last (by kernel_rfl) (by simp) (by kernel_rfl) (by kernel_rfl) ?_
      simp only [initL, endL]
      repeat (go_big_quiet_step ((go_at_call 67; exact Calls.cls_of (TL _))))
      refine wpQuiet_nil ?_
      rintro _ ⟨u2, rfl⟩
      have hownu := owns_below ho3 u2.same
      have hb4 := hb3.trans (u2.same.mono hb3.size)
      have hlen : (spanCells R).length = (l.length + 1) * 2 := ho3.1
      obtain ⟨v0, t0⟩ : ∃ v, u2.it.cell? ⟨g, k * 2 + 2, none⟩ = some v := ⟨_, (hownu.cellAt (k * 2 + 2) (by omega)).trans (List.getElem?_eq_getElem (by omega))⟩
      obtain ⟨v1, t1⟩ : ∃ v, u2.it.cell? ⟨g, k * 2 + 2 + 1, none⟩ = some v := ⟨_, (hownu.cellAt (k * 2 + 2 + 1) (by omega)).trans (List.getElem?_eq_getElem (by omega))⟩
      have tf := hownu.frozenAt
      have HO9 := owns_put (owns_put hownu (j := k * 2 + 2) (by omega) (.int .i64 n1)) (j := k * 2 + 2 + 1) (by omega) (.int .i64 n2)
      have ER : spanCells (R.set (k + 1) (mxB lf.1 (z + q), mnB lf.2 (z + mostB s l k))) = ((spanCells R).set (k * 2 + 2) (.int .i64 n1)).set (k * 2 + 2 + 1) (.int .i64 n2) := by
        rw [hmo, hn1, hn2, spanCells_set, show (k + 1) * 2 = k * 2 + 2 by omega]
      have gr : w.grownBy ((u2.it.setCell ⟨g, k * 2 + 2, none⟩ (.int .i64 n1)).setCell ⟨g, k * 2 + 2 + 1, none⟩ (.int .i64 n2)) (some g) := by
        have a0 : w.grownBy u2.it (some g) := ⟨hb4.os, hb4.tape, hb4.output, hb4.size, fun i hi _ => hb4.block i hi⟩
        exact grown_over2 (grown_over2 a0 (grown_set u2.it ⟨g, k * 2 + 2, none⟩ (.int .i64 n1))) (grown_set _ ⟨g, k * 2 + 2 + 1, none⟩ (.int .i64 n2))
      rw [← ER] at HO9
      have HO : Hid (((u2.it.setCell ⟨g, k * 2 + 2, none⟩ (.int .i64 n1)).setCell ⟨g, k * 2 + 2 + 1, none⟩ (.int .i64 n2)).ownsRow base 61 2 (.slice (some ⟨g, 0, none⟩) (l.length + 1) scap) (l.length + 1) (spanCells (R.set (k + 1) (mxB lf.1 (z + q), mnB lf.2 (z + mostB s l k))))) := HO9
      have HG : Hid (w.grownBy ((u2.it.setCell ⟨g, k * 2 + 2, none⟩ (.int .i64 n1)).setCell ⟨g, k * 2 + 2 + 1, none⟩ (.int .i64 n2)) (some g)) := gr
      clear q1 q2 qn TL HO9 gr ER hownu hn1 hn2 hmo ho3 ho1 hown
      go_wp2
      go_ret
      refine ⟨HG.out, .inr (.inr ⟨HN.out, by omega, ?_, HO.out⟩)⟩
      rw [show (k + 1) * 2 = k * 2 + 2 by omega]
      rfl
end Go.Proofs.Ytgkebobmfagklaa
