/- The specification's FlyLawful, by its contract: the whole. -/
import Derived.Test.YtijcdikekgmfoaaGreatDoorLawSpec
import Derived.Test.YtijcdikekgmfoaaGreatDoorBoxP
namespace Go.Proofs.YtijcdikekgmfoaaGreatDoor
open Go.RowKit


set_option maxHeartbeats 2000000 in
theorem lawS_no (q s fr b : Int) (a : Option Addr) (b0 o cap : Nat) (l : List Stp) (c : Option Addr) (m ccap : Nat) (w : World) (hl : l.length ≤ 1048576) (_hm : m ≤ 1048576) (hs : StepsAt w a b0 o l)
    (hno : (pathB q s fr b l && decide (m = l.length + 1)) = false) :
    Calls Tryz.prog 42 #[.agg #[.int .i64 q, .int .i64 s, .slice a l.length cap, .int .i64 fr, .int .i64 b], .slice c m ccap] w fun e w' => e = .returned (.bool false) ∧ Below w.heap.size w w' := by
  rcases (show pathB q s fr b l = false ∨ (pathB q s fr b l = true ∧ ((m : Int) != (l.length : Int) + 1) = true) by
    cases h : pathB q s fr b l with
    | false => exact .inl rfl
    | true => rw [h] at hno; simp at hno; exact .inr ⟨rfl, by simp; omega⟩) with h1 | ⟨h1, h2⟩
  all_goals
    clear hno
    go_enter Tryz.func42, Tryz.ntmps42
    go_wp2_with fail
    refine (pathS_any _ _ _ _ _ b0 o _ _ _ hl (hs.alloc _)).mono ?_
    rintro e w1 ⟨rfl, hb1⟩
    have hb01 : Below w.heap.size w w1 := ((Below.refl w.heap.size w).alloc (Nat.le_refl _) _).trans (hb1.mono (by simp))
    have c2 : w1.cell? ⟨w.heap.size, 2, none⟩ = some (.slice a l.length cap) := by rw [hb1.cell (p := ⟨w.heap.size, 2, none⟩) (by simp)]; simp [go_sem]
    clear hb1
    go_wp2
    go_ret
    exact ⟨rfl, hb01⟩

set_option maxHeartbeats 4000000 in
theorem lawS_yes (q s fr b : Int) (a : Option Addr) (b0 o cap : Nat) (l : List Stp) (c : Option Addr) (cb co ccap : Nat) (zs : List Int) (w : World) (hl : l.length ≤ 1048576) (hs : StepsAt w a b0 o l) (hz : IntsAt w c cb co zs)
    (hp : pathB q s fr b l = true) (hn : zs.length = l.length + 1) :
    Calls Tryz.prog 42 #[.agg #[.int .i64 q, .int .i64 s, .slice a l.length cap, .int .i64 fr, .int .i64 b], .slice c zs.length ccap] w fun e w' => e = .returned (.bool (tickTo q s fr b l zs (l.length + 1))) ∧ Below w.heap.size w w' := by
  have HL := path_len hp
  have hneq : ((zs.length : Int) != (l.length : Int) + 1) = false := by simp; omega
  have hzne : zs ≠ [] := by intro e; subst e; simp at hn
  obtain rfl := hz.here hzne
  have hcb := hz.lt hzne
  have HN : Hid (zs.length = l.length + 1) := hn
  clear hn
  go_enter Tryz.func42, Tryz.ntmps42
  go_wp2_with fail
  refine (pathS_any _ _ _ _ _ b0 o _ _ _ hl (hs.alloc _)).mono ?_
  rintro e w1 ⟨rfl, hb1⟩
  have hB1 := (BoxP.new w q s fr b (.slice a l.length cap) 27).below hb1
  have c2 := hB1.p2
  clear hb1
  go_wp2
  clear c2
  go_loopw [5] (fun v wr => ∃ k : Nat, k ≤ zs.length ∧ v = .int .i64 k ∧ BoxP w wr q s fr b (.slice a l.length cap) ∧ tickTo q s fr b l zs k = true) (fun v _ => zs.length - (intOf v).toNat)
  case atStart => exact ⟨0, Nat.zero_le _, rfl, hB1, tickTo_zero _ _ _ _ _ _⟩
  case round =>
    clear hB1
    obtain ⟨k, hk, rfl, hB, hgood⟩ := hrel
    have HG : Hid (tickTo q s fr b l zs k = true) := hgood
    clear hgood
    by_cases hlt : k < zs.length
    · have hkl : k ≤ l.length := by have := HN.out; omega
      obtain ⟨z, hzk⟩ : ∃ z, zs[k]? = some z := ⟨zs[k], List.getElem?_eq_getElem hlt⟩
      have HZ : Hid (zs.getD k 0 = z) := by show _ = _; simp [List.getD, hzk]
      have d0 := (hz.below hB.old hz.lt).cell k z hzk
      clear hzk
      have hcw : cb < wr.heap.size := Nat.lt_of_lt_of_le hcb hB.old.size
      have qn := Cls.any wr
      have q0 := Cls.cell hcw
      have q1 := Cls.cell hB.lt
      have hSu : ∀ u : Cls wr, StepsAt u.it a b0 o l := fun u => hs.below (hB.old.trans (u.same.mono hB.old.size)) hs.lt
      have p0 := hB.p0
      have p1 := hB.p1
      have p2 := hB.p2
      have p3 := hB.p3
      have p4 := hB.p4
      have k0 : (0 : Int) ≤ (k : Int) := by omega
      have k1 : (k : Int) < (zs.length : Int) := by omega
      cases hwin : inB z (lowB fr l k) (highB b l k) with
      | false =>
        have G1 : Hid (tickTo q s fr b l zs (l.length + 1) = false) := by
          refine tickTo_not (k := k) (by omega) ?_
          unfold tickS winS; rw [HZ.out, hwin]; rfl
        go_wp2
        refine wp_region_cls (by kernel_rfl) (by kernel_rfl) ?_
        repeat (go_big_quiet_step (first | (go_at_call 90; exact Calls.cls_of (low_any _ _ _ _ _ b0 o _ _ _ _ hl (hSu _))) | (go_at_call 91; exact Calls.cls_of (high_any _ _ _ _ _ b0 o _ _ _ _ hl (hSu _))) | (go_at_call 55; exact Calls.cls_of_same (in_val _ _ _ _ _ hwin))))
        refine wpQuiet_nil ?_
        rintro _ ⟨u, rfl⟩
        go_wp2
        go_ret
        exact ⟨by rw [G1.out]; rfl, (hB.below u.same).old⟩
      | true =>
        have HW : Hid (winS fr b l zs k = true) := by show _ = _; unfold winS; rw [HZ.out, hwin]
        have hzr : 0 ≤ z ∧ z ≤ 10000 := by have := win_range hp HW.out; rw [HZ.out] at this; exact this
        rcases Nat.eq_zero_or_pos k with hk0 | hk0
        · have G1 : Hid (tickTo q s fr b l zs (k + 1) = true) := by
            show _ = _; rw [tickTo_succ HG.out]; unfold tickS; rw [HW.out, hk0]; rfl
          subst hk0
          simp only [Nat.add_zero] at d0
          go_wp2
          refine wp_region_cls (by kernel_rfl) (by kernel_rfl) ?_
          repeat (go_big_quiet_step (first | (go_at_call 90; exact Calls.cls_of (low_any _ _ _ _ _ b0 o _ _ _ _ hl (hSu _))) | (go_at_call 91; exact Calls.cls_of (high_any _ _ _ _ _ b0 o _ _ _ _ hl (hSu _))) | (go_at_call 55; exact Calls.cls_of_same (in_val _ _ _ _ _ hwin))))
          refine wpQuiet_nil ?_
          rintro _ ⟨u, rfl⟩
          have hBu := hB.below u.same
          clear q0 q1 hSu p0 p1 p2 p3 p4 qn
          have qn := Cls.any u.it
          go_wp2
          refine wp_region_cls (by kernel_rfl) (by kernel_rfl) ?_
          repeat (go_big_quiet_step (fail))
          refine wpQuiet_nil ?_
          rintro _ ⟨u2, rfl⟩
          go_wp2
          go_roundw
          case rel => exact ⟨0 + 1, by omega, by go_num, hBu.below u2.same, G1.out⟩
          case measure => simp [intOf]; omega
        · obtain ⟨m, rfl⟩ : ∃ m, k = m + 1 := ⟨k - 1, by omega⟩
          obtain ⟨y, hyk⟩ : ∃ y, zs[m]? = some y := ⟨zs[m]'(by omega), List.getElem?_eq_getElem (by omega)⟩
          have HY : Hid (zs.getD m 0 = y) := by show _ = _; simp [List.getD, hyk]
          have g0 := (hz.below hB.old hz.lt).cell m y hyk
          clear hyk
          have hyr : 0 ≤ y ∧ y ≤ 10000 := by have := win_range hp (tickTo_win HG.out (show m < m + 1 by omega)); rw [HY.out] at this; exact this
          have hml : m < l.length := by omega
          cases hst : inB (z - y) q (mostB s l m) with
          | false =>
            have G1 : Hid (tickTo q s fr b l zs (l.length + 1) = false) := by
              refine tickTo_not (k := m + 1) (by omega) ?_
              unfold tickS stayS; rw [HW.out, Nat.add_sub_cancel, HZ.out, HY.out, hst]; simp
            go_wp2
            refine wp_region_cls (by kernel_rfl) (by kernel_rfl) ?_
            repeat (go_big_quiet_step (first | (go_at_call 90; exact Calls.cls_of (low_any _ _ _ _ _ b0 o _ _ _ _ hl (hSu _))) | (go_at_call 91; exact Calls.cls_of (high_any _ _ _ _ _ b0 o _ _ _ _ hl (hSu _))) | (go_at_call 55; exact Calls.cls_of_same (in_val _ _ _ _ _ hwin))))
            refine wpQuiet_nil ?_
            rintro _ ⟨u, rfl⟩
            have hBu := hB.below u.same
            have e0 := (q0 u (co + (m + 1))).trans d0
            have e1 := (q0 u (co + m)).trans g0
            clear q0 q1 hSu p0 p1 p2 p3 p4 qn d0 g0
            have qn := Cls.any u.it
            have q0 := Cls.cell (Nat.lt_of_lt_of_le hcw u.same.size)
            have q1 := Cls.cell hBu.lt
            have hSu : ∀ u2 : Cls u.it, StepsAt u2.it a b0 o l := fun u2 => hs.below (hBu.old.trans (u2.same.mono hBu.old.size)) hs.lt
            have p0 := hBu.p0
            have p1 := hBu.p1
            have p2 := hBu.p2
            have p3 := hBu.p3
            have p4 := hBu.p4
            go_wp2
            refine wp_region_cls (by kernel_rfl) (by kernel_rfl) ?_
            repeat (go_big_quiet_step (first | (go_at_call 92; exact Calls.cls_of (most_any _ _ _ _ _ b0 o _ _ m _ hl (hSu _) hml)) | (go_at_call 55; exact Calls.cls_of_same (in_val _ _ _ _ _ hst))))
            refine wpQuiet_nil ?_
            rintro _ ⟨u2, rfl⟩
            go_wp2
            go_ret
            exact ⟨by rw [G1.out]; rfl, (hBu.below u2.same).old⟩
          | true =>
            have G1 : Hid (tickTo q s fr b l zs (m + 1 + 1) = true) := by
              show _ = _; rw [tickTo_succ HG.out]
              unfold tickS stayS; rw [HW.out, Nat.add_sub_cancel, HZ.out, HY.out, hst]; simp
            go_wp2
            refine wp_region_cls (by kernel_rfl) (by kernel_rfl) ?_
            repeat (go_big_quiet_step (first | (go_at_call 90; exact Calls.cls_of (low_any _ _ _ _ _ b0 o _ _ _ _ hl (hSu _))) | (go_at_call 91; exact Calls.cls_of (high_any _ _ _ _ _ b0 o _ _ _ _ hl (hSu _))) | (go_at_call 55; exact Calls.cls_of_same (in_val _ _ _ _ _ hwin))))
            refine wpQuiet_nil ?_
            rintro _ ⟨u, rfl⟩
            have hBu := hB.below u.same
            have e0 := (q0 u (co + (m + 1))).trans d0
            have e1 := (q0 u (co + m)).trans g0
            clear q0 q1 hSu p0 p1 p2 p3 p4 qn d0 g0
            have qn := Cls.any u.it
            have q0 := Cls.cell (Nat.lt_of_lt_of_le hcw u.same.size)
            have q1 := Cls.cell hBu.lt
            have hSu : ∀ u2 : Cls u.it, StepsAt u2.it a b0 o l := fun u2 => hs.below (hBu.old.trans (u2.same.mono hBu.old.size)) hs.lt
            have p0 := hBu.p0
            have p1 := hBu.p1
            have p2 := hBu.p2
            have p3 := hBu.p3
            have p4 := hBu.p4
            go_wp2
            refine wp_region_cls (by kernel_rfl) (by kernel_rfl) ?_
            repeat (go_big_quiet_step (first | (go_at_call 92; exact Calls.cls_of (most_any _ _ _ _ _ b0 o _ _ m _ hl (hSu _) hml)) | (go_at_call 55; exact Calls.cls_of_same (in_val _ _ _ _ _ hst))))
            refine wpQuiet_nil ?_
            rintro _ ⟨u2, rfl⟩
            go_wp2
            go_roundw
            case rel => exact ⟨m + 1 + 1, by omega, by go_num, hBu.below u2.same, G1.out⟩
            case measure => simp [intOf]; omega
    · have hkl : k = l.length + 1 := by have := HN.out; omega
      go_wp2
      go_ret
      exact ⟨by rw [← hkl, HG.out]; rfl, hB.old⟩
end Go.Proofs.YtijcdikekgmfoaaGreatDoor
