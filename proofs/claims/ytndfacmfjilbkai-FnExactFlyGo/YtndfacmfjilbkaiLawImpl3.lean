/- The program's check of stays, and its FlyLawful, by their contracts. -/
import Derived.Test.YtndfacmfjilbkaiLawImpl2
import Derived.Test.YtndfacmfjilbkaiImplPath
namespace Go.Proofs.Ytndfacmfjilbkai
open Go.RowKit

theorem stay_val (x y lo hi fr b q s m : Int) (ho : Bool) (w : World) (hm : (if ho then 10000 else s) = m) :
    Calls Try.prog 66 #[.agg #[.int .i64 x, .int .i64 y, .int .i64 lo, .int .i64 hi, .int .i64 fr, .int .i64 b, .bool ho], .agg #[.int .i64 q, .int .i64 s]] w
      fun e w' => e = .returned (.tuple #[.int .i64 q, .int .i64 m]) ∧ Below w.heap.size w w' := by
  rw [← hm]; exact stay_any x y lo hi fr b q s ho w

set_option maxHeartbeats 2000000 in
theorem stays_any (q s fr b : Int) (a : Option Addr) (b0 o cap : Nat) (l : List Stp) (c : Option Addr) (cb co ccap : Nat) (zs : List Int) (w : World) (hl : l.length ≤ 1048576) (hs : StepsAt w a b0 o l) (hz : IntsAt w c cb co zs)
    (hn : zs.length = l.length + 1) (hr : ∀ i, i < zs.length → 0 ≤ zs.getD i 0 ∧ zs.getD i 0 ≤ 10000) :
    Calls Try.prog 55 #[.agg #[.int .i64 q, .int .i64 s, .slice a l.length cap, .int .i64 fr, .int .i64 b], .slice c zs.length ccap] w fun e w' => e = .returned (.bool (stayTo q s l zs l.length)) ∧ Below w.heap.size w w' := by
  have hzne : zs ≠ [] := by intro e; subst e; simp at hn
  obtain rfl := hz.here hzne
  have hcb := hz.lt hzne
  have HN : Hid (zs.length = l.length + 1) := hn
  have HR : Hid (∀ i, i < zs.length → 0 ≤ zs.getD i 0 ∧ zs.getD i 0 ≤ 10000) := hr
  clear hn hr
  have hB1 := BoxP.new w q s fr b (.slice a l.length cap) 36
  go_enter Try.func55, Try.ntmps55
  go_wp2
  go_loopw [13] (fun u wr => ∃ k : Nat, k ≤ l.length ∧ u = .int .i64 k ∧ BoxP w wr q s fr b (.slice a l.length cap) ∧ stayTo q s l zs k = true) (fun u _ => l.length - (intOf u).toNat)
  case atStart => exact ⟨0, Nat.zero_le _, rfl, hB1, rfl⟩
  case round =>
    clear hB1
    obtain ⟨k, hk, rfl, hB, hgood⟩ := hrel
    have HG : Hid (stayTo q s l zs k = true) := hgood
    clear hgood
    by_cases hlt : k < l.length
    · have hk1 : k + 1 < zs.length := by rw [HN.out]; omega
      obtain ⟨y, hyk⟩ : ∃ y, zs[k]? = some y := ⟨zs[k]'(by omega), List.getElem?_eq_getElem (by omega)⟩
      obtain ⟨z, hzk⟩ : ∃ z, zs[k + 1]? = some z := ⟨zs[k + 1], List.getElem?_eq_getElem hk1⟩
      have HY : Hid (zs.getD k 0 = y) := by show _ = _; simp [List.getD, hyk]
      have HZ : Hid (zs.getD (k + 1) 0 = z) := by show _ = _; simp [List.getD, hzk]
      have hyr := HR.out k (by omega)
      have hzr := HR.out (k + 1) hk1
      rw [HY.out] at hyr
      rw [HZ.out] at hzr
      obtain ⟨t, htk⟩ : ∃ t, l[k]? = some t := ⟨l[k], List.getElem?_eq_getElem hlt⟩
      have hne : l ≠ [] := by intro e; subst e; simp at hlt
      obtain rfl := hs.here hne
      obtain ⟨d0, d1, d2, d3, d4, d5, d6⟩ := (hs.below hB.old hs.lt).seven htk
      have g0 := (hz.below hB.old hz.lt).cell k y hyk
      have g1 := (hz.below hB.old hz.lt).cell (k + 1) z hzk
      have HE : Hid (stayS q s l zs k = inB (z - y) q (if t.ho then 10000 else s)) := by
        show _ = _; unfold stayS mostB; rw [HY.out, HZ.out]; simp [List.getD, htk]
      clear hyk hzk htk
      have p0 := hB.p0
      have p1 := hB.p1
      have hcw : cb < wr.heap.size := Nat.lt_of_lt_of_le hcb hB.old.size
      have hpw := hB.lt
      obtain ⟨m, hm⟩ : ∃ m : Int, (if t.ho then 10000 else s) = m := ⟨_, rfl⟩
      rw [hm] at HE
      have HM : Hid ((if t.ho then 10000 else s) = m) := hm
      clear hm
      have k0 : (0 : Int) ≤ (k : Int) := by omega
      have k1 : (k : Int) + 1 < (zs.length : Int) := by omega
      go_wp2_with fail
      refine (stay_val _ _ _ _ _ _ _ _ m _ _ HM.out).mono ?_
      rintro e w2 ⟨rfl, hb2⟩
      have hb12 : Below wr.heap.size wr w2 := ((Below.refl wr.heap.size wr).alloc (Nat.le_refl _) _).trans (hb2.mono (by simp))
      have hB2 := hB.below hb12
      have f0 := (hb12.cell (p := ⟨cb, co + k, none⟩) hcw).trans g0
      have f1 := (hb12.cell (p := ⟨cb, co + (k + 1), none⟩) hcw).trans g1
      have qn := Cls.any w2
      have q0 := Cls.cell (Nat.lt_of_lt_of_le hcw hb12.size)
      clear hb2 p0 p1 d0 d1 d2 d3 d4 d5 d6 g0 g1
      go_wp2
      refine wp_region_cls (by kernel_rfl) (by kernel_rfl) ?_
      repeat (go_big_quiet_step (fail))
      refine wpQuiet_nil ?_
      rintro _ ⟨u, rfl⟩
      by_cases h1 : z - y < q
      · have G1 : Hid (stayTo q s l zs l.length = false) := all_not hlt (by rw [HE.out]; simp [inB]; omega)
        go_wp2
        go_ret
        exact ⟨by rw [G1.out]; rfl, (hB2.below u.same).old⟩
      · by_cases h2 : m < z - y
        · have G1 : Hid (stayTo q s l zs l.length = false) := all_not hlt (by rw [HE.out]; simp [inB]; omega)
          go_wp2
          go_ret
          exact ⟨by rw [G1.out]; rfl, (hB2.below u.same).old⟩
        · have G1 : Hid (stayTo q s l zs (k + 1) = true) := by
            show _ = _; have := HG.out; unfold stayTo at *; rw [all_succ, this, HE.out]; simp [inB]; omega
          go_wp2
          go_roundw
          case rel => exact ⟨k + 1, by omega, by go_num, hB2.below u.same, G1.out⟩
          case measure => simp [intOf]; omega
    · obtain rfl : k = l.length := by omega
      go_wp2
      go_ret
      exact ⟨by rw [HG.out]; rfl, hB.old⟩

set_option maxHeartbeats 2000000 in
theorem lawful_any (q s fr b : Int) (a : Option Addr) (b0 o cap : Nat) (l : List Stp) (c : Option Addr) (cb co ccap : Nat) (zs : List Int) (w : World) (hl : l.length ≤ 1048576) (_hm : zs.length ≤ 1048576) (hs : StepsAt w a b0 o l) (hz : IntsAt w c cb co zs) (hF : FollowSaid) :
    Calls Try.prog 35 #[.agg #[.int .i64 q, .int .i64 s, .slice a l.length cap, .int .i64 fr, .int .i64 b], .slice c zs.length ccap] w fun e w' => e = .returned (.bool (lawB q s fr b l zs)) ∧ Below w.heap.size w w' := by
  cases hp : pathB q s fr b l with
  | false =>
    have G1 : Hid (lawB q s fr b l zs = false) := by show _ = _; unfold lawB; rw [hp]; rfl
    go_enter Try.func35, Try.ntmps35
    go_wp2_with fail
    refine (pathOk_any hF _ _ _ _ _ b0 o _ _ _ hl (hs.alloc _)).mono ?_
    rintro e w1 ⟨rfl, hb1⟩
    have hB1 := (BoxP.new w q s fr b (.slice a l.length cap) 36).below hb1
    go_wp2
    go_ret
    exact ⟨by rw [G1.out]; rfl, hB1.old⟩
  | true =>
  by_cases hn : zs.length = l.length + 1
  · have heq : ((zs.length : Int) == (l.length : Int) + 1) = true := by simp; omega
    have HN : Hid (zs.length = l.length + 1) := hn
    have HP : Hid (lawB q s fr b l zs = (winTo fr b l zs (l.length + 1) && stayTo q s l zs l.length)) := by
      show _ = _; unfold lawB; rw [hp, ticks_parts, decide_eq_true hn]; rfl
    clear hn
    cases hw : winTo fr b l zs (l.length + 1) with
    | false =>
      have G1 : Hid (lawB q s fr b l zs = false) := by show _ = _; rw [HP.out, hw]; rfl
      go_enter Try.func35, Try.ntmps35
      go_wp2_with fail
      refine (pathOk_any hF _ _ _ _ _ b0 o _ _ _ hl (hs.alloc _)).mono ?_
      rintro e w1 ⟨rfl, hb1⟩
      have hB1 := (BoxP.new w q s fr b (.slice a l.length cap) 36).below hb1
      have p0 := hB1.p0
      have p1 := hB1.p1
      have p2 := hB1.p2
      have p3 := hB1.p3
      have p4 := hB1.p4
      go_wp2_with fail
      refine (windows_any _ _ _ _ _ b0 o _ _ _ cb co _ _ _ hl (hs.below hB1.old hs.lt) (hz.below hB1.old hz.lt) HN.out).mono ?_
      rintro e w2 ⟨rfl, hb2⟩
      go_wp2
      go_ret
      exact ⟨by rw [G1.out]; rfl, (hB1.below hb2).old⟩
    | true =>
      have G1 : Hid (lawB q s fr b l zs = stayTo q s l zs l.length) := by show _ = _; rw [HP.out, hw]; rfl
      have HR : Hid (∀ i, i < zs.length → 0 ≤ zs.getD i 0 ∧ zs.getD i 0 ≤ 10000) := by
        intro i hi
        have h1 : winS fr b l zs i = true := by
          have := hw; simp only [winTo, List.all_eq_true, List.mem_range] at this; exact this i (by have := HN.out; omega)
        exact win_range hp h1
      go_enter Try.func35, Try.ntmps35
      go_wp2_with fail
      refine (pathOk_any hF _ _ _ _ _ b0 o _ _ _ hl (hs.alloc _)).mono ?_
      rintro e w1 ⟨rfl, hb1⟩
      have hB1 := (BoxP.new w q s fr b (.slice a l.length cap) 36).below hb1
      have p0 := hB1.p0
      have p1 := hB1.p1
      have p2 := hB1.p2
      have p3 := hB1.p3
      have p4 := hB1.p4
      go_wp2_with fail
      refine (windows_any _ _ _ _ _ b0 o _ _ _ cb co _ _ _ hl (hs.below hB1.old hs.lt) (hz.below hB1.old hz.lt) HN.out).mono ?_
      rintro e w2 ⟨rfl, hb2⟩
      have hB2 := hB1.below hb2
      clear p0 p1 p2 p3 p4
      have p0 := hB2.p0
      have p1 := hB2.p1
      have p2 := hB2.p2
      have p3 := hB2.p3
      have p4 := hB2.p4
      go_wp2_with fail
      refine (stays_any _ _ _ _ _ b0 o _ _ _ cb co _ _ _ hl (hs.below hB2.old hs.lt) (hz.below hB2.old hz.lt) HN.out HR.out).mono ?_
      rintro e w3 ⟨rfl, hb3⟩
      go_wp2
      go_ret
      exact ⟨by rw [G1.out]; rfl, (hB2.below hb3).old⟩
  · have hneq : ((zs.length : Int) == (l.length : Int) + 1) = false := by simp; omega
    have G1 : Hid (lawB q s fr b l zs = false) := by show _ = _; unfold lawB; rw [hp, decide_eq_false hn]; rfl
    go_enter Try.func35, Try.ntmps35
    go_wp2_with fail
    refine (pathOk_any hF _ _ _ _ _ b0 o _ _ _ hl (hs.alloc _)).mono ?_
    rintro e w1 ⟨rfl, hb1⟩
    have hB1 := (BoxP.new w q s fr b (.slice a l.length cap) 36).below hb1
    have p2 := hB1.p2
    go_wp2
    go_ret
    exact ⟨by rw [G1.out]; rfl, hB1.old⟩
end Go.Proofs.Ytndfacmfjilbkai
