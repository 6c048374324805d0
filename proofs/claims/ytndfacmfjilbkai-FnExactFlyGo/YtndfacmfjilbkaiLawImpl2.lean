/- The program's check of windows, by its contract. -/
import Derived.Test.YtndfacmfjilbkaiLawImpl
namespace Go.Proofs.Ytndfacmfjilbkai
open Go.RowKit

/-- The method of a step that is a bound. -/
theorem method_step (nm : String) (h : Try.prog.underlying 95 = some (.interface #[(nm, 97)])) (t : Stp) (w : World) : (method 227 74 t.val nm).run Try.prog w = .ok (101, t.val) w := by
  rw [Try.underlying95] at h
  simp only [Option.some.injEq, TypeDesc.interface.injEq, Array.mk.injEq, List.cons.injEq, Prod.mk.injEq, and_true] at h
  subst h
  kernel_rfl
/-- The method of a path's end that is a bound. -/
theorem method_end (nm : String) (h : Try.prog.underlying 95 = some (.interface #[(nm, 97)])) (fr b : Int) (w : World) : (method 227 107 (.agg #[.int .i64 fr, .int .i64 b]) nm).run Try.prog w = .ok (102, .agg #[.int .i64 fr, .int .i64 b]) w := by
  rw [Try.underlying95] at h
  simp only [Option.some.injEq, TypeDesc.interface.injEq, Array.mk.injEq, List.cons.injEq, Prod.mk.injEq, and_true] at h
  subst h
  kernel_rfl

set_option maxHeartbeats 2000000 in
theorem windows_any (q s fr b : Int) (a : Option Addr) (b0 o cap : Nat) (l : List Stp) (c : Option Addr) (cb co ccap : Nat) (zs : List Int) (w : World) (hl : l.length ≤ 1048576) (hs : StepsAt w a b0 o l) (hz : IntsAt w c cb co zs)
    (hn : zs.length = l.length + 1) :
    Calls Try.prog 54 #[.agg #[.int .i64 q, .int .i64 s, .slice a l.length cap, .int .i64 fr, .int .i64 b], .slice c zs.length ccap] w fun e w' => e = .returned (.bool (winTo fr b l zs (l.length + 1))) ∧ Below w.heap.size w w' := by
  have hzne : zs ≠ [] := by intro e; subst e; simp at hn
  obtain rfl := hz.here hzne
  have hcb := hz.lt hzne
  have HN : Hid (zs.length = l.length + 1) := hn
  clear hn
  go_enter Try.func54, Try.ntmps54
  go_wp2_with fail
  refine (bounds_any _ _ _ _ _ b0 o _ _ _ hl (hs.alloc _)).mono ?_
  rintro e w1 ⟨v, rfl, hown, hb1⟩
  have hB1 := (BoxP.new w q s fr b (.slice a l.length cap) 36).below hb1
  obtain ⟨g, vcap, hv, hg⟩ : ∃ g vcap, v = .slice (some ⟨g, 0, none⟩) (l.length + 1) vcap ∧ g < w1.heap.size := by
    rcases hown.2 with ⟨_, h⟩ | ⟨g, cap', cur, rfl, _, hh, _⟩
    · omega
    · exact ⟨g, cap', rfl, lt_of_block hh⟩
  subst hv
  have hx : ∀ j, j < l.length + 1 → w1.cell? ⟨g, j, none⟩ = (bndTo l l.length ++ [Value.iface 107 (.agg #[.int .i64 fr, .int .i64 b])])[j]? := fun j hj => hown.cellAt j (by omega)
  have HX : Hid (∀ j, j < l.length + 1 → w1.cell? ⟨g, j, none⟩ = (bndTo l l.length ++ [Value.iface 107 (.agg #[.int .i64 fr, .int .i64 b])])[j]?) := hx
  clear hx hown hb1
  go_wp2
  go_loopw [12] (fun u wr => ∃ k : Nat, k ≤ l.length + 1 ∧ u = .int .i64 k ∧ Below w1.heap.size w1 wr ∧ winTo fr b l zs k = true) (fun u _ => l.length + 1 - (intOf u).toNat)
  case atStart => exact ⟨0, Nat.zero_le _, rfl, Below.refl _ _, rfl⟩
  case round =>
    obtain ⟨k, hk, rfl, hb, hgood⟩ := hrel
    have HG : Hid (winTo fr b l zs k = true) := hgood
    clear hgood
    by_cases hlt : k < l.length + 1
    · have hkz : k < zs.length := by rw [HN.out]; exact hlt
      obtain ⟨z, hzk⟩ : ∃ z, zs[k]? = some z := ⟨zs[k], List.getElem?_eq_getElem hkz⟩
      have HZ : Hid (zs.getD k 0 = z) := by show _ = _; simp [List.getD, hzk]
      have hbw := hB1.old.trans (hb.mono hB1.old.size)
      have d0 := (hz.below hbw hz.lt).cell k z hzk
      clear hzk
      have hcell : wr.cell? ⟨g, k, none⟩ = _ := (hb.cell (p := ⟨g, k, none⟩) hg).trans (HX.out k hlt)
      by_cases hkl : k < l.length
      · have e1 : (bndTo l l.length ++ [Value.iface 107 (.agg #[.int .i64 fr, .int .i64 b])])[k]? = some (stepV (l.getD k .zero)) := by
          rw [List.getElem?_append_left (by rw [bndTo_length]; exact hkl)]
          simp [bndTo, hkl]
        rw [e1] at hcell
        obtain ⟨t, ht⟩ : ∃ t, l.getD k .zero = t := ⟨_, rfl⟩
        rw [ht] at hcell
        clear e1
        have hm := method_step _ Try.underlying95 t
        have HE : Hid (winS fr b l zs k = inB z t.fr t.by_) := by show _ = _; unfold winS lowB highB; rw [HZ.out, if_pos hkl, if_pos hkl, ht]
        clear ht
        by_cases h1 : z < t.fr
        · have G1 : Hid (winTo fr b l zs (l.length + 1) = false) := all_not hlt (by rw [HE.out]; simp [inB]; omega)
          go_wp2_with (go_at_call 101; refine (windowS_any _ _ _ _ _ _ _ _).mono ?_; rintro e w2 ⟨rfl, hb2⟩; have d1 := (hb2.cell (p := ⟨cb, co + k, none⟩) (Nat.lt_of_lt_of_le hcb hbw.size)).trans d0)
          go_ret
          exact ⟨by rw [G1.out]; rfl, hbw.trans (hb2.mono hbw.size)⟩
        · by_cases h2 : t.by_ < z
          · have G1 : Hid (winTo fr b l zs (l.length + 1) = false) := all_not hlt (by rw [HE.out]; simp [inB]; omega)
            go_wp2_with (go_at_call 101; refine (windowS_any _ _ _ _ _ _ _ _).mono ?_; rintro e w2 ⟨rfl, hb2⟩; have d1 := (hb2.cell (p := ⟨cb, co + k, none⟩) (Nat.lt_of_lt_of_le hcb hbw.size)).trans d0)
            go_ret
            exact ⟨by rw [G1.out]; rfl, hbw.trans (hb2.mono hbw.size)⟩
          · have G1 : Hid (winTo fr b l zs (k + 1) = true) := by
              show _ = _; have := HG.out; unfold winTo at *; rw [all_succ, this, HE.out]; simp [inB]; omega
            go_wp2_with (go_at_call 101; refine (windowS_any _ _ _ _ _ _ _ _).mono ?_; rintro e w2 ⟨rfl, hb2⟩; have d1 := (hb2.cell (p := ⟨cb, co + k, none⟩) (Nat.lt_of_lt_of_le hcb hbw.size)).trans d0)
            go_roundw
            case rel => exact ⟨k + 1, by omega, by go_num, hb.trans (hb2.mono hb.size), G1.out⟩
            case measure => simp [intOf]; omega
      · have e1 : (bndTo l l.length ++ [Value.iface 107 (.agg #[.int .i64 fr, .int .i64 b])])[k]? = some (Value.iface 107 (.agg #[.int .i64 fr, .int .i64 b])) := by
          rw [List.getElem?_append_right (by rw [bndTo_length]; omega), bndTo_length, show k - l.length = 0 by omega]
          rfl
        rw [e1] at hcell
        clear e1
        have hm := method_end _ Try.underlying95 fr b
        have HE : Hid (winS fr b l zs k = inB z fr b) := by show _ = _; unfold winS lowB highB; rw [HZ.out, if_neg hkl, if_neg hkl]
        by_cases h1 : z < fr
        · have G1 : Hid (winTo fr b l zs (l.length + 1) = false) := all_not hlt (by rw [HE.out]; simp [inB]; omega)
          go_wp2_with (go_at_call 102; refine (windowE_any _ _ _).mono ?_; rintro e w2 ⟨rfl, hb2⟩; have d1 := (hb2.cell (p := ⟨cb, co + k, none⟩) (Nat.lt_of_lt_of_le hcb hbw.size)).trans d0)
          go_ret
          exact ⟨by rw [G1.out]; rfl, hbw.trans (hb2.mono hbw.size)⟩
        · by_cases h2 : b < z
          · have G1 : Hid (winTo fr b l zs (l.length + 1) = false) := all_not hlt (by rw [HE.out]; simp [inB]; omega)
            go_wp2_with (go_at_call 102; refine (windowE_any _ _ _).mono ?_; rintro e w2 ⟨rfl, hb2⟩; have d1 := (hb2.cell (p := ⟨cb, co + k, none⟩) (Nat.lt_of_lt_of_le hcb hbw.size)).trans d0)
            go_ret
            exact ⟨by rw [G1.out]; rfl, hbw.trans (hb2.mono hbw.size)⟩
          · have G1 : Hid (winTo fr b l zs (k + 1) = true) := by
              show _ = _; have := HG.out; unfold winTo at *; rw [all_succ, this, HE.out]; simp [inB]; omega
            go_wp2_with (go_at_call 102; refine (windowE_any _ _ _).mono ?_; rintro e w2 ⟨rfl, hb2⟩; have d1 := (hb2.cell (p := ⟨cb, co + k, none⟩) (Nat.lt_of_lt_of_le hcb hbw.size)).trans d0)
            go_roundw
            case rel => exact ⟨k + 1, by omega, by go_num, hb.trans (hb2.mono hb.size), G1.out⟩
            case measure => simp [intOf]; omega
    · obtain rfl : k = l.length + 1 := by omega
      go_wp2
      go_ret
      exact ⟨by rw [HG.out]; rfl, hB1.old.trans (hb.mono hB1.old.size)⟩
end Go.Proofs.Ytndfacmfjilbkai
