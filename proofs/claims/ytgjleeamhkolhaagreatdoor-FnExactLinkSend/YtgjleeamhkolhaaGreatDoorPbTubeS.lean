/- The specification's ProbeTubeOk, by its contract. -/
import Derived.Test.YtgjleeamhkolhaaGreatDoorPbSpec1
import Derived.Test.YtgjleeamhkolhaaGreatDoorPbTubeK
import Derived.Test.YtgjleeamhkolhaaGreatDoorPbName
namespace Go.Proofs.YtgjleeamhkolhaaGreatDoor
open Go.RowKit

/-- A tube is ok. -/
def tubeB (t : Tb) : Bool := nameB t.nm && decide (t.l.length ≤ 40) && t.l.all boxB

set_option maxHeartbeats 1000000 in
theorem tubeOkS_any (t : Tb) (w : World) (hl : t.l.length ≤ 1048576) (h : TubeAt w t) :
    Calls Tryz.prog 109 #[t.val] w fun e w' => e = .returned (.bool (tubeB t)) ∧ Below w.heap.size w w' := by
  obtain ⟨nm, a, b, o, cap, l⟩ := t
  simp only at hl
  have T0 := TubeIn.new w ⟨nm, a, b, o, cap, l⟩ 132
  cases hn : nameB nm with
  | false =>
    have G : Hid (tubeB ⟨nm, a, b, o, cap, l⟩ = false) := by show _ = _; unfold tubeB; rw [hn]; rfl
    have HN : Hid (nameB nm = false) := hn
    clear hn
    go_enter Tryz.func109, Tryz.ntmps109
    go_wp2_with (go_at_call 25; refine (nameS_any _ _).mono ?_; rw [HN.out]; rintro e w' ⟨rfl, rfl⟩)
    go_ret
    exact ⟨by rw [G.out]; rfl, bel1 _⟩
  | true =>
    have HN : Hid (nameB nm = true) := hn
    clear hn
    by_cases h2 : l.length ≤ 40
    · have G : Hid (tubeB ⟨nm, a, b, o, cap, l⟩ = l.all boxB) := by show _ = _; unfold tubeB; rw [HN.out]; simp [h2]
      have h2' : ¬ (40 : Int) < l.length := by omega
      go_enter Tryz.func109, Tryz.ntmps109
      go_wp2_with (go_at_call 25; refine (nameS_any _ _).mono ?_; rw [HN.out]; rintro e w' ⟨rfl, hw⟩; subst hw)
      go_loopw [3] (fun v wr => ∃ k : Nat, k ≤ l.length ∧ v = .int .i64 k ∧ Below w.heap.size w wr ∧ TubeIn wr w.heap.size ⟨nm, a, b, o, cap, l⟩ ∧ (l.take k).all boxB = true) (fun v _ => l.length - (intOf v).toNat)
      case atStart => exact ⟨0, Nat.zero_le _, rfl, bel1 _, T0, rfl⟩
      case round =>
        obtain ⟨k, hk, rfl, hb, hT, hall⟩ := hrel
        have HA : Hid ((l.take k).all boxB = true) := hall
        have c0 := hT.c0
        have c1 := hT.c1
        clear hall T0 h2'
        by_cases hlt : k < l.length
        · obtain ⟨s, hsk⟩ : ∃ s, l[k]? = some s := ⟨l[k], List.getElem?_eq_getElem hlt⟩
          have hne : l ≠ [] := by intro e; subst e; simp at hlt
          have hat := (h.below hb).at_
          obtain rfl : a = some ⟨b, o, none⟩ := hat.here hne
          obtain ⟨d0, d1, d2, d3, d4, d5⟩ := hat.six hsk
          have k0 : (0 : Int) ≤ (k : Int) := by omega
          have k1 : (k : Int) < (l.length : Int) := by omega
          have HS : Hid (l[k]? = some s) := hsk
          clear hsk
          cases hh : boxB s with
          | true =>
            have HB : Hid (boxB s = true) := hh
            clear hh
            go_wp2_with fail
            refine (boxOkS_val s true _ HB.out).mono ?_
            rintro e w2 ⟨rfl, hb2⟩
            have T2 := hT.keep hb2
            clear c0 c1 d0 d1 d2 d3 d4 d5
            go_wp2
            go_roundw
            case rel => exact ⟨k + 1, by omega, by go_num, hb.trans (hb2.mono hb.size), T2, by rw [all_take l boxB HS.out, HA.out, HB.out]; rfl⟩
            case measure => simp [intOf]; omega
          | false =>
            have HB : Hid (boxB s = false) := hh
            clear hh
            go_wp2_with fail
            refine (boxOkS_val s false _ HB.out).mono ?_
            rintro e w2 ⟨rfl, hb2⟩
            clear c0 c1 d0 d1 d2 d3 d4 d5
            go_wp2
            go_ret
            exact ⟨by rw [G.out, all_miss HS.out HB.out]; rfl, hb.trans (hb2.mono hb.size)⟩
        · obtain rfl : k = l.length := by omega
          go_wp2
          go_ret
          have e1 := HA.out
          rw [List.take_length] at e1
          exact ⟨by rw [G.out, e1]; rfl, hb⟩
    · have G : Hid (tubeB ⟨nm, a, b, o, cap, l⟩ = false) := by show _ = _; unfold tubeB; simp [h2]
      have h2' : (40 : Int) < l.length := by omega
      go_enter Tryz.func109, Tryz.ntmps109
      go_wp2_with (go_at_call 25; refine (nameS_any _ _).mono ?_; rw [HN.out]; rintro e w' ⟨rfl, rfl⟩)
      go_ret
      exact ⟨by rw [G.out]; rfl, bel1 _⟩
end Go.Proofs.YtgjleeamhkolhaaGreatDoor
