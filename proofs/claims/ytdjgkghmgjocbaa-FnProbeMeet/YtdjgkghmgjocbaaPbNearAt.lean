/- The law's own wpNearAt and wpEver, by their contracts: where no pair is too near they answer no. -/
import Derived.Test.YtdjgkghmgjocbaaPbNearW
import Derived.Test.YtdjgkghmgjocbaaPbTubeI
import Derived.Test.YtdjgkghmgjocbaaPbTwo
namespace Go.Proofs.Ytdjgkghmgjocbaa
open Go.RowKit

set_option maxHeartbeats 8000000 in
set_option maxRecDepth 20000 in
theorem nearAt_no (nm nm' : ByteArray) (a a' : Option Addr) (b o cap b' o' cap' : Nat) (l m : List Bx) (n : Int) (w : World) (hl : l.length ≤ 1048576) (hm : m.length ≤ 1048576) (hs : BoxesAt w a b o l) (hs' : BoxesAt w a' b' o' m) (hok : l.all boxB = true) (hok' : m.all boxB = true)
    (hno : ∀ i j, i < l.length → j < m.length → nearAtB (bxAt l i) (bxAt m j) n = false) :
    Calls Try.prog 21 #[.agg #[.string nm, .slice a l.length cap], .agg #[.string nm', .slice a' m.length cap'], .int .i64 n] w
      fun e w' => e = .returned (.bool false) ∧ Below w.heap.size w w' := by
  have M0 := TwoT.new w ⟨nm, a, b, o, cap, l⟩ ⟨nm', a', b', o', cap', m⟩ 49
  go_enter Try.func21, Try.ntmps21
  go_wp2
  go_loopw [7] (fun v wr => ∃ k : Nat, k ≤ l.length ∧ v = .int .i64 k ∧ TwoT w wr ⟨nm, a, b, o, cap, l⟩ ⟨nm', a', b', o', cap', m⟩) (fun v _ => l.length - (intOf v).toNat)
  case atStart => exact ⟨0, Nat.zero_le _, rfl, M0⟩
  case round =>
    clear M0
    obtain ⟨k, hk, rfl, hM⟩ := hrel
    have c1 := hM.one.c1
    by_cases hlt : k < l.length
    · obtain ⟨s, hsk⟩ : ∃ s, l[k]? = some s := ⟨l[k], List.getElem?_eq_getElem hlt⟩
      have hne : l ≠ [] := by intro e; subst e; simp at hlt
      obtain rfl := hs.here hne
      have hbw := hs.lt hne
      have k0 : (0 : Int) ≤ (k : Int) := by omega
      have k1 : (k : Int) < (l.length : Int) := by omega
      have hsok : boxB s = true := List.all_eq_true.1 hok s (List.mem_of_getElem? hsk)
      have HS : Hid (bxAt l k = s) := bxAt_get hsk
      go_wp2
      clear c1
      go_loopw [8] (fun v wi => ∃ j : Nat, j ≤ m.length ∧ v = .int .i64 j ∧ TwoT w wi ⟨nm, some ⟨b, o, none⟩, b, o, cap, l⟩ ⟨nm', a', b', o', cap', m⟩) (fun v _ => m.length - (intOf v).toNat)
      case atStart => exact ⟨0, Nat.zero_le _, rfl, hM⟩
      case round =>
        clear hM
        obtain ⟨j, hj, rfl, hM⟩ := hrel
        have c1 := hM.one.c1
        have d1 := hM.two.c1
        by_cases hltj : j < m.length
        · obtain ⟨t, htj⟩ : ∃ t, m[j]? = some t := ⟨m[j], List.getElem?_eq_getElem hltj⟩
          have hne' : m ≠ [] := by intro e; subst e; simp at hltj
          obtain rfl := hs'.here hne'
          have hbw' := hs'.lt hne'
          have hbi := hM.old
          have hbx : b < wr.heap.size := Nat.lt_of_lt_of_le hbw hbi.size
          have hbx' : b' < wr.heap.size := Nat.lt_of_lt_of_le hbw' hbi.size
          obtain ⟨x0, x1, x2, x3, x4, x5⟩ := (hs.below hbi (fun _ => hbw)).six hsk
          obtain ⟨y0, y1, y2, y3, y4, y5⟩ := (hs'.below hbi (fun _ => hbw')).six htj
          have j0 : (0 : Int) ≤ (j : Int) := by omega
          have j1 : (j : Int) < (m.length : Int) := by omega
          have htok : boxB t = true := List.all_eq_true.1 hok' t (List.mem_of_getElem? htj)
          have hns : nearAtB s t n = false := by have := hno k j hlt hltj; rwa [HS.out, bxAt_get htj] at this
          have qn := Cls.any wr
          have q0 := Cls.cell hbx
          have q1 := Cls.cell hbx'
          have q2 := Cls.cell hM.one.lt
          have q3 := Cls.cell hM.two.lt
          have CL : ∀ u : Cls wr, Calls Try.prog 20 #[s.val, t.val, .int .i64 n] u.it fun e w' => e = .returned (.bool false) ∧ Below u.it.heap.size u.it w' := fun u => wpNear_val s t n false u.it hsok htok hns
          clear htj htok hns hsok
          go_wp2
          refine wp_region_cls (by kernel_rfl) (by kernel_rfl) ?_
          repeat (go_big_quiet_step ((go_at_call 20; exact Calls.cls_of (CL _))))
          refine wpQuiet_nil ?_
          rintro _ ⟨u, rfl⟩
          clear c1 d1 x0 x1 x2 x3 x4 x5 y0 y1 y2 y3 y4 y5 q0 q1 q2 q3 qn CL
          go_wp2
          go_roundw
          case rel => exact ⟨j + 1, by omega, by go_num, hM.keep u.same⟩
          case measure => simp [intOf]; omega
        · obtain rfl : j = m.length := by omega
          go_wp2
          go_roundw
          case rel => exact ⟨k + 1, by omega, by go_num, hM⟩
          case measure => simp [intOf]; omega
    · obtain rfl : k = l.length := by omega
      go_wp2
      go_ret
      exact ⟨rfl, hM.old⟩
end Go.Proofs.Ytdjgkghmgjocbaa
