/- The law's own wpEver, by its contract: where no pair is too near at any tick it answers no. -/
import Derived.Test.YtdjgkghmgjocbaaPbNearAt
namespace Go.Proofs.Ytdjgkghmgjocbaa
open Go.RowKit

set_option maxHeartbeats 8000000 in
set_option maxRecDepth 20000 in
theorem ever_no (nm nm' : ByteArray) (a a' : Option Addr) (b o cap b' o' cap' : Nat) (l m : List Bx) (w : World) (hl : l.length ≤ 1048576) (hm : m.length ≤ 1048576) (hs : BoxesAt w a b o l) (hs' : BoxesAt w a' b' o' m) (hok : l.all boxB = true) (hok' : m.all boxB = true)
    (hno : ∀ n i j, i < l.length → j < m.length → nearAtB (bxAt l i) (bxAt m j) n = false) :
    Calls Try.prog 19 #[.agg #[.string nm, .slice a l.length cap], .agg #[.string nm', .slice a' m.length cap']] w
      fun e w' => e = .returned (.bool false) ∧ Below w.heap.size w w' := by
  have NA : Hid (∀ (W : World) (n : Int), Below w.heap.size w W → Calls Try.prog 21 #[.agg #[.string nm, .slice a l.length cap], .agg #[.string nm', .slice a' m.length cap'], .int .i64 n] W
      fun e w' => e = .returned (.bool false) ∧ Below W.heap.size W w') := fun W n hb => nearAt_no nm nm' a a' b o cap b' o' cap' l m n W hl hm (hs.below hb hs.lt) (hs'.below hb hs'.lt) hok hok' (hno n)
  clear hno hok hok'
  have M0 := TwoT.new w ⟨nm, a, b, o, cap, l⟩ ⟨nm', a', b', o', cap', m⟩ 49
  go_enter Try.func19, Try.ntmps19
  go_wp2
  go_loopw [5] (fun v wr => ∃ k : Nat, k ≤ l.length ∧ v = .int .i64 k ∧ TwoT w wr ⟨nm, a, b, o, cap, l⟩ ⟨nm', a', b', o', cap', m⟩) (fun v _ => l.length - (intOf v).toNat)
  case atStart => exact ⟨0, Nat.zero_le _, rfl, M0⟩
  case round =>
    clear M0
    obtain ⟨k, hk, rfl, hM⟩ := hrel
    have c0 := hM.one.c0
    have c1 := hM.one.c1
    have d0 := hM.two.c0
    have d1 := hM.two.c1
    by_cases hlt : k < l.length
    · obtain ⟨s, hsk⟩ : ∃ s, l[k]? = some s := ⟨l[k], List.getElem?_eq_getElem hlt⟩
      have hne : l ≠ [] := by intro e; subst e; simp at hlt
      obtain rfl := hs.here hne
      have hbw := hs.lt hne
      have k0 : (0 : Int) ≤ (k : Int) := by omega
      have k1 : (k : Int) < (l.length : Int) := by omega
      have hbx : b < wr.heap.size := Nat.lt_of_lt_of_le hbw hM.old.size
      obtain ⟨x0, x1, x2, x3, x4, x5⟩ := (hs.below hM.old (fun _ => hbw)).six hsk
      have qn := Cls.any wr
      have q0 := Cls.cell hbx
      have q2 := Cls.cell hM.one.lt
      have q3 := Cls.cell hM.two.lt
      have CL : ∀ u : Cls wr, Calls Try.prog 21 #[.agg #[.string nm, .slice (some ⟨b, o, none⟩) l.length cap], .agg #[.string nm', .slice a' m.length cap'], .int .i64 s.in_] u.it fun e w' => e = .returned (.bool false) ∧ Below u.it.heap.size u.it w' := fun u => NA.out u.it _ (hM.keep u.same).old
      clear hsk
      go_wp2
      refine wp_region_cls (by kernel_rfl) (by kernel_rfl) ?_
      repeat (go_big_quiet_step ((go_at_call 21; exact Calls.cls_of (CL _))))
      refine wpQuiet_nil ?_
      rintro _ ⟨u, rfl⟩
      clear c0 c1 d0 d1 x0 x1 x2 x3 x4 x5 q0 q2 q3 qn CL
      go_wp2
      go_roundw
      case rel => exact ⟨k + 1, by omega, by go_num, hM.keep u.same⟩
      case measure => simp [intOf]; omega
    · obtain rfl : k = l.length := by omega
      go_wp2
      clear c0 c1 d0 d1
      go_loopw [6] (fun v wi => ∃ j : Nat, j ≤ m.length ∧ v = .int .i64 j ∧ TwoT w wi ⟨nm, a, b, o, cap, l⟩ ⟨nm', a', b', o', cap', m⟩) (fun v _ => m.length - (intOf v).toNat)
      case atStart => exact ⟨0, Nat.zero_le _, rfl, hM⟩
      case round =>
        clear hM
        obtain ⟨j, hj, rfl, hM⟩ := hrel
        have c0 := hM.one.c0
        have c1 := hM.one.c1
        have d0 := hM.two.c0
        have d1 := hM.two.c1
        by_cases hltj : j < m.length
        · obtain ⟨t, htj⟩ : ∃ t, m[j]? = some t := ⟨m[j], List.getElem?_eq_getElem hltj⟩
          have hne' : m ≠ [] := by intro e; subst e; simp at hltj
          obtain rfl := hs'.here hne'
          have hbw' := hs'.lt hne'
          have hbx' : b' < wr.heap.size := Nat.lt_of_lt_of_le hbw' hM.old.size
          obtain ⟨y0, y1, y2, y3, y4, y5⟩ := (hs'.below hM.old (fun _ => hbw')).six htj
          have j0 : (0 : Int) ≤ (j : Int) := by omega
          have j1 : (j : Int) < (m.length : Int) := by omega
          have qn := Cls.any wr
          have q1 := Cls.cell hbx'
          have q2 := Cls.cell hM.one.lt
          have q3 := Cls.cell hM.two.lt
          have CL : ∀ u : Cls wr, Calls Try.prog 21 #[.agg #[.string nm, .slice a l.length cap], .agg #[.string nm', .slice (some ⟨b', o', none⟩) m.length cap'], .int .i64 t.in_] u.it fun e w' => e = .returned (.bool false) ∧ Below u.it.heap.size u.it w' := fun u => NA.out u.it _ (hM.keep u.same).old
          clear htj
          go_wp2
          refine wp_region_cls (by kernel_rfl) (by kernel_rfl) ?_
          repeat (go_big_quiet_step ((go_at_call 21; exact Calls.cls_of (CL _))))
          refine wpQuiet_nil ?_
          rintro _ ⟨u, rfl⟩
          clear c0 c1 d0 d1 y0 y1 y2 y3 y4 y5 q1 q2 q3 qn CL
          go_wp2
          go_roundw
          case rel => exact ⟨j + 1, by omega, by go_num, hM.keep u.same⟩
          case measure => simp [intOf]; omega
        · obtain rfl : j = m.length := by omega
          go_wp2
          go_ret
          exact ⟨rfl, hM.old⟩
end Go.Proofs.Ytdjgkghmgjocbaa
