/- The program's begin of boxes, by its contract. -/
import Derived.Test.YtgjleeamhkolhaaGreatDoorPbMeetD
import Derived.Test.YtgjleeamhkolhaaGreatDoorPbTubeI
namespace Go.Proofs.YtgjleeamhkolhaaGreatDoor
open Go.RowKit

set_option maxHeartbeats 1000000 in
theorem begin_any (a : Option Addr) (b o cap : Nat) (l : List Bx) (w : World) (hl : l.length ≤ 1048576) (hs : BoxesAt w a b o l) :
    Calls Tryz.prog 152 #[.slice a l.length cap] w fun e w' => e = .returned (.int .i64 (beginB l)) ∧ Below w.heap.size w w' := by
  go_enter Tryz.func152, Tryz.ntmps152
  go_wp2
  go_loopw [3, 8] (fun x v wr => ∃ k : Nat, k ≤ l.length ∧ v = .int .i64 k ∧ x = .int .i64 ((l.take k).foldl (fun x (s : Bx) => min x s.in_) 10001) ∧ Below w.heap.size w wr) (fun _ v _ => l.length - (intOf v).toNat)
  case atStart => exact ⟨0, Nat.zero_le _, rfl, rfl, Below.refl _ _⟩
  case round =>
    obtain ⟨k, hk, rfl, rfl, hb⟩ := hrel
    by_cases hlt : k < l.length
    · obtain ⟨s, hsk⟩ : ∃ s, l[k]? = some s := ⟨l[k], List.getElem?_eq_getElem hlt⟩
      have hne : l ≠ [] := by intro e; subst e; simp at hlt
      obtain rfl := hs.here hne
      have hbw := hs.lt hne
      obtain ⟨d0, d1, d2, d3, d4, d5⟩ := (hs.below hb (fun _ => hbw)).six hsk
      have k0 : (0 : Int) ≤ (k : Int) := by omega
      have k1 : (k : Int) < (l.length : Int) := by omega
      have HF : Hid ((l.take (k + 1)).foldl (fun x (s : Bx) => min x s.in_) 10001 = min ((l.take k).foldl (fun x (s : Bx) => min x s.in_) 10001) s.in_) := beginB_take l hsk
      clear hsk
      generalize (l.take k).foldl (fun x (s : Bx) => min x s.in_) 10001 = x at *
      rcases (show (s.in_ < x ∧ min x s.in_ = s.in_) ∨ (¬ s.in_ < x ∧ min x s.in_ = x) by omega) with ⟨h1, e1⟩ | ⟨h1, e1⟩
      all_goals
        have HE : Hid (min x s.in_ = _) := e1
        clear e1
        go_wp2
        go_roundw
        case rel => exact ⟨k + 1, by omega, by go_num, by rw [HF.out, HE.out], hb.alloc hb.size _⟩
        case measure => simp [intOf]; omega
    · obtain rfl : k = l.length := by omega
      rw [List.take_length]
      go_wp2
      go_ret
      exact ⟨rfl, hb⟩
end Go.Proofs.YtgjleeamhkolhaaGreatDoor
