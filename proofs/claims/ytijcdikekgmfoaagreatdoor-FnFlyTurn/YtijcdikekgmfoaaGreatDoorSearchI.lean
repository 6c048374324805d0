/- sort.Search with a closure that may write: whatever the closure keeps is kept; a place is found whose left neighbour says no and that itself says yes. -/
import Derived.Test.YtijcdikekgmfoaaGreatDoorSpanLeaf
namespace Go.Proofs.YtijcdikekgmfoaaGreatDoor
open Go.RowKit

set_option maxHeartbeats 4000000 in
set_option maxRecDepth 20000 in
theorem search_any (g : Nat) (cb : Array Value) (n : Nat) (p : Nat → Bool) (I : World → Prop) (eg : ∀ args w, (callFunc g args).run Tryz.prog w = .ok (.enter g args) w) (hn : n < 4611686018427387904)
    (hf : ∀ (i : Nat) (W : World), i < n → I W → Calls Tryz.prog g (#[.int .i64 i] ++ cb) W fun e W' => e = .returned (.bool (p i)) ∧ I W') (V : World) (hV : I V) :
    Calls Tryz.prog 112 #[.int .i64 n, .func (.func g) #[] cb] V fun e V' => ∃ k : Nat, k ≤ n ∧ e = .returned (.int .i64 k) ∧ I V' ∧ (∀ j, j + 1 = k → p j = false) ∧ (k < n → p k = true) := by
  have HF : Hid (∀ (i : Nat) (W : World), i < n → I W → Calls Tryz.prog g (#[.int .i64 i] ++ cb) W fun e W' => e = .returned (.bool (p i)) ∧ I W') := hf
  clear hf
  go_enter Tryz.func112, Tryz.ntmps112
  go_wp2
  go_loopw [5, 6] (fun s5 s6 wr => ∃ lo hi : Nat, s5 = .int .i64 lo ∧ s6 = .int .i64 hi ∧ lo ≤ hi ∧ hi ≤ n ∧ I wr ∧ Hid ((∀ j, j + 1 = lo → p j = false) ∧ (hi < n → p hi = true))) (fun s5 s6 _ => (intOf s6).toNat - (intOf s5).toNat)
  case atStart => exact ⟨0, n, rfl, rfl, Nat.zero_le _, Nat.le_refl _, hV, (⟨fun j h => by omega, fun h => by omega⟩ : (∀ j, j + 1 = 0 → p j = false) ∧ (n < n → p n = true))⟩
  case round =>
    obtain ⟨lo, hi, rfl, rfl, hlh, hin, hI, J⟩ := hrel
    by_cases hlt : lo < hi
    · have hc := HF.out ((lo + hi) / 2) wr (by omega) hI
      rw [show (((lo + hi) / 2 : Nat) : Int) = ((lo : Int) + (hi : Int)) / 2 by omega] at hc
      cases hp : p ((lo + hi) / 2) <;> rw [hp] at hc
      · have HP : Hid (p ((lo + hi) / 2) = false) := hp
        clear hp
        go_wp2_with fail
        refine hc.mono ?_
        rintro e w' ⟨rfl, hI'⟩
        go_wp2
        go_roundw
        case rel => exact ⟨(lo + hi) / 2 + 1, hi, by rw [show ((lo : Int) + (hi : Int)) / 2 + 1 = (((lo + hi) / 2 + 1 : Nat) : Int) by omega], rfl, by omega, hin, hI', (⟨fun j h => by rw [show j = (lo + hi) / 2 by omega]; exact HP.out, J.out.2⟩ : (∀ j, j + 1 = (lo + hi) / 2 + 1 → p j = false) ∧ (hi < n → p hi = true))⟩
        case measure => simp [intOf]; omega
      · have HP : Hid (p ((lo + hi) / 2) = true) := hp
        clear hp
        go_wp2_with fail
        refine hc.mono ?_
        rintro e w' ⟨rfl, hI'⟩
        go_wp2
        go_roundw
        case rel => exact ⟨lo, (lo + hi) / 2, rfl, by rw [show ((lo : Int) + (hi : Int)) / 2 = (((lo + hi) / 2 : Nat) : Int) by omega], by omega, by omega, hI', (⟨J.out.1, fun _ => HP.out⟩ : (∀ j, j + 1 = lo → p j = false) ∧ ((lo + hi) / 2 < n → p ((lo + hi) / 2) = true))⟩
        case measure => simp [intOf]; omega
    · obtain rfl : hi = lo := by omega
      go_wp2
      go_ret
      exact ⟨hi, hin, rfl, hI, J.out.1, J.out.2⟩
end Go.Proofs.YtijcdikekgmfoaaGreatDoor
