/- Names, as the specification and the program read them. -/
import Derived.Lib.OthersKept
import Derived.Laws.RangeAny
import Derived.Test.YtgjleeamhkolhaaGreatDoorPbInS
namespace Go.Proofs.YtgjleeamhkolhaaGreatDoor
open Go.RowKit

/-- What may stand in a name. -/
def letB (n : Int) : Bool := (decide (97 ≤ n) && decide (n ≤ 122)) || (decide (48 ≤ n) && decide (n ≤ 57)) || (n == 45)
/-- The byte at a place. -/
def byteAt (s : ByteArray) (i : Nat) : Nat := if h : i < s.size then (s[i]'h).toNat else 0
/-- The first k bytes may stand in a name. -/
def nameTo (s : ByteArray) (k : Nat) : Bool := (List.range k).all fun i => letB (byteAt s i)
/-- A name. -/
def nameB (s : ByteArray) : Bool := inB s.size 1 8 && nameTo s s.size
theorem nameTo_zero (s : ByteArray) : nameTo s 0 = true := rfl
theorem nameTo_succ (s : ByteArray) (k : Nat) : nameTo s (k + 1) = (nameTo s k && letB (byteAt s k)) := by
  simp [nameTo, List.range_succ, List.all_append]
theorem nameTo_not {s : ByteArray} {k n : Nat} (hk : k < n) (h : letB (byteAt s k) = false) : nameTo s n = false := by
  unfold nameTo
  rw [List.all_eq_false]
  exact ⟨k, by simpa using hk, by simp [h]⟩
theorem byteAt_lt {s : ByteArray} {i : Nat} (h : i < s.size) : byteAt s i = (s[i]'h).toNat := by simp [byteAt, h]
theorem letB_high {n : Int} (h : 128 ≤ n) : letB n = false := by simp [letB]; omega

set_option maxHeartbeats 1000000 in
theorem nameS_any (s : ByteArray) (w : World) :
    Calls Tryz.prog 25 #[.string s] w fun e w' => e = .returned (.bool (nameB s)) ∧ w' = w := by
  cases hn : inB s.size 1 8 with
  | false =>
    have G : Hid (nameB s = false) := by show _ = _; unfold nameB; rw [hn]; rfl
    go_enter Tryz.func25, Tryz.ntmps25
    go_wp2_with (go_at_call 57; refine (pin_any _ _ _ _).mono ?_; rintro e w' ⟨rfl, rfl⟩)
    go_ret
    exact ⟨by rw [G.out]; rfl, rfl⟩
  | true =>
    have G : Hid (nameB s = nameTo s s.size) := by show _ = _; unfold nameB; rw [hn]; rfl
    have hs : s.size ≤ 8 := by have := (inB_iff _ _ _).1 hn; omega
    go_enter Tryz.func25, Tryz.ntmps25
    go_wp2_with (go_at_call 57; refine (pin_any _ _ _ _).mono ?_; rintro e w' ⟨rfl, rfl⟩)
    go_loopw [3] (fun v wr => ∃ k : Nat, k ≤ s.size ∧ v = .int .i64 k ∧ wr = w' ∧ nameTo s k = true) (fun v _ => s.size - (intOf v).toNat)
    case atStart => exact ⟨0, Nat.zero_le _, rfl, rfl, nameTo_zero s⟩
    case round =>
      obtain ⟨k, hk, rfl, rfl, hg⟩ := hrel
      have HG : Hid (nameTo s k = true) := hg
      clear hg hn
      by_cases hlt : k < s.size
      · obtain ⟨n, HN, hix⟩ : ∃ n : Int, Hid (letB n = letB (byteAt s k)) ∧ ∀ wx : World, (Instr.index 9 (.string s) (.int .i64 k)).run Tryz.prog wx = .ok (.int .u8 n) wx :=
          ⟨(byteAt s k : Int), rfl, fun wx => by rw [run_index_string _ _ _ _ _ Tryz.underlying9, dif_pos ⟨by omega, by omega⟩, byteAt_lt hlt]; simp⟩
        rcases (show (97 ≤ n ∧ n ≤ 122) ∨ (97 ≤ n ∧ ¬ n ≤ 122 ∧ 48 ≤ n ∧ ¬ n ≤ 57 ∧ ¬ n = 45) ∨ (¬ 97 ≤ n ∧ 48 ≤ n ∧ n ≤ 57) ∨ (¬ 97 ≤ n ∧ 48 ≤ n ∧ ¬ n ≤ 57 ∧ ¬ n = 45) ∨ (¬ 97 ≤ n ∧ ¬ 48 ≤ n ∧ n = 45) ∨ (¬ 97 ≤ n ∧ ¬ 48 ≤ n ∧ ¬ n = 45) by omega) with ⟨h1, h2⟩ | ⟨h1, h2, h3, h4, h5⟩ | ⟨h1, h2, h3⟩ | ⟨h1, h2, h3, h5⟩ | ⟨h1, h2, h3⟩ | ⟨h1, h2, h3⟩
        · have G1 : Hid (letB (byteAt s k) = true) := by show _ = _; rw [← HN.out]; simp [letB]; omega
          have h9 : (n == 45) = false := by simp; omega
          go_wp2
          go_roundw
          case rel => exact ⟨k + 1, by omega, by go_num, trivial, by rw [nameTo_succ, HG.out, G1.out]; rfl⟩
          case measure => simp [intOf]; omega
        · have G1 : Hid (letB (byteAt s k) = false) := by show _ = _; rw [← HN.out]; simp [letB]; omega
          have h9 : (n == 45) = false := by simp; omega
          go_wp2
          go_ret
          exact ⟨by rw [G.out, nameTo_not hlt G1.out]; rfl, rfl⟩
        · have G1 : Hid (letB (byteAt s k) = true) := by show _ = _; rw [← HN.out]; simp [letB]; omega
          have h9 : (n == 45) = false := by simp; omega
          go_wp2
          go_roundw
          case rel => exact ⟨k + 1, by omega, by go_num, trivial, by rw [nameTo_succ, HG.out, G1.out]; rfl⟩
          case measure => simp [intOf]; omega
        · have G1 : Hid (letB (byteAt s k) = false) := by show _ = _; rw [← HN.out]; simp [letB]; omega
          have h9 : (n == 45) = false := by simp; omega
          go_wp2
          go_ret
          exact ⟨by rw [G.out, nameTo_not hlt G1.out]; rfl, rfl⟩
        · have G1 : Hid (letB (byteAt s k) = true) := by show _ = _; rw [← HN.out]; simp [letB]; omega
          have h9 : (n == 45) = true := by simp; omega
          go_wp2
          go_roundw
          case rel => exact ⟨k + 1, by omega, by go_num, trivial, by rw [nameTo_succ, HG.out, G1.out]; rfl⟩
          case measure => simp [intOf]; omega
        · have G1 : Hid (letB (byteAt s k) = false) := by show _ = _; rw [← HN.out]; simp [letB]; omega
          have h9 : (n == 45) = false := by simp; omega
          go_wp2
          go_ret
          exact ⟨by rw [G.out, nameTo_not hlt G1.out]; rfl, rfl⟩
      · obtain rfl : k = s.size := by omega
        go_wp2
        go_ret
        exact ⟨by rw [G.out, HG.out]; rfl, rfl⟩
end Go.Proofs.YtgjleeamhkolhaaGreatDoor
