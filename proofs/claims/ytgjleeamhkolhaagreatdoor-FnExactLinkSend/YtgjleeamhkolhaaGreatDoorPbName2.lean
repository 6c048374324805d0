/- The program's isName, by its contract. -/
import Derived.Test.YtgjleeamhkolhaaGreatDoorPbName
namespace Go.Proofs.YtgjleeamhkolhaaGreatDoor
open Go.RowKit

theorem mayStand_any (n : Int) (w : World) :
    Calls Tryz.prog 97 #[.int .i32 n] w fun e w' => e = .returned (.bool (letB n)) ∧ w' = w := by
  rcases (show (97 ≤ n ∧ n ≤ 122) ∨ (97 ≤ n ∧ ¬ n ≤ 122 ∧ 48 ≤ n ∧ ¬ n ≤ 57 ∧ ¬ n = 45) ∨ (¬ 97 ≤ n ∧ 48 ≤ n ∧ n ≤ 57) ∨ (¬ 97 ≤ n ∧ 48 ≤ n ∧ ¬ n ≤ 57 ∧ ¬ n = 45) ∨ (¬ 97 ≤ n ∧ ¬ 48 ≤ n ∧ n = 45) ∨ (¬ 97 ≤ n ∧ ¬ 48 ≤ n ∧ ¬ n = 45) by omega) with ⟨h1, h2⟩ | ⟨h1, h2, h3, h4, h5⟩ | ⟨h1, h2, h3⟩ | ⟨h1, h2, h3, h5⟩ | ⟨h1, h2, h3⟩ | ⟨h1, h2, h3⟩
  all_goals
    go_enter Tryz.func97, Tryz.ntmps97
    go_wp2
    go_ret
    first
      | exact ⟨by simp [letB]; omega, rfl⟩
      | exact ⟨by simp [letB], rfl⟩
      | exact ⟨by simp [letB, *], rfl⟩

theorem mayStand_val (n : Int) (v : Bool) (w : World) (hv : letB n = v) : Calls Tryz.prog 97 #[.int .i32 n] w fun e w' => e = .returned (.bool v) ∧ w' = w := by
  rw [← hv]; exact mayStand_any n w

set_option maxHeartbeats 1000000 in
theorem isName_any (s : ByteArray) (w : World) :
    Calls Tryz.prog 66 #[.string s] w fun e w' => e = .returned (.bool (nameB s)) ∧ Below w.heap.size w w' := by
  rcases (show s.size < 1 ∨ (¬ s.size < 1 ∧ 8 < s.size) ∨ (¬ s.size < 1 ∧ ¬ 8 < s.size) by omega) with h1 | ⟨h1, h2⟩ | ⟨h1, h2⟩
  · have G : Hid (nameB s = false) := by show _ = _; unfold nameB; simp [inB]; omega
    have h1' : (s.size : Int) < 1 := by omega
    go_enter Tryz.func66, Tryz.ntmps66
    go_wp2
    go_ret
    exact ⟨by rw [G.out]; rfl, Below.refl _ _⟩
  · have G : Hid (nameB s = false) := by show _ = _; unfold nameB; simp [inB]; omega
    have h1' : ¬ (s.size : Int) < 1 := by omega
    have h2' : (8 : Int) < s.size := by omega
    go_enter Tryz.func66, Tryz.ntmps66
    go_wp2
    go_ret
    exact ⟨by rw [G.out]; rfl, Below.refl _ _⟩
  · have G : Hid (nameB s = nameTo s s.size) := by show _ = _; unfold nameB; simp [inB]; omega
    have h1' : ¬ (s.size : Int) < 1 := by omega
    have h2' : ¬ (8 : Int) < s.size := by omega
    go_enter Tryz.func66, Tryz.ntmps66
    go_wp2
    go_loopw [15] (fun _ wr => ∃ k : Nat, k ≤ s.size ∧ wr.heap[w.heap.size]? = some (.stringIter s k) ∧ Below w.heap.size w wr ∧ nameTo s k = true) (fun _ wr => s.size - wr.iterPos w.heap.size)
    case atStart => exact ⟨0, Nat.zero_le _, World.iter_heap w s 0, (Below.refl _ w).alloc (Nat.le_refl _) _, nameTo_zero s⟩
    case round =>
      obtain ⟨k, hk, hit, hb, hg⟩ := hrel
      have HG : Hid (nameTo s k = true) := hg
      clear hg
      by_cases hlt : k < s.size
      · have HB := byteAt_lt hlt
        by_cases ha : (s[k]'hlt).toNat < 128
        · obtain ⟨n, hn, hnx⟩ : ∃ n : Int, n = (byteAt s k : Nat) ∧ ∀ ty, (Instr.next (.pointer (some ⟨w.heap.size, 0, none⟩)) true ty).run Tryz.prog wr = .ok (.tuple #[.bool true, .int .i64 k, .int .i32 n]) (wr.iterAt w.heap.size s (k + 1)) :=
            ⟨_, rfl, fun ty => by rw [HB]; exact Lib.run_next_ascii_at wr w.heap.size s k ty hit hlt ha⟩
          have HI2 : Hid ((wr.iterAt w.heap.size s (k + 1)).heap[w.heap.size]? = some (.stringIter s (k + 1))) := Lib.iterAt_heap wr w.heap.size s k (k + 1) hit
          have hb2 := Lib.below_iterAt hb (k := w.heap.size) (Nat.le_refl _) s (k + 1)
          have HM : Hid (wr.iterPos w.heap.size = k) := by show _ = _; simp only [World.iterPos, hit]
          generalize (wr.iterAt w.heap.size s (k + 1)) = W at *
          clear hit HB ha
          cases hl : letB n with
          | true =>
            have G1 : Hid (letB (byteAt s k : Nat) = true) := by show _ = _; rw [← hn]; exact hl
            have HL : Hid (letB n = true) := hl
            clear hl hn
            go_wp2_with (go_at_call 97; refine (mayStand_val _ _ _ HL.out).mono ?_; rintro e w1 ⟨rfl, rfl⟩)
            go_roundw
            case rel => exact ⟨k + 1, by omega, HI2.out, hb2, by rw [nameTo_succ, HG.out, G1.out]; rfl⟩
            case measure =>
              have e1 := HM.out
              simp only [World.iterPos, HI2.out] at e1 ⊢
              omega
          | false =>
            have G1 : Hid (letB (byteAt s k : Nat) = false) := by show _ = _; rw [← hn]; exact hl
            have HL : Hid (letB n = false) := hl
            clear hl hn
            go_wp2_with (go_at_call 97; refine (mayStand_val _ _ _ HL.out).mono ?_; rintro e w1 ⟨rfl, rfl⟩)
            go_ret
            exact ⟨by rw [G.out, nameTo_not hlt G1.out]; rfl, hb2⟩
        · have hnx : ∀ ty, (Instr.next (.pointer (some ⟨w.heap.size, 0, none⟩)) true ty).run Tryz.prog wr = _ := fun ty => Lib.run_next_any_at wr w.heap.size s k ty hit hlt
          have hd := (decode_high s k hlt (by omega)).1
          have hb2 := Lib.below_iterAt hb (k := w.heap.size) (Nat.le_refl _) s (k + (Utf8.decode s k).2)
          have HL : Hid (letB ((Utf8.decode s k).1 : Nat) = false) := letB_high (by omega)
          have G1 : Hid (letB (byteAt s k) = false) := letB_high (by omega)
          generalize (wr.iterAt w.heap.size s (k + (Utf8.decode s k).2)) = W at *
          generalize (Utf8.decode s k).1 = r at *
          clear hit HB ha hd
          go_wp2_with (go_at_call 97; refine (mayStand_val _ _ _ HL.out).mono ?_; rintro e w1 ⟨rfl, rfl⟩)
          go_ret
          exact ⟨by rw [G.out, nameTo_not hlt G1.out]; rfl, hb2⟩
      · obtain rfl : k = s.size := by omega
        have hnx : ∀ ty, (Instr.next (.pointer (some ⟨w.heap.size, 0, none⟩)) true ty).run Tryz.prog wr = _ := fun ty => Lib.run_next_end_at wr w.heap.size s s.size ty hit hlt
        go_wp2
        go_ret
        exact ⟨by rw [G.out, HG.out]; rfl, hb⟩
end Go.Proofs.YtgjleeamhkolhaaGreatDoor
