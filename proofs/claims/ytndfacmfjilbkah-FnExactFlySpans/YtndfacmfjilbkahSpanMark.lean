/- The law's own marks in spans and steps, set and looked for, by their contracts. -/
import Derived.Test.YtndfacmfjilbkahSpanEq
namespace Go.Proofs.Ytndfacmfjilbkah
open Go.RowKit

theorem markSpans_nil (k0 : Int) (w : World) : Calls Try.prog 21 #[.slice none 0 0, .int .i64 k0] w fun e w' => e = .returned (.int .i64 k0) ∧ w' = w := by
  go_enter Try.func21, Try.ntmps21
  go_wp2
  go_loopw [1, 5] (fun v u wr => v = .int .i64 k0 ∧ u = .int .i64 0 ∧ wr = w) (fun _ _ _ => 0)
  case atStart => exact ⟨rfl, rfl, rfl⟩
  case round =>
    obtain ⟨rfl, rfl, rfl⟩ := hrel
    go_wp2
    go_ret
    exact ⟨rfl, rfl⟩

set_option maxHeartbeats 2000000 in
set_option maxRecDepth 20000 in
theorem markSpans_row (k0 : Int) (g cap n base : Nat) (xs : List Value) (w : World) (hn : n ≤ 1048576) (hk : 0 ≤ k0 ∧ k0 ≤ 1000) (h : w.ownsRow base 75 2 (.slice (some ⟨g, 0, none⟩) n cap) n xs) :
    Calls Try.prog 21 #[.slice (some ⟨g, 0, none⟩) n cap, .int .i64 k0] w
      fun e w' => e = .returned (.int .i64 (k0 + ((n * 2 : Nat) : Int))) ∧ w'.ownsRow base 75 2 (.slice (some ⟨g, 0, none⟩) n cap) n (markV k0 (n * 2)) ∧ w.grownBy w' (some g) ∧ w'.heap.size = w.heap.size := by
  have hlen : xs.length = n * 2 := h.1
  obtain ⟨k1, k2⟩ := hk
  go_enter Try.func21, Try.ntmps21
  go_wp2
  go_loopw [1, 5] (fun v u wr => ∃ i : Nat, i ≤ n ∧ u = .int .i64 i ∧ v = .int .i64 (k0 + ((i * 2 : Nat) : Int)) ∧ wr.ownsRow base 75 2 (.slice (some ⟨g, 0, none⟩) n cap) n (markTo k0 xs i) ∧ w.grownBy wr (some g) ∧ wr.heap.size = w.heap.size) (fun _ u _ => n - (intOf u).toNat)
  case atStart => exact ⟨0, Nat.zero_le _, rfl, by simp, by rw [markTo_zero]; exact h, ⟨rfl, rfl, rfl, Nat.le_refl _, fun _ _ _ => rfl⟩, rfl⟩
  case round =>
    obtain ⟨i, hi, rfl, rfl, ho, hg, hz⟩ := hrel
    by_cases hlt : i < n
    · have hml := markTo_length k0 xs i (by omega)
      obtain ⟨x0, hx0⟩ : ∃ x, (markTo k0 xs i)[i * 2]? = some x := ⟨_, List.getElem?_eq_getElem (by omega)⟩
      obtain ⟨x1, hx1⟩ : ∃ x, (markTo k0 xs i)[i * 2 + 1]? = some x := ⟨_, List.getElem?_eq_getElem (by omega)⟩
      have c0 := (ho.cellAt (i * 2) (by omega)).trans hx0
      have c1 := (ho.cellAt (i * 2 + 1) (by omega)).trans hx1
      have cf := ho.frozenAt
      have i0 : (0 : Int) ≤ (i : Int) := by omega
      have i1 : (i : Int) < (n : Int) := by omega
      have HS : Hid (markTo k0 xs (i + 1) = ((markTo k0 xs i).set (i * 2) (.int .i64 (k0 + ((i * 2 : Nat) : Int)))).set (i * 2 + 1) (.int .i64 (k0 + ((i * 2 + 1 : Nat) : Int)))) := markTo_succ k0 xs i (by omega)
      have HO : Hid (((wr.setCell ⟨g, i * 2, none⟩ (.int .i64 (k0 + ((i * 2 : Nat) : Int)))).setCell ⟨g, i * 2 + 1, none⟩ (.int .i64 (k0 + ((i * 2 + 1 : Nat) : Int)))).ownsRow base 75 2 (.slice (some ⟨g, 0, none⟩) n cap) n (markTo k0 xs (i + 1))) := by
        show World.ownsRow _ _ _ _ _ _ _
        rw [HS.out]
        exact owns_put (owns_put ho (by omega) _) (by omega) _
      have e1 : k0 + ((i * 2 : Nat) : Int) + 1 = k0 + ((i * 2 + 1 : Nat) : Int) := by omega
      clear hx0 hx1 ho hml HS
      generalize hK : k0 + ((i * 2 : Nat) : Int) = K at HO e1 ⊢
      have b1 : 0 ≤ K ∧ K ≤ 3000000 := by omega
      obtain ⟨b2, b3⟩ := b1
      have E1 : Hid (K + 1 = k0 + ((i * 2 + 1 : Nat) : Int)) := e1
      have EK : Hid (k0 + ((i * 2 : Nat) : Int) = K) := hK
      clear e1 hK
      go_wp2
      go_roundw
      case rel =>
        have e1 := E1.out
        have hK := EK.out
        refine ⟨i + 1, by omega, by go_num, by congr 1; omega, ?_, ?_, by simpa [World.setCell] using hz⟩
        · have h1 := HO.out
          rw [← e1] at h1
          exact h1
        · exact grown_over2 hg (grown_over2 (grown_set wr ⟨g, i * 2, none⟩ (.int .i64 K)) (grown_set _ ⟨g, i * 2 + 1, none⟩ (.int .i64 (K + 1))))
      case measure => simp [intOf]; omega
    · obtain rfl : i = n := by omega
      go_wp2
      go_ret
      exact ⟨rfl, by rw [← markTo_all k0 xs i hlen]; exact ho, hg, hz⟩

theorem markSpans_any {v : Value} {n base : Nat} {xs : List Value} (k0 : Int) (w : World) (hn : n ≤ 1048576) (hk : 0 ≤ k0 ∧ k0 ≤ 1000) (h : w.ownsRow base 75 2 v n xs) :
    Calls Try.prog 21 #[v, .int .i64 k0] w
      fun e w' => e = .returned (.int .i64 (k0 + ((n * 2 : Nat) : Int))) ∧ w'.ownsRow base 75 2 v n (markV k0 (n * 2)) ∧ w.grownBy w' v.ownBlock ∧ w'.heap.size = w.heap.size := by
  have hlen := h.1
  rcases h.2 with ⟨rfl, rfl⟩ | ⟨g, cap, cur, rfl, _⟩
  · refine (markSpans_nil k0 w).mono ?_
    rintro e w' ⟨rfl, rfl⟩
    exact ⟨by simp, World.ownsRow_nil _ _ _ _, ⟨rfl, rfl, rfl, Nat.le_refl _, fun _ _ _ => rfl⟩, rfl⟩
  · exact markSpans_row k0 g cap n base xs w hn hk h

theorem heldSpans_nil (k0 : Int) (w : World) : Calls Try.prog 22 #[.slice none 0 0, .int .i64 k0] w fun e w' => e = .returned (.int .i64 k0) ∧ w' = w := by
  go_enter Try.func22, Try.ntmps22
  go_wp2
  go_loopw [1, 5] (fun v u wr => v = .int .i64 k0 ∧ u = .int .i64 0 ∧ wr = w) (fun _ _ _ => 0)
  case atStart => exact ⟨rfl, rfl, rfl⟩
  case round =>
    obtain ⟨rfl, rfl, rfl⟩ := hrel
    go_wp2
    go_ret
    exact ⟨rfl, rfl⟩

set_option maxHeartbeats 2000000 in
theorem heldSpans_row (k0 : Int) (g cap n base : Nat) (w : World) (hn : n ≤ 1048576) (hk : 0 ≤ k0 ∧ k0 ≤ 1000) (h : w.ownsRow base 75 2 (.slice (some ⟨g, 0, none⟩) n cap) n (markV k0 (n * 2))) :
    Calls Try.prog 22 #[.slice (some ⟨g, 0, none⟩) n cap, .int .i64 k0] w fun e w' => e = .returned (.int .i64 (k0 + ((n * 2 : Nat) : Int))) ∧ w' = w := by
  obtain ⟨k1, k2⟩ := hk
  go_enter Try.func22, Try.ntmps22
  go_wp2
  go_loopw [1, 5] (fun v u wr => ∃ i : Nat, i ≤ n ∧ u = .int .i64 i ∧ v = .int .i64 (k0 + ((i * 2 : Nat) : Int)) ∧ wr = w) (fun _ u _ => n - (intOf u).toNat)
  case atStart => exact ⟨0, Nat.zero_le _, rfl, by simp, rfl⟩
  case round =>
    obtain ⟨i, hi, rfl, rfl, rfl⟩ := hrel
    by_cases hlt : i < n
    · have c0 := (h.cellAt (i * 2) (by omega)).trans (markV_get k0 (show i * 2 < n * 2 by omega))
      have c1 := (h.cellAt (i * 2 + 1) (by omega)).trans (markV_get k0 (show i * 2 + 1 < n * 2 by omega))
      have i0 : (0 : Int) ≤ (i : Int) := by omega
      have i1 : (i : Int) < (n : Int) := by omega
      have e1 : k0 + ((i * 2 + 1 : Nat) : Int) = k0 + ((i * 2 : Nat) : Int) + 1 := by omega
      rw [e1] at c1
      clear e1
      generalize hK : k0 + ((i * 2 : Nat) : Int) = K at c0 c1 ⊢
      have b1 : 0 ≤ K ∧ K ≤ 3000000 := by omega
      obtain ⟨b2, b3⟩ := b1
      have EK : Hid (k0 + ((i * 2 : Nat) : Int) = K) := hK
      clear hK
      go_wp2
      go_roundw
      case rel =>
        have hK := EK.out
        exact ⟨i + 1, by omega, by go_num, by congr 1; omega, by simp⟩
      case measure => simp [intOf]; omega
    · obtain rfl : i = n := by omega
      go_wp2
      go_ret
      exact ⟨rfl, rfl⟩

theorem heldSpans_any {v : Value} {n base : Nat} (k0 : Int) (w : World) (hn : n ≤ 1048576) (hk : 0 ≤ k0 ∧ k0 ≤ 1000) (h : w.ownsRow base 75 2 v n (markV k0 (n * 2))) :
    Calls Try.prog 22 #[v, .int .i64 k0] w fun e w' => e = .returned (.int .i64 (k0 + ((n * 2 : Nat) : Int))) ∧ w' = w := by
  rcases h.2 with ⟨rfl, rfl⟩ | ⟨g, cap, cur, rfl, _⟩
  · refine (heldSpans_nil k0 w).mono ?_
    rintro e w' ⟨rfl, rfl⟩
    exact ⟨by simp, rfl⟩
  · exact heldSpans_row k0 g cap n base w hn hk h
end Go.Proofs.Ytndfacmfjilbkah
