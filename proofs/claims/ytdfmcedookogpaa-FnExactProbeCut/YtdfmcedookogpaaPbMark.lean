/- The law's own marks in boxes and tubes, set and looked for, by their contracts. -/
import Derived.Test.YtdfmcedookogpaaPbCutD
import Derived.Test.YtdfmcedookogpaaPbTube1
namespace Go.Proofs.Ytdfmcedookogpaa
open Go.RowKit

set_option maxHeartbeats 4000000 in
set_option maxRecDepth 20000 in
theorem markBoxes_any (k0 : Int) (a : Option Addr) (g cap n : Nat) (row : Option Nat) (w : World) (hn : n ≤ 1048576) (hk : 0 ≤ k0 ∧ k0 ≤ 1000) (ha : 0 < n → a = some ⟨g, 0, none⟩) (hr : 0 < n → row = some g) (hth : ∀ i, i < n → w.there g (i * 6) 6) :
    Calls Try.prog 59 #[.slice a n cap, .int .i64 k0] w
      fun e w' => e = .returned (.int .i64 (k0 + ((n * 6 : Nat) : Int))) ∧ (∀ m, m < n → w'.rangeAt g (m * 6) (marks k0 m)) ∧ w.grownBy w' row ∧ w'.heap.size = w.heap.size := by
  obtain ⟨k1, k2⟩ := hk
  go_enter Try.func59, Try.ntmps59
  go_wp2
  go_loopw [1, 5] (fun v u wr => ∃ i : Nat, i ≤ n ∧ u = .int .i64 i ∧ v = .int .i64 (k0 + ((i * 6 : Nat) : Int)) ∧ (∀ j, j < n → wr.there g (j * 6) 6) ∧ (∀ m, m < i → wr.rangeAt g (m * 6) (marks k0 m)) ∧ w.grownBy wr row ∧ wr.heap.size = w.heap.size) (fun _ u _ => n - (intOf u).toNat)
  case atStart => exact ⟨0, Nat.zero_le _, rfl, by simp, hth, fun m hm => absurd hm (by omega), ⟨rfl, rfl, rfl, Nat.le_refl _, fun _ _ _ => rfl⟩, rfl⟩
  case round =>
    clear hth
    obtain ⟨i, hi, rfl, rfl, hth, hmk, hg, hz⟩ := hrel
    by_cases hlt : i < n
    · obtain rfl := ha (by omega)
      obtain rfl := hr (by omega)
      have ht := hth i hlt
      obtain ⟨v0, c0⟩ := Option.isSome_iff_exists.1 (ht 0 (by omega)).1
      obtain ⟨v1, c1⟩ := Option.isSome_iff_exists.1 (ht 1 (by omega)).1
      obtain ⟨v2, c2⟩ := Option.isSome_iff_exists.1 (ht 2 (by omega)).1
      obtain ⟨v3, c3⟩ := Option.isSome_iff_exists.1 (ht 3 (by omega)).1
      obtain ⟨v4, c4⟩ := Option.isSome_iff_exists.1 (ht 4 (by omega)).1
      obtain ⟨v5, c5⟩ := Option.isSome_iff_exists.1 (ht 5 (by omega)).1
      have f0 := (ht 0 (by omega)).2
      have f1 := (ht 1 (by omega)).2
      have f2 := (ht 2 (by omega)).2
      have f3 := (ht 3 (by omega)).2
      have f4 := (ht 4 (by omega)).2
      have f5 := (ht 5 (by omega)).2
      rw [Nat.add_zero] at c0 f0
      have i0 : (0 : Int) ≤ (i : Int) := by omega
      have i1 : (i : Int) < (n : Int) := by omega
      have HT : Hid (∀ j, j < n → wr.there g (j * 6) 6) := hth
      have HM : Hid (∀ m, m < i → wr.rangeAt g (m * 6) (marks k0 m)) := hmk
      have HG : Hid (w.grownBy wr (some g)) := hg
      have HZ : Hid (wr.heap.size = w.heap.size) := hz
      clear ht hth hg hz hmk ha hr
      generalize hK : k0 + ((i * 6 : Nat) : Int) = K
      have b1 : 0 ≤ K ∧ K ≤ 10000000 := by omega
      obtain ⟨b2, b3⟩ := b1
      have EK : Hid (k0 + ((i * 6 : Nat) : Int) = K) := hK
      clear hK
      go_wp2
      go_roundw
      case rel =>
        have hK := EK.out
        have hth' : ∀ j, j < n → (wr.setCells g (i * 6) [.int .i64 K, .int .i64 (K + 1), .int .i64 (K + 1 + 1), .int .i64 (K + 1 + 1 + 1), .int .i64 (K + 1 + 1 + 1 + 1), .int .i64 (K + 1 + 1 + 1 + 1 + 1)]).there g (j * 6) 6 := fun j hj => World.there_setCells (HT.out j hj) _ _ _
        refine ⟨i + 1, by omega, by go_num, by congr 1; omega, hth', ?_, ?_, by simpa [World.setCell] using HZ.out⟩
        · intro m hm
          show (wr.setCells g (i * 6) [.int .i64 K, .int .i64 (K + 1), .int .i64 (K + 1 + 1), .int .i64 (K + 1 + 1 + 1), .int .i64 (K + 1 + 1 + 1 + 1), .int .i64 (K + 1 + 1 + 1 + 1 + 1)]).rangeAt g (m * 6) (marks k0 m)
          by_cases hmi : m = i
          · subst hmi
            unfold marks
            rw [hK]
            exact World.rangeAt_setCells_same _ _ _ _ (HT.out m hlt)
          · exact World.rangeAt_setCells_apart (HM.out m (by omega)) _ _ _ (by right; left; simp; omega)
        · exact grown_over2 HG.out (grown_over2 (grown_over2 (grown_over2 (grown_over2 (grown_over2 (grown_set wr ⟨g, i * 6, none⟩ _) (grown_set _ ⟨g, i * 6 + 1, none⟩ _)) (grown_set _ ⟨g, i * 6 + 2, none⟩ _)) (grown_set _ ⟨g, i * 6 + 3, none⟩ _)) (grown_set _ ⟨g, i * 6 + 4, none⟩ _)) (grown_set _ ⟨g, i * 6 + 5, none⟩ _))
      case measure => simp [intOf]; omega
    · obtain rfl : i = n := by omega
      go_wp2
      go_ret
      exact ⟨rfl, hmk, hg, hz⟩

set_option maxHeartbeats 4000000 in
theorem heldBoxes_any (k0 : Int) (a : Option Addr) (g cap n : Nat) (w : World) (hn : n ≤ 1048576) (hk : 0 ≤ k0 ∧ k0 ≤ 1000) (ha : 0 < n → a = some ⟨g, 0, none⟩) (h : ∀ m, m < n → w.rangeAt g (m * 6) (marks k0 m)) :
    Calls Try.prog 60 #[.slice a n cap, .int .i64 k0] w fun e w' => e = .returned (.int .i64 (k0 + ((n * 6 : Nat) : Int))) ∧ w' = w := by
  obtain ⟨k1, k2⟩ := hk
  go_enter Try.func60, Try.ntmps60
  go_wp2
  go_loopw [1, 5] (fun v u wr => ∃ i : Nat, i ≤ n ∧ u = .int .i64 i ∧ v = .int .i64 (k0 + ((i * 6 : Nat) : Int)) ∧ wr = w) (fun _ u _ => n - (intOf u).toNat)
  case atStart => exact ⟨0, Nat.zero_le _, rfl, by simp, rfl⟩
  case round =>
    obtain ⟨i, hi, rfl, rfl, rfl⟩ := hrel
    by_cases hlt : i < n
    · obtain rfl := ha (by omega)
      have hr := h i hlt
      have c0 := hr 0 _ rfl
      have c1 := hr 1 _ rfl
      have c2 := hr 2 _ rfl
      have c3 := hr 3 _ rfl
      have c4 := hr 4 _ rfl
      have c5 := hr 5 _ rfl
      rw [Nat.add_zero] at c0
      have i0 : (0 : Int) ≤ (i : Int) := by omega
      have i1 : (i : Int) < (n : Int) := by omega
      clear hr h ha
      generalize hK : k0 + ((i * 6 : Nat) : Int) = K at c0 c1 c2 c3 c4 c5 ⊢
      have b1 : 0 ≤ K ∧ K ≤ 10000000 := by omega
      obtain ⟨b2, b3⟩ := b1
      have EK : Hid (k0 + ((i * 6 : Nat) : Int) = K) := hK
      clear hK
      go_wp2
      go_roundw
      case rel =>
        have hK := EK.out
        exact ⟨i + 1, by omega, by go_num, by congr 1; omega, by simp⟩
      case measure => simp [intOf]; omega
    · obtain rfl : i = n := by omega
      go_wp2
      go_ret
      exact ⟨rfl, rfl⟩

theorem markTube_any (nm : ByteArray) (k0 : Int) (a : Option Addr) (g cap n : Nat) (row : Option Nat) (w : World) (hn : n ≤ 1048576) (hk : 0 ≤ k0 ∧ k0 ≤ 1000) (ha : 0 < n → a = some ⟨g, 0, none⟩) (hr : 0 < n → row = some g) (hgw : 0 < n → g < w.heap.size) (hth : ∀ i, i < n → w.there g (i * 6) 6) :
    Calls Try.prog 26 #[.agg #[.string nm, .slice a n cap], .int .i64 k0] w
      fun e w' => e = .returned (.int .i64 (k0 + ((n * 6 : Nat) : Int))) ∧ (∀ m, m < n → w'.rangeAt g (m * 6) (marks k0 m)) ∧ w.grownBy w' row := by
  have hal := World.grownBy_alloc w (.cells #[.string nm, .slice a n cap] 38) row
  go_enter Try.func26, Try.ntmps26
  go_wp2_with fail
  refine (markBoxes_any _ _ g _ n row _ hn hk ha hr (fun i hi => there_below (hth i hi) (bel1 _) (hgw (by omega)))).mono ?_
  rintro e w1 ⟨rfl, hm1, hg1, hz1⟩
  go_wp2
  go_ret
  exact ⟨rfl, hm1, grown_over2 hal hg1⟩

theorem heldTube_any (nm : ByteArray) (k0 : Int) (a : Option Addr) (g cap n : Nat) (w : World) (hn : n ≤ 1048576) (hk : 0 ≤ k0 ∧ k0 ≤ 1000) (ha : 0 < n → a = some ⟨g, 0, none⟩) (_hgw : 0 < n → g < w.heap.size) (h : ∀ m, m < n → w.rangeAt g (m * 6) (marks k0 m)) (v : Int) (hv : k0 + ((n * 6 : Nat) : Int) = v) :
    Calls Try.prog 27 #[.agg #[.string nm, .slice a n cap], .int .i64 k0] w fun e w' => e = .returned (.int .i64 v) ∧ Below w.heap.size w w' := by
  have hp : ¬ v < 0 := by omega
  have HV : Hid (k0 + ((n * 6 : Nat) : Int) = v) := hv
  clear hv
  go_enter Try.func27, Try.ntmps27
  go_wp2_with fail
  refine (heldBoxes_any _ _ g _ n _ hn hk ha (fun m hm => World.rangeAt_alloc (h m hm) _)).mono ?_
  rw [HV.out]
  rintro e w1 ⟨rfl, rfl⟩
  go_wp2
  go_ret
  exact ⟨rfl, bel1 _⟩
end Go.Proofs.Ytdfmcedookogpaa
