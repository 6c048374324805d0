/- The law's own marks in a list of numbers, set and looked for, by their contracts. -/
import Derived.Test.YtndfacmfjilbkaiGrownMore
import Derived.Test.YtndfacmfjilbkaiInts
import Derived.Test.YtndfacmfjilbkaiCopy2
namespace Go.Proofs.Ytndfacmfjilbkai
open Go.RowKit

set_option maxHeartbeats 1000000 in
theorem toInts_more (a : Option Addr) (b o cap : Nat) (zs : List Int) (w : World) (hl : zs.length ≤ 1048576) (hs : IntsAt w a b o zs) :
    Calls Try.prog 9 #[.slice a zs.length cap] w
      fun e w' => ∃ g, e = .returned (.slice (some ⟨g, 0, none⟩) zs.length zs.length) ∧ w.heap.size ≤ g ∧ g < w'.heap.size ∧ IntsAt w' (some ⟨g, 0, none⟩) g 0 zs ∧ Below w.heap.size w w' ∧ w'.there g 0 zs.length := by
  obtain ⟨i0, hi, hz0, hz1, hz2⟩ := info_parts int_info
  go_enter Try.func9, Try.ntmps9
  go_wp2_with (first | (at_make; refine wpList_make_full _ rfl _ _ 27 rfl w.heap.size 3 i0 _ 1 Try.underlying27 hi hz0 hz1 .i64 .i64 _ _ zs.length rfl rfl rfl rfl (by rw [hz2]; omega) (by unfold maxLen; omega) (Nat.le_refl _) ?_; intro w1 hown1 hgrow1))
  obtain ⟨hlen1, hrow1⟩ := hown1
  have hb1 : Below w.heap.size w w1 := (Below.refl _ _).grown hgrow1 (Nat.le_refl _) (fun k e => by cases e)
  obtain ⟨cur, hcur, hsz⟩ : ∃ cur, w1.heap[w.heap.size]? = some (.cells cur 3 (0, 0)) ∧ cur.size = zs.length * 1 := by
    rcases hrow1 with ⟨h, _⟩ | ⟨g, cap, cur, h, _, hh, _, _, hs, _⟩
    · cases h
    · simp at h
      obtain ⟨rfl, rfl⟩ := h
      exact ⟨cur, hh, hs⟩
  clear hlen1 hrow1 hgrow1
  have hth : w1.there w.heap.size 0 zs.length := there_of_block hcur _ _ (by omega)
  have hgr1 : w.heap.size < w1.heap.size := lt_of_block hcur
  clear hcur
  go_loopw [4] (fun v wr => ∃ k : Nat, k ≤ zs.length ∧ v = .int .i64 k ∧ Below w.heap.size w wr ∧ w.heap.size < wr.heap.size ∧ wr.there w.heap.size 0 zs.length ∧ (∀ (i : Nat) (z : Int), i < k → zs[i]? = some z → wr.cell? ⟨w.heap.size, i, none⟩ = some (.int .i64 z)))
    (fun v _ => zs.length - (intOf v).toNat)
  case atStart => exact ⟨0, Nat.zero_le _, rfl, hb1, hgr1, hth, fun i s h => absurd h (by omega)⟩
  case round =>
    obtain ⟨k, hk, rfl, hb, hgr, hthr, hdone⟩ := hrel
    by_cases hlt : k < zs.length
    · obtain ⟨z, hzk⟩ : ∃ z, zs[k]? = some z := ⟨zs[k], List.getElem?_eq_getElem hlt⟩
      have hne : zs ≠ [] := by intro e; subst e; simp at hlt
      obtain rfl := hs.here hne
      have hbw := hs.lt hne
      have c0 := (hs.below hb (fun _ => hbw)).cell k z hzk
      obtain ⟨u, hu⟩ := Option.isSome_iff_exists.1 (hthr k hlt).1
      have hf := (hthr k hlt).2
      simp only [Nat.zero_add] at hu hf
      have HZ : Hid (zs[k]? = some z) := hzk
      have HD : Hid (∀ (i : Nat) (z : Int), i < k → zs[i]? = some z → wr.cell? ⟨w.heap.size, i, none⟩ = some (.int .i64 z)) := hdone
      clear hzk hdone
      go_wp2
      go_roundw
      case rel =>
        refine ⟨k + 1, by omega, by go_num, hb.setCell (p := ⟨w.heap.size, k, none⟩) (Nat.le_refl _) _, by simpa [World.setCell] using hgr, ?_, ?_⟩
        · exact World.there_setCells hthr w.heap.size k [.int .i64 z]
        · intro i z' hi hz'
          by_cases hik : i = k
          · subst hik
            obtain rfl : z = z' := by have := HZ.out; rw [this] at hz'; simpa using hz'
            exact World.cell?_setCell_same _ _ _ hu
          · rw [World.cell?_setCell_other _ _ _ _ (by simp <;> omega)]
            exact HD.out i z' (by omega) hz'
      case measure => simp [intOf]; omega
    · obtain rfl : k = zs.length := by omega
      go_wp2
      go_ret
      exact ⟨w.heap.size, rfl, Nat.le_refl _, hgr, ⟨fun _ => rfl, fun _ => hgr, fun i z hi => by simpa using hdone i z (List.getElem?_eq_some_iff.1 hi).1 hi⟩, hb, hthr⟩

set_option maxHeartbeats 1000000 in
theorem markInts_any (a : Option Addr) (g n cap : Nat) (k0 : Int) (w : World) (hn : n ≤ 1048576) (hk : 0 ≤ k0 ∧ k0 ≤ 100000000) (h : n ≠ 0 → a = some ⟨g, 0, none⟩ ∧ w.there g 0 n) :
    Calls Try.prog 17 #[.slice a n cap, .int .i64 k0] w
      fun e w' => e = .returned (.int .i64 (k0 + (n : Int))) ∧ w.grownBy w' (some g) ∧ w'.heap.size = w.heap.size ∧ (∀ i, i < n → w'.cell? ⟨g, i, none⟩ = some (.int .i64 (k0 + (i : Int)))) ∧ (n = 0 → w' = w) := by
  obtain ⟨k1, k2⟩ := hk
  go_enter Try.func17, Try.ntmps17
  go_wp2
  go_loopw [1, 5] (fun v u wr => ∃ i : Nat, i ≤ n ∧ u = .int .i64 i ∧ v = .int .i64 (k0 + (i : Int)) ∧ w.grownBy wr (some g) ∧ wr.heap.size = w.heap.size ∧ (n ≠ 0 → wr.there g 0 n) ∧ (∀ j, j < i → wr.cell? ⟨g, j, none⟩ = some (.int .i64 (k0 + (j : Int)))) ∧ (n = 0 → wr = w)) (fun _ u _ => n - (intOf u).toNat)
  case atStart => exact ⟨0, Nat.zero_le _, rfl, by simp, ⟨rfl, rfl, rfl, Nat.le_refl _, fun _ _ _ => rfl⟩, rfl, fun hne => (h hne).2, fun j hj => by omega, fun _ => rfl⟩
  case round =>
    obtain ⟨i, hi, rfl, rfl, hg, hz, hth, hdone, hsame⟩ := hrel
    by_cases hlt : i < n
    · have hne : n ≠ 0 := by omega
      obtain ⟨rfl, _⟩ := h hne
      have ht := hth hne
      obtain ⟨u, hu⟩ := Option.isSome_iff_exists.1 (ht i hlt).1
      have hf := (ht i hlt).2
      simp only [Nat.zero_add] at hu hf
      have i0 : (0 : Int) ≤ (i : Int) := by omega
      have i1 : (i : Int) < (n : Int) := by omega
      generalize hK : k0 + (i : Int) = K at *
      have b2 : 0 ≤ K := by omega
      have b3 : K ≤ 200000000 := by omega
      have EK : Hid (k0 + (i : Int) = K) := hK
      have HD : Hid (∀ j, j < i → wr.cell? ⟨g, j, none⟩ = some (.int .i64 (k0 + (j : Int)))) := hdone
      have HU : Hid (wr.cell? ⟨g, i, none⟩ = some u) := hu
      have HT : Hid (wr.there g 0 n) := ht
      clear hK hdone ht hth h hsame
      go_wp2
      go_roundw
      case rel =>
        have hK := EK.out
        refine ⟨i + 1, by omega, by go_num, by congr 1; omega, grown_over2 hg (grown_set wr ⟨g, i, none⟩ (.int .i64 K)), by simpa [World.setCell] using hz, fun _ => World.there_setCells HT.out g i [.int .i64 K], fun j hj => ?_, fun h => absurd h hne⟩
        by_cases e : j = i
        · subst e
          rw [hK]
          exact World.cell?_setCell_same _ _ _ HU.out
        · rw [World.cell?_setCell_other _ _ _ _ (by simp <;> omega)]
          exact HD.out j (by omega)
      case measure => simp [intOf]; omega
    · obtain rfl : i = n := by omega
      go_wp2
      go_ret
      exact ⟨rfl, hg, hz, hdone, hsame⟩

set_option maxHeartbeats 1000000 in
theorem heldInts_any (a : Option Addr) (g n cap : Nat) (k0 : Int) (w : World) (hn : n ≤ 1048576) (hk : 0 ≤ k0 ∧ k0 ≤ 100000000) (h : n ≠ 0 → a = some ⟨g, 0, none⟩) (hc : ∀ i, i < n → w.cell? ⟨g, i, none⟩ = some (.int .i64 (k0 + (i : Int)))) :
    Calls Try.prog 18 #[.slice a n cap, .int .i64 k0] w fun e w' => e = .returned (.int .i64 (k0 + (n : Int))) ∧ w' = w := by
  obtain ⟨k1, k2⟩ := hk
  go_enter Try.func18, Try.ntmps18
  go_wp2
  go_loopw [1, 5] (fun v u wr => ∃ i : Nat, i ≤ n ∧ u = .int .i64 i ∧ v = .int .i64 (k0 + (i : Int)) ∧ wr = w) (fun _ u _ => n - (intOf u).toNat)
  case atStart => exact ⟨0, Nat.zero_le _, rfl, by simp, rfl⟩
  case round =>
    obtain ⟨i, hi, rfl, rfl, rfl⟩ := hrel
    by_cases hlt : i < n
    · obtain rfl := h (by omega)
      have c0 := hc i hlt
      have i0 : (0 : Int) ≤ (i : Int) := by omega
      have i1 : (i : Int) < (n : Int) := by omega
      generalize hK : k0 + (i : Int) = K at c0 ⊢
      have b2 : 0 ≤ K := by omega
      have b3 : K ≤ 200000000 := by omega
      have EK : Hid (k0 + (i : Int) = K) := hK
      clear hK hc h
      go_wp2
      go_roundw
      case rel =>
        have hK := EK.out
        exact ⟨i + 1, by omega, by go_num, by congr 1; omega, by simp⟩
      case measure => simp [intOf]; omega
    · obtain rfl : i = n := by omega
      go_wp2
      go_ret
      exact ⟨rfl, rfl⟩
end Go.Proofs.Ytndfacmfjilbkai
