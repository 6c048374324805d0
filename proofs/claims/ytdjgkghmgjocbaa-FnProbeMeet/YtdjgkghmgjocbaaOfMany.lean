/- A text that is picked; a text some times: by their contracts. -/
import Derived.Test.YtdjgkghmgjocbaaRdW11
namespace Go.Proofs.Ytdjgkghmgjocbaa
open Go.RowKit

/-- A row of texts. -/
structure StrsAt (w : World) (b : Nat) (n : Nat) : Prop where
  lt : b < w.heap.size
  cell : ∀ i, i < n → ∃ s : ByteArray, w.cell? ⟨b, i, none⟩ = some (.string s)
theorem StrsAt.grown {w w' : World} {b n B : Nat} (h : StrsAt w b n) (hg : w.grownBy w' (some B)) (hne : b ≠ B) : StrsAt w' b n where
  lt := Nat.lt_of_lt_of_le h.lt hg.size
  cell i hi := by
    rw [World.cell?_of_block (a := ⟨b, i, none⟩) (hg.block b h.lt (fun e => hne (by cases e; rfl)))]
    exact h.cell i hi

set_option maxHeartbeats 1000000 in
theorem of_any (B : Nat) (R : Rdr) (p b n cap : Nat) (w : World) (h : RdAt w B R p) (hp : p ≤ 1000000000) (hn : 0 < n) (hn' : n ≤ 1000) (hne : b ≠ B) (hs : StrsAt w b n) :
    Calls Try.prog 66 #[.pointer (some ⟨B, 0, none⟩), .slice (some ⟨b, 0, none⟩) n cap] w fun e w' => ∃ s : ByteArray, e = .returned (.string s) ∧ RdW w w' B R (p + 1) := by
  go_enter Try.func66, Try.ntmps66
  go_wp2_with fail
  refine (pick_any B R p (n : Int) _ h hp).mono ?_
  rintro e w1 ⟨rfl, r1, g1, s1⟩
  have R1 := (RdW.refl h).more r1 g1
  have S1 := hs.grown g1 hne
  obtain ⟨u0, u1⟩ := pickV_range (n := (n : Int)) h.rng hp (by omega)
  generalize pickV R p (n : Int) = z at *
  obtain ⟨zn, rfl⟩ := Int.eq_ofNat_of_zero_le u0
  obtain ⟨s, hz⟩ := S1.cell zn (by omega)
  clear r1 g1 s1
  go_wp2
  go_ret
  exact ⟨s, rfl, R1⟩

set_option maxHeartbeats 1000000 in
theorem many_any (z : Int) (s : ByteArray) (w : World) (h0 : 0 ≤ z) (hn : z ≤ 9) (hs : s.size ≤ 1) :
    Calls Try.prog 98 #[.string s, .int .i64 z] w fun e w' => ∃ s : ByteArray, e = .returned (.string s) ∧ w' = w := by
  obtain ⟨n, rfl⟩ := Int.eq_ofNat_of_zero_le h0
  go_enter Try.func98, Try.ntmps98
  go_wp2
  go_loopw [0, 1, 5] (fun u v x wr => ∃ (k : Nat) (s0 s1 : ByteArray), u = .string s0 ∧ v = .int .i64 k ∧ x = .string s1 ∧ k ≤ 9 ∧ (k = 0 ∨ s0.size * k ≤ 9) ∧ s1.size + k * 9 ≤ 81 ∧ wr = w) (fun _ v _ _ => (intOf v).toNat)
  case atStart => exact ⟨n, s, ⟨#[]⟩, rfl, rfl, rfl, by omega, by rcases (show s.size = 0 ∨ s.size = 1 by omega) with e | e <;> rw [e] <;> omega, by simp [ByteArray.size]; omega, rfl⟩
  case round =>
    obtain ⟨k, s0, s1, rfl, rfl, rfl, hk, hb, hc, rfl⟩ := hrel
    rcases (show k = 0 ∨ k = 1 ∨ k = 2 ∨ k = 3 ∨ k = 4 ∨ k = 5 ∨ k = 6 ∨ k = 7 ∨ k = 8 ∨ k = 9 by omega) with rfl | rfl | rfl | rfl | rfl | rfl | rfl | rfl | rfl | rfl
    · go_wp2
      go_ret
      first | exact ⟨s1, rfl, rfl⟩ | exact ⟨⟨s1, rfl⟩, trivial⟩ | exact ⟨s1, rfl, trivial⟩ | exact ⟨s1, Or.inl rfl⟩ | (simp; done) | (refine ⟨s1, ?_⟩; simp)
    all_goals
      have f0 : s0.size ≤ 9 := by omega
      have f1 : ¬ 9223372036854775807 < s1.size + s0.size := by omega
      have f2 : ¬ 9223372036854775807 < s0.size + s0.size := by omega
      go_wp2
      go_roundw
      case rel => exact ⟨_, _, _, rfl, rfl, rfl, by decide, by first | exact Or.inl rfl | (right; simp [ByteArray.size_append]; omega), by simp [ByteArray.size_append]; omega, by first | trivial | rfl⟩
      case measure => decide
end Go.Proofs.Ytdjgkghmgjocbaa
