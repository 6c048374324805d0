/- The walk of the law on LinkNew: it answers true, and turns no memory that was there. -/
import Derived.Test.YtknnegnkiocnkaaLkNew
namespace Go.Proofs.Ytknnegnkiocnkaa
open Go.RowKit

/-- The new world lies in the block b. -/
structure NwAt (w : World) (b : Nat) : Prop where
  lt : b < w.heap.size
  c0 : w.cell? ⟨b, 0, none⟩ = some (.int .i64 0)
  c1 : w.cell? ⟨b, 1, none⟩ = some (.bool true)
  c2 : w.cell? ⟨b, 2, none⟩ = some (.int .i64 0)
  c3 : w.cell? ⟨b, 3, none⟩ = some (.slice none 0 0)
  c4 : w.cell? ⟨b, 4, none⟩ = some (.int .i64 0)
  c5 : w.cell? ⟨b, 5, none⟩ = some (.slice none 0 0)
  c6 : w.cell? ⟨b, 6, none⟩ = some (.slice none 0 0)
  c7 : w.cell? ⟨b, 7, none⟩ = some (.slice none 0 0)
  c8 : w.cell? ⟨b, 8, none⟩ = some (.slice none 0 0)

theorem NwAt.new (w : World) : NwAt (w.alloc (.cells #[.int .i64 0, .bool true, .int .i64 0, .slice none 0 0, .int .i64 0, .slice none 0 0, .slice none 0 0, .slice none 0 0, .slice none 0 0] 30)) w.heap.size :=
  ⟨by simp, by simp [go_sem], by simp [go_sem], by simp [go_sem], by simp [go_sem], by simp [go_sem], by simp [go_sem], by simp [go_sem], by simp [go_sem], by simp [go_sem]⟩

theorem NwAt.keep {w w' : World} {b n : Nat} (h : NwAt w b) (hb : Below n w w') (hn : b < n) : NwAt w' b :=
  ⟨Nat.lt_of_lt_of_le h.lt hb.size, by rw [hb.cell (p := ⟨b, 0, none⟩) hn]; exact h.c0, by rw [hb.cell (p := ⟨b, 1, none⟩) hn]; exact h.c1, by rw [hb.cell (p := ⟨b, 2, none⟩) hn]; exact h.c2, by rw [hb.cell (p := ⟨b, 3, none⟩) hn]; exact h.c3, by rw [hb.cell (p := ⟨b, 4, none⟩) hn]; exact h.c4, by rw [hb.cell (p := ⟨b, 5, none⟩) hn]; exact h.c5, by rw [hb.cell (p := ⟨b, 6, none⟩) hn]; exact h.c6, by rw [hb.cell (p := ⟨b, 7, none⟩) hn]; exact h.c7, by rw [hb.cell (p := ⟨b, 8, none⟩) hn]; exact h.c8⟩

set_option maxHeartbeats 4000000 in
set_option maxRecDepth 20000 in
theorem newLaw (w : World) : Calls Try.prog 3 #[] w fun e w' => e = .returned (.bool true) ∧ Below w.heap.size w w' := by
  go_enter Try.func3, Try.ntmps3
  have b0 : Below w.heap.size w w := Below.refl _ _
  go_wp2_with fail
  refine (newSpec _).mono ?_
  rintro e w1 ⟨rfl, hb1⟩
  have b1 : Below w.heap.size w w1 := b0.trans (hb1.mono b0.size)
  clear hb1 b0
  go_wp2_with fail
  refine (newImpl _).mono ?_
  rintro e w2 ⟨rfl, hb2⟩
  have a1 : Below w.heap.size w (w1.alloc (.cells #[.int .i64 0, .bool true, .int .i64 0, .slice none 0 0, .int .i64 0, .slice none 0 0, .slice none 0 0, .slice none 0 0, .slice none 0 0] 30)) := b1.alloc b1.size _
  have M1 := NwAt.new w1
  have b2 : Below w.heap.size w w2 := a1.trans (hb2.mono a1.size)
  have N1 := M1.keep hb2 M1.lt
  clear a1 M1
  clear hb2 b1
  obtain ⟨_, k2_1_0, k2_1_1, k2_1_2, k2_1_3, k2_1_4, k2_1_5, k2_1_6, k2_1_7, k2_1_8⟩ := id N1
  go_wp2_with fail
  refine (eqWorldN _).mono ?_
  rintro e w3 ⟨rfl, hb3⟩
  have a2 : Below w.heap.size w (w2.alloc (.cells #[.int .i64 0, .bool true, .int .i64 0, .slice none 0 0, .int .i64 0, .slice none 0 0, .slice none 0 0, .slice none 0 0, .slice none 0 0] 30)) := b2.alloc b2.size _
  have N2_1 := N1.keep ((Below.refl w2.heap.size w2).alloc (Nat.le_refl _) (.cells #[.int .i64 0, .bool true, .int .i64 0, .slice none 0 0, .int .i64 0, .slice none 0 0, .slice none 0 0, .slice none 0 0, .slice none 0 0] 30)) N1.lt
  have M2 := NwAt.new w2
  have b3 : Below w.heap.size w w3 := a2.trans (hb3.mono a2.size)
  replace N1 := N2_1.keep hb3 N2_1.lt
  have N2 := M2.keep hb3 M2.lt
  clear a2 M2 N2_1
  clear hb3 b2
  obtain ⟨_, k3_1_0, k3_1_1, k3_1_2, k3_1_3, k3_1_4, k3_1_5, k3_1_6, k3_1_7, k3_1_8⟩ := id N1
  obtain ⟨_, k3_2_0, k3_2_1, k3_2_2, k3_2_3, k3_2_4, k3_2_5, k3_2_6, k3_2_7, k3_2_8⟩ := id N2
  go_wp2_with fail
  refine (markWorldN 1 _).mono ?_
  rintro e w4 ⟨rfl, hb4⟩
  have b4 : Below w.heap.size w w4 := b3.trans (hb4.mono b3.size)
  replace N1 := N1.keep hb4 N1.lt
  replace N2 := N2.keep hb4 N2.lt
  clear hb4 b3
  obtain ⟨_, k4_1_0, k4_1_1, k4_1_2, k4_1_3, k4_1_4, k4_1_5, k4_1_6, k4_1_7, k4_1_8⟩ := id N1
  obtain ⟨_, k4_2_0, k4_2_1, k4_2_2, k4_2_3, k4_2_4, k4_2_5, k4_2_6, k4_2_7, k4_2_8⟩ := id N2
  go_wp2_with fail
  refine (heldWorldN 1 (by omega) _).mono ?_
  rintro e w5 ⟨rfl, hb5⟩
  have b5 : Below w.heap.size w w5 := b4.trans (hb5.mono b4.size)
  replace N1 := N1.keep hb5 N1.lt
  replace N2 := N2.keep hb5 N2.lt
  clear hb5 b4
  obtain ⟨_, k5_1_0, k5_1_1, k5_1_2, k5_1_3, k5_1_4, k5_1_5, k5_1_6, k5_1_7, k5_1_8⟩ := id N1
  obtain ⟨_, k5_2_0, k5_2_1, k5_2_2, k5_2_3, k5_2_4, k5_2_5, k5_2_6, k5_2_7, k5_2_8⟩ := id N2
  go_wp2_with fail
  refine (newImpl _).mono ?_
  rintro e w6 ⟨rfl, hb6⟩
  have b6 : Below w.heap.size w w6 := b5.trans (hb6.mono b5.size)
  replace N1 := N1.keep hb6 N1.lt
  replace N2 := N2.keep hb6 N2.lt
  clear hb6 b5
  obtain ⟨_, k6_1_0, k6_1_1, k6_1_2, k6_1_3, k6_1_4, k6_1_5, k6_1_6, k6_1_7, k6_1_8⟩ := id N1
  obtain ⟨_, k6_2_0, k6_2_1, k6_2_2, k6_2_3, k6_2_4, k6_2_5, k6_2_6, k6_2_7, k6_2_8⟩ := id N2
  go_wp2_with fail
  refine (eqWorldN _).mono ?_
  rintro e w7 ⟨rfl, hb7⟩
  have a6 : Below w.heap.size w (w6.alloc (.cells #[.int .i64 0, .bool true, .int .i64 0, .slice none 0 0, .int .i64 0, .slice none 0 0, .slice none 0 0, .slice none 0 0, .slice none 0 0] 30)) := b6.alloc b6.size _
  have N6_1 := N1.keep ((Below.refl w6.heap.size w6).alloc (Nat.le_refl _) (.cells #[.int .i64 0, .bool true, .int .i64 0, .slice none 0 0, .int .i64 0, .slice none 0 0, .slice none 0 0, .slice none 0 0, .slice none 0 0] 30)) N1.lt
  have N6_2 := N2.keep ((Below.refl w6.heap.size w6).alloc (Nat.le_refl _) (.cells #[.int .i64 0, .bool true, .int .i64 0, .slice none 0 0, .int .i64 0, .slice none 0 0, .slice none 0 0, .slice none 0 0, .slice none 0 0] 30)) N2.lt
  have M6 := NwAt.new w6
  have b7 : Below w.heap.size w w7 := a6.trans (hb7.mono a6.size)
  replace N1 := N6_1.keep hb7 N6_1.lt
  replace N2 := N6_2.keep hb7 N6_2.lt
  have N6 := M6.keep hb7 M6.lt
  clear a6 M6 N6_1 N6_2
  clear hb7 b6
  obtain ⟨_, k7_1_0, k7_1_1, k7_1_2, k7_1_3, k7_1_4, k7_1_5, k7_1_6, k7_1_7, k7_1_8⟩ := id N1
  obtain ⟨_, k7_2_0, k7_2_1, k7_2_2, k7_2_3, k7_2_4, k7_2_5, k7_2_6, k7_2_7, k7_2_8⟩ := id N2
  obtain ⟨_, k7_6_0, k7_6_1, k7_6_2, k7_6_3, k7_6_4, k7_6_5, k7_6_6, k7_6_7, k7_6_8⟩ := id N6
  go_wp2_with fail
  refine (heldWorldN 1 (by omega) _).mono ?_
  rintro e w8 ⟨rfl, hb8⟩
  have b8 : Below w.heap.size w w8 := b7.trans (hb8.mono b7.size)
  replace N1 := N1.keep hb8 N1.lt
  replace N2 := N2.keep hb8 N2.lt
  replace N6 := N6.keep hb8 N6.lt
  clear hb8 b7
  obtain ⟨_, k8_1_0, k8_1_1, k8_1_2, k8_1_3, k8_1_4, k8_1_5, k8_1_6, k8_1_7, k8_1_8⟩ := id N1
  obtain ⟨_, k8_2_0, k8_2_1, k8_2_2, k8_2_3, k8_2_4, k8_2_5, k8_2_6, k8_2_7, k8_2_8⟩ := id N2
  obtain ⟨_, k8_6_0, k8_6_1, k8_6_2, k8_6_3, k8_6_4, k8_6_5, k8_6_6, k8_6_7, k8_6_8⟩ := id N6
  go_wp2
  go_ret
  exact ⟨rfl, b8⟩
end Go.Proofs.Ytknnegnkiocnkaa
