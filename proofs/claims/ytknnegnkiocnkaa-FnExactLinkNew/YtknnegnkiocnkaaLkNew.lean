/- LinkNew: the world in which nothing has happened, on both sides, and the law's own functions upon it. -/
import Derived.Test.YtknnegnkiocnkaaRows
import Derived.WalkKit
import Derived.WalkSpells
import Derived.RowKit3
namespace Go.Proofs.Ytknnegnkiocnkaa
open Go.RowKit

theorem newImpl (w : World) : Calls Try.prog 5 #[] w fun e w' => e = .returned (.agg #[.int .i64 0, .bool true, .int .i64 0, .slice none 0 0, .int .i64 0, .slice none 0 0, .slice none 0 0, .slice none 0 0, .slice none 0 0]) ∧ Below w.heap.size w w' := by
  go_enter Try.func5, Try.ntmps5
  go_wp2
  refine bodyPost_ret (v := .agg #[.int .i64 0, .bool true, .int .i64 0, .slice none 0 0, .int .i64 0, .slice none 0 0, .slice none 0 0, .slice none 0 0, .slice none 0 0]) (by simp [results, Try.results5, go_sem]) rfl ⟨rfl, ?_⟩
  repeat (first | exact Below.refl _ _ | refine Below.alloc ?_ (by simp <;> omega) _)

theorem newSpec (w : World) : Calls Try.prog 4 #[] w fun e w' => e = .returned (.agg #[.int .i64 0, .bool true, .int .i64 0, .slice none 0 0, .int .i64 0, .slice none 0 0, .slice none 0 0, .slice none 0 0, .slice none 0 0]) ∧ Below w.heap.size w w' := by
  go_enter Try.func4, Try.ntmps4
  go_wp2
  refine bodyPost_ret (v := .agg #[.int .i64 0, .bool true, .int .i64 0, .slice none 0 0, .int .i64 0, .slice none 0 0, .slice none 0 0, .slice none 0 0, .slice none 0 0]) (by simp [results, Try.results4, go_sem]) rfl ⟨rfl, ?_⟩
  repeat (first | exact Below.refl _ _ | refine Below.alloc ?_ (by simp <;> omega) _)

theorem eqHeldsN (w : World) : Calls Try.prog 28 #[.slice none 0 0, .slice none 0 0] w fun e w' => e = .returned (.bool true) ∧ Below w.heap.size w w' := by
  go_enter Try.func28, Try.ntmps28
  go_wp2
  refine wp_loop_once ?_
  go_wp2
  go_ret
  exact ⟨rfl, Below.refl _ _⟩

theorem markHeldsN (k : Int) (w : World) : Calls Try.prog 31 #[.slice none 0 0, .int .i64 k] w fun e w' => e = .returned (.int .i64 k) ∧ Below w.heap.size w w' := by
  go_enter Try.func31, Try.ntmps31
  go_wp2
  refine wp_loop_once ?_
  go_wp2
  go_ret
  exact ⟨rfl, Below.refl _ _⟩

theorem heldHeldsN (k : Int) (w : World) : Calls Try.prog 32 #[.slice none 0 0, .int .i64 k] w fun e w' => e = .returned (.int .i64 k) ∧ Below w.heap.size w w' := by
  go_enter Try.func32, Try.ntmps32
  go_wp2
  refine wp_loop_once ?_
  go_wp2
  go_ret
  exact ⟨rfl, Below.refl _ _⟩

theorem eqWordsN (w : World) : Calls Try.prog 11 #[.slice none 0 0, .slice none 0 0] w fun e w' => e = .returned (.bool true) ∧ Below w.heap.size w w' := by
  go_enter Try.func11, Try.ntmps11
  go_wp2
  refine wp_loop_once ?_
  go_wp2
  go_ret
  exact ⟨rfl, Below.refl _ _⟩

theorem markWordsN (k : Int) (w : World) : Calls Try.prog 14 #[.slice none 0 0, .int .i64 k] w fun e w' => e = .returned (.int .i64 k) ∧ Below w.heap.size w w' := by
  go_enter Try.func14, Try.ntmps14
  go_wp2
  refine wp_loop_once ?_
  go_wp2
  go_ret
  exact ⟨rfl, Below.refl _ _⟩

theorem heldWordsN (k : Int) (w : World) : Calls Try.prog 17 #[.slice none 0 0, .int .i64 k] w fun e w' => e = .returned (.int .i64 k) ∧ Below w.heap.size w w' := by
  go_enter Try.func17, Try.ntmps17
  go_wp2
  refine wp_loop_once ?_
  go_wp2
  go_ret
  exact ⟨rfl, Below.refl _ _⟩

theorem eqCraftsN (w : World) : Calls Try.prog 10 #[.slice none 0 0, .slice none 0 0] w fun e w' => e = .returned (.bool true) ∧ Below w.heap.size w w' := by
  go_enter Try.func10, Try.ntmps10
  go_wp2
  refine wp_loop_once ?_
  go_wp2
  go_ret
  exact ⟨rfl, Below.refl _ _⟩

theorem markCraftsN (k : Int) (w : World) : Calls Try.prog 13 #[.slice none 0 0, .int .i64 k] w fun e w' => e = .returned (.int .i64 k) ∧ Below w.heap.size w w' := by
  go_enter Try.func13, Try.ntmps13
  go_wp2
  refine wp_loop_once ?_
  go_wp2
  go_ret
  exact ⟨rfl, Below.refl _ _⟩

theorem heldCraftsN (k : Int) (w : World) : Calls Try.prog 16 #[.slice none 0 0, .int .i64 k] w fun e w' => e = .returned (.int .i64 k) ∧ Below w.heap.size w w' := by
  go_enter Try.func16, Try.ntmps16
  go_wp2
  refine wp_loop_once ?_
  go_wp2
  go_ret
  exact ⟨rfl, Below.refl _ _⟩

set_option maxHeartbeats 1000000 in
theorem eqBookN (w : World) : Calls Try.prog 18 #[.agg #[.int .i64 0, .slice none 0 0], .agg #[.int .i64 0, .slice none 0 0]] w fun e w' => e = .returned (.bool true) ∧ Below w.heap.size w w' := by
  go_enter Try.func18, Try.ntmps18
  go_wp2_with fail
  have B0 : Below w.heap.size w ((w.alloc (.cells #[.int .i64 0, .slice none 0 0] 24)).alloc (.cells #[.int .i64 0, .slice none 0 0] 24)) := by repeat (first | exact Below.refl _ _ | refine Below.alloc ?_ (by simp <;> omega) _)
  refine (eqHeldsN _).mono ?_
  rintro e w1 ⟨rfl, hb1⟩
  have hb1' : Below ((w.alloc (.cells #[.int .i64 0, .slice none 0 0] 24)).alloc (.cells #[.int .i64 0, .slice none 0 0] 24)).heap.size ((w.alloc (.cells #[.int .i64 0, .slice none 0 0] 24)).alloc (.cells #[.int .i64 0, .slice none 0 0] 24)) w1 := hb1
  have B1 := B0.trans (hb1'.mono B0.size)
  have c1_0 : w1.cell? ⟨w.heap.size, 0, none⟩ = some (.int .i64 0) := by rw [(hb1').cell (p := ⟨w.heap.size, 0, none⟩) (by simp <;> omega)]; simp [go_sem]
  have c1_1 : w1.cell? ⟨w.heap.size, 1, none⟩ = some (.slice none 0 0) := by rw [(hb1').cell (p := ⟨w.heap.size, 1, none⟩) (by simp <;> omega)]; simp [go_sem]
  have d1_0 : w1.cell? ⟨w.heap.size + 1, 0, none⟩ = some (.int .i64 0) := by rw [(hb1').cell (p := ⟨w.heap.size + 1, 0, none⟩) (by simp <;> omega)]; simp [go_sem]
  have d1_1 : w1.cell? ⟨w.heap.size + 1, 1, none⟩ = some (.slice none 0 0) := by rw [(hb1').cell (p := ⟨w.heap.size + 1, 1, none⟩) (by simp <;> omega)]; simp [go_sem]
  go_wp2
  go_ret
  exact ⟨rfl, B1⟩

set_option maxHeartbeats 1000000 in
theorem eqGroundN (w : World) : Calls Try.prog 9 #[.agg #[.bool true, .int .i64 0, .slice none 0 0, .int .i64 0, .slice none 0 0, .slice none 0 0], .agg #[.bool true, .int .i64 0, .slice none 0 0, .int .i64 0, .slice none 0 0, .slice none 0 0]] w fun e w' => e = .returned (.bool true) ∧ Below w.heap.size w w' := by
  go_enter Try.func9, Try.ntmps9
  go_wp2_with fail
  have B0 : Below w.heap.size w ((w.alloc (.cells #[.bool true, .int .i64 0, .slice none 0 0, .int .i64 0, .slice none 0 0, .slice none 0 0] 27)).alloc (.cells #[.bool true, .int .i64 0, .slice none 0 0, .int .i64 0, .slice none 0 0, .slice none 0 0] 27)) := by repeat (first | exact Below.refl _ _ | refine Below.alloc ?_ (by simp <;> omega) _)
  refine (eqBookN _).mono ?_
  rintro e w1 ⟨rfl, hb1⟩
  have hb1' : Below ((w.alloc (.cells #[.bool true, .int .i64 0, .slice none 0 0, .int .i64 0, .slice none 0 0, .slice none 0 0] 27)).alloc (.cells #[.bool true, .int .i64 0, .slice none 0 0, .int .i64 0, .slice none 0 0, .slice none 0 0] 27)).heap.size ((w.alloc (.cells #[.bool true, .int .i64 0, .slice none 0 0, .int .i64 0, .slice none 0 0, .slice none 0 0] 27)).alloc (.cells #[.bool true, .int .i64 0, .slice none 0 0, .int .i64 0, .slice none 0 0, .slice none 0 0] 27)) w1 := hb1
  have B1 := B0.trans (hb1'.mono B0.size)
  have c1_0 : w1.cell? ⟨w.heap.size, 0, none⟩ = some (.bool true) := by rw [(hb1').cell (p := ⟨w.heap.size, 0, none⟩) (by simp <;> omega)]; simp [go_sem]
  have c1_1 : w1.cell? ⟨w.heap.size, 1, none⟩ = some (.int .i64 0) := by rw [(hb1').cell (p := ⟨w.heap.size, 1, none⟩) (by simp <;> omega)]; simp [go_sem]
  have c1_2 : w1.cell? ⟨w.heap.size, 2, none⟩ = some (.slice none 0 0) := by rw [(hb1').cell (p := ⟨w.heap.size, 2, none⟩) (by simp <;> omega)]; simp [go_sem]
  have c1_3 : w1.cell? ⟨w.heap.size, 3, none⟩ = some (.int .i64 0) := by rw [(hb1').cell (p := ⟨w.heap.size, 3, none⟩) (by simp <;> omega)]; simp [go_sem]
  have c1_4 : w1.cell? ⟨w.heap.size, 4, none⟩ = some (.slice none 0 0) := by rw [(hb1').cell (p := ⟨w.heap.size, 4, none⟩) (by simp <;> omega)]; simp [go_sem]
  have c1_5 : w1.cell? ⟨w.heap.size, 5, none⟩ = some (.slice none 0 0) := by rw [(hb1').cell (p := ⟨w.heap.size, 5, none⟩) (by simp <;> omega)]; simp [go_sem]
  have d1_0 : w1.cell? ⟨w.heap.size + 1, 0, none⟩ = some (.bool true) := by rw [(hb1').cell (p := ⟨w.heap.size + 1, 0, none⟩) (by simp <;> omega)]; simp [go_sem]
  have d1_1 : w1.cell? ⟨w.heap.size + 1, 1, none⟩ = some (.int .i64 0) := by rw [(hb1').cell (p := ⟨w.heap.size + 1, 1, none⟩) (by simp <;> omega)]; simp [go_sem]
  have d1_2 : w1.cell? ⟨w.heap.size + 1, 2, none⟩ = some (.slice none 0 0) := by rw [(hb1').cell (p := ⟨w.heap.size + 1, 2, none⟩) (by simp <;> omega)]; simp [go_sem]
  have d1_3 : w1.cell? ⟨w.heap.size + 1, 3, none⟩ = some (.int .i64 0) := by rw [(hb1').cell (p := ⟨w.heap.size + 1, 3, none⟩) (by simp <;> omega)]; simp [go_sem]
  have d1_4 : w1.cell? ⟨w.heap.size + 1, 4, none⟩ = some (.slice none 0 0) := by rw [(hb1').cell (p := ⟨w.heap.size + 1, 4, none⟩) (by simp <;> omega)]; simp [go_sem]
  have d1_5 : w1.cell? ⟨w.heap.size + 1, 5, none⟩ = some (.slice none 0 0) := by rw [(hb1').cell (p := ⟨w.heap.size + 1, 5, none⟩) (by simp <;> omega)]; simp [go_sem]
  go_wp2_with fail
  refine (eqBookN _).mono ?_
  rintro e w2 ⟨rfl, hb2⟩
  have B2 := B1.trans (hb2.mono B1.size)
  have C2 := hb1'.trans (hb2.mono hb1'.size)
  have c2_0 : w2.cell? ⟨w.heap.size, 0, none⟩ = some (.bool true) := by rw [(C2).cell (p := ⟨w.heap.size, 0, none⟩) (by simp <;> omega)]; simp [go_sem]
  have c2_1 : w2.cell? ⟨w.heap.size, 1, none⟩ = some (.int .i64 0) := by rw [(C2).cell (p := ⟨w.heap.size, 1, none⟩) (by simp <;> omega)]; simp [go_sem]
  have c2_2 : w2.cell? ⟨w.heap.size, 2, none⟩ = some (.slice none 0 0) := by rw [(C2).cell (p := ⟨w.heap.size, 2, none⟩) (by simp <;> omega)]; simp [go_sem]
  have c2_3 : w2.cell? ⟨w.heap.size, 3, none⟩ = some (.int .i64 0) := by rw [(C2).cell (p := ⟨w.heap.size, 3, none⟩) (by simp <;> omega)]; simp [go_sem]
  have c2_4 : w2.cell? ⟨w.heap.size, 4, none⟩ = some (.slice none 0 0) := by rw [(C2).cell (p := ⟨w.heap.size, 4, none⟩) (by simp <;> omega)]; simp [go_sem]
  have c2_5 : w2.cell? ⟨w.heap.size, 5, none⟩ = some (.slice none 0 0) := by rw [(C2).cell (p := ⟨w.heap.size, 5, none⟩) (by simp <;> omega)]; simp [go_sem]
  have d2_0 : w2.cell? ⟨w.heap.size + 1, 0, none⟩ = some (.bool true) := by rw [(C2).cell (p := ⟨w.heap.size + 1, 0, none⟩) (by simp <;> omega)]; simp [go_sem]
  have d2_1 : w2.cell? ⟨w.heap.size + 1, 1, none⟩ = some (.int .i64 0) := by rw [(C2).cell (p := ⟨w.heap.size + 1, 1, none⟩) (by simp <;> omega)]; simp [go_sem]
  have d2_2 : w2.cell? ⟨w.heap.size + 1, 2, none⟩ = some (.slice none 0 0) := by rw [(C2).cell (p := ⟨w.heap.size + 1, 2, none⟩) (by simp <;> omega)]; simp [go_sem]
  have d2_3 : w2.cell? ⟨w.heap.size + 1, 3, none⟩ = some (.int .i64 0) := by rw [(C2).cell (p := ⟨w.heap.size + 1, 3, none⟩) (by simp <;> omega)]; simp [go_sem]
  have d2_4 : w2.cell? ⟨w.heap.size + 1, 4, none⟩ = some (.slice none 0 0) := by rw [(C2).cell (p := ⟨w.heap.size + 1, 4, none⟩) (by simp <;> omega)]; simp [go_sem]
  have d2_5 : w2.cell? ⟨w.heap.size + 1, 5, none⟩ = some (.slice none 0 0) := by rw [(C2).cell (p := ⟨w.heap.size + 1, 5, none⟩) (by simp <;> omega)]; simp [go_sem]
  go_wp2_with fail
  refine (eqWordsN _).mono ?_
  rintro e w3 ⟨rfl, hb3⟩
  have B3 := B2.trans (hb3.mono B2.size)
  have C3 := C2.trans (hb3.mono C2.size)
  have c3_0 : w3.cell? ⟨w.heap.size, 0, none⟩ = some (.bool true) := by rw [(C3).cell (p := ⟨w.heap.size, 0, none⟩) (by simp <;> omega)]; simp [go_sem]
  have c3_1 : w3.cell? ⟨w.heap.size, 1, none⟩ = some (.int .i64 0) := by rw [(C3).cell (p := ⟨w.heap.size, 1, none⟩) (by simp <;> omega)]; simp [go_sem]
  have c3_2 : w3.cell? ⟨w.heap.size, 2, none⟩ = some (.slice none 0 0) := by rw [(C3).cell (p := ⟨w.heap.size, 2, none⟩) (by simp <;> omega)]; simp [go_sem]
  have c3_3 : w3.cell? ⟨w.heap.size, 3, none⟩ = some (.int .i64 0) := by rw [(C3).cell (p := ⟨w.heap.size, 3, none⟩) (by simp <;> omega)]; simp [go_sem]
  have c3_4 : w3.cell? ⟨w.heap.size, 4, none⟩ = some (.slice none 0 0) := by rw [(C3).cell (p := ⟨w.heap.size, 4, none⟩) (by simp <;> omega)]; simp [go_sem]
  have c3_5 : w3.cell? ⟨w.heap.size, 5, none⟩ = some (.slice none 0 0) := by rw [(C3).cell (p := ⟨w.heap.size, 5, none⟩) (by simp <;> omega)]; simp [go_sem]
  have d3_0 : w3.cell? ⟨w.heap.size + 1, 0, none⟩ = some (.bool true) := by rw [(C3).cell (p := ⟨w.heap.size + 1, 0, none⟩) (by simp <;> omega)]; simp [go_sem]
  have d3_1 : w3.cell? ⟨w.heap.size + 1, 1, none⟩ = some (.int .i64 0) := by rw [(C3).cell (p := ⟨w.heap.size + 1, 1, none⟩) (by simp <;> omega)]; simp [go_sem]
  have d3_2 : w3.cell? ⟨w.heap.size + 1, 2, none⟩ = some (.slice none 0 0) := by rw [(C3).cell (p := ⟨w.heap.size + 1, 2, none⟩) (by simp <;> omega)]; simp [go_sem]
  have d3_3 : w3.cell? ⟨w.heap.size + 1, 3, none⟩ = some (.int .i64 0) := by rw [(C3).cell (p := ⟨w.heap.size + 1, 3, none⟩) (by simp <;> omega)]; simp [go_sem]
  have d3_4 : w3.cell? ⟨w.heap.size + 1, 4, none⟩ = some (.slice none 0 0) := by rw [(C3).cell (p := ⟨w.heap.size + 1, 4, none⟩) (by simp <;> omega)]; simp [go_sem]
  have d3_5 : w3.cell? ⟨w.heap.size + 1, 5, none⟩ = some (.slice none 0 0) := by rw [(C3).cell (p := ⟨w.heap.size + 1, 5, none⟩) (by simp <;> omega)]; simp [go_sem]
  go_wp2
  go_ret
  exact ⟨rfl, B3⟩

set_option maxHeartbeats 1000000 in
theorem eqWorldN (w : World) : Calls Try.prog 6 #[.agg #[.int .i64 0, .bool true, .int .i64 0, .slice none 0 0, .int .i64 0, .slice none 0 0, .slice none 0 0, .slice none 0 0, .slice none 0 0], .agg #[.int .i64 0, .bool true, .int .i64 0, .slice none 0 0, .int .i64 0, .slice none 0 0, .slice none 0 0, .slice none 0 0, .slice none 0 0]] w fun e w' => e = .returned (.bool true) ∧ Below w.heap.size w w' := by
  go_enter Try.func6, Try.ntmps6
  go_wp2_with fail
  have B0 : Below w.heap.size w ((w.alloc (.cells #[.int .i64 0, .bool true, .int .i64 0, .slice none 0 0, .int .i64 0, .slice none 0 0, .slice none 0 0, .slice none 0 0, .slice none 0 0] 30)).alloc (.cells #[.int .i64 0, .bool true, .int .i64 0, .slice none 0 0, .int .i64 0, .slice none 0 0, .slice none 0 0, .slice none 0 0, .slice none 0 0] 30)) := by repeat (first | exact Below.refl _ _ | refine Below.alloc ?_ (by simp <;> omega) _)
  refine (eqGroundN _).mono ?_
  rintro e w1 ⟨rfl, hb1⟩
  have hb1' : Below ((w.alloc (.cells #[.int .i64 0, .bool true, .int .i64 0, .slice none 0 0, .int .i64 0, .slice none 0 0, .slice none 0 0, .slice none 0 0, .slice none 0 0] 30)).alloc (.cells #[.int .i64 0, .bool true, .int .i64 0, .slice none 0 0, .int .i64 0, .slice none 0 0, .slice none 0 0, .slice none 0 0, .slice none 0 0] 30)).heap.size ((w.alloc (.cells #[.int .i64 0, .bool true, .int .i64 0, .slice none 0 0, .int .i64 0, .slice none 0 0, .slice none 0 0, .slice none 0 0, .slice none 0 0] 30)).alloc (.cells #[.int .i64 0, .bool true, .int .i64 0, .slice none 0 0, .int .i64 0, .slice none 0 0, .slice none 0 0, .slice none 0 0, .slice none 0 0] 30)) w1 := hb1
  have B1 := B0.trans (hb1'.mono B0.size)
  have c1_0 : w1.cell? ⟨w.heap.size, 0, none⟩ = some (.int .i64 0) := by rw [(hb1').cell (p := ⟨w.heap.size, 0, none⟩) (by simp <;> omega)]; simp [go_sem]
  have c1_1 : w1.cell? ⟨w.heap.size, 1, none⟩ = some (.bool true) := by rw [(hb1').cell (p := ⟨w.heap.size, 1, none⟩) (by simp <;> omega)]; simp [go_sem]
  have c1_2 : w1.cell? ⟨w.heap.size, 2, none⟩ = some (.int .i64 0) := by rw [(hb1').cell (p := ⟨w.heap.size, 2, none⟩) (by simp <;> omega)]; simp [go_sem]
  have c1_3 : w1.cell? ⟨w.heap.size, 3, none⟩ = some (.slice none 0 0) := by rw [(hb1').cell (p := ⟨w.heap.size, 3, none⟩) (by simp <;> omega)]; simp [go_sem]
  have c1_4 : w1.cell? ⟨w.heap.size, 4, none⟩ = some (.int .i64 0) := by rw [(hb1').cell (p := ⟨w.heap.size, 4, none⟩) (by simp <;> omega)]; simp [go_sem]
  have c1_5 : w1.cell? ⟨w.heap.size, 5, none⟩ = some (.slice none 0 0) := by rw [(hb1').cell (p := ⟨w.heap.size, 5, none⟩) (by simp <;> omega)]; simp [go_sem]
  have c1_6 : w1.cell? ⟨w.heap.size, 6, none⟩ = some (.slice none 0 0) := by rw [(hb1').cell (p := ⟨w.heap.size, 6, none⟩) (by simp <;> omega)]; simp [go_sem]
  have c1_7 : w1.cell? ⟨w.heap.size, 7, none⟩ = some (.slice none 0 0) := by rw [(hb1').cell (p := ⟨w.heap.size, 7, none⟩) (by simp <;> omega)]; simp [go_sem]
  have c1_8 : w1.cell? ⟨w.heap.size, 8, none⟩ = some (.slice none 0 0) := by rw [(hb1').cell (p := ⟨w.heap.size, 8, none⟩) (by simp <;> omega)]; simp [go_sem]
  have d1_0 : w1.cell? ⟨w.heap.size + 1, 0, none⟩ = some (.int .i64 0) := by rw [(hb1').cell (p := ⟨w.heap.size + 1, 0, none⟩) (by simp <;> omega)]; simp [go_sem]
  have d1_1 : w1.cell? ⟨w.heap.size + 1, 1, none⟩ = some (.bool true) := by rw [(hb1').cell (p := ⟨w.heap.size + 1, 1, none⟩) (by simp <;> omega)]; simp [go_sem]
  have d1_2 : w1.cell? ⟨w.heap.size + 1, 2, none⟩ = some (.int .i64 0) := by rw [(hb1').cell (p := ⟨w.heap.size + 1, 2, none⟩) (by simp <;> omega)]; simp [go_sem]
  have d1_3 : w1.cell? ⟨w.heap.size + 1, 3, none⟩ = some (.slice none 0 0) := by rw [(hb1').cell (p := ⟨w.heap.size + 1, 3, none⟩) (by simp <;> omega)]; simp [go_sem]
  have d1_4 : w1.cell? ⟨w.heap.size + 1, 4, none⟩ = some (.int .i64 0) := by rw [(hb1').cell (p := ⟨w.heap.size + 1, 4, none⟩) (by simp <;> omega)]; simp [go_sem]
  have d1_5 : w1.cell? ⟨w.heap.size + 1, 5, none⟩ = some (.slice none 0 0) := by rw [(hb1').cell (p := ⟨w.heap.size + 1, 5, none⟩) (by simp <;> omega)]; simp [go_sem]
  have d1_6 : w1.cell? ⟨w.heap.size + 1, 6, none⟩ = some (.slice none 0 0) := by rw [(hb1').cell (p := ⟨w.heap.size + 1, 6, none⟩) (by simp <;> omega)]; simp [go_sem]
  have d1_7 : w1.cell? ⟨w.heap.size + 1, 7, none⟩ = some (.slice none 0 0) := by rw [(hb1').cell (p := ⟨w.heap.size + 1, 7, none⟩) (by simp <;> omega)]; simp [go_sem]
  have d1_8 : w1.cell? ⟨w.heap.size + 1, 8, none⟩ = some (.slice none 0 0) := by rw [(hb1').cell (p := ⟨w.heap.size + 1, 8, none⟩) (by simp <;> omega)]; simp [go_sem]
  go_wp2_with fail
  refine (eqCraftsN _).mono ?_
  rintro e w2 ⟨rfl, hb2⟩
  have B2 := B1.trans (hb2.mono B1.size)
  have C2 := hb1'.trans (hb2.mono hb1'.size)
  have c2_0 : w2.cell? ⟨w.heap.size, 0, none⟩ = some (.int .i64 0) := by rw [(C2).cell (p := ⟨w.heap.size, 0, none⟩) (by simp <;> omega)]; simp [go_sem]
  have c2_1 : w2.cell? ⟨w.heap.size, 1, none⟩ = some (.bool true) := by rw [(C2).cell (p := ⟨w.heap.size, 1, none⟩) (by simp <;> omega)]; simp [go_sem]
  have c2_2 : w2.cell? ⟨w.heap.size, 2, none⟩ = some (.int .i64 0) := by rw [(C2).cell (p := ⟨w.heap.size, 2, none⟩) (by simp <;> omega)]; simp [go_sem]
  have c2_3 : w2.cell? ⟨w.heap.size, 3, none⟩ = some (.slice none 0 0) := by rw [(C2).cell (p := ⟨w.heap.size, 3, none⟩) (by simp <;> omega)]; simp [go_sem]
  have c2_4 : w2.cell? ⟨w.heap.size, 4, none⟩ = some (.int .i64 0) := by rw [(C2).cell (p := ⟨w.heap.size, 4, none⟩) (by simp <;> omega)]; simp [go_sem]
  have c2_5 : w2.cell? ⟨w.heap.size, 5, none⟩ = some (.slice none 0 0) := by rw [(C2).cell (p := ⟨w.heap.size, 5, none⟩) (by simp <;> omega)]; simp [go_sem]
  have c2_6 : w2.cell? ⟨w.heap.size, 6, none⟩ = some (.slice none 0 0) := by rw [(C2).cell (p := ⟨w.heap.size, 6, none⟩) (by simp <;> omega)]; simp [go_sem]
  have c2_7 : w2.cell? ⟨w.heap.size, 7, none⟩ = some (.slice none 0 0) := by rw [(C2).cell (p := ⟨w.heap.size, 7, none⟩) (by simp <;> omega)]; simp [go_sem]
  have c2_8 : w2.cell? ⟨w.heap.size, 8, none⟩ = some (.slice none 0 0) := by rw [(C2).cell (p := ⟨w.heap.size, 8, none⟩) (by simp <;> omega)]; simp [go_sem]
  have d2_0 : w2.cell? ⟨w.heap.size + 1, 0, none⟩ = some (.int .i64 0) := by rw [(C2).cell (p := ⟨w.heap.size + 1, 0, none⟩) (by simp <;> omega)]; simp [go_sem]
  have d2_1 : w2.cell? ⟨w.heap.size + 1, 1, none⟩ = some (.bool true) := by rw [(C2).cell (p := ⟨w.heap.size + 1, 1, none⟩) (by simp <;> omega)]; simp [go_sem]
  have d2_2 : w2.cell? ⟨w.heap.size + 1, 2, none⟩ = some (.int .i64 0) := by rw [(C2).cell (p := ⟨w.heap.size + 1, 2, none⟩) (by simp <;> omega)]; simp [go_sem]
  have d2_3 : w2.cell? ⟨w.heap.size + 1, 3, none⟩ = some (.slice none 0 0) := by rw [(C2).cell (p := ⟨w.heap.size + 1, 3, none⟩) (by simp <;> omega)]; simp [go_sem]
  have d2_4 : w2.cell? ⟨w.heap.size + 1, 4, none⟩ = some (.int .i64 0) := by rw [(C2).cell (p := ⟨w.heap.size + 1, 4, none⟩) (by simp <;> omega)]; simp [go_sem]
  have d2_5 : w2.cell? ⟨w.heap.size + 1, 5, none⟩ = some (.slice none 0 0) := by rw [(C2).cell (p := ⟨w.heap.size + 1, 5, none⟩) (by simp <;> omega)]; simp [go_sem]
  have d2_6 : w2.cell? ⟨w.heap.size + 1, 6, none⟩ = some (.slice none 0 0) := by rw [(C2).cell (p := ⟨w.heap.size + 1, 6, none⟩) (by simp <;> omega)]; simp [go_sem]
  have d2_7 : w2.cell? ⟨w.heap.size + 1, 7, none⟩ = some (.slice none 0 0) := by rw [(C2).cell (p := ⟨w.heap.size + 1, 7, none⟩) (by simp <;> omega)]; simp [go_sem]
  have d2_8 : w2.cell? ⟨w.heap.size + 1, 8, none⟩ = some (.slice none 0 0) := by rw [(C2).cell (p := ⟨w.heap.size + 1, 8, none⟩) (by simp <;> omega)]; simp [go_sem]
  go_wp2_with fail
  refine (eqWordsN _).mono ?_
  rintro e w3 ⟨rfl, hb3⟩
  have B3 := B2.trans (hb3.mono B2.size)
  have C3 := C2.trans (hb3.mono C2.size)
  have c3_0 : w3.cell? ⟨w.heap.size, 0, none⟩ = some (.int .i64 0) := by rw [(C3).cell (p := ⟨w.heap.size, 0, none⟩) (by simp <;> omega)]; simp [go_sem]
  have c3_1 : w3.cell? ⟨w.heap.size, 1, none⟩ = some (.bool true) := by rw [(C3).cell (p := ⟨w.heap.size, 1, none⟩) (by simp <;> omega)]; simp [go_sem]
  have c3_2 : w3.cell? ⟨w.heap.size, 2, none⟩ = some (.int .i64 0) := by rw [(C3).cell (p := ⟨w.heap.size, 2, none⟩) (by simp <;> omega)]; simp [go_sem]
  have c3_3 : w3.cell? ⟨w.heap.size, 3, none⟩ = some (.slice none 0 0) := by rw [(C3).cell (p := ⟨w.heap.size, 3, none⟩) (by simp <;> omega)]; simp [go_sem]
  have c3_4 : w3.cell? ⟨w.heap.size, 4, none⟩ = some (.int .i64 0) := by rw [(C3).cell (p := ⟨w.heap.size, 4, none⟩) (by simp <;> omega)]; simp [go_sem]
  have c3_5 : w3.cell? ⟨w.heap.size, 5, none⟩ = some (.slice none 0 0) := by rw [(C3).cell (p := ⟨w.heap.size, 5, none⟩) (by simp <;> omega)]; simp [go_sem]
  have c3_6 : w3.cell? ⟨w.heap.size, 6, none⟩ = some (.slice none 0 0) := by rw [(C3).cell (p := ⟨w.heap.size, 6, none⟩) (by simp <;> omega)]; simp [go_sem]
  have c3_7 : w3.cell? ⟨w.heap.size, 7, none⟩ = some (.slice none 0 0) := by rw [(C3).cell (p := ⟨w.heap.size, 7, none⟩) (by simp <;> omega)]; simp [go_sem]
  have c3_8 : w3.cell? ⟨w.heap.size, 8, none⟩ = some (.slice none 0 0) := by rw [(C3).cell (p := ⟨w.heap.size, 8, none⟩) (by simp <;> omega)]; simp [go_sem]
  have d3_0 : w3.cell? ⟨w.heap.size + 1, 0, none⟩ = some (.int .i64 0) := by rw [(C3).cell (p := ⟨w.heap.size + 1, 0, none⟩) (by simp <;> omega)]; simp [go_sem]
  have d3_1 : w3.cell? ⟨w.heap.size + 1, 1, none⟩ = some (.bool true) := by rw [(C3).cell (p := ⟨w.heap.size + 1, 1, none⟩) (by simp <;> omega)]; simp [go_sem]
  have d3_2 : w3.cell? ⟨w.heap.size + 1, 2, none⟩ = some (.int .i64 0) := by rw [(C3).cell (p := ⟨w.heap.size + 1, 2, none⟩) (by simp <;> omega)]; simp [go_sem]
  have d3_3 : w3.cell? ⟨w.heap.size + 1, 3, none⟩ = some (.slice none 0 0) := by rw [(C3).cell (p := ⟨w.heap.size + 1, 3, none⟩) (by simp <;> omega)]; simp [go_sem]
  have d3_4 : w3.cell? ⟨w.heap.size + 1, 4, none⟩ = some (.int .i64 0) := by rw [(C3).cell (p := ⟨w.heap.size + 1, 4, none⟩) (by simp <;> omega)]; simp [go_sem]
  have d3_5 : w3.cell? ⟨w.heap.size + 1, 5, none⟩ = some (.slice none 0 0) := by rw [(C3).cell (p := ⟨w.heap.size + 1, 5, none⟩) (by simp <;> omega)]; simp [go_sem]
  have d3_6 : w3.cell? ⟨w.heap.size + 1, 6, none⟩ = some (.slice none 0 0) := by rw [(C3).cell (p := ⟨w.heap.size + 1, 6, none⟩) (by simp <;> omega)]; simp [go_sem]
  have d3_7 : w3.cell? ⟨w.heap.size + 1, 7, none⟩ = some (.slice none 0 0) := by rw [(C3).cell (p := ⟨w.heap.size + 1, 7, none⟩) (by simp <;> omega)]; simp [go_sem]
  have d3_8 : w3.cell? ⟨w.heap.size + 1, 8, none⟩ = some (.slice none 0 0) := by rw [(C3).cell (p := ⟨w.heap.size + 1, 8, none⟩) (by simp <;> omega)]; simp [go_sem]
  go_wp2
  go_ret
  exact ⟨rfl, B3⟩

set_option maxHeartbeats 1000000 in
theorem markBookN (k : Int) (w : World) : Calls Try.prog 21 #[.agg #[.int .i64 0, .slice none 0 0], .int .i64 k] w fun e w' => e = .returned (.int .i64 k) ∧ Below w.heap.size w w' := by
  go_enter Try.func21, Try.ntmps21
  go_wp2_with fail
  have B0 : Below w.heap.size w (w.alloc (.cells #[.int .i64 0, .slice none 0 0] 24)) := by repeat (first | exact Below.refl _ _ | refine Below.alloc ?_ (by simp <;> omega) _)
  refine (markHeldsN k _).mono ?_
  rintro e w1 ⟨rfl, hb1⟩
  have hb1' : Below (w.alloc (.cells #[.int .i64 0, .slice none 0 0] 24)).heap.size (w.alloc (.cells #[.int .i64 0, .slice none 0 0] 24)) w1 := hb1
  have B1 := B0.trans (hb1'.mono B0.size)
  have c1_0 : w1.cell? ⟨w.heap.size, 0, none⟩ = some (.int .i64 0) := by rw [(hb1').cell (p := ⟨w.heap.size, 0, none⟩) (by simp <;> omega)]; simp [go_sem]
  have c1_1 : w1.cell? ⟨w.heap.size, 1, none⟩ = some (.slice none 0 0) := by rw [(hb1').cell (p := ⟨w.heap.size, 1, none⟩) (by simp <;> omega)]; simp [go_sem]
  go_wp2
  go_ret
  exact ⟨rfl, B1⟩

set_option maxHeartbeats 1000000 in
theorem markGroundN (k : Int) (w : World) : Calls Try.prog 12 #[.agg #[.bool true, .int .i64 0, .slice none 0 0, .int .i64 0, .slice none 0 0, .slice none 0 0], .int .i64 k] w fun e w' => e = .returned (.int .i64 k) ∧ Below w.heap.size w w' := by
  go_enter Try.func12, Try.ntmps12
  go_wp2_with fail
  have B0 : Below w.heap.size w (w.alloc (.cells #[.bool true, .int .i64 0, .slice none 0 0, .int .i64 0, .slice none 0 0, .slice none 0 0] 27)) := by repeat (first | exact Below.refl _ _ | refine Below.alloc ?_ (by simp <;> omega) _)
  refine (markBookN k _).mono ?_
  rintro e w1 ⟨rfl, hb1⟩
  have hb1' : Below (w.alloc (.cells #[.bool true, .int .i64 0, .slice none 0 0, .int .i64 0, .slice none 0 0, .slice none 0 0] 27)).heap.size (w.alloc (.cells #[.bool true, .int .i64 0, .slice none 0 0, .int .i64 0, .slice none 0 0, .slice none 0 0] 27)) w1 := hb1
  have B1 := B0.trans (hb1'.mono B0.size)
  have c1_0 : w1.cell? ⟨w.heap.size, 0, none⟩ = some (.bool true) := by rw [(hb1').cell (p := ⟨w.heap.size, 0, none⟩) (by simp <;> omega)]; simp [go_sem]
  have c1_1 : w1.cell? ⟨w.heap.size, 1, none⟩ = some (.int .i64 0) := by rw [(hb1').cell (p := ⟨w.heap.size, 1, none⟩) (by simp <;> omega)]; simp [go_sem]
  have c1_2 : w1.cell? ⟨w.heap.size, 2, none⟩ = some (.slice none 0 0) := by rw [(hb1').cell (p := ⟨w.heap.size, 2, none⟩) (by simp <;> omega)]; simp [go_sem]
  have c1_3 : w1.cell? ⟨w.heap.size, 3, none⟩ = some (.int .i64 0) := by rw [(hb1').cell (p := ⟨w.heap.size, 3, none⟩) (by simp <;> omega)]; simp [go_sem]
  have c1_4 : w1.cell? ⟨w.heap.size, 4, none⟩ = some (.slice none 0 0) := by rw [(hb1').cell (p := ⟨w.heap.size, 4, none⟩) (by simp <;> omega)]; simp [go_sem]
  have c1_5 : w1.cell? ⟨w.heap.size, 5, none⟩ = some (.slice none 0 0) := by rw [(hb1').cell (p := ⟨w.heap.size, 5, none⟩) (by simp <;> omega)]; simp [go_sem]
  go_wp2_with fail
  refine (markBookN k _).mono ?_
  rintro e w2 ⟨rfl, hb2⟩
  have B2 := B1.trans (hb2.mono B1.size)
  have C2 := hb1'.trans (hb2.mono hb1'.size)
  have c2_0 : w2.cell? ⟨w.heap.size, 0, none⟩ = some (.bool true) := by rw [(C2).cell (p := ⟨w.heap.size, 0, none⟩) (by simp <;> omega)]; simp [go_sem]
  have c2_1 : w2.cell? ⟨w.heap.size, 1, none⟩ = some (.int .i64 0) := by rw [(C2).cell (p := ⟨w.heap.size, 1, none⟩) (by simp <;> omega)]; simp [go_sem]
  have c2_2 : w2.cell? ⟨w.heap.size, 2, none⟩ = some (.slice none 0 0) := by rw [(C2).cell (p := ⟨w.heap.size, 2, none⟩) (by simp <;> omega)]; simp [go_sem]
  have c2_3 : w2.cell? ⟨w.heap.size, 3, none⟩ = some (.int .i64 0) := by rw [(C2).cell (p := ⟨w.heap.size, 3, none⟩) (by simp <;> omega)]; simp [go_sem]
  have c2_4 : w2.cell? ⟨w.heap.size, 4, none⟩ = some (.slice none 0 0) := by rw [(C2).cell (p := ⟨w.heap.size, 4, none⟩) (by simp <;> omega)]; simp [go_sem]
  have c2_5 : w2.cell? ⟨w.heap.size, 5, none⟩ = some (.slice none 0 0) := by rw [(C2).cell (p := ⟨w.heap.size, 5, none⟩) (by simp <;> omega)]; simp [go_sem]
  go_wp2_with fail
  refine (markWordsN k _).mono ?_
  rintro e w3 ⟨rfl, hb3⟩
  have B3 := B2.trans (hb3.mono B2.size)
  have C3 := C2.trans (hb3.mono C2.size)
  have c3_0 : w3.cell? ⟨w.heap.size, 0, none⟩ = some (.bool true) := by rw [(C3).cell (p := ⟨w.heap.size, 0, none⟩) (by simp <;> omega)]; simp [go_sem]
  have c3_1 : w3.cell? ⟨w.heap.size, 1, none⟩ = some (.int .i64 0) := by rw [(C3).cell (p := ⟨w.heap.size, 1, none⟩) (by simp <;> omega)]; simp [go_sem]
  have c3_2 : w3.cell? ⟨w.heap.size, 2, none⟩ = some (.slice none 0 0) := by rw [(C3).cell (p := ⟨w.heap.size, 2, none⟩) (by simp <;> omega)]; simp [go_sem]
  have c3_3 : w3.cell? ⟨w.heap.size, 3, none⟩ = some (.int .i64 0) := by rw [(C3).cell (p := ⟨w.heap.size, 3, none⟩) (by simp <;> omega)]; simp [go_sem]
  have c3_4 : w3.cell? ⟨w.heap.size, 4, none⟩ = some (.slice none 0 0) := by rw [(C3).cell (p := ⟨w.heap.size, 4, none⟩) (by simp <;> omega)]; simp [go_sem]
  have c3_5 : w3.cell? ⟨w.heap.size, 5, none⟩ = some (.slice none 0 0) := by rw [(C3).cell (p := ⟨w.heap.size, 5, none⟩) (by simp <;> omega)]; simp [go_sem]
  go_wp2
  go_ret
  exact ⟨rfl, B3⟩

set_option maxHeartbeats 1000000 in
theorem markWorldN (k : Int) (w : World) : Calls Try.prog 7 #[.agg #[.int .i64 0, .bool true, .int .i64 0, .slice none 0 0, .int .i64 0, .slice none 0 0, .slice none 0 0, .slice none 0 0, .slice none 0 0], .int .i64 k] w fun e w' => e = .returned (.int .i64 k) ∧ Below w.heap.size w w' := by
  go_enter Try.func7, Try.ntmps7
  go_wp2_with fail
  have B0 : Below w.heap.size w (w.alloc (.cells #[.int .i64 0, .bool true, .int .i64 0, .slice none 0 0, .int .i64 0, .slice none 0 0, .slice none 0 0, .slice none 0 0, .slice none 0 0] 30)) := by repeat (first | exact Below.refl _ _ | refine Below.alloc ?_ (by simp <;> omega) _)
  refine (markGroundN k _).mono ?_
  rintro e w1 ⟨rfl, hb1⟩
  have hb1' : Below (w.alloc (.cells #[.int .i64 0, .bool true, .int .i64 0, .slice none 0 0, .int .i64 0, .slice none 0 0, .slice none 0 0, .slice none 0 0, .slice none 0 0] 30)).heap.size (w.alloc (.cells #[.int .i64 0, .bool true, .int .i64 0, .slice none 0 0, .int .i64 0, .slice none 0 0, .slice none 0 0, .slice none 0 0, .slice none 0 0] 30)) w1 := hb1
  have B1 := B0.trans (hb1'.mono B0.size)
  have c1_0 : w1.cell? ⟨w.heap.size, 0, none⟩ = some (.int .i64 0) := by rw [(hb1').cell (p := ⟨w.heap.size, 0, none⟩) (by simp <;> omega)]; simp [go_sem]
  have c1_1 : w1.cell? ⟨w.heap.size, 1, none⟩ = some (.bool true) := by rw [(hb1').cell (p := ⟨w.heap.size, 1, none⟩) (by simp <;> omega)]; simp [go_sem]
  have c1_2 : w1.cell? ⟨w.heap.size, 2, none⟩ = some (.int .i64 0) := by rw [(hb1').cell (p := ⟨w.heap.size, 2, none⟩) (by simp <;> omega)]; simp [go_sem]
  have c1_3 : w1.cell? ⟨w.heap.size, 3, none⟩ = some (.slice none 0 0) := by rw [(hb1').cell (p := ⟨w.heap.size, 3, none⟩) (by simp <;> omega)]; simp [go_sem]
  have c1_4 : w1.cell? ⟨w.heap.size, 4, none⟩ = some (.int .i64 0) := by rw [(hb1').cell (p := ⟨w.heap.size, 4, none⟩) (by simp <;> omega)]; simp [go_sem]
  have c1_5 : w1.cell? ⟨w.heap.size, 5, none⟩ = some (.slice none 0 0) := by rw [(hb1').cell (p := ⟨w.heap.size, 5, none⟩) (by simp <;> omega)]; simp [go_sem]
  have c1_6 : w1.cell? ⟨w.heap.size, 6, none⟩ = some (.slice none 0 0) := by rw [(hb1').cell (p := ⟨w.heap.size, 6, none⟩) (by simp <;> omega)]; simp [go_sem]
  have c1_7 : w1.cell? ⟨w.heap.size, 7, none⟩ = some (.slice none 0 0) := by rw [(hb1').cell (p := ⟨w.heap.size, 7, none⟩) (by simp <;> omega)]; simp [go_sem]
  have c1_8 : w1.cell? ⟨w.heap.size, 8, none⟩ = some (.slice none 0 0) := by rw [(hb1').cell (p := ⟨w.heap.size, 8, none⟩) (by simp <;> omega)]; simp [go_sem]
  go_wp2_with fail
  refine (markCraftsN k _).mono ?_
  rintro e w2 ⟨rfl, hb2⟩
  have B2 := B1.trans (hb2.mono B1.size)
  have C2 := hb1'.trans (hb2.mono hb1'.size)
  have c2_0 : w2.cell? ⟨w.heap.size, 0, none⟩ = some (.int .i64 0) := by rw [(C2).cell (p := ⟨w.heap.size, 0, none⟩) (by simp <;> omega)]; simp [go_sem]
  have c2_1 : w2.cell? ⟨w.heap.size, 1, none⟩ = some (.bool true) := by rw [(C2).cell (p := ⟨w.heap.size, 1, none⟩) (by simp <;> omega)]; simp [go_sem]
  have c2_2 : w2.cell? ⟨w.heap.size, 2, none⟩ = some (.int .i64 0) := by rw [(C2).cell (p := ⟨w.heap.size, 2, none⟩) (by simp <;> omega)]; simp [go_sem]
  have c2_3 : w2.cell? ⟨w.heap.size, 3, none⟩ = some (.slice none 0 0) := by rw [(C2).cell (p := ⟨w.heap.size, 3, none⟩) (by simp <;> omega)]; simp [go_sem]
  have c2_4 : w2.cell? ⟨w.heap.size, 4, none⟩ = some (.int .i64 0) := by rw [(C2).cell (p := ⟨w.heap.size, 4, none⟩) (by simp <;> omega)]; simp [go_sem]
  have c2_5 : w2.cell? ⟨w.heap.size, 5, none⟩ = some (.slice none 0 0) := by rw [(C2).cell (p := ⟨w.heap.size, 5, none⟩) (by simp <;> omega)]; simp [go_sem]
  have c2_6 : w2.cell? ⟨w.heap.size, 6, none⟩ = some (.slice none 0 0) := by rw [(C2).cell (p := ⟨w.heap.size, 6, none⟩) (by simp <;> omega)]; simp [go_sem]
  have c2_7 : w2.cell? ⟨w.heap.size, 7, none⟩ = some (.slice none 0 0) := by rw [(C2).cell (p := ⟨w.heap.size, 7, none⟩) (by simp <;> omega)]; simp [go_sem]
  have c2_8 : w2.cell? ⟨w.heap.size, 8, none⟩ = some (.slice none 0 0) := by rw [(C2).cell (p := ⟨w.heap.size, 8, none⟩) (by simp <;> omega)]; simp [go_sem]
  go_wp2_with fail
  refine (markWordsN k _).mono ?_
  rintro e w3 ⟨rfl, hb3⟩
  have B3 := B2.trans (hb3.mono B2.size)
  have C3 := C2.trans (hb3.mono C2.size)
  have c3_0 : w3.cell? ⟨w.heap.size, 0, none⟩ = some (.int .i64 0) := by rw [(C3).cell (p := ⟨w.heap.size, 0, none⟩) (by simp <;> omega)]; simp [go_sem]
  have c3_1 : w3.cell? ⟨w.heap.size, 1, none⟩ = some (.bool true) := by rw [(C3).cell (p := ⟨w.heap.size, 1, none⟩) (by simp <;> omega)]; simp [go_sem]
  have c3_2 : w3.cell? ⟨w.heap.size, 2, none⟩ = some (.int .i64 0) := by rw [(C3).cell (p := ⟨w.heap.size, 2, none⟩) (by simp <;> omega)]; simp [go_sem]
  have c3_3 : w3.cell? ⟨w.heap.size, 3, none⟩ = some (.slice none 0 0) := by rw [(C3).cell (p := ⟨w.heap.size, 3, none⟩) (by simp <;> omega)]; simp [go_sem]
  have c3_4 : w3.cell? ⟨w.heap.size, 4, none⟩ = some (.int .i64 0) := by rw [(C3).cell (p := ⟨w.heap.size, 4, none⟩) (by simp <;> omega)]; simp [go_sem]
  have c3_5 : w3.cell? ⟨w.heap.size, 5, none⟩ = some (.slice none 0 0) := by rw [(C3).cell (p := ⟨w.heap.size, 5, none⟩) (by simp <;> omega)]; simp [go_sem]
  have c3_6 : w3.cell? ⟨w.heap.size, 6, none⟩ = some (.slice none 0 0) := by rw [(C3).cell (p := ⟨w.heap.size, 6, none⟩) (by simp <;> omega)]; simp [go_sem]
  have c3_7 : w3.cell? ⟨w.heap.size, 7, none⟩ = some (.slice none 0 0) := by rw [(C3).cell (p := ⟨w.heap.size, 7, none⟩) (by simp <;> omega)]; simp [go_sem]
  have c3_8 : w3.cell? ⟨w.heap.size, 8, none⟩ = some (.slice none 0 0) := by rw [(C3).cell (p := ⟨w.heap.size, 8, none⟩) (by simp <;> omega)]; simp [go_sem]
  go_wp2
  go_ret
  exact ⟨rfl, B3⟩

set_option maxHeartbeats 1000000 in
theorem heldBookN (k : Int) (hk : 0 ≤ k) (w : World) : Calls Try.prog 25 #[.agg #[.int .i64 0, .slice none 0 0], .int .i64 k] w fun e w' => e = .returned (.int .i64 k) ∧ Below w.heap.size w w' := by
  go_enter Try.func25, Try.ntmps25
  go_wp2_with fail
  have B0 : Below w.heap.size w (w.alloc (.cells #[.int .i64 0, .slice none 0 0] 24)) := by repeat (first | exact Below.refl _ _ | refine Below.alloc ?_ (by simp <;> omega) _)
  refine (heldHeldsN k _).mono ?_
  rintro e w1 ⟨rfl, hb1⟩
  have hb1' : Below (w.alloc (.cells #[.int .i64 0, .slice none 0 0] 24)).heap.size (w.alloc (.cells #[.int .i64 0, .slice none 0 0] 24)) w1 := hb1
  have B1 := B0.trans (hb1'.mono B0.size)
  have c1_0 : w1.cell? ⟨w.heap.size, 0, none⟩ = some (.int .i64 0) := by rw [(hb1').cell (p := ⟨w.heap.size, 0, none⟩) (by simp <;> omega)]; simp [go_sem]
  have c1_1 : w1.cell? ⟨w.heap.size, 1, none⟩ = some (.slice none 0 0) := by rw [(hb1').cell (p := ⟨w.heap.size, 1, none⟩) (by simp <;> omega)]; simp [go_sem]
  go_wp2
  go_ret
  exact ⟨rfl, B1⟩

set_option maxHeartbeats 1000000 in
theorem heldGroundN (k : Int) (hk : 0 ≤ k) (w : World) : Calls Try.prog 15 #[.agg #[.bool true, .int .i64 0, .slice none 0 0, .int .i64 0, .slice none 0 0, .slice none 0 0], .int .i64 k] w fun e w' => e = .returned (.int .i64 k) ∧ Below w.heap.size w w' := by
  go_enter Try.func15, Try.ntmps15
  go_wp2_with fail
  have B0 : Below w.heap.size w (w.alloc (.cells #[.bool true, .int .i64 0, .slice none 0 0, .int .i64 0, .slice none 0 0, .slice none 0 0] 27)) := by repeat (first | exact Below.refl _ _ | refine Below.alloc ?_ (by simp <;> omega) _)
  refine (heldBookN k hk _).mono ?_
  rintro e w1 ⟨rfl, hb1⟩
  have hb1' : Below (w.alloc (.cells #[.bool true, .int .i64 0, .slice none 0 0, .int .i64 0, .slice none 0 0, .slice none 0 0] 27)).heap.size (w.alloc (.cells #[.bool true, .int .i64 0, .slice none 0 0, .int .i64 0, .slice none 0 0, .slice none 0 0] 27)) w1 := hb1
  have B1 := B0.trans (hb1'.mono B0.size)
  have c1_0 : w1.cell? ⟨w.heap.size, 0, none⟩ = some (.bool true) := by rw [(hb1').cell (p := ⟨w.heap.size, 0, none⟩) (by simp <;> omega)]; simp [go_sem]
  have c1_1 : w1.cell? ⟨w.heap.size, 1, none⟩ = some (.int .i64 0) := by rw [(hb1').cell (p := ⟨w.heap.size, 1, none⟩) (by simp <;> omega)]; simp [go_sem]
  have c1_2 : w1.cell? ⟨w.heap.size, 2, none⟩ = some (.slice none 0 0) := by rw [(hb1').cell (p := ⟨w.heap.size, 2, none⟩) (by simp <;> omega)]; simp [go_sem]
  have c1_3 : w1.cell? ⟨w.heap.size, 3, none⟩ = some (.int .i64 0) := by rw [(hb1').cell (p := ⟨w.heap.size, 3, none⟩) (by simp <;> omega)]; simp [go_sem]
  have c1_4 : w1.cell? ⟨w.heap.size, 4, none⟩ = some (.slice none 0 0) := by rw [(hb1').cell (p := ⟨w.heap.size, 4, none⟩) (by simp <;> omega)]; simp [go_sem]
  have c1_5 : w1.cell? ⟨w.heap.size, 5, none⟩ = some (.slice none 0 0) := by rw [(hb1').cell (p := ⟨w.heap.size, 5, none⟩) (by simp <;> omega)]; simp [go_sem]
  go_wp2_with fail
  refine (heldBookN k hk _).mono ?_
  rintro e w2 ⟨rfl, hb2⟩
  have B2 := B1.trans (hb2.mono B1.size)
  have C2 := hb1'.trans (hb2.mono hb1'.size)
  have c2_0 : w2.cell? ⟨w.heap.size, 0, none⟩ = some (.bool true) := by rw [(C2).cell (p := ⟨w.heap.size, 0, none⟩) (by simp <;> omega)]; simp [go_sem]
  have c2_1 : w2.cell? ⟨w.heap.size, 1, none⟩ = some (.int .i64 0) := by rw [(C2).cell (p := ⟨w.heap.size, 1, none⟩) (by simp <;> omega)]; simp [go_sem]
  have c2_2 : w2.cell? ⟨w.heap.size, 2, none⟩ = some (.slice none 0 0) := by rw [(C2).cell (p := ⟨w.heap.size, 2, none⟩) (by simp <;> omega)]; simp [go_sem]
  have c2_3 : w2.cell? ⟨w.heap.size, 3, none⟩ = some (.int .i64 0) := by rw [(C2).cell (p := ⟨w.heap.size, 3, none⟩) (by simp <;> omega)]; simp [go_sem]
  have c2_4 : w2.cell? ⟨w.heap.size, 4, none⟩ = some (.slice none 0 0) := by rw [(C2).cell (p := ⟨w.heap.size, 4, none⟩) (by simp <;> omega)]; simp [go_sem]
  have c2_5 : w2.cell? ⟨w.heap.size, 5, none⟩ = some (.slice none 0 0) := by rw [(C2).cell (p := ⟨w.heap.size, 5, none⟩) (by simp <;> omega)]; simp [go_sem]
  go_wp2_with fail
  refine (heldWordsN k _).mono ?_
  rintro e w3 ⟨rfl, hb3⟩
  have B3 := B2.trans (hb3.mono B2.size)
  have C3 := C2.trans (hb3.mono C2.size)
  have c3_0 : w3.cell? ⟨w.heap.size, 0, none⟩ = some (.bool true) := by rw [(C3).cell (p := ⟨w.heap.size, 0, none⟩) (by simp <;> omega)]; simp [go_sem]
  have c3_1 : w3.cell? ⟨w.heap.size, 1, none⟩ = some (.int .i64 0) := by rw [(C3).cell (p := ⟨w.heap.size, 1, none⟩) (by simp <;> omega)]; simp [go_sem]
  have c3_2 : w3.cell? ⟨w.heap.size, 2, none⟩ = some (.slice none 0 0) := by rw [(C3).cell (p := ⟨w.heap.size, 2, none⟩) (by simp <;> omega)]; simp [go_sem]
  have c3_3 : w3.cell? ⟨w.heap.size, 3, none⟩ = some (.int .i64 0) := by rw [(C3).cell (p := ⟨w.heap.size, 3, none⟩) (by simp <;> omega)]; simp [go_sem]
  have c3_4 : w3.cell? ⟨w.heap.size, 4, none⟩ = some (.slice none 0 0) := by rw [(C3).cell (p := ⟨w.heap.size, 4, none⟩) (by simp <;> omega)]; simp [go_sem]
  have c3_5 : w3.cell? ⟨w.heap.size, 5, none⟩ = some (.slice none 0 0) := by rw [(C3).cell (p := ⟨w.heap.size, 5, none⟩) (by simp <;> omega)]; simp [go_sem]
  go_wp2
  go_ret
  exact ⟨rfl, B3⟩

set_option maxHeartbeats 1000000 in
theorem heldWorldN (k : Int) (hk : 0 ≤ k) (w : World) : Calls Try.prog 8 #[.agg #[.int .i64 0, .bool true, .int .i64 0, .slice none 0 0, .int .i64 0, .slice none 0 0, .slice none 0 0, .slice none 0 0, .slice none 0 0], .int .i64 k] w fun e w' => e = .returned (.int .i64 k) ∧ Below w.heap.size w w' := by
  go_enter Try.func8, Try.ntmps8
  go_wp2_with fail
  have B0 : Below w.heap.size w (w.alloc (.cells #[.int .i64 0, .bool true, .int .i64 0, .slice none 0 0, .int .i64 0, .slice none 0 0, .slice none 0 0, .slice none 0 0, .slice none 0 0] 30)) := by repeat (first | exact Below.refl _ _ | refine Below.alloc ?_ (by simp <;> omega) _)
  refine (heldGroundN k hk _).mono ?_
  rintro e w1 ⟨rfl, hb1⟩
  have hb1' : Below (w.alloc (.cells #[.int .i64 0, .bool true, .int .i64 0, .slice none 0 0, .int .i64 0, .slice none 0 0, .slice none 0 0, .slice none 0 0, .slice none 0 0] 30)).heap.size (w.alloc (.cells #[.int .i64 0, .bool true, .int .i64 0, .slice none 0 0, .int .i64 0, .slice none 0 0, .slice none 0 0, .slice none 0 0, .slice none 0 0] 30)) w1 := hb1
  have B1 := B0.trans (hb1'.mono B0.size)
  have c1_0 : w1.cell? ⟨w.heap.size, 0, none⟩ = some (.int .i64 0) := by rw [(hb1').cell (p := ⟨w.heap.size, 0, none⟩) (by simp <;> omega)]; simp [go_sem]
  have c1_1 : w1.cell? ⟨w.heap.size, 1, none⟩ = some (.bool true) := by rw [(hb1').cell (p := ⟨w.heap.size, 1, none⟩) (by simp <;> omega)]; simp [go_sem]
  have c1_2 : w1.cell? ⟨w.heap.size, 2, none⟩ = some (.int .i64 0) := by rw [(hb1').cell (p := ⟨w.heap.size, 2, none⟩) (by simp <;> omega)]; simp [go_sem]
  have c1_3 : w1.cell? ⟨w.heap.size, 3, none⟩ = some (.slice none 0 0) := by rw [(hb1').cell (p := ⟨w.heap.size, 3, none⟩) (by simp <;> omega)]; simp [go_sem]
  have c1_4 : w1.cell? ⟨w.heap.size, 4, none⟩ = some (.int .i64 0) := by rw [(hb1').cell (p := ⟨w.heap.size, 4, none⟩) (by simp <;> omega)]; simp [go_sem]
  have c1_5 : w1.cell? ⟨w.heap.size, 5, none⟩ = some (.slice none 0 0) := by rw [(hb1').cell (p := ⟨w.heap.size, 5, none⟩) (by simp <;> omega)]; simp [go_sem]
  have c1_6 : w1.cell? ⟨w.heap.size, 6, none⟩ = some (.slice none 0 0) := by rw [(hb1').cell (p := ⟨w.heap.size, 6, none⟩) (by simp <;> omega)]; simp [go_sem]
  have c1_7 : w1.cell? ⟨w.heap.size, 7, none⟩ = some (.slice none 0 0) := by rw [(hb1').cell (p := ⟨w.heap.size, 7, none⟩) (by simp <;> omega)]; simp [go_sem]
  have c1_8 : w1.cell? ⟨w.heap.size, 8, none⟩ = some (.slice none 0 0) := by rw [(hb1').cell (p := ⟨w.heap.size, 8, none⟩) (by simp <;> omega)]; simp [go_sem]
  go_wp2_with fail
  refine (heldCraftsN k _).mono ?_
  rintro e w2 ⟨rfl, hb2⟩
  have B2 := B1.trans (hb2.mono B1.size)
  have C2 := hb1'.trans (hb2.mono hb1'.size)
  have c2_0 : w2.cell? ⟨w.heap.size, 0, none⟩ = some (.int .i64 0) := by rw [(C2).cell (p := ⟨w.heap.size, 0, none⟩) (by simp <;> omega)]; simp [go_sem]
  have c2_1 : w2.cell? ⟨w.heap.size, 1, none⟩ = some (.bool true) := by rw [(C2).cell (p := ⟨w.heap.size, 1, none⟩) (by simp <;> omega)]; simp [go_sem]
  have c2_2 : w2.cell? ⟨w.heap.size, 2, none⟩ = some (.int .i64 0) := by rw [(C2).cell (p := ⟨w.heap.size, 2, none⟩) (by simp <;> omega)]; simp [go_sem]
  have c2_3 : w2.cell? ⟨w.heap.size, 3, none⟩ = some (.slice none 0 0) := by rw [(C2).cell (p := ⟨w.heap.size, 3, none⟩) (by simp <;> omega)]; simp [go_sem]
  have c2_4 : w2.cell? ⟨w.heap.size, 4, none⟩ = some (.int .i64 0) := by rw [(C2).cell (p := ⟨w.heap.size, 4, none⟩) (by simp <;> omega)]; simp [go_sem]
  have c2_5 : w2.cell? ⟨w.heap.size, 5, none⟩ = some (.slice none 0 0) := by rw [(C2).cell (p := ⟨w.heap.size, 5, none⟩) (by simp <;> omega)]; simp [go_sem]
  have c2_6 : w2.cell? ⟨w.heap.size, 6, none⟩ = some (.slice none 0 0) := by rw [(C2).cell (p := ⟨w.heap.size, 6, none⟩) (by simp <;> omega)]; simp [go_sem]
  have c2_7 : w2.cell? ⟨w.heap.size, 7, none⟩ = some (.slice none 0 0) := by rw [(C2).cell (p := ⟨w.heap.size, 7, none⟩) (by simp <;> omega)]; simp [go_sem]
  have c2_8 : w2.cell? ⟨w.heap.size, 8, none⟩ = some (.slice none 0 0) := by rw [(C2).cell (p := ⟨w.heap.size, 8, none⟩) (by simp <;> omega)]; simp [go_sem]
  go_wp2_with fail
  refine (heldWordsN k _).mono ?_
  rintro e w3 ⟨rfl, hb3⟩
  have B3 := B2.trans (hb3.mono B2.size)
  have C3 := C2.trans (hb3.mono C2.size)
  have c3_0 : w3.cell? ⟨w.heap.size, 0, none⟩ = some (.int .i64 0) := by rw [(C3).cell (p := ⟨w.heap.size, 0, none⟩) (by simp <;> omega)]; simp [go_sem]
  have c3_1 : w3.cell? ⟨w.heap.size, 1, none⟩ = some (.bool true) := by rw [(C3).cell (p := ⟨w.heap.size, 1, none⟩) (by simp <;> omega)]; simp [go_sem]
  have c3_2 : w3.cell? ⟨w.heap.size, 2, none⟩ = some (.int .i64 0) := by rw [(C3).cell (p := ⟨w.heap.size, 2, none⟩) (by simp <;> omega)]; simp [go_sem]
  have c3_3 : w3.cell? ⟨w.heap.size, 3, none⟩ = some (.slice none 0 0) := by rw [(C3).cell (p := ⟨w.heap.size, 3, none⟩) (by simp <;> omega)]; simp [go_sem]
  have c3_4 : w3.cell? ⟨w.heap.size, 4, none⟩ = some (.int .i64 0) := by rw [(C3).cell (p := ⟨w.heap.size, 4, none⟩) (by simp <;> omega)]; simp [go_sem]
  have c3_5 : w3.cell? ⟨w.heap.size, 5, none⟩ = some (.slice none 0 0) := by rw [(C3).cell (p := ⟨w.heap.size, 5, none⟩) (by simp <;> omega)]; simp [go_sem]
  have c3_6 : w3.cell? ⟨w.heap.size, 6, none⟩ = some (.slice none 0 0) := by rw [(C3).cell (p := ⟨w.heap.size, 6, none⟩) (by simp <;> omega)]; simp [go_sem]
  have c3_7 : w3.cell? ⟨w.heap.size, 7, none⟩ = some (.slice none 0 0) := by rw [(C3).cell (p := ⟨w.heap.size, 7, none⟩) (by simp <;> omega)]; simp [go_sem]
  have c3_8 : w3.cell? ⟨w.heap.size, 8, none⟩ = some (.slice none 0 0) := by rw [(C3).cell (p := ⟨w.heap.size, 8, none⟩) (by simp <;> omega)]; simp [go_sem]
  go_wp2
  go_ret
  exact ⟨rfl, B3⟩

end Go.Proofs.Ytknnegnkiocnkaa
