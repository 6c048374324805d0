/- A cell as a key of the program's maps. -/
import Derived.Test.YtibfdggcgioklahRows
import Derived.Test.YtibfdggcgioklahGrp
import Derived.WalkKit
namespace Go.Proofs.Ytibfdggcgioklah
open Go.RowKit

theorem int_check (em : Bool) (n : Nat) (i : Int) (w : World) : (Instr.checkKey em (n + 1) 3 (.int .i64 i)).run Try.prog w = .ok () w := by
  simp [Instr.checkKey, run_underlying Try.underlying3, Result.andThen]
theorem int_equal (n : Nat) (i j : Int) (w : World) : (Op.equalIn (n + 1) 3 (.int .i64 i) (.int .i64 j)).run Try.prog w = .ok (i == j) w := by
  simp [Op.equalIn, run_underlying Try.underlying3, Result.andThen]
theorem int_part0 (i j : Int) (w : World) : (part 3 #[.int .i64 i, .int .i64 j] 0).run Try.prog w = .ok (.int .i64 i) w := by
  simp [part, isAgg, run_underlying Try.underlying3, Result.andThen]
theorem int_part1 (i j : Int) (w : World) : (part 3 #[.int .i64 i, .int .i64 j] 1).run Try.prog w = .ok (.int .i64 j) w := by
  simp [part, isAgg, run_underlying Try.underlying3, Result.andThen]

theorem cell_check (w : World) (em : Bool) (n : Nat) (i j : Int) : (Instr.checkKey em (n + 1 + 1) 83 (keyV i j)).run Try.prog w = .ok () w := by
  rw [Instr.checkKey]
  simp [run_underlying Try.underlying83, Result.andThen, int_check, int_part0, int_part1]
theorem cell_equal (w : World) (n : Nat) (i j i' j' : Int) : (Op.equalIn (n + 1 + 1) 83 (keyV i j) (keyV i' j')).run Try.prog w = .ok (decide (i = i' ∧ j = j')) w := by
  rw [Op.equalIn]
  by_cases h1 : i = i'
  · by_cases h2 : j = j'
    · simp [run_underlying Try.underlying83, Result.andThen, int_equal, int_part0, int_part1, h1, h2]
    · simp [run_underlying Try.underlying83, Result.andThen, int_equal, int_part0, int_part1, h1, h2]
  · simp [run_underlying Try.underlying83, Result.andThen, int_equal, int_part0, h1]
theorem cell_stays (w : World) (i j : Int) : (Instr.keyThatStays (keyV i j) (keyV i j)).run Try.prog w = .ok (keyV i j) w := by
  have h : Instr.sameBits (9998 + 1 + 1) (keyV i j) (keyV i j) = true := by simp [Instr.sameBits]
  simp [Instr.keyThatStays, h]

theorem cell_key : CellKey Try.prog 83 where
  check w em i j := cell_check w em 9998 i j
  equal w i j i' j' := cell_equal w 9998 i j i' j'
  stays w i j := cell_stays w i j
  plain := ⟨_, Try.underlying83⟩
end Go.Proofs.Ytibfdggcgioklah
