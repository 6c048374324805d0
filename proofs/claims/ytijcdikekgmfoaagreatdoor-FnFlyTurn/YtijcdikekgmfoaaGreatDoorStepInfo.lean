/- Steps as the program lays them. -/
import Derived.Test.YtijcdikekgmfoaaGreatDoorRows
import Derived.Test.YtijcdikekgmfoaaGreatDoorData
import Derived.WalkKit
import Derived.WalkSpells
namespace Go.Proofs.YtijcdikekgmfoaaGreatDoor
open Go.RowKit

theorem step_info : (Tryz.prog.info? 44).map (fun i => (i.zero, i.size, i.bytes)) = some (some (.agg #[.int .i64 0, .int .i64 0, .int .i64 0, .int .i64 0, .int .i64 0, .int .i64 0, .bool false]), 7, 56) := by kernel_rfl

theorem step_size7 : (Tryz.prog.info? 44).map (·.size) = some 7 := by kernel_rfl
theorem step_size (s : Stp) : (Tryz.prog.info? 44).map (·.size) = some (Array.size #[Value.int .i64 s.x, .int .i64 s.y, .int .i64 s.lo, .int .i64 s.hi, .int .i64 s.fr, .int .i64 s.by_, .bool s.ho]) := step_size7
/-- A step stored whole. -/
theorem store_step {ops : Array Oper} {rest : List Oper} {op : Oper} {a : Act} {w : World} {Q : Exit → Act → World → Prop} (hgd : op.guard = none) (x y : Operand) (ho : op.op = .store 44 x y)
    (b o : Nat) (s : Stp) (hx : a.eval x = .pointer (some ⟨b, o, none⟩)) (hy : a.eval y = .agg #[.int .i64 s.x, .int .i64 s.y, .int .i64 s.lo, .int .i64 s.hi, .int .i64 s.fr, .int .i64 s.by_, .bool s.ho])
    (ht : w.there b o 7) (h : wpList Tryz.prog ops Q rest (a.put op.dst undef) (w.setCells b o s.cells)) : wpList Tryz.prog ops Q (op :: rest) a w :=
  wpList_store_mid hgd 44 x y ho b o _ hx hy ht (step_size s) s.one h
end Go.Proofs.YtijcdikekgmfoaaGreatDoor
