/- errors.Is over the sentinel of what is left, by its contracts: of nil, and of an error that wraps it. -/
import Derived.Test.YtijcdikekgmfoaaGreatDoorData
import Derived.Test.YtijcdikekgmfoaaGreatDoorRows
import Derived.WalkKit
import Derived.WalkSpells
import Derived.LaidEql
import Derived.Stop.Asserts
import Derived.RowKitTokens
namespace Go.Proofs.YtijcdikekgmfoaaGreatDoor
open Go.RowKit Go.Extern.Stop Go.Stop Go.Extern

theorem isTypeOf (v : Value) (w : World) : (Extern.ReflectliteType.typeOf #[.iface 206 v]).run Tryz.prog w = .ok (.iface 178 (.agg #[.pointer (some ⟨1, 206, none⟩)])) w := by kernel_rfl
/-- What the model does at (rtype).Comparable. -/
def cmpEntry : Array Value → Sem Value := Extern.ReflectliteType.method fun t => do Extern.Rtype.noPackHeld "Comparable" t; pure (.bool (← typeInfo t).comparable)
theorem isComparable (w : World) : (cmpEntry #[.agg #[.pointer (some ⟨1, 206, none⟩)]]).run Tryz.prog w = .ok (.bool true) w := by kernel_rfl
theorem isMethodComparable (v : Value) (w : World) : (Go.method 341 178 v "Comparable").run Tryz.prog w = .ok (176, v) w := by kernel_rfl
theorem isComp : (Tryz.prog.info? 206).map (·.comparable) = some true := by kernel_rfl
theorem isSize : (Tryz.prog.info? 230).map (·.size) = some 1 := by kernel_rfl
theorem noIsN (v : Value) (xT : TypeId) (w : World) : (Instr.typeAssert (.iface 154 v) xT 180 true).run Tryz.prog w = .ok (.tuple #[.nilIface, .bool false]) w := run_typeAssert_lacksB Tryz.underlying180 (by kernel_rfl) (by kernel_rfl) v xT w
theorem hasUnwrapN (v : Value) (xT : TypeId) (w : World) : (Instr.typeAssert (.iface 154 v) xT 183 true).run Tryz.prog w = .ok (.tuple #[.iface 154 v, .bool true]) w := run_typeAssert_hasB Tryz.underlying183 (by kernel_rfl) v xT w
theorem methodUnwrap (v : Value) (w : World) : (Go.method 341 154 v "Unwrap").run Tryz.prog w = .ok (171, v) w := by kernel_rfl

/-- errors.Is(nil, x). -/
theorem is_nil (b : Addr) (w : World) :
    Calls Tryz.prog 105 #[.nilIface, .iface 206 (.pointer (some b))] w fun e w' => e = .returned (.bool false) ∧ w' = w := by
  have hn := run_eql_iface_nil_left (P := Tryz.prog) w 206 (.pointer (some b)) Tryz.underlying96
  go_enter Tryz.func105, Tryz.ntmps105
  go_wp2
  go_ret
  exact ⟨rfl, rfl⟩

set_option maxHeartbeats 4000000 in
set_option maxRecDepth 20000 in
/-- errors.Is(e, x), e a flyNothing, x what the variable holds: one Unwrap, then equal. -/
theorem is_nothing (str : ByteArray) (b : Addr) (w : World) (hg : w.cell? ⟨0, 0, none⟩ = some (.iface 206 (.pointer (some b)))) :
    Calls Tryz.prog 105 #[.iface 154 (.agg #[.string str]), .iface 206 (.pointer (some b))] w fun e w' => e = .returned (.bool true) ∧ Below w.heap.size w w' := by
  obtain ⟨i, hi, hcmp⟩ := Option.map_eq_some_iff.1 isComp
  obtain ⟨j, hj, hjs⟩ := Option.map_eq_some_iff.1 isSize
  have hT := @run_callFunc_extern Tryz.prog 121 _ Extern.ReflectliteType.typeOf Tryz.func121 (by kernel_rfl) (by kernel_rfl) (by kernel_rfl) (by kernel_rfl)
  have hC := @run_callFunc_extern Tryz.prog 176 _ cmpEntry Tryz.func176 (by kernel_rfl) (by kernel_rfl) (by kernel_rfl) (by kernel_rfl)
  have tT := isTypeOf
  have cT := isComparable
  have mR := isMethodComparable
  have nN := noIsN
  have uN := hasUnwrapN
  have mU := methodUnwrap
  have hlt : 0 < w.heap.size := by
    rcases Nat.eq_zero_or_pos w.heap.size with h0 | h
    · simp [World.cell?, h0] at hg
    · exact h
  have hg1 : (w.alloc (.cells #[.string str] 154)).cell? ⟨0, 0, none⟩ = some (.iface 206 (.pointer (some b))) := by
    rw [World.cell?_alloc_lt _ _ ⟨0, 0, none⟩ hlt]; exact hg
  have heq := run_eql_iface_ptr_same (P := Tryz.prog) (w.alloc (.cells #[.string str] 154)) b Tryz.underlying96 Tryz.underlying206 hi hcmp hj
  have hnil := run_eql_iface_nil_left (P := Tryz.prog) w 206 (.pointer (some b)) Tryz.underlying96
  have hty := run_eql_iface_types (P := Tryz.prog) 154 206 (.agg #[.string str]) (.pointer (some b)) Tryz.underlying96 (by decide) w
  go_enter Tryz.func105, Tryz.ntmps105
  go_wp2
  refine wp_loop_rounds 2 ?_
  rw [rounds_succ]
  go_wp2
  rw [rounds_succ]
  go_wp2
  go_ret
  exact ⟨rfl, (Below.refl _ _).alloc (Nat.le_refl _) _⟩
end Go.Proofs.YtijcdikekgmfoaaGreatDoor
