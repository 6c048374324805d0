/- What kind of word a value says: the assertions of the type switch. -/
import Derived.WalkKit
import Derived.WalkSpells
import Derived.Stop.Asserts
import Derived.Test.YtfcobpaaeijkoaaRows
namespace Go.Proofs.Ytfcobpaaeijkoaa
open Go.RowKit

theorem as_yes {P : Program} {t : TypeId} {fs} (hu : P.underlying t = some (.struct fs)) (v : Value) (xT : TypeId) (w : World) : (Instr.typeAssert (.iface t v) xT t true).run P w = .ok (.tuple #[v, .bool true]) w := by
  simp [Instr.typeAssert, run_underlying hu]
theorem as_no {P : Program} {t t' : TypeId} {fs} {z : Value} (hu : P.underlying t' = some (.struct fs)) (hz : (P.info? t').map (·.zero) = some (some z)) (hne : t ≠ t') (v : Value) (xT : TypeId) (w : World) : (Instr.typeAssert (.iface t v) xT t' true).run P w = .ok (.tuple #[z, .bool false]) w := by
  cases hi : P.info? t' with
  | none => rw [hi] at hz; simp at hz
  | some j =>
    rw [hi] at hz
    simp at hz
    simp [Instr.typeAssert, run_underlying hu, hne, zeroValue, typeInfo, hi, hz]
theorem as_nil {P : Program} {t' : TypeId} {fs} {z : Value} (hu : P.underlying t' = some (.struct fs)) (hz : (P.info? t').map (·.zero) = some (some z)) (xT : TypeId) (w : World) : (Instr.typeAssert .nilIface xT t' true).run P w = .ok (.tuple #[z, .bool false]) w := by
  cases hi : P.info? t' with
  | none => rw [hi] at hz; simp at hz
  | some j =>
    rw [hi] at hz
    simp at hz
    simp [Instr.typeAssert, run_underlying hu, zeroValue, typeInfo, hi, hz]
theorem zero_1 : (Try.prog.info? 114).map (·.zero) = some (some (.agg #[.string ⟨#[]⟩, .int .i64 0, .int .i64 0, .int .i64 0, .slice none 0 0, .int .i64 0, .int .i64 0])) := by kernel_rfl
theorem zero_2 : (Try.prog.info? 88).map (·.zero) = some (some (.agg #[.string ⟨#[]⟩, .int .i64 0, .int .i64 0, .int .i64 0, .slice none 0 0, .int .i64 0, .int .i64 0])) := by kernel_rfl
theorem zero_3 : (Try.prog.info? 104).map (·.zero) = some (some (.agg #[.string ⟨#[]⟩, .int .i64 0])) := by kernel_rfl
theorem zero_4 : (Try.prog.info? 106).map (·.zero) = some (some (.agg #[.string ⟨#[]⟩, .int .i64 0])) := by kernel_rfl
theorem zero_5 : (Try.prog.info? 105).map (·.zero) = some (some (.agg #[.string ⟨#[]⟩, .int .i64 0])) := by kernel_rfl
theorem zero_6 : (Try.prog.info? 101).map (·.zero) = some (some (.agg #[.string ⟨#[]⟩, .int .i64 0])) := by kernel_rfl
theorem as_1_1 (v : Value) (xT : TypeId) (w : World) : (Instr.typeAssert (.iface 114 v) xT 114 true).run Try.prog w = .ok (.tuple #[v, .bool true]) w := as_yes Try.underlying114 v xT w
theorem as_1_2 (v : Value) (xT : TypeId) (w : World) : (Instr.typeAssert (.iface 114 v) xT 88 true).run Try.prog w = .ok (.tuple #[(.agg #[.string ⟨#[]⟩, .int .i64 0, .int .i64 0, .int .i64 0, .slice none 0 0, .int .i64 0, .int .i64 0]), .bool false]) w := as_no Try.underlying88 zero_2 (by decide) v xT w
theorem as_1_3 (v : Value) (xT : TypeId) (w : World) : (Instr.typeAssert (.iface 114 v) xT 104 true).run Try.prog w = .ok (.tuple #[(.agg #[.string ⟨#[]⟩, .int .i64 0]), .bool false]) w := as_no Try.underlying104 zero_3 (by decide) v xT w
theorem as_1_4 (v : Value) (xT : TypeId) (w : World) : (Instr.typeAssert (.iface 114 v) xT 106 true).run Try.prog w = .ok (.tuple #[(.agg #[.string ⟨#[]⟩, .int .i64 0]), .bool false]) w := as_no Try.underlying106 zero_4 (by decide) v xT w
theorem as_1_5 (v : Value) (xT : TypeId) (w : World) : (Instr.typeAssert (.iface 114 v) xT 105 true).run Try.prog w = .ok (.tuple #[(.agg #[.string ⟨#[]⟩, .int .i64 0]), .bool false]) w := as_no Try.underlying105 zero_5 (by decide) v xT w
theorem as_1_6 (v : Value) (xT : TypeId) (w : World) : (Instr.typeAssert (.iface 114 v) xT 101 true).run Try.prog w = .ok (.tuple #[(.agg #[.string ⟨#[]⟩, .int .i64 0]), .bool false]) w := as_no Try.underlying101 zero_6 (by decide) v xT w
theorem as_2_1 (v : Value) (xT : TypeId) (w : World) : (Instr.typeAssert (.iface 88 v) xT 114 true).run Try.prog w = .ok (.tuple #[(.agg #[.string ⟨#[]⟩, .int .i64 0, .int .i64 0, .int .i64 0, .slice none 0 0, .int .i64 0, .int .i64 0]), .bool false]) w := as_no Try.underlying114 zero_1 (by decide) v xT w
theorem as_2_2 (v : Value) (xT : TypeId) (w : World) : (Instr.typeAssert (.iface 88 v) xT 88 true).run Try.prog w = .ok (.tuple #[v, .bool true]) w := as_yes Try.underlying88 v xT w
theorem as_2_3 (v : Value) (xT : TypeId) (w : World) : (Instr.typeAssert (.iface 88 v) xT 104 true).run Try.prog w = .ok (.tuple #[(.agg #[.string ⟨#[]⟩, .int .i64 0]), .bool false]) w := as_no Try.underlying104 zero_3 (by decide) v xT w
theorem as_2_4 (v : Value) (xT : TypeId) (w : World) : (Instr.typeAssert (.iface 88 v) xT 106 true).run Try.prog w = .ok (.tuple #[(.agg #[.string ⟨#[]⟩, .int .i64 0]), .bool false]) w := as_no Try.underlying106 zero_4 (by decide) v xT w
theorem as_2_5 (v : Value) (xT : TypeId) (w : World) : (Instr.typeAssert (.iface 88 v) xT 105 true).run Try.prog w = .ok (.tuple #[(.agg #[.string ⟨#[]⟩, .int .i64 0]), .bool false]) w := as_no Try.underlying105 zero_5 (by decide) v xT w
theorem as_2_6 (v : Value) (xT : TypeId) (w : World) : (Instr.typeAssert (.iface 88 v) xT 101 true).run Try.prog w = .ok (.tuple #[(.agg #[.string ⟨#[]⟩, .int .i64 0]), .bool false]) w := as_no Try.underlying101 zero_6 (by decide) v xT w
theorem as_3_1 (v : Value) (xT : TypeId) (w : World) : (Instr.typeAssert (.iface 104 v) xT 114 true).run Try.prog w = .ok (.tuple #[(.agg #[.string ⟨#[]⟩, .int .i64 0, .int .i64 0, .int .i64 0, .slice none 0 0, .int .i64 0, .int .i64 0]), .bool false]) w := as_no Try.underlying114 zero_1 (by decide) v xT w
theorem as_3_2 (v : Value) (xT : TypeId) (w : World) : (Instr.typeAssert (.iface 104 v) xT 88 true).run Try.prog w = .ok (.tuple #[(.agg #[.string ⟨#[]⟩, .int .i64 0, .int .i64 0, .int .i64 0, .slice none 0 0, .int .i64 0, .int .i64 0]), .bool false]) w := as_no Try.underlying88 zero_2 (by decide) v xT w
theorem as_3_3 (v : Value) (xT : TypeId) (w : World) : (Instr.typeAssert (.iface 104 v) xT 104 true).run Try.prog w = .ok (.tuple #[v, .bool true]) w := as_yes Try.underlying104 v xT w
theorem as_3_4 (v : Value) (xT : TypeId) (w : World) : (Instr.typeAssert (.iface 104 v) xT 106 true).run Try.prog w = .ok (.tuple #[(.agg #[.string ⟨#[]⟩, .int .i64 0]), .bool false]) w := as_no Try.underlying106 zero_4 (by decide) v xT w
theorem as_3_5 (v : Value) (xT : TypeId) (w : World) : (Instr.typeAssert (.iface 104 v) xT 105 true).run Try.prog w = .ok (.tuple #[(.agg #[.string ⟨#[]⟩, .int .i64 0]), .bool false]) w := as_no Try.underlying105 zero_5 (by decide) v xT w
theorem as_3_6 (v : Value) (xT : TypeId) (w : World) : (Instr.typeAssert (.iface 104 v) xT 101 true).run Try.prog w = .ok (.tuple #[(.agg #[.string ⟨#[]⟩, .int .i64 0]), .bool false]) w := as_no Try.underlying101 zero_6 (by decide) v xT w
theorem as_4_1 (v : Value) (xT : TypeId) (w : World) : (Instr.typeAssert (.iface 106 v) xT 114 true).run Try.prog w = .ok (.tuple #[(.agg #[.string ⟨#[]⟩, .int .i64 0, .int .i64 0, .int .i64 0, .slice none 0 0, .int .i64 0, .int .i64 0]), .bool false]) w := as_no Try.underlying114 zero_1 (by decide) v xT w
theorem as_4_2 (v : Value) (xT : TypeId) (w : World) : (Instr.typeAssert (.iface 106 v) xT 88 true).run Try.prog w = .ok (.tuple #[(.agg #[.string ⟨#[]⟩, .int .i64 0, .int .i64 0, .int .i64 0, .slice none 0 0, .int .i64 0, .int .i64 0]), .bool false]) w := as_no Try.underlying88 zero_2 (by decide) v xT w
theorem as_4_3 (v : Value) (xT : TypeId) (w : World) : (Instr.typeAssert (.iface 106 v) xT 104 true).run Try.prog w = .ok (.tuple #[(.agg #[.string ⟨#[]⟩, .int .i64 0]), .bool false]) w := as_no Try.underlying104 zero_3 (by decide) v xT w
theorem as_4_4 (v : Value) (xT : TypeId) (w : World) : (Instr.typeAssert (.iface 106 v) xT 106 true).run Try.prog w = .ok (.tuple #[v, .bool true]) w := as_yes Try.underlying106 v xT w
theorem as_4_5 (v : Value) (xT : TypeId) (w : World) : (Instr.typeAssert (.iface 106 v) xT 105 true).run Try.prog w = .ok (.tuple #[(.agg #[.string ⟨#[]⟩, .int .i64 0]), .bool false]) w := as_no Try.underlying105 zero_5 (by decide) v xT w
theorem as_4_6 (v : Value) (xT : TypeId) (w : World) : (Instr.typeAssert (.iface 106 v) xT 101 true).run Try.prog w = .ok (.tuple #[(.agg #[.string ⟨#[]⟩, .int .i64 0]), .bool false]) w := as_no Try.underlying101 zero_6 (by decide) v xT w
theorem as_5_1 (v : Value) (xT : TypeId) (w : World) : (Instr.typeAssert (.iface 105 v) xT 114 true).run Try.prog w = .ok (.tuple #[(.agg #[.string ⟨#[]⟩, .int .i64 0, .int .i64 0, .int .i64 0, .slice none 0 0, .int .i64 0, .int .i64 0]), .bool false]) w := as_no Try.underlying114 zero_1 (by decide) v xT w
theorem as_5_2 (v : Value) (xT : TypeId) (w : World) : (Instr.typeAssert (.iface 105 v) xT 88 true).run Try.prog w = .ok (.tuple #[(.agg #[.string ⟨#[]⟩, .int .i64 0, .int .i64 0, .int .i64 0, .slice none 0 0, .int .i64 0, .int .i64 0]), .bool false]) w := as_no Try.underlying88 zero_2 (by decide) v xT w
theorem as_5_3 (v : Value) (xT : TypeId) (w : World) : (Instr.typeAssert (.iface 105 v) xT 104 true).run Try.prog w = .ok (.tuple #[(.agg #[.string ⟨#[]⟩, .int .i64 0]), .bool false]) w := as_no Try.underlying104 zero_3 (by decide) v xT w
theorem as_5_4 (v : Value) (xT : TypeId) (w : World) : (Instr.typeAssert (.iface 105 v) xT 106 true).run Try.prog w = .ok (.tuple #[(.agg #[.string ⟨#[]⟩, .int .i64 0]), .bool false]) w := as_no Try.underlying106 zero_4 (by decide) v xT w
theorem as_5_5 (v : Value) (xT : TypeId) (w : World) : (Instr.typeAssert (.iface 105 v) xT 105 true).run Try.prog w = .ok (.tuple #[v, .bool true]) w := as_yes Try.underlying105 v xT w
theorem as_5_6 (v : Value) (xT : TypeId) (w : World) : (Instr.typeAssert (.iface 105 v) xT 101 true).run Try.prog w = .ok (.tuple #[(.agg #[.string ⟨#[]⟩, .int .i64 0]), .bool false]) w := as_no Try.underlying101 zero_6 (by decide) v xT w
theorem as_6_1 (v : Value) (xT : TypeId) (w : World) : (Instr.typeAssert (.iface 101 v) xT 114 true).run Try.prog w = .ok (.tuple #[(.agg #[.string ⟨#[]⟩, .int .i64 0, .int .i64 0, .int .i64 0, .slice none 0 0, .int .i64 0, .int .i64 0]), .bool false]) w := as_no Try.underlying114 zero_1 (by decide) v xT w
theorem as_6_2 (v : Value) (xT : TypeId) (w : World) : (Instr.typeAssert (.iface 101 v) xT 88 true).run Try.prog w = .ok (.tuple #[(.agg #[.string ⟨#[]⟩, .int .i64 0, .int .i64 0, .int .i64 0, .slice none 0 0, .int .i64 0, .int .i64 0]), .bool false]) w := as_no Try.underlying88 zero_2 (by decide) v xT w
theorem as_6_3 (v : Value) (xT : TypeId) (w : World) : (Instr.typeAssert (.iface 101 v) xT 104 true).run Try.prog w = .ok (.tuple #[(.agg #[.string ⟨#[]⟩, .int .i64 0]), .bool false]) w := as_no Try.underlying104 zero_3 (by decide) v xT w
theorem as_6_4 (v : Value) (xT : TypeId) (w : World) : (Instr.typeAssert (.iface 101 v) xT 106 true).run Try.prog w = .ok (.tuple #[(.agg #[.string ⟨#[]⟩, .int .i64 0]), .bool false]) w := as_no Try.underlying106 zero_4 (by decide) v xT w
theorem as_6_5 (v : Value) (xT : TypeId) (w : World) : (Instr.typeAssert (.iface 101 v) xT 105 true).run Try.prog w = .ok (.tuple #[(.agg #[.string ⟨#[]⟩, .int .i64 0]), .bool false]) w := as_no Try.underlying105 zero_5 (by decide) v xT w
theorem as_6_6 (v : Value) (xT : TypeId) (w : World) : (Instr.typeAssert (.iface 101 v) xT 101 true).run Try.prog w = .ok (.tuple #[v, .bool true]) w := as_yes Try.underlying101 v xT w
theorem as_0_1 (xT : TypeId) (w : World) : (Instr.typeAssert .nilIface xT 114 true).run Try.prog w = .ok (.tuple #[(.agg #[.string ⟨#[]⟩, .int .i64 0, .int .i64 0, .int .i64 0, .slice none 0 0, .int .i64 0, .int .i64 0]), .bool false]) w := as_nil Try.underlying114 zero_1 xT w
theorem as_0_2 (xT : TypeId) (w : World) : (Instr.typeAssert .nilIface xT 88 true).run Try.prog w = .ok (.tuple #[(.agg #[.string ⟨#[]⟩, .int .i64 0, .int .i64 0, .int .i64 0, .slice none 0 0, .int .i64 0, .int .i64 0]), .bool false]) w := as_nil Try.underlying88 zero_2 xT w
theorem as_0_3 (xT : TypeId) (w : World) : (Instr.typeAssert .nilIface xT 104 true).run Try.prog w = .ok (.tuple #[(.agg #[.string ⟨#[]⟩, .int .i64 0]), .bool false]) w := as_nil Try.underlying104 zero_3 xT w
theorem as_0_4 (xT : TypeId) (w : World) : (Instr.typeAssert .nilIface xT 106 true).run Try.prog w = .ok (.tuple #[(.agg #[.string ⟨#[]⟩, .int .i64 0]), .bool false]) w := as_nil Try.underlying106 zero_4 xT w
theorem as_0_5 (xT : TypeId) (w : World) : (Instr.typeAssert .nilIface xT 105 true).run Try.prog w = .ok (.tuple #[(.agg #[.string ⟨#[]⟩, .int .i64 0]), .bool false]) w := as_nil Try.underlying105 zero_5 xT w
theorem as_0_6 (xT : TypeId) (w : World) : (Instr.typeAssert .nilIface xT 101 true).run Try.prog w = .ok (.tuple #[(.agg #[.string ⟨#[]⟩, .int .i64 0]), .bool false]) w := as_nil Try.underlying101 zero_6 xT w
end Go.Proofs.Ytfcobpaaeijkoaa
