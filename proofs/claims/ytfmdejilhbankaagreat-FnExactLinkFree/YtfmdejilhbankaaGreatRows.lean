/-
  No cell of these rows narrows 'for every input' (looked for: loops, veiled, ifaces, maps, wideKeys, modest, calm, conditions, laid).
  DERIVED. THE GIVEN ROWS OF THIS SEAT. 3 by the template 'for every input the law returns true; each argument reads behind the call as it read before'; 0 by the template 'total and deterministic' (their statements: YtfmdejilhbankaaGreatTotals.lean).
  GIVEN WITH THE SEED: the statements are not yours to turn. If you find one false, say at which input.
  Laid BY PROGRAM, IN A SANDBOX (cutbox-rows.mjs): the forced cells as the released guide's own fill.sh prints them over the translation 659908ca955b4e36… (all of the seat's roots in one cut). By AI agents, Wed Nov 11 2026. No macro, syntax, notation, axiom, sorry.
-/
import Derived.Test.YtfmdejilhbankaaGreatChecked
import GoSem.Claim
import GoSem.ClaimJoined
import GoSem.ClaimMapViews
import Derived.JoinedTies
import Derived.KernelRfl
namespace Go.Proofs.YtfmdejilhbankaaGreat
/- THE CELL 'sum', in the pinned program and in every row, IS THE sha256 OF THE DUMP (.gsa) THAT YtfmdejilhbankaaGreatProg.lean LOADS. Nothing in Lean hashes anything: it is a label: what it is worth is what the hold of that sum in a sandbox is worth. -/
noncomputable def Tryz.pinned : Pinned := { name := "ytfmdejilhbankaagreat", sum := "659908ca955b4e36003899e98939560ac586a7af174a210850a9ab1427101e67", checked := Tryz.checked }
namespace Rows
def none {H : Type} : Left H := { results := [], args := [] }

/-- 'laws.FnExactLinkBookOk': WHATEVER THE INPUT: true; the input reads as it did. -/
def fnExactLinkBookOkSpec : ChangeSpec := { name := "fnExactLinkBookOk", fn := fun _ => fun
  | [d1, d2] => { results := [.lit (.bool true)], args := [d1, d2] }
  | _ => none }
def fnExactLinkBookOkRow : OpenClaim := { program := "ytfmdejilhbankaagreat", sum := "659908ca955b4e36003899e98939560ac586a7af174a210850a9ab1427101e67", func := "loop.example/laplink/laws.FnExactLinkBookOk", spec := "fnExactLinkBookOk", unfollowed := true, recurses := true, apart := false }
def FnExactLinkBookOkSaid : Prop := fnExactLinkBookOkRow.holds Tryz.pinned (OpenSpec.ofChange fnExactLinkBookOkSpec)

/-- ITS FALSE NEIGHBOUR: 'it returns false'. Refute it at one input. -/
def fnExactLinkBookOkWrong : ChangeSpec := { name := "fnExactLinkBookOk", fn := fun _ => fun
  | [d1, d2] => { results := [.lit (.bool false)], args := [d1, d2] }
  | _ => none }
def FnExactLinkBookOkWrongFalsely : Prop := fnExactLinkBookOkRow.holds Tryz.pinned (OpenSpec.ofChange fnExactLinkBookOkWrong)

/-- 'laws.FnExactLinkFree': WHATEVER THE INPUT: true; the input reads as it did. -/
def fnExactLinkFreeSpec : ChangeSpec := { name := "fnExactLinkFree", fn := fun _ => fun
  | [d1, d2, d3, d4] => { results := [.lit (.bool true)], args := [d1, d2, d3, d4] }
  | _ => none }
def fnExactLinkFreeRow : OpenClaim := { program := "ytfmdejilhbankaagreat", sum := "659908ca955b4e36003899e98939560ac586a7af174a210850a9ab1427101e67", func := "loop.example/laplink/laws.FnExactLinkFree", spec := "fnExactLinkFree", unfollowed := true, recurses := true, apart := false }
def FnExactLinkFreeSaid : Prop := fnExactLinkFreeRow.holds Tryz.pinned (OpenSpec.ofChange fnExactLinkFreeSpec)

/-- ITS FALSE NEIGHBOUR: 'it returns false'. Refute it at one input. -/
def fnExactLinkFreeWrong : ChangeSpec := { name := "fnExactLinkFree", fn := fun _ => fun
  | [d1, d2, d3, d4] => { results := [.lit (.bool false)], args := [d1, d2, d3, d4] }
  | _ => none }
def FnExactLinkFreeWrongFalsely : Prop := fnExactLinkFreeRow.holds Tryz.pinned (OpenSpec.ofChange fnExactLinkFreeWrong)

/-- 'laws.FnExactLinkPast': WHATEVER THE INPUT: true; the input reads as it did. -/
def fnExactLinkPastSpec : ChangeSpec := { name := "fnExactLinkPast", fn := fun _ => fun
  | [d1, d2] => { results := [.lit (.bool true)], args := [d1, d2] }
  | _ => none }
def fnExactLinkPastRow : OpenClaim := { program := "ytfmdejilhbankaagreat", sum := "659908ca955b4e36003899e98939560ac586a7af174a210850a9ab1427101e67", func := "loop.example/laplink/laws.FnExactLinkPast", spec := "fnExactLinkPast", unfollowed := true, recurses := true, apart := false }
def FnExactLinkPastSaid : Prop := fnExactLinkPastRow.holds Tryz.pinned (OpenSpec.ofChange fnExactLinkPastSpec)

/-- ITS FALSE NEIGHBOUR: 'it returns false'. Refute it at one input. -/
def fnExactLinkPastWrong : ChangeSpec := { name := "fnExactLinkPast", fn := fun _ => fun
  | [d1, d2] => { results := [.lit (.bool false)], args := [d1, d2] }
  | _ => none }
def FnExactLinkPastWrongFalsely : Prop := fnExactLinkPastRow.holds Tryz.pinned (OpenSpec.ofChange fnExactLinkPastWrong)

/- THE SECOND FORM. 'bulk': how many values and letters a reading holds, each counted each time it is reached (what is shared counts as often as it is met; a slice's spare places count too). A statement '..UptoSaid' is the law's where the arguments, and the package variables that the reading takes, are together of bulk at most 1048576: NARROWER than '..Said'. Prove '..Said' where nothing that the law and all that it calls make is longer than what came in: it says more and counts as full. Else prove '..UptoSaid'. A law counts once. -/
mutual
def uptoBulk {H : Type} : DataW H → Nat
  | .lit (.string bytes) => bytes.length + 1
  | .lit _ => 1
  | .nil => 1
  | .ptr d => uptoBulk d + 1
  | .slice elems spare => uptoBulkAll elems + uptoBulkAll spare + 1
  | .agg parts => uptoBulkAll parts + 1
  | .iface _ d => uptoBulk d + 1
  | .map entries => uptoBulkEntries entries + 1
  | .held _ => 1
def uptoBulkAll {H : Type} : List (DataW H) → Nat
  | [] => 0
  | d :: r => uptoBulk d + uptoBulkAll r
def uptoBulkEntries {H : Type} : List (Lit × DataW H) → Nat
  | [] => 0
  | x :: r => uptoBulkEntry x + uptoBulkEntries r
def uptoBulkEntry {H : Type} : Lit × DataW H → Nat
  | (.string bytes, d) => bytes.length + uptoBulk d + 1
  | (_, d) => uptoBulk d + 1
 end
def uptoSmall : (H : Type) → List (DataW H) → Bool := fun _ ds => decide (uptoBulkAll ds ≤ 1048576)
def OpenSpec.upto (s : _root_.Go.ChangeSpec) : _root_.Go.OpenSpec := { _root_.Go.OpenSpec.ofChange s with cond := some uptoSmall }

/-- 'laws.FnExactLinkBookOk', WHERE WHAT IT READS IS OF BULK AT MOST 1048576: true; the input reads as it did. -/
def fnExactLinkBookOkUptoRow : OpenClaim := { program := "ytfmdejilhbankaagreat", sum := "659908ca955b4e36003899e98939560ac586a7af174a210850a9ab1427101e67", func := "loop.example/laplink/laws.FnExactLinkBookOk", spec := "fnExactLinkBookOk", unfollowed := true, recurses := true, apart := false, narrowed := true }
def FnExactLinkBookOkUptoSaid : Prop := fnExactLinkBookOkUptoRow.holds Tryz.pinned (OpenSpec.upto fnExactLinkBookOkSpec)

/-- 'laws.FnExactLinkFree', WHERE WHAT IT READS IS OF BULK AT MOST 1048576: true; the input reads as it did. -/
def fnExactLinkFreeUptoRow : OpenClaim := { program := "ytfmdejilhbankaagreat", sum := "659908ca955b4e36003899e98939560ac586a7af174a210850a9ab1427101e67", func := "loop.example/laplink/laws.FnExactLinkFree", spec := "fnExactLinkFree", unfollowed := true, recurses := true, apart := false, narrowed := true }
def FnExactLinkFreeUptoSaid : Prop := fnExactLinkFreeUptoRow.holds Tryz.pinned (OpenSpec.upto fnExactLinkFreeSpec)

/-- 'laws.FnExactLinkPast', WHERE WHAT IT READS IS OF BULK AT MOST 1048576: true; the input reads as it did. -/
def fnExactLinkPastUptoRow : OpenClaim := { program := "ytfmdejilhbankaagreat", sum := "659908ca955b4e36003899e98939560ac586a7af174a210850a9ab1427101e67", func := "loop.example/laplink/laws.FnExactLinkPast", spec := "fnExactLinkPast", unfollowed := true, recurses := true, apart := false, narrowed := true }
def FnExactLinkPastUptoSaid : Prop := fnExactLinkPastUptoRow.holds Tryz.pinned (OpenSpec.upto fnExactLinkPastSpec)

end Rows
end Go.Proofs.YtfmdejilhbankaaGreat
