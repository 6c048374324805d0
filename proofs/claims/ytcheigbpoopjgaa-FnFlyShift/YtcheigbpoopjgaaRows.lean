/-
  No cell of these rows narrows 'for every input' (looked for: loops, veiled, ifaces, maps, wideKeys, modest, calm, conditions, laid).
  DERIVED. THE GIVEN ROWS OF THIS SEAT. 3 by the template 'for every input the law returns true; each argument reads behind the call as it read before'; 0 by the template 'total and deterministic' (their statements: YtcheigbpoopjgaaTotals.lean).
  GIVEN WITH THE SEED: the statements are not yours to turn. If you find one false, say at which input.
  Laid BY PROGRAM, IN A SANDBOX (cutbox-rows.mjs): the forced cells as the released guide's own fill.sh prints them over the translation 598f77e99aaf1061… (all of the seat's roots in one cut). By AI agents, Wed Nov 11 2026. No macro, syntax, notation, axiom, sorry.
-/
import Derived.Test.YtcheigbpoopjgaaChecked
import GoSem.Claim
import GoSem.ClaimJoined
import GoSem.ClaimMapViews
import Derived.JoinedTies
import Derived.KernelRfl
namespace Go.Proofs.Ytcheigbpoopjgaa
/- THE CELL 'sum', in the pinned program and in every row, IS THE sha256 OF THE DUMP (.gsa) THAT YtcheigbpoopjgaaProg.lean LOADS. Nothing in Lean hashes anything: it is a label: what it is worth is what the hold of that sum in a sandbox is worth. -/
noncomputable def Try.pinned : Pinned := { name := "ytcheigbpoopjgaa", sum := "598f77e99aaf106168742fd4a67e112c26a278d970064e61b242a76c6aadcc1d", checked := Try.checked }
namespace Rows
def none {H : Type} : Left H := { results := [], args := [] }

/-- 'laws.FnFlySpans': WHATEVER THE INPUT: true; the input reads as it did. -/
def fnFlySpansSpec : ChangeSpec := { name := "fnFlySpans", fn := fun _ => fun
  | [d] => { results := [.lit (.bool true)], args := [d] }
  | _ => none }
def fnFlySpansRow : OpenClaim := { program := "ytcheigbpoopjgaa", sum := "598f77e99aaf106168742fd4a67e112c26a278d970064e61b242a76c6aadcc1d", func := "loop.example/laplink/laws.FnFlySpans", spec := "fnFlySpans", unfollowed := true, recurses := true, apart := false }
def FnFlySpansSaid : Prop := fnFlySpansRow.holds Try.pinned (OpenSpec.ofChange fnFlySpansSpec)

/-- ITS FALSE NEIGHBOUR: 'it returns false'. Refute it at one input. -/
def fnFlySpansWrong : ChangeSpec := { name := "fnFlySpans", fn := fun _ => fun
  | [d] => { results := [.lit (.bool false)], args := [d] }
  | _ => none }
def FnFlySpansWrongFalsely : Prop := fnFlySpansRow.holds Try.pinned (OpenSpec.ofChange fnFlySpansWrong)

/-- 'laws.FnFlyNext': WHATEVER THE INPUT: true; the input reads as it did. -/
def fnFlyNextSpec : ChangeSpec := { name := "fnFlyNext", fn := fun _ => fun
  | [d] => { results := [.lit (.bool true)], args := [d] }
  | _ => none }
def fnFlyNextRow : OpenClaim := { program := "ytcheigbpoopjgaa", sum := "598f77e99aaf106168742fd4a67e112c26a278d970064e61b242a76c6aadcc1d", func := "loop.example/laplink/laws.FnFlyNext", spec := "fnFlyNext", unfollowed := true, recurses := true, apart := false }
def FnFlyNextSaid : Prop := fnFlyNextRow.holds Try.pinned (OpenSpec.ofChange fnFlyNextSpec)

/-- ITS FALSE NEIGHBOUR: 'it returns false'. Refute it at one input. -/
def fnFlyNextWrong : ChangeSpec := { name := "fnFlyNext", fn := fun _ => fun
  | [d] => { results := [.lit (.bool false)], args := [d] }
  | _ => none }
def FnFlyNextWrongFalsely : Prop := fnFlyNextRow.holds Try.pinned (OpenSpec.ofChange fnFlyNextWrong)

/-- 'laws.FnFlyShift': WHATEVER THE INPUT: true; the input reads as it did. -/
def fnFlyShiftSpec : ChangeSpec := { name := "fnFlyShift", fn := fun _ => fun
  | [d] => { results := [.lit (.bool true)], args := [d] }
  | _ => none }
def fnFlyShiftRow : OpenClaim := { program := "ytcheigbpoopjgaa", sum := "598f77e99aaf106168742fd4a67e112c26a278d970064e61b242a76c6aadcc1d", func := "loop.example/laplink/laws.FnFlyShift", spec := "fnFlyShift", unfollowed := true, recurses := true, apart := false }
def FnFlyShiftSaid : Prop := fnFlyShiftRow.holds Try.pinned (OpenSpec.ofChange fnFlyShiftSpec)

/-- ITS FALSE NEIGHBOUR: 'it returns false'. Refute it at one input. -/
def fnFlyShiftWrong : ChangeSpec := { name := "fnFlyShift", fn := fun _ => fun
  | [d] => { results := [.lit (.bool false)], args := [d] }
  | _ => none }
def FnFlyShiftWrongFalsely : Prop := fnFlyShiftRow.holds Try.pinned (OpenSpec.ofChange fnFlyShiftWrong)

/- THE SECOND FORM. 'bulk': how many values and letters a reading holds, each counted each time it is reached (what is shared counts as often as it is met; a slice's spare places count too). A statement '..UptoSaid' is the law's where the arguments, and the package variables that the reading takes, are together of bulk at most 1048576: NARROWER than '..Said'. Prove '..Said' where nothing that the law and all that it calls make is longer than what came in: it says more and counts as full. Else prove '..UptoSaid'. A law counts once. -/
mutual
def uptoBulk {H : Type} : DataW H → Nat
  | .lit (.string bytes) => bytes.length + 1
  | .lit _ => 1
  | .nil => 1
  | .ptr d => uptoBulk d + 1
  | .slice elems spare => uptoBulkAll elems + uptoBulkAll spare + 1
  | .agg parts => uptoBulkAll parts + 1
  | .iface _ d => uptoBulk d + 1
  | .map entries => uptoBulkEntries entries + 1
  | .held _ => 1
def uptoBulkAll {H : Type} : List (DataW H) → Nat
  | [] => 0
  | d :: r => uptoBulk d + uptoBulkAll r
def uptoBulkEntries {H : Type} : List (Lit × DataW H) → Nat
  | [] => 0
  | x :: r => uptoBulkEntry x + uptoBulkEntries r
def uptoBulkEntry {H : Type} : Lit × DataW H → Nat
  | (.string bytes, d) => bytes.length + uptoBulk d + 1
  | (_, d) => uptoBulk d + 1
 end
def uptoSmall : (H : Type) → List (DataW H) → Bool := fun _ ds => decide (uptoBulkAll ds ≤ 1048576)
def OpenSpec.upto (s : _root_.Go.ChangeSpec) : _root_.Go.OpenSpec := { _root_.Go.OpenSpec.ofChange s with cond := some uptoSmall }

/-- 'laws.FnFlySpans', WHERE WHAT IT READS IS OF BULK AT MOST 1048576: true; the input reads as it did. -/
def fnFlySpansUptoRow : OpenClaim := { program := "ytcheigbpoopjgaa", sum := "598f77e99aaf106168742fd4a67e112c26a278d970064e61b242a76c6aadcc1d", func := "loop.example/laplink/laws.FnFlySpans", spec := "fnFlySpans", unfollowed := true, recurses := true, apart := false, narrowed := true }
def FnFlySpansUptoSaid : Prop := fnFlySpansUptoRow.holds Try.pinned (OpenSpec.upto fnFlySpansSpec)

/-- 'laws.FnFlyNext', WHERE WHAT IT READS IS OF BULK AT MOST 1048576: true; the input reads as it did. -/
def fnFlyNextUptoRow : OpenClaim := { program := "ytcheigbpoopjgaa", sum := "598f77e99aaf106168742fd4a67e112c26a278d970064e61b242a76c6aadcc1d", func := "loop.example/laplink/laws.FnFlyNext", spec := "fnFlyNext", unfollowed := true, recurses := true, apart := false, narrowed := true }
def FnFlyNextUptoSaid : Prop := fnFlyNextUptoRow.holds Try.pinned (OpenSpec.upto fnFlyNextSpec)

/-- 'laws.FnFlyShift', WHERE WHAT IT READS IS OF BULK AT MOST 1048576: true; the input reads as it did. -/
def fnFlyShiftUptoRow : OpenClaim := { program := "ytcheigbpoopjgaa", sum := "598f77e99aaf106168742fd4a67e112c26a278d970064e61b242a76c6aadcc1d", func := "loop.example/laplink/laws.FnFlyShift", spec := "fnFlyShift", unfollowed := true, recurses := true, apart := false, narrowed := true }
def FnFlyShiftUptoSaid : Prop := fnFlyShiftUptoRow.holds Try.pinned (OpenSpec.upto fnFlyShiftSpec)

end Rows
end Go.Proofs.Ytcheigbpoopjgaa
