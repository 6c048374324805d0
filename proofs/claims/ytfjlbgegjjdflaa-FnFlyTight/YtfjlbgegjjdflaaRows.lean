/-
  No cell of these rows narrows 'for every input' (looked for: loops, veiled, ifaces, maps, wideKeys, modest, calm, conditions, laid).
  DERIVED. THE GIVEN ROWS OF THIS SEAT. 3 by the template 'for every input the law returns true; each argument reads behind the call as it read before'; 0 by the template 'total and deterministic' (their statements: YtfjlbgegjjdflaaTotals.lean).
  GIVEN WITH THE SEED: the statements are not yours to turn. If you find one false, say at which input.
  Laid BY PROGRAM, IN A SANDBOX (cutbox-rows.mjs): the forced cells as the released guide's own fill.sh prints them over the translation 813a00e51ce54284… (all of the seat's roots in one cut). By AI agents, Wed Nov 11 2026. No macro, syntax, notation, axiom, sorry.
-/
import Derived.Test.YtfjlbgegjjdflaaChecked
import GoSem.Claim
import GoSem.ClaimJoined
import GoSem.ClaimMapViews
import Derived.JoinedTies
import Derived.KernelRfl
namespace Go.Proofs.Ytfjlbgegjjdflaa
/- THE CELL 'sum', in the pinned program and in every row, IS THE sha256 OF THE DUMP (.gsa) THAT YtfjlbgegjjdflaaProg.lean LOADS. Nothing in Lean hashes anything: it is a label: what it is worth is what the hold of that sum in a sandbox is worth. -/
noncomputable def Try.pinned : Pinned := { name := "ytfjlbgegjjdflaa", sum := "813a00e51ce54284b16b846aef3e29b2b9da2329d9b8909fd8e4a39c2ecec97b", checked := Try.checked }
namespace Rows
def none {H : Type} : Left H := { results := [], args := [] }

/-- 'laws.FnFlySpans': WHATEVER THE INPUT: true; the input reads as it did. -/
def fnFlySpansSpec : ChangeSpec := { name := "fnFlySpans", fn := fun _ => fun
  | [d] => { results := [.lit (.bool true)], args := [d] }
  | _ => none }
def fnFlySpansRow : OpenClaim := { program := "ytfjlbgegjjdflaa", sum := "813a00e51ce54284b16b846aef3e29b2b9da2329d9b8909fd8e4a39c2ecec97b", func := "loop.example/laplink/laws.FnFlySpans", spec := "fnFlySpans", unfollowed := true, recurses := true, apart := false }
def FnFlySpansSaid : Prop := fnFlySpansRow.holds Try.pinned (OpenSpec.ofChange fnFlySpansSpec)

/-- ITS FALSE NEIGHBOUR: 'it returns false'. Refute it at one input. -/
def fnFlySpansWrong : ChangeSpec := { name := "fnFlySpans", fn := fun _ => fun
  | [d] => { results := [.lit (.bool false)], args := [d] }
  | _ => none }
def FnFlySpansWrongFalsely : Prop := fnFlySpansRow.holds Try.pinned (OpenSpec.ofChange fnFlySpansWrong)

/-- 'laws.FnFlyTight': WHATEVER THE INPUT: true; the input reads as it did. -/
def fnFlyTightSpec : ChangeSpec := { name := "fnFlyTight", fn := fun _ => fun
  | [d] => { results := [.lit (.bool true)], args := [d] }
  | _ => none }
def fnFlyTightRow : OpenClaim := { program := "ytfjlbgegjjdflaa", sum := "813a00e51ce54284b16b846aef3e29b2b9da2329d9b8909fd8e4a39c2ecec97b", func := "loop.example/laplink/laws.FnFlyTight", spec := "fnFlyTight", unfollowed := true, recurses := true, apart := false }
def FnFlyTightSaid : Prop := fnFlyTightRow.holds Try.pinned (OpenSpec.ofChange fnFlyTightSpec)

/-- ITS FALSE NEIGHBOUR: 'it returns false'. Refute it at one input. -/
def fnFlyTightWrong : ChangeSpec := { name := "fnFlyTight", fn := fun _ => fun
  | [d] => { results := [.lit (.bool false)], args := [d] }
  | _ => none }
def FnFlyTightWrongFalsely : Prop := fnFlyTightRow.holds Try.pinned (OpenSpec.ofChange fnFlyTightWrong)

/-- 'laws.FnFlyNext': WHATEVER THE INPUT: true; the input reads as it did. -/
def fnFlyNextSpec : ChangeSpec := { name := "fnFlyNext", fn := fun _ => fun
  | [d] => { results := [.lit (.bool true)], args := [d] }
  | _ => none }
def fnFlyNextRow : OpenClaim := { program := "ytfjlbgegjjdflaa", sum := "813a00e51ce54284b16b846aef3e29b2b9da2329d9b8909fd8e4a39c2ecec97b", func := "loop.example/laplink/laws.FnFlyNext", spec := "fnFlyNext", unfollowed := true, recurses := true, apart := false }
def FnFlyNextSaid : Prop := fnFlyNextRow.holds Try.pinned (OpenSpec.ofChange fnFlyNextSpec)

/-- ITS FALSE NEIGHBOUR: 'it returns false'. Refute it at one input. -/
def fnFlyNextWrong : ChangeSpec := { name := "fnFlyNext", fn := fun _ => fun
  | [d] => { results := [.lit (.bool false)], args := [d] }
  | _ => none }
def FnFlyNextWrongFalsely : Prop := fnFlyNextRow.holds Try.pinned (OpenSpec.ofChange fnFlyNextWrong)

/- THE SECOND FORM. 'bulk': how many values and letters a reading holds, each counted each time it is reached (what is shared counts as often as it is met; a slice's spare places count too). A statement '..UptoSaid' is the law's where the arguments, and the package variables that the reading takes, are together of bulk at most 1048576: NARROWER than '..Said'. Prove '..Said' where nothing that the law and all that it calls make is longer than what came in: it says more and counts as full. Else prove '..UptoSaid'. A law counts once. -/
mutual
def uptoBulk {H : Type} : DataW H → Nat
  | .lit (.string bytes) => bytes.length + 1
  | .lit _ => 1
  | .nil => 1
  | .ptr d => uptoBulk d + 1
  | .slice elems spare => uptoBulkAll elems + uptoBulkAll spare + 1
  | .agg parts => uptoBulkAll parts + 1
  | .iface _ d => uptoBulk d + 1
  | .map entries => uptoBulkEntries entries + 1
  | .held _ => 1
def uptoBulkAll {H : Type} : List (DataW H) → Nat
  | [] => 0
  | d :: r => uptoBulk d + uptoBulkAll r
def uptoBulkEntries {H : Type} : List (Lit × DataW H) → Nat
  | [] => 0
  | x :: r => uptoBulkEntry x + uptoBulkEntries r
def uptoBulkEntry {H : Type} : Lit × DataW H → Nat
  | (.string bytes, d) => bytes.length + uptoBulk d + 1
  | (_, d) => uptoBulk d + 1
 end
def uptoSmall : (H : Type) → List (DataW H) → Bool := fun _ ds => decide (uptoBulkAll ds ≤ 1048576)
def OpenSpec.upto (s : _root_.Go.ChangeSpec) : _root_.Go.OpenSpec := { _root_.Go.OpenSpec.ofChange s with cond := some uptoSmall }

/-- 'laws.FnFlySpans', WHERE WHAT IT READS IS OF BULK AT MOST 1048576: true; the input reads as it did. -/
def fnFlySpansUptoRow : OpenClaim := { program := "ytfjlbgegjjdflaa", sum := "813a00e51ce54284b16b846aef3e29b2b9da2329d9b8909fd8e4a39c2ecec97b", func := "loop.example/laplink/laws.FnFlySpans", spec := "fnFlySpans", unfollowed := true, recurses := true, apart := false, narrowed := true }
def FnFlySpansUptoSaid : Prop := fnFlySpansUptoRow.holds Try.pinned (OpenSpec.upto fnFlySpansSpec)

/-- 'laws.FnFlyTight', WHERE WHAT IT READS IS OF BULK AT MOST 1048576: true; the input reads as it did. -/
def fnFlyTightUptoRow : OpenClaim := { program := "ytfjlbgegjjdflaa", sum := "813a00e51ce54284b16b846aef3e29b2b9da2329d9b8909fd8e4a39c2ecec97b", func := "loop.example/laplink/laws.FnFlyTight", spec := "fnFlyTight", unfollowed := true, recurses := true, apart := false, narrowed := true }
def FnFlyTightUptoSaid : Prop := fnFlyTightUptoRow.holds Try.pinned (OpenSpec.upto fnFlyTightSpec)

/-- 'laws.FnFlyNext', WHERE WHAT IT READS IS OF BULK AT MOST 1048576: true; the input reads as it did. -/
def fnFlyNextUptoRow : OpenClaim := { program := "ytfjlbgegjjdflaa", sum := "813a00e51ce54284b16b846aef3e29b2b9da2329d9b8909fd8e4a39c2ecec97b", func := "loop.example/laplink/laws.FnFlyNext", spec := "fnFlyNext", unfollowed := true, recurses := true, apart := false, narrowed := true }
def FnFlyNextUptoSaid : Prop := fnFlyNextUptoRow.holds Try.pinned (OpenSpec.upto fnFlyNextSpec)

end Rows
end Go.Proofs.Ytfjlbgegjjdflaa
