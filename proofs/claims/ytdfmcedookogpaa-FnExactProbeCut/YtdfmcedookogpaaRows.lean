/-
  No cell of these rows narrows 'for every input' (looked for: loops, veiled, ifaces, maps, wideKeys, modest, calm, conditions, laid).
  DERIVED. THE GIVEN ROWS OF THIS SEAT. 6 by the template 'for every input the law returns true; each argument reads behind the call as it read before'; 0 by the template 'total and deterministic' (their statements: YtdfmcedookogpaaTotals.lean).
  GIVEN WITH THE SEED: the statements are not yours to turn. If you find one false, say at which input.
  Laid BY PROGRAM, IN A SANDBOX (cutbox-rows.mjs): the forced cells as the released guide's own fill.sh prints them over the translation 2ec66759dc4af229… (all of the seat's roots in one cut). By AI agents, Wed Nov 11 2026. No macro, syntax, notation, axiom, sorry.
-/
import Derived.Test.YtdfmcedookogpaaChecked
import GoSem.Claim
import GoSem.ClaimJoined
import GoSem.ClaimMapViews
import Derived.JoinedTies
import Derived.KernelRfl
namespace Go.Proofs.Ytdfmcedookogpaa
/- THE CELL 'sum', in the pinned program and in every row, IS THE sha256 OF THE DUMP (.gsa) THAT YtdfmcedookogpaaProg.lean LOADS. Nothing in Lean hashes anything: it is a label: what it is worth is what the hold of that sum in a sandbox is worth. -/
noncomputable def Try.pinned : Pinned := { name := "ytdfmcedookogpaa", sum := "2ec66759dc4af229069365301528e0b11344864925f264375cb465109b7132ca", checked := Try.checked }
namespace Rows
def none {H : Type} : Left H := { results := [], args := [] }

/-- 'laws.FnExactProbeBoxOk': WHATEVER THE INPUT: true; the input reads as it did. -/
def fnExactProbeBoxOkSpec : ChangeSpec := { name := "fnExactProbeBoxOk", fn := fun _ => fun
  | [d] => { results := [.lit (.bool true)], args := [d] }
  | _ => none }
def fnExactProbeBoxOkRow : OpenClaim := { program := "ytdfmcedookogpaa", sum := "2ec66759dc4af229069365301528e0b11344864925f264375cb465109b7132ca", func := "loop.example/laplink/laws.FnExactProbeBoxOk", spec := "fnExactProbeBoxOk", apart := false }
def FnExactProbeBoxOkSaid : Prop := fnExactProbeBoxOkRow.holds Try.pinned (OpenSpec.ofChange fnExactProbeBoxOkSpec)

/-- ITS FALSE NEIGHBOUR: 'it returns false'. Refute it at one input. -/
def fnExactProbeBoxOkWrong : ChangeSpec := { name := "fnExactProbeBoxOk", fn := fun _ => fun
  | [d] => { results := [.lit (.bool false)], args := [d] }
  | _ => none }
def FnExactProbeBoxOkWrongFalsely : Prop := fnExactProbeBoxOkRow.holds Try.pinned (OpenSpec.ofChange fnExactProbeBoxOkWrong)

/-- 'laws.FnExactProbeClose': WHATEVER THE INPUT: true; the input reads as it did. -/
def fnExactProbeCloseSpec : ChangeSpec := { name := "fnExactProbeClose", fn := fun _ => fun
  | [d1, d2] => { results := [.lit (.bool true)], args := [d1, d2] }
  | _ => none }
def fnExactProbeCloseRow : OpenClaim := { program := "ytdfmcedookogpaa", sum := "2ec66759dc4af229069365301528e0b11344864925f264375cb465109b7132ca", func := "loop.example/laplink/laws.FnExactProbeClose", spec := "fnExactProbeClose", apart := false }
def FnExactProbeCloseSaid : Prop := fnExactProbeCloseRow.holds Try.pinned (OpenSpec.ofChange fnExactProbeCloseSpec)

/-- ITS FALSE NEIGHBOUR: 'it returns false'. Refute it at one input. -/
def fnExactProbeCloseWrong : ChangeSpec := { name := "fnExactProbeClose", fn := fun _ => fun
  | [d1, d2] => { results := [.lit (.bool false)], args := [d1, d2] }
  | _ => none }
def FnExactProbeCloseWrongFalsely : Prop := fnExactProbeCloseRow.holds Try.pinned (OpenSpec.ofChange fnExactProbeCloseWrong)

/-- 'laws.FnExactProbeTubeOk': WHATEVER THE INPUT: true; the input reads as it did. -/
def fnExactProbeTubeOkSpec : ChangeSpec := { name := "fnExactProbeTubeOk", fn := fun _ => fun
  | [d] => { results := [.lit (.bool true)], args := [d] }
  | _ => none }
def fnExactProbeTubeOkRow : OpenClaim := { program := "ytdfmcedookogpaa", sum := "2ec66759dc4af229069365301528e0b11344864925f264375cb465109b7132ca", func := "loop.example/laplink/laws.FnExactProbeTubeOk", spec := "fnExactProbeTubeOk", unfollowed := true, recurses := true, apart := false }
def FnExactProbeTubeOkSaid : Prop := fnExactProbeTubeOkRow.holds Try.pinned (OpenSpec.ofChange fnExactProbeTubeOkSpec)

/-- ITS FALSE NEIGHBOUR: 'it returns false'. Refute it at one input. -/
def fnExactProbeTubeOkWrong : ChangeSpec := { name := "fnExactProbeTubeOk", fn := fun _ => fun
  | [d] => { results := [.lit (.bool false)], args := [d] }
  | _ => none }
def FnExactProbeTubeOkWrongFalsely : Prop := fnExactProbeTubeOkRow.holds Try.pinned (OpenSpec.ofChange fnExactProbeTubeOkWrong)

/-- 'laws.FnExactProbeSkyOk': WHATEVER THE INPUT: true; the input reads as it did. -/
def fnExactProbeSkyOkSpec : ChangeSpec := { name := "fnExactProbeSkyOk", fn := fun _ => fun
  | [d] => { results := [.lit (.bool true)], args := [d] }
  | _ => none }
def fnExactProbeSkyOkRow : OpenClaim := { program := "ytdfmcedookogpaa", sum := "2ec66759dc4af229069365301528e0b11344864925f264375cb465109b7132ca", func := "loop.example/laplink/laws.FnExactProbeSkyOk", spec := "fnExactProbeSkyOk", unfollowed := true, recurses := true, apart := false }
def FnExactProbeSkyOkSaid : Prop := fnExactProbeSkyOkRow.holds Try.pinned (OpenSpec.ofChange fnExactProbeSkyOkSpec)

/-- ITS FALSE NEIGHBOUR: 'it returns false'. Refute it at one input. -/
def fnExactProbeSkyOkWrong : ChangeSpec := { name := "fnExactProbeSkyOk", fn := fun _ => fun
  | [d] => { results := [.lit (.bool false)], args := [d] }
  | _ => none }
def FnExactProbeSkyOkWrongFalsely : Prop := fnExactProbeSkyOkRow.holds Try.pinned (OpenSpec.ofChange fnExactProbeSkyOkWrong)

/-- 'laws.FnExactProbeCut': WHATEVER THE INPUT: true; the input reads as it did. -/
def fnExactProbeCutSpec : ChangeSpec := { name := "fnExactProbeCut", fn := fun _ => fun
  | [d1, d2] => { results := [.lit (.bool true)], args := [d1, d2] }
  | _ => none }
def fnExactProbeCutRow : OpenClaim := { program := "ytdfmcedookogpaa", sum := "2ec66759dc4af229069365301528e0b11344864925f264375cb465109b7132ca", func := "loop.example/laplink/laws.FnExactProbeCut", spec := "fnExactProbeCut", unfollowed := true, recurses := true, apart := false }
def FnExactProbeCutSaid : Prop := fnExactProbeCutRow.holds Try.pinned (OpenSpec.ofChange fnExactProbeCutSpec)

/-- ITS FALSE NEIGHBOUR: 'it returns false'. Refute it at one input. -/
def fnExactProbeCutWrong : ChangeSpec := { name := "fnExactProbeCut", fn := fun _ => fun
  | [d1, d2] => { results := [.lit (.bool false)], args := [d1, d2] }
  | _ => none }
def FnExactProbeCutWrongFalsely : Prop := fnExactProbeCutRow.holds Try.pinned (OpenSpec.ofChange fnExactProbeCutWrong)

/-- 'laws.FnExactProbeSmaller': WHATEVER THE INPUT: true; the input reads as it did. -/
def fnExactProbeSmallerSpec : ChangeSpec := { name := "fnExactProbeSmaller", fn := fun _ => fun
  | [d1, d2] => { results := [.lit (.bool true)], args := [d1, d2] }
  | _ => none }
def fnExactProbeSmallerRow : OpenClaim := { program := "ytdfmcedookogpaa", sum := "2ec66759dc4af229069365301528e0b11344864925f264375cb465109b7132ca", func := "loop.example/laplink/laws.FnExactProbeSmaller", spec := "fnExactProbeSmaller", unfollowed := true, recurses := true, apart := false }
def FnExactProbeSmallerSaid : Prop := fnExactProbeSmallerRow.holds Try.pinned (OpenSpec.ofChange fnExactProbeSmallerSpec)

/-- ITS FALSE NEIGHBOUR: 'it returns false'. Refute it at one input. -/
def fnExactProbeSmallerWrong : ChangeSpec := { name := "fnExactProbeSmaller", fn := fun _ => fun
  | [d1, d2] => { results := [.lit (.bool false)], args := [d1, d2] }
  | _ => none }
def FnExactProbeSmallerWrongFalsely : Prop := fnExactProbeSmallerRow.holds Try.pinned (OpenSpec.ofChange fnExactProbeSmallerWrong)

/- THE SECOND FORM. 'bulk': how many values and letters a reading holds, each counted each time it is reached (what is shared counts as often as it is met; a slice's spare places count too). A statement '..UptoSaid' is the law's where the arguments, and the package variables that the reading takes, are together of bulk at most 1048576: NARROWER than '..Said'. Prove '..Said' where nothing that the law and all that it calls make is longer than what came in: it says more and counts as full. Else prove '..UptoSaid'. A law counts once. -/
mutual
def uptoBulk {H : Type} : DataW H → Nat
  | .lit (.string bytes) => bytes.length + 1
  | .lit _ => 1
  | .nil => 1
  | .ptr d => uptoBulk d + 1
  | .slice elems spare => uptoBulkAll elems + uptoBulkAll spare + 1
  | .agg parts => uptoBulkAll parts + 1
  | .iface _ d => uptoBulk d + 1
  | .map entries => uptoBulkEntries entries + 1
  | .held _ => 1
def uptoBulkAll {H : Type} : List (DataW H) → Nat
  | [] => 0
  | d :: r => uptoBulk d + uptoBulkAll r
def uptoBulkEntries {H : Type} : List (Lit × DataW H) → Nat
  | [] => 0
  | x :: r => uptoBulkEntry x + uptoBulkEntries r
def uptoBulkEntry {H : Type} : Lit × DataW H → Nat
  | (.string bytes, d) => bytes.length + uptoBulk d + 1
  | (_, d) => uptoBulk d + 1
 end
def uptoSmall : (H : Type) → List (DataW H) → Bool := fun _ ds => decide (uptoBulkAll ds ≤ 1048576)
def OpenSpec.upto (s : _root_.Go.ChangeSpec) : _root_.Go.OpenSpec := { _root_.Go.OpenSpec.ofChange s with cond := some uptoSmall }

/-- 'laws.FnExactProbeBoxOk', WHERE WHAT IT READS IS OF BULK AT MOST 1048576: true; the input reads as it did. -/
def fnExactProbeBoxOkUptoRow : OpenClaim := { program := "ytdfmcedookogpaa", sum := "2ec66759dc4af229069365301528e0b11344864925f264375cb465109b7132ca", func := "loop.example/laplink/laws.FnExactProbeBoxOk", spec := "fnExactProbeBoxOk", apart := false, narrowed := true }
def FnExactProbeBoxOkUptoSaid : Prop := fnExactProbeBoxOkUptoRow.holds Try.pinned (OpenSpec.upto fnExactProbeBoxOkSpec)

/-- 'laws.FnExactProbeClose', WHERE WHAT IT READS IS OF BULK AT MOST 1048576: true; the input reads as it did. -/
def fnExactProbeCloseUptoRow : OpenClaim := { program := "ytdfmcedookogpaa", sum := "2ec66759dc4af229069365301528e0b11344864925f264375cb465109b7132ca", func := "loop.example/laplink/laws.FnExactProbeClose", spec := "fnExactProbeClose", apart := false, narrowed := true }
def FnExactProbeCloseUptoSaid : Prop := fnExactProbeCloseUptoRow.holds Try.pinned (OpenSpec.upto fnExactProbeCloseSpec)

/-- 'laws.FnExactProbeTubeOk', WHERE WHAT IT READS IS OF BULK AT MOST 1048576: true; the input reads as it did. -/
def fnExactProbeTubeOkUptoRow : OpenClaim := { program := "ytdfmcedookogpaa", sum := "2ec66759dc4af229069365301528e0b11344864925f264375cb465109b7132ca", func := "loop.example/laplink/laws.FnExactProbeTubeOk", spec := "fnExactProbeTubeOk", unfollowed := true, recurses := true, apart := false, narrowed := true }
def FnExactProbeTubeOkUptoSaid : Prop := fnExactProbeTubeOkUptoRow.holds Try.pinned (OpenSpec.upto fnExactProbeTubeOkSpec)

/-- 'laws.FnExactProbeSkyOk', WHERE WHAT IT READS IS OF BULK AT MOST 1048576: true; the input reads as it did. -/
def fnExactProbeSkyOkUptoRow : OpenClaim := { program := "ytdfmcedookogpaa", sum := "2ec66759dc4af229069365301528e0b11344864925f264375cb465109b7132ca", func := "loop.example/laplink/laws.FnExactProbeSkyOk", spec := "fnExactProbeSkyOk", unfollowed := true, recurses := true, apart := false, narrowed := true }
def FnExactProbeSkyOkUptoSaid : Prop := fnExactProbeSkyOkUptoRow.holds Try.pinned (OpenSpec.upto fnExactProbeSkyOkSpec)

/-- 'laws.FnExactProbeCut', WHERE WHAT IT READS IS OF BULK AT MOST 1048576: true; the input reads as it did. -/
def fnExactProbeCutUptoRow : OpenClaim := { program := "ytdfmcedookogpaa", sum := "2ec66759dc4af229069365301528e0b11344864925f264375cb465109b7132ca", func := "loop.example/laplink/laws.FnExactProbeCut", spec := "fnExactProbeCut", unfollowed := true, recurses := true, apart := false, narrowed := true }
def FnExactProbeCutUptoSaid : Prop := fnExactProbeCutUptoRow.holds Try.pinned (OpenSpec.upto fnExactProbeCutSpec)

/-- 'laws.FnExactProbeSmaller', WHERE WHAT IT READS IS OF BULK AT MOST 1048576: true; the input reads as it did. -/
def fnExactProbeSmallerUptoRow : OpenClaim := { program := "ytdfmcedookogpaa", sum := "2ec66759dc4af229069365301528e0b11344864925f264375cb465109b7132ca", func := "loop.example/laplink/laws.FnExactProbeSmaller", spec := "fnExactProbeSmaller", unfollowed := true, recurses := true, apart := false, narrowed := true }
def FnExactProbeSmallerUptoSaid : Prop := fnExactProbeSmallerUptoRow.holds Try.pinned (OpenSpec.upto fnExactProbeSmallerSpec)

end Rows
end Go.Proofs.Ytdfmcedookogpaa
