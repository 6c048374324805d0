/-
  No cell of these rows narrows 'for every input' (looked for: loops, veiled, ifaces, maps, wideKeys, modest, calm, conditions, laid).
  DERIVED. THE GIVEN ROWS OF THIS SEAT. 5 by the template 'for every input the law returns true; each argument reads behind the call as it read before'; 0 by the template 'total and deterministic' (their statements: YtndfacmfjilbkahTotals.lean).
  GIVEN WITH THE SEED: the statements are not yours to turn. If you find one false, say at which input.
  Laid BY PROGRAM, IN A SANDBOX (cutbox-rows.mjs): the forced cells as the released guide's own fill.sh prints them over the translation 5b88c5522fd3d41c… (all of the seat's roots in one cut). By AI agents, Wed Nov 11 2026. No macro, syntax, notation, axiom, sorry.
-/
import Derived.Test.YtndfacmfjilbkahChecked
import GoSem.Claim
import GoSem.ClaimJoined
import GoSem.ClaimMapViews
import Derived.JoinedTies
import Derived.KernelRfl
namespace Go.Proofs.Ytndfacmfjilbkah
/- THE CELL 'sum', in the pinned program and in every row, IS THE sha256 OF THE DUMP (.gsa) THAT YtndfacmfjilbkahProg.lean LOADS. Nothing in Lean hashes anything: it is a label: what it is worth is what the hold of that sum in a sandbox is worth. -/
noncomputable def Try.pinned : Pinned := { name := "ytndfacmfjilbkah", sum := "5b88c5522fd3d41c6f8bbf6d529c1254ad46294f958e394552e81b8ac4e3c4c1", checked := Try.checked }
namespace Rows
def none {H : Type} : Left H := { results := [], args := [] }

/-- 'laws.FnExactFlyPathOk': WHATEVER THE INPUT: true; the input reads as it did. -/
def fnExactFlyPathOkSpec : ChangeSpec := { name := "fnExactFlyPathOk", fn := fun _ => fun
  | [d] => { results := [.lit (.bool true)], args := [d] }
  | _ => none }
def fnExactFlyPathOkRow : OpenClaim := { program := "ytndfacmfjilbkah", sum := "5b88c5522fd3d41c6f8bbf6d529c1254ad46294f958e394552e81b8ac4e3c4c1", func := "loop.example/laplink/laws.FnExactFlyPathOk", spec := "fnExactFlyPathOk", unfollowed := true, recurses := true, plainKeys := false, apart := false }
def FnExactFlyPathOkSaid : Prop := fnExactFlyPathOkRow.holds Try.pinned (OpenSpec.ofChange fnExactFlyPathOkSpec)

/-- ITS FALSE NEIGHBOUR: 'it returns false'. Refute it at one input. -/
def fnExactFlyPathOkWrong : ChangeSpec := { name := "fnExactFlyPathOk", fn := fun _ => fun
  | [d] => { results := [.lit (.bool false)], args := [d] }
  | _ => none }
def FnExactFlyPathOkWrongFalsely : Prop := fnExactFlyPathOkRow.holds Try.pinned (OpenSpec.ofChange fnExactFlyPathOkWrong)

/-- 'laws.FnExactFlyLawful': WHATEVER THE INPUT: true; the input reads as it did. -/
def fnExactFlyLawfulSpec : ChangeSpec := { name := "fnExactFlyLawful", fn := fun _ => fun
  | [d1, d2] => { results := [.lit (.bool true)], args := [d1, d2] }
  | _ => none }
def fnExactFlyLawfulRow : OpenClaim := { program := "ytndfacmfjilbkah", sum := "5b88c5522fd3d41c6f8bbf6d529c1254ad46294f958e394552e81b8ac4e3c4c1", func := "loop.example/laplink/laws.FnExactFlyLawful", spec := "fnExactFlyLawful", unfollowed := true, recurses := true, plainKeys := false, apart := false }
def FnExactFlyLawfulSaid : Prop := fnExactFlyLawfulRow.holds Try.pinned (OpenSpec.ofChange fnExactFlyLawfulSpec)

/-- ITS FALSE NEIGHBOUR: 'it returns false'. Refute it at one input. -/
def fnExactFlyLawfulWrong : ChangeSpec := { name := "fnExactFlyLawful", fn := fun _ => fun
  | [d1, d2] => { results := [.lit (.bool false)], args := [d1, d2] }
  | _ => none }
def FnExactFlyLawfulWrongFalsely : Prop := fnExactFlyLawfulRow.holds Try.pinned (OpenSpec.ofChange fnExactFlyLawfulWrong)

/-- 'laws.FnExactFlySpans': WHATEVER THE INPUT: true; the input reads as it did. -/
def fnExactFlySpansSpec : ChangeSpec := { name := "fnExactFlySpans", fn := fun _ => fun
  | [d] => { results := [.lit (.bool true)], args := [d] }
  | _ => none }
def fnExactFlySpansRow : OpenClaim := { program := "ytndfacmfjilbkah", sum := "5b88c5522fd3d41c6f8bbf6d529c1254ad46294f958e394552e81b8ac4e3c4c1", func := "loop.example/laplink/laws.FnExactFlySpans", spec := "fnExactFlySpans", unfollowed := true, recurses := true, plainKeys := false, apart := false }
def FnExactFlySpansSaid : Prop := fnExactFlySpansRow.holds Try.pinned (OpenSpec.ofChange fnExactFlySpansSpec)

/-- ITS FALSE NEIGHBOUR: 'it returns false'. Refute it at one input. -/
def fnExactFlySpansWrong : ChangeSpec := { name := "fnExactFlySpans", fn := fun _ => fun
  | [d] => { results := [.lit (.bool false)], args := [d] }
  | _ => none }
def FnExactFlySpansWrongFalsely : Prop := fnExactFlySpansRow.holds Try.pinned (OpenSpec.ofChange fnExactFlySpansWrong)

/-- 'laws.FnExactFlyWithin': WHATEVER THE INPUT: true; the input reads as it did. -/
def fnExactFlyWithinSpec : ChangeSpec := { name := "fnExactFlyWithin", fn := fun _ => fun
  | [d1, d2, d3, d4, d5] => { results := [.lit (.bool true)], args := [d1, d2, d3, d4, d5] }
  | _ => none }
def fnExactFlyWithinRow : OpenClaim := { program := "ytndfacmfjilbkah", sum := "5b88c5522fd3d41c6f8bbf6d529c1254ad46294f958e394552e81b8ac4e3c4c1", func := "loop.example/laplink/laws.FnExactFlyWithin", spec := "fnExactFlyWithin", plainKeys := false, apart := false }
def FnExactFlyWithinSaid : Prop := fnExactFlyWithinRow.holds Try.pinned (OpenSpec.ofChange fnExactFlyWithinSpec)

/-- ITS FALSE NEIGHBOUR: 'it returns false'. Refute it at one input. -/
def fnExactFlyWithinWrong : ChangeSpec := { name := "fnExactFlyWithin", fn := fun _ => fun
  | [d1, d2, d3, d4, d5] => { results := [.lit (.bool false)], args := [d1, d2, d3, d4, d5] }
  | _ => none }
def FnExactFlyWithinWrongFalsely : Prop := fnExactFlyWithinRow.holds Try.pinned (OpenSpec.ofChange fnExactFlyWithinWrong)

/-- 'laws.FnExactFlySmaller': WHATEVER THE INPUT: true; the input reads as it did. -/
def fnExactFlySmallerSpec : ChangeSpec := { name := "fnExactFlySmaller", fn := fun _ => fun
  | [d1, d2] => { results := [.lit (.bool true)], args := [d1, d2] }
  | _ => none }
def fnExactFlySmallerRow : OpenClaim := { program := "ytndfacmfjilbkah", sum := "5b88c5522fd3d41c6f8bbf6d529c1254ad46294f958e394552e81b8ac4e3c4c1", func := "loop.example/laplink/laws.FnExactFlySmaller", spec := "fnExactFlySmaller", plainKeys := false, apart := false }
def FnExactFlySmallerSaid : Prop := fnExactFlySmallerRow.holds Try.pinned (OpenSpec.ofChange fnExactFlySmallerSpec)

/-- ITS FALSE NEIGHBOUR: 'it returns false'. Refute it at one input. -/
def fnExactFlySmallerWrong : ChangeSpec := { name := "fnExactFlySmaller", fn := fun _ => fun
  | [d1, d2] => { results := [.lit (.bool false)], args := [d1, d2] }
  | _ => none }
def FnExactFlySmallerWrongFalsely : Prop := fnExactFlySmallerRow.holds Try.pinned (OpenSpec.ofChange fnExactFlySmallerWrong)

/- THE SECOND FORM. 'bulk': how many values and letters a reading holds, each counted each time it is reached (what is shared counts as often as it is met; a slice's spare places count too). A statement '..UptoSaid' is the law's where the arguments, and the package variables that the reading takes, are together of bulk at most 1048576: NARROWER than '..Said'. Prove '..Said' where nothing that the law and all that it calls make is longer than what came in: it says more and counts as full. Else prove '..UptoSaid'. A law counts once. -/
mutual
def uptoBulk {H : Type} : DataW H → Nat
  | .lit (.string bytes) => bytes.length + 1
  | .lit _ => 1
  | .nil => 1
  | .ptr d => uptoBulk d + 1
  | .slice elems spare => uptoBulkAll elems + uptoBulkAll spare + 1
  | .agg parts => uptoBulkAll parts + 1
  | .iface _ d => uptoBulk d + 1
  | .map entries => uptoBulkEntries entries + 1
  | .held _ => 1
def uptoBulkAll {H : Type} : List (DataW H) → Nat
  | [] => 0
  | d :: r => uptoBulk d + uptoBulkAll r
def uptoBulkEntries {H : Type} : List (Lit × DataW H) → Nat
  | [] => 0
  | x :: r => uptoBulkEntry x + uptoBulkEntries r
def uptoBulkEntry {H : Type} : Lit × DataW H → Nat
  | (.string bytes, d) => bytes.length + uptoBulk d + 1
  | (_, d) => uptoBulk d + 1
 end
def uptoSmall : (H : Type) → List (DataW H) → Bool := fun _ ds => decide (uptoBulkAll ds ≤ 1048576)
def OpenSpec.upto (s : _root_.Go.ChangeSpec) : _root_.Go.OpenSpec := { _root_.Go.OpenSpec.ofChange s with cond := some uptoSmall }

/-- 'laws.FnExactFlyPathOk', WHERE WHAT IT READS IS OF BULK AT MOST 1048576: true; the input reads as it did. -/
def fnExactFlyPathOkUptoRow : OpenClaim := { program := "ytndfacmfjilbkah", sum := "5b88c5522fd3d41c6f8bbf6d529c1254ad46294f958e394552e81b8ac4e3c4c1", func := "loop.example/laplink/laws.FnExactFlyPathOk", spec := "fnExactFlyPathOk", unfollowed := true, recurses := true, plainKeys := false, apart := false, narrowed := true }
def FnExactFlyPathOkUptoSaid : Prop := fnExactFlyPathOkUptoRow.holds Try.pinned (OpenSpec.upto fnExactFlyPathOkSpec)

/-- 'laws.FnExactFlyLawful', WHERE WHAT IT READS IS OF BULK AT MOST 1048576: true; the input reads as it did. -/
def fnExactFlyLawfulUptoRow : OpenClaim := { program := "ytndfacmfjilbkah", sum := "5b88c5522fd3d41c6f8bbf6d529c1254ad46294f958e394552e81b8ac4e3c4c1", func := "loop.example/laplink/laws.FnExactFlyLawful", spec := "fnExactFlyLawful", unfollowed := true, recurses := true, plainKeys := false, apart := false, narrowed := true }
def FnExactFlyLawfulUptoSaid : Prop := fnExactFlyLawfulUptoRow.holds Try.pinned (OpenSpec.upto fnExactFlyLawfulSpec)

/-- 'laws.FnExactFlySpans', WHERE WHAT IT READS IS OF BULK AT MOST 1048576: true; the input reads as it did. -/
def fnExactFlySpansUptoRow : OpenClaim := { program := "ytndfacmfjilbkah", sum := "5b88c5522fd3d41c6f8bbf6d529c1254ad46294f958e394552e81b8ac4e3c4c1", func := "loop.example/laplink/laws.FnExactFlySpans", spec := "fnExactFlySpans", unfollowed := true, recurses := true, plainKeys := false, apart := false, narrowed := true }
def FnExactFlySpansUptoSaid : Prop := fnExactFlySpansUptoRow.holds Try.pinned (OpenSpec.upto fnExactFlySpansSpec)

/-- 'laws.FnExactFlyWithin', WHERE WHAT IT READS IS OF BULK AT MOST 1048576: true; the input reads as it did. -/
def fnExactFlyWithinUptoRow : OpenClaim := { program := "ytndfacmfjilbkah", sum := "5b88c5522fd3d41c6f8bbf6d529c1254ad46294f958e394552e81b8ac4e3c4c1", func := "loop.example/laplink/laws.FnExactFlyWithin", spec := "fnExactFlyWithin", plainKeys := false, apart := false, narrowed := true }
def FnExactFlyWithinUptoSaid : Prop := fnExactFlyWithinUptoRow.holds Try.pinned (OpenSpec.upto fnExactFlyWithinSpec)

/-- 'laws.FnExactFlySmaller', WHERE WHAT IT READS IS OF BULK AT MOST 1048576: true; the input reads as it did. -/
def fnExactFlySmallerUptoRow : OpenClaim := { program := "ytndfacmfjilbkah", sum := "5b88c5522fd3d41c6f8bbf6d529c1254ad46294f958e394552e81b8ac4e3c4c1", func := "loop.example/laplink/laws.FnExactFlySmaller", spec := "fnExactFlySmaller", plainKeys := false, apart := false, narrowed := true }
def FnExactFlySmallerUptoSaid : Prop := fnExactFlySmallerUptoRow.holds Try.pinned (OpenSpec.upto fnExactFlySmallerSpec)

end Rows
end Go.Proofs.Ytndfacmfjilbkah
