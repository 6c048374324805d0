/-
  NARROWER THAN 'FOR EVERY INPUT', by the rows' own cells (each row's printed sentence says how): FnExactFlyRest: ifaces, laid · FnExactFlySeen: ifaces, laid · FnExactFlyMayTurn: ifaces, laid.
  DERIVED. THE GIVEN ROWS OF THIS SEAT. 3 by the template 'for every input the law returns true; each argument reads behind the call as it read before'; 0 by the template 'total and deterministic' (their statements: YtlcblcoodabpeaaDoorTotals.lean).
  GIVEN WITH THE SEED: the statements are not yours to turn. If you find one false, say at which input.
  Laid BY PROGRAM, IN A SANDBOX (cutbox-rows.mjs): the forced cells as the released guide's own fill.sh prints them over the translation 19a5e5eb16bdefac… (all of the seat's roots in one cut). By AI agents, Wed Nov 11 2026. No macro, syntax, notation, axiom, sorry.
-/
import Derived.Test.YtlcblcoodabpeaaDoorChecked
import GoSem.Claim
import GoSem.ClaimJoined
import GoSem.ClaimMapViews
import Derived.JoinedTies
import Derived.KernelRfl
namespace Go.Proofs.YtlcblcoodabpeaaDoor
/- THE CELL 'sum', in the pinned program and in every row, IS THE sha256 OF THE DUMP (.gsa) THAT YtlcblcoodabpeaaDoorProg.lean LOADS. Nothing in Lean hashes anything: it is a label: what it is worth is what the hold of that sum in a sandbox is worth. -/
noncomputable def Tryd.pinned : Pinned := { name := "ytlcblcoodabpeaadoor", sum := "19a5e5eb16bdefac616099e13806bf8879616c740f04a1bb3dbc41d76f1547f3", checked := Tryd.checked }
namespace Rows
def none {H : Type} : Left H := { results := [], args := [] }

/- WHAT THE LISTED PACKAGE-LEVEL VARIABLES READ AS WHEN THE CALL BEGINS. Each datum BY PROGRAM (the guide's laid-datum.mjs) off the statement by which the dump's own 'gosem.cut.vars' lays the variable. In a bare row this is a premise. The card (YtlcblcoodabpeaaDoorCards.lean) ties it to the program's text. -/
def laid_loop_example_laplink_impl_errNothingLeft {H : Type} : DataW H := .iface "*errors.errorString" (.ptr (.agg [.lit (.string [110, 111, 116, 104, 105, 110, 103, 32, 105, 115, 32, 108, 101, 102, 116, 32, 111, 102, 32, 116, 104, 101, 32, 112, 97, 116, 104])]))

/-- 'laws.FnExactFlyRest': WHATEVER THE INPUT: true; the input reads as it did. -/
def fnExactFlyRestSpec : ChangeSpec := { name := "fnExactFlyRest", vars := ["loop.example/laplink/impl.errNothingLeft"], fn := fun _ => fun
  | [d1, d2, d3, d4, g1] => { results := [.lit (.bool true)], args := [d1, d2, d3, d4], vars := [g1] }
  | _ => none }
def fnExactFlyRestRow : OpenClaim := { program := "ytlcblcoodabpeaadoor", sum := "19a5e5eb16bdefac616099e13806bf8879616c740f04a1bb3dbc41d76f1547f3", func := "loop.example/laplink/laws.FnExactFlyRest", spec := "fnExactFlyRest", inPlace := ["internal/reflectlite.TypeOf"], unfollowed := true, recurses := true, named := ["loop.example/laplink/impl.errNothingLeft"], ifaces := true, apart := false, laid := [("loop.example/laplink/impl.errNothingLeft", laid_loop_example_laplink_impl_errNothingLeft)] }
def FnExactFlyRestSaid : Prop := fnExactFlyRestRow.holds Tryd.pinned (OpenSpec.ofChange fnExactFlyRestSpec)

/-- ITS FALSE NEIGHBOUR: 'it returns false'. Refute it at one input. -/
def fnExactFlyRestWrong : ChangeSpec := { name := "fnExactFlyRest", vars := ["loop.example/laplink/impl.errNothingLeft"], fn := fun _ => fun
  | [d1, d2, d3, d4, g1] => { results := [.lit (.bool false)], args := [d1, d2, d3, d4], vars := [g1] }
  | _ => none }
def FnExactFlyRestWrongFalsely : Prop := fnExactFlyRestRow.holds Tryd.pinned (OpenSpec.ofChange fnExactFlyRestWrong)

/-- 'laws.FnExactFlySeen': WHATEVER THE INPUT: true; the input reads as it did. -/
def fnExactFlySeenSpec : ChangeSpec := { name := "fnExactFlySeen", vars := ["loop.example/laplink/impl.errNothingLeft"], fn := fun _ => fun
  | [d1, d2, d3, g1] => { results := [.lit (.bool true)], args := [d1, d2, d3], vars := [g1] }
  | _ => none }
def fnExactFlySeenRow : OpenClaim := { program := "ytlcblcoodabpeaadoor", sum := "19a5e5eb16bdefac616099e13806bf8879616c740f04a1bb3dbc41d76f1547f3", func := "loop.example/laplink/laws.FnExactFlySeen", spec := "fnExactFlySeen", inPlace := ["internal/reflectlite.TypeOf"], unfollowed := true, recurses := true, named := ["loop.example/laplink/impl.errNothingLeft"], ifaces := true, apart := false, laid := [("loop.example/laplink/impl.errNothingLeft", laid_loop_example_laplink_impl_errNothingLeft)] }
def FnExactFlySeenSaid : Prop := fnExactFlySeenRow.holds Tryd.pinned (OpenSpec.ofChange fnExactFlySeenSpec)

/-- ITS FALSE NEIGHBOUR: 'it returns false'. Refute it at one input. -/
def fnExactFlySeenWrong : ChangeSpec := { name := "fnExactFlySeen", vars := ["loop.example/laplink/impl.errNothingLeft"], fn := fun _ => fun
  | [d1, d2, d3, g1] => { results := [.lit (.bool false)], args := [d1, d2, d3], vars := [g1] }
  | _ => none }
def FnExactFlySeenWrongFalsely : Prop := fnExactFlySeenRow.holds Tryd.pinned (OpenSpec.ofChange fnExactFlySeenWrong)

/-- 'laws.FnExactFlyMayTurn': WHATEVER THE INPUT: true; the input reads as it did. -/
def fnExactFlyMayTurnSpec : ChangeSpec := { name := "fnExactFlyMayTurn", vars := ["loop.example/laplink/impl.errNothingLeft"], fn := fun _ => fun
  | [d1, d2, d3, d4, g1] => { results := [.lit (.bool true)], args := [d1, d2, d3, d4], vars := [g1] }
  | _ => none }
def fnExactFlyMayTurnRow : OpenClaim := { program := "ytlcblcoodabpeaadoor", sum := "19a5e5eb16bdefac616099e13806bf8879616c740f04a1bb3dbc41d76f1547f3", func := "loop.example/laplink/laws.FnExactFlyMayTurn", spec := "fnExactFlyMayTurn", inPlace := ["internal/reflectlite.TypeOf"], unfollowed := true, recurses := true, named := ["loop.example/laplink/impl.errNothingLeft"], ifaces := true, apart := false, laid := [("loop.example/laplink/impl.errNothingLeft", laid_loop_example_laplink_impl_errNothingLeft)] }
def FnExactFlyMayTurnSaid : Prop := fnExactFlyMayTurnRow.holds Tryd.pinned (OpenSpec.ofChange fnExactFlyMayTurnSpec)

/-- ITS FALSE NEIGHBOUR: 'it returns false'. Refute it at one input. -/
def fnExactFlyMayTurnWrong : ChangeSpec := { name := "fnExactFlyMayTurn", vars := ["loop.example/laplink/impl.errNothingLeft"], fn := fun _ => fun
  | [d1, d2, d3, d4, g1] => { results := [.lit (.bool false)], args := [d1, d2, d3, d4], vars := [g1] }
  | _ => none }
def FnExactFlyMayTurnWrongFalsely : Prop := fnExactFlyMayTurnRow.holds Tryd.pinned (OpenSpec.ofChange fnExactFlyMayTurnWrong)

/- THE SECOND FORM. 'bulk': how many values and letters a reading holds, each counted each time it is reached (what is shared counts as often as it is met; a slice's spare places count too). A statement '..UptoSaid' is the law's where the arguments, and the package variables that the reading takes, are together of bulk at most 1048576: NARROWER than '..Said'. Prove '..Said' where nothing that the law and all that it calls make is longer than what came in: it says more and counts as full. Else prove '..UptoSaid'. A law counts once. -/
mutual
def uptoBulk {H : Type} : DataW H → Nat
  | .lit (.string bytes) => bytes.length + 1
  | .lit _ => 1
  | .nil => 1
  | .ptr d => uptoBulk d + 1
  | .slice elems spare => uptoBulkAll elems + uptoBulkAll spare + 1
  | .agg parts => uptoBulkAll parts + 1
  | .iface _ d => uptoBulk d + 1
  | .map entries => uptoBulkEntries entries + 1
  | .held _ => 1
def uptoBulkAll {H : Type} : List (DataW H) → Nat
  | [] => 0
  | d :: r => uptoBulk d + uptoBulkAll r
def uptoBulkEntries {H : Type} : List (Lit × DataW H) → Nat
  | [] => 0
  | x :: r => uptoBulkEntry x + uptoBulkEntries r
def uptoBulkEntry {H : Type} : Lit × DataW H → Nat
  | (.string bytes, d) => bytes.length + uptoBulk d + 1
  | (_, d) => uptoBulk d + 1
 end
def uptoSmall : (H : Type) → List (DataW H) → Bool := fun _ ds => decide (uptoBulkAll ds ≤ 1048576)
def OpenSpec.upto (s : _root_.Go.ChangeSpec) : _root_.Go.OpenSpec := { _root_.Go.OpenSpec.ofChange s with cond := some uptoSmall }

/-- 'laws.FnExactFlyRest', WHERE WHAT IT READS IS OF BULK AT MOST 1048576: true; the input reads as it did. -/
def fnExactFlyRestUptoRow : OpenClaim := { program := "ytlcblcoodabpeaadoor", sum := "19a5e5eb16bdefac616099e13806bf8879616c740f04a1bb3dbc41d76f1547f3", func := "loop.example/laplink/laws.FnExactFlyRest", spec := "fnExactFlyRest", inPlace := ["internal/reflectlite.TypeOf"], unfollowed := true, recurses := true, named := ["loop.example/laplink/impl.errNothingLeft"], ifaces := true, apart := false, laid := [("loop.example/laplink/impl.errNothingLeft", laid_loop_example_laplink_impl_errNothingLeft)], narrowed := true }
def FnExactFlyRestUptoSaid : Prop := fnExactFlyRestUptoRow.holds Tryd.pinned (OpenSpec.upto fnExactFlyRestSpec)

/-- 'laws.FnExactFlySeen', WHERE WHAT IT READS IS OF BULK AT MOST 1048576: true; the input reads as it did. -/
def fnExactFlySeenUptoRow : OpenClaim := { program := "ytlcblcoodabpeaadoor", sum := "19a5e5eb16bdefac616099e13806bf8879616c740f04a1bb3dbc41d76f1547f3", func := "loop.example/laplink/laws.FnExactFlySeen", spec := "fnExactFlySeen", inPlace := ["internal/reflectlite.TypeOf"], unfollowed := true, recurses := true, named := ["loop.example/laplink/impl.errNothingLeft"], ifaces := true, apart := false, laid := [("loop.example/laplink/impl.errNothingLeft", laid_loop_example_laplink_impl_errNothingLeft)], narrowed := true }
def FnExactFlySeenUptoSaid : Prop := fnExactFlySeenUptoRow.holds Tryd.pinned (OpenSpec.upto fnExactFlySeenSpec)

/-- 'laws.FnExactFlyMayTurn', WHERE WHAT IT READS IS OF BULK AT MOST 1048576: true; the input reads as it did. -/
def fnExactFlyMayTurnUptoRow : OpenClaim := { program := "ytlcblcoodabpeaadoor", sum := "19a5e5eb16bdefac616099e13806bf8879616c740f04a1bb3dbc41d76f1547f3", func := "loop.example/laplink/laws.FnExactFlyMayTurn", spec := "fnExactFlyMayTurn", inPlace := ["internal/reflectlite.TypeOf"], unfollowed := true, recurses := true, named := ["loop.example/laplink/impl.errNothingLeft"], ifaces := true, apart := false, laid := [("loop.example/laplink/impl.errNothingLeft", laid_loop_example_laplink_impl_errNothingLeft)], narrowed := true }
def FnExactFlyMayTurnUptoSaid : Prop := fnExactFlyMayTurnUptoRow.holds Tryd.pinned (OpenSpec.upto fnExactFlyMayTurnSpec)

end Rows
end Go.Proofs.YtlcblcoodabpeaaDoor
