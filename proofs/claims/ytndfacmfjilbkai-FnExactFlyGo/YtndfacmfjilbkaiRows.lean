/-
  No cell of these rows narrows 'for every input' (looked for: loops, veiled, ifaces, maps, wideKeys, modest, calm, conditions, laid).
  DERIVED. THE GIVEN ROWS OF THIS SEAT. 3 by the template 'for every input the law returns true; each argument reads behind the call as it read before'; 0 by the template 'total and deterministic' (their statements: YtndfacmfjilbkaiTotals.lean).
  GIVEN WITH THE SEED: the statements are not yours to turn. If you find one false, say at which input.
  Laid BY PROGRAM, IN A SANDBOX (cutbox-rows.mjs): the forced cells as the released guide's own fill.sh prints them over the translation f65458732bd84b05… (all of the seat's roots in one cut). By AI agents, Wed Nov 11 2026. No macro, syntax, notation, axiom, sorry.
-/
import Derived.Test.YtndfacmfjilbkaiChecked
import GoSem.Claim
import GoSem.ClaimJoined
import GoSem.ClaimMapViews
import Derived.JoinedTies
import Derived.KernelRfl
namespace Go.Proofs.Ytndfacmfjilbkai
/- THE CELL 'sum', in the pinned program and in every row, IS THE sha256 OF THE DUMP (.gsa) THAT YtndfacmfjilbkaiProg.lean LOADS. Nothing in Lean hashes anything: it is a label: what it is worth is what the hold of that sum in a sandbox is worth. -/
noncomputable def Try.pinned : Pinned := { name := "ytndfacmfjilbkai", sum := "f65458732bd84b0515d21906b7586d19b51166410862a931b8bb053d366d07c3", checked := Try.checked }
namespace Rows
def none {H : Type} : Left H := { results := [], args := [] }

/-- 'laws.FnExactFlyNext': WHATEVER THE INPUT: true; the input reads as it did. -/
def fnExactFlyNextSpec : ChangeSpec := { name := "fnExactFlyNext", fn := fun _ => fun
  | [d1, d2] => { results := [.lit (.bool true)], args := [d1, d2] }
  | _ => none }
def fnExactFlyNextRow : OpenClaim := { program := "ytndfacmfjilbkai", sum := "f65458732bd84b0515d21906b7586d19b51166410862a931b8bb053d366d07c3", func := "loop.example/laplink/laws.FnExactFlyNext", spec := "fnExactFlyNext", unfollowed := true, recurses := true, apart := false }
def FnExactFlyNextSaid : Prop := fnExactFlyNextRow.holds Try.pinned (OpenSpec.ofChange fnExactFlyNextSpec)

/-- ITS FALSE NEIGHBOUR: 'it returns false'. Refute it at one input. -/
def fnExactFlyNextWrong : ChangeSpec := { name := "fnExactFlyNext", fn := fun _ => fun
  | [d1, d2] => { results := [.lit (.bool false)], args := [d1, d2] }
  | _ => none }
def FnExactFlyNextWrongFalsely : Prop := fnExactFlyNextRow.holds Try.pinned (OpenSpec.ofChange fnExactFlyNextWrong)

/-- 'laws.FnExactFlyGo': WHATEVER THE INPUT: true; the input reads as it did. -/
def fnExactFlyGoSpec : ChangeSpec := { name := "fnExactFlyGo", fn := fun _ => fun
  | [d1, d2, d3] => { results := [.lit (.bool true)], args := [d1, d2, d3] }
  | _ => none }
def fnExactFlyGoRow : OpenClaim := { program := "ytndfacmfjilbkai", sum := "f65458732bd84b0515d21906b7586d19b51166410862a931b8bb053d366d07c3", func := "loop.example/laplink/laws.FnExactFlyGo", spec := "fnExactFlyGo", unfollowed := true, recurses := true, apart := false }
def FnExactFlyGoSaid : Prop := fnExactFlyGoRow.holds Try.pinned (OpenSpec.ofChange fnExactFlyGoSpec)

/-- ITS FALSE NEIGHBOUR: 'it returns false'. Refute it at one input. -/
def fnExactFlyGoWrong : ChangeSpec := { name := "fnExactFlyGo", fn := fun _ => fun
  | [d1, d2, d3] => { results := [.lit (.bool false)], args := [d1, d2, d3] }
  | _ => none }
def FnExactFlyGoWrongFalsely : Prop := fnExactFlyGoRow.holds Try.pinned (OpenSpec.ofChange fnExactFlyGoWrong)

/-- 'laws.FnExactFlyMayTurn': WHATEVER THE INPUT: true; the input reads as it did. -/
def fnExactFlyMayTurnSpec : ChangeSpec := { name := "fnExactFlyMayTurn", fn := fun _ => fun
  | [d1, d2, d3, d4] => { results := [.lit (.bool true)], args := [d1, d2, d3, d4] }
  | _ => none }
def fnExactFlyMayTurnRow : OpenClaim := { program := "ytndfacmfjilbkai", sum := "f65458732bd84b0515d21906b7586d19b51166410862a931b8bb053d366d07c3", func := "loop.example/laplink/laws.FnExactFlyMayTurn", spec := "fnExactFlyMayTurn", apart := false }
def FnExactFlyMayTurnSaid : Prop := fnExactFlyMayTurnRow.holds Try.pinned (OpenSpec.ofChange fnExactFlyMayTurnSpec)

/-- ITS FALSE NEIGHBOUR: 'it returns false'. Refute it at one input. -/
def fnExactFlyMayTurnWrong : ChangeSpec := { name := "fnExactFlyMayTurn", fn := fun _ => fun
  | [d1, d2, d3, d4] => { results := [.lit (.bool false)], args := [d1, d2, d3, d4] }
  | _ => none }
def FnExactFlyMayTurnWrongFalsely : Prop := fnExactFlyMayTurnRow.holds Try.pinned (OpenSpec.ofChange fnExactFlyMayTurnWrong)

/- THE SECOND FORM. 'bulk': how many values and letters a reading holds, each counted each time it is reached (what is shared counts as often as it is met; a slice's spare places count too). A statement '..UptoSaid' is the law's where the arguments, and the package variables that the reading takes, are together of bulk at most 1048576: NARROWER than '..Said'. Prove '..Said' where nothing that the law and all that it calls make is longer than what came in: it says more and counts as full. Else prove '..UptoSaid'. A law counts once. -/
mutual
def uptoBulk {H : Type} : DataW H → Nat
  | .lit (.string bytes) => bytes.length + 1
  | .lit _ => 1
  | .nil => 1
  | .ptr d => uptoBulk d + 1
  | .slice elems spare => uptoBulkAll elems + uptoBulkAll spare + 1
  | .agg parts => uptoBulkAll parts + 1
  | .iface _ d => uptoBulk d + 1
  | .map entries => uptoBulkEntries entries + 1
  | .held _ => 1
def uptoBulkAll {H : Type} : List (DataW H) → Nat
  | [] => 0
  | d :: r => uptoBulk d + uptoBulkAll r
def uptoBulkEntries {H : Type} : List (Lit × DataW H) → Nat
  | [] => 0
  | x :: r => uptoBulkEntry x + uptoBulkEntries r
def uptoBulkEntry {H : Type} : Lit × DataW H → Nat
  | (.string bytes, d) => bytes.length + uptoBulk d + 1
  | (_, d) => uptoBulk d + 1
 end
def uptoSmall : (H : Type) → List (DataW H) → Bool := fun _ ds => decide (uptoBulkAll ds ≤ 1048576)
def OpenSpec.upto (s : _root_.Go.ChangeSpec) : _root_.Go.OpenSpec := { _root_.Go.OpenSpec.ofChange s with cond := some uptoSmall }

/-- 'laws.FnExactFlyNext', WHERE WHAT IT READS IS OF BULK AT MOST 1048576: true; the input reads as it did. -/
def fnExactFlyNextUptoRow : OpenClaim := { program := "ytndfacmfjilbkai", sum := "f65458732bd84b0515d21906b7586d19b51166410862a931b8bb053d366d07c3", func := "loop.example/laplink/laws.FnExactFlyNext", spec := "fnExactFlyNext", unfollowed := true, recurses := true, apart := false, narrowed := true }
def FnExactFlyNextUptoSaid : Prop := fnExactFlyNextUptoRow.holds Try.pinned (OpenSpec.upto fnExactFlyNextSpec)

/-- 'laws.FnExactFlyGo', WHERE WHAT IT READS IS OF BULK AT MOST 1048576: true; the input reads as it did. -/
def fnExactFlyGoUptoRow : OpenClaim := { program := "ytndfacmfjilbkai", sum := "f65458732bd84b0515d21906b7586d19b51166410862a931b8bb053d366d07c3", func := "loop.example/laplink/laws.FnExactFlyGo", spec := "fnExactFlyGo", unfollowed := true, recurses := true, apart := false, narrowed := true }
def FnExactFlyGoUptoSaid : Prop := fnExactFlyGoUptoRow.holds Try.pinned (OpenSpec.upto fnExactFlyGoSpec)

/-- 'laws.FnExactFlyMayTurn', WHERE WHAT IT READS IS OF BULK AT MOST 1048576: true; the input reads as it did. -/
def fnExactFlyMayTurnUptoRow : OpenClaim := { program := "ytndfacmfjilbkai", sum := "f65458732bd84b0515d21906b7586d19b51166410862a931b8bb053d366d07c3", func := "loop.example/laplink/laws.FnExactFlyMayTurn", spec := "fnExactFlyMayTurn", apart := false, narrowed := true }
def FnExactFlyMayTurnUptoSaid : Prop := fnExactFlyMayTurnUptoRow.holds Try.pinned (OpenSpec.upto fnExactFlyMayTurnSpec)

end Rows
end Go.Proofs.Ytndfacmfjilbkai
