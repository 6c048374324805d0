/-
  NARROWER THAN 'FOR EVERY INPUT', by the rows' own cells (each row's printed sentence says how): FnFlyTop: ifaces, laid · FnFlyRest: ifaces, laid · FnFlyTurn: ifaces, laid.
  DERIVED. THE GIVEN ROWS OF THIS SEAT. 3 by the template 'for every input the law returns true; each argument reads behind the call as it read before'; 0 by the template 'total and deterministic' (their statements: YtijcdikekgmfoaaGreatDoorTotals.lean).
  GIVEN WITH THE SEED: the statements are not yours to turn. If you find one false, say at which input.
  Laid BY PROGRAM, IN A SANDBOX (cutbox-rows.mjs): the forced cells as the released guide's own fill.sh prints them over the translation f8c20a92e532cba7… (all of the seat's roots in one cut). By AI agents, Wed Nov 11 2026. No macro, syntax, notation, axiom, sorry.
-/
import Derived.Test.YtijcdikekgmfoaaGreatDoorChecked
import GoSem.Claim
import GoSem.ClaimJoined
import GoSem.ClaimMapViews
import Derived.JoinedTies
import Derived.KernelRfl
namespace Go.Proofs.YtijcdikekgmfoaaGreatDoor
/- THE CELL 'sum', in the pinned program and in every row, IS THE sha256 OF THE DUMP (.gsa) THAT YtijcdikekgmfoaaGreatDoorProg.lean LOADS. Nothing in Lean hashes anything: it is a label: what it is worth is what the hold of that sum in a sandbox is worth. -/
noncomputable def Tryz.pinned : Pinned := { name := "ytijcdikekgmfoaagreatdoor", sum := "f8c20a92e532cba7c224b28e200359f0dec7805cb9d8ea6eee4c45febd1c0423", checked := Tryz.checked }
namespace Rows
def none {H : Type} : Left H := { results := [], args := [] }

/- WHAT THE LISTED PACKAGE-LEVEL VARIABLES READ AS WHEN THE CALL BEGINS. Each datum BY PROGRAM (the guide's laid-datum.mjs) off the statement by which the dump's own 'gosem.cut.vars' lays the variable. In a bare row this is a premise. The card (YtijcdikekgmfoaaGreatDoorCards.lean) ties it to the program's text. -/
def laid_loop_example_laplink_impl_errNothingLeft {H : Type} : DataW H := .iface "*errors.errorString" (.ptr (.agg [.lit (.string [110, 111, 116, 104, 105, 110, 103, 32, 105, 115, 32, 108, 101, 102, 116, 32, 111, 102, 32, 116, 104, 101, 32, 112, 97, 116, 104])]))

/-- 'laws.FnFlyTop': WHATEVER THE INPUT: true; the input reads as it did. -/
def fnFlyTopSpec : ChangeSpec := { name := "fnFlyTop", vars := ["loop.example/laplink/impl.errNothingLeft"], fn := fun _ => fun
  | [d, g1] => { results := [.lit (.bool true)], args := [d], vars := [g1] }
  | _ => none }
def fnFlyTopRow : OpenClaim := { program := "ytijcdikekgmfoaagreatdoor", sum := "f8c20a92e532cba7c224b28e200359f0dec7805cb9d8ea6eee4c45febd1c0423", func := "loop.example/laplink/laws.FnFlyTop", spec := "fnFlyTop", inPlace := ["internal/reflectlite.TypeOf"], unfollowed := true, recurses := true, named := ["loop.example/laplink/impl.errNothingLeft"], ifaces := true, plainKeys := false, apart := false, laid := [("loop.example/laplink/impl.errNothingLeft", laid_loop_example_laplink_impl_errNothingLeft)] }
def FnFlyTopSaid : Prop := fnFlyTopRow.holds Tryz.pinned (OpenSpec.ofChange fnFlyTopSpec)

/-- ITS FALSE NEIGHBOUR: 'it returns false'. Refute it at one input. -/
def fnFlyTopWrong : ChangeSpec := { name := "fnFlyTop", vars := ["loop.example/laplink/impl.errNothingLeft"], fn := fun _ => fun
  | [d, g1] => { results := [.lit (.bool false)], args := [d], vars := [g1] }
  | _ => none }
def FnFlyTopWrongFalsely : Prop := fnFlyTopRow.holds Tryz.pinned (OpenSpec.ofChange fnFlyTopWrong)

/-- 'laws.FnFlyRest': WHATEVER THE INPUT: true; the input reads as it did. -/
def fnFlyRestSpec : ChangeSpec := { name := "fnFlyRest", vars := ["loop.example/laplink/impl.errNothingLeft"], fn := fun _ => fun
  | [d, g1] => { results := [.lit (.bool true)], args := [d], vars := [g1] }
  | _ => none }
def fnFlyRestRow : OpenClaim := { program := "ytijcdikekgmfoaagreatdoor", sum := "f8c20a92e532cba7c224b28e200359f0dec7805cb9d8ea6eee4c45febd1c0423", func := "loop.example/laplink/laws.FnFlyRest", spec := "fnFlyRest", inPlace := ["internal/reflectlite.TypeOf"], unfollowed := true, recurses := true, named := ["loop.example/laplink/impl.errNothingLeft"], ifaces := true, plainKeys := false, apart := false, laid := [("loop.example/laplink/impl.errNothingLeft", laid_loop_example_laplink_impl_errNothingLeft)] }
def FnFlyRestSaid : Prop := fnFlyRestRow.holds Tryz.pinned (OpenSpec.ofChange fnFlyRestSpec)

/-- ITS FALSE NEIGHBOUR: 'it returns false'. Refute it at one input. -/
def fnFlyRestWrong : ChangeSpec := { name := "fnFlyRest", vars := ["loop.example/laplink/impl.errNothingLeft"], fn := fun _ => fun
  | [d, g1] => { results := [.lit (.bool false)], args := [d], vars := [g1] }
  | _ => none }
def FnFlyRestWrongFalsely : Prop := fnFlyRestRow.holds Tryz.pinned (OpenSpec.ofChange fnFlyRestWrong)

/-- 'laws.FnFlyTurn': WHATEVER THE INPUT: true; the input reads as it did. -/
def fnFlyTurnSpec : ChangeSpec := { name := "fnFlyTurn", vars := ["loop.example/laplink/impl.errNothingLeft"], fn := fun _ => fun
  | [d, g1] => { results := [.lit (.bool true)], args := [d], vars := [g1] }
  | _ => none }
def fnFlyTurnRow : OpenClaim := { program := "ytijcdikekgmfoaagreatdoor", sum := "f8c20a92e532cba7c224b28e200359f0dec7805cb9d8ea6eee4c45febd1c0423", func := "loop.example/laplink/laws.FnFlyTurn", spec := "fnFlyTurn", inPlace := ["sync/atomic.LoadUint32", "(*internal/sync.Mutex).Lock", "internal/race.Disable", "sync/atomic.CompareAndSwapInt32", "internal/race.Enable", "internal/race.Acquire", "(*internal/sync.Mutex).lockSlow", "internal/sync.runtime_canSpin", "internal/sync.runtime_doSpin", "internal/sync.throw", "internal/sync.runtime_nanotime", "internal/sync.runtime_SemacquireMutex", "sync/atomic.AddInt32", "(*internal/sync.Mutex).Unlock", "internal/race.ReleaseMerge", "(*internal/sync.Mutex).unlockSlow", "internal/sync.fatal", "internal/sync.runtime_Semrelease", "sync/atomic.StoreUint32", "internal/reflectlite.TypeOf"], unfollowed := true, recurses := true, named := ["loop.example/laplink/impl.errNothingLeft"], ifaces := true, plainKeys := false, apart := false, laid := [("loop.example/laplink/impl.errNothingLeft", laid_loop_example_laplink_impl_errNothingLeft)] }
def FnFlyTurnSaid : Prop := fnFlyTurnRow.holds Tryz.pinned (OpenSpec.ofChange fnFlyTurnSpec)

/-- ITS FALSE NEIGHBOUR: 'it returns false'. Refute it at one input. -/
def fnFlyTurnWrong : ChangeSpec := { name := "fnFlyTurn", vars := ["loop.example/laplink/impl.errNothingLeft"], fn := fun _ => fun
  | [d, g1] => { results := [.lit (.bool false)], args := [d], vars := [g1] }
  | _ => none }
def FnFlyTurnWrongFalsely : Prop := fnFlyTurnRow.holds Tryz.pinned (OpenSpec.ofChange fnFlyTurnWrong)

/- THE SECOND FORM. 'bulk': how many values and letters a reading holds, each counted each time it is reached (what is shared counts as often as it is met; a slice's spare places count too). A statement '..UptoSaid' is the law's where the arguments, and the package variables that the reading takes, are together of bulk at most 1048576: NARROWER than '..Said'. Prove '..Said' where nothing that the law and all that it calls make is longer than what came in: it says more and counts as full. Else prove '..UptoSaid'. A law counts once. -/
mutual
def uptoBulk {H : Type} : DataW H → Nat
  | .lit (.string bytes) => bytes.length + 1
  | .lit _ => 1
  | .nil => 1
  | .ptr d => uptoBulk d + 1
  | .slice elems spare => uptoBulkAll elems + uptoBulkAll spare + 1
  | .agg parts => uptoBulkAll parts + 1
  | .iface _ d => uptoBulk d + 1
  | .map entries => uptoBulkEntries entries + 1
  | .held _ => 1
def uptoBulkAll {H : Type} : List (DataW H) → Nat
  | [] => 0
  | d :: r => uptoBulk d + uptoBulkAll r
def uptoBulkEntries {H : Type} : List (Lit × DataW H) → Nat
  | [] => 0
  | x :: r => uptoBulkEntry x + uptoBulkEntries r
def uptoBulkEntry {H : Type} : Lit × DataW H → Nat
  | (.string bytes, d) => bytes.length + uptoBulk d + 1
  | (_, d) => uptoBulk d + 1
 end
def uptoSmall : (H : Type) → List (DataW H) → Bool := fun _ ds => decide (uptoBulkAll ds ≤ 1048576)
def OpenSpec.upto (s : _root_.Go.ChangeSpec) : _root_.Go.OpenSpec := { _root_.Go.OpenSpec.ofChange s with cond := some uptoSmall }

/-- 'laws.FnFlyTop', WHERE WHAT IT READS IS OF BULK AT MOST 1048576: true; the input reads as it did. -/
def fnFlyTopUptoRow : OpenClaim := { program := "ytijcdikekgmfoaagreatdoor", sum := "f8c20a92e532cba7c224b28e200359f0dec7805cb9d8ea6eee4c45febd1c0423", func := "loop.example/laplink/laws.FnFlyTop", spec := "fnFlyTop", inPlace := ["internal/reflectlite.TypeOf"], unfollowed := true, recurses := true, named := ["loop.example/laplink/impl.errNothingLeft"], ifaces := true, plainKeys := false, apart := false, laid := [("loop.example/laplink/impl.errNothingLeft", laid_loop_example_laplink_impl_errNothingLeft)], narrowed := true }
def FnFlyTopUptoSaid : Prop := fnFlyTopUptoRow.holds Tryz.pinned (OpenSpec.upto fnFlyTopSpec)

/-- 'laws.FnFlyRest', WHERE WHAT IT READS IS OF BULK AT MOST 1048576: true; the input reads as it did. -/
def fnFlyRestUptoRow : OpenClaim := { program := "ytijcdikekgmfoaagreatdoor", sum := "f8c20a92e532cba7c224b28e200359f0dec7805cb9d8ea6eee4c45febd1c0423", func := "loop.example/laplink/laws.FnFlyRest", spec := "fnFlyRest", inPlace := ["internal/reflectlite.TypeOf"], unfollowed := true, recurses := true, named := ["loop.example/laplink/impl.errNothingLeft"], ifaces := true, plainKeys := false, apart := false, laid := [("loop.example/laplink/impl.errNothingLeft", laid_loop_example_laplink_impl_errNothingLeft)], narrowed := true }
def FnFlyRestUptoSaid : Prop := fnFlyRestUptoRow.holds Tryz.pinned (OpenSpec.upto fnFlyRestSpec)

/-- 'laws.FnFlyTurn', WHERE WHAT IT READS IS OF BULK AT MOST 1048576: true; the input reads as it did. -/
def fnFlyTurnUptoRow : OpenClaim := { program := "ytijcdikekgmfoaagreatdoor", sum := "f8c20a92e532cba7c224b28e200359f0dec7805cb9d8ea6eee4c45febd1c0423", func := "loop.example/laplink/laws.FnFlyTurn", spec := "fnFlyTurn", inPlace := ["sync/atomic.LoadUint32", "(*internal/sync.Mutex).Lock", "internal/race.Disable", "sync/atomic.CompareAndSwapInt32", "internal/race.Enable", "internal/race.Acquire", "(*internal/sync.Mutex).lockSlow", "internal/sync.runtime_canSpin", "internal/sync.runtime_doSpin", "internal/sync.throw", "internal/sync.runtime_nanotime", "internal/sync.runtime_SemacquireMutex", "sync/atomic.AddInt32", "(*internal/sync.Mutex).Unlock", "internal/race.ReleaseMerge", "(*internal/sync.Mutex).unlockSlow", "internal/sync.fatal", "internal/sync.runtime_Semrelease", "sync/atomic.StoreUint32", "internal/reflectlite.TypeOf"], unfollowed := true, recurses := true, named := ["loop.example/laplink/impl.errNothingLeft"], ifaces := true, plainKeys := false, apart := false, laid := [("loop.example/laplink/impl.errNothingLeft", laid_loop_example_laplink_impl_errNothingLeft)], narrowed := true }
def FnFlyTurnUptoSaid : Prop := fnFlyTurnUptoRow.holds Tryz.pinned (OpenSpec.upto fnFlyTurnSpec)

end Rows
end Go.Proofs.YtijcdikekgmfoaaGreatDoor
