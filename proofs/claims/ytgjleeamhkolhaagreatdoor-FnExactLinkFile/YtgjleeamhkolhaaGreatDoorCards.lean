/-
  DERIVED. GIVEN WITH THE SEED: THE CARDS: each row of YtgjleeamhkolhaaGreatDoorRows.lean that lists a variable, with what it lists TIED to the program's text (the seventh form; the later family's looks); each row that meets fmt, with fmt's text TOLD by the authors' own Lean function (tested against real Go, not proved from fmt's source: count such statements apart). THE CARD IS WHAT COUNTS. Prove the row's statement (the work); the ties are given (YtgjleeamhkolhaaGreatDoorTie.lean); close each card by the builder's one call (the guide's Derived/Test/ToyasCard.lean, 'card_holds'). Laid BY PROGRAM, IN A SANDBOX (cutbox-door.mjs). By AI agents, Wed Nov 11 2026. No macro, syntax, notation, axiom, sorry.
-/
import Derived.Test.YtgjleeamhkolhaaGreatDoorRows
import GoSem.ClaimSeven
namespace Go.Proofs.YtgjleeamhkolhaaGreatDoor
namespace Rows

/-- THE TIED CARD OF 'laws.FnExactLinkFile'. -/
def fnExactLinkFileCard : Claim7 := { stood := { row := fnExactLinkFileRow, standIns := [], harness := (true, "42efe5b89f105106bbb61380fec3e6dee6b39e7c90cde13fff32dae70b2a8ba0"), looks := true }, kinds := [], alts := [], laidByText := true, laidKinds := [.handle], laidTests := true, laidLooks := .later }
def FnExactLinkFileCardSaid : Prop := Claim7.holds Tryz.pinned (.plain (OpenSpec.ofChange fnExactLinkFileSpec)) fnExactLinkFileCard

/-- THE TIED CARD OF 'laws.FnExactLinkSend'. -/
def fnExactLinkSendCard : Claim7 := { stood := { row := fnExactLinkSendRow, standIns := [], harness := (true, "42efe5b89f105106bbb61380fec3e6dee6b39e7c90cde13fff32dae70b2a8ba0"), looks := true }, kinds := [], alts := [], laidByText := true, laidKinds := [.handle], laidTests := true, laidLooks := .later }
def FnExactLinkSendCardSaid : Prop := Claim7.holds Tryz.pinned (.plain (OpenSpec.ofChange fnExactLinkSendSpec)) fnExactLinkSendCard

/-- THE SECOND FORM's CARD OF 'laws.FnExactLinkFile'. -/
def fnExactLinkFileUptoCard : Claim7 := { stood := { row := fnExactLinkFileUptoRow, standIns := [], harness := (true, "42efe5b89f105106bbb61380fec3e6dee6b39e7c90cde13fff32dae70b2a8ba0"), looks := true }, kinds := [], alts := [], laidByText := true, laidKinds := [.handle], laidTests := true, laidLooks := .later }
def FnExactLinkFileUptoCardSaid : Prop := Claim7.holds Tryz.pinned (.plain (OpenSpec.upto fnExactLinkFileSpec)) fnExactLinkFileUptoCard

/-- THE SECOND FORM's CARD OF 'laws.FnExactLinkSend'. -/
def fnExactLinkSendUptoCard : Claim7 := { stood := { row := fnExactLinkSendUptoRow, standIns := [], harness := (true, "42efe5b89f105106bbb61380fec3e6dee6b39e7c90cde13fff32dae70b2a8ba0"), looks := true }, kinds := [], alts := [], laidByText := true, laidKinds := [.handle], laidTests := true, laidLooks := .later }
def FnExactLinkSendUptoCardSaid : Prop := Claim7.holds Tryz.pinned (.plain (OpenSpec.upto fnExactLinkSendSpec)) fnExactLinkSendUptoCard
end Rows
end Go.Proofs.YtgjleeamhkolhaaGreatDoor
