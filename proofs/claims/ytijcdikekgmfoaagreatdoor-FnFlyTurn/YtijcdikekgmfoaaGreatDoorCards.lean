/-
  DERIVED. GIVEN WITH THE SEED: THE CARDS: each row of YtijcdikekgmfoaaGreatDoorRows.lean that lists a variable, with what it lists TIED to the program's text (the seventh form; the later family's looks); each row that meets fmt, with fmt's text TOLD by the authors' own Lean function (tested against real Go, not proved from fmt's source: count such statements apart). THE CARD IS WHAT COUNTS. Prove the row's statement (the work); the ties are given (YtijcdikekgmfoaaGreatDoorTie.lean); close each card by the builder's one call (the guide's Derived/Test/ToyasCard.lean, 'card_holds'). Laid BY PROGRAM, IN A SANDBOX (cutbox-door.mjs). By AI agents, Wed Nov 11 2026. No macro, syntax, notation, axiom, sorry.
-/
import Derived.Test.YtijcdikekgmfoaaGreatDoorRows
import GoSem.ClaimSeven
namespace Go.Proofs.YtijcdikekgmfoaaGreatDoor
namespace Rows

/-- THE TIED CARD OF 'laws.FnFlyTop'. -/
def fnFlyTopCard : Claim7 := { stood := { row := fnFlyTopRow, standIns := [], harness := (true, "d6063085641fcb8f4b1877c421b03f42c2882bd770fd4dfa34d3eae134a90d27"), looks := true }, kinds := [], alts := [], laidByText := true, laidKinds := [.sentinel], laidTests := true, laidLooks := .later }
def FnFlyTopCardSaid : Prop := Claim7.holds Tryz.pinned (.plain (OpenSpec.ofChange fnFlyTopSpec)) fnFlyTopCard

/-- THE TIED CARD OF 'laws.FnFlyRest'. -/
def fnFlyRestCard : Claim7 := { stood := { row := fnFlyRestRow, standIns := [], harness := (true, "d6063085641fcb8f4b1877c421b03f42c2882bd770fd4dfa34d3eae134a90d27"), looks := true }, kinds := [], alts := [], laidByText := true, laidKinds := [.sentinel], laidTests := true, laidLooks := .later }
def FnFlyRestCardSaid : Prop := Claim7.holds Tryz.pinned (.plain (OpenSpec.ofChange fnFlyRestSpec)) fnFlyRestCard

/-- THE TIED CARD OF 'laws.FnFlyTurn'. -/
def fnFlyTurnCard : Claim7 := { stood := { row := fnFlyTurnRow, standIns := [], harness := (true, "d6063085641fcb8f4b1877c421b03f42c2882bd770fd4dfa34d3eae134a90d27"), looks := true }, kinds := [], alts := [], laidByText := true, laidKinds := [.sentinel], laidTests := true, laidLooks := .later }
def FnFlyTurnCardSaid : Prop := Claim7.holds Tryz.pinned (.plain (OpenSpec.ofChange fnFlyTurnSpec)) fnFlyTurnCard

/-- THE SECOND FORM's CARD OF 'laws.FnFlyTop'. -/
def fnFlyTopUptoCard : Claim7 := { stood := { row := fnFlyTopUptoRow, standIns := [], harness := (true, "d6063085641fcb8f4b1877c421b03f42c2882bd770fd4dfa34d3eae134a90d27"), looks := true }, kinds := [], alts := [], laidByText := true, laidKinds := [.sentinel], laidTests := true, laidLooks := .later }
def FnFlyTopUptoCardSaid : Prop := Claim7.holds Tryz.pinned (.plain (OpenSpec.upto fnFlyTopSpec)) fnFlyTopUptoCard

/-- THE SECOND FORM's CARD OF 'laws.FnFlyRest'. -/
def fnFlyRestUptoCard : Claim7 := { stood := { row := fnFlyRestUptoRow, standIns := [], harness := (true, "d6063085641fcb8f4b1877c421b03f42c2882bd770fd4dfa34d3eae134a90d27"), looks := true }, kinds := [], alts := [], laidByText := true, laidKinds := [.sentinel], laidTests := true, laidLooks := .later }
def FnFlyRestUptoCardSaid : Prop := Claim7.holds Tryz.pinned (.plain (OpenSpec.upto fnFlyRestSpec)) fnFlyRestUptoCard

/-- THE SECOND FORM's CARD OF 'laws.FnFlyTurn'. -/
def fnFlyTurnUptoCard : Claim7 := { stood := { row := fnFlyTurnUptoRow, standIns := [], harness := (true, "d6063085641fcb8f4b1877c421b03f42c2882bd770fd4dfa34d3eae134a90d27"), looks := true }, kinds := [], alts := [], laidByText := true, laidKinds := [.sentinel], laidTests := true, laidLooks := .later }
def FnFlyTurnUptoCardSaid : Prop := Claim7.holds Tryz.pinned (.plain (OpenSpec.upto fnFlyTurnSpec)) fnFlyTurnUptoCard
end Rows
end Go.Proofs.YtijcdikekgmfoaaGreatDoor
