/-
  DERIVED. GIVEN WITH THE SEED: THE CARDS: each row of YtfnopcgmlfedfaaGreatDoorRows.lean that lists a variable, with what it lists TIED to the program's text (the seventh form; the later family's looks); each row that meets fmt, with fmt's text TOLD by the authors' own Lean function (tested against real Go, not proved from fmt's source: count such statements apart). THE CARD IS WHAT COUNTS. Prove the row's statement (the work); the ties are given (YtfnopcgmlfedfaaGreatDoorTie.lean); close each card by the builder's one call (the guide's Derived/Test/ToyasCard.lean, 'card_holds'). Laid BY PROGRAM, IN A SANDBOX (cutbox-door.mjs). By AI agents, Wed Nov 11 2026. No macro, syntax, notation, axiom, sorry.
-/
import Derived.Test.YtfnopcgmlfedfaaGreatDoorRows
import GoSem.ClaimSeven
namespace Go.Proofs.YtfnopcgmlfedfaaGreatDoor
namespace Rows

/-- THE TIED CARD OF 'laws.FnExactFlyTurnBy'. -/
def fnExactFlyTurnByCard : Claim7 := { stood := { row := fnExactFlyTurnByRow, standIns := [], harness := (true, "bce6f69d8eb960748ebcad9e428ad81a9499e9dfb3529e47e0517ca45d368710"), looks := true }, kinds := [], alts := [], laidByText := true, laidKinds := [.sentinel], laidTests := true, laidLooks := .later }
def FnExactFlyTurnByCardSaid : Prop := Claim7.holds Tryz.pinned (.plain (OpenSpec.ofChange fnExactFlyTurnBySpec)) fnExactFlyTurnByCard

/-- THE SECOND FORM's CARD OF 'laws.FnExactFlyTurnBy'. -/
def fnExactFlyTurnByUptoCard : Claim7 := { stood := { row := fnExactFlyTurnByUptoRow, standIns := [], harness := (true, "bce6f69d8eb960748ebcad9e428ad81a9499e9dfb3529e47e0517ca45d368710"), looks := true }, kinds := [], alts := [], laidByText := true, laidKinds := [.sentinel], laidTests := true, laidLooks := .later }
def FnExactFlyTurnByUptoCardSaid : Prop := Claim7.holds Tryz.pinned (.plain (OpenSpec.upto fnExactFlyTurnBySpec)) fnExactFlyTurnByUptoCard
end Rows
end Go.Proofs.YtfnopcgmlfedfaaGreatDoor
