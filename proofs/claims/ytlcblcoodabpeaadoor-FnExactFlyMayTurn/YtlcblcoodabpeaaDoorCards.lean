/-
  DERIVED. GIVEN WITH THE SEED: THE CARDS: each row of YtlcblcoodabpeaaDoorRows.lean that lists a variable, with what it lists TIED to the program's text (the seventh form; the later family's looks); each row that meets fmt, with fmt's text TOLD by the authors' own Lean function (tested against real Go, not proved from fmt's source: count such statements apart). THE CARD IS WHAT COUNTS. Prove the row's statement (the work); the ties are given (YtlcblcoodabpeaaDoorTie.lean); close each card by the builder's one call (the guide's Derived/Test/ToyasCard.lean, 'card_holds'). Laid BY PROGRAM, IN A SANDBOX (cutbox-door.mjs). By AI agents, Wed Nov 11 2026. No macro, syntax, notation, axiom, sorry.
-/
import Derived.Test.YtlcblcoodabpeaaDoorRows
import GoSem.ClaimSeven
namespace Go.Proofs.YtlcblcoodabpeaaDoor
namespace Rows

/-- THE TIED CARD OF 'laws.FnExactFlyRest'. -/
def fnExactFlyRestCard : Claim7 := { stood := { row := fnExactFlyRestRow, standIns := [], harness := (true, "9101d75d0b9db0d88f353d50abbf87971eabeafc91072f6b66880310ba48a056"), looks := true }, kinds := [], alts := [], laidByText := true, laidKinds := [.sentinel], laidTests := true, laidLooks := .later }
def FnExactFlyRestCardSaid : Prop := Claim7.holds Tryd.pinned (.plain (OpenSpec.ofChange fnExactFlyRestSpec)) fnExactFlyRestCard

/-- THE TIED CARD OF 'laws.FnExactFlySeen'. -/
def fnExactFlySeenCard : Claim7 := { stood := { row := fnExactFlySeenRow, standIns := [], harness := (true, "9101d75d0b9db0d88f353d50abbf87971eabeafc91072f6b66880310ba48a056"), looks := true }, kinds := [], alts := [], laidByText := true, laidKinds := [.sentinel], laidTests := true, laidLooks := .later }
def FnExactFlySeenCardSaid : Prop := Claim7.holds Tryd.pinned (.plain (OpenSpec.ofChange fnExactFlySeenSpec)) fnExactFlySeenCard

/-- THE TIED CARD OF 'laws.FnExactFlyMayTurn'. -/
def fnExactFlyMayTurnCard : Claim7 := { stood := { row := fnExactFlyMayTurnRow, standIns := [], harness := (true, "9101d75d0b9db0d88f353d50abbf87971eabeafc91072f6b66880310ba48a056"), looks := true }, kinds := [], alts := [], laidByText := true, laidKinds := [.sentinel], laidTests := true, laidLooks := .later }
def FnExactFlyMayTurnCardSaid : Prop := Claim7.holds Tryd.pinned (.plain (OpenSpec.ofChange fnExactFlyMayTurnSpec)) fnExactFlyMayTurnCard

/-- THE SECOND FORM's CARD OF 'laws.FnExactFlyRest'. -/
def fnExactFlyRestUptoCard : Claim7 := { stood := { row := fnExactFlyRestUptoRow, standIns := [], harness := (true, "9101d75d0b9db0d88f353d50abbf87971eabeafc91072f6b66880310ba48a056"), looks := true }, kinds := [], alts := [], laidByText := true, laidKinds := [.sentinel], laidTests := true, laidLooks := .later }
def FnExactFlyRestUptoCardSaid : Prop := Claim7.holds Tryd.pinned (.plain (OpenSpec.upto fnExactFlyRestSpec)) fnExactFlyRestUptoCard

/-- THE SECOND FORM's CARD OF 'laws.FnExactFlySeen'. -/
def fnExactFlySeenUptoCard : Claim7 := { stood := { row := fnExactFlySeenUptoRow, standIns := [], harness := (true, "9101d75d0b9db0d88f353d50abbf87971eabeafc91072f6b66880310ba48a056"), looks := true }, kinds := [], alts := [], laidByText := true, laidKinds := [.sentinel], laidTests := true, laidLooks := .later }
def FnExactFlySeenUptoCardSaid : Prop := Claim7.holds Tryd.pinned (.plain (OpenSpec.upto fnExactFlySeenSpec)) fnExactFlySeenUptoCard

/-- THE SECOND FORM's CARD OF 'laws.FnExactFlyMayTurn'. -/
def fnExactFlyMayTurnUptoCard : Claim7 := { stood := { row := fnExactFlyMayTurnUptoRow, standIns := [], harness := (true, "9101d75d0b9db0d88f353d50abbf87971eabeafc91072f6b66880310ba48a056"), looks := true }, kinds := [], alts := [], laidByText := true, laidKinds := [.sentinel], laidTests := true, laidLooks := .later }
def FnExactFlyMayTurnUptoCardSaid : Prop := Claim7.holds Tryd.pinned (.plain (OpenSpec.upto fnExactFlyMayTurnSpec)) fnExactFlyMayTurnUptoCard
end Rows
end Go.Proofs.YtlcblcoodabpeaaDoor
