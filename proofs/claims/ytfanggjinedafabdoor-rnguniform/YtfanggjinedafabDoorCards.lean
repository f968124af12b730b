/-
  DERIVED. GIVEN WITH THE SEED: THE CARDS: each row of YtfanggjinedafabDoorRows.lean that lists a variable, with what it lists TIED to the program's text (the seventh form; the later family's looks); each row that meets fmt, with fmt's text TOLD by the authors' own Lean function (tested against real Go, not proved from fmt's source: count such statements apart). THE CARD IS WHAT COUNTS. Prove the row's statement (the work); the ties are given (YtfanggjinedafabDoorTie.lean); close each card by the builder's one call (the guide's Derived/Test/ToyasCard.lean, 'card_holds'). Laid BY PROGRAM, IN A SANDBOX (cutbox-door.mjs). By AI agents, Wed Nov 11 2026. No macro, syntax, notation, axiom, sorry.
-/
import Derived.Test.YtfanggjinedafabDoorRows
import GoSem.ClaimSeven
namespace Go.Proofs.YtfanggjinedafabDoor
namespace Rows

/-- THE TIED CARD OF 'pupillaw6.RngUniform'. -/
def rngUniformCard : Claim7 := { stood := { row := rngUniformRow, standIns := [], harness := (true, "0ef2e550ce91add730e598b3941c3a8a5bc07f7c3060bad18f4d0f424e78826d"), looks := false }, kinds := [], alts := [], laidByText := true, laidKinds := [.data, .data], laidTests := true, laidLooks := .later }
def RngUniformCardSaid : Prop := Claim7.holds Tryd.pinned (.plain (OpenSpec.ofChange rngUniformSpec)) rngUniformCard

/-- THE SECOND FORM's CARD OF 'pupillaw6.RngUniform'. -/
def rngUniformUptoCard : Claim7 := { stood := { row := rngUniformUptoRow, standIns := [], harness := (true, "0ef2e550ce91add730e598b3941c3a8a5bc07f7c3060bad18f4d0f424e78826d"), looks := false }, kinds := [], alts := [], laidByText := true, laidKinds := [.data, .data], laidTests := true, laidLooks := .later }
def RngUniformUptoCardSaid : Prop := Claim7.holds Tryd.pinned (.plain (OpenSpec.upto rngUniformSpec)) rngUniformUptoCard
end Rows
end Go.Proofs.YtfanggjinedafabDoor
