/-
  DERIVED. GIVEN WITH THE SEED: THE CARDS: each row of YtpkeadfndgddlaaDoorRows.lean that lists a variable, with what it lists TIED to the program's text (the seventh form; the later family's looks); each row that meets fmt, with fmt's text TOLD by the authors' own Lean function (tested against real Go, not proved from fmt's source: count such statements apart). THE CARD IS WHAT COUNTS. Prove the row's statement (the work); the ties are given (YtpkeadfndgddlaaDoorTie.lean); close each card by the builder's one call (the guide's Derived/Test/ToyasCard.lean, 'card_holds'). Laid BY PROGRAM, IN A SANDBOX (cutbox-door.mjs). By AI agents, Wed Nov 11 2026. No macro, syntax, notation, axiom, sorry.
-/
import Derived.Test.YtpkeadfndgddlaaDoorRows
import GoSem.ClaimSeven
namespace Go.Proofs.YtpkeadfndgddlaaDoor
namespace Rows

/-- THE TIED CARD OF 'pupillaw3.AccLimits'. -/
def accLimitsCard : Claim7 := { stood := { row := accLimitsRow, standIns := [], harness := (true, "3ab60b4ed36a8f624ea7a9d2ed1dc74ef50d040b05c3c963aa202a47d66ca18c"), looks := false }, kinds := [], alts := [], laidByText := true, laidKinds := [.data, .data], laidTests := true, laidLooks := .later }
def AccLimitsCardSaid : Prop := Claim7.holds Tryd.pinned (.plain (OpenSpec.ofChange accLimitsSpec)) accLimitsCard

/-- THE SECOND FORM's CARD OF 'pupillaw3.AccLimits'. -/
def accLimitsUptoCard : Claim7 := { stood := { row := accLimitsUptoRow, standIns := [], harness := (true, "3ab60b4ed36a8f624ea7a9d2ed1dc74ef50d040b05c3c963aa202a47d66ca18c"), looks := false }, kinds := [], alts := [], laidByText := true, laidKinds := [.data, .data], laidTests := true, laidLooks := .later }
def AccLimitsUptoCardSaid : Prop := Claim7.holds Tryd.pinned (.plain (OpenSpec.upto accLimitsSpec)) accLimitsUptoCard
end Rows
end Go.Proofs.YtpkeadfndgddlaaDoor
