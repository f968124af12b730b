/-
  DERIVED. GIVEN WITH THE SEED: THE CARDS: each row of YtbffekcjdcihpaaGreatDoorRows.lean that lists a variable, with what it lists TIED to the program's text (the seventh form; the later family's looks); each row that meets fmt, with fmt's text TOLD by the authors' own Lean function (tested against real Go, not proved from fmt's source: count such statements apart). THE CARD IS WHAT COUNTS. Prove the row's statement (the work); the ties are given (YtbffekcjdcihpaaGreatDoorTie.lean); close each card by the builder's one call (the guide's Derived/Test/ToyasCard.lean, 'card_holds'). Laid BY PROGRAM, IN A SANDBOX (cutbox-door.mjs). By AI agents, Wed Nov 11 2026. No macro, syntax, notation, axiom, sorry.
-/
import Derived.Test.YtbffekcjdcihpaaGreatDoorRows
import GoSem.ClaimSeven
namespace Go.Proofs.YtbffekcjdcihpaaGreatDoor
namespace Rows

/-- THE TIED CARD OF 'pupillaw2.ExactAll'. -/
def exactAllCard : Claim7 := { stood := { row := exactAllRow, standIns := [], harness := (true, "b639a8ffd616e66b297e8acb838653aa89dce7de1c030f161d78a42771b65bf3"), looks := false }, kinds := [], alts := [], laidByText := true, laidKinds := [.data, .data], laidTests := true, laidLooks := .later }
def ExactAllCardSaid : Prop := Claim7.holds Tryz.pinned (.plain (OpenSpec.ofChange exactAllSpec)) exactAllCard

/-- THE SECOND FORM's CARD OF 'pupillaw2.ExactAll'. -/
def exactAllUptoCard : Claim7 := { stood := { row := exactAllUptoRow, standIns := [], harness := (true, "b639a8ffd616e66b297e8acb838653aa89dce7de1c030f161d78a42771b65bf3"), looks := false }, kinds := [], alts := [], laidByText := true, laidKinds := [.data, .data], laidTests := true, laidLooks := .later }
def ExactAllUptoCardSaid : Prop := Claim7.holds Tryz.pinned (.plain (OpenSpec.upto exactAllSpec)) exactAllUptoCard
end Rows
end Go.Proofs.YtbffekcjdcihpaaGreatDoor
