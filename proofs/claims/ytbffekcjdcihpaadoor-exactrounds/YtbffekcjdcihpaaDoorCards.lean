/-
  DERIVED. GIVEN WITH THE SEED: THE CARDS: each row of YtbffekcjdcihpaaDoorRows.lean that lists a variable, with what it lists TIED to the program's text (the seventh form; the later family's looks); each row that meets fmt, with fmt's text TOLD by the authors' own Lean function (tested against real Go, not proved from fmt's source: count such statements apart). THE CARD IS WHAT COUNTS. Prove the row's statement (the work); the ties are given (YtbffekcjdcihpaaDoorTie.lean); close each card by the builder's one call (the guide's Derived/Test/ToyasCard.lean, 'card_holds'). Laid BY PROGRAM, IN A SANDBOX (cutbox-door.mjs). By AI agents, Wed Nov 11 2026. No macro, syntax, notation, axiom, sorry.
-/
import Derived.Test.YtbffekcjdcihpaaDoorRows
import GoSem.ClaimSeven
namespace Go.Proofs.YtbffekcjdcihpaaDoor
namespace Rows

/-- THE TIED CARD OF 'pupillaw2.ExactRounds'. -/
def exactRoundsCard : Claim7 := { stood := { row := exactRoundsRow, standIns := [], harness := (true, "c2eb464f630b5fb0ddd37f49eaa35dcc439a4a88e99002b1dbf5d2c60116bfc4"), looks := false }, kinds := [], alts := [], laidByText := true, laidKinds := [.data, .data], laidTests := true, laidLooks := .later }
def ExactRoundsCardSaid : Prop := Claim7.holds Tryd.pinned (.plain (OpenSpec.ofChange exactRoundsSpec)) exactRoundsCard

/-- THE SECOND FORM's CARD OF 'pupillaw2.ExactRounds'. -/
def exactRoundsUptoCard : Claim7 := { stood := { row := exactRoundsUptoRow, standIns := [], harness := (true, "c2eb464f630b5fb0ddd37f49eaa35dcc439a4a88e99002b1dbf5d2c60116bfc4"), looks := false }, kinds := [], alts := [], laidByText := true, laidKinds := [.data, .data], laidTests := true, laidLooks := .later }
def ExactRoundsUptoCardSaid : Prop := Claim7.holds Tryd.pinned (.plain (OpenSpec.upto exactRoundsSpec)) exactRoundsUptoCard
end Rows
end Go.Proofs.YtbffekcjdcihpaaDoor
