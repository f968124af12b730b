/-
  DERIVED. GIVEN WITH THE SEED: THE CARDS: each row of YtnniljhdcplkgaaGreatDoorRows.lean that lists a variable, with what it lists TIED to the program's text (the seventh form; the later family's looks); each row that meets fmt, with fmt's text TOLD by the authors' own Lean function (tested against real Go, not proved from fmt's source: count such statements apart). THE CARD IS WHAT COUNTS. Prove the row's statement (the work); the ties are given (YtnniljhdcplkgaaGreatDoorTie.lean); close each card by the builder's one call (the guide's Derived/Test/ToyasCard.lean, 'card_holds'). Laid BY PROGRAM, IN A SANDBOX (cutbox-door.mjs). By AI agents, Wed Nov 11 2026. No macro, syntax, notation, axiom, sorry.
-/
import Derived.Test.YtnniljhdcplkgaaGreatDoorRows
import GoSem.ClaimSeven
namespace Go.Proofs.YtnniljhdcplkgaaGreatDoor
namespace Rows

/-- THE TIED CARD OF 'pupillaw18.RateAlone'. -/
def rateAloneCard : Claim7 := { stood := { row := rateAloneRow, standIns := [], harness := (true, "5984da7112ae2f06dbd158ba90c37a6cb9affa7c31d4e85d473c899d9fd8dcf8"), looks := false }, kinds := [], alts := [], laidByText := true, laidKinds := [.data, .data], laidTests := true, laidLooks := .later }
def RateAloneCardSaid : Prop := Claim7.holds Tryz.pinned (.plain (OpenSpec.ofChange rateAloneSpec)) rateAloneCard

/-- THE TIED CARD OF 'pupillaw18.RateAts'. -/
def rateAtsCard : Claim7 := { stood := { row := rateAtsRow, standIns := [], harness := (true, "5984da7112ae2f06dbd158ba90c37a6cb9affa7c31d4e85d473c899d9fd8dcf8"), looks := false }, kinds := [], alts := [], laidByText := true, laidKinds := [.data, .data], laidTests := true, laidLooks := .later }
def RateAtsCardSaid : Prop := Claim7.holds Tryz.pinned (.plain (OpenSpec.ofChange rateAtsSpec)) rateAtsCard

/-- THE SECOND FORM's CARD OF 'pupillaw18.RateAlone'. -/
def rateAloneUptoCard : Claim7 := { stood := { row := rateAloneUptoRow, standIns := [], harness := (true, "5984da7112ae2f06dbd158ba90c37a6cb9affa7c31d4e85d473c899d9fd8dcf8"), looks := false }, kinds := [], alts := [], laidByText := true, laidKinds := [.data, .data], laidTests := true, laidLooks := .later }
def RateAloneUptoCardSaid : Prop := Claim7.holds Tryz.pinned (.plain (OpenSpec.upto rateAloneSpec)) rateAloneUptoCard

/-- THE SECOND FORM's CARD OF 'pupillaw18.RateAts'. -/
def rateAtsUptoCard : Claim7 := { stood := { row := rateAtsUptoRow, standIns := [], harness := (true, "5984da7112ae2f06dbd158ba90c37a6cb9affa7c31d4e85d473c899d9fd8dcf8"), looks := false }, kinds := [], alts := [], laidByText := true, laidKinds := [.data, .data], laidTests := true, laidLooks := .later }
def RateAtsUptoCardSaid : Prop := Claim7.holds Tryz.pinned (.plain (OpenSpec.upto rateAtsSpec)) rateAtsUptoCard
end Rows
end Go.Proofs.YtnniljhdcplkgaaGreatDoor
