/-
  DERIVED. GIVEN WITH THE SEED: THE CARDS: each row of YtelbefihigkhjaaGreatDoorRows.lean that lists a variable, with what it lists TIED to the program's text (the seventh form; the later family's looks); each row that meets fmt, with fmt's text TOLD by the authors' own Lean function (tested against real Go, not proved from fmt's source: count such statements apart). THE CARD IS WHAT COUNTS. Prove the row's statement (the work); the ties are given (YtelbefihigkhjaaGreatDoorTie.lean); close each card by the builder's one call (the guide's Derived/Test/ToyasCard.lean, 'card_holds'). Laid BY PROGRAM, IN A SANDBOX (cutbox-door.mjs). By AI agents, Wed Nov 11 2026. No macro, syntax, notation, axiom, sorry.
-/
import Derived.Test.YtelbefihigkhjaaGreatDoorRows
import GoSem.ClaimSeven
namespace Go.Proofs.YtelbefihigkhjaaGreatDoor
namespace Rows

/-- THE TIED CARD OF 'pupillaw16.StartMakes'. -/
def startMakesCard : Claim7 := { stood := { row := startMakesRow, standIns := [], harness := (true, "177a09dc153261660675c29826d086b28547a2eedf36a46723867acb815a6cfe"), looks := false }, kinds := [], alts := [], laidByText := true, laidKinds := [.data, .data], laidTests := true, laidLooks := .later }
def StartMakesCardSaid : Prop := Claim7.holds Tryz.pinned (.plain (OpenSpec.ofChange startMakesSpec)) startMakesCard

/-- THE TIED CARD OF 'pupillaw16.StartAll'. -/
def startAllCard : Claim7 := { stood := { row := startAllRow, standIns := [], harness := (true, "177a09dc153261660675c29826d086b28547a2eedf36a46723867acb815a6cfe"), looks := false }, kinds := [], alts := [], laidByText := true, laidKinds := [.data, .data], laidTests := true, laidLooks := .later }
def StartAllCardSaid : Prop := Claim7.holds Tryz.pinned (.plain (OpenSpec.ofChange startAllSpec)) startAllCard

/-- THE TIED CARD OF 'pupillaw16.StartHeld'. -/
def startHeldCard : Claim7 := { stood := { row := startHeldRow, standIns := [], harness := (true, "177a09dc153261660675c29826d086b28547a2eedf36a46723867acb815a6cfe"), looks := false }, kinds := [], alts := [], laidByText := true, laidKinds := [.data, .data], laidTests := true, laidLooks := .later }
def StartHeldCardSaid : Prop := Claim7.holds Tryz.pinned (.plain (OpenSpec.ofChange startHeldSpec)) startHeldCard

/-- THE TIED CARD OF 'pupillaw16.StartAgain'. -/
def startAgainCard : Claim7 := { stood := { row := startAgainRow, standIns := [], harness := (true, "177a09dc153261660675c29826d086b28547a2eedf36a46723867acb815a6cfe"), looks := false }, kinds := [], alts := [], laidByText := true, laidKinds := [.data, .data], laidTests := true, laidLooks := .later }
def StartAgainCardSaid : Prop := Claim7.holds Tryz.pinned (.plain (OpenSpec.ofChange startAgainSpec)) startAgainCard

/-- THE TIED CARD OF 'pupillaw16.StartAlone'. -/
def startAloneCard : Claim7 := { stood := { row := startAloneRow, standIns := [], harness := (true, "177a09dc153261660675c29826d086b28547a2eedf36a46723867acb815a6cfe"), looks := false }, kinds := [], alts := [], laidByText := true, laidKinds := [.data, .data], laidTests := true, laidLooks := .later }
def StartAloneCardSaid : Prop := Claim7.holds Tryz.pinned (.plain (OpenSpec.ofChange startAloneSpec)) startAloneCard

/-- THE TIED CARD OF 'pupillaw17.OptimScales'. -/
def optimScalesCard : Claim7 := { stood := { row := optimScalesRow, standIns := [], harness := (true, "177a09dc153261660675c29826d086b28547a2eedf36a46723867acb815a6cfe"), looks := false }, kinds := [], alts := [], laidByText := true, laidKinds := [.data, .data], laidTests := true, laidLooks := .later }
def OptimScalesCardSaid : Prop := Claim7.holds Tryz.pinned (.plain (OpenSpec.ofChange optimScalesSpec)) optimScalesCard

/-- THE SECOND FORM's CARD OF 'pupillaw16.StartMakes'. -/
def startMakesUptoCard : Claim7 := { stood := { row := startMakesUptoRow, standIns := [], harness := (true, "177a09dc153261660675c29826d086b28547a2eedf36a46723867acb815a6cfe"), looks := false }, kinds := [], alts := [], laidByText := true, laidKinds := [.data, .data], laidTests := true, laidLooks := .later }
def StartMakesUptoCardSaid : Prop := Claim7.holds Tryz.pinned (.plain (OpenSpec.upto startMakesSpec)) startMakesUptoCard

/-- THE SECOND FORM's CARD OF 'pupillaw16.StartAll'. -/
def startAllUptoCard : Claim7 := { stood := { row := startAllUptoRow, standIns := [], harness := (true, "177a09dc153261660675c29826d086b28547a2eedf36a46723867acb815a6cfe"), looks := false }, kinds := [], alts := [], laidByText := true, laidKinds := [.data, .data], laidTests := true, laidLooks := .later }
def StartAllUptoCardSaid : Prop := Claim7.holds Tryz.pinned (.plain (OpenSpec.upto startAllSpec)) startAllUptoCard

/-- THE SECOND FORM's CARD OF 'pupillaw16.StartHeld'. -/
def startHeldUptoCard : Claim7 := { stood := { row := startHeldUptoRow, standIns := [], harness := (true, "177a09dc153261660675c29826d086b28547a2eedf36a46723867acb815a6cfe"), looks := false }, kinds := [], alts := [], laidByText := true, laidKinds := [.data, .data], laidTests := true, laidLooks := .later }
def StartHeldUptoCardSaid : Prop := Claim7.holds Tryz.pinned (.plain (OpenSpec.upto startHeldSpec)) startHeldUptoCard

/-- THE SECOND FORM's CARD OF 'pupillaw16.StartAgain'. -/
def startAgainUptoCard : Claim7 := { stood := { row := startAgainUptoRow, standIns := [], harness := (true, "177a09dc153261660675c29826d086b28547a2eedf36a46723867acb815a6cfe"), looks := false }, kinds := [], alts := [], laidByText := true, laidKinds := [.data, .data], laidTests := true, laidLooks := .later }
def StartAgainUptoCardSaid : Prop := Claim7.holds Tryz.pinned (.plain (OpenSpec.upto startAgainSpec)) startAgainUptoCard

/-- THE SECOND FORM's CARD OF 'pupillaw16.StartAlone'. -/
def startAloneUptoCard : Claim7 := { stood := { row := startAloneUptoRow, standIns := [], harness := (true, "177a09dc153261660675c29826d086b28547a2eedf36a46723867acb815a6cfe"), looks := false }, kinds := [], alts := [], laidByText := true, laidKinds := [.data, .data], laidTests := true, laidLooks := .later }
def StartAloneUptoCardSaid : Prop := Claim7.holds Tryz.pinned (.plain (OpenSpec.upto startAloneSpec)) startAloneUptoCard

/-- THE SECOND FORM's CARD OF 'pupillaw17.OptimScales'. -/
def optimScalesUptoCard : Claim7 := { stood := { row := optimScalesUptoRow, standIns := [], harness := (true, "177a09dc153261660675c29826d086b28547a2eedf36a46723867acb815a6cfe"), looks := false }, kinds := [], alts := [], laidByText := true, laidKinds := [.data, .data], laidTests := true, laidLooks := .later }
def OptimScalesUptoCardSaid : Prop := Claim7.holds Tryz.pinned (.plain (OpenSpec.upto optimScalesSpec)) optimScalesUptoCard
end Rows
end Go.Proofs.YtelbefihigkhjaaGreatDoor
