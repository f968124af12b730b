/-
  DERIVED. GIVEN WITH THE SEED: THE CARDS: each row of YtnafaclfdoefcaaGreatDoorRows.lean that lists a variable, with what it lists TIED to the program's text (the seventh form; the later family's looks); each row that meets fmt, with fmt's text TOLD by the authors' own Lean function (tested against real Go, not proved from fmt's source: count such statements apart). THE CARD IS WHAT COUNTS. Prove the row's statement (the work); the ties are given (YtnafaclfdoefcaaGreatDoorTie.lean); close each card by the builder's one call (the guide's Derived/Test/ToyasCard.lean, 'card_holds'). Laid BY PROGRAM, IN A SANDBOX (cutbox-door.mjs). By AI agents, Wed Nov 11 2026. No macro, syntax, notation, axiom, sorry.
-/
import Derived.Test.YtnafaclfdoefcaaGreatDoorRows
import GoSem.ClaimSeven
namespace Go.Proofs.YtnafaclfdoefcaaGreatDoor
namespace Rows

/-- THE TIED CARD OF 'pupillaw16.StartMakes'. -/
def startMakesCard : Claim7 := { stood := { row := startMakesRow, standIns := [], harness := (true, "9ec64f858898b7ad4af36013790c7401e4b2e7dc23719157863b05a0484820a7"), looks := false }, kinds := [], alts := [], laidByText := true, laidKinds := [.data, .data], laidTests := true, laidLooks := .later }
def StartMakesCardSaid : Prop := Claim7.holds Tryz.pinned (.plain (OpenSpec.ofChange startMakesSpec)) startMakesCard

/-- THE TIED CARD OF 'pupillaw16.StartAll'. -/
def startAllCard : Claim7 := { stood := { row := startAllRow, standIns := [], harness := (true, "9ec64f858898b7ad4af36013790c7401e4b2e7dc23719157863b05a0484820a7"), looks := false }, kinds := [], alts := [], laidByText := true, laidKinds := [.data, .data], laidTests := true, laidLooks := .later }
def StartAllCardSaid : Prop := Claim7.holds Tryz.pinned (.plain (OpenSpec.ofChange startAllSpec)) startAllCard

/-- THE TIED CARD OF 'pupillaw16.StartHeld'. -/
def startHeldCard : Claim7 := { stood := { row := startHeldRow, standIns := [], harness := (true, "9ec64f858898b7ad4af36013790c7401e4b2e7dc23719157863b05a0484820a7"), looks := false }, kinds := [], alts := [], laidByText := true, laidKinds := [.data, .data], laidTests := true, laidLooks := .later }
def StartHeldCardSaid : Prop := Claim7.holds Tryz.pinned (.plain (OpenSpec.ofChange startHeldSpec)) startHeldCard

/-- THE TIED CARD OF 'pupillaw17.OptimScales'. -/
def optimScalesCard : Claim7 := { stood := { row := optimScalesRow, standIns := [], harness := (true, "9ec64f858898b7ad4af36013790c7401e4b2e7dc23719157863b05a0484820a7"), looks := false }, kinds := [], alts := [], laidByText := true, laidKinds := [.data, .data], laidTests := true, laidLooks := .later }
def OptimScalesCardSaid : Prop := Claim7.holds Tryz.pinned (.plain (OpenSpec.ofChange optimScalesSpec)) optimScalesCard

/-- THE TIED CARD OF 'pupillaw17.OptimNorm'. -/
def optimNormCard : Claim7 := { stood := { row := optimNormRow, standIns := [], harness := (true, "9ec64f858898b7ad4af36013790c7401e4b2e7dc23719157863b05a0484820a7"), looks := false }, kinds := [], alts := [], laidByText := true, laidKinds := [.data, .data], laidTests := true, laidLooks := .later }
def OptimNormCardSaid : Prop := Claim7.holds Tryz.pinned (.plain (OpenSpec.ofChange optimNormSpec)) optimNormCard

/-- THE TIED CARD OF 'pupillaw17.OptimHeld'. -/
def optimHeldCard : Claim7 := { stood := { row := optimHeldRow, standIns := [], harness := (true, "9ec64f858898b7ad4af36013790c7401e4b2e7dc23719157863b05a0484820a7"), looks := false }, kinds := [], alts := [], laidByText := true, laidKinds := [.data, .data], laidTests := true, laidLooks := .later }
def OptimHeldCardSaid : Prop := Claim7.holds Tryz.pinned (.plain (OpenSpec.ofChange optimHeldSpec)) optimHeldCard

/-- THE SECOND FORM's CARD OF 'pupillaw16.StartMakes'. -/
def startMakesUptoCard : Claim7 := { stood := { row := startMakesUptoRow, standIns := [], harness := (true, "9ec64f858898b7ad4af36013790c7401e4b2e7dc23719157863b05a0484820a7"), looks := false }, kinds := [], alts := [], laidByText := true, laidKinds := [.data, .data], laidTests := true, laidLooks := .later }
def StartMakesUptoCardSaid : Prop := Claim7.holds Tryz.pinned (.plain (OpenSpec.upto startMakesSpec)) startMakesUptoCard

/-- THE SECOND FORM's CARD OF 'pupillaw16.StartAll'. -/
def startAllUptoCard : Claim7 := { stood := { row := startAllUptoRow, standIns := [], harness := (true, "9ec64f858898b7ad4af36013790c7401e4b2e7dc23719157863b05a0484820a7"), looks := false }, kinds := [], alts := [], laidByText := true, laidKinds := [.data, .data], laidTests := true, laidLooks := .later }
def StartAllUptoCardSaid : Prop := Claim7.holds Tryz.pinned (.plain (OpenSpec.upto startAllSpec)) startAllUptoCard

/-- THE SECOND FORM's CARD OF 'pupillaw16.StartHeld'. -/
def startHeldUptoCard : Claim7 := { stood := { row := startHeldUptoRow, standIns := [], harness := (true, "9ec64f858898b7ad4af36013790c7401e4b2e7dc23719157863b05a0484820a7"), looks := false }, kinds := [], alts := [], laidByText := true, laidKinds := [.data, .data], laidTests := true, laidLooks := .later }
def StartHeldUptoCardSaid : Prop := Claim7.holds Tryz.pinned (.plain (OpenSpec.upto startHeldSpec)) startHeldUptoCard

/-- THE SECOND FORM's CARD OF 'pupillaw17.OptimScales'. -/
def optimScalesUptoCard : Claim7 := { stood := { row := optimScalesUptoRow, standIns := [], harness := (true, "9ec64f858898b7ad4af36013790c7401e4b2e7dc23719157863b05a0484820a7"), looks := false }, kinds := [], alts := [], laidByText := true, laidKinds := [.data, .data], laidTests := true, laidLooks := .later }
def OptimScalesUptoCardSaid : Prop := Claim7.holds Tryz.pinned (.plain (OpenSpec.upto optimScalesSpec)) optimScalesUptoCard

/-- THE SECOND FORM's CARD OF 'pupillaw17.OptimNorm'. -/
def optimNormUptoCard : Claim7 := { stood := { row := optimNormUptoRow, standIns := [], harness := (true, "9ec64f858898b7ad4af36013790c7401e4b2e7dc23719157863b05a0484820a7"), looks := false }, kinds := [], alts := [], laidByText := true, laidKinds := [.data, .data], laidTests := true, laidLooks := .later }
def OptimNormUptoCardSaid : Prop := Claim7.holds Tryz.pinned (.plain (OpenSpec.upto optimNormSpec)) optimNormUptoCard

/-- THE SECOND FORM's CARD OF 'pupillaw17.OptimHeld'. -/
def optimHeldUptoCard : Claim7 := { stood := { row := optimHeldUptoRow, standIns := [], harness := (true, "9ec64f858898b7ad4af36013790c7401e4b2e7dc23719157863b05a0484820a7"), looks := false }, kinds := [], alts := [], laidByText := true, laidKinds := [.data, .data], laidTests := true, laidLooks := .later }
def OptimHeldUptoCardSaid : Prop := Claim7.holds Tryz.pinned (.plain (OpenSpec.upto optimHeldSpec)) optimHeldUptoCard
end Rows
end Go.Proofs.YtnafaclfdoefcaaGreatDoor
