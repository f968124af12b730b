/-
  DERIVED. GIVEN WITH THE SEED: THE CARDS: each row of YtoflafgbbjinpaaGreatDoorRows.lean that lists a variable, with what it lists TIED to the program's text (the seventh form; the later family's looks); each row that meets fmt, with fmt's text TOLD by the authors' own Lean function (tested against real Go, not proved from fmt's source: count such statements apart). THE CARD IS WHAT COUNTS. Prove the row's statement (the work); the ties are given (YtoflafgbbjinpaaGreatDoorTie.lean); close each card by the builder's one call (the guide's Derived/Test/ToyasCard.lean, 'card_holds'). Laid BY PROGRAM, IN A SANDBOX (cutbox-door.mjs). By AI agents, Wed Nov 11 2026. No macro, syntax, notation, axiom, sorry.
-/
import Derived.Test.YtoflafgbbjinpaaGreatDoorRows
import GoSem.ClaimSeven
namespace Go.Proofs.YtoflafgbbjinpaaGreatDoor
namespace Rows

/-- THE TIED CARD OF 'pupillaw3.AccAdds'. -/
def accAddsCard : Claim7 := { stood := { row := accAddsRow, standIns := [], harness := (true, "644c3edb3f6011a48d54b2e12e3bf161fdec6f777e6abaf0758baaee7263950c"), looks := false }, kinds := [], alts := [], laidByText := true, laidKinds := [.data, .data], laidTests := true, laidLooks := .later }
def AccAddsCardSaid : Prop := Claim7.holds Tryz.pinned (.plain (OpenSpec.ofChange accAddsSpec)) accAddsCard

/-- THE TIED CARD OF 'pupillaw3.AccMerges'. -/
def accMergesCard : Claim7 := { stood := { row := accMergesRow, standIns := [], harness := (true, "644c3edb3f6011a48d54b2e12e3bf161fdec6f777e6abaf0758baaee7263950c"), looks := false }, kinds := [], alts := [], laidByText := true, laidKinds := [.data, .data], laidTests := true, laidLooks := .later }
def AccMergesCardSaid : Prop := Claim7.holds Tryz.pinned (.plain (OpenSpec.ofChange accMergesSpec)) accMergesCard

/-- THE TIED CARD OF 'pupillaw3.AccLists'. -/
def accListsCard : Claim7 := { stood := { row := accListsRow, standIns := [], harness := (true, "644c3edb3f6011a48d54b2e12e3bf161fdec6f777e6abaf0758baaee7263950c"), looks := false }, kinds := [], alts := [], laidByText := true, laidKinds := [.data, .data], laidTests := true, laidLooks := .later }
def AccListsCardSaid : Prop := Claim7.holds Tryz.pinned (.plain (OpenSpec.ofChange accListsSpec)) accListsCard

/-- THE TIED CARD OF 'pupillaw3.AccNearest'. -/
def accNearestCard : Claim7 := { stood := { row := accNearestRow, standIns := [], harness := (true, "644c3edb3f6011a48d54b2e12e3bf161fdec6f777e6abaf0758baaee7263950c"), looks := false }, kinds := [], alts := [], laidByText := true, laidKinds := [.data, .data], laidTests := true, laidLooks := .later }
def AccNearestCardSaid : Prop := Claim7.holds Tryz.pinned (.plain (OpenSpec.ofChange accNearestSpec)) accNearestCard

/-- THE TIED CARD OF 'pupillaw3.AccSpecial'. -/
def accSpecialCard : Claim7 := { stood := { row := accSpecialRow, standIns := [], harness := (true, "644c3edb3f6011a48d54b2e12e3bf161fdec6f777e6abaf0758baaee7263950c"), looks := false }, kinds := [], alts := [], laidByText := true, laidKinds := [.data, .data], laidTests := true, laidLooks := .later }
def AccSpecialCardSaid : Prop := Claim7.holds Tryz.pinned (.plain (OpenSpec.ofChange accSpecialSpec)) accSpecialCard

/-- THE TIED CARD OF 'pupillaw3.AccTimes'. -/
def accTimesCard : Claim7 := { stood := { row := accTimesRow, standIns := [], harness := (true, "644c3edb3f6011a48d54b2e12e3bf161fdec6f777e6abaf0758baaee7263950c"), looks := false }, kinds := [], alts := [], laidByText := true, laidKinds := [.data, .data], laidTests := true, laidLooks := .later }
def AccTimesCardSaid : Prop := Claim7.holds Tryz.pinned (.plain (OpenSpec.ofChange accTimesSpec)) accTimesCard

/-- THE SECOND FORM's CARD OF 'pupillaw3.AccAdds'. -/
def accAddsUptoCard : Claim7 := { stood := { row := accAddsUptoRow, standIns := [], harness := (true, "644c3edb3f6011a48d54b2e12e3bf161fdec6f777e6abaf0758baaee7263950c"), looks := false }, kinds := [], alts := [], laidByText := true, laidKinds := [.data, .data], laidTests := true, laidLooks := .later }
def AccAddsUptoCardSaid : Prop := Claim7.holds Tryz.pinned (.plain (OpenSpec.upto accAddsSpec)) accAddsUptoCard

/-- THE SECOND FORM's CARD OF 'pupillaw3.AccMerges'. -/
def accMergesUptoCard : Claim7 := { stood := { row := accMergesUptoRow, standIns := [], harness := (true, "644c3edb3f6011a48d54b2e12e3bf161fdec6f777e6abaf0758baaee7263950c"), looks := false }, kinds := [], alts := [], laidByText := true, laidKinds := [.data, .data], laidTests := true, laidLooks := .later }
def AccMergesUptoCardSaid : Prop := Claim7.holds Tryz.pinned (.plain (OpenSpec.upto accMergesSpec)) accMergesUptoCard

/-- THE SECOND FORM's CARD OF 'pupillaw3.AccLists'. -/
def accListsUptoCard : Claim7 := { stood := { row := accListsUptoRow, standIns := [], harness := (true, "644c3edb3f6011a48d54b2e12e3bf161fdec6f777e6abaf0758baaee7263950c"), looks := false }, kinds := [], alts := [], laidByText := true, laidKinds := [.data, .data], laidTests := true, laidLooks := .later }
def AccListsUptoCardSaid : Prop := Claim7.holds Tryz.pinned (.plain (OpenSpec.upto accListsSpec)) accListsUptoCard

/-- THE SECOND FORM's CARD OF 'pupillaw3.AccNearest'. -/
def accNearestUptoCard : Claim7 := { stood := { row := accNearestUptoRow, standIns := [], harness := (true, "644c3edb3f6011a48d54b2e12e3bf161fdec6f777e6abaf0758baaee7263950c"), looks := false }, kinds := [], alts := [], laidByText := true, laidKinds := [.data, .data], laidTests := true, laidLooks := .later }
def AccNearestUptoCardSaid : Prop := Claim7.holds Tryz.pinned (.plain (OpenSpec.upto accNearestSpec)) accNearestUptoCard

/-- THE SECOND FORM's CARD OF 'pupillaw3.AccSpecial'. -/
def accSpecialUptoCard : Claim7 := { stood := { row := accSpecialUptoRow, standIns := [], harness := (true, "644c3edb3f6011a48d54b2e12e3bf161fdec6f777e6abaf0758baaee7263950c"), looks := false }, kinds := [], alts := [], laidByText := true, laidKinds := [.data, .data], laidTests := true, laidLooks := .later }
def AccSpecialUptoCardSaid : Prop := Claim7.holds Tryz.pinned (.plain (OpenSpec.upto accSpecialSpec)) accSpecialUptoCard

/-- THE SECOND FORM's CARD OF 'pupillaw3.AccTimes'. -/
def accTimesUptoCard : Claim7 := { stood := { row := accTimesUptoRow, standIns := [], harness := (true, "644c3edb3f6011a48d54b2e12e3bf161fdec6f777e6abaf0758baaee7263950c"), looks := false }, kinds := [], alts := [], laidByText := true, laidKinds := [.data, .data], laidTests := true, laidLooks := .later }
def AccTimesUptoCardSaid : Prop := Claim7.holds Tryz.pinned (.plain (OpenSpec.upto accTimesSpec)) accTimesUptoCard
end Rows
end Go.Proofs.YtoflafgbbjinpaaGreatDoor
