/-
  DERIVED. GIVEN WITH THE SEED: THE CARDS: each row of YtdpccifhhencgaaGreatDoorRows.lean that lists a variable, with what it lists TIED to the program's text (the seventh form; the later family's looks); each row that meets fmt, with fmt's text TOLD by the authors' own Lean function (tested against real Go, not proved from fmt's source: count such statements apart). THE CARD IS WHAT COUNTS. Prove the row's statement (the work); the ties are given (YtdpccifhhencgaaGreatDoorTie.lean); close each card by the builder's one call (the guide's Derived/Test/ToyasCard.lean, 'card_holds'). Laid BY PROGRAM, IN A SANDBOX (cutbox-door.mjs). By AI agents, Wed Nov 11 2026. No macro, syntax, notation, axiom, sorry.
-/
import Derived.Test.YtdpccifhhencgaaGreatDoorRows
import GoSem.ClaimSeven
namespace Go.Proofs.YtdpccifhhencgaaGreatDoor
namespace Rows

/-- THE TIED CARD OF 'pupillaw3.AccAdds'. -/
def accAddsCard : Claim7 := { stood := { row := accAddsRow, standIns := [], harness := (true, "f599b79e25ee7632064438a05a75492b20f0e2f846d93ea16c3993fdd767a583"), looks := false }, kinds := [], alts := [], laidByText := true, laidKinds := [.data, .data], laidTests := true, laidLooks := .later }
def AccAddsCardSaid : Prop := Claim7.holds Tryz.pinned (.plain (OpenSpec.ofChange accAddsSpec)) accAddsCard

/-- THE TIED CARD OF 'pupillaw3.AccMerges'. -/
def accMergesCard : Claim7 := { stood := { row := accMergesRow, standIns := [], harness := (true, "f599b79e25ee7632064438a05a75492b20f0e2f846d93ea16c3993fdd767a583"), looks := false }, kinds := [], alts := [], laidByText := true, laidKinds := [.data, .data], laidTests := true, laidLooks := .later }
def AccMergesCardSaid : Prop := Claim7.holds Tryz.pinned (.plain (OpenSpec.ofChange accMergesSpec)) accMergesCard

/-- THE TIED CARD OF 'pupillaw3.AccRounds'. -/
def accRoundsCard : Claim7 := { stood := { row := accRoundsRow, standIns := [], harness := (true, "f599b79e25ee7632064438a05a75492b20f0e2f846d93ea16c3993fdd767a583"), looks := false }, kinds := [], alts := [], laidByText := true, laidKinds := [.data, .data], laidTests := true, laidLooks := .later }
def AccRoundsCardSaid : Prop := Claim7.holds Tryz.pinned (.plain (OpenSpec.ofChange accRoundsSpec)) accRoundsCard

/-- THE TIED CARD OF 'pupillaw3.AccLists'. -/
def accListsCard : Claim7 := { stood := { row := accListsRow, standIns := [], harness := (true, "f599b79e25ee7632064438a05a75492b20f0e2f846d93ea16c3993fdd767a583"), looks := false }, kinds := [], alts := [], laidByText := true, laidKinds := [.data, .data], laidTests := true, laidLooks := .later }
def AccListsCardSaid : Prop := Claim7.holds Tryz.pinned (.plain (OpenSpec.ofChange accListsSpec)) accListsCard

/-- THE TIED CARD OF 'pupillaw3.AccAll'. -/
def accAllCard : Claim7 := { stood := { row := accAllRow, standIns := [], harness := (true, "f599b79e25ee7632064438a05a75492b20f0e2f846d93ea16c3993fdd767a583"), looks := false }, kinds := [], alts := [], laidByText := true, laidKinds := [.data, .data], laidTests := true, laidLooks := .later }
def AccAllCardSaid : Prop := Claim7.holds Tryz.pinned (.plain (OpenSpec.ofChange accAllSpec)) accAllCard

/-- THE TIED CARD OF 'pupillaw3.AccOrders'. -/
def accOrdersCard : Claim7 := { stood := { row := accOrdersRow, standIns := [], harness := (true, "f599b79e25ee7632064438a05a75492b20f0e2f846d93ea16c3993fdd767a583"), looks := false }, kinds := [], alts := [], laidByText := true, laidKinds := [.data, .data], laidTests := true, laidLooks := .later }
def AccOrdersCardSaid : Prop := Claim7.holds Tryz.pinned (.plain (OpenSpec.ofChange accOrdersSpec)) accOrdersCard

/-- THE SECOND FORM's CARD OF 'pupillaw3.AccAdds'. -/
def accAddsUptoCard : Claim7 := { stood := { row := accAddsUptoRow, standIns := [], harness := (true, "f599b79e25ee7632064438a05a75492b20f0e2f846d93ea16c3993fdd767a583"), looks := false }, kinds := [], alts := [], laidByText := true, laidKinds := [.data, .data], laidTests := true, laidLooks := .later }
def AccAddsUptoCardSaid : Prop := Claim7.holds Tryz.pinned (.plain (OpenSpec.upto accAddsSpec)) accAddsUptoCard

/-- THE SECOND FORM's CARD OF 'pupillaw3.AccMerges'. -/
def accMergesUptoCard : Claim7 := { stood := { row := accMergesUptoRow, standIns := [], harness := (true, "f599b79e25ee7632064438a05a75492b20f0e2f846d93ea16c3993fdd767a583"), looks := false }, kinds := [], alts := [], laidByText := true, laidKinds := [.data, .data], laidTests := true, laidLooks := .later }
def AccMergesUptoCardSaid : Prop := Claim7.holds Tryz.pinned (.plain (OpenSpec.upto accMergesSpec)) accMergesUptoCard

/-- THE SECOND FORM's CARD OF 'pupillaw3.AccRounds'. -/
def accRoundsUptoCard : Claim7 := { stood := { row := accRoundsUptoRow, standIns := [], harness := (true, "f599b79e25ee7632064438a05a75492b20f0e2f846d93ea16c3993fdd767a583"), looks := false }, kinds := [], alts := [], laidByText := true, laidKinds := [.data, .data], laidTests := true, laidLooks := .later }
def AccRoundsUptoCardSaid : Prop := Claim7.holds Tryz.pinned (.plain (OpenSpec.upto accRoundsSpec)) accRoundsUptoCard

/-- THE SECOND FORM's CARD OF 'pupillaw3.AccLists'. -/
def accListsUptoCard : Claim7 := { stood := { row := accListsUptoRow, standIns := [], harness := (true, "f599b79e25ee7632064438a05a75492b20f0e2f846d93ea16c3993fdd767a583"), looks := false }, kinds := [], alts := [], laidByText := true, laidKinds := [.data, .data], laidTests := true, laidLooks := .later }
def AccListsUptoCardSaid : Prop := Claim7.holds Tryz.pinned (.plain (OpenSpec.upto accListsSpec)) accListsUptoCard

/-- THE SECOND FORM's CARD OF 'pupillaw3.AccAll'. -/
def accAllUptoCard : Claim7 := { stood := { row := accAllUptoRow, standIns := [], harness := (true, "f599b79e25ee7632064438a05a75492b20f0e2f846d93ea16c3993fdd767a583"), looks := false }, kinds := [], alts := [], laidByText := true, laidKinds := [.data, .data], laidTests := true, laidLooks := .later }
def AccAllUptoCardSaid : Prop := Claim7.holds Tryz.pinned (.plain (OpenSpec.upto accAllSpec)) accAllUptoCard

/-- THE SECOND FORM's CARD OF 'pupillaw3.AccOrders'. -/
def accOrdersUptoCard : Claim7 := { stood := { row := accOrdersUptoRow, standIns := [], harness := (true, "f599b79e25ee7632064438a05a75492b20f0e2f846d93ea16c3993fdd767a583"), looks := false }, kinds := [], alts := [], laidByText := true, laidKinds := [.data, .data], laidTests := true, laidLooks := .later }
def AccOrdersUptoCardSaid : Prop := Claim7.holds Tryz.pinned (.plain (OpenSpec.upto accOrdersSpec)) accOrdersUptoCard
end Rows
end Go.Proofs.YtdpccifhhencgaaGreatDoor
