/-
  DERIVED. GIVEN WITH THE SEED: THE CARDS: each row of YtaglkncdedeipaaGreatDoorRows.lean that lists a variable, with what it lists TIED to the program's text (the seventh form; the later family's looks); each row that meets fmt, with fmt's text TOLD by the authors' own Lean function (tested against real Go, not proved from fmt's source: count such statements apart). THE CARD IS WHAT COUNTS. Prove the row's statement (the work); the ties are given (YtaglkncdedeipaaGreatDoorTie.lean); close each card by the builder's one call (the guide's Derived/Test/ToyasCard.lean, 'card_holds'). Laid BY PROGRAM, IN A SANDBOX (cutbox-door.mjs). By AI agents, Wed Nov 11 2026. No macro, syntax, notation, axiom, sorry.
-/
import Derived.Test.YtaglkncdedeipaaGreatDoorRows
import GoSem.ClaimSeven
namespace Go.Proofs.YtaglkncdedeipaaGreatDoor
namespace Rows

/-- THE TIED CARD OF 'pupillaw5.SpanTwos'. -/
def spanTwosCard : Claim7 := { stood := { row := spanTwosRow, standIns := [], harness := (true, "b8cf3f9d7da8f4fb0030128808aa764de421cc145bcbe74fba7e01515e8e5bae"), looks := false }, kinds := [], alts := [], laidByText := true, laidKinds := [.data, .data], laidTests := true, laidLooks := .later }
def SpanTwosCardSaid : Prop := Claim7.holds Tryz.pinned (.plain (OpenSpec.ofChange spanTwosSpec)) spanTwosCard

/-- THE TIED CARD OF 'pupillaw5.SpanSums'. -/
def spanSumsCard : Claim7 := { stood := { row := spanSumsRow, standIns := [], harness := (true, "b8cf3f9d7da8f4fb0030128808aa764de421cc145bcbe74fba7e01515e8e5bae"), looks := false }, kinds := [], alts := [], laidByText := true, laidKinds := [.data, .data], laidTests := true, laidLooks := .later }
def SpanSumsCardSaid : Prop := Claim7.holds Tryz.pinned (.plain (OpenSpec.ofChange spanSumsSpec)) spanSumsCard

/-- THE TIED CARD OF 'pupillaw5.SpanAll'. -/
def spanAllCard : Claim7 := { stood := { row := spanAllRow, standIns := [], harness := (true, "b8cf3f9d7da8f4fb0030128808aa764de421cc145bcbe74fba7e01515e8e5bae"), looks := false }, kinds := [], alts := [], laidByText := true, laidKinds := [.data, .data], laidTests := true, laidLooks := .later }
def SpanAllCardSaid : Prop := Claim7.holds Tryz.pinned (.plain (OpenSpec.ofChange spanAllSpec)) spanAllCard

/-- THE SECOND FORM's CARD OF 'pupillaw5.SpanTwos'. -/
def spanTwosUptoCard : Claim7 := { stood := { row := spanTwosUptoRow, standIns := [], harness := (true, "b8cf3f9d7da8f4fb0030128808aa764de421cc145bcbe74fba7e01515e8e5bae"), looks := false }, kinds := [], alts := [], laidByText := true, laidKinds := [.data, .data], laidTests := true, laidLooks := .later }
def SpanTwosUptoCardSaid : Prop := Claim7.holds Tryz.pinned (.plain (OpenSpec.upto spanTwosSpec)) spanTwosUptoCard

/-- THE SECOND FORM's CARD OF 'pupillaw5.SpanSums'. -/
def spanSumsUptoCard : Claim7 := { stood := { row := spanSumsUptoRow, standIns := [], harness := (true, "b8cf3f9d7da8f4fb0030128808aa764de421cc145bcbe74fba7e01515e8e5bae"), looks := false }, kinds := [], alts := [], laidByText := true, laidKinds := [.data, .data], laidTests := true, laidLooks := .later }
def SpanSumsUptoCardSaid : Prop := Claim7.holds Tryz.pinned (.plain (OpenSpec.upto spanSumsSpec)) spanSumsUptoCard

/-- THE SECOND FORM's CARD OF 'pupillaw5.SpanAll'. -/
def spanAllUptoCard : Claim7 := { stood := { row := spanAllUptoRow, standIns := [], harness := (true, "b8cf3f9d7da8f4fb0030128808aa764de421cc145bcbe74fba7e01515e8e5bae"), looks := false }, kinds := [], alts := [], laidByText := true, laidKinds := [.data, .data], laidTests := true, laidLooks := .later }
def SpanAllUptoCardSaid : Prop := Claim7.holds Tryz.pinned (.plain (OpenSpec.upto spanAllSpec)) spanAllUptoCard
end Rows
end Go.Proofs.YtaglkncdedeipaaGreatDoor
