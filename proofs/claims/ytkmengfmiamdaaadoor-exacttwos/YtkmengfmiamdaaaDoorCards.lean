/-
  DERIVED. GIVEN WITH THE SEED: THE CARDS: each row of YtkmengfmiamdaaaDoorRows.lean that lists a variable, with what it lists TIED to the program's text (the seventh form; the later family's looks); each row that meets fmt, with fmt's text TOLD by the authors' own Lean function (tested against real Go, not proved from fmt's source: count such statements apart). THE CARD IS WHAT COUNTS. Prove the row's statement (the work); the ties are given (YtkmengfmiamdaaaDoorTie.lean); close each card by the builder's one call (the guide's Derived/Test/ToyasCard.lean, 'card_holds'). Laid BY PROGRAM, IN A SANDBOX (cutbox-door.mjs). By AI agents, Wed Nov 11 2026. No macro, syntax, notation, axiom, sorry.
-/
import Derived.Test.YtkmengfmiamdaaaDoorRows
import GoSem.ClaimSeven
namespace Go.Proofs.YtkmengfmiamdaaaDoor
namespace Rows

/-- THE TIED CARD OF 'pupillaw2.ExactMakes'. -/
def exactMakesCard : Claim7 := { stood := { row := exactMakesRow, standIns := [], harness := (true, "8d69f2a00bc71086de91b15471d51a341715ce3403c27e35466ce96519897563"), looks := false }, kinds := [], alts := [], laidByText := true, laidKinds := [.data, .data], laidTests := true, laidLooks := .later }
def ExactMakesCardSaid : Prop := Claim7.holds Tryd.pinned (.plain (OpenSpec.ofChange exactMakesSpec)) exactMakesCard

/-- THE TIED CARD OF 'pupillaw2.ExactTwos'. -/
def exactTwosCard : Claim7 := { stood := { row := exactTwosRow, standIns := [], harness := (true, "8d69f2a00bc71086de91b15471d51a341715ce3403c27e35466ce96519897563"), looks := false }, kinds := [], alts := [], laidByText := true, laidKinds := [.data, .data], laidTests := true, laidLooks := .later }
def ExactTwosCardSaid : Prop := Claim7.holds Tryd.pinned (.plain (OpenSpec.ofChange exactTwosSpec)) exactTwosCard

/-- THE TIED CARD OF 'pupillaw2.ExactRing'. -/
def exactRingCard : Claim7 := { stood := { row := exactRingRow, standIns := [], harness := (true, "8d69f2a00bc71086de91b15471d51a341715ce3403c27e35466ce96519897563"), looks := false }, kinds := [], alts := [], laidByText := true, laidKinds := [.data, .data], laidTests := true, laidLooks := .later }
def ExactRingCardSaid : Prop := Claim7.holds Tryd.pinned (.plain (OpenSpec.ofChange exactRingSpec)) exactRingCard

/-- THE SECOND FORM's CARD OF 'pupillaw2.ExactMakes'. -/
def exactMakesUptoCard : Claim7 := { stood := { row := exactMakesUptoRow, standIns := [], harness := (true, "8d69f2a00bc71086de91b15471d51a341715ce3403c27e35466ce96519897563"), looks := false }, kinds := [], alts := [], laidByText := true, laidKinds := [.data, .data], laidTests := true, laidLooks := .later }
def ExactMakesUptoCardSaid : Prop := Claim7.holds Tryd.pinned (.plain (OpenSpec.upto exactMakesSpec)) exactMakesUptoCard

/-- THE SECOND FORM's CARD OF 'pupillaw2.ExactTwos'. -/
def exactTwosUptoCard : Claim7 := { stood := { row := exactTwosUptoRow, standIns := [], harness := (true, "8d69f2a00bc71086de91b15471d51a341715ce3403c27e35466ce96519897563"), looks := false }, kinds := [], alts := [], laidByText := true, laidKinds := [.data, .data], laidTests := true, laidLooks := .later }
def ExactTwosUptoCardSaid : Prop := Claim7.holds Tryd.pinned (.plain (OpenSpec.upto exactTwosSpec)) exactTwosUptoCard

/-- THE SECOND FORM's CARD OF 'pupillaw2.ExactRing'. -/
def exactRingUptoCard : Claim7 := { stood := { row := exactRingUptoRow, standIns := [], harness := (true, "8d69f2a00bc71086de91b15471d51a341715ce3403c27e35466ce96519897563"), looks := false }, kinds := [], alts := [], laidByText := true, laidKinds := [.data, .data], laidTests := true, laidLooks := .later }
def ExactRingUptoCardSaid : Prop := Claim7.holds Tryd.pinned (.plain (OpenSpec.upto exactRingSpec)) exactRingUptoCard
end Rows
end Go.Proofs.YtkmengfmiamdaaaDoor
