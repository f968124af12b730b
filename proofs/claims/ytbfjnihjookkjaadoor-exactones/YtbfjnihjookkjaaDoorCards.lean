/-
  DERIVED. GIVEN WITH THE SEED: THE CARDS: each row of YtbfjnihjookkjaaDoorRows.lean that lists a variable, with what it lists TIED to the program's text (the seventh form; the later family's looks); each row that meets fmt, with fmt's text TOLD by the authors' own Lean function (tested against real Go, not proved from fmt's source: count such statements apart). THE CARD IS WHAT COUNTS. Prove the row's statement (the work); the ties are given (YtbfjnihjookkjaaDoorTie.lean); close each card by the builder's one call (the guide's Derived/Test/ToyasCard.lean, 'card_holds'). Laid BY PROGRAM, IN A SANDBOX (cutbox-door.mjs). By AI agents, Wed Nov 11 2026. No macro, syntax, notation, axiom, sorry.
-/
import Derived.Test.YtbfjnihjookkjaaDoorRows
import GoSem.ClaimSeven
namespace Go.Proofs.YtbfjnihjookkjaaDoor
namespace Rows

/-- THE TIED CARD OF 'pupillaw2.ExactMakes'. -/
def exactMakesCard : Claim7 := { stood := { row := exactMakesRow, standIns := [], harness := (true, "4134e4b2196c986265b206fd402a59c228a669be5f62603fe43bfbdc697329d4"), looks := false }, kinds := [], alts := [], laidByText := true, laidKinds := [.data, .data], laidTests := true, laidLooks := .later }
def ExactMakesCardSaid : Prop := Claim7.holds Tryd.pinned (.plain (OpenSpec.ofChange exactMakesSpec)) exactMakesCard

/-- THE TIED CARD OF 'pupillaw2.ExactOnes'. -/
def exactOnesCard : Claim7 := { stood := { row := exactOnesRow, standIns := [], harness := (true, "4134e4b2196c986265b206fd402a59c228a669be5f62603fe43bfbdc697329d4"), looks := false }, kinds := [], alts := [], laidByText := true, laidKinds := [.data, .data], laidTests := true, laidLooks := .later }
def ExactOnesCardSaid : Prop := Claim7.holds Tryd.pinned (.plain (OpenSpec.ofChange exactOnesSpec)) exactOnesCard

/-- THE TIED CARD OF 'pupillaw2.ExactTwos'. -/
def exactTwosCard : Claim7 := { stood := { row := exactTwosRow, standIns := [], harness := (true, "4134e4b2196c986265b206fd402a59c228a669be5f62603fe43bfbdc697329d4"), looks := false }, kinds := [], alts := [], laidByText := true, laidKinds := [.data, .data], laidTests := true, laidLooks := .later }
def ExactTwosCardSaid : Prop := Claim7.holds Tryd.pinned (.plain (OpenSpec.ofChange exactTwosSpec)) exactTwosCard

/-- THE TIED CARD OF 'pupillaw2.ExactRing'. -/
def exactRingCard : Claim7 := { stood := { row := exactRingRow, standIns := [], harness := (true, "4134e4b2196c986265b206fd402a59c228a669be5f62603fe43bfbdc697329d4"), looks := false }, kinds := [], alts := [], laidByText := true, laidKinds := [.data, .data], laidTests := true, laidLooks := .later }
def ExactRingCardSaid : Prop := Claim7.holds Tryd.pinned (.plain (OpenSpec.ofChange exactRingSpec)) exactRingCard

/-- THE TIED CARD OF 'pupillaw2.ExactFloats'. -/
def exactFloatsCard : Claim7 := { stood := { row := exactFloatsRow, standIns := [], harness := (true, "4134e4b2196c986265b206fd402a59c228a669be5f62603fe43bfbdc697329d4"), looks := false }, kinds := [], alts := [], laidByText := true, laidKinds := [.data, .data], laidTests := true, laidLooks := .later }
def ExactFloatsCardSaid : Prop := Claim7.holds Tryd.pinned (.plain (OpenSpec.ofChange exactFloatsSpec)) exactFloatsCard

/-- THE TIED CARD OF 'pupillaw2.ExactLimits'. -/
def exactLimitsCard : Claim7 := { stood := { row := exactLimitsRow, standIns := [], harness := (true, "4134e4b2196c986265b206fd402a59c228a669be5f62603fe43bfbdc697329d4"), looks := false }, kinds := [], alts := [], laidByText := true, laidKinds := [.data, .data], laidTests := true, laidLooks := .later }
def ExactLimitsCardSaid : Prop := Claim7.holds Tryd.pinned (.plain (OpenSpec.ofChange exactLimitsSpec)) exactLimitsCard

/-- THE SECOND FORM's CARD OF 'pupillaw2.ExactMakes'. -/
def exactMakesUptoCard : Claim7 := { stood := { row := exactMakesUptoRow, standIns := [], harness := (true, "4134e4b2196c986265b206fd402a59c228a669be5f62603fe43bfbdc697329d4"), looks := false }, kinds := [], alts := [], laidByText := true, laidKinds := [.data, .data], laidTests := true, laidLooks := .later }
def ExactMakesUptoCardSaid : Prop := Claim7.holds Tryd.pinned (.plain (OpenSpec.upto exactMakesSpec)) exactMakesUptoCard

/-- THE SECOND FORM's CARD OF 'pupillaw2.ExactOnes'. -/
def exactOnesUptoCard : Claim7 := { stood := { row := exactOnesUptoRow, standIns := [], harness := (true, "4134e4b2196c986265b206fd402a59c228a669be5f62603fe43bfbdc697329d4"), looks := false }, kinds := [], alts := [], laidByText := true, laidKinds := [.data, .data], laidTests := true, laidLooks := .later }
def ExactOnesUptoCardSaid : Prop := Claim7.holds Tryd.pinned (.plain (OpenSpec.upto exactOnesSpec)) exactOnesUptoCard

/-- THE SECOND FORM's CARD OF 'pupillaw2.ExactTwos'. -/
def exactTwosUptoCard : Claim7 := { stood := { row := exactTwosUptoRow, standIns := [], harness := (true, "4134e4b2196c986265b206fd402a59c228a669be5f62603fe43bfbdc697329d4"), looks := false }, kinds := [], alts := [], laidByText := true, laidKinds := [.data, .data], laidTests := true, laidLooks := .later }
def ExactTwosUptoCardSaid : Prop := Claim7.holds Tryd.pinned (.plain (OpenSpec.upto exactTwosSpec)) exactTwosUptoCard

/-- THE SECOND FORM's CARD OF 'pupillaw2.ExactRing'. -/
def exactRingUptoCard : Claim7 := { stood := { row := exactRingUptoRow, standIns := [], harness := (true, "4134e4b2196c986265b206fd402a59c228a669be5f62603fe43bfbdc697329d4"), looks := false }, kinds := [], alts := [], laidByText := true, laidKinds := [.data, .data], laidTests := true, laidLooks := .later }
def ExactRingUptoCardSaid : Prop := Claim7.holds Tryd.pinned (.plain (OpenSpec.upto exactRingSpec)) exactRingUptoCard

/-- THE SECOND FORM's CARD OF 'pupillaw2.ExactFloats'. -/
def exactFloatsUptoCard : Claim7 := { stood := { row := exactFloatsUptoRow, standIns := [], harness := (true, "4134e4b2196c986265b206fd402a59c228a669be5f62603fe43bfbdc697329d4"), looks := false }, kinds := [], alts := [], laidByText := true, laidKinds := [.data, .data], laidTests := true, laidLooks := .later }
def ExactFloatsUptoCardSaid : Prop := Claim7.holds Tryd.pinned (.plain (OpenSpec.upto exactFloatsSpec)) exactFloatsUptoCard

/-- THE SECOND FORM's CARD OF 'pupillaw2.ExactLimits'. -/
def exactLimitsUptoCard : Claim7 := { stood := { row := exactLimitsUptoRow, standIns := [], harness := (true, "4134e4b2196c986265b206fd402a59c228a669be5f62603fe43bfbdc697329d4"), looks := false }, kinds := [], alts := [], laidByText := true, laidKinds := [.data, .data], laidTests := true, laidLooks := .later }
def ExactLimitsUptoCardSaid : Prop := Claim7.holds Tryd.pinned (.plain (OpenSpec.upto exactLimitsSpec)) exactLimitsUptoCard
end Rows
end Go.Proofs.YtbfjnihjookkjaaDoor
