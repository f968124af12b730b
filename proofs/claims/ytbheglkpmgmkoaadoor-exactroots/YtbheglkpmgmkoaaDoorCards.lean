/-
  DERIVED. GIVEN WITH THE SEED: THE CARDS: each row of YtbheglkpmgmkoaaDoorRows.lean that lists a variable, with what it lists TIED to the program's text (the seventh form; the later family's looks); each row that meets fmt, with fmt's text TOLD by the authors' own Lean function (tested against real Go, not proved from fmt's source: count such statements apart). THE CARD IS WHAT COUNTS. Prove the row's statement (the work); the ties are given (YtbheglkpmgmkoaaDoorTie.lean); close each card by the builder's one call (the guide's Derived/Test/ToyasCard.lean, 'card_holds'). Laid BY PROGRAM, IN A SANDBOX (cutbox-door.mjs). By AI agents, Wed Nov 11 2026. No macro, syntax, notation, axiom, sorry.
-/
import Derived.Test.YtbheglkpmgmkoaaDoorRows
import GoSem.ClaimSeven
namespace Go.Proofs.YtbheglkpmgmkoaaDoor
namespace Rows

/-- THE TIED CARD OF 'pupillaw2.ExactRounds'. -/
def exactRoundsCard : Claim7 := { stood := { row := exactRoundsRow, standIns := [], harness := (true, "547bfde864ff63a5e0ce212c12e89afcbb22cc0d351b6ca9da9fb8035031af55"), looks := false }, kinds := [], alts := [], laidByText := true, laidKinds := [.data, .data], laidTests := true, laidLooks := .later }
def ExactRoundsCardSaid : Prop := Claim7.holds Tryd.pinned (.plain (OpenSpec.ofChange exactRoundsSpec)) exactRoundsCard

/-- THE TIED CARD OF 'pupillaw2.ExactBetween'. -/
def exactBetweenCard : Claim7 := { stood := { row := exactBetweenRow, standIns := [], harness := (true, "547bfde864ff63a5e0ce212c12e89afcbb22cc0d351b6ca9da9fb8035031af55"), looks := false }, kinds := [], alts := [], laidByText := true, laidKinds := [.data, .data], laidTests := true, laidLooks := .later }
def ExactBetweenCardSaid : Prop := Claim7.holds Tryd.pinned (.plain (OpenSpec.ofChange exactBetweenSpec)) exactBetweenCard

/-- THE TIED CARD OF 'pupillaw2.ExactMirrors'. -/
def exactMirrorsCard : Claim7 := { stood := { row := exactMirrorsRow, standIns := [], harness := (true, "547bfde864ff63a5e0ce212c12e89afcbb22cc0d351b6ca9da9fb8035031af55"), looks := false }, kinds := [], alts := [], laidByText := true, laidKinds := [.data, .data], laidTests := true, laidLooks := .later }
def ExactMirrorsCardSaid : Prop := Claim7.holds Tryd.pinned (.plain (OpenSpec.ofChange exactMirrorsSpec)) exactMirrorsCard

/-- THE TIED CARD OF 'pupillaw2.ExactQuots'. -/
def exactQuotsCard : Claim7 := { stood := { row := exactQuotsRow, standIns := [], harness := (true, "547bfde864ff63a5e0ce212c12e89afcbb22cc0d351b6ca9da9fb8035031af55"), looks := false }, kinds := [], alts := [], laidByText := true, laidKinds := [.data, .data], laidTests := true, laidLooks := .later }
def ExactQuotsCardSaid : Prop := Claim7.holds Tryd.pinned (.plain (OpenSpec.ofChange exactQuotsSpec)) exactQuotsCard

/-- THE TIED CARD OF 'pupillaw2.ExactRoots'. -/
def exactRootsCard : Claim7 := { stood := { row := exactRootsRow, standIns := [], harness := (true, "547bfde864ff63a5e0ce212c12e89afcbb22cc0d351b6ca9da9fb8035031af55"), looks := false }, kinds := [], alts := [], laidByText := true, laidKinds := [.data, .data], laidTests := true, laidLooks := .later }
def ExactRootsCardSaid : Prop := Claim7.holds Tryd.pinned (.plain (OpenSpec.ofChange exactRootsSpec)) exactRootsCard

/-- THE SECOND FORM's CARD OF 'pupillaw2.ExactRounds'. -/
def exactRoundsUptoCard : Claim7 := { stood := { row := exactRoundsUptoRow, standIns := [], harness := (true, "547bfde864ff63a5e0ce212c12e89afcbb22cc0d351b6ca9da9fb8035031af55"), looks := false }, kinds := [], alts := [], laidByText := true, laidKinds := [.data, .data], laidTests := true, laidLooks := .later }
def ExactRoundsUptoCardSaid : Prop := Claim7.holds Tryd.pinned (.plain (OpenSpec.upto exactRoundsSpec)) exactRoundsUptoCard

/-- THE SECOND FORM's CARD OF 'pupillaw2.ExactBetween'. -/
def exactBetweenUptoCard : Claim7 := { stood := { row := exactBetweenUptoRow, standIns := [], harness := (true, "547bfde864ff63a5e0ce212c12e89afcbb22cc0d351b6ca9da9fb8035031af55"), looks := false }, kinds := [], alts := [], laidByText := true, laidKinds := [.data, .data], laidTests := true, laidLooks := .later }
def ExactBetweenUptoCardSaid : Prop := Claim7.holds Tryd.pinned (.plain (OpenSpec.upto exactBetweenSpec)) exactBetweenUptoCard

/-- THE SECOND FORM's CARD OF 'pupillaw2.ExactMirrors'. -/
def exactMirrorsUptoCard : Claim7 := { stood := { row := exactMirrorsUptoRow, standIns := [], harness := (true, "547bfde864ff63a5e0ce212c12e89afcbb22cc0d351b6ca9da9fb8035031af55"), looks := false }, kinds := [], alts := [], laidByText := true, laidKinds := [.data, .data], laidTests := true, laidLooks := .later }
def ExactMirrorsUptoCardSaid : Prop := Claim7.holds Tryd.pinned (.plain (OpenSpec.upto exactMirrorsSpec)) exactMirrorsUptoCard

/-- THE SECOND FORM's CARD OF 'pupillaw2.ExactQuots'. -/
def exactQuotsUptoCard : Claim7 := { stood := { row := exactQuotsUptoRow, standIns := [], harness := (true, "547bfde864ff63a5e0ce212c12e89afcbb22cc0d351b6ca9da9fb8035031af55"), looks := false }, kinds := [], alts := [], laidByText := true, laidKinds := [.data, .data], laidTests := true, laidLooks := .later }
def ExactQuotsUptoCardSaid : Prop := Claim7.holds Tryd.pinned (.plain (OpenSpec.upto exactQuotsSpec)) exactQuotsUptoCard

/-- THE SECOND FORM's CARD OF 'pupillaw2.ExactRoots'. -/
def exactRootsUptoCard : Claim7 := { stood := { row := exactRootsUptoRow, standIns := [], harness := (true, "547bfde864ff63a5e0ce212c12e89afcbb22cc0d351b6ca9da9fb8035031af55"), looks := false }, kinds := [], alts := [], laidByText := true, laidKinds := [.data, .data], laidTests := true, laidLooks := .later }
def ExactRootsUptoCardSaid : Prop := Claim7.holds Tryd.pinned (.plain (OpenSpec.upto exactRootsSpec)) exactRootsUptoCard
end Rows
end Go.Proofs.YtbheglkpmgmkoaaDoor
