/-
  DERIVED. GIVEN WITH THE SEED: THE CARDS: each row of YtalhnaakbekboaaDoorRows.lean that lists a variable, with what it lists TIED to the program's text (the seventh form; the later family's looks); each row that meets fmt, with fmt's text TOLD by the authors' own Lean function (tested against real Go, not proved from fmt's source: count such statements apart). THE CARD IS WHAT COUNTS. Prove the row's statement (the work); the ties are given (YtalhnaakbekboaaDoorTie.lean); close each card by the builder's one call (the guide's Derived/Test/ToyasCard.lean, 'card_holds'). Laid BY PROGRAM, IN A SANDBOX (cutbox-door.mjs). By AI agents, Wed Nov 11 2026. No macro, syntax, notation, axiom, sorry.
-/
import Derived.Test.YtalhnaakbekboaaDoorRows
import GoSem.ClaimSeven
namespace Go.Proofs.YtalhnaakbekboaaDoor
namespace Rows

/-- THE TIED CARD OF 'pupillaw5.SpanTight'. -/
def spanTightCard : Claim7 := { stood := { row := spanTightRow, standIns := [], harness := (true, "2847134394a1d8a1d35b41356964082d782c8e2839984e39262fc9519feb523f"), looks := false }, kinds := [], alts := [], laidByText := true, laidKinds := [.data, .data], laidTests := true, laidLooks := .later }
def SpanTightCardSaid : Prop := Claim7.holds Tryd.pinned (.plain (OpenSpec.ofChange spanTightSpec)) spanTightCard

/-- THE TIED CARD OF 'pupillaw5.SpanLess'. -/
def spanLessCard : Claim7 := { stood := { row := spanLessRow, standIns := [], harness := (true, "2847134394a1d8a1d35b41356964082d782c8e2839984e39262fc9519feb523f"), looks := false }, kinds := [], alts := [], laidByText := true, laidKinds := [.data, .data], laidTests := true, laidLooks := .later }
def SpanLessCardSaid : Prop := Claim7.holds Tryd.pinned (.plain (OpenSpec.ofChange spanLessSpec)) spanLessCard

/-- THE TIED CARD OF 'pupillaw5.SpanMeets'. -/
def spanMeetsCard : Claim7 := { stood := { row := spanMeetsRow, standIns := [], harness := (true, "2847134394a1d8a1d35b41356964082d782c8e2839984e39262fc9519feb523f"), looks := false }, kinds := [], alts := [], laidByText := true, laidKinds := [.data, .data], laidTests := true, laidLooks := .later }
def SpanMeetsCardSaid : Prop := Claim7.holds Tryd.pinned (.plain (OpenSpec.ofChange spanMeetsSpec)) spanMeetsCard

/-- THE SECOND FORM's CARD OF 'pupillaw5.SpanTight'. -/
def spanTightUptoCard : Claim7 := { stood := { row := spanTightUptoRow, standIns := [], harness := (true, "2847134394a1d8a1d35b41356964082d782c8e2839984e39262fc9519feb523f"), looks := false }, kinds := [], alts := [], laidByText := true, laidKinds := [.data, .data], laidTests := true, laidLooks := .later }
def SpanTightUptoCardSaid : Prop := Claim7.holds Tryd.pinned (.plain (OpenSpec.upto spanTightSpec)) spanTightUptoCard

/-- THE SECOND FORM's CARD OF 'pupillaw5.SpanLess'. -/
def spanLessUptoCard : Claim7 := { stood := { row := spanLessUptoRow, standIns := [], harness := (true, "2847134394a1d8a1d35b41356964082d782c8e2839984e39262fc9519feb523f"), looks := false }, kinds := [], alts := [], laidByText := true, laidKinds := [.data, .data], laidTests := true, laidLooks := .later }
def SpanLessUptoCardSaid : Prop := Claim7.holds Tryd.pinned (.plain (OpenSpec.upto spanLessSpec)) spanLessUptoCard

/-- THE SECOND FORM's CARD OF 'pupillaw5.SpanMeets'. -/
def spanMeetsUptoCard : Claim7 := { stood := { row := spanMeetsUptoRow, standIns := [], harness := (true, "2847134394a1d8a1d35b41356964082d782c8e2839984e39262fc9519feb523f"), looks := false }, kinds := [], alts := [], laidByText := true, laidKinds := [.data, .data], laidTests := true, laidLooks := .later }
def SpanMeetsUptoCardSaid : Prop := Claim7.holds Tryd.pinned (.plain (OpenSpec.upto spanMeetsSpec)) spanMeetsUptoCard
end Rows
end Go.Proofs.YtalhnaakbekboaaDoor
