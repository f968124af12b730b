/-
  No cell of these rows narrows 'for every input' (looked for: loops, veiled, ifaces, maps, wideKeys, modest, calm, conditions, laid).
  DERIVED. THE GIVEN ROWS OF THIS SEAT. 5 by the template 'for every input the law returns true; each argument reads behind the call as it read before'; 0 by the template 'total and deterministic' (their statements: YtebjkfecijeehaaTotals.lean).
  GIVEN WITH THE SEED: the statements are not yours to turn. If you find one false, say at which input.
  Laid BY PROGRAM, IN A SANDBOX (cutbox-rows.mjs): the forced cells as the released guide's own fill.sh prints them over the translation e4fa626f898a4dcd… (all of the seat's roots in one cut). By AI agents, Wed Nov 11 2026. No macro, syntax, notation, axiom, sorry.
-/
import Derived.Test.YtebjkfecijeehaaChecked
import GoSem.Claim
import GoSem.ClaimJoined
import GoSem.ClaimMapViews
import Derived.JoinedTies
import Derived.KernelRfl
namespace Go.Proofs.Ytebjkfecijeehaa
/- THE CELL 'sum', in the pinned program and in every row, IS THE sha256 OF THE DUMP (.gsa) THAT YtebjkfecijeehaaProg.lean LOADS. Nothing in Lean hashes anything: it is a label: what it is worth is what the hold of that sum in a sandbox is worth. -/
noncomputable def Try.pinned : Pinned := { name := "ytebjkfecijeehaa", sum := "e4fa626f898a4dcdb1fccab8110ba32522586b137d67c4f7cc0fb13d7e89ed9e", checked := Try.checked }
namespace Rows
def none {H : Type} : Left H := { results := [], args := [] }

/-- 'pupillaw1.BitsParts': WHATEVER THE INPUT: true; the input reads as it did. -/
def bitsPartsSpec : ChangeSpec := { name := "bitsParts", fn := fun _ => fun
  | [d1, d2] => { results := [.lit (.bool true)], args := [d1, d2] }
  | _ => none }
def bitsPartsRow : OpenClaim := { program := "ytebjkfecijeehaa", sum := "e4fa626f898a4dcdb1fccab8110ba32522586b137d67c4f7cc0fb13d7e89ed9e", func := "pupil/pupillaw1.BitsParts", spec := "bitsParts", inPlace := ["math.Float32frombits", "math.sqrt", "math.Float32bits", "math.Float64frombits", "math.Float64bits"], apart := false }
def BitsPartsSaid : Prop := bitsPartsRow.holds Try.pinned (OpenSpec.ofChange bitsPartsSpec)

/-- ITS FALSE NEIGHBOUR: 'it returns false'. Refute it at one input. -/
def bitsPartsWrong : ChangeSpec := { name := "bitsParts", fn := fun _ => fun
  | [d1, d2] => { results := [.lit (.bool false)], args := [d1, d2] }
  | _ => none }
def BitsPartsWrongFalsely : Prop := bitsPartsRow.holds Try.pinned (OpenSpec.ofChange bitsPartsWrong)

/-- 'pupillaw1.BitsTurns': WHATEVER THE INPUT: true; the input reads as it did. -/
def bitsTurnsSpec : ChangeSpec := { name := "bitsTurns", fn := fun _ => fun
  | [d1, d2] => { results := [.lit (.bool true)], args := [d1, d2] }
  | _ => none }
def bitsTurnsRow : OpenClaim := { program := "ytebjkfecijeehaa", sum := "e4fa626f898a4dcdb1fccab8110ba32522586b137d67c4f7cc0fb13d7e89ed9e", func := "pupil/pupillaw1.BitsTurns", spec := "bitsTurns", inPlace := ["math.Float32frombits", "math.sqrt", "math.Float32bits", "math.Float64frombits", "math.Float64bits"], apart := false }
def BitsTurnsSaid : Prop := bitsTurnsRow.holds Try.pinned (OpenSpec.ofChange bitsTurnsSpec)

/-- ITS FALSE NEIGHBOUR: 'it returns false'. Refute it at one input. -/
def bitsTurnsWrong : ChangeSpec := { name := "bitsTurns", fn := fun _ => fun
  | [d1, d2] => { results := [.lit (.bool false)], args := [d1, d2] }
  | _ => none }
def BitsTurnsWrongFalsely : Prop := bitsTurnsRow.holds Try.pinned (OpenSpec.ofChange bitsTurnsWrong)

/-- 'pupillaw1.BitsOrder': WHATEVER THE INPUT: true; the input reads as it did. -/
def bitsOrderSpec : ChangeSpec := { name := "bitsOrder", fn := fun _ => fun
  | [d1, d2, d3] => { results := [.lit (.bool true)], args := [d1, d2, d3] }
  | _ => none }
def bitsOrderRow : OpenClaim := { program := "ytebjkfecijeehaa", sum := "e4fa626f898a4dcdb1fccab8110ba32522586b137d67c4f7cc0fb13d7e89ed9e", func := "pupil/pupillaw1.BitsOrder", spec := "bitsOrder", inPlace := ["math.Float32frombits", "math.sqrt", "math.Float32bits", "math.Float64frombits", "math.Float64bits"], apart := false }
def BitsOrderSaid : Prop := bitsOrderRow.holds Try.pinned (OpenSpec.ofChange bitsOrderSpec)

/-- ITS FALSE NEIGHBOUR: 'it returns false'. Refute it at one input. -/
def bitsOrderWrong : ChangeSpec := { name := "bitsOrder", fn := fun _ => fun
  | [d1, d2, d3] => { results := [.lit (.bool false)], args := [d1, d2, d3] }
  | _ => none }
def BitsOrderWrongFalsely : Prop := bitsOrderRow.holds Try.pinned (OpenSpec.ofChange bitsOrderWrong)

/-- 'pupillaw1.BitsSingles': WHATEVER THE INPUT: true; the input reads as it did. -/
def bitsSinglesSpec : ChangeSpec := { name := "bitsSingles", fn := fun _ => fun
  | [d1, d2, d3, d4] => { results := [.lit (.bool true)], args := [d1, d2, d3, d4] }
  | _ => none }
def bitsSinglesRow : OpenClaim := { program := "ytebjkfecijeehaa", sum := "e4fa626f898a4dcdb1fccab8110ba32522586b137d67c4f7cc0fb13d7e89ed9e", func := "pupil/pupillaw1.BitsSingles", spec := "bitsSingles", inPlace := ["math.Float32frombits", "math.sqrt", "math.Float32bits", "math.Float64frombits", "math.Float64bits", "math.FMA"], apart := false }
def BitsSinglesSaid : Prop := bitsSinglesRow.holds Try.pinned (OpenSpec.ofChange bitsSinglesSpec)

/-- ITS FALSE NEIGHBOUR: 'it returns false'. Refute it at one input. -/
def bitsSinglesWrong : ChangeSpec := { name := "bitsSingles", fn := fun _ => fun
  | [d1, d2, d3, d4] => { results := [.lit (.bool false)], args := [d1, d2, d3, d4] }
  | _ => none }
def BitsSinglesWrongFalsely : Prop := bitsSinglesRow.holds Try.pinned (OpenSpec.ofChange bitsSinglesWrong)

/-- 'pupillaw1.BitsConverts': WHATEVER THE INPUT: true; the input reads as it did. -/
def bitsConvertsSpec : ChangeSpec := { name := "bitsConverts", fn := fun _ => fun
  | [d1, d2, d3, d4] => { results := [.lit (.bool true)], args := [d1, d2, d3, d4] }
  | _ => none }
def bitsConvertsRow : OpenClaim := { program := "ytebjkfecijeehaa", sum := "e4fa626f898a4dcdb1fccab8110ba32522586b137d67c4f7cc0fb13d7e89ed9e", func := "pupil/pupillaw1.BitsConverts", spec := "bitsConverts", inPlace := ["math.Float32frombits", "math.sqrt", "math.Float32bits", "math.Float64frombits", "math.Float64bits", "math.RoundToEven"], recurses := true, apart := false }
def BitsConvertsSaid : Prop := bitsConvertsRow.holds Try.pinned (OpenSpec.ofChange bitsConvertsSpec)

/-- ITS FALSE NEIGHBOUR: 'it returns false'. Refute it at one input. -/
def bitsConvertsWrong : ChangeSpec := { name := "bitsConverts", fn := fun _ => fun
  | [d1, d2, d3, d4] => { results := [.lit (.bool false)], args := [d1, d2, d3, d4] }
  | _ => none }
def BitsConvertsWrongFalsely : Prop := bitsConvertsRow.holds Try.pinned (OpenSpec.ofChange bitsConvertsWrong)

/- THE SECOND FORM. 'bulk': how many values and letters a reading holds, each counted each time it is reached (what is shared counts as often as it is met; a slice's spare places count too). A statement '..UptoSaid' is the law's where the arguments, and the package variables that the reading takes, are together of bulk at most 1048576: NARROWER than '..Said'. Prove '..Said' where nothing that the law and all that it calls make is longer than what came in: it says more and counts as full. Else prove '..UptoSaid'. A law counts once. -/
mutual
def uptoBulk {H : Type} : DataW H → Nat
  | .lit (.string bytes) => bytes.length + 1
  | .lit _ => 1
  | .nil => 1
  | .ptr d => uptoBulk d + 1
  | .slice elems spare => uptoBulkAll elems + uptoBulkAll spare + 1
  | .agg parts => uptoBulkAll parts + 1
  | .iface _ d => uptoBulk d + 1
  | .map entries => uptoBulkEntries entries + 1
  | .held _ => 1
def uptoBulkAll {H : Type} : List (DataW H) → Nat
  | [] => 0
  | d :: r => uptoBulk d + uptoBulkAll r
def uptoBulkEntries {H : Type} : List (Lit × DataW H) → Nat
  | [] => 0
  | x :: r => uptoBulkEntry x + uptoBulkEntries r
def uptoBulkEntry {H : Type} : Lit × DataW H → Nat
  | (.string bytes, d) => bytes.length + uptoBulk d + 1
  | (_, d) => uptoBulk d + 1
 end
def uptoSmall : (H : Type) → List (DataW H) → Bool := fun _ ds => decide (uptoBulkAll ds ≤ 1048576)
def OpenSpec.upto (s : _root_.Go.ChangeSpec) : _root_.Go.OpenSpec := { _root_.Go.OpenSpec.ofChange s with cond := some uptoSmall }

/-- 'pupillaw1.BitsParts', WHERE WHAT IT READS IS OF BULK AT MOST 1048576: true; the input reads as it did. -/
def bitsPartsUptoRow : OpenClaim := { program := "ytebjkfecijeehaa", sum := "e4fa626f898a4dcdb1fccab8110ba32522586b137d67c4f7cc0fb13d7e89ed9e", func := "pupil/pupillaw1.BitsParts", spec := "bitsParts", inPlace := ["math.Float32frombits", "math.sqrt", "math.Float32bits", "math.Float64frombits", "math.Float64bits"], apart := false, narrowed := true }
def BitsPartsUptoSaid : Prop := bitsPartsUptoRow.holds Try.pinned (OpenSpec.upto bitsPartsSpec)

/-- 'pupillaw1.BitsTurns', WHERE WHAT IT READS IS OF BULK AT MOST 1048576: true; the input reads as it did. -/
def bitsTurnsUptoRow : OpenClaim := { program := "ytebjkfecijeehaa", sum := "e4fa626f898a4dcdb1fccab8110ba32522586b137d67c4f7cc0fb13d7e89ed9e", func := "pupil/pupillaw1.BitsTurns", spec := "bitsTurns", inPlace := ["math.Float32frombits", "math.sqrt", "math.Float32bits", "math.Float64frombits", "math.Float64bits"], apart := false, narrowed := true }
def BitsTurnsUptoSaid : Prop := bitsTurnsUptoRow.holds Try.pinned (OpenSpec.upto bitsTurnsSpec)

/-- 'pupillaw1.BitsOrder', WHERE WHAT IT READS IS OF BULK AT MOST 1048576: true; the input reads as it did. -/
def bitsOrderUptoRow : OpenClaim := { program := "ytebjkfecijeehaa", sum := "e4fa626f898a4dcdb1fccab8110ba32522586b137d67c4f7cc0fb13d7e89ed9e", func := "pupil/pupillaw1.BitsOrder", spec := "bitsOrder", inPlace := ["math.Float32frombits", "math.sqrt", "math.Float32bits", "math.Float64frombits", "math.Float64bits"], apart := false, narrowed := true }
def BitsOrderUptoSaid : Prop := bitsOrderUptoRow.holds Try.pinned (OpenSpec.upto bitsOrderSpec)

/-- 'pupillaw1.BitsSingles', WHERE WHAT IT READS IS OF BULK AT MOST 1048576: true; the input reads as it did. -/
def bitsSinglesUptoRow : OpenClaim := { program := "ytebjkfecijeehaa", sum := "e4fa626f898a4dcdb1fccab8110ba32522586b137d67c4f7cc0fb13d7e89ed9e", func := "pupil/pupillaw1.BitsSingles", spec := "bitsSingles", inPlace := ["math.Float32frombits", "math.sqrt", "math.Float32bits", "math.Float64frombits", "math.Float64bits", "math.FMA"], apart := false, narrowed := true }
def BitsSinglesUptoSaid : Prop := bitsSinglesUptoRow.holds Try.pinned (OpenSpec.upto bitsSinglesSpec)

/-- 'pupillaw1.BitsConverts', WHERE WHAT IT READS IS OF BULK AT MOST 1048576: true; the input reads as it did. -/
def bitsConvertsUptoRow : OpenClaim := { program := "ytebjkfecijeehaa", sum := "e4fa626f898a4dcdb1fccab8110ba32522586b137d67c4f7cc0fb13d7e89ed9e", func := "pupil/pupillaw1.BitsConverts", spec := "bitsConverts", inPlace := ["math.Float32frombits", "math.sqrt", "math.Float32bits", "math.Float64frombits", "math.Float64bits", "math.RoundToEven"], recurses := true, apart := false, narrowed := true }
def BitsConvertsUptoSaid : Prop := bitsConvertsUptoRow.holds Try.pinned (OpenSpec.upto bitsConvertsSpec)

end Rows
end Go.Proofs.Ytebjkfecijeehaa
