/-
  No cell of these rows narrows 'for every input' (looked for: loops, veiled, ifaces, maps, wideKeys, modest, calm, conditions, laid).
  DERIVED. THE GIVEN ROWS OF THIS SEAT. 4 by the template 'for every input the law returns true; each argument reads behind the call as it read before'; 0 by the template 'total and deterministic' (their statements: YtebjkfecijeehabTotals.lean).
  GIVEN WITH THE SEED: the statements are not yours to turn. If you find one false, say at which input.
  Laid BY PROGRAM, IN A SANDBOX (cutbox-rows.mjs): the forced cells as the released guide's own fill.sh prints them over the translation d87a97aa4595a076… (all of the seat's roots in one cut). By AI agents, Wed Nov 11 2026. No macro, syntax, notation, axiom, sorry.
-/
import Derived.Test.YtebjkfecijeehabChecked
import GoSem.Claim
import GoSem.ClaimJoined
import GoSem.ClaimMapViews
import Derived.JoinedTies
import Derived.KernelRfl
namespace Go.Proofs.Ytebjkfecijeehab
/- THE CELL 'sum', in the pinned program and in every row, IS THE sha256 OF THE DUMP (.gsa) THAT YtebjkfecijeehabProg.lean LOADS. Nothing in Lean hashes anything: it is a label: what it is worth is what the hold of that sum in a sandbox is worth. -/
noncomputable def Try.pinned : Pinned := { name := "ytebjkfecijeehab", sum := "d87a97aa4595a0760048b2dd2a9721263c703090a0ce90c293cbce04de6783b6", checked := Try.checked }
namespace Rows
def none {H : Type} : Left H := { results := [], args := [] }

/-- 'pupillaw1.BitsFloats': WHATEVER THE INPUT: true; the input reads as it did. -/
def bitsFloatsSpec : ChangeSpec := { name := "bitsFloats", fn := fun _ => fun
  | [d] => { results := [.lit (.bool true)], args := [d] }
  | _ => none }
def bitsFloatsRow : OpenClaim := { program := "ytebjkfecijeehab", sum := "d87a97aa4595a0760048b2dd2a9721263c703090a0ce90c293cbce04de6783b6", func := "pupil/pupillaw1.BitsFloats", spec := "bitsFloats", inPlace := ["math.Float64frombits", "math.Float32frombits", "math.sqrt", "math.Float32bits", "math.Float64bits"], apart := false }
def BitsFloatsSaid : Prop := bitsFloatsRow.holds Try.pinned (OpenSpec.ofChange bitsFloatsSpec)

/-- ITS FALSE NEIGHBOUR: 'it returns false'. Refute it at one input. -/
def bitsFloatsWrong : ChangeSpec := { name := "bitsFloats", fn := fun _ => fun
  | [d] => { results := [.lit (.bool false)], args := [d] }
  | _ => none }
def BitsFloatsWrongFalsely : Prop := bitsFloatsRow.holds Try.pinned (OpenSpec.ofChange bitsFloatsWrong)

/-- 'pupillaw1.BitsNext': WHATEVER THE INPUT: true; the input reads as it did. -/
def bitsNextSpec : ChangeSpec := { name := "bitsNext", fn := fun _ => fun
  | [d1, d2, d3] => { results := [.lit (.bool true)], args := [d1, d2, d3] }
  | _ => none }
def bitsNextRow : OpenClaim := { program := "ytebjkfecijeehab", sum := "d87a97aa4595a0760048b2dd2a9721263c703090a0ce90c293cbce04de6783b6", func := "pupil/pupillaw1.BitsNext", spec := "bitsNext", inPlace := ["math.Float32frombits", "math.sqrt", "math.Float32bits", "math.Float64frombits", "math.Float64bits"], apart := false }
def BitsNextSaid : Prop := bitsNextRow.holds Try.pinned (OpenSpec.ofChange bitsNextSpec)

/-- ITS FALSE NEIGHBOUR: 'it returns false'. Refute it at one input. -/
def bitsNextWrong : ChangeSpec := { name := "bitsNext", fn := fun _ => fun
  | [d1, d2, d3] => { results := [.lit (.bool false)], args := [d1, d2, d3] }
  | _ => none }
def BitsNextWrongFalsely : Prop := bitsNextRow.holds Try.pinned (OpenSpec.ofChange bitsNextWrong)

/-- 'pupillaw1.BitsChain': WHATEVER THE INPUT: true; the input reads as it did. -/
def bitsChainSpec : ChangeSpec := { name := "bitsChain", fn := fun _ => fun
  | [d1, d2, d3, d4] => { results := [.lit (.bool true)], args := [d1, d2, d3, d4] }
  | _ => none }
def bitsChainRow : OpenClaim := { program := "ytebjkfecijeehab", sum := "d87a97aa4595a0760048b2dd2a9721263c703090a0ce90c293cbce04de6783b6", func := "pupil/pupillaw1.BitsChain", spec := "bitsChain", inPlace := ["math.Float32frombits", "math.sqrt", "math.Float32bits", "math.Float64frombits", "math.Float64bits"], apart := false }
def BitsChainSaid : Prop := bitsChainRow.holds Try.pinned (OpenSpec.ofChange bitsChainSpec)

/-- ITS FALSE NEIGHBOUR: 'it returns false'. Refute it at one input. -/
def bitsChainWrong : ChangeSpec := { name := "bitsChain", fn := fun _ => fun
  | [d1, d2, d3, d4] => { results := [.lit (.bool false)], args := [d1, d2, d3, d4] }
  | _ => none }
def BitsChainWrongFalsely : Prop := bitsChainRow.holds Try.pinned (OpenSpec.ofChange bitsChainWrong)

/-- 'pupillaw1.BitsOwn': WHATEVER THE INPUT: true; the input reads as it did. -/
def bitsOwnSpec : ChangeSpec := { name := "bitsOwn", fn := fun _ => fun
  | [d1, d2, d3] => { results := [.lit (.bool true)], args := [d1, d2, d3] }
  | _ => none }
def bitsOwnRow : OpenClaim := { program := "ytebjkfecijeehab", sum := "d87a97aa4595a0760048b2dd2a9721263c703090a0ce90c293cbce04de6783b6", func := "pupil/pupillaw1.BitsOwn", spec := "bitsOwn", inPlace := ["math.Float64frombits", "math.Float32frombits", "math.sqrt", "math.Float32bits", "math.Float64bits"], apart := false }
def BitsOwnSaid : Prop := bitsOwnRow.holds Try.pinned (OpenSpec.ofChange bitsOwnSpec)

/-- ITS FALSE NEIGHBOUR: 'it returns false'. Refute it at one input. -/
def bitsOwnWrong : ChangeSpec := { name := "bitsOwn", fn := fun _ => fun
  | [d1, d2, d3] => { results := [.lit (.bool false)], args := [d1, d2, d3] }
  | _ => none }
def BitsOwnWrongFalsely : Prop := bitsOwnRow.holds Try.pinned (OpenSpec.ofChange bitsOwnWrong)

/- THE SECOND FORM. 'bulk': how many values and letters a reading holds, each counted each time it is reached (what is shared counts as often as it is met; a slice's spare places count too). A statement '..UptoSaid' is the law's where the arguments, and the package variables that the reading takes, are together of bulk at most 1048576: NARROWER than '..Said'. Prove '..Said' where nothing that the law and all that it calls make is longer than what came in: it says more and counts as full. Else prove '..UptoSaid'. A law counts once. -/
mutual
def uptoBulk {H : Type} : DataW H → Nat
  | .lit (.string bytes) => bytes.length + 1
  | .lit _ => 1
  | .nil => 1
  | .ptr d => uptoBulk d + 1
  | .slice elems spare => uptoBulkAll elems + uptoBulkAll spare + 1
  | .agg parts => uptoBulkAll parts + 1
  | .iface _ d => uptoBulk d + 1
  | .map entries => uptoBulkEntries entries + 1
  | .held _ => 1
def uptoBulkAll {H : Type} : List (DataW H) → Nat
  | [] => 0
  | d :: r => uptoBulk d + uptoBulkAll r
def uptoBulkEntries {H : Type} : List (Lit × DataW H) → Nat
  | [] => 0
  | x :: r => uptoBulkEntry x + uptoBulkEntries r
def uptoBulkEntry {H : Type} : Lit × DataW H → Nat
  | (.string bytes, d) => bytes.length + uptoBulk d + 1
  | (_, d) => uptoBulk d + 1
 end
def uptoSmall : (H : Type) → List (DataW H) → Bool := fun _ ds => decide (uptoBulkAll ds ≤ 1048576)
def OpenSpec.upto (s : _root_.Go.ChangeSpec) : _root_.Go.OpenSpec := { _root_.Go.OpenSpec.ofChange s with cond := some uptoSmall }

/-- 'pupillaw1.BitsFloats', WHERE WHAT IT READS IS OF BULK AT MOST 1048576: true; the input reads as it did. -/
def bitsFloatsUptoRow : OpenClaim := { program := "ytebjkfecijeehab", sum := "d87a97aa4595a0760048b2dd2a9721263c703090a0ce90c293cbce04de6783b6", func := "pupil/pupillaw1.BitsFloats", spec := "bitsFloats", inPlace := ["math.Float64frombits", "math.Float32frombits", "math.sqrt", "math.Float32bits", "math.Float64bits"], apart := false, narrowed := true }
def BitsFloatsUptoSaid : Prop := bitsFloatsUptoRow.holds Try.pinned (OpenSpec.upto bitsFloatsSpec)

/-- 'pupillaw1.BitsNext', WHERE WHAT IT READS IS OF BULK AT MOST 1048576: true; the input reads as it did. -/
def bitsNextUptoRow : OpenClaim := { program := "ytebjkfecijeehab", sum := "d87a97aa4595a0760048b2dd2a9721263c703090a0ce90c293cbce04de6783b6", func := "pupil/pupillaw1.BitsNext", spec := "bitsNext", inPlace := ["math.Float32frombits", "math.sqrt", "math.Float32bits", "math.Float64frombits", "math.Float64bits"], apart := false, narrowed := true }
def BitsNextUptoSaid : Prop := bitsNextUptoRow.holds Try.pinned (OpenSpec.upto bitsNextSpec)

/-- 'pupillaw1.BitsChain', WHERE WHAT IT READS IS OF BULK AT MOST 1048576: true; the input reads as it did. -/
def bitsChainUptoRow : OpenClaim := { program := "ytebjkfecijeehab", sum := "d87a97aa4595a0760048b2dd2a9721263c703090a0ce90c293cbce04de6783b6", func := "pupil/pupillaw1.BitsChain", spec := "bitsChain", inPlace := ["math.Float32frombits", "math.sqrt", "math.Float32bits", "math.Float64frombits", "math.Float64bits"], apart := false, narrowed := true }
def BitsChainUptoSaid : Prop := bitsChainUptoRow.holds Try.pinned (OpenSpec.upto bitsChainSpec)

/-- 'pupillaw1.BitsOwn', WHERE WHAT IT READS IS OF BULK AT MOST 1048576: true; the input reads as it did. -/
def bitsOwnUptoRow : OpenClaim := { program := "ytebjkfecijeehab", sum := "d87a97aa4595a0760048b2dd2a9721263c703090a0ce90c293cbce04de6783b6", func := "pupil/pupillaw1.BitsOwn", spec := "bitsOwn", inPlace := ["math.Float64frombits", "math.Float32frombits", "math.sqrt", "math.Float32bits", "math.Float64bits"], apart := false, narrowed := true }
def BitsOwnUptoSaid : Prop := bitsOwnUptoRow.holds Try.pinned (OpenSpec.upto bitsOwnSpec)

end Rows
end Go.Proofs.Ytebjkfecijeehab
