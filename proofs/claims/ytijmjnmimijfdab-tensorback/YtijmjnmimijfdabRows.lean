/-
  No cell of these rows narrows 'for every input' (looked for: loops, veiled, ifaces, maps, wideKeys, modest, calm, conditions, laid).
  DERIVED. THE GIVEN ROWS OF THIS SEAT. 3 by the template 'for every input the law returns true; each argument reads behind the call as it read before'; 0 by the template 'total and deterministic' (their statements: YtijmjnmimijfdabTotals.lean).
  GIVEN WITH THE SEED: the statements are not yours to turn. If you find one false, say at which input.
  Laid BY PROGRAM, IN A SANDBOX (cutbox-rows.mjs): the forced cells as the released guide's own fill.sh prints them over the translation 1008a5b874cac747… (all of the seat's roots in one cut). By AI agents, Wed Nov 11 2026. No macro, syntax, notation, axiom, sorry.
-/
import Derived.Test.YtijmjnmimijfdabChecked
import GoSem.Claim
import GoSem.ClaimJoined
import GoSem.ClaimMapViews
import Derived.JoinedTies
import Derived.KernelRfl
namespace Go.Proofs.Ytijmjnmimijfdab
/- THE CELL 'sum', in the pinned program and in every row, IS THE sha256 OF THE DUMP (.gsa) THAT YtijmjnmimijfdabProg.lean LOADS. Nothing in Lean hashes anything: it is a label: what it is worth is what the hold of that sum in a sandbox is worth. -/
noncomputable def Try.pinned : Pinned := { name := "ytijmjnmimijfdab", sum := "1008a5b874cac7474d18ce242f31dd6a29e1effdbb9a44a7e7395f1b312f1333", checked := Try.checked }
namespace Rows
def none {H : Type} : Left H := { results := [], args := [] }

/-- 'pupillaw7.TensorConverts': WHATEVER THE INPUT: true; the input reads as it did. -/
def tensorConvertsSpec : ChangeSpec := { name := "tensorConverts", fn := fun _ => fun
  | [d1, d2, d3] => { results := [.lit (.bool true)], args := [d1, d2, d3] }
  | _ => none }
def tensorConvertsRow : OpenClaim := { program := "ytijmjnmimijfdab", sum := "1008a5b874cac7474d18ce242f31dd6a29e1effdbb9a44a7e7395f1b312f1333", func := "pupil/pupillaw7.TensorConverts", spec := "tensorConverts", inPlace := ["math.Float32frombits", "math.Float64frombits", "math.Float32bits", "math.Float64bits"], unfollowed := true, recurses := true, apart := false }
def TensorConvertsSaid : Prop := tensorConvertsRow.holds Try.pinned (OpenSpec.ofChange tensorConvertsSpec)

/-- ITS FALSE NEIGHBOUR: 'it returns false'. Refute it at one input. -/
def tensorConvertsWrong : ChangeSpec := { name := "tensorConverts", fn := fun _ => fun
  | [d1, d2, d3] => { results := [.lit (.bool false)], args := [d1, d2, d3] }
  | _ => none }
def TensorConvertsWrongFalsely : Prop := tensorConvertsRow.holds Try.pinned (OpenSpec.ofChange tensorConvertsWrong)

/-- 'pupillaw7.TensorBack': WHATEVER THE INPUT: true; the input reads as it did. -/
def tensorBackSpec : ChangeSpec := { name := "tensorBack", fn := fun _ => fun
  | [d1, d2] => { results := [.lit (.bool true)], args := [d1, d2] }
  | _ => none }
def tensorBackRow : OpenClaim := { program := "ytijmjnmimijfdab", sum := "1008a5b874cac7474d18ce242f31dd6a29e1effdbb9a44a7e7395f1b312f1333", func := "pupil/pupillaw7.TensorBack", spec := "tensorBack", inPlace := ["math.Float32frombits", "math.Float64frombits", "math.Float32bits", "math.Float64bits"], unfollowed := true, recurses := true, apart := false }
def TensorBackSaid : Prop := tensorBackRow.holds Try.pinned (OpenSpec.ofChange tensorBackSpec)

/-- ITS FALSE NEIGHBOUR: 'it returns false'. Refute it at one input. -/
def tensorBackWrong : ChangeSpec := { name := "tensorBack", fn := fun _ => fun
  | [d1, d2] => { results := [.lit (.bool false)], args := [d1, d2] }
  | _ => none }
def TensorBackWrongFalsely : Prop := tensorBackRow.holds Try.pinned (OpenSpec.ofChange tensorBackWrong)

/-- 'pupillaw7.TensorHeld': WHATEVER THE INPUT: true; the input reads as it did. -/
def tensorHeldSpec : ChangeSpec := { name := "tensorHeld", fn := fun _ => fun
  | [d1, d2] => { results := [.lit (.bool true)], args := [d1, d2] }
  | _ => none }
def tensorHeldRow : OpenClaim := { program := "ytijmjnmimijfdab", sum := "1008a5b874cac7474d18ce242f31dd6a29e1effdbb9a44a7e7395f1b312f1333", func := "pupil/pupillaw7.TensorHeld", spec := "tensorHeld", inPlace := ["math.Float32frombits", "math.Float64frombits", "math.Float32bits", "math.Float64bits"], unfollowed := true, recurses := true, apart := false }
def TensorHeldSaid : Prop := tensorHeldRow.holds Try.pinned (OpenSpec.ofChange tensorHeldSpec)

/-- ITS FALSE NEIGHBOUR: 'it returns false'. Refute it at one input. -/
def tensorHeldWrong : ChangeSpec := { name := "tensorHeld", fn := fun _ => fun
  | [d1, d2] => { results := [.lit (.bool false)], args := [d1, d2] }
  | _ => none }
def TensorHeldWrongFalsely : Prop := tensorHeldRow.holds Try.pinned (OpenSpec.ofChange tensorHeldWrong)

/- THE SECOND FORM. 'bulk': how many values and letters a reading holds, each counted each time it is reached (what is shared counts as often as it is met; a slice's spare places count too). A statement '..UptoSaid' is the law's where the arguments, and the package variables that the reading takes, are together of bulk at most 1048576: NARROWER than '..Said'. Prove '..Said' where nothing that the law and all that it calls make is longer than what came in: it says more and counts as full. Else prove '..UptoSaid'. A law counts once. -/
mutual
def uptoBulk {H : Type} : DataW H → Nat
  | .lit (.string bytes) => bytes.length + 1
  | .lit _ => 1
  | .nil => 1
  | .ptr d => uptoBulk d + 1
  | .slice elems spare => uptoBulkAll elems + uptoBulkAll spare + 1
  | .agg parts => uptoBulkAll parts + 1
  | .iface _ d => uptoBulk d + 1
  | .map entries => uptoBulkEntries entries + 1
  | .held _ => 1
def uptoBulkAll {H : Type} : List (DataW H) → Nat
  | [] => 0
  | d :: r => uptoBulk d + uptoBulkAll r
def uptoBulkEntries {H : Type} : List (Lit × DataW H) → Nat
  | [] => 0
  | x :: r => uptoBulkEntry x + uptoBulkEntries r
def uptoBulkEntry {H : Type} : Lit × DataW H → Nat
  | (.string bytes, d) => bytes.length + uptoBulk d + 1
  | (_, d) => uptoBulk d + 1
 end
def uptoSmall : (H : Type) → List (DataW H) → Bool := fun _ ds => decide (uptoBulkAll ds ≤ 1048576)
def OpenSpec.upto (s : _root_.Go.ChangeSpec) : _root_.Go.OpenSpec := { _root_.Go.OpenSpec.ofChange s with cond := some uptoSmall }

/-- 'pupillaw7.TensorConverts', WHERE WHAT IT READS IS OF BULK AT MOST 1048576: true; the input reads as it did. -/
def tensorConvertsUptoRow : OpenClaim := { program := "ytijmjnmimijfdab", sum := "1008a5b874cac7474d18ce242f31dd6a29e1effdbb9a44a7e7395f1b312f1333", func := "pupil/pupillaw7.TensorConverts", spec := "tensorConverts", inPlace := ["math.Float32frombits", "math.Float64frombits", "math.Float32bits", "math.Float64bits"], unfollowed := true, recurses := true, apart := false, narrowed := true }
def TensorConvertsUptoSaid : Prop := tensorConvertsUptoRow.holds Try.pinned (OpenSpec.upto tensorConvertsSpec)

/-- 'pupillaw7.TensorBack', WHERE WHAT IT READS IS OF BULK AT MOST 1048576: true; the input reads as it did. -/
def tensorBackUptoRow : OpenClaim := { program := "ytijmjnmimijfdab", sum := "1008a5b874cac7474d18ce242f31dd6a29e1effdbb9a44a7e7395f1b312f1333", func := "pupil/pupillaw7.TensorBack", spec := "tensorBack", inPlace := ["math.Float32frombits", "math.Float64frombits", "math.Float32bits", "math.Float64bits"], unfollowed := true, recurses := true, apart := false, narrowed := true }
def TensorBackUptoSaid : Prop := tensorBackUptoRow.holds Try.pinned (OpenSpec.upto tensorBackSpec)

/-- 'pupillaw7.TensorHeld', WHERE WHAT IT READS IS OF BULK AT MOST 1048576: true; the input reads as it did. -/
def tensorHeldUptoRow : OpenClaim := { program := "ytijmjnmimijfdab", sum := "1008a5b874cac7474d18ce242f31dd6a29e1effdbb9a44a7e7395f1b312f1333", func := "pupil/pupillaw7.TensorHeld", spec := "tensorHeld", inPlace := ["math.Float32frombits", "math.Float64frombits", "math.Float32bits", "math.Float64bits"], unfollowed := true, recurses := true, apart := false, narrowed := true }
def TensorHeldUptoSaid : Prop := tensorHeldUptoRow.holds Try.pinned (OpenSpec.upto tensorHeldSpec)

end Rows
end Go.Proofs.Ytijmjnmimijfdab
