/-
  No cell of these rows narrows 'for every input' (looked for: loops, veiled, ifaces, maps, wideKeys, modest, calm, conditions, laid).
  DERIVED. THE GIVEN ROWS OF THIS SEAT. 5 by the template 'for every input the law returns true; each argument reads behind the call as it read before'; 0 by the template 'total and deterministic' (their statements: YtfbcdbfalopkeaaTotals.lean).
  GIVEN WITH THE SEED: the statements are not yours to turn. If you find one false, say at which input.
  Laid BY PROGRAM, IN A SANDBOX (cutbox-rows.mjs): the forced cells as the released guide's own fill.sh prints them over the translation 2a3b82c31624117b… (all of the seat's roots in one cut). By AI agents, Wed Nov 11 2026. No macro, syntax, notation, axiom, sorry.
-/
import Derived.Test.YtfbcdbfalopkeaaChecked
import GoSem.Claim
import GoSem.ClaimJoined
import GoSem.ClaimMapViews
import Derived.JoinedTies
import Derived.KernelRfl
namespace Go.Proofs.Ytfbcdbfalopkeaa
/- THE CELL 'sum', in the pinned program and in every row, IS THE sha256 OF THE DUMP (.gsa) THAT YtfbcdbfalopkeaaProg.lean LOADS. Nothing in Lean hashes anything: it is a label: what it is worth is what the hold of that sum in a sandbox is worth. -/
noncomputable def Try.pinned : Pinned := { name := "ytfbcdbfalopkeaa", sum := "2a3b82c31624117b79c6641a7188ae8fd825ae187e48eb9c20a61899e066b411", checked := Try.checked }
namespace Rows
def none {H : Type} : Left H := { results := [], args := [] }

/-- 'pupillaw23.StateBack': WHATEVER THE INPUT: true; the input reads as it did. -/
def stateBackSpec : ChangeSpec := { name := "stateBack", fn := fun _ => fun
  | [d1, d2] => { results := [.lit (.bool true)], args := [d1, d2] }
  | _ => none }
def stateBackRow : OpenClaim := { program := "ytfbcdbfalopkeaa", sum := "2a3b82c31624117b79c6641a7188ae8fd825ae187e48eb9c20a61899e066b411", func := "pupil/pupillaw23.StateBack", spec := "stateBack", inPlace := ["math.Float64frombits", "math.Float32frombits", "math.Float64bits"], unfollowed := true, recurses := true, apart := false }
def StateBackSaid : Prop := stateBackRow.holds Try.pinned (OpenSpec.ofChange stateBackSpec)

/-- ITS FALSE NEIGHBOUR: 'it returns false'. Refute it at one input. -/
def stateBackWrong : ChangeSpec := { name := "stateBack", fn := fun _ => fun
  | [d1, d2] => { results := [.lit (.bool false)], args := [d1, d2] }
  | _ => none }
def StateBackWrongFalsely : Prop := stateBackRow.holds Try.pinned (OpenSpec.ofChange stateBackWrong)

/-- 'pupillaw23.StateCut': WHATEVER THE INPUT: true; the input reads as it did. -/
def stateCutSpec : ChangeSpec := { name := "stateCut", fn := fun _ => fun
  | [d1, d2] => { results := [.lit (.bool true)], args := [d1, d2] }
  | _ => none }
def stateCutRow : OpenClaim := { program := "ytfbcdbfalopkeaa", sum := "2a3b82c31624117b79c6641a7188ae8fd825ae187e48eb9c20a61899e066b411", func := "pupil/pupillaw23.StateCut", spec := "stateCut", inPlace := ["math.Float64frombits", "math.Float32frombits", "math.Float64bits"], unfollowed := true, recurses := true, apart := false }
def StateCutSaid : Prop := stateCutRow.holds Try.pinned (OpenSpec.ofChange stateCutSpec)

/-- ITS FALSE NEIGHBOUR: 'it returns false'. Refute it at one input. -/
def stateCutWrong : ChangeSpec := { name := "stateCut", fn := fun _ => fun
  | [d1, d2] => { results := [.lit (.bool false)], args := [d1, d2] }
  | _ => none }
def StateCutWrongFalsely : Prop := stateCutRow.holds Try.pinned (OpenSpec.ofChange stateCutWrong)

/-- 'pupillaw23.StateTurned': WHATEVER THE INPUT: true; the input reads as it did. -/
def stateTurnedSpec : ChangeSpec := { name := "stateTurned", fn := fun _ => fun
  | [d1, d2, d3] => { results := [.lit (.bool true)], args := [d1, d2, d3] }
  | _ => none }
def stateTurnedRow : OpenClaim := { program := "ytfbcdbfalopkeaa", sum := "2a3b82c31624117b79c6641a7188ae8fd825ae187e48eb9c20a61899e066b411", func := "pupil/pupillaw23.StateTurned", spec := "stateTurned", inPlace := ["math.Float64frombits", "math.Float32frombits", "math.Float64bits"], unfollowed := true, recurses := true, apart := false }
def StateTurnedSaid : Prop := stateTurnedRow.holds Try.pinned (OpenSpec.ofChange stateTurnedSpec)

/-- ITS FALSE NEIGHBOUR: 'it returns false'. Refute it at one input. -/
def stateTurnedWrong : ChangeSpec := { name := "stateTurned", fn := fun _ => fun
  | [d1, d2, d3] => { results := [.lit (.bool false)], args := [d1, d2, d3] }
  | _ => none }
def StateTurnedWrongFalsely : Prop := stateTurnedRow.holds Try.pinned (OpenSpec.ofChange stateTurnedWrong)

/-- 'pupillaw23.StateForms': WHATEVER THE INPUT: true; the input reads as it did. -/
def stateFormsSpec : ChangeSpec := { name := "stateForms", fn := fun _ => fun
  | [d1, d2, d3] => { results := [.lit (.bool true)], args := [d1, d2, d3] }
  | _ => none }
def stateFormsRow : OpenClaim := { program := "ytfbcdbfalopkeaa", sum := "2a3b82c31624117b79c6641a7188ae8fd825ae187e48eb9c20a61899e066b411", func := "pupil/pupillaw23.StateForms", spec := "stateForms", inPlace := ["math.Float64frombits", "math.Float32frombits", "math.Float64bits"], unfollowed := true, recurses := true, apart := false }
def StateFormsSaid : Prop := stateFormsRow.holds Try.pinned (OpenSpec.ofChange stateFormsSpec)

/-- ITS FALSE NEIGHBOUR: 'it returns false'. Refute it at one input. -/
def stateFormsWrong : ChangeSpec := { name := "stateForms", fn := fun _ => fun
  | [d1, d2, d3] => { results := [.lit (.bool false)], args := [d1, d2, d3] }
  | _ => none }
def StateFormsWrongFalsely : Prop := stateFormsRow.holds Try.pinned (OpenSpec.ofChange stateFormsWrong)

/-- 'pupillaw23.StateLimits': WHATEVER THE INPUT: true; the input reads as it did. -/
def stateLimitsSpec : ChangeSpec := { name := "stateLimits", fn := fun _ => fun
  | [d] => { results := [.lit (.bool true)], args := [d] }
  | _ => none }
def stateLimitsRow : OpenClaim := { program := "ytfbcdbfalopkeaa", sum := "2a3b82c31624117b79c6641a7188ae8fd825ae187e48eb9c20a61899e066b411", func := "pupil/pupillaw23.StateLimits", spec := "stateLimits", inPlace := ["math.Float64frombits", "math.Float32frombits", "math.Float64bits"], unfollowed := true, recurses := true, apart := false }
def StateLimitsSaid : Prop := stateLimitsRow.holds Try.pinned (OpenSpec.ofChange stateLimitsSpec)

/-- ITS FALSE NEIGHBOUR: 'it returns false'. Refute it at one input. -/
def stateLimitsWrong : ChangeSpec := { name := "stateLimits", fn := fun _ => fun
  | [d] => { results := [.lit (.bool false)], args := [d] }
  | _ => none }
def StateLimitsWrongFalsely : Prop := stateLimitsRow.holds Try.pinned (OpenSpec.ofChange stateLimitsWrong)

/- THE SECOND FORM. 'bulk': how many values and letters a reading holds, each counted each time it is reached (what is shared counts as often as it is met; a slice's spare places count too). A statement '..UptoSaid' is the law's where the arguments, and the package variables that the reading takes, are together of bulk at most 1048576: NARROWER than '..Said'. Prove '..Said' where nothing that the law and all that it calls make is longer than what came in: it says more and counts as full. Else prove '..UptoSaid'. A law counts once. -/
mutual
def uptoBulk {H : Type} : DataW H → Nat
  | .lit (.string bytes) => bytes.length + 1
  | .lit _ => 1
  | .nil => 1
  | .ptr d => uptoBulk d + 1
  | .slice elems spare => uptoBulkAll elems + uptoBulkAll spare + 1
  | .agg parts => uptoBulkAll parts + 1
  | .iface _ d => uptoBulk d + 1
  | .map entries => uptoBulkEntries entries + 1
  | .held _ => 1
def uptoBulkAll {H : Type} : List (DataW H) → Nat
  | [] => 0
  | d :: r => uptoBulk d + uptoBulkAll r
def uptoBulkEntries {H : Type} : List (Lit × DataW H) → Nat
  | [] => 0
  | x :: r => uptoBulkEntry x + uptoBulkEntries r
def uptoBulkEntry {H : Type} : Lit × DataW H → Nat
  | (.string bytes, d) => bytes.length + uptoBulk d + 1
  | (_, d) => uptoBulk d + 1
 end
def uptoSmall : (H : Type) → List (DataW H) → Bool := fun _ ds => decide (uptoBulkAll ds ≤ 1048576)
def OpenSpec.upto (s : _root_.Go.ChangeSpec) : _root_.Go.OpenSpec := { _root_.Go.OpenSpec.ofChange s with cond := some uptoSmall }

/-- 'pupillaw23.StateBack', WHERE WHAT IT READS IS OF BULK AT MOST 1048576: true; the input reads as it did. -/
def stateBackUptoRow : OpenClaim := { program := "ytfbcdbfalopkeaa", sum := "2a3b82c31624117b79c6641a7188ae8fd825ae187e48eb9c20a61899e066b411", func := "pupil/pupillaw23.StateBack", spec := "stateBack", inPlace := ["math.Float64frombits", "math.Float32frombits", "math.Float64bits"], unfollowed := true, recurses := true, apart := false, narrowed := true }
def StateBackUptoSaid : Prop := stateBackUptoRow.holds Try.pinned (OpenSpec.upto stateBackSpec)

/-- 'pupillaw23.StateCut', WHERE WHAT IT READS IS OF BULK AT MOST 1048576: true; the input reads as it did. -/
def stateCutUptoRow : OpenClaim := { program := "ytfbcdbfalopkeaa", sum := "2a3b82c31624117b79c6641a7188ae8fd825ae187e48eb9c20a61899e066b411", func := "pupil/pupillaw23.StateCut", spec := "stateCut", inPlace := ["math.Float64frombits", "math.Float32frombits", "math.Float64bits"], unfollowed := true, recurses := true, apart := false, narrowed := true }
def StateCutUptoSaid : Prop := stateCutUptoRow.holds Try.pinned (OpenSpec.upto stateCutSpec)

/-- 'pupillaw23.StateTurned', WHERE WHAT IT READS IS OF BULK AT MOST 1048576: true; the input reads as it did. -/
def stateTurnedUptoRow : OpenClaim := { program := "ytfbcdbfalopkeaa", sum := "2a3b82c31624117b79c6641a7188ae8fd825ae187e48eb9c20a61899e066b411", func := "pupil/pupillaw23.StateTurned", spec := "stateTurned", inPlace := ["math.Float64frombits", "math.Float32frombits", "math.Float64bits"], unfollowed := true, recurses := true, apart := false, narrowed := true }
def StateTurnedUptoSaid : Prop := stateTurnedUptoRow.holds Try.pinned (OpenSpec.upto stateTurnedSpec)

/-- 'pupillaw23.StateForms', WHERE WHAT IT READS IS OF BULK AT MOST 1048576: true; the input reads as it did. -/
def stateFormsUptoRow : OpenClaim := { program := "ytfbcdbfalopkeaa", sum := "2a3b82c31624117b79c6641a7188ae8fd825ae187e48eb9c20a61899e066b411", func := "pupil/pupillaw23.StateForms", spec := "stateForms", inPlace := ["math.Float64frombits", "math.Float32frombits", "math.Float64bits"], unfollowed := true, recurses := true, apart := false, narrowed := true }
def StateFormsUptoSaid : Prop := stateFormsUptoRow.holds Try.pinned (OpenSpec.upto stateFormsSpec)

/-- 'pupillaw23.StateLimits', WHERE WHAT IT READS IS OF BULK AT MOST 1048576: true; the input reads as it did. -/
def stateLimitsUptoRow : OpenClaim := { program := "ytfbcdbfalopkeaa", sum := "2a3b82c31624117b79c6641a7188ae8fd825ae187e48eb9c20a61899e066b411", func := "pupil/pupillaw23.StateLimits", spec := "stateLimits", inPlace := ["math.Float64frombits", "math.Float32frombits", "math.Float64bits"], unfollowed := true, recurses := true, apart := false, narrowed := true }
def StateLimitsUptoSaid : Prop := stateLimitsUptoRow.holds Try.pinned (OpenSpec.upto stateLimitsSpec)

end Rows
end Go.Proofs.Ytfbcdbfalopkeaa
