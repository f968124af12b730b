/-
  No cell of these rows narrows 'for every input' (looked for: loops, veiled, ifaces, maps, wideKeys, modest, calm, conditions, laid).
  DERIVED. THE GIVEN ROWS OF THIS SEAT. 6 by the template 'for every input the law returns true; each argument reads behind the call as it read before'; 0 by the template 'total and deterministic' (their statements: YtakdnodgcdddeaaTotals.lean).
  GIVEN WITH THE SEED: the statements are not yours to turn. If you find one false, say at which input.
  Laid BY PROGRAM, IN A SANDBOX (cutbox-rows.mjs): the forced cells as the released guide's own fill.sh prints them over the translation afdff11228dfba9f… (all of the seat's roots in one cut). By AI agents, Wed Nov 11 2026. No macro, syntax, notation, axiom, sorry.
-/
import Derived.Test.YtakdnodgcdddeaaChecked
import GoSem.Claim
import GoSem.ClaimJoined
import GoSem.ClaimMapViews
import Derived.JoinedTies
import Derived.KernelRfl
namespace Go.Proofs.Ytakdnodgcdddeaa
/- THE CELL 'sum', in the pinned program and in every row, IS THE sha256 OF THE DUMP (.gsa) THAT YtakdnodgcdddeaaProg.lean LOADS. Nothing in Lean hashes anything: it is a label: what it is worth is what the hold of that sum in a sandbox is worth. -/
noncomputable def Try.pinned : Pinned := { name := "ytakdnodgcdddeaa", sum := "afdff11228dfba9fa5c094ce1a0c1df8a57eaba123e76460cbc71324b390caa9", checked := Try.checked }
namespace Rows
def none {H : Type} : Left H := { results := [], args := [] }

/-- 'pupillaw6.RngWords': WHATEVER THE INPUT: true; the input reads as it did. -/
def rngWordsSpec : ChangeSpec := { name := "rngWords", fn := fun _ => fun
  | [d1, d2, d3] => { results := [.lit (.bool true)], args := [d1, d2, d3] }
  | _ => none }
def rngWordsRow : OpenClaim := { program := "ytakdnodgcdddeaa", sum := "afdff11228dfba9fa5c094ce1a0c1df8a57eaba123e76460cbc71324b390caa9", func := "pupil/pupillaw6.RngWords", spec := "rngWords", apart := false }
def RngWordsSaid : Prop := rngWordsRow.holds Try.pinned (OpenSpec.ofChange rngWordsSpec)

/-- ITS FALSE NEIGHBOUR: 'it returns false'. Refute it at one input. -/
def rngWordsWrong : ChangeSpec := { name := "rngWords", fn := fun _ => fun
  | [d1, d2, d3] => { results := [.lit (.bool false)], args := [d1, d2, d3] }
  | _ => none }
def RngWordsWrongFalsely : Prop := rngWordsRow.holds Try.pinned (OpenSpec.ofChange rngWordsWrong)

/-- 'pupillaw6.RngDraws': WHATEVER THE INPUT: true; the input reads as it did. -/
def rngDrawsSpec : ChangeSpec := { name := "rngDraws", fn := fun _ => fun
  | [d1, d2, d3] => { results := [.lit (.bool true)], args := [d1, d2, d3] }
  | _ => none }
def rngDrawsRow : OpenClaim := { program := "ytakdnodgcdddeaa", sum := "afdff11228dfba9fa5c094ce1a0c1df8a57eaba123e76460cbc71324b390caa9", func := "pupil/pupillaw6.RngDraws", spec := "rngDraws", inPlace := ["math.Float32bits", "math.Float64bits"], apart := false }
def RngDrawsSaid : Prop := rngDrawsRow.holds Try.pinned (OpenSpec.ofChange rngDrawsSpec)

/-- ITS FALSE NEIGHBOUR: 'it returns false'. Refute it at one input. -/
def rngDrawsWrong : ChangeSpec := { name := "rngDraws", fn := fun _ => fun
  | [d1, d2, d3] => { results := [.lit (.bool false)], args := [d1, d2, d3] }
  | _ => none }
def RngDrawsWrongFalsely : Prop := rngDrawsRow.holds Try.pinned (OpenSpec.ofChange rngDrawsWrong)

/-- 'pupillaw6.RngOrders': WHATEVER THE INPUT: true; the input reads as it did. -/
def rngOrdersSpec : ChangeSpec := { name := "rngOrders", fn := fun _ => fun
  | [d1, d2, d3] => { results := [.lit (.bool true)], args := [d1, d2, d3] }
  | _ => none }
def rngOrdersRow : OpenClaim := { program := "ytakdnodgcdddeaa", sum := "afdff11228dfba9fa5c094ce1a0c1df8a57eaba123e76460cbc71324b390caa9", func := "pupil/pupillaw6.RngOrders", spec := "rngOrders", recurses := true, apart := false }
def RngOrdersSaid : Prop := rngOrdersRow.holds Try.pinned (OpenSpec.ofChange rngOrdersSpec)

/-- ITS FALSE NEIGHBOUR: 'it returns false'. Refute it at one input. -/
def rngOrdersWrong : ChangeSpec := { name := "rngOrders", fn := fun _ => fun
  | [d1, d2, d3] => { results := [.lit (.bool false)], args := [d1, d2, d3] }
  | _ => none }
def RngOrdersWrongFalsely : Prop := rngOrdersRow.holds Try.pinned (OpenSpec.ofChange rngOrdersWrong)

/-- 'pupillaw6.RngAll': WHATEVER THE INPUT: true; the input reads as it did. -/
def rngAllSpec : ChangeSpec := { name := "rngAll", fn := fun _ => fun
  | [d] => { results := [.lit (.bool true)], args := [d] }
  | _ => none }
def rngAllRow : OpenClaim := { program := "ytakdnodgcdddeaa", sum := "afdff11228dfba9fa5c094ce1a0c1df8a57eaba123e76460cbc71324b390caa9", func := "pupil/pupillaw6.RngAll", spec := "rngAll", inPlace := ["math.Float32bits", "math.Float64bits"], recurses := true, apart := false }
def RngAllSaid : Prop := rngAllRow.holds Try.pinned (OpenSpec.ofChange rngAllSpec)

/-- ITS FALSE NEIGHBOUR: 'it returns false'. Refute it at one input. -/
def rngAllWrong : ChangeSpec := { name := "rngAll", fn := fun _ => fun
  | [d] => { results := [.lit (.bool false)], args := [d] }
  | _ => none }
def RngAllWrongFalsely : Prop := rngAllRow.holds Try.pinned (OpenSpec.ofChange rngAllWrong)

/-- 'pupillaw6.RngRow': WHATEVER THE INPUT: true; the input reads as it did. -/
def rngRowSpec : ChangeSpec := { name := "rngRow", fn := fun _ => fun
  | [d1, d2] => { results := [.lit (.bool true)], args := [d1, d2] }
  | _ => none }
def rngRowRow : OpenClaim := { program := "ytakdnodgcdddeaa", sum := "afdff11228dfba9fa5c094ce1a0c1df8a57eaba123e76460cbc71324b390caa9", func := "pupil/pupillaw6.RngRow", spec := "rngRow", apart := false }
def RngRowSaid : Prop := rngRowRow.holds Try.pinned (OpenSpec.ofChange rngRowSpec)

/-- ITS FALSE NEIGHBOUR: 'it returns false'. Refute it at one input. -/
def rngRowWrong : ChangeSpec := { name := "rngRow", fn := fun _ => fun
  | [d1, d2] => { results := [.lit (.bool false)], args := [d1, d2] }
  | _ => none }
def RngRowWrongFalsely : Prop := rngRowRow.holds Try.pinned (OpenSpec.ofChange rngRowWrong)

/-- 'pupillaw6.RngBelow': WHATEVER THE INPUT: true; the input reads as it did. -/
def rngBelowSpec : ChangeSpec := { name := "rngBelow", fn := fun _ => fun
  | [d1, d2] => { results := [.lit (.bool true)], args := [d1, d2] }
  | _ => none }
def rngBelowRow : OpenClaim := { program := "ytakdnodgcdddeaa", sum := "afdff11228dfba9fa5c094ce1a0c1df8a57eaba123e76460cbc71324b390caa9", func := "pupil/pupillaw6.RngBelow", spec := "rngBelow", apart := false }
def RngBelowSaid : Prop := rngBelowRow.holds Try.pinned (OpenSpec.ofChange rngBelowSpec)

/-- ITS FALSE NEIGHBOUR: 'it returns false'. Refute it at one input. -/
def rngBelowWrong : ChangeSpec := { name := "rngBelow", fn := fun _ => fun
  | [d1, d2] => { results := [.lit (.bool false)], args := [d1, d2] }
  | _ => none }
def RngBelowWrongFalsely : Prop := rngBelowRow.holds Try.pinned (OpenSpec.ofChange rngBelowWrong)

/- THE SECOND FORM. 'bulk': how many values and letters a reading holds, each counted each time it is reached (what is shared counts as often as it is met; a slice's spare places count too). A statement '..UptoSaid' is the law's where the arguments, and the package variables that the reading takes, are together of bulk at most 1048576: NARROWER than '..Said'. Prove '..Said' where nothing that the law and all that it calls make is longer than what came in: it says more and counts as full. Else prove '..UptoSaid'. A law counts once. -/
mutual
def uptoBulk {H : Type} : DataW H → Nat
  | .lit (.string bytes) => bytes.length + 1
  | .lit _ => 1
  | .nil => 1
  | .ptr d => uptoBulk d + 1
  | .slice elems spare => uptoBulkAll elems + uptoBulkAll spare + 1
  | .agg parts => uptoBulkAll parts + 1
  | .iface _ d => uptoBulk d + 1
  | .map entries => uptoBulkEntries entries + 1
  | .held _ => 1
def uptoBulkAll {H : Type} : List (DataW H) → Nat
  | [] => 0
  | d :: r => uptoBulk d + uptoBulkAll r
def uptoBulkEntries {H : Type} : List (Lit × DataW H) → Nat
  | [] => 0
  | x :: r => uptoBulkEntry x + uptoBulkEntries r
def uptoBulkEntry {H : Type} : Lit × DataW H → Nat
  | (.string bytes, d) => bytes.length + uptoBulk d + 1
  | (_, d) => uptoBulk d + 1
 end
def uptoSmall : (H : Type) → List (DataW H) → Bool := fun _ ds => decide (uptoBulkAll ds ≤ 1048576)
def OpenSpec.upto (s : _root_.Go.ChangeSpec) : _root_.Go.OpenSpec := { _root_.Go.OpenSpec.ofChange s with cond := some uptoSmall }

/-- 'pupillaw6.RngWords', WHERE WHAT IT READS IS OF BULK AT MOST 1048576: true; the input reads as it did. -/
def rngWordsUptoRow : OpenClaim := { program := "ytakdnodgcdddeaa", sum := "afdff11228dfba9fa5c094ce1a0c1df8a57eaba123e76460cbc71324b390caa9", func := "pupil/pupillaw6.RngWords", spec := "rngWords", apart := false, narrowed := true }
def RngWordsUptoSaid : Prop := rngWordsUptoRow.holds Try.pinned (OpenSpec.upto rngWordsSpec)

/-- 'pupillaw6.RngDraws', WHERE WHAT IT READS IS OF BULK AT MOST 1048576: true; the input reads as it did. -/
def rngDrawsUptoRow : OpenClaim := { program := "ytakdnodgcdddeaa", sum := "afdff11228dfba9fa5c094ce1a0c1df8a57eaba123e76460cbc71324b390caa9", func := "pupil/pupillaw6.RngDraws", spec := "rngDraws", inPlace := ["math.Float32bits", "math.Float64bits"], apart := false, narrowed := true }
def RngDrawsUptoSaid : Prop := rngDrawsUptoRow.holds Try.pinned (OpenSpec.upto rngDrawsSpec)

/-- 'pupillaw6.RngOrders', WHERE WHAT IT READS IS OF BULK AT MOST 1048576: true; the input reads as it did. -/
def rngOrdersUptoRow : OpenClaim := { program := "ytakdnodgcdddeaa", sum := "afdff11228dfba9fa5c094ce1a0c1df8a57eaba123e76460cbc71324b390caa9", func := "pupil/pupillaw6.RngOrders", spec := "rngOrders", recurses := true, apart := false, narrowed := true }
def RngOrdersUptoSaid : Prop := rngOrdersUptoRow.holds Try.pinned (OpenSpec.upto rngOrdersSpec)

/-- 'pupillaw6.RngAll', WHERE WHAT IT READS IS OF BULK AT MOST 1048576: true; the input reads as it did. -/
def rngAllUptoRow : OpenClaim := { program := "ytakdnodgcdddeaa", sum := "afdff11228dfba9fa5c094ce1a0c1df8a57eaba123e76460cbc71324b390caa9", func := "pupil/pupillaw6.RngAll", spec := "rngAll", inPlace := ["math.Float32bits", "math.Float64bits"], recurses := true, apart := false, narrowed := true }
def RngAllUptoSaid : Prop := rngAllUptoRow.holds Try.pinned (OpenSpec.upto rngAllSpec)

/-- 'pupillaw6.RngRow', WHERE WHAT IT READS IS OF BULK AT MOST 1048576: true; the input reads as it did. -/
def rngRowUptoRow : OpenClaim := { program := "ytakdnodgcdddeaa", sum := "afdff11228dfba9fa5c094ce1a0c1df8a57eaba123e76460cbc71324b390caa9", func := "pupil/pupillaw6.RngRow", spec := "rngRow", apart := false, narrowed := true }
def RngRowUptoSaid : Prop := rngRowUptoRow.holds Try.pinned (OpenSpec.upto rngRowSpec)

/-- 'pupillaw6.RngBelow', WHERE WHAT IT READS IS OF BULK AT MOST 1048576: true; the input reads as it did. -/
def rngBelowUptoRow : OpenClaim := { program := "ytakdnodgcdddeaa", sum := "afdff11228dfba9fa5c094ce1a0c1df8a57eaba123e76460cbc71324b390caa9", func := "pupil/pupillaw6.RngBelow", spec := "rngBelow", apart := false, narrowed := true }
def RngBelowUptoSaid : Prop := rngBelowUptoRow.holds Try.pinned (OpenSpec.upto rngBelowSpec)

end Rows
end Go.Proofs.Ytakdnodgcdddeaa
