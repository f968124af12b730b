/-
  NARROWER THAN 'FOR EVERY INPUT', by the rows' own cells (each row's printed sentence says how): StartMakes: laid · StartAll: laid · StartHeld: laid · StartAgain: laid · StartAlone: laid · OptimScales: laid.
  DERIVED. THE GIVEN ROWS OF THIS SEAT. 6 by the template 'for every input the law returns true; each argument reads behind the call as it read before'; 0 by the template 'total and deterministic' (their statements: YtelbefihigkhjaaGreatDoorTotals.lean).
  GIVEN WITH THE SEED: the statements are not yours to turn. If you find one false, say at which input.
  Laid BY PROGRAM, IN A SANDBOX (cutbox-rows.mjs): the forced cells as the released guide's own fill.sh prints them over the translation e598029e09089892… (all of the seat's roots in one cut). By AI agents, Wed Nov 11 2026. No macro, syntax, notation, axiom, sorry.
-/
import Derived.Test.YtelbefihigkhjaaGreatDoorChecked
import GoSem.Claim
import GoSem.ClaimJoined
import GoSem.ClaimMapViews
import Derived.JoinedTies
import Derived.KernelRfl
namespace Go.Proofs.YtelbefihigkhjaaGreatDoor
/- THE CELL 'sum', in the pinned program and in every row, IS THE sha256 OF THE DUMP (.gsa) THAT YtelbefihigkhjaaGreatDoorProg.lean LOADS. Nothing in Lean hashes anything: it is a label: what it is worth is what the hold of that sum in a sandbox is worth. -/
noncomputable def Tryz.pinned : Pinned := { name := "ytelbefihigkhjaagreatdoor", sum := "e598029e0908989250f740d14c0d84f5f926362078b78097bef9b8ad15e2c1a9", checked := Tryz.checked }
namespace Rows
def none {H : Type} : Left H := { results := [], args := [] }

/- WHAT THE LISTED PACKAGE-LEVEL VARIABLES READ AS WHEN THE CALL BEGINS. Each datum BY PROGRAM (the guide's laid-datum.mjs) off the statement by which the dump's own 'gosem.cut.vars' lays the variable. In a bare row this is a premise. The card (YtelbefihigkhjaaGreatDoorCards.lean) ties it to the program's text. -/
def laid_math_bits_deBruijn32tab {H : Type} : DataW H := .agg [.lit (.int .u8 0), .lit (.int .u8 1), .lit (.int .u8 28), .lit (.int .u8 2), .lit (.int .u8 29), .lit (.int .u8 14), .lit (.int .u8 24), .lit (.int .u8 3), .lit (.int .u8 30), .lit (.int .u8 22), .lit (.int .u8 20), .lit (.int .u8 15), .lit (.int .u8 25), .lit (.int .u8 17), .lit (.int .u8 4), .lit (.int .u8 8), .lit (.int .u8 31), .lit (.int .u8 27), .lit (.int .u8 13), .lit (.int .u8 23), .lit (.int .u8 21), .lit (.int .u8 19), .lit (.int .u8 16), .lit (.int .u8 7), .lit (.int .u8 26), .lit (.int .u8 12), .lit (.int .u8 18), .lit (.int .u8 6), .lit (.int .u8 11), .lit (.int .u8 5), .lit (.int .u8 10), .lit (.int .u8 9)]
def laid_math_bits_deBruijn64tab {H : Type} : DataW H := .agg [.lit (.int .u8 0), .lit (.int .u8 1), .lit (.int .u8 56), .lit (.int .u8 2), .lit (.int .u8 57), .lit (.int .u8 49), .lit (.int .u8 28), .lit (.int .u8 3), .lit (.int .u8 61), .lit (.int .u8 58), .lit (.int .u8 42), .lit (.int .u8 50), .lit (.int .u8 38), .lit (.int .u8 29), .lit (.int .u8 17), .lit (.int .u8 4), .lit (.int .u8 62), .lit (.int .u8 47), .lit (.int .u8 59), .lit (.int .u8 36), .lit (.int .u8 45), .lit (.int .u8 43), .lit (.int .u8 51), .lit (.int .u8 22), .lit (.int .u8 53), .lit (.int .u8 39), .lit (.int .u8 33), .lit (.int .u8 30), .lit (.int .u8 24), .lit (.int .u8 18), .lit (.int .u8 12), .lit (.int .u8 5), .lit (.int .u8 63), .lit (.int .u8 55), .lit (.int .u8 48), .lit (.int .u8 27), .lit (.int .u8 60), .lit (.int .u8 41), .lit (.int .u8 37), .lit (.int .u8 16), .lit (.int .u8 46), .lit (.int .u8 35), .lit (.int .u8 44), .lit (.int .u8 21), .lit (.int .u8 52), .lit (.int .u8 32), .lit (.int .u8 23), .lit (.int .u8 11), .lit (.int .u8 54), .lit (.int .u8 26), .lit (.int .u8 40), .lit (.int .u8 15), .lit (.int .u8 34), .lit (.int .u8 20), .lit (.int .u8 31), .lit (.int .u8 10), .lit (.int .u8 25), .lit (.int .u8 14), .lit (.int .u8 19), .lit (.int .u8 9), .lit (.int .u8 13), .lit (.int .u8 8), .lit (.int .u8 7), .lit (.int .u8 6)]

/-- 'pupillaw16.StartMakes': WHATEVER THE INPUT: true; the input reads as it did. -/
def startMakesSpec : ChangeSpec := { name := "startMakes", fn := fun _ => fun
  | [d1, d2, d3] => { results := [.lit (.bool true)], args := [d1, d2, d3] }
  | _ => none }
def startMakesRow : OpenClaim := { program := "ytelbefihigkhjaagreatdoor", sum := "e598029e0908989250f740d14c0d84f5f926362078b78097bef9b8ad15e2c1a9", func := "pupil/pupillaw16.StartMakes", spec := "startMakes", inPlace := ["math.Float32frombits", "math.Float64frombits", "math.Float32bits", "math.Float64bits"], unfollowed := true, recurses := true, named := ["math/bits.deBruijn32tab", "math/bits.deBruijn64tab"], apart := false, laid := [("math/bits.deBruijn32tab", laid_math_bits_deBruijn32tab), ("math/bits.deBruijn64tab", laid_math_bits_deBruijn64tab)] }
def StartMakesSaid : Prop := startMakesRow.holds Tryz.pinned (OpenSpec.ofChange startMakesSpec)

/-- ITS FALSE NEIGHBOUR: 'it returns false'. Refute it at one input. -/
def startMakesWrong : ChangeSpec := { name := "startMakes", fn := fun _ => fun
  | [d1, d2, d3] => { results := [.lit (.bool false)], args := [d1, d2, d3] }
  | _ => none }
def StartMakesWrongFalsely : Prop := startMakesRow.holds Tryz.pinned (OpenSpec.ofChange startMakesWrong)

/-- 'pupillaw16.StartAll': WHATEVER THE INPUT: true; the input reads as it did. -/
def startAllSpec : ChangeSpec := { name := "startAll", fn := fun _ => fun
  | [d1, d2] => { results := [.lit (.bool true)], args := [d1, d2] }
  | _ => none }
def startAllRow : OpenClaim := { program := "ytelbefihigkhjaagreatdoor", sum := "e598029e0908989250f740d14c0d84f5f926362078b78097bef9b8ad15e2c1a9", func := "pupil/pupillaw16.StartAll", spec := "startAll", inPlace := ["math.Float32frombits", "math.Float64frombits", "math.Float32bits", "math.Float64bits"], unfollowed := true, recurses := true, named := ["math/bits.deBruijn32tab", "math/bits.deBruijn64tab"], apart := false, laid := [("math/bits.deBruijn32tab", laid_math_bits_deBruijn32tab), ("math/bits.deBruijn64tab", laid_math_bits_deBruijn64tab)] }
def StartAllSaid : Prop := startAllRow.holds Tryz.pinned (OpenSpec.ofChange startAllSpec)

/-- ITS FALSE NEIGHBOUR: 'it returns false'. Refute it at one input. -/
def startAllWrong : ChangeSpec := { name := "startAll", fn := fun _ => fun
  | [d1, d2] => { results := [.lit (.bool false)], args := [d1, d2] }
  | _ => none }
def StartAllWrongFalsely : Prop := startAllRow.holds Tryz.pinned (OpenSpec.ofChange startAllWrong)

/-- 'pupillaw16.StartHeld': WHATEVER THE INPUT: true; the input reads as it did. -/
def startHeldSpec : ChangeSpec := { name := "startHeld", fn := fun _ => fun
  | [d1, d2, d3, d4] => { results := [.lit (.bool true)], args := [d1, d2, d3, d4] }
  | _ => none }
def startHeldRow : OpenClaim := { program := "ytelbefihigkhjaagreatdoor", sum := "e598029e0908989250f740d14c0d84f5f926362078b78097bef9b8ad15e2c1a9", func := "pupil/pupillaw16.StartHeld", spec := "startHeld", inPlace := ["math.Float32frombits", "math.Float64frombits", "math.Float32bits", "math.Float64bits"], unfollowed := true, recurses := true, named := ["math/bits.deBruijn32tab", "math/bits.deBruijn64tab"], apart := false, laid := [("math/bits.deBruijn32tab", laid_math_bits_deBruijn32tab), ("math/bits.deBruijn64tab", laid_math_bits_deBruijn64tab)] }
def StartHeldSaid : Prop := startHeldRow.holds Tryz.pinned (OpenSpec.ofChange startHeldSpec)

/-- ITS FALSE NEIGHBOUR: 'it returns false'. Refute it at one input. -/
def startHeldWrong : ChangeSpec := { name := "startHeld", fn := fun _ => fun
  | [d1, d2, d3, d4] => { results := [.lit (.bool false)], args := [d1, d2, d3, d4] }
  | _ => none }
def StartHeldWrongFalsely : Prop := startHeldRow.holds Tryz.pinned (OpenSpec.ofChange startHeldWrong)

/-- 'pupillaw16.StartAgain': WHATEVER THE INPUT: true; the input reads as it did. -/
def startAgainSpec : ChangeSpec := { name := "startAgain", fn := fun _ => fun
  | [d1, d2, d3, d4, d5] => { results := [.lit (.bool true)], args := [d1, d2, d3, d4, d5] }
  | _ => none }
def startAgainRow : OpenClaim := { program := "ytelbefihigkhjaagreatdoor", sum := "e598029e0908989250f740d14c0d84f5f926362078b78097bef9b8ad15e2c1a9", func := "pupil/pupillaw16.StartAgain", spec := "startAgain", inPlace := ["math.Float32frombits", "math.Float64frombits", "math.Float32bits", "math.Float64bits"], unfollowed := true, recurses := true, named := ["math/bits.deBruijn32tab", "math/bits.deBruijn64tab"], apart := false, laid := [("math/bits.deBruijn32tab", laid_math_bits_deBruijn32tab), ("math/bits.deBruijn64tab", laid_math_bits_deBruijn64tab)] }
def StartAgainSaid : Prop := startAgainRow.holds Tryz.pinned (OpenSpec.ofChange startAgainSpec)

/-- ITS FALSE NEIGHBOUR: 'it returns false'. Refute it at one input. -/
def startAgainWrong : ChangeSpec := { name := "startAgain", fn := fun _ => fun
  | [d1, d2, d3, d4, d5] => { results := [.lit (.bool false)], args := [d1, d2, d3, d4, d5] }
  | _ => none }
def StartAgainWrongFalsely : Prop := startAgainRow.holds Tryz.pinned (OpenSpec.ofChange startAgainWrong)

/-- 'pupillaw16.StartAlone': WHATEVER THE INPUT: true; the input reads as it did. -/
def startAloneSpec : ChangeSpec := { name := "startAlone", fn := fun _ => fun
  | [d1, d2, d3, d4] => { results := [.lit (.bool true)], args := [d1, d2, d3, d4] }
  | _ => none }
def startAloneRow : OpenClaim := { program := "ytelbefihigkhjaagreatdoor", sum := "e598029e0908989250f740d14c0d84f5f926362078b78097bef9b8ad15e2c1a9", func := "pupil/pupillaw16.StartAlone", spec := "startAlone", inPlace := ["math.Float32frombits", "math.Float64frombits", "math.Float32bits", "math.Float64bits"], unfollowed := true, recurses := true, named := ["math/bits.deBruijn32tab", "math/bits.deBruijn64tab"], apart := false, laid := [("math/bits.deBruijn32tab", laid_math_bits_deBruijn32tab), ("math/bits.deBruijn64tab", laid_math_bits_deBruijn64tab)] }
def StartAloneSaid : Prop := startAloneRow.holds Tryz.pinned (OpenSpec.ofChange startAloneSpec)

/-- ITS FALSE NEIGHBOUR: 'it returns false'. Refute it at one input. -/
def startAloneWrong : ChangeSpec := { name := "startAlone", fn := fun _ => fun
  | [d1, d2, d3, d4] => { results := [.lit (.bool false)], args := [d1, d2, d3, d4] }
  | _ => none }
def StartAloneWrongFalsely : Prop := startAloneRow.holds Tryz.pinned (OpenSpec.ofChange startAloneWrong)

/-- 'pupillaw17.OptimScales': WHATEVER THE INPUT: true; the input reads as it did. -/
def optimScalesSpec : ChangeSpec := { name := "optimScales", fn := fun _ => fun
  | [d1, d2] => { results := [.lit (.bool true)], args := [d1, d2] }
  | _ => none }
def optimScalesRow : OpenClaim := { program := "ytelbefihigkhjaagreatdoor", sum := "e598029e0908989250f740d14c0d84f5f926362078b78097bef9b8ad15e2c1a9", func := "pupil/pupillaw17.OptimScales", spec := "optimScales", inPlace := ["math.Float32frombits", "math.Float64frombits", "math.Float32bits", "math.Float64bits", "math.sqrt"], unfollowed := true, recurses := true, named := ["math/bits.deBruijn32tab", "math/bits.deBruijn64tab"], apart := false, laid := [("math/bits.deBruijn32tab", laid_math_bits_deBruijn32tab), ("math/bits.deBruijn64tab", laid_math_bits_deBruijn64tab)] }
def OptimScalesSaid : Prop := optimScalesRow.holds Tryz.pinned (OpenSpec.ofChange optimScalesSpec)

/-- ITS FALSE NEIGHBOUR: 'it returns false'. Refute it at one input. -/
def optimScalesWrong : ChangeSpec := { name := "optimScales", fn := fun _ => fun
  | [d1, d2] => { results := [.lit (.bool false)], args := [d1, d2] }
  | _ => none }
def OptimScalesWrongFalsely : Prop := optimScalesRow.holds Tryz.pinned (OpenSpec.ofChange optimScalesWrong)

/- THE SECOND FORM. 'bulk': how many values and letters a reading holds, each counted each time it is reached (what is shared counts as often as it is met; a slice's spare places count too). A statement '..UptoSaid' is the law's where the arguments, and the package variables that the reading takes, are together of bulk at most 1048576: NARROWER than '..Said'. Prove '..Said' where nothing that the law and all that it calls make is longer than what came in: it says more and counts as full. Else prove '..UptoSaid'. A law counts once. -/
mutual
def uptoBulk {H : Type} : DataW H → Nat
  | .lit (.string bytes) => bytes.length + 1
  | .lit _ => 1
  | .nil => 1
  | .ptr d => uptoBulk d + 1
  | .slice elems spare => uptoBulkAll elems + uptoBulkAll spare + 1
  | .agg parts => uptoBulkAll parts + 1
  | .iface _ d => uptoBulk d + 1
  | .map entries => uptoBulkEntries entries + 1
  | .held _ => 1
def uptoBulkAll {H : Type} : List (DataW H) → Nat
  | [] => 0
  | d :: r => uptoBulk d + uptoBulkAll r
def uptoBulkEntries {H : Type} : List (Lit × DataW H) → Nat
  | [] => 0
  | x :: r => uptoBulkEntry x + uptoBulkEntries r
def uptoBulkEntry {H : Type} : Lit × DataW H → Nat
  | (.string bytes, d) => bytes.length + uptoBulk d + 1
  | (_, d) => uptoBulk d + 1
 end
def uptoSmall : (H : Type) → List (DataW H) → Bool := fun _ ds => decide (uptoBulkAll ds ≤ 1048576)
def OpenSpec.upto (s : _root_.Go.ChangeSpec) : _root_.Go.OpenSpec := { _root_.Go.OpenSpec.ofChange s with cond := some uptoSmall }

/-- 'pupillaw16.StartMakes', WHERE WHAT IT READS IS OF BULK AT MOST 1048576: true; the input reads as it did. -/
def startMakesUptoRow : OpenClaim := { program := "ytelbefihigkhjaagreatdoor", sum := "e598029e0908989250f740d14c0d84f5f926362078b78097bef9b8ad15e2c1a9", func := "pupil/pupillaw16.StartMakes", spec := "startMakes", inPlace := ["math.Float32frombits", "math.Float64frombits", "math.Float32bits", "math.Float64bits"], unfollowed := true, recurses := true, named := ["math/bits.deBruijn32tab", "math/bits.deBruijn64tab"], apart := false, laid := [("math/bits.deBruijn32tab", laid_math_bits_deBruijn32tab), ("math/bits.deBruijn64tab", laid_math_bits_deBruijn64tab)], narrowed := true }
def StartMakesUptoSaid : Prop := startMakesUptoRow.holds Tryz.pinned (OpenSpec.upto startMakesSpec)

/-- 'pupillaw16.StartAll', WHERE WHAT IT READS IS OF BULK AT MOST 1048576: true; the input reads as it did. -/
def startAllUptoRow : OpenClaim := { program := "ytelbefihigkhjaagreatdoor", sum := "e598029e0908989250f740d14c0d84f5f926362078b78097bef9b8ad15e2c1a9", func := "pupil/pupillaw16.StartAll", spec := "startAll", inPlace := ["math.Float32frombits", "math.Float64frombits", "math.Float32bits", "math.Float64bits"], unfollowed := true, recurses := true, named := ["math/bits.deBruijn32tab", "math/bits.deBruijn64tab"], apart := false, laid := [("math/bits.deBruijn32tab", laid_math_bits_deBruijn32tab), ("math/bits.deBruijn64tab", laid_math_bits_deBruijn64tab)], narrowed := true }
def StartAllUptoSaid : Prop := startAllUptoRow.holds Tryz.pinned (OpenSpec.upto startAllSpec)

/-- 'pupillaw16.StartHeld', WHERE WHAT IT READS IS OF BULK AT MOST 1048576: true; the input reads as it did. -/
def startHeldUptoRow : OpenClaim := { program := "ytelbefihigkhjaagreatdoor", sum := "e598029e0908989250f740d14c0d84f5f926362078b78097bef9b8ad15e2c1a9", func := "pupil/pupillaw16.StartHeld", spec := "startHeld", inPlace := ["math.Float32frombits", "math.Float64frombits", "math.Float32bits", "math.Float64bits"], unfollowed := true, recurses := true, named := ["math/bits.deBruijn32tab", "math/bits.deBruijn64tab"], apart := false, laid := [("math/bits.deBruijn32tab", laid_math_bits_deBruijn32tab), ("math/bits.deBruijn64tab", laid_math_bits_deBruijn64tab)], narrowed := true }
def StartHeldUptoSaid : Prop := startHeldUptoRow.holds Tryz.pinned (OpenSpec.upto startHeldSpec)

/-- 'pupillaw16.StartAgain', WHERE WHAT IT READS IS OF BULK AT MOST 1048576: true; the input reads as it did. -/
def startAgainUptoRow : OpenClaim := { program := "ytelbefihigkhjaagreatdoor", sum := "e598029e0908989250f740d14c0d84f5f926362078b78097bef9b8ad15e2c1a9", func := "pupil/pupillaw16.StartAgain", spec := "startAgain", inPlace := ["math.Float32frombits", "math.Float64frombits", "math.Float32bits", "math.Float64bits"], unfollowed := true, recurses := true, named := ["math/bits.deBruijn32tab", "math/bits.deBruijn64tab"], apart := false, laid := [("math/bits.deBruijn32tab", laid_math_bits_deBruijn32tab), ("math/bits.deBruijn64tab", laid_math_bits_deBruijn64tab)], narrowed := true }
def StartAgainUptoSaid : Prop := startAgainUptoRow.holds Tryz.pinned (OpenSpec.upto startAgainSpec)

/-- 'pupillaw16.StartAlone', WHERE WHAT IT READS IS OF BULK AT MOST 1048576: true; the input reads as it did. -/
def startAloneUptoRow : OpenClaim := { program := "ytelbefihigkhjaagreatdoor", sum := "e598029e0908989250f740d14c0d84f5f926362078b78097bef9b8ad15e2c1a9", func := "pupil/pupillaw16.StartAlone", spec := "startAlone", inPlace := ["math.Float32frombits", "math.Float64frombits", "math.Float32bits", "math.Float64bits"], unfollowed := true, recurses := true, named := ["math/bits.deBruijn32tab", "math/bits.deBruijn64tab"], apart := false, laid := [("math/bits.deBruijn32tab", laid_math_bits_deBruijn32tab), ("math/bits.deBruijn64tab", laid_math_bits_deBruijn64tab)], narrowed := true }
def StartAloneUptoSaid : Prop := startAloneUptoRow.holds Tryz.pinned (OpenSpec.upto startAloneSpec)

/-- 'pupillaw17.OptimScales', WHERE WHAT IT READS IS OF BULK AT MOST 1048576: true; the input reads as it did. -/
def optimScalesUptoRow : OpenClaim := { program := "ytelbefihigkhjaagreatdoor", sum := "e598029e0908989250f740d14c0d84f5f926362078b78097bef9b8ad15e2c1a9", func := "pupil/pupillaw17.OptimScales", spec := "optimScales", inPlace := ["math.Float32frombits", "math.Float64frombits", "math.Float32bits", "math.Float64bits", "math.sqrt"], unfollowed := true, recurses := true, named := ["math/bits.deBruijn32tab", "math/bits.deBruijn64tab"], apart := false, laid := [("math/bits.deBruijn32tab", laid_math_bits_deBruijn32tab), ("math/bits.deBruijn64tab", laid_math_bits_deBruijn64tab)], narrowed := true }
def OptimScalesUptoSaid : Prop := optimScalesUptoRow.holds Tryz.pinned (OpenSpec.upto optimScalesSpec)

end Rows
end Go.Proofs.YtelbefihigkhjaaGreatDoor
