/- What the calls of TensorChecks answer, as one premise. -/
import Derived.Test.YtckcfdkffjkkbaaT3
import Derived.Test.YtckcfdkffjkkbaaT7
namespace Go.Proofs.Ytckcfdkffjkkbaa
open Go.ChangeShapes Go.WideShapes Go.ChangeAt Go.RowKit
set_option linter.unusedVariables false
set_option linter.unusedSimpArgs false

structure TC (Y : World) (F B : Nat) (r c n row col : Int) (ao : Option Addr) (cp g cap l : Nat) (q pa pf pb pg : Int) : Prop where
  chk : Hid (∀ u, Kept Y u → Calls Try.prog 11 #[.agg #[.int .i64 r, .int .i64 c, .int .i64 n, .slice (some ⟨g, 0, none⟩) l cap]] u fun e w' => e = .returned (.int .i64 q) ∧ Kept Y w')
  fin : Hid (∀ u, Kept Y u → Calls Try.prog 12 #[.agg #[.int .i64 r, .int .i64 c, .int .i64 n, .slice (some ⟨g, 0, none⟩) l cap]] u fun e w' => e = .returned (.tuple #[.int .i64 pa, .int .i64 pf]) ∧ Kept Y w')
  att : Hid (∀ u, Kept Y u → Calls Try.prog 13 #[.agg #[.int .i64 r, .int .i64 c, .int .i64 n, .slice (some ⟨g, 0, none⟩) l cap], .int .i64 row, .int .i64 col] u fun e w' => e = .returned (.tuple #[.int .i64 pb, .int .i64 pg]) ∧ Kept Y w')
  sta : Hid (∀ u, Kept Y u → Calls Try.prog 14 #[.agg #[.int .i64 r, .int .i64 c, .int .i64 n, .slice (some ⟨g, 0, none⟩) l cap], .agg #[.int .i64 r, .int .i64 c, .int .i64 n, .slice ao l cp]] u fun e w' => e = .returned (.bool true) ∧ Kept Y w')
  rck : Hid (∀ u, Kept Y u → Calls Try.prog 15 #[.agg #[.int .i64 r, .int .i64 c, .int .i64 n, .slice ao l cp]] u fun e w' => e = .returned (.int .i64 q) ∧ Kept Y w')
  num : Hid (∀ u e, Calls Try.prog 16 #[.int .i64 e] u fun r w' => r = .returned (.int .i64 e) ∧ u = w')

end Go.Proofs.Ytckcfdkffjkkbaa
