/- The walks of the laws' own Lent, LentNum, Back. -/
import Derived.Test.YtakdnodgcdddeaaU1
namespace Go.Proofs.Ytakdnodgcdddeaa
open Go.ChangeShapes Go.WideShapes Go.ChangeAt Go.RowKit
set_option linter.unusedVariables false
set_option linter.unusedSimpArgs false

theorem getD_apr (A B : List Int) (k j : Nat) (h : A.length + j = k) : (A ++ B).getD k 0 = B.getD j 0 := by
  rw [List.getD_eq_getElem?_getD, List.getElem?_append_right (by omega), show k - A.length = j by omega, List.getD_eq_getElem?_getD]

end Go.Proofs.Ytakdnodgcdddeaa
