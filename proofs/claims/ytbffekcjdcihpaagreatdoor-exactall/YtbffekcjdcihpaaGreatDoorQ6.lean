/- The walks of exact's split, of the nearest way, and of round at the lead of a third. The walks of exact's round at the lead of a third. -/
import Derived.Test.YtbffekcjdcihpaaGreatDoorPah
import Derived.Test.YtbffekcjdcihpaaGreatDoorPab
namespace Go.Proofs.YtbffekcjdcihpaaGreatDoor
open Go.ChangeShapes Go.WideShapes Go.ChangeAt Go.RowKit
set_option maxHeartbeats 16000000
set_option maxRecDepth 100000
set_option linter.unusedVariables false
set_option linter.unusedSimpArgs false
theorem set4 (u : World) (b c o : Nat) (h : c ≠ b) (v0 v1 v2 v3 : Value) : ((((u.setCell ⟨b, 0, none⟩ v0).setCell ⟨b, 1, none⟩ v1).setCell ⟨b, 2, none⟩ v2).setCell ⟨b, 3, none⟩ v3).cell? ⟨c, o, none⟩ = u.cell? ⟨c, o, none⟩ :=
 World.cell?_of_block (a := ⟨c, o, none⟩) ((Below.heap_setCell _ _ _ c h).trans ((Below.heap_setCell _ _ _ c h).trans ((Below.heap_setCell _ _ _ c h).trans (Below.heap_setCell _ _ _ c h))))
end Go.Proofs.YtbffekcjdcihpaaGreatDoor
