/- The walk of Join of package bits, way by way. -/
import Derived.Test.YtedghjededicpaaCore
import Derived.Deep.RegionHeld
namespace Go.Proofs.Ytedghjededicpaa
open Go.ChangeShapes Go.WideShapes Go.ChangeAt Go.RowKit
set_option linter.unusedVariables false

theorem jkeep0 {x v : World} {c : Array Value} {t : TypeId} (h : Kept (x.alloc (.cells c t)) v) : Kept (x.alloc (.cells c t)) v.drew ∧ ∀ o, v.drew.cell? ⟨x.heap.size, o, none⟩ = (x.alloc (.cells c t)).cell? ⟨x.heap.size, o, none⟩ := ⟨h.drew, laid_cell h.drew⟩
theorem jkeep1 {x v v' : World} {c : Array Value} {t : TypeId} (h : Kept (x.alloc (.cells c t)) v ∧ ∀ o, v.cell? ⟨x.heap.size, o, none⟩ = (x.alloc (.cells c t)).cell? ⟨x.heap.size, o, none⟩) (k : Kept v v') : Kept (x.alloc (.cells c t)) v' ∧ ∀ o, v'.cell? ⟨x.heap.size, o, none⟩ = (x.alloc (.cells c t)).cell? ⟨x.heap.size, o, none⟩ := ⟨h.1.trans k, laid_cell (h.1.trans k)⟩

end Go.Proofs.Ytedghjededicpaa
