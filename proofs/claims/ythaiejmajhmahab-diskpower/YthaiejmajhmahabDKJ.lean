/- Package disk: ContainsFunc over check's test; the fuse (light, burn). -/
import Derived.Test.YthaiejmajhmahabDKI
namespace Go.Proofs.Ythaiejmajhmahab
open Go.ChangeShapes Go.WideShapes Go.ChangeAt Go.RowKit
set_option linter.unusedVariables false
set_option linter.unusedSimpArgs false

theorem contains_any (n : Nat) (g : Nat → ByteArray) (hlen : n < 1000) (B : Nat) (ok : ByteArray → Bool) (hok : ∀ s, ok s = true ↔ NmOk s) (b : Bool) (hb : b = true ↔ ∀ j, j < n → ok (g j) = true) (w : World) (hS : Sts w B n g) :
    Calls Try.prog 33 #[.slice (some ⟨B, 0, none⟩) n n, .func (.func 34) #[] #[]] w fun e w' => e = .returned (.bool (!b)) ∧ Kept w w' := by
  go_enter Try.func33, Try.ntmps33
  go_wp2_with (first | (go_at_call 40; refine (index_any n g hlen B ok hok _ hS).mono ?_; rintro e u1 ⟨⟨i, rfl, hi⟩, k1⟩))
  go_ret
  refine ⟨?_, k1⟩
  cases b
  · have : 0 ≤ i := hi.2 (fun h => by cases hb.2 h)
    simp [this]
  · have : ¬ 0 ≤ i := fun h => hi.1 h (hb.1 rfl)
    simp; omega

end Go.Proofs.Ythaiejmajhmahab
