/- Package disk: what stays, and the small calls. -/
import Derived.Test.YthaiejmajhmahabDKN
import Derived.ProofKit
import Derived.OpenShut
import Derived.Below
import Derived.WalkLawsBesides
namespace Go.Proofs.Ythaiejmajhmahab
open Go.ChangeShapes Go.WideShapes Go.ChangeAt Go.RowKit
set_option linter.unusedVariables false
set_option linter.unusedSimpArgs false

structure Kept (w w' : World) : Prop where
  below : Below w.heap.size w w'
  frozen : ∀ a, a.block < w.heap.size → w'.frozen? a = w.frozen? a

theorem Kept.refl (w : World) : Kept w w := ⟨Below.refl _ _, fun _ _ => rfl⟩
theorem Kept.trans {a b c : World} (h : Kept a b) (k : Kept b c) : Kept a c :=
  ⟨h.below.trans (k.below.mono h.below.size), fun x hx => (k.frozen x (Nat.lt_of_lt_of_le hx h.below.size)).trans (h.frozen x hx)⟩
theorem Kept.alloc {a b : World} (h : Kept a b) (c : Array Value) (t : TypeId) : Kept a (b.alloc (.cells c t)) :=
  ⟨h.below.alloc h.below.size _, fun x hx => (frozen?_alloc_cells _ _ _ x).trans (h.frozen x hx)⟩
theorem Kept.setCell {a b : World} (h : Kept a b) {p : Addr} (hp : a.heap.size ≤ p.block) (u : Value) : Kept a (b.setCell p u) :=
  ⟨h.below.setCell hp u, fun x hx => (World.frozen?_setCell _ _ _ _).trans (h.frozen x hx)⟩
theorem frozen?_iter (w : World) (s : ByteArray) (pos : Nat) (a : Addr) : (w.iter s pos).frozen? a = w.frozen? a := by
  unfold World.frozen? World.iter World.alloc
  by_cases h : a.block < w.heap.size
  · simp [Array.getElem?_push, Nat.ne_of_lt h]
  · by_cases e : a.block = w.heap.size
    · simp [Array.getElem?_push, e]
    · simp [Array.getElem?_push, e]
theorem Kept.iter {a b : World} (h : Kept a b) (s : ByteArray) (pos : Nat) : Kept a (b.iter s pos) :=
  ⟨h.below.alloc h.below.size _, fun x hx => (frozen?_iter _ _ _ x).trans (h.frozen x hx)⟩

theorem isName_k (s : ByteArray) (b : Bool) (hb : b = true ↔ NmOk s) (w : World) :
    Calls Try.prog 35 #[.string s] w fun e w' => e = .returned (.bool b) ∧ Kept w w' := by
  refine (isName_any s b hb w).mono ?_
  rintro e w' ⟨rfl, rfl | ⟨pos, rfl⟩⟩
  · exact ⟨rfl, Kept.refl _⟩
  · exact ⟨rfl, (Kept.refl _).iter _ _⟩

theorem noName_k (s : ByteArray) (b : Bool) (hb : b = true ↔ NmOk s) (w : World) :
    Calls Try.prog 34 #[.string s] w fun e w' => e = .returned (.bool (!b)) ∧ Kept w w' := by
  go_enter Try.func34, Try.ntmps34
  go_wp2_with (first | (go_at_call 35; refine (isName_k s b hb _).mono ?_; rintro e u1 ⟨rfl, k1⟩))
  go_ret
  exact ⟨rfl, k1⟩

theorem there_any (B : Nat) (w : World) :
    Calls Try.prog 17 #[.pointer (some ⟨B, 0, none⟩)] w fun e w' => e = .returned (.pointer (some ⟨B, 0, none⟩)) ∧ w = w' := by
  go_enter Try.func17, Try.ntmps17
  go_wp2_with fail
  go_ret
  exact ⟨rfl, rfl⟩

end Go.Proofs.Ythaiejmajhmahab
