/- Package disk: bytes copied. -/
import Derived.Test.YthaiejmajhmahabDLH
import Derived.WalkSpells
namespace Go.Proofs.Ythaiejmajhmahab
open Go.ChangeShapes Go.WideShapes Go.ChangeAt Go.RowKit Go.Maps
set_option linter.unusedVariables false
set_option linter.unusedSimpArgs false

theorem Rb.new0 (w : World) : Rb (w.alloc (.cells #[] 5)) (.slice (some ⟨w.heap.size, 0, none⟩) 0 0) [] := .inr ⟨w.heap.size, 0, rfl, Nat.zero_le _, rfl, Nat.le_refl _, #[], heap_alloc_new w _, by simp [bv], by decide, rfl, rfl⟩
set_option maxHeartbeats 1000000 in
theorem clone_any (v : Value) (l : List UInt8) (w : World) (hv : Rd w v l) (hlen : l.length < 100000000) :
    Calls Try.prog 28 #[v] w fun e w' => ∃ v', e = .returned v' ∧ Rb w' v' l ∧ Kept w w' ∧ ∀ b, ob v' b → w.heap.size ≤ b := by
  have heq : ∀ (u : World) (a : Option Addr) (n c : Nat), (binOp .eql 27 (.slice a n c) (.slice none 0 0)).run Try.prog u = .ok (.bool a.isNone) u := fun u a n c => Lib.run_eql_slice_nil u _ _ a n c 0 0 bsl_u
  have hv2 := hv
  rcases hv2 with ⟨rfl, rfl⟩ | ⟨g, cap, rfl, hV, hcap⟩
  · go_enter Try.func28, Try.ntmps28
    go_wp2
    go_ret
    exact ⟨_, rfl, Rb.nil w, Kept.refl w, fun b hb => absurd hb (ob_nil b)⟩
  · have HV := hid hv
    have HE := hid (show ([] : List UInt8).length + l.length < 100000000 by simpa using hlen)
    clear hv hV hcap hlen
    have hend : ∀ v' w', Rb w' v' ([] ++ l) → KX (fun b => ob (.slice (some ⟨w.heap.size, 0, none⟩) 0 0) b) (w.alloc (.cells #[] 5)) w' → (∀ b, ob v' b → ob (.slice (some ⟨w.heap.size, 0, none⟩) 0 0) b ∨ (w.alloc (.cells #[] 5)).heap.size ≤ b) → Rb w' v' l ∧ Kept w w' ∧ ∀ b, ob v' b → w.heap.size ≤ b := by
      intro v' w' h1 h2 h3
      refine ⟨by simpa using h1, kept_of_kx ((Kept.refl w).alloc _ _) h2 fun b hb => ?_, fun b hb => ?_⟩
      · rw [(ob_some _ _ _ _).1 hb]
        exact Nat.le_refl _
      · rcases h3 b hb with h | h
        · rw [(ob_some _ _ _ _).1 h]
          exact Nat.le_refl _
        · simp at h
          omega
    have HEND := hid hend
    clear hend
    go_enter Try.func28, Try.ntmps28
    go_wp2_with (first | (at_builtin; refine wp_appd _ rfl _ _ rfl _ _ [] l rfl rfl (Rb.new0 w) (HV.out.kept ((Kept.refl w).alloc _ _)) HE.out ?_; intro v' w' r2 r3 r4))
    go_ret
    exact ⟨v', rfl, HEND.out _ _ r2 r3 r4⟩
end Go.Proofs.Ythaiejmajhmahab
