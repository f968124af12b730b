/- Package disk: whether all of some strings are names (slices.IndexFunc, ContainsFunc over check's test). -/
import Derived.Test.YthaiejmajhmahabDKK
namespace Go.Proofs.Ythaiejmajhmahab
open Go.ChangeShapes Go.WideShapes Go.ChangeAt Go.RowKit
set_option linter.unusedVariables false
set_option linter.unusedSimpArgs false

/-- Strings that lie in a block. -/
structure Sts (w : World) (B n : Nat) (g : Nat → ByteArray) : Prop where
  lt : B < w.heap.size
  cell : ∀ i, i < n → w.cell? ⟨B, i, none⟩ = some (.string (g i))
theorem Sts.kept {w w' : World} {B n : Nat} {g : Nat → ByteArray} (h : Sts w B n g) (k : Kept w w') : Sts w' B n g :=
  ⟨Nat.lt_of_lt_of_le h.lt k.below.size, fun i hi => (k.below.cell (p := ⟨B, i, none⟩) h.lt).trans (h.cell i hi)⟩

set_option maxHeartbeats 4000000 in
set_option maxRecDepth 1000000 in
theorem index_any (n : Nat) (g : Nat → ByteArray) (hlen : n < 1000) (B : Nat) (ok : ByteArray → Bool) (hok : ∀ s, ok s = true ↔ NmOk s) (w : World) (hS : Sts w B n g) :
    Calls Try.prog 40 #[.slice (some ⟨B, 0, none⟩) n n, .func (.func 34) #[] #[]] w fun e w' => (∃ i : Int, e = .returned (.int .i64 i) ∧ (0 ≤ i ↔ ¬ ∀ j, j < n → ok (g j) = true)) ∧ Kept w w' := by
  go_enter Try.func40, Try.ntmps40
  go_wp2
  go_loopw [8] (fun v w' => ∃ i : Nat, v = .int .i64 i ∧ i ≤ n ∧ (∀ j, j < i → ok (g j) = true) ∧ Kept w w') (fun v _ => match v with | .int _ i => n - i.toNat | _ => 0)
  case atStart => exact ⟨0, rfl, by omega, fun j h => absurd h (by omega), Kept.refl _⟩
  case round =>
    obtain ⟨i, rfl, hi, hall, k0⟩ := hrel
    by_cases hp : i < n
    · have hcell := (hS.kept k0).cell i hp
      have hnm := fun u => noName_k (g i) (ok (g i)) (hok _) u
      generalize hb : ok (g i) = b at hnm
      generalize g i = s at hcell hnm
      cases b
      · go_wp2_with (first | (go_at_call 34; refine (hnm _).mono ?_; rintro e u1 ⟨rfl, k1⟩))
        go_ret
        exact ⟨⟨_, rfl, ⟨fun _ h => (by rw [h i hp] at hb; cases hb), fun _ => (by omega)⟩⟩, k0.trans k1⟩
      · go_wp2_with (first | (go_at_call 34; refine (hnm _).mono ?_; rintro e u1 ⟨rfl, k1⟩))
        go_roundw
        case rel =>
          refine ⟨i + 1, ?_, by omega, fun j hj => ?_, k0.trans k1⟩
          · simp [wrap64] <;> omega
          · by_cases e : j = i
            · subst e; exact hb
            · exact hall j (by omega)
        case measure => simp; omega
    · go_wp2
      go_ret
      exact ⟨⟨_, rfl, ⟨fun h => absurd h (by decide), fun h => absurd (fun j hj => hall j (by omega)) h⟩⟩, k0⟩

end Go.Proofs.Ythaiejmajhmahab
