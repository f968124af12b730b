/- Package disk: New. -/
import Derived.Test.YthaiejmajhmahabDLY
import Derived.Lib.SmallJoins
namespace Go.Proofs.Ythaiejmajhmahab
open Go.ChangeShapes Go.WideShapes Go.ChangeAt Go.RowKit Go.Maps
set_option linter.unusedVariables false
set_option linter.unusedSimpArgs false

def noN : Nms := fun _ => none
theorem mp_empty {w : World} {b : Nat} (h : w.heap[b]? = some (.map #[] 0)) : Mp w b 0 noN :=
  ⟨.map [], Go.Joins.ownsMap_empty h, ⟨fun s => rfl, fun s f e => by cases e⟩⟩
/-- A new disk. -/
def dNew (rf rb : Int) : Dk := ⟨true, false, 0, rf, rb, noN, noN, 0, 0, fun _ => [], fun _ => [], []⟩
theorem bd_new (rf rb : Int) : Bd 0 (dNew rf rb) := ⟨Nat.le_refl _, Nat.le_refl _, fun _ => Nat.le_refl _, fun _ => Nat.le_refl _, fun x hx => by cases hx⟩
/-- What New leaves. -/
def NewR (w : World) (rf rb : Int) (B : Nat) (w' : World) : Prop := Kept w w' ∧ ∃ a, DSt w' (fun b => w.heap.size ≤ b ∧ b < w'.heap.size) B a (dNew rf rb)
set_option maxHeartbeats 1000000 in
theorem new_bad (rf rb : Int) (w : World) (h : rf < 1 ∨ 64 < rf ∨ rb < 0 ∨ 4194304 < rb) :
    Calls Try.prog 5 #[.int .i64 rf, .int .i64 rb] w fun e w' => e = .returned (.tuple #[.pointer none, .int .i64 1]) ∧ w' = w := by
  by_cases h1 : rf < 1
  · go_enter Try.func5, Try.ntmps5
    go_wp2
    go_ret2
    exact ⟨rfl, rfl⟩
  · by_cases h2 : 64 < rf
    · go_enter Try.func5, Try.ntmps5
      go_wp2
      go_ret2
      exact ⟨rfl, rfl⟩
    · by_cases h3 : rb < 0
      · go_enter Try.func5, Try.ntmps5
        go_wp2
        go_ret2
        exact ⟨rfl, rfl⟩
      · have h4 : 4194304 < rb := by omega
        clear h
        go_enter Try.func5, Try.ntmps5
        go_wp2
        go_ret2
        exact ⟨rfl, rfl⟩
set_option maxHeartbeats 1000000 in
theorem new_ok (rf rb : Int) (w : World) (h1 : ¬ rf < 1) (h2 : ¬ 64 < rf) (h3 : ¬ rb < 0) (h4 : ¬ 4194304 < rb) :
    Calls Try.prog 5 #[.int .i64 rf, .int .i64 rb] w fun e w' => ∃ B, e = .returned (.tuple #[.pointer (some ⟨B, 0, none⟩), .int .i64 0]) ∧ NewR w rf rb B w' := by
  have hmk := fun u => run_makeMap (P := Try.prog) 44 u
  have hend : ∀ w1 w2 w3 : World, w1 = w.alloc (.map #[] 0) → w2 = w1.alloc (.map #[] 0) → w3 = w2.alloc (.cells #[.bool true, .bool false, .int .i64 0, .int .i64 rf, .int .i64 rb, .map (some w.heap.size), .map (some (w.heap.size + 1)), .slice none 0 0] 47) →
      Kept w w3 ∧ DSt w3 (fun b => w.heap.size ≤ b ∧ b < w3.heap.size) (w.heap.size + 1 + 1) ⟨w.heap.size, w.heap.size + 1, .slice none 0 0, fun _ => False, fun _ => .slice none 0 0, fun _ => .slice none 0 0, []⟩ (dNew rf rb) := by
    intro w1 w2 w3 h1 h2 h3
    have z1 : w1.heap.size = w.heap.size + 1 := by rw [h1]; simp
    have z2 : w2.heap.size = w.heap.size + 1 + 1 := by rw [h2]; simp [z1]
    have z3 : w3.heap.size = w.heap.size + 1 + 1 + 1 := by rw [h3]; simp [z2]
    have b1 : w1.heap[w.heap.size]? = some (.map #[] 0) := by rw [h1]; exact (MapKept.heap_alloc w _).1
    have b2 : w2.heap[w.heap.size + 1]? = some (.map #[] 0) := by rw [h2, ← z1]; exact (MapKept.heap_alloc w1 _).1
    have l1 : ∀ i, i < w.heap.size → w1.heap[i]? = w.heap[i]? := fun i hi => by rw [h1]; exact Below.heap_alloc _ _ i hi
    have l2 : ∀ i, i < w.heap.size + 1 → w2.heap[i]? = w1.heap[i]? := fun i hi => by rw [h2]; exact Below.heap_alloc _ _ i (by omega)
    have l3 : ∀ i, i < w.heap.size + 1 + 1 → w3.heap[i]? = w2.heap[i]? := fun i hi => by rw [h3]; exact Below.heap_alloc _ _ i (by omega)
    have hA : Arr w3 (w.heap.size + 1 + 1) 47 [.bool true, .bool false, .int .i64 0, .int .i64 rf, .int .i64 rb, .map (some w.heap.size), .map (some (w.heap.size + 1)), .slice none 0 0] := by
      rw [h3, ← z2]
      exact arr_new w2 _ _
    have hB : Below w.heap.size w w3 := by
      rw [h3, h2, h1]
      exact (((Below.refl _ w).alloc (Nat.le_refl _) _).alloc (by simp) _).alloc (by simp; omega) _
    have f12 : ∀ {u : World}, ∀ a, (u.alloc (.map #[] 0)).frozen? a = u.frozen? a := fun {u} a => frozen_on (fun i => by
      by_cases hi : i < u.heap.size
      · exact .inl (Below.heap_alloc _ _ i hi)
      · by_cases e2 : i = u.heap.size
        · subst e2
          refine .inr ⟨fun c t f e => ?_, fun c t f e => ?_⟩
          · rw [(MapKept.heap_alloc u _).1] at e
            cases e
          · rw [Array.getElem?_eq_none (Nat.le_refl _)] at e
            cases e
        · exact .inl (by rw [Array.getElem?_eq_none (by simp; omega), Array.getElem?_eq_none (by omega)])) a
    have hK : Kept w w3 := ⟨hB, fun a _ => by
      rw [h3, frozen?_alloc_cells, h2, f12, h1, f12]⟩
    refine ⟨hK, ⟨hA, ⟨by omega, by omega⟩, fun b hb => hb.2, mp_empty ?_, mp_empty ?_, ⟨Nat.le_refl _, by simp only; omega⟩, ⟨by simp only; omega, by simp only; omega⟩, by simp, fun s f h => (by cases h), fun s f h => (by cases h), ⟨fun f h => h.elim, fun f h => h.elim, fun f h => h.elim, fun f h => h.elim, fun f b h => h.elim, fun f b h => h.elim, fun f g b h => h.elim, fun f g b h => h.elim, fun f g b h => h.elim⟩, ⟨rfl, .inl ⟨rfl, rfl, rfl⟩, fun i x v h => (by cases h), fun b hb => absurd hb (ob_nil b)⟩⟩⟩
    · simp only
      rw [l3 _ (by omega), l2 _ (by omega)]
      exact b1
    · simp only
      rw [l3 _ (by omega)]
      exact b2
  have HEND := hid hend
  clear hend
  go_enter Try.func5, Try.ntmps5
  go_wp2
  go_ret2
  obtain ⟨q1, q2⟩ := HEND.out _ _ _ rfl rfl rfl
  exact ⟨_, rfl, q1, _, q2⟩
end Go.Proofs.Ythaiejmajhmahab
