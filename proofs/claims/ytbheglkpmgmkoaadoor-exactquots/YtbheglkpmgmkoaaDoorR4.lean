/- The walk of exact's round where the number is a float's value. -/
import Derived.Test.YtbheglkpmgmkoaaDoorR3
namespace Go.Proofs.YtbheglkpmgmkoaaDoor
open Go.ChangeShapes Go.WideShapes Go.ChangeAt Go.RowKit
set_option linter.unusedVariables false
set_option linter.unusedSimpArgs false

theorem cells5 {w u : World} {a0 a1 a2 a3 a4 b0 b1 b2 b3 : Value} {t s : TypeId} (k : Kept ((w.alloc (.cells #[a0, a1, a2, a3, a4] t)).alloc (.cells #[b0, b1, b2, b3] s)) u) : (u.cell? ⟨w.heap.size, 0, none⟩ = some a0 ∧ u.cell? ⟨w.heap.size, 1, none⟩ = some a1 ∧ u.cell? ⟨w.heap.size, 2, none⟩ = some a2 ∧ u.cell? ⟨w.heap.size, 3, none⟩ = some a3 ∧ u.cell? ⟨w.heap.size, 4, none⟩ = some a4) ∧ u.cell? ⟨w.heap.size + 1, 0, none⟩ = some b0 ∧ u.cell? ⟨w.heap.size + 1, 1, none⟩ = some b1 ∧ u.cell? ⟨w.heap.size + 1, 2, none⟩ = some b2 ∧ u.cell? ⟨w.heap.size + 1, 3, none⟩ = some b3 :=
  ⟨⟨(k.below.cell (p := ⟨w.heap.size, 0, none⟩) (by simp <;> omega)).trans (by simp [go_sem]), (k.below.cell (p := ⟨w.heap.size, 1, none⟩) (by simp <;> omega)).trans (by simp [go_sem]), (k.below.cell (p := ⟨w.heap.size, 2, none⟩) (by simp <;> omega)).trans (by simp [go_sem]), (k.below.cell (p := ⟨w.heap.size, 3, none⟩) (by simp <;> omega)).trans (by simp [go_sem]), (k.below.cell (p := ⟨w.heap.size, 4, none⟩) (by simp <;> omega)).trans (by simp [go_sem])⟩, (k.below.cell (p := ⟨w.heap.size + 1, 0, none⟩) (by simp <;> omega)).trans (by simp [go_sem]), (k.below.cell (p := ⟨w.heap.size + 1, 1, none⟩) (by simp <;> omega)).trans (by simp [go_sem]), (k.below.cell (p := ⟨w.heap.size + 1, 2, none⟩) (by simp <;> omega)).trans (by simp [go_sem]), (k.below.cell (p := ⟨w.heap.size + 1, 3, none⟩) (by simp <;> omega)).trans (by simp [go_sem])⟩

set_option maxHeartbeats 400000 in
set_option maxRecDepth 100000 in
theorem round_zero (n pr le fi : Int) (f : Value) (ex : Int) (ng rs : Bool) (w : World) : Calls Tryd.prog 39 #[.agg #[.int .i64 n, .int .i64 pr, .int .i64 le, .int .i64 fi, f], .agg #[.bool ng, .int .i64 0, .int .i64 ex, .bool rs]] w fun e w' => e = .returned (.tuple #[.int .i64 0, .bool false]) ∧ Kept w w' := by
  go_enter Tryd.func39, Tryd.ntmps39
  go_wp2
  go_ret2
  exact ⟨rfl, ((Kept.refl _).alloc _ _).alloc _ _⟩

end Go.Proofs.YtbheglkpmgmkoaaDoor
