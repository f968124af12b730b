/- Shapes: the document's Width, Sized, greater, Both; package tensor's share, roomy, Both. The walk of TensorBoth. -/
import Derived.Test.YtojhhimmfnccjaaT1
namespace Go.Proofs.Ytojhhimmfnccjaa
open Go.ChangeShapes Go.WideShapes Go.ChangeAt Go.RowKit
set_option linter.unusedVariables false
set_option linter.unusedSimpArgs false

structure M3 (w : World) (B : Nat) (r c n : Value) : Prop where
  c0 : w.cell? ⟨B, 0, none⟩ = some r
  c1 : w.cell? ⟨B, 1, none⟩ = some c
  c2 : w.cell? ⟨B, 2, none⟩ = some n
theorem M3.lt {w : World} {B : Nat} {r c n : Value} (h : M3 w B r c n) : B < w.heap.size := by
  by_cases hb : B < w.heap.size
  · exact hb
  · have := h.c0
    simp [World.cell?, Array.getElem?_eq_none (Nat.le_of_not_lt hb)] at this
theorem M3.bl {w w' : World} {B : Nat} {r c n : Value} (h : M3 w B r c n) (k : Bl w w') : M3 w' B r c n :=
  ⟨(k.cell B 0 h.lt).trans h.c0, (k.cell B 1 h.lt).trans h.c1, (k.cell B 2 h.lt).trans h.c2⟩
theorem M3.new (w : World) (r c n : Value) (t : TypeId) : M3 (w.alloc (.cells #[r, c, n] t)) w.heap.size r c n :=
  ⟨by simp [go_sem], by simp [go_sem], by simp [go_sem]⟩
theorem M3.put (w : World) (B : Nat) (a b c : Value) (h : M3 w B a b c) (x y z : Value) : M3 (((w.setCell ⟨B, 0, none⟩ x).setCell ⟨B, 1, none⟩ y).setCell ⟨B, 2, none⟩ z) B x y z := by
  obtain ⟨c0, c1, c2⟩ := h
  exact ⟨by simp [go_sem, *], by simp [go_sem, *], by simp [go_sem, *]⟩

theorem sz_4 {r c n : Int} (hn : n = 64 ∨ n = 32) (h : r < 1 ∨ c < 1) : ckS r c n = 4 := by
  unfold ckS
  rw [if_neg (fun k => k hn), if_pos (by omega)]
theorem sz_2 {r c n : Int} (hn : n = 64 ∨ n = 32) (hr : 1 ≤ r) (hc : 1 ≤ c) (h : 4096 < r * c) : ckS r c n = 2 := by
  unfold ckS ckR
  rw [if_neg (fun k => k hn), if_neg (by omega), if_pos]
  rw [Int.tdiv_eq_ediv_of_nonneg (by omega)]
  have := mt (Int.le_ediv_iff_mul_le (by omega : 0 < c)).1 (show ¬ r * c ≤ 4096 by omega)
  omega

end Go.Proofs.Ytojhhimmfnccjaa
