/- A sum that is being made lies in one block; its cells. -/
import Derived.Test.YtdpccifhhencgaaGreatDoorZo13
import Derived.Test.YtdpccifhhencgaaGreatDoorZo04
import Derived.Test.YtdpccifhhencgaaGreatDoorZo10
namespace Go.Proofs.YtdpccifhhencgaaGreatDoor
open Go.ChangeShapes Go.WideShapes Go.ChangeAt Go.RowKit
set_option linter.unusedVariables false
set_option linter.unusedSimpArgs false
set_option maxHeartbeats 16000000
set_option maxRecDepth 100000
structure MkAt (w : World) (b : Nat) (ac : List Value) (n : Int) (C : List Int) (lo hi : Int) : Prop where
 blk : w.heap[b]? = some (.cells (mkC ac n C lo hi).toArray 95 (0, 0))
 a6 : ac.length = 6
 c141 : C.length = 141
theorem MkAt.cell {w : World} {b : Nat} {ac : List Value} {n : Int} {C : List Int} {lo hi : Int} (h : MkAt w b ac n C lo hi) (i : Nat) : w.cell? ⟨b, i, none⟩ = (mkC ac n C lo hi)[i]? := by
 simp [World.cell?, h.blk]
theorem MkAt.width {w : World} {b : Nat} {ac : List Value} {n : Int} {C : List Int} {lo hi : Int} (h : MkAt w b ac n C lo hi) : w.cell? ⟨b, 6, none⟩ = some (.int .i64 n) := by
 rw [h.cell, mkC, List.getElem?_append_right (by rw [h.a6]; omega), h.a6]
 rfl
theorem MkAt.col {w : World} {b : Nat} {ac : List Value} {n : Int} {C : List Int} {lo hi : Int} (h : MkAt w b ac n C lo hi) (k : Nat) (hk : k < 141) : w.cell? ⟨b, 7 + k, none⟩ = some (.int .i64 (C.getD k 0)) := by
 have hc := h.c141
 rw [h.cell, mkC, List.getElem?_append_right (by rw [h.a6]; omega), h.a6, show 7 + k - 6 = k + 1 by omega, List.getElem?_cons_succ, List.getElem?_append_left (by simp; omega)]
 simp [List.getElem?_map, List.getElem?_eq_getElem (show k < C.length by omega), List.getD_eq_getElem?_getD]
theorem MkAt.low {w : World} {b : Nat} {ac : List Value} {n : Int} {C : List Int} {lo hi : Int} (h : MkAt w b ac n C lo hi) : w.cell? ⟨b, 148, none⟩ = some (.int .i64 lo) := by
 rw [h.cell, mkC, List.getElem?_append_right (by rw [h.a6]; omega), h.a6, show 148 - 6 = 141 + 1 by omega, List.getElem?_cons_succ, List.getElem?_append_right (by simp [h.c141])]
 simp [h.c141]
theorem MkAt.high {w : World} {b : Nat} {ac : List Value} {n : Int} {C : List Int} {lo hi : Int} (h : MkAt w b ac n C lo hi) : w.cell? ⟨b, 149, none⟩ = some (.int .i64 hi) := by
 rw [h.cell, mkC, List.getElem?_append_right (by rw [h.a6]; omega), h.a6, show 149 - 6 = 142 + 1 by omega, List.getElem?_cons_succ, List.getElem?_append_right (by simp [h.c141])]
 simp [h.c141]
theorem MkAt.kept {w w' : World} {b : Nat} {ac : List Value} {n : Int} {C : List Int} {lo hi : Int} (h : MkAt w b ac n C lo hi) (k : Kept w w') : MkAt w' b ac n C lo hi := by
 have hb : b < w.heap.size := by
  apply Decidable.byContradiction
  intro g
  have := h.blk
  rw [Array.getElem?_eq_none (by omega)] at this
  cases this
 exact ⟨(k.below.block b hb).trans h.blk, h.a6, h.c141⟩
theorem set_cell_block (w : World) (b i : Nat) (cs : Array Value) (t : TypeId) (v : Value) (h : w.heap[b]? = some (.cells cs t (0, 0))) : (w.setCell ⟨b, i, none⟩ v).heap[b]? = some (.cells (cs.setIfInBounds i v) t (0, 0)) := by
 have hb : b < w.heap.size := by
  apply Decidable.byContradiction
  intro g
  rw [Array.getElem?_eq_none (by omega)] at h
  cases h
 have h' : w.heap[b] = .cells cs t (0, 0) := by
  have e := Array.getElem?_eq_getElem hb
  rw [h] at e
  injection e with e
  exact e.symm
 simp [World.setCell, hb, Array.getElem_modify, h']
theorem MkAt.setCol {w : World} {b : Nat} {ac : List Value} {n : Int} {C : List Int} {lo hi : Int} (h : MkAt w b ac n C lo hi) (k : Nat) (hk : k < 141) (v : Int) : MkAt (w.setCell ⟨b, 7 + k, none⟩ (.int .i64 v)) b ac n (C.set k v) lo hi := by
 have hc := h.c141
 refine ⟨?_, h.a6, by simp [hc]⟩
 rw [set_cell_block w b _ _ _ _ h.blk]
 congr 2
 rw [List.setIfInBounds_toArray]
 congr 1
 rw [mkC, mkC, List.set_append_right _ _ (by rw [h.a6]; omega), h.a6, show 7 + k - 6 = k + 1 by omega, List.set_cons_succ, List.set_append_left _ _ (by simp; omega), List.map_set]
theorem MkAt.setLow {w : World} {b : Nat} {ac : List Value} {n : Int} {C : List Int} {lo hi : Int} (h : MkAt w b ac n C lo hi) (v : Int) : MkAt (w.setCell ⟨b, 148, none⟩ (.int .i64 v)) b ac n C v hi := by
 have hc := h.c141
 refine ⟨?_, h.a6, hc⟩
 rw [set_cell_block w b _ _ _ _ h.blk]
 congr 2
 rw [List.setIfInBounds_toArray]
 congr 1
 rw [mkC, mkC, List.set_append_right _ _ (by rw [h.a6]; omega), h.a6, show 148 - 6 = 141 + 1 by omega, List.set_cons_succ, List.set_append_right _ _ (by simp [hc])]
 simp [hc]
theorem MkAt.setHigh {w : World} {b : Nat} {ac : List Value} {n : Int} {C : List Int} {lo hi : Int} (h : MkAt w b ac n C lo hi) (v : Int) : MkAt (w.setCell ⟨b, 149, none⟩ (.int .i64 v)) b ac n C lo v := by
 have hc := h.c141
 refine ⟨?_, h.a6, hc⟩
 rw [set_cell_block w b _ _ _ _ h.blk]
 congr 2
 rw [List.setIfInBounds_toArray]
 congr 1
 rw [mkC, mkC, List.set_append_right _ _ (by rw [h.a6]; omega), h.a6, show 149 - 6 = 142 + 1 by omega, List.set_cons_succ, List.set_append_right _ _ (by simp [hc])]
 simp [hc]
theorem MkAt.new (w : World) (ac : List Value) (n : Int) (C : List Int) (lo hi : Int) (h6 : ac.length = 6) (hC : C.length = 141) : MkAt (w.alloc (.cells (mkC ac n C lo hi).toArray 95)) w.heap.size ac n C lo hi := ⟨heap_alloc_new w _, h6, hC⟩
end Go.Proofs.YtdpccifhhencgaaGreatDoor
