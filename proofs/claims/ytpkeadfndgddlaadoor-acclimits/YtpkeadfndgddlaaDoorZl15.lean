/- acc's begin. Regions that draw their order and whose last operations write a cell that earlier ones load: S is asked behind all operations but the late ones; a load may be taken first under S if every late one waits for it. A sum that is being made lies in one block; its cells. -/
import Derived.Test.YtpkeadfndgddlaaDoorZl14
import Derived.Deep.MidRow
import Derived.Test.YtpkeadfndgddlaaDoorZl02
import Derived.Deep.RegionHeld
import Derived.Test.YtpkeadfndgddlaaDoorZl05
import Derived.Test.YtpkeadfndgddlaaDoorZl11
namespace Go.Proofs.YtpkeadfndgddlaaDoor
open Go.ChangeShapes Go.WideShapes Go.ChangeAt Go.RowKit
set_option linter.unusedVariables false
set_option linter.unusedSimpArgs false
set_option maxHeartbeats 16000000
set_option maxRecDepth 100000
/- what a sum that is being made is, cell by cell: what it tells, its width, its columns, from where to where -/
def mkC (ac : List Value) (n : Int) (C : List Int) (lo hi : Int) : List Value := ac ++ (.int .i64 n :: (C.map (Value.int .i64) ++ [.int .i64 lo, .int .i64 hi]))
abbrev acc0 : List Value := [.bool false, .slice none 0 0, .int .i64 0, .bool false, .bool false, .bool false]
def C0 : List Int := List.replicate 141 0
theorem mk_zero (n : Int) : ((Tryd.zeroCells54.setIfInBounds 6 (.int .i64 n)).setIfInBounds 148 (.int .i64 141)).toList = mkC acc0 n C0 141 0 := by kernel_rfl
theorem mk_size (ac : List Value) (n : Int) (C : List Int) (lo hi : Int) (h : ac.length = 6) (hC : C.length = 141) : (mkC ac n C lo hi).length = 150 := by
 simp [mkC, h, hC]
theorem mk_one (ac : List Value) (n : Int) (C : List Int) (lo hi : Int) (h : ∀ v ∈ ac, v.oneCell' = true) : ∀ v ∈ mkC ac n C lo hi, v.oneCell' = true := by
 intro v hv
 simp only [mkC, List.mem_append, List.mem_cons, List.mem_map, List.not_mem_nil, or_false] at hv
 rcases hv with hv | rfl | ⟨d, -, rfl⟩ | rfl | rfl
 ·exact h v hv
 all_goals rfl
theorem there_new (w : World) (C : Array Value) (t : TypeId) : (w.alloc (.cells C t)).there w.heap.size 0 C.size := by
 intro j hj
 refine ⟨?_, by simp [go_sem]⟩
 simp [go_sem, hj]
theorem begin_any (n : Int) (w : World) : Calls Tryd.prog 21 #[.int .i64 n] w fun e w' => e = .returned (.agg (mkC acc0 n C0 141 0).toArray) ∧ Kept w w' := by
 have hz : Tryd.zeroCells54.size = 150 := by rfl
 have hin : (Tryd.prog.info? 54).map (·.size) = some 150 := by kernel_rfl
 obtain ⟨V, hV⟩ : ∃ V, V = (Tryd.zeroCells54.toList.set 6 (.int .i64 n)).set 148 (.int .i64 141) := ⟨_, rfl⟩
 have hVl : V = mkC acc0 n C0 141 0 := by
  rw [hV, ← mk_zero n]
  simp
 have hVs : V.length = 150 := by rw [hVl]; exact mk_size _ _ _ _ _ rfl rfl
 have h1 : ∀ v ∈ V, v.oneCell' = true := by rw [hVl]; exact mk_one acc0 _ _ _ _ (by decide)
 have ht : (w.alloc (.cells Tryd.zeroCells54 54)).there w.heap.size 0 V.length := by rw [hVs, ← hz]; exact there_new w _ _
 have hst := run_storeCells_cells (P := Tryd.prog) w.heap.size 0 V 0 (w.alloc (.cells Tryd.zeroCells54 54)) (fun j hj => by simpa using (ht j hj).1) (fun j hj => by simp) h1
 have hld := run_loadVar_mid (P := Tryd.prog) ((w.alloc (.cells Tryd.zeroCells54 54)).setCells w.heap.size 0 V) w.heap.size 0 54 V _ (World.rangeAt_setCells_same _ _ _ _ ht) Tryd.underlying54 rfl (by rw [hVs]; exact hin)
 have hk : Kept w ((w.alloc (.cells Tryd.zeroCells54 54)).setCells w.heap.size 0 V) := ((Kept.refl w).alloc _ _).grw (Nat.le_refl _) (Grw.setCells V (Grw.refl _ _) 0)
 rw [hV] at hst
 simp only [Nat.add_zero] at hst
 clear hin ht h1 hVs
 go_enter Tryd.func21, Tryd.ntmps21
 go_wp2
 rw [← hV]
 exact bodyPost_ret (v := .agg V.toArray) (by simp [results, Tryd.results21, asAddr, hld]) rfl ⟨by rw [hVl], hk⟩
end Go.Proofs.YtpkeadfndgddlaaDoor
namespace Go.Proofs.YtpkeadfndgddlaaDoor
open Go
set_option linter.unusedVariables false
set_option linter.unusedSimpArgs false
set_option maxHeartbeats 16000000
set_option maxRecDepth 100000
section
variable {P : Program} {ops : Array Oper} {Q : Exit → Act → World → Prop} {md : Region.Mode} {S : World → Prop} {D : List Nat}
/-- Those that wait for i, or for one of these. -/
def waits (md : Region.Mode) (i : Nat) (E : List Nat) (o : Oper) : Bool := o.after.any fun e => Region.binds md e && (e.on == i || E.contains e.on)
end
end Go.Proofs.YtpkeadfndgddlaaDoor
namespace Go.Proofs.YtpkeadfndgddlaaDoor
open Go.ChangeShapes Go.WideShapes Go.ChangeAt Go.RowKit
set_option linter.unusedVariables false
set_option linter.unusedSimpArgs false
set_option maxHeartbeats 16000000
set_option maxRecDepth 100000
structure MkAt (w : World) (b : Nat) (ac : List Value) (n : Int) (C : List Int) (lo hi : Int) : Prop where
 blk : w.heap[b]? = some (.cells (mkC ac n C lo hi).toArray 54 (0, 0))
 a6 : ac.length = 6
 c141 : C.length = 141
theorem MkAt.cell {w : World} {b : Nat} {ac : List Value} {n : Int} {C : List Int} {lo hi : Int} (h : MkAt w b ac n C lo hi) (i : Nat) : w.cell? ⟨b, i, none⟩ = (mkC ac n C lo hi)[i]? := by
 simp [World.cell?, h.blk]
theorem MkAt.width {w : World} {b : Nat} {ac : List Value} {n : Int} {C : List Int} {lo hi : Int} (h : MkAt w b ac n C lo hi) : w.cell? ⟨b, 6, none⟩ = some (.int .i64 n) := by
 rw [h.cell, mkC, List.getElem?_append_right (by rw [h.a6]; omega), h.a6]
 rfl
theorem MkAt.col {w : World} {b : Nat} {ac : List Value} {n : Int} {C : List Int} {lo hi : Int} (h : MkAt w b ac n C lo hi) (k : Nat) (hk : k < 141) : w.cell? ⟨b, 7 + k, none⟩ = some (.int .i64 (C.getD k 0)) := by
 have hc := h.c141
 rw [h.cell, mkC, List.getElem?_append_right (by rw [h.a6]; omega), h.a6, show 7 + k - 6 = k + 1 by omega, List.getElem?_cons_succ, List.getElem?_append_left (by simp; omega)]
 simp [List.getElem?_map, List.getElem?_eq_getElem (show k < C.length by omega), List.getD_eq_getElem?_getD]
theorem MkAt.low {w : World} {b : Nat} {ac : List Value} {n : Int} {C : List Int} {lo hi : Int} (h : MkAt w b ac n C lo hi) : w.cell? ⟨b, 148, none⟩ = some (.int .i64 lo) := by
 rw [h.cell, mkC, List.getElem?_append_right (by rw [h.a6]; omega), h.a6, show 148 - 6 = 141 + 1 by omega, List.getElem?_cons_succ, List.getElem?_append_right (by simp [h.c141])]
 simp [h.c141]
theorem MkAt.high {w : World} {b : Nat} {ac : List Value} {n : Int} {C : List Int} {lo hi : Int} (h : MkAt w b ac n C lo hi) : w.cell? ⟨b, 149, none⟩ = some (.int .i64 hi) := by
 rw [h.cell, mkC, List.getElem?_append_right (by rw [h.a6]; omega), h.a6, show 149 - 6 = 142 + 1 by omega, List.getElem?_cons_succ, List.getElem?_append_right (by simp [h.c141])]
 simp [h.c141]
theorem MkAt.kept {w w' : World} {b : Nat} {ac : List Value} {n : Int} {C : List Int} {lo hi : Int} (h : MkAt w b ac n C lo hi) (k : Kept w w') : MkAt w' b ac n C lo hi := by
 have hb : b < w.heap.size := by
  apply Decidable.byContradiction
  intro g
  have := h.blk
  rw [Array.getElem?_eq_none (by omega)] at this
  cases this
 exact ⟨(k.below.block b hb).trans h.blk, h.a6, h.c141⟩
theorem set_cell_block (w : World) (b i : Nat) (cs : Array Value) (t : TypeId) (v : Value) (h : w.heap[b]? = some (.cells cs t (0, 0))) : (w.setCell ⟨b, i, none⟩ v).heap[b]? = some (.cells (cs.setIfInBounds i v) t (0, 0)) := by
 have hb : b < w.heap.size := by
  apply Decidable.byContradiction
  intro g
  rw [Array.getElem?_eq_none (by omega)] at h
  cases h
 have h' : w.heap[b] = .cells cs t (0, 0) := by
  have e := Array.getElem?_eq_getElem hb
  rw [h] at e
  injection e with e
  exact e.symm
 simp [World.setCell, hb, Array.getElem_modify, h']
theorem MkAt.setCol {w : World} {b : Nat} {ac : List Value} {n : Int} {C : List Int} {lo hi : Int} (h : MkAt w b ac n C lo hi) (k : Nat) (hk : k < 141) (v : Int) : MkAt (w.setCell ⟨b, 7 + k, none⟩ (.int .i64 v)) b ac n (C.set k v) lo hi := by
 have hc := h.c141
 refine ⟨?_, h.a6, by simp [hc]⟩
 rw [set_cell_block w b _ _ _ _ h.blk]
 congr 2
 rw [List.setIfInBounds_toArray]
 congr 1
 rw [mkC, mkC, List.set_append_right _ _ (by rw [h.a6]; omega), h.a6, show 7 + k - 6 = k + 1 by omega, List.set_cons_succ, List.set_append_left _ _ (by simp; omega), List.map_set]
theorem MkAt.setLow {w : World} {b : Nat} {ac : List Value} {n : Int} {C : List Int} {lo hi : Int} (h : MkAt w b ac n C lo hi) (v : Int) : MkAt (w.setCell ⟨b, 148, none⟩ (.int .i64 v)) b ac n C v hi := by
 have hc := h.c141
 refine ⟨?_, h.a6, hc⟩
 rw [set_cell_block w b _ _ _ _ h.blk]
 congr 2
 rw [List.setIfInBounds_toArray]
 congr 1
 rw [mkC, mkC, List.set_append_right _ _ (by rw [h.a6]; omega), h.a6, show 148 - 6 = 141 + 1 by omega, List.set_cons_succ, List.set_append_right _ _ (by simp [hc])]
 simp [hc]
theorem MkAt.setHigh {w : World} {b : Nat} {ac : List Value} {n : Int} {C : List Int} {lo hi : Int} (h : MkAt w b ac n C lo hi) (v : Int) : MkAt (w.setCell ⟨b, 149, none⟩ (.int .i64 v)) b ac n C lo v := by
 have hc := h.c141
 refine ⟨?_, h.a6, hc⟩
 rw [set_cell_block w b _ _ _ _ h.blk]
 congr 2
 rw [List.setIfInBounds_toArray]
 congr 1
 rw [mkC, mkC, List.set_append_right _ _ (by rw [h.a6]; omega), h.a6, show 149 - 6 = 142 + 1 by omega, List.set_cons_succ, List.set_append_right _ _ (by simp [hc])]
 simp [hc]
theorem MkAt.new (w : World) (ac : List Value) (n : Int) (C : List Int) (lo hi : Int) (h6 : ac.length = 6) (hC : C.length = 141) : MkAt (w.alloc (.cells (mkC ac n C lo hi).toArray 54)) w.heap.size ac n C lo hi := ⟨heap_alloc_new w _, h6, hC⟩
end Go.Proofs.YtpkeadfndgddlaaDoor
