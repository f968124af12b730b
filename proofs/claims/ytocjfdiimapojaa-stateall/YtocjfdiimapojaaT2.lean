/- make,bare,matrix,rowOf of package tensor. -/
import Derived.Test.YtocjfdiimapojaaNB
namespace Go.Proofs.Ytocjfdiimapojaa
open Go.ChangeShapes Go.WideShapes Go.ChangeAt Go.RowKit
set_option maxHeartbeats 16000000
set_option maxRecDepth 100000
set_option linter.unusedVariables false
set_option linter.unusedSimpArgs false
theorem tmake_run (l n : Nat) (hl : l ≤ n) (hn : n < 100000000) (w : World) : (Instr.makeSlice 52 (.int .i64 (l : Int)) (.int .i64 (n : Int))).run Try.prog w = .ok (.slice (some ⟨w.heap.size,0,none⟩) l n) (w.alloc (.cells (madeCells #[.int .i64 0] n) 3)):=by
 obtain ⟨i,hi,hz,hs,hby⟩:=info_parts (int_info)
 have:=run_make (P:=Try.prog) w 52 3 i (.int .i64 0) li_under hi hz .i64 .i64 (l : Int) (n : Int) (by omega) (by omega) (by rw [hby]; omega) (by omega)
 rw [hs,Int.toNat_natCast,Int.toNat_natCast,Nat.mul_one] at this
 exact this
theorem town_made (l n : Nat) (hl : l ≤ n) (hn : n < 100000000) (w : World) : Own (w.alloc (.cells (madeCells #[.int .i64 0] n) 3)) w.heap.size n (List.replicate l 0):=by
 refine ⟨_,heap_alloc_new w _,by simpa using hl,by simp [maxLen]; omega,by simp [size_madeCells],?_⟩
 rw [List.length_replicate,toList_madeCells_one]
 simp [List.take_replicate,Nat.min_eq_left hl]
theorem Grw.cellx {g : Nat} {a b : World} (h : Grw g a b) (B o : Nat) (hB : B < a.heap.size) (hne : B ≠ g) : b.cell? ⟨B,o,none⟩ = a.cell? ⟨B,o,none⟩ :=
 World.cell?_of_block (w:=a) (a:=⟨B,o,none⟩) (h.grown.block B hB (by simpa using hne))
theorem Grw.size {g : Nat} {a b : World} (h : Grw g a b) : a.heap.size ≤ b.heap.size:=h.grown.size
theorem res4 (w : World) (B : Nat) (a b c d : Value) (h : M4 w B a b c d) (x y z u : Value) : M4 ((((w.setCell ⟨B,0,none⟩ x).setCell ⟨B,1,none⟩ y).setCell ⟨B,2,none⟩ z).setCell ⟨B,3,none⟩ u) B x y z u:=by
 obtain ⟨c0,c1,c2,c3⟩:=h
 exact ⟨by simp [go_sem, *],by simp [go_sem, *],by simp [go_sem, *],by simp [go_sem, *]⟩
end Go.Proofs.Ytocjfdiimapojaa
