/- The walk of numbers of package bits, called with one pattern. -/
import Derived.Test.YtkmengfmiamdaaaDoorCore
namespace Go.Proofs.YtkmengfmiamdaaaDoor
open Go.ChangeShapes Go.WideShapes Go.ChangeAt Go.RowKit

theorem laid_cell {w1 w2 : World} {c : Array Value} {t : TypeId} (h : Kept (w1.alloc (.cells c t)) w2) (o : Nat) : w2.cell? ⟨w1.heap.size, o, none⟩ = (w1.alloc (.cells c t)).cell? ⟨w1.heap.size, o, none⟩ :=
  h.below.cell (p := ⟨w1.heap.size, o, none⟩) (by simp)

theorem laid_size {w1 w2 : World} {c : Array Value} {t : TypeId} (h : Kept (w1.alloc (.cells c t)) w2) : w1.heap.size < w2.heap.size := by
  have := h.below.size
  simp at this
  omega

theorem old_cell {w1 w2 : World} {c : Array Value} {t : TypeId} (h : Kept (w1.alloc (.cells c t)) w2) (k o : Nat) (hk : k < w1.heap.size) : w2.cell? ⟨k, o, none⟩ = w1.cell? ⟨k, o, none⟩ :=
  (((Kept.refl w1).alloc c t).trans h).below.cell (p := ⟨k, o, none⟩) hk

set_option maxHeartbeats 400000 in
theorem numbers1_64 (b : Int) (blk : Nat) (w : World) (hcell : w.cell? ⟨blk, 0, none⟩ = some (.int .i64 b)) (hblk : blk < w.heap.size) : Calls Tryd.prog 116 #[.int .i64 64, .slice (some ⟨blk, 0, none⟩) 1 1] w fun e w' => e = .returned (.tuple #[.agg #[.int .i64 (-9223372036854775808), .int .i64 9218868437227405312, .int .i64 9221120237041090561, .int .i64 52, .int .i64 (-1074)], .bool (cls b 64 != 4)]) ∧ Kept w w' := by
  go_enter Tryd.func116, Tryd.ntmps116
  go_wp2_with (first | (go_at_call 92; refine (layoutOf_64 _).mono ?_; rintro e w1 ⟨rfl, hk1⟩))
  have s1 := laid_size hk1
  have hc1 : w1.cell? ⟨blk, 0, none⟩ = some (.int .i64 b) := (old_cell hk1 blk 0 hblk).trans hcell
  have hb1 : blk < w1.heap.size := by omega
  refine wp_loop_rounds 2 ?_
  rw [rounds_succ]
  go_wp2_with (first | (go_at_call 93; refine (class_any _ _ _).mono ?_; rintro e w2 ⟨rfl, hk2⟩))
  have s2 := laid_size hk2
  have hl2 := laid_cell hk2
  have hl0 : ∀ o, w2.cell? ⟨w.heap.size, o, none⟩ = (w.alloc (.cells #[.int .i64 0, .int .i64 0, .int .i64 0, .int .i64 0, .int .i64 0] 111)).cell? ⟨w.heap.size, o, none⟩ := fun o => (old_cell hk2 _ o s1).trans (laid_cell hk1 o)
  have hf2 : ∀ o, w2.frozen? ⟨w.heap.size, o, none⟩ = (w.alloc (.cells #[.int .i64 0, .int .i64 0, .int .i64 0, .int .i64 0, .int .i64 0] 111)).frozen? ⟨w.heap.size, o, none⟩ := fun o => (((Kept.refl _).trans hk1).alloc _ _ |>.trans hk2).frozen _
  rw [rounds_succ]
  go_wp2
  refine bodyPost_ret (v := .tuple #[.agg #[.int .i64 (-9223372036854775808), .int .i64 9218868437227405312, .int .i64 9221120237041090561, .int .i64 52, .int .i64 (-1074)], .bool (cls b 64 != 4)]) (by simp [results, Tryd.results116, go_sem, hl0]) rfl ⟨rfl, ?_⟩
  have hK : Kept w w2 := (((Kept.refl w).alloc _ _).trans hk1 |>.alloc _ _).trans hk2
  exact ((((hK.setCell (Nat.le_refl _) _).setCell (Nat.le_refl _) _).setCell (Nat.le_refl _) _).setCell (Nat.le_refl _) _).setCell (Nat.le_refl _) _

set_option maxHeartbeats 400000 in
theorem numbers1_32 (b : Int) (blk : Nat) (w : World) (hcell : w.cell? ⟨blk, 0, none⟩ = some (.int .i64 b)) (hblk : blk < w.heap.size) : Calls Tryd.prog 116 #[.int .i64 32, .slice (some ⟨blk, 0, none⟩) 1 1] w fun e w' => e = .returned (.tuple #[.agg #[.int .i64 2147483648, .int .i64 2139095040, .int .i64 2143289345, .int .i64 23, .int .i64 (-149)], .bool (cls b 32 != 4)]) ∧ Kept w w' := by
  go_enter Tryd.func116, Tryd.ntmps116
  go_wp2_with (first | (go_at_call 92; refine (layoutOf_32 _).mono ?_; rintro e w1 ⟨rfl, hk1⟩))
  have s1 := laid_size hk1
  have hc1 : w1.cell? ⟨blk, 0, none⟩ = some (.int .i64 b) := (old_cell hk1 blk 0 hblk).trans hcell
  have hb1 : blk < w1.heap.size := by omega
  refine wp_loop_rounds 2 ?_
  rw [rounds_succ]
  go_wp2_with (first | (go_at_call 93; refine (class_any _ _ _).mono ?_; rintro e w2 ⟨rfl, hk2⟩))
  have s2 := laid_size hk2
  have hl2 := laid_cell hk2
  have hl0 : ∀ o, w2.cell? ⟨w.heap.size, o, none⟩ = (w.alloc (.cells #[.int .i64 0, .int .i64 0, .int .i64 0, .int .i64 0, .int .i64 0] 111)).cell? ⟨w.heap.size, o, none⟩ := fun o => (old_cell hk2 _ o s1).trans (laid_cell hk1 o)
  have hf2 : ∀ o, w2.frozen? ⟨w.heap.size, o, none⟩ = (w.alloc (.cells #[.int .i64 0, .int .i64 0, .int .i64 0, .int .i64 0, .int .i64 0] 111)).frozen? ⟨w.heap.size, o, none⟩ := fun o => (((Kept.refl _).trans hk1).alloc _ _ |>.trans hk2).frozen _
  rw [rounds_succ]
  go_wp2
  refine bodyPost_ret (v := .tuple #[.agg #[.int .i64 2147483648, .int .i64 2139095040, .int .i64 2143289345, .int .i64 23, .int .i64 (-149)], .bool (cls b 32 != 4)]) (by simp [results, Tryd.results116, go_sem, hl0]) rfl ⟨rfl, ?_⟩
  have hK : Kept w w2 := (((Kept.refl w).alloc _ _).trans hk1 |>.alloc _ _).trans hk2
  exact ((((hK.setCell (Nat.le_refl _) _).setCell (Nat.le_refl _) _).setCell (Nat.le_refl _) _).setCell (Nat.le_refl _) _).setCell (Nat.le_refl _) _

set_option maxHeartbeats 400000 in
theorem numbers1_0 (b n : Int) (h1 : (n == 32) = false) (h2 : (n == 64) = false) (blk : Nat) (w : World) (hcell : w.cell? ⟨blk, 0, none⟩ = some (.int .i64 b)) (hblk : blk < w.heap.size) : Calls Tryd.prog 116 #[.int .i64 n, .slice (some ⟨blk, 0, none⟩) 1 1] w fun e w' => e = .returned (.tuple #[.agg #[.int .i64 0, .int .i64 0, .int .i64 0, .int .i64 0, .int .i64 0], .bool (false)]) ∧ Kept w w' := by
  go_enter Tryd.func116, Tryd.ntmps116
  go_wp2_with (first | (go_at_call 92; refine (layoutOf_0 _ h1 h2 _).mono ?_; rintro e w1 ⟨rfl, hk1⟩))
  have s1 := laid_size hk1
  have hc1 : w1.cell? ⟨blk, 0, none⟩ = some (.int .i64 b) := (old_cell hk1 blk 0 hblk).trans hcell
  have hb1 : blk < w1.heap.size := by omega
  refine wp_loop_rounds 2 ?_
  rw [rounds_succ]
  go_wp2
  have hl1 := laid_cell hk1
  have hf1 : ∀ o, w1.frozen? ⟨w.heap.size, o, none⟩ = (w.alloc (.cells #[.int .i64 0, .int .i64 0, .int .i64 0, .int .i64 0, .int .i64 0] 111)).frozen? ⟨w.heap.size, o, none⟩ := fun o => hk1.frozen _
  rw [rounds_succ]
  go_wp2
  refine bodyPost_ret (v := .tuple #[.agg #[.int .i64 0, .int .i64 0, .int .i64 0, .int .i64 0, .int .i64 0], .bool (false)]) (by simp [results, Tryd.results116, go_sem, hl1, s1]) rfl ⟨rfl, ?_⟩
  have hK : Kept w w1 := ((Kept.refl w).alloc _ _).trans hk1
  exact (((((hK.setCell (Nat.le_refl _) _).setCell (Nat.le_refl _) _).setCell (Nat.le_refl _) _).setCell (Nat.le_refl _) _).setCell (Nat.le_refl _) _).alloc _ _

theorem numbers_64 (b : Int) (w : World) : Calls Tryd.prog 116 #[.int .i64 64, .slice (some ⟨w.heap.size, 0, none⟩) 1 1] (w.alloc (.cells #[.int .i64 b] 3)) fun e w' => e = .returned (.tuple #[.agg #[.int .i64 (-9223372036854775808), .int .i64 9218868437227405312, .int .i64 9221120237041090561, .int .i64 52, .int .i64 (-1074)], .bool (cls b 64 != 4)]) ∧ Kept w w' := by
  refine (numbers1_64 b w.heap.size _ (by simp [go_sem]) (by simp)).mono ?_
  rintro e w' ⟨rfl, hk⟩
  exact ⟨rfl, ((Kept.refl w).alloc _ _).trans hk⟩

theorem numbers_32 (b : Int) (w : World) : Calls Tryd.prog 116 #[.int .i64 32, .slice (some ⟨w.heap.size, 0, none⟩) 1 1] (w.alloc (.cells #[.int .i64 b] 3)) fun e w' => e = .returned (.tuple #[.agg #[.int .i64 2147483648, .int .i64 2139095040, .int .i64 2143289345, .int .i64 23, .int .i64 (-149)], .bool (cls b 32 != 4)]) ∧ Kept w w' := by
  refine (numbers1_32 b w.heap.size _ (by simp [go_sem]) (by simp)).mono ?_
  rintro e w' ⟨rfl, hk⟩
  exact ⟨rfl, ((Kept.refl w).alloc _ _).trans hk⟩

theorem numbers_0 (b n : Int) (h1 : (n == 32) = false) (h2 : (n == 64) = false) (w : World) : Calls Tryd.prog 116 #[.int .i64 n, .slice (some ⟨w.heap.size, 0, none⟩) 1 1] (w.alloc (.cells #[.int .i64 b] 3)) fun e w' => e = .returned (.tuple #[.agg #[.int .i64 0, .int .i64 0, .int .i64 0, .int .i64 0, .int .i64 0], .bool (false)]) ∧ Kept w w' := by
  refine (numbers1_0 b n h1 h2 w.heap.size _ (by simp [go_sem]) (by simp)).mono ?_
  rintro e w' ⟨rfl, hk⟩
  exact ⟨rfl, ((Kept.refl w).alloc _ _).trans hk⟩

end Go.Proofs.YtkmengfmiamdaaaDoor
