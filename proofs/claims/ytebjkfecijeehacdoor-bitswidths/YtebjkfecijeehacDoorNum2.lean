/- The walk of numbers of package bits, called with two patterns. -/
import Derived.Test.YtebjkfecijeehacDoorTurns2
namespace Go.Proofs.YtebjkfecijeehacDoor
open Go.ChangeShapes Go.WideShapes Go.ChangeAt Go.RowKit
set_option linter.unusedVariables false

set_option maxHeartbeats 1000000 in
theorem numbers2_64_yes (a b : Int) (hc : (cls a 64 != 4) = true) (w : World) : Calls Tryd.prog 34 #[.int .i64 64, .slice (some ⟨w.heap.size, 0, none⟩) 2 2] (w.alloc (.cells #[.int .i64 a, .int .i64 b] 3)) fun e w' => e = .returned (.tuple #[.agg #[.int .i64 (-9223372036854775808), .int .i64 9218868437227405312, .int .i64 9221120237041090561, .int .i64 52, .int .i64 (-1074)], .bool (cls b 64 != 4)]) ∧ Kept w w' := by
  obtain ⟨v, hv⟩ : ∃ v, v = w.alloc (.cells #[.int .i64 a, .int .i64 b] 3) := ⟨_, rfl⟩
  have hKv : Kept w v := by rw [hv]; exact (Kept.refl w).alloc _ _
  have hca : v.cell? ⟨w.heap.size, 0, none⟩ = some (.int .i64 a) := by rw [hv]; simp [go_sem]
  have hcb : v.cell? ⟨w.heap.size, 1, none⟩ = some (.int .i64 b) := by rw [hv]; simp [go_sem]
  have hblk : w.heap.size < v.heap.size := by rw [hv]; simp
  rw [← hv]
  clear hv
  generalize w.heap.size = blk at *
  go_enter Tryd.func34, Tryd.ntmps34
  go_wp2_with (first | (go_at_call 28; refine (layoutOf_64 _).mono ?_; rintro e w1 ⟨rfl, hk1⟩))
  have s1 := laid_size hk1
  have ca1 : w1.cell? ⟨blk, 0, none⟩ = some (.int .i64 a) := (old_cell hk1 blk 0 hblk).trans hca
  have cb1 : w1.cell? ⟨blk, 1, none⟩ = some (.int .i64 b) := (old_cell hk1 blk 1 hblk).trans hcb
  have hb1 : blk < w1.heap.size := by omega
  refine wp_loop_rounds 3 ?_
  rw [rounds_succ]
  go_wp2_with (first | (go_at_call 10; refine (class_any _ _ _).mono ?_; rintro e w2 ⟨rfl, hk2⟩))
  have s2 := laid_size hk2
  have cb2 : w2.cell? ⟨blk, 1, none⟩ = some (.int .i64 b) := (old_cell hk2 blk 1 hb1).trans cb1
  rw [rounds_succ]
  go_wp2_with (first | (go_at_call 10; refine (class_any _ _ _).mono ?_; rintro e w3 ⟨rfl, hk3⟩))
  have hl3 := laid_cell (hk2.trans hk3)
  have hl0 : ∀ o, w3.cell? ⟨v.heap.size, o, none⟩ = (v.alloc (.cells #[.int .i64 0, .int .i64 0, .int .i64 0, .int .i64 0, .int .i64 0] 35)).cell? ⟨v.heap.size, o, none⟩ := fun o => (old_cell (hk2.trans hk3) _ o s1).trans (laid_cell hk1 o)
  have hf3 : ∀ o, w3.frozen? ⟨v.heap.size, o, none⟩ = (v.alloc (.cells #[.int .i64 0, .int .i64 0, .int .i64 0, .int .i64 0, .int .i64 0] 35)).frozen? ⟨v.heap.size, o, none⟩ := fun o => ((hk1.alloc _ _).trans (hk2.trans hk3)).frozen _
  rw [rounds_succ]
  go_wp2
  refine bodyPost_ret (v := .tuple #[.agg #[.int .i64 (-9223372036854775808), .int .i64 9218868437227405312, .int .i64 9221120237041090561, .int .i64 52, .int .i64 (-1074)], .bool (cls b 64 != 4)]) (by simp [results, Tryd.results34, go_sem, hl0]) rfl ⟨rfl, ?_⟩
  have hK : Kept v w3 := ((((Kept.refl v).alloc _ _).trans hk1).alloc _ _).trans (hk2.trans hk3)
  exact hKv.trans (((((hK.setCell (Nat.le_refl _) _).setCell (Nat.le_refl _) _).setCell (Nat.le_refl _) _).setCell (Nat.le_refl _) _).setCell (Nat.le_refl _) _)

set_option maxHeartbeats 1000000 in
theorem numbers2_64_no (a b : Int) (hc : (cls a 64 != 4) = false) (w : World) : Calls Tryd.prog 34 #[.int .i64 64, .slice (some ⟨w.heap.size, 0, none⟩) 2 2] (w.alloc (.cells #[.int .i64 a, .int .i64 b] 3)) fun e w' => e = .returned (.tuple #[.agg #[.int .i64 (-9223372036854775808), .int .i64 9218868437227405312, .int .i64 9221120237041090561, .int .i64 52, .int .i64 (-1074)], .bool (false)]) ∧ Kept w w' := by
  obtain ⟨v, hv⟩ : ∃ v, v = w.alloc (.cells #[.int .i64 a, .int .i64 b] 3) := ⟨_, rfl⟩
  have hKv : Kept w v := by rw [hv]; exact (Kept.refl w).alloc _ _
  have hca : v.cell? ⟨w.heap.size, 0, none⟩ = some (.int .i64 a) := by rw [hv]; simp [go_sem]
  have hcb : v.cell? ⟨w.heap.size, 1, none⟩ = some (.int .i64 b) := by rw [hv]; simp [go_sem]
  have hblk : w.heap.size < v.heap.size := by rw [hv]; simp
  rw [← hv]
  clear hv
  generalize w.heap.size = blk at *
  go_enter Tryd.func34, Tryd.ntmps34
  go_wp2_with (first | (go_at_call 28; refine (layoutOf_64 _).mono ?_; rintro e w1 ⟨rfl, hk1⟩))
  have s1 := laid_size hk1
  have ca1 : w1.cell? ⟨blk, 0, none⟩ = some (.int .i64 a) := (old_cell hk1 blk 0 hblk).trans hca
  have cb1 : w1.cell? ⟨blk, 1, none⟩ = some (.int .i64 b) := (old_cell hk1 blk 1 hblk).trans hcb
  have hb1 : blk < w1.heap.size := by omega
  refine wp_loop_rounds 3 ?_
  rw [rounds_succ]
  go_wp2_with (first | (go_at_call 10; refine (class_any _ _ _).mono ?_; rintro e w2 ⟨rfl, hk2⟩))
  have s2 := laid_size hk2
  have cb2 : w2.cell? ⟨blk, 1, none⟩ = some (.int .i64 b) := (old_cell hk2 blk 1 hb1).trans cb1
  rw [rounds_succ]
  have hl2 := laid_cell hk2
  have hl0 : ∀ o, w2.cell? ⟨v.heap.size, o, none⟩ = (v.alloc (.cells #[.int .i64 0, .int .i64 0, .int .i64 0, .int .i64 0, .int .i64 0] 35)).cell? ⟨v.heap.size, o, none⟩ := fun o => (old_cell hk2 _ o s1).trans (laid_cell hk1 o)
  have hf2 : ∀ o, w2.frozen? ⟨v.heap.size, o, none⟩ = (v.alloc (.cells #[.int .i64 0, .int .i64 0, .int .i64 0, .int .i64 0, .int .i64 0] 35)).frozen? ⟨v.heap.size, o, none⟩ := fun o => ((hk1.alloc _ _).trans hk2).frozen _
  go_wp2
  rw [rounds_succ]
  go_wp2
  refine bodyPost_ret (v := .tuple #[.agg #[.int .i64 (-9223372036854775808), .int .i64 9218868437227405312, .int .i64 9221120237041090561, .int .i64 52, .int .i64 (-1074)], .bool false]) (by simp [results, Tryd.results34, go_sem, hl0]) rfl ⟨rfl, ?_⟩
  have hK : Kept v w2 := ((((Kept.refl v).alloc _ _).trans hk1).alloc _ _).trans hk2
  exact hKv.trans (((((hK.setCell (Nat.le_refl _) _).setCell (Nat.le_refl _) _).setCell (Nat.le_refl _) _).setCell (Nat.le_refl _) _).setCell (Nat.le_refl _) _)

theorem numbers2_64 (a b : Int) (w : World) : Calls Tryd.prog 34 #[.int .i64 64, .slice (some ⟨w.heap.size, 0, none⟩) 2 2] (w.alloc (.cells #[.int .i64 a, .int .i64 b] 3)) fun e w' => e = .returned (.tuple #[.agg #[.int .i64 (-9223372036854775808), .int .i64 9218868437227405312, .int .i64 9221120237041090561, .int .i64 52, .int .i64 (-1074)], .bool (isnum a 64 && isnum b 64)]) ∧ Kept w w' := by
  cases hc : cls a 64 != 4
  · refine (numbers2_64_no a b hc w).mono ?_
    rintro e w' ⟨rfl, hk⟩
    have e1 : isnum a 64 = false := by simpa [isnum] using hc
    exact ⟨by rw [e1]; rfl, hk⟩
  · refine (numbers2_64_yes a b hc w).mono ?_
    rintro e w' ⟨rfl, hk⟩
    have e1 : isnum a 64 = true := by simpa [isnum] using hc
    have e2 : isnum b 64 = (cls b 64 != 4) := by rw [Bool.eq_iff_iff]; simp [isnum]
    exact ⟨by rw [e1, e2]; rfl, hk⟩

set_option maxHeartbeats 1000000 in
theorem numbers2_32_yes (a b : Int) (hc : (cls a 32 != 4) = true) (w : World) : Calls Tryd.prog 34 #[.int .i64 32, .slice (some ⟨w.heap.size, 0, none⟩) 2 2] (w.alloc (.cells #[.int .i64 a, .int .i64 b] 3)) fun e w' => e = .returned (.tuple #[.agg #[.int .i64 2147483648, .int .i64 2139095040, .int .i64 2143289345, .int .i64 23, .int .i64 (-149)], .bool (cls b 32 != 4)]) ∧ Kept w w' := by
  obtain ⟨v, hv⟩ : ∃ v, v = w.alloc (.cells #[.int .i64 a, .int .i64 b] 3) := ⟨_, rfl⟩
  have hKv : Kept w v := by rw [hv]; exact (Kept.refl w).alloc _ _
  have hca : v.cell? ⟨w.heap.size, 0, none⟩ = some (.int .i64 a) := by rw [hv]; simp [go_sem]
  have hcb : v.cell? ⟨w.heap.size, 1, none⟩ = some (.int .i64 b) := by rw [hv]; simp [go_sem]
  have hblk : w.heap.size < v.heap.size := by rw [hv]; simp
  rw [← hv]
  clear hv
  generalize w.heap.size = blk at *
  go_enter Tryd.func34, Tryd.ntmps34
  go_wp2_with (first | (go_at_call 28; refine (layoutOf_32 _).mono ?_; rintro e w1 ⟨rfl, hk1⟩))
  have s1 := laid_size hk1
  have ca1 : w1.cell? ⟨blk, 0, none⟩ = some (.int .i64 a) := (old_cell hk1 blk 0 hblk).trans hca
  have cb1 : w1.cell? ⟨blk, 1, none⟩ = some (.int .i64 b) := (old_cell hk1 blk 1 hblk).trans hcb
  have hb1 : blk < w1.heap.size := by omega
  refine wp_loop_rounds 3 ?_
  rw [rounds_succ]
  go_wp2_with (first | (go_at_call 10; refine (class_any _ _ _).mono ?_; rintro e w2 ⟨rfl, hk2⟩))
  have s2 := laid_size hk2
  have cb2 : w2.cell? ⟨blk, 1, none⟩ = some (.int .i64 b) := (old_cell hk2 blk 1 hb1).trans cb1
  rw [rounds_succ]
  go_wp2_with (first | (go_at_call 10; refine (class_any _ _ _).mono ?_; rintro e w3 ⟨rfl, hk3⟩))
  have hl3 := laid_cell (hk2.trans hk3)
  have hl0 : ∀ o, w3.cell? ⟨v.heap.size, o, none⟩ = (v.alloc (.cells #[.int .i64 0, .int .i64 0, .int .i64 0, .int .i64 0, .int .i64 0] 35)).cell? ⟨v.heap.size, o, none⟩ := fun o => (old_cell (hk2.trans hk3) _ o s1).trans (laid_cell hk1 o)
  have hf3 : ∀ o, w3.frozen? ⟨v.heap.size, o, none⟩ = (v.alloc (.cells #[.int .i64 0, .int .i64 0, .int .i64 0, .int .i64 0, .int .i64 0] 35)).frozen? ⟨v.heap.size, o, none⟩ := fun o => ((hk1.alloc _ _).trans (hk2.trans hk3)).frozen _
  rw [rounds_succ]
  go_wp2
  refine bodyPost_ret (v := .tuple #[.agg #[.int .i64 2147483648, .int .i64 2139095040, .int .i64 2143289345, .int .i64 23, .int .i64 (-149)], .bool (cls b 32 != 4)]) (by simp [results, Tryd.results34, go_sem, hl0]) rfl ⟨rfl, ?_⟩
  have hK : Kept v w3 := ((((Kept.refl v).alloc _ _).trans hk1).alloc _ _).trans (hk2.trans hk3)
  exact hKv.trans (((((hK.setCell (Nat.le_refl _) _).setCell (Nat.le_refl _) _).setCell (Nat.le_refl _) _).setCell (Nat.le_refl _) _).setCell (Nat.le_refl _) _)

set_option maxHeartbeats 1000000 in
theorem numbers2_32_no (a b : Int) (hc : (cls a 32 != 4) = false) (w : World) : Calls Tryd.prog 34 #[.int .i64 32, .slice (some ⟨w.heap.size, 0, none⟩) 2 2] (w.alloc (.cells #[.int .i64 a, .int .i64 b] 3)) fun e w' => e = .returned (.tuple #[.agg #[.int .i64 2147483648, .int .i64 2139095040, .int .i64 2143289345, .int .i64 23, .int .i64 (-149)], .bool (false)]) ∧ Kept w w' := by
  obtain ⟨v, hv⟩ : ∃ v, v = w.alloc (.cells #[.int .i64 a, .int .i64 b] 3) := ⟨_, rfl⟩
  have hKv : Kept w v := by rw [hv]; exact (Kept.refl w).alloc _ _
  have hca : v.cell? ⟨w.heap.size, 0, none⟩ = some (.int .i64 a) := by rw [hv]; simp [go_sem]
  have hcb : v.cell? ⟨w.heap.size, 1, none⟩ = some (.int .i64 b) := by rw [hv]; simp [go_sem]
  have hblk : w.heap.size < v.heap.size := by rw [hv]; simp
  rw [← hv]
  clear hv
  generalize w.heap.size = blk at *
  go_enter Tryd.func34, Tryd.ntmps34
  go_wp2_with (first | (go_at_call 28; refine (layoutOf_32 _).mono ?_; rintro e w1 ⟨rfl, hk1⟩))
  have s1 := laid_size hk1
  have ca1 : w1.cell? ⟨blk, 0, none⟩ = some (.int .i64 a) := (old_cell hk1 blk 0 hblk).trans hca
  have cb1 : w1.cell? ⟨blk, 1, none⟩ = some (.int .i64 b) := (old_cell hk1 blk 1 hblk).trans hcb
  have hb1 : blk < w1.heap.size := by omega
  refine wp_loop_rounds 3 ?_
  rw [rounds_succ]
  go_wp2_with (first | (go_at_call 10; refine (class_any _ _ _).mono ?_; rintro e w2 ⟨rfl, hk2⟩))
  have s2 := laid_size hk2
  have cb2 : w2.cell? ⟨blk, 1, none⟩ = some (.int .i64 b) := (old_cell hk2 blk 1 hb1).trans cb1
  rw [rounds_succ]
  have hl2 := laid_cell hk2
  have hl0 : ∀ o, w2.cell? ⟨v.heap.size, o, none⟩ = (v.alloc (.cells #[.int .i64 0, .int .i64 0, .int .i64 0, .int .i64 0, .int .i64 0] 35)).cell? ⟨v.heap.size, o, none⟩ := fun o => (old_cell hk2 _ o s1).trans (laid_cell hk1 o)
  have hf2 : ∀ o, w2.frozen? ⟨v.heap.size, o, none⟩ = (v.alloc (.cells #[.int .i64 0, .int .i64 0, .int .i64 0, .int .i64 0, .int .i64 0] 35)).frozen? ⟨v.heap.size, o, none⟩ := fun o => ((hk1.alloc _ _).trans hk2).frozen _
  go_wp2
  rw [rounds_succ]
  go_wp2
  refine bodyPost_ret (v := .tuple #[.agg #[.int .i64 2147483648, .int .i64 2139095040, .int .i64 2143289345, .int .i64 23, .int .i64 (-149)], .bool false]) (by simp [results, Tryd.results34, go_sem, hl0]) rfl ⟨rfl, ?_⟩
  have hK : Kept v w2 := ((((Kept.refl v).alloc _ _).trans hk1).alloc _ _).trans hk2
  exact hKv.trans (((((hK.setCell (Nat.le_refl _) _).setCell (Nat.le_refl _) _).setCell (Nat.le_refl _) _).setCell (Nat.le_refl _) _).setCell (Nat.le_refl _) _)

theorem numbers2_32 (a b : Int) (w : World) : Calls Tryd.prog 34 #[.int .i64 32, .slice (some ⟨w.heap.size, 0, none⟩) 2 2] (w.alloc (.cells #[.int .i64 a, .int .i64 b] 3)) fun e w' => e = .returned (.tuple #[.agg #[.int .i64 2147483648, .int .i64 2139095040, .int .i64 2143289345, .int .i64 23, .int .i64 (-149)], .bool (isnum a 32 && isnum b 32)]) ∧ Kept w w' := by
  cases hc : cls a 32 != 4
  · refine (numbers2_32_no a b hc w).mono ?_
    rintro e w' ⟨rfl, hk⟩
    have e1 : isnum a 32 = false := by simpa [isnum] using hc
    exact ⟨by rw [e1]; rfl, hk⟩
  · refine (numbers2_32_yes a b hc w).mono ?_
    rintro e w' ⟨rfl, hk⟩
    have e1 : isnum a 32 = true := by simpa [isnum] using hc
    have e2 : isnum b 32 = (cls b 32 != 4) := by rw [Bool.eq_iff_iff]; simp [isnum]
    exact ⟨by rw [e1, e2]; rfl, hk⟩

set_option maxHeartbeats 1000000 in
theorem numbers2_0 (a b n : Int) (h1 : (n == 32) = false) (h2 : (n == 64) = false) (w : World) : Calls Tryd.prog 34 #[.int .i64 n, .slice (some ⟨w.heap.size, 0, none⟩) 2 2] (w.alloc (.cells #[.int .i64 a, .int .i64 b] 3)) fun e w' => e = .returned (.tuple #[.agg #[.int .i64 0, .int .i64 0, .int .i64 0, .int .i64 0, .int .i64 0], .bool false]) ∧ Kept w w' := by
  obtain ⟨v, hv⟩ : ∃ v, v = w.alloc (.cells #[.int .i64 a, .int .i64 b] 3) := ⟨_, rfl⟩
  have hKv : Kept w v := by rw [hv]; exact (Kept.refl w).alloc _ _
  have hca : v.cell? ⟨w.heap.size, 0, none⟩ = some (.int .i64 a) := by rw [hv]; simp [go_sem]
  have hcb : v.cell? ⟨w.heap.size, 1, none⟩ = some (.int .i64 b) := by rw [hv]; simp [go_sem]
  have hblk : w.heap.size < v.heap.size := by rw [hv]; simp
  rw [← hv]
  clear hv
  generalize w.heap.size = blk at *
  go_enter Tryd.func34, Tryd.ntmps34
  go_wp2_with (first | (go_at_call 28; refine (layoutOf_0 _ h1 h2 _).mono ?_; rintro e w1 ⟨rfl, hk1⟩))
  have s1 := laid_size hk1
  have ca1 : w1.cell? ⟨blk, 0, none⟩ = some (.int .i64 a) := (old_cell hk1 blk 0 hblk).trans hca
  have cb1 : w1.cell? ⟨blk, 1, none⟩ = some (.int .i64 b) := (old_cell hk1 blk 1 hblk).trans hcb
  have hb1 : blk < w1.heap.size := by omega
  have hl1 := laid_cell hk1
  have hf1 : ∀ o, w1.frozen? ⟨v.heap.size, o, none⟩ = (v.alloc (.cells #[.int .i64 0, .int .i64 0, .int .i64 0, .int .i64 0, .int .i64 0] 35)).frozen? ⟨v.heap.size, o, none⟩ := fun o => hk1.frozen _
  refine wp_loop_rounds 3 ?_
  rw [rounds_succ]
  go_wp2
  rw [rounds_succ]
  go_wp2
  rw [rounds_succ]
  go_wp2
  refine bodyPost_ret (v := .tuple #[.agg #[.int .i64 0, .int .i64 0, .int .i64 0, .int .i64 0, .int .i64 0], .bool false]) (by simp [results, Tryd.results34, go_sem, hl1, s1]) rfl ⟨rfl, ?_⟩
  have hK : Kept v w1 := ((Kept.refl v).alloc _ _).trans hk1
  exact hKv.trans ((((((hK.setCell (Nat.le_refl _) _).setCell (Nat.le_refl _) _).setCell (Nat.le_refl _) _).setCell (Nat.le_refl _) _).setCell (Nat.le_refl _) _).alloc _ _)

end Go.Proofs.YtebjkfecijeehacDoor
