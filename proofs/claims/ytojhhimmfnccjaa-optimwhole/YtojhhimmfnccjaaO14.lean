/- The laws' own test of life: 1 less half of 2 is 0. -/
import Derived.Test.YtojhhimmfnccjaaO13
namespace Go.Proofs.Ytojhhimmfnccjaa
open Go.ChangeShapes Go.WideShapes Go.ChangeAt Go.RowKit Ieee
set_option linter.unusedVariables false
set_option linter.unusedSimpArgs false

theorem own_one (w : World) (b : Int) : Own (w.alloc (.cells #[.int .i64 b] 3)) w.heap.size 1 [b] := ⟨_, heap_alloc_new w _, by simp, by simp [maxLen], rfl, rfl⟩
set_option maxHeartbeats 4000000 in
set_option maxRecDepth 100000 in
theorem number_any (b : Int) (w : World) : Calls Try.prog 8 #[.int .i64 b] w fun e w' => ∃ g, e = .returned (.agg #[.int .i64 ((1 : Nat) : Int), .int .i64 ((1 : Nat) : Int), .int .i64 64, .slice (some ⟨g, 0, none⟩) 1 1]) ∧ Own w' g 1 [b] ∧ Kept w w' := by
  go_enter Try.func8, Try.ntmps8
  go_wp2_with fail
  refine bodyPost_ret (v := .agg #[.int .i64 ((1 : Nat) : Int), .int .i64 ((1 : Nat) : Int), .int .i64 64, .slice (some ⟨w.heap.size + 1, 0, none⟩) 1 1]) (by simp [results, Try.results8, go_sem]) rfl ⟨w.heap.size + 1, rfl, ?_, ((Kept.refl w).alloc _ _).alloc _ _⟩
  have := own_one (w.alloc (.cells #[.int .i64 1, .int .i64 1, .int .i64 64, .slice (some ⟨w.heap.size + 1, 0, none⟩) 1 1] 25)) b
  simpa using this
theorem step_alive (ga gb : Nat) (w : World) (oa : Own w ga 1 [4607182418800017408]) (ob : Own w gb 1 [4611686018427387904]) :
    Calls Try.prog 6 #[z7, .int .i64 4602678819172646912, .agg #[.int .i64 ((1 : Nat) : Int), .int .i64 ((1 : Nat) : Int), .int .i64 64, .slice (some ⟨ga, 0, none⟩) 1 1], .agg #[.int .i64 ((1 : Nat) : Int), .int .i64 ((1 : Nat) : Int), .int .i64 64, .slice (some ⟨gb, 0, none⟩) 1 1], .slice none 0 0] w fun e w' => ∃ g, e = .returned (.tuple #[.agg #[.int .i64 ((1 : Nat) : Int), .int .i64 ((1 : Nat) : Int), .int .i64 64, .slice (some ⟨g, 0, none⟩) 1 1], .slice none 0 0, .int .i64 0, .int .i64 0]) ∧ Own w' g 1 [0] ∧ Kept w w' := by
  have e1 : ∀ i, i < 1 → [(4607182418800017408 : Int)].getD i 0 = of64 (floatOfInt .f64 ((fun _ => 1 : Nat → Int) i)) := by decide +kernel
  have e2 : ∀ i, i < 1 → [(4611686018427387904 : Int)].getD i 0 = of64 (floatOfInt .f64 ((fun _ => 1 : Nat → Int) i * 2 ^ 1)) := by decide +kernel
  have := stepP_64 1 (by decide) 1 (by decide) (by decide) (fun _ => 1) (fun _ => 1) (fun _ _ => by decide) (fun _ _ => by decide) [4607182418800017408] [4611686018427387904] rfl rfl e1 e2 ga 1 gb 1 w oa ob
  rw [show rt 64 1 = 4602678819172646912 by decide +kernel] at this
  refine this.mono ?_
  rintro e w' ⟨g, rfl, -, ho, k⟩
  refine ⟨g, rfl, ?_, k⟩
  rw [show stl 1 (fun i => of64 (floatOfInt .f64 ((fun _ => 1) i - (fun _ => 1) i))) 1 = [0] by decide +kernel] at ho
  exact ho
set_option maxHeartbeats 4000000 in
set_option maxRecDepth 100000 in
theorem alive17 (w : World) : Calls Try.prog 4 #[] w fun e w' => e = .returned (.bool true) ∧ Kept w w' := by
  have KN : Hid (∀ b u, Calls Try.prog 8 #[.int .i64 b] u fun e w' => ∃ g, e = .returned (.agg #[.int .i64 ((1 : Nat) : Int), .int .i64 ((1 : Nat) : Int), .int .i64 64, .slice (some ⟨g, 0, none⟩) 1 1]) ∧ Own w' g 1 [b] ∧ Kept u w') := fun b u => number_any b u
  have KS : Hid (∀ ga gb u, Own u ga 1 [4607182418800017408] → Own u gb 1 [4611686018427387904] → Calls Try.prog 6 #[z7, .int .i64 4602678819172646912, .agg #[.int .i64 ((1 : Nat) : Int), .int .i64 ((1 : Nat) : Int), .int .i64 64, .slice (some ⟨ga, 0, none⟩) 1 1], .agg #[.int .i64 ((1 : Nat) : Int), .int .i64 ((1 : Nat) : Int), .int .i64 64, .slice (some ⟨gb, 0, none⟩) 1 1], .slice none 0 0] u fun e w' => ∃ g, e = .returned (.tuple #[.agg #[.int .i64 ((1 : Nat) : Int), .int .i64 ((1 : Nat) : Int), .int .i64 64, .slice (some ⟨g, 0, none⟩) 1 1], .slice none 0 0, .int .i64 0, .int .i64 0]) ∧ Own w' g 1 [0] ∧ Kept u w') := fun ga gb u oa ob => step_alive ga gb u oa ob
  simp only [show ((1 : Nat) : Int) = 1 from rfl] at KN KS
  go_enter Try.func4, Try.ntmps4
  go_upto_region 2 with (first | (go_at_call 8; refine (KN.out 4607182418800017408 _).mono ?_; rintro e u1 ⟨ga, rfl, oa, k1⟩) | (go_at_call 8; refine (KN.out 4611686018427387904 _).mono ?_; rintro e u2 ⟨gb, rfl, ob, k2⟩; have oa2 := oa.kept k2) | (go_at_call 6; refine (KS.out _ _ _ oa2 ob).mono ?_; rintro e u3 ⟨g, rfl, oc, k3⟩))
  obtain ⟨Y, hY⟩ : ∃ Y, Y = u3.alloc (.cells #[.int .i64 1, .int .i64 1, .int .i64 64, .slice (some ⟨g, 0, none⟩) 1 1] 25) := ⟨_, rfl⟩
  obtain ⟨B, hB⟩ : ∃ B, B = u3.heap.size := ⟨_, rfl⟩
  have kY : Kept u3 Y := by rw [hY]; exact (Kept.refl u3).alloc _ _
  have bY : Bk Y B [.int .i64 1, .int .i64 1, .int .i64 64, .slice (some ⟨g, 0, none⟩) 1 1] := by rw [hY, hB]; exact Bk.new u3 [.int .i64 1, .int .i64 1, .int .i64 64, .slice (some ⟨g, 0, none⟩) 1 1] _
  rw [← hY, ← hB]
  have h3 : Y.cell? ⟨g, 0, none⟩ = some (.int .i64 0) := (oc.kept kY).cell 0 (by decide)
  have c3 := bY.c 3 _ rfl
  clear hY hB
  go_wp2_with fail
  go_ret
  exact ⟨rfl, ((k1.trans k2).trans k3).trans kY⟩
end Go.Proofs.Ytojhhimmfnccjaa
