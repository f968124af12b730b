/- The walk of TensorZero. -/
import Derived.Test.YtckcfdkffjkkbaaT11
namespace Go.Proofs.Ytckcfdkffjkkbaa
open Go.ChangeShapes Go.WideShapes Go.ChangeAt Go.RowKit
set_option linter.unusedVariables false
set_option linter.unusedSimpArgs false

theorem sl_nil (w : World) : Sl w (.slice none ([] : List Int).length 0) [] := ⟨none, 0, rfl, Nat.le_refl _, by simp [maxLen], fun h => absurd rfl h⟩

set_option maxHeartbeats 4000000 in
set_option maxRecDepth 100000 in
theorem tz_err (r c n : Int) (h : ckS r c n ≠ 0) (w : World) : Calls Try.prog 4 #[.int .i64 r, .int .i64 c, .int .i64 n] w fun e w' => e = .returned (.bool true) ∧ Bl w w' := by
  have KA : Hid (∀ u, Calls Try.prog 9 #[] u fun e w' => e = .returned (.bool true) ∧ Bl u w') := fun u => alive_true u
  have KZ : Hid (∀ u, Calls Try.prog 19 #[.int .i64 r, .int .i64 c, .int .i64 n] u fun e w' => e = .returned (.tuple #[zeroMat, .int .i64 (ckS r c n)]) ∧ Kept u w') := fun u => zero_err r c n h u
  have KS : Hid (∀ u, Calls Try.prog 20 #[.int .i64 r, .int .i64 c, .int .i64 n] u fun e w' => e = .returned (.int .i64 (ckS r c n)) ∧ u = w') := fun u => sized_any r c n u
  have KN : Hid (∀ u, Calls Try.prog 16 #[.int .i64 (ckS r c n)] u fun e w' => e = .returned (.int .i64 (ckS r c n)) ∧ u = w') := fun u => num_any _ u
  have KE : Hid (∀ u, Calls Try.prog 21 #[zeroMat, zeroMat] u fun e w' => e = .returned (.bool true) ∧ Kept u w') := fun u => exact_true 0 0 0 [] (by simp) none none 0 0 u (sl_nil u) (sl_nil u)
  generalize ckS r c n = q at *
  have hq : (q != 0) = true := by simpa using h
  have hq2 : (q == q) = true := by simp
  clear h
  go_enter Try.func4, Try.ntmps4
  go_wp2_with (first | (go_at_call 9; refine (KA.out _).mono ?_; rintro e w1 ⟨rfl, k1⟩) | (go_at_call 19; refine (KZ.out _).mono ?_; rintro e w2 ⟨rfl, k2⟩) | (go_at_call 20; refine (KS.out _).mono ?_; rintro e w3 ⟨rfl, rfl⟩) | (go_at_call 16; refine (KN.out _).mono ?_; rintro e w3 ⟨rfl, rfl⟩) | (go_at_call 21; refine (KE.out _).mono ?_; rintro e w4 ⟨rfl, k4⟩))
  go_ret
  exact ⟨rfl, k1.trans ((k2.bl.alloc _).trans k4.bl)⟩

set_option maxHeartbeats 8000000 in
set_option maxRecDepth 100000 in
theorem tz_ok (R C : Nat) (n : Int) (hn : n = 64 ∨ n = 32) (h : ckS R C n = 0) (rc : Nat) (hrc : R * C = rc) (hRC : rc ≤ 4096) (w : World) (KRZ : Hid (∀ u, Calls Try.prog 22 #[.agg #[.int .i64 R, .int .i64 C, .int .i64 n]] u fun e w' => ∃ g, e = .returned (.agg #[.int .i64 R, .int .i64 C, .int .i64 n, .slice (some ⟨g, 0, none⟩) rc rc]) ∧ Own w' g rc (List.replicate rc 0) ∧ Kept u w')) : Calls Try.prog 4 #[.int .i64 R, .int .i64 C, .int .i64 n] w fun e w' => e = .returned (.bool true) ∧ Bl w w' := by
  have KA : Hid (∀ u, Calls Try.prog 9 #[] u fun e w' => e = .returned (.bool true) ∧ Bl u w') := fun u => alive_true u
  have KZ : Hid (∀ u, Calls Try.prog 19 #[.int .i64 R, .int .i64 C, .int .i64 n] u fun e w' => ∃ g, e = .returned (.tuple #[.agg #[.int .i64 R, .int .i64 C, .int .i64 n, .slice (some ⟨g, 0, none⟩) rc rc], .int .i64 0]) ∧ u.heap.size ≤ g ∧ Own w' g rc (List.replicate rc 0) ∧ Kept u w') := fun u => zero_ok R C n hn h rc hrc hRC u
  have KS : Hid (∀ u, Calls Try.prog 20 #[.int .i64 R, .int .i64 C, .int .i64 n] u fun e w' => e = .returned (.int .i64 0) ∧ u = w') := fun u => by have := sized_any R C n u; rw [h] at this; exact this
  have KN : Hid (∀ u, Calls Try.prog 16 #[.int .i64 0] u fun e w' => e = .returned (.int .i64 0) ∧ u = w') := fun u => num_any _ u
  have KE : Hid (∀ u g1 g2, Own u g1 rc (List.replicate rc 0) → Own u g2 rc (List.replicate rc 0) → Calls Try.prog 21 #[.agg #[.int .i64 R, .int .i64 C, .int .i64 n, .slice (some ⟨g1, 0, none⟩) rc rc], .agg #[.int .i64 R, .int .i64 C, .int .i64 n, .slice (some ⟨g2, 0, none⟩) rc rc]] u fun e w' => e = .returned (.bool true) ∧ Kept u w') := fun u g1 g2 o1 o2 => by
    have h1 := o1.sl
    have h2 := o2.sl
    have := exact_true R C n (List.replicate rc 0) (by simp; omega) (some ⟨g1, 0, none⟩) (some ⟨g2, 0, none⟩) rc rc u h1 h2
    rw [List.length_replicate] at this
    exact this
  clear h hrc
  go_enter Try.func4, Try.ntmps4
  go_upto_region 3 with (first | (go_at_call 9; refine (KA.out _).mono ?_; rintro e w1 ⟨rfl, k1⟩) | (go_at_call 19; refine (KZ.out _).mono ?_; rintro e w2 ⟨g, rfl, hg, o2, k2⟩))
  obtain ⟨Y, hY⟩ : ∃ Y, Y = w2.alloc (.cells #[.int .i64 R, .int .i64 C, .int .i64 n, .slice (some ⟨g, 0, none⟩) rc rc] 24) := ⟨_, rfl⟩
  rw [← hY]
  have HO : Hid (Own Y g rc (List.replicate rc 0)) := by rw [hY]; exact o2.kept ((Kept.refl _).alloc _ _)
  have hM : M4 Y w2.heap.size (.int .i64 R) (.int .i64 C) (.int .i64 n) (.slice (some ⟨g, 0, none⟩) rc rc) := by rw [hY]; exact M4.new _ _ _ _ _ _
  have HB : Hid (Bl w Y) := by rw [hY]; exact (k1.trans k2.bl).alloc _
  have HS : Hid (∀ u, Kept Y u → Kept Y u ∧ (u.cell? ⟨w2.heap.size, 0, none⟩ = some (.int .i64 R) ∧ u.cell? ⟨w2.heap.size, 1, none⟩ = some (.int .i64 C)) ∧ (u.cell? ⟨w2.heap.size, 2, none⟩ = some (.int .i64 n) ∧ u.cell? ⟨w2.heap.size, 3, none⟩ = some (.slice (some ⟨g, 0, none⟩) rc rc))) := fun u k => ⟨k, ⟨(hM.bl k.bl).c0, (hM.bl k.bl).c1⟩, (hM.bl k.bl).c2, (hM.bl k.bl).c3⟩
  have K1 : Hid (∀ u, Kept Y u → Calls Try.prog 22 #[.agg #[.int .i64 R, .int .i64 C, .int .i64 n]] u fun e w' => ∃ g2, e = .returned (.agg #[.int .i64 R, .int .i64 C, .int .i64 n, .slice (some ⟨g2, 0, none⟩) rc rc]) ∧ Hid (Own w' g2 rc (List.replicate rc 0)) ∧ Kept Y w') := fun u k => by
    refine (KRZ.out u).mono ?_
    rintro e w' ⟨g2, rfl, o, k'⟩
    exact ⟨g2, rfl, o, k.trans k'⟩
  have K2 : Hid (∀ u g2, Kept Y u → Hid (Own u g2 rc (List.replicate rc 0)) → Calls Try.prog 21 #[.agg #[.int .i64 R, .int .i64 C, .int .i64 n, .slice (some ⟨g, 0, none⟩) rc rc], .agg #[.int .i64 R, .int .i64 C, .int .i64 n, .slice (some ⟨g2, 0, none⟩) rc rc]] u fun e w' => e = .returned (.bool true) ∧ Kept Y w') := fun u g2 k o => by
    refine (KE.out u g g2 (HO.out.kept k) o.out).mono ?_
    rintro e w' ⟨rfl, k'⟩
    exact ⟨rfl, k.trans k'⟩
  clear hY o2 k2 k1 hg KA KZ KRZ KE
  go_upto_region 6 with (first | (go_at_call 20; refine (KS.out _).mono ?_; rintro e w3 ⟨rfl, rfl⟩))
  have kd := (Kept.refl Y).drew
  go_region_held (fun u => Kept Y u ∧ (u.cell? ⟨w2.heap.size, 0, none⟩ = some (.int .i64 R) ∧ u.cell? ⟨w2.heap.size, 1, none⟩ = some (.int .i64 C)) ∧ (u.cell? ⟨w2.heap.size, 2, none⟩ = some (.int .i64 n) ∧ u.cell? ⟨w2.heap.size, 3, none⟩ = some (.slice (some ⟨g, 0, none⟩) rc rc))) (first | assumption | exact HS.out _ kd | exact HS.out _ (by assumption)) (first | (go_at_call 16; refine (KN.out _).mono ?_; rintro e w3 ⟨rfl, rfl⟩) | (go_at_call 22; refine (K1.out _ (by first | exact kd | assumption)).mono ?_; rintro e w5 ⟨g2, rfl, o5, k5⟩) | (go_at_call 21; refine (K2.out _ _ k5 o5).mono ?_; rintro e w6 ⟨rfl, k6⟩))
  all_goals go_wp2_with fail
  all_goals
    refine bodyPost_ret (results_tmp rfl _ _ _) rfl ?_
    exact ⟨rfl, HB.out.trans k6.bl⟩
end Go.Proofs.Ytckcfdkffjkkbaa
