/- RngUniform. -/
import Derived.Test.YtfanggjinedafabDoorGX
namespace Go.Proofs.YtfanggjinedafabDoor
open Go.ChangeShapes Go.WideShapes Go.ChangeAt Go.RowKit
set_option linter.unusedVariables false
set_option linter.unusedSimpArgs false

theorem mask_b (s : Int) : bits .and .i64 s 1 = s % 2 := by
  have e : (BitVec.ofInt 64 1 : BitVec 64).toNat = 2 ^ 1 - 1 := by decide
  have h := ofInt_toNat s
  rw [bits_and, BitVec.toNat_and, e, Nat.and_two_pow_sub_one_eq_mod, wrap_i64]
  omega

theorem isnumr_64 (q : Nat) (h : q < 9218868437227405312) : isnum (q : Int) 64 = true := by
  unfold isnum
  rw [decide_eq_true_eq]
  refine ⟨by decide, ?_⟩
  unfold cls clsOf
  (repeat' split) <;> omega
theorem lss_zero_64 (q : Nat) (h : q < 9218868437227405312) : lss (q : Int) 0 64 = false := by
  unfold lss
  have : decide (keyOf (q : Int) 64 < keyOf 0 64) = false := by
    rw [decide_eq_false_iff_not]
    unfold keyOf
    (repeat' split) <;> omega
  rw [this, Bool.and_false]
theorem lss_one_64 (q : Nat) (h : q < 4607182418800017408) : lss (q : Int) 4607182418800017408 64 = true := by
  unfold lss
  have : decide (keyOf (q : Int) 64 < keyOf 4607182418800017408 64) = true := by
    rw [decide_eq_true_eq]
    unfold keyOf
    (repeat' split) <;> omega
  have e2 := isnumr_64 4607182418800017408 (by decide)
  rw [this, isnumr_64 q (by omega)]
  rw [show ((4607182418800017408 : Nat) : Int) = 4607182418800017408 from rfl] at e2
  rw [e2]
  rfl

theorem isnumr_32 (q : Nat) (h : q < 2139095040) : isnum (q : Int) 32 = true := by
  unfold isnum
  rw [decide_eq_true_eq]
  refine ⟨by decide, ?_⟩
  unfold cls clsOf
  (repeat' split) <;> omega
theorem lss_zero_32 (q : Nat) (h : q < 2139095040) : lss (q : Int) 0 32 = false := by
  unfold lss
  have : decide (keyOf (q : Int) 32 < keyOf 0 32) = false := by
    rw [decide_eq_false_iff_not]
    unfold keyOf
    (repeat' split) <;> omega
  rw [this, Bool.and_false]
theorem lss_one_32 (q : Nat) (h : q < 1065353216) : lss (q : Int) 1065353216 32 = true := by
  unfold lss
  have : decide (keyOf (q : Int) 32 < keyOf 1065353216 32) = true := by
    rw [decide_eq_true_eq]
    unfold keyOf
    (repeat' split) <;> omega
  have e2 := isnumr_32 1065353216 (by decide)
  rw [this, isnumr_32 q (by omega)]
  rw [show ((1065353216 : Nat) : Int) = 1065353216 from rfl] at e2
  rw [e2]
  rfl

set_option maxHeartbeats 4000000 in
set_option maxRecDepth 100000 in
theorem rngUniform_64 (s t a n : Int) (hn : n % 2 = 1) (w : World) (hT : Tab w) : Calls Tryd.prog 3 #[.agg #[.int .i64 s, .int .i64 t, .int .i64 a], .int .i64 n] w fun e w' => e = .returned (.bool true) ∧ Kept w w' := by
  have hand : bits .and .i64 n 1 = 1 := by rw [mask_b]; exact hn
  obtain ⟨q, hq0, hq1, hq2, hq3⟩ := bfrac_64 (wn s t a / 2048) (by have := wn_lt s t a; omega)
  obtain ⟨Q, hQ⟩ : ∃ Q : Int, Q = wrap64 (a + 1) := ⟨_, rfl⟩
  obtain ⟨Z, hZ⟩ : ∃ Z, Z = wz s t (a + 0) := ⟨_, rfl⟩
  obtain ⟨V, hV⟩ : ∃ V : Nat, V = wn s t a := ⟨_, rfl⟩
  have u1 : IntKind.u64.wrap Z = (V : Int) := by rw [hZ, hV, u_wz, Int.add_zero]
  have hV64 : V < 18446744073709551616 := by rw [hV]; exact wn_lt _ _ _
  have HU : Hid (∀ W, Calls Tryd.prog 4 #[.agg #[.int .i64 s, .int .i64 t, .int .i64 a], .int .i64 64] W fun e w' => e = .returned (.tuple #[.int .i64 q, .agg #[.int .i64 s, .int .i64 t, .int .i64 Q], .int .i64 0]) ∧ Kept W w') := by
    rw [hQ]; exact fun W => uniform_64 s t a q hq1 hq2 W
  have HW : Hid (∀ u, Calls Tryd.prog 5 #[.agg #[.int .i64 s, .int .i64 t, .int .i64 a], .int .i64 0] u fun e w' => e = .returned (.int .i64 Z) ∧ Kept u w') := fun u => by rw [hZ]; exact word_any s t a 0 u
  rw [← hV] at hq3
  obtain ⟨M, hM⟩ : ∃ M : Nat, M = V / 2048 := ⟨_, rfl⟩
  rw [← hM] at hq3
  have HJ : Hid (∀ w : World, Tab w → Calls Tryd.prog 6 #[.bool false, .int .i64 (M : Int), .int .i64 (-53), .int .i64 64] w fun e w' => e = .returned (.tuple #[.int .i64 q, .bool true]) ∧ Kept w w') := hq3
  have u2 : (V : Int) / 2048 = (M : Int) := by rw [hM]; rfl
  have u3 : IntKind.i64.wrap (M : Int) = (M : Int) := by rw [wrap_i64, hM]; omega
  have u4 : IntKind.i64.wrap (a + 1) = Q := by rw [hQ, wrap_i64]; unfold wrap64; rfl
  have u5 : wrap64 (a + 1) = Q := hQ.symm
  have HL0 : Hid (∀ W, Calls Tryd.prog 8 #[.int .i64 q, .int .i64 0, .int .i64 64] W fun e w' => e = .returned (.bool false) ∧ Kept W w') := fun W => by
    have := less_any q 0 64 (by omega) (by omega) (by omega) (by omega) W
    rw [lss_zero_64 q hq1] at this
    exact this
  have HL1 : Hid (∀ W, Calls Tryd.prog 8 #[.int .i64 q, .int .i64 4607182418800017408, .int .i64 64] W fun e w' => e = .returned (.bool true) ∧ Kept W w') := fun W => by
    have := less_any q 4607182418800017408 64 (by omega) (by omega) (by omega) (by omega) W
    rw [lss_one_64 q hq0] at this
    exact this
  have HT : Hid (Tab w) := hT
  clear hq0 hq1 hq2 hq3 hQ hZ hV hM hT
  go_enter Tryd.func3, Tryd.ntmps3
  go_upto_region 2 with fail
  have f0 := dr_new w s t a 23
  have kk := (Kept.refl w).alloc #[.int .i64 s, .int .i64 t, .int .i64 a] 23
  obtain ⟨X0, hX⟩ : ∃ X, X = w.alloc (.cells #[.int .i64 s, .int .i64 t, .int .i64 a] 23) := ⟨_, rfl⟩
  rw [← hX] at f0 kk ⊢
  clear hX
  have E0 := f0
  obtain ⟨c0, c1, c2⟩ := E0
  go_wp2_with fail
  refine (HU.out _).mono ?_
  rintro e w1 ⟨rfl, hk⟩
  clear c0 c1 c2
  go_upto_region 3 with fail
  have kA := (Kept.refl w1).alloc #[.int .i64 s, .int .i64 t, .int .i64 Q] 23
  have f1 := (f0.kept hk).kept kA
  have k1 := (kk.trans hk).trans kA
  have f2 := dr_new w1 s t Q 23
  obtain ⟨C, hC⟩ : ∃ C, C = w1.heap.size := ⟨_, rfl⟩
  obtain ⟨X1, hX⟩ : ∃ X, X = w1.alloc (.cells #[.int .i64 s, .int .i64 t, .int .i64 Q] 23) := ⟨_, rfl⟩
  rw [← hC] at f2 ⊢
  rw [← hX] at f1 k1 f2 ⊢
  clear hX hC hk kA f0 kk
  have E0 := f1
  obtain ⟨c0, c1, c2⟩ := E0
  go_wp2_with fail
  refine (HW.out _).mono ?_
  rintro e w2 ⟨rfl, hk2⟩
  clear c0 c1 c2
  have f3 := f1.kept hk2
  have f4 := f2.kept hk2
  have k2 := k1.trans hk2
  clear f1 f2 k1 hk2
  go_wp2_with fail
  refine (HJ.out _ (HT.out.kept k2)).mono ?_
  rintro e w3 ⟨rfl, hk3⟩
  have f5 := f3.kept hk3
  have f6 := f4.kept hk3
  have k3 := k2.trans hk3
  clear f3 f4 k2 hk3
  go_wp2_with fail
  refine (galive_true _).mono ?_
  rintro e w4 ⟨rfl, hk4⟩
  have k4 := k3.trans hk4
  obtain ⟨c0, c1, c2⟩ := f5.kept hk4
  obtain ⟨c3, c4, c5⟩ := f6.kept hk4
  clear f5 f6 k3 hk4
  go_wp2_with fail
  refine (HL0.out _).mono ?_
  rintro e w5 ⟨rfl, hk5⟩
  have k5 := k4.trans hk5
  clear c0 c1 c2 c3 c4 c5 k4 hk5
  go_wp2_with fail
  refine (fromOne_64 _).mono ?_
  rintro e w6 ⟨rfl, rfl⟩
  go_wp2_with fail
  refine (HL1.out _).mono ?_
  rintro e w7 ⟨rfl, hk7⟩
  go_wp2
  go_ret
  exact ⟨rfl, k5.trans hk7⟩

set_option maxHeartbeats 4000000 in
set_option maxRecDepth 100000 in
theorem rngUniform_32 (s t a n : Int) (hn : n % 2 = 0) (w : World) (hT : Tab w) : Calls Tryd.prog 3 #[.agg #[.int .i64 s, .int .i64 t, .int .i64 a], .int .i64 n] w fun e w' => e = .returned (.bool true) ∧ Kept w w' := by
  have hand : bits .and .i64 n 1 = 0 := by rw [mask_b]; exact hn
  obtain ⟨q, hq0, hq1, hq2, hq3⟩ := bfrac_32 (wn s t a / 1099511627776) (by have := wn_lt s t a; omega)
  obtain ⟨Q, hQ⟩ : ∃ Q : Int, Q = wrap64 (a + 1) := ⟨_, rfl⟩
  obtain ⟨Z, hZ⟩ : ∃ Z, Z = wz s t (a + 0) := ⟨_, rfl⟩
  obtain ⟨V, hV⟩ : ∃ V : Nat, V = wn s t a := ⟨_, rfl⟩
  have u1 : IntKind.u64.wrap Z = (V : Int) := by rw [hZ, hV, u_wz, Int.add_zero]
  have hV64 : V < 18446744073709551616 := by rw [hV]; exact wn_lt _ _ _
  have HU : Hid (∀ W, Calls Tryd.prog 4 #[.agg #[.int .i64 s, .int .i64 t, .int .i64 a], .int .i64 32] W fun e w' => e = .returned (.tuple #[.int .i64 q, .agg #[.int .i64 s, .int .i64 t, .int .i64 Q], .int .i64 0]) ∧ Kept W w') := by
    rw [hQ]; exact fun W => uniform_32 s t a q hq1 hq2 W
  have HW : Hid (∀ u, Calls Tryd.prog 5 #[.agg #[.int .i64 s, .int .i64 t, .int .i64 a], .int .i64 0] u fun e w' => e = .returned (.int .i64 Z) ∧ Kept u w') := fun u => by rw [hZ]; exact word_any s t a 0 u
  rw [← hV] at hq3
  obtain ⟨M, hM⟩ : ∃ M : Nat, M = V / 1099511627776 := ⟨_, rfl⟩
  rw [← hM] at hq3
  have HJ : Hid (∀ w : World, Tab w → Calls Tryd.prog 6 #[.bool false, .int .i64 (M : Int), .int .i64 (-24), .int .i64 32] w fun e w' => e = .returned (.tuple #[.int .i64 q, .bool true]) ∧ Kept w w') := hq3
  have u2 : (V : Int) / 1099511627776 = (M : Int) := by rw [hM]; rfl
  have u3 : IntKind.i64.wrap (M : Int) = (M : Int) := by rw [wrap_i64, hM]; omega
  have u4 : IntKind.i64.wrap (a + 1) = Q := by rw [hQ, wrap_i64]; unfold wrap64; rfl
  have u5 : wrap64 (a + 1) = Q := hQ.symm
  have HL0 : Hid (∀ W, Calls Tryd.prog 8 #[.int .i64 q, .int .i64 0, .int .i64 32] W fun e w' => e = .returned (.bool false) ∧ Kept W w') := fun W => by
    have := less_any q 0 32 (by omega) (by omega) (by omega) (by omega) W
    rw [lss_zero_32 q hq1] at this
    exact this
  have HL1 : Hid (∀ W, Calls Tryd.prog 8 #[.int .i64 q, .int .i64 1065353216, .int .i64 32] W fun e w' => e = .returned (.bool true) ∧ Kept W w') := fun W => by
    have := less_any q 1065353216 32 (by omega) (by omega) (by omega) (by omega) W
    rw [lss_one_32 q hq0] at this
    exact this
  have HT : Hid (Tab w) := hT
  clear hq0 hq1 hq2 hq3 hQ hZ hV hM hT
  go_enter Tryd.func3, Tryd.ntmps3
  go_upto_region 2 with fail
  have f0 := dr_new w s t a 23
  have kk := (Kept.refl w).alloc #[.int .i64 s, .int .i64 t, .int .i64 a] 23
  obtain ⟨X0, hX⟩ : ∃ X, X = w.alloc (.cells #[.int .i64 s, .int .i64 t, .int .i64 a] 23) := ⟨_, rfl⟩
  rw [← hX] at f0 kk ⊢
  clear hX
  have E0 := f0
  obtain ⟨c0, c1, c2⟩ := E0
  go_wp2_with fail
  refine (HU.out _).mono ?_
  rintro e w1 ⟨rfl, hk⟩
  clear c0 c1 c2
  go_upto_region 3 with fail
  have kA := (Kept.refl w1).alloc #[.int .i64 s, .int .i64 t, .int .i64 Q] 23
  have f1 := (f0.kept hk).kept kA
  have k1 := (kk.trans hk).trans kA
  have f2 := dr_new w1 s t Q 23
  obtain ⟨C, hC⟩ : ∃ C, C = w1.heap.size := ⟨_, rfl⟩
  obtain ⟨X1, hX⟩ : ∃ X, X = w1.alloc (.cells #[.int .i64 s, .int .i64 t, .int .i64 Q] 23) := ⟨_, rfl⟩
  rw [← hC] at f2 ⊢
  rw [← hX] at f1 k1 f2 ⊢
  clear hX hC hk kA f0 kk
  have E0 := f1
  obtain ⟨c0, c1, c2⟩ := E0
  go_wp2_with fail
  refine (HW.out _).mono ?_
  rintro e w2 ⟨rfl, hk2⟩
  clear c0 c1 c2
  have f3 := f1.kept hk2
  have f4 := f2.kept hk2
  have k2 := k1.trans hk2
  clear f1 f2 k1 hk2
  go_wp2_with fail
  refine (HJ.out _ (HT.out.kept k2)).mono ?_
  rintro e w3 ⟨rfl, hk3⟩
  have f5 := f3.kept hk3
  have f6 := f4.kept hk3
  have k3 := k2.trans hk3
  clear f3 f4 k2 hk3
  go_wp2_with fail
  refine (galive_true _).mono ?_
  rintro e w4 ⟨rfl, hk4⟩
  have k4 := k3.trans hk4
  obtain ⟨c0, c1, c2⟩ := f5.kept hk4
  obtain ⟨c3, c4, c5⟩ := f6.kept hk4
  clear f5 f6 k3 hk4
  go_wp2_with fail
  refine (HL0.out _).mono ?_
  rintro e w5 ⟨rfl, hk5⟩
  have k5 := k4.trans hk5
  clear c0 c1 c2 c3 c4 c5 k4 hk5
  go_wp2_with fail
  refine (fromOne_32 _).mono ?_
  rintro e w6 ⟨rfl, rfl⟩
  go_wp2_with fail
  refine (HL1.out _).mono ?_
  rintro e w7 ⟨rfl, hk7⟩
  go_wp2
  go_ret
  exact ⟨rfl, k5.trans hk7⟩

theorem rngUniform_true (s t a n : Int) (w : World) (hT : Tab w) : Calls Tryd.prog 3 #[.agg #[.int .i64 s, .int .i64 t, .int .i64 a], .int .i64 n] w fun e w' => e = .returned (.bool true) ∧ Kept w w' := by
  by_cases h : n % 2 = 0
  · exact rngUniform_32 s t a n h w hT
  · exact rngUniform_64 s t a n (by omega) w hT

end Go.Proofs.YtfanggjinedafabDoor
