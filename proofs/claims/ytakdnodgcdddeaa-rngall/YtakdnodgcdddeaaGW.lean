/- drawn; RngDraws. -/
import Derived.Test.YtakdnodgcdddeaaGV
import Derived.Test.YtakdnodgcdddeaaG9
import Derived.Laws.StructEq
namespace Go.Proofs.Ytakdnodgcdddeaa
open Go.ChangeShapes Go.WideShapes Go.ChangeAt Go.RowKit
set_option linter.unusedVariables false
set_option linter.unusedSimpArgs false

set_option maxHeartbeats 4000000 in
set_option maxRecDepth 100000 in
theorem drawn_b_64 (s t a : Int) (n : Nat) (hn : 0 < n) (hn2 : n < 9223372036854775808) (w : World) : Calls Try.prog 11 #[.agg #[.int .i64 s, .int .i64 t, .int .i64 a], .int .i64 n, .int .i64 64] w fun e w' => e = .returned (.bool true) ∧ Kept w w' := by
  obtain ⟨j, hj⟩ : ∃ j, j = cnt s t a n := ⟨_, rfl⟩
  have hov := cnt_over s t a n hn hn2
  rw [← hj] at hov
  clear hj
  obtain ⟨r, hr⟩ : ∃ r : Nat, r = wn s t (a + j) % n := ⟨_, rfl⟩
  obtain ⟨P, hP⟩ : ∃ P : Int, P = wrap64 (a + j + 1) := ⟨_, rfl⟩
  have HB : Hid (∀ W, Calls Try.prog 17 #[.agg #[.int .i64 s, .int .i64 t, .int .i64 a], .int .i64 n] W fun e w' => e = .returned (.tuple #[.int .i64 r, .agg #[.int .i64 s, .int .i64 t, .int .i64 P], .int .i64 0]) ∧ Kept W w') := by
    rw [hr, hP]; exact fun W => below_ok s t a n j hn hn2 hov W
  have HC : Hid (∀ W, Calls Try.prog 24 #[.agg #[.int .i64 s, .int .i64 t, .int .i64 a], .int .i64 n] W fun e w' => e = .returned (.tuple #[.int .i64 r, .agg #[.int .i64 s, .int .i64 t, .int .i64 P]]) ∧ Kept W w') := by
    rw [hr, hP]; exact fun W => rbelow_ok s t a n j hn hn2 hov W
  clear hr hP hov
  have hn1 : ¬ (n : Int) < 1 := by omega
  obtain ⟨q, hq1, hq2, hq3⟩ := frac_64 (wn s t a / 2048) (by have := wn_lt s t a; omega)
  obtain ⟨Q, hQ⟩ : ∃ Q : Int, Q = wrap64 (a + 1) := ⟨_, rfl⟩
  have HU : Hid (∀ W, Calls Try.prog 25 #[.agg #[.int .i64 s, .int .i64 t, .int .i64 a], .int .i64 64] W fun e w' => e = .returned (.tuple #[.int .i64 q, .agg #[.int .i64 s, .int .i64 t, .int .i64 Q], .int .i64 0]) ∧ Kept W w') := by
    rw [hQ]; exact fun W => uniform_64 s t a q hq1 hq2 W
  have HV : Hid (∀ W, Calls Try.prog 26 #[.agg #[.int .i64 s, .int .i64 t, .int .i64 a], .int .i64 64] W fun e w' => e = .returned (.tuple #[.int .i64 q, .agg #[.int .i64 s, .int .i64 t, .int .i64 Q]]) ∧ Kept W w') := by
    rw [hQ]; exact fun W => runiform_64 s t a q hq3 W
  clear hQ hq1 hq2 hq3
  go_enter Try.func11, Try.ntmps11
  go_upto_region 1 with fail
  have f0 := dr_new w s t a 23
  have kk := (Kept.refl w).alloc #[.int .i64 s, .int .i64 t, .int .i64 a] 23
  obtain ⟨X0, hX⟩ : ∃ X, X = w.alloc (.cells #[.int .i64 s, .int .i64 t, .int .i64 a] 23) := ⟨_, rfl⟩
  rw [← hX] at f0 kk ⊢
  clear hX
  have E0 := f0
  obtain ⟨c0_0, c0_1, c0_2⟩ := E0
  go_wp2_with fail
  refine (HB.out _).mono ?_
  rintro e w1 ⟨rfl, hk⟩
  clear c0_0 c0_1 c0_2
  go_upto_region 2 with fail
  have kA := (Kept.refl w1).alloc #[.int .i64 s, .int .i64 t, .int .i64 P] 23
  replace f0 := (f0.kept hk).kept kA
  replace kk := (kk.trans hk).trans kA
  have f1 := dr_new w1 s t P 23
  obtain ⟨C1, hC⟩ : ∃ C, C = w1.heap.size := ⟨_, rfl⟩
  obtain ⟨X1, hX⟩ : ∃ X, X = w1.alloc (.cells #[.int .i64 s, .int .i64 t, .int .i64 P] 23) := ⟨_, rfl⟩
  rw [← hC] at f1 ⊢
  rw [← hX] at f0 f1 kk ⊢
  clear hX hC hk kA
  have E0 := f0
  obtain ⟨c0_0, c0_1, c0_2⟩ := E0
  have E1 := f1
  obtain ⟨c1_0, c1_1, c1_2⟩ := E1
  go_wp2_with fail
  refine (HC.out _).mono ?_
  rintro e w2 ⟨rfl, hk⟩
  clear c0_0 c0_1 c0_2
  clear c1_0 c1_1 c1_2
  go_upto_region 6 with fail
  have kA := (Kept.refl w2).alloc #[.int .i64 s, .int .i64 t, .int .i64 P] 23
  replace f0 := (f0.kept hk).kept kA
  replace f1 := (f1.kept hk).kept kA
  replace kk := (kk.trans hk).trans kA
  have f2 := dr_new w2 s t P 23
  obtain ⟨C2, hC⟩ : ∃ C, C = w2.heap.size := ⟨_, rfl⟩
  obtain ⟨X2, hX⟩ : ∃ X, X = w2.alloc (.cells #[.int .i64 s, .int .i64 t, .int .i64 P] 23) := ⟨_, rfl⟩
  rw [← hC] at f2 ⊢
  rw [← hX] at f0 f1 f2 kk ⊢
  clear hX hC hk kA
  have E0 := f0
  obtain ⟨c0_0, c0_1, c0_2⟩ := E0
  have E1 := f1
  obtain ⟨c1_0, c1_1, c1_2⟩ := E1
  have E2 := f2
  obtain ⟨c2_0, c2_1, c2_2⟩ := E2
  go_wp2_with fail
  refine (HU.out _).mono ?_
  rintro e w3 ⟨rfl, hk⟩
  clear c0_0 c0_1 c0_2
  clear c1_0 c1_1 c1_2
  clear c2_0 c2_1 c2_2
  go_upto_region 9 with fail
  have kA := (Kept.refl w3).alloc #[.int .i64 s, .int .i64 t, .int .i64 Q] 23
  replace f0 := (f0.kept hk).kept kA
  replace f1 := (f1.kept hk).kept kA
  replace f2 := (f2.kept hk).kept kA
  replace kk := (kk.trans hk).trans kA
  have f3 := dr_new w3 s t Q 23
  obtain ⟨C3, hC⟩ : ∃ C, C = w3.heap.size := ⟨_, rfl⟩
  obtain ⟨X3, hX⟩ : ∃ X, X = w3.alloc (.cells #[.int .i64 s, .int .i64 t, .int .i64 Q] 23) := ⟨_, rfl⟩
  rw [← hC] at f3 ⊢
  rw [← hX] at f0 f1 f2 f3 kk ⊢
  clear hX hC hk kA
  have E0 := f0
  obtain ⟨c0_0, c0_1, c0_2⟩ := E0
  have E1 := f1
  obtain ⟨c1_0, c1_1, c1_2⟩ := E1
  have E2 := f2
  obtain ⟨c2_0, c2_1, c2_2⟩ := E2
  have E3 := f3
  obtain ⟨c3_0, c3_1, c3_2⟩ := E3
  go_wp2_with fail
  refine (HV.out _).mono ?_
  rintro e w4 ⟨rfl, hk⟩
  clear c0_0 c0_1 c0_2
  clear c1_0 c1_1 c1_2
  clear c2_0 c2_1 c2_2
  clear c3_0 c3_1 c3_2
  go_upto_region 12 with fail
  have kA := (Kept.refl w4).alloc #[.int .i64 s, .int .i64 t, .int .i64 Q] 23
  replace f0 := (f0.kept hk).kept kA
  replace f1 := (f1.kept hk).kept kA
  replace f2 := (f2.kept hk).kept kA
  replace f3 := (f3.kept hk).kept kA
  replace kk := (kk.trans hk).trans kA
  have f4 := dr_new w4 s t Q 23
  obtain ⟨C4, hC⟩ : ∃ C, C = w4.heap.size := ⟨_, rfl⟩
  obtain ⟨X4, hX⟩ : ∃ X, X = w4.alloc (.cells #[.int .i64 s, .int .i64 t, .int .i64 Q] 23) := ⟨_, rfl⟩
  rw [← hC] at f4 ⊢
  rw [← hX] at f0 f1 f2 f3 f4 kk ⊢
  clear hX hC hk kA
  obtain ⟨c0_0, c0_1, c0_2⟩ := f0
  obtain ⟨c1_0, c1_1, c1_2⟩ := f1
  obtain ⟨c2_0, c2_1, c2_2⟩ := f2
  obtain ⟨c3_0, c3_1, c3_2⟩ := f3
  obtain ⟨c4_0, c4_1, c4_2⟩ := f4
  go_wp2
  go_ret
  exact ⟨rfl, kk⟩

set_option maxHeartbeats 4000000 in
set_option maxRecDepth 100000 in
theorem drawn_b_32 (s t a : Int) (n : Nat) (hn : 0 < n) (hn2 : n < 9223372036854775808) (w : World) : Calls Try.prog 11 #[.agg #[.int .i64 s, .int .i64 t, .int .i64 a], .int .i64 n, .int .i64 32] w fun e w' => e = .returned (.bool true) ∧ Kept w w' := by
  obtain ⟨j, hj⟩ : ∃ j, j = cnt s t a n := ⟨_, rfl⟩
  have hov := cnt_over s t a n hn hn2
  rw [← hj] at hov
  clear hj
  obtain ⟨r, hr⟩ : ∃ r : Nat, r = wn s t (a + j) % n := ⟨_, rfl⟩
  obtain ⟨P, hP⟩ : ∃ P : Int, P = wrap64 (a + j + 1) := ⟨_, rfl⟩
  have HB : Hid (∀ W, Calls Try.prog 17 #[.agg #[.int .i64 s, .int .i64 t, .int .i64 a], .int .i64 n] W fun e w' => e = .returned (.tuple #[.int .i64 r, .agg #[.int .i64 s, .int .i64 t, .int .i64 P], .int .i64 0]) ∧ Kept W w') := by
    rw [hr, hP]; exact fun W => below_ok s t a n j hn hn2 hov W
  have HC : Hid (∀ W, Calls Try.prog 24 #[.agg #[.int .i64 s, .int .i64 t, .int .i64 a], .int .i64 n] W fun e w' => e = .returned (.tuple #[.int .i64 r, .agg #[.int .i64 s, .int .i64 t, .int .i64 P]]) ∧ Kept W w') := by
    rw [hr, hP]; exact fun W => rbelow_ok s t a n j hn hn2 hov W
  clear hr hP hov
  have hn1 : ¬ (n : Int) < 1 := by omega
  obtain ⟨q, hq1, hq2, hq3⟩ := frac_32 (wn s t a / 1099511627776) (by have := wn_lt s t a; omega)
  obtain ⟨Q, hQ⟩ : ∃ Q : Int, Q = wrap64 (a + 1) := ⟨_, rfl⟩
  have HU : Hid (∀ W, Calls Try.prog 25 #[.agg #[.int .i64 s, .int .i64 t, .int .i64 a], .int .i64 32] W fun e w' => e = .returned (.tuple #[.int .i64 q, .agg #[.int .i64 s, .int .i64 t, .int .i64 Q], .int .i64 0]) ∧ Kept W w') := by
    rw [hQ]; exact fun W => uniform_32 s t a q hq1 hq2 W
  have HV : Hid (∀ W, Calls Try.prog 26 #[.agg #[.int .i64 s, .int .i64 t, .int .i64 a], .int .i64 32] W fun e w' => e = .returned (.tuple #[.int .i64 q, .agg #[.int .i64 s, .int .i64 t, .int .i64 Q]]) ∧ Kept W w') := by
    rw [hQ]; exact fun W => runiform_32 s t a q hq3 W
  clear hQ hq1 hq2 hq3
  go_enter Try.func11, Try.ntmps11
  go_upto_region 1 with fail
  have f0 := dr_new w s t a 23
  have kk := (Kept.refl w).alloc #[.int .i64 s, .int .i64 t, .int .i64 a] 23
  obtain ⟨X0, hX⟩ : ∃ X, X = w.alloc (.cells #[.int .i64 s, .int .i64 t, .int .i64 a] 23) := ⟨_, rfl⟩
  rw [← hX] at f0 kk ⊢
  clear hX
  have E0 := f0
  obtain ⟨c0_0, c0_1, c0_2⟩ := E0
  go_wp2_with fail
  refine (HB.out _).mono ?_
  rintro e w1 ⟨rfl, hk⟩
  clear c0_0 c0_1 c0_2
  go_upto_region 2 with fail
  have kA := (Kept.refl w1).alloc #[.int .i64 s, .int .i64 t, .int .i64 P] 23
  replace f0 := (f0.kept hk).kept kA
  replace kk := (kk.trans hk).trans kA
  have f1 := dr_new w1 s t P 23
  obtain ⟨C1, hC⟩ : ∃ C, C = w1.heap.size := ⟨_, rfl⟩
  obtain ⟨X1, hX⟩ : ∃ X, X = w1.alloc (.cells #[.int .i64 s, .int .i64 t, .int .i64 P] 23) := ⟨_, rfl⟩
  rw [← hC] at f1 ⊢
  rw [← hX] at f0 f1 kk ⊢
  clear hX hC hk kA
  have E0 := f0
  obtain ⟨c0_0, c0_1, c0_2⟩ := E0
  have E1 := f1
  obtain ⟨c1_0, c1_1, c1_2⟩ := E1
  go_wp2_with fail
  refine (HC.out _).mono ?_
  rintro e w2 ⟨rfl, hk⟩
  clear c0_0 c0_1 c0_2
  clear c1_0 c1_1 c1_2
  go_upto_region 6 with fail
  have kA := (Kept.refl w2).alloc #[.int .i64 s, .int .i64 t, .int .i64 P] 23
  replace f0 := (f0.kept hk).kept kA
  replace f1 := (f1.kept hk).kept kA
  replace kk := (kk.trans hk).trans kA
  have f2 := dr_new w2 s t P 23
  obtain ⟨C2, hC⟩ : ∃ C, C = w2.heap.size := ⟨_, rfl⟩
  obtain ⟨X2, hX⟩ : ∃ X, X = w2.alloc (.cells #[.int .i64 s, .int .i64 t, .int .i64 P] 23) := ⟨_, rfl⟩
  rw [← hC] at f2 ⊢
  rw [← hX] at f0 f1 f2 kk ⊢
  clear hX hC hk kA
  have E0 := f0
  obtain ⟨c0_0, c0_1, c0_2⟩ := E0
  have E1 := f1
  obtain ⟨c1_0, c1_1, c1_2⟩ := E1
  have E2 := f2
  obtain ⟨c2_0, c2_1, c2_2⟩ := E2
  go_wp2_with fail
  refine (HU.out _).mono ?_
  rintro e w3 ⟨rfl, hk⟩
  clear c0_0 c0_1 c0_2
  clear c1_0 c1_1 c1_2
  clear c2_0 c2_1 c2_2
  go_upto_region 9 with fail
  have kA := (Kept.refl w3).alloc #[.int .i64 s, .int .i64 t, .int .i64 Q] 23
  replace f0 := (f0.kept hk).kept kA
  replace f1 := (f1.kept hk).kept kA
  replace f2 := (f2.kept hk).kept kA
  replace kk := (kk.trans hk).trans kA
  have f3 := dr_new w3 s t Q 23
  obtain ⟨C3, hC⟩ : ∃ C, C = w3.heap.size := ⟨_, rfl⟩
  obtain ⟨X3, hX⟩ : ∃ X, X = w3.alloc (.cells #[.int .i64 s, .int .i64 t, .int .i64 Q] 23) := ⟨_, rfl⟩
  rw [← hC] at f3 ⊢
  rw [← hX] at f0 f1 f2 f3 kk ⊢
  clear hX hC hk kA
  have E0 := f0
  obtain ⟨c0_0, c0_1, c0_2⟩ := E0
  have E1 := f1
  obtain ⟨c1_0, c1_1, c1_2⟩ := E1
  have E2 := f2
  obtain ⟨c2_0, c2_1, c2_2⟩ := E2
  have E3 := f3
  obtain ⟨c3_0, c3_1, c3_2⟩ := E3
  go_wp2_with fail
  refine (HV.out _).mono ?_
  rintro e w4 ⟨rfl, hk⟩
  clear c0_0 c0_1 c0_2
  clear c1_0 c1_1 c1_2
  clear c2_0 c2_1 c2_2
  clear c3_0 c3_1 c3_2
  go_upto_region 12 with fail
  have kA := (Kept.refl w4).alloc #[.int .i64 s, .int .i64 t, .int .i64 Q] 23
  replace f0 := (f0.kept hk).kept kA
  replace f1 := (f1.kept hk).kept kA
  replace f2 := (f2.kept hk).kept kA
  replace f3 := (f3.kept hk).kept kA
  replace kk := (kk.trans hk).trans kA
  have f4 := dr_new w4 s t Q 23
  obtain ⟨C4, hC⟩ : ∃ C, C = w4.heap.size := ⟨_, rfl⟩
  obtain ⟨X4, hX⟩ : ∃ X, X = w4.alloc (.cells #[.int .i64 s, .int .i64 t, .int .i64 Q] 23) := ⟨_, rfl⟩
  rw [← hC] at f4 ⊢
  rw [← hX] at f0 f1 f2 f3 f4 kk ⊢
  clear hX hC hk kA
  obtain ⟨c0_0, c0_1, c0_2⟩ := f0
  obtain ⟨c1_0, c1_1, c1_2⟩ := f1
  obtain ⟨c2_0, c2_1, c2_2⟩ := f2
  obtain ⟨c3_0, c3_1, c3_2⟩ := f3
  obtain ⟨c4_0, c4_1, c4_2⟩ := f4
  go_wp2
  go_ret
  exact ⟨rfl, kk⟩

set_option maxHeartbeats 4000000 in
set_option maxRecDepth 100000 in
theorem drawn_b_no (s t a : Int) (n : Nat) (hn : 0 < n) (hn2 : n < 9223372036854775808) (v : Int) (h1 : (v == 32) = false) (h2 : (v == 64) = false) (w : World) : Calls Try.prog 11 #[.agg #[.int .i64 s, .int .i64 t, .int .i64 a], .int .i64 n, .int .i64 v] w fun e w' => e = .returned (.bool true) ∧ Kept w w' := by
  obtain ⟨j, hj⟩ : ∃ j, j = cnt s t a n := ⟨_, rfl⟩
  have hov := cnt_over s t a n hn hn2
  rw [← hj] at hov
  clear hj
  obtain ⟨r, hr⟩ : ∃ r : Nat, r = wn s t (a + j) % n := ⟨_, rfl⟩
  obtain ⟨P, hP⟩ : ∃ P : Int, P = wrap64 (a + j + 1) := ⟨_, rfl⟩
  have HB : Hid (∀ W, Calls Try.prog 17 #[.agg #[.int .i64 s, .int .i64 t, .int .i64 a], .int .i64 n] W fun e w' => e = .returned (.tuple #[.int .i64 r, .agg #[.int .i64 s, .int .i64 t, .int .i64 P], .int .i64 0]) ∧ Kept W w') := by
    rw [hr, hP]; exact fun W => below_ok s t a n j hn hn2 hov W
  have HC : Hid (∀ W, Calls Try.prog 24 #[.agg #[.int .i64 s, .int .i64 t, .int .i64 a], .int .i64 n] W fun e w' => e = .returned (.tuple #[.int .i64 r, .agg #[.int .i64 s, .int .i64 t, .int .i64 P]]) ∧ Kept W w') := by
    rw [hr, hP]; exact fun W => rbelow_ok s t a n j hn hn2 hov W
  clear hr hP hov
  have hn1 : ¬ (n : Int) < 1 := by omega
  have HU : Hid (∀ W, Calls Try.prog 25 #[.agg #[.int .i64 s, .int .i64 t, .int .i64 a], .int .i64 v] W fun e w' => e = .returned (.tuple #[.int .i64 0, .agg #[.int .i64 0, .int .i64 0, .int .i64 0], .int .i64 3]) ∧ Kept W w') := fun W => uniform_no s t a v h1 h2 W
  have h1' : ¬ v = 32 := by simpa using h1
  have h2' : ¬ v = 64 := by simpa using h2
  have h3' : (v != 32) = true := by simpa using h1'
  have h4' : (v != 64) = true := by simpa using h2'
  go_enter Try.func11, Try.ntmps11
  go_upto_region 1 with fail
  have f0 := dr_new w s t a 23
  have kk := (Kept.refl w).alloc #[.int .i64 s, .int .i64 t, .int .i64 a] 23
  obtain ⟨X0, hX⟩ : ∃ X, X = w.alloc (.cells #[.int .i64 s, .int .i64 t, .int .i64 a] 23) := ⟨_, rfl⟩
  rw [← hX] at f0 kk ⊢
  clear hX
  have E0 := f0
  obtain ⟨c0_0, c0_1, c0_2⟩ := E0
  go_wp2_with fail
  refine (HB.out _).mono ?_
  rintro e w1 ⟨rfl, hk⟩
  clear c0_0 c0_1 c0_2
  go_upto_region 2 with fail
  have kA := (Kept.refl w1).alloc #[.int .i64 s, .int .i64 t, .int .i64 P] 23
  replace f0 := (f0.kept hk).kept kA
  replace kk := (kk.trans hk).trans kA
  have f1 := dr_new w1 s t P 23
  obtain ⟨C1, hC⟩ : ∃ C, C = w1.heap.size := ⟨_, rfl⟩
  obtain ⟨X1, hX⟩ : ∃ X, X = w1.alloc (.cells #[.int .i64 s, .int .i64 t, .int .i64 P] 23) := ⟨_, rfl⟩
  rw [← hC] at f1 ⊢
  rw [← hX] at f0 f1 kk ⊢
  clear hX hC hk kA
  have E0 := f0
  obtain ⟨c0_0, c0_1, c0_2⟩ := E0
  have E1 := f1
  obtain ⟨c1_0, c1_1, c1_2⟩ := E1
  go_wp2_with fail
  refine (HC.out _).mono ?_
  rintro e w2 ⟨rfl, hk⟩
  clear c0_0 c0_1 c0_2
  clear c1_0 c1_1 c1_2
  go_upto_region 6 with fail
  have kA := (Kept.refl w2).alloc #[.int .i64 s, .int .i64 t, .int .i64 P] 23
  replace f0 := (f0.kept hk).kept kA
  replace f1 := (f1.kept hk).kept kA
  replace kk := (kk.trans hk).trans kA
  have f2 := dr_new w2 s t P 23
  obtain ⟨C2, hC⟩ : ∃ C, C = w2.heap.size := ⟨_, rfl⟩
  obtain ⟨X2, hX⟩ : ∃ X, X = w2.alloc (.cells #[.int .i64 s, .int .i64 t, .int .i64 P] 23) := ⟨_, rfl⟩
  rw [← hC] at f2 ⊢
  rw [← hX] at f0 f1 f2 kk ⊢
  clear hX hC hk kA
  have E0 := f0
  obtain ⟨c0_0, c0_1, c0_2⟩ := E0
  have E1 := f1
  obtain ⟨c1_0, c1_1, c1_2⟩ := E1
  have E2 := f2
  obtain ⟨c2_0, c2_1, c2_2⟩ := E2
  go_wp2_with fail
  refine (HU.out _).mono ?_
  rintro e w3 ⟨rfl, hk⟩
  clear c0_0 c0_1 c0_2
  clear c1_0 c1_1 c1_2
  clear c2_0 c2_1 c2_2
  go_upto_region 9 with fail
  have kA := (Kept.refl w3).alloc #[.int .i64 0, .int .i64 0, .int .i64 0] 23
  replace f0 := (f0.kept hk).kept kA
  replace f1 := (f1.kept hk).kept kA
  replace f2 := (f2.kept hk).kept kA
  replace kk := (kk.trans hk).trans kA
  have f3 := dr_new w3 0 0 0 23
  obtain ⟨C3, hC⟩ : ∃ C, C = w3.heap.size := ⟨_, rfl⟩
  obtain ⟨X3, hX⟩ : ∃ X, X = w3.alloc (.cells #[.int .i64 0, .int .i64 0, .int .i64 0] 23) := ⟨_, rfl⟩
  rw [← hC] at f3 ⊢
  rw [← hX] at f0 f1 f2 f3 kk ⊢
  clear hX hC hk kA
  obtain ⟨c0_0, c0_1, c0_2⟩ := f0
  obtain ⟨c1_0, c1_1, c1_2⟩ := f1
  obtain ⟨c2_0, c2_1, c2_2⟩ := f2
  obtain ⟨c3_0, c3_1, c3_2⟩ := f3
  go_wp2
  go_ret
  exact ⟨rfl, kk⟩

set_option maxHeartbeats 4000000 in
set_option maxRecDepth 100000 in
theorem drawn_s_64 (s t a : Int) (n : Int) (hn : n < 1) (w : World) : Calls Try.prog 11 #[.agg #[.int .i64 s, .int .i64 t, .int .i64 a], .int .i64 n, .int .i64 64] w fun e w' => e = .returned (.bool true) ∧ Kept w w' := by
  have HB : Hid (∀ W, Calls Try.prog 17 #[.agg #[.int .i64 s, .int .i64 t, .int .i64 a], .int .i64 n] W fun e w' => e = .returned (.tuple #[.int .i64 0, .agg #[.int .i64 0, .int .i64 0, .int .i64 0], .int .i64 1]) ∧ Kept W w') := fun W => below_no s t a n hn W
  obtain ⟨q, hq1, hq2, hq3⟩ := frac_64 (wn s t a / 2048) (by have := wn_lt s t a; omega)
  obtain ⟨Q, hQ⟩ : ∃ Q : Int, Q = wrap64 (a + 1) := ⟨_, rfl⟩
  have HU : Hid (∀ W, Calls Try.prog 25 #[.agg #[.int .i64 s, .int .i64 t, .int .i64 a], .int .i64 64] W fun e w' => e = .returned (.tuple #[.int .i64 q, .agg #[.int .i64 s, .int .i64 t, .int .i64 Q], .int .i64 0]) ∧ Kept W w') := by
    rw [hQ]; exact fun W => uniform_64 s t a q hq1 hq2 W
  have HV : Hid (∀ W, Calls Try.prog 26 #[.agg #[.int .i64 s, .int .i64 t, .int .i64 a], .int .i64 64] W fun e w' => e = .returned (.tuple #[.int .i64 q, .agg #[.int .i64 s, .int .i64 t, .int .i64 Q]]) ∧ Kept W w') := by
    rw [hQ]; exact fun W => runiform_64 s t a q hq3 W
  clear hQ hq1 hq2 hq3
  go_enter Try.func11, Try.ntmps11
  go_upto_region 1 with fail
  have f0 := dr_new w s t a 23
  have kk := (Kept.refl w).alloc #[.int .i64 s, .int .i64 t, .int .i64 a] 23
  obtain ⟨X0, hX⟩ : ∃ X, X = w.alloc (.cells #[.int .i64 s, .int .i64 t, .int .i64 a] 23) := ⟨_, rfl⟩
  rw [← hX] at f0 kk ⊢
  clear hX
  have E0 := f0
  obtain ⟨c0_0, c0_1, c0_2⟩ := E0
  go_wp2_with fail
  refine (HB.out _).mono ?_
  rintro e w1 ⟨rfl, hk⟩
  clear c0_0 c0_1 c0_2
  go_upto_region 2 with fail
  have kA := (Kept.refl w1).alloc #[.int .i64 0, .int .i64 0, .int .i64 0] 23
  replace f0 := (f0.kept hk).kept kA
  replace kk := (kk.trans hk).trans kA
  have f1 := dr_new w1 0 0 0 23
  obtain ⟨C1, hC⟩ : ∃ C, C = w1.heap.size := ⟨_, rfl⟩
  obtain ⟨X1, hX⟩ : ∃ X, X = w1.alloc (.cells #[.int .i64 0, .int .i64 0, .int .i64 0] 23) := ⟨_, rfl⟩
  rw [← hC] at f1 ⊢
  rw [← hX] at f0 f1 kk ⊢
  clear hX hC hk kA
  have E0 := f0
  obtain ⟨c0_0, c0_1, c0_2⟩ := E0
  have E1 := f1
  obtain ⟨c1_0, c1_1, c1_2⟩ := E1
  go_wp2_with fail
  refine (HU.out _).mono ?_
  rintro e w3 ⟨rfl, hk⟩
  clear c0_0 c0_1 c0_2
  clear c1_0 c1_1 c1_2
  go_upto_region 9 with fail
  have kA := (Kept.refl w3).alloc #[.int .i64 s, .int .i64 t, .int .i64 Q] 23
  replace f0 := (f0.kept hk).kept kA
  replace f1 := (f1.kept hk).kept kA
  replace kk := (kk.trans hk).trans kA
  have f3 := dr_new w3 s t Q 23
  obtain ⟨C3, hC⟩ : ∃ C, C = w3.heap.size := ⟨_, rfl⟩
  obtain ⟨X3, hX⟩ : ∃ X, X = w3.alloc (.cells #[.int .i64 s, .int .i64 t, .int .i64 Q] 23) := ⟨_, rfl⟩
  rw [← hC] at f3 ⊢
  rw [← hX] at f0 f1 f3 kk ⊢
  clear hX hC hk kA
  have E0 := f0
  obtain ⟨c0_0, c0_1, c0_2⟩ := E0
  have E1 := f1
  obtain ⟨c1_0, c1_1, c1_2⟩ := E1
  have E2 := f3
  obtain ⟨c2_0, c2_1, c2_2⟩ := E2
  go_wp2_with fail
  refine (HV.out _).mono ?_
  rintro e w4 ⟨rfl, hk⟩
  clear c0_0 c0_1 c0_2
  clear c1_0 c1_1 c1_2
  clear c2_0 c2_1 c2_2
  go_upto_region 12 with fail
  have kA := (Kept.refl w4).alloc #[.int .i64 s, .int .i64 t, .int .i64 Q] 23
  replace f0 := (f0.kept hk).kept kA
  replace f1 := (f1.kept hk).kept kA
  replace f3 := (f3.kept hk).kept kA
  replace kk := (kk.trans hk).trans kA
  have f4 := dr_new w4 s t Q 23
  obtain ⟨C4, hC⟩ : ∃ C, C = w4.heap.size := ⟨_, rfl⟩
  obtain ⟨X4, hX⟩ : ∃ X, X = w4.alloc (.cells #[.int .i64 s, .int .i64 t, .int .i64 Q] 23) := ⟨_, rfl⟩
  rw [← hC] at f4 ⊢
  rw [← hX] at f0 f1 f3 f4 kk ⊢
  clear hX hC hk kA
  obtain ⟨c0_0, c0_1, c0_2⟩ := f0
  obtain ⟨c1_0, c1_1, c1_2⟩ := f1
  obtain ⟨c2_0, c2_1, c2_2⟩ := f3
  obtain ⟨c3_0, c3_1, c3_2⟩ := f4
  go_wp2
  go_ret
  exact ⟨rfl, kk⟩

set_option maxHeartbeats 4000000 in
set_option maxRecDepth 100000 in
theorem drawn_s_32 (s t a : Int) (n : Int) (hn : n < 1) (w : World) : Calls Try.prog 11 #[.agg #[.int .i64 s, .int .i64 t, .int .i64 a], .int .i64 n, .int .i64 32] w fun e w' => e = .returned (.bool true) ∧ Kept w w' := by
  have HB : Hid (∀ W, Calls Try.prog 17 #[.agg #[.int .i64 s, .int .i64 t, .int .i64 a], .int .i64 n] W fun e w' => e = .returned (.tuple #[.int .i64 0, .agg #[.int .i64 0, .int .i64 0, .int .i64 0], .int .i64 1]) ∧ Kept W w') := fun W => below_no s t a n hn W
  obtain ⟨q, hq1, hq2, hq3⟩ := frac_32 (wn s t a / 1099511627776) (by have := wn_lt s t a; omega)
  obtain ⟨Q, hQ⟩ : ∃ Q : Int, Q = wrap64 (a + 1) := ⟨_, rfl⟩
  have HU : Hid (∀ W, Calls Try.prog 25 #[.agg #[.int .i64 s, .int .i64 t, .int .i64 a], .int .i64 32] W fun e w' => e = .returned (.tuple #[.int .i64 q, .agg #[.int .i64 s, .int .i64 t, .int .i64 Q], .int .i64 0]) ∧ Kept W w') := by
    rw [hQ]; exact fun W => uniform_32 s t a q hq1 hq2 W
  have HV : Hid (∀ W, Calls Try.prog 26 #[.agg #[.int .i64 s, .int .i64 t, .int .i64 a], .int .i64 32] W fun e w' => e = .returned (.tuple #[.int .i64 q, .agg #[.int .i64 s, .int .i64 t, .int .i64 Q]]) ∧ Kept W w') := by
    rw [hQ]; exact fun W => runiform_32 s t a q hq3 W
  clear hQ hq1 hq2 hq3
  go_enter Try.func11, Try.ntmps11
  go_upto_region 1 with fail
  have f0 := dr_new w s t a 23
  have kk := (Kept.refl w).alloc #[.int .i64 s, .int .i64 t, .int .i64 a] 23
  obtain ⟨X0, hX⟩ : ∃ X, X = w.alloc (.cells #[.int .i64 s, .int .i64 t, .int .i64 a] 23) := ⟨_, rfl⟩
  rw [← hX] at f0 kk ⊢
  clear hX
  have E0 := f0
  obtain ⟨c0_0, c0_1, c0_2⟩ := E0
  go_wp2_with fail
  refine (HB.out _).mono ?_
  rintro e w1 ⟨rfl, hk⟩
  clear c0_0 c0_1 c0_2
  go_upto_region 2 with fail
  have kA := (Kept.refl w1).alloc #[.int .i64 0, .int .i64 0, .int .i64 0] 23
  replace f0 := (f0.kept hk).kept kA
  replace kk := (kk.trans hk).trans kA
  have f1 := dr_new w1 0 0 0 23
  obtain ⟨C1, hC⟩ : ∃ C, C = w1.heap.size := ⟨_, rfl⟩
  obtain ⟨X1, hX⟩ : ∃ X, X = w1.alloc (.cells #[.int .i64 0, .int .i64 0, .int .i64 0] 23) := ⟨_, rfl⟩
  rw [← hC] at f1 ⊢
  rw [← hX] at f0 f1 kk ⊢
  clear hX hC hk kA
  have E0 := f0
  obtain ⟨c0_0, c0_1, c0_2⟩ := E0
  have E1 := f1
  obtain ⟨c1_0, c1_1, c1_2⟩ := E1
  go_wp2_with fail
  refine (HU.out _).mono ?_
  rintro e w3 ⟨rfl, hk⟩
  clear c0_0 c0_1 c0_2
  clear c1_0 c1_1 c1_2
  go_upto_region 9 with fail
  have kA := (Kept.refl w3).alloc #[.int .i64 s, .int .i64 t, .int .i64 Q] 23
  replace f0 := (f0.kept hk).kept kA
  replace f1 := (f1.kept hk).kept kA
  replace kk := (kk.trans hk).trans kA
  have f3 := dr_new w3 s t Q 23
  obtain ⟨C3, hC⟩ : ∃ C, C = w3.heap.size := ⟨_, rfl⟩
  obtain ⟨X3, hX⟩ : ∃ X, X = w3.alloc (.cells #[.int .i64 s, .int .i64 t, .int .i64 Q] 23) := ⟨_, rfl⟩
  rw [← hC] at f3 ⊢
  rw [← hX] at f0 f1 f3 kk ⊢
  clear hX hC hk kA
  have E0 := f0
  obtain ⟨c0_0, c0_1, c0_2⟩ := E0
  have E1 := f1
  obtain ⟨c1_0, c1_1, c1_2⟩ := E1
  have E2 := f3
  obtain ⟨c2_0, c2_1, c2_2⟩ := E2
  go_wp2_with fail
  refine (HV.out _).mono ?_
  rintro e w4 ⟨rfl, hk⟩
  clear c0_0 c0_1 c0_2
  clear c1_0 c1_1 c1_2
  clear c2_0 c2_1 c2_2
  go_upto_region 12 with fail
  have kA := (Kept.refl w4).alloc #[.int .i64 s, .int .i64 t, .int .i64 Q] 23
  replace f0 := (f0.kept hk).kept kA
  replace f1 := (f1.kept hk).kept kA
  replace f3 := (f3.kept hk).kept kA
  replace kk := (kk.trans hk).trans kA
  have f4 := dr_new w4 s t Q 23
  obtain ⟨C4, hC⟩ : ∃ C, C = w4.heap.size := ⟨_, rfl⟩
  obtain ⟨X4, hX⟩ : ∃ X, X = w4.alloc (.cells #[.int .i64 s, .int .i64 t, .int .i64 Q] 23) := ⟨_, rfl⟩
  rw [← hC] at f4 ⊢
  rw [← hX] at f0 f1 f3 f4 kk ⊢
  clear hX hC hk kA
  obtain ⟨c0_0, c0_1, c0_2⟩ := f0
  obtain ⟨c1_0, c1_1, c1_2⟩ := f1
  obtain ⟨c2_0, c2_1, c2_2⟩ := f3
  obtain ⟨c3_0, c3_1, c3_2⟩ := f4
  go_wp2
  go_ret
  exact ⟨rfl, kk⟩

set_option maxHeartbeats 4000000 in
set_option maxRecDepth 100000 in
theorem drawn_s_no (s t a : Int) (n : Int) (hn : n < 1) (v : Int) (h1 : (v == 32) = false) (h2 : (v == 64) = false) (w : World) : Calls Try.prog 11 #[.agg #[.int .i64 s, .int .i64 t, .int .i64 a], .int .i64 n, .int .i64 v] w fun e w' => e = .returned (.bool true) ∧ Kept w w' := by
  have HB : Hid (∀ W, Calls Try.prog 17 #[.agg #[.int .i64 s, .int .i64 t, .int .i64 a], .int .i64 n] W fun e w' => e = .returned (.tuple #[.int .i64 0, .agg #[.int .i64 0, .int .i64 0, .int .i64 0], .int .i64 1]) ∧ Kept W w') := fun W => below_no s t a n hn W
  have HU : Hid (∀ W, Calls Try.prog 25 #[.agg #[.int .i64 s, .int .i64 t, .int .i64 a], .int .i64 v] W fun e w' => e = .returned (.tuple #[.int .i64 0, .agg #[.int .i64 0, .int .i64 0, .int .i64 0], .int .i64 3]) ∧ Kept W w') := fun W => uniform_no s t a v h1 h2 W
  have h1' : ¬ v = 32 := by simpa using h1
  have h2' : ¬ v = 64 := by simpa using h2
  have h3' : (v != 32) = true := by simpa using h1'
  have h4' : (v != 64) = true := by simpa using h2'
  go_enter Try.func11, Try.ntmps11
  go_upto_region 1 with fail
  have f0 := dr_new w s t a 23
  have kk := (Kept.refl w).alloc #[.int .i64 s, .int .i64 t, .int .i64 a] 23
  obtain ⟨X0, hX⟩ : ∃ X, X = w.alloc (.cells #[.int .i64 s, .int .i64 t, .int .i64 a] 23) := ⟨_, rfl⟩
  rw [← hX] at f0 kk ⊢
  clear hX
  have E0 := f0
  obtain ⟨c0_0, c0_1, c0_2⟩ := E0
  go_wp2_with fail
  refine (HB.out _).mono ?_
  rintro e w1 ⟨rfl, hk⟩
  clear c0_0 c0_1 c0_2
  go_upto_region 2 with fail
  have kA := (Kept.refl w1).alloc #[.int .i64 0, .int .i64 0, .int .i64 0] 23
  replace f0 := (f0.kept hk).kept kA
  replace kk := (kk.trans hk).trans kA
  have f1 := dr_new w1 0 0 0 23
  obtain ⟨C1, hC⟩ : ∃ C, C = w1.heap.size := ⟨_, rfl⟩
  obtain ⟨X1, hX⟩ : ∃ X, X = w1.alloc (.cells #[.int .i64 0, .int .i64 0, .int .i64 0] 23) := ⟨_, rfl⟩
  rw [← hC] at f1 ⊢
  rw [← hX] at f0 f1 kk ⊢
  clear hX hC hk kA
  have E0 := f0
  obtain ⟨c0_0, c0_1, c0_2⟩ := E0
  have E1 := f1
  obtain ⟨c1_0, c1_1, c1_2⟩ := E1
  go_wp2_with fail
  refine (HU.out _).mono ?_
  rintro e w3 ⟨rfl, hk⟩
  clear c0_0 c0_1 c0_2
  clear c1_0 c1_1 c1_2
  go_upto_region 9 with fail
  have kA := (Kept.refl w3).alloc #[.int .i64 0, .int .i64 0, .int .i64 0] 23
  replace f0 := (f0.kept hk).kept kA
  replace f1 := (f1.kept hk).kept kA
  replace kk := (kk.trans hk).trans kA
  have f3 := dr_new w3 0 0 0 23
  obtain ⟨C3, hC⟩ : ∃ C, C = w3.heap.size := ⟨_, rfl⟩
  obtain ⟨X3, hX⟩ : ∃ X, X = w3.alloc (.cells #[.int .i64 0, .int .i64 0, .int .i64 0] 23) := ⟨_, rfl⟩
  rw [← hC] at f3 ⊢
  rw [← hX] at f0 f1 f3 kk ⊢
  clear hX hC hk kA
  obtain ⟨c0_0, c0_1, c0_2⟩ := f0
  obtain ⟨c1_0, c1_1, c1_2⟩ := f1
  obtain ⟨c2_0, c2_1, c2_2⟩ := f3
  go_wp2
  go_ret
  exact ⟨rfl, kk⟩

theorem drawn_true (s t a n v : Int) (hn : n ≤ 9223372036854775807) (w : World) : Calls Try.prog 11 #[.agg #[.int .i64 s, .int .i64 t, .int .i64 a], .int .i64 n, .int .i64 v] w fun e w' => e = .returned (.bool true) ∧ Kept w w' := by
  by_cases h : n < 1
  · by_cases h64 : v = 64
    · subst h64; exact drawn_s_64 s t a n h w
    · by_cases h32 : v = 32
      · subst h32; exact drawn_s_32 s t a n h w
      · exact drawn_s_no s t a n h v (by simpa using h32) (by simpa using h64) w
  · obtain ⟨m, rfl⟩ : ∃ m : Nat, n = (m : Int) := ⟨n.toNat, by omega⟩
    by_cases h64 : v = 64
    · subst h64; exact drawn_b_64 s t a m (by omega) (by omega) w
    · by_cases h32 : v = 32
      · subst h32; exact drawn_b_32 s t a m (by omega) (by omega) w
      · exact drawn_b_no s t a m (by omega) (by omega) v (by simpa using h32) (by simpa using h64) w

set_option maxHeartbeats 1000000 in
theorem rngDraws_true (s t a n v : Int) (hn : n ≤ 9223372036854775807) (w : World) : Calls Try.prog 4 #[.agg #[.int .i64 s, .int .i64 t, .int .i64 a], .int .i64 n, .int .i64 v] w fun e w' => e = .returned (.bool true) ∧ Kept w w' := by
  have d0 := dr_new w s t a 23
  have k0 := (Kept.refl w).alloc #[.int .i64 s, .int .i64 t, .int .i64 a] 23
  go_enter Try.func4, Try.ntmps4
  go_wp2_with fail
  refine (galive_true _).mono ?_
  rintro e w1 ⟨rfl, hk1⟩
  obtain ⟨c0, c1, c2⟩ := d0.kept hk1
  go_wp2_with fail
  refine (drawn_true s t a n v hn _).mono ?_
  rintro e w2 ⟨rfl, hk2⟩
  go_wp2
  go_ret
  exact ⟨rfl, (k0.trans hk1).trans hk2⟩

end Go.Proofs.Ytakdnodgcdddeaa
