/- Package optim: a number of a rule as a float of a width; a rule of noughts. -/
import Derived.Test.YtojhhimmfnccjaaOB
namespace Go.Proofs.Ytojhhimmfnccjaa
open Go.ChangeShapes Go.WideShapes Go.ChangeAt Go.RowKit
set_option linter.unusedVariables false
set_option linter.unusedSimpArgs false

theorem size_walk (b n x y c : Int) (l : Bool) (w : World)
    (KV : Hid (∀ u, Calls Try.prog 42 #[.int .i64 b, .int .i64 64, .int .i64 n] u fun e w' => e = .returned (.int .i64 x) ∧ Kept u w'))
    (KN : Hid (∀ u, Calls Try.prog 41 #[.int .i64 x, .int .i64 n] u fun e w' => e = .returned (.int .i64 y) ∧ Kept u w'))
    (KC : Hid (∀ u, Calls Try.prog 43 #[.int .i64 y, .int .i64 n] u fun e w' => e = .returned (.int .i64 c) ∧ Kept u w'))
    (KL : Hid (∀ u, Calls Try.prog 44 #[.int .i64 b, .int .i64 0, .int .i64 64] u fun e w' => e = .returned (.bool l) ∧ Kept u w')) :
    Calls Try.prog 21 #[.int .i64 b, .int .i64 n] w fun e w' => e = .returned (.tuple #[.int .i64 y, .bool (decide (c < 3) && !l)]) ∧ Kept w w' := by
  go_enter Try.func21, Try.ntmps21
  by_cases hc : c < 3
  · go_wp2_with (first | (go_at_call 42; refine (KV.out _).mono ?_; rintro e w1 ⟨rfl, k1⟩) | (go_at_call 41; refine (KN.out _).mono ?_; rintro e w2 ⟨rfl, k2⟩) | (go_at_call 43; refine (KC.out _).mono ?_; rintro e w3 ⟨rfl, k3⟩) | (go_at_call 44; refine (KL.out _).mono ?_; rintro e w4 ⟨rfl, k4⟩))
    exact bodyPost_ret (v := .tuple #[.int .i64 y, .bool (decide (c < 3) && !l)]) (by simp [results, Try.results21, go_sem, hc]) rfl ⟨rfl, ((k1.trans k2).trans k3).trans k4⟩
  · go_wp2_with (first | (go_at_call 42; refine (KV.out _).mono ?_; rintro e w1 ⟨rfl, k1⟩) | (go_at_call 41; refine (KN.out _).mono ?_; rintro e w2 ⟨rfl, k2⟩) | (go_at_call 43; refine (KC.out _).mono ?_; rintro e w3 ⟨rfl, k3⟩) | (go_at_call 44; refine (KL.out _).mono ?_; rintro e w4 ⟨rfl, k4⟩))
    exact bodyPost_ret (v := .tuple #[.int .i64 y, .bool (decide (c < 3) && !l)]) (by simp [results, Try.results21, go_sem]; exact fun h => absurd h (by omega)) rfl ⟨rfl, (k1.trans k2).trans k3⟩
/-- size of any float in width 64 -/
theorem size_64 (b : Int) (hb1 : -9223372036854775808 ≤ b) (hb2 : b ≤ 9223372036854775807) (w : World) : Calls Try.prog 21 #[.int .i64 b, .int .i64 64] w fun e w' => e = .returned (.tuple #[.int .i64 (can (cln b 64) 64), .bool (decide (cls (can (cln b 64) 64) 64 < 3) && !(lss b 0 64))]) ∧ Kept w w' :=
  size_walk b 64 _ _ _ _ w (fun u => convert_same b 64 (.inl rfl) hb1 hb2 u) (fun u => canon_any _ _ u) (fun u => class_any _ _ u) (fun u => less_any b 0 64 hb1 hb2 (by decide) (by decide) u)
theorem divides_0 (w : World) : Calls Try.prog 75 #[.int .i64 0] w fun e w' => e = .returned (.bool false) ∧ Kept w w' := by
  go_enter Try.func75, Try.ntmps75
  go_wp2_with fail
  go_ret
  exact ⟨rfl, Kept.refl w⟩
theorem idx5 (i : Int) (h : i = 0 ∨ i = 1 ∨ i = 2 ∨ i = 3 ∨ i = 4) (w : World) : (Instr.index 115 (.agg #[.int .i64 0, .int .i64 0, .int .i64 0, .int .i64 0, .int .i64 0]) (.int .i64 i)).run Try.prog w = .ok (.int .i64 0) w := by
  rcases h with rfl | rfl | rfl | rfl | rfl <;> kernel_rfl
theorem idx2 (i : Int) (h : i = 0 ∨ i = 1) (w : World) : (Instr.index 116 (.agg #[.int .i64 0, .int .i64 0]) (.int .i64 i)).run Try.prog w = .ok (.int .i64 0) w := by
  rcases h with rfl | rfl <;> kernel_rfl
abbrev z7 : Value := .agg #[.int .i64 0, .int .i64 0, .int .i64 0, .int .i64 0, .int .i64 0, .int .i64 0, .int .i64 0]
abbrev z7l : List Value := [.int .i64 0, .int .i64 0, .int .i64 0, .int .i64 0, .int .i64 0, .int .i64 0, .int .i64 0]
set_option maxHeartbeats 4000000 in
set_option maxRecDepth 100000 in
theorem checkNumbers_0 (n one : Int) (hn : n = 64 ∨ n = 32) (w : World)
    (KS : Hid (∀ m u, (m = 64 ∨ m = 32) → Calls Try.prog 21 #[.int .i64 0, .int .i64 m] u fun e w' => e = .returned (.tuple #[.int .i64 0, .bool true]) ∧ Kept u w'))
    (KF : Hid (∀ u, Calls Try.prog 5 #[.int .i64 1, .int .i64 n] u fun e w' => e = .returned (.int .i64 one) ∧ Kept u w'))
    (KL : Hid (∀ u, Calls Try.prog 44 #[.int .i64 0, .int .i64 one, .int .i64 n] u fun e w' => e = .returned (.bool true) ∧ Kept u w')) :
    Calls Try.prog 64 #[z7, .int .i64 n] w fun e w' => e = .returned (.bool true) ∧ Kept w w' := by
  obtain ⟨X, hX⟩ : ∃ X, X = w.alloc (.cells #[.int .i64 0, .int .i64 0, .int .i64 0, .int .i64 0, .int .i64 0, .int .i64 0, .int .i64 0] 32) := ⟨_, rfl⟩
  obtain ⟨B, hB⟩ : ∃ B, B = w.heap.size := ⟨_, rfl⟩
  have hK : Kept w X := by rw [hX]; exact (Kept.refl w).alloc _ _
  have hb : Bk X B z7l := by rw [hX, hB]; exact Bk.new w z7l _
  have KD : Hid (∀ u, Calls Try.prog 75 #[.int .i64 0] u fun e w' => e = .returned (.bool false) ∧ Kept u w') := fun u => divides_0 u
  have hn' : Hid (n = 64 ∨ n = 32) := hn
  clear hn
  go_enter Try.func64, Try.ntmps64
  go_upto_region 1 with fail
  rw [← hX, ← hB]
  clear hX hB
  have c1 := hb.c 1 _ rfl
  have c2 := hb.c 2 _ rfl
  have c3 := hb.c 3 _ rfl
  have c4 := hb.c 4 _ rfl
  have c5 := hb.c 5 _ rfl
  have hx := Kept.refl X
  have i0 := idx5 0 (by decide)
  have i1 := idx5 1 (by decide)
  have i2 := idx5 2 (by decide)
  have i3 := idx5 3 (by decide)
  have i4 := idx5 4 (by decide)
  have j0 := idx2 0 (by decide)
  have j1 := idx2 1 (by decide)
  go_wp2_with fail
  clear c1 c2 c3 c4 c5
  refine wp_loop_rounds 6 ?_
  iterate 5
    rw [rounds_succ]
    go_wp2_with (first | (go_at_call 21; refine (KS.out _ _ (by first | exact hn'.out | exact .inl rfl)).mono ?_; rintro e u1 ⟨rfl, k1⟩))
    replace hx := hx.trans k1
    clear k1
  rw [rounds_succ]
  have c1 := (hb.kept hx).c 1 _ rfl
  have c2 := (hb.kept hx).c 2 _ rfl
  go_upto_region 9 with (first | (go_at_call 5; refine (KF.out _).mono ?_; rintro e u2 ⟨rfl, k2⟩; have d1 := (hb.kept (hx.trans k2)).c 1 _ rfl; have d2 := (hb.kept (hx.trans k2)).c 2 _ rfl))
  go_wp2_with fail
  replace hx := hx.trans k2
  clear c1 c2 d1 d2 k2
  refine wp_loop_rounds 3 ?_
  iterate 2
    rw [rounds_succ]
    go_wp2_with (first | (go_at_call 21; refine (KS.out _ _ (by first | exact hn'.out | exact .inl rfl)).mono ?_; rintro e u1 ⟨rfl, k1⟩) | (go_at_call 44; refine (KL.out _).mono ?_; rintro e u3 ⟨rfl, k3⟩))
    replace hx := (hx.trans k1).trans k3
    clear k1 k3
  rw [rounds_succ]
  have c3 := (hb.kept hx).c 3 _ rfl
  go_wp2_with (first | (go_at_call 21; refine (KS.out _ _ (by first | exact hn'.out | exact .inl rfl)).mono ?_; rintro e u1 ⟨rfl, k1⟩; replace hx := hx.trans k1; clear k1; have c6 := (hb.kept hx).c 6 _ rfl; have c0 := (hb.kept hx).c 0 _ rfl) | (go_at_call 75; refine (KD.out _).mono ?_; rintro e u3 ⟨rfl, k3⟩; replace hx := hx.trans k3; clear k3; have c6 := (hb.kept hx).c 6 _ rfl))
  go_ret
  exact ⟨rfl, hK.trans hx⟩
set_option maxHeartbeats 4000000 in
theorem check_0 (n : Int) (hn : n = 64 ∨ n = 32) (w : World)
    (KN : Hid (∀ u, Calls Try.prog 64 #[z7, .int .i64 n] u fun e w' => e = .returned (.bool true) ∧ Kept u w')) :
    Calls Try.prog 40 #[z7, .int .i64 n] w fun e w' => e = .returned (.int .i64 0) ∧ Kept w w' := by
  obtain ⟨X, hX⟩ : ∃ X, X = w.alloc (.cells #[.int .i64 0, .int .i64 0, .int .i64 0, .int .i64 0, .int .i64 0, .int .i64 0, .int .i64 0] 32) := ⟨_, rfl⟩
  obtain ⟨B, hB⟩ : ∃ B, B = w.heap.size := ⟨_, rfl⟩
  have hK : Kept w X := by rw [hX]; exact (Kept.refl w).alloc _ _
  have hb : Bk X B z7l := by rw [hX, hB]; exact Bk.new w z7l _
  have KV : Hid (∀ u, Calls Try.prog 32 #[.int .i64 0, .int .i64 n] u fun e w' => e = .returned (.bool true) ∧ u = w') := fun u => by
    have := valid_any 0 n u
    have e : val 0 n = true := by unfold val; simp; omega
    rw [e] at this
    exact this
  clear hn
  go_enter Try.func40, Try.ntmps40
  go_upto_region 1 with fail
  rw [← hX, ← hB]
  clear hX hB
  have c0 := hb.c 0 _ rfl
  have c1 := hb.c 1 _ rfl
  have c2 := hb.c 2 _ rfl
  have c3 := hb.c 3 _ rfl
  have c4 := hb.c 4 _ rfl
  have c5 := hb.c 5 _ rfl
  have c6 := hb.c 6 _ rfl
  go_wp2_with (first | (go_at_call 32; refine (KV.out _).mono ?_; rintro e u1 ⟨rfl, rfl⟩) | (go_at_call 64; refine (KN.out _).mono ?_; rintro e u2 ⟨rfl, k2⟩))
  go_ret
  exact ⟨rfl, hK.trans k2⟩
end Go.Proofs.Ytojhhimmfnccjaa
