/- RngBelow. -/
import Derived.Test.YtfanggjinedafaaG9
import Derived.Laws.StructEq
namespace Go.Proofs.Ytfanggjinedafaa
open Go.ChangeShapes Go.WideShapes Go.ChangeAt Go.RowKit
set_option linter.unusedVariables false
set_option linter.unusedSimpArgs false

set_option maxHeartbeats 4000000 in
set_option maxRecDepth 100000 in
theorem rngBelow_no (s t a n : Int) (hn : n < 1) (w : World) : Calls Try.prog 8 #[.agg #[.int .i64 s, .int .i64 t, .int .i64 a], .int .i64 n] w fun e w' => e = .returned (.bool true) ∧ Kept w w' := by
  go_enter Try.func8, Try.ntmps8
  go_wp2_with fail
  refine (below_no s t a n hn _).mono ?_
  rintro e w1 ⟨rfl, hk1⟩
  have k1 := (((Kept.refl w).alloc #[.int .i64 s, .int .i64 t, .int .i64 a] 23).trans hk1)
  clear hk1
  go_wp2_with fail
  refine (galive_true _).mono ?_
  rintro e w2 ⟨rfl, hk2⟩
  have k2 := (k1.alloc _ _).trans hk2
  clear hk2 k1
  go_wp2_with fail
  refine (galive_true _).mono ?_
  rintro e w3 ⟨rfl, hk3⟩
  go_wp2
  go_ret
  exact ⟨rfl, k2.trans hk3⟩

theorem most_eq (n : Nat) (hn : 0 < n) (hn2 : n < 9223372036854775808) : ((18446744073709551615 % n + 1) % n : Nat) = 18446744073709551616 % n := by
  rw [Nat.mod_add_mod]

set_option maxHeartbeats 4000000 in
set_option maxRecDepth 100000 in
theorem rngBelow_yes (s t a : Int) (n : Nat) (hn : 0 < n) (hn2 : n < 9223372036854775808) (w : World) : Calls Try.prog 8 #[.agg #[.int .i64 s, .int .i64 t, .int .i64 a], .int .i64 n] w fun e w' => e = .returned (.bool true) ∧ Kept w w' := by
  obtain ⟨j, hj⟩ : ∃ j, j = cnt s t a n := ⟨_, rfl⟩
  have hov := cnt_over s t a n hn hn2
  have hjn := cnt_lt s t a n hn hn2
  rw [← hj] at hov hjn
  clear hj
  obtain ⟨V, hV⟩ : ∃ V : Nat, V = wn s t (a + j) := ⟨_, rfl⟩
  obtain ⟨P, hP⟩ : ∃ P : Int, P = wrap64 (a + j + 1) := ⟨_, rfl⟩
  obtain ⟨r, hr⟩ : ∃ r : Nat, r = V % n := ⟨_, rfl⟩
  have HB : Hid (∀ W, Calls Try.prog 17 #[.agg #[.int .i64 s, .int .i64 t, .int .i64 a], .int .i64 n] W fun e w' => e = .returned (.tuple #[.int .i64 r, .agg #[.int .i64 s, .int .i64 t, .int .i64 P], .int .i64 0]) ∧ Kept W w') := by
    rw [hr, hV, hP]; exact fun W => below_ok s t a n j hn hn2 hov W
  have e0 : IntKind.u64.wrap (n : Int) = n := uw_nat n (by omega)
  have hn0 : ¬ (n : Int) = 0 := by omega
  have hn0' : ((n : Int) == 0) = false := by simpa using hn0
  have hn1 : ¬ (n : Int) < 1 := by omega
  obtain ⟨R1, hR1⟩ : ∃ R : Nat, R = 18446744073709551615 % n := ⟨_, rfl⟩
  obtain ⟨R3, hR3⟩ : ∃ R : Nat, R = 18446744073709551616 % n := ⟨_, rfl⟩
  have hR1n : R1 < n := by rw [hR1]; exact Nat.mod_lt _ hn
  have hR3n : R3 < n := by rw [hR3]; exact Nat.mod_lt _ hn
  have e1 : (18446744073709551615 : Int).tmod n = R1 := by rw [Int.tmod_eq_emod_of_nonneg (by decide), hR1]; rfl
  have e2 : IntKind.u64.wrap ((R1 : Int) + 1) = ((R1 + 1 : Nat) : Int) := by rw [IntKind.wrap_u64]; omega
  have e3 : ((R1 + 1 : Nat) : Int).tmod n = R3 := by
    rw [Int.tmod_eq_emod_of_nonneg (Int.natCast_nonneg _), hR3, ← most_eq n hn hn2, ← hR1]; rfl
  have hlim : lim n = 18446744073709551616 - R3 := by rw [hR3]; rfl
  obtain ⟨L, hL⟩ : ∃ L : Int, L = 18446744073709551615 - (R3 : Int) := ⟨_, rfl⟩
  have e4 : IntKind.u64.wrap (18446744073709551615 - (R3 : Int)) = L := by rw [IntKind.wrap_u64, hL]; omega
  have hLl : L = ((lim n : Nat) : Int) - 1 := by rw [hL, hlim]; omega
  clear hR1 hR3 hlim hL
  obtain ⟨R2, hR2⟩ : ∃ R : Nat, R = R1 + 1 := ⟨_, rfl⟩
  rw [← hR2] at e2 e3
  clear hR2
  have e5 : IntKind.i64.wrap (P - a) = (j : Int) + 1 := by rw [hP, wrap_i64]; unfold wrap64; omega
  have m3 : (V : Int).tmod n = r := by rw [Int.tmod_eq_emod_of_nonneg (Int.natCast_nonneg _), hr]; rfl
  have hrn : r < n := by rw [hr]; exact Nat.mod_lt _ hn
  have m4 : IntKind.i64.wrap (r : Int) = r := by rw [wrap_i64]; omega
  have HO : Hid (Over s t a (lim n) j ∧ L = ((lim n : Nat) : Int) - 1 ∧ V = wn s t (a + j)) := ⟨hov, hLl, hV⟩
  clear hV hP hr hov hLl
  have b1 : ¬ (r : Int) < 0 := by omega
  have b2 : ¬ (n : Int) ≤ (r : Int) := by omega
  have b3 : (r : Int) < n := by omega
  have b4 : ¬ (j : Int) + 1 < 1 := by omega
  have q1 : decide ((n : Int) < 1) = false := decide_eq_false hn1
  have q2 : decide ((r : Int) < 0) = false := decide_eq_false b1
  have q3 : decide ((n : Int) ≤ (r : Int)) = false := decide_eq_false b2
  have q5 : decide (n ≤ r) = false := decide_eq_false (by omega)
  have q6 : decide (n < 1) = false := decide_eq_false (by omega)
  have q4 : decide ((j : Int) + 1 < 1) = false := decide_eq_false b4
  go_enter Try.func8, Try.ntmps8
  go_wp2_with fail
  refine (HB.out _).mono ?_
  rintro e w1 ⟨rfl, hk1⟩
  go_upto_region 2 with fail
  have d0 := (dr_new w s t a 23).kept hk1
  have kA := (Kept.refl w1).alloc #[.int .i64 s, .int .i64 t, .int .i64 P] 23
  have d1 := d0.kept kA
  have r1 := dr_new w1 s t P 23
  have k1 := ((((Kept.refl w).alloc #[.int .i64 s, .int .i64 t, .int .i64 a] 23).trans hk1)).trans kA
  obtain ⟨C, hC⟩ : ∃ C, C = w1.heap.size := ⟨_, rfl⟩
  obtain ⟨Y, hY⟩ : ∃ Y, Y = w1.alloc (.cells #[.int .i64 s, .int .i64 t, .int .i64 P] 23) := ⟨_, rfl⟩
  rw [← hC] at r1 ⊢
  rw [← hY] at d1 k1 r1 ⊢
  clear hY hC hk1 kA d0
  go_wp2_with fail
  refine (galive_true _).mono ?_
  rintro e w2 ⟨rfl, hk2⟩
  have d2 := d1.kept hk2
  have r2 := r1.kept hk2
  have k2 := k1.trans hk2
  clear d1 r1 k1 hk2
  have D2 := d2
  obtain ⟨c0, c1, c2⟩ := D2
  obtain ⟨c3, c4, c5⟩ := r2
  have H2 : Hid (Dr w2 w.heap.size s t a ∧ Kept w w2) := ⟨d2, k2⟩
  clear d2 k2
  go_wp2_with fail
  clear c0 c1 c2 c3 c4 c5
  go_loopw [11] (fun iv wr => ∃ (i : Nat), i ≤ j + 1 ∧ iv = .int .i64 i ∧ Dr wr w.heap.size s t a ∧ Kept w wr) (fun iv _ => j + 1 - (intOf iv).toNat)
  case atStart => exact ⟨0, Nat.zero_le _, rfl, H2.out⟩
  case round =>
    clear H2
    obtain ⟨i, hij, rfl, hd, hK⟩ := hrel
    by_cases hi : i < j + 1
    · obtain ⟨Wi, hWi⟩ : ∃ Wi : Nat, Wi = wn s t (a + i) := ⟨_, rfl⟩
      obtain ⟨Z, hZ⟩ : ∃ Z, Z = wz s t (a + i) := ⟨_, rfl⟩
      have u1 : IntKind.u64.wrap Z = (Wi : Int) := by rw [hZ, hWi, u_wz]
      have HW : Hid (∀ u, Calls Try.prog 16 #[.agg #[.int .i64 s, .int .i64 t, .int .i64 a], .int .i64 i] u fun e w' => e = .returned (.int .i64 Z) ∧ Kept u w') := fun u => by
        rw [hZ]; exact word_any s t a i u
      have z1 : IntKind.i64.wrap ((i : Int) + 1) = (i : Int) + 1 := by rw [wrap_i64]; omega
      have g1 : (i : Int) < (j : Int) + 1 := by omega
      obtain ⟨ho1, ho2, ho3⟩ := HO.out
      have D2 := hd
      obtain ⟨c0, c1, c2⟩ := D2
      by_cases hij2 : i = j
      · subst hij2
        have hWV : Wi = V := by rw [hWi, ho3]
        have f1 : ¬ L < (V : Int) := by have := ho1.2; omega
        have f2 : (V : Int) ≤ L := by omega
        subst hWV
        clear ho1 ho2 ho3 hWi hZ
        go_wp2_with fail
        refine (HW.out _).mono ?_
        rintro e w3 ⟨rfl, hk3⟩
        have H3 : Hid (Dr w3 w.heap.size s t a ∧ Kept w w3) := ⟨hd.kept hk3, hK.trans hk3⟩
        clear c0 c1 c2 hd hK hk3
        go_wp2_with fail
        go_roundw
        case rel => exact ⟨i + 1, by omega, by go_num, H3.out⟩
        case measure => simp [intOf]
      · have hij3 : i < j := by omega
        have f1 : ¬ (Wi : Int) ≤ L := by have := ho1.1 i hij3; omega
        have f2 : L < (Wi : Int) := by omega
        have f3 : (i : Int) + 1 < (j : Int) + 1 := by omega
        have f4 : (((i : Int) + 1) == ((j : Int) + 1)) = false := by simp; omega
        have f5 : ¬ (i : Int) + 1 = (j : Int) + 1 := by omega
        have f6 : ¬ i = j := hij2
        have f7 : (((i : Int)) == ((j : Int))) = false := by simp; omega
        clear ho1 ho2 ho3 hWi hZ
        go_wp2_with fail
        refine (HW.out _).mono ?_
        rintro e w3 ⟨rfl, hk3⟩
        have H3 : Hid (Dr w3 w.heap.size s t a ∧ Kept w w3) := ⟨hd.kept hk3, hK.trans hk3⟩
        clear c0 c1 c2 hd hK hk3
        go_wp2_with fail
        go_roundw
        case rel => exact ⟨i + 1, by omega, by go_num, H3.out⟩
        case measure => simp [intOf]; omega
    · have g1 : ¬ (i : Int) < (j : Int) + 1 := by omega
      go_wp2
      go_ret
      exact ⟨rfl, hK⟩

theorem rngBelow_true (s t a n : Int) (hn : n ≤ 9223372036854775807) (w : World) : Calls Try.prog 8 #[.agg #[.int .i64 s, .int .i64 t, .int .i64 a], .int .i64 n] w fun e w' => e = .returned (.bool true) ∧ Kept w w' := by
  by_cases h : n < 1
  · exact rngBelow_no s t a n h w
  · have := rngBelow_yes s t a n.toNat (by omega) (by omega) w
    rw [show (n.toNat : Int) = n by omega] at this
    exact this

end Go.Proofs.Ytfanggjinedafaa
