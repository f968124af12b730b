/- Below: the document's own. -/
import Derived.Test.YtedghjededicpaaG3
namespace Go.Proofs.Ytedghjededicpaa
open Go.ChangeShapes Go.WideShapes Go.ChangeAt Go.RowKit
set_option linter.unusedVariables false

theorem half_mod (n : Nat) (hn : 0 < n) : (9223372036854775808 % n + 9223372036854775808 % n) % n = 18446744073709551616 % n := by
  rw [← Nat.add_mod]

set_option maxHeartbeats 2000000 in
theorem rbelow_ok (s t a : Int) (n j : Nat) (hn : 0 < n) (hn2 : n < 9223372036854775808) (hj : Over s t a (lim n) j) (w : World) : Calls Try.prog 51 #[.agg #[.int .i64 s, .int .i64 t, .int .i64 a], .int .i64 n] w fun e w' => e = .returned (.tuple #[.int .i64 (wn s t (a + j) % n : Nat), .agg #[.int .i64 s, .int .i64 t, .int .i64 (wrap64 (a + j + 1))]]) ∧ Kept w w' := by
  have hA := (Kept.refl w).alloc #[.int .i64 s, .int .i64 t, .int .i64 a] 54
  have hB := (Kept.refl (w.alloc (.cells #[.int .i64 s, .int .i64 t, .int .i64 a] 54))).alloc #[.int .i64 0, .int .i64 0, .int .i64 0] 54
  have d1 := (dw_new w s t a 54).kept hB
  have d2 := (dw_new (w.alloc (.cells #[.int .i64 s, .int .i64 t, .int .i64 a] 54)) 0 0 0 54)
  rw [show (w.alloc (.cells #[.int .i64 s, .int .i64 t, .int .i64 a] 54)).heap.size = w.heap.size + 1 by simp] at d2
  have hW0 := hA.trans hB
  clear hA hB
  have e0 : IntKind.u64.wrap (n : Int) = n := uw_nat n (by omega)
  have hn0 : ¬ (n : Int) = 0 := by omega
  have hn0' : ((n : Int) == 0) = false := by simpa using hn0
  have hlp := lim_pos n hn hn2
  have hle := lim_le n
  have hjn : j < 9223372036854775808 := by
    have := over_few s t a (lim n) j (by omega) hle hj
    omega
  obtain ⟨H, hH⟩ : ∃ H : Nat, H = 9223372036854775808 % n := ⟨_, rfl⟩
  obtain ⟨R, hR⟩ : ∃ R : Nat, R = 18446744073709551616 % n := ⟨_, rfl⟩
  have hHn : H < n := by rw [hH]; exact Nat.mod_lt _ hn
  have e1 : (9223372036854775808 : Int).tmod n = H := by rw [Int.tmod_eq_emod_of_nonneg (by decide), hH]; rfl
  have e2 : IntKind.u64.wrap ((H : Int) + H) = ((H + H : Nat) : Int) := by rw [IntKind.wrap_u64]; omega
  have e3 : ((H + H : Nat) : Int).tmod n = R := by
    rw [Int.tmod_eq_emod_of_nonneg (Int.natCast_nonneg _), hR, ← half_mod n hn, ← hH]; rfl
  have hlim : lim n = 18446744073709551616 - R := by rw [hR]; rfl
  have hRn : R < n := by rw [hR]; exact Nat.mod_lt _ hn
  clear hH hR
  obtain ⟨H2, hH2⟩ : ∃ H2 : Nat, H2 = H + H := ⟨_, rfl⟩
  rw [← hH2] at e2 e3
  clear hH2
  have HJ : Hid (Over s t a (lim n) j ∧ lim n = 18446744073709551616 - R) := ⟨hj, hlim⟩
  clear hj hlim hlp hle
  go_enter Try.func51, Try.ntmps51
  go_upto_region 1 with fail
  obtain ⟨X, hX⟩ : ∃ X, X = (w.alloc (.cells #[.int .i64 s, .int .i64 t, .int .i64 a] 54)).alloc (.cells #[.int .i64 0, .int .i64 0, .int .i64 0] 54) := ⟨_, rfl⟩
  rw [← hX] at d1 d2 hW0 ⊢
  clear hX
  go_upto_region 2 with fail
  go_region_held (fun u => Kept w u) (first | exact hW0.drew | assumption) (fail)
  all_goals
    go_wp2_with fail
    go_loopw [8] (fun v wr => ∃ (i : Nat) (at' : Int), i ≤ j ∧ Dw wr w.heap.size s t at' ∧ (∃ x y z, Dw wr (w.heap.size + 1) x y z) ∧ at' % 18446744073709551616 = (a + i) % 18446744073709551616 ∧ Kept w wr) (fun v wr => ((a + j - placeOf wr w.heap.size) % 18446744073709551616).toNat)
    case atStart => exact ⟨0, a, Nat.zero_le _, d1.kept (Kept.refl _).drew, ⟨0, 0, 0, d2.kept (Kept.refl _).drew⟩, by simp, hW0.drew⟩
    case round =>
      obtain ⟨i, at', hij, hd, ⟨x, y, z, hr⟩, hm, hKr⟩ := hrel
      have HPL : Hid (placeOf wr w.heap.size = at') := placeOf_dr hd.1
      obtain ⟨⟨c0, c1, c2⟩, f1⟩ := hd
      go_wp2_with fail
      refine (grnext_any s t at' _).mono ?_
      rintro e w1 ⟨rfl, hk1⟩
      go_upto_region 4 with fail
      have hd1 : Dw w1 w.heap.size s t at' := Dw.kept ⟨⟨c0, c1, c2⟩, f1⟩ hk1
      have hlt := hr.1.lt
      have hsz := hk1.below.size
      have kY := (hKr.trans hk1).alloc #[.int .i64 s, .int .i64 t, .int .i64 (wrap64 (at' + 1))] 54
      have kA := (Kept.refl w1).alloc #[.int .i64 s, .int .i64 t, .int .i64 (wrap64 (at' + 1))] 54
      have yc := dw_new w1 s t (wrap64 (at' + 1)) 54
      have yd := hd1.kept kA
      have yr := (hr.kept hk1).kept kA
      obtain ⟨C, hC⟩ : ∃ C, C = w1.heap.size := ⟨_, rfl⟩
      obtain ⟨Y, hY⟩ : ∃ Y, Y = w1.alloc (.cells #[.int .i64 s, .int .i64 t, .int .i64 (wrap64 (at' + 1))] 54) := ⟨_, rfl⟩
      rw [← hC] at yc hsz ⊢
      rw [← hY] at yc yd yr kY ⊢
      have hCb : C ≠ w.heap.size := by omega
      clear hY hC kA hd1 hr hk1 c0 c1 c2 f1 hKr
      obtain ⟨p', hp'⟩ : ∃ p', p' = wrap64 (at' + 1) := ⟨_, rfl⟩
      rw [← hp'] at yc ⊢
      have hp2 : p' % 18446744073709551616 = (a + i + 1) % 18446744073709551616 := by rw [hp']; unfold wrap64; omega
      have HP : Hid (p' = wrap64 (at' + 1)) := hp'
      clear hp'
      have u1 : IntKind.u64.wrap (wz s t at') = (wn s t (a + i) : Nat) := by rw [u_wz, wn_cong s t at' (a + i) hm]
      obtain ⟨V, hV⟩ : ∃ V : Nat, V = wn s t (a + i) := ⟨_, rfl⟩
      rw [← hV] at u1
      have hV64 : V < 18446744073709551616 := by rw [hV]; exact wn_lt _ _ _
      have hl := HJ.out.2
      -- d = e
      have YC := yc
      have YD := yd
      obtain ⟨⟨c0, c1, c2⟩, f1⟩ := YC
      obtain ⟨⟨c3, c4, c5⟩, f2⟩ := YD
      go_upto_region 5 with fail
      clear c0 c1 c2 f1 c3 c4 c5 f2
      have k1 := yd.put s t p'
      have k2 := yr.far3 w.heap.size (by simp) (.int .i64 s) (.int .i64 t) (.int .i64 p')
      have k3 := kY.put3 w.heap.size (Nat.le_refl _) (.int .i64 s) (.int .i64 t) (.int .i64 p')
      obtain ⟨Z, hZ⟩ : ∃ Z, Z = put3 Y w.heap.size (.int .i64 s) (.int .i64 t) (.int .i64 p') := ⟨_, rfl⟩
      rw [← hZ] at k1 k2 k3
      unfold put3 at hZ
      rw [← hZ]
      clear hZ yc yd yr kY
      have HK : Hid (Dw Z w.heap.size s t p' ∧ Dw Z (w.heap.size + 1) x y z ∧ Kept w Z) := ⟨k1, k2, k3⟩
      by_cases hi : i = j
      · subst hi
        have hv : V < 18446744073709551616 - R := by have := HJ.out.1.2; omega
        have hres : p' = wrap64 (a + i + 1) := by rw [HP.out]; unfold wrap64; omega
        have HV : Hid (V = wn s t (a + i) ∧ p' = wrap64 (a + i + 1)) := ⟨hV, hres⟩
        clear hl hV hp2 hm hres
        obtain ⟨r, hr⟩ : ∃ r : Nat, r = V % n := ⟨_, rfl⟩
        have m3 : (V : Int).tmod n = r := by rw [Int.tmod_eq_emod_of_nonneg (Int.natCast_nonneg _), hr]; rfl
        have hrn : r < n := by rw [hr]; exact Nat.mod_lt _ hn
        have m4 : IntKind.i64.wrap (r : Int) = r := by rw [wrap_i64]; omega
        have HRr : Hid (r = V % n) := hr
        clear hr
        obtain ⟨⟨c0, c1, c2⟩, f1⟩ := k1
        obtain ⟨⟨c3, c4, c5⟩, f2⟩ := k2
        by_cases hR0 : R = 0
        · subst hR0
          rw [show ((0 : Nat) : Int) = 0 from rfl] at *
          go_upto_region 6 with fail
          go_region_held (fun u => Kept w u ∧ u.cell? ⟨w.heap.size, 0, none⟩ = some (.int .i64 s) ∧ u.cell? ⟨w.heap.size, 1, none⟩ = some (.int .i64 t) ∧ u.cell? ⟨w.heap.size, 2, none⟩ = some (.int .i64 p')) (first | exact ⟨k3.drew, c0, c1, c2⟩ | assumption | exact keep3d k3 (by simp) (by simp) ⟨c0, c1, c2⟩ _ _ _) (fail)
          go_wp2
          exact bodyPost_ret (v := .tuple #[.int .i64 r, .agg #[.int .i64 s, .int .i64 t, .int .i64 p']]) (by simp [results, Try.results51, go_sem, *]) rfl ⟨by rw [← HV.out.1, ← HV.out.2, ← HRr.out], (keep3d k3 (by simp) (by simp) ⟨c0, c1, c2⟩ _ _ _).1⟩
        · have b1 : ((R : Int) == 0) = false := by simpa using hR0
          have b2 : ¬ (R : Int) = 0 := by omega
          obtain ⟨M, hM⟩ : ∃ M : Int, M = 18446744073709551616 - R := ⟨_, rfl⟩
          have b3 : IntKind.u64.wrap (-(R : Int)) = M := by rw [IntKind.wrap_u64]; omega
          have b4 : (V : Int) < M := by omega
          clear hM
          go_upto_region 6 with fail
          go_region_held (fun u => Kept w u ∧ u.cell? ⟨w.heap.size, 0, none⟩ = some (.int .i64 s) ∧ u.cell? ⟨w.heap.size, 1, none⟩ = some (.int .i64 t) ∧ u.cell? ⟨w.heap.size, 2, none⟩ = some (.int .i64 p')) (first | exact ⟨k3.drew, c0, c1, c2⟩ | assumption | exact keep3d k3 (by simp) (by simp) ⟨c0, c1, c2⟩ _ _ _) (fail)
          go_wp2
          exact bodyPost_ret (v := .tuple #[.int .i64 r, .agg #[.int .i64 s, .int .i64 t, .int .i64 p']]) (by simp [results, Try.results51, go_sem, *]) rfl ⟨by rw [← HV.out.1, ← HV.out.2, ← HRr.out], (keep3d k3 (by simp) (by simp) ⟨c0, c1, c2⟩ _ _ _).1⟩
      · have hij2 : i < j := by omega
        have hv : 18446744073709551616 - R ≤ V := by have := HJ.out.1.1 i hij2; omega
        have hR0 : ¬ R = 0 := by omega
        have b1 : ((R : Int) == 0) = false := by simpa using hR0
        have b2 : ¬ (R : Int) = 0 := by omega
        obtain ⟨M, hM⟩ : ∃ M : Int, M = 18446744073709551616 - R := ⟨_, rfl⟩
        have b3 : IntKind.u64.wrap (-(R : Int)) = M := by rw [IntKind.wrap_u64]; omega
        have b4 : ¬ (V : Int) < M := by omega
        have b5 : M ≤ (V : Int) := by omega
        clear hM hl hV k1 k2 k3
        go_wp2_with fail
        go_roundw
        case rel => exact ⟨i + 1, p', by omega, HK.out.1, ⟨x, y, z, HK.out.2.1⟩, by rw [hp2]; simp [Int.add_assoc], HK.out.2.2⟩
        case measure =>
          rw [placeOf_dr HK.out.1.1, HPL.out]
          omega

end Go.Proofs.Ytedghjededicpaa
