/- TensorBack of every input. -/
import Derived.Test.YtijmjnmimijfdabT76
namespace Go.Proofs.Ytijmjnmimijfdab
open Go.ChangeShapes Go.WideShapes Go.ChangeAt Go.RowKit
set_option linter.unusedVariables false
set_option linter.unusedSimpArgs false

set_option maxHeartbeats 2000000 in
set_option maxRecDepth 100000 in
theorem tb_no (r c n a : Int) (L : List Int) (ao : Option Addr) (cp : Nat) (w : World) (hS : Sl w (.slice ao L.length cp) L) (q : Int) (hq : ckM r c n L = q) (hq0 : q ≠ 0) : Calls Try.prog 4 #[.agg #[.int .i64 r, .int .i64 c, .int .i64 n, .slice ao L.length cp], .int .i64 a] w fun e w' => e = .returned (.bool true) ∧ Bl w w' := by
  have KA : Hid (∀ u, Calls Try.prog 6 #[] u fun e w' => e = .returned (.bool true) ∧ Bl u w') := fun u => alive_true u
  have KN : Hid (∀ u e, Calls Try.prog 14 #[.int .i64 e] u fun r w' => r = .returned (.int .i64 e) ∧ u = w') := fun u e => num_any e u
  have KC : Hid (∀ u, Bl w u → Calls Try.prog 17 #[.agg #[.int .i64 r, .int .i64 c, .int .i64 n, .slice ao L.length cp]] u fun e w' => e = .returned (.int .i64 q) ∧ Kept u w') := fun u ku => by
    have := check_any r c n ao cp L u (hS.bl ku)
    rw [hq] at this
    exact this
  generalize L.length = l at *
  obtain ⟨X, hX⟩ : ∃ X, X = w.alloc (.cells #[.int .i64 r, .int .i64 c, .int .i64 n, .slice ao l cp] 24) := ⟨_, rfl⟩
  have hB : Bl w X := by rw [hX]; exact (Bl.refl w).alloc _
  have hM : M4 X w.heap.size (.int .i64 r) (.int .i64 c) (.int .i64 n) (.slice ao l cp) := by rw [hX]; exact M4.new _ _ _ _ _ _
  have g1 : (q != 0) = true := by simp [hq0]
  have g2 : ¬ q = 0 := hq0
  clear hq hq0 hS
  go_enter Try.func4, Try.ntmps4
  go_upto_region 1 with fail
  rw [← hX]
  clear hX
  go_upto_region 2 with (first | (go_at_call 6; refine (KA.out _).mono ?_; rintro e w1 ⟨rfl, k1⟩))
  obtain ⟨m0, m1, m2, m3⟩ := hM.bl k1
  go_upto_region 3 with (first | (go_at_call 17; refine (KC.out _ (hB.trans k1)).mono ?_; rintro e w2 ⟨rfl, k2⟩))
  clear m0 m1 m2 m3
  have kx := k1.trans k2.bl
  clear k1 k2
  obtain ⟨m0, m1, m2, m3⟩ := hM.bl kx
  go_wp2_with (first | (go_at_call 14; refine (KN.out _ _).mono ?_; rintro e w8 ⟨rfl, rfl⟩))
  exact bodyPost_ret (v := .bool true) (by simp [results, Try.results4, go_sem, *]) rfl ⟨rfl, hB.trans kx⟩

set_option maxHeartbeats 2000000 in
set_option maxRecDepth 100000 in
theorem tb_long (r c n a : Int) (L : List Int) (hlen : 600 < L.length) (ao : Option Addr) (cp : Nat) (w : World) (hS : Sl w (.slice ao L.length cp) L) (hq : ckM r c n L = 0) : Calls Try.prog 4 #[.agg #[.int .i64 r, .int .i64 c, .int .i64 n, .slice ao L.length cp], .int .i64 a] w fun e w' => e = .returned (.bool true) ∧ Bl w w' := by
  have KA : Hid (∀ u, Calls Try.prog 6 #[] u fun e w' => e = .returned (.bool true) ∧ Bl u w') := fun u => alive_true u
  have KN : Hid (∀ u e, Calls Try.prog 14 #[.int .i64 e] u fun r w' => r = .returned (.int .i64 e) ∧ u = w') := fun u e => num_any e u
  have KC : Hid (∀ u, Bl w u → Calls Try.prog 17 #[.agg #[.int .i64 r, .int .i64 c, .int .i64 n, .slice ao L.length cp]] u fun e w' => e = .returned (.int .i64 0) ∧ Kept u w') := fun u ku => by
    have := check_any r c n ao cp L u (hS.bl ku)
    rw [hq] at this
    exact this
  have g1 : (600 : Int) < (L.length : Int) := by omega
  generalize L.length = l at *
  obtain ⟨X, hX⟩ : ∃ X, X = w.alloc (.cells #[.int .i64 r, .int .i64 c, .int .i64 n, .slice ao l cp] 24) := ⟨_, rfl⟩
  have hB : Bl w X := by rw [hX]; exact (Bl.refl w).alloc _
  have hM : M4 X w.heap.size (.int .i64 r) (.int .i64 c) (.int .i64 n) (.slice ao l cp) := by rw [hX]; exact M4.new _ _ _ _ _ _
  clear hq hS
  go_enter Try.func4, Try.ntmps4
  go_upto_region 1 with fail
  rw [← hX]
  clear hX
  go_upto_region 2 with (first | (go_at_call 6; refine (KA.out _).mono ?_; rintro e w1 ⟨rfl, k1⟩))
  obtain ⟨m0, m1, m2, m3⟩ := hM.bl k1
  go_upto_region 3 with (first | (go_at_call 17; refine (KC.out _ (hB.trans k1)).mono ?_; rintro e w2 ⟨rfl, k2⟩))
  clear m0 m1 m2 m3
  have kx := k1.trans k2.bl
  clear k1 k2
  obtain ⟨m0, m1, m2, m3⟩ := hM.bl kx
  go_wp2_with (first | (go_at_call 14; refine (KN.out _ _).mono ?_; rintro e w8 ⟨rfl, rfl⟩))
  exact bodyPost_ret (v := .bool true) (by simp [results, Try.results4, go_sem, *]) rfl ⟨rfl, hB.trans kx⟩

theorem tensorBack_true (r c n a : Int) (L : List Int) (ao : Option Addr) (cp : Nat) (w : World) (hR : ∀ d ∈ L, -9223372036854775808 ≤ d ∧ d ≤ 9223372036854775807) (hS : Sl w (.slice ao L.length cp) L) : Calls Try.prog 4 #[.agg #[.int .i64 r, .int .i64 c, .int .i64 n, .slice ao L.length cp], .int .i64 a] w fun e w' => e = .returned (.bool true) ∧ Below w.heap.size w w' := by
  suffices h : Calls Try.prog 4 #[.agg #[.int .i64 r, .int .i64 c, .int .i64 n, .slice ao L.length cp], .int .i64 a] w fun e w' => e = .returned (.bool true) ∧ Bl w w' by
    refine h.mono ?_
    rintro e w' ⟨rfl, k⟩
    exact ⟨rfl, k.below⟩
  by_cases hq : ckM r c n L = 0
  · by_cases hlen : 600 < L.length
    · exact tb_long r c n a L hlen ao cp w hS hq
    · obtain ⟨hs, hl, hv⟩ := ckM_ok hq
      obtain ⟨hn, hr, hc, hrc⟩ := ckS_ok hs
      obtain ⟨R, rfl⟩ := Int.eq_ofNat_of_zero_le (show 0 ≤ r by omega)
      obtain ⟨C, rfl⟩ := Int.eq_ofNat_of_zero_le (show 0 ≤ c by omega)
      have hL : L.length = R * C := by
        have : (L.length : Int) = ((R * C : Nat) : Int) := by rw [hl]; simp
        omega
      have hRC : R * C ≤ 4096 := by
        have : ((R * C : Nat) : Int) ≤ 4096 := by simpa using hrc
        omega
      have hpos : 0 < R * C := Nat.mul_pos (by omega) (by omega)
      have hne : L ≠ [] := by intro h; subst h; simp at hL; omega
      have hS' := hS
      obtain ⟨ao', cap', e, hcp, -, hrd⟩ := hS'
      cases e
      obtain ⟨bb, off, rfl, hb, hrd⟩ := hrd hne
      have hRg : Rgl L := fun i hi => by
        rw [List.getD_eq_getElem?_getD, List.getElem?_eq_getElem hi]
        exact hR _ (List.getElem_mem hi)
      rw [hL]
      exact tb_try R C (R * C) rfl n a L ⟨hn, by omega, by omega, hRC, hL, hRg, hv⟩ (by omega) bb off cp w ⟨hb, hrd, hS, hcp⟩
  · exact tb_no r c n a L ao cp w hS _ rfl hq
end Go.Proofs.Ytijmjnmimijfdab
