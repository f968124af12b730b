/- The walk of TensorStretch where there is no stretch. -/
import Derived.Test.YtcldcjchfagcoaaT21
import Derived.Test.YtcldcjchfagcoaaT31
import Derived.Test.YtcldcjchfagcoaaT34
import Derived.Test.YtcldcjchfagcoaaT18
import Derived.Test.YtcldcjchfagcoaaT10
import Derived.Test.YtcldcjchfagcoaaT6
namespace Go.Proofs.Ytcldcjchfagcoaa
open Go.ChangeShapes Go.WideShapes Go.ChangeAt Go.RowKit
set_option linter.unusedVariables false
set_option linter.unusedSimpArgs false

set_option maxHeartbeats 4000000 in
set_option maxRecDepth 100000 in
theorem ts_long (r c n rs cs : Int) (L : List Int) (hlen : 5000 < L.length) (ao : Option Addr) (cp : Nat) (w : World) : Calls Try.prog 5 #[.agg #[.int .i64 r, .int .i64 c, .int .i64 n, .slice ao L.length cp], .int .i64 rs, .int .i64 cs] w fun e w' => e = .returned (.bool true) ∧ Bl w w' := by
  have KA : Hid (∀ u, Calls Try.prog 9 #[] u fun e w' => e = .returned (.bool true) ∧ Bl u w') := fun u => alive_true u
  have hM := M4.new w (.int .i64 r) (.int .i64 c) (.int .i64 n) (.slice ao L.length cp) 24
  have g1 : 5000 < (L.length : Int) := by omega
  generalize L.length = l at *
  go_enter Try.func5, Try.ntmps5
  go_wp2_with (first | (go_at_call 9; refine (KA.out _).mono ?_; rintro e w1 ⟨rfl, k1⟩; obtain ⟨m0, m1, m2, m3⟩ := hM.bl k1))
  go_ret
  exact ⟨rfl, ((Bl.refl w).alloc _).trans k1⟩

/-- The zero matrix, and it again. -/
theorem exact_zero (w : World) : Calls Try.prog 21 #[zeroMat, zeroMat] w fun e w' => e = .returned (.bool true) ∧ Kept w w' :=
  exact_true 0 0 0 [] (by decide) none none 0 0 w ⟨none, 0, rfl, Nat.le_refl _, by simp [maxLen], fun h => absurd rfl h⟩ ⟨none, 0, rfl, Nat.le_refl _, by simp [maxLen], fun h => absurd rfl h⟩

set_option maxHeartbeats 8000000 in
set_option maxRecDepth 100000 in
theorem ts_no (r c n rs cs : Int) (L : List Int) (hlen : L.length ≤ 5000) (ao : Option Addr) (cp : Nat) (w : World) (hS : Sl w (.slice ao L.length cp) L) (q : Int) (hq : ckM r c n L = q) (hq0 : q ≠ 0) : Calls Try.prog 5 #[.agg #[.int .i64 r, .int .i64 c, .int .i64 n, .slice ao L.length cp], .int .i64 rs, .int .i64 cs] w fun e w' => e = .returned (.bool true) ∧ Bl w w' := by
  have KA : Hid (∀ u, Calls Try.prog 9 #[] u fun e w' => e = .returned (.bool true) ∧ Bl u w') := fun u => alive_true u
  obtain ⟨X, hX⟩ : ∃ X, X = w.alloc (.cells #[.int .i64 r, .int .i64 c, .int .i64 n, .slice ao L.length cp] 24) := ⟨_, rfl⟩
  have hB : Bl w X := by rw [hX]; exact (Bl.refl w).alloc _
  have hM : M4 X w.heap.size (.int .i64 r) (.int .i64 c) (.int .i64 n) (.slice ao L.length cp) := by rw [hX]; exact M4.new _ _ _ _ _ _
  have KL : Hid (∀ u, Bl X u → Calls Try.prog 10 #[.agg #[.int .i64 r, .int .i64 c, .int .i64 n, .slice ao L.length cp]] u fun e w' => ∃ g cap, e = .returned (.agg #[.int .i64 r, .int .i64 c, .int .i64 n, .slice (some ⟨g, 0, none⟩) L.length cap]) ∧ u.heap.size ≤ g ∧ Own w' g cap (L ++ [-71]) ∧ Kept u w') := fun u k => lent_any r c n L (by omega) ao cp u ((hS.bl hB).bl k)
  have HT : Hid (∀ (Y : World) (g cap : Nat), Bl X Y → Own Y g cap (L ++ [-71]) →
      Hid (∀ u, Kept Y u → Calls Try.prog 23 #[.agg #[.int .i64 r, .int .i64 c, .int .i64 n, .slice (some ⟨g, 0, none⟩) L.length cap], .int .i64 rs, .int .i64 cs] u fun e w' => e = .returned (.tuple #[zeroMat, .int .i64 q]) ∧ Kept u w') ∧
      Hid (∀ u, Kept Y u → Calls Try.prog 14 #[.agg #[.int .i64 r, .int .i64 c, .int .i64 n, .slice (some ⟨g, 0, none⟩) L.length cap], .agg #[.int .i64 r, .int .i64 c, .int .i64 n, .slice ao L.length cp]] u fun e w' => e = .returned (.bool true) ∧ Kept u w') ∧
      Hid (∀ u, Kept Y u → Calls Try.prog 15 #[.agg #[.int .i64 r, .int .i64 c, .int .i64 n, .slice ao L.length cp]] u fun e w' => e = .returned (.int .i64 q) ∧ Kept u w')) := fun Y g cap kY oY => by
    have sl : ∀ u, Kept Y u → Sl u (.slice (some ⟨g, 0, none⟩) L.length cap) L := fun u k => by
      have := (oY.kept k).slTake L.length (by simp)
      rwa [List.take_left' rfl] at this
    have s2 : ∀ u, Kept Y u → Sl u (.slice ao L.length cp) L := fun u k => ((hS.bl hB).bl kY).kept k
    refine ⟨fun u k => ?_, fun u k => stays_true r c n L (by omega) g cap ao cp u (oY.kept k) (s2 u k), fun u k => ?_⟩
    · have := stretch_no r c n rs cs _ cap L (by rw [hq]; exact hq0) u (sl u k)
      rw [hq] at this
      exact this
    · have := rcheck_any r c n ao cp L u (s2 u k)
      rw [hq] at this
      exact this
  have KN : Hid (∀ u e, Calls Try.prog 16 #[.int .i64 e] u fun r w' => r = .returned (.int .i64 e) ∧ u = w') := fun u e => num_any e u
  have KE : Hid (∀ u, Calls Try.prog 21 #[zeroMat, zeroMat] u fun e w' => e = .returned (.bool true) ∧ Kept u w') := fun u => exact_zero u
  have g1 : ¬ 5000 < (L.length : Int) := by omega
  have hqb : (q != 0) = true := by simpa using hq0
  have hqc : (q == 0) = false := by simpa using hq0
  have hqe : (q == q) = true := by simp
  clear hS hq hq0 
  generalize hl : L.length = l at *
  go_enter Try.func5, Try.ntmps5
  go_upto_region 1 with fail
  rw [← hX]
  clear hX
  go_upto_region 4 with (first | (go_at_call 9; refine (KA.out _).mono ?_; rintro e w1 ⟨rfl, k1⟩; obtain ⟨m0, m1, m2, m3⟩ := hM.bl k1))
  go_upto_region 5 with (first | (go_at_call 10; refine (KL.out _ k1).mono ?_; rintro e w2 ⟨g, cap, rfl, hg, o2, k2⟩))
  obtain ⟨Y, hY⟩ : ∃ Y, Y = w2.alloc (.cells #[.int .i64 r, .int .i64 c, .int .i64 n, .slice (some ⟨g, 0, none⟩) l cap] 24) := ⟨_, rfl⟩
  rw [← hY]
  have kY : Bl X Y := by rw [hY]; exact (k1.trans k2.bl).alloc _
  have hF : M4 Y w2.heap.size (.int .i64 r) (.int .i64 c) (.int .i64 n) (.slice (some ⟨g, 0, none⟩) l cap) := by rw [hY]; exact M4.new _ _ _ _ _ _
  have oY : Own Y g cap (L ++ [-71]) := by rw [hY]; exact o2.kept ((Kept.refl _).alloc _ _)
  have hMY := hM.bl kY
  obtain ⟨t1, t2, t3⟩ := HT.out Y g cap kY oY
  have hBY := hB.trans kY
  clear hY m0 m1 m2 m3 KA KL HT o2 oY k2 k1 hg hB kY
  have k0 := Kept.refl Y
  have hF' := hF
  obtain ⟨f0, f1, f2, f3⟩ := hF'
  go_upto_region 6 with (first | (go_at_call 23; refine (t1.out _ k0).mono ?_; rintro e w3 ⟨rfl, k3⟩))
  obtain ⟨Z, hZ⟩ : ∃ Z, Z = w3.alloc (.cells #[.int .i64 0, .int .i64 0, .int .i64 0, .slice none 0 0] 24) := ⟨_, rfl⟩
  rw [← hZ]
  have kZ : Kept Y Z := by rw [hZ]; exact k3.alloc _ _
  have hGZ : M4 Z w3.heap.size (.int .i64 0) (.int .i64 0) (.int .i64 0) (.slice none 0 0) := by rw [hZ]; exact M4.new _ _ _ _ _ _
  clear f0 f1 f2 f3 hZ
  obtain ⟨f0, f1, f2, f3⟩ := hF.bl kZ.bl
  obtain ⟨m0, m1, m2, m3⟩ := hMY.bl kZ.bl
  go_upto_region 7 with (first | (go_at_call 14; refine (t2.out _ kZ).mono ?_; rintro e w4 ⟨rfl, k4⟩))
  clear f0 f1 f2 f3 m0 m1 m2 m3
  obtain ⟨m0, m1, m2, m3⟩ := hMY.bl (kZ.trans k4).bl
  go_upto_region 8 with (first | (go_at_call 15; refine (t3.out _ (kZ.trans k4)).mono ?_; rintro e w5 ⟨rfl, k5⟩))
  clear m0 m1 m2 m3
  have kZ5 := k4.trans k5
  obtain ⟨z0, z1, z2, z3⟩ := hGZ.bl kZ5.bl
  go_wp2_with (first | (go_at_call 16; refine (KN.out _ _).mono ?_; rintro e w8 ⟨rfl, rfl⟩) | (go_at_call 21; refine (KE.out _).mono ?_; rintro e w9 ⟨rfl, k9⟩))
  go_ret
  exact ⟨rfl, hBY.trans ((kZ.trans kZ5).trans k9).bl⟩

set_option maxHeartbeats 8000000 in
set_option maxRecDepth 100000 in
theorem ts_bad (r c n rs cs : Int) (L : List Int) (hlen : L.length ≤ 5000) (ao : Option Addr) (cp : Nat) (w : World) (hS : Sl w (.slice ao L.length cp) L) (hc0 : ckM r c n L = 0) (q : Int) (hq : strE r c rs cs = q) (hq0 : q ≠ 0) : Calls Try.prog 5 #[.agg #[.int .i64 r, .int .i64 c, .int .i64 n, .slice ao L.length cp], .int .i64 rs, .int .i64 cs] w fun e w' => e = .returned (.bool true) ∧ Bl w w' := by
  have KA : Hid (∀ u, Calls Try.prog 9 #[] u fun e w' => e = .returned (.bool true) ∧ Bl u w') := fun u => alive_true u
  obtain ⟨X, hX⟩ : ∃ X, X = w.alloc (.cells #[.int .i64 r, .int .i64 c, .int .i64 n, .slice ao L.length cp] 24) := ⟨_, rfl⟩
  have hB : Bl w X := by rw [hX]; exact (Bl.refl w).alloc _
  have hM : M4 X w.heap.size (.int .i64 r) (.int .i64 c) (.int .i64 n) (.slice ao L.length cp) := by rw [hX]; exact M4.new _ _ _ _ _ _
  have KL : Hid (∀ u, Bl X u → Calls Try.prog 10 #[.agg #[.int .i64 r, .int .i64 c, .int .i64 n, .slice ao L.length cp]] u fun e w' => ∃ g cap, e = .returned (.agg #[.int .i64 r, .int .i64 c, .int .i64 n, .slice (some ⟨g, 0, none⟩) L.length cap]) ∧ u.heap.size ≤ g ∧ Own w' g cap (L ++ [-71]) ∧ Kept u w') := fun u k => lent_any r c n L (by omega) ao cp u ((hS.bl hB).bl k)
  have HT : Hid (∀ (Y : World) (g cap : Nat), Bl X Y → Own Y g cap (L ++ [-71]) →
      Hid (∀ u, Kept Y u → Calls Try.prog 23 #[.agg #[.int .i64 r, .int .i64 c, .int .i64 n, .slice (some ⟨g, 0, none⟩) L.length cap], .int .i64 rs, .int .i64 cs] u fun e w' => e = .returned (.tuple #[zeroMat, .int .i64 q]) ∧ Kept u w') ∧
      Hid (∀ u, Kept Y u → Calls Try.prog 14 #[.agg #[.int .i64 r, .int .i64 c, .int .i64 n, .slice (some ⟨g, 0, none⟩) L.length cap], .agg #[.int .i64 r, .int .i64 c, .int .i64 n, .slice ao L.length cp]] u fun e w' => e = .returned (.bool true) ∧ Kept u w') ∧
      Hid (∀ u, Kept Y u → Calls Try.prog 15 #[.agg #[.int .i64 r, .int .i64 c, .int .i64 n, .slice ao L.length cp]] u fun e w' => e = .returned (.int .i64 0) ∧ Kept u w')) := fun Y g cap kY oY => by
    have sl : ∀ u, Kept Y u → Sl u (.slice (some ⟨g, 0, none⟩) L.length cap) L := fun u k => by
      have := (oY.kept k).slTake L.length (by simp)
      rwa [List.take_left' rfl] at this
    have s2 : ∀ u, Kept Y u → Sl u (.slice ao L.length cp) L := fun u k => ((hS.bl hB).bl kY).kept k
    refine ⟨fun u k => ?_, fun u k => stays_true r c n L (by omega) g cap ao cp u (oY.kept k) (s2 u k), fun u k => ?_⟩
    · have := stretch_bad r c n rs cs _ cap L hc0 (by rw [hq]; exact hq0) u (sl u k)
      rw [hq] at this
      exact this
    · have := rcheck_any r c n ao cp L u (s2 u k)
      rw [hc0] at this
      exact this
  have KN : Hid (∀ u e, Calls Try.prog 16 #[.int .i64 e] u fun r w' => r = .returned (.int .i64 e) ∧ u = w') := fun u e => num_any e u
  have KE : Hid (∀ u, Calls Try.prog 21 #[zeroMat, zeroMat] u fun e w' => e = .returned (.bool true) ∧ Kept u w') := fun u => exact_zero u
  have KD : Hid (∀ u, Calls Try.prog 24 #[.agg #[.int .i64 r, .int .i64 c, .int .i64 n, .slice ao L.length cp], .int .i64 rs, .int .i64 cs] u fun e w' => e = .returned (.int .i64 q) ∧ Kept u w') := fun u => by
    obtain ⟨hn, h1, h2, -⟩ := ckS_ok (ckM_ok hc0).1
    have := rstretched_any r c n rs cs hn h1 h2 (.slice ao L.length cp) u
    rw [hq] at this
    exact this
  have g1 : ¬ 5000 < (L.length : Int) := by omega
  have hqb : (q != 0) = true := by simpa using hq0
  have hqc : (q == 0) = false := by simpa using hq0
  have hqe : (q == q) = true := by simp
  clear hS hq hq0 hc0
  generalize hl : L.length = l at *
  go_enter Try.func5, Try.ntmps5
  go_upto_region 1 with fail
  rw [← hX]
  clear hX
  go_upto_region 4 with (first | (go_at_call 9; refine (KA.out _).mono ?_; rintro e w1 ⟨rfl, k1⟩; obtain ⟨m0, m1, m2, m3⟩ := hM.bl k1))
  go_upto_region 5 with (first | (go_at_call 10; refine (KL.out _ k1).mono ?_; rintro e w2 ⟨g, cap, rfl, hg, o2, k2⟩))
  obtain ⟨Y, hY⟩ : ∃ Y, Y = w2.alloc (.cells #[.int .i64 r, .int .i64 c, .int .i64 n, .slice (some ⟨g, 0, none⟩) l cap] 24) := ⟨_, rfl⟩
  rw [← hY]
  have kY : Bl X Y := by rw [hY]; exact (k1.trans k2.bl).alloc _
  have hF : M4 Y w2.heap.size (.int .i64 r) (.int .i64 c) (.int .i64 n) (.slice (some ⟨g, 0, none⟩) l cap) := by rw [hY]; exact M4.new _ _ _ _ _ _
  have oY : Own Y g cap (L ++ [-71]) := by rw [hY]; exact o2.kept ((Kept.refl _).alloc _ _)
  have hMY := hM.bl kY
  obtain ⟨t1, t2, t3⟩ := HT.out Y g cap kY oY
  have hBY := hB.trans kY
  clear hY m0 m1 m2 m3 KA KL HT o2 oY k2 k1 hg hB kY
  have k0 := Kept.refl Y
  have hF' := hF
  obtain ⟨f0, f1, f2, f3⟩ := hF'
  go_upto_region 6 with (first | (go_at_call 23; refine (t1.out _ k0).mono ?_; rintro e w3 ⟨rfl, k3⟩))
  obtain ⟨Z, hZ⟩ : ∃ Z, Z = w3.alloc (.cells #[.int .i64 0, .int .i64 0, .int .i64 0, .slice none 0 0] 24) := ⟨_, rfl⟩
  rw [← hZ]
  have kZ : Kept Y Z := by rw [hZ]; exact k3.alloc _ _
  have hGZ : M4 Z w3.heap.size (.int .i64 0) (.int .i64 0) (.int .i64 0) (.slice none 0 0) := by rw [hZ]; exact M4.new _ _ _ _ _ _
  clear f0 f1 f2 f3 hZ
  obtain ⟨f0, f1, f2, f3⟩ := hF.bl kZ.bl
  obtain ⟨m0, m1, m2, m3⟩ := hMY.bl kZ.bl
  go_upto_region 7 with (first | (go_at_call 14; refine (t2.out _ kZ).mono ?_; rintro e w4 ⟨rfl, k4⟩))
  clear f0 f1 f2 f3 m0 m1 m2 m3
  obtain ⟨m0, m1, m2, m3⟩ := hMY.bl (kZ.trans k4).bl
  go_upto_region 8 with (first | (go_at_call 15; refine (t3.out _ (kZ.trans k4)).mono ?_; rintro e w5 ⟨rfl, k5⟩))
  clear m0 m1 m2 m3
  have kZ5 := k4.trans k5
  obtain ⟨m0, m1, m2, m3⟩ := hMY.bl (kZ.trans kZ5).bl
  go_upto_region 10 with (first | (go_at_call 24; refine (KD.out _).mono ?_; rintro e w6 ⟨rfl, k6⟩))
  clear m0 m1 m2 m3
  obtain ⟨z0, z1, z2, z3⟩ := hGZ.bl (kZ5.trans k6).bl
  go_wp2_with (first | (go_at_call 16; refine (KN.out _ _).mono ?_; rintro e w8 ⟨rfl, rfl⟩) | (go_at_call 21; refine (KE.out _).mono ?_; rintro e w9 ⟨rfl, k9⟩))
  go_ret
  exact ⟨rfl, hBY.trans ((kZ.trans kZ5).trans (k6.trans k9)).bl⟩

end Go.Proofs.Ytcldcjchfagcoaa
