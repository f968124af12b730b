/- The walk of TensorChecks: an element. -/
import Derived.Test.YtckcfdkffjkkbaaT21
import Derived.Test.YtckcfdkffjkkbaaT26
import Derived.Test.YtckcfdkffjkkbaaT22
import Derived.Test.YtckcfdkffjkkbaaT20
import Derived.Test.YtckcfdkffjkkbaaT18
import Derived.Test.YtckcfdkffjkkbaaT17
import Derived.Test.YtckcfdkffjkkbaaT6
namespace Go.Proofs.Ytckcfdkffjkkbaa
open Go.ChangeShapes Go.WideShapes Go.ChangeAt Go.RowKit
set_option linter.unusedVariables false
set_option linter.unusedSimpArgs false

set_option maxHeartbeats 8000000 in
set_option maxRecDepth 100000 in
theorem tc_ok (R C : Nat) (n : Int) (i j : Nat) (L : List Int) (hL : L.length = R * C) (hRC : R * C ≤ 4096) (hRg : Rgl L) (hn : n = 64 ∨ n = 32) (b off cp : Nat) (hcp : R * C ≤ cp) (w : World) (hb : b < w.heap.size) (hrd : Reads w b off L) (hS : Sl w (.slice (some ⟨b, off, none⟩) L.length cp) L) (hq : ckM R C n L = 0) (hi : i < R) (hj : j < C) : Calls Try.prog 3 #[.agg #[.int .i64 R, .int .i64 C, .int .i64 n, .slice (some ⟨b, off, none⟩) L.length cp], .int .i64 i, .int .i64 j] w fun e w' => e = .returned (.bool true) ∧ Bl w w' := by
  have KA : Hid (∀ u, Calls Try.prog 9 #[] u fun e w' => e = .returned (.bool true) ∧ Bl u w') := fun u => alive_true u
  obtain ⟨X, hX⟩ : ∃ X, X = w.alloc (.cells #[.int .i64 R, .int .i64 C, .int .i64 n, .slice (some ⟨b, off, none⟩) L.length cp] 24) := ⟨_, rfl⟩
  have hB : Bl w X := by rw [hX]; exact (Bl.refl w).alloc _
  have hM : M4 X w.heap.size (.int .i64 R) (.int .i64 C) (.int .i64 n) (.slice (some ⟨b, off, none⟩) L.length cp) := by rw [hX]; exact M4.new _ _ _ _ _ _
  have KL : Hid (∀ u, Bl X u → Calls Try.prog 10 #[.agg #[.int .i64 R, .int .i64 C, .int .i64 n, .slice (some ⟨b, off, none⟩) L.length cp]] u fun e w' => ∃ g cap, e = .returned (.agg #[.int .i64 R, .int .i64 C, .int .i64 n, .slice (some ⟨g, 0, none⟩) L.length cap]) ∧ u.heap.size ≤ g ∧ Own w' g cap (L ++ [-71]) ∧ Kept u w') := fun u k => lent_any R C n L (by omega) (some ⟨b, off, none⟩) cp u ((hS.bl hB).bl k)
  have HT : Hid (∀ (Y : World) (g cap : Nat), Bl X Y → Own Y g cap (L ++ [-71]) → TC Y 0 0 R C n (i : Int) (j : Int) (some ⟨b, off, none⟩) cp g cap L.length 0 (stp n L 0).1 (stp n L 0).2 (cln (L.getD (i * C + j) 0) n) 0 ∧ Hid (∀ u, Kept Y u → Calls Try.prog 17 #[.agg #[.int .i64 R, .int .i64 C, .int .i64 n, .slice (some ⟨b, off, none⟩) L.length cp]] u fun e w' => e = .returned (.tuple #[.int .i64 (stp n L 0).1, .int .i64 (stp n L 0).2]) ∧ Kept Y w') ∧ Hid (∀ u, Kept Y u → Reads u b off L)) := fun Y g cap kY oY => by
    have sl : ∀ u, Kept Y u → Sl u (.slice (some ⟨g, 0, none⟩) L.length cap) L := fun u k => by
      have := (oY.kept k).slTake L.length (by simp)
      rwa [List.take_left' rfl] at this
    have rd : ∀ u, Kept Y u → Reads u g 0 L := fun u k => by
      have := ((oY.kept k).take L.length (by simp)).reads
      rwa [List.take_left' rfl] at this
    have s2 : ∀ u, Kept Y u → Sl u (.slice (some ⟨b, off, none⟩) L.length cp) L := fun u k => ((hS.bl hB).bl kY).kept k
    have bX : b < X.heap.size := Nat.lt_of_lt_of_le hb hB.size
    have bY : b < Y.heap.size := Nat.lt_of_lt_of_le bX kY.size
    have r2 : ∀ u, Kept Y u → Reads u b off L := fun u k => ((hrd.bl hb hB).bl bX kY).kept bY k
    have hcap : R * C ≤ cap := by
      obtain ⟨cur, -, a, -⟩ := oY
      simp at a
      omega
    refine ⟨⟨fun u k => ?_, fun u k => (finite_ok R C n g 0 cap L hq (by omega) u (oY.kept k).lt (rd u k) (sl u k)).mono ?_, fun u k => ?_, fun u k => (stays_true R C n L (by omega) g cap _ cp u (oY.kept k) (s2 u k)).mono ?_, fun u k => ?_, fun u e => num_any e u⟩, fun u k => (stop_ok R C n b off cp L hRg (by omega) u (Nat.lt_of_lt_of_le bY k.below.size) (r2 u k)).mono ?_, r2⟩
    · have := check_any R C n (some ⟨g, 0, none⟩) cap L u (sl u k)
      rw [hq] at this
      refine this.mono ?_
      rintro e w' ⟨rfl, k'⟩
      exact ⟨rfl, k.trans k'⟩
    · rintro e w' ⟨rfl, k'⟩
      exact ⟨rfl, k.trans k'⟩
    · have := at_ok R C i j n hn hi hj L hL hRC hRg hq g 0 cap hcap u (oY.kept k).lt (rd u k) (sl u k)
      rw [hL]
      refine this.mono ?_
      rintro e w' ⟨rfl, k'⟩
      exact ⟨rfl, k.trans k'⟩
    · rintro e w' ⟨rfl, k'⟩
      exact ⟨rfl, k.trans k'⟩
    · have := rcheck_any R C n (some ⟨b, off, none⟩) cp L u (s2 u k)
      rw [hq] at this
      refine this.mono ?_
      rintro e w' ⟨rfl, k'⟩
      exact ⟨rfl, k.trans k'⟩
    · rintro e w' ⟨rfl, k'⟩
      exact ⟨rfl, k.trans k'⟩
  have g1 : ¬ 5000 < (L.length : Int) := by omega
  have hlt : i * C + j < L.length := by
    rw [hL]
    calc i * C + j < i * C + C := by omega
      _ = (i + 1) * C := by rw [Nat.succ_mul]
      _ ≤ R * C := Nat.mul_le_mul_right _ hi
  have KCl : Hid (∀ u, Calls Try.prog 18 #[.int .i64 (L.getD (i * C + j) 0), .int .i64 n] u fun e w' => e = .returned (.int .i64 (cln (L.getD (i * C + j) 0) n)) ∧ Kept u w') := fun u => clean_any _ n hn (hRg _ hlt).1 (hRg _ hlt).2 u
  have HLT : Hid (i * C + j < L.length) := hlt
  obtain ⟨ic, hic⟩ : ∃ ic, i * C = ic := ⟨_, rfl⟩
  rw [hic] at HT KCl HLT
  have HIC : Hid (i * C = ic) := hic
  clear hic hlt
  generalize cln (L.getD (ic + j) 0) n = d2 at *
  generalize (stp n L 0).1 = pa at *
  generalize (stp n L 0).2 = pf at *
  have ea : (pa != pa) = false := by simp
  have ef : (pf != pf) = false := by simp
  clear hS hrd hRg hq
  have HLL : Hid (L.length = R * C ∧ R * C ≤ 4096) := ⟨hL, hRC⟩
  clear hL hRC hcp
  generalize hl : L.length = l at *
  go_enter Try.func3, Try.ntmps3
  go_upto_region 1 with fail
  rw [← hX]
  clear hX
  go_upto_region 4 with (first | (go_at_call 9; refine (KA.out _).mono ?_; rintro e w1 ⟨rfl, k1⟩; obtain ⟨m0, m1, m2, m3⟩ := hM.bl k1))
  go_upto_region 5 with (first | (go_at_call 10; refine (KL.out _ k1).mono ?_; rintro e w2 ⟨g, cap, rfl, hg, o2, k2⟩))
  obtain ⟨Y, hY⟩ : ∃ Y, Y = w2.alloc (.cells #[.int .i64 R, .int .i64 C, .int .i64 n, .slice (some ⟨g, 0, none⟩) l cap] 24) := ⟨_, rfl⟩
  rw [← hY]
  have kY : Bl X Y := by rw [hY]; exact (k1.trans k2.bl).alloc _
  have hF : M4 Y w2.heap.size (.int .i64 R) (.int .i64 C) (.int .i64 n) (.slice (some ⟨g, 0, none⟩) l cap) := by rw [hY]; exact M4.new _ _ _ _ _ _
  have oY : Own Y g cap (L ++ [-71]) := by rw [hY]; exact o2.kept ((Kept.refl _).alloc _ _)
  have hMY := hM.bl kY
  obtain ⟨⟨t1, t2, t3, t4, t5, t6⟩, t7, t8⟩ := HT.out Y g cap kY oY
  have hBY := hB.trans kY
  clear hY m0 m1 m2 m3 KA KL HT o2 oY k2 k1 hg hB kY
  have k0 := Kept.refl Y
  have hF' := hF
  obtain ⟨f0, f1, f2, f3⟩ := hF'
  go_upto_region 6 with (first | (go_at_call 11; refine (t1.out _ k0).mono ?_; rintro e w3 ⟨rfl, k3⟩))
  clear f0 f1 f2 f3
  obtain ⟨f0, f1, f2, f3⟩ := hF.bl k3.bl
  go_upto_region 7 with (first | (go_at_call 12; refine (t2.out _ k3).mono ?_; rintro e w4 ⟨rfl, k4⟩))
  clear f0 f1 f2 f3
  obtain ⟨f0, f1, f2, f3⟩ := hF.bl k4.bl
  go_upto_region 8 with (first | (go_at_call 13; refine (t3.out _ k4).mono ?_; rintro e w5 ⟨rfl, k5⟩))
  clear f0 f1 f2 f3
  obtain ⟨f0, f1, f2, f3⟩ := hF.bl k5.bl
  obtain ⟨m0, m1, m2, m3⟩ := hMY.bl k5.bl
  go_upto_region 9 with (first | (go_at_call 14; refine (t4.out _ k5).mono ?_; rintro e w6 ⟨rfl, k6⟩))
  clear f0 f1 f2 f3 m0 m1 m2 m3
  obtain ⟨m0, m1, m2, m3⟩ := hMY.bl k6.bl
  go_upto_region 14 with (first | (go_at_call 15; refine (t5.out _ k6).mono ?_; rintro e w7 ⟨rfl, k7⟩) | (go_at_call 16; refine (t6.out _ _).mono ?_; rintro e w8 ⟨rfl, rfl⟩))
  clear m0 m1 m2 m3
  obtain ⟨m0, m1, m2, m3⟩ := hMY.bl k7.bl
  go_upto_region 15 with (first | (go_at_call 17; refine (t7.out _ k7).mono ?_; rintro e w8 ⟨rfl, k8⟩))
  clear m0 m1 m2 m3
  obtain ⟨m0, m1, m2, m3⟩ := hMY.bl k8.bl
  go_upto_region 17 with (first | (go_at_call 16; refine (t6.out _ _).mono ?_; rintro e w9 ⟨rfl, rfl⟩))
  obtain ⟨z1, z2⟩ := HLL.out
  have o1 : ¬ (i : Int) < 0 := by omega
  have o2 : ¬ (R : Int) ≤ (i : Int) := by omega
  have o3 : ¬ (j : Int) < 0 := by omega
  have o4 : ¬ (C : Int) ≤ (j : Int) := by omega
  go_upto_region 19 with (first | (go_at_call 16; refine (t6.out _ _).mono ?_; rintro e w9 ⟨rfl, rfl⟩))
  have hlt := HLT.out
  have e1 : (i : Int) * (C : Int) = (ic : Int) := by rw [← HIC.out]; simp
  have x1 : IntKind.i64.wrap ((i : Int) * (C : Int)) = (ic : Int) := by rw [e1, wrap_i64]; omega
  have x2 : IntKind.i64.wrap ((ic : Int) + (j : Int)) = ((ic + j : Nat) : Int) := by rw [wrap_i64]; omega
  have HS : Hid (∀ u, Kept Y u → Kept Y u ∧ (u.cell? ⟨w.heap.size, 1, none⟩ = some (.int .i64 C) ∧ u.cell? ⟨w.heap.size, 2, none⟩ = some (.int .i64 n) ∧ u.cell? ⟨w.heap.size, 3, none⟩ = some (.slice (some ⟨b, off, none⟩) l cp)) ∧ u.cell? ⟨b, off + (ic + j), none⟩ = some (.int .i64 (L.getD (ic + j) 0))) := fun u k => ⟨k, ⟨(hMY.bl k.bl).c1, (hMY.bl k.bl).c2, (hMY.bl k.bl).c3⟩, t8.out u k _ (by rw [hl]; exact hlt)⟩
  have KC2 : Hid (∀ u, Kept Y u → Calls Try.prog 18 #[.int .i64 (L.getD (ic + j) 0), .int .i64 n] u fun e w' => e = .returned (.int .i64 d2) ∧ Kept Y w') := fun u k => by
    refine (KCl.out u).mono ?_
    rintro e w' ⟨rfl, k'⟩
    exact ⟨rfl, k.trans k'⟩
  generalize L.getD (ic + j) 0 = d at *
  generalize hP : ic + j = P at *
  have edd : (d2 == d2) = true := by simp
  clear m0 m1 m2 m3 KCl e1 HIC z1 z2 HLL HLT t1 t2 t3 t4 t5 t7 t8 ea ef o1 o2 o3 o4
  have kd := k8.drew
  go_region_held (fun u => Kept Y u ∧ (u.cell? ⟨w.heap.size, 1, none⟩ = some (.int .i64 C) ∧ u.cell? ⟨w.heap.size, 2, none⟩ = some (.int .i64 n) ∧ u.cell? ⟨w.heap.size, 3, none⟩ = some (.slice (some ⟨b, off, none⟩) l cp)) ∧ u.cell? ⟨b, off + P, none⟩ = some (.int .i64 d)) (first | assumption | exact HS.out _ kd | exact HS.out _ (by assumption)) (first | (go_at_call 16; refine (t6.out _ _).mono ?_; rintro e w9 ⟨rfl, rfl⟩) | (go_at_call 18; refine (KC2.out _ (by first | exact kd | assumption)).mono ?_; rintro e w10 ⟨rfl, k10⟩))
  all_goals go_wp2_with fail
  all_goals
    go_ret
    exact ⟨rfl, hBY.trans k10.bl⟩
end Go.Proofs.Ytckcfdkffjkkbaa
