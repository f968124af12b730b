/- The walk of TensorChecks: a place that is not there. -/
import Derived.Test.YtckcfdkffjkkbaaT21
import Derived.Test.YtckcfdkffjkkbaaT26
import Derived.Test.YtckcfdkffjkkbaaT22
import Derived.Test.YtckcfdkffjkkbaaT20
import Derived.Test.YtckcfdkffjkkbaaT18
import Derived.Test.YtckcfdkffjkkbaaT17
import Derived.Test.YtckcfdkffjkkbaaT6
namespace Go.Proofs.Ytckcfdkffjkkbaa
open Go.ChangeShapes Go.WideShapes Go.ChangeAt Go.RowKit
set_option linter.unusedVariables false
set_option linter.unusedSimpArgs false

set_option maxHeartbeats 8000000 in
set_option maxRecDepth 100000 in
theorem tc_out (R C : Nat) (n : Int) (row col : Int) (L : List Int) (hL : L.length = R * C) (hRC : R * C ≤ 4096) (hRg : Rgl L) (hn : n = 64 ∨ n = 32) (b off cp : Nat) (hcp : R * C ≤ cp) (w : World) (hb : b < w.heap.size) (hrd : Reads w b off L) (hS : Sl w (.slice (some ⟨b, off, none⟩) L.length cp) L) (hq : ckM R C n L = 0) (hout : row < 0 ∨ (¬ row < 0 ∧ (R : Int) ≤ row) ∨ (¬ row < 0 ∧ ¬ (R : Int) ≤ row ∧ col < 0) ∨ (¬ row < 0 ∧ ¬ (R : Int) ≤ row ∧ ¬ col < 0 ∧ (C : Int) ≤ col)) : Calls Try.prog 3 #[.agg #[.int .i64 R, .int .i64 C, .int .i64 n, .slice (some ⟨b, off, none⟩) L.length cp], .int .i64 row, .int .i64 col] w fun e w' => e = .returned (.bool true) ∧ Bl w w' := by
  have KA : Hid (∀ u, Calls Try.prog 9 #[] u fun e w' => e = .returned (.bool true) ∧ Bl u w') := fun u => alive_true u
  obtain ⟨X, hX⟩ : ∃ X, X = w.alloc (.cells #[.int .i64 R, .int .i64 C, .int .i64 n, .slice (some ⟨b, off, none⟩) L.length cp] 24) := ⟨_, rfl⟩
  have hB : Bl w X := by rw [hX]; exact (Bl.refl w).alloc _
  have hM : M4 X w.heap.size (.int .i64 R) (.int .i64 C) (.int .i64 n) (.slice (some ⟨b, off, none⟩) L.length cp) := by rw [hX]; exact M4.new _ _ _ _ _ _
  have KL : Hid (∀ u, Bl X u → Calls Try.prog 10 #[.agg #[.int .i64 R, .int .i64 C, .int .i64 n, .slice (some ⟨b, off, none⟩) L.length cp]] u fun e w' => ∃ g cap, e = .returned (.agg #[.int .i64 R, .int .i64 C, .int .i64 n, .slice (some ⟨g, 0, none⟩) L.length cap]) ∧ u.heap.size ≤ g ∧ Own w' g cap (L ++ [-71]) ∧ Kept u w') := fun u k => lent_any R C n L (by omega) (some ⟨b, off, none⟩) cp u ((hS.bl hB).bl k)
  have HT : Hid (∀ (Y : World) (g cap : Nat), Bl X Y → Own Y g cap (L ++ [-71]) → TC Y 0 0 R C n row col (some ⟨b, off, none⟩) cp g cap L.length 0 (stp n L 0).1 (stp n L 0).2 0 5 ∧ Hid (∀ u, Kept Y u → Calls Try.prog 17 #[.agg #[.int .i64 R, .int .i64 C, .int .i64 n, .slice (some ⟨b, off, none⟩) L.length cp]] u fun e w' => e = .returned (.tuple #[.int .i64 (stp n L 0).1, .int .i64 (stp n L 0).2]) ∧ Kept Y w') ∧ Hid (∀ u, Kept Y u → Reads u b off L)) := fun Y g cap kY oY => by
    have sl : ∀ u, Kept Y u → Sl u (.slice (some ⟨g, 0, none⟩) L.length cap) L := fun u k => by
      have := (oY.kept k).slTake L.length (by simp)
      rwa [List.take_left' rfl] at this
    have rd : ∀ u, Kept Y u → Reads u g 0 L := fun u k => by
      have := ((oY.kept k).take L.length (by simp)).reads
      rwa [List.take_left' rfl] at this
    have s2 : ∀ u, Kept Y u → Sl u (.slice (some ⟨b, off, none⟩) L.length cp) L := fun u k => ((hS.bl hB).bl kY).kept k
    have bX : b < X.heap.size := Nat.lt_of_lt_of_le hb hB.size
    have bY : b < Y.heap.size := Nat.lt_of_lt_of_le bX kY.size
    have r2 : ∀ u, Kept Y u → Reads u b off L := fun u k => ((hrd.bl hb hB).bl bX kY).kept bY k
    have hcap : R * C ≤ cap := by
      obtain ⟨cur, -, a, -⟩ := oY
      simp at a
      omega
    refine ⟨⟨fun u k => ?_, fun u k => (finite_ok R C n g 0 cap L hq (by omega) u (oY.kept k).lt (rd u k) (sl u k)).mono ?_, fun u k => ?_, fun u k => (stays_true R C n L (by omega) g cap _ cp u (oY.kept k) (s2 u k)).mono ?_, fun u k => ?_, fun u e => num_any e u⟩, fun u k => (stop_ok R C n b off cp L hRg (by omega) u (Nat.lt_of_lt_of_le bY k.below.size) (r2 u k)).mono ?_, r2⟩
    · have := check_any R C n (some ⟨g, 0, none⟩) cap L u (sl u k)
      rw [hq] at this
      refine this.mono ?_
      rintro e w' ⟨rfl, k'⟩
      exact ⟨rfl, k.trans k'⟩
    · rintro e w' ⟨rfl, k'⟩
      exact ⟨rfl, k.trans k'⟩
    · refine (at_out R C n row col _ cap L hq (by omega) u (sl u k)).mono ?_
      rintro e w' ⟨rfl, k'⟩
      exact ⟨rfl, k.trans k'⟩
    · rintro e w' ⟨rfl, k'⟩
      exact ⟨rfl, k.trans k'⟩
    · have := rcheck_any R C n (some ⟨b, off, none⟩) cp L u (s2 u k)
      rw [hq] at this
      refine this.mono ?_
      rintro e w' ⟨rfl, k'⟩
      exact ⟨rfl, k.trans k'⟩
    · rintro e w' ⟨rfl, k'⟩
      exact ⟨rfl, k.trans k'⟩
  have g1 : ¬ 5000 < (L.length : Int) := by omega
  generalize (stp n L 0).1 = pa at *
  generalize (stp n L 0).2 = pf at *
  have ea : (pa != pa) = false := by simp
  have ef : (pf != pf) = false := by simp
  clear hS hrd hRg hq
  have HLL : Hid (L.length = R * C ∧ R * C ≤ 4096) := ⟨hL, hRC⟩
  clear hL hRC hcp
  generalize hl : L.length = l at *
  go_enter Try.func3, Try.ntmps3
  go_upto_region 1 with fail
  rw [← hX]
  clear hX
  go_upto_region 4 with (first | (go_at_call 9; refine (KA.out _).mono ?_; rintro e w1 ⟨rfl, k1⟩; obtain ⟨m0, m1, m2, m3⟩ := hM.bl k1))
  go_upto_region 5 with (first | (go_at_call 10; refine (KL.out _ k1).mono ?_; rintro e w2 ⟨g, cap, rfl, hg, o2, k2⟩))
  obtain ⟨Y, hY⟩ : ∃ Y, Y = w2.alloc (.cells #[.int .i64 R, .int .i64 C, .int .i64 n, .slice (some ⟨g, 0, none⟩) l cap] 24) := ⟨_, rfl⟩
  rw [← hY]
  have kY : Bl X Y := by rw [hY]; exact (k1.trans k2.bl).alloc _
  have hF : M4 Y w2.heap.size (.int .i64 R) (.int .i64 C) (.int .i64 n) (.slice (some ⟨g, 0, none⟩) l cap) := by rw [hY]; exact M4.new _ _ _ _ _ _
  have oY : Own Y g cap (L ++ [-71]) := by rw [hY]; exact o2.kept ((Kept.refl _).alloc _ _)
  have hMY := hM.bl kY
  obtain ⟨⟨t1, t2, t3, t4, t5, t6⟩, t7, t8⟩ := HT.out Y g cap kY oY
  have hBY := hB.trans kY
  clear hY m0 m1 m2 m3 KA KL HT o2 oY k2 k1 hg hB kY
  have k0 := Kept.refl Y
  have hF' := hF
  obtain ⟨f0, f1, f2, f3⟩ := hF'
  go_upto_region 6 with (first | (go_at_call 11; refine (t1.out _ k0).mono ?_; rintro e w3 ⟨rfl, k3⟩))
  clear f0 f1 f2 f3
  obtain ⟨f0, f1, f2, f3⟩ := hF.bl k3.bl
  go_upto_region 7 with (first | (go_at_call 12; refine (t2.out _ k3).mono ?_; rintro e w4 ⟨rfl, k4⟩))
  clear f0 f1 f2 f3
  obtain ⟨f0, f1, f2, f3⟩ := hF.bl k4.bl
  go_upto_region 8 with (first | (go_at_call 13; refine (t3.out _ k4).mono ?_; rintro e w5 ⟨rfl, k5⟩))
  clear f0 f1 f2 f3
  obtain ⟨f0, f1, f2, f3⟩ := hF.bl k5.bl
  obtain ⟨m0, m1, m2, m3⟩ := hMY.bl k5.bl
  go_upto_region 9 with (first | (go_at_call 14; refine (t4.out _ k5).mono ?_; rintro e w6 ⟨rfl, k6⟩))
  clear f0 f1 f2 f3 m0 m1 m2 m3
  obtain ⟨m0, m1, m2, m3⟩ := hMY.bl k6.bl
  go_upto_region 14 with (first | (go_at_call 15; refine (t5.out _ k6).mono ?_; rintro e w7 ⟨rfl, k7⟩) | (go_at_call 16; refine (t6.out _ _).mono ?_; rintro e w8 ⟨rfl, rfl⟩))
  clear m0 m1 m2 m3
  obtain ⟨m0, m1, m2, m3⟩ := hMY.bl k7.bl
  go_upto_region 15 with (first | (go_at_call 17; refine (t7.out _ k7).mono ?_; rintro e w8 ⟨rfl, k8⟩))
  clear m0 m1 m2 m3
  obtain ⟨m0, m1, m2, m3⟩ := hMY.bl k8.bl
  go_upto_region 17 with (first | (go_at_call 16; refine (t6.out _ _).mono ?_; rintro e w9 ⟨rfl, rfl⟩))
  rcases hout with o1 | ⟨o1, o2⟩ | ⟨o1, o2, o3⟩ | ⟨o1, o2, o3, o4⟩
  all_goals
    go_wp2_with (first | (go_at_call 16; refine (t6.out _ _).mono ?_; rintro e w9 ⟨rfl, rfl⟩))
    go_ret
    exact ⟨rfl, hBY.trans k8.bl⟩
end Go.Proofs.Ytckcfdkffjkkbaa
