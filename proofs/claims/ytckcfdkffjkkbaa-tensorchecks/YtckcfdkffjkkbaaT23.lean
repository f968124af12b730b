/- The walk of TensorChecks. -/
import Derived.Test.YtckcfdkffjkkbaaT21
import Derived.Test.YtckcfdkffjkkbaaT26
import Derived.Test.YtckcfdkffjkkbaaT22
import Derived.Test.YtckcfdkffjkkbaaT20
import Derived.Test.YtckcfdkffjkkbaaT18
import Derived.Test.YtckcfdkffjkkbaaT17
import Derived.Test.YtckcfdkffjkkbaaT6
namespace Go.Proofs.Ytckcfdkffjkkbaa
open Go.ChangeShapes Go.WideShapes Go.ChangeAt Go.RowKit
set_option linter.unusedVariables false
set_option linter.unusedSimpArgs false

set_option maxHeartbeats 4000000 in
set_option maxRecDepth 100000 in
theorem tc_long (r c n row col : Int) (L : List Int) (hlen : 5000 < L.length) (ao : Option Addr) (cp : Nat) (w : World) : Calls Try.prog 3 #[.agg #[.int .i64 r, .int .i64 c, .int .i64 n, .slice ao L.length cp], .int .i64 row, .int .i64 col] w fun e w' => e = .returned (.bool true) ∧ Bl w w' := by
  have KA : Hid (∀ u, Calls Try.prog 9 #[] u fun e w' => e = .returned (.bool true) ∧ Bl u w') := fun u => alive_true u
  have hM := M4.new w (.int .i64 r) (.int .i64 c) (.int .i64 n) (.slice ao L.length cp) 24
  have g1 : 5000 < (L.length : Int) := by omega
  generalize L.length = l at *
  go_enter Try.func3, Try.ntmps3
  go_wp2_with (first | (go_at_call 9; refine (KA.out _).mono ?_; rintro e w1 ⟨rfl, k1⟩; obtain ⟨m0, m1, m2, m3⟩ := hM.bl k1))
  go_ret
  exact ⟨rfl, ((Bl.refl w).alloc _).trans k1⟩

set_option maxHeartbeats 8000000 in
set_option maxRecDepth 100000 in
theorem tc_no (r c n row col : Int) (L : List Int) (hlen : L.length ≤ 5000) (ao : Option Addr) (cp : Nat) (w : World) (hS : Sl w (.slice ao L.length cp) L) (hq : ckM r c n L ≠ 0) : Calls Try.prog 3 #[.agg #[.int .i64 r, .int .i64 c, .int .i64 n, .slice ao L.length cp], .int .i64 row, .int .i64 col] w fun e w' => e = .returned (.bool true) ∧ Bl w w' := by
  have KA : Hid (∀ u, Calls Try.prog 9 #[] u fun e w' => e = .returned (.bool true) ∧ Bl u w') := fun u => alive_true u
  obtain ⟨X, hX⟩ : ∃ X, X = w.alloc (.cells #[.int .i64 r, .int .i64 c, .int .i64 n, .slice ao L.length cp] 24) := ⟨_, rfl⟩
  have hB : Bl w X := by rw [hX]; exact (Bl.refl w).alloc _
  have hM : M4 X w.heap.size (.int .i64 r) (.int .i64 c) (.int .i64 n) (.slice ao L.length cp) := by rw [hX]; exact M4.new _ _ _ _ _ _
  have KL : Hid (∀ u, Bl X u → Calls Try.prog 10 #[.agg #[.int .i64 r, .int .i64 c, .int .i64 n, .slice ao L.length cp]] u fun e w' => ∃ g cap, e = .returned (.agg #[.int .i64 r, .int .i64 c, .int .i64 n, .slice (some ⟨g, 0, none⟩) L.length cap]) ∧ u.heap.size ≤ g ∧ Own w' g cap (L ++ [-71]) ∧ Kept u w') := fun u k => lent_any r c n L (by omega) ao cp u ((hS.bl hB).bl k)
  have HT : Hid (∀ (Y : World) (g cap : Nat), Bl X Y → Own Y g cap (L ++ [-71]) → TC Y 0 0 r c n row col ao cp g cap L.length (ckM r c n L) 0 (ckM r c n L) 0 (ckM r c n L)) := fun Y g cap kY oY => by
    have sl : ∀ u, Kept Y u → Sl u (.slice (some ⟨g, 0, none⟩) L.length cap) L := fun u k => by
      have := (oY.kept k).slTake L.length (by simp)
      rwa [List.take_left' rfl] at this
    have s2 : ∀ u, Kept Y u → Sl u (.slice ao L.length cp) L := fun u k => ((hS.bl hB).bl kY).kept k
    refine ⟨fun u k => (check_any r c n _ cap L u (sl u k)).mono ?_, fun u k => (finite_no r c n _ cap L hq u (sl u k)).mono ?_, fun u k => (at_no r c n row col _ cap L hq u (sl u k)).mono ?_, fun u k => (stays_true r c n L (by omega) g cap ao cp u (oY.kept k) (s2 u k)).mono ?_, fun u k => (rcheck_any r c n ao cp L u (s2 u k)).mono ?_, fun u e => num_any e u⟩
    all_goals
      rintro e w' ⟨rfl, k'⟩
      exact ⟨rfl, k.trans k'⟩
  have g1 : ¬ 5000 < (L.length : Int) := by omega
  generalize ckM r c n L = q at *
  have hqb : (q != 0) = true := by simpa using hq
  have hqq : (q != q) = false := by simp
  have hqe : (q == q) = true := by simp
  clear hS
  generalize hl : L.length = l at *
  go_enter Try.func3, Try.ntmps3
  go_upto_region 1 with fail
  rw [← hX]
  clear hX
  go_upto_region 4 with (first | (go_at_call 9; refine (KA.out _).mono ?_; rintro e w1 ⟨rfl, k1⟩; obtain ⟨m0, m1, m2, m3⟩ := hM.bl k1))
  go_upto_region 5 with (first | (go_at_call 10; refine (KL.out _ k1).mono ?_; rintro e w2 ⟨g, cap, rfl, hg, o2, k2⟩))
  obtain ⟨Y, hY⟩ : ∃ Y, Y = w2.alloc (.cells #[.int .i64 r, .int .i64 c, .int .i64 n, .slice (some ⟨g, 0, none⟩) l cap] 24) := ⟨_, rfl⟩
  rw [← hY]
  have kY : Bl X Y := by rw [hY]; exact (k1.trans k2.bl).alloc _
  have hF : M4 Y w2.heap.size (.int .i64 r) (.int .i64 c) (.int .i64 n) (.slice (some ⟨g, 0, none⟩) l cap) := by rw [hY]; exact M4.new _ _ _ _ _ _
  have oY : Own Y g cap (L ++ [-71]) := by rw [hY]; exact o2.kept ((Kept.refl _).alloc _ _)
  have hMY := hM.bl kY
  obtain ⟨t1, t2, t3, t4, t5, t6⟩ := HT.out Y g cap kY oY
  have hBY := hB.trans kY
  clear hY m0 m1 m2 m3 KA KL HT o2 oY k2 k1 hg hB kY
  have k0 := Kept.refl Y
  have hF' := hF
  obtain ⟨f0, f1, f2, f3⟩ := hF'
  go_upto_region 6 with (first | (go_at_call 11; refine (t1.out _ k0).mono ?_; rintro e w3 ⟨rfl, k3⟩))
  clear f0 f1 f2 f3
  obtain ⟨f0, f1, f2, f3⟩ := hF.bl k3.bl
  go_upto_region 7 with (first | (go_at_call 12; refine (t2.out _ k3).mono ?_; rintro e w4 ⟨rfl, k4⟩))
  clear f0 f1 f2 f3
  obtain ⟨f0, f1, f2, f3⟩ := hF.bl k4.bl
  go_upto_region 8 with (first | (go_at_call 13; refine (t3.out _ k4).mono ?_; rintro e w5 ⟨rfl, k5⟩))
  clear f0 f1 f2 f3
  obtain ⟨f0, f1, f2, f3⟩ := hF.bl k5.bl
  obtain ⟨m0, m1, m2, m3⟩ := hMY.bl k5.bl
  go_upto_region 9 with (first | (go_at_call 14; refine (t4.out _ k5).mono ?_; rintro e w6 ⟨rfl, k6⟩))
  clear f0 f1 f2 f3 m0 m1 m2 m3
  obtain ⟨m0, m1, m2, m3⟩ := hMY.bl k6.bl
  go_wp2_with (first | (go_at_call 15; refine (t5.out _ k6).mono ?_; rintro e w7 ⟨rfl, k7⟩) | (go_at_call 16; refine (t6.out _ _).mono ?_; rintro e w8 ⟨rfl, rfl⟩))
  go_ret
  exact ⟨rfl, hBY.trans k7.bl⟩
end Go.Proofs.Ytckcfdkffjkkbaa
