/- The document's own Told, and Cut of nought; an exact number rounded: To. A cut of a quotient by its floor and its rest; two cuts of one value are one. The document's quotient and root, and the program's: cuts of one value. The walk of the document's own NatRoot. The walk of the document's own NatDiv. The document's own quot and Quot. The document's own root and Root. Where roundingOf refuses: a width, a way, a number that is none; Round, Quot, Root with it. -/
import Derived.Test.YtdpccifhhencgaaGreatDoorZl31
import Derived.Test.YtdpccifhhencgaaGreatDoorZl32
import Derived.Test.YtdpccifhhencgaaGreatDoorZl25
import Derived.Test.YtdpccifhhencgaaGreatDoorZl27
import Derived.Test.YtdpccifhhencgaaGreatDoorZl30
import Derived.Deep.CutRange
import Derived.Test.YtdpccifhhencgaaGreatDoorZl20
import Derived.Test.YtdpccifhhencgaaGreatDoorZl21
namespace Go.Proofs.YtdpccifhhencgaaGreatDoor
open Go.ChangeShapes Go.WideShapes Go.ChangeAt Go.RowKit
set_option linter.unusedVariables false
set_option linter.unusedSimpArgs false
set_option maxHeartbeats 16000000
set_option maxRecDepth 100000
theorem vld_digs (r : Nm) (hv : vld r = true) (hne : r.mag ≠ []) : digs (nv r.mag) = r.mag ∧ nv r.mag ≠ 0 ∧ r.mag.length ≤ 2000 ∧ -1048576 ≤ r.exp ∧ r.exp ≤ 1048576 := by
 have h0 := nv_ne r hv hne
 obtain ⟨hl, hD⟩ := vld_dg r.neg r.mag r.exp hv
 unfold vld at hv
 rw [if_neg hne] at hv
 unfold vldN at hv
 simp only [Bool.and_eq_true, decide_eq_true_eq, bne_iff_ne] at hv
 exact ⟨digs_nv r.mag hD (Or.inr hv.1.1.1.2), h0, by omega, by omega, by omega⟩
theorem rtold_64 (b : Int) (odd : Bool) (w : World) : Calls Tryz.prog 182 #[.agg #[.int .i64 64, .int .i64 53, .int .i64 4503599627370496, .int .i64 2047, .int .i64 (-1074), .int .i64 1024, .int .i64 9218868437227405312, .int .i64 (-9223372036854775808), .int .i64 9221120237041090561], .int .i64 b, .bool odd] w fun e w' => e = .returned (.tuple #[.int .i64 (if b = -9223372036854775808 then 0 else b), .bool odd]) ∧ Kept w w' := by
 by_cases hb : b = -9223372036854775808
 ·rw [if_pos hb]
  subst hb
  go_enter Tryz.func182, Tryz.ntmps182
  go_wp2
  go_ret2
  exact ⟨rfl, (Kept.refl _).alloc _ _⟩
 ·rw [if_neg hb]
  have hb2 : (b == (-9223372036854775808)) = false := by simp [hb]
  go_enter Tryz.func182, Tryz.ntmps182
  go_wp2
  go_ret2
  exact ⟨rfl, (Kept.refl _).alloc _ _⟩
theorem rcut_zero_64 (way x : Int) (va : Value) (w : World) (hL : RL w va []) : Calls Tryz.prog 183 #[.agg #[.int .i64 64, .int .i64 53, .int .i64 4503599627370496, .int .i64 2047, .int .i64 (-1074), .int .i64 1024, .int .i64 9218868437227405312, .int .i64 (-9223372036854775808), .int .i64 9221120237041090561], .bool false, va, .int .i64 x, .bool false, .int .i64 way] w fun e w' => e = .returned (.tuple #[.int .i64 0, .bool false]) ∧ Kept w w' := by
 have KB : Hid (∀ v, Kept w v → Calls Tryz.prog 190 #[va] v fun e w' => e = .returned (.int .i64 0) ∧ v = w') := fun v kv => natBits_any v 0 va (hL.kept kv) (by simp [digs_zero])
 have hK : Kept w (w.alloc (.cells #[.int .i64 64, .int .i64 53, .int .i64 4503599627370496, .int .i64 2047, .int .i64 (-1074), .int .i64 1024, .int .i64 9218868437227405312, .int .i64 (-9223372036854775808), .int .i64 9221120237041090561] 154)) := (Kept.refl w).alloc _ _
 clear hL
 go_enter Tryz.func183, Tryz.ntmps183
 go_wp2_with (first | (go_at_call 190; refine (KB.out _ hK).mono ?_; rintro e w1 ⟨rfl, rfl⟩))
 go_ret2
 exact ⟨rfl, hK⟩
theorem rto_64 (way : Int) (hw : way = 0 ∨ way = 1 ∨ way = 2) (r : Nm) (hv : vld r = true) (va : Value) (w : World) (hL : RL w va r.mag) : Calls Tryz.prog 164 #[.agg #[.int .i64 64, .int .i64 53, .int .i64 4503599627370496, .int .i64 2047, .int .i64 (-1074), .int .i64 1024, .int .i64 9218868437227405312, .int .i64 (-9223372036854775808), .int .i64 9221120237041090561], .agg #[.bool r.neg, va, .int .i64 r.exp], .int .i64 way] w fun e w' => e = .returned (.tuple #[.int .i64 (rzN 64 way r), .bool (oxN 64 way r)]) ∧ Kept w w' := by
 obtain ⟨b, hb⟩ : ∃ b : Int, b = (if r.neg = true then (-9223372036854775808) else 0) + (mgN 64 way r : Int) := ⟨_, rfl⟩
 have KCt : Hid (∀ v, Kept w v → Calls Tryz.prog 183 #[.agg #[.int .i64 64, .int .i64 53, .int .i64 4503599627370496, .int .i64 2047, .int .i64 (-1074), .int .i64 1024, .int .i64 9218868437227405312, .int .i64 (-9223372036854775808), .int .i64 9221120237041090561], .bool r.neg, va, .int .i64 r.exp, .bool false, .int .i64 way] v fun e w' => e = .returned (.tuple #[.int .i64 b, .bool (oxN 64 way r)]) ∧ Kept v w') := by
  intro v kv
  by_cases hne : r.mag = []
  ·have hng : r.neg = false := (vz_sign 0 r hv).2.2 hne |>.1
   have e1 : mgN 64 way r = 0 := by unfold mgN; rw [if_pos hne]
   have e2 : oxN 64 way r = false := by unfold oxN; rw [if_pos hne]
   rw [hb, hng, e1, e2]
   rw [hne] at hL
   exact rcut_zero_64 way r.exp va v (hL.kept kv)
  ·obtain ⟨hd, h0, hl, hx1, hx2⟩ := vld_digs r hv hne
   have := rcut_64 way hw r.neg (nv r.mag) h0 r.exp false va v (by rw [hd]; exact hL.kept kv) (by rw [hd]; omega) (by omega) (by omega) (unN 64 r) rfl (kpN 64 r) rfl (flN 64 r) rfl (odN 64 r) (hfN 64 r) (rtN 64 r) rfl rfl rfl _ rfl
   unfold oxN mgN at *
   rw [if_neg hne] at hb ⊢
   rw [hb]
   exact this
 have e3 : (if b = -9223372036854775808 then 0 else b) = rzN 64 way r := by
  have hm := mgN_le 64 way r
  have hi : ifn 64 = 9218868437227405312 := rfl
  rw [hi] at hm
  unfold rzN kyN pz
  rw [hb]
  cases r.neg
  ·simp only [Bool.false_eq_true, if_false, if_true]
   (repeat' split) <;> first | omega | (exfalso; simp_all; done)
  ·simp only [if_true]
   (repeat' split) <;> first | omega | (exfalso; simp_all; done)
 have KT : Hid (∀ v, Calls Tryz.prog 182 #[.agg #[.int .i64 64, .int .i64 53, .int .i64 4503599627370496, .int .i64 2047, .int .i64 (-1074), .int .i64 1024, .int .i64 9218868437227405312, .int .i64 (-9223372036854775808), .int .i64 9221120237041090561], .int .i64 b, .bool (oxN 64 way r)] v fun e w' => e = .returned (.tuple #[.int .i64 (rzN 64 way r), .bool (oxN 64 way r)]) ∧ Kept v w') := fun v => by
  have := rtold_64 b (oxN 64 way r) v
  rw [e3] at this
  exact this
 obtain ⟨sa, sn, sc, rfl⟩ : ∃ sa sn sc, va = .slice sa sn sc := by
  obtain ⟨ao, c, h, -⟩ := hL
  exact ⟨ao, _, c, h⟩
 obtain ⟨X, hX⟩ : ∃ X, X = (w.alloc (.cells #[.int .i64 64, .int .i64 53, .int .i64 4503599627370496, .int .i64 2047, .int .i64 (-1074), .int .i64 1024, .int .i64 9218868437227405312, .int .i64 (-9223372036854775808), .int .i64 9221120237041090561] 154)).alloc (.cells #[.bool r.neg, .slice sa sn sc, .int .i64 r.exp] 24) := ⟨_, rfl⟩
 have hK : Kept w X := by rw [hX]; exact ((Kept.refl w).alloc _ _).alloc _ _
 have h9 : K9 X w.heap.size (.int .i64 64) (.int .i64 53) (.int .i64 4503599627370496) (.int .i64 2047) (.int .i64 (-1074)) (.int .i64 1024) (.int .i64 9218868437227405312) (.int .i64 (-9223372036854775808)) (.int .i64 9221120237041090561) := by rw [hX]; exact (K9.new w _ _ _ _ _ _ _ _ _ _).kept ((Kept.refl _).alloc _ _)
 have n0 : X.cell? ⟨w.heap.size + 1, 0, none⟩ = some (.bool r.neg) := by rw [hX]; simp [go_sem]
 have n1 : X.cell? ⟨w.heap.size + 1, 1, none⟩ = some (.slice sa sn sc) := by rw [hX]; simp [go_sem]
 have n2 : X.cell? ⟨w.heap.size + 1, 2, none⟩ = some (.int .i64 r.exp) := by rw [hX]; simp [go_sem]
 have HS : Hid (∀ u, Kept X u → Kept X u ∧ u.cell? ⟨w.heap.size, 0, none⟩ = some (.int .i64 64) ∧ u.cell? ⟨w.heap.size, 1, none⟩ = some (.int .i64 53) ∧ u.cell? ⟨w.heap.size, 2, none⟩ = some (.int .i64 4503599627370496) ∧ u.cell? ⟨w.heap.size, 3, none⟩ = some (.int .i64 2047) ∧ u.cell? ⟨w.heap.size, 4, none⟩ = some (.int .i64 (-1074)) ∧ u.cell? ⟨w.heap.size, 5, none⟩ = some (.int .i64 1024) ∧ u.cell? ⟨w.heap.size, 6, none⟩ = some (.int .i64 9218868437227405312) ∧ u.cell? ⟨w.heap.size, 7, none⟩ = some (.int .i64 (-9223372036854775808)) ∧ u.cell? ⟨w.heap.size, 8, none⟩ = some (.int .i64 9221120237041090561) ∧ u.cell? ⟨w.heap.size + 1, 0, none⟩ = some (.bool r.neg) ∧ u.cell? ⟨w.heap.size + 1, 1, none⟩ = some (.slice sa sn sc) ∧ u.cell? ⟨w.heap.size + 1, 2, none⟩ = some (.int .i64 r.exp)) := fun u ku => by
  obtain ⟨-, g0, g1, g2, g3, g4, g5, g6, g7, g8⟩ := h9.kept ku
  have hb1 : w.heap.size + 1 < X.heap.size := by rw [hX]; simp [go_sem]
  exact ⟨ku, g0, g1, g2, g3, g4, g5, g6, g7, g8, (ku.below.cell (p := ⟨w.heap.size + 1, 0, none⟩) hb1).trans n0, (ku.below.cell (p := ⟨w.heap.size + 1, 1, none⟩) hb1).trans n1, (ku.below.cell (p := ⟨w.heap.size + 1, 2, none⟩) hb1).trans n2⟩
 clear e3 hb hL h9 n0 n1 n2
 have kd := (Kept.refl X).drew
 generalize rzN 64 way r = RZ at *
 generalize oxN 64 way r = OX at *
 generalize r.neg = NG at *
 generalize r.exp = EX at *
 go_enter Tryz.func164, Tryz.ntmps164
 go_upto_region 1 with fail
 rw [← hX]
 clear hX
 go_region_held (fun u => Kept X u ∧ u.cell? ⟨w.heap.size, 0, none⟩ = some (.int .i64 64) ∧ u.cell? ⟨w.heap.size, 1, none⟩ = some (.int .i64 53) ∧ u.cell? ⟨w.heap.size, 2, none⟩ = some (.int .i64 4503599627370496) ∧ u.cell? ⟨w.heap.size, 3, none⟩ = some (.int .i64 2047) ∧ u.cell? ⟨w.heap.size, 4, none⟩ = some (.int .i64 (-1074)) ∧ u.cell? ⟨w.heap.size, 5, none⟩ = some (.int .i64 1024) ∧ u.cell? ⟨w.heap.size, 6, none⟩ = some (.int .i64 9218868437227405312) ∧ u.cell? ⟨w.heap.size, 7, none⟩ = some (.int .i64 (-9223372036854775808)) ∧ u.cell? ⟨w.heap.size, 8, none⟩ = some (.int .i64 9221120237041090561) ∧ u.cell? ⟨w.heap.size + 1, 0, none⟩ = some (.bool NG) ∧ u.cell? ⟨w.heap.size + 1, 1, none⟩ = some (.slice sa sn sc) ∧ u.cell? ⟨w.heap.size + 1, 2, none⟩ = some (.int .i64 EX)) (first | assumption | exact HS.out _ kd | exact HS.out _ (by assumption)) (first | (go_at_call 183; refine (KCt.out _ (hK.trans (by first | exact kd | assumption))).mono ?_; rintro e w1 ⟨rfl, k1⟩; replace kd := kd.trans k1) | (go_at_call 182; refine (KT.out _).mono ?_; rintro e w2 ⟨rfl, k2⟩; replace kd := kd.trans k2))
 go_wp2_with fail
 go_ret2
 exact ⟨rfl, hK.trans kd⟩
theorem rtold_32 (b : Int) (odd : Bool) (w : World) : Calls Tryz.prog 182 #[.agg #[.int .i64 32, .int .i64 24, .int .i64 8388608, .int .i64 255, .int .i64 (-149), .int .i64 128, .int .i64 2139095040, .int .i64 2147483648, .int .i64 2143289345], .int .i64 b, .bool odd] w fun e w' => e = .returned (.tuple #[.int .i64 (if b = 2147483648 then 0 else b), .bool odd]) ∧ Kept w w' := by
 by_cases hb : b = 2147483648
 ·rw [if_pos hb]
  subst hb
  go_enter Tryz.func182, Tryz.ntmps182
  go_wp2
  go_ret2
  exact ⟨rfl, (Kept.refl _).alloc _ _⟩
 ·rw [if_neg hb]
  have hb2 : (b == 2147483648) = false := by simp [hb]
  go_enter Tryz.func182, Tryz.ntmps182
  go_wp2
  go_ret2
  exact ⟨rfl, (Kept.refl _).alloc _ _⟩
theorem rcut_zero_32 (way x : Int) (va : Value) (w : World) (hL : RL w va []) : Calls Tryz.prog 183 #[.agg #[.int .i64 32, .int .i64 24, .int .i64 8388608, .int .i64 255, .int .i64 (-149), .int .i64 128, .int .i64 2139095040, .int .i64 2147483648, .int .i64 2143289345], .bool false, va, .int .i64 x, .bool false, .int .i64 way] w fun e w' => e = .returned (.tuple #[.int .i64 0, .bool false]) ∧ Kept w w' := by
 have KB : Hid (∀ v, Kept w v → Calls Tryz.prog 190 #[va] v fun e w' => e = .returned (.int .i64 0) ∧ v = w') := fun v kv => natBits_any v 0 va (hL.kept kv) (by simp [digs_zero])
 have hK : Kept w (w.alloc (.cells #[.int .i64 32, .int .i64 24, .int .i64 8388608, .int .i64 255, .int .i64 (-149), .int .i64 128, .int .i64 2139095040, .int .i64 2147483648, .int .i64 2143289345] 154)) := (Kept.refl w).alloc _ _
 clear hL
 go_enter Tryz.func183, Tryz.ntmps183
 go_wp2_with (first | (go_at_call 190; refine (KB.out _ hK).mono ?_; rintro e w1 ⟨rfl, rfl⟩))
 go_ret2
 exact ⟨rfl, hK⟩
theorem rto_32 (way : Int) (hw : way = 0 ∨ way = 1 ∨ way = 2) (r : Nm) (hv : vld r = true) (va : Value) (w : World) (hL : RL w va r.mag) : Calls Tryz.prog 164 #[.agg #[.int .i64 32, .int .i64 24, .int .i64 8388608, .int .i64 255, .int .i64 (-149), .int .i64 128, .int .i64 2139095040, .int .i64 2147483648, .int .i64 2143289345], .agg #[.bool r.neg, va, .int .i64 r.exp], .int .i64 way] w fun e w' => e = .returned (.tuple #[.int .i64 (rzN 32 way r), .bool (oxN 32 way r)]) ∧ Kept w w' := by
 obtain ⟨b, hb⟩ : ∃ b : Int, b = (if r.neg = true then 2147483648 else 0) + (mgN 32 way r : Int) := ⟨_, rfl⟩
 have KCt : Hid (∀ v, Kept w v → Calls Tryz.prog 183 #[.agg #[.int .i64 32, .int .i64 24, .int .i64 8388608, .int .i64 255, .int .i64 (-149), .int .i64 128, .int .i64 2139095040, .int .i64 2147483648, .int .i64 2143289345], .bool r.neg, va, .int .i64 r.exp, .bool false, .int .i64 way] v fun e w' => e = .returned (.tuple #[.int .i64 b, .bool (oxN 32 way r)]) ∧ Kept v w') := by
  intro v kv
  by_cases hne : r.mag = []
  ·have hng : r.neg = false := (vz_sign 0 r hv).2.2 hne |>.1
   have e1 : mgN 32 way r = 0 := by unfold mgN; rw [if_pos hne]
   have e2 : oxN 32 way r = false := by unfold oxN; rw [if_pos hne]
   rw [hb, hng, e1, e2]
   rw [hne] at hL
   exact rcut_zero_32 way r.exp va v (hL.kept kv)
  ·obtain ⟨hd, h0, hl, hx1, hx2⟩ := vld_digs r hv hne
   have := rcut_32 way hw r.neg (nv r.mag) h0 r.exp false va v (by rw [hd]; exact hL.kept kv) (by rw [hd]; omega) (by omega) (by omega) (unN 32 r) rfl (kpN 32 r) rfl (flN 32 r) rfl (odN 32 r) (hfN 32 r) (rtN 32 r) rfl rfl rfl _ rfl
   unfold oxN mgN at *
   rw [if_neg hne] at hb ⊢
   rw [hb]
   exact this
 have e3 : (if b = 2147483648 then 0 else b) = rzN 32 way r := by
  have hm := mgN_le 32 way r
  have hi : ifn 32 = 2139095040 := rfl
  rw [hi] at hm
  unfold rzN kyN pz
  rw [hb]
  cases r.neg
  ·simp only [Bool.false_eq_true, if_false, if_true]
   (repeat' split) <;> first | omega | (exfalso; simp_all; done)
  ·simp only [if_true]
   (repeat' split) <;> first | omega | (exfalso; simp_all; done)
 have KT : Hid (∀ v, Calls Tryz.prog 182 #[.agg #[.int .i64 32, .int .i64 24, .int .i64 8388608, .int .i64 255, .int .i64 (-149), .int .i64 128, .int .i64 2139095040, .int .i64 2147483648, .int .i64 2143289345], .int .i64 b, .bool (oxN 32 way r)] v fun e w' => e = .returned (.tuple #[.int .i64 (rzN 32 way r), .bool (oxN 32 way r)]) ∧ Kept v w') := fun v => by
  have := rtold_32 b (oxN 32 way r) v
  rw [e3] at this
  exact this
 obtain ⟨sa, sn, sc, rfl⟩ : ∃ sa sn sc, va = .slice sa sn sc := by
  obtain ⟨ao, c, h, -⟩ := hL
  exact ⟨ao, _, c, h⟩
 obtain ⟨X, hX⟩ : ∃ X, X = (w.alloc (.cells #[.int .i64 32, .int .i64 24, .int .i64 8388608, .int .i64 255, .int .i64 (-149), .int .i64 128, .int .i64 2139095040, .int .i64 2147483648, .int .i64 2143289345] 154)).alloc (.cells #[.bool r.neg, .slice sa sn sc, .int .i64 r.exp] 24) := ⟨_, rfl⟩
 have hK : Kept w X := by rw [hX]; exact ((Kept.refl w).alloc _ _).alloc _ _
 have h9 : K9 X w.heap.size (.int .i64 32) (.int .i64 24) (.int .i64 8388608) (.int .i64 255) (.int .i64 (-149)) (.int .i64 128) (.int .i64 2139095040) (.int .i64 2147483648) (.int .i64 2143289345) := by rw [hX]; exact (K9.new w _ _ _ _ _ _ _ _ _ _).kept ((Kept.refl _).alloc _ _)
 have n0 : X.cell? ⟨w.heap.size + 1, 0, none⟩ = some (.bool r.neg) := by rw [hX]; simp [go_sem]
 have n1 : X.cell? ⟨w.heap.size + 1, 1, none⟩ = some (.slice sa sn sc) := by rw [hX]; simp [go_sem]
 have n2 : X.cell? ⟨w.heap.size + 1, 2, none⟩ = some (.int .i64 r.exp) := by rw [hX]; simp [go_sem]
 have HS : Hid (∀ u, Kept X u → Kept X u ∧ u.cell? ⟨w.heap.size, 0, none⟩ = some (.int .i64 32) ∧ u.cell? ⟨w.heap.size, 1, none⟩ = some (.int .i64 24) ∧ u.cell? ⟨w.heap.size, 2, none⟩ = some (.int .i64 8388608) ∧ u.cell? ⟨w.heap.size, 3, none⟩ = some (.int .i64 255) ∧ u.cell? ⟨w.heap.size, 4, none⟩ = some (.int .i64 (-149)) ∧ u.cell? ⟨w.heap.size, 5, none⟩ = some (.int .i64 128) ∧ u.cell? ⟨w.heap.size, 6, none⟩ = some (.int .i64 2139095040) ∧ u.cell? ⟨w.heap.size, 7, none⟩ = some (.int .i64 2147483648) ∧ u.cell? ⟨w.heap.size, 8, none⟩ = some (.int .i64 2143289345) ∧ u.cell? ⟨w.heap.size + 1, 0, none⟩ = some (.bool r.neg) ∧ u.cell? ⟨w.heap.size + 1, 1, none⟩ = some (.slice sa sn sc) ∧ u.cell? ⟨w.heap.size + 1, 2, none⟩ = some (.int .i64 r.exp)) := fun u ku => by
  obtain ⟨-, g0, g1, g2, g3, g4, g5, g6, g7, g8⟩ := h9.kept ku
  have hb1 : w.heap.size + 1 < X.heap.size := by rw [hX]; simp [go_sem]
  exact ⟨ku, g0, g1, g2, g3, g4, g5, g6, g7, g8, (ku.below.cell (p := ⟨w.heap.size + 1, 0, none⟩) hb1).trans n0, (ku.below.cell (p := ⟨w.heap.size + 1, 1, none⟩) hb1).trans n1, (ku.below.cell (p := ⟨w.heap.size + 1, 2, none⟩) hb1).trans n2⟩
 clear e3 hb hL h9 n0 n1 n2
 have kd := (Kept.refl X).drew
 generalize rzN 32 way r = RZ at *
 generalize oxN 32 way r = OX at *
 generalize r.neg = NG at *
 generalize r.exp = EX at *
 go_enter Tryz.func164, Tryz.ntmps164
 go_upto_region 1 with fail
 rw [← hX]
 clear hX
 go_region_held (fun u => Kept X u ∧ u.cell? ⟨w.heap.size, 0, none⟩ = some (.int .i64 32) ∧ u.cell? ⟨w.heap.size, 1, none⟩ = some (.int .i64 24) ∧ u.cell? ⟨w.heap.size, 2, none⟩ = some (.int .i64 8388608) ∧ u.cell? ⟨w.heap.size, 3, none⟩ = some (.int .i64 255) ∧ u.cell? ⟨w.heap.size, 4, none⟩ = some (.int .i64 (-149)) ∧ u.cell? ⟨w.heap.size, 5, none⟩ = some (.int .i64 128) ∧ u.cell? ⟨w.heap.size, 6, none⟩ = some (.int .i64 2139095040) ∧ u.cell? ⟨w.heap.size, 7, none⟩ = some (.int .i64 2147483648) ∧ u.cell? ⟨w.heap.size, 8, none⟩ = some (.int .i64 2143289345) ∧ u.cell? ⟨w.heap.size + 1, 0, none⟩ = some (.bool NG) ∧ u.cell? ⟨w.heap.size + 1, 1, none⟩ = some (.slice sa sn sc) ∧ u.cell? ⟨w.heap.size + 1, 2, none⟩ = some (.int .i64 EX)) (first | assumption | exact HS.out _ kd | exact HS.out _ (by assumption)) (first | (go_at_call 183; refine (KCt.out _ (hK.trans (by first | exact kd | assumption))).mono ?_; rintro e w1 ⟨rfl, k1⟩; replace kd := kd.trans k1) | (go_at_call 182; refine (KT.out _).mono ?_; rintro e w2 ⟨rfl, k2⟩; replace kd := kd.trans k2))
 go_wp2_with fail
 go_ret2
 exact ⟨rfl, hK.trans kd⟩
/-- Two cuts of one value by one measure tell the same. -/
theorem cutz_same {c D V k Q H F k' Q' H' F' : Nat} {od hf rt od' hf' rt' : Bool} (h : Cutz c D V k Q H F od hf rt) (h' : Cutz c D V k' Q' H' F' od' hf' rt') (hm : ∀ r s, r < s → rv c r < rv c s) (way : Int) (hw : way = 0 ∨ way = 1 ∨ way = 2) (ng : Bool) (inf : Nat) : mgz way ng inf F od hf rt = mgz way ng inf F' od' hf' rt' ∧ odz way ng inf F od hf rt = odz way ng inf F' od' hf' rt' := by
 have hF : F = F' := by
  obtain ⟨a1, a2⟩ := h.floor
  obtain ⟨b1, b2⟩ := h'.floor
  have mono : ∀ r s, r ≤ s → rv c r * D ≤ rv c s * D := fun r s g => by
   rcases Nat.lt_or_eq_of_le g with g | g
   ·exact Nat.mul_le_mul_right D (Nat.le_of_lt (hm r s g))
   ·rw [g]; exact Nat.le_refl _
  rcases Nat.lt_trichotomy F F' with g | g | g
  ·have := mono (F + 1) F' g; omega
  ·exact g
  ·have := mono (F' + 1) F g; omega
 subst hF
 have e1 := h.cut.trans h'.cut.symm
 have e2 := h.near.trans h'.near.symm
 have ea : awz way ng od hf rt = awz way ng od' hf' rt' := by
  unfold awz
  rw [e1, e2]
 unfold mgz odz
 rw [ea, e1]
 exact ⟨rfl, rfl⟩
/- what the document's Cut tells of q at e, with or without more, is a cut of V, where q is V's part by E and more its rest -/
/- the document's quotient, cut -/
/- a root's cut: of twice the root at a fine place, and one more where it is not whole there -/
theorem RLp.grw {H g : Nat} {w w' : World} {v : Value} {M : List Int} (h : RLp (Fresh H) w v M) (k : Grw g w w') (hg : g < H) : RLp (Fresh H) w' v M := by
 obtain ⟨ao, c, e, hn, ⟨ao', cap', e', h1, h2, hrd⟩, hP⟩ := h
 cases e'
 refine ⟨ao, c, e, hn, ⟨ao, c, rfl, h1, h2, fun hne => ?_⟩, hP⟩
 obtain ⟨b, off, rfl, hb, rd⟩ := hrd hne
 have hbg : b ≠ g := by
  have h5 : H ≤ b := hP b off hne rfl
  omega
 have blk := k.grown.block b hb (by simpa using hbg)
 refine ⟨b, off, rfl, Nat.lt_of_lt_of_le hb k.grown.size, fun i hi => ?_⟩
 have := rd i hi
 simp only [World.cell?] at this ⊢
 rw [blk]
 exact this
def FE (n way : Int) (ok : Bool) : Int := if n = 64 ∨ n = 32 then (if way < 0 ∨ 2 < way then 1 else if ok = true then 0 else 7) else 3
abbrev zround : Value := .agg #[.int .i64 0, .int .i64 0, .int .i64 0, .int .i64 0, .nilFunc]
theorem roundingOf_w (n way : Int) (h1 : (n == 32) = false) (h2 : (n == 64) = false) (given : Value) (w : World) : Calls Tryz.prog 101 #[.int .i64 n, .int .i64 way, given] w fun e w' => e = .returned (.tuple #[zround, .int .i64 3]) ∧ Kept w w' := by
 have hK : Kept w (w.alloc nilRound) := (Kept.refl w).alloc _ _
 have HR : Hid (∀ u, Kept (w.alloc nilRound) u → (u.cell? ⟨w.heap.size, 0, none⟩ = some (.int .i64 0) ∧ u.cell? ⟨w.heap.size, 1, none⟩ = some (.int .i64 0) ∧ u.cell? ⟨w.heap.size, 2, none⟩ = some (.int .i64 0) ∧ u.cell? ⟨w.heap.size, 3, none⟩ = some (.int .i64 0) ∧ u.cell? ⟨w.heap.size, 4, none⟩ = some .nilFunc) ∧ ∀ o, u.frozen? ⟨w.heap.size, o, none⟩ = false) := fun u k => ⟨⟨(laid_cell k 0).trans (by simp [go_sem]), (laid_cell k 1).trans (by simp [go_sem]), (laid_cell k 2).trans (by simp [go_sem]), (laid_cell k 3).trans (by simp [go_sem]), (laid_cell k 4).trans (by simp [go_sem])⟩, fun o => (k.frozen _).trans (by simp [go_sem])⟩
 go_enter Tryz.func101, Tryz.ntmps101
 go_wp2_with ((go_at_call 114; refine (kindOf_0 n h1 h2 _).mono ?_; rintro e w1 ⟨rfl, hk1⟩; obtain ⟨⟨r0, r1, r2, r3, r4⟩, rf⟩ := HR.out _ (hk1.alloc #[.int .i64 0, .int .i64 0, .int .i64 0, .int .i64 0] 124)))
 exact bodyPost_ret (v := .tuple #[zround, .int .i64 3]) (by simp [results, Tryz.results101, go_sem, r0, r1, r2, r3, r4]) rfl ⟨rfl, (hK.trans (hk1.alloc _ _)) |>.setCell (by simp) _ |>.setCell (by simp) _ |>.setCell (by simp) _ |>.setCell (by simp) _ |>.setCell (by simp) _⟩
theorem roundingOf_y1 (n way : Int) (hn : n = 64 ∨ n = 32) (h1 : decide (way < 0) = true) (given : Value) (w : World) : Calls Tryz.prog 101 #[.int .i64 n, .int .i64 way, given] w fun e w' => e = .returned (.tuple #[zround, .int .i64 1]) ∧ Kept w w' := by
 have hK : Kept w (w.alloc nilRound) := (Kept.refl w).alloc _ _
 have HR : Hid (∀ u, Kept (w.alloc nilRound) u → (u.cell? ⟨w.heap.size, 0, none⟩ = some (.int .i64 0) ∧ u.cell? ⟨w.heap.size, 1, none⟩ = some (.int .i64 0) ∧ u.cell? ⟨w.heap.size, 2, none⟩ = some (.int .i64 0) ∧ u.cell? ⟨w.heap.size, 3, none⟩ = some (.int .i64 0) ∧ u.cell? ⟨w.heap.size, 4, none⟩ = some .nilFunc) ∧ ∀ o, u.frozen? ⟨w.heap.size, o, none⟩ = false) := fun u k => ⟨⟨(laid_cell k 0).trans (by simp [go_sem]), (laid_cell k 1).trans (by simp [go_sem]), (laid_cell k 2).trans (by simp [go_sem]), (laid_cell k 3).trans (by simp [go_sem]), (laid_cell k 4).trans (by simp [go_sem])⟩, fun o => (k.frozen _).trans (by simp [go_sem])⟩
 go_enter Tryz.func101, Tryz.ntmps101
 go_wp2_with ((go_at_call 114; refine (kindOf_ok n hn _).mono ?_; rintro e w1 ⟨rfl, hk1⟩; obtain ⟨⟨r0, r1, r2, r3, r4⟩, rf⟩ := HR.out _ (hk1.alloc #[.int .i64 n, .int .i64 (kprec n), .int .i64 (kleast n), .int .i64 (kinf n)] 124)))
 exact bodyPost_ret (v := .tuple #[zround, .int .i64 1]) (by simp [results, Tryz.results101, go_sem, r0, r1, r2, r3, r4]) rfl ⟨rfl, (hK.trans (hk1.alloc _ _)) |>.setCell (by simp) _ |>.setCell (by simp) _ |>.setCell (by simp) _ |>.setCell (by simp) _ |>.setCell (by simp) _⟩
theorem roundingOf_y2 (n way : Int) (hn : n = 64 ∨ n = 32) (h1 : decide (way < 0) = false) (h2 : decide (2 < way) = true) (given : Value) (w : World) : Calls Tryz.prog 101 #[.int .i64 n, .int .i64 way, given] w fun e w' => e = .returned (.tuple #[zround, .int .i64 1]) ∧ Kept w w' := by
 have hK : Kept w (w.alloc nilRound) := (Kept.refl w).alloc _ _
 have HR : Hid (∀ u, Kept (w.alloc nilRound) u → (u.cell? ⟨w.heap.size, 0, none⟩ = some (.int .i64 0) ∧ u.cell? ⟨w.heap.size, 1, none⟩ = some (.int .i64 0) ∧ u.cell? ⟨w.heap.size, 2, none⟩ = some (.int .i64 0) ∧ u.cell? ⟨w.heap.size, 3, none⟩ = some (.int .i64 0) ∧ u.cell? ⟨w.heap.size, 4, none⟩ = some .nilFunc) ∧ ∀ o, u.frozen? ⟨w.heap.size, o, none⟩ = false) := fun u k => ⟨⟨(laid_cell k 0).trans (by simp [go_sem]), (laid_cell k 1).trans (by simp [go_sem]), (laid_cell k 2).trans (by simp [go_sem]), (laid_cell k 3).trans (by simp [go_sem]), (laid_cell k 4).trans (by simp [go_sem])⟩, fun o => (k.frozen _).trans (by simp [go_sem])⟩
 go_enter Tryz.func101, Tryz.ntmps101
 go_wp2_with ((go_at_call 114; refine (kindOf_ok n hn _).mono ?_; rintro e w1 ⟨rfl, hk1⟩; obtain ⟨⟨r0, r1, r2, r3, r4⟩, rf⟩ := HR.out _ (hk1.alloc #[.int .i64 n, .int .i64 (kprec n), .int .i64 (kleast n), .int .i64 (kinf n)] 124)))
 exact bodyPost_ret (v := .tuple #[zround, .int .i64 1]) (by simp [results, Tryz.results101, go_sem, r0, r1, r2, r3, r4]) rfl ⟨rfl, (hK.trans (hk1.alloc _ _)) |>.setCell (by simp) _ |>.setCell (by simp) _ |>.setCell (by simp) _ |>.setCell (by simp) _ |>.setCell (by simp) _⟩
theorem roundingOf_v (n way : Int) (hn : n = 64 ∨ n = 32) (h1 : decide (way < 0) = false) (h2 : decide (2 < way) = false) (given : Value) (w : World) (KV : Hid (∀ w', Kept w w' → Calls Tryz.prog 135 #[given] w' fun e w'' => e = .returned (.bool false) ∧ Kept w' w'')) : Calls Tryz.prog 101 #[.int .i64 n, .int .i64 way, given] w fun e w' => e = .returned (.tuple #[zround, .int .i64 7]) ∧ Kept w w' := by
 have hK : Kept w (w.alloc nilRound) := (Kept.refl w).alloc _ _
 have HR : Hid (∀ u, Kept (w.alloc nilRound) u → (u.cell? ⟨w.heap.size, 0, none⟩ = some (.int .i64 0) ∧ u.cell? ⟨w.heap.size, 1, none⟩ = some (.int .i64 0) ∧ u.cell? ⟨w.heap.size, 2, none⟩ = some (.int .i64 0) ∧ u.cell? ⟨w.heap.size, 3, none⟩ = some (.int .i64 0) ∧ u.cell? ⟨w.heap.size, 4, none⟩ = some .nilFunc) ∧ ∀ o, u.frozen? ⟨w.heap.size, o, none⟩ = false) := fun u k => ⟨⟨(laid_cell k 0).trans (by simp [go_sem]), (laid_cell k 1).trans (by simp [go_sem]), (laid_cell k 2).trans (by simp [go_sem]), (laid_cell k 3).trans (by simp [go_sem]), (laid_cell k 4).trans (by simp [go_sem])⟩, fun o => (k.frozen _).trans (by simp [go_sem])⟩
 go_enter Tryz.func101, Tryz.ntmps101
 go_wp2_with (first | (go_at_call 114; refine (kindOf_ok n hn _).mono ?_; rintro e w1 ⟨rfl, hk1⟩) | (go_at_call 135; refine (KV.out _ (hK.trans (hk1.alloc _ _))).mono ?_; rintro e w2 ⟨rfl, hk2⟩; obtain ⟨⟨r0, r1, r2, r3, r4⟩, rf⟩ := HR.out _ ((hk1.alloc #[.int .i64 n, .int .i64 (kprec n), .int .i64 (kleast n), .int .i64 (kinf n)] 124).trans hk2)))
 exact bodyPost_ret (v := .tuple #[zround, .int .i64 7]) (by simp [results, Tryz.results101, go_sem, r0, r1, r2, r3, r4]) rfl ⟨rfl, (hK.trans ((hk1.alloc _ _).trans hk2)) |>.setCell (by simp) _ |>.setCell (by simp) _ |>.setCell (by simp) _ |>.setCell (by simp) _ |>.setCell (by simp) _⟩
theorem roundingOf_no (n way : Int) (ok : Bool) (h : FE n way ok ≠ 0) (given : Value) (w : World) (KV : Hid (∀ w', Kept w w' → Calls Tryz.prog 135 #[given] w' fun e w'' => e = .returned (.bool ok) ∧ Kept w' w'')) : Calls Tryz.prog 101 #[.int .i64 n, .int .i64 way, given] w fun e w' => e = .returned (.tuple #[zround, .int .i64 (FE n way ok)]) ∧ Kept w w' := by
 unfold FE at h ⊢
 by_cases hn : n = 64 ∨ n = 32
 ·rw [if_pos hn] at h ⊢
  by_cases h1 : way < 0
  ·rw [if_pos (Or.inl h1)]
   exact roundingOf_y1 n way hn (decide_eq_true h1) given w
  ·by_cases h2 : 2 < way
   ·rw [if_pos (Or.inr h2)]
    exact roundingOf_y2 n way hn (decide_eq_false h1) (decide_eq_true h2) given w
   ·rw [if_neg (by omega)] at h ⊢
    cases ok with
    | true => exact absurd rfl h
    | false => exact roundingOf_v n way hn (decide_eq_false h1) (decide_eq_false h2) given w KV
 ·rw [if_neg hn]
  exact roundingOf_w n way (by simp; omega) (by simp; omega) given w
theorem xround_no (n way fe : Int) (hfe : (fe == 0) = false) (ng : Bool) (ao : Option Addr) (ln c : Nat) (x : Int) (w : World) (KR : Hid (Calls Tryz.prog 101 #[.int .i64 n, .int .i64 way, .slice (some ⟨w.heap.size + 1, 0, none⟩) 1 1] ((w.alloc (.cells #[.bool ng, .slice ao ln c, .int .i64 x] 24)).alloc (.cells #[.bool ng, .slice ao ln c, .int .i64 x] 24)) fun e w' => e = .returned (.tuple #[zround, .int .i64 fe]) ∧ Kept ((w.alloc (.cells #[.bool ng, .slice ao ln c, .int .i64 x] 24)).alloc (.cells #[.bool ng, .slice ao ln c, .int .i64 x] 24)) w')) : Calls Tryz.prog 86 #[.agg #[.bool ng, .slice ao ln c, .int .i64 x], .int .i64 n, .int .i64 way] w fun e w' => e = .returned (.tuple #[.int .i64 0, .bool false, .int .i64 fe]) ∧ Kept w w' := by
 have hK : Kept w ((w.alloc (.cells #[.bool ng, .slice ao ln c, .int .i64 x] 24)).alloc (.cells #[.bool ng, .slice ao ln c, .int .i64 x] 24)) := ((Kept.refl w).alloc _ _).alloc _ _
 go_enter Tryz.func86, Tryz.ntmps86
 go_wp2_with (first | (go_at_call 101; refine KR.out.mono ?_; rintro e w1 ⟨rfl, hk1⟩))
 go_ret3
 exact ⟨rfl, hK.trans (hk1.alloc _ _)⟩
end Go.Proofs.YtdpccifhhencgaaGreatDoor
