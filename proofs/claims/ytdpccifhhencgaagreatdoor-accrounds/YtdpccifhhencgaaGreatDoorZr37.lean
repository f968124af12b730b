/- The document's own Told, and Cut of nought; an exact number rounded: To. A cut of a quotient by its floor and its rest; two cuts of one value are one. The document's quotient and root, and the program's: cuts of one value. The walk of the document's own NatRoot. -/
import Derived.Test.YtdpccifhhencgaaGreatDoorZr35
import Derived.Test.YtdpccifhhencgaaGreatDoorZr36
import Derived.Test.YtdpccifhhencgaaGreatDoorZr29
import Derived.Test.YtdpccifhhencgaaGreatDoorZr32
import Derived.Test.YtdpccifhhencgaaGreatDoorZr34
namespace Go.Proofs.YtdpccifhhencgaaGreatDoor
open Go.ChangeShapes Go.WideShapes Go.ChangeAt Go.RowKit
set_option linter.unusedVariables false
set_option linter.unusedSimpArgs false
set_option maxHeartbeats 16000000
set_option maxRecDepth 100000
theorem vld_digs (r : Nm) (hv : vld r = true) (hne : r.mag ≠ []) : digs (nv r.mag) = r.mag ∧ nv r.mag ≠ 0 ∧ r.mag.length ≤ 2000 ∧ -1048576 ≤ r.exp ∧ r.exp ≤ 1048576 := by
 have h0 := nv_ne r hv hne
 obtain ⟨hl, hD⟩ := vld_dg r.neg r.mag r.exp hv
 unfold vld at hv
 rw [if_neg hne] at hv
 unfold vldN at hv
 simp only [Bool.and_eq_true, decide_eq_true_eq, bne_iff_ne] at hv
 exact ⟨digs_nv r.mag hD (Or.inr hv.1.1.1.2), h0, by omega, by omega, by omega⟩
theorem rtold_64 (b : Int) (odd : Bool) (w : World) : Calls Tryz.prog 182 #[.agg #[.int .i64 64, .int .i64 53, .int .i64 4503599627370496, .int .i64 2047, .int .i64 (-1074), .int .i64 1024, .int .i64 9218868437227405312, .int .i64 (-9223372036854775808), .int .i64 9221120237041090561], .int .i64 b, .bool odd] w fun e w' => e = .returned (.tuple #[.int .i64 (if b = -9223372036854775808 then 0 else b), .bool odd]) ∧ Kept w w' := by
 by_cases hb : b = -9223372036854775808
 ·rw [if_pos hb]
  subst hb
  go_enter Tryz.func182, Tryz.ntmps182
  go_wp2
  go_ret2
  exact ⟨rfl, (Kept.refl _).alloc _ _⟩
 ·rw [if_neg hb]
  have hb2 : (b == (-9223372036854775808)) = false := by simp [hb]
  go_enter Tryz.func182, Tryz.ntmps182
  go_wp2
  go_ret2
  exact ⟨rfl, (Kept.refl _).alloc _ _⟩
theorem rcut_zero_64 (way x : Int) (va : Value) (w : World) (hL : RL w va []) : Calls Tryz.prog 183 #[.agg #[.int .i64 64, .int .i64 53, .int .i64 4503599627370496, .int .i64 2047, .int .i64 (-1074), .int .i64 1024, .int .i64 9218868437227405312, .int .i64 (-9223372036854775808), .int .i64 9221120237041090561], .bool false, va, .int .i64 x, .bool false, .int .i64 way] w fun e w' => e = .returned (.tuple #[.int .i64 0, .bool false]) ∧ Kept w w' := by
 have KB : Hid (∀ v, Kept w v → Calls Tryz.prog 190 #[va] v fun e w' => e = .returned (.int .i64 0) ∧ v = w') := fun v kv => natBits_any v 0 va (hL.kept kv) (by simp [digs_zero])
 have hK : Kept w (w.alloc (.cells #[.int .i64 64, .int .i64 53, .int .i64 4503599627370496, .int .i64 2047, .int .i64 (-1074), .int .i64 1024, .int .i64 9218868437227405312, .int .i64 (-9223372036854775808), .int .i64 9221120237041090561] 154)) := (Kept.refl w).alloc _ _
 clear hL
 go_enter Tryz.func183, Tryz.ntmps183
 go_wp2_with (first | (go_at_call 190; refine (KB.out _ hK).mono ?_; rintro e w1 ⟨rfl, rfl⟩))
 go_ret2
 exact ⟨rfl, hK⟩
theorem rto_64 (way : Int) (hw : way = 0 ∨ way = 1 ∨ way = 2) (r : Nm) (hv : vld r = true) (va : Value) (w : World) (hL : RL w va r.mag) : Calls Tryz.prog 164 #[.agg #[.int .i64 64, .int .i64 53, .int .i64 4503599627370496, .int .i64 2047, .int .i64 (-1074), .int .i64 1024, .int .i64 9218868437227405312, .int .i64 (-9223372036854775808), .int .i64 9221120237041090561], .agg #[.bool r.neg, va, .int .i64 r.exp], .int .i64 way] w fun e w' => e = .returned (.tuple #[.int .i64 (rzN 64 way r), .bool (oxN 64 way r)]) ∧ Kept w w' := by
 obtain ⟨b, hb⟩ : ∃ b : Int, b = (if r.neg = true then (-9223372036854775808) else 0) + (mgN 64 way r : Int) := ⟨_, rfl⟩
 have KCt : Hid (∀ v, Kept w v → Calls Tryz.prog 183 #[.agg #[.int .i64 64, .int .i64 53, .int .i64 4503599627370496, .int .i64 2047, .int .i64 (-1074), .int .i64 1024, .int .i64 9218868437227405312, .int .i64 (-9223372036854775808), .int .i64 9221120237041090561], .bool r.neg, va, .int .i64 r.exp, .bool false, .int .i64 way] v fun e w' => e = .returned (.tuple #[.int .i64 b, .bool (oxN 64 way r)]) ∧ Kept v w') := by
  intro v kv
  by_cases hne : r.mag = []
  ·have hng : r.neg = false := (vz_sign 0 r hv).2.2 hne |>.1
   have e1 : mgN 64 way r = 0 := by unfold mgN; rw [if_pos hne]
   have e2 : oxN 64 way r = false := by unfold oxN; rw [if_pos hne]
   rw [hb, hng, e1, e2]
   rw [hne] at hL
   exact rcut_zero_64 way r.exp va v (hL.kept kv)
  ·obtain ⟨hd, h0, hl, hx1, hx2⟩ := vld_digs r hv hne
   have := rcut_64 way hw r.neg (nv r.mag) h0 r.exp false va v (by rw [hd]; exact hL.kept kv) (by rw [hd]; omega) (by omega) (by omega) (unN 64 r) rfl (kpN 64 r) rfl (flN 64 r) rfl (odN 64 r) (hfN 64 r) (rtN 64 r) rfl rfl rfl _ rfl
   unfold oxN mgN at *
   rw [if_neg hne] at hb ⊢
   rw [hb]
   exact this
 have e3 : (if b = -9223372036854775808 then 0 else b) = rzN 64 way r := by
  have hm := mgN_le 64 way r
  have hi : ifn 64 = 9218868437227405312 := rfl
  rw [hi] at hm
  unfold rzN kyN pz
  rw [hb]
  cases r.neg
  ·simp only [Bool.false_eq_true, if_false, if_true]
   (repeat' split) <;> first | omega | (exfalso; simp_all; done)
  ·simp only [if_true]
   (repeat' split) <;> first | omega | (exfalso; simp_all; done)
 have KT : Hid (∀ v, Calls Tryz.prog 182 #[.agg #[.int .i64 64, .int .i64 53, .int .i64 4503599627370496, .int .i64 2047, .int .i64 (-1074), .int .i64 1024, .int .i64 9218868437227405312, .int .i64 (-9223372036854775808), .int .i64 9221120237041090561], .int .i64 b, .bool (oxN 64 way r)] v fun e w' => e = .returned (.tuple #[.int .i64 (rzN 64 way r), .bool (oxN 64 way r)]) ∧ Kept v w') := fun v => by
  have := rtold_64 b (oxN 64 way r) v
  rw [e3] at this
  exact this
 obtain ⟨sa, sn, sc, rfl⟩ : ∃ sa sn sc, va = .slice sa sn sc := by
  obtain ⟨ao, c, h, -⟩ := hL
  exact ⟨ao, _, c, h⟩
 obtain ⟨X, hX⟩ : ∃ X, X = (w.alloc (.cells #[.int .i64 64, .int .i64 53, .int .i64 4503599627370496, .int .i64 2047, .int .i64 (-1074), .int .i64 1024, .int .i64 9218868437227405312, .int .i64 (-9223372036854775808), .int .i64 9221120237041090561] 154)).alloc (.cells #[.bool r.neg, .slice sa sn sc, .int .i64 r.exp] 24) := ⟨_, rfl⟩
 have hK : Kept w X := by rw [hX]; exact ((Kept.refl w).alloc _ _).alloc _ _
 have h9 : K9 X w.heap.size (.int .i64 64) (.int .i64 53) (.int .i64 4503599627370496) (.int .i64 2047) (.int .i64 (-1074)) (.int .i64 1024) (.int .i64 9218868437227405312) (.int .i64 (-9223372036854775808)) (.int .i64 9221120237041090561) := by rw [hX]; exact (K9.new w _ _ _ _ _ _ _ _ _ _).kept ((Kept.refl _).alloc _ _)
 have n0 : X.cell? ⟨w.heap.size + 1, 0, none⟩ = some (.bool r.neg) := by rw [hX]; simp [go_sem]
 have n1 : X.cell? ⟨w.heap.size + 1, 1, none⟩ = some (.slice sa sn sc) := by rw [hX]; simp [go_sem]
 have n2 : X.cell? ⟨w.heap.size + 1, 2, none⟩ = some (.int .i64 r.exp) := by rw [hX]; simp [go_sem]
 have HS : Hid (∀ u, Kept X u → Kept X u ∧ u.cell? ⟨w.heap.size, 0, none⟩ = some (.int .i64 64) ∧ u.cell? ⟨w.heap.size, 1, none⟩ = some (.int .i64 53) ∧ u.cell? ⟨w.heap.size, 2, none⟩ = some (.int .i64 4503599627370496) ∧ u.cell? ⟨w.heap.size, 3, none⟩ = some (.int .i64 2047) ∧ u.cell? ⟨w.heap.size, 4, none⟩ = some (.int .i64 (-1074)) ∧ u.cell? ⟨w.heap.size, 5, none⟩ = some (.int .i64 1024) ∧ u.cell? ⟨w.heap.size, 6, none⟩ = some (.int .i64 9218868437227405312) ∧ u.cell? ⟨w.heap.size, 7, none⟩ = some (.int .i64 (-9223372036854775808)) ∧ u.cell? ⟨w.heap.size, 8, none⟩ = some (.int .i64 9221120237041090561) ∧ u.cell? ⟨w.heap.size + 1, 0, none⟩ = some (.bool r.neg) ∧ u.cell? ⟨w.heap.size + 1, 1, none⟩ = some (.slice sa sn sc) ∧ u.cell? ⟨w.heap.size + 1, 2, none⟩ = some (.int .i64 r.exp)) := fun u ku => by
  obtain ⟨-, g0, g1, g2, g3, g4, g5, g6, g7, g8⟩ := h9.kept ku
  have hb1 : w.heap.size + 1 < X.heap.size := by rw [hX]; simp [go_sem]
  exact ⟨ku, g0, g1, g2, g3, g4, g5, g6, g7, g8, (ku.below.cell (p := ⟨w.heap.size + 1, 0, none⟩) hb1).trans n0, (ku.below.cell (p := ⟨w.heap.size + 1, 1, none⟩) hb1).trans n1, (ku.below.cell (p := ⟨w.heap.size + 1, 2, none⟩) hb1).trans n2⟩
 clear e3 hb hL h9 n0 n1 n2
 have kd := (Kept.refl X).drew
 generalize rzN 64 way r = RZ at *
 generalize oxN 64 way r = OX at *
 generalize r.neg = NG at *
 generalize r.exp = EX at *
 go_enter Tryz.func164, Tryz.ntmps164
 go_upto_region 1 with fail
 rw [← hX]
 clear hX
 go_region_held (fun u => Kept X u ∧ u.cell? ⟨w.heap.size, 0, none⟩ = some (.int .i64 64) ∧ u.cell? ⟨w.heap.size, 1, none⟩ = some (.int .i64 53) ∧ u.cell? ⟨w.heap.size, 2, none⟩ = some (.int .i64 4503599627370496) ∧ u.cell? ⟨w.heap.size, 3, none⟩ = some (.int .i64 2047) ∧ u.cell? ⟨w.heap.size, 4, none⟩ = some (.int .i64 (-1074)) ∧ u.cell? ⟨w.heap.size, 5, none⟩ = some (.int .i64 1024) ∧ u.cell? ⟨w.heap.size, 6, none⟩ = some (.int .i64 9218868437227405312) ∧ u.cell? ⟨w.heap.size, 7, none⟩ = some (.int .i64 (-9223372036854775808)) ∧ u.cell? ⟨w.heap.size, 8, none⟩ = some (.int .i64 9221120237041090561) ∧ u.cell? ⟨w.heap.size + 1, 0, none⟩ = some (.bool NG) ∧ u.cell? ⟨w.heap.size + 1, 1, none⟩ = some (.slice sa sn sc) ∧ u.cell? ⟨w.heap.size + 1, 2, none⟩ = some (.int .i64 EX)) (first | assumption | exact HS.out _ kd | exact HS.out _ (by assumption)) (first | (go_at_call 183; refine (KCt.out _ (hK.trans (by first | exact kd | assumption))).mono ?_; rintro e w1 ⟨rfl, k1⟩; replace kd := kd.trans k1) | (go_at_call 182; refine (KT.out _).mono ?_; rintro e w2 ⟨rfl, k2⟩; replace kd := kd.trans k2))
 go_wp2_with fail
 go_ret2
 exact ⟨rfl, hK.trans kd⟩
theorem rtold_32 (b : Int) (odd : Bool) (w : World) : Calls Tryz.prog 182 #[.agg #[.int .i64 32, .int .i64 24, .int .i64 8388608, .int .i64 255, .int .i64 (-149), .int .i64 128, .int .i64 2139095040, .int .i64 2147483648, .int .i64 2143289345], .int .i64 b, .bool odd] w fun e w' => e = .returned (.tuple #[.int .i64 (if b = 2147483648 then 0 else b), .bool odd]) ∧ Kept w w' := by
 by_cases hb : b = 2147483648
 ·rw [if_pos hb]
  subst hb
  go_enter Tryz.func182, Tryz.ntmps182
  go_wp2
  go_ret2
  exact ⟨rfl, (Kept.refl _).alloc _ _⟩
 ·rw [if_neg hb]
  have hb2 : (b == 2147483648) = false := by simp [hb]
  go_enter Tryz.func182, Tryz.ntmps182
  go_wp2
  go_ret2
  exact ⟨rfl, (Kept.refl _).alloc _ _⟩
theorem rcut_zero_32 (way x : Int) (va : Value) (w : World) (hL : RL w va []) : Calls Tryz.prog 183 #[.agg #[.int .i64 32, .int .i64 24, .int .i64 8388608, .int .i64 255, .int .i64 (-149), .int .i64 128, .int .i64 2139095040, .int .i64 2147483648, .int .i64 2143289345], .bool false, va, .int .i64 x, .bool false, .int .i64 way] w fun e w' => e = .returned (.tuple #[.int .i64 0, .bool false]) ∧ Kept w w' := by
 have KB : Hid (∀ v, Kept w v → Calls Tryz.prog 190 #[va] v fun e w' => e = .returned (.int .i64 0) ∧ v = w') := fun v kv => natBits_any v 0 va (hL.kept kv) (by simp [digs_zero])
 have hK : Kept w (w.alloc (.cells #[.int .i64 32, .int .i64 24, .int .i64 8388608, .int .i64 255, .int .i64 (-149), .int .i64 128, .int .i64 2139095040, .int .i64 2147483648, .int .i64 2143289345] 154)) := (Kept.refl w).alloc _ _
 clear hL
 go_enter Tryz.func183, Tryz.ntmps183
 go_wp2_with (first | (go_at_call 190; refine (KB.out _ hK).mono ?_; rintro e w1 ⟨rfl, rfl⟩))
 go_ret2
 exact ⟨rfl, hK⟩
theorem rto_32 (way : Int) (hw : way = 0 ∨ way = 1 ∨ way = 2) (r : Nm) (hv : vld r = true) (va : Value) (w : World) (hL : RL w va r.mag) : Calls Tryz.prog 164 #[.agg #[.int .i64 32, .int .i64 24, .int .i64 8388608, .int .i64 255, .int .i64 (-149), .int .i64 128, .int .i64 2139095040, .int .i64 2147483648, .int .i64 2143289345], .agg #[.bool r.neg, va, .int .i64 r.exp], .int .i64 way] w fun e w' => e = .returned (.tuple #[.int .i64 (rzN 32 way r), .bool (oxN 32 way r)]) ∧ Kept w w' := by
 obtain ⟨b, hb⟩ : ∃ b : Int, b = (if r.neg = true then 2147483648 else 0) + (mgN 32 way r : Int) := ⟨_, rfl⟩
 have KCt : Hid (∀ v, Kept w v → Calls Tryz.prog 183 #[.agg #[.int .i64 32, .int .i64 24, .int .i64 8388608, .int .i64 255, .int .i64 (-149), .int .i64 128, .int .i64 2139095040, .int .i64 2147483648, .int .i64 2143289345], .bool r.neg, va, .int .i64 r.exp, .bool false, .int .i64 way] v fun e w' => e = .returned (.tuple #[.int .i64 b, .bool (oxN 32 way r)]) ∧ Kept v w') := by
  intro v kv
  by_cases hne : r.mag = []
  ·have hng : r.neg = false := (vz_sign 0 r hv).2.2 hne |>.1
   have e1 : mgN 32 way r = 0 := by unfold mgN; rw [if_pos hne]
   have e2 : oxN 32 way r = false := by unfold oxN; rw [if_pos hne]
   rw [hb, hng, e1, e2]
   rw [hne] at hL
   exact rcut_zero_32 way r.exp va v (hL.kept kv)
  ·obtain ⟨hd, h0, hl, hx1, hx2⟩ := vld_digs r hv hne
   have := rcut_32 way hw r.neg (nv r.mag) h0 r.exp false va v (by rw [hd]; exact hL.kept kv) (by rw [hd]; omega) (by omega) (by omega) (unN 32 r) rfl (kpN 32 r) rfl (flN 32 r) rfl (odN 32 r) (hfN 32 r) (rtN 32 r) rfl rfl rfl _ rfl
   unfold oxN mgN at *
   rw [if_neg hne] at hb ⊢
   rw [hb]
   exact this
 have e3 : (if b = 2147483648 then 0 else b) = rzN 32 way r := by
  have hm := mgN_le 32 way r
  have hi : ifn 32 = 2139095040 := rfl
  rw [hi] at hm
  unfold rzN kyN pz
  rw [hb]
  cases r.neg
  ·simp only [Bool.false_eq_true, if_false, if_true]
   (repeat' split) <;> first | omega | (exfalso; simp_all; done)
  ·simp only [if_true]
   (repeat' split) <;> first | omega | (exfalso; simp_all; done)
 have KT : Hid (∀ v, Calls Tryz.prog 182 #[.agg #[.int .i64 32, .int .i64 24, .int .i64 8388608, .int .i64 255, .int .i64 (-149), .int .i64 128, .int .i64 2139095040, .int .i64 2147483648, .int .i64 2143289345], .int .i64 b, .bool (oxN 32 way r)] v fun e w' => e = .returned (.tuple #[.int .i64 (rzN 32 way r), .bool (oxN 32 way r)]) ∧ Kept v w') := fun v => by
  have := rtold_32 b (oxN 32 way r) v
  rw [e3] at this
  exact this
 obtain ⟨sa, sn, sc, rfl⟩ : ∃ sa sn sc, va = .slice sa sn sc := by
  obtain ⟨ao, c, h, -⟩ := hL
  exact ⟨ao, _, c, h⟩
 obtain ⟨X, hX⟩ : ∃ X, X = (w.alloc (.cells #[.int .i64 32, .int .i64 24, .int .i64 8388608, .int .i64 255, .int .i64 (-149), .int .i64 128, .int .i64 2139095040, .int .i64 2147483648, .int .i64 2143289345] 154)).alloc (.cells #[.bool r.neg, .slice sa sn sc, .int .i64 r.exp] 24) := ⟨_, rfl⟩
 have hK : Kept w X := by rw [hX]; exact ((Kept.refl w).alloc _ _).alloc _ _
 have h9 : K9 X w.heap.size (.int .i64 32) (.int .i64 24) (.int .i64 8388608) (.int .i64 255) (.int .i64 (-149)) (.int .i64 128) (.int .i64 2139095040) (.int .i64 2147483648) (.int .i64 2143289345) := by rw [hX]; exact (K9.new w _ _ _ _ _ _ _ _ _ _).kept ((Kept.refl _).alloc _ _)
 have n0 : X.cell? ⟨w.heap.size + 1, 0, none⟩ = some (.bool r.neg) := by rw [hX]; simp [go_sem]
 have n1 : X.cell? ⟨w.heap.size + 1, 1, none⟩ = some (.slice sa sn sc) := by rw [hX]; simp [go_sem]
 have n2 : X.cell? ⟨w.heap.size + 1, 2, none⟩ = some (.int .i64 r.exp) := by rw [hX]; simp [go_sem]
 have HS : Hid (∀ u, Kept X u → Kept X u ∧ u.cell? ⟨w.heap.size, 0, none⟩ = some (.int .i64 32) ∧ u.cell? ⟨w.heap.size, 1, none⟩ = some (.int .i64 24) ∧ u.cell? ⟨w.heap.size, 2, none⟩ = some (.int .i64 8388608) ∧ u.cell? ⟨w.heap.size, 3, none⟩ = some (.int .i64 255) ∧ u.cell? ⟨w.heap.size, 4, none⟩ = some (.int .i64 (-149)) ∧ u.cell? ⟨w.heap.size, 5, none⟩ = some (.int .i64 128) ∧ u.cell? ⟨w.heap.size, 6, none⟩ = some (.int .i64 2139095040) ∧ u.cell? ⟨w.heap.size, 7, none⟩ = some (.int .i64 2147483648) ∧ u.cell? ⟨w.heap.size, 8, none⟩ = some (.int .i64 2143289345) ∧ u.cell? ⟨w.heap.size + 1, 0, none⟩ = some (.bool r.neg) ∧ u.cell? ⟨w.heap.size + 1, 1, none⟩ = some (.slice sa sn sc) ∧ u.cell? ⟨w.heap.size + 1, 2, none⟩ = some (.int .i64 r.exp)) := fun u ku => by
  obtain ⟨-, g0, g1, g2, g3, g4, g5, g6, g7, g8⟩ := h9.kept ku
  have hb1 : w.heap.size + 1 < X.heap.size := by rw [hX]; simp [go_sem]
  exact ⟨ku, g0, g1, g2, g3, g4, g5, g6, g7, g8, (ku.below.cell (p := ⟨w.heap.size + 1, 0, none⟩) hb1).trans n0, (ku.below.cell (p := ⟨w.heap.size + 1, 1, none⟩) hb1).trans n1, (ku.below.cell (p := ⟨w.heap.size + 1, 2, none⟩) hb1).trans n2⟩
 clear e3 hb hL h9 n0 n1 n2
 have kd := (Kept.refl X).drew
 generalize rzN 32 way r = RZ at *
 generalize oxN 32 way r = OX at *
 generalize r.neg = NG at *
 generalize r.exp = EX at *
 go_enter Tryz.func164, Tryz.ntmps164
 go_upto_region 1 with fail
 rw [← hX]
 clear hX
 go_region_held (fun u => Kept X u ∧ u.cell? ⟨w.heap.size, 0, none⟩ = some (.int .i64 32) ∧ u.cell? ⟨w.heap.size, 1, none⟩ = some (.int .i64 24) ∧ u.cell? ⟨w.heap.size, 2, none⟩ = some (.int .i64 8388608) ∧ u.cell? ⟨w.heap.size, 3, none⟩ = some (.int .i64 255) ∧ u.cell? ⟨w.heap.size, 4, none⟩ = some (.int .i64 (-149)) ∧ u.cell? ⟨w.heap.size, 5, none⟩ = some (.int .i64 128) ∧ u.cell? ⟨w.heap.size, 6, none⟩ = some (.int .i64 2139095040) ∧ u.cell? ⟨w.heap.size, 7, none⟩ = some (.int .i64 2147483648) ∧ u.cell? ⟨w.heap.size, 8, none⟩ = some (.int .i64 2143289345) ∧ u.cell? ⟨w.heap.size + 1, 0, none⟩ = some (.bool NG) ∧ u.cell? ⟨w.heap.size + 1, 1, none⟩ = some (.slice sa sn sc) ∧ u.cell? ⟨w.heap.size + 1, 2, none⟩ = some (.int .i64 EX)) (first | assumption | exact HS.out _ kd | exact HS.out _ (by assumption)) (first | (go_at_call 183; refine (KCt.out _ (hK.trans (by first | exact kd | assumption))).mono ?_; rintro e w1 ⟨rfl, k1⟩; replace kd := kd.trans k1) | (go_at_call 182; refine (KT.out _).mono ?_; rintro e w2 ⟨rfl, k2⟩; replace kd := kd.trans k2))
 go_wp2_with fail
 go_ret2
 exact ⟨rfl, hK.trans kd⟩
/-- Two cuts of one value by one measure tell the same. -/
theorem cutz_same {c D V k Q H F k' Q' H' F' : Nat} {od hf rt od' hf' rt' : Bool} (h : Cutz c D V k Q H F od hf rt) (h' : Cutz c D V k' Q' H' F' od' hf' rt') (hm : ∀ r s, r < s → rv c r < rv c s) (way : Int) (hw : way = 0 ∨ way = 1 ∨ way = 2) (ng : Bool) (inf : Nat) : mgz way ng inf F od hf rt = mgz way ng inf F' od' hf' rt' ∧ odz way ng inf F od hf rt = odz way ng inf F' od' hf' rt' := by
 have hF : F = F' := by
  obtain ⟨a1, a2⟩ := h.floor
  obtain ⟨b1, b2⟩ := h'.floor
  have mono : ∀ r s, r ≤ s → rv c r * D ≤ rv c s * D := fun r s g => by
   rcases Nat.lt_or_eq_of_le g with g | g
   ·exact Nat.mul_le_mul_right D (Nat.le_of_lt (hm r s g))
   ·rw [g]; exact Nat.le_refl _
  rcases Nat.lt_trichotomy F F' with g | g | g
  ·have := mono (F + 1) F' g; omega
  ·exact g
  ·have := mono (F' + 1) F g; omega
 subst hF
 have e1 := h.cut.trans h'.cut.symm
 have e2 := h.near.trans h'.near.symm
 have ea : awz way ng od hf rt = awz way ng od' hf' rt' := by
  unfold awz
  rw [e1, e2]
 unfold mgz odz
 rw [ea, e1]
 exact ⟨rfl, rfl⟩
theorem lead_flo (h : Nat) (e u : Int) (m : Nat) (hm : u - e = (m : Int) + 1) : flo h (e - u) = h / 2 ^ (m + 1) ∧ flo h (e - u + 1) = h / 2 ^ m ∧ rst h (e - u + 1) = (h % 2 ^ m != 0) := by
 have e1 : e - u = -((m : Int) + 1) := by omega
 have e2 : e - u + 1 = -(m : Int) := by omega
 rw [e2, e1]
 refine ⟨?_, ?_, ?_⟩
 ·unfold flo
  rw [if_neg (by omega), show (- -((m : Int) + 1)).toNat = m + 1 by omega]
 ·unfold flo
  by_cases h0 : m = 0
  ·subst h0; simp
  ·rw [if_neg (by omega), show (- -(m : Int)).toNat = m by omega]
 ·unfold rst
  by_cases h0 : m = 0
  ·subst h0; simp [Nat.mod_one]
  ·rw [if_neg (by omega), show (- -(m : Int)).toNat = m by omega]
/- what the document's Cut tells of q at e, with or without more, is a cut of V, where q is V's part by E and more its rest -/
theorem doc_cutz (n : Int) (hn : n = 64 ∨ n = 32) (q : Nat) (e : Int) (hq : kprec n + 1 ≤ (bl q : Int)) (u : Int) (hu : unz (kprec n).toNat (kleast n) (bl q) e = u) (V D E : Nat) (more : Bool) (hE : 0 < E) (hh : q = V / E) (hm : more = decide (V % E ≠ 0)) (hQD : E * 2 ^ (u - e).toNat = 2 ^ (u - kleast n).toNat * D) (k F : Nat) (hk : flo q (e - u) = k) (hF : F = (u - kleast n).toNat * cbn n + k) : ∃ Q H, Cutz (cbn n) D V k Q H F (decide (k % 2 = 1)) (decide (flo q (e - u + 1) % 2 = 1)) (more || rst q (e - u + 1)) := by
 obtain ⟨p1, p2, p3⟩ := kp_toNat n hn
 obtain ⟨c1, c2⟩ := cbn_pow n hn
 have hq0 : q ≠ 0 := by
  intro h0
  rw [h0, bl_zero] at hq
  omega
 obtain ⟨b1, b2, b3⟩ := bl_pos q hq0
 obtain ⟨hb1, hb2⟩ := kept_bounds (kprec n).toNat (kleast n) q (bl q) e (by omega) b1 b2 b3
 rw [hu] at hb1 hb2
 have hue : e + 1 ≤ u := by unfold unz at hu; omega
 obtain ⟨m, hm2⟩ : ∃ m : Nat, u - e = (m : Int) + 1 := ⟨(u - e - 1).toNat, by omega⟩
 obtain ⟨f1, f2, f3⟩ := lead_flo q e u m hm2
 rw [hk] at hb1 hb2
 have hcp : 0 < cbn n := by rw [c1]; exact Nat.two_pow_pos _
 have hce : cbn n % 2 = 0 := by
  rw [c1, show (kprec n).toNat - 1 = ((kprec n).toNat - 2) + 1 by omega, Nat.pow_succ]; omega
 have hp : 2 * cbn n = 2 ^ (kprec n).toNat := by rw [c1, ← Nat.pow_succ']; congr 1; omega
 rw [f2, f3]
 refine ⟨_, _, cutz_lead (cbn n) D V E q more (u - kleast n).toNat m k F hcp hce hE hh hm (by rw [← f1, hk]) hF (by omega) ?_ ?_⟩
 ·rcases hb2 with g | g
  ·left; omega
  ·right; rw [c1]; exact g
 ·rw [← hQD, show (u - e).toNat = m + 1 by omega]
theorem quot_bits (A B sh p : Nat) (hA : A ≠ 0) (hB : B ≠ 0) (h : bl B + p + 2 ≤ bl A + sh) : p + 2 ≤ bl (A * 2 ^ sh / B) := by
 obtain ⟨a1, a2, a3⟩ := bl_pos A hA
 obtain ⟨b1, b2, b3⟩ := bl_pos B hB
 have h1 : 2 ^ (p + 1) ≤ A * 2 ^ sh / B := by
  rw [Nat.le_div_iff_mul_le (by omega)]
  have h2 : 2 ^ (p + 1) * B ≤ 2 ^ (p + 1) * 2 ^ bl B := Nat.mul_le_mul_left _ (by omega)
  have h3 : 2 ^ (bl A - 1) * 2 ^ sh ≤ A * 2 ^ sh := Nat.mul_le_mul_right _ a1
  rw [← Nat.pow_add] at h2 h3
  have h4 : 2 ^ (p + 1 + bl B) ≤ 2 ^ (bl A - 1 + sh) := Nat.pow_le_pow_right (by decide) (by omega)
  omega
 obtain ⟨q1, q2, q3⟩ := bl_pos (A * 2 ^ sh / B) (by have := Nat.two_pow_pos (p + 1); omega)
 have := (Nat.pow_lt_pow_iff_right (by decide : 1 < 2)).1 (Nat.lt_of_le_of_lt h1 q2)
 omega
/- the document's quotient, cut -/
theorem quot_cutz (n : Int) (hn : n = 64 ∨ n = 32) (A B : Nat) (hA : A ≠ 0) (hB : B ≠ 0) (xa xb s e : Int) (sh : Nat) (hsh : (bl B : Int) + kprec n + 2 ≤ (bl A : Int) + sh) (he : e = xa - xb - sh) (hs1 : s ≤ e) (hs2 : s ≤ xb) (hs3 : s < kleast n) (u : Int) (hu : unz (kprec n).toNat (kleast n) (bl (A * 2 ^ sh / B)) e = u) (k F : Nat) (hk : flo (A * 2 ^ sh / B) (e - u) = k) (hF : F = (u - kleast n).toNat * cbn n + k) : ∃ Q H, Cutz (cbn n) (2 ^ (kleast n - s).toNat * (B * 2 ^ (xb - s).toNat)) (A * 2 ^ (xa - 2 * s).toNat) k Q H F (decide (k % 2 = 1)) (decide (flo (A * 2 ^ sh / B) (e - u + 1) % 2 = 1)) (decide (A * 2 ^ sh % B ≠ 0) || rst (A * 2 ^ sh / B) (e - u + 1)) := by
 obtain ⟨p1, p2, p3⟩ := kp_toNat n hn
 have hqb := quot_bits A B sh (kprec n).toNat hA hB (by omega)
 have hlu : kleast n ≤ u := by unfold unz at hu; omega
 have hue : e + 1 ≤ u := by unfold unz at hu; omega
 have hVE : A * 2 ^ (xa - 2 * s).toNat = A * 2 ^ sh * (2 ^ (xb - s).toNat * 2 ^ (e - s).toNat) := by
  rw [Nat.mul_assoc, ← Nat.pow_add, ← Nat.pow_add]; congr 2; omega
 have hP : 0 < 2 ^ (xb - s).toNat * 2 ^ (e - s).toNat := Nat.mul_pos (Nat.two_pow_pos _) (Nat.two_pow_pos _)
 refine doc_cutz n hn _ e (by omega) u hu _ _ (B * (2 ^ (xb - s).toNat * 2 ^ (e - s).toNat)) _ (Nat.mul_pos (by omega) hP) ?_ ?_ ?_ k F hk hF
 ·rw [hVE, Nat.mul_div_mul_right _ _ hP]
 ·rw [hVE, Nat.mul_mod_mul_right]
  apply decide_eq_decide.2
  have hP' := hP
  generalize 2 ^ (xb - s).toNat * 2 ^ (e - s).toNat = P at *
  constructor
  ·intro g h0
   rcases Nat.mul_eq_zero.1 h0 with h0 | h0 <;> omega
  ·intro g h0
   rw [h0] at g; simp at g
 ·have e1 : 2 ^ (e - s).toNat * 2 ^ (u - e).toNat = 2 ^ (u - kleast n).toNat * 2 ^ (kleast n - s).toNat := by
   rw [← Nat.pow_add, ← Nat.pow_add]; congr 1; omega
  rw [Nat.mul_assoc, Nat.mul_assoc, e1]
  generalize 2 ^ (xb - s).toNat = P1
  generalize 2 ^ (u - kleast n).toNat = P2
  generalize 2 ^ (kleast n - s).toNat = P3
  simp only [Nat.mul_comm, Nat.mul_left_comm, Nat.mul_assoc]
/- a root's cut: of twice the root at a fine place, and one more where it is not whole there -/
theorem rl_one (w : World) : RL (w.alloc (.cells #[.int .i64 1] 3)) (.slice (some ⟨w.heap.size, 0, none⟩) 1 1) (digs 1) := by
 have h1 : digs 1 = [1] := by decide
 rw [h1]
 refine ⟨some ⟨w.heap.size, 0, none⟩, 1, rfl, fun h => by simp at h, some ⟨w.heap.size, 0, none⟩, 1, rfl, Nat.le_refl _, by simp [maxLen], fun _ => ⟨w.heap.size, 0, rfl, by simp [go_sem], ?_⟩⟩
 intro i hi
 obtain rfl : i = 0 := by simp at hi; exact hi
 simp [go_sem]
theorem digs_len_le (S A : Nat) (h : S ≤ A) : (digs S).length ≤ (digs A).length := digs_length_le S _ (Nat.lt_of_le_of_lt h (digs_lt A _ (Nat.le_refl _)))
end Go.Proofs.YtdpccifhhencgaaGreatDoor
