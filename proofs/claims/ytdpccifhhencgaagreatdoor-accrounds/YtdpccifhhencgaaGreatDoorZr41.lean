/- The laws' told; the document's First, Round, QuotOdd, Root, by its kinds. The program's and the document's Round, Quot, Root are one. What Round, Quot and Root answer, and that the document says so, in all cases. -/
import Derived.Test.YtdpccifhhencgaaGreatDoorZr40
import Derived.Test.YtdpccifhhencgaaGreatDoorZr32
import Derived.Test.YtdpccifhhencgaaGreatDoorZr37
import Derived.Test.YtdpccifhhencgaaGreatDoorZr39
namespace Go.Proofs.YtdpccifhhencgaaGreatDoor
open Go.ChangeShapes Go.WideShapes Go.ChangeAt Go.RowKit
set_option linter.unusedVariables false
set_option linter.unusedSimpArgs false
set_option maxHeartbeats 16000000
set_option maxRecDepth 100000
def knd (n : Int) : Value := if n = 64 then .agg #[.int .i64 64, .int .i64 53, .int .i64 4503599627370496, .int .i64 2047, .int .i64 (-1074), .int .i64 1024, .int .i64 9218868437227405312, .int .i64 (-9223372036854775808), .int .i64 9221120237041090561] else .agg #[.int .i64 32, .int .i64 24, .int .i64 8388608, .int .i64 255, .int .i64 (-149), .int .i64 128, .int .i64 2139095040, .int .i64 2147483648, .int .i64 2143289345]
theorem of_knd (n : Int) (hn : n = 64 ∨ n = 32) (w : World) : Calls Tryz.prog 118 #[.int .i64 n] w fun e w' => e = .returned (.tuple #[knd n, .bool true]) ∧ Kept w w' := by
 rcases hn with rfl | rfl
 ·exact of_64 w
 ·exact of_32 w
theorem knd_is (n : Int) (hn : n = 64 ∨ n = 32) : ∃ k0 p k2 k3 k4 k5 k6 k7 k8 : Int, knd n = .agg #[.int .i64 k0, .int .i64 p, .int .i64 k2, .int .i64 k3, .int .i64 k4, .int .i64 k5, .int .i64 k6, .int .i64 k7, .int .i64 k8] := by
 rcases hn with rfl | rfl
 ·exact ⟨_, _, _, _, _, _, _, _, _, rfl⟩
 ·exact ⟨_, _, _, _, _, _, _, _, _, rfl⟩
theorem ref2round (n way : Int) (hn : n = 64 ∨ n = 32) (ng : Bool) (ao : Option Addr) (ln c : Nat) (x b : Int) (od : Bool) (w : World) (KT : Hid (∀ u, Kept w u → Calls Tryz.prog 164 #[knd n, .agg #[.bool ng, .slice ao ln c, .int .i64 x], .int .i64 way] u fun e w' => e = .returned (.tuple #[.int .i64 b, .bool od]) ∧ Kept u w')) : Calls Tryz.prog 133 #[.agg #[.bool ng, .slice ao ln c, .int .i64 x], .int .i64 n, .int .i64 way] w fun e w' => e = .returned (.tuple #[.int .i64 b, .bool od]) ∧ Kept w w' := by
 obtain ⟨k0, p, k2, k3, k4, k5, k6, k7, k8, hk⟩ := knd_is n hn
 have KO : Hid (∀ u, Calls Tryz.prog 118 #[.int .i64 n] u fun e w' => e = .returned (.tuple #[.agg #[.int .i64 k0, .int .i64 p, .int .i64 k2, .int .i64 k3, .int .i64 k4, .int .i64 k5, .int .i64 k6, .int .i64 k7, .int .i64 k8], .bool true]) ∧ Kept u w') := fun u => by
  have := of_knd n hn u
  rw [hk] at this
  exact this
 rw [hk] at KT
 have hK : Kept w (w.alloc (.cells #[.bool ng, .slice ao ln c, .int .i64 x] 24)) := (Kept.refl w).alloc _ _
 go_enter Tryz.func133, Tryz.ntmps133
 go_wp2_with fail
 refine (KO.out _).mono ?_
 rintro e w1 ⟨rfl, hk1⟩
 have hk2 := hk1.alloc #[.int .i64 k0, .int .i64 p, .int .i64 k2, .int .i64 k3, .int .i64 k4, .int .i64 k5, .int .i64 k6, .int .i64 k7, .int .i64 k8] 154
 have hb : w.heap.size < (w.alloc (.cells #[.bool ng, .slice ao ln c, .int .i64 x] 24)).heap.size := by simp
 have q0 := (hk2.below.cell (p := ⟨w.heap.size, 0, none⟩) hb).trans (show _ = some (.bool ng) by simp [go_sem])
 have q1 := (hk2.below.cell (p := ⟨w.heap.size, 1, none⟩) hb).trans (show _ = some (.slice ao ln c) by simp [go_sem])
 have q2 := (hk2.below.cell (p := ⟨w.heap.size, 2, none⟩) hb).trans (show _ = some (.int .i64 x) by simp [go_sem])
 clear hb
 go_wp2_with fail
 refine (KT.out _ (hK.trans hk2)).mono ?_
 rintro e w2 ⟨rfl, hk3⟩
 go_wp2_with fail
 go_ret2
 exact ⟨rfl, hK.trans (hk2.trans hk3)⟩
theorem ref2quot (n way : Int) (hn : n = 64 ∨ n = 32) (n1 n2 : Bool) (a1 a2 : Option Addr) (l1 c1 l2 c2 : Nat) (x1 x2 b : Int) (od : Bool) (w : World) (KT : Hid (∀ u, Kept w u → Calls Tryz.prog 165 #[knd n, .agg #[.bool n1, .slice a1 l1 c1, .int .i64 x1], .agg #[.bool n2, .slice a2 l2 c2, .int .i64 x2], .int .i64 way] u fun e w' => e = .returned (.tuple #[.int .i64 b, .bool od]) ∧ Kept u w')) : Calls Tryz.prog 134 #[.agg #[.bool n1, .slice a1 l1 c1, .int .i64 x1], .agg #[.bool n2, .slice a2 l2 c2, .int .i64 x2], .int .i64 n, .int .i64 way] w fun e w' => e = .returned (.tuple #[.int .i64 b, .bool od]) ∧ Kept w w' := by
 obtain ⟨k0, p, k2, k3, k4, k5, k6, k7, k8, hk⟩ := knd_is n hn
 have KO : Hid (∀ u, Calls Tryz.prog 118 #[.int .i64 n] u fun e w' => e = .returned (.tuple #[.agg #[.int .i64 k0, .int .i64 p, .int .i64 k2, .int .i64 k3, .int .i64 k4, .int .i64 k5, .int .i64 k6, .int .i64 k7, .int .i64 k8], .bool true]) ∧ Kept u w') := fun u => by
  have := of_knd n hn u
  rw [hk] at this
  exact this
 rw [hk] at KT
 obtain ⟨X, hX⟩ : ∃ X, X = (w.alloc (.cells #[.bool n1, .slice a1 l1 c1, .int .i64 x1] 24)).alloc (.cells #[.bool n2, .slice a2 l2 c2, .int .i64 x2] 24) := ⟨_, rfl⟩
 have hK : Kept w X := by rw [hX]; exact ((Kept.refl w).alloc _ _).alloc _ _
 have HQ : Hid (∀ u, Kept X u → (u.cell? ⟨w.heap.size, 0, none⟩ = some (.bool n1) ∧ u.cell? ⟨w.heap.size, 1, none⟩ = some (.slice a1 l1 c1) ∧ u.cell? ⟨w.heap.size, 2, none⟩ = some (.int .i64 x1)) ∧ u.cell? ⟨w.heap.size + 1, 0, none⟩ = some (.bool n2) ∧ u.cell? ⟨w.heap.size + 1, 1, none⟩ = some (.slice a2 l2 c2) ∧ u.cell? ⟨w.heap.size + 1, 2, none⟩ = some (.int .i64 x2)) := fun u k => by
  have hb0 : w.heap.size < X.heap.size := by rw [hX]; simp [go_sem]
  have hb1 : w.heap.size + 1 < X.heap.size := by rw [hX]; simp
  refine ⟨⟨(k.below.cell (p := ⟨w.heap.size, 0, none⟩) hb0).trans ?_, (k.below.cell (p := ⟨w.heap.size, 1, none⟩) hb0).trans ?_, (k.below.cell (p := ⟨w.heap.size, 2, none⟩) hb0).trans ?_⟩, (k.below.cell (p := ⟨w.heap.size + 1, 0, none⟩) hb1).trans ?_, (k.below.cell (p := ⟨w.heap.size + 1, 1, none⟩) hb1).trans ?_, (k.below.cell (p := ⟨w.heap.size + 1, 2, none⟩) hb1).trans ?_⟩
  all_goals
   rw [hX]
   simp [go_sem]
 go_enter Tryz.func134, Tryz.ntmps134
 go_upto_region 1 with fail
 rw [← hX]
 clear hX
 go_wp2_with fail
 refine (KO.out _).mono ?_
 rintro e w1 ⟨rfl, hk1⟩
 have hk2 := hk1.alloc #[.int .i64 k0, .int .i64 p, .int .i64 k2, .int .i64 k3, .int .i64 k4, .int .i64 k5, .int .i64 k6, .int .i64 k7, .int .i64 k8] 154
 obtain ⟨⟨q0, q1, q2⟩, q3, q4, q5⟩ := HQ.out _ hk2
 go_wp2_with fail
 refine (KT.out _ (hK.trans hk2)).mono ?_
 rintro e w2 ⟨rfl, hk3⟩
 go_wp2_with fail
 go_ret2
 exact ⟨rfl, hK.trans (hk2.trans hk3)⟩
theorem told_pz_64 (ng : Bool) (M : Nat) (hM : M ≤ 9218868437227405312) : (if (if ng = true then (-9223372036854775808 : Int) else 0) + (M : Int) = -9223372036854775808 then 0 else (if ng = true then (-9223372036854775808 : Int) else 0) + (M : Int)) = pz 64 (kyz ng M) := by
 unfold pz kyz
 cases ng
 ·simp only [Bool.false_eq_true, if_false, if_true]
  (repeat' split) <;> first | omega | (exfalso; simp_all; done)
 ·simp only [if_true]
  (repeat' split) <;> first | omega | (exfalso; simp_all; done)
theorem told_pz_32 (ng : Bool) (M : Nat) (hM : M ≤ 2139095040) : (if (if ng = true then (2147483648 : Int) else 0) + (M : Int) = 2147483648 then 0 else (if ng = true then (2147483648 : Int) else 0) + (M : Int)) = pz 32 (kyz ng M) := by
 unfold pz kyz
 cases ng
 ·simp only [Bool.false_eq_true, if_false, if_true]
  (repeat' split) <;> first | omega | (exfalso; simp_all; done)
 ·simp only [if_true]
  (repeat' split) <;> first | omega | (exfalso; simp_all; done)
theorem shl_len2 (A s z : Nat) (h : s ≤ 30 * z) : (digs (A * 2 ^ s)).length ≤ (digs A).length + z := by
 have h1 := digs_lt A _ (Nat.le_refl (digs A).length)
 have h2 : 2 ^ s ≤ 2 ^ (30 * z) := Nat.pow_le_pow_right (by omega) h
 have h3 : A * 2 ^ s < 2 ^ (30 * ((digs A).length + z)) := by
  rw [Nat.mul_add, Nat.pow_add]
  exact Nat.mul_lt_mul_of_lt_of_le h1 h2 (Nat.two_pow_pos _)
 exact digs_length_le _ _ h3
theorem bl_bound (r : Nm) (hv : vld r = true) (hne : r.mag ≠ []) : bl (nv r.mag) ≤ 60000 := by
 obtain ⟨hd, h0, hl, hx1, hx2⟩ := vld_digs r hv hne
 have := bl_le (nv r.mag) (30 * (digs (nv r.mag)).length) (digs_lt (nv r.mag) _ (Nat.le_refl _))
 rw [hd] at this
 omega
theorem kmax (n : Int) (hn : n = 64 ∨ n = 32) : kprec n ≤ 53 ∧ 24 ≤ kprec n ∧ -1074 ≤ kleast n ∧ kleast n ≤ -149 := by
 rcases hn with rfl | rfl <;> decide
theorem quot_both (n way : Int) (hn : n = 64 ∨ n = 32) (hw : way = 0 ∨ way = 1 ∨ way = 2) (a b : Nm) (ha : vld a = true) (hb : vld b = true) (ham : a.mag ≠ []) (hbm : b.mag ≠ []) : ∃ (q : Int) (o : Bool), (∀ (a1 a2 : Option Addr) (c1 c2 : Nat) (w : World), Tab w → Sl w (.slice a1 a.mag.length c1) a.mag → Sl w (.slice a2 b.mag.length c2) b.mag → Calls Tryz.prog 60 #[.agg #[.bool a.neg, .slice a1 a.mag.length c1, .int .i64 a.exp], .agg #[.bool b.neg, .slice a2 b.mag.length c2, .int .i64 b.exp], .int .i64 n, .int .i64 way] w fun e w' => e = .returned (.tuple #[.int .i64 q, .bool o, .int .i64 0]) ∧ Kept w w') ∧ (∀ (va vb : Value) (w : World), RL w va a.mag → RL w vb b.mag → Calls Tryz.prog 165 #[knd n, .agg #[.bool a.neg, va, .int .i64 a.exp], .agg #[.bool b.neg, vb, .int .i64 b.exp], .int .i64 way] w fun e w' => e = .returned (.tuple #[.int .i64 q, .bool o]) ∧ Kept w w') := by
 obtain ⟨da, a0, la, xa1, xa2⟩ := vld_digs a ha ham
 obtain ⟨db, b0, lb, xb1, xb2⟩ := vld_digs b hb hbm
 have hTa := bl_bound a ha ham
 have hTb := bl_bound b hb hbm
 obtain ⟨pm1, pm2, pm3, pm4⟩ := kmax n hn
 obtain ⟨sh, hsh⟩ : ∃ sh : Nat, (sh : Int) = max 0 ((bl (nv b.mag) : Int) - (bl (nv a.mag) : Int) + kprec n + 2) := ⟨(max 0 ((bl (nv b.mag) : Int) - (bl (nv a.mag) : Int) + kprec n + 2)).toNat, by omega⟩
 obtain ⟨k, Q, H, F, od, hf, rt, hC, hP⟩ := quotz_all n hn a b ha hb ham hbm (-5000000) (by omega) (by omega) (by omega) (by unfold qex; omega) (by omega)
 obtain ⟨e, he⟩ : ∃ e, e = a.exp - b.exp - sh := ⟨_, rfl⟩
 obtain ⟨u, hu⟩ : ∃ u, unz (kprec n).toNat (kleast n) (bl (nv a.mag * 2 ^ sh / nv b.mag)) e = u := ⟨_, rfl⟩
 obtain ⟨k', hk'⟩ : ∃ k', flo (nv a.mag * 2 ^ sh / nv b.mag) (e - u) = k' := ⟨_, rfl⟩
 obtain ⟨F', hF'⟩ : ∃ F', F' = (u - kleast n).toNat * cbn n + k' := ⟨_, rfl⟩
 obtain ⟨Q', H', hD⟩ := quot_cutz n hn (nv a.mag) (nv b.mag) a0 b0 a.exp b.exp (-5000000) e sh (by omega) he (by omega) (by omega) (by omega) u hu k' F' hk' hF'
 have hS := cutz_same hC hD (rv_lt n hn) way hw (a.neg != b.neg) (ifn n)
 refine ⟨_, _, fun a1 a2 c1 c2 w hT h1 h2 => hP way hw a1 a2 c1 c2 w hT h1 h2, fun va vb w h1 h2 => ?_⟩
 rw [hS.1, hS.2]
 obtain ⟨p1, -, -⟩ := kp_toNat n hn
 have hq := quot_bits (nv a.mag) (nv b.mag) sh (kprec n).toNat a0 b0 (by omega)
 have hq0 : nv a.mag * 2 ^ sh / nv b.mag ≠ 0 := by
  intro h0
  rw [h0, bl_zero] at hq
  omega
 have hl1 := shl_len2 (nv a.mag) sh 5000 (by omega)
 have hl2 := digs_len_le (nv a.mag * 2 ^ sh / nv b.mag) (nv a.mag * 2 ^ sh) (Nat.div_le_self _ _)
 rw [← da] at h1 la
 rw [← db] at h2 lb
 have hM := mgz_le way (a.neg != b.neg) (ifn n) F' (decide (k' % 2 = 1)) (decide (flo (nv a.mag * 2 ^ sh / nv b.mag) (e - u + 1) % 2 = 1)) (decide (nv a.mag * 2 ^ sh % nv b.mag ≠ 0) || rst (nv a.mag * 2 ^ sh / nv b.mag) (e - u + 1))
 rcases hn with rfl | rfl
 ·refine rQuot_any 64 53 4503599627370496 2047 (-1074) 1024 9218868437227405312 (-9223372036854775808) 9221120237041090561 (by decide) (nv a.mag) (nv b.mag) a0 b0 a.neg b.neg a.exp b.exp ⟨xa1, xa2⟩ ⟨xb1, xb2⟩ va vb w h1 h2 la lb sh hsh way ((if (a.neg != b.neg) = true then (-9223372036854775808 : Int) else 0) + (mgz way (a.neg != b.neg) (ifn 64) F' (decide (k' % 2 = 1)) (decide (flo (nv a.mag * 2 ^ sh / nv b.mag) (e - u + 1) % 2 = 1)) (decide (nv a.mag * 2 ^ sh % nv b.mag ≠ 0) || rst (nv a.mag * 2 ^ sh / nv b.mag) (e - u + 1)) : Nat)) _ _ (fun v r1 hr => ?_) (fun v => ?_)
  ·rw [← he]
   exact rcut_64 way hw (a.neg != b.neg) _ hq0 e _ r1 v hr (by omega) (by omega) (by omega) u hu k' hk' F' hF' _ _ _ rfl rfl rfl _ rfl
  ·have := rtold_64 ((if (a.neg != b.neg) = true then (-9223372036854775808 : Int) else 0) + (mgz way (a.neg != b.neg) (ifn 64) F' (decide (k' % 2 = 1)) (decide (flo (nv a.mag * 2 ^ sh / nv b.mag) (e - u + 1) % 2 = 1)) (decide (nv a.mag * 2 ^ sh % nv b.mag ≠ 0) || rst (nv a.mag * 2 ^ sh / nv b.mag) (e - u + 1)) : Nat)) (odz way (a.neg != b.neg) (ifn 64) F' (decide (k' % 2 = 1)) (decide (flo (nv a.mag * 2 ^ sh / nv b.mag) (e - u + 1) % 2 = 1)) (decide (nv a.mag * 2 ^ sh % nv b.mag ≠ 0) || rst (nv a.mag * 2 ^ sh / nv b.mag) (e - u + 1))) v
   rw [told_pz_64 _ _ hM] at this
   exact this
 ·refine rQuot_any 32 24 8388608 255 (-149) 128 2139095040 2147483648 2143289345 (by decide) (nv a.mag) (nv b.mag) a0 b0 a.neg b.neg a.exp b.exp ⟨xa1, xa2⟩ ⟨xb1, xb2⟩ va vb w h1 h2 la lb sh hsh way ((if (a.neg != b.neg) = true then (2147483648 : Int) else 0) + (mgz way (a.neg != b.neg) (ifn 32) F' (decide (k' % 2 = 1)) (decide (flo (nv a.mag * 2 ^ sh / nv b.mag) (e - u + 1) % 2 = 1)) (decide (nv a.mag * 2 ^ sh % nv b.mag ≠ 0) || rst (nv a.mag * 2 ^ sh / nv b.mag) (e - u + 1)) : Nat)) _ _ (fun v r1 hr => ?_) (fun v => ?_)
  ·rw [← he]
   exact rcut_32 way hw (a.neg != b.neg) _ hq0 e _ r1 v hr (by omega) (by omega) (by omega) u hu k' hk' F' hF' _ _ _ rfl rfl rfl _ rfl
  ·have := rtold_32 ((if (a.neg != b.neg) = true then (2147483648 : Int) else 0) + (mgz way (a.neg != b.neg) (ifn 32) F' (decide (k' % 2 = 1)) (decide (flo (nv a.mag * 2 ^ sh / nv b.mag) (e - u + 1) % 2 = 1)) (decide (nv a.mag * 2 ^ sh % nv b.mag ≠ 0) || rst (nv a.mag * 2 ^ sh / nv b.mag) (e - u + 1)) : Nat)) (odz way (a.neg != b.neg) (ifn 32) F' (decide (k' % 2 = 1)) (decide (flo (nv a.mag * 2 ^ sh / nv b.mag) (e - u + 1) % 2 = 1)) (decide (nv a.mag * 2 ^ sh % nv b.mag ≠ 0) || rst (nv a.mag * 2 ^ sh / nv b.mag) (e - u + 1))) v
   rw [told_pz_32 _ _ hM] at this
   exact this
/- the program's root: its lead, of the fine root -/
def QE (n way : Int) (a b : Nm) : Int := if FE n way (vld a && vld b) = 0 ∧ b.mag.length = 0 then 8 else FE n way (vld a && vld b)
def RE (n way : Int) (a : Nm) : Int := if FE n way (vld a) = 0 ∧ a.neg = true then 9 else FE n way (vld a)
theorem knd_lit (n : Int) (hn : n = 64 ∨ n = 32) : ∃ k0 p k2 k3 k4 k5 k6 k7 k8 : Int, knd n = .agg #[.int .i64 k0, .int .i64 p, .int .i64 k2, .int .i64 k3, .int .i64 k4, .int .i64 k5, .int .i64 k6, .int .i64 k7, .int .i64 k8] := knd_is n hn
theorem round_full (n way : Int) (a : Nm) (ra : Rg a.mag) (la : a.mag.length < 60000000) (f : Int) (hf : f = FE n way (vld a)) : ∃ (q : Int) (o : Bool), (∀ (a1 : Option Addr) (c1 : Nat) (w : World), Tab w → Sl w (.slice a1 a.mag.length c1) a.mag → Calls Tryz.prog 86 #[.agg #[.bool a.neg, .slice a1 a.mag.length c1, .int .i64 a.exp], .int .i64 n, .int .i64 way] w fun e w' => e = .returned (.tuple #[.int .i64 q, .bool o, .int .i64 f]) ∧ Kept w w') ∧ (f ≠ 0 → q = 0 ∧ o = false) ∧ (f = 0 → ∀ (a1 : Option Addr) (c1 : Nat) (w : World), (a1 = none → c1 = 0) → Sl w (.slice a1 a.mag.length c1) a.mag → Calls Tryz.prog 133 #[.agg #[.bool a.neg, .slice a1 a.mag.length c1, .int .i64 a.exp], .int .i64 n, .int .i64 way] w fun e w' => e = .returned (.tuple #[.int .i64 q, .bool o]) ∧ Kept w w') := by
 by_cases h0 : f = 0
 ·obtain ⟨hn, hw, hv⟩ := fe_ok (hf.symm.trans h0)
  refine ⟨rzN n way a, oxN n way a, fun a1 c1 w hT h1 => round_ans n way a ra la a1 c1 w hT h1 _ _ f hf (fun g => absurd h0 g) (fun _ => ⟨rfl, rfl⟩), fun g => absurd h0 g, fun _ a1 c1 w hc h1 => ?_⟩
  refine ref2round n way hn a.neg a1 a.mag.length c1 a.exp _ _ w (fun u k => ?_)
  rcases hn with rfl | rfl
  ·exact rto_64 way hw a hv _ u ⟨a1, c1, rfl, hc, h1.kept k⟩
  ·exact rto_32 way hw a hv _ u ⟨a1, c1, rfl, hc, h1.kept k⟩
 ·exact ⟨0, false, fun a1 c1 w hT h1 => round_ans n way a ra la a1 c1 w hT h1 _ _ f hf (fun _ => ⟨rfl, rfl⟩) (fun g => absurd g h0), fun _ => ⟨rfl, rfl⟩, fun g => absurd g h0⟩
theorem quot_full (n way : Int) (a b : Nm) (ra : Rg a.mag) (rb : Rg b.mag) (la : a.mag.length < 60000000) (lb : b.mag.length < 60000000) (f : Int) (hf : f = QE n way a b) : ∃ (q : Int) (o : Bool), (∀ (a1 a2 : Option Addr) (c1 c2 : Nat) (w : World), Tab w → Sl w (.slice a1 a.mag.length c1) a.mag → Sl w (.slice a2 b.mag.length c2) b.mag → Calls Tryz.prog 60 #[.agg #[.bool a.neg, .slice a1 a.mag.length c1, .int .i64 a.exp], .agg #[.bool b.neg, .slice a2 b.mag.length c2, .int .i64 b.exp], .int .i64 n, .int .i64 way] w fun e w' => e = .returned (.tuple #[.int .i64 q, .bool o, .int .i64 f]) ∧ Kept w w') ∧ (f ≠ 0 → q = 0 ∧ o = false) ∧ (f = 0 → ∀ (a1 a2 : Option Addr) (c1 c2 : Nat) (w : World), (a1 = none → c1 = 0) → (a2 = none → c2 = 0) → Sl w (.slice a1 a.mag.length c1) a.mag → Sl w (.slice a2 b.mag.length c2) b.mag → Calls Tryz.prog 134 #[.agg #[.bool a.neg, .slice a1 a.mag.length c1, .int .i64 a.exp], .agg #[.bool b.neg, .slice a2 b.mag.length c2, .int .i64 b.exp], .int .i64 n, .int .i64 way] w fun e w' => e = .returned (.tuple #[.int .i64 q, .bool o]) ∧ Kept w w') := by
 unfold QE at hf
 by_cases h0 : FE n way (vld a && vld b) = 0
 ·obtain ⟨hn, hw, hv⟩ := fe_ok h0
  obtain ⟨ha, hb⟩ := (Bool.and_eq_true_iff).1 hv
  by_cases hbm : b.mag.length = 0
  ·rw [if_pos ⟨h0, hbm⟩] at hf
   subst hf
   exact ⟨0, false, fun a1 a2 c1 c2 w hT h1 h2 => quot_div n way hn hw a b ra rb la lb a1 a2 c1 c2 w h1 h2 ha hb hbm, fun _ => ⟨rfl, rfl⟩, fun g => absurd g (by decide)⟩
  ·rw [if_neg (fun g => hbm g.2), h0] at hf
   subst hf
   by_cases ham : a.mag.length = 0
   ·refine ⟨0, false, fun a1 a2 c1 c2 w hT h1 h2 => quot_nought n way hn hw a b ra rb la lb a1 a2 c1 c2 w h1 h2 ha hb ham hbm, fun _ => ⟨rfl, rfl⟩, fun _ a1 a2 c1 c2 w hc1 hc2 h1 h2 => ?_⟩
    refine ref2quot n way hn a.neg b.neg a1 a2 a.mag.length c1 b.mag.length c2 a.exp b.exp _ _ w (fun u k => ?_)
    obtain ⟨k0, p, k2, k3, k4, k5, k6, k7, k8, hk⟩ := knd_lit n hn
    rw [ham]
    exact rQuot_nil _ k0 p k2 k3 k4 k5 k6 k7 k8 hk a.neg a1 c1 a.exp b.neg a2 b.mag.length c2 b.exp way u
   ·have ham' : a.mag ≠ [] := fun g => ham (by rw [g]; rfl)
    have hbm' : b.mag ≠ [] := fun g => hbm (by rw [g]; rfl)
    obtain ⟨q, o, hP, hD⟩ := quot_both n way hn hw a b ha hb ham' hbm'
    refine ⟨q, o, fun a1 a2 c1 c2 w hT h1 h2 => hP a1 a2 c1 c2 w hT h1 h2, fun g => absurd rfl g, fun _ a1 a2 c1 c2 w hc1 hc2 h1 h2 => ?_⟩
    exact ref2quot n way hn a.neg b.neg a1 a2 a.mag.length c1 b.mag.length c2 a.exp b.exp _ _ w (fun u k => hD _ _ u ⟨a1, c1, rfl, hc1, h1.kept k⟩ ⟨a2, c2, rfl, hc2, h2.kept k⟩)
 ·rw [if_neg (fun g => h0 g.1)] at hf
  have hf0 : f ≠ 0 := by rw [hf]; exact h0
  exact ⟨0, false, fun a1 a2 c1 c2 w hT h1 h2 => quot_no n way a b ra rb la lb a1 a2 c1 c2 w h1 h2 hT f hf hf0, fun _ => ⟨rfl, rfl⟩, fun g => absurd g hf0⟩
end Go.Proofs.YtdpccifhhencgaaGreatDoor
