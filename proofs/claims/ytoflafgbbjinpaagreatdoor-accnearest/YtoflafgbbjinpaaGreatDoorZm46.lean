/- For AccTimes: sums of floats, times a float. -/
import Derived.Test.YtoflafgbbjinpaaGreatDoorZm45
import Derived.Test.YtoflafgbbjinpaaGreatDoorZm44
namespace Go.Proofs.YtoflafgbbjinpaaGreatDoor
open Go.ChangeShapes Go.WideShapes Go.ChangeAt Go.RowKit
set_option linter.unusedVariables false
set_option linter.unusedSimpArgs false
set_option maxHeartbeats 16000000
set_option maxRecDepth 100000
theorem one_zv9 (n : Int) (hn : n = 64 ∨ n = 32) : zv n (oneN n) = 2 ^ k74 := by
 rcases hn with rfl | rfl
 ·have e : (pexp (oneN 64) 64 + 1074).toNat = k74 - 52 := by decide +kernel
  have m : pmag (oneN 64) 64 = 2 ^ 52 := by decide +kernel
  have g : pneg (oneN 64) 64 = false := by decide +kernel
  unfold zv
  rw [e, m, g]
  simp only [sg, ← Int.pow_add]
  rw [show 52 + (k74 - 52) = k74 by rw [k74_is]]
  simp
 ·have e : (pexp (oneN 32) 32 + 1074).toNat = k74 - 23 := by decide +kernel
  have m : pmag (oneN 32) 32 = 2 ^ 23 := by decide +kernel
  have g : pneg (oneN 32) 32 = false := by decide +kernel
  unfold zv
  rw [e, m, g]
  simp only [sg, ← Int.pow_add]
  rw [show 23 + (k74 - 23) = k74 by rw [k74_is]]
  simp
theorem cls_range9 (b n : Int) : 0 ≤ cls b n ∧ cls b n ≤ 4 := by
 unfold cls clsOf
 repeat' split
 all_goals decide
def expH : Nat := 2100
theorem expH_is : expH = 2100 := rfl
def expG : Nat := 2110
theorem expG_is : expG = 2110 := rfl
theorem zv_lt2 (n b : Int) (h : FinP n b) : (zv n b).natAbs < 2 ^ expH := by
 unfold zv
 rw [sgl_abs, Int.natAbs_mul, Int.natAbs_pow]
 have h1 := h.m
 have h2 := h.e
 obtain ⟨e, he⟩ : ∃ e, e = (pexp b n + 1074).toNat := ⟨_, rfl⟩
 rw [← he]
 have h3 : (pmag b n).natAbs < 2 ^ 53 := by
  have : (2 : Nat) ^ 53 = 9007199254740992 := by decide
  omega
 have h4 : (2 : Int).natAbs = 2 := rfl
 rw [h4]
 have hp : 0 < 2 ^ e := Nat.two_pow_pos e
 have h5 : (pmag b n).natAbs * 2 ^ e < 2 ^ (53 + e) := by
  rw [Nat.pow_add]
  exact Nat.mul_lt_mul_of_pos_right h3 hp
 have h6 : (2 : Nat) ^ (53 + e) ≤ 2 ^ expH := Nat.pow_le_pow_right (by decide) (by rw [expH_is]; omega)
 omega
theorem sI_small (f : Nat → Int) (h : ∀ j, (f j).natAbs < 2 ^ expH) : ∀ n, (sI f n).natAbs ≤ n * 2 ^ expH
 | 0 => by simp [sI]
 | n + 1 => by
  have h1 := sI_small f h n
  have h2 := h n
  simp only [sI]
  have h3 := Int.natAbs_add_le (sI f n) (f n)
  rw [Nat.succ_mul]
  omega
theorem sI_small2 (f : Nat → Int) (h : ∀ j, (f j).natAbs < 2 ^ expH) (n : Nat) (hn : n ≤ 60) : (sI f n).natAbs < 2 ^ expG := by
 have h1 := sI_small f h n
 have h2 : n * 2 ^ expH ≤ 60 * 2 ^ expH := Nat.mul_le_mul_right _ hn
 have h3 : 60 * 2 ^ expH < 2 ^ expG := by
  rw [show expG = 10 + expH from rfl, Nat.pow_add]
  exact Nat.mul_lt_mul_of_pos_right (by decide) (Nat.two_pow_pos _)
 omega
/- a number in units of 2^-1074 -/
theorem unit_lies {Z : Int} {r : Nm} (hr : DN (Z * 2 ^ k74) r) (hZ : Z.natAbs < 2 ^ expG) : Lies (-1074) 2200 r ∧ vz (-1074) r = Z := by
 have h := hr.is
 rw [cfm_shift, show (-2148 : Int) + ((k74 : Nat) : Int) = -1074 by rw [k74_is]; decide] at h
 obtain ⟨K, hK⟩ : ∃ K : Nat, K = 2200 := ⟨_, rfl⟩
 have hGK : expG ≤ K := by rw [hK, expG_is]; omega
 have hZ2 : Z.natAbs < 2 ^ K := Nat.lt_of_lt_of_le hZ (Nat.pow_le_pow_right (by decide) hGK)
 rw [hK] at hZ2
 obtain ⟨r', h1, h2, h3⟩ := cfm_lies (-1074) 2200 (by decide) (by decide) (by decide) Z hZ2
 rw [h] at h1
 cases h1
 exact ⟨h2, h3⟩
theorem prod_bd (Z B : Int) (hZ : Z.natAbs < 2 ^ expG) (hB : B.natAbs < 2 ^ expG) : (Z * B).natAbs < 2 ^ expK := by
 rw [Int.natAbs_mul]
 have h1 : Z.natAbs * B.natAbs < 2 ^ expG * 2 ^ expG := Nat.mul_lt_mul'' hZ hB
 rw [← Nat.pow_add] at h1
 exact Nat.lt_of_lt_of_le h1 (Nat.pow_le_pow_right (by decide) (by rw [expG_is, expK_is]; omega))
theorem pow_bd : ((2 : Int) ^ k74).natAbs < 2 ^ expG := by
 have hlt : k74 < expG := by rw [k74_is, expG_is]; omega
 rw [Int.natAbs_pow]
 generalize expG = G at *
 exact Nat.pow_lt_pow_right (by decide) hlt
theorem zv_bd (n b : Int) (h : FinP n b) : (zv n b).natAbs < 2 ^ expG := Nat.lt_of_lt_of_le (zv_lt2 n b h) (Nat.pow_le_pow_right (by decide) (by rw [expG_is, expH_is]; omega))
/- a product of numbers -/
theorem mul_units {Z B : Int} {r y q : Nm} (hr : Lies (-1074) 2200 r ∧ vz (-1074) r = Z) (hy : Lies (-1074) 2200 y ∧ vz (-1074) y = B) (hq : DN (Z * B) q) (ao bo : Option Addr) (c d : Nat) (w : World) (hT : Tab w) (h : Sl w (.slice ao r.mag.length c) r.mag) (h' : Sl w (.slice bo y.mag.length d) y.mag) :
  Calls Tryz.prog 17 #[.agg #[.bool r.neg, .slice ao r.mag.length c, .int .i64 r.exp], .agg #[.bool y.neg, .slice bo y.mag.length d, .int .i64 y.exp]] w fun e w' => ∃ un ua ul uc ux, e = .returned (.tuple #[.agg #[.bool un, .slice ua ul uc, .int .i64 ux], .int .i64 0]) ∧ New w w' (.agg #[.bool un, .slice ua ul uc, .int .i64 ux]) q ∧ Kept w w' := by
 have hm : mulN r y = some q := by
  rw [mul_cfm (-1074) 2200 (by decide) (by decide) (by decide) _ _ hr.1 hy.1, hr.2, hy.2]
  exact hq.is
 refine (mulz_ok w hT r.neg r.mag r.exp hr.1.ok ao c y.neg y.mag y.exp hy.1.ok bo d h h' q hm).mono ?_
 rintro e w' ⟨v, rfl, hN, k⟩
 obtain ⟨vn, va, vl, vc, vx, rfl⟩ := hN.shape
 exact ⟨_, _, _, _, _, rfl, hN, k⟩
theorem look_one (n : Int) (hn : n = 64 ∨ n = 32) {S : Int} {r : Nm} (hr : DN S r) (b : Int) (vb : val b n = true) (p m z : Bool) (ao : Option Addr) (c : Nat) (w : World) (h : Sl w (.slice ao r.mag.length c) r.mag) (q : Nat) (u : World) (k : Kept w u) (hq : q < u.heap.size) (h0 : u.cell? ⟨q, 0, none⟩ = some (.int .i64 b)) :
  Calls Tryz.prog 67 #[.int .i64 n, accV r.neg (.slice ao r.mag.length c) r.exp p m z, .slice (some ⟨q, 0, none⟩) 1 1] u fun e w' => e = .returned (.int .i64 0) ∧ Kept u w' := by
 have hs : Sl u (.slice (some ⟨q, 0, none⟩) 1 1) [b] := by
  refine ⟨_, 1, rfl, by simp, by simp [maxLen], fun _ => ⟨q, 0, rfl, hq, fun i hi => ?_⟩⟩
  have : i = 0 := by simp at hi; omega
  subst this
  simpa using h0
 have hL : [b].all (val · n) = true := by simp [vb]
 have := look_any n r.neg r.mag r.exp hr.rg.1 (by have := hr.rg.2; omega) ao c p m z [b] (by simp) u (h.kept k) _ hs
 rw [show lkE n (vld ⟨r.neg, r.mag, r.exp⟩) [b] = 0 by unfold lkE; rw [show vld ⟨r.neg, r.mag, r.exp⟩ = true from hr.vld, if_neg (by simp [val, hn] <;> omega), if_neg (by simp), if_pos hL]] at this
 exact this
/- a finite sum times a finite float that is not 0 -/
theorem times_dn (n b : Int) (hn : n = 64 ∨ n = 32) (b1 : -9223372036854775808 ≤ b) (b2 : b ≤ 9223372036854775807) (vb : val b n = true) (hc : cls b n = 1 ∨ cls b n = 2) {Z : Int} {r q : Nm} (hr : DN (Z * 2 ^ k74) r) (hZ : Z.natAbs < 2 ^ expG) (hq : DN (Z * zv n b) q) (ao : Option Addr) (c : Nat) (w : World) (hT : Tab w) (h : Sl w (.slice ao r.mag.length c) r.mag) :
  Calls Tryz.prog 31 #[accV r.neg (.slice ao r.mag.length c) r.exp false false false, .int .i64 b, .int .i64 n] w fun e w' => ∃ un ua ul uc ux, e = .returned (.tuple #[accV un (.slice ua ul uc) ux false false false, .int .i64 0]) ∧ New w w' (.agg #[.bool un, .slice ua ul uc, .int .i64 ux]) q ∧ Kept w w' := by
 have hc3 : cls b n < 3 := by omega
 have hF := finP_of b n b1 b2 hn hc3
 obtain ⟨y, ey, fy1, -, hY⟩ := of_all b n b1 b2 hn
 obtain ⟨rfl, rfl⟩ := fy1 hc3
 have := times_fin n b r.neg ao r.mag.length c r.exp false false false w (cls b n) hc (ofN b n) q (fun q' u k hq' h0 => look_one n hn hr b vb false false false ao c w h q' u k hq' h0) (fun u => class_any b n u) (fun u k => hY u (hT.kept k)) (fun u ya yc k hs => mul_units (unit_lies hr hZ) (of_lies n b hn hc3 hF) hq ao ya c yc u (hT.kept k) (h.kept k) hs)
 refine this.mono ?_
 rintro e w' ⟨un, ua, ul, uc, ux, rfl, hN, k⟩
 refine ⟨un, ua, ul, uc, ux, ?_, hN, k⟩
 cases (ofN b n).neg <;> rfl
theorem times_nought (n b : Int) (hn : n = 64 ∨ n = 32) (vb : val b n = true) (hc : cls b n = 0) {S : Int} {r : Nm} (hr : DN S r) (ao : Option Addr) (c : Nat) (w : World) (h : Sl w (.slice ao r.mag.length c) r.mag) :
  Calls Tryz.prog 31 #[accV r.neg (.slice ao r.mag.length c) r.exp false false false, .int .i64 b, .int .i64 n] w fun e w' => e = .returned (.tuple #[accV false (.slice none 0 0) 0 false false false, .int .i64 0]) ∧ Kept w w' :=
 times_zero n b r.neg ao r.mag.length c r.exp false false false w (fun q' u k hq' h0 => look_one n hn hr b vb false false false ao c w h q' u k hq' h0) (fun u => by rw [← hc]; exact class_any b n u)
theorem signOf_zero (n : Int) (hn : n = 64 ∨ n = 32) (ao : Option Addr) (c : Nat) (w : World) (h : Sl w (.slice ao 0 c) []) : Calls Tryz.prog 82 #[accV false (.slice ao 0 c) 0 false false false, .int .i64 n] w fun e w' => e = .returned (.int .i64 0) ∧ Kept w w' := by
 have KF : Hid (∀ u, Calls Tryz.prog 71 #[accV false (.slice ao 0 c) 0 false false false, .int .i64 n] u fun e w' => e = .returned (.tuple #[.int .i64 (nfE (ivn n) (nvn n) (gvn n) false false false).1, .bool false]) ∧ Kept u w') := fun u => notFin n hn false ao 0 c 0 false false false u
 have KS : Hid (∀ u, Kept w u → Calls Tryz.prog 127 #[.agg #[.bool false, .slice ao 0 c, .int .i64 0]] u fun e w' => e = .returned (.tuple #[.int .i64 0, .int .i64 0]) ∧ Kept u w') := fun u k => sign_ok false [] (by intro d hd; cases hd) (by decide) ao c 0 vldz u (h.kept k)
 have KI : Hid (∀ u, Calls Tryz.prog 32 #[.int .i64 0, .int .i64 n] u fun e w' => e = .returned (.int .i64 0) ∧ Kept u w') := fun u => by
  rcases hn with rfl | rfl
  ·exact (fromZero_64 u).mono (by rintro e w' ⟨rfl, rfl⟩; exact ⟨rfl, Kept.refl _⟩)
  ·exact (fromZero_32 u).mono (by rintro e w' ⟨rfl, rfl⟩; exact ⟨rfl, Kept.refl _⟩)
 clear h
 generalize (nfE (ivn n) (nvn n) (gvn n) false false false).1 = bv at *
 obtain ⟨X, hX⟩ : ∃ X, X = w.alloc (.cells #[.bool false, .slice ao 0 c, .int .i64 0, .bool false, .bool false, .bool false] 26) := ⟨_, rfl⟩
 have k0 : Kept w X := by rw [hX]; exact (Kept.refl w).alloc _ _
 obtain ⟨B, hB⟩ : ∃ R, R = w.heap.size := ⟨_, rfl⟩
 have HA : Hid (∀ u, Kept X u → _) := acc_cells1 false (.slice ao 0 c) 0 false false false 26 B hB (X := X) (by rw [hX]; exact Kept.refl _)
 go_enter Tryz.func82, Tryz.ntmps82
 go_upto_region 1 with fail
 rw [← hX, ← hB]
 clear hX hB
 obtain ⟨c0, c1, c2, c3, c4, c5⟩ := HA.out _ (Kept.refl _)
 go_wp2_with fail
 refine (KF.out _).mono ?_
 rintro e w1 ⟨rfl, k1⟩
 clear c0 c1 c2 c3 c4 c5
 obtain ⟨c0, c1, c2, c3, c4, c5⟩ := HA.out _ k1
 go_wp2_with fail
 refine (KS.out _ (k0.trans k1)).mono ?_
 rintro e w2 ⟨rfl, k2⟩
 go_wp2_with fail
 refine (KI.out _).mono ?_
 rintro e w3 ⟨rfl, k3⟩
 go_wp2_with fail
 go_ret
 exact ⟨rfl, ((k0.trans k1).trans k2).trans k3⟩
/- nothing, times what is not finite -/
theorem times_special (n b : Int) (hn : n = 64 ∨ n = 32) (b1 : -9223372036854775808 ≤ b) (b2 : b ≤ 9223372036854775807) (vb : val b n = true) (hc : ¬ cls b n < 3) : ∃ P M Z : Bool, ∀ (ao : Option Addr) (c : Nat) (w : World), Sl w (.slice ao 0 c) [] → Calls Tryz.prog 31 #[accV false (.slice ao 0 c) 0 false false false, .int .i64 b, .int .i64 n] w fun e w' => e = .returned (.tuple #[accV false (.slice none 0 0) 0 P M Z, .int .i64 0]) ∧ Kept w w' := by
 have hs : 3 ≤ cls (0 : Int) n ∨ 3 ≤ cls b n := .inr (by omega)
 have v0 : val 0 n = true := by rcases hn with rfl | rfl <;> decide
 have hb : bth n 0 b = false := by unfold bth; rw [decide_eq_false hc, Bool.and_false]
 obtain ⟨f1, f2, f3, r1, r2⟩ := flags_are n 0 b hn hb
 have hc34 : cls b n = 3 ∨ cls b n = 4 := by have := (cls_range9 b n).2; omega
 refine ⟨fP n 0 b, fM n 0 b, fN n 0 b, fun ao c w h => times_inf n b false ao 0 c 0 false false false w (cls b n) 0 (mlS n 0 b) hc34 (fP n 0 b) (fM n 0 b) (fN n 0 b) (fun q' u k hq' h0 => ?_) (fun u => class_any b n u) (fun u k => signOf_zero n hn ao c u (h.kept k)) (fun u => mul_special n hn 0 b (by decide) (by decide) b1 b2 v0 vb hs u) (fun u => ?_)⟩
 ·exact look_one n hn dn_zero b vb false false false ao c w h q' u k hq' h0
 ·have := flag_any (mlS n 0 b) n r1 r2 u
  rw [f1, f2, f3] at this
  exact this
/- AddNum, by values -/
theorem addNum_dn {S T : Int} {r t q : Nm} (hr : DN S r) (ht : DN T t) (hq : DN (S + T) q) (ao bo : Option Addr) (c d : Nat) (w : World) (hT : Tab w) (h : Sl w (.slice ao r.mag.length c) r.mag) (h' : Sl w (.slice bo t.mag.length d) t.mag) :
  Calls Tryz.prog 30 #[accV r.neg (.slice ao r.mag.length c) r.exp false false false, .agg #[.bool t.neg, .slice bo t.mag.length d, .int .i64 t.exp]] w fun e w' => ∃ un ua ul uc ux, e = .returned (.tuple #[accV un (.slice ua ul uc) ux false false false, .int .i64 0]) ∧ New w w' (.agg #[.bool un, .slice ua ul uc, .int .i64 ux]) q ∧ Kept w w' :=
 addNum_ok r.neg ao r.mag.length c r.exp false false false t.neg bo t.mag.length d t.exp w q (fun u k => merge_dn hr ht hq false false false false false false ao bo c d u (hT.kept k) (h.kept k) (h'.kept k))
/- Neg, by values -/
theorem accNeg_dn {S : Int} {r q : Nm} (hr : DN S r) (hq : DN (-S) q) (ao : Option Addr) (c : Nat) (hc : ao = none → c = 0) (w : World) (hT : Tab w) (h : Sl w (.slice ao r.mag.length c) r.mag) :
  Calls Tryz.prog 33 #[accV r.neg (.slice ao r.mag.length c) r.exp false false false] w fun e w' => ∃ va vc, e = .returned (.tuple #[accV q.neg (.slice va q.mag.length vc) q.exp false false false, .int .i64 0]) ∧ Hid (Sl w' (.slice va q.mag.length vc) q.mag) ∧ Kept w w' := by
 obtain rfl := (neg_dn hr).one hq
 refine (accNeg_ok r.neg ao r.mag.length c r.exp false false false w ⟨if r.mag.length = 0 then r.neg else !r.neg, r.mag, r.exp⟩ (fun v kv => ?_)).mono ?_
 ·obtain ⟨rp, pe, hcall, -, hok⟩ := neg_all r.neg r.mag r.exp hr.rg.1 (by have := hr.rg.2; omega)
  obtain ⟨rfl, hrp⟩ := hok hr.vld
  rw [← hrp]
  exact hcall v ao c hc (h.kept kv) (hT.kept kv)
 ·rintro e w' ⟨vn, va, vl, vc, vx, rfl, hN, k2⟩
  obtain ⟨rfl, rfl, rfl, -, hs⟩ := hN.parts
  exact ⟨va, vc, rfl, hs, k2⟩
theorem zv_nought (n b : Int) (hn : n = 64 ∨ n = 32) (b1 : -9223372036854775808 ≤ b) (b2 : b ≤ 9223372036854775807) (hc : cls b n = 0) : zv n b = 0 := by
 have h : pmag b n = 0 := by
  rcases hn with rfl | rfl
  ·have h0 : b % 9223372036854775808 = 0 := by
    unfold cls clsOf at hc
    simp only [if_true] at hc
    repeat' (split at hc)
    all_goals omega
   unfold pmag
   simp only [if_true]
   split
   ·rw [if_pos (by omega)]; exact h0
   ·rfl
  ·have h0 : b % 2147483648 = 0 := by
    unfold cls clsOf at hc
    simp only [show ¬ ((32 : Int) = 64) by decide, if_false, if_true] at hc
    repeat' (split at hc)
    all_goals omega
   unfold pmag
   simp only [show ¬ ((32 : Int) = 64) by decide, if_false]
   split
   ·rw [if_pos (by omega)]; exact h0
   ·rfl
 unfold zv
 rw [h, Int.zero_mul]
 cases pneg b n <;> rfl
/- -1 -/
def mnsN (n : Int) : Int := if n = 64 then -4616189618054758400 else 3212836864
theorem mnsN_ok (n : Int) (hn : n = 64 ∨ n = 32) : -9223372036854775808 ≤ mnsN n ∧ mnsN n ≤ 9223372036854775807 ∧ val (mnsN n) n = true ∧ cls (mnsN n) n = 2 := by
 rcases hn with rfl | rfl <;> decide +kernel
theorem fromMns (n : Int) (hn : n = 64 ∨ n = 32) (u : World) : Calls Tryz.prog 32 #[.int .i64 (-1), .int .i64 n] u fun e w' => e = .returned (.int .i64 (mnsN n)) ∧ Kept u w' := by
 rcases hn with rfl | rfl
 ·exact (fromLess_64 u).mono (by rintro e w' ⟨rfl, rfl⟩; exact ⟨rfl, Kept.refl _⟩)
 ·exact (fromLess_32 u).mono (by rintro e w' ⟨rfl, rfl⟩; exact ⟨rfl, Kept.refl _⟩)
theorem mns_zv (n : Int) (hn : n = 64 ∨ n = 32) : zv n (mnsN n) = -(2 ^ k74) := by
 rcases hn with rfl | rfl
 ·have e : (pexp (mnsN 64) 64 + 1074).toNat = k74 - 52 := by decide +kernel
  have m : pmag (mnsN 64) 64 = 2 ^ 52 := by decide +kernel
  have g : pneg (mnsN 64) 64 = true := by decide +kernel
  unfold zv
  rw [e, m, g]
  simp only [sg, ← Int.pow_add]
  rw [show 52 + (k74 - 52) = k74 by rw [k74_is]]
  simp
 ·have e : (pexp (mnsN 32) 32 + 1074).toNat = k74 - 23 := by decide +kernel
  have m : pmag (mnsN 32) 32 = 2 ^ 23 := by decide +kernel
  have g : pneg (mnsN 32) 32 = true := by decide +kernel
  unfold zv
  rw [e, m, g]
  simp only [sg, ← Int.pow_add]
  rw [show 23 + (k74 - 23) = k74 by rw [k74_is]]
  simp
end Go.Proofs.YtoflafgbbjinpaaGreatDoor
