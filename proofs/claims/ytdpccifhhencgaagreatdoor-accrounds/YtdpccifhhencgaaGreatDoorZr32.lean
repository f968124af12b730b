/- exact.Quot of any two valid numbers that are not 0, in both widths, in all three ways: by a cut. exact.Root of any valid number above 0, in both widths, in all three ways. The walks of the document's own Of, cut, Valid, Class, Parts: what each call gives, for every int and every width. The walk of the document's own shifted: two loops. The walks of the document's own Join, way by way; and the ways of package bits' Join that refuse. -/
import Derived.Test.YtdpccifhhencgaaGreatDoorZr31
import Derived.Test.YtdpccifhhencgaaGreatDoorZr04
namespace Go.Proofs.YtdpccifhhencgaaGreatDoor
open Go.ChangeShapes Go.WideShapes Go.ChangeAt Go.RowKit
set_option linter.unusedVariables false
set_option linter.unusedSimpArgs false
set_option maxHeartbeats 16000000
set_option maxRecDepth 100000
theorem quotz_all (n : Int) (hn : n = 64 ∨ n = 32) (a b : Nm) (ha : vld a = true) (hb : vld b = true) (ham : a.mag ≠ []) (hbm : b.mag ≠ []) (s : Int) (hs1 : 2 * s ≤ a.exp) (hs2 : s ≤ b.exp) (hs3 : 2 * s ≤ a.exp + (bl (nv a.mag) : Int) - 30 * ((b.mag.length : Int) + 2)) (hs4 : 2 * s ≤ qex a b + b.exp) (hs5 : s < kleast n) : ∃ k Q H F od hf rt, Cutz (cbn n) (2 ^ (kleast n - s).toNat * (nv b.mag * 2 ^ (b.exp - s).toNat)) (nv a.mag * 2 ^ (a.exp - 2 * s).toNat) k Q H F od hf rt ∧ ∀ (way : Int), (way = 0 ∨ way = 1 ∨ way = 2) → ∀ (a1 a2 : Option Addr) (c1 c2 : Nat) (w : World), Tab w → Sl w (.slice a1 a.mag.length c1) a.mag → Sl w (.slice a2 b.mag.length c2) b.mag → Calls Tryz.prog 60 #[.agg #[.bool a.neg, .slice a1 a.mag.length c1, .int .i64 a.exp], .agg #[.bool b.neg, .slice a2 b.mag.length c2, .int .i64 b.exp], .int .i64 n, .int .i64 way] w fun e w' => e = .returned (.tuple #[.int .i64 (pz n (kyz (a.neg != b.neg) (mgz way (a.neg != b.neg) (ifn n) F od hf rt))), .bool (odz way (a.neg != b.neg) (ifn n) F od hf rt), .int .i64 0]) ∧ Kept w w' := by
 obtain ⟨hlen1, hDg1⟩ := vld_dg a.neg a.mag a.exp ha
 obtain ⟨hlen2, hDg2⟩ := vld_dg b.neg b.mag b.exp hb
 have KR : ∀ (way : Int), (way = 0 ∨ way = 1 ∨ way = 2) → ∀ (a1 a2 : Option Addr) (c1 c2 : Nat) (w : World), Sl w (.slice a1 a.mag.length c1) a.mag → Sl w (.slice a2 b.mag.length c2) b.mag → Hid (Calls Tryz.prog 101 #[.int .i64 n, .int .i64 way, .slice (some ⟨w.heap.size + 2, 0, none⟩) 2 2] (((w.alloc (.cells #[.bool a.neg, .slice a1 a.mag.length c1, .int .i64 a.exp] 24)).alloc (.cells #[.bool b.neg, .slice a2 b.mag.length c2, .int .i64 b.exp] 24)).alloc (.cells (pairC a.neg (.slice a1 a.mag.length c1) a.exp b.neg (.slice a2 b.mag.length c2) b.exp) 24)) fun e w' => e = .returned (.tuple #[.agg #[.int .i64 n, .int .i64 (kprec n), .int .i64 (kleast n), .int .i64 (kinf n), .func (.func (wfv way)) #[] #[]], .int .i64 0]) ∧ Kept (((w.alloc (.cells #[.bool a.neg, .slice a1 a.mag.length c1, .int .i64 a.exp] 24)).alloc (.cells #[.bool b.neg, .slice a2 b.mag.length c2, .int .i64 b.exp] 24)).alloc (.cells (pairC a.neg (.slice a1 a.mag.length c1) a.exp b.neg (.slice a2 b.mag.length c2) b.exp) 24)) w') := fun way hw a1 a2 c1 c2 w h1 h2 => by
  refine roundingOf_ok n way hn hw _ _ (fun u k => ?_)
  have hK : Kept w (((w.alloc (.cells #[.bool a.neg, .slice a1 a.mag.length c1, .int .i64 a.exp] 24)).alloc (.cells #[.bool b.neg, .slice a2 b.mag.length c2, .int .i64 b.exp] 24)).alloc (.cells (pairC a.neg (.slice a1 a.mag.length c1) a.exp b.neg (.slice a2 b.mag.length c2) b.exp) 24)) := (((Kept.refl w).alloc _ _).alloc _ _).alloc _ _
  have hb' : w.heap.size + 2 < (((w.alloc (.cells #[.bool a.neg, .slice a1 a.mag.length c1, .int .i64 a.exp] 24)).alloc (.cells #[.bool b.neg, .slice a2 b.mag.length c2, .int .i64 b.exp] 24)).alloc (.cells (pairC a.neg (.slice a1 a.mag.length c1) a.exp b.neg (.slice a2 b.mag.length c2) b.exp) 24)).heap.size := by simp
  have := allValid_2 u (w.heap.size + 2) 2 a.neg b.neg a1 a2 a.mag.length c1 b.mag.length c2 a.exp b.exp true true (Nat.lt_of_lt_of_le hb' k.below.size) ((k.below.cell (p := ⟨w.heap.size + 2, 0, none⟩) hb').trans (by simp [go_sem])) ((k.below.cell (p := ⟨w.heap.size + 2, 1, none⟩) hb').trans (by simp [go_sem])) ((k.below.cell (p := ⟨w.heap.size + 2, 2, none⟩) hb').trans (by simp [go_sem])) ((k.below.cell (p := ⟨w.heap.size + 2, 3, none⟩) hb').trans (by simp [go_sem])) ((k.below.cell (p := ⟨w.heap.size + 2, 4, none⟩) hb').trans (by simp [go_sem])) ((k.below.cell (p := ⟨w.heap.size + 2, 5, none⟩) hb').trans (by simp [go_sem])) (fun v kv => ?_) (fun v kv => ?_)
  ·exact this
  ·have := xvalid_any a hDg1.rg (by omega) (.agg #[.bool a.neg, .slice a1 a.mag.length c1, .int .i64 a.exp]) v ⟨_, rfl, ((h1.kept hK).kept k).kept kv⟩
   rw [ha] at this
   exact this
  ·have := xvalid_any b hDg2.rg (by omega) (.agg #[.bool b.neg, .slice a2 b.mag.length c2, .int .i64 b.exp]) v ⟨_, rfl, ((h2.kept hK).kept k).kept kv⟩
   rw [hb] at this
   exact this
 have hl2 := List.length_pos_iff.2 hbm
 obtain ⟨sg2, hsg2, KG⟩ : ∃ sg2 : Int, (sg2 == 0) = false ∧ ∀ (a2 : Option Addr) (c2 : Nat) (w : World), Calls Tryz.prog 102 #[.agg #[.bool b.neg, .slice a2 b.mag.length c2, .int .i64 b.exp]] w fun e w' => e = .returned (.int .i64 sg2) ∧ Kept w w' := by
  refine ⟨if b.neg = true then -1 else 1, by split <;> decide, fun a2 c2 w => ?_⟩
  have := signOf_any b.neg a2 b.mag.length c2 b.exp w
  rw [if_neg (by omega)] at this
  exact this
 obtain ⟨p1, p2, p3, p4, p5, p6⟩ := vld_some a.neg a.mag a.exp ham ha
 obtain ⟨q1, q2, q3, q4, q5, q6⟩ := vld_some b.neg b.mag b.exp hbm hb
 have hba := bl_le _ _ (nv_lt a.mag p2)
 have hbb := bl_le _ _ (nv_lt b.mag q2)
 have h0a := nv_ne a ha ham
 have hb0 := nv_ne b hb hbm
 obtain ⟨v1, v2⟩ := quot_val a b ha hb ham hbm s hs1 hs3
 obtain ⟨g1, g2⟩ := qh_bounds a b ha hb ham hbm
 obtain ⟨k1, k2, k3⟩ := kp_toNat n hn
 obtain ⟨c1', c2'⟩ := cbn_pow n hn
 have hexr : -3000000 ≤ qex a b ∧ qex a b ≤ 3000000 := by unfold qex; omega
 obtain ⟨h, hh⟩ : ∃ h, qA a b / qU b = h := ⟨_, rfl⟩
 obtain ⟨B, hB54, hB62, hB1, hB2⟩ : ∃ B, 54 ≤ B ∧ B ≤ 62 ∧ 2 ^ (B - 1) ≤ h ∧ h < 2 ^ B := by
  rw [hh] at g1 g2
  by_cases h60 : h < 2 ^ 60
  ·exact ⟨60, by decide, by decide, g1, h60⟩
  ·exact ⟨61, by decide, by decide, Nat.not_lt.1 h60, g2⟩
 obtain ⟨un, hun⟩ : ∃ un, max (qex a b + (B : Int) - kprec n) (kleast n) = un := ⟨_, rfl⟩
 obtain ⟨m, hm⟩ : ∃ m : Nat, un - qex a b = (m : Int) + 1 := ⟨(un - qex a b - 1).toNat, by omega⟩
 obtain ⟨k, hk⟩ : ∃ k, k = h / 2 ^ (m + 1) := ⟨_, rfl⟩
 obtain ⟨F, hF⟩ : ∃ F, F = (un - kleast n).toNat * cbn n + k := ⟨_, rfl⟩
 have L : Ldz n h B (qex a b) un m k F := ⟨hun.symm, hm, hk, hF⟩
 obtain ⟨u1, u2, u3⟩ := ld_bounds hn L hB1 hB2 hB54
 have hcp : 0 < cbn n := by rw [c1']; exact Nat.two_pow_pos _
 have hce : cbn n % 2 = 0 := by rcases hn with rfl | rfl <;> rfl
 have hC := cutz_lead (cbn n) (2 ^ (kleast n - s).toNat * (nv b.mag * 2 ^ (b.exp - s).toNat)) (nv a.mag * 2 ^ (a.exp - 2 * s).toNat) (nv b.mag * 2 ^ (qex a b + b.exp - 2 * s).toNat) h (qrs a b) (un - kleast n).toNat m k F hcp hce (Nat.mul_pos (by omega) (Nat.two_pow_pos _)) (by rw [← hh]; exact v1) v2 hk hF u2 (by rcases u3 with h | h; left; omega; right; exact h) (by
  rw [Nat.mul_assoc, ← Nat.pow_add, ← Nat.mul_assoc, ← Nat.pow_add, Nat.mul_left_comm, ← Nat.pow_add]
  congr 2
  omega)
 refine ⟨_, _, _, _, _, _, _, hC, fun way hw a1 a2 c1 c2 w hT h1 h2 => ?_⟩
 have KQ : ∀ u, Kept w u → _ := fun u ku => quotient_any a b ha hb ham hbm a1 a2 c1 c2 u (h1.kept ku) (h2.kept ku)
 rw [hh] at KQ
 exact xquot way _ n _ _ _ a.neg b.neg a1 a2 a.mag.length c1 b.mag.length c2 a.exp b.exp _ sg2 _ hsg2 _ _ _ _ w (KR way hw a1 a2 c1 c2 w h1 h2) (fun u _ => KG a2 c2 u) KQ (fun u ku => ldround way hw n hn (a.neg != b.neg) h B (qex a b) (qrs a b) un m k F L hB1 hB2 hB54 hB62 hexr.1 hexr.2 _ _ _ rfl rfl rfl u (hT.kept ku))
theorem of_64 (w : World) : Calls Tryz.prog 118 #[.int .i64 64] w fun e w' => e = .returned (.tuple #[.agg #[.int .i64 64, .int .i64 53, .int .i64 4503599627370496, .int .i64 2047, .int .i64 (-1074), .int .i64 1024, .int .i64 9218868437227405312, .int .i64 (-9223372036854775808), .int .i64 9221120237041090561], .bool true]) ∧ Kept w w' := by
 go_enter Tryz.func118, Tryz.ntmps118
 go_wp2
 exact bodyPost_ret (v := .tuple #[.agg #[.int .i64 64, .int .i64 53, .int .i64 4503599627370496, .int .i64 2047, .int .i64 (-1074), .int .i64 1024, .int .i64 9218868437227405312, .int .i64 (-9223372036854775808), .int .i64 9221120237041090561], .bool true]) (by simp [results, Tryz.results118, go_sem]) rfl ⟨rfl, (Kept.refl _).alloc _ _⟩
theorem of_32 (w : World) : Calls Tryz.prog 118 #[.int .i64 32] w fun e w' => e = .returned (.tuple #[.agg #[.int .i64 32, .int .i64 24, .int .i64 8388608, .int .i64 255, .int .i64 (-149), .int .i64 128, .int .i64 2139095040, .int .i64 2147483648, .int .i64 2143289345], .bool true]) ∧ Kept w w' := by
 go_enter Tryz.func118, Tryz.ntmps118
 go_wp2
 exact bodyPost_ret (v := .tuple #[.agg #[.int .i64 32, .int .i64 24, .int .i64 8388608, .int .i64 255, .int .i64 (-149), .int .i64 128, .int .i64 2139095040, .int .i64 2147483648, .int .i64 2143289345], .bool true]) (by simp [results, Tryz.results118, go_sem]) rfl ⟨rfl, (Kept.refl _).alloc _ _⟩
/-! ### One contract a width, for every pattern -/
theorem half_pow (o : Int) (k j : Nat) (h : j < k) : o * 2 ^ (k - j) = 2 * (o * 2 ^ (k - (j + 1))) := by
 have e : k - j = (k - (j + 1)) + 1 := by omega
 rw [e, Int.pow_succ]
 have : o * (2 ^ (k - (j + 1)) * 2) = 2 * (o * 2 ^ (k - (j + 1))) := by
  rw [← Int.mul_assoc, Int.mul_comm]
 rw [this]
theorem shifted_64_yes (x e o : Int) (k : Nat) (hx : x = o * 2 ^ k) (hx1 : x ≤ 9223372036854775807) (ho0 : 0 < o) (ho2 : o % 2 = 1) (hk : k < 64) (he1 : -2000 ≤ e) (he2 : e ≤ 2000) (h53 : o < 9007199254740992) (hlow : -1074 ≤ e + (k : Int)) (U : Nat) (V : Int) (hV : o * 2 ^ U = V) (hUb : ∀ i : Nat, i < U → o * 2 ^ i < 4503599627370496 ∧ -1074 < e + (k : Int) - (i : Int)) (hUk : (U : Int) ≤ 4000) (hend : e + (k : Int) - (U : Int) ≤ -1074 ∨ (-1074 < e + (k : Int) - (U : Int) ∧ 4503599627370496 ≤ V)) (w : World) : Calls Tryz.prog 196 #[.agg #[.int .i64 64, .int .i64 53, .int .i64 4503599627370496, .int .i64 2047, .int .i64 (-1074), .int .i64 1024, .int .i64 9218868437227405312, .int .i64 (-9223372036854775808), .int .i64 9221120237041090561], .int .i64 x, .int .i64 e] w fun r w' => r = .returned (.tuple #[.int .i64 V, .int .i64 (e + (k : Int) - (U : Int)), .bool true]) ∧ Kept w w' := by
 have HV : Hid (o * 2 ^ U = V) := hV
 have HU : Hid (∀ i : Nat, i < U → o * 2 ^ i < 4503599627370496 ∧ -1074 < e + (k : Int) - (i : Int)) := hUb
 have hdbl : Hid (∀ i : Nat, o * 2 ^ (i + 1) = o * 2 ^ i + o * 2 ^ i) := by
  show ∀ i : Nat, o * 2 ^ (i + 1) = o * 2 ^ i + o * 2 ^ i
  intro i
  rw [Int.pow_succ, ← Int.mul_assoc]
  omega
 have hpos : Hid (∀ i : Nat, 0 < o * 2 ^ i) := by
  show ∀ i : Nat, 0 < o * 2 ^ i
  exact fun i => Int.mul_pos ho0 (Int.pow_pos (by decide))
 have HE : Hid (e + (k : Int) - (U : Int) ≤ -1074 ∨ (-1074 < e + (k : Int) - (U : Int) ∧ 4503599627370496 ≤ V)) := hend
 clear hV hUb hend
 have hb : ∀ j : Nat, j ≤ k → 0 < o * 2 ^ (k - j) ∧ o * 2 ^ (k - j) ≤ x := by
  intro j hj
  have hp : (0 : Int) < 2 ^ (k - j) := Int.pow_pos (by decide)
  have hq : (1 : Int) ≤ 2 ^ j := by have : (0 : Int) < 2 ^ j := Int.pow_pos (by decide); omega
  have h1 : 0 < o * 2 ^ (k - j) := Int.mul_pos ho0 hp
  refine ⟨h1, ?_⟩
  have e1 : x = o * 2 ^ (k - j) * 2 ^ j := by
   rw [hx, Int.mul_assoc, ← Int.pow_add]
   congr 2
   omega
  rw [e1]
  have := Int.mul_le_mul_of_nonneg_left hq (Int.le_of_lt h1)
  omega
 have HB : Hid (∀ j : Nat, j ≤ k → 0 < o * 2 ^ (k - j) ∧ o * 2 ^ (k - j) ≤ x) := hb
 have HX : Hid (x = o * 2 ^ k) := hx
 clear hb hx
 go_enter Tryz.func196, Tryz.ntmps196
 go_wp2
 go_loop [1, 2] (fun m t => ∃ j : Nat, j ≤ k ∧ m = .int .i64 (o * 2 ^ (k - j)) ∧ t = .int .i64 (e + (j : Int))) (fun _ t => (e + (k : Int) - intOf t).toNat)
 case atStart => exact ⟨0, Nat.zero_le _, by rw [HX.out]; rfl, by simp⟩
 case round =>
  obtain ⟨j, hj, rfl, rfl⟩ := hrel
  have hjb := HB.out j hj
  by_cases hlt : j < k
  ·have hA := half_pow o k j hlt
   have hjb' := HB.out (j + 1) hlt
   obtain ⟨M, hM⟩ : ∃ M, M = o * 2 ^ (k - (j + 1)) := ⟨_, rfl⟩
   rw [← hM] at hA hjb'
   rw [hA] at hjb ⊢
   have HM : Hid (M = o * 2 ^ (k - (j + 1))) := hM
   clear hM hA
   have hmod : (2 * M) % 2 = 0 := by omega
   go_wp2
   go_round
   case rel => exact ⟨j + 1, by omega, by rw [← HM.out], by go_num⟩
   case measure => simp [intOf]; omega
  ·obtain rfl : j = k := by omega
   rw [Nat.sub_self, Int.pow_zero, Int.mul_one] at hjb ⊢
   have hodd : (o % 2 == 0) = false := by rw [ho2]; rfl
   go_wp2
   go_loop [1, 2] (fun m t => ∃ i : Nat, i ≤ U ∧ m = .int .i64 (o * 2 ^ i) ∧ t = .int .i64 (e + (j : Int) - (i : Int))) (fun _ t => (intOf t - (e + (j : Int) - (U : Int))).toNat)
   case atStart => exact ⟨0, Nat.zero_le _, by simp, by simp⟩
   case round =>
    obtain ⟨i, hi, rfl, rfl⟩ := hrel
    by_cases hlt2 : i < U
    ·obtain ⟨g1, g2⟩ := HU.out i hlt2
     have hd := hdbl.out i
     have hp0 := hpos.out i
     obtain ⟨M, hM⟩ : ∃ M, M = o * 2 ^ i := ⟨_, rfl⟩
     rw [← hM] at g1 hd hp0 ⊢
     have HD : Hid (o * 2 ^ (i + 1) = M + M) := hd
     clear hd hM
     go_wp2
     go_round
     case rel => exact ⟨i + 1, by omega, by rw [HD.out], by go_num⟩
     case measure => simp [intOf]; omega
    ·obtain rfl : i = U := by omega
     rw [HV.out]
     rcases HE.out with hx1 | ⟨hx1, hx2⟩
     ·go_wp2
      go_ret3
      exact ⟨rfl, (Kept.refl _).alloc _ _⟩
     ·go_wp2
      go_ret3
      exact ⟨rfl, (Kept.refl _).alloc _ _⟩
theorem shifted_32_yes (x e o : Int) (k : Nat) (hx : x = o * 2 ^ k) (hx1 : x ≤ 9223372036854775807) (ho0 : 0 < o) (ho2 : o % 2 = 1) (hk : k < 64) (he1 : -2000 ≤ e) (he2 : e ≤ 2000) (h53 : o < 16777216) (hlow : -149 ≤ e + (k : Int)) (U : Nat) (V : Int) (hV : o * 2 ^ U = V) (hUb : ∀ i : Nat, i < U → o * 2 ^ i < 8388608 ∧ -149 < e + (k : Int) - (i : Int)) (hUk : (U : Int) ≤ 4000) (hend : e + (k : Int) - (U : Int) ≤ -149 ∨ (-149 < e + (k : Int) - (U : Int) ∧ 8388608 ≤ V)) (w : World) : Calls Tryz.prog 196 #[.agg #[.int .i64 32, .int .i64 24, .int .i64 8388608, .int .i64 255, .int .i64 (-149), .int .i64 128, .int .i64 2139095040, .int .i64 2147483648, .int .i64 2143289345], .int .i64 x, .int .i64 e] w fun r w' => r = .returned (.tuple #[.int .i64 V, .int .i64 (e + (k : Int) - (U : Int)), .bool true]) ∧ Kept w w' := by
 have HV : Hid (o * 2 ^ U = V) := hV
 have HU : Hid (∀ i : Nat, i < U → o * 2 ^ i < 8388608 ∧ -149 < e + (k : Int) - (i : Int)) := hUb
 have hdbl : Hid (∀ i : Nat, o * 2 ^ (i + 1) = o * 2 ^ i + o * 2 ^ i) := by
  show ∀ i : Nat, o * 2 ^ (i + 1) = o * 2 ^ i + o * 2 ^ i
  intro i
  rw [Int.pow_succ, ← Int.mul_assoc]
  omega
 have hpos : Hid (∀ i : Nat, 0 < o * 2 ^ i) := by
  show ∀ i : Nat, 0 < o * 2 ^ i
  exact fun i => Int.mul_pos ho0 (Int.pow_pos (by decide))
 have HE : Hid (e + (k : Int) - (U : Int) ≤ -149 ∨ (-149 < e + (k : Int) - (U : Int) ∧ 8388608 ≤ V)) := hend
 clear hV hUb hend
 have hb : ∀ j : Nat, j ≤ k → 0 < o * 2 ^ (k - j) ∧ o * 2 ^ (k - j) ≤ x := by
  intro j hj
  have hp : (0 : Int) < 2 ^ (k - j) := Int.pow_pos (by decide)
  have hq : (1 : Int) ≤ 2 ^ j := by have : (0 : Int) < 2 ^ j := Int.pow_pos (by decide); omega
  have h1 : 0 < o * 2 ^ (k - j) := Int.mul_pos ho0 hp
  refine ⟨h1, ?_⟩
  have e1 : x = o * 2 ^ (k - j) * 2 ^ j := by
   rw [hx, Int.mul_assoc, ← Int.pow_add]
   congr 2
   omega
  rw [e1]
  have := Int.mul_le_mul_of_nonneg_left hq (Int.le_of_lt h1)
  omega
 have HB : Hid (∀ j : Nat, j ≤ k → 0 < o * 2 ^ (k - j) ∧ o * 2 ^ (k - j) ≤ x) := hb
 have HX : Hid (x = o * 2 ^ k) := hx
 clear hb hx
 go_enter Tryz.func196, Tryz.ntmps196
 go_wp2
 go_loop [1, 2] (fun m t => ∃ j : Nat, j ≤ k ∧ m = .int .i64 (o * 2 ^ (k - j)) ∧ t = .int .i64 (e + (j : Int))) (fun _ t => (e + (k : Int) - intOf t).toNat)
 case atStart => exact ⟨0, Nat.zero_le _, by rw [HX.out]; rfl, by simp⟩
 case round =>
  obtain ⟨j, hj, rfl, rfl⟩ := hrel
  have hjb := HB.out j hj
  by_cases hlt : j < k
  ·have hA := half_pow o k j hlt
   have hjb' := HB.out (j + 1) hlt
   obtain ⟨M, hM⟩ : ∃ M, M = o * 2 ^ (k - (j + 1)) := ⟨_, rfl⟩
   rw [← hM] at hA hjb'
   rw [hA] at hjb ⊢
   have HM : Hid (M = o * 2 ^ (k - (j + 1))) := hM
   clear hM hA
   have hmod : (2 * M) % 2 = 0 := by omega
   go_wp2
   go_round
   case rel => exact ⟨j + 1, by omega, by rw [← HM.out], by go_num⟩
   case measure => simp [intOf]; omega
  ·obtain rfl : j = k := by omega
   rw [Nat.sub_self, Int.pow_zero, Int.mul_one] at hjb ⊢
   have hodd : (o % 2 == 0) = false := by rw [ho2]; rfl
   go_wp2
   go_loop [1, 2] (fun m t => ∃ i : Nat, i ≤ U ∧ m = .int .i64 (o * 2 ^ i) ∧ t = .int .i64 (e + (j : Int) - (i : Int))) (fun _ t => (intOf t - (e + (j : Int) - (U : Int))).toNat)
   case atStart => exact ⟨0, Nat.zero_le _, by simp, by simp⟩
   case round =>
    obtain ⟨i, hi, rfl, rfl⟩ := hrel
    by_cases hlt2 : i < U
    ·obtain ⟨g1, g2⟩ := HU.out i hlt2
     have hd := hdbl.out i
     have hp0 := hpos.out i
     obtain ⟨M, hM⟩ : ∃ M, M = o * 2 ^ i := ⟨_, rfl⟩
     rw [← hM] at g1 hd hp0 ⊢
     have HD : Hid (o * 2 ^ (i + 1) = M + M) := hd
     clear hd hM
     go_wp2
     go_round
     case rel => exact ⟨i + 1, by omega, by rw [HD.out], by go_num⟩
     case measure => simp [intOf]; omega
    ·obtain rfl : i = U := by omega
     rw [HV.out]
     rcases HE.out with hx1 | ⟨hx1, hx2⟩
     ·go_wp2
      go_ret3
      exact ⟨rfl, (Kept.refl _).alloc _ _⟩
     ·go_wp2
      go_ret3
      exact ⟨rfl, (Kept.refl _).alloc _ _⟩
theorem ret_pair {a b : Int} {p : Bool} (h : a = b) : Ending.returned (.tuple #[.int .i64 a, .bool p]) = .returned (.tuple #[.int .i64 b, .bool p]) := by rw [h]
theorem rj_zero_64 (p : Bool) (e : Int) (w : World) : Calls Tryz.prog 195 #[.bool p, .int .i64 0, .int .i64 e, .int .i64 64] w fun r w' => r = .returned (.tuple #[.int .i64 (if p = true then -9223372036854775808 else 0), .bool true]) ∧ Kept w w' := by
 by_cases h1 : 2000 < e <;> by_cases h2 : e < -2000
 ·omega
 all_goals
  cases p
  all_goals
   go_enter Tryz.func195, Tryz.ntmps195
   go_wp2_with (first | (go_at_call 118; refine (of_64 _).mono ?_; rintro e w1 ⟨rfl, hk1⟩))
   go_ret2
   exact ⟨rfl, hk1.alloc _ _⟩
theorem rj_yes_64 (p : Bool) (x e V E q : Int) (hx : 0 < x) (he1 : -2000 ≤ e) (he2 : e ≤ 2000) (hE : E ≤ 971) (hE0 : -1074 ≤ E) (hV0 : 0 < V) (hV1 : V < 9007199254740992) (hs : V < 4503599627370496 → E = -1074) (hq : q = (E + 1074) * 4503599627370496 + V + (if p = true then -9223372036854775808 else 0)) (Ks : Hid (∀ w : World, Calls Tryz.prog 196 #[.agg #[.int .i64 64, .int .i64 53, .int .i64 4503599627370496, .int .i64 2047, .int .i64 (-1074), .int .i64 1024, .int .i64 9218868437227405312, .int .i64 (-9223372036854775808), .int .i64 9221120237041090561], .int .i64 x, .int .i64 e] w fun e w' => e = .returned (.tuple #[.int .i64 V, .int .i64 E, .bool true]) ∧ Kept w w')) (w : World) : Calls Tryz.prog 195 #[.bool p, .int .i64 x, .int .i64 e, .int .i64 64] w fun r w' => r = .returned (.tuple #[.int .i64 q, .bool true]) ∧ Kept w w' := by
 have hx0 : (x == 0) = false := by rw [beq_eq_false_iff_ne]; omega
 have HQ : Hid (q = (E + 1074) * 4503599627370496 + V + (if p = true then -9223372036854775808 else 0)) := hq
 have HS : Hid (V < 4503599627370496 → E = -1074) := hs
 clear hq hs
 cases p
 all_goals
  by_cases hvs : V < 4503599627370496
  all_goals
   go_enter Tryz.func195, Tryz.ntmps195
   go_wp2_with (first | (go_at_call 118; refine (of_64 _).mono ?_; rintro e w1 ⟨rfl, hk1⟩) | (go_at_call 196; refine (Ks.out _).mono ?_; rintro e w2 ⟨rfl, hk2⟩; have hcl := laid_cell hk2))
   go_ret2
   refine ⟨ret_pair ?_, (hk1.alloc _ _).trans hk2⟩
   have hq := HQ.out
   have hs := HS.out
   simp only [Bool.false_eq_true, if_true, if_false] at hq
   try unfold wrap64
   omega
theorem rj_zero_32 (p : Bool) (e : Int) (w : World) : Calls Tryz.prog 195 #[.bool p, .int .i64 0, .int .i64 e, .int .i64 32] w fun r w' => r = .returned (.tuple #[.int .i64 (if p = true then 2147483648 else 0), .bool true]) ∧ Kept w w' := by
 by_cases h1 : 2000 < e <;> by_cases h2 : e < -2000
 ·omega
 all_goals
  cases p
  all_goals
   go_enter Tryz.func195, Tryz.ntmps195
   go_wp2_with (first | (go_at_call 118; refine (of_32 _).mono ?_; rintro e w1 ⟨rfl, hk1⟩))
   go_ret2
   exact ⟨rfl, hk1.alloc _ _⟩
theorem rj_yes_32 (p : Bool) (x e V E q : Int) (hx : 0 < x) (he1 : -2000 ≤ e) (he2 : e ≤ 2000) (hE : E ≤ 104) (hE0 : -149 ≤ E) (hV0 : 0 < V) (hV1 : V < 16777216) (hs : V < 8388608 → E = -149) (hq : q = (E + 149) * 8388608 + V + (if p = true then 2147483648 else 0)) (Ks : Hid (∀ w : World, Calls Tryz.prog 196 #[.agg #[.int .i64 32, .int .i64 24, .int .i64 8388608, .int .i64 255, .int .i64 (-149), .int .i64 128, .int .i64 2139095040, .int .i64 2147483648, .int .i64 2143289345], .int .i64 x, .int .i64 e] w fun e w' => e = .returned (.tuple #[.int .i64 V, .int .i64 E, .bool true]) ∧ Kept w w')) (w : World) : Calls Tryz.prog 195 #[.bool p, .int .i64 x, .int .i64 e, .int .i64 32] w fun r w' => r = .returned (.tuple #[.int .i64 q, .bool true]) ∧ Kept w w' := by
 have hx0 : (x == 0) = false := by rw [beq_eq_false_iff_ne]; omega
 have HQ : Hid (q = (E + 149) * 8388608 + V + (if p = true then 2147483648 else 0)) := hq
 have HS : Hid (V < 8388608 → E = -149) := hs
 clear hq hs
 cases p
 all_goals
  by_cases hvs : V < 8388608
  all_goals
   go_enter Tryz.func195, Tryz.ntmps195
   go_wp2_with (first | (go_at_call 118; refine (of_32 _).mono ?_; rintro e w1 ⟨rfl, hk1⟩) | (go_at_call 196; refine (Ks.out _).mono ?_; rintro e w2 ⟨rfl, hk2⟩; have hcl := laid_cell hk2))
   go_ret2
   refine ⟨ret_pair ?_, (hk1.alloc _ _).trans hk2⟩
   have hq := HQ.out
   have hs := HS.out
   simp only [Bool.false_eq_true, if_true, if_false] at hq
   try unfold wrap64
   omega
end Go.Proofs.YtdpccifhhencgaaGreatDoor
