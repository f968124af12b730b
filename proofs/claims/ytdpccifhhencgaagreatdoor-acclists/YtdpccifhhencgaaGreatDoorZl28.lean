/- The walks of the document's own Of, cut, Valid, Class, Parts: what each call gives, for every int and every width. The walk of the document's own shifted: two loops. The walks of the document's own Join, way by way; and the ways of package bits' Join that refuse. -/
import Derived.Test.YtdpccifhhencgaaGreatDoorZl03
import Derived.Test.YtdpccifhhencgaaGreatDoorZl04
namespace Go.Proofs.YtdpccifhhencgaaGreatDoor
open Go.ChangeShapes Go.WideShapes Go.ChangeAt Go.RowKit
set_option linter.unusedVariables false
set_option linter.unusedSimpArgs false
set_option maxHeartbeats 16000000
set_option maxRecDepth 100000
theorem of_64 (w : World) : Calls Tryz.prog 118 #[.int .i64 64] w fun e w' => e = .returned (.tuple #[.agg #[.int .i64 64, .int .i64 53, .int .i64 4503599627370496, .int .i64 2047, .int .i64 (-1074), .int .i64 1024, .int .i64 9218868437227405312, .int .i64 (-9223372036854775808), .int .i64 9221120237041090561], .bool true]) ∧ Kept w w' := by
 go_enter Tryz.func118, Tryz.ntmps118
 go_wp2
 exact bodyPost_ret (v := .tuple #[.agg #[.int .i64 64, .int .i64 53, .int .i64 4503599627370496, .int .i64 2047, .int .i64 (-1074), .int .i64 1024, .int .i64 9218868437227405312, .int .i64 (-9223372036854775808), .int .i64 9221120237041090561], .bool true]) (by simp [results, Tryz.results118, go_sem]) rfl ⟨rfl, (Kept.refl _).alloc _ _⟩
theorem of_32 (w : World) : Calls Tryz.prog 118 #[.int .i64 32] w fun e w' => e = .returned (.tuple #[.agg #[.int .i64 32, .int .i64 24, .int .i64 8388608, .int .i64 255, .int .i64 (-149), .int .i64 128, .int .i64 2139095040, .int .i64 2147483648, .int .i64 2143289345], .bool true]) ∧ Kept w w' := by
 go_enter Tryz.func118, Tryz.ntmps118
 go_wp2
 exact bodyPost_ret (v := .tuple #[.agg #[.int .i64 32, .int .i64 24, .int .i64 8388608, .int .i64 255, .int .i64 (-149), .int .i64 128, .int .i64 2139095040, .int .i64 2147483648, .int .i64 2143289345], .bool true]) (by simp [results, Tryz.results118, go_sem]) rfl ⟨rfl, (Kept.refl _).alloc _ _⟩
theorem of_0 (n : Int) (h1 : (n == 32) = false) (h2 : (n == 64) = false) (w : World) : Calls Tryz.prog 118 #[.int .i64 n] w fun e w' => e = .returned (.tuple #[.agg #[.int .i64 0, .int .i64 0, .int .i64 0, .int .i64 0, .int .i64 0, .int .i64 0, .int .i64 0, .int .i64 0, .int .i64 0], .bool false]) ∧ Kept w w' := by
 go_enter Tryz.func118, Tryz.ntmps118
 go_wp2
 exact bodyPost_ret (v := .tuple #[.agg #[.int .i64 0, .int .i64 0, .int .i64 0, .int .i64 0, .int .i64 0, .int .i64 0, .int .i64 0, .int .i64 0, .int .i64 0], .bool false]) (by simp [results, Tryz.results118, go_sem]) rfl ⟨rfl, (Kept.refl _).alloc _ _⟩
theorem cut_64_pos (b : Int) (h0 : 0 ≤ b) (hu : b ≤ 9223372036854775807) (w : World) : Calls Tryz.prog 119 #[.agg #[.int .i64 64, .int .i64 53, .int .i64 4503599627370496, .int .i64 2047, .int .i64 (-1074), .int .i64 1024, .int .i64 9218868437227405312, .int .i64 (-9223372036854775808), .int .i64 9221120237041090561], .int .i64 b] w fun e w' => e = .returned (.tuple #[.bool false, .int .i64 (b / 4503599627370496), .int .i64 (b % 4503599627370496), .bool true]) ∧ Kept w w' := by
 go_enter Tryz.func119, Tryz.ntmps119
 go_wp2
 go_quiet (fail)
 go_wp2
 exact bodyPost_ret (v := .tuple #[.bool false, .int .i64 (b / 4503599627370496), .int .i64 (b % 4503599627370496), .bool true]) (by simp [results, Tryz.results119, go_sem, h0]) rfl ⟨rfl, (((Kept.refl _).alloc _ _).drewN _)⟩
theorem cut_64_neg (b : Int) (h0 : b < 0) (hu : -9223372036854775808 ≤ b) (w : World) : Calls Tryz.prog 119 #[.agg #[.int .i64 64, .int .i64 53, .int .i64 4503599627370496, .int .i64 2047, .int .i64 (-1074), .int .i64 1024, .int .i64 9218868437227405312, .int .i64 (-9223372036854775808), .int .i64 9221120237041090561], .int .i64 b] w fun e w' => e = .returned (.tuple #[.bool true, .int .i64 ((b - -9223372036854775808) / 4503599627370496), .int .i64 ((b - -9223372036854775808) % 4503599627370496), .bool true]) ∧ Kept w w' := by
 go_enter Tryz.func119, Tryz.ntmps119
 go_wp2
 go_quiet (fail)
 go_wp2
 exact bodyPost_ret (v := .tuple #[.bool true, .int .i64 ((b - -9223372036854775808) / 4503599627370496), .int .i64 ((b - -9223372036854775808) % 4503599627370496), .bool true]) (by simp [results, Tryz.results119, go_sem]) rfl ⟨rfl, (((Kept.refl _).alloc _ _).drewN _)⟩
theorem cut_32_no1 (b : Int) (h0 : b < 0) (w : World) : Calls Tryz.prog 119 #[.agg #[.int .i64 32, .int .i64 24, .int .i64 8388608, .int .i64 255, .int .i64 (-149), .int .i64 128, .int .i64 2139095040, .int .i64 2147483648, .int .i64 2143289345], .int .i64 b] w fun e w' => e = .returned (.tuple #[.bool false, .int .i64 0, .int .i64 0, .bool false]) ∧ Kept w w' := by
 go_enter Tryz.func119, Tryz.ntmps119
 go_wp2
 exact bodyPost_ret (v := .tuple #[.bool false, .int .i64 0, .int .i64 0, .bool false]) (by simp [results, Tryz.results119, go_sem]) rfl ⟨rfl, ((Kept.refl _).alloc _ _)⟩
theorem cut_32_no2 (b : Int) (h0 : 4294967296 ≤ b) (w : World) : Calls Tryz.prog 119 #[.agg #[.int .i64 32, .int .i64 24, .int .i64 8388608, .int .i64 255, .int .i64 (-149), .int .i64 128, .int .i64 2139095040, .int .i64 2147483648, .int .i64 2143289345], .int .i64 b] w fun e w' => e = .returned (.tuple #[.bool false, .int .i64 0, .int .i64 0, .bool false]) ∧ Kept w w' := by
 go_enter Tryz.func119, Tryz.ntmps119
 go_wp2
 exact bodyPost_ret (v := .tuple #[.bool false, .int .i64 0, .int .i64 0, .bool false]) (by simp [results, Tryz.results119, go_sem]) rfl ⟨rfl, ((Kept.refl _).alloc _ _)⟩
theorem cut_32_yes (b : Int) (h0 : 0 ≤ b) (hu : b < 4294967296) (w : World) : Calls Tryz.prog 119 #[.agg #[.int .i64 32, .int .i64 24, .int .i64 8388608, .int .i64 255, .int .i64 (-149), .int .i64 128, .int .i64 2139095040, .int .i64 2147483648, .int .i64 2143289345], .int .i64 b] w fun e w' => e = .returned (.tuple #[.bool (decide (2147483648 ≤ b)), .int .i64 (b % 2147483648 / 8388608), .int .i64 (b % 8388608), .bool true]) ∧ Kept w w' := by
 go_enter Tryz.func119, Tryz.ntmps119
 go_wp2
 go_quiet (fail)
 go_wp2
 exact bodyPost_ret (v := .tuple #[.bool (decide (2147483648 ≤ b)), .int .i64 (b % 2147483648 / 8388608), .int .i64 (b % 8388608), .bool true]) (by simp [results, Tryz.results119, go_sem]) rfl ⟨rfl, (((Kept.refl _).alloc _ _).drewN _)⟩
/-! ### One contract a width, for every pattern -/
def thr (b : Int) : Bool := decide (0 ≤ b ∧ b < 4294967296)
def fld64 (b : Int) : Int := b % 9223372036854775808 / 4503599627370496
def frc64 (b : Int) : Int := b % 4503599627370496
def fld32 (b : Int) : Int := if thr b = true then b % 2147483648 / 8388608 else 0
def frc32 (b : Int) : Int := if thr b = true then b % 8388608 else 0
def sg32 (b : Int) : Bool := thr b && sgn b 32
theorem cut_64 (b : Int) (hb1 : -9223372036854775808 ≤ b) (hb2 : b ≤ 9223372036854775807) (w : World) : Calls Tryz.prog 119 #[.agg #[.int .i64 64, .int .i64 53, .int .i64 4503599627370496, .int .i64 2047, .int .i64 (-1074), .int .i64 1024, .int .i64 9218868437227405312, .int .i64 (-9223372036854775808), .int .i64 9221120237041090561], .int .i64 b] w fun e w' => e = .returned (.tuple #[.bool (sgn b 64), .int .i64 (fld64 b), .int .i64 (frc64 b), .bool true]) ∧ Kept w w' := by
 by_cases h : 0 ≤ b
 ·refine (cut_64_pos b h hb2 w).mono ?_
  rintro e w' ⟨rfl, hk⟩
  exact ⟨ret_parts (by simp [sgn]; omega) (by unfold fld64; omega) (by unfold frc64; omega) rfl, hk⟩
 ·refine (cut_64_neg b (by omega) hb1 w).mono ?_
  rintro e w' ⟨rfl, hk⟩
  exact ⟨ret_parts (by simp [sgn]; omega) (by unfold fld64; omega) (by unfold frc64; omega) rfl, hk⟩
theorem cut_32 (b : Int) (w : World) : Calls Tryz.prog 119 #[.agg #[.int .i64 32, .int .i64 24, .int .i64 8388608, .int .i64 255, .int .i64 (-149), .int .i64 128, .int .i64 2139095040, .int .i64 2147483648, .int .i64 2143289345], .int .i64 b] w fun e w' => e = .returned (.tuple #[.bool (sg32 b), .int .i64 (fld32 b), .int .i64 (frc32 b), .bool (thr b)]) ∧ Kept w w' := by
 by_cases hv : 0 ≤ b ∧ b < 4294967296
 ·have ht : thr b = true := by simp [thr, hv]
  refine (cut_32_yes b hv.1 hv.2 w).mono ?_
  rintro e w' ⟨rfl, hk⟩
  exact ⟨ret_parts (by simp [sg32, ht, sgn]) (by simp [fld32, ht]) (by simp [frc32, ht]) ht.symm, hk⟩
 ·have ht : thr b = false := by simp [thr]; omega
  by_cases h : b < 0
  ·refine (cut_32_no1 b h w).mono ?_
   rintro e w' ⟨rfl, hk⟩
   exact ⟨ret_parts (by simp [sg32, ht]) (by simp [fld32, ht]) (by simp [frc32, ht]) ht.symm, hk⟩
  ·refine (cut_32_no2 b (by omega) w).mono ?_
   rintro e w' ⟨rfl, hk⟩
   exact ⟨ret_parts (by simp [sg32, ht]) (by simp [fld32, ht]) (by simp [frc32, ht]) ht.symm, hk⟩
theorem ret_bool {a b : Bool} (h : a = b) : Ending.returned (.bool a) = .returned (.bool b) := by rw [h]
theorem rbvalid_any (b n : Int) (hb1 : -9223372036854775808 ≤ b) (hb2 : b ≤ 9223372036854775807) (w : World) : Calls Tryz.prog 71 #[.int .i64 b, .int .i64 n] w fun e w' => e = .returned (.bool (val b n)) ∧ Kept w w' := by
 by_cases h64 : n = 64
 ·subst h64
  go_enter Tryz.func71, Tryz.ntmps71
  go_wp2_with (first | (go_at_call 118; refine (of_64 _).mono ?_; rintro e w1 ⟨rfl, hk1⟩) | (go_at_call 119; refine (cut_64 _ hb1 hb2 _).mono ?_; rintro e w2 ⟨rfl, hk2⟩))
  go_ret
  exact ⟨ret_bool (by simp [val]), (hk1.alloc _ _).trans hk2⟩
 ·by_cases h32 : n = 32
  ·subst h32
   go_enter Tryz.func71, Tryz.ntmps71
   go_wp2_with (first | (go_at_call 118; refine (of_32 _).mono ?_; rintro e w1 ⟨rfl, hk1⟩) | (go_at_call 119; refine (cut_32 _ _).mono ?_; rintro e w2 ⟨rfl, hk2⟩))
   go_ret
   exact ⟨ret_bool (by simp [val, thr]), (hk1.alloc _ _).trans hk2⟩
  ·have e1 : (n == 32) = false := by simpa using h32
   have e2 : (n == 64) = false := by simpa using h64
   have hv : val b n = false := by simp [val, h64, h32]
   clear h64 h32
   go_enter Tryz.func71, Tryz.ntmps71
   go_wp2_with (first | (go_at_call 118; refine (of_0 _ e1 e2 _).mono ?_; rintro e w1 ⟨rfl, hk1⟩))
   go_ret
   exact ⟨ret_bool hv.symm, (hk1.alloc _ _)⟩
theorem cls_64_eq (b : Int) : cls b 64 = if (fld64 b = 2047 ∧ 0 < frc64 b) then 4 else if fld64 b = 2047 then 3 else if 0 < fld64 b then 2 else if 0 < frc64 b then 1 else 0 := by
 unfold cls clsOf fld64 frc64
 rw [if_pos rfl]
 (repeat' split) <;> omega
theorem cls_32_eq (b : Int) : cls b 32 = if (thr b = false ∨ fld32 b = 255 ∧ 0 < frc32 b) then 4 else if fld32 b = 255 then 3 else if 0 < fld32 b then 2 else if 0 < frc32 b then 1 else 0 := by
 unfold cls
 rw [if_neg (by decide), if_pos rfl]
 by_cases hv : 0 ≤ b ∧ b < 4294967296
 ·have ht : thr b = true := by simp [thr, hv]
  rw [if_pos hv]
  simp only [fld32, frc32, ht, if_true, Bool.true_eq_false, false_or]
  unfold clsOf
  (repeat' split) <;> omega
 ·have ht : thr b = false := by simp [thr]; omega
  rw [if_neg hv, if_pos (Or.inl ht)]
theorem half_pow (o : Int) (k j : Nat) (h : j < k) : o * 2 ^ (k - j) = 2 * (o * 2 ^ (k - (j + 1))) := by
 have e : k - j = (k - (j + 1)) + 1 := by omega
 rw [e, Int.pow_succ]
 have : o * (2 ^ (k - (j + 1)) * 2) = 2 * (o * 2 ^ (k - (j + 1))) := by
  rw [← Int.mul_assoc, Int.mul_comm]
 rw [this]
theorem shifted_64_yes (x e o : Int) (k : Nat) (hx : x = o * 2 ^ k) (hx1 : x ≤ 9223372036854775807) (ho0 : 0 < o) (ho2 : o % 2 = 1) (hk : k < 64) (he1 : -2000 ≤ e) (he2 : e ≤ 2000) (h53 : o < 9007199254740992) (hlow : -1074 ≤ e + (k : Int)) (U : Nat) (V : Int) (hV : o * 2 ^ U = V) (hUb : ∀ i : Nat, i < U → o * 2 ^ i < 4503599627370496 ∧ -1074 < e + (k : Int) - (i : Int)) (hUk : (U : Int) ≤ 4000) (hend : e + (k : Int) - (U : Int) ≤ -1074 ∨ (-1074 < e + (k : Int) - (U : Int) ∧ 4503599627370496 ≤ V)) (w : World) : Calls Tryz.prog 196 #[.agg #[.int .i64 64, .int .i64 53, .int .i64 4503599627370496, .int .i64 2047, .int .i64 (-1074), .int .i64 1024, .int .i64 9218868437227405312, .int .i64 (-9223372036854775808), .int .i64 9221120237041090561], .int .i64 x, .int .i64 e] w fun r w' => r = .returned (.tuple #[.int .i64 V, .int .i64 (e + (k : Int) - (U : Int)), .bool true]) ∧ Kept w w' := by
 have HV : Hid (o * 2 ^ U = V) := hV
 have HU : Hid (∀ i : Nat, i < U → o * 2 ^ i < 4503599627370496 ∧ -1074 < e + (k : Int) - (i : Int)) := hUb
 have hdbl : Hid (∀ i : Nat, o * 2 ^ (i + 1) = o * 2 ^ i + o * 2 ^ i) := by
  show ∀ i : Nat, o * 2 ^ (i + 1) = o * 2 ^ i + o * 2 ^ i
  intro i
  rw [Int.pow_succ, ← Int.mul_assoc]
  omega
 have hpos : Hid (∀ i : Nat, 0 < o * 2 ^ i) := by
  show ∀ i : Nat, 0 < o * 2 ^ i
  exact fun i => Int.mul_pos ho0 (Int.pow_pos (by decide))
 have HE : Hid (e + (k : Int) - (U : Int) ≤ -1074 ∨ (-1074 < e + (k : Int) - (U : Int) ∧ 4503599627370496 ≤ V)) := hend
 clear hV hUb hend
 have hb : ∀ j : Nat, j ≤ k → 0 < o * 2 ^ (k - j) ∧ o * 2 ^ (k - j) ≤ x := by
  intro j hj
  have hp : (0 : Int) < 2 ^ (k - j) := Int.pow_pos (by decide)
  have hq : (1 : Int) ≤ 2 ^ j := by have : (0 : Int) < 2 ^ j := Int.pow_pos (by decide); omega
  have h1 : 0 < o * 2 ^ (k - j) := Int.mul_pos ho0 hp
  refine ⟨h1, ?_⟩
  have e1 : x = o * 2 ^ (k - j) * 2 ^ j := by
   rw [hx, Int.mul_assoc, ← Int.pow_add]
   congr 2
   omega
  rw [e1]
  have := Int.mul_le_mul_of_nonneg_left hq (Int.le_of_lt h1)
  omega
 have HB : Hid (∀ j : Nat, j ≤ k → 0 < o * 2 ^ (k - j) ∧ o * 2 ^ (k - j) ≤ x) := hb
 have HX : Hid (x = o * 2 ^ k) := hx
 clear hb hx
 go_enter Tryz.func196, Tryz.ntmps196
 go_wp2
 go_loop [1, 2] (fun m t => ∃ j : Nat, j ≤ k ∧ m = .int .i64 (o * 2 ^ (k - j)) ∧ t = .int .i64 (e + (j : Int))) (fun _ t => (e + (k : Int) - intOf t).toNat)
 case atStart => exact ⟨0, Nat.zero_le _, by rw [HX.out]; rfl, by simp⟩
 case round =>
  obtain ⟨j, hj, rfl, rfl⟩ := hrel
  have hjb := HB.out j hj
  by_cases hlt : j < k
  ·have hA := half_pow o k j hlt
   have hjb' := HB.out (j + 1) hlt
   obtain ⟨M, hM⟩ : ∃ M, M = o * 2 ^ (k - (j + 1)) := ⟨_, rfl⟩
   rw [← hM] at hA hjb'
   rw [hA] at hjb ⊢
   have HM : Hid (M = o * 2 ^ (k - (j + 1))) := hM
   clear hM hA
   have hmod : (2 * M) % 2 = 0 := by omega
   go_wp2
   go_round
   case rel => exact ⟨j + 1, by omega, by rw [← HM.out], by go_num⟩
   case measure => simp [intOf]; omega
  ·obtain rfl : j = k := by omega
   rw [Nat.sub_self, Int.pow_zero, Int.mul_one] at hjb ⊢
   have hodd : (o % 2 == 0) = false := by rw [ho2]; rfl
   go_wp2
   go_loop [1, 2] (fun m t => ∃ i : Nat, i ≤ U ∧ m = .int .i64 (o * 2 ^ i) ∧ t = .int .i64 (e + (j : Int) - (i : Int))) (fun _ t => (intOf t - (e + (j : Int) - (U : Int))).toNat)
   case atStart => exact ⟨0, Nat.zero_le _, by simp, by simp⟩
   case round =>
    obtain ⟨i, hi, rfl, rfl⟩ := hrel
    by_cases hlt2 : i < U
    ·obtain ⟨g1, g2⟩ := HU.out i hlt2
     have hd := hdbl.out i
     have hp0 := hpos.out i
     obtain ⟨M, hM⟩ : ∃ M, M = o * 2 ^ i := ⟨_, rfl⟩
     rw [← hM] at g1 hd hp0 ⊢
     have HD : Hid (o * 2 ^ (i + 1) = M + M) := hd
     clear hd hM
     go_wp2
     go_round
     case rel => exact ⟨i + 1, by omega, by rw [HD.out], by go_num⟩
     case measure => simp [intOf]; omega
    ·obtain rfl : i = U := by omega
     rw [HV.out]
     rcases HE.out with hx1 | ⟨hx1, hx2⟩
     ·go_wp2
      go_ret3
      exact ⟨rfl, (Kept.refl _).alloc _ _⟩
     ·go_wp2
      go_ret3
      exact ⟨rfl, (Kept.refl _).alloc _ _⟩
theorem shifted_32_yes (x e o : Int) (k : Nat) (hx : x = o * 2 ^ k) (hx1 : x ≤ 9223372036854775807) (ho0 : 0 < o) (ho2 : o % 2 = 1) (hk : k < 64) (he1 : -2000 ≤ e) (he2 : e ≤ 2000) (h53 : o < 16777216) (hlow : -149 ≤ e + (k : Int)) (U : Nat) (V : Int) (hV : o * 2 ^ U = V) (hUb : ∀ i : Nat, i < U → o * 2 ^ i < 8388608 ∧ -149 < e + (k : Int) - (i : Int)) (hUk : (U : Int) ≤ 4000) (hend : e + (k : Int) - (U : Int) ≤ -149 ∨ (-149 < e + (k : Int) - (U : Int) ∧ 8388608 ≤ V)) (w : World) : Calls Tryz.prog 196 #[.agg #[.int .i64 32, .int .i64 24, .int .i64 8388608, .int .i64 255, .int .i64 (-149), .int .i64 128, .int .i64 2139095040, .int .i64 2147483648, .int .i64 2143289345], .int .i64 x, .int .i64 e] w fun r w' => r = .returned (.tuple #[.int .i64 V, .int .i64 (e + (k : Int) - (U : Int)), .bool true]) ∧ Kept w w' := by
 have HV : Hid (o * 2 ^ U = V) := hV
 have HU : Hid (∀ i : Nat, i < U → o * 2 ^ i < 8388608 ∧ -149 < e + (k : Int) - (i : Int)) := hUb
 have hdbl : Hid (∀ i : Nat, o * 2 ^ (i + 1) = o * 2 ^ i + o * 2 ^ i) := by
  show ∀ i : Nat, o * 2 ^ (i + 1) = o * 2 ^ i + o * 2 ^ i
  intro i
  rw [Int.pow_succ, ← Int.mul_assoc]
  omega
 have hpos : Hid (∀ i : Nat, 0 < o * 2 ^ i) := by
  show ∀ i : Nat, 0 < o * 2 ^ i
  exact fun i => Int.mul_pos ho0 (Int.pow_pos (by decide))
 have HE : Hid (e + (k : Int) - (U : Int) ≤ -149 ∨ (-149 < e + (k : Int) - (U : Int) ∧ 8388608 ≤ V)) := hend
 clear hV hUb hend
 have hb : ∀ j : Nat, j ≤ k → 0 < o * 2 ^ (k - j) ∧ o * 2 ^ (k - j) ≤ x := by
  intro j hj
  have hp : (0 : Int) < 2 ^ (k - j) := Int.pow_pos (by decide)
  have hq : (1 : Int) ≤ 2 ^ j := by have : (0 : Int) < 2 ^ j := Int.pow_pos (by decide); omega
  have h1 : 0 < o * 2 ^ (k - j) := Int.mul_pos ho0 hp
  refine ⟨h1, ?_⟩
  have e1 : x = o * 2 ^ (k - j) * 2 ^ j := by
   rw [hx, Int.mul_assoc, ← Int.pow_add]
   congr 2
   omega
  rw [e1]
  have := Int.mul_le_mul_of_nonneg_left hq (Int.le_of_lt h1)
  omega
 have HB : Hid (∀ j : Nat, j ≤ k → 0 < o * 2 ^ (k - j) ∧ o * 2 ^ (k - j) ≤ x) := hb
 have HX : Hid (x = o * 2 ^ k) := hx
 clear hb hx
 go_enter Tryz.func196, Tryz.ntmps196
 go_wp2
 go_loop [1, 2] (fun m t => ∃ j : Nat, j ≤ k ∧ m = .int .i64 (o * 2 ^ (k - j)) ∧ t = .int .i64 (e + (j : Int))) (fun _ t => (e + (k : Int) - intOf t).toNat)
 case atStart => exact ⟨0, Nat.zero_le _, by rw [HX.out]; rfl, by simp⟩
 case round =>
  obtain ⟨j, hj, rfl, rfl⟩ := hrel
  have hjb := HB.out j hj
  by_cases hlt : j < k
  ·have hA := half_pow o k j hlt
   have hjb' := HB.out (j + 1) hlt
   obtain ⟨M, hM⟩ : ∃ M, M = o * 2 ^ (k - (j + 1)) := ⟨_, rfl⟩
   rw [← hM] at hA hjb'
   rw [hA] at hjb ⊢
   have HM : Hid (M = o * 2 ^ (k - (j + 1))) := hM
   clear hM hA
   have hmod : (2 * M) % 2 = 0 := by omega
   go_wp2
   go_round
   case rel => exact ⟨j + 1, by omega, by rw [← HM.out], by go_num⟩
   case measure => simp [intOf]; omega
  ·obtain rfl : j = k := by omega
   rw [Nat.sub_self, Int.pow_zero, Int.mul_one] at hjb ⊢
   have hodd : (o % 2 == 0) = false := by rw [ho2]; rfl
   go_wp2
   go_loop [1, 2] (fun m t => ∃ i : Nat, i ≤ U ∧ m = .int .i64 (o * 2 ^ i) ∧ t = .int .i64 (e + (j : Int) - (i : Int))) (fun _ t => (intOf t - (e + (j : Int) - (U : Int))).toNat)
   case atStart => exact ⟨0, Nat.zero_le _, by simp, by simp⟩
   case round =>
    obtain ⟨i, hi, rfl, rfl⟩ := hrel
    by_cases hlt2 : i < U
    ·obtain ⟨g1, g2⟩ := HU.out i hlt2
     have hd := hdbl.out i
     have hp0 := hpos.out i
     obtain ⟨M, hM⟩ : ∃ M, M = o * 2 ^ i := ⟨_, rfl⟩
     rw [← hM] at g1 hd hp0 ⊢
     have HD : Hid (o * 2 ^ (i + 1) = M + M) := hd
     clear hd hM
     go_wp2
     go_round
     case rel => exact ⟨i + 1, by omega, by rw [HD.out], by go_num⟩
     case measure => simp [intOf]; omega
    ·obtain rfl : i = U := by omega
     rw [HV.out]
     rcases HE.out with hx1 | ⟨hx1, hx2⟩
     ·go_wp2
      go_ret3
      exact ⟨rfl, (Kept.refl _).alloc _ _⟩
     ·go_wp2
      go_ret3
      exact ⟨rfl, (Kept.refl _).alloc _ _⟩
theorem ret_pair {a b : Int} {p : Bool} (h : a = b) : Ending.returned (.tuple #[.int .i64 a, .bool p]) = .returned (.tuple #[.int .i64 b, .bool p]) := by rw [h]
theorem rj_zero_64 (p : Bool) (e : Int) (w : World) : Calls Tryz.prog 195 #[.bool p, .int .i64 0, .int .i64 e, .int .i64 64] w fun r w' => r = .returned (.tuple #[.int .i64 (if p = true then -9223372036854775808 else 0), .bool true]) ∧ Kept w w' := by
 by_cases h1 : 2000 < e <;> by_cases h2 : e < -2000
 ·omega
 all_goals
  cases p
  all_goals
   go_enter Tryz.func195, Tryz.ntmps195
   go_wp2_with (first | (go_at_call 118; refine (of_64 _).mono ?_; rintro e w1 ⟨rfl, hk1⟩))
   go_ret2
   exact ⟨rfl, hk1.alloc _ _⟩
theorem rj_yes_64 (p : Bool) (x e V E q : Int) (hx : 0 < x) (he1 : -2000 ≤ e) (he2 : e ≤ 2000) (hE : E ≤ 971) (hE0 : -1074 ≤ E) (hV0 : 0 < V) (hV1 : V < 9007199254740992) (hs : V < 4503599627370496 → E = -1074) (hq : q = (E + 1074) * 4503599627370496 + V + (if p = true then -9223372036854775808 else 0)) (Ks : Hid (∀ w : World, Calls Tryz.prog 196 #[.agg #[.int .i64 64, .int .i64 53, .int .i64 4503599627370496, .int .i64 2047, .int .i64 (-1074), .int .i64 1024, .int .i64 9218868437227405312, .int .i64 (-9223372036854775808), .int .i64 9221120237041090561], .int .i64 x, .int .i64 e] w fun e w' => e = .returned (.tuple #[.int .i64 V, .int .i64 E, .bool true]) ∧ Kept w w')) (w : World) : Calls Tryz.prog 195 #[.bool p, .int .i64 x, .int .i64 e, .int .i64 64] w fun r w' => r = .returned (.tuple #[.int .i64 q, .bool true]) ∧ Kept w w' := by
 have hx0 : (x == 0) = false := by rw [beq_eq_false_iff_ne]; omega
 have HQ : Hid (q = (E + 1074) * 4503599627370496 + V + (if p = true then -9223372036854775808 else 0)) := hq
 have HS : Hid (V < 4503599627370496 → E = -1074) := hs
 clear hq hs
 cases p
 all_goals
  by_cases hvs : V < 4503599627370496
  all_goals
   go_enter Tryz.func195, Tryz.ntmps195
   go_wp2_with (first | (go_at_call 118; refine (of_64 _).mono ?_; rintro e w1 ⟨rfl, hk1⟩) | (go_at_call 196; refine (Ks.out _).mono ?_; rintro e w2 ⟨rfl, hk2⟩; have hcl := laid_cell hk2))
   go_ret2
   refine ⟨ret_pair ?_, (hk1.alloc _ _).trans hk2⟩
   have hq := HQ.out
   have hs := HS.out
   simp only [Bool.false_eq_true, if_true, if_false] at hq
   try unfold wrap64
   omega
theorem rj_zero_32 (p : Bool) (e : Int) (w : World) : Calls Tryz.prog 195 #[.bool p, .int .i64 0, .int .i64 e, .int .i64 32] w fun r w' => r = .returned (.tuple #[.int .i64 (if p = true then 2147483648 else 0), .bool true]) ∧ Kept w w' := by
 by_cases h1 : 2000 < e <;> by_cases h2 : e < -2000
 ·omega
 all_goals
  cases p
  all_goals
   go_enter Tryz.func195, Tryz.ntmps195
   go_wp2_with (first | (go_at_call 118; refine (of_32 _).mono ?_; rintro e w1 ⟨rfl, hk1⟩))
   go_ret2
   exact ⟨rfl, hk1.alloc _ _⟩
theorem rj_yes_32 (p : Bool) (x e V E q : Int) (hx : 0 < x) (he1 : -2000 ≤ e) (he2 : e ≤ 2000) (hE : E ≤ 104) (hE0 : -149 ≤ E) (hV0 : 0 < V) (hV1 : V < 16777216) (hs : V < 8388608 → E = -149) (hq : q = (E + 149) * 8388608 + V + (if p = true then 2147483648 else 0)) (Ks : Hid (∀ w : World, Calls Tryz.prog 196 #[.agg #[.int .i64 32, .int .i64 24, .int .i64 8388608, .int .i64 255, .int .i64 (-149), .int .i64 128, .int .i64 2139095040, .int .i64 2147483648, .int .i64 2143289345], .int .i64 x, .int .i64 e] w fun e w' => e = .returned (.tuple #[.int .i64 V, .int .i64 E, .bool true]) ∧ Kept w w')) (w : World) : Calls Tryz.prog 195 #[.bool p, .int .i64 x, .int .i64 e, .int .i64 32] w fun r w' => r = .returned (.tuple #[.int .i64 q, .bool true]) ∧ Kept w w' := by
 have hx0 : (x == 0) = false := by rw [beq_eq_false_iff_ne]; omega
 have HQ : Hid (q = (E + 149) * 8388608 + V + (if p = true then 2147483648 else 0)) := hq
 have HS : Hid (V < 8388608 → E = -149) := hs
 clear hq hs
 cases p
 all_goals
  by_cases hvs : V < 8388608
  all_goals
   go_enter Tryz.func195, Tryz.ntmps195
   go_wp2_with (first | (go_at_call 118; refine (of_32 _).mono ?_; rintro e w1 ⟨rfl, hk1⟩) | (go_at_call 196; refine (Ks.out _).mono ?_; rintro e w2 ⟨rfl, hk2⟩; have hcl := laid_cell hk2))
   go_ret2
   refine ⟨ret_pair ?_, (hk1.alloc _ _).trans hk2⟩
   have hq := HQ.out
   have hs := HS.out
   simp only [Bool.false_eq_true, if_true, if_false] at hq
   try unfold wrap64
   omega
end Go.Proofs.YtdpccifhhencgaaGreatDoor
