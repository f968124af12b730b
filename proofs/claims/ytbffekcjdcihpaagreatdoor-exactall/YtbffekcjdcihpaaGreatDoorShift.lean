/- The walk of the document's own shifted: two loops. -/
import Derived.Test.YtbffekcjdcihpaaGreatDoorPab
import Derived.Test.YtbffekcjdcihpaaGreatDoorPai
namespace Go.Proofs.YtbffekcjdcihpaaGreatDoor
open Go.ChangeShapes Go.WideShapes Go.ChangeAt Go.RowKit
set_option linter.unusedSimpArgs false
set_option maxHeartbeats 16000000
set_option maxRecDepth 100000
set_option linter.unusedVariables false
theorem half_pow (o : Int) (k j : Nat) (h : j < k) : o * 2 ^ (k - j) = 2 * (o * 2 ^ (k - (j + 1))) := by
 have e : k - j = (k - (j + 1)) + 1 := by omega
 rw [e, Int.pow_succ]
 have : o * (2 ^ (k - (j + 1)) * 2) = 2 * (o * 2 ^ (k - (j + 1))) := by
  rw [← Int.mul_assoc, Int.mul_comm]
 rw [this]
theorem shifted_64_yes (x e o : Int) (k : Nat) (hx : x = o * 2 ^ k) (hx1 : x ≤ 9223372036854775807) (ho0 : 0 < o) (ho2 : o % 2 = 1) (hk : k < 64) (he1 : -2000 ≤ e) (he2 : e ≤ 2000) (h53 : o < 9007199254740992) (hlow : -1074 ≤ e + (k : Int)) (U : Nat) (V : Int) (hV : o * 2 ^ U = V) (hUb : ∀ i : Nat, i < U → o * 2 ^ i < 4503599627370496 ∧ -1074 < e + (k : Int) - (i : Int)) (hUk : (U : Int) ≤ 4000) (hend : e + (k : Int) - (U : Int) ≤ -1074 ∨ (-1074 < e + (k : Int) - (U : Int) ∧ 4503599627370496 ≤ V)) (w : World) : Calls Tryz.prog 144 #[.agg #[.int .i64 64, .int .i64 53, .int .i64 4503599627370496, .int .i64 2047, .int .i64 (-1074), .int .i64 1024, .int .i64 9218868437227405312, .int .i64 (-9223372036854775808), .int .i64 9221120237041090561], .int .i64 x, .int .i64 e] w fun r w' => r = .returned (.tuple #[.int .i64 V, .int .i64 (e + (k : Int) - (U : Int)), .bool true]) ∧ Kept w w' := by
 have HV : Hid (o * 2 ^ U = V) := hV
 have HU : Hid (∀ i : Nat, i < U → o * 2 ^ i < 4503599627370496 ∧ -1074 < e + (k : Int) - (i : Int)) := hUb
 have hdbl : Hid (∀ i : Nat, o * 2 ^ (i + 1) = o * 2 ^ i + o * 2 ^ i) := by
  show ∀ i : Nat, o * 2 ^ (i + 1) = o * 2 ^ i + o * 2 ^ i
  intro i
  rw [Int.pow_succ, ← Int.mul_assoc]
  omega
 have hpos : Hid (∀ i : Nat, 0 < o * 2 ^ i) := by
  show ∀ i : Nat, 0 < o * 2 ^ i
  exact fun i => Int.mul_pos ho0 (Int.pow_pos (by decide))
 have HE : Hid (e + (k : Int) - (U : Int) ≤ -1074 ∨ (-1074 < e + (k : Int) - (U : Int) ∧ 4503599627370496 ≤ V)) := hend
 clear hV hUb hend
 have hb : ∀ j : Nat, j ≤ k → 0 < o * 2 ^ (k - j) ∧ o * 2 ^ (k - j) ≤ x := by
  intro j hj
  have hp : (0 : Int) < 2 ^ (k - j) := Int.pow_pos (by decide)
  have hq : (1 : Int) ≤ 2 ^ j := by have : (0 : Int) < 2 ^ j := Int.pow_pos (by decide); omega
  have h1 : 0 < o * 2 ^ (k - j) := Int.mul_pos ho0 hp
  refine ⟨h1, ?_⟩
  have e1 : x = o * 2 ^ (k - j) * 2 ^ j := by
   rw [hx, Int.mul_assoc, ← Int.pow_add]
   congr 2
   omega
  rw [e1]
  have := Int.mul_le_mul_of_nonneg_left hq (Int.le_of_lt h1)
  omega
 have HB : Hid (∀ j : Nat, j ≤ k → 0 < o * 2 ^ (k - j) ∧ o * 2 ^ (k - j) ≤ x) := hb
 have HX : Hid (x = o * 2 ^ k) := hx
 clear hb hx
 go_enter Tryz.func144, Tryz.ntmps144
 go_wp2
 go_loop [1, 2] (fun m t => ∃ j : Nat, j ≤ k ∧ m = .int .i64 (o * 2 ^ (k - j)) ∧ t = .int .i64 (e + (j : Int))) (fun _ t => (e + (k : Int) - intOf t).toNat)
 case atStart => exact ⟨0, Nat.zero_le _, by rw [HX.out]; rfl, by simp⟩
 case round =>
  obtain ⟨j, hj, rfl, rfl⟩ := hrel
  have hjb := HB.out j hj
  by_cases hlt : j < k
  ·have hA := half_pow o k j hlt
   have hjb' := HB.out (j + 1) hlt
   obtain ⟨M, hM⟩ : ∃ M, M = o * 2 ^ (k - (j + 1)) := ⟨_, rfl⟩
   rw [← hM] at hA hjb'
   rw [hA] at hjb ⊢
   have HM : Hid (M = o * 2 ^ (k - (j + 1))) := hM
   clear hM hA
   have hmod : (2 * M) % 2 = 0 := by omega
   go_wp2
   go_round
   case rel => exact ⟨j + 1, by omega, by rw [← HM.out], by go_num⟩
   case measure => simp [intOf]; omega
  ·obtain rfl : j = k := by omega
   rw [Nat.sub_self, Int.pow_zero, Int.mul_one] at hjb ⊢
   have hodd : (o % 2 == 0) = false := by rw [ho2]; rfl
   go_wp2
   go_loop [1, 2] (fun m t => ∃ i : Nat, i ≤ U ∧ m = .int .i64 (o * 2 ^ i) ∧ t = .int .i64 (e + (j : Int) - (i : Int))) (fun _ t => (intOf t - (e + (j : Int) - (U : Int))).toNat)
   case atStart => exact ⟨0, Nat.zero_le _, by simp, by simp⟩
   case round =>
    obtain ⟨i, hi, rfl, rfl⟩ := hrel
    by_cases hlt2 : i < U
    ·obtain ⟨g1, g2⟩ := HU.out i hlt2
     have hd := hdbl.out i
     have hp0 := hpos.out i
     obtain ⟨M, hM⟩ : ∃ M, M = o * 2 ^ i := ⟨_, rfl⟩
     rw [← hM] at g1 hd hp0 ⊢
     have HD : Hid (o * 2 ^ (i + 1) = M + M) := hd
     clear hd hM
     go_wp2
     go_round
     case rel => exact ⟨i + 1, by omega, by rw [HD.out], by go_num⟩
     case measure => simp [intOf]; omega
    ·obtain rfl : i = U := by omega
     rw [HV.out]
     rcases HE.out with hx1 | ⟨hx1, hx2⟩
     ·go_wp2
      go_ret3
      exact ⟨rfl, (Kept.refl _).alloc _ _⟩
     ·go_wp2
      go_ret3
      exact ⟨rfl, (Kept.refl _).alloc _ _⟩
theorem shifted_32_yes (x e o : Int) (k : Nat) (hx : x = o * 2 ^ k) (hx1 : x ≤ 9223372036854775807) (ho0 : 0 < o) (ho2 : o % 2 = 1) (hk : k < 64) (he1 : -2000 ≤ e) (he2 : e ≤ 2000) (h53 : o < 16777216) (hlow : -149 ≤ e + (k : Int)) (U : Nat) (V : Int) (hV : o * 2 ^ U = V) (hUb : ∀ i : Nat, i < U → o * 2 ^ i < 8388608 ∧ -149 < e + (k : Int) - (i : Int)) (hUk : (U : Int) ≤ 4000) (hend : e + (k : Int) - (U : Int) ≤ -149 ∨ (-149 < e + (k : Int) - (U : Int) ∧ 8388608 ≤ V)) (w : World) : Calls Tryz.prog 144 #[.agg #[.int .i64 32, .int .i64 24, .int .i64 8388608, .int .i64 255, .int .i64 (-149), .int .i64 128, .int .i64 2139095040, .int .i64 2147483648, .int .i64 2143289345], .int .i64 x, .int .i64 e] w fun r w' => r = .returned (.tuple #[.int .i64 V, .int .i64 (e + (k : Int) - (U : Int)), .bool true]) ∧ Kept w w' := by
 have HV : Hid (o * 2 ^ U = V) := hV
 have HU : Hid (∀ i : Nat, i < U → o * 2 ^ i < 8388608 ∧ -149 < e + (k : Int) - (i : Int)) := hUb
 have hdbl : Hid (∀ i : Nat, o * 2 ^ (i + 1) = o * 2 ^ i + o * 2 ^ i) := by
  show ∀ i : Nat, o * 2 ^ (i + 1) = o * 2 ^ i + o * 2 ^ i
  intro i
  rw [Int.pow_succ, ← Int.mul_assoc]
  omega
 have hpos : Hid (∀ i : Nat, 0 < o * 2 ^ i) := by
  show ∀ i : Nat, 0 < o * 2 ^ i
  exact fun i => Int.mul_pos ho0 (Int.pow_pos (by decide))
 have HE : Hid (e + (k : Int) - (U : Int) ≤ -149 ∨ (-149 < e + (k : Int) - (U : Int) ∧ 8388608 ≤ V)) := hend
 clear hV hUb hend
 have hb : ∀ j : Nat, j ≤ k → 0 < o * 2 ^ (k - j) ∧ o * 2 ^ (k - j) ≤ x := by
  intro j hj
  have hp : (0 : Int) < 2 ^ (k - j) := Int.pow_pos (by decide)
  have hq : (1 : Int) ≤ 2 ^ j := by have : (0 : Int) < 2 ^ j := Int.pow_pos (by decide); omega
  have h1 : 0 < o * 2 ^ (k - j) := Int.mul_pos ho0 hp
  refine ⟨h1, ?_⟩
  have e1 : x = o * 2 ^ (k - j) * 2 ^ j := by
   rw [hx, Int.mul_assoc, ← Int.pow_add]
   congr 2
   omega
  rw [e1]
  have := Int.mul_le_mul_of_nonneg_left hq (Int.le_of_lt h1)
  omega
 have HB : Hid (∀ j : Nat, j ≤ k → 0 < o * 2 ^ (k - j) ∧ o * 2 ^ (k - j) ≤ x) := hb
 have HX : Hid (x = o * 2 ^ k) := hx
 clear hb hx
 go_enter Tryz.func144, Tryz.ntmps144
 go_wp2
 go_loop [1, 2] (fun m t => ∃ j : Nat, j ≤ k ∧ m = .int .i64 (o * 2 ^ (k - j)) ∧ t = .int .i64 (e + (j : Int))) (fun _ t => (e + (k : Int) - intOf t).toNat)
 case atStart => exact ⟨0, Nat.zero_le _, by rw [HX.out]; rfl, by simp⟩
 case round =>
  obtain ⟨j, hj, rfl, rfl⟩ := hrel
  have hjb := HB.out j hj
  by_cases hlt : j < k
  ·have hA := half_pow o k j hlt
   have hjb' := HB.out (j + 1) hlt
   obtain ⟨M, hM⟩ : ∃ M, M = o * 2 ^ (k - (j + 1)) := ⟨_, rfl⟩
   rw [← hM] at hA hjb'
   rw [hA] at hjb ⊢
   have HM : Hid (M = o * 2 ^ (k - (j + 1))) := hM
   clear hM hA
   have hmod : (2 * M) % 2 = 0 := by omega
   go_wp2
   go_round
   case rel => exact ⟨j + 1, by omega, by rw [← HM.out], by go_num⟩
   case measure => simp [intOf]; omega
  ·obtain rfl : j = k := by omega
   rw [Nat.sub_self, Int.pow_zero, Int.mul_one] at hjb ⊢
   have hodd : (o % 2 == 0) = false := by rw [ho2]; rfl
   go_wp2
   go_loop [1, 2] (fun m t => ∃ i : Nat, i ≤ U ∧ m = .int .i64 (o * 2 ^ i) ∧ t = .int .i64 (e + (j : Int) - (i : Int))) (fun _ t => (intOf t - (e + (j : Int) - (U : Int))).toNat)
   case atStart => exact ⟨0, Nat.zero_le _, by simp, by simp⟩
   case round =>
    obtain ⟨i, hi, rfl, rfl⟩ := hrel
    by_cases hlt2 : i < U
    ·obtain ⟨g1, g2⟩ := HU.out i hlt2
     have hd := hdbl.out i
     have hp0 := hpos.out i
     obtain ⟨M, hM⟩ : ∃ M, M = o * 2 ^ i := ⟨_, rfl⟩
     rw [← hM] at g1 hd hp0 ⊢
     have HD : Hid (o * 2 ^ (i + 1) = M + M) := hd
     clear hd hM
     go_wp2
     go_round
     case rel => exact ⟨i + 1, by omega, by rw [HD.out], by go_num⟩
     case measure => simp [intOf]; omega
    ·obtain rfl : i = U := by omega
     rw [HV.out]
     rcases HE.out with hx1 | ⟨hx1, hx2⟩
     ·go_wp2
      go_ret3
      exact ⟨rfl, (Kept.refl _).alloc _ _⟩
     ·go_wp2
      go_ret3
      exact ⟨rfl, (Kept.refl _).alloc _ _⟩
end Go.Proofs.YtbffekcjdcihpaaGreatDoor
