/- The walk of the document's own shifted: two loops. -/
import Derived.Test.YtakdnodgcdddeaaJoinB
import Derived.Test.YtakdnodgcdddeaaRef
namespace Go.Proofs.Ytakdnodgcdddeaa
open Go.ChangeShapes Go.WideShapes Go.ChangeAt Go.RowKit
set_option linter.unusedVariables false

theorem half_pow (o : Int) (k j : Nat) (h : j < k) : o * 2 ^ (k - j) = 2 * (o * 2 ^ (k - (j + 1))) := by
  have e : k - j = (k - (j + 1)) + 1 := by omega
  rw [e, Int.pow_succ]
  have : o * (2 ^ (k - (j + 1)) * 2) = 2 * (o * 2 ^ (k - (j + 1))) := by
    rw [← Int.mul_assoc, Int.mul_comm]
  rw [this]

theorem len_pow (o : Int) (h0 : 0 < o) (h1 : o ≤ 9223372036854775807) (i f : Nat) (hf : f ≤ 62) : o * 2 ^ i < 2 ^ f ↔ i + Lib.bitLen o.toNat ≤ f := by
  obtain ⟨m, rfl⟩ := Int.eq_ofNat_of_zero_le (Int.le_of_lt h0)
  have hm : m ≠ 0 := by omega
  have l1 : 2 ^ m.log2 ≤ m := Nat.log2_self_le hm
  have l2 : m < 2 ^ (m.log2 + 1) := Nat.lt_log2_self
  have hlog : m.log2 < 64 := by
    rw [Nat.log2_lt hm]
    omega
  have hL : Lib.bitLen m = m.log2 + 1 := bitLen_top m.log2 m hlog l1 l2
  have ec : (m : Int) * 2 ^ i < 2 ^ f ↔ m * 2 ^ i < 2 ^ f := by
    have e1 : ((m * 2 ^ i : Nat) : Int) = (m : Int) * 2 ^ i := by rw [Int.natCast_mul, Int.natCast_pow]; rfl
    have e2 : ((2 ^ f : Nat) : Int) = 2 ^ f := by rw [Int.natCast_pow]; rfl
    rw [← e1, ← e2]
    exact Int.ofNat_lt
  show (m : Int) * 2 ^ i < 2 ^ f ↔ i + Lib.bitLen (m : Int).toNat ≤ f
  rw [ec, Int.toNat_natCast, hL]
  constructor
  · intro h
    have a : 2 ^ (m.log2 + i) < 2 ^ f := by
      rw [Nat.pow_add]
      exact Nat.lt_of_le_of_lt (Nat.mul_le_mul_right _ l1) h
    have := (Nat.pow_lt_pow_iff_right (by decide : 1 < 2)).1 a
    omega
  · intro h
    have a : m * 2 ^ i < 2 ^ (m.log2 + 1) * 2 ^ i := Nat.mul_lt_mul_of_pos_right l2 (Nat.two_pow_pos _)
    rw [← Nat.pow_add] at a
    exact Nat.lt_of_lt_of_le a (Nat.pow_le_pow_right (by decide) (by omega))

set_option maxHeartbeats 1000000 in
theorem shifted_64_no (x e o : Int) (k : Nat) (hx : x = o * 2 ^ k) (hx1 : x ≤ 9223372036854775807) (ho0 : 0 < o) (ho2 : o % 2 = 1) (hk : k < 64) (he1 : -2000 ≤ e) (he2 : e ≤ 2000) (hno : 9007199254740992 ≤ o ∨ e + (k : Int) < -1074) (w : World) : Calls Try.prog 45 #[.agg #[.int .i64 64, .int .i64 53, .int .i64 4503599627370496, .int .i64 2047, .int .i64 (-1074), .int .i64 1024, .int .i64 9218868437227405312, .int .i64 (-9223372036854775808), .int .i64 9221120237041090561], .int .i64 x, .int .i64 e] w fun e w' => e = .returned (.tuple #[.int .i64 0, .int .i64 0, .bool false]) ∧ Kept w w' := by
  have hb : ∀ j : Nat, j ≤ k → 0 < o * 2 ^ (k - j) ∧ o * 2 ^ (k - j) ≤ x := by
    intro j hj
    have hp : (0 : Int) < 2 ^ (k - j) := Int.pow_pos (by decide)
    have hq : (1 : Int) ≤ 2 ^ j := by have : (0 : Int) < 2 ^ j := Int.pow_pos (by decide); omega
    have h1 : 0 < o * 2 ^ (k - j) := Int.mul_pos ho0 hp
    refine ⟨h1, ?_⟩
    have e1 : x = o * 2 ^ (k - j) * 2 ^ j := by
      rw [hx, Int.mul_assoc, ← Int.pow_add]
      congr 2
      omega
    rw [e1]
    have := Int.mul_le_mul_of_nonneg_left hq (Int.le_of_lt h1)
    omega
  have HB : Hid (∀ j : Nat, j ≤ k → 0 < o * 2 ^ (k - j) ∧ o * 2 ^ (k - j) ≤ x) := hb
  have HX : Hid (x = o * 2 ^ k) := hx
  clear hb hx
  go_enter Try.func45, Try.ntmps45
  go_wp2
  go_loop [1, 2] (fun m t => ∃ j : Nat, j ≤ k ∧ m = .int .i64 (o * 2 ^ (k - j)) ∧ t = .int .i64 (e + (j : Int))) (fun _ t => (e + (k : Int) - intOf t).toNat)
  case atStart => exact ⟨0, Nat.zero_le _, by rw [HX.out]; rfl, by simp⟩
  case round =>
    obtain ⟨j, hj, rfl, rfl⟩ := hrel
    have hjb := HB.out j hj
    by_cases hlt : j < k
    · have hA := half_pow o k j hlt
      have hjb' := HB.out (j + 1) hlt
      obtain ⟨M, hM⟩ : ∃ M, M = o * 2 ^ (k - (j + 1)) := ⟨_, rfl⟩
      rw [← hM] at hA hjb'
      rw [hA] at hjb ⊢
      have HM : Hid (M = o * 2 ^ (k - (j + 1))) := hM
      clear hM hA
      have hmod : (2 * M) % 2 = 0 := by omega
      go_wp2
      go_round
      case rel => exact ⟨j + 1, by omega, by rw [← HM.out], by go_num⟩
      case measure => simp [intOf]; omega
    · obtain rfl : j = k := by omega
      rw [Nat.sub_self, Int.pow_zero, Int.mul_one] at hjb ⊢
      have hodd : (o % 2 == 0) = false := by rw [ho2]; rfl
      go_wp2
      all_goals
        go_ret3
        exact ⟨rfl, (Kept.refl _).alloc _ _⟩

set_option maxHeartbeats 2000000 in
theorem shifted_64_yes (x e o : Int) (k : Nat) (hx : x = o * 2 ^ k) (hx1 : x ≤ 9223372036854775807) (ho0 : 0 < o) (ho2 : o % 2 = 1) (hk : k < 64) (he1 : -2000 ≤ e) (he2 : e ≤ 2000) (h53 : o < 9007199254740992) (hlow : -1074 ≤ e + (k : Int)) (U : Nat) (V : Int) (hV : o * 2 ^ U = V) (hUb : ∀ i : Nat, i < U → o * 2 ^ i < 4503599627370496 ∧ -1074 < e + (k : Int) - (i : Int)) (hUk : (U : Int) ≤ 4000) (hend : e + (k : Int) - (U : Int) ≤ -1074 ∨ (-1074 < e + (k : Int) - (U : Int) ∧ 4503599627370496 ≤ V)) (w : World) : Calls Try.prog 45 #[.agg #[.int .i64 64, .int .i64 53, .int .i64 4503599627370496, .int .i64 2047, .int .i64 (-1074), .int .i64 1024, .int .i64 9218868437227405312, .int .i64 (-9223372036854775808), .int .i64 9221120237041090561], .int .i64 x, .int .i64 e] w fun r w' => r = .returned (.tuple #[.int .i64 V, .int .i64 (e + (k : Int) - (U : Int)), .bool true]) ∧ Kept w w' := by
  have HV : Hid (o * 2 ^ U = V) := hV
  have HU : Hid (∀ i : Nat, i < U → o * 2 ^ i < 4503599627370496 ∧ -1074 < e + (k : Int) - (i : Int)) := hUb
  have hdbl : Hid (∀ i : Nat, o * 2 ^ (i + 1) = o * 2 ^ i + o * 2 ^ i) := by
    show ∀ i : Nat, o * 2 ^ (i + 1) = o * 2 ^ i + o * 2 ^ i
    intro i
    rw [Int.pow_succ, ← Int.mul_assoc]
    omega
  have hpos : Hid (∀ i : Nat, 0 < o * 2 ^ i) := by
    show ∀ i : Nat, 0 < o * 2 ^ i
    exact fun i => Int.mul_pos ho0 (Int.pow_pos (by decide))
  have HE : Hid (e + (k : Int) - (U : Int) ≤ -1074 ∨ (-1074 < e + (k : Int) - (U : Int) ∧ 4503599627370496 ≤ V)) := hend
  clear hV hUb hend
  have hb : ∀ j : Nat, j ≤ k → 0 < o * 2 ^ (k - j) ∧ o * 2 ^ (k - j) ≤ x := by
    intro j hj
    have hp : (0 : Int) < 2 ^ (k - j) := Int.pow_pos (by decide)
    have hq : (1 : Int) ≤ 2 ^ j := by have : (0 : Int) < 2 ^ j := Int.pow_pos (by decide); omega
    have h1 : 0 < o * 2 ^ (k - j) := Int.mul_pos ho0 hp
    refine ⟨h1, ?_⟩
    have e1 : x = o * 2 ^ (k - j) * 2 ^ j := by
      rw [hx, Int.mul_assoc, ← Int.pow_add]
      congr 2
      omega
    rw [e1]
    have := Int.mul_le_mul_of_nonneg_left hq (Int.le_of_lt h1)
    omega
  have HB : Hid (∀ j : Nat, j ≤ k → 0 < o * 2 ^ (k - j) ∧ o * 2 ^ (k - j) ≤ x) := hb
  have HX : Hid (x = o * 2 ^ k) := hx
  clear hb hx
  go_enter Try.func45, Try.ntmps45
  go_wp2
  go_loop [1, 2] (fun m t => ∃ j : Nat, j ≤ k ∧ m = .int .i64 (o * 2 ^ (k - j)) ∧ t = .int .i64 (e + (j : Int))) (fun _ t => (e + (k : Int) - intOf t).toNat)
  case atStart => exact ⟨0, Nat.zero_le _, by rw [HX.out]; rfl, by simp⟩
  case round =>
    obtain ⟨j, hj, rfl, rfl⟩ := hrel
    have hjb := HB.out j hj
    by_cases hlt : j < k
    · have hA := half_pow o k j hlt
      have hjb' := HB.out (j + 1) hlt
      obtain ⟨M, hM⟩ : ∃ M, M = o * 2 ^ (k - (j + 1)) := ⟨_, rfl⟩
      rw [← hM] at hA hjb'
      rw [hA] at hjb ⊢
      have HM : Hid (M = o * 2 ^ (k - (j + 1))) := hM
      clear hM hA
      have hmod : (2 * M) % 2 = 0 := by omega
      go_wp2
      go_round
      case rel => exact ⟨j + 1, by omega, by rw [← HM.out], by go_num⟩
      case measure => simp [intOf]; omega
    · obtain rfl : j = k := by omega
      rw [Nat.sub_self, Int.pow_zero, Int.mul_one] at hjb ⊢
      have hodd : (o % 2 == 0) = false := by rw [ho2]; rfl
      go_wp2
      go_loop [1, 2] (fun m t => ∃ i : Nat, i ≤ U ∧ m = .int .i64 (o * 2 ^ i) ∧ t = .int .i64 (e + (j : Int) - (i : Int))) (fun _ t => (intOf t - (e + (j : Int) - (U : Int))).toNat)
      case atStart => exact ⟨0, Nat.zero_le _, by simp, by simp⟩
      case round =>
        obtain ⟨i, hi, rfl, rfl⟩ := hrel
        by_cases hlt2 : i < U
        · obtain ⟨g1, g2⟩ := HU.out i hlt2
          have hd := hdbl.out i
          have hp0 := hpos.out i
          obtain ⟨M, hM⟩ : ∃ M, M = o * 2 ^ i := ⟨_, rfl⟩
          rw [← hM] at g1 hd hp0 ⊢
          have HD : Hid (o * 2 ^ (i + 1) = M + M) := hd
          clear hd hM
          go_wp2
          go_round
          case rel => exact ⟨i + 1, by omega, by rw [HD.out], by go_num⟩
          case measure => simp [intOf]; omega
        · obtain rfl : i = U := by omega
          rw [HV.out]
          rcases HE.out with hx1 | ⟨hx1, hx2⟩
          · go_wp2
            go_ret3
            exact ⟨rfl, (Kept.refl _).alloc _ _⟩
          · go_wp2
            go_ret3
            exact ⟨rfl, (Kept.refl _).alloc _ _⟩

set_option maxHeartbeats 1000000 in
theorem shifted_32_no (x e o : Int) (k : Nat) (hx : x = o * 2 ^ k) (hx1 : x ≤ 9223372036854775807) (ho0 : 0 < o) (ho2 : o % 2 = 1) (hk : k < 64) (he1 : -2000 ≤ e) (he2 : e ≤ 2000) (hno : 16777216 ≤ o ∨ e + (k : Int) < -149) (w : World) : Calls Try.prog 45 #[.agg #[.int .i64 32, .int .i64 24, .int .i64 8388608, .int .i64 255, .int .i64 (-149), .int .i64 128, .int .i64 2139095040, .int .i64 2147483648, .int .i64 2143289345], .int .i64 x, .int .i64 e] w fun e w' => e = .returned (.tuple #[.int .i64 0, .int .i64 0, .bool false]) ∧ Kept w w' := by
  have hb : ∀ j : Nat, j ≤ k → 0 < o * 2 ^ (k - j) ∧ o * 2 ^ (k - j) ≤ x := by
    intro j hj
    have hp : (0 : Int) < 2 ^ (k - j) := Int.pow_pos (by decide)
    have hq : (1 : Int) ≤ 2 ^ j := by have : (0 : Int) < 2 ^ j := Int.pow_pos (by decide); omega
    have h1 : 0 < o * 2 ^ (k - j) := Int.mul_pos ho0 hp
    refine ⟨h1, ?_⟩
    have e1 : x = o * 2 ^ (k - j) * 2 ^ j := by
      rw [hx, Int.mul_assoc, ← Int.pow_add]
      congr 2
      omega
    rw [e1]
    have := Int.mul_le_mul_of_nonneg_left hq (Int.le_of_lt h1)
    omega
  have HB : Hid (∀ j : Nat, j ≤ k → 0 < o * 2 ^ (k - j) ∧ o * 2 ^ (k - j) ≤ x) := hb
  have HX : Hid (x = o * 2 ^ k) := hx
  clear hb hx
  go_enter Try.func45, Try.ntmps45
  go_wp2
  go_loop [1, 2] (fun m t => ∃ j : Nat, j ≤ k ∧ m = .int .i64 (o * 2 ^ (k - j)) ∧ t = .int .i64 (e + (j : Int))) (fun _ t => (e + (k : Int) - intOf t).toNat)
  case atStart => exact ⟨0, Nat.zero_le _, by rw [HX.out]; rfl, by simp⟩
  case round =>
    obtain ⟨j, hj, rfl, rfl⟩ := hrel
    have hjb := HB.out j hj
    by_cases hlt : j < k
    · have hA := half_pow o k j hlt
      have hjb' := HB.out (j + 1) hlt
      obtain ⟨M, hM⟩ : ∃ M, M = o * 2 ^ (k - (j + 1)) := ⟨_, rfl⟩
      rw [← hM] at hA hjb'
      rw [hA] at hjb ⊢
      have HM : Hid (M = o * 2 ^ (k - (j + 1))) := hM
      clear hM hA
      have hmod : (2 * M) % 2 = 0 := by omega
      go_wp2
      go_round
      case rel => exact ⟨j + 1, by omega, by rw [← HM.out], by go_num⟩
      case measure => simp [intOf]; omega
    · obtain rfl : j = k := by omega
      rw [Nat.sub_self, Int.pow_zero, Int.mul_one] at hjb ⊢
      have hodd : (o % 2 == 0) = false := by rw [ho2]; rfl
      go_wp2
      all_goals
        go_ret3
        exact ⟨rfl, (Kept.refl _).alloc _ _⟩

set_option maxHeartbeats 2000000 in
theorem shifted_32_yes (x e o : Int) (k : Nat) (hx : x = o * 2 ^ k) (hx1 : x ≤ 9223372036854775807) (ho0 : 0 < o) (ho2 : o % 2 = 1) (hk : k < 64) (he1 : -2000 ≤ e) (he2 : e ≤ 2000) (h53 : o < 16777216) (hlow : -149 ≤ e + (k : Int)) (U : Nat) (V : Int) (hV : o * 2 ^ U = V) (hUb : ∀ i : Nat, i < U → o * 2 ^ i < 8388608 ∧ -149 < e + (k : Int) - (i : Int)) (hUk : (U : Int) ≤ 4000) (hend : e + (k : Int) - (U : Int) ≤ -149 ∨ (-149 < e + (k : Int) - (U : Int) ∧ 8388608 ≤ V)) (w : World) : Calls Try.prog 45 #[.agg #[.int .i64 32, .int .i64 24, .int .i64 8388608, .int .i64 255, .int .i64 (-149), .int .i64 128, .int .i64 2139095040, .int .i64 2147483648, .int .i64 2143289345], .int .i64 x, .int .i64 e] w fun r w' => r = .returned (.tuple #[.int .i64 V, .int .i64 (e + (k : Int) - (U : Int)), .bool true]) ∧ Kept w w' := by
  have HV : Hid (o * 2 ^ U = V) := hV
  have HU : Hid (∀ i : Nat, i < U → o * 2 ^ i < 8388608 ∧ -149 < e + (k : Int) - (i : Int)) := hUb
  have hdbl : Hid (∀ i : Nat, o * 2 ^ (i + 1) = o * 2 ^ i + o * 2 ^ i) := by
    show ∀ i : Nat, o * 2 ^ (i + 1) = o * 2 ^ i + o * 2 ^ i
    intro i
    rw [Int.pow_succ, ← Int.mul_assoc]
    omega
  have hpos : Hid (∀ i : Nat, 0 < o * 2 ^ i) := by
    show ∀ i : Nat, 0 < o * 2 ^ i
    exact fun i => Int.mul_pos ho0 (Int.pow_pos (by decide))
  have HE : Hid (e + (k : Int) - (U : Int) ≤ -149 ∨ (-149 < e + (k : Int) - (U : Int) ∧ 8388608 ≤ V)) := hend
  clear hV hUb hend
  have hb : ∀ j : Nat, j ≤ k → 0 < o * 2 ^ (k - j) ∧ o * 2 ^ (k - j) ≤ x := by
    intro j hj
    have hp : (0 : Int) < 2 ^ (k - j) := Int.pow_pos (by decide)
    have hq : (1 : Int) ≤ 2 ^ j := by have : (0 : Int) < 2 ^ j := Int.pow_pos (by decide); omega
    have h1 : 0 < o * 2 ^ (k - j) := Int.mul_pos ho0 hp
    refine ⟨h1, ?_⟩
    have e1 : x = o * 2 ^ (k - j) * 2 ^ j := by
      rw [hx, Int.mul_assoc, ← Int.pow_add]
      congr 2
      omega
    rw [e1]
    have := Int.mul_le_mul_of_nonneg_left hq (Int.le_of_lt h1)
    omega
  have HB : Hid (∀ j : Nat, j ≤ k → 0 < o * 2 ^ (k - j) ∧ o * 2 ^ (k - j) ≤ x) := hb
  have HX : Hid (x = o * 2 ^ k) := hx
  clear hb hx
  go_enter Try.func45, Try.ntmps45
  go_wp2
  go_loop [1, 2] (fun m t => ∃ j : Nat, j ≤ k ∧ m = .int .i64 (o * 2 ^ (k - j)) ∧ t = .int .i64 (e + (j : Int))) (fun _ t => (e + (k : Int) - intOf t).toNat)
  case atStart => exact ⟨0, Nat.zero_le _, by rw [HX.out]; rfl, by simp⟩
  case round =>
    obtain ⟨j, hj, rfl, rfl⟩ := hrel
    have hjb := HB.out j hj
    by_cases hlt : j < k
    · have hA := half_pow o k j hlt
      have hjb' := HB.out (j + 1) hlt
      obtain ⟨M, hM⟩ : ∃ M, M = o * 2 ^ (k - (j + 1)) := ⟨_, rfl⟩
      rw [← hM] at hA hjb'
      rw [hA] at hjb ⊢
      have HM : Hid (M = o * 2 ^ (k - (j + 1))) := hM
      clear hM hA
      have hmod : (2 * M) % 2 = 0 := by omega
      go_wp2
      go_round
      case rel => exact ⟨j + 1, by omega, by rw [← HM.out], by go_num⟩
      case measure => simp [intOf]; omega
    · obtain rfl : j = k := by omega
      rw [Nat.sub_self, Int.pow_zero, Int.mul_one] at hjb ⊢
      have hodd : (o % 2 == 0) = false := by rw [ho2]; rfl
      go_wp2
      go_loop [1, 2] (fun m t => ∃ i : Nat, i ≤ U ∧ m = .int .i64 (o * 2 ^ i) ∧ t = .int .i64 (e + (j : Int) - (i : Int))) (fun _ t => (intOf t - (e + (j : Int) - (U : Int))).toNat)
      case atStart => exact ⟨0, Nat.zero_le _, by simp, by simp⟩
      case round =>
        obtain ⟨i, hi, rfl, rfl⟩ := hrel
        by_cases hlt2 : i < U
        · obtain ⟨g1, g2⟩ := HU.out i hlt2
          have hd := hdbl.out i
          have hp0 := hpos.out i
          obtain ⟨M, hM⟩ : ∃ M, M = o * 2 ^ i := ⟨_, rfl⟩
          rw [← hM] at g1 hd hp0 ⊢
          have HD : Hid (o * 2 ^ (i + 1) = M + M) := hd
          clear hd hM
          go_wp2
          go_round
          case rel => exact ⟨i + 1, by omega, by rw [HD.out], by go_num⟩
          case measure => simp [intOf]; omega
        · obtain rfl : i = U := by omega
          rw [HV.out]
          rcases HE.out with hx1 | ⟨hx1, hx2⟩
          · go_wp2
            go_ret3
            exact ⟨rfl, (Kept.refl _).alloc _ _⟩
          · go_wp2
            go_ret3
            exact ⟨rfl, (Kept.refl _).alloc _ _⟩

end Go.Proofs.Ytakdnodgcdddeaa
