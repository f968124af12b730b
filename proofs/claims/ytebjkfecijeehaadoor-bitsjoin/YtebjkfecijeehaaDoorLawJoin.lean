/- The law's own step 'joined': both packages answer alike, for every sign, whole number, exponent and width. -/
import Derived.Test.YtebjkfecijeehaaDoorRJ
import Derived.Test.YtebjkfecijeehaaDoorAlive
namespace Go.Proofs.YtebjkfecijeehaaDoor
open Go.ChangeShapes Go.WideShapes Go.ChangeAt Go.RowKit
set_option linter.unusedVariables false

theorem odd_int2 (x : Int) (h0 : 0 < x) (h1 : x ≤ 9223372036854775807) : ∃ k : Nat, ∃ L : Nat, ∃ o : Int, k = Lib.ctz 64 x.toNat ∧ L = Lib.bitLen o.toNat ∧ x / 2 ^ k = o ∧ x = o * 2 ^ k ∧ k < 64 ∧ 0 < o ∧ o ≤ 9223372036854775807 ∧ L ≤ 64 ∧ o % 2 = 1 := by
  obtain ⟨a1, a2, a3, a4⟩ := odd_part x.toNat (by omega) (by omega)
  obtain ⟨k, hk⟩ : ∃ k, k = Lib.ctz 64 x.toNat := ⟨_, rfl⟩
  rw [← hk] at a1 a2 a3 a4
  obtain ⟨o, ho⟩ : ∃ o, o = x.toNat / 2 ^ k := ⟨_, rfl⟩
  rw [← ho] at a2 a3 a4
  have hx : x = ((o * 2 ^ k : Nat) : Int) := by rw [← a2]; omega
  have hp : (0 : Nat) < 2 ^ k := Nat.two_pow_pos k
  have hle : o ≤ o * 2 ^ k := Nat.le_mul_of_pos_right _ hp
  have ho1 : o < 2 ^ 64 := by omega
  refine ⟨k, Lib.bitLen o, (o : Int), hk, by simp, ?_, ?_, a1, by omega, by omega, bitLen_le 64 o (by decide) ho1, by omega⟩
  · rw [hx, Int.natCast_mul, Int.natCast_pow]
    exact Int.mul_ediv_cancel _ (Int.ne_of_gt (by exact_mod_cast hp))
  · rw [hx, Int.natCast_mul, Int.natCast_pow]
    rfl

theorem jboth_64 (p : Bool) (x e : Int) (hx1 : x ≤ 9223372036854775807) : ∃ c : Int, ∃ g : Bool, (∀ w : World, Tab w → Calls Tryd.prog 10 #[.bool p, .int .i64 x, .int .i64 e, .int .i64 64] w fun r w' => r = .returned (.tuple #[.int .i64 c, .bool g]) ∧ Kept w w') ∧ (∀ w : World, Calls Tryd.prog 11 #[.bool p, .int .i64 x, .int .i64 e, .int .i64 64] w fun r w' => r = .returned (.tuple #[.int .i64 c, .bool g]) ∧ Kept w w') := by
  by_cases hneg : x < 0
  · exact ⟨0, false, fun w _ => bj_neg_64 p x e hneg w, fun w => rj_neg_64 p x e hneg w⟩
  · by_cases h0 : x = 0
    · subst h0
      exact ⟨_, true, fun w _ => join_zero_64 p e w, fun w => rj_zero_64 p e w⟩
    · have hx0 : 0 < x := by omega
      by_cases hf1 : 2000 < e
      · exact ⟨0, false, fun w _ => bj_far1_64 p x e hx0 hf1 w, fun w => rj_far1_64 p x e hx0 hf1 w⟩
      · by_cases hf2 : e < -2000
        · exact ⟨0, false, fun w _ => bj_far2_64 p x e hx0 hf2 w, fun w => rj_far2_64 p x e hx0 hf2 w⟩
        · obtain ⟨k, L, o, hk, hL, hdiv, hxo, hk64, ho0, ho1, hL64, hodd⟩ := odd_int2 x hx0 hx1
          have Kz : ∀ w : World, Tab w → Calls Tryd.prog 17 #[.int .u64 x] w fun e w' => e = .returned (.int .i64 (k : Int)) ∧ w = w' := by
            intro w hT
            rw [hk]
            exact kz_any x hx0 hx1 w hT
          have Kl : ∀ w : World, Calls Tryd.prog 18 #[.int .u64 (IntKind.u64.wrap o)] w fun e w' => e = .returned (.int .i64 (L : Int)) ∧ w = w' := by
            intro w
            rw [hL]
            exact kl_any o (by omega) ho1 w
          have hLB : o < 9007199254740992 ↔ L ≤ 53 := by
            have h := len_pow o ho0 ho1 0 53 (by decide)
            rw [← hL, Int.pow_zero, Int.mul_one, Nat.zero_add] at h
            exact h
          by_cases hno : 9007199254740992 ≤ o ∨ e + (k : Int) < -1074
          · refine ⟨0, false, fun w hT => ?_, fun w => ?_⟩
            · exact join_64_low p x e k hx0 hx1 (by omega) (by omega) hk64 o L ho0 ho1 hL64 hdiv Kz Kl _ rfl (by omega) w hT
            · exact rj_no_64 p x e hx0 (by omega) (by omega) (fun w => shifted_64_no x e o k hxo hx1 ho0 hodd hk64 (by omega) (by omega) hno w) w
          · obtain ⟨U, hU⟩ : ∃ U : Nat, min (53 - (L : Int)) (e + (k : Int) + 1074) = (U : Int) := ⟨(min (53 - (L : Int)) (e + (k : Int) + 1074)).toNat, by omega⟩
            have hpos : 0 < o * 2 ^ U := Int.mul_pos ho0 (Int.pow_pos (by decide))
            have hV1 : o * 2 ^ U < 9007199254740992 := by
              have h := len_pow o ho0 ho1 U 53 (by decide)
              rw [← hL] at h
              exact h.2 (by omega)
            have hVs := len_pow o ho0 ho1 U 52 (by decide)
            rw [← hL] at hVs
            have hVs' : o * 2 ^ U < 4503599627370496 ↔ U + L ≤ 52 := hVs
            have hUb : ∀ i : Nat, i < U → o * 2 ^ i < 4503599627370496 ∧ -1074 < e + (k : Int) - (i : Int) := by
              intro i hi
              have h := len_pow o ho0 ho1 i 52 (by decide)
              rw [← hL] at h
              exact ⟨h.2 (by omega), by omega⟩
            have hend : e + (k : Int) - (U : Int) ≤ -1074 ∨ (-1074 < e + (k : Int) - (U : Int) ∧ 4503599627370496 ≤ o * 2 ^ U) := by omega
            have Ks : ∀ w : World, Calls Tryd.prog 20 #[.agg #[.int .i64 64, .int .i64 53, .int .i64 4503599627370496, .int .i64 2047, .int .i64 (-1074), .int .i64 1024, .int .i64 9218868437227405312, .int .i64 (-9223372036854775808), .int .i64 9221120237041090561], .int .i64 x, .int .i64 e] w fun r w' => r = .returned (.tuple #[.int .i64 (o * 2 ^ U), .int .i64 (e + (k : Int) - (U : Int)), .bool true]) ∧ Kept w w' := fun w =>
              shifted_64_yes x e o k hxo hx1 ho0 hodd hk64 (by omega) (by omega) (by omega) (by omega) U _ rfl hUb (by omega) hend w
            by_cases hhigh : 2047 ≤ e + (k : Int) - (U : Int) + 1074 + 1
            · refine ⟨0, false, fun w hT => ?_, fun w => ?_⟩
              · exact join_64_high p x e k hx0 hx1 (by omega) (by omega) hk64 o L ho0 ho1 hL64 hdiv Kz Kl U hU (by omega) (by omega) hhigh w hT
              · exact rj_high_64 p x e _ _ hx0 (by omega) (by omega) (by omega) Ks w
            · obtain ⟨v, hv⟩ : ∃ v, (e + (k : Int) - (U : Int) + 1074) * 4503599627370496 + o * 2 ^ U = v := ⟨_, rfl⟩
              have hvb : 0 ≤ v ∧ v < 9223372036854775808 := by
                generalize o * 2 ^ U = V at *
                omega
              refine ⟨if p = true then v - 9223372036854775808 else v, true, fun w hT => ?_, fun w => ?_⟩
              · exact join_64_yes p x e k hx0 hx1 (by omega) (by omega) hk64 o L ho0 ho1 hL64 hdiv Kz Kl U hU (by omega) (by omega) (by omega) v (v - 9223372036854775808) (by omega) (by omega) hv (or_min v hvb.1 hvb.2) _ rfl w hT
              · refine rj_yes_64 p x e _ _ _ hx0 (by omega) (by omega) (by omega) (by omega) hpos hV1 (by omega) ?_ Ks w
                rw [hv]
                cases p
                · simp
                · simp only [if_true]; try omega

theorem jboth_32 (p : Bool) (x e : Int) (hx1 : x ≤ 9223372036854775807) : ∃ c : Int, ∃ g : Bool, (∀ w : World, Tab w → Calls Tryd.prog 10 #[.bool p, .int .i64 x, .int .i64 e, .int .i64 32] w fun r w' => r = .returned (.tuple #[.int .i64 c, .bool g]) ∧ Kept w w') ∧ (∀ w : World, Calls Tryd.prog 11 #[.bool p, .int .i64 x, .int .i64 e, .int .i64 32] w fun r w' => r = .returned (.tuple #[.int .i64 c, .bool g]) ∧ Kept w w') := by
  by_cases hneg : x < 0
  · exact ⟨0, false, fun w _ => bj_neg_32 p x e hneg w, fun w => rj_neg_32 p x e hneg w⟩
  · by_cases h0 : x = 0
    · subst h0
      exact ⟨_, true, fun w _ => join_zero_32 p e w, fun w => rj_zero_32 p e w⟩
    · have hx0 : 0 < x := by omega
      by_cases hf1 : 2000 < e
      · exact ⟨0, false, fun w _ => bj_far1_32 p x e hx0 hf1 w, fun w => rj_far1_32 p x e hx0 hf1 w⟩
      · by_cases hf2 : e < -2000
        · exact ⟨0, false, fun w _ => bj_far2_32 p x e hx0 hf2 w, fun w => rj_far2_32 p x e hx0 hf2 w⟩
        · obtain ⟨k, L, o, hk, hL, hdiv, hxo, hk64, ho0, ho1, hL64, hodd⟩ := odd_int2 x hx0 hx1
          have Kz : ∀ w : World, Tab w → Calls Tryd.prog 17 #[.int .u64 x] w fun e w' => e = .returned (.int .i64 (k : Int)) ∧ w = w' := by
            intro w hT
            rw [hk]
            exact kz_any x hx0 hx1 w hT
          have Kl : ∀ w : World, Calls Tryd.prog 18 #[.int .u64 (IntKind.u64.wrap o)] w fun e w' => e = .returned (.int .i64 (L : Int)) ∧ w = w' := by
            intro w
            rw [hL]
            exact kl_any o (by omega) ho1 w
          have hLB : o < 16777216 ↔ L ≤ 24 := by
            have h := len_pow o ho0 ho1 0 24 (by decide)
            rw [← hL, Int.pow_zero, Int.mul_one, Nat.zero_add] at h
            exact h
          by_cases hno : 16777216 ≤ o ∨ e + (k : Int) < -149
          · refine ⟨0, false, fun w hT => ?_, fun w => ?_⟩
            · exact join_32_low p x e k hx0 hx1 (by omega) (by omega) hk64 o L ho0 ho1 hL64 hdiv Kz Kl _ rfl (by omega) w hT
            · exact rj_no_32 p x e hx0 (by omega) (by omega) (fun w => shifted_32_no x e o k hxo hx1 ho0 hodd hk64 (by omega) (by omega) hno w) w
          · obtain ⟨U, hU⟩ : ∃ U : Nat, min (24 - (L : Int)) (e + (k : Int) + 149) = (U : Int) := ⟨(min (24 - (L : Int)) (e + (k : Int) + 149)).toNat, by omega⟩
            have hpos : 0 < o * 2 ^ U := Int.mul_pos ho0 (Int.pow_pos (by decide))
            have hV1 : o * 2 ^ U < 16777216 := by
              have h := len_pow o ho0 ho1 U 24 (by decide)
              rw [← hL] at h
              exact h.2 (by omega)
            have hVs := len_pow o ho0 ho1 U 23 (by decide)
            rw [← hL] at hVs
            have hVs' : o * 2 ^ U < 8388608 ↔ U + L ≤ 23 := hVs
            have hUb : ∀ i : Nat, i < U → o * 2 ^ i < 8388608 ∧ -149 < e + (k : Int) - (i : Int) := by
              intro i hi
              have h := len_pow o ho0 ho1 i 23 (by decide)
              rw [← hL] at h
              exact ⟨h.2 (by omega), by omega⟩
            have hend : e + (k : Int) - (U : Int) ≤ -149 ∨ (-149 < e + (k : Int) - (U : Int) ∧ 8388608 ≤ o * 2 ^ U) := by omega
            have Ks : ∀ w : World, Calls Tryd.prog 20 #[.agg #[.int .i64 32, .int .i64 24, .int .i64 8388608, .int .i64 255, .int .i64 (-149), .int .i64 128, .int .i64 2139095040, .int .i64 2147483648, .int .i64 2143289345], .int .i64 x, .int .i64 e] w fun r w' => r = .returned (.tuple #[.int .i64 (o * 2 ^ U), .int .i64 (e + (k : Int) - (U : Int)), .bool true]) ∧ Kept w w' := fun w =>
              shifted_32_yes x e o k hxo hx1 ho0 hodd hk64 (by omega) (by omega) (by omega) (by omega) U _ rfl hUb (by omega) hend w
            by_cases hhigh : 255 ≤ e + (k : Int) - (U : Int) + 149 + 1
            · refine ⟨0, false, fun w hT => ?_, fun w => ?_⟩
              · exact join_32_high p x e k hx0 hx1 (by omega) (by omega) hk64 o L ho0 ho1 hL64 hdiv Kz Kl U hU (by omega) (by omega) hhigh w hT
              · exact rj_high_32 p x e _ _ hx0 (by omega) (by omega) (by omega) Ks w
            · obtain ⟨v, hv⟩ : ∃ v, (e + (k : Int) - (U : Int) + 149) * 8388608 + o * 2 ^ U = v := ⟨_, rfl⟩
              have hvb : 0 ≤ v ∧ v < 2147483648 := by
                generalize o * 2 ^ U = V at *
                omega
              refine ⟨if p = true then v + 2147483648 else v, true, fun w hT => ?_, fun w => ?_⟩
              · exact join_32_yes p x e k hx0 hx1 (by omega) (by omega) hk64 o L ho0 ho1 hL64 hdiv Kz Kl U hU (by omega) (by omega) (by omega) v (v + 2147483648) (by omega) (by omega) hv (or_31 v hvb.1 hvb.2) _ rfl w hT
              · refine rj_yes_32 p x e _ _ _ hx0 (by omega) (by omega) (by omega) (by omega) hpos hV1 (by omega) ?_ Ks w
                rw [hv]
                cases p
                · simp
                · simp only [if_true]; try omega

theorem jboth (p : Bool) (x e n : Int) (hx1 : x ≤ 9223372036854775807) : ∃ c : Int, ∃ g : Bool, (∀ w : World, Tab w → Calls Tryd.prog 10 #[.bool p, .int .i64 x, .int .i64 e, .int .i64 n] w fun r w' => r = .returned (.tuple #[.int .i64 c, .bool g]) ∧ Kept w w') ∧ (∀ w : World, Calls Tryd.prog 11 #[.bool p, .int .i64 x, .int .i64 e, .int .i64 n] w fun r w' => r = .returned (.tuple #[.int .i64 c, .bool g]) ∧ Kept w w') := by
  by_cases h64 : n = 64
  · subst h64; exact jboth_64 p x e hx1
  · by_cases h32 : n = 32
    · subst h32; exact jboth_32 p x e hx1
    · exact ⟨0, false, fun w _ => bj_none p x e n (by simpa using h32) (by simpa using h64) w, fun w => rj_none p x e n (by simpa using h32) (by simpa using h64) w⟩

set_option maxHeartbeats 400000 in
theorem ljoined_any (p : Bool) (x e n : Int) (hx1 : x ≤ 9223372036854775807) (w : World) (hT : Tab w) : Calls Tryd.prog 5 #[.bool p, .int .i64 x, .int .i64 e, .int .i64 n] w fun r w' => r = .returned (.bool true) ∧ Kept w w' := by
  obtain ⟨c, g, k1, k2⟩ := jboth p x e n hx1
  have K1 : Hid (∀ w : World, Tab w → Calls Tryd.prog 10 #[.bool p, .int .i64 x, .int .i64 e, .int .i64 n] w fun r w' => r = .returned (.tuple #[.int .i64 c, .bool g]) ∧ Kept w w') := k1
  have K2 : Hid (∀ w : World, Calls Tryd.prog 11 #[.bool p, .int .i64 x, .int .i64 e, .int .i64 n] w fun r w' => r = .returned (.tuple #[.int .i64 c, .bool g]) ∧ Kept w w') := k2
  have HT : Hid (Tab w) := hT
  clear k1 k2 hT
  go_enter Tryd.func5, Tryd.ntmps5
  go_wp2_with fail
  refine (K1.out _ HT.out).mono ?_
  rintro e w1 ⟨rfl, hk1⟩
  go_wp2_with fail
  refine (K2.out _).mono ?_
  rintro e w2 ⟨rfl, hk2⟩
  go_wp2
  go_ret
  exact ⟨congrArg Ending.returned (congrArg Value.bool (by simp)), hk1.trans hk2⟩

end Go.Proofs.YtebjkfecijeehaaDoor
