/- Join of package bits: noughts,what is below 0,exponents that are too far. Join of package bits gives back what Parts has told. bits.Join at what rounding hands it: the rung. -/
import Derived.Test.YtnniljhdcplkgaaGreatDoorWr04
import Derived.Test.YtnniljhdcplkgaaGreatDoorWr05
namespace Go.Proofs.YtnniljhdcplkgaaGreatDoor
open Go.ChangeShapes Go.WideShapes Go.ChangeAt Go.RowKit
set_option maxHeartbeats 16000000
set_option maxRecDepth 100000
set_option linter.unusedVariables false
theorem or_min (v : Int) (h0 : 0 ≤ v) (h1 : v < 9223372036854775808) : bits .or .i64 v (-9223372036854775808) = v - 9223372036854775808:=by
 have e : (BitVec.ofInt 64 (-9223372036854775808) : BitVec 64).toNat = 2 ^ 63 * 1:=by decide
 have h:=ofInt_toNat v
 rw [bits_or,BitVec.toNat_or,e,Nat.or_comm,← Nat.two_pow_add_eq_or_of_lt (by omega),wrap_i64]
 omega
theorem or_31 (v : Int) (h0 : 0 ≤ v) (h1 : v < 2147483648) : bits .or .i64 v 2147483648 = v + 2147483648:=by
 have e : (BitVec.ofInt 64 2147483648 : BitVec 64).toNat = 2 ^ 31 * 1:=by decide
 have h:=ofInt_toNat v
 rw [bits_or,BitVec.toNat_or,e,Nat.or_comm,← Nat.two_pow_add_eq_or_of_lt (by omega),wrap_i64]
 omega
theorem join_zero_64 (p : Bool) (e : Int) (w : World) : Calls Tryz.prog 127 #[.bool p,.int .i64 0,.int .i64 e,.int .i64 64] w fun e w' => e = .returned (.tuple #[.int .i64 (if p = true then -9223372036854775808 else 0),.bool true]) ∧ Kept w w':=by
 obtain ⟨q,hq⟩ : ∃ q : Int,(if p = true then -9223372036854775808 else 0) = q:=⟨_,rfl⟩
 have hr : bits .or .i64 0 (-9223372036854775808) = -9223372036854775808:=by decide
 rw [hq]
 have HR : Hid (bits .or .i64 0 (-9223372036854775808) = -9223372036854775808):=hr
 have HQ : Hid ((if p = true then (-9223372036854775808 : Int) else 0) = q):=hq
 clear hr hq
 go_enter Tryz.func127,Tryz.ntmps127
 go_wp2_with (first | (go_at_call 24; refine (layoutOf_64 _).mono ?_; rintro e w1 ⟨rfl,hk1⟩) | (go_at_call 149; refine (signed_64 p 0 _ q HR.out HQ.out _).mono ?_; rintro e w2 ⟨rfl,hk2⟩))
 go_ret2
 exact ⟨rfl,(hk1.alloc _ _).trans hk2⟩
theorem join_zero_32 (p : Bool) (e : Int) (w : World) : Calls Tryz.prog 127 #[.bool p,.int .i64 0,.int .i64 e,.int .i64 32] w fun e w' => e = .returned (.tuple #[.int .i64 (if p = true then 2147483648 else 0),.bool true]) ∧ Kept w w':=by
 obtain ⟨q,hq⟩ : ∃ q : Int,(if p = true then 2147483648 else 0) = q:=⟨_,rfl⟩
 have hr : bits .or .i64 0 2147483648 = 2147483648:=by decide
 rw [hq]
 have HR : Hid (bits .or .i64 0 2147483648 = 2147483648):=hr
 have HQ : Hid ((if p = true then (2147483648 : Int) else 0) = q):=hq
 clear hr hq
 go_enter Tryz.func127,Tryz.ntmps127
 go_wp2_with (first | (go_at_call 24; refine (layoutOf_32 _).mono ?_; rintro e w1 ⟨rfl,hk1⟩) | (go_at_call 149; refine (signed_32 p 0 _ q HR.out HQ.out _).mono ?_; rintro e w2 ⟨rfl,hk2⟩))
 go_ret2
 exact ⟨rfl,(hk1.alloc _ _).trans hk2⟩
/-! ### Odd part,length: plain arithmetic -/
theorem bitLenAux_le (f x : Nat) : Lib.bitLenAux f x ≤ f:=by
 induction f generalizing x with
 | zero => simp [Lib.bitLenAux]
 | succ f ih =>
  unfold Lib.bitLenAux
  split
  ·omega
  ·have:=ih (x / 2); omega
theorem bitLen_le (f x : Nat) (hf : f ≤ 64) (h : x < 2 ^ f) : Lib.bitLen x ≤ f:=by
 unfold Lib.bitLen
 rw [Lib.bitLenAux_fuel f x h 64 hf]
 exact bitLenAux_le f x
theorem bitLen_top (f x : Nat) (hf : f < 64) (h1 : 2 ^ f ≤ x) (h2 : x < 2 ^ (f + 1)) : Lib.bitLen x = f + 1:=by
 have hx : x < 2 ^ 64:=Nat.lt_of_lt_of_le h2 (Nat.pow_le_pow_right (by decide) (by omega))
 rw [Lib.bitLen_shift f x h1 hx]
 have : x / 2 ^ f = 1:=by
  apply Nat.div_eq_of_lt_le
  ·omega
  ·rw [Nat.pow_succ] at h2; omega
 rw [this]
 rfl
/-- The odd part of a whole number above 0. -/
theorem odd_part (m : Nat) (h0 : m ≠ 0) (h : m < 2 ^ 64) : Lib.ctz 64 m < 64 ∧ m = m / 2 ^ Lib.ctz 64 m * 2 ^ Lib.ctz 64 m ∧ m / 2 ^ Lib.ctz 64 m % 2 = 1 ∧ Lib.bitLen m = Lib.ctz 64 m + Lib.bitLen (m / 2 ^ Lib.ctz 64 m):=by
 have e : Lib.ctz 64 m = Lib.ctzFrom 64 m:=by unfold Lib.ctz; rw [if_neg h0]
 obtain ⟨j,hj,hk⟩:=Lib.ctzFrom_spec 64 m (by omega) h
 rw [← e] at hj hk
 generalize Lib.ctz 64 m = k at *
 have hp : 0 < 2 ^ k:=Nat.two_pow_pos _
 have hd : m / 2 ^ k = 2 * j + 1:=by
  rw [hj]
  exact Nat.mul_div_cancel_left _ hp
 refine ⟨hk,?_,by rw [hd]; omega,?_⟩
 ·rw [hd,Nat.mul_comm]; exact hj
 ·refine Lib.bitLen_shift _ m ?_ h
  rw [hj]
  exact Nat.le_mul_of_pos_right _ (by omega)
end Go.Proofs.YtnniljhdcplkgaaGreatDoor
namespace Go.Proofs.YtnniljhdcplkgaaGreatDoor
open Go.ChangeShapes Go.WideShapes Go.ChangeAt Go.RowKit
set_option maxHeartbeats 16000000
set_option maxRecDepth 100000
set_option linter.unusedVariables false
theorem u64_id (o : Int) (h0 : 0 ≤ o) (h1 : o ≤ 9223372036854775807) : IntKind.u64.wrap o = o:=by
 rw [IntKind.wrap_u64]; omega
theorem kz_any (x : Int) (h0 : 0 < x) (h1 : x ≤ 9223372036854775807) (w : World) (hT : Tab w) : Calls Tryz.prog 136 #[.int .u64 x] w fun e w' => e = .returned (.int .i64 ((Lib.ctz 64 x.toNat : Nat) : Int)) ∧ w = w':=by
 have h:=tz x.toNat (by omega) (by omega) w hT
 rw [Int.toNat_of_nonneg (by omega)] at h
 exact h
theorem kl_any (o : Int) (h0 : 0 ≤ o) (h1 : o ≤ 9223372036854775807) (w : World) : Calls Tryz.prog 119 #[.int .u64 (IntKind.u64.wrap o)] w fun e w' => e = .returned (.int .i64 ((Lib.bitLen o.toNat : Nat) : Int)) ∧ w = w':=by
 rw [u64_id o h0 h1]
 exact len o w h0 (by omega)
/-- A whole number above 0 as an odd one times a power of 2,with its length. -/
theorem odd_int (x : Int) (h0 : 0 < x) (h1 : x ≤ 9223372036854775807) : ∃ k : Nat,∃ L : Nat,∃ o : Int,k = Lib.ctz 64 x.toNat ∧ L = Lib.bitLen o.toNat ∧ x / 2 ^ k = o ∧ x = o * 2 ^ k ∧ k < 64 ∧ 0 < o ∧ o ≤ 9223372036854775807 ∧ Lib.bitLen x.toNat = k + L ∧ L ≤ 64:=by
 obtain ⟨a1,a2,a3,a4⟩:=odd_part x.toNat (by omega) (by omega)
 obtain ⟨k,hk⟩ : ∃ k,k = Lib.ctz 64 x.toNat:=⟨_,rfl⟩
 rw [← hk] at a1 a2 a3 a4
 obtain ⟨o,ho⟩ : ∃ o,o = x.toNat / 2 ^ k:=⟨_,rfl⟩
 rw [← ho] at a2 a3 a4
 have hx : x = ((o * 2 ^ k : Nat) : Int):=by rw [← a2]; omega
 have hp : (0 : Nat) < 2 ^ k:=Nat.two_pow_pos k
 have hle : o ≤ o * 2 ^ k:=Nat.le_mul_of_pos_right _ hp
 have ho1 : o < 2 ^ 64:=by omega
 refine ⟨k,Lib.bitLen o,(o : Int),hk,by simp,?_,?_,a1,by omega,by omega,a4,bitLen_le 64 o (by decide) ho1⟩
 ·rw [hx,Int.natCast_mul,Int.natCast_pow]
  exact Int.mul_ediv_cancel _ (Int.ne_of_gt (by exact_mod_cast hp))
 ·rw [hx,Int.natCast_mul,Int.natCast_pow]
  rfl
end Go.Proofs.YtnniljhdcplkgaaGreatDoor
namespace Go.Proofs.YtnniljhdcplkgaaGreatDoor
open Go.ChangeShapes Go.WideShapes Go.ChangeAt Go.RowKit
set_option maxHeartbeats 16000000
set_option maxRecDepth 100000
set_option linter.unusedVariables false
set_option linter.unusedSimpArgs false
theorem join_far_64 (p : Bool) (x e : Int) (hx0 : 0 < x) (he : 2000 < e) (w : World) : Calls Tryz.prog 127 #[.bool p,.int .i64 x,.int .i64 e,.int .i64 64] w fun e w' => e = .returned (.tuple #[.int .i64 0,.bool false]) ∧ Kept w w':=by
 go_enter Tryz.func127,Tryz.ntmps127
 go_wp2_with fail
 refine (layoutOf_64 _).mono ?_
 rintro e w1 ⟨rfl,hk1⟩
 go_wp2
 go_ret2
 exact ⟨rfl,(hk1.alloc _ _)⟩
theorem odd_fit_64 (M E : Int) (h0 : 0 < M) (h1 : M ≤ 9007199254740992) (hE : -1074 ≤ E) (hk : E = -1074 ∨ 4503599627370496 ≤ M) : ∃ k : Nat,∃ L : Nat,∃ o : Int,∃ U : Nat,k = Lib.ctz 64 M.toNat ∧ L = Lib.bitLen o.toNat ∧ M / 2 ^ k = o ∧ k < 64 ∧ 0 < o ∧ o ≤ 9223372036854775807 ∧ L ≤ 64 ∧ min (53 - (L : Int)) (E + (k : Int) + 1074) = (U : Int) ∧ U < 64 ∧ (0 ≤ E + (k : Int) - (U : Int) + 1074) ∧ (E + (k : Int) - (U : Int) + 1074) * 4503599627370496 + o * 2 ^ U = (E + 1074) * 4503599627370496 + M ∧ 0 ≤ o * 2 ^ U ∧ o * 2 ^ U < 2 * 4503599627370496 ∧ (E + (k : Int) - (U : Int) + 1074 + 1 < 2047 ↔ (E + 1074) * 4503599627370496 + M < 9218868437227405312):=by
 by_cases ht : M = 9007199254740992
 ·subst ht
  refine ⟨53,1,1,52,by decide +kernel,by decide +kernel,by decide,by decide,by decide,by decide,by decide,?_,by decide,by omega,?_,by decide,by decide,by omega⟩
  ·omega
  ·have : (1 : Int) * 2 ^ 52 = 4503599627370496:=by decide
   rw [this]; omega
 ·obtain ⟨k,L,o,hk',hL,hdiv,hxo,hk64,ho0,ho1,hlen,hL64⟩:=odd_int M (by omega) (by omega)
  have hU : min (53 - (L : Int)) (E + (k : Int) + 1074) = (k : Int):=by
   by_cases hs : M < 4503599627370496
   ·have:=bitLen_le 52 M.toNat (by decide) (by omega)
    omega
   ·have:=bitLen_top 52 M.toNat (by decide) (by omega) (by omega)
    omega
  refine ⟨k,L,o,k,hk',hL,hdiv,hk64,ho0,ho1,hL64,hU,hk64,by omega,by rw [← hxo]; omega,by rw [← hxo]; omega,by rw [← hxo]; omega,?_⟩
  omega
theorem join_r_64 (p : Bool) (M E R q : Int) (h0 : 0 ≤ M) (h1 : M ≤ 9007199254740992) (hE : -1074 ≤ E) (hk : E = -1074 ∨ 4503599627370496 ≤ M) (hR : (E + 1074) * 4503599627370496 + M = R) (hlt : R < 9218868437227405312) (hq : (if p = true then R - 9223372036854775808 else R) = q) (w : World) (hT : Tab w) : Calls Tryz.prog 127 #[.bool p,.int .i64 M,.int .i64 E,.int .i64 64] w fun e w' => e = .returned (.tuple #[.int .i64 q,.bool true]) ∧ Kept w w':=by
 by_cases hz : M = 0
 ·subst hz
  have hR0 : R = 0:=by omega
  refine (join_zero_64 p E w).mono ?_
  rintro e w' ⟨rfl,hk⟩
  refine ⟨?_,hk⟩
  rw [← hq,hR0]
  cases p <;> rfl
 ·obtain ⟨k,L,o,U,hk',hL,hdiv,hk64,ho0,ho1,hL64,hU,hU64,hs0,hv,hv0,hv2,hiff⟩:=odd_fit_64 M E (by omega) h1 hE hk
  have hs:=hiff.2 (by omega)
  refine join_64_yes p M E k (by omega) (by omega) (by omega) (by omega) hk64 o L ho0 ho1 hL64 hdiv ?_ ?_ U hU hU64 hs hs0 R (R - 9223372036854775808) hv0 hv2 (by rw [hv,hR]) (or_min _ (by omega) (by omega)) q hq w hT
  ·intro w hT
   rw [hk']
   exact kz_any M (by omega) (by omega) w hT
  ·intro w
   rw [hL]
   exact kl_any o (by omega) ho1 w
theorem join_no_64 (p : Bool) (M E R : Int) (h0 : 0 ≤ M) (h1 : M ≤ 9007199254740992) (hE : -1074 ≤ E) (hk : E = -1074 ∨ 4503599627370496 ≤ M) (hR : (E + 1074) * 4503599627370496 + M = R) (hlt : 9218868437227405312 ≤ R) (w : World) (hT : Tab w) : Calls Tryz.prog 127 #[.bool p,.int .i64 M,.int .i64 E,.int .i64 64] w fun e w' => e = .returned (.tuple #[.int .i64 0,.bool false]) ∧ Kept w w':=by
 by_cases hf : 2000 < E
 ·exact join_far_64 p M E (by omega) hf w
 ·obtain ⟨k,L,o,U,hk',hL,hdiv,hk64,ho0,ho1,hL64,hU,hU64,hs0,hv,hv0,hv2,hiff⟩:=odd_fit_64 M E (by omega) h1 hE hk
  refine join_64_high p M E k (by omega) (by omega) (by omega) (by omega) hk64 o L ho0 ho1 hL64 hdiv ?_ ?_ (U : Int) hU (by omega) (by omega) (by omega) w hT
  ·intro w hT
   rw [hk']
   exact kz_any M (by omega) (by omega) w hT
  ·intro w
   rw [hL]
   exact kl_any o (by omega) ho1 w
theorem join_far_32 (p : Bool) (x e : Int) (hx0 : 0 < x) (he : 2000 < e) (w : World) : Calls Tryz.prog 127 #[.bool p,.int .i64 x,.int .i64 e,.int .i64 32] w fun e w' => e = .returned (.tuple #[.int .i64 0,.bool false]) ∧ Kept w w':=by
 go_enter Tryz.func127,Tryz.ntmps127
 go_wp2_with fail
 refine (layoutOf_32 _).mono ?_
 rintro e w1 ⟨rfl,hk1⟩
 go_wp2
 go_ret2
 exact ⟨rfl,(hk1.alloc _ _)⟩
theorem odd_fit_32 (M E : Int) (h0 : 0 < M) (h1 : M ≤ 16777216) (hE : -149 ≤ E) (hk : E = -149 ∨ 8388608 ≤ M) : ∃ k : Nat,∃ L : Nat,∃ o : Int,∃ U : Nat,k = Lib.ctz 64 M.toNat ∧ L = Lib.bitLen o.toNat ∧ M / 2 ^ k = o ∧ k < 64 ∧ 0 < o ∧ o ≤ 9223372036854775807 ∧ L ≤ 64 ∧ min (24 - (L : Int)) (E + (k : Int) + 149) = (U : Int) ∧ U < 64 ∧ (0 ≤ E + (k : Int) - (U : Int) + 149) ∧ (E + (k : Int) - (U : Int) + 149) * 8388608 + o * 2 ^ U = (E + 149) * 8388608 + M ∧ 0 ≤ o * 2 ^ U ∧ o * 2 ^ U < 2 * 8388608 ∧ (E + (k : Int) - (U : Int) + 149 + 1 < 255 ↔ (E + 149) * 8388608 + M < 2139095040):=by
 by_cases ht : M = 16777216
 ·subst ht
  refine ⟨24,1,1,23,by decide +kernel,by decide +kernel,by decide,by decide,by decide,by decide,by decide,?_,by decide,by omega,?_,by decide,by decide,by omega⟩
  ·omega
  ·have : (1 : Int) * 2 ^ 23 = 8388608:=by decide
   rw [this]; omega
 ·obtain ⟨k,L,o,hk',hL,hdiv,hxo,hk64,ho0,ho1,hlen,hL64⟩:=odd_int M (by omega) (by omega)
  have hU : min (24 - (L : Int)) (E + (k : Int) + 149) = (k : Int):=by
   by_cases hs : M < 8388608
   ·have:=bitLen_le 23 M.toNat (by decide) (by omega)
    omega
   ·have:=bitLen_top 23 M.toNat (by decide) (by omega) (by omega)
    omega
  refine ⟨k,L,o,k,hk',hL,hdiv,hk64,ho0,ho1,hL64,hU,hk64,by omega,by rw [← hxo]; omega,by rw [← hxo]; omega,by rw [← hxo]; omega,?_⟩
  omega
theorem join_r_32 (p : Bool) (M E R q : Int) (h0 : 0 ≤ M) (h1 : M ≤ 16777216) (hE : -149 ≤ E) (hk : E = -149 ∨ 8388608 ≤ M) (hR : (E + 149) * 8388608 + M = R) (hlt : R < 2139095040) (hq : (if p = true then R + 2147483648 else R) = q) (w : World) (hT : Tab w) : Calls Tryz.prog 127 #[.bool p,.int .i64 M,.int .i64 E,.int .i64 32] w fun e w' => e = .returned (.tuple #[.int .i64 q,.bool true]) ∧ Kept w w':=by
 by_cases hz : M = 0
 ·subst hz
  have hR0 : R = 0:=by omega
  refine (join_zero_32 p E w).mono ?_
  rintro e w' ⟨rfl,hk⟩
  refine ⟨?_,hk⟩
  rw [← hq,hR0]
  cases p <;> rfl
 ·obtain ⟨k,L,o,U,hk',hL,hdiv,hk64,ho0,ho1,hL64,hU,hU64,hs0,hv,hv0,hv2,hiff⟩:=odd_fit_32 M E (by omega) h1 hE hk
  have hs:=hiff.2 (by omega)
  refine join_32_yes p M E k (by omega) (by omega) (by omega) (by omega) hk64 o L ho0 ho1 hL64 hdiv ?_ ?_ U hU hU64 hs hs0 R (R + 2147483648) hv0 hv2 (by rw [hv,hR]) (or_31 _ (by omega) (by omega)) q hq w hT
  ·intro w hT
   rw [hk']
   exact kz_any M (by omega) (by omega) w hT
  ·intro w
   rw [hL]
   exact kl_any o (by omega) ho1 w
theorem join_no_32 (p : Bool) (M E R : Int) (h0 : 0 ≤ M) (h1 : M ≤ 16777216) (hE : -149 ≤ E) (hk : E = -149 ∨ 8388608 ≤ M) (hR : (E + 149) * 8388608 + M = R) (hlt : 2139095040 ≤ R) (w : World) (hT : Tab w) : Calls Tryz.prog 127 #[.bool p,.int .i64 M,.int .i64 E,.int .i64 32] w fun e w' => e = .returned (.tuple #[.int .i64 0,.bool false]) ∧ Kept w w':=by
 by_cases hf : 2000 < E
 ·exact join_far_32 p M E (by omega) hf w
 ·obtain ⟨k,L,o,U,hk',hL,hdiv,hk64,ho0,ho1,hL64,hU,hU64,hs0,hv,hv0,hv2,hiff⟩:=odd_fit_32 M E (by omega) h1 hE hk
  refine join_32_high p M E k (by omega) (by omega) (by omega) (by omega) hk64 o L ho0 ho1 hL64 hdiv ?_ ?_ (U : Int) hU (by omega) (by omega) (by omega) w hT
  ·intro w hT
   rw [hk']
   exact kz_any M (by omega) (by omega) w hT
  ·intro w
   rw [hL]
   exact kl_any o (by omega) ho1 w
end Go.Proofs.YtnniljhdcplkgaaGreatDoor
