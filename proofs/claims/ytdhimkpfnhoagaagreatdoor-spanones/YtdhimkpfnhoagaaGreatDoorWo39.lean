/- The walks of the document's own NatBits and NatBit. The document's own Join and joined of a number that a width has. What the document's own Cut asks,by values: the bits kept,the bit behind them,the rest,and when it is too great. -/
import Derived.Test.YtdhimkpfnhoagaaGreatDoorWo15
import Derived.Test.YtdhimkpfnhoagaaGreatDoorWo38
import Derived.Test.YtdhimkpfnhoagaaGreatDoorWo23
namespace Go.Proofs.YtdhimkpfnhoagaaGreatDoor
open Go.ChangeShapes Go.WideShapes Go.ChangeAt Go.RowKit
set_option linter.unusedVariables false
set_option linter.unusedSimpArgs false
set_option maxHeartbeats 16000000
set_option maxRecDepth 100000
theorem bl_half (x : Nat) (h : x ≠ 0) : bl x = bl (x / 2) + 1:=by
 by_cases h1 : x / 2 = 0
 ·obtain rfl : x = 1:=by omega
  decide
 ·have:=bl_div x 1 (by simpa using h1)
  rw [Nat.pow_one] at this
  omega
theorem natBits_any (w : World) (V : Nat) (v : Value) (hM : RL w v (digs V)) (hlen : (digs V).length < 1000000) : Calls Tryz.prog 200 #[v] w fun e w' => e = .returned (.int .i64 (bl V : Int)) ∧ w = w':=by
 obtain ⟨ao,c,rfl,-,hat⟩:=hM.at
 have HA : Hid (∀ i,i < (digs V).length → ∃ b off,ao = some ⟨b,off,none⟩ ∧ w.cell? ⟨b,off + i,none⟩ = some (.int .i64 ((digs V).getD i 0))):=(hat w (Kept.refl w)).2
 by_cases h0 : V = 0
 ·subst h0
  rw [digs_zero,List.length_nil,bl_zero]
  clear hM hat HA hlen
  go_enter Tryz.func200,Tryz.ntmps200
  go_wp2
  go_ret
  exact ⟨rfl,rfl⟩
 ·obtain ⟨n,hn⟩ : ∃ n,(digs V).length = n + 1:=by
   rcases hl : (digs V).length with _ | n
   ·exact absurd (digs_len0 V hl) h0
   ·exact ⟨n,rfl⟩
  have hge:=digs_ge V n (by omega)
  have hlt:=digs_lt V (n + 1) (by omega)
  have hp:=Nat.two_pow_pos (30 * n)
  have hdlt : V / 2 ^ (30 * n) < 1073741824:=Nat.div_lt_of_lt_mul (by rw [← pow30m]; exact hlt)
  have hd0 : V / 2 ^ (30 * n) ≠ 0:=by
   have:=Nat.div_pos hge hp
   omega
  have hbl:=bl_div V (30 * n) hd0
  obtain ⟨b,off,rfl,hc⟩:=HA.out n (by omega)
  rw [digs_at,Nat.mod_eq_of_lt hdlt] at hc
  rw [hn]
  have HB : Hid (bl V = 30 * n + bl (V / 2 ^ (30 * n))):=hbl
  generalize bl V = T at *
  generalize V / 2 ^ (30 * n) = d at *
  have hn6 : n < 1000000:=by omega
  have hx : IntKind.i64.wrap (30 * (n : Int)) = 30 * (n : Int):=by rw [wrap_i64]; omega
  have hn1 : ((n + 1 : Nat) : Int) - 1 = (n : Int):=by omega
  clear hM hat HA hlen hn hge hlt hp hbl
  go_enter Tryz.func200,Tryz.ntmps200
  go_wp2
  go_loopw [3,4] (fun kv vv wr => ∃ j x : Nat,kv = .int .i64 (30 * (n : Int) + (j : Int)) ∧ vv = .int .i64 (x : Int) ∧ x < 1073741824 ∧ j + bl x = bl d ∧ w = wr) (fun _ vv _ => (intOf vv).toNat)
  case atStart => exact ⟨0,d,by simp,rfl,hdlt,by omega,rfl⟩
  case round =>
   obtain ⟨j,x,rfl,rfl,hx1,hj,rfl⟩:=hrel
   have hbd : bl d ≤ 30:=bl_le d 30 (by omega)
   have y2 : ((x : Int)).tdiv 2 = ((x / 2 : Nat) : Int):=by rw [Int.tdiv_eq_ediv_of_nonneg (by omega)]; omega
   by_cases hx0 : x = 0
   ·subst hx0
    rw [bl_zero] at hj
    have HT : Hid (30 * (n : Int) + (j : Int) = (T : Int)):=by
     have:=HB.out
     show 30 * (n : Int) + (j : Int) = (T : Int)
     omega
    go_wp2
    go_ret
    exact ⟨congrArg (fun z => Ending.returned (Value.int .i64 z)) HT.out,rfl⟩
   ·have hh:=bl_half x hx0
    have hxp : 0 < (x : Int):=by omega
    have Hj : Hid (j + bl x = bl d):=hj
    have Hh : Hid (bl x = bl (x / 2) + 1):=hh
    have HBD : Hid (bl d ≤ 30):=hbd
    have hjb : j ≤ 30:=by omega
    clear hj hh hbd
    go_wp2
    go_roundw
    case rel => exact ⟨j + 1,x / 2,by go_num,by first | rfl | exact congrArg (Value.int .i64) y2,by omega,by have:=Hj.out; have:=Hh.out; omega,by first | rfl | trivial⟩
    case measure => simp [intOf] <;> omega
def bitz (V : Nat) (i : Int) : Bool:=if i < 0 then false else decide (V / 2 ^ i.toNat % 2 = 1)
theorem bit_digit (V f s : Nat) (hs : s < 30) : V / 2 ^ (30 * f) % 1073741824 / 2 ^ s % 2 = V / 2 ^ (30 * f + s) % 2:=by
 rw [Nat.pow_add,← Nat.div_div_eq_div_mul]
 generalize V / 2 ^ (30 * f) = x
 have h30 : (1073741824 : Nat) = 2 ^ s * 2 ^ (30 - s):=by rw [← Nat.pow_add,show s + (30 - s) = 30 by omega]
 rw [h30,Nat.mod_mul_right_div_self]
 have h2 : 2 ^ (30 - s) = 2 * 2 ^ (29 - s):=by rw [← Nat.pow_succ',show (29 - s).succ = 30 - s by omega]
 rw [h2,Nat.mod_mul_right_mod]
theorem natBit_any (w : World) (V : Nat) (v : Value) (hM : RL w v (digs V)) (hlen : (digs V).length < 1000000) (i : Int) (hi1 : -1000000000 ≤ i) (hi2 : i ≤ 1000000000) : Calls Tryz.prog 202 #[v,.int .i64 i] w fun e w' => e = .returned (.bool (bitz V i)) ∧ Kept w w':=by
 obtain ⟨ao,c,rfl,-,hat⟩:=hM.at
 by_cases h0 : i < 0
 ·rw [bitz,if_pos h0]
  generalize (digs V).length = l at *
  clear hM hat
  go_enter Tryz.func202,Tryz.ntmps202
  go_wp2
  go_ret
  exact ⟨rfl,Kept.refl _⟩
 ·rw [bitz,if_neg h0]
  obtain ⟨q,rfl⟩:=Int.eq_ofNat_of_zero_le (show 0 ≤ i by omega)
  rw [Int.toNat_natCast]
  have y1 : ((q : Int)).tmod 30 = ((q % 30 : Nat) : Int):=by rw [Int.tmod_eq_emod_of_nonneg (by omega)]; omega
  have y2 : ((q : Int)).tdiv 30 = ((q / 30 : Nat) : Int):=by rw [Int.tdiv_eq_ediv_of_nonneg (by omega)]; omega
  by_cases h1 : (digs V).length ≤ q / 30
  ·have hV:=digs_lt V (q / 30) h1
   have hV2 : V < 2 ^ q:=Nat.lt_of_lt_of_le hV (Nat.pow_le_pow_right (by omega) (by omega))
   rw [Nat.div_eq_of_lt hV2]
   have g1 : ((digs V).length : Int) ≤ ((q / 30 : Nat) : Int):=by omega
   have g2 : ¬ (q : Int) < 0:=by omega
   have hfb : q / 30 ≤ 40000000:=by omega
   generalize (digs V).length = l at *
   generalize q / 30 = f at *
   clear hM hat hV hV2
   go_enter Tryz.func202,Tryz.ntmps202
   go_wp2
   go_ret
   exact ⟨by simp,Kept.refl _⟩
  ·obtain ⟨b,off,rfl,hc⟩:=(hat w (Kept.refl w)).2 (q / 30) (by omega)
   rw [digs_at] at hc
   have hb:=bit_digit V (q / 30) (q % 30) (by omega)
   rw [show 30 * (q / 30) + q % 30 = q by omega] at hb
   have hdlt : V / 2 ^ (30 * (q / 30)) % 1073741824 < 1073741824:=Nat.mod_lt _ (by omega)
   have hs : q % 30 < 30:=by omega
   rw [← hb]
   have g1 : ¬ ((digs V).length : Int) ≤ ((q / 30 : Nat) : Int):=by omega
   have g2 : ¬ (q : Int) < 0:=by omega
   have g3 : ((q / 30 : Nat) : Int) < ((digs V).length : Int):=by omega
   generalize (digs V).length = l at *
   generalize V / 2 ^ (30 * (q / 30)) % 1073741824 = d at *
   generalize q / 30 = f at *
   generalize q % 30 = s at *
   clear hM hat hb
   go_enter Tryz.func202,Tryz.ntmps202
   go_wp2
   go_ret
   refine ⟨congrArg (fun z => Ending.returned (Value.bool z)) ?_,Kept.refl _⟩
   have e1 : (d : Int) / 2 ^ s = ((d / 2 ^ s : Nat) : Int):=by simp
   rw [e1]
   generalize d / 2 ^ s = z
   rw [Int.tmod_eq_emod_of_nonneg (by omega),Bool.eq_iff_iff]
   simp
   omega
theorem cast_pow2 (o i : Nat) : (o : Int) * 2 ^ i = ((o * 2 ^ i : Nat) : Int):=by simp
theorem rjm_64 (m : Nat) (u : Int) (hm0 : 0 < m) (hm : m ≤ 9007199254740992) (hu : -1074 ≤ u) (hs : m < 4503599627370496 → u = -1074) (ho2 : u ≤ 971) (ho3 : m = 9007199254740992 → u ≤ 970) (q : Int) (hq : q = (u + 1074) * 4503599627370496 + m) : ∀ w,Calls Tryz.prog 204 #[.bool false,.int .i64 m,.int .i64 u,.int .i64 64] w fun e w' => e = .returned (.tuple #[.int .i64 q,.bool true]) ∧ Kept w w':=by
 by_cases h2 : m = 9007199254740992
 ·have g:=ho3 h2
  have Ks : Hid (∀ w : World,Calls Tryz.prog 205 #[.agg #[.int .i64 64,.int .i64 53,.int .i64 4503599627370496,.int .i64 2047,.int .i64 (-1074),.int .i64 1024,.int .i64 9218868437227405312,.int .i64 (-9223372036854775808),.int .i64 9221120237041090561],.int .i64 (m : Int),.int .i64 u] w fun r w' => r = .returned (.tuple #[.int .i64 4503599627370496,.int .i64 (u + ((53 : Nat) : Int) - ((52 : Nat) : Int)),.bool true]) ∧ Kept w w'):=fun w =>
   shifted_64_yes (m : Int) u 1 53 (by rw [h2]; decide +kernel) (by rw [h2]; decide) (by omega) (by decide) (by omega) (by omega) (by omega) (by omega) (by omega) 52 4503599627370496 (by decide +kernel) (fun i hi => ⟨by
    rw [Int.one_mul]
    have : (2 : Nat) ^ i < 2 ^ 52:=Nat.pow_lt_pow_right (by omega) hi
    have h3 : (2 : Nat) ^ 52 = 4503599627370496:=by decide +kernel
    rw [h3] at this
    have h4 : ((2 ^ i : Nat) : Int) < 4503599627370496:=by omega
    simpa using h4,by omega⟩) (by omega) (Or.inr ⟨by omega,by omega⟩) w
  intro w
  exact rj_yes_64 false (m : Int) u 4503599627370496 (u + ((53 : Nat) : Int) - ((52 : Nat) : Int)) q (by omega) (by omega) (by omega) (by omega) (by omega) (by omega) (by omega) (by omega) (by simp only [Bool.false_eq_true,if_false]; omega) Ks w
 ·obtain ⟨o,ho1,hmo⟩:=tzn_spec m (by omega)
  generalize hk : tzn m = k at *
  have hp:=Nat.two_pow_pos k
  have ho0 : 0 < o:=by omega
  have hk64 : k < 64:=by
   apply Decidable.byContradiction
   intro hc
   have h1 : 2 ^ 64 ≤ 2 ^ k:=Nat.pow_le_pow_right (by omega) (by omega)
   have h3 : 2 ^ k ≤ o * 2 ^ k:=Nat.le_mul_of_pos_left _ ho0
   have h4 : (2 : Nat) ^ 64 = 18446744073709551616:=by decide +kernel
   omega
  have hle : ∀ i,i < k → 2 * (o * 2 ^ i) ≤ m:=fun i hi => by
   have h1 : 2 ^ (i + 1) ≤ 2 ^ k:=Nat.pow_le_pow_right (by omega) (by omega)
   have h3:=Nat.mul_le_mul_left o h1
   rw [Nat.pow_succ,← Nat.mul_assoc] at h3
   omega
  have hom : o ≤ m:=by
   have:=Nat.le_mul_of_pos_right o hp
   omega
  have Ks : Hid (∀ w : World,Calls Tryz.prog 205 #[.agg #[.int .i64 64,.int .i64 53,.int .i64 4503599627370496,.int .i64 2047,.int .i64 (-1074),.int .i64 1024,.int .i64 9218868437227405312,.int .i64 (-9223372036854775808),.int .i64 9221120237041090561],.int .i64 (m : Int),.int .i64 u] w fun r w' => r = .returned (.tuple #[.int .i64 (m : Int),.int .i64 (u + (k : Int) - (k : Int)),.bool true]) ∧ Kept w w'):=fun w =>
   shifted_64_yes (m : Int) u (o : Int) k (by rw [cast_pow2]; omega) (by omega) (by omega) (by omega) hk64 (by omega) (by omega) (by omega) (by omega) k (m : Int) (by rw [cast_pow2]; omega) (fun i hi => ⟨by rw [cast_pow2]; have:=hle i hi; omega,by omega⟩) (by omega) (by
    by_cases h5 : u = -1074
    ·left; omega
    ·right; exact ⟨by omega,by omega⟩) w
  intro w
  exact rj_yes_64 false (m : Int) u (m : Int) (u + (k : Int) - (k : Int)) q (by omega) (by omega) (by omega) (by omega) (by omega) (by omega) (by omega) (by omega) (by simp only [Bool.false_eq_true,if_false]; omega) Ks w
theorem joined_64 (m : Nat) (u : Int) (hm : m ≤ 9007199254740992) (hu : -1074 ≤ u) (hs : m < 4503599627370496 → u = -1074) (ho2 : u ≤ 971) (ho3 : m = 9007199254740992 → u ≤ 970) (q : Int) (hq : q = (u + 1074) * 4503599627370496 + m) (w : World) : Calls Tryz.prog 203 #[.agg #[.int .i64 64,.int .i64 53,.int .i64 4503599627370496,.int .i64 2047,.int .i64 (-1074),.int .i64 1024,.int .i64 9218868437227405312,.int .i64 (-9223372036854775808),.int .i64 9221120237041090561],.int .i64 m,.int .i64 u] w fun e w' => e = .returned (.int .i64 q) ∧ Kept w w':=by
 have Kj : Hid (∀ w,Calls Tryz.prog 204 #[.bool false,.int .i64 m,.int .i64 u,.int .i64 64] w fun e w' => e = .returned (.tuple #[.int .i64 q,.bool true]) ∧ Kept w w'):=by
  by_cases h0 : m = 0
  ·subst h0
   obtain rfl : q = 0:=by have:=hs (by omega); omega
   exact fun w => rj_zero_64 false u w
  ·exact rjm_64 m u (by omega) hm hu hs ho2 ho3 q hq
 clear hq hs ho2 ho3 hm hu
 generalize (m : Int) = mi at *
 go_enter Tryz.func203,Tryz.ntmps203
 go_wp2_with (first | (go_at_call 204; refine (Kj.out _).mono ?_; rintro e w1 ⟨rfl,hk1⟩))
 go_ret
 exact ⟨rfl,((Kept.refl _).alloc _ _).trans hk1⟩
theorem rjm_32 (m : Nat) (u : Int) (hm0 : 0 < m) (hm : m ≤ 16777216) (hu : -149 ≤ u) (hs : m < 8388608 → u = -149) (ho2 : u ≤ 104) (ho3 : m = 16777216 → u ≤ 103) (q : Int) (hq : q = (u + 149) * 8388608 + m) : ∀ w,Calls Tryz.prog 204 #[.bool false,.int .i64 m,.int .i64 u,.int .i64 32] w fun e w' => e = .returned (.tuple #[.int .i64 q,.bool true]) ∧ Kept w w':=by
 by_cases h2 : m = 16777216
 ·have g:=ho3 h2
  have Ks : Hid (∀ w : World,Calls Tryz.prog 205 #[.agg #[.int .i64 32,.int .i64 24,.int .i64 8388608,.int .i64 255,.int .i64 (-149),.int .i64 128,.int .i64 2139095040,.int .i64 2147483648,.int .i64 2143289345],.int .i64 (m : Int),.int .i64 u] w fun r w' => r = .returned (.tuple #[.int .i64 8388608,.int .i64 (u + ((24 : Nat) : Int) - ((23 : Nat) : Int)),.bool true]) ∧ Kept w w'):=fun w =>
   shifted_32_yes (m : Int) u 1 24 (by rw [h2]; decide +kernel) (by rw [h2]; decide) (by omega) (by decide) (by omega) (by omega) (by omega) (by omega) (by omega) 23 8388608 (by decide +kernel) (fun i hi => ⟨by
    rw [Int.one_mul]
    have : (2 : Nat) ^ i < 2 ^ 23:=Nat.pow_lt_pow_right (by omega) hi
    have h3 : (2 : Nat) ^ 23 = 8388608:=by decide +kernel
    rw [h3] at this
    have h4 : ((2 ^ i : Nat) : Int) < 8388608:=by omega
    simpa using h4,by omega⟩) (by omega) (Or.inr ⟨by omega,by omega⟩) w
  intro w
  exact rj_yes_32 false (m : Int) u 8388608 (u + ((24 : Nat) : Int) - ((23 : Nat) : Int)) q (by omega) (by omega) (by omega) (by omega) (by omega) (by omega) (by omega) (by omega) (by simp only [Bool.false_eq_true,if_false]; omega) Ks w
 ·obtain ⟨o,ho1,hmo⟩:=tzn_spec m (by omega)
  generalize hk : tzn m = k at *
  have hp:=Nat.two_pow_pos k
  have ho0 : 0 < o:=by omega
  have hk64 : k < 64:=by
   apply Decidable.byContradiction
   intro hc
   have h1 : 2 ^ 64 ≤ 2 ^ k:=Nat.pow_le_pow_right (by omega) (by omega)
   have h3 : 2 ^ k ≤ o * 2 ^ k:=Nat.le_mul_of_pos_left _ ho0
   have h4 : (2 : Nat) ^ 64 = 18446744073709551616:=by decide +kernel
   omega
  have hle : ∀ i,i < k → 2 * (o * 2 ^ i) ≤ m:=fun i hi => by
   have h1 : 2 ^ (i + 1) ≤ 2 ^ k:=Nat.pow_le_pow_right (by omega) (by omega)
   have h3:=Nat.mul_le_mul_left o h1
   rw [Nat.pow_succ,← Nat.mul_assoc] at h3
   omega
  have hom : o ≤ m:=by
   have:=Nat.le_mul_of_pos_right o hp
   omega
  have Ks : Hid (∀ w : World,Calls Tryz.prog 205 #[.agg #[.int .i64 32,.int .i64 24,.int .i64 8388608,.int .i64 255,.int .i64 (-149),.int .i64 128,.int .i64 2139095040,.int .i64 2147483648,.int .i64 2143289345],.int .i64 (m : Int),.int .i64 u] w fun r w' => r = .returned (.tuple #[.int .i64 (m : Int),.int .i64 (u + (k : Int) - (k : Int)),.bool true]) ∧ Kept w w'):=fun w =>
   shifted_32_yes (m : Int) u (o : Int) k (by rw [cast_pow2]; omega) (by omega) (by omega) (by omega) hk64 (by omega) (by omega) (by omega) (by omega) k (m : Int) (by rw [cast_pow2]; omega) (fun i hi => ⟨by rw [cast_pow2]; have:=hle i hi; omega,by omega⟩) (by omega) (by
    by_cases h5 : u = -149
    ·left; omega
    ·right; exact ⟨by omega,by omega⟩) w
  intro w
  exact rj_yes_32 false (m : Int) u (m : Int) (u + (k : Int) - (k : Int)) q (by omega) (by omega) (by omega) (by omega) (by omega) (by omega) (by omega) (by omega) (by simp only [Bool.false_eq_true,if_false]; omega) Ks w
theorem joined_32 (m : Nat) (u : Int) (hm : m ≤ 16777216) (hu : -149 ≤ u) (hs : m < 8388608 → u = -149) (ho2 : u ≤ 104) (ho3 : m = 16777216 → u ≤ 103) (q : Int) (hq : q = (u + 149) * 8388608 + m) (w : World) : Calls Tryz.prog 203 #[.agg #[.int .i64 32,.int .i64 24,.int .i64 8388608,.int .i64 255,.int .i64 (-149),.int .i64 128,.int .i64 2139095040,.int .i64 2147483648,.int .i64 2143289345],.int .i64 m,.int .i64 u] w fun e w' => e = .returned (.int .i64 q) ∧ Kept w w':=by
 have Kj : Hid (∀ w,Calls Tryz.prog 204 #[.bool false,.int .i64 m,.int .i64 u,.int .i64 32] w fun e w' => e = .returned (.tuple #[.int .i64 q,.bool true]) ∧ Kept w w'):=by
  by_cases h0 : m = 0
  ·subst h0
   obtain rfl : q = 0:=by have:=hs (by omega); omega
   exact fun w => rj_zero_32 false u w
  ·exact rjm_32 m u (by omega) hm hu hs ho2 ho3 q hq
 clear hq hs ho2 ho3 hm hu
 generalize (m : Int) = mi at *
 go_enter Tryz.func203,Tryz.ntmps203
 go_wp2_with (first | (go_at_call 204; refine (Kj.out _).mono ?_; rintro e w1 ⟨rfl,hk1⟩))
 go_ret
 exact ⟨rfl,((Kept.refl _).alloc _ _).trans hk1⟩
theorem even_mul_pow (V a : Nat) (h : 0 < a) : V * 2 ^ a % 2 = 0:=by
 obtain ⟨b,rfl⟩ : ∃ b,a = b + 1:=⟨a - 1,by omega⟩
 rw [Nat.pow_succ,← Nat.mul_assoc,Nat.mul_mod_left]
theorem bit_half (V : Nat) (low : Int) : bitz V (low - 1) = decide (flo V (1 - low) % 2 = 1):=by
 unfold bitz flo
 by_cases h : low - 1 < 0
 ·rw [if_pos h,if_pos (by omega),even_mul_pow _ _ (by omega)]
  rfl
 ·rw [if_neg h]
  by_cases h1 : low = 1
  ·subst h1; simp
  ·rw [if_neg (by omega),show -(1 - low) = low - 1 by omega]
theorem rest_low (V : Nat) (hV : V ≠ 0) (low : Int) : rst V (1 - low) = decide (0 < low - 1 ∧ (tzn V : Int) < low - 1):=by
 unfold rst
 by_cases h : 0 ≤ 1 - low
 ·rw [if_pos h,decide_eq_false (by omega)]
 ·rw [if_neg h,show -(1 - low) = low - 1 by omega]
  obtain ⟨o,ho,hVo⟩:=tzn_spec V hV
  obtain ⟨q,hq⟩ : ∃ q : Nat,(low - 1).toNat = q:=⟨_,rfl⟩
  rw [hq]
  generalize tzn V = t at *
  by_cases ht : t < q
  ·rw [decide_eq_true (by omega),bne_iff_ne]
   intro h0
   have h2 : V % 2 ^ (t + 1) = 0:=by
    have : 2 ^ (t + 1) ∣ 2 ^ q:=Nat.pow_dvd_pow 2 (by omega)
    exact Nat.mod_eq_zero_of_dvd (Nat.dvd_trans this (Nat.dvd_of_mod_eq_zero h0))
   rw [hVo,Nat.pow_succ,Nat.mul_comm o,Nat.mul_mod_mul_left,ho,Nat.mul_one] at h2
   have:=Nat.two_pow_pos t
   omega
  ·rw [decide_eq_false (by omega)]
   have : V % 2 ^ q = 0:=by
    rw [hVo]
    exact Nat.mod_eq_zero_of_dvd (Nat.dvd_trans (Nat.pow_dvd_pow 2 (by omega)) (Nat.dvd_mul_left _ _))
   rw [this]
   rfl
theorem kept_shr (V : Nat) (x u : Int) (h : 0 ≤ u - x) : V / 2 ^ (u - x).toNat = flo V (x - u):=by
 unfold flo
 by_cases h1 : u = x
 ·subst h1; simp
 ·rw [if_neg (by omega),show -(x - u) = u - x by omega]
theorem kept_shl (V : Nat) (x u : Int) (h : u - x < 0) : V * 2 ^ (-(u - x)).toNat = flo V (x - u):=by
 unfold flo
 rw [if_pos (by omega),show -(u - x) = x - u by omega]
theorem ret_two {a b : Int} {p q : Bool} (h : a = b) (h2 : p = q) : Ending.returned (.tuple #[.int .i64 a,.bool p]) = .returned (.tuple #[.int .i64 b,.bool q]):=by rw [h,h2]
theorem mg_in (way : Int) (ng : Bool) (inf F : Nat) (od hf rt : Bool) (a : Nat) (ha : a = (awz way ng od hf rt).toNat) (h : ¬ inf ≤ F + a) : mgz way ng inf F od hf rt = F + a ∧ odz way ng inf F od hf rt = (hf || rt):=by
 unfold mgz odz
 rw [← ha,if_pos (by omega),decide_eq_false h,Bool.or_false]
 exact ⟨rfl,rfl⟩
theorem mg_out (way : Int) (ng : Bool) (inf F : Nat) (od hf rt : Bool) (a : Nat) (ha : a = (awz way ng od hf rt).toNat) (h : inf ≤ F + a) : mgz way ng inf F od hf rt = (if awz way ng false true true = true then inf else inf - 1) ∧ odz way ng inf F od hf rt = true:=by
 unfold mgz odz
 rw [← ha,if_neg (by omega),decide_eq_true h,Bool.or_true]
 exact ⟨rfl,rfl⟩
theorem cut_bounds_64 (V : Nat) (hV : V ≠ 0) (x u : Int) (hu : unz 53 (-1074) (bl V) x = u) (k : Nat) (hk : flo V (x - u) = k) : k < 9007199254740992 ∧ (u = -1074 ∨ 4503599627370496 ≤ k) ∧ -1074 ≤ u ∧ (u = -1074 ∨ u = x + (bl V : Int) - 53):=by
 obtain ⟨h1,h2,h3⟩:=bl_pos V hV
 have:=kept_bounds 53 (-1074) V (bl V) x (by omega) h1 h2 h3
 rw [hu,hk] at this
 have e1 : (2 : Nat) ^ 53 = 9007199254740992:=by decide +kernel
 have e2 : (2 : Nat) ^ (53 - 1) = 4503599627370496:=by decide +kernel
 rw [e1,e2] at this
 unfold unz at hu
 refine ⟨this.1,this.2,by omega,by omega⟩
theorem bl_at_64 (m : Nat) (h1 : 4503599627370496 ≤ m) (h2 : m ≤ 9007199254740992) : bl m = if m = 9007199254740992 then 54 else 53:=by
 have e1 : (2 : Nat) ^ 53 = 9007199254740992:=by decide +kernel
 have e2 : (2 : Nat) ^ 52 = 4503599627370496:=by decide +kernel
 have e3 : (2 : Nat) ^ 54 = 18014398509481984:=by decide +kernel
 split
 ·exact bl_eq m 53 (by omega) (by omega)
 ·exact bl_eq m 52 (by omega) (by omega)
theorem over_64 (u : Int) (k a F : Nat) (ha : a ≤ 1) (hk : k < 9007199254740992) (hl : -1074 ≤ u) (hs : u = -1074 ∨ 4503599627370496 ≤ k) (hF : F = (u - (-1074)).toNat * 4503599627370496 + k) : (4503599627370496 ≤ k + a ∧ 1024 < (bl (k + a) : Int) + u) ↔ 9218868437227405312 ≤ F + a:=by
 obtain ⟨j,hj⟩ : ∃ j : Nat,u = -1074 + (j : Int):=⟨(u - (-1074)).toNat,by omega⟩
 have hj2 : (u - (-1074)).toNat = j:=by omega
 rw [hj2] at hF
 by_cases hc : 4503599627370496 ≤ k + a
 ·rw [bl_at_64 _ hc (by omega)]
  split
  ·constructor
   ·rintro ⟨-,g⟩; omega
   ·intro g; exact ⟨hc,by omega⟩
  ·constructor
   ·rintro ⟨-,g⟩; omega
   ·intro g; exact ⟨hc,by omega⟩
 ·constructor
  ·rintro ⟨g,-⟩; exact absurd g hc
  ·intro g
   have : j = 0:=by omega
   subst this
   omega
theorem cut_bounds_32 (V : Nat) (hV : V ≠ 0) (x u : Int) (hu : unz 24 (-149) (bl V) x = u) (k : Nat) (hk : flo V (x - u) = k) : k < 16777216 ∧ (u = -149 ∨ 8388608 ≤ k) ∧ -149 ≤ u ∧ (u = -149 ∨ u = x + (bl V : Int) - 24):=by
 obtain ⟨h1,h2,h3⟩:=bl_pos V hV
 have:=kept_bounds 24 (-149) V (bl V) x (by omega) h1 h2 h3
 rw [hu,hk] at this
 have e1 : (2 : Nat) ^ 24 = 16777216:=by decide +kernel
 have e2 : (2 : Nat) ^ (24 - 1) = 8388608:=by decide +kernel
 rw [e1,e2] at this
 unfold unz at hu
 refine ⟨this.1,this.2,by omega,by omega⟩
theorem bl_at_32 (m : Nat) (h1 : 8388608 ≤ m) (h2 : m ≤ 16777216) : bl m = if m = 16777216 then 25 else 24:=by
 have e1 : (2 : Nat) ^ 24 = 16777216:=by decide +kernel
 have e2 : (2 : Nat) ^ 23 = 8388608:=by decide +kernel
 have e3 : (2 : Nat) ^ 25 = 33554432:=by decide +kernel
 split
 ·exact bl_eq m 24 (by omega) (by omega)
 ·exact bl_eq m 23 (by omega) (by omega)
theorem over_32 (u : Int) (k a F : Nat) (ha : a ≤ 1) (hk : k < 16777216) (hl : -149 ≤ u) (hs : u = -149 ∨ 8388608 ≤ k) (hF : F = (u - (-149)).toNat * 8388608 + k) : (8388608 ≤ k + a ∧ 128 < (bl (k + a) : Int) + u) ↔ 2139095040 ≤ F + a:=by
 obtain ⟨j,hj⟩ : ∃ j : Nat,u = -149 + (j : Int):=⟨(u - (-149)).toNat,by omega⟩
 have hj2 : (u - (-149)).toNat = j:=by omega
 rw [hj2] at hF
 by_cases hc : 8388608 ≤ k + a
 ·rw [bl_at_32 _ hc (by omega)]
  split
  ·constructor
   ·rintro ⟨-,g⟩; omega
   ·intro g; exact ⟨hc,by omega⟩
  ·constructor
   ·rintro ⟨-,g⟩; omega
   ·intro g; exact ⟨hc,by omega⟩
 ·constructor
  ·rintro ⟨g,-⟩; exact absurd g hc
  ·intro g
   have : j = 0:=by omega
   subst this
   omega
/-- A block of nine cells. -/
structure K9 (u : World) (B : Nat) (a0 a1 a2 a3 a4 a5 a6 a7 a8 : Value) : Prop where
 lt : B < u.heap.size
 c0 : u.cell? ⟨B,0,none⟩ = some a0
 c1 : u.cell? ⟨B,1,none⟩ = some a1
 c2 : u.cell? ⟨B,2,none⟩ = some a2
 c3 : u.cell? ⟨B,3,none⟩ = some a3
 c4 : u.cell? ⟨B,4,none⟩ = some a4
 c5 : u.cell? ⟨B,5,none⟩ = some a5
 c6 : u.cell? ⟨B,6,none⟩ = some a6
 c7 : u.cell? ⟨B,7,none⟩ = some a7
 c8 : u.cell? ⟨B,8,none⟩ = some a8
theorem K9.kept {u u' : World} {B : Nat} {a0 a1 a2 a3 a4 a5 a6 a7 a8 : Value} (h : K9 u B a0 a1 a2 a3 a4 a5 a6 a7 a8) (k : Kept u u') : K9 u' B a0 a1 a2 a3 a4 a5 a6 a7 a8 :=
 ⟨Nat.lt_of_lt_of_le h.lt k.below.size,(k.below.cell (p:=⟨B,0,none⟩) h.lt).trans h.c0,(k.below.cell (p:=⟨B,1,none⟩) h.lt).trans h.c1,(k.below.cell (p:=⟨B,2,none⟩) h.lt).trans h.c2,(k.below.cell (p:=⟨B,3,none⟩) h.lt).trans h.c3,(k.below.cell (p:=⟨B,4,none⟩) h.lt).trans h.c4,(k.below.cell (p:=⟨B,5,none⟩) h.lt).trans h.c5,(k.below.cell (p:=⟨B,6,none⟩) h.lt).trans h.c6,(k.below.cell (p:=⟨B,7,none⟩) h.lt).trans h.c7,(k.below.cell (p:=⟨B,8,none⟩) h.lt).trans h.c8⟩
theorem K9.new (w : World) (a0 a1 a2 a3 a4 a5 a6 a7 a8 : Value) (t : TypeId) : K9 (w.alloc (.cells #[a0,a1,a2,a3,a4,a5,a6,a7,a8] t)) w.heap.size a0 a1 a2 a3 a4 a5 a6 a7 a8 :=
 ⟨by simp [go_sem],by simp [go_sem],by simp [go_sem],by simp [go_sem],by simp [go_sem],by simp [go_sem],by simp [go_sem],by simp [go_sem],by simp [go_sem],by simp [go_sem]⟩
end Go.Proofs.YtdhimkpfnhoagaaGreatDoor
