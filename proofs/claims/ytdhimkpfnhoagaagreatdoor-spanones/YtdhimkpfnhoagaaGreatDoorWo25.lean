/- The ends of intervals as binary64: the floats of both widths by their keys,how they lie in order,their values,their signs. No Go in sight. Package span: floats of patterns and back,the tests of infinity and of no number. -/
import Derived.Test.YtdhimkpfnhoagaaGreatDoorWo24
namespace Go.Proofs.YtdhimkpfnhoagaaGreatDoor
open Go.ChangeShapes Go.WideShapes Go.ChangeAt Go.RowKit Ieee
set_option linter.unusedVariables false
set_option linter.unusedSimpArgs false
set_option maxHeartbeats 16000000
set_option maxRecDepth 100000
/-- the binary64 of a pattern that is a number -/
def fl (b n : Int) : Nat:=if n = 64 then pat64 b else wide b
/-- a binary64 that is the float of a width with this key -/
def Fl (n : Int) (x : Nat) (k : Int) : Prop:=∃ b : Int,isnum b n = true ∧ (-9223372036854775808 ≤ b ∧ b ≤ 9223372036854775807) ∧ keyOf b n = k ∧ x = fl b n
theorem fl_wd (b n : Int) (hn : isnum b n = true) : Wd b n (fl b n):=by
 left
 rcases isnum_inv b n hn with ⟨rfl,c⟩ | ⟨rfl,c⟩
 ·have h:=mt (nan_64 b).2 c
  refine ⟨hn,?_,fun _ => by simp [fl],fun h => absurd h (by decide)⟩
  simp only [fl,if_pos]
  omega
 ·refine ⟨hn,?_,fun h => absurd h (by decide),fun _ => by simp [fl]⟩
  have:=(cvw_pat b c).2
  simpa [fl] using this
theorem Fl.of (b n : Int) (hn : isnum b n = true) (h1 : -9223372036854775808 ≤ b) (h2 : b ≤ 9223372036854775807) : Fl n (fl b n) (keyOf b n):=⟨b,hn,⟨h1,h2⟩,rfl,rfl⟩
theorem Fl.le {n : Int} {x : Nat} {k : Int} (h : Fl n x k) : rung FloatKind.f64.format x ≤ FloatKind.f64.format.infRung:=by
 obtain ⟨b,h1,h2,h3,rfl⟩:=h
 rcases fl_wd b n h1 with ⟨-,h,-⟩ | ⟨h,-⟩
 ·exact h
 ·rw [h1] at h; cases h
theorem Fl.ord {n : Int} {x y : Nat} {k j : Int} (h : Fl n x k) (g : Fl n y j) : FloatKind.f64.format.order x y = some (compare k j):=by
 obtain ⟨a,a1,a2,rfl,rfl⟩:=h
 obtain ⟨b,b1,b2,rfl,rfl⟩:=g
 rw [order_wd a b n _ _ a2.1 a2.2 b2.1 b2.2 (fl_wd a n a1) (fl_wd b n b1),if_pos (by rw [a1,b1]; rfl)]
theorem isnum_wid (b n : Int) (h : isnum b n = true) : n = 64 ∨ n = 32:=by
 rcases isnum_inv b n h with ⟨rfl,-⟩ | ⟨rfl,-⟩ <;> simp
theorem key_rng (b n : Int) (h : isnum b n = true) (h1 : -9223372036854775808 ≤ b) (h2 : b ≤ 9223372036854775807) : -(ifn n : Int) ≤ keyOf b n ∧ keyOf b n ≤ (ifn n : Int):=by
 rcases isnum_wid b n h with rfl | rfl
 ·have:=(num64_iff b).1 h
  unfold keyOf ifn
  simp only [if_pos]
  split <;> constructor <;> omega
 ·have:=(num32_iff b).1 h
  unfold keyOf ifn
  rw [if_neg (by decide),if_neg (by decide)]
  split <;> constructor <;> omega
theorem Fl.rng {n : Int} {x : Nat} {k : Int} (h : Fl n x k) : -(ifn n : Int) ≤ k ∧ k ≤ (ifn n : Int):=by
 obtain ⟨b,h1,h2,rfl,-⟩:=h
 exact key_rng b n h1 h2.1 h2.2
theorem Fl.lt {n : Int} {x : Nat} {k : Int} (h : Fl n x k) : x < 18446744073709551616:=by
 obtain ⟨b,h1,h2,-,rfl⟩:=h
 rcases isnum_inv b n h1 with ⟨rfl,c⟩ | ⟨rfl,c⟩
 ·have:=pat64_eq b
  simp only [fl,if_pos]
  omega
 ·have hr : rung FloatKind.f32.format (pat32 b) ≤ FloatKind.f32.format.infRung:=by have:=mt (nan_32 b).2 c; omega
  exact W_lt64 (pat32 b) hr
/- the pattern of width 64 of such a float -/
theorem pat64_wrap64 (x : Nat) (h : x < 18446744073709551616) : pat64 (wrap64 x) = x ∧ -9223372036854775808 ≤ wrap64 x ∧ wrap64 x ≤ 9223372036854775807:=by
 refine ⟨pat64_wrap x h,?_,?_⟩ <;> (unfold wrap64; omega)
theorem key_sv64 (x : Nat) (h : rung FloatKind.f64.format x ≤ FloatKind.f64.format.infRung) (hx : x < 18446744073709551616) : isnum (wrap64 x) 64 = true ∧ keyOf (wrap64 x) 64 = sv (below FloatKind.f64.format x) (rung FloatKind.f64.format x):=by
 obtain ⟨p1,p2,p3⟩:=pat64_wrap64 x hx
 constructor
 ·rw [isnum_64,decide_eq_true_eq]
  intro hc
  have:=(nan_64 (wrap64 x)).1 hc
  rw [p1] at this
  omega
 ·rw [← key_64 _ p2 p3,p1,key_sv]
theorem key64_is (b : Int) : keyOf b 64 = if b < 0 then -(b % 9223372036854775808) else b:=by
 unfold keyOf
 rw [if_pos rfl]
theorem key32_is (b : Int) : keyOf b 32 = if 2147483648 ≤ b then -(b % 2147483648) else b:=by
 unfold keyOf
 rw [if_neg (by decide : ¬ (32 : Int) = 64)]
theorem pz32_is (k : Int) : pz 32 k = if k < 0 then -k + 2147483648 else k:=by
 unfold pz
 rw [if_neg (by decide : ¬ (32 : Int) = 64)]
theorem ifn_p (n : Int) : 0 < ifn n:=by unfold ifn; split <;> decide
theorem sv_ifn (b : Bool) (r m : Nat) (hm : 0 < m) : (sv b r = (m : Int) ↔ (b = false ∧ r = m)) ∧ (sv b r = -(m : Int) ↔ (b = true ∧ r = m)) ∧ (0 < sv b r ↔ (b = false ∧ 0 < r)) ∧ (sv b r < 0 ↔ (b = true ∧ 0 < r)):=by
 cases b <;> simp [sv] <;> omega
theorem ifn_64 : (ifn 64 : Nat) = FloatKind.f64.format.infRung:=by rw [inf64]; rfl
theorem ifn_32 : (ifn 32 : Nat) = FloatKind.f32.format.infRung:=by rw [inf32]; rfl
/-- how the key of width 64 of such a float hangs together with its own -/
structure K64 (n k q : Int) : Prop where
 top : k = (ifn n : Int) ↔ q = (ifn 64 : Int)
 bot : k = -(ifn n : Int) ↔ q = -(ifn 64 : Int)
 pos : 0 < k ↔ 0 < q
 neg : k < 0 ↔ q < 0
theorem Fl.wide {n : Int} {x : Nat} {k : Int} (h : Fl n x k) : ∃ q,Fl 64 x q ∧ K64 n k q ∧ of64 x = wrap64 x ∧ isnum (of64 x) 64 = true ∧ keyOf (of64 x) 64 = q ∧ -9223372036854775808 ≤ of64 x ∧ of64 x ≤ 9223372036854775807 ∧ pat64 (of64 x) = x:=by
 have hle:=h.le
 have hlt:=h.lt
 obtain ⟨p1,p2,p3⟩:=pat64_wrap64 x hlt
 obtain ⟨i1,i2⟩:=key_sv64 x hle hlt
 have ho : of64 x = wrap64 x:=of64_num x hle
 rw [ho]
 refine ⟨_,⟨wrap64 x,i1,⟨p2,p3⟩,i2,?_⟩,?_,rfl,i1,i2,p2,p3,p1⟩
 ·simp [fl,p1]
 obtain ⟨b,b1,b2,rfl,rfl⟩:=h
 rcases isnum_inv b n b1 with ⟨rfl,c⟩ | ⟨rfl,c⟩
 ·have e : sv (below FloatKind.f64.format (fl b 64)) (rung FloatKind.f64.format (fl b 64)) = keyOf b 64:=by
   rw [← key_sv,← key_64 b b2.1 b2.2]
   simp [fl]
  rw [e]
  exact ⟨Iff.rfl,Iff.rfl,Iff.rfl,Iff.rfl⟩
 ·have hv:=cls_valid b c
  have hr : rung FloatKind.f32.format (pat32 b) ≤ FloatKind.f32.format.infRung:=by have:=mt (nan_32 b).2 c; omega
  have e : keyOf b 32 = sv (below FloatKind.f32.format (pat32 b)) (rung FloatKind.f32.format (pat32 b)):=by rw [← key_sv,key_32 b hv]
  have ex : fl b 32 = W (pat32 b):=by simp [fl]; rfl
  rw [e,ex]
  obtain ⟨w1,w2⟩:=W_le (pat32 b) hr
  rw [w2]
  have z : rung FloatKind.f32.format 0 ≤ FloatKind.f32.format.infRung:=by decide +kernel
  have z0 : rung FloatKind.f32.format 0 = 0:=by decide +kernel
  have h0:=W_lt 0 (pat32 b) z hr
  rw [W_zero,z0] at h0
  have hinf : rung FloatKind.f32.format (pat32 b) = FloatKind.f32.format.infRung ↔ rung FloatKind.f64.format (W (pat32 b)) = FloatKind.f64.format.infRung:=by
   constructor
   ·intro h; exact (W_inf _ h).1
   ·intro h
    have:=W_num (pat32 b)
    by_cases g : rung FloatKind.f32.format (pat32 b) < FloatKind.f32.format.infRung
    ·have:=(this g).1; omega
    ·omega
  rw [← ifn_32] at hinf
  rw [← ifn_64] at hinf
  generalize below FloatKind.f32.format (pat32 b) = sb at *
  generalize rung FloatKind.f32.format (pat32 b) = r32 at *
  generalize rung FloatKind.f64.format (W (pat32 b)) = r64 at *
  have a32:=sv_ifn sb r32 (ifn 32) (ifn_p 32)
  have a64:=sv_ifn sb r64 (ifn 64) (ifn_p 64)
  refine ⟨?_,?_,?_,?_⟩
  ·rw [a32.1,a64.1,hinf]
  ·rw [a32.2.1,a64.2.1,hinf]
  ·rw [a32.2.2.1,a64.2.2.1,h0]
  ·rw [a32.2.2.2,a64.2.2.2,h0]
theorem cmp_is_gt (a b : Int) : (some (compare a b) == some Ordering.gt) = decide (b < a):=by
 rcases Int.lt_trichotomy a b with h | h | h
 ·rw [← cmp_lt h,decide_eq_false (by omega)]; rfl
 ·rw [← cmp_eq h,decide_eq_false (by omega)]; rfl
 ·rw [← cmp_gt h,decide_eq_true h]; rfl
/- the sign turned -/
theorem xor_top63 (x : Nat) (h : x < 2 ^ 63) : x ^^^ 2 ^ 63 = x + 2 ^ 63:=by
 have e : 2 ^ 63 + x = 2 ^ 63 ||| x:=by
  have:=Nat.two_pow_add_eq_or_of_lt h 1
  simpa using this
 rw [Nat.add_comm,e]
 apply Nat.eq_of_testBit_eq
 intro i
 rw [Nat.testBit_xor,Nat.testBit_or,Nat.testBit_two_pow]
 by_cases hi : 63 = i
 ·subst hi
  rw [Nat.testBit_lt_two_pow h]
  simp
 ·simp [hi]
theorem neg_word (x : Nat) (h : x < 18446744073709551616) : Op.negFloat .f64 x = (x + 9223372036854775808) % 18446744073709551616:=by
 have e0 : FloatKind.f64.format.exponentBits + FloatKind.f64.format.fractionBits = 63:=by decide +kernel
 unfold Op.negFloat
 rw [e0]
 have e1 : (2 : Nat) ^ 63 = 9223372036854775808:=by decide
 by_cases hx : x < 2 ^ 63
 ·rw [xor_top63 x hx,e1]
  omega
 ·obtain ⟨y,rfl⟩ : ∃ y,x = y + 2 ^ 63:=⟨x - 2 ^ 63,by omega⟩
  have hy : y < 2 ^ 63:=by omega
  rw [← xor_top63 y hy,Nat.xor_assoc,Nat.xor_self,Nat.xor_zero,xor_top63 y hy,e1]
  omega
theorem key_ngt (b n : Int) (h : isnum b n = true) (h1 : -9223372036854775808 ≤ b) (h2 : b ≤ 9223372036854775807) : isnum (ngt b n) n = true ∧ keyOf (ngt b n) n = -keyOf b n ∧ -9223372036854775808 ≤ ngt b n ∧ ngt b n ≤ 9223372036854775807:=by
 rcases isnum_wid b n h with rfl | rfl
 ·have hm:=(num64_iff b).1 h
  have e : ngt b 64 = if b < 0 then b + 9223372036854775808 else b - 9223372036854775808:=by
   unfold ngt
   rw [if_pos h,if_pos rfl]
  rw [num64_iff,e]
  unfold keyOf
  simp only [if_pos]
  by_cases hb : b < 0
  ·rw [if_pos hb,if_pos hb,if_neg (by omega)]
   omega
  ·rw [if_neg hb,if_neg hb,if_pos (by omega)]
   omega
 ·have hm:=(num32_iff b).1 h
  have e : ngt b 32 = if b < 2147483648 then b + 2147483648 else b - 2147483648:=by
   unfold ngt
   rw [if_pos h,if_neg (by decide)]
  rw [num32_iff,e,key32_is,key32_is]
  by_cases hb : b < 2147483648
  ·rw [if_pos hb,if_pos (by omega),if_neg (by omega)]
   omega
  ·rw [if_neg hb,if_neg (by omega),if_pos (by omega)]
   omega
theorem word_is64 (x : Nat) (hx : x < 18446744073709551616) : x = rung FloatKind.f64.format x + (if below FloatKind.f64.format x = true then 9223372036854775808 else 0):=by
 unfold below rung
 rw [sw64]
 have h1:=Nat.div_add_mod x 9223372036854775808
 rcases (show x / 9223372036854775808 = 0 ∨ x / 9223372036854775808 = 1 by omega) with h | h
 ·simp [h]; omega
 ·simp [h]; omega
theorem Fl.neg {n : Int} {x : Nat} {k : Int} (h : Fl n x k) : Fl n (Op.negFloat .f64 x) (-k):=by
 have hlt:=h.lt
 obtain ⟨b,b1,b2,rfl,rfl⟩:=h
 obtain ⟨g1,g2,g3,g4⟩:=key_ngt b n b1 b2.1 b2.2
 refine ⟨ngt b n,g1,⟨g3,g4⟩,g2,?_⟩
 rw [neg_word _ hlt]
 have hl2 : fl (ngt b n) n < 18446744073709551616:=(Fl.of _ n g1 g3 g4).lt
 rcases isnum_inv b n b1 with ⟨rfl,c⟩ | ⟨rfl,c⟩
 ·have e : ngt b 64 = if b < 0 then b + 9223372036854775808 else b - 9223372036854775808:=by
   unfold ngt
   rw [if_pos b1,if_pos rfl]
  simp only [fl,if_pos] at *
  have p1:=pat64_eq b
  have p2:=pat64_eq (ngt b 64)
  rw [e] at p2 ⊢
  split at p2 <;> rename_i hb
  ·rw [if_pos hb]; omega
  ·rw [if_neg hb]; omega
 ·have c2 : cls (ngt b 32) 32 ≠ 4:=by simpa [isnum] using g1
  have v1:=cls_valid b c
  have v2:=cls_valid _ c2
  have e : ngt b 32 = if b < 2147483648 then b + 2147483648 else b - 2147483648:=by
   unfold ngt
   rw [if_pos b1,if_neg (by decide)]
  have hr1 : rung FloatKind.f32.format (pat32 b) ≤ FloatKind.f32.format.infRung:=by have:=mt (nan_32 b).2 c; omega
  have hr2 : rung FloatKind.f32.format (pat32 (ngt b 32)) ≤ FloatKind.f32.format.infRung:=by have:=mt (nan_32 (ngt b 32)).2 c2; omega
  have q1:=rung_pat32 b v1
  have q2:=rung_pat32 _ v2
  have qe : rung FloatKind.f32.format (pat32 (ngt b 32)) = rung FloatKind.f32.format (pat32 b):=by
   rw [e] at q2 ⊢
   split at q2 <;> rename_i hb
   ·rw [if_pos hb]; omega
   ·rw [if_neg hb]; omega
  have s1:=below_pat32 b v1
  have s2:=below_pat32 _ v2
  have se : below FloatKind.f32.format (pat32 (ngt b 32)) = !below FloatKind.f32.format (pat32 b):=by
   rw [s1,s2,e]
   by_cases hb : b < 2147483648
   ·rw [if_pos hb,decide_eq_true (by omega),decide_eq_false (by omega)]; rfl
   ·rw [if_neg hb,decide_eq_false (by omega),decide_eq_true (by omega)]; rfl
  have x1 : fl b 32 = W (pat32 b):=by simp [fl]; rfl
  have x2 : fl (ngt b 32) 32 = W (pat32 (ngt b 32)):=by simp [fl]; rfl
  rw [x1] at hlt
  rw [x1,x2]
  obtain ⟨w1,w2⟩:=W_le _ hr1
  obtain ⟨u1,u2⟩:=W_le _ hr2
  have re : rung FloatKind.f64.format (W (pat32 (ngt b 32))) = rung FloatKind.f64.format (W (pat32 b)):=by
   have a1:=W_lt _ _ hr1 hr2
   have a2:=W_lt _ _ hr2 hr1
   omega
  have z1:=word_is64 _ hlt
  have z2:=word_is64 _ hl2
  rw [x2] at z2
  have rl : rung FloatKind.f64.format (W (pat32 b)) < 9223372036854775808:=by
   unfold rung
   rw [sw64]
   exact Nat.mod_lt _ (by decide)
  rw [re,u2,se,← w2] at z2
  generalize W (pat32 b) = X at *
  generalize W (pat32 (ngt b 32)) = Y at *
  cases hbe : below FloatKind.f64.format X
  ·rw [hbe] at z1 z2
   simp at z1 z2
   omega
  ·rw [hbe] at z1 z2
   simp at z1 z2
   omega
theorem run_min_lt {P : Program} (n : Int) (x y : Nat) (k j : Int) (hx : Fl n x k) (hy : Fl n y j) : ∃ z,Fl n z (min k j) ∧ ∀ (ts : Array TypeId) (t : TypeId) (w : World),(Builtin.min_ ts t #[.float .f64 x,.float .f64 y]).run P w = .ok (.float .f64 z) w:=by
 have ho:=hx.ord hy
 rcases Int.lt_trichotomy k j with h | h | h
 ·rw [← cmp_lt h] at ho
  refine ⟨x,by rw [show min k j = k by omega]; exact hx,fun ts t w => ?_⟩
  simp [Builtin.min_,Builtin.min2,ho]
 ·rw [← cmp_eq h] at ho
  refine ⟨if (FloatKind.f64.decode x).neg then x else y,?_,fun ts t w => ?_⟩
  ·split
   ·rw [show min k j = k by omega]; exact hx
   ·rw [show min k j = j by omega]; exact hy
  ·simp [Builtin.min_,Builtin.min2,ho]
 ·rw [← cmp_gt h] at ho
  refine ⟨y,by rw [show min k j = j by omega]; exact hy,fun ts t w => ?_⟩
  simp [Builtin.min_,Builtin.min2,ho]
theorem run_max_lt {P : Program} (n : Int) (x y : Nat) (k j : Int) (hx : Fl n x k) (hy : Fl n y j) : ∃ z,Fl n z (max k j) ∧ ∀ (ts : Array TypeId) (t : TypeId) (w : World),(Builtin.max_ ts t #[.float .f64 x,.float .f64 y]).run P w = .ok (.float .f64 z) w:=by
 have ho:=hx.ord hy
 rcases Int.lt_trichotomy k j with h | h | h
 ·rw [← cmp_lt h] at ho
  refine ⟨y,by rw [show max k j = j by omega]; exact hy,fun ts t w => ?_⟩
  simp [Builtin.max_,Builtin.max2,ho]
 ·rw [← cmp_eq h] at ho
  refine ⟨if (FloatKind.f64.decode x).neg then y else x,?_,fun ts t w => ?_⟩
  ·split
   ·rw [show max k j = j by omega]; exact hy
   ·rw [show max k j = k by omega]; exact hx
  ·simp [Builtin.max_,Builtin.max2,ho]
 ·rw [← cmp_gt h] at ho
  refine ⟨x,by rw [show max k j = k by omega]; exact hx,fun ts t w => ?_⟩
  simp [Builtin.max_,Builtin.max2,ho]
/- a pattern by its key -/
theorem can_pz (b n : Int) (h : isnum b n = true) (h1 : -9223372036854775808 ≤ b) (h2 : b ≤ 9223372036854775807) : can b n = pz n (keyOf b n):=by
 rcases isnum_wid b n h with rfl | rfl
 ·have hm:=(num64_iff b).1 h
  unfold can pz keyOf
  rw [if_pos h]
  simp only [if_pos]
  by_cases hb : b < 0
  ·simp only [hb,if_pos]
   by_cases e : b = -9223372036854775808
   ·subst e; decide
   ·rw [if_neg e,if_pos (by omega)]; omega
  ·simp only [hb,if_neg,if_false]
   rw [if_neg (by omega)]
 ·have hm:=(num32_iff b).1 h
  unfold can
  rw [if_pos h,if_neg (by decide : ¬ (32 : Int) = 64),pz32_is,key32_is]
  by_cases hb : 2147483648 ≤ b
  ·simp only [hb,if_pos]
   by_cases e : b = 2147483648
   ·subst e; decide
   ·rw [if_neg e,if_pos (by omega)]; omega
  ·simp only [hb,if_neg,if_false]
   rw [if_neg (by omega),if_neg (by omega)]
theorem Fl.pz (n k : Int) (hn : n = 64 ∨ n = 32) (h1 : -(ifn n : Int) ≤ k) (h2 : k ≤ (ifn n : Int)) : Fl n (fl (pz n k) n) k:=by
 have hr:=pz_range n k hn h1 h2
 have:=Fl.of (Go.Proofs.YtdhimkpfnhoagaaGreatDoor.pz n k) n (pz_num n k hn h1 h2) hr.1 hr.2
 rw [pz_key n k hn h1 h2] at this
 exact this
theorem Fl.zero (n : Int) (hn : n = 64 ∨ n = 32) : Fl n 0 0:=by
 rcases hn with rfl | rfl
 ·exact ⟨0,by decide,by decide,by decide,by decide +kernel⟩
 ·exact ⟨0,by decide,by decide,by decide,by decide +kernel⟩
/-- what span's float tells of any int and any width -/
def flv (b n : Int) : Nat:=if isnum b n = true then fl b n else if n = 64 ∨ n = 32 then 9221120237041090561 else 0
def cv64 (b n : Int) : Int:=if n = 64 then cln b 64 else if n = 32 then cvw b else 0
theorem convert_0 (b n m : Int) (h1 : (n == 32) = false) (h2 : (n == 64) = false) (w : World) : Calls Tryz.prog 158 #[.int .i64 b,.int .i64 n,.int .i64 m] w fun e w' => e = .returned (.int .i64 0) ∧ Kept w w':=by
 have KL : Hid (∀ u,Calls Tryz.prog 151 #[.int .i64 n] u fun e w' => e = .returned (.tuple #[.agg #[.int .i64 0,.int .i64 0,.int .i64 0,.int .i64 0,.int .i64 0],.bool false]) ∧ Kept u w'):=fun u => layoutOf_0 n h1 h2 u
 go_enter Tryz.func158,Tryz.ntmps158
 go_wp2_with (first | (go_at_call 151; refine (KL.out _).mono ?_; rintro e w1 ⟨rfl,k1⟩))
 go_ret
 exact ⟨rfl,k1.alloc _ _⟩
theorem conv_to64 (b n : Int) (hb1 : -9223372036854775808 ≤ b) (hb2 : b ≤ 9223372036854775807) (w : World) : Calls Tryz.prog 158 #[.int .i64 b,.int .i64 n,.int .i64 64] w fun e w' => e = .returned (.int .i64 (cv64 b n)) ∧ Kept w w':=by
 unfold cv64
 by_cases h64 : n = 64
 ·subst h64
  rw [if_pos rfl]
  exact convert_6464 b hb1 hb2 w
 ·by_cases h32 : n = 32
  ·subst h32
   rw [if_neg (by decide),if_pos rfl]
   exact convert_3264 b w
  ·rw [if_neg h64,if_neg h32]
   exact convert_0 b n 64 (by simpa using h32) (by simpa using h64) w
theorem cv64_flv (b n : Int) : pat64 (cv64 b n) = flv b n:=by
 unfold cv64 flv fl
 by_cases h64 : n = 64
 ·subst h64
  rw [if_pos rfl,isnum_64]
  by_cases hc : cls b 64 = 4
  ·rw [if_neg (by simp [hc]),if_pos (.inl rfl)]
   unfold cln
   rw [if_pos hc,if_pos rfl]
   decide
  ·rw [if_pos (by simp [hc]),if_pos rfl]
   unfold cln
   rw [if_neg hc]
 ·by_cases h32 : n = 32
  ·subst h32
   rw [if_neg (by decide),if_pos rfl,isnum_32]
   by_cases hc : cls b 32 = 4
   ·rw [if_neg (by simp [hc]),if_pos (.inr rfl)]
    unfold cvw
    rw [if_pos hc]
    decide
   ·rw [if_pos (by simp [hc]),if_neg (by decide)]
    exact (cvw_pat b hc).1
  ·rw [if_neg h64,if_neg h32,if_neg (by simp [isnum_0 b n h64 h32]),if_neg (by simp [h64,h32])]
   decide
theorem sfloat_any (b n : Int) (hb1 : -9223372036854775808 ≤ b) (hb2 : b ≤ 9223372036854775807) (w : World) : Calls Tryz.prog 125 #[.int .i64 b,.int .i64 n] w fun e w' => e = .returned (.float .f64 (flv b n)) ∧ Kept w w':=by
 have KC : Hid (∀ u,Calls Tryz.prog 158 #[.int .i64 b,.int .i64 n,.int .i64 64] u fun e w' => e = .returned (.int .i64 (cv64 b n)) ∧ Kept u w'):=fun u => conv_to64 b n hb1 hb2 u
 have KF : Hid (∀ u,Calls Tryz.prog 134 #[.int .i64 (cv64 b n)] u fun e w' => e = .returned (.float .f64 (flv b n)) ∧ u = w'):=fun u => by
  rw [← cv64_flv]
  exact float_any (cv64 b n) u
 generalize cv64 b n = c at *
 generalize flv b n = x at *
 go_enter Tryz.func125,Tryz.ntmps125
 go_wp2_with (first | (go_at_call 158; refine (KC.out _).mono ?_; rintro e w1 ⟨rfl,k1⟩) | (go_at_call 134; refine (KF.out _).mono ?_; rintro e w2 ⟨rfl,rfl⟩))
 go_ret
 exact ⟨rfl,k1⟩
theorem Fl.flv {b n : Int} (h : isnum b n = true) (h1 : -9223372036854775808 ≤ b) (h2 : b ≤ 9223372036854775807) : Fl n (flv b n) (keyOf b n):=by
 unfold Go.Proofs.YtdhimkpfnhoagaaGreatDoor.flv
 rw [if_pos h]
 exact Fl.of b n h h1 h2
theorem pattern_any {n : Int} {x : Nat} {k : Int} (h : Fl n x k) (w : World) : Calls Tryz.prog 117 #[.float .f64 x,.int .i64 n] w fun e w' => e = .returned (.int .i64 (pz n k)) ∧ Kept w w':=by
 have hh:=h
 obtain ⟨q,-,-,o1,o2,o3,o4,o5,o6⟩:=hh.wide
 obtain ⟨b,b1,b2,rfl,rfl⟩:=h
 have KO : Hid (∀ u,Calls Tryz.prog 159 #[.float .f64 (fl b n)] u fun e w' => e = .returned (.int .i64 (of64 (fl b n))) ∧ u = w'):=fun u => of64_any _ u
 have KC : Hid (∀ u,Calls Tryz.prog 158 #[.int .i64 (of64 (fl b n)),.int .i64 64,.int .i64 n] u fun e w' => e = .returned (.int .i64 b) ∧ Kept u w'):=fun u => by
  rcases isnum_inv b n b1 with ⟨rfl,c⟩ | ⟨rfl,c⟩
  ·have e : of64 (fl b 64) = b:=by
    have:=of64_pat b b2.1 b2.2
    rw [if_neg c] at this
    simpa [fl] using this
   have hc : cln b 64 = b:=by unfold cln; rw [if_neg c]
   have:=convert_6464 b b2.1 b2.2 u
   rw [hc] at this
   rw [e]
   exact this
  ·have e : of64 (fl b 32) = cvw b:=by
    rw [o1]
    unfold cvw
    rw [if_neg c]
    simp [fl]
   have hc : cln b 32 = b:=by unfold cln; rw [if_neg c]
   have:=convert_6432 b u
   rw [hc] at this
   rw [e]
   exact this
 have KN : Hid (∀ u,Calls Tryz.prog 157 #[.int .i64 b,.int .i64 n] u fun e w' => e = .returned (.int .i64 (pz n (keyOf b n))) ∧ Kept u w'):=fun u => by
  rw [← can_pz b n b1 b2.1 b2.2]
  exact canon_any b n u
 clear o1 o2 o3 o4 o5 o6 hh
 generalize of64 (fl b n) = c at *
 generalize fl b n = x at *
 generalize pz n (keyOf b n) = d at *
 go_enter Tryz.func117,Tryz.ntmps117
 go_wp2_with (first | (go_at_call 159; refine (KO.out _).mono ?_; rintro e w1 ⟨rfl,rfl⟩) | (go_at_call 158; refine (KC.out _).mono ?_; rintro e w2 ⟨rfl,k2⟩) | (go_at_call 157; refine (KN.out _).mono ?_; rintro e w3 ⟨rfl,k3⟩))
 go_ret
 exact ⟨rfl,k2.trans k3⟩
/- infinity -/
theorem gt_max (x : Nat) (h : rung FloatKind.f64.format x ≤ FloatKind.f64.format.infRung) : (FloatKind.f64.format.order x 9218868437227405311 == some .gt) = decide (key FloatKind.f64.format x = (ifn 64 : Int)):=by
 have hm : rung FloatKind.f64.format 9218868437227405311 ≤ FloatKind.f64.format.infRung:=by decide +kernel
 have hk : key FloatKind.f64.format 9218868437227405311 = 9218868437227405311:=by decide +kernel
 rw [order_num _ _ _ hb64 h hm,hk,cmp_is_gt]
 have hi : (ifn 64 : Int) = 9218868437227405312:=by decide
 rw [hi]
 rw [inf64] at h
 have : key FloatKind.f64.format x ≤ 9218868437227405312:=by unfold key; split <;> omega
 rw [Bool.eq_iff_iff,decide_eq_true_eq,decide_eq_true_eq]
 omega
theorem Fl.gt {n : Int} {x : Nat} {k : Int} (h : Fl n x k) : (FloatKind.f64.format.order x 9218868437227405311 == some .gt) = decide (k = (ifn n : Int)):=by
 obtain ⟨q,hq,hK,o1,o2,o3,o4,o5,o6⟩:=h.wide
 rw [gt_max x h.le,Bool.eq_iff_iff,decide_eq_true_eq,decide_eq_true_eq,hK.top]
 rw [← o3,← key_64 _ o4 o5,o6]
theorem isInf_up {n : Int} {x : Nat} {k : Int} (h : Fl n x k) (w : World) : Calls Tryz.prog 122 #[.float .f64 x,.int .i64 1] w fun e w' => e = .returned (.bool (decide (k = (ifn n : Int)))) ∧ w = w':=by
 have hg:=h.gt
 clear h
 generalize decide (k = (ifn n : Int)) = t at *
 go_enter Tryz.func122,Tryz.ntmps122
 go_wp2
 go_ret
 exact ⟨rfl,rfl⟩
theorem isInf_down {n : Int} {x : Nat} {k : Int} (h : Fl n x k) (w : World) : Calls Tryz.prog 122 #[.float .f64 x,.int .i64 (-1)] w fun e w' => e = .returned (.bool (decide (k = -(ifn n : Int)))) ∧ w = w':=by
 have hg:=h.neg.gt
 have e : decide (-k = (ifn n : Int)) = decide (k = -(ifn n : Int)):=by rw [Bool.eq_iff_iff,decide_eq_true_eq,decide_eq_true_eq]; omega
 rw [e] at hg
 have hN : ∀ (wx : World),(Op.unary .neg (.float .f64 x)).run Tryz.prog wx = .ok (.float .f64 (Op.negFloat .f64 x)) wx:=fun _ => rfl
 clear h e
 generalize decide (k = -(ifn n : Int)) = t at *
 generalize Op.negFloat .f64 x = y at *
 go_enter Tryz.func122,Tryz.ntmps122
 go_wp2
 go_ret
 exact ⟨rfl,rfl⟩
/- the size of a float -/
theorem abs_word (x : Nat) (h : x < 18446744073709551616) : bits .andNot .u64 (x : Int) 9223372036854775808 = ((x % 9223372036854775808 : Nat) : Int):=by
 have e : (~~~ BitVec.ofInt 64 9223372036854775808 : BitVec 64).toNat = 2 ^ 63 - 1:=by decide
 have h1 : (BitVec.ofInt 64 (x : Int)).toNat = x:=by
  rw [BitVec.ofInt_natCast,BitVec.toNat_ofNat]; exact Nat.mod_eq_of_lt (by omega)
 show IntKind.u64.wrap ((BitVec.ofInt 64 (x : Int) &&& ~~~ BitVec.ofInt 64 9223372036854775808).toNat : Int) = _
 rw [BitVec.toNat_and,e,h1,Nat.and_two_pow_sub_one_eq_mod,IntKind.wrap_u64]
 omega
theorem Fl.abs {n : Int} {x : Nat} {k : Int} (h : Fl n x k) : Fl n (x % 9223372036854775808) (k.natAbs : Int):=by
 have hlt:=h.lt
 have hle:=h.le
 obtain ⟨q,hq,hK,o1,o2,o3,o4,o5,o6⟩:=h.wide
 have hs:=(key_sv64 x hle hlt).2
 rw [← o1,o3] at hs
 have hn:=hK.neg
 have hp:=hK.pos
 by_cases hx : x < 9223372036854775808
 ·have hb : below FloatKind.f64.format x = false:=by
   unfold below
   rw [sw64,show x / 9223372036854775808 = 0 by omega]
   rfl
  rw [hb,sv_f] at hs
  rw [Nat.mod_eq_of_lt hx,show ((k.natAbs : Nat) : Int) = k by omega]
  exact h
 ·have hb : below FloatKind.f64.format x = true:=by
   unfold below
   rw [sw64,show x / 9223372036854775808 = 1 by omega]
   rfl
  rw [hb,sv_t] at hs
  have:=h.neg
  rw [neg_word x hlt] at this
  rw [show x % 9223372036854775808 = (x + 9223372036854775808) % 18446744073709551616 by omega,show ((k.natAbs : Nat) : Int) = -k by omega]
  exact this
theorem abs_any (x : Nat) (h : x < 18446744073709551616) (w : World) : Calls Tryz.prog 161 #[.float .f64 x] w fun e w' => e = .returned (.float .f64 (x % 9223372036854775808)) ∧ w = w':=by
 have h1:=abs_word x h
 have c1:=call_bits64 x
 have c2 : ∀ wx : World,(callFunc 171 #[.int .u64 ((x % 9223372036854775808 : Nat) : Int)]).run Tryz.prog wx = .ok (.value (.float .f64 (x % 9223372036854775808))) wx:=fun wx => by
  have:=call_frombits64 ((x % 9223372036854775808 : Nat) : Int) wx
  rw [Int.toNat_natCast] at this
  exact this
 clear h
 generalize x % 9223372036854775808 = y at *
 go_enter Tryz.func161,Tryz.ntmps161
 go_wp2_with (simp only [c1,c2,h1])
 go_ret
 exact ⟨rfl,rfl⟩
theorem isInf_0 {n : Int} {x : Nat} {k : Int} (h : Fl n x k) (w : World) : Calls Tryz.prog 122 #[.float .f64 x,.int .i64 0] w fun e w' => e = .returned (.bool (decide (k = (ifn n : Int) ∨ k = -(ifn n : Int)))) ∧ w = w':=by
 have hg:=h.abs.gt
 have e : decide ((k.natAbs : Int) = (ifn n : Int)) = decide (k = (ifn n : Int) ∨ k = -(ifn n : Int)):=by
  have:=ifn_p n
  rw [Bool.eq_iff_iff,decide_eq_true_eq,decide_eq_true_eq]
  omega
 rw [e] at hg
 have KA : Hid (∀ u,Calls Tryz.prog 161 #[.float .f64 x] u fun e w' => e = .returned (.float .f64 (x % 9223372036854775808)) ∧ u = w'):=fun u => abs_any x h.lt u
 clear h e
 generalize decide (k = (ifn n : Int) ∨ k = -(ifn n : Int)) = t at *
 generalize x % 9223372036854775808 = y at *
 go_enter Tryz.func122,Tryz.ntmps122
 go_wp2_with (first | (go_at_call 161; refine (KA.out _).mono ?_; rintro e w1 ⟨rfl,rfl⟩))
 go_ret
 exact ⟨rfl,rfl⟩
theorem isNaN_any (x : Nat) (w : World) : Calls Tryz.prog 142 #[.float .f64 x] w fun e w' => e = .returned (.bool (decide (FloatKind.f64.format.infRung < rung FloatKind.f64.format x))) ∧ w = w':=by
 have hs:=self_64 x
 generalize decide (FloatKind.f64.format.infRung < rung FloatKind.f64.format x) = t at *
 go_enter Tryz.func142,Tryz.ntmps142
 go_wp2
 go_ret
 exact ⟨rfl,rfl⟩
end Go.Proofs.YtdhimkpfnhoagaaGreatDoor
