/- A whole number times a power of two,as a float: exactly. The document's own Join of it. A word's parts,as a float and back. A whole number times 2^-53 (2^-24): Go's float and the document's own Join. Words mixed: as whole numbers below 2^64. No two words become one; every number below 2^64 is some place's word; how many words are passed over; a shuffle as a list. -/
import Derived.Test.YtcfcbabbgcckhaaGreatDoorWa24
import Derived.Test.YtcfcbabbgcckhaaGreatDoorWa31
import Derived.Laws.Bits64b
namespace Go.Proofs.YtcfcbabbgcckhaaGreatDoor
open Go.ChangeShapes Go.WideShapes Go.ChangeAt Go.RowKit Ieee
set_option maxHeartbeats 16000000
set_option maxRecDepth 100000
set_option linter.unusedVariables false
set_option linter.unusedSimpArgs false
theorem log2_scale (m k : Nat) (hm : m ≠ 0) : (m * 2 ^ k).log2 = m.log2 + k:=by
 have hp : 0 < 2 ^ k:=Nat.two_pow_pos k
 rw [Nat.log2_eq_iff (Nat.ne_of_gt (Nat.mul_pos (Nat.pos_of_ne_zero hm) hp))]
 have l1 : 2 ^ m.log2 ≤ m:=Nat.log2_self_le hm
 have l2 : m < 2 ^ (m.log2 + 1):=Nat.lt_log2_self
 constructor
 ·rw [Nat.pow_add]; exact Nat.mul_le_mul_right _ l1
 ·rw [show m.log2 + k + 1 = (m.log2 + 1) + k by omega,Nat.pow_add]; exact Nat.mul_lt_mul_of_pos_right l2 hp
theorem cut_even (neg : Bool) (m k d : Nat) (hm : m ≠ 0) (hd : d ≤ k) : Toward.even.cut neg (m * 2 ^ k) d = m * 2 ^ (k - d):=by
 have hn : (m * 2 ^ k).log2 = m.log2 + k:=log2_scale m k hm
 have hmin : min d ((m * 2 ^ k).log2 + 2) = d:=by rw [hn]; omega
 have hpd : 0 < 2 ^ d:=Nat.two_pow_pos d
 have hs : m * 2 ^ k = m * 2 ^ (k - d) * 2 ^ d:=by rw [Nat.mul_assoc,← Nat.pow_add]; congr 2; omega
 unfold Toward.cut
 simp only [hmin,Nat.shiftLeft_eq,Nat.one_mul]
 rw [hs,Nat.mul_div_cancel _ hpd,Nat.mul_mod_left]
 have h1 : ¬ 2 ^ d < 2 * 0:=by omega
 have h2 : ¬ 2 ^ d = 2 * 0:=by omega
 simp [h1,h2]
theorem nearest_scale (f : Format) (s : Bool) (m k : Nat) (p : Int) (hm : m ≠ 0) (hl : m.log2 ≤ f.fractionBits) (hp : f.leastPlace ≤ p + k) : f.nearest s (m * 2 ^ k) p = f.nearest s m (p + k):=by
 have hp2 : 0 < 2 ^ k:=Nat.two_pow_pos k
 have hmk : m * 2 ^ k ≠ 0:=Nat.ne_of_gt (Nat.mul_pos (Nat.pos_of_ne_zero hm) hp2)
 unfold Format.nearest
 rw [if_neg hm,if_neg hmk]
 simp only
 rw [log2_scale m k hm]
 obtain ⟨last,hlast⟩ : ∃ last,last = max (p + (k : Int) + (m.log2 : Int) - (f.fractionBits : Int)) f.leastPlace:=⟨_,rfl⟩
 rw [show p + ((m.log2 + k : Nat) : Int) - (f.fractionBits : Int) = p + (k : Int) + (m.log2 : Int) - (f.fractionBits : Int) by omega,← hlast]
 have hle : last ≤ p + k:=by omega
 rw [show (last - (p + (k : Int))).toNat = 0 by omega,cut_none]
 congr 3
 by_cases h : last ≤ p
 ·rw [show (last - p).toNat = 0 by omega,cut_none,Nat.shiftLeft_eq,Nat.shiftLeft_eq,Nat.mul_assoc,← Nat.pow_add]
  congr 2; omega
 ·rw [show (p - last).toNat = 0 by omega,Nat.shiftLeft_zero,cut_even s m k _ hm (by omega),Nat.shiftLeft_eq]
  congr 2; omega
theorem log2_lt (m n : Nat) (hm : m ≠ 0) (h : m < 2 ^ (n + 1)) : m.log2 ≤ n:=by
 have l1 : 2 ^ m.log2 ≤ m:=Nat.log2_self_le hm
 have : 2 ^ m.log2 < 2 ^ (n + 1):=Nat.lt_of_le_of_lt l1 h
 have:=(Nat.pow_lt_pow_iff_right (by decide : 1 < 2)).1 this
 omega
/-- m times 2^-e,exactly: its rung. -/
theorem frac_word (f : Format) (m c e fb K : Nat) (hfb : f.fractionBits = fb) (hK : f.leastPlace = -(K : Int)) (hm : m ≠ 0) (hm2 : m < 2 ^ e) (he : e = fb + 1) (hKe : e + e ≤ K)
  (hc : f.read c = .number false (2 ^ fb) (-((e + fb : Nat) : Int))) (hinf : 2 ^ (K + e) ≤ rungVal f f.infRung) (hsw : f.infRung < f.signWeight) :
  ∃ r,f.mul (f.nearest false m 0) c = some r ∧ r < f.infRung ∧ rungVal f r = m * 2 ^ (K - e):=by
 have hbin : f.binade = 2 ^ fb:=by unfold Format.binade; rw [hfb]
 have hK0 : (0 - f.leastPlace).toNat = K:=by omega
 have hml : m.log2 ≤ f.fractionBits:=by rw [hfb]; exact log2_lt m fb hm (by rw [← he]; exact hm2)
 have hmK : m * 2 ^ K < rungVal f f.infRung:=Nat.lt_of_lt_of_le (by rw [Nat.add_comm,Nat.pow_add]; exact Nat.mul_lt_mul_of_pos_right hm2 (Nat.two_pow_pos _)) hinf
 obtain ⟨r1,h1,h2,h3⟩:=nearest_exact f false m 0 hm hml (by omega) (by rw [hK0]; exact hmK)
 rw [hK0] at h3
 have hr1 : rung f (f.word false r1) = r1:=rung_word f false r1 (by omega)
 obtain ⟨m',i,h4,h5,h6,h7⟩:=read_num f (f.word false r1) (by rw [hr1]; exact h2)
 rw [below_word f false r1 (by omega)] at h4
 rw [hr1,h3] at h6
 obtain ⟨I,hI⟩ : ∃ I : Nat,(i - f.leastPlace).toNat = I:=⟨_,rfl⟩
 rw [hI] at h6
 have hm' : m' ≠ 0:=by
  intro h0
  rw [h0,Nat.zero_mul] at h6
  exact absurd h6.symm (Nat.ne_of_gt (Nat.mul_pos (Nat.pos_of_ne_zero hm) (Nat.two_pow_pos K)))
 have h7' : m' < 2 ^ e:=by rw [he,Nat.pow_succ,Nat.mul_comm,← hbin]; exact h7
 -- the last digit's place
 have hIK : K < I + e:=by
  apply (Nat.pow_lt_pow_iff_right (by decide : 1 < 2)).1
  have a1 : 2 ^ K ≤ m * 2 ^ K:=Nat.le_mul_of_pos_left _ (Nat.pos_of_ne_zero hm)
  have a2 : m' * 2 ^ I < 2 ^ e * 2 ^ I:=Nat.mul_lt_mul_of_pos_right h7' (Nat.two_pow_pos _)
  rw [Nat.add_comm I e,Nat.pow_add]
  omega
 have hml' : m'.log2 ≤ f.fractionBits:=by rw [hfb]; exact log2_lt m' fb hm' (by rw [← he]; exact h7')
 have hiI : i = (I : Int) - K:=by omega
 have hval : m' * 2 ^ (I - e) = m * 2 ^ (K - e):=by
  have e1 : m' * 2 ^ I = m' * 2 ^ (I - e) * 2 ^ e:=by rw [Nat.mul_assoc,← Nat.pow_add]; congr 2; omega
  have e2 : m * 2 ^ K = m * 2 ^ (K - e) * 2 ^ e:=by rw [Nat.mul_assoc,← Nat.pow_add]; congr 2; omega
  rw [e1,e2] at h6
  exact Nat.eq_of_mul_eq_mul_right (Nat.two_pow_pos e) h6
 have hpl : (i - (e : Int) - f.leastPlace).toNat = I - e:=by omega
 obtain ⟨r2,g1,g2,g3⟩:=nearest_exact f false m' (i - (e : Int)) hm' hml' (by omega) (by
  rw [hpl,hval]
  refine Nat.lt_of_le_of_lt ?_ hmK
  exact Nat.mul_le_mul_left _ (Nat.pow_le_pow_right (by decide) (by omega)))
 refine ⟨r2,?_,g2,by rw [g3,hpl,hval]⟩
 unfold Format.mul
 rw [h1,h4,hc]
 show some (f.nearest (false ^^ false) (m' * 2 ^ fb) (i + -((e + fb : Nat) : Int))) = some r2
 rw [show (false ^^ false) = false from rfl,nearest_scale f false m' fb _ hm' hml' (by omega),show i + -((e + fb : Nat) : Int) + (fb : Int) = i - (e : Int) by omega,g1]
 rfl
end Go.Proofs.YtcfcbabbgcckhaaGreatDoor

namespace Go.Proofs.YtcfcbabbgcckhaaGreatDoor
open Go.ChangeShapes Go.WideShapes Go.ChangeAt Go.RowKit Ieee
set_option maxHeartbeats 16000000
set_option maxRecDepth 100000
set_option linter.unusedVariables false
set_option linter.unusedSimpArgs false
theorem cut_zero (neg : Bool) (m k d : Nat) (hm : m ≠ 0) (hd : d ≤ k) : Toward.zero.cut neg (m * 2 ^ k) d = m * 2 ^ (k - d):=by
 have hl:=log2_scale m k hm
 unfold Toward.cut
 simp only [Nat.one_shiftLeft]
 rw [hl,Nat.min_eq_left (by omega)]
 have e : m * 2 ^ k = m * 2 ^ (k - d) * 2 ^ d:=by rw [Nat.mul_assoc,← Nat.pow_add]; congr 2; omega
 rw [e,Nat.mul_div_cancel _ (Nat.two_pow_pos d)]
 simp
/-- a whole number below 2^53,told as a float,is told as an int again -/
theorem whole_int (m q K : Nat) (hK : K = 1074) (hm : m ≠ 0) (hm2 : m < 9007199254740992) (hq : q < FloatKind.f64.format.infRung) (hv : rungVal FloatKind.f64.format q = m * 2 ^ K) : floatToIntVal .f64 q .i64 = some (m : Int):=by
 have hsw : FloatKind.f64.format.infRung < FloatKind.f64.format.signWeight:=by decide +kernel
 have hr : rung FloatKind.f64.format q = q:=by unfold rung; exact Nat.mod_eq_of_lt (by omega)
 have hb : below FloatKind.f64.format q = false:=by
  unfold below
  rw [Nat.div_eq_of_lt (by omega)]
  rfl
 obtain ⟨m',i,h1,h2,h3,h4⟩:=read_num FloatKind.f64.format q (by rw [hr]; exact hq)
 rw [hr,hv] at h3
 rw [hb] at h1
 have hl : FloatKind.f64.format.leastPlace = -(K : Int):=by rw [hK]; exact least64
 rw [hl] at h2 h3
 have hcut : Toward.zero.cut false (m' <<< i.toNat) (-i).toNat = m:=by
  by_cases hi : 0 ≤ i
  ·obtain ⟨j,hj⟩ : ∃ j : Nat,i = (j : Int):=⟨i.toNat,by omega⟩
   subst hj
   have e : m' * 2 ^ j = m:=by
    have : m' * 2 ^ j * 2 ^ K = m * 2 ^ K:=by
     rw [Nat.mul_assoc,← Nat.pow_add,← h3]
     congr 2
     omega
    exact Nat.eq_of_mul_eq_mul_right (Nat.two_pow_pos K) this
   have h0 : (-(j : Int)).toNat = 0:=by omega
   rw [h0,Int.toNat_natCast,Nat.shiftLeft_eq,e]
   have:=cut_zero false m 0 0 hm (Nat.le_refl _)
   simpa using this
  ·obtain ⟨d,hd⟩ : ∃ d : Nat,i = -(d : Int):=⟨(-i).toNat,by omega⟩
   subst hd
   have e : m' = m * 2 ^ d:=by
    have h5 : (-(d : Int) - -(K : Int)).toNat = K - d:=by omega
    rw [h5] at h3
    have : m' * 2 ^ (K - d) = m * 2 ^ d * 2 ^ (K - d):=by
     rw [h3,Nat.mul_assoc,← Nat.pow_add]
     congr 2
     omega
    exact Nat.eq_of_mul_eq_mul_right (Nat.two_pow_pos _) this
   have h0 : (-(d : Int)).toNat = 0:=by omega
   have h1' : (- -(d : Int)).toNat = d:=by omega
   rw [h0,h1',Nat.shiftLeft_zero,e,cut_zero false m d d hm (Nat.le_refl _),Nat.sub_self]
   simp
 unfold floatToIntVal
 have : (FloatKind.f64.decode q).toInt .zero = some (m : Int):=by
  show (FloatKind.f64.format.read q).toInt .zero = _
  rw [h1]
  unfold Datum.toInt Datum.integral
  simp only [hcut]
  simp [signed]
 rw [this]
 have hmin : IntKind.i64.min = -9223372036854775808:=by decide
 have hmax : IntKind.i64.max = 9223372036854775807:=by decide
 simp only [hmin,hmax]
 rw [if_pos (by omega)]
theorem part_back (m : Nat) (hm2 : m < 9007199254740992) : ∃ r q : Nat, r < 9218868437227405312 ∧ FloatKind.f64.format.mul (floatOfInt .f64 (m : Int)) 4368491638549381120 = some r ∧ FloatKind.f64.format.mul r 4845873199050653696 = some q ∧ floatToIntVal .f64 q .i64 = some (m : Int) := by
  by_cases hm : m = 0
  · subst hm
    exact ⟨0, 0, by decide, by decide +kernel, by decide +kernel, by decide +kernel⟩
  · obtain ⟨K, hK⟩ : ∃ K : Nat, K = 1074 := ⟨_, rfl⟩
    obtain ⟨fb, hfb⟩ : ∃ fb : Nat, fb = 52 := ⟨_, rfl⟩
    have hsw : FloatKind.f64.format.infRung < FloatKind.f64.format.signWeight := by decide +kernel
    have hinf : 2 ^ (K + (fb + 1)) ≤ rungVal FloatKind.f64.format FloatKind.f64.format.infRung := by rw [rungVal_inf64]; exact Nat.pow_le_pow_right (by decide) (by rw [hK, hfb]; decide)
    obtain ⟨r, g1, g2, g3⟩ := frac_word FloatKind.f64.format m 4368491638549381120 (fb + 1) fb K (by rw [hfb]; decide +kernel) (by rw [hK]; exact least64) hm (by rw [hfb]; exact hm2) rfl (by omega) (by rw [hfb]; decide +kernel) hinf hsw
    have e0 : floatOfInt .f64 (m : Int) = FloatKind.f64.format.nearest false m 0 := by
      have : decide ((m : Int) < 0) = false := decide_eq_false (by omega)
      show FloatKind.f64.format.nearest (decide ((m : Int) < 0)) (m : Int).natAbs 0 = _
      rw [this, Int.natAbs_natCast]
    have hr : rung FloatKind.f64.format r = r := by unfold rung; exact Nat.mod_eq_of_lt (by omega)
    have hb : below FloatKind.f64.format r = false := by
      unfold below
      rw [Nat.div_eq_of_lt (by omega)]
      rfl
    obtain ⟨m', i, h1, h2, h3, h4⟩ := read_num FloatKind.f64.format r (by rw [hr]; exact g2)
    rw [hr, g3] at h3
    rw [hb] at h1
    have hl : FloatKind.f64.format.leastPlace = -(K : Int) := by rw [hK]; exact least64
    rw [hl] at h2 h3
    have hm' : m' ≠ 0 := by
      intro h0
      rw [h0, Nat.zero_mul] at h3
      exact absurd h3.symm (Nat.ne_of_gt (Nat.mul_pos (Nat.pos_of_ne_zero hm) (Nat.two_pow_pos _)))
    have hbin : FloatKind.f64.format.binade = 2 ^ fb := by rw [hfb]; decide +kernel
    have hfr : FloatKind.f64.format.fractionBits = fb := by rw [hfb]; decide +kernel
    have hml' : m'.log2 ≤ FloatKind.f64.format.fractionBits := by rw [hfr]; exact log2_lt m' fb hm' (by rw [Nat.pow_succ, Nat.mul_comm, ← hbin]; exact h4)
    have hval : m' * 2 ^ (i + ((fb + 1 : Nat) : Int) - FloatKind.f64.format.leastPlace).toNat = m * 2 ^ K := by
      have e1 : (i + ((fb + 1 : Nat) : Int) - FloatKind.f64.format.leastPlace).toNat = (i - -(K : Int)).toNat + (fb + 1) := by rw [hl]; omega
      rw [e1, Nat.pow_add, ← Nat.mul_assoc, h3, Nat.mul_assoc, ← Nat.pow_add]
      congr 2
      omega
    have hmK : m * 2 ^ K < rungVal FloatKind.f64.format FloatKind.f64.format.infRung := by
      refine Nat.lt_of_lt_of_le ?_ hinf
      rw [Nat.add_comm, Nat.pow_add]
      exact Nat.mul_lt_mul_of_pos_right (by rw [hfb]; exact hm2) (Nat.two_pow_pos _)
    obtain ⟨q, k1, k2, k3⟩ := nearest_exact FloatKind.f64.format false m' (i + ((fb + 1 : Nat) : Int)) hm' hml' (by rw [hl]; omega) (by rw [hval]; exact hmK)
    rw [hval] at k3
    have hw : FloatKind.f64.format.word false q = q := by unfold Format.word; simp
    rw [hw] at k1
    refine ⟨r, q, by have : FloatKind.f64.format.infRung = 9218868437227405312 := by decide +kernel
                     omega, by rw [e0]; exact g1, ?_, whole_int m q K hK hm hm2 k2 k3⟩
    have hc : FloatKind.f64.format.read 4845873199050653696 = .number false (2 ^ fb) 1 := by rw [hfb]; decide +kernel
    unfold Format.mul
    rw [h1, hc]
    show some (FloatKind.f64.format.nearest (false ^^ false) (m' * 2 ^ fb) (i + 1)) = some q
    rw [show (false ^^ false) = false from rfl, nearest_scale FloatKind.f64.format false m' fb _ hm' hml' (by rw [hl]; omega), show i + 1 + (fb : Int) = i + ((fb + 1 : Nat) : Int) by omega, k1]
end Go.Proofs.YtcfcbabbgcckhaaGreatDoor

namespace Go.Proofs.YtcfcbabbgcckhaaGreatDoor
open Go.ChangeShapes Go.WideShapes Go.ChangeAt Go.RowKit Ieee
set_option maxHeartbeats 16000000
set_option maxRecDepth 100000
set_option linter.unusedVariables false
set_option linter.unusedSimpArgs false
theorem ofr_64 (r : Nat) (h : r < 9218868437227405312) : of64 r = (r : Int):=by
 have h2 : rung FloatKind.f64.format r = r:=by unfold rung; rw [sw64]; exact Nat.mod_eq_of_lt (by omega)
 unfold of64
 rw [self_64,h2,inf64,decide_eq_false (by omega),if_neg (by decide)]
 unfold wrap64
 omega
theorem ofr_32 (r : Nat) (h : r < 2139095040) : of32 r = (r : Int):=by
 have h2 : rung FloatKind.f32.format r = r:=by unfold rung; rw [sw32]; exact Nat.mod_eq_of_lt (by omega)
 unfold of32
 rw [self_32,h2,inf32,decide_eq_false (by omega),if_neg (by decide)]
 unfold wrap64
 omega
end Go.Proofs.YtcfcbabbgcckhaaGreatDoor

namespace Go.Proofs.YtcfcbabbgcckhaaGreatDoor
set_option maxHeartbeats 16000000
set_option maxRecDepth 100000
set_option linter.unusedVariables false
def xsh (s z : Nat) : Nat:=z ^^^ z / 2 ^ s
def mixn (z : Nat) : Nat:=xsh 31 (xsh 27 (xsh 30 z * 13787848793156543929 % 18446744073709551616) * 10723151780598845931 % 18446744073709551616)
theorem xsh_lt (s z : Nat) (h : z < 18446744073709551616) : xsh s z < 18446744073709551616:=by
 have : z / 2 ^ s < 2 ^ 64:=Nat.lt_of_le_of_lt (Nat.div_le_self _ _) (by simpa using h)
 have:=Nat.xor_lt_two_pow (n:=64) (x:=z) (y:=z / 2 ^ s) (by simpa using h) this
 simpa [xsh] using this
theorem mixn_lt (z : Nat) : mixn z < 18446744073709551616:=xsh_lt _ _ (Nat.mod_lt _ (by decide))
/-- An int's word. -/
def un (x : Int) : Nat:=(x % 18446744073709551616).toNat
theorem un_lt (x : Int) : un x < 18446744073709551616:=by unfold un; omega
theorem un_cast (x : Int) : (un x : Int) = x % 18446744073709551616:=by unfold un; omega
def keyn (s t : Int) : Nat:=mixn (un s ^^^ mixn ((un t + 7146057691288625177) % 18446744073709551616))
def wn (s t a : Int) : Nat:=mixn ((keyn s t + (un a + 1) % 18446744073709551616 * 11400714819323198485 % 18446744073709551616) % 18446744073709551616)
theorem wn_lt (s t a : Int) : wn s t a < 18446744073709551616:=mixn_lt _
theorem xor_lt64 {a b : Nat} (ha : a < 18446744073709551616) (hb : b < 18446744073709551616) : a ^^^ b < 18446744073709551616:=by
 have:=Nat.xor_lt_two_pow (n:=64) (x:=a) (y:=b) (by simpa using ha) (by simpa using hb)
 simpa using this
theorem least (P : Nat → Prop) (n : Nat) (h : P n) : ∃ j,(∀ i,i < j → ¬ P i) ∧ P j:=by
 induction n using Nat.strongRecOn with
 | ind n ih =>
  by_cases hx : ∃ i,i < n ∧ P i
  ·obtain ⟨i,hi,hP⟩:=hx; exact ih i hi hP
  ·exact ⟨n,fun i hi hp => hx ⟨i,hi,hp⟩,h⟩
end Go.Proofs.YtcfcbabbgcckhaaGreatDoor
