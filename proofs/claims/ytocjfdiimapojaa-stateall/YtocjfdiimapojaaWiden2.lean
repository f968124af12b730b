/- Floats and their patterns: the walks of Float,Float32,Of,Of32,and of a sum that is a number. How the patterns of floats lie in order: a format's order of words is the order of their keys,the rung with the sign. No Go in sight. Patterns as floats: the key of a pattern,which patterns are no numbers,that a pattern comes back. The walk of widened of package bits: a pattern's value as a binary64. The walks of widened,Less,Same of package bits. The arithmetic of rounding: the floats as rungs,what is kept of a number and what is cut off; patterns by their keys. -/
import Derived.Test.YtocjfdiimapojaaNA
import Derived.Laws.FloatArith
import Derived.Laws.Externs
import Ieee.Arith
namespace Go.Proofs.Ytocjfdiimapojaa
open Go.ChangeShapes Go.WideShapes Go.ChangeAt Go.RowKit
set_option maxHeartbeats 16000000
set_option maxRecDepth 100000
theorem call_frombits64 (x : Int) (w : World) : (callFunc 81 #[.int .u64 x]).run Try.prog w = .ok (.value (.float .f64 x.toNat)) w:=by
 rw [run_callFunc_extern (fn:=Try.f81) (e:=Extern.MathFloatBits.float64frombits) (by kernel_rfl) (by kernel_rfl) (by kernel_rfl) (by kernel_rfl) (by kernel_rfl)]
 rfl
theorem call_bits64 (x : Nat) (w : World) : (callFunc 83 #[.float .f64 x]).run Try.prog w = .ok (.value (.int .u64 x)) w:=by
 rw [run_callFunc_extern (fn:=Try.f83) (e:=Extern.MathFloatBits.float64bits) (by kernel_rfl) (by kernel_rfl) (by kernel_rfl) (by kernel_rfl) (by kernel_rfl)]
 rfl
theorem call_frombits32 (x : Int) (w : World) : (callFunc 82 #[.int .u32 x]).run Try.prog w = .ok (.value (.float .f32 x.toNat)) w:=by
 rw [run_callFunc_extern (fn:=Try.f82) (e:=Extern.MathFloatBits.float32frombits) (by kernel_rfl) (by kernel_rfl) (by kernel_rfl) (by kernel_rfl) (by kernel_rfl)]
 rfl
def pat64 (b : Int) : Nat:=(IntKind.u64.wrap b).toNat
def pat32 (b : Int) : Nat:=if val b 32 = true then (b % 4294967296).toNat else 2143289345
theorem ret_float {k : FloatKind} {a b : Nat} (h : a = b) : Ending.returned (.float k a) = .returned (.float k b):=by rw [h]
theorem float_any (b : Int) (w : World) : Calls Try.prog 70 #[.int .i64 b] w fun e w' => e = .returned (.float .f64 (pat64 b)) ∧ w = w':=by
 have h1:=call_frombits64
 go_enter Try.func70,Try.ntmps70
 go_wp2
 go_ret
 exact ⟨rfl,rfl⟩
theorem float32_any (b : Int) (w : World) : Calls Try.prog 71 #[.int .i64 b] w fun e w' => e = .returned (.float .f32 (pat32 b)) ∧ w = w':=by
 have h1:=call_frombits32
 go_enter Try.func71,Try.ntmps71
 go_wp2_with (go_at_call 69; refine (valid_any _ _ _).mono ?_; rintro e w2 ⟨rfl,rfl⟩)
 ·go_ret
  exact ⟨ret_float (by unfold pat32; rw [if_neg (by simp_all)]),rfl⟩
 ·go_ret
  exact ⟨ret_float (by unfold pat32; rw [if_pos (by simp_all)]),rfl⟩
end Go.Proofs.Ytocjfdiimapojaa
namespace Go.Proofs.Ytocjfdiimapojaa
set_option maxHeartbeats 16000000
set_option maxRecDepth 100000
open Ieee
theorem binade_pos (f : Format) : 0 < f.binade:=Nat.two_pow_pos _
/-- The magnitude of a rung,in units of the least place. -/
def rungVal (f : Format) (r : Nat) : Nat:=if r < f.binade then r else (f.binade + r % f.binade) * 2 ^ (r / f.binade - 1)
theorem rungVal_succ (f : Format) (r : Nat) : rungVal f r < rungVal f (r + 1):=by
 have hb:=binade_pos f
 unfold rungVal
 by_cases h : r < f.binade
 ·rw [if_pos h]
  by_cases h1 : r + 1 < f.binade
  ·rw [if_pos h1]; omega
  ·have e : r + 1 = f.binade:=by omega
   rw [if_neg h1,e,Nat.mod_self,Nat.div_self hb]
   simp
   omega
 ·have h1 : ¬ r + 1 < f.binade:=by omega
  rw [if_neg h,if_neg h1]
  have hd:=Nat.div_add_mod r f.binade
  have hm:=Nat.mod_lt r hb
  have hq : 1 ≤ r / f.binade:=(Nat.le_div_iff_mul_le hb).2 (by omega)
  by_cases hc : r % f.binade + 1 < f.binade
  ·have e1 : (r + 1) / f.binade = r / f.binade:=by
    rw [Nat.div_eq_iff hb]
    have : f.binade * (r / f.binade) = r / f.binade * f.binade:=Nat.mul_comm _ _
    constructor <;> omega
   have e2 : (r + 1) % f.binade = r % f.binade + 1:=by
    rw [Nat.add_mod,Nat.mod_eq_of_lt (show 1 < f.binade by omega),Nat.mod_eq_of_lt hc]
   rw [e1,e2]
   exact Nat.mul_lt_mul_of_pos_right (by omega) (Nat.two_pow_pos _)
  ·have e3 : r + 1 = f.binade * (r / f.binade + 1):=by rw [Nat.mul_add]; omega
   rw [e3,Nat.mul_mod_right,Nat.mul_div_cancel_left _ hb]
   obtain ⟨q,hq'⟩ : ∃ q,r / f.binade = q + 1:=⟨r / f.binade - 1,by omega⟩
   rw [hq']
   simp only [Nat.add_sub_cancel,Nat.add_zero]
   have : 2 ^ (q + 1) = 2 * 2 ^ q:=by rw [Nat.pow_succ,Nat.mul_comm]
   rw [this,← Nat.mul_assoc]
   exact Nat.mul_lt_mul_of_pos_right (by omega) (Nat.two_pow_pos _)
theorem rungVal_lt (f : Format) {r s : Nat} (h : r < s) : rungVal f r < rungVal f s:=by
 induction s with
 | zero => omega
 | succ s ih =>
  by_cases hs : r = s
  ·subst hs; exact rungVal_succ f r
  ·exact Nat.lt_trans (ih (by omega)) (rungVal_succ f s)
theorem rungVal_le (f : Format) {r s : Nat} : rungVal f r < rungVal f s ↔ r < s:=by
 constructor
 ·intro h
  rcases Nat.lt_trichotomy r s with h1 | h1 | h1
  ·exact h1
  ·subst h1; omega
  ·have:=rungVal_lt f h1; omega
 ·exact rungVal_lt f
def rung (f : Format) (x : Nat) : Nat:=x % f.signWeight
def below (f : Format) (x : Nat) : Bool:=x / f.signWeight % 2 == 1
/-- The rung with the sign: the place of a word among all numbers (both zeros at 0). -/
def key (f : Format) (x : Nat) : Int:=if below f x = true then -(rung f x : Int) else (rung f x : Int)
theorem read_nan (f : Format) (x : Nat) (h : f.infRung < rung f x) (hb : f.binade ≤ f.infRung) : ∃ s t,f.read x = .nan s t:=by
 unfold rung at h
 refine ⟨x / f.signWeight % 2 == 1,x % f.signWeight - f.infRung,?_⟩
 unfold Format.read
 simp only
 rw [if_neg (by omega),if_neg (by omega),if_neg (by omega)]
theorem read_inf (f : Format) (x : Nat) (h : rung f x = f.infRung) (hb : f.binade ≤ f.infRung) : f.read x = .infinity (below f x):=by
 unfold rung at h
 unfold Format.read below
 simp only
 rw [if_neg (by omega),if_neg (by omega),if_pos h]
theorem read_num (f : Format) (x : Nat) (h : rung f x < f.infRung) : ∃ m i,f.read x = .number (below f x) m i ∧ f.leastPlace ≤ i ∧ m * 2 ^ (i - f.leastPlace).toNat = rungVal f (rung f x) ∧ m < 2 * f.binade:=by
 unfold rung at h
 unfold Format.read below rung rungVal
 simp only
 by_cases h1 : x % f.signWeight < f.binade
 ·rw [if_pos h1,if_pos h1]
  exact ⟨_,_,rfl,Int.le_refl _,by simp,by omega⟩
 ·rw [if_neg h1,if_neg h1,if_pos h]
  have:=Nat.mod_lt (x % f.signWeight) (binade_pos f)
  refine ⟨_,_,rfl,by omega,?_,by omega⟩
  congr 2
  omega
def sv (s : Bool) (v : Nat) : Int:=if s = true then -(v : Int) else (v : Int)
theorem signed_sv (s : Bool) (m u : Nat) : signed s m u = sv s (m * 2 ^ u):=by
 unfold signed sv
 rw [Nat.shiftLeft_eq]
theorem sv_mul (s : Bool) (v K : Nat) : sv s v * ((2 ^ K : Nat) : Int) = sv s (v * 2 ^ K):=by
 unfold sv
 cases s <;> simp [Int.natCast_mul,Int.neg_mul]
theorem compare_congr {a b c d : Int} (h1 : a < b ↔ c < d) (h2 : a = b ↔ c = d) : compare a b = compare c d:=by
 show compareOfLessAndEq a b = compareOfLessAndEq c d
 unfold compareOfLessAndEq
 by_cases h : a < b
 ·rw [if_pos h,if_pos (h1.1 h)]
 ·rw [if_neg h,if_neg (fun g => h (h1.2 g))]
  by_cases e : a = b
  ·rw [if_pos e,if_pos (h2.1 e)]
  ·rw [if_neg e,if_neg (fun g => e (h2.2 g))]
theorem rungVal_zero (f : Format) : rungVal f 0 = 0:=by
 unfold rungVal
 rw [if_pos (binade_pos f)]
theorem sv_lt (f : Format) (s t : Bool) (r q : Nat) : sv s (rungVal f r) < sv t (rungVal f q) ↔ sv s r < sv t q:=by
 have z:=rungVal_zero f
 have h1:=rungVal_le f (r:=r) (s:=q)
 have h2:=rungVal_le f (r:=q) (s:=r)
 have h3:=rungVal_le f (r:=0) (s:=r)
 have h4:=rungVal_le f (r:=0) (s:=q)
 rw [z] at h3 h4
 unfold sv
 cases s <;> cases t <;> simp <;> omega
theorem sv_eq (f : Format) (s t : Bool) (r q : Nat) : sv s (rungVal f r) = sv t (rungVal f q) ↔ sv s r = sv t q:=by
 have h1:=sv_lt f s t r q
 have h2:=sv_lt f t s q r
 omega
theorem key_sv (f : Format) (x : Nat) : key f x = sv (below f x) (rung f x):=rfl
theorem cmp_lt {a b : Int} (h : a < b) : some Ordering.lt = some (compare a b):=by
 simp only [compare,compareOfLessAndEq]
 rw [if_pos h]
theorem cmp_eq {a b : Int} (h : a = b) : some Ordering.eq = some (compare a b):=by
 simp only [compare,compareOfLessAndEq]
 rw [if_neg (by omega),if_pos h]
theorem cmp_gt {a b : Int} (h : b < a) : some Ordering.gt = some (compare a b):=by
 simp only [compare,compareOfLessAndEq]
 rw [if_neg (by omega),if_neg (by omega)]
theorem sv_f (v : Nat) : sv false v = (v : Int):=rfl
theorem sv_t (v : Nat) : sv true v = -(v : Int):=rfl
theorem order_num (f : Format) (x y : Nat) (hb : f.binade ≤ f.infRung) (hx : rung f x ≤ f.infRung) (hy : rung f y ≤ f.infRung) : f.order x y = some (compare (key f x) (key f y)):=by
 unfold Format.order
 have hp : 0 < f.infRung:=Nat.lt_of_lt_of_le (binade_pos f) hb
 by_cases h1 : rung f x = f.infRung
 ·by_cases h2 : rung f y = f.infRung
  ·rw [read_inf f x h1 hb,read_inf f y h2 hb,key_sv,key_sv,h1,h2]
   generalize below f x = s
   generalize below f y = t
   cases s <;> cases t <;> simp only [sv_f,sv_t]
   ·exact cmp_eq rfl
   ·exact cmp_gt (by omega)
   ·exact cmp_lt (by omega)
   ·exact cmp_eq rfl
  ·obtain ⟨n,j,ey,-,-,-⟩:=read_num f y (by omega)
   rw [read_inf f x h1 hb,ey,key_sv,key_sv,h1]
   generalize below f x = s
   generalize below f y = t
   cases s <;> cases t <;> simp only [sv_f,sv_t]
   ·exact cmp_gt (by omega)
   ·exact cmp_gt (by omega)
   ·exact cmp_lt (by omega)
   ·exact cmp_lt (by omega)
 ·obtain ⟨m,i,ex,hi,vm,-⟩:=read_num f x (by omega)
  by_cases h2 : rung f y = f.infRung
  ·rw [ex,read_inf f y h2 hb,key_sv,key_sv,h2]
   generalize below f x = s
   generalize below f y = t
   cases s <;> cases t <;> simp only [sv_f,sv_t]
   ·exact cmp_lt (by omega)
   ·exact cmp_gt (by omega)
   ·exact cmp_lt (by omega)
   ·exact cmp_gt (by omega)
  ·obtain ⟨n,j,ey,hj,vn,-⟩:=read_num f y (by omega)
   rw [ex,ey]
   unfold Datum.order
   simp only
   congr 1
   obtain ⟨K,hK⟩ : ∃ K,K = (min i j - f.leastPlace).toNat:=⟨_,rfl⟩
   have a1 : (i - min i j).toNat + K = (i - f.leastPlace).toNat:=by omega
   have a2 : (j - min i j).toNat + K = (j - f.leastPlace).toNat:=by omega
   have e1 : signed (below f x) m (i - min i j).toNat * ((2 ^ K : Nat) : Int) = sv (below f x) (rungVal f (rung f x)):=by
    rw [signed_sv,sv_mul,Nat.mul_assoc,← Nat.pow_add,a1,vm]
   have e2 : signed (below f y) n (j - min i j).toNat * ((2 ^ K : Nat) : Int) = sv (below f y) (rungVal f (rung f y)):=by
    rw [signed_sv,sv_mul,Nat.mul_assoc,← Nat.pow_add,a2,vn]
   have hK0 : (0 : Int) < ((2 ^ K : Nat) : Int):=by exact_mod_cast Nat.two_pow_pos K
   refine compare_congr ?_ ?_
   ·rw [key_sv,key_sv,← sv_lt f,← e1,← e2]
    exact (Int.mul_lt_mul_right hK0).symm
   ·rw [key_sv,key_sv,← sv_eq f,← e1,← e2]
    exact (Int.mul_eq_mul_right_iff (by omega)).symm
theorem order_nan_left (f : Format) (x y : Nat) (hb : f.binade ≤ f.infRung) (hx : f.infRung < rung f x) : f.order x y = none:=by
 obtain ⟨s,t,e⟩:=read_nan f x hx hb
 unfold Format.order
 rw [e]
 rfl
theorem cut_none (neg : Bool) (n : Nat) : Toward.even.cut neg n 0 = n:=by
 unfold Toward.cut
 simp [Nat.mod_one]
/-- A number whose digits a format has room for,and that is not too great for it,is written without rounding. -/
theorem nearest_exact (f : Format) (s : Bool) (m : Nat) (p : Int) (hm : m ≠ 0) (hl : m.log2 ≤ f.fractionBits) (hp : f.leastPlace ≤ p) (hV : m * 2 ^ (p - f.leastPlace).toNat < rungVal f f.infRung) :
  ∃ r,f.nearest s m p = f.word s r ∧ r < f.infRung ∧ rungVal f r = m * 2 ^ (p - f.leastPlace).toNat:=by
 have hb:=binade_pos f
 have l1 : 2 ^ m.log2 ≤ m:=Nat.log2_self_le hm
 have l2 : m < 2 ^ (m.log2 + 1):=Nat.lt_log2_self
 obtain ⟨last,hlast⟩ : ∃ last,last = max (p + (m.log2 : Int) - (f.fractionBits : Int)) f.leastPlace:=⟨_,rfl⟩
 have hle : last ≤ p:=by omega
 have hd : (last - p).toNat = 0:=by omega
 have hn : f.nearest s m p = f.word s (min ((last - f.leastPlace).toNat * f.binade + m * 2 ^ (p - last).toNat) f.infRung):=by
  unfold Format.nearest
  rw [if_neg hm]
  simp only
  rw [← hlast,hd,cut_none,Nat.shiftLeft_eq]
 suffices hr : rungVal f ((last - f.leastPlace).toNat * f.binade + m * 2 ^ (p - last).toNat) = m * 2 ^ (p - f.leastPlace).toNat by
  have hlt : (last - f.leastPlace).toNat * f.binade + m * 2 ^ (p - last).toNat < f.infRung:=by
   rw [← rungVal_le f,hr]; exact hV
  exact ⟨_,by rw [hn,Nat.min_eq_left (Nat.le_of_lt hlt)],hlt,hr⟩
 by_cases hc : f.leastPlace ≤ p + (m.log2 : Int) - (f.fractionBits : Int)
 ·have e1 : (p - last).toNat = f.fractionBits - m.log2:=by omega
  obtain ⟨L,hL⟩ : ∃ L,L = (last - f.leastPlace).toNat:=⟨_,rfl⟩
  have e2 : (p - f.leastPlace).toNat = f.fractionBits - m.log2 + L:=by omega
  rw [e1,e2,← hL]
  obtain ⟨n,hn'⟩ : ∃ n,n = m * 2 ^ (f.fractionBits - m.log2):=⟨_,rfl⟩
  have n1 : f.binade ≤ n:=by
   rw [hn']; unfold Format.binade
   calc 2 ^ f.fractionBits = 2 ^ m.log2 * 2 ^ (f.fractionBits - m.log2):=by rw [← Nat.pow_add]; congr 1; omega
    _ ≤ _:=Nat.mul_le_mul_right _ l1
  have n2 : n < 2 * f.binade:=by
   rw [hn']; unfold Format.binade
   calc m * 2 ^ (f.fractionBits - m.log2) < 2 ^ (m.log2 + 1) * 2 ^ (f.fractionBits - m.log2):=Nat.mul_lt_mul_of_pos_right l2 (Nat.two_pow_pos _)
    _ = 2 * 2 ^ f.fractionBits:=by rw [← Nat.pow_add,← Nat.pow_succ']; congr 1; omega
  rw [Nat.pow_add,← Nat.mul_assoc,← hn']
  obtain ⟨g,rfl⟩ : ∃ g,n = f.binade + g:=⟨n - f.binade,by omega⟩
  have hg : g < f.binade:=by omega
  have e3 : L * f.binade + (f.binade + g) = f.binade * (L + 1) + g:=by rw [Nat.mul_add,Nat.mul_comm L]; omega
  have hge : f.binade * (L + 1) = L * f.binade + f.binade:=by rw [Nat.mul_add,Nat.mul_comm L,Nat.mul_one]
  unfold rungVal
  rw [e3,if_neg (by omega),Nat.mul_add_mod,Nat.mod_eq_of_lt hg,Nat.mul_add_div hb,Nat.div_eq_of_lt hg]
  congr 2
 ·have e1 : last = f.leastPlace:=by omega
  have e2 : m * 2 ^ (p - f.leastPlace).toNat < f.binade:=by
   unfold Format.binade
   calc m * 2 ^ (p - f.leastPlace).toNat < 2 ^ (m.log2 + 1) * 2 ^ (p - f.leastPlace).toNat:=Nat.mul_lt_mul_of_pos_right l2 (Nat.two_pow_pos _)
    _ = 2 ^ (m.log2 + 1 + (p - f.leastPlace).toNat):=by rw [← Nat.pow_add]
    _ ≤ 2 ^ f.fractionBits:=Nat.pow_le_pow_right (by decide) (by omega)
  rw [e1]
  simp only [Int.sub_self,Int.toNat_zero,Nat.zero_mul,Nat.zero_add]
  unfold rungVal
  rw [if_pos e2]
theorem rung_word (f : Format) (s : Bool) (r : Nat) (h : r < f.signWeight) : rung f (f.word s r) = r:=by
 unfold rung Format.word
 cases s
 ·simp [Nat.mod_eq_of_lt h]
 ·simp [Nat.mod_eq_of_lt h]
theorem below_word (f : Format) (s : Bool) (r : Nat) (h : r < f.signWeight) : below f (f.word s r) = s:=by
 unfold below Format.word
 have hp : 0 < f.signWeight:=Nat.two_pow_pos _
 cases s
 ·simp [Nat.div_eq_of_lt h]
 ·simp [Nat.add_div_left _ hp,Nat.div_eq_of_lt h]
end Go.Proofs.Ytocjfdiimapojaa
namespace Go.Proofs.Ytocjfdiimapojaa
set_option maxHeartbeats 16000000
set_option maxRecDepth 100000
open Ieee
theorem sw64 : FloatKind.f64.format.signWeight = 9223372036854775808:=by decide +kernel
theorem inf64 : FloatKind.f64.format.infRung = 9218868437227405312:=by decide +kernel
theorem hb64 : FloatKind.f64.format.binade ≤ FloatKind.f64.format.infRung:=by decide +kernel
theorem sw32 : FloatKind.f32.format.signWeight = 2147483648:=by decide +kernel
theorem inf32 : FloatKind.f32.format.infRung = 2139095040:=by decide +kernel
theorem bin32 : FloatKind.f32.format.binade = 8388608:=by decide +kernel
theorem hb32 : FloatKind.f32.format.binade ≤ FloatKind.f32.format.infRung:=by decide +kernel
theorem pat64_eq (b : Int) : (pat64 b : Int) = b % 18446744073709551616:=by
 unfold pat64
 rw [IntKind.wrap_u64]
 omega
theorem rung_pat64 (b : Int) : (rung FloatKind.f64.format (pat64 b) : Int) = b % 9223372036854775808:=by
 have h:=pat64_eq b
 unfold rung
 rw [sw64]
 omega
theorem pat32_eq (b : Int) (hv : 0 ≤ b ∧ b < 4294967296) : (pat32 b : Int) = b:=by
 unfold pat32
 rw [if_pos (by simp [val,hv])]
 omega
theorem rung_pat32 (b : Int) (hv : 0 ≤ b ∧ b < 4294967296) : (rung FloatKind.f32.format (pat32 b) : Int) = b % 2147483648:=by
 have h:=pat32_eq b hv
 unfold rung
 rw [sw32]
 omega
end Go.Proofs.Ytocjfdiimapojaa
namespace Go.Proofs.Ytocjfdiimapojaa
open Go.ChangeShapes Go.WideShapes Go.ChangeAt Go.RowKit
set_option maxHeartbeats 16000000
set_option maxRecDepth 100000
open Ieee
/-- What the model answers where a float that is no number is converted: some float of the other kind that is none. -/
def nanAns (k : FloatKind) (b : Nat) (w : World) : Nat:=Question.cut (.nanConv k b) (w.tape w.drawn (.nanConv k b))
theorem run_convert_nan {P : Program} (w : World) (src dst : TypeId) (s k : FloatKind) (b : Nat) {sg : Bool} {t : Nat} (hs : (P.underlying src).isSome = true) (hd : P.underlying dst = some (.float k)) (ne : s ≠ k) (he : s.decode b = .nan sg t) :
  (convert src dst (.float s b)).run P w = .ok (.float k (nanAns k b w)) w.drew:=by
 obtain ⟨u,hs'⟩:=Option.isSome_iff_exists.1 hs
 cases u <;> simp [convert,run_underlying hs',run_underlying hd,Conv.floatToFloat,ne,he,nanAns,go_sem]
theorem nanAns_nan (b : Nat) (w : World) : FloatKind.f64.format.infRung < rung FloatKind.f64.format (nanAns .f64 b w):=by
 unfold nanAns Question.cut rung
 simp only
 rw [inf64,sw64]
 generalize w.tape w.drawn (.nanConv .f64 b) = t
 have h1 : t % 2 < 2:=Nat.mod_lt _ (by decide)
 have h2 : t / 2 % (2 ^ 52 - 1) < 2 ^ 52 - 1:=Nat.mod_lt _ (by decide)
 generalize t % 2 = s at *
 generalize t / 2 % (2 ^ 52 - 1) = u at *
 omega
/-- How many places lie between the least of binary64 and the least of binary32. -/
def shiftE : Nat:=925
/-- The exponents of the magnitudes of both infinities' rungs,in units of the least places. -/
def topE64 : Nat:=2098
def topE32 : Nat:=277
def wide (b : Int) : Nat:=FloatKind.f64.encode (FloatKind.f32.decode (pat32 b))
theorem rungVal_inf64 : rungVal FloatKind.f64.format FloatKind.f64.format.infRung = 2 ^ topE64:=by decide +kernel
theorem rungVal_inf32 : rungVal FloatKind.f32.format FloatKind.f32.format.infRung = 2 ^ topE32:=by decide +kernel
theorem least64 : FloatKind.f64.format.leastPlace = -1074:=by decide +kernel
theorem least32 : FloatKind.f32.format.leastPlace = -149:=by decide +kernel
theorem inf_lt64 : FloatKind.f64.format.infRung < FloatKind.f64.format.signWeight:=by decide +kernel
/-- A binary32 that is finite,as a binary64: the same value,the same sign. -/
theorem wide_num (x : Nat) (h : rung FloatKind.f32.format x < FloatKind.f32.format.infRung) :
  ∃ r,FloatKind.f64.encode (FloatKind.f32.decode x) = FloatKind.f64.format.word (below FloatKind.f32.format x) r ∧ r < FloatKind.f64.format.infRung ∧ rungVal FloatKind.f64.format r = rungVal FloatKind.f32.format (rung FloatKind.f32.format x) * 2 ^ shiftE ∧ ∃ m i,FloatKind.f32.decode x = .number (below FloatKind.f32.format x) m i:=by
 obtain ⟨m,i,e,hi,hv,hm⟩:=read_num FloatKind.f32.format x h
 have hlt:=rungVal_lt FloatKind.f32.format h
 rw [rungVal_inf32,← hv] at hlt
 rw [least32] at hi hv hlt
 rw [bin32] at hm
 have e' : FloatKind.f32.decode x = .number (below FloatKind.f32.format x) m i:=e
 rw [e']
 show ∃ r,FloatKind.f64.format.nearest (below FloatKind.f32.format x) m i = _ ∧ _
 by_cases h0 : m = 0
 ·subst h0
  refine ⟨0,by unfold Format.nearest; rw [if_pos rfl],by rw [inf64]; omega,?_,_,_,rfl⟩
  rw [rungVal_zero,← hv,Nat.zero_mul,Nat.zero_mul]
 ·have hpow : m * 2 ^ (i - -1074).toNat = m * 2 ^ (i - -149).toNat * 2 ^ shiftE:=by
   rw [Nat.mul_assoc,← Nat.pow_add]
   congr 2
   unfold shiftE
   omega
  have hlog : m.log2 ≤ 52:=by
   have : m.log2 < 53:=by
    rw [Nat.log2_lt h0]
    omega
   omega
  obtain ⟨r,h1,h2,h3⟩:=nearest_exact FloatKind.f64.format (below FloatKind.f32.format x) m i h0 hlog (by rw [least64]; omega) (by
   rw [rungVal_inf64,least64,hpow]
   calc m * 2 ^ (i - -149).toNat * 2 ^ shiftE < 2 ^ topE32 * 2 ^ shiftE:=Nat.mul_lt_mul_of_pos_right hlt (Nat.two_pow_pos _)
    _ = 2 ^ (topE32 + shiftE):=by rw [← Nat.pow_add]
    _ < 2 ^ topE64:=Nat.pow_lt_pow_right (by decide) (by decide +kernel))
  refine ⟨r,h1,h2,?_,_,_,rfl⟩
  rw [h3,least64,hpow,hv]
theorem wide_inf (x : Nat) (h : rung FloatKind.f32.format x = FloatKind.f32.format.infRung) : FloatKind.f32.decode x = .infinity (below FloatKind.f32.format x) ∧ FloatKind.f64.encode (FloatKind.f32.decode x) = FloatKind.f64.format.word (below FloatKind.f32.format x) FloatKind.f64.format.infRung:=by
 have e : FloatKind.f32.decode x = .infinity (below FloatKind.f32.format x):=read_inf FloatKind.f32.format x h hb32
 exact ⟨e,by rw [e]; rfl⟩
def W (x : Nat) : Nat:=FloatKind.f64.encode (FloatKind.f32.decode x)
theorem W_num (x : Nat) (h : rung FloatKind.f32.format x < FloatKind.f32.format.infRung) : rung FloatKind.f64.format (W x) < FloatKind.f64.format.infRung ∧ rungVal FloatKind.f64.format (rung FloatKind.f64.format (W x)) = rungVal FloatKind.f32.format (rung FloatKind.f32.format x) * 2 ^ shiftE ∧ below FloatKind.f64.format (W x) = below FloatKind.f32.format x:=by
 obtain ⟨r,e,h1,h2,-⟩:=wide_num x h
 have hs : r < FloatKind.f64.format.signWeight:=Nat.lt_trans h1 inf_lt64
 unfold W
 rw [e,rung_word _ _ _ hs,below_word _ _ _ hs]
 exact ⟨h1,h2,rfl⟩
theorem W_inf (x : Nat) (h : rung FloatKind.f32.format x = FloatKind.f32.format.infRung) : rung FloatKind.f64.format (W x) = FloatKind.f64.format.infRung ∧ below FloatKind.f64.format (W x) = below FloatKind.f32.format x:=by
 have e:=(wide_inf x h).2
 unfold W
 rw [e,rung_word _ _ _ inf_lt64,below_word _ _ _ inf_lt64]
 exact ⟨rfl,rfl⟩
end Go.Proofs.Ytocjfdiimapojaa
namespace Go.Proofs.Ytocjfdiimapojaa
open Go.ChangeShapes Go.WideShapes Go.ChangeAt Go.RowKit
set_option maxHeartbeats 16000000
set_option maxRecDepth 100000
open Ieee
theorem cmp_is_lt (a b : Int) : (some (compare a b) == some Ordering.lt) = decide (a < b):=by
 by_cases h : a < b
 ·rw [← cmp_lt h,decide_eq_true h]; rfl
 ·by_cases e : a = b
  ·rw [← cmp_eq e,decide_eq_false h]; rfl
  ·rw [← cmp_gt (by omega),decide_eq_false h]; rfl
end Go.Proofs.Ytocjfdiimapojaa
namespace Go.Proofs.Ytocjfdiimapojaa
set_option maxHeartbeats 16000000
set_option maxRecDepth 100000
set_option linter.unusedVariables false
set_option linter.unusedSimpArgs false
def rv (c r : Nat) : Nat:=if r < c then r else (c + r % c) * 2 ^ (r / c - 1)
/- against a common place s below all -/
/- what rounding asks: the place of the last bit that is kept,what is kept,the bit behind it,and whether there is more -/
structure Cutz (c D V k Q H F : Nat) (od hf rt : Bool) : Prop where
 two : Q = 2 * H
 pos : 0 < H
 kq : V / Q = k
 low : rv c F * D = k * Q
 high : rv c (F + 1) * D = (k + 1) * Q
 od : od = decide (k % 2 = 1)
 fod : F % 2 = k % 2
 hf : hf = decide (H ≤ V % Q)
 rt : rt = decide (V % Q % H ≠ 0)
/- what a cut tells,by values alone -/
theorem Cutz.rem {c D V k Q H F : Nat} {od hf rt : Bool} (h : Cutz c D V k Q H F od hf rt) : V = rv c F * D + V % Q ∧ rv c (F + 1) * D = rv c F * D + Q ∧ V % Q < Q:=by
 have h1:=Nat.div_add_mod V Q
 have h2 : V % Q < Q:=Nat.mod_lt _ (by have:=h.two; have:=h.pos; omega)
 rw [h.kq] at h1
 rw [h.low,h.high,Nat.add_mul,Nat.one_mul,Nat.mul_comm k Q]
 omega
theorem half_rest (r H : Nat) (hH : 0 < H) (h2 : r < 2 * H) : (H ≤ r ∨ r % H ≠ 0) ↔ r ≠ 0:=by
 by_cases h : r < H
 ·rw [Nat.mod_eq_of_lt h]; omega
 ·constructor
  ·intro _; omega
  ·intro _; left; omega
theorem Cutz.cut {c D V k Q H F : Nat} {od hf rt : Bool} (h : Cutz c D V k Q H F od hf rt) : (hf || rt) = decide (V ≠ rv c F * D):=by
 obtain ⟨h1,h2,h3⟩:=h.rem
 rw [h.hf,h.rt,← Bool.decide_or]
 congr 1
 apply propext
 rw [half_rest (V % Q) H h.pos (by rw [← h.two]; exact h3)]
 omega
/- a finite one's parts -/
end Go.Proofs.Ytocjfdiimapojaa
