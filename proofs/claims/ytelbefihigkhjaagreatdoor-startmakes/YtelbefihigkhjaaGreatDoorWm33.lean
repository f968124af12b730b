/-  -/
import Derived.Test.YtelbefihigkhjaaGreatDoorWm14
import Derived.Test.YtelbefihigkhjaaGreatDoorWm04
import Derived.Test.YtelbefihigkhjaaGreatDoorWm11
import Derived.Test.YtelbefihigkhjaaGreatDoorWm07
namespace Go.Proofs.YtelbefihigkhjaaGreatDoor
open Go.ChangeShapes Go.WideShapes Go.ChangeAt Go.RowKit Ieee
set_option maxHeartbeats 16000000
set_option maxRecDepth 100000
set_option linter.unusedVariables false
set_option linter.unusedSimpArgs false
theorem vF (m k:Nat)(hm:m≠0):(m*2^k).log2=m.log2+k:=by
 have hp:0<2^k:=qle k
 rw[Nat.log2_eq_iff (Nat.ne_of_gt (Nat.mul_pos (Nat.pos_of_ne_zero hm) hp))]
 have l1:2^m.log2≤m:=Nat.log2_self_le hm
 have l2:m<2^(m.log2+1):=Nat.lt_log2_self
 constructor
 ·rw[qlg];exact Nat.mul_le_mul_right _ l1
 ·rw[show m.log2+k+1=(m.log2+1)+k by omega,qlg];exact Nat.mul_lt_mul_of_pos_right l2 hp
theorem qcy (neg:Bool)(m k d:Nat)(hm:m≠0)(hd:d≤k):Toward.even.cut neg (m*2^k) d=m*2^(k-d):=by
 have hn:(m*2^k).log2=m.log2+k:=vF m k hm
 have hmin:min d ((m*2^k).log2+2)=d:=by rw[hn];omega
 have hpd:0<2^d:=qle d
 have hs:m*2^k=m*2^(k-d)*2^d:=by rw[qlk,←qlg];congr 2;omega
 unfold Toward.cut
 simp only[hmin,Nat.shiftLeft_eq,Nat.one_mul]
 rw[hs,Nat.mul_div_cancel _ hpd,Nat.mul_mod_left]
 have h1:¬2^d<2*0:=by omega
 have h2:¬2^d=2*0:=by omega
 simp[h1,h2]
theorem vo (f:Format)(s:Bool)(m k:Nat)(p:Int)(hm:m≠0)(hl:m.log2≤f.fractionBits)(hp:f.leastPlace≤p+k):f.nearest s (m*2^k) p=f.nearest s m (p+k):=by
 have hp2:0<2^k:=qle k
 have hmk:m*2^k≠0:=Nat.ne_of_gt (Nat.mul_pos (Nat.pos_of_ne_zero hm) hp2)
 unfold Format.nearest
 rw[if_neg hm,if_neg hmk]
 simp only
 rw[vF m k hm]
 obtain⟨last,hlast⟩:∃last,last=max (p+(k:Int)+(m.log2:Int)-(f.fractionBits:Int)) f.leastPlace:=⟨_,rfl⟩
 rw[show p+((m.log2+k:Nat):Int)-(f.fractionBits:Int)=p+(k:Int)+(m.log2:Int)-(f.fractionBits:Int) by omega,←hlast]
 have hle:last≤p+k:=by omega
 rw[show(last-(p+(k:Int))).toNat=0 by omega,QH]
 congr 3
 by_cases h:last≤p
 ·rw[show(last-p).toNat=0 by omega,QH,Nat.shiftLeft_eq,Nat.shiftLeft_eq,qlk,←qlg]
  congr 2;omega
 ·rw[show(p-last).toNat=0 by omega,Nat.shiftLeft_zero,qcy s m k _ hm (by omega),Nat.shiftLeft_eq]
  congr 2;omega
theorem log2_lt (m n:Nat)(hm:m≠0)(h:m<2^(n+1)):m.log2≤n:=by
 have l1:2^m.log2≤m:=Nat.log2_self_le hm
 have:2^m.log2<2^(n+1):=Nat.lt_of_le_of_lt l1 h
 have:=(Nat.pow_lt_pow_iff_right (by decide:1<2)).1 this
 omega
theorem K8 (f:Format)(m c e fb K:Nat)(hfb:f.fractionBits=fb)(hK:f.leastPlace=-(K:Int))(hm:m≠0)(hm2:m<2^e)(he:e=fb+1)(hKe:e+e≤K)
  (hc:f.read c=.number false (2^fb) (-((e+fb:Nat):Int))) (hinf:2^(K+e)≤qs f f.infRung) (hsw:f.infRung<f.signWeight):
  ∃r,f.mul (f.nearest false m 0) c=some r∧r<f.infRung∧qs f r=m*2^(K-e):=by
 have hbin:f.binade=2^fb:=by unfold Format.binade;rw[hfb]
 have hK0:(0-f.leastPlace).toNat=K:=by omega
 have hml:m.log2≤f.fractionBits:=by rw[hfb];exact log2_lt m fb hm (by rw[←he];exact hm2)
 have hmK:m*2^K<qs f f.infRung:=qlf (by rw[Nat.add_comm,qlg];exact Nat.mul_lt_mul_of_pos_right hm2 (qle _)) hinf
 obtain⟨r1,h1,h2,h3⟩:=jd f false m 0 hm hml (by omega) (by rw[hK0];exact hmK)
 rw[hK0]at h3
 have hr1:qF f (f.word false r1)=r1:=vj f false r1 (by omega)
 obtain⟨m',i,h4,h5,h6,h7⟩:=ji f (f.word false r1) (by rw[hr1];exact h2)
 rw[vP f false r1 (by omega)]at h4
 rw[hr1,h3]at h6
 obtain⟨I,hI⟩:∃I:Nat,(i-f.leastPlace).toNat=I:=⟨_,rfl⟩
 rw[hI]at h6
 have hm':m'≠0:=by
  intro h0
  rw[h0,Nat.zero_mul]at h6
  exact absurd h6.symm (Nat.ne_of_gt (Nat.mul_pos (Nat.pos_of_ne_zero hm) (qle K)))
 have h7':m'<2^e:=by rw[he,qlq,qll,←hbin];exact h7
 have hIK:K<I+e:=by
  apply (Nat.pow_lt_pow_iff_right (by decide:1<2)).1
  have a1:2^K≤m*2^K:=Nat.le_mul_of_pos_left _ (Nat.pos_of_ne_zero hm)
  have a2:m'*2^I<2^e*2^I:=Nat.mul_lt_mul_of_pos_right h7' (qle _)
  rw[Nat.add_comm I e,qlg]
  omega
 have hml':m'.log2≤f.fractionBits:=by rw[hfb];exact log2_lt m' fb hm' (by rw[←he];exact h7')
 have hiI:i=(I:Int)-K:=by omega
 have hval:m'*2^(I-e)=m*2^(K-e):=by
  have e1:m'*2^I=m'*2^(I-e)*2^e:=by rw[qlk,←qlg];congr 2;omega
  have e2:m*2^K=m*2^(K-e)*2^e:=by rw[qlk,←qlg];congr 2;omega
  rw[e1,e2]at h6
  exact Nat.eq_of_mul_eq_mul_right (qle e) h6
 have hpl:(i-(e:Int)-f.leastPlace).toNat=I-e:=by omega
 obtain⟨r2,g1,g2,g3⟩:=jd f false m' (i-(e:Int)) hm' hml' (by omega) (by
  rw[hpl,hval]
  refine Nat.lt_of_le_of_lt ?_ hmK
  exact Nat.mul_le_mul_left _ (qlh (by decide) (by omega)))
 refine⟨r2,?_,g2,by rw[g3,hpl,hval]⟩
 unfold Format.mul
 rw[h1,h4,hc]
 show some (f.nearest (false^^false) (m'*2^fb) (i+-((e+fb:Nat):Int)))=some r2
 rw[show(false^^false)=false from rfl,vo f false m' fb _ hm' hml' (by omega),show i+-((e+fb:Nat):Int)+(fb:Int)=i-(e:Int) by omega,g1]
 rfl
end Go.Proofs.YtelbefihigkhjaaGreatDoor

namespace Go.Proofs.YtelbefihigkhjaaGreatDoor
open Go.ChangeShapes Go.WideShapes Go.ChangeAt Go.RowKit
set_option maxHeartbeats 16000000
set_option maxRecDepth 100000
theorem qz (b n:Int)(hb1:-9223372036854775808≤b)(hb2:b≤9223372036854775807)(w:World):Calls Tryz.prog 91 #[.int .i64 b,.int .i64 n] w fun e w'=>e=.returned (.int .i64 (cls b n))∧Kept w w':=by
  by_cases h64:n=64
  · subst h64
    go_enter Tryz.func91,Tryz.ntmps91
    go_wp2_with (first|(go_at_call 116;refine(xD _).mono ?_;rintro e w1 ⟨rfl,hk1⟩)|(go_at_call 171;refine(Jk _ hb1 hb2 _).mono ?_;rintro e w2 ⟨rfl,hk2⟩;have hcl:=qe hk2))
    all_goals
      go_ret
      refine⟨qt ?_,(hk1.alloc _ _).trans hk2⟩
      rw[qar]
      (repeat' split)<;>omega
  · by_cases h32:n=32
    · subst h32
      go_enter Tryz.func91,Tryz.ntmps91
      go_wp2_with (first|(go_at_call 116;refine(xE _).mono ?_;rintro e w1 ⟨rfl,hk1⟩)|(go_at_call 171;refine(Jl _ _).mono ?_;rintro e w2 ⟨rfl,hk2⟩;have hcl:=qe hk2))
      all_goals
        go_ret
        refine⟨qt ?_,(hk1.alloc _ _).trans hk2⟩
        rw[qas]
        first
          | (have hf:thr b=false:=by simpa using ‹¬thr b=true›
             rw[if_pos (Or.inl hf)])
          | (have ht:thr b=true:=by assumption
             simp only[ht,Bool.true_eq_false,false_or]
             (repeat' split)<;>omega)
    · have e1:(n==32)=false:=by simpa using h32
      have e2:(n==64)=false:=by simpa using h64
      have hv:Hid (cls b n=0):=by show cls b n=0;simp[cls,h64,h32]
      clear h64 h32
      go_enter Tryz.func91,Tryz.ntmps91
      go_wp2_with (first|(go_at_call 116;refine(qgw _ e1 e2 _).mono ?_;rintro e w1 ⟨rfl,hk1⟩))
      go_ret
      exact⟨qt hv.out.symm,(hk1.alloc _ _)⟩
theorem qat (b n:Int)(hb1:-9223372036854775808≤b)(hb2:b≤9223372036854775807)(hn:n=64∨n=32)(hc:3≤cls b n)(w:World):Calls Tryz.prog 191 #[.int .i64 b,.int .i64 n] w fun e w'=>e=.returned (.tuple #[.bool false,.int .i64 0,.int .i64 0,.bool false])∧Kept w w':=by
 rcases hn with rfl|rfl
 ·go_enter Tryz.func191,Tryz.ntmps191
  go_wp2_with (first|(go_at_call 116;refine(xD _).mono ?_;rintro e w1 ⟨rfl,hk1⟩)|(go_at_call 91;refine(qz _ _ hb1 hb2 _).mono ?_;rintro e w2 ⟨rfl,hk2⟩))
  exact qlu (v:=.tuple #[.bool false,.int .i64 0,.int .i64 0,.bool false]) (by simp[results,Tryz.results191,go_sem]) rfl ⟨rfl,(hk1.alloc _ _).trans hk2⟩
 ·go_enter Tryz.func191,Tryz.ntmps191
  go_wp2_with (first|(go_at_call 116;refine(xE _).mono ?_;rintro e w1 ⟨rfl,hk1⟩)|(go_at_call 91;refine(qz _ _ hb1 hb2 _).mono ?_;rintro e w2 ⟨rfl,hk2⟩))
  exact qlu (v:=.tuple #[.bool false,.int .i64 0,.int .i64 0,.bool false]) (by simp[results,Tryz.results191,go_sem]) rfl ⟨rfl,(hk1.alloc _ _).trans hk2⟩
theorem Xt (b n:Int)(h1:(n==32)=false)(h2:(n==64)=false)(w:World):Calls Tryz.prog 191 #[.int .i64 b,.int .i64 n] w fun e w'=>e=.returned (.tuple #[.bool false,.int .i64 0,.int .i64 0,.bool false])∧Kept w w':=by
 go_enter Tryz.func191,Tryz.ntmps191
 go_wp2_with (first|(go_at_call 116;refine(qgw _ h1 h2 _).mono ?_;rintro e w1 ⟨rfl,hk1⟩))
 exact qlu (v:=.tuple #[.bool false,.int .i64 0,.int .i64 0,.bool false]) (by simp[results,Tryz.results191,go_sem]) rfl ⟨rfl,(hk1.alloc _ _)⟩
theorem QR (b:Int)(hb1:-9223372036854775808≤b)(hb2:b≤9223372036854775807)(hc:cls b 64<3)(hl:(zS b==0)=true)(w:World):Calls Tryz.prog 191 #[.int .i64 b,.int .i64 64] w fun e w'=>e=.returned (.tuple #[.bool (sgn b 64),.int .i64 (jm b),.int .i64 (-1074),.bool true])∧Kept w w':=by
 go_enter Tryz.func191,Tryz.ntmps191
 go_wp2_with (first|(go_at_call 116;refine(xD _).mono ?_;rintro e w1 ⟨rfl,hk1⟩)|(go_at_call 91;refine(qz _ _ hb1 hb2 _).mono ?_;rintro e w2 ⟨rfl,hk2⟩;have hcl:=qe hk2)|(go_at_call 171;refine(Jk _ hb1 hb2 _).mono ?_;rintro e w3 ⟨rfl,hk3⟩;have hcl3:=qe (hk2.trans hk3)))
 go_quiet (fail)
 go_wp2
 exact qlu (v:=.tuple #[.bool (sgn b 64),.int .i64 (jm b),.int .i64 (-1074),.bool true]) (by simp[results,Tryz.results191,go_sem]) rfl ⟨rfl,(((hk1.alloc _ _).trans hk2).trans hk3).drewN _⟩
theorem QS (b:Int)(hb1:-9223372036854775808≤b)(hb2:b≤9223372036854775807)(hf1:0≤zS b)(hf2:zS b≤4096)(ht1:0≤jm b)(ht2:jm b≤4503599627370496)(hc:cls b 64<3)(hl:(zS b==0)=false)(w:World):Calls Tryz.prog 191 #[.int .i64 b,.int .i64 64] w fun e w'=>e=.returned (.tuple #[.bool (sgn b 64),.int .i64 (4503599627370496+jm b),.int .i64 (zS b+-1074-1),.bool true])∧Kept w w':=by
 go_enter Tryz.func191,Tryz.ntmps191
 go_wp2_with (first|(go_at_call 116;refine(xD _).mono ?_;rintro e w1 ⟨rfl,hk1⟩)|(go_at_call 91;refine(qz _ _ hb1 hb2 _).mono ?_;rintro e w2 ⟨rfl,hk2⟩;have hcl:=qe hk2)|(go_at_call 171;refine(Jk _ hb1 hb2 _).mono ?_;rintro e w3 ⟨rfl,hk3⟩;have hcl3:=qe (hk2.trans hk3)))
 go_quiet (fail)
 go_wp2
 exact qlu (v:=.tuple #[.bool (sgn b 64),.int .i64 (4503599627370496+jm b),.int .i64 (zS b+-1074-1),.bool true]) (by simp[results,Tryz.results191,go_sem]) rfl ⟨rfl,(((hk1.alloc _ _).trans hk2).trans hk3).drewN _⟩
theorem QT (b:Int)(hb1:-9223372036854775808≤b)(hb2:b≤9223372036854775807)(hc:cls b 32<3)(hl:(jg b==0)=true)(w:World):Calls Tryz.prog 191 #[.int .i64 b,.int .i64 32] w fun e w'=>e=.returned (.tuple #[.bool (jo b),.int .i64 (jy b),.int .i64 (-149),.bool true])∧Kept w w':=by
 go_enter Tryz.func191,Tryz.ntmps191
 go_wp2_with (first|(go_at_call 116;refine(xE _).mono ?_;rintro e w1 ⟨rfl,hk1⟩)|(go_at_call 91;refine(qz _ _ hb1 hb2 _).mono ?_;rintro e w2 ⟨rfl,hk2⟩;have hcl:=qe hk2)|(go_at_call 171;refine(Jl _ _).mono ?_;rintro e w3 ⟨rfl,hk3⟩;have hcl3:=qe (hk2.trans hk3)))
 go_quiet (fail)
 go_wp2
 exact qlu (v:=.tuple #[.bool (jo b),.int .i64 (jy b),.int .i64 (-149),.bool true]) (by simp[results,Tryz.results191,go_sem]) rfl ⟨rfl,(((hk1.alloc _ _).trans hk2).trans hk3).drewN _⟩
theorem QU (b:Int)(hb1:-9223372036854775808≤b)(hb2:b≤9223372036854775807)(hf1:0≤jg b)(hf2:jg b≤4096)(ht1:0≤jy b)(ht2:jy b≤8388608)(hc:cls b 32<3)(hl:(jg b==0)=false)(w:World):Calls Tryz.prog 191 #[.int .i64 b,.int .i64 32] w fun e w'=>e=.returned (.tuple #[.bool (jo b),.int .i64 (8388608+jy b),.int .i64 (jg b+-149-1),.bool true])∧Kept w w':=by
 go_enter Tryz.func191,Tryz.ntmps191
 go_wp2_with (first|(go_at_call 116;refine(xE _).mono ?_;rintro e w1 ⟨rfl,hk1⟩)|(go_at_call 91;refine(qz _ _ hb1 hb2 _).mono ?_;rintro e w2 ⟨rfl,hk2⟩;have hcl:=qe hk2)|(go_at_call 171;refine(Jl _ _).mono ?_;rintro e w3 ⟨rfl,hk3⟩;have hcl3:=qe (hk2.trans hk3)))
 go_quiet (fail)
 go_wp2
 exact qlu (v:=.tuple #[.bool (jo b),.int .i64 (8388608+jy b),.int .i64 (jg b+-149-1),.bool true]) (by simp[results,Tryz.results191,go_sem]) rfl ⟨rfl,(((hk1.alloc _ _).trans hk2).trans hk3).drewN _⟩
theorem VS (b n:Int)(hb1:-9223372036854775808≤b)(hb2:b≤9223372036854775807)(w:World):Calls Tryz.prog 191 #[.int .i64 b,.int .i64 n] w fun e w'=>e=.returned (.tuple #[.bool (qT b n),.int .i64 (qx b n),.int .i64 (qE b n),.bool (fin b n)])∧Kept w w':=by
 by_cases hn:n=64∨n=32
 ·by_cases hc:cls b n<3
  ·have hf:fin b n=true:=by simp[fin,hn,hc]
   rcases hn with rfl|rfl
   ·by_cases hl:zS b=0
    ·have hl':b%9223372036854775808<4503599627370496:=by unfold zS at hl;omega
     refine(QR b hb1 hb2 hc (by simpa using hl) w).mono ?_
     rintro e w' ⟨rfl,hk⟩
     exact⟨qK (by simp[qT,hf]) (by simp only[qx,hf,if_true,hl',jm];omega) (by simp[qE,hf,hl']) hf.symm,hk⟩
    ·have hl':¬b%9223372036854775808<4503599627370496:=by unfold zS at hl;omega
     refine(QS b hb1 hb2 (by unfold zS;omega) (by unfold zS;omega) (by unfold jm;omega) (by unfold jm;omega) hc (by simpa using hl) w).mono ?_
     rintro e w' ⟨rfl,hk⟩
     exact⟨qK (by simp[qT,hf]) (by simp only[qx,hf,if_true,hl',if_false,jm];omega) (by simp only[qE,hf,if_true,hl',if_false,zS];omega) hf.symm,hk⟩
   ·have hv:=zd b (by omega)
    have ht:thr b=true:=by simp[thr,hv]
    have e1:jg b=b%2147483648/8388608:=by simp[jg,ht]
    have e2:jy b=b%8388608:=by simp[jy,ht]
    have e3:jo b=qT b 32:=by simp[jo,ht,qT,hf]
    by_cases hl:jg b=0
    ·have hl':b%2147483648<8388608:=by omega
     refine(QT b hb1 hb2 hc (by simpa using hl) w).mono ?_
     rintro e w' ⟨rfl,hk⟩
     exact⟨qK e3 (by rw[e2];simp[qx,hf,hl'];omega) (by simp[qE,hf,hl']) hf.symm,hk⟩
    ·have hl':¬b%2147483648<8388608:=by omega
     refine(QU b hb1 hb2 (by omega) (by omega) (by omega) (by omega) hc (by simpa using hl) w).mono ?_
     rintro e w' ⟨rfl,hk⟩
     exact⟨qK e3 (by rw[e2];simp[qx,hf,hl'];omega) (by rw[e1];simp[qE,hf,hl'];omega) hf.symm,hk⟩
  ·have hf:fin b n=false:=by simp[fin];omega
   refine(qat b n hb1 hb2 hn (by omega) w).mono ?_
   rintro e w' ⟨rfl,hk⟩
   exact⟨qK (by simp[qT,hf]) (by simp[qx,hf]) (by simp[qE,hf]) hf.symm,hk⟩
 ·have hf:fin b n=false:=by simp[fin];omega
  refine(Xt b n (by rw[beq_eq_false_iff_ne];omega) (by rw[beq_eq_false_iff_ne];omega) w).mono ?_
  rintro e w' ⟨rfl,hk⟩
  exact⟨qK (by simp[qT,hf]) (by simp[qx,hf]) (by simp[qE,hf]) hf.symm,hk⟩
end Go.Proofs.YtelbefihigkhjaaGreatDoor

namespace Go.Proofs.YtelbefihigkhjaaGreatDoor
set_option maxHeartbeats 16000000
set_option maxRecDepth 100000
end Go.Proofs.YtelbefihigkhjaaGreatDoor

namespace Go.Proofs.YtelbefihigkhjaaGreatDoor
open Go.ChangeShapes Go.WideShapes Go.ChangeAt Go.RowKit Ieee
set_option maxHeartbeats 16000000
set_option maxRecDepth 100000
set_option linter.unusedVariables false
set_option linter.unusedSimpArgs false
end Go.Proofs.YtelbefihigkhjaaGreatDoor

namespace Go.Proofs.YtelbefihigkhjaaGreatDoor
open Go.ChangeShapes Go.WideShapes Go.ChangeAt Go.RowKit
set_option maxHeartbeats 16000000
set_option maxRecDepth 100000
set_option linter.unusedVariables false
set_option linter.unusedSimpArgs false
structure Bl (w w':World):Prop where
 below:Below w.heap.size w w'
theorem Bl.refl (w:World):Bl w w:=⟨Below.refl _ _⟩
theorem Bl.trans {a b c:World}(h:Bl a b)(k:Bl b c):Bl a c:=⟨h.below.trans (k.below.mono h.below.size)⟩
theorem Kept.bl {a b:World}(h:Kept a b):Bl a b:=⟨h.below⟩
theorem Bl.alloc {a b:World}(h:Bl a b)(o:Obj):Bl a (b.alloc o):=⟨h.below.alloc h.below.size _⟩
theorem Bl.setCell {a b:World}(h:Bl a b){p:Addr}(hp:a.heap.size≤p.block)(u:Value):Bl a (b.setCell p u):=⟨h.below.setCell hp u⟩
theorem Bl.drew {a b:World}(h:Bl a b):Bl a b.drew:=⟨h.below.drew⟩
theorem Bl.drewN {a b:World}(h:Bl a b)(n:Nat):Bl a (b.drewN n):=⟨below_drewN h.below n⟩
theorem Bl.size {a b:World}(h:Bl a b):a.heap.size≤b.heap.size:=h.below.size
theorem Bl.grw {a b c:World}{g:Nat}(h:Bl a b)(hg:a.heap.size≤g)(k:Grw g b c):Bl a c:=
 ⟨h.below.grown k.grown h.below.size (fun i e=>by cases e;exact hg)⟩
theorem Bl.cell {a b:World}(h:Bl a b)(B o:Nat)(hB:B<a.heap.size):b.cell? ⟨B,o,none⟩=a.cell? ⟨B,o,none⟩:=h.below.cell (p:=⟨B,o,none⟩) hB
theorem Bl.frozen {a b:World}(h:Bl a b)(B o:Nat)(hB:B<a.heap.size):b.frozen? ⟨B,o,none⟩=a.frozen? ⟨B,o,none⟩:=h.below.frozen (p:=⟨B,o,none⟩) hB
theorem Reads.bl {w w':World}{b off:Nat}{L:List Int}(h:Reads w b off L)(hb:b<w.heap.size)(k:Bl w w'):Reads w' b off L:=
 fun i hi=>(k.cell b (off+i) hb).trans (h i hi)
theorem Sl.bl {w w':World}{v:Value}{L:List Int}(h:Sl w v L)(k:Bl w w'):Sl w' v L:=by
 obtain⟨ao,cap,e,hc,hm,hr⟩:=h
 refine⟨ao,cap,e,hc,hm,fun hne=>?_⟩
 obtain⟨b,off,e2,hb,hr⟩:=hr hne
 exact⟨b,off,e2,qlf hb k.size,hr.bl hb k⟩
theorem Own.bl {w w':World}{g cap:Nat}{L:List Int}(h:Own w g cap L)(k:Bl w w'):Own w' g cap L:=by
 have hl:=h.lt
 obtain⟨cur,hg,r⟩:=h
 exact⟨cur,(k.below.block g hl).trans hg,r⟩
theorem MR.bl {H:Nat}{w w':World}{v:Value}{M:List Int}(h:MR H w v M)(k:Bl w w'):MR H w' v M:=by
 rcases h with h|⟨g,cap,e,hg,ho⟩
 ·exact .inl h
 ·exact .inr ⟨g,cap,e,hg,ho.bl k⟩
structure M4 (w:World) (B:Nat) (r c n s:Value):Prop where
 c0:w.cell? ⟨B,0,none⟩=some r
 c1:w.cell? ⟨B,1,none⟩=some c
 c2:w.cell? ⟨B,2,none⟩=some n
 c3:w.cell? ⟨B,3,none⟩=some s
theorem M4.lt {w:World}{B:Nat}{r c n s:Value}(h:M4 w B r c n s):B<w.heap.size:=by
 by_cases hb:B<w.heap.size
 ·exact hb
 ·have:=h.c0
  simp[World.cell?,Array.getElem?_eq_none (Nat.le_of_not_lt hb)]at this
theorem M4.bl {w w':World}{B:Nat}{r c n s:Value}(h:M4 w B r c n s)(k:Bl w w'):M4 w' B r c n s:=
 ⟨(k.cell B 0 h.lt).trans h.c0,(k.cell B 1 h.lt).trans h.c1,(k.cell B 2 h.lt).trans h.c2,(k.cell B 3 h.lt).trans h.c3⟩
theorem M4.new (w:World)(r c n s:Value)(t:TypeId):M4 (w.alloc (.cells #[r,c,n,s] t)) w.heap.size r c n s:=
 ⟨by simp[go_sem],by simp[go_sem],by simp[go_sem],by simp[go_sem]⟩
def ckR (r c:Int):Int:=if Int.tdiv 4096 c<r then 2 else 0
def ckS (r c n:Int):Int:=if ¬(n=64∨n=32)then 3 else if min r c<1 then 4 else ckR r c
theorem qh9 (n:Int):val 0 n=decide (n=64∨n=32):=by unfold val;simp
theorem QX (r c n:Int)(hc:1≤c)(w:World):Calls Tryz.prog 179 #[.agg #[.int .i64 r,.int .i64 c,.int .i64 n]] w fun e w'=>e=.returned (.int .i64 (ckR r c))∧Kept w w':=by
 have h0:¬c=0:=by omega
 have hq:0≤Int.tdiv 4096 c∧Int.tdiv 4096 c≤4096:=⟨Int.tdiv_nonneg (by omega) (by omega),by
  rw[Int.tdiv_eq_ediv_of_nonneg (by omega)]
  exact Int.ediv_le_self _ (by omega)⟩
 have hw:IntKind.i64.wrap (Int.tdiv 4096 c)=Int.tdiv 4096 c:=by rw[qc];omega
 go_enter Tryz.func179,Tryz.ntmps179
 go_wp2
 go_region
 all_goals go_wp2
 all_goals
  go_ret
  refine⟨qt ?_,by first|exact((qlv w).alloc _ _).drew|exact(qlv w).alloc _ _⟩
  unfold ckR
  generalize Int.tdiv 4096 c=q at *
  (repeat' split)<;>omega
theorem xN (r c n:Int)(w:World):Calls Tryz.prog 97 #[.agg #[.int .i64 r,.int .i64 c,.int .i64 n]] w fun e w'=>e=.returned (.int .i64 (ckS r c n))∧Kept w w':=by
 by_cases hn:n=64∨n=32
 ·have KV:Hid (∀u,Calls Tryz.prog 162 #[.int .i64 0,.int .i64 n] u fun e w'=>e=.returned (.bool true)∧u=w'):=fun u=>by
   have:=ys 0 n u
   rw[qh9,qln hn]at this
   exact this
  by_cases hm:min r c<1
  ·have hk:ckS r c n=4:=by unfold ckS;rw[if_neg (fun h=>h hn),if_pos hm]
   rw[hk]
   clear hk hn
   go_enter Tryz.func97,Tryz.ntmps97
   go_wp2_with (first|(go_at_call 162;refine(KV.out _).mono ?_;rintro e w1 ⟨rfl,rfl⟩))
   go_ret
   exact⟨rfl,(qlv w).alloc _ _⟩
  ·have hk:ckS r c n=ckR r c:=by unfold ckS;rw[if_neg (fun h=>h hn),if_neg hm]
   rw[hk]
   have KR:Hid (∀u,Calls Tryz.prog 179 #[.agg #[.int .i64 r,.int .i64 c,.int .i64 n]] u fun e w'=>e=.returned (.int .i64 (ckR r c))∧Kept u w'):=fun u=>QX r c n (by omega) u
   generalize ckR r c=q at *
   clear hk hn
   go_enter Tryz.func97,Tryz.ntmps97
   go_wp2_with (first|(go_at_call 162;refine(KV.out _).mono ?_;rintro e w1 ⟨rfl,rfl⟩)|(go_at_call 179;refine(KR.out _).mono ?_;rintro e w2 ⟨rfl,k2⟩))
   go_ret
   exact⟨rfl,((qlv w).alloc _ _).trans k2⟩
 ·have KV:Hid (∀u,Calls Tryz.prog 162 #[.int .i64 0,.int .i64 n] u fun e w'=>e=.returned (.bool false)∧u=w'):=fun u=>by
   have:=ys 0 n u
   rw[qh9,qlo hn]at this
   exact this
  have hk:ckS r c n=3:=by unfold ckS;rw[if_pos hn]
  rw[hk]
  clear hk hn
  go_enter Tryz.func97,Tryz.ntmps97
  go_wp2_with (first|(go_at_call 162;refine(KV.out _).mono ?_;rintro e w1 ⟨rfl,rfl⟩))
  go_ret
  exact⟨rfl,(qlv w).alloc _ _⟩
theorem qjm {r c n:Int}(h:ckS r c n=0):(n=64∨n=32)∧1≤r∧1≤c∧r*c≤4096:=by
 unfold ckS ckR at h
 split at h
 ·omega
 ·rename_i hn
  split at h
  ·omega
  ·rename_i hm
   split at h
   ·omega
   ·rename_i hq
    refine⟨by omega,by omega,by omega,?_⟩
    rw[Int.tdiv_eq_ediv_of_nonneg (by omega)]at hq
    have h1:r≤4096/c:=by omega
    exact(Int.le_ediv_iff_mul_le (by omega)).1 h1
theorem qg9 {r c n:Int}(hn:n=64∨n=32)(hr:1≤r)(hc:1≤c)(h:r*c≤4096):ckS r c n=0:=by
 unfold ckS ckR
 rw[if_neg (fun h=>h hn),if_neg (by omega),if_neg]
 rw[Int.tdiv_eq_ediv_of_nonneg (by omega)]
 have:=(Int.le_ediv_iff_mul_le (by omega:0<c)).2 h
 omega
theorem qbb {r c:Int}(hr:1≤r)(hc:1≤c):r≤r*c∧c≤r*c:=by
 constructor
 ·have:=Int.mul_le_mul_of_nonneg_left hc (by omega:0≤r)
  omega
 ·have:=Int.mul_le_mul_of_nonneg_right hr (by omega:0≤c)
  omega
end Go.Proofs.YtelbefihigkhjaaGreatDoor

namespace Go.Proofs.YtelbefihigkhjaaGreatDoor
open Go.ChangeShapes Go.WideShapes Go.ChangeAt Go.RowKit
set_option maxHeartbeats 16000000
set_option maxRecDepth 100000
set_option linter.unusedVariables false
set_option linter.unusedSimpArgs false
end Go.Proofs.YtelbefihigkhjaaGreatDoor

namespace Go.Proofs.YtelbefihigkhjaaGreatDoor
open Go.ChangeShapes Go.WideShapes Go.ChangeAt Go.RowKit
set_option maxHeartbeats 16000000
set_option maxRecDepth 100000
set_option linter.unusedVariables false
set_option linter.unusedSimpArgs false
structure M3 (w:World) (B:Nat) (r c n:Value):Prop where
 c0:w.cell? ⟨B,0,none⟩=some r
 c1:w.cell? ⟨B,1,none⟩=some c
 c2:w.cell? ⟨B,2,none⟩=some n
theorem M3.lt {w:World}{B:Nat}{r c n:Value}(h:M3 w B r c n):B<w.heap.size:=by
 by_cases hb:B<w.heap.size
 ·exact hb
 ·have:=h.c0
  simp[World.cell?,Array.getElem?_eq_none (Nat.le_of_not_lt hb)]at this
theorem M3.bl {w w':World}{B:Nat}{r c n:Value}(h:M3 w B r c n)(k:Bl w w'):M3 w' B r c n:=
 ⟨(k.cell B 0 h.lt).trans h.c0,(k.cell B 1 h.lt).trans h.c1,(k.cell B 2 h.lt).trans h.c2⟩
theorem M3.new (w:World)(r c n:Value)(t:TypeId):M3 (w.alloc (.cells #[r,c,n] t)) w.heap.size r c n:=
 ⟨by simp[go_sem],by simp[go_sem],by simp[go_sem]⟩
theorem M3.put (w:World)(B:Nat)(a b c:Value)(h:M3 w B a b c)(x y z:Value):M3 (((w.setCell ⟨B,0,none⟩ x).setCell ⟨B,1,none⟩ y).setCell ⟨B,2,none⟩ z) B x y z:=by
 obtain⟨c0,c1,c2⟩:=h
 exact⟨by simp[go_sem, *],by simp[go_sem, *],by simp[go_sem, *]⟩
theorem qbe (n:Int)(w:World):Calls Tryz.prog 190 #[.int .i64 n] w fun e w'=>e=.returned (.bool (decide (n=64∨n=32)))∧w=w':=by
 go_enter Tryz.func190,Tryz.ntmps190
 go_wp2
 all_goals
  go_ret
  refine⟨qd3 ?_,rfl⟩
  rw[Bool.eq_iff_iff]
  simp_all<;>omega
theorem qk9 {r c n:Int}(hn:n=64∨n=32)(h:r<1∨c<1):ckS r c n=4:=by
 unfold ckS
 rw[if_neg (fun k=>k hn),if_pos (by omega)]
theorem qla {r c n:Int}(hn:n=64∨n=32)(hr:1≤r)(hc:1≤c)(h:4096<r*c):ckS r c n=2:=by
 unfold ckS ckR
 rw[if_neg (fun k=>k hn),if_neg (by omega),if_pos]
 rw[Int.tdiv_eq_ediv_of_nonneg (by omega)]
 have:=mt (Int.le_ediv_iff_mul_le (by omega:0<c)).1 (show ¬r*c≤4096 by omega)
 omega
theorem Zv (r c n:Int)(w:World):Calls Tryz.prog 112 #[.int .i64 r,.int .i64 c,.int .i64 n] w fun e w'=>e=.returned (.int .i64 (ckS r c n))∧w=w':=by
 have KW:Hid (∀u,Calls Tryz.prog 190 #[.int .i64 n] u fun e w'=>e=.returned (.bool (decide (n=64∨n=32)))∧u=w'):=fun u=>qbe n u
 by_cases hn:n=64∨n=32
 ·have KW':Hid (∀u,Calls Tryz.prog 190 #[.int .i64 n] u fun e w'=>e=.returned (.bool true)∧u=w'):=fun u=>by have:=KW.out u;rw[qln hn]at this;exact this
  clear KW
  by_cases hb:r<1∨c<1
  ·rw[qk9 hn hb]
   clear hn
   rcases(show r<1∨(1≤r∧c<1) by omega)with h1|⟨h1,h2⟩
   all_goals
    clear hb
    go_enter Tryz.func112,Tryz.ntmps112
    go_wp2_with (first|(go_at_call 190;refine(KW'.out _).mono ?_;rintro e w1 ⟨rfl,rfl⟩))
    go_ret
    exact⟨rfl,rfl⟩
  ·have hr:1≤r:=by omega
   have hc:1≤c:=by omega
   have hlm:=qbb hr hc
   have g1:¬r<1:=by omega
   have g2:¬c<1:=by omega
   by_cases hp:4096<r*c
   ·rw[qla hn hr hc hp]
    rcases(show 4096<r∨(r≤4096∧4096<c)∨(r≤4096∧c≤4096) by omega)with h1|⟨h1,h2⟩|⟨h1,h2⟩
    ·clear hn hb hlm hp
     go_enter Tryz.func112,Tryz.ntmps112
     go_wp2_with (first|(go_at_call 190;refine(KW'.out _).mono ?_;rintro e w1 ⟨rfl,rfl⟩))
     go_ret
     exact⟨rfl,rfl⟩
    ·have h1':¬4096<r:=by omega
     clear hn hb hlm hp
     go_enter Tryz.func112,Tryz.ntmps112
     go_wp2_with (first|(go_at_call 190;refine(KW'.out _).mono ?_;rintro e w1 ⟨rfl,rfl⟩))
     go_ret
     exact⟨rfl,rfl⟩
    ·have h1':¬4096<r:=by omega
     have h2':¬4096<c:=by omega
     have hw:IntKind.i64.wrap (r*c)=r*c:=by
      have:r*c≤4096*4096:=Int.mul_le_mul h1 h2 (by omega) (by omega)
      rw[qc]
      omega
     clear hn hb hlm
     go_enter Tryz.func112,Tryz.ntmps112
     go_wp2_with (first|(go_at_call 190;refine(KW'.out _).mono ?_;rintro e w1 ⟨rfl,rfl⟩))
     go_ret
     exact⟨rfl,rfl⟩
   ·rw[qg9 hn hr hc (by omega)]
    have h1':¬4096<r:=by omega
    have h2':¬4096<c:=by omega
    have hw:IntKind.i64.wrap (r*c)=r*c:=by
     rw[qc]
     omega
    clear hn hb hlm
    go_enter Tryz.func112,Tryz.ntmps112
    go_wp2_with (first|(go_at_call 190;refine(KW'.out _).mono ?_;rintro e w1 ⟨rfl,rfl⟩))
    go_ret
    exact⟨rfl,rfl⟩
 ·have KW':Hid (∀u,Calls Tryz.prog 190 #[.int .i64 n] u fun e w'=>e=.returned (.bool false)∧u=w'):=fun u=>by have:=KW.out u;rw[qlo hn]at this;exact this
  clear KW
  have:ckS r c n=3:=by unfold ckS;rw[if_pos hn]
  rw[this]
  clear this hn
  go_enter Tryz.func112,Tryz.ntmps112
  go_wp2_with (first|(go_at_call 190;refine(KW'.out _).mono ?_;rintro e w1 ⟨rfl,rfl⟩))
  go_ret
  exact⟨rfl,rfl⟩
end Go.Proofs.YtelbefihigkhjaaGreatDoor

namespace Go.Proofs.YtelbefihigkhjaaGreatDoor
open Go.ChangeShapes Go.WideShapes Go.ChangeAt Go.RowKit
set_option maxHeartbeats 16000000
set_option maxRecDepth 100000
set_option linter.unusedVariables false
set_option linter.unusedSimpArgs false
theorem XO (b n:Int)(hb1:-9223372036854775808≤b)(hb2:b≤9223372036854775807)(w:World):Calls Tryz.prog 127 #[.int .i64 b,.int .i64 n] w fun e w'=>e=.returned (.bool (cls b n==4))∧Kept w w':=by
 have KC:Hid (∀u,Calls Tryz.prog 91 #[.int .i64 b,.int .i64 n] u fun e w'=>e=.returned (.int .i64 (cls b n))∧Kept u w'):=fun u=>qz b n hb1 hb2 u
 generalize cls b n=q at *
 go_enter Tryz.func127,Tryz.ntmps127
 go_wp2_with (first|(go_at_call 91;refine(KC.out _).mono ?_;rintro e w1 ⟨rfl,k1⟩))
 go_ret
 exact⟨rfl,k1⟩
end Go.Proofs.YtelbefihigkhjaaGreatDoor

namespace Go.Proofs.YtelbefihigkhjaaGreatDoor
open Go.ChangeShapes Go.WideShapes Go.ChangeAt Go.RowKit
set_option maxHeartbeats 16000000
set_option maxRecDepth 100000
set_option linter.unusedVariables false
set_option linter.unusedSimpArgs false
def stp (n:Int):List Int→Nat→Int×Int
 |[],_=>(0,0)
 |b::l,k=>if cls b n=4 then ((k:Int),30)else if cls b n=3 then ((k:Int),31)else stp n l (k+1)
theorem qjn (b n:Int):cls b n≤4:=by
 unfold cls zn
 (repeat' split)<;>omega
theorem qha (n:Int)(L:List Int)(k:Nat)(hk:k<L.length)(h:cls (L.getD k 0) n=4):stp n (L.drop k) k=((k:Int),30):=by
 rw[List.drop_eq_getElem_cons hk]
 unfold stp
 rw[qli,List.getElem?_eq_getElem hk]at h
 change cls L[k] n=4 at h
 rw[if_pos h]
theorem qhb (n:Int)(L:List Int)(k:Nat)(hk:k<L.length)(h:cls (L.getD k 0) n=3):stp n (L.drop k) k=((k:Int),31):=by
 rw[List.drop_eq_getElem_cons hk]
 unfold stp
 rw[qli,List.getElem?_eq_getElem hk]at h
 change cls L[k] n=3 at h
 rw[if_neg (by omega),if_pos h]
theorem qhc (n:Int)(L:List Int)(k:Nat)(hk:k<L.length)(h:cls (L.getD k 0) n<3):stp n (L.drop k) k=stp n (L.drop (k+1)) (k+1):=by
 rw[List.drop_eq_getElem_cons hk]
 conv=>lhs;unfold stp
 rw[qli,List.getElem?_eq_getElem hk]at h
 change cls L[k] n<3 at h
 rw[if_neg (by omega),if_neg (by omega)]
theorem qhd (n:Int)(L:List Int):stp n (L.drop L.length) L.length=(0,0):=by
 rw[List.drop_length]
 rfl
theorem yX (b n:Int)(hb1:-9223372036854775808≤b)(hb2:b≤9223372036854775807)(w:World):Calls Tryz.prog 93 #[.int .i64 b,.int .i64 n] w fun e w'=>e=.returned (.bool (decide (cls b n<3)))∧Kept w w':=by
 have KC:Hid (∀u,Calls Tryz.prog 91 #[.int .i64 b,.int .i64 n] u fun e w'=>e=.returned (.int .i64 (cls b n))∧Kept u w'):=fun u=>qz b n hb1 hb2 u
 generalize cls b n=q at *
 go_enter Tryz.func93,Tryz.ntmps93
 go_wp2_with (first|(go_at_call 91;refine(KC.out _).mono ?_;rintro e w1 ⟨rfl,k1⟩))
 go_ret
 exact⟨rfl,k1⟩
end Go.Proofs.YtelbefihigkhjaaGreatDoor
