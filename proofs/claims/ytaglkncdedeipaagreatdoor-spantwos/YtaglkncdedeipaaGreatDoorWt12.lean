/-  -/
import Derived.Test.YtaglkncdedeipaaGreatDoorWt11
import Derived.Test.YtaglkncdedeipaaGreatDoorWt10
import Derived.Deep.CutRange
import Derived.Deep.RegionHeld
namespace Go.Proofs.YtaglkncdedeipaaGreatDoor
open Go.ChangeShapes Go.WideShapes Go.ChangeAt Go.RowKit Ieee
set_option linter.unusedVariables false
set_option linter.unusedSimpArgs false
set_option maxHeartbeats 16000000
set_option maxRecDepth 100000
theorem ZH (m k:Nat)(hm:m≠0):(m*2^k).log2=m.log2+k:=by
 have hp:0<2^k:=qoj k
 rw[Nat.log2_eq_iff (Nat.ne_of_gt (Nat.mul_pos (Nat.pos_of_ne_zero hm) hp))]
 have l1:2^m.log2≤m:=Nat.log2_self_le hm
 have l2:m<2^(m.log2+1):=Nat.lt_log2_self
 constructor
 ·rw[qol];exact Nat.mul_le_mul_right _ l1
 ·rw[show m.log2+k+1=(m.log2+1)+k by omega,qol];exact Nat.mul_lt_mul_of_pos_right l2 hp
theorem qga (neg:Bool)(m k d:Nat)(hm:m≠0)(hd:d≤k):Toward.even.cut neg (m*2^k) d=m*2^(k-d):=by
 have hn:(m*2^k).log2=m.log2+k:=ZH m k hm
 have hmin:min d ((m*2^k).log2+2)=d:=by rw[hn];omega
 have hpd:0<2^d:=qoj d
 have hs:m*2^k=m*2^(k-d)*2^d:=by rw[qop,←qol];congr 2;omega
 unfold Toward.cut
 simp only[hmin,Nat.shiftLeft_eq,Nat.one_mul]
 rw[hs,Nat.mul_div_cancel _ hpd,Nat.mul_mod_left]
 have h1:¬2^d<2*0:=by omega
 have h2:¬2^d=2*0:=by omega
 simp[h1,h2]
theorem JW (f:Format)(s:Bool)(m k:Nat)(p:Int)(hm:m≠0)(hl:m.log2≤f.fractionBits)(hp:f.leastPlace≤p+k):f.nearest s (m*2^k) p=f.nearest s m (p+k):=by
 have hp2:0<2^k:=qoj k
 have hmk:m*2^k≠0:=Nat.ne_of_gt (Nat.mul_pos (Nat.pos_of_ne_zero hm) hp2)
 unfold Format.nearest
 rw[if_neg hm,if_neg hmk]
 simp only
 rw[ZH m k hm]
 obtain⟨last,hlast⟩:∃last,last=max (p+(k:Int)+(m.log2:Int)-(f.fractionBits:Int)) f.leastPlace:=⟨_,rfl⟩
 rw[show p+((m.log2+k:Nat):Int)-(f.fractionBits:Int)=p+(k:Int)+(m.log2:Int)-(f.fractionBits:Int) by omega,←hlast]
 have hle:last≤p+k:=by omega
 rw[show(last-(p+(k:Int))).toNat=0 by omega,JG]
 congr 3
 by_cases h:last≤p
 ·rw[show(last-p).toNat=0 by omega,JG,Nat.shiftLeft_eq,Nat.shiftLeft_eq,qop,←qol]
  congr 2;omega
 ·rw[show(p-last).toNat=0 by omega,Nat.shiftLeft_zero,qga s m k _ hm (by omega),Nat.shiftLeft_eq]
  congr 2;omega
theorem log2_lt (m n:Nat)(hm:m≠0)(h:m<2^(n+1)):m.log2≤n:=by
 have l1:2^m.log2≤m:=Nat.log2_self_le hm
 have:2^m.log2<2^(n+1):=Nat.lt_of_le_of_lt l1 h
 have:=(Nat.pow_lt_pow_iff_right (by decide:1<2)).1 this
 omega
theorem X6 (b:Nat)(w:World):FloatKind.f32.format.infRung<qo FloatKind.f32.format (xL .f32 b w):=by
 unfold xL Question.cut qo
 simp only
 rw[qi7,qls]
 generalize w.tape w.drawn (.nanConv .f32 b)=t
 have h1:t%2<2:=Nat.mod_lt _ (by decide)
 have h2:t/2%(2^23-1)<2^23-1:=Nat.mod_lt _ (by decide)
 generalize t%2=s at *
 generalize t/2%(2^23-1)=u at *
 omega
theorem qea (x:Nat)(hx:x<4294967296):FloatKind.f32.format.word (below FloatKind.f32.format x) (qo FloatKind.f32.format x)=x:=by
 unfold Format.word below qo
 rw[qls]
 have h1:=Nat.div_add_mod x 2147483648
 have h2:x/2147483648<2:=by omega
 rcases(show x/2147483648=0∨x/2147483648=1 by omega)with h|h
 ·simp[h];omega
 ·simp[h];omega
theorem qay (x:Nat)(h:qo FloatKind.f32.format x<FloatKind.f32.format.infRung):
  ∃m i,FloatKind.f64.decode (W x)=.number (below FloatKind.f32.format x) m i∧FloatKind.f32.format.nearest (below FloatKind.f32.format x) m i=FloatKind.f32.format.word (below FloatKind.f32.format x) (qo FloatKind.f32.format x):=by
 obtain⟨w1,w2,w3⟩:=XX x h
 obtain⟨m,i,e,hi,hv,hm⟩:=zY FloatKind.f64.format (W x) w1
 obtain⟨m0,i0,e0,hi0,hv0,hm0⟩:=zY FloatKind.f32.format x h
 have hlt:=zU FloatKind.f32.format h
 rw[w3]at e
 rw[w2,←hv0]at hv
 rw[vk]at hlt
 rw[ZE]at hi hv
 rw[yX]at hi0 hv hv0
 rw[qdu]at hm0
 generalize hR:qo FloatKind.f32.format x=R at *
 generalize below FloatKind.f32.format x=s at *
 refine⟨m,i,e,?_⟩
 have hve:m*2^(i- -1074).toNat=m0*2^(i0- -1074).toNat:=by
  rw[hv,qop,←qol]
  congr 2
  unfold vU
  omega
 clear hv w2 e e0
 by_cases h0:m0=0
 ·subst h0
  rw[Nat.zero_mul]at hve hv0
  have hm00:m=0:=by
   rcases Nat.mul_eq_zero.1 hve with h|h
   ·exact h
   ·exact absurd h (Nat.ne_of_gt (qoj _))
  subst hm00
  have:R=0:=yG FloatKind.f32.format (by rw[←hv0,jt])
  subst this
  unfold Format.nearest
  rw[if_pos rfl]
 ·have hfb:FloatKind.f32.format.fractionBits=23:=by decide+kernel
  have key:∀(m':Nat) (i':Int),m'≠0→m'<16777216→-149≤i'→m'*2^(i'- -149).toNat=m0*2^(i0- -149).toNat→FloatKind.f32.format.nearest s m' i'=FloatKind.f32.format.word s R:=by
   intro m' i' hm' hl' hi' hv'
   obtain⟨r,h1,h2,h3⟩:=kl FloatKind.f32.format s m' i' hm' (by rw[hfb];exact log2_lt m' 23 hm' hl') (by rw[yX];exact hi') (by rw[yX,hv',hv0,vk];exact hlt)
   rw[h1]
   congr 1
   exact yG FloatKind.f32.format (by rw[h3,yX,hv',hv0])
  by_cases hii:i≤i0
  ·have hmm:m=m0*2^(i0-i).toNat:=by
    have:m0*2^(i0- -1074).toNat=m0*2^(i0-i).toNat*2^(i- -1074).toNat:=by
     rw[qop,←qol]
     congr 2
     omega
    rw[this]at hve
    exact Nat.eq_of_mul_eq_mul_right (qoj _) hve
   rw[hmm,JW FloatKind.f32.format s m0 (i0-i).toNat i h0 (by rw[hfb];exact log2_lt m0 23 h0 (by omega)) (by rw[yX];omega)]
   rw[show i+(((i0-i).toNat:Nat):Int)=i0 by omega]
   exact key m0 i0 h0 (by omega) hi0 rfl
  ·have hmm:m*2^(i-i0).toNat=m0:=by
    have:m*2^(i- -1074).toNat=m*2^(i-i0).toNat*2^(i0- -1074).toNat:=by
     rw[qop,←qol]
     congr 2
     omega
    rw[this]at hve
    exact Nat.eq_of_mul_eq_mul_right (qoj _) hve
   have hm1:m≠0:=by
    intro h
    subst h
    rw[Nat.zero_mul]at hmm
    exact h0 hmm.symm
   have hle:m≤m0:=by
    rw[←hmm]
    exact Nat.le_mul_of_pos_right _ (qoj _)
   refine key m i hm1 (by omega) (by omega) ?_
   rw[←hmm,qop,←qol]
   congr 2
   omega
theorem Yn (x:Nat)(hx:x<4294967296)(h:qo FloatKind.f32.format x≤FloatKind.f32.format.infRung):floatToFloatBits .f64 (W x) .f32=some x:=by
 have hw:=qea x hx
 unfold floatToFloatBits
 rw[if_neg (by decide)]
 by_cases hi:qo FloatKind.f32.format x=FloatKind.f32.format.infRung
 ·obtain⟨a1,a2⟩:=qap x hi
  have e:FloatKind.f64.decode (W x)=.infinity (below FloatKind.f64.format (W x)):=jQ FloatKind.f64.format (W x) a1 Ze
  rw[e,a2]
  show some (FloatKind.f32.format.word (below FloatKind.f32.format x) FloatKind.f32.format.infRung)=some x
  rw[←hi,hw]
 ·obtain⟨m,i,e,hn⟩:=qay x (by omega)
  rw[e]
  have he:FloatKind.f32.encode (.number (below FloatKind.f32.format x) m i)=x:=by
   show FloatKind.f32.format.nearest (below FloatKind.f32.format x) m i=x
   rw[hn,hw]
  simp only
  rw[he,if_neg]
  obtain⟨m',i',e',-⟩:=zY FloatKind.f32.format x (by omega)
  show ¬(FloatKind.f32.format.read x).isInfinity=true
  rw[e']
  simp[Datum.isInfinity]
def cln (b n:Int):Int:=if cls b n=4 then (if n=64 then 9221120237041090561 else 2143289345)else b
theorem qgb (b:Int):qt b<4294967296:=by
 unfold qt
 split<;>omega
theorem kR (b:Int)(hb1:-9223372036854775808≤b)(hb2:b≤9223372036854775807)(w:World):Calls Tryz.prog 103 #[.int .i64 b,.int .i64 64,.int .i64 64] w fun e w'=>e=.returned (.int .i64 (cln b 64))∧Kept w w':=by
 have KL:Hid (∀u,Calls Tryz.prog 129 #[.int .i64 64] u fun e w'=>e=.returned (.tuple #[.agg #[.int .i64 (-9223372036854775808),.int .i64 9218868437227405312,.int .i64 9221120237041090561,.int .i64 52,.int .i64 (-1074)],.bool true])∧Kept u w'):=fun u=>zd u
 have KW:Hid (∀u,Calls Tryz.prog 131 #[.int .i64 b,.int .i64 64] u fun e w'=>e=.returned (.float .f64 (zn b))∧u=w'):=fun u=>kP b u
 have KO:Hid (∀u,Calls Tryz.prog 104 #[.float .f64 (zn b)] u fun e w'=>e=.returned (.int .i64 (cln b 64))∧u=w'):=fun u=>by
  have:=yE (zn b) u
  rw[qao b hb1 hb2]at this
  unfold cln
  rw[if_pos rfl]
  exact this
 generalize cln b 64=c at *
 generalize zn b=p at *
 go_enter Tryz.func103,Tryz.ntmps103
 go_wp2_with (first|(go_at_call 129;refine(KL.out _).mono ?_;rintro e w1 ⟨rfl,k1⟩)|(go_at_call 131;refine(KW.out _).mono ?_;rintro e w2 ⟨rfl,rfl⟩)|(go_at_call 104;refine(KO.out _).mono ?_;rintro e w3 ⟨rfl,rfl⟩))
 go_ret
 exact⟨rfl,k1.alloc _ _⟩
theorem Xb (s:Bool)(r:Nat)(h:r<9223372036854775808):FloatKind.f64.format.word s r<18446744073709551616:=by
 unfold Format.word
 rw[V8]
 cases s<;>simp<;>omega
theorem qgc (x:Nat)(h:qo FloatKind.f32.format x≤FloatKind.f32.format.infRung):W x<18446744073709551616:=by
 have hi:=yJ
 rw[V8]at hi
 by_cases e:qo FloatKind.f32.format x=FloatKind.f32.format.infRung
 ·have:=(JM x e).2
  unfold W
  rw[this]
  exact Xb _ _ hi
 ·obtain⟨r,e1,h1,-⟩:=JL x (by omega)
  unfold W
  rw[e1]
  exact Xb _ _ (by omega)
theorem ZI (x:Nat)(h:x<18446744073709551616):zn (wrap64 x)=x:=by
 have h1:=xK (wrap64 x)
 unfold wrap64 at h1 ⊢
 omega
def cvw (b:Int):Int:=if cls b 32=4 then 9221120237041090561 else wrap64 (wide b)
theorem qgd (y:Nat)(h:FloatKind.f64.format.infRung<qo FloatKind.f64.format y):qw y=9221120237041090561:=by
 unfold qw
 rw[V9,if_pos (qos h)]
theorem ZJ (y:Nat)(h:qo FloatKind.f64.format y≤FloatKind.f64.format.infRung):qw y=wrap64 y:=by
 unfold qw
 rw[V9,if_neg (by simp;omega)]
theorem Zf (b:Int)(hc:cls b 32≠4):zn (cvw b)=wide b∧qo FloatKind.f64.format (wide b)≤FloatKind.f64.format.infRung:=by
 have hr:qo FloatKind.f32.format (qt b)≤FloatKind.f32.format.infRung:=by have:=mt (jF b).2 hc;omega
 unfold cvw
 rw[if_neg hc]
 exact⟨ZI _ (qgc (qt b) hr),(qaq (qt b) hr).1⟩
theorem X7 (b:Int)(w:World):Calls Tryz.prog 103 #[.int .i64 b,.int .i64 32,.int .i64 64] w fun e w'=>e=.returned (.int .i64 (cvw b))∧Kept w w':=by
 have KL:Hid (∀u,Calls Tryz.prog 129 #[.int .i64 32] u fun e w'=>e=.returned (.tuple #[.agg #[.int .i64 2147483648,.int .i64 2139095040,.int .i64 2143289345,.int .i64 23,.int .i64 (-149)],.bool true])∧Kept u w'):=fun u=>zj u
 have KW:Hid (∀u,Calls Tryz.prog 131 #[.int .i64 b,.int .i64 32] u fun e w'=>∃y,e=.returned (.float .f64 y)∧Kept u w'∧qw y=cvw b):=fun u=>by
  refine(qar b 32 u).mono ?_
  rintro e w' ⟨y,rfl,k,hw|hw⟩
  ·refine⟨y,rfl,k,?_⟩
   have hc:cls b 32≠4:=fun h=>by have:=hw.1;simp[qj,h]at this
   obtain⟨h1,h2⟩:=Zf b hc
   rw[hw.2.2.2 rfl,ZJ _ h2]
   unfold cvw
   rw[if_neg hc]
  ·refine⟨y,rfl,k,?_⟩
   have hc:cls b 32=4:=Classical.not_not.1 (fun h=>by have:=hw.1;simp[qj,h]at this)
   rw[qgd y hw.2]
   unfold cvw
   rw[if_pos hc]
 have KO:Hid (∀u y,qw y=cvw b→Calls Tryz.prog 104 #[.float .f64 y] u fun e w'=>e=.returned (.int .i64 (cvw b))∧u=w'):=fun u y hy=>by
  have:=yE y u
  rw[hy]at this
  exact this
 generalize cvw b=c at *
 go_enter Tryz.func103,Tryz.ntmps103
 go_wp2_with (first|(go_at_call 129;refine(KL.out _).mono ?_;rintro e w1 ⟨rfl,k1⟩)|(go_at_call 131;refine(KW.out _).mono ?_;rintro e w2 ⟨y,rfl,k2,hy⟩)|(go_at_call 104;refine(KO.out _ _ hy).mono ?_;rintro e w3 ⟨rfl,rfl⟩))
 go_ret
 exact⟨rfl,(k1.alloc _ _).trans k2⟩
theorem X8 (b:Int)(w:World):Calls Tryz.prog 103 #[.int .i64 (cvw b),.int .i64 64,.int .i64 32] w fun e w'=>e=.returned (.int .i64 (cln b 32))∧Kept w w':=by
 have KL:Hid (∀u,Calls Tryz.prog 129 #[.int .i64 64] u fun e w'=>e=.returned (.tuple #[.agg #[.int .i64 (-9223372036854775808),.int .i64 9218868437227405312,.int .i64 9221120237041090561,.int .i64 52,.int .i64 (-1074)],.bool true])∧Kept u w'):=fun u=>zd u
 have KW:Hid (∀u,Calls Tryz.prog 131 #[.int .i64 (cvw b),.int .i64 64] u fun e w'=>e=.returned (.float .f64 (zn (cvw b)))∧u=w'):=fun u=>kP (cvw b) u
 by_cases hc:cls b 32=4
 ·have hcl:cln b 32=2143289345:=by unfold cln;rw[if_pos hc,if_neg (by decide)]
  have hcv:cvw b=9221120237041090561:=by unfold cvw;rw[if_pos hc]
  rw[hcl]
  have hn:FloatKind.f64.format.infRung<qo FloatKind.f64.format (zn (cvw b)):=(kO (cvw b)).1 (by rw[hcv];decide+kernel)
  have hcr:∀wx:World,(convert 66 171 (.float .f64 (zn (cvw b)))).run Tryz.prog wx=.ok (.float .f32 (xL .f32 (zn (cvw b)) wx)) wx.drew:=fun wx=>by
   obtain⟨s,t,hd⟩:=yH FloatKind.f64.format (zn (cvw b)) hn Ze
   exact vZ wx 66 171 .f64 .f32 (zn (cvw b)) (by kernel_rfl) (by kernel_rfl) (by decide) hd
  have KO:Hid (∀u y wx,Calls Tryz.prog 130 #[.float .f32 (xL .f32 y wx)] u fun e w'=>e=.returned (.int .i64 2143289345)∧u=w'):=fun u y wx=>by
   have:=qal (xL .f32 y wx) u
   unfold qft at this
   rw[qdv,if_pos (qos (X6 y wx))]at this
   exact this
  clear hc hcl hcv hn
  generalize cvw b=c at *
  generalize zn c=p at *
  go_enter Tryz.func103,Tryz.ntmps103
  go_wp2_with (first|(go_at_call 129;refine(KL.out _).mono ?_;rintro e w1 ⟨rfl,k1⟩)|(go_at_call 131;refine(KW.out _).mono ?_;rintro e w2 ⟨rfl,rfl⟩)|(go_at_call 130;refine(KO.out _ _ _).mono ?_;rintro e w3 ⟨rfl,rfl⟩))
  go_ret
  exact⟨rfl,(k1.alloc _ _).drew⟩
 ·have hcl:cln b 32=b:=by unfold cln;rw[if_neg hc]
  have hr:qo FloatKind.f32.format (qt b)≤FloatKind.f32.format.infRung:=by have:=mt (jF b).2 hc;omega
  have hcr:∀wx:World,(convert 66 171 (.float .f64 (wide b))).run Tryz.prog wx=.ok (.float .f32 (qt b)) wx:=fun wx=>run_convert_float_float wx 66 171 .f64 .f32 (wide b) (qt b) (by kernel_rfl) (by kernel_rfl) (Yn (qt b) (qgb b) hr)
  have KO:Hid (∀u,Calls Tryz.prog 130 #[.float .f32 (qt b)] u fun e w'=>e=.returned (.int .i64 b)∧u=w'):=fun u=>by
   have:=qal (qt b) u
   rw[qi9,if_neg hc]at this
   exact this
  rw[(Zf b hc).1]at KW
  rw[hcl]
  clear hc hcl hr
  generalize cvw b=c at *
  generalize qt b=p at *
  generalize wide b=q at *
  go_enter Tryz.func103,Tryz.ntmps103
  go_wp2_with (first|(go_at_call 129;refine(KL.out _).mono ?_;rintro e w1 ⟨rfl,k1⟩)|(go_at_call 131;refine(KW.out _).mono ?_;rintro e w2 ⟨rfl,rfl⟩)|(go_at_call 130;refine(KO.out _).mono ?_;rintro e w3 ⟨rfl,rfl⟩))
  go_ret
  exact⟨rfl,k1.alloc _ _⟩
def fl (b n:Int):Nat:=if n=64 then zn b else wide b
def Fl (n:Int)(x:Nat)(k:Int):Prop:=∃b:Int,qj b n=true∧(-9223372036854775808≤b∧b≤9223372036854775807)∧qc b n=k∧x=fl b n
theorem qih (b n:Int)(hn:qj b n=true):Wd b n (fl b n):=by
 left
 rcases zN b n hn with ⟨rfl,c⟩|⟨rfl,c⟩
 ·have h:=mt (kO b).2 c
  refine⟨hn,?_,fun _=>by simp[fl],fun h=>absurd h (by decide)⟩
  simp only[fl,if_pos]
  omega
 ·refine⟨hn,?_,fun h=>absurd h (by decide),fun _=>by simp[fl]⟩
  have:=(Zf b c).2
  simpa [fl] using this
theorem Fl.of (b n:Int)(hn:qj b n=true)(h1:-9223372036854775808≤b)(h2:b≤9223372036854775807):Fl n (fl b n) (qc b n):=⟨b,hn,⟨h1,h2⟩,rfl,rfl⟩
theorem Fl.le {n:Int}{x:Nat}{k:Int}(h:Fl n x k):qo FloatKind.f64.format x≤FloatKind.f64.format.infRung:=by
 obtain⟨b,h1,h2,h3,rfl⟩:=h
 rcases qih b n h1 with ⟨-,h,-⟩|⟨h,-⟩
 ·exact h
 ·rw[h1]at h;cases h
theorem Fl.ord {n:Int}{x y:Nat}{k j:Int}(h:Fl n x k)(g:Fl n y j):FloatKind.f64.format.order x y=some (compare k j):=by
 obtain⟨a,a1,a2,rfl,rfl⟩:=h
 obtain⟨b,b1,b2,rfl,rfl⟩:=g
 rw[qjd a b n _ _ a2.1 a2.2 b2.1 b2.2 (qih a n a1) (qih b n b1),if_pos (by rw[a1,b1];rfl)]
theorem qv (b n:Int)(h:qj b n=true):n=64∨n=32:=by
 rcases zN b n h with ⟨rfl,-⟩|⟨rfl,-⟩<;>simp
theorem zG (b n:Int)(h:qj b n=true)(h1:-9223372036854775808≤b)(h2:b≤9223372036854775807):-(ifn n:Int)≤qc b n∧qc b n≤(ifn n:Int):=by
 rcases qv b n h with rfl|rfl
 ·have:=(xl b).1 h
  unfold qc ifn
  simp only[if_pos]
  split<;>constructor<;>omega
 ·have:=(xo b).1 h
  unfold qc ifn
  rw[if_neg (by decide),if_neg (by decide)]
  split<;>constructor<;>omega
theorem Fl.rng {n:Int}{x:Nat}{k:Int}(h:Fl n x k):-(ifn n:Int)≤k∧k≤(ifn n:Int):=by
 obtain⟨b,h1,h2,rfl,-⟩:=h
 exact zG b n h1 h2.1 h2.2
theorem Fl.lt {n:Int}{x:Nat}{k:Int}(h:Fl n x k):x<18446744073709551616:=by
 obtain⟨b,h1,h2,-,rfl⟩:=h
 rcases zN b n h1 with ⟨rfl,c⟩|⟨rfl,c⟩
 ·have:=xK b
  simp only[fl,if_pos]
  omega
 ·have hr:qo FloatKind.f32.format (qt b)≤FloatKind.f32.format.infRung:=by have:=mt (jF b).2 c;omega
  exact qgc (qt b) hr
theorem Qp (x:Nat)(h:x<18446744073709551616):zn (wrap64 x)=x∧-9223372036854775808≤wrap64 x∧wrap64 x≤9223372036854775807:=by
 refine⟨ZI x h,?_,?_⟩<;>(unfold wrap64;omega)
theorem Qq (x:Nat)(h:qo FloatKind.f64.format x≤FloatKind.f64.format.infRung)(hx:x<18446744073709551616):qj (wrap64 x) 64=true∧qc (wrap64 x) 64=sv (below FloatKind.f64.format x) (qo FloatKind.f64.format x):=by
 obtain⟨p1,p2,p3⟩:=Qp x hx
 constructor
 ·rw[YJ,qor]
  intro hc
  have:=(kO (wrap64 x)).1 hc
  rw[p1]at this
  omega
 ·rw[←jS _ p2 p3,p1,zO]
theorem Kv (b:Int):qc b 64=if b<0 then -(b%9223372036854775808)else b:=by
 unfold qc
 rw[if_pos rfl]
theorem Qr (b:Int):qc b 32=if 2147483648≤b then -(b%2147483648)else b:=by
 unfold qc
 rw[if_neg (by decide:¬(32:Int)=64)]
theorem qk7 (k:Int):pz 32 k=if k<0 then -k+2147483648 else k:=by
 unfold pz
 rw[if_neg (by decide:¬(32:Int)=64)]
theorem jw (n:Int):0<ifn n:=by unfold ifn;split<;>decide
theorem qb3 (b:Bool)(r m:Nat)(hm:0<m):(sv b r=(m:Int)↔(b=false∧r=m))∧(sv b r=-(m:Int)↔(b=true∧r=m))∧(0<sv b r↔(b=false∧0<r))∧(sv b r<0↔(b=true∧0<r)):=by
 cases b<;>simp[sv]<;>omega
theorem qii:(ifn 64:Nat)=FloatKind.f64.format.infRung:=by rw[qam];rfl
theorem qij:(ifn 32:Nat)=FloatKind.f32.format.infRung:=by rw[qi7];rfl
structure K64 (n k q:Int):Prop where
 top:k=(ifn n:Int)↔q=(ifn 64:Int)
 bot:k=-(ifn n:Int)↔q=-(ifn 64:Int)
 pos:0<k↔0<q
 neg:k<0↔q<0
theorem Fl.wide {n:Int}{x:Nat}{k:Int}(h:Fl n x k):∃q,Fl 64 x q∧K64 n k q∧qw x=wrap64 x∧qj (qw x) 64=true∧qc (qw x) 64=q∧-9223372036854775808≤qw x∧qw x≤9223372036854775807∧zn (qw x)=x:=by
 have hle:=h.le
 have hlt:=h.lt
 obtain⟨p1,p2,p3⟩:=Qp x hlt
 obtain⟨i1,i2⟩:=Qq x hle hlt
 have ho:qw x=wrap64 x:=ZJ x hle
 rw[ho]
 refine⟨_,⟨wrap64 x,i1,⟨p2,p3⟩,i2,?_⟩,?_,rfl,i1,i2,p2,p3,p1⟩
 ·simp[fl,p1]
 obtain⟨b,b1,b2,rfl,rfl⟩:=h
 rcases zN b n b1 with ⟨rfl,c⟩|⟨rfl,c⟩
 ·have e:sv (below FloatKind.f64.format (fl b 64)) (qo FloatKind.f64.format (fl b 64))=qc b 64:=by
   rw[←zO,←jS b b2.1 b2.2]
   simp[fl]
  rw[e]
  exact⟨Iff.rfl,Iff.rfl,Iff.rfl,Iff.rfl⟩
 ·have hv:=qV b c
  have hr:qo FloatKind.f32.format (qt b)≤FloatKind.f32.format.infRung:=by have:=mt (jF b).2 c;omega
  have e:qc b 32=sv (below FloatKind.f32.format (qt b)) (qo FloatKind.f32.format (qt b)):=by rw[←zO,Ya b hv]
  have ex:fl b 32=W (qt b):=by simp[fl];rfl
  rw[e,ex]
  obtain⟨w1,w2⟩:=qaq (qt b) hr
  rw[w2]
  have z:qo FloatKind.f32.format 0≤FloatKind.f32.format.infRung:=by decide+kernel
  have z0:qo FloatKind.f32.format 0=0:=by decide+kernel
  have h0:=qcf 0 (qt b) z hr
  rw[qjb,z0]at h0
  have hinf:qo FloatKind.f32.format (qt b)=FloatKind.f32.format.infRung↔qo FloatKind.f64.format (W (qt b))=FloatKind.f64.format.infRung:=by
   constructor
   ·intro h;exact(qap _ h).1
   ·intro h
    have:=XX (qt b)
    by_cases g:qo FloatKind.f32.format (qt b)<FloatKind.f32.format.infRung
    ·have:=(this g).1;omega
    ·omega
  rw[←qij]at hinf
  rw[←qii]at hinf
  generalize below FloatKind.f32.format (qt b)=sb at *
  generalize qo FloatKind.f32.format (qt b)=r32 at *
  generalize qo FloatKind.f64.format (W (qt b))=r64 at *
  have a32:=qb3 sb r32 (ifn 32) (jw 32)
  have a64:=qb3 sb r64 (ifn 64) (jw 64)
  refine⟨?_,?_,?_,?_⟩
  ·rw[a32.1,a64.1,hinf]
  ·rw[a32.2.1,a64.2.1,hinf]
  ·rw[a32.2.2.1,a64.2.2.1,h0]
  ·rw[a32.2.2.2,a64.2.2.2,h0]
theorem XL (a b:Int):(some (compare a b)==some Ordering.gt)=decide (b<a):=by
 rcases Int.lt_trichotomy a b with h|h|h
 ·rw[←vi h,qot (by omega)];rfl
 ·rw[←vS h,qot (by omega)];rfl
 ·rw[←vj h,qos h];rfl
theorem QN (x:Nat)(h:x<2^63):x^^^2^63=x+2^63:=by
 have e:2^63+x=2^63|||x:=by
  have:=Nat.two_pow_add_eq_or_of_lt h 1
  simpa using this
 rw[Nat.add_comm,e]
 apply Nat.eq_of_testBit_eq
 intro i
 rw[Nat.testBit_xor,Nat.testBit_or,Nat.testBit_two_pow]
 by_cases hi:63=i
 ·subst hi
  rw[Nat.testBit_lt_two_pow h]
  simp
 ·simp[hi]
theorem Kw (x:Nat)(h:x<18446744073709551616):Op.negFloat .f64 x=(x+9223372036854775808)%18446744073709551616:=by
 have e0:FloatKind.f64.format.exponentBits+FloatKind.f64.format.fractionBits=63:=by decide+kernel
 unfold Op.negFloat
 rw[e0]
 have e1:(2:Nat)^63=9223372036854775808:=by decide
 by_cases hx:x<2^63
 ·rw[QN x hx,e1]
  omega
 ·obtain⟨y,rfl⟩:∃y,x=y+2^63:=⟨x-2^63,by omega⟩
  have hy:y<2^63:=by omega
  rw[←QN y hy,Nat.xor_assoc,Nat.xor_self,Nat.xor_zero,QN y hy,e1]
  omega
theorem qk8 (b n:Int)(h:qj b n=true)(h1:-9223372036854775808≤b)(h2:b≤9223372036854775807):qj (ngt b n) n=true∧qc (ngt b n) n=-qc b n∧-9223372036854775808≤ngt b n∧ngt b n≤9223372036854775807:=by
 rcases qv b n h with rfl|rfl
 ·have hm:=(xl b).1 h
  have e:ngt b 64=if b<0 then b+9223372036854775808 else b-9223372036854775808:=by
   unfold ngt
   rw[if_pos h,if_pos rfl]
  rw[xl,e]
  unfold qc
  simp only[if_pos]
  by_cases hb:b<0
  ·rw[if_pos hb,if_pos hb,if_neg (by omega)]
   omega
  ·rw[if_neg hb,if_neg hb,if_pos (by omega)]
   omega
 ·have hm:=(xo b).1 h
  have e:ngt b 32=if b<2147483648 then b+2147483648 else b-2147483648:=by
   unfold ngt
   rw[if_pos h,if_neg (by decide)]
  rw[xo,e,Qr,Qr]
  by_cases hb:b<2147483648
  ·rw[if_pos hb,if_pos (by omega),if_neg (by omega)]
   omega
  ·rw[if_neg hb,if_neg (by omega),if_pos (by omega)]
   omega
theorem XM (x:Nat)(hx:x<18446744073709551616):x=qo FloatKind.f64.format x+(if below FloatKind.f64.format x=true then 9223372036854775808 else 0):=by
 unfold below qo
 rw[V8]
 have h1:=Nat.div_add_mod x 9223372036854775808
 rcases(show x/9223372036854775808=0∨x/9223372036854775808=1 by omega)with h|h
 ·simp[h];omega
 ·simp[h];omega
theorem Fl.neg {n:Int}{x:Nat}{k:Int}(h:Fl n x k):Fl n (Op.negFloat .f64 x) (-k):=by
 have hlt:=h.lt
 obtain⟨b,b1,b2,rfl,rfl⟩:=h
 obtain⟨g1,g2,g3,g4⟩:=qk8 b n b1 b2.1 b2.2
 refine⟨ngt b n,g1,⟨g3,g4⟩,g2,?_⟩
 rw[Kw _ hlt]
 have hl2:fl (ngt b n) n<18446744073709551616:=(Fl.of _ n g1 g3 g4).lt
 rcases zN b n b1 with ⟨rfl,c⟩|⟨rfl,c⟩
 ·have e:ngt b 64=if b<0 then b+9223372036854775808 else b-9223372036854775808:=by
   unfold ngt
   rw[if_pos b1,if_pos rfl]
  simp only[fl,if_pos]at *
  have p1:=xK b
  have p2:=xK (ngt b 64)
  rw[e]at p2 ⊢
  split at p2<;>rename_i hb
  ·rw[if_pos hb];omega
  ·rw[if_neg hb];omega
 ·have c2:cls (ngt b 32) 32≠4:=by simpa [qj] using g1
  have v1:=qV b c
  have v2:=qV _ c2
  have e:ngt b 32=if b<2147483648 then b+2147483648 else b-2147483648:=by
   unfold ngt
   rw[if_pos b1,if_neg (by decide)]
  have hr1:qo FloatKind.f32.format (qt b)≤FloatKind.f32.format.infRung:=by have:=mt (jF b).2 c;omega
  have hr2:qo FloatKind.f32.format (qt (ngt b 32))≤FloatKind.f32.format.infRung:=by have:=mt (jF (ngt b 32)).2 c2;omega
  have q1:=vT b v1
  have q2:=vT _ v2
  have qe:qo FloatKind.f32.format (qt (ngt b 32))=qo FloatKind.f32.format (qt b):=by
   rw[e]at q2 ⊢
   split at q2<;>rename_i hb
   ·rw[if_pos hb];omega
   ·rw[if_neg hb];omega
  have s1:=yI b v1
  have s2:=yI _ v2
  have se:below FloatKind.f32.format (qt (ngt b 32))=!below FloatKind.f32.format (qt b):=by
   rw[s1,s2,e]
   by_cases hb:b<2147483648
   ·rw[if_pos hb,qos (by omega),qot (by omega)];rfl
   ·rw[if_neg hb,qot (by omega),qos (by omega)];rfl
  have x1:fl b 32=W (qt b):=by simp[fl];rfl
  have x2:fl (ngt b 32) 32=W (qt (ngt b 32)):=by simp[fl];rfl
  rw[x1]at hlt
  rw[x1,x2]
  obtain⟨w1,w2⟩:=qaq _ hr1
  obtain⟨u1,u2⟩:=qaq _ hr2
  have re:qo FloatKind.f64.format (W (qt (ngt b 32)))=qo FloatKind.f64.format (W (qt b)):=by
   have a1:=qcf _ _ hr1 hr2
   have a2:=qcf _ _ hr2 hr1
   omega
  have z1:=XM _ hlt
  have z2:=XM _ hl2
  rw[x2]at z2
  have rl:qo FloatKind.f64.format (W (qt b))<9223372036854775808:=by
   unfold qo
   rw[V8]
   exact Nat.mod_lt _ (by decide)
  rw[re,u2,se,←w2]at z2
  generalize W (qt b)=X at *
  generalize W (qt (ngt b 32))=Y at *
  cases hbe:below FloatKind.f64.format X
  ·rw[hbe]at z1 z2
   simp at z1 z2
   omega
  ·rw[hbe]at z1 z2
   simp at z1 z2
   omega
theorem Jq {P:Program}(n:Int)(x y:Nat)(k j:Int)(hx:Fl n x k)(hy:Fl n y j):∃z,Fl n z (min k j)∧∀(ts:Array TypeId) (t:TypeId) (w:World),(Builtin.min_ ts t #[.float .f64 x,.float .f64 y]).run P w=.ok (.float .f64 z) w:=by
 have ho:=hx.ord hy
 rcases Int.lt_trichotomy k j with h|h|h
 ·rw[←vi h]at ho
  refine⟨x,by rw[show min k j=k by omega];exact hx,fun ts t w=>?_⟩
  simp[Builtin.min_,Builtin.min2,ho]
 ·rw[←vS h]at ho
  refine⟨if (FloatKind.f64.decode x).neg then x else y,?_,fun ts t w=>?_⟩
  ·split
   ·rw[show min k j=k by omega];exact hx
   ·rw[show min k j=j by omega];exact hy
  ·simp[Builtin.min_,Builtin.min2,ho]
 ·rw[←vj h]at ho
  refine⟨y,by rw[show min k j=j by omega];exact hy,fun ts t w=>?_⟩
  simp[Builtin.min_,Builtin.min2,ho]
theorem Jr {P:Program}(n:Int)(x y:Nat)(k j:Int)(hx:Fl n x k)(hy:Fl n y j):∃z,Fl n z (max k j)∧∀(ts:Array TypeId) (t:TypeId) (w:World),(Builtin.max_ ts t #[.float .f64 x,.float .f64 y]).run P w=.ok (.float .f64 z) w:=by
 have ho:=hx.ord hy
 rcases Int.lt_trichotomy k j with h|h|h
 ·rw[←vi h]at ho
  refine⟨y,by rw[show max k j=j by omega];exact hy,fun ts t w=>?_⟩
  simp[Builtin.max_,Builtin.max2,ho]
 ·rw[←vS h]at ho
  refine⟨if (FloatKind.f64.decode x).neg then y else x,?_,fun ts t w=>?_⟩
  ·split
   ·rw[show max k j=j by omega];exact hy
   ·rw[show max k j=k by omega];exact hx
  ·simp[Builtin.max_,Builtin.max2,ho]
 ·rw[←vj h]at ho
  refine⟨x,by rw[show max k j=k by omega];exact hx,fun ts t w=>?_⟩
  simp[Builtin.max_,Builtin.max2,ho]
theorem qb4 (b n:Int)(h:qj b n=true)(h1:-9223372036854775808≤b)(h2:b≤9223372036854775807):can b n=pz n (qc b n):=by
 rcases qv b n h with rfl|rfl
 ·have hm:=(xl b).1 h
  unfold can pz qc
  rw[if_pos h]
  simp only[if_pos]
  by_cases hb:b<0
  ·simp only[hb,if_pos]
   by_cases e:b=-9223372036854775808
   ·subst e;decide
   ·rw[if_neg e,if_pos (by omega)];omega
  ·simp only[hb,if_neg,if_false]
   rw[if_neg (by omega)]
 ·have hm:=(xo b).1 h
  unfold can
  rw[if_pos h,if_neg (by decide:¬(32:Int)=64),qk7,Qr]
  by_cases hb:2147483648≤b
  ·simp only[hb,if_pos]
   by_cases e:b=2147483648
   ·subst e;decide
   ·rw[if_neg e,if_pos (by omega)];omega
  ·simp only[hb,if_neg,if_false]
   rw[if_neg (by omega),if_neg (by omega)]
theorem Fl.pz (n k:Int)(hn:n=64∨n=32)(h1:-(ifn n:Int)≤k)(h2:k≤(ifn n:Int)):Fl n (fl (pz n k) n) k:=by
 have hr:=yK n k hn h1 h2
 have:=Fl.of (Go.Proofs.YtaglkncdedeipaaGreatDoor.pz n k) n (JP n k hn h1 h2) hr.1 hr.2
 rw[JQ n k hn h1 h2]at this
 exact this
theorem Fl.zero (n:Int)(hn:n=64∨n=32):Fl n 0 0:=by
 rcases hn with rfl|rfl
 ·exact⟨0,by decide,by decide,by decide,by decide+kernel⟩
 ·exact⟨0,by decide,by decide,by decide,by decide+kernel⟩
def flv (b n:Int):Nat:=if qj b n=true then fl b n else if n=64∨n=32 then 9221120237041090561 else 0
def Kx (b n:Int):Int:=if n=64 then cln b 64 else if n=32 then cvw b else 0
theorem qff (b n m:Int)(h1:(n==32)=false)(h2:(n==64)=false)(w:World):Calls Tryz.prog 103 #[.int .i64 b,.int .i64 n,.int .i64 m] w fun e w'=>e=.returned (.int .i64 0)∧Kept w w':=by
 have KL:Hid (∀u,Calls Tryz.prog 129 #[.int .i64 n] u fun e w'=>e=.returned (.tuple #[.agg #[.int .i64 0,.int .i64 0,.int .i64 0,.int .i64 0,.int .i64 0],.bool false])∧Kept u w'):=fun u=>vG n h1 h2 u
 go_enter Tryz.func103,Tryz.ntmps103
 go_wp2_with (first|(go_at_call 129;refine(KL.out _).mono ?_;rintro e w1 ⟨rfl,k1⟩))
 go_ret
 exact⟨rfl,k1.alloc _ _⟩
theorem qfg (b n:Int)(hb1:-9223372036854775808≤b)(hb2:b≤9223372036854775807)(w:World):Calls Tryz.prog 103 #[.int .i64 b,.int .i64 n,.int .i64 64] w fun e w'=>e=.returned (.int .i64 (Kx b n))∧Kept w w':=by
 unfold Kx
 by_cases h64:n=64
 ·subst h64
  rw[if_pos rfl]
  exact kR b hb1 hb2 w
 ·by_cases h32:n=32
  ·subst h32
   rw[if_neg (by decide),if_pos rfl]
   exact X7 b w
  ·rw[if_neg h64,if_neg h32]
   exact qff b n 64 (by simpa using h32) (by simpa using h64) w
theorem qik (b n:Int):zn (Kx b n)=flv b n:=by
 unfold Kx flv fl
 by_cases h64:n=64
 ·subst h64
  rw[if_pos rfl,YJ]
  by_cases hc:cls b 64=4
  ·rw[if_neg (by simp[hc]),if_pos (.inl rfl)]
   unfold cln
   rw[if_pos hc,if_pos rfl]
   decide
  ·rw[if_pos (by simp[hc]),if_pos rfl]
   unfold cln
   rw[if_neg hc]
 ·by_cases h32:n=32
  ·subst h32
   rw[if_neg (by decide),if_pos rfl,qgw]
   by_cases hc:cls b 32=4
   ·rw[if_neg (by simp[hc]),if_pos (.inr rfl)]
    unfold cvw
    rw[if_pos hc]
    decide
   ·rw[if_pos (by simp[hc]),if_neg (by decide)]
    exact(Zf b hc).1
  ·rw[if_neg h64,if_neg h32,if_neg (by simp[jW b n h64 h32]),if_neg (by simp[h64,h32])]
   decide
theorem jC (b n:Int)(hb1:-9223372036854775808≤b)(hb2:b≤9223372036854775807)(w:World):Calls Tryz.prog 85 #[.int .i64 b,.int .i64 n] w fun e w'=>e=.returned (.float .f64 (flv b n))∧Kept w w':=by
 have KC:Hid (∀u,Calls Tryz.prog 103 #[.int .i64 b,.int .i64 n,.int .i64 64] u fun e w'=>e=.returned (.int .i64 (Kx b n))∧Kept u w'):=fun u=>qfg b n hb1 hb2 u
 have KF:Hid (∀u,Calls Tryz.prog 115 #[.int .i64 (Kx b n)] u fun e w'=>e=.returned (.float .f64 (flv b n))∧u=w'):=fun u=>by
  rw[←qik]
  exact XV (Kx b n) u
 generalize Kx b n=c at *
 generalize flv b n=x at *
 go_enter Tryz.func85,Tryz.ntmps85
 go_wp2_with (first|(go_at_call 103;refine(KC.out _).mono ?_;rintro e w1 ⟨rfl,k1⟩)|(go_at_call 115;refine(KF.out _).mono ?_;rintro e w2 ⟨rfl,rfl⟩))
 go_ret
 exact⟨rfl,k1⟩
theorem Fl.flv {b n:Int}(h:qj b n=true)(h1:-9223372036854775808≤b)(h2:b≤9223372036854775807):Fl n (flv b n) (qc b n):=by
 unfold Go.Proofs.YtaglkncdedeipaaGreatDoor.flv
 rw[if_pos h]
 exact Fl.of b n h h1 h2
theorem Q5 {n:Int}{x:Nat}{k:Int}(h:Fl n x k)(w:World):Calls Tryz.prog 76 #[.float .f64 x,.int .i64 n] w fun e w'=>e=.returned (.int .i64 (pz n k))∧Kept w w':=by
 have hh:=h
 obtain⟨q,-,-,o1,o2,o3,o4,o5,o6⟩:=hh.wide
 obtain⟨b,b1,b2,rfl,rfl⟩:=h
 have KO:Hid (∀u,Calls Tryz.prog 104 #[.float .f64 (fl b n)] u fun e w'=>e=.returned (.int .i64 (qw (fl b n)))∧u=w'):=fun u=>yE _ u
 have KC:Hid (∀u,Calls Tryz.prog 103 #[.int .i64 (qw (fl b n)),.int .i64 64,.int .i64 n] u fun e w'=>e=.returned (.int .i64 b)∧Kept u w'):=fun u=>by
  rcases zN b n b1 with ⟨rfl,c⟩|⟨rfl,c⟩
  ·have e:qw (fl b 64)=b:=by
    have:=qao b b2.1 b2.2
    rw[if_neg c]at this
    simpa [fl] using this
   have hc:cln b 64=b:=by unfold cln;rw[if_neg c]
   have:=kR b b2.1 b2.2 u
   rw[hc]at this
   rw[e]
   exact this
  ·have e:qw (fl b 32)=cvw b:=by
    rw[o1]
    unfold cvw
    rw[if_neg c]
    simp[fl]
   have hc:cln b 32=b:=by unfold cln;rw[if_neg c]
   have:=X8 b u
   rw[hc]at this
   rw[e]
   exact this
 have KN:Hid (∀u,Calls Tryz.prog 102 #[.int .i64 b,.int .i64 n] u fun e w'=>e=.returned (.int .i64 (pz n (qc b n)))∧Kept u w'):=fun u=>by
  rw[←qb4 b n b1 b2.1 b2.2]
  exact qfl b n u
 clear o1 o2 o3 o4 o5 o6 hh
 generalize qw (fl b n)=c at *
 generalize fl b n=x at *
 generalize pz n (qc b n)=d at *
 go_enter Tryz.func76,Tryz.ntmps76
 go_wp2_with (first|(go_at_call 104;refine(KO.out _).mono ?_;rintro e w1 ⟨rfl,rfl⟩)|(go_at_call 103;refine(KC.out _).mono ?_;rintro e w2 ⟨rfl,k2⟩)|(go_at_call 102;refine(KN.out _).mono ?_;rintro e w3 ⟨rfl,k3⟩))
 go_ret
 exact⟨rfl,k2.trans k3⟩
theorem qm6 (x:Nat)(h:qo FloatKind.f64.format x≤FloatKind.f64.format.infRung):(FloatKind.f64.format.order x 9218868437227405311==some .gt)=decide (key FloatKind.f64.format x=(ifn 64:Int)):=by
 have hm:qo FloatKind.f64.format 9218868437227405311≤FloatKind.f64.format.infRung:=by decide+kernel
 have hk:key FloatKind.f64.format 9218868437227405311=9218868437227405311:=by decide+kernel
 rw[yW _ _ _ Ze h hm,hk,XL]
 have hi:(ifn 64:Int)=9218868437227405312:=by decide
 rw[hi]
 rw[qam]at h
 have:key FloatKind.f64.format x≤9218868437227405312:=by unfold key;split<;>omega
 rw[Bool.eq_iff_iff,qor,qor]
 omega
theorem Fl.gt {n:Int}{x:Nat}{k:Int}(h:Fl n x k):(FloatKind.f64.format.order x 9218868437227405311==some .gt)=decide (k=(ifn n:Int)):=by
 obtain⟨q,hq,hK,o1,o2,o3,o4,o5,o6⟩:=h.wide
 rw[qm6 x h.le,Bool.eq_iff_iff,qor,qor,hK.top]
 rw[←o3,←jS _ o4 o5,o6]
theorem qil {n:Int}{x:Nat}{k:Int}(h:Fl n x k)(w:World):Calls Tryz.prog 81 #[.float .f64 x,.int .i64 1] w fun e w'=>e=.returned (.bool (decide (k=(ifn n:Int))))∧w=w':=by
 have hg:=h.gt
 clear h
 generalize decide (k=(ifn n:Int))=t at *
 go_enter Tryz.func81,Tryz.ntmps81
 go_wp2
 go_ret
 exact⟨rfl,rfl⟩
theorem qb5 {n:Int}{x:Nat}{k:Int}(h:Fl n x k)(w:World):Calls Tryz.prog 81 #[.float .f64 x,.int .i64 (-1)] w fun e w'=>e=.returned (.bool (decide (k=-(ifn n:Int))))∧w=w':=by
 have hg:=h.neg.gt
 have e:decide (-k=(ifn n:Int))=decide (k=-(ifn n:Int)):=by rw[Bool.eq_iff_iff,qor,qor];omega
 rw[e]at hg
 have hN:∀(wx:World),(Op.unary .neg (.float .f64 x)).run Tryz.prog wx=.ok (.float .f64 (Op.negFloat .f64 x)) wx:=fun _=>rfl
 clear h e
 generalize decide (k=-(ifn n:Int))=t at *
 generalize Op.negFloat .f64 x=y at *
 go_enter Tryz.func81,Tryz.ntmps81
 go_wp2
 go_ret
 exact⟨rfl,rfl⟩
theorem qim (x:Nat)(h:x<18446744073709551616):bits .andNot .u64 (x:Int) 9223372036854775808=((x%9223372036854775808:Nat):Int):=by
 have e:(~~~ BitVec.ofInt 64 9223372036854775808:BitVec 64).toNat=2^63-1:=by decide
 have h1:(BitVec.ofInt 64 (x:Int)).toNat=x:=by
  rw[BitVec.ofInt_natCast,BitVec.toNat_ofNat];exact Nat.mod_eq_of_lt (by omega)
 show IntKind.u64.wrap ((BitVec.ofInt 64 (x:Int)&&& ~~~ BitVec.ofInt 64 9223372036854775808).toNat:Int)=_
 rw[BitVec.toNat_and,e,h1,Nat.and_two_pow_sub_one_eq_mod,IntKind.wrap_u64]
 omega
theorem Fl.abs {n:Int}{x:Nat}{k:Int}(h:Fl n x k):Fl n (x%9223372036854775808) (k.natAbs:Int):=by
 have hlt:=h.lt
 have hle:=h.le
 obtain⟨q,hq,hK,o1,o2,o3,o4,o5,o6⟩:=h.wide
 have hs:=(Qq x hle hlt).2
 rw[←o1,o3]at hs
 have hn:=hK.neg
 have hp:=hK.pos
 by_cases hx:x<9223372036854775808
 ·have hb:below FloatKind.f64.format x=false:=by
   unfold below
   rw[V8,show x/9223372036854775808=0 by omega]
   rfl
  rw[hb,V6]at hs
  rw[Nat.mod_eq_of_lt hx,show((k.natAbs:Nat):Int)=k by omega]
  exact h
 ·have hb:below FloatKind.f64.format x=true:=by
   unfold below
   rw[V8,show x/9223372036854775808=1 by omega]
   rfl
  rw[hb,V7]at hs
  have:=h.neg
  rw[Kw x hlt]at this
  rw[show x%9223372036854775808=(x+9223372036854775808)%18446744073709551616 by omega,show((k.natAbs:Nat):Int)=-k by omega]
  exact this
theorem qk9 (x:Nat)(h:x<18446744073709551616)(w:World):Calls Tryz.prog 107 #[.float .f64 x] w fun e w'=>e=.returned (.float .f64 (x%9223372036854775808))∧w=w':=by
 have h1:=qim x h
 have c1:=Za x
 have c2:∀wx:World,(callFunc 136 #[.int .u64 ((x%9223372036854775808:Nat):Int)]).run Tryz.prog wx=.ok (.value (.float .f64 (x%9223372036854775808))) wx:=fun wx=>by
  have:=jR ((x%9223372036854775808:Nat):Int) wx
  rw[Int.toNat_natCast]at this
  exact this
 clear h
 generalize x%9223372036854775808=y at *
 go_enter Tryz.func107,Tryz.ntmps107
 go_wp2_with (simp only[c1,c2,h1])
 go_ret
 exact⟨rfl,rfl⟩
theorem jZ {n:Int}{x:Nat}{k:Int}(h:Fl n x k)(w:World):Calls Tryz.prog 81 #[.float .f64 x,.int .i64 0] w fun e w'=>e=.returned (.bool (decide (k=(ifn n:Int)∨k=-(ifn n:Int))))∧w=w':=by
 have hg:=h.abs.gt
 have e:decide ((k.natAbs:Int)=(ifn n:Int))=decide (k=(ifn n:Int)∨k=-(ifn n:Int)):=by
  have:=jw n
  rw[Bool.eq_iff_iff,qor,qor]
  omega
 rw[e]at hg
 have KA:Hid (∀u,Calls Tryz.prog 107 #[.float .f64 x] u fun e w'=>e=.returned (.float .f64 (x%9223372036854775808))∧u=w'):=fun u=>qk9 x h.lt u
 clear h e
 generalize decide (k=(ifn n:Int)∨k=-(ifn n:Int))=t at *
 generalize x%9223372036854775808=y at *
 go_enter Tryz.func81,Tryz.ntmps81
 go_wp2_with (first|(go_at_call 107;refine(KA.out _).mono ?_;rintro e w1 ⟨rfl,rfl⟩))
 go_ret
 exact⟨rfl,rfl⟩
structure P2 (w:World) (b:Nat) (u v:Value):Prop where
 c0:w.cell? ⟨b,0,none⟩=some u
 c1:w.cell? ⟨b,1,none⟩=some v
 fz:∀o,w.frozen? ⟨b,o,none⟩=false
theorem P2.new (w:World)(u v:Value)(t:TypeId):P2 (w.alloc (.cells #[u,v] t)) w.heap.size u v:=⟨by simp[go_sem],by simp[go_sem],fun o=>by simp[go_sem]⟩
theorem P2.lt {w:World}{b:Nat}{u v:Value}(h:P2 w b u v):b<w.heap.size:=by
 have:=h.c0
 by_cases hb:b<w.heap.size
 ·exact hb
 ·have hg:w.heap[b]?=none:=by simp at hb ⊢;omega
  simp[World.cell?,hg]at this
theorem P2.kept {w w':World}{b:Nat}{u v:Value}(h:P2 w b u v)(k:Kept w w'):P2 w' b u v:=
 ⟨(k.below.cell (p:=⟨b,0,none⟩) h.lt).trans h.c0,(k.below.cell (p:=⟨b,1,none⟩) h.lt).trans h.c1,fun o=>(k.frozen _).trans (h.fz o)⟩
theorem P2.put {w:World}{b:Nat}{u v:Value}(h:P2 w b u v)(x y:Value):P2 ((w.setCell ⟨b,0,none⟩ x).setCell ⟨b,1,none⟩ y) b x y:=by
 obtain⟨c0,c1,fz⟩:=h
 exact⟨by simp[go_sem, *],by simp[go_sem, *],fun o=>by simp[World.frozen?_setCell, *]⟩
theorem P2.newk {w u:World}{a b:Value}{t:TypeId}(k:Kept (w.alloc (.cells #[a,b] t)) u):P2 u w.heap.size a b:=(P2.new w a b t).kept k
theorem P2.newd {w u:World}{a b:Value}{t:TypeId}(k:Kept (w.drew.alloc (.cells #[a,b] t)) u):P2 u w.heap.size a b:=P2.newk (w:=w.drew) k
theorem P2.newe {w u:World}{a b:Value}{t:TypeId}(k:Kept (w.alloc (.cells #[a,b] t)).drew u):P2 u w.heap.size a b:=P2.newk (((qo0 _).drew).trans k)
theorem jx (a:Addr)(x:Nat)(m:Mode)(w:World):(store a (.float .f64 x) m).run Tryz.prog w=stored Tryz.prog w a (.float .f64 x) m:=run_store Tryz.prog w a _ m rfl
abbrev zi:Value:=.agg #[.float .f64 0,.float .f64 0]
abbrev fv2 (x y:Nat):Value:=.agg #[.float .f64 x,.float .f64 y]
def RB (b:Int):Prop:=-9223372036854775808≤b∧b≤9223372036854775807
theorem qin (lo hi n:Int)(g1:(n==32)=false)(g2:(n==64)=false)(w:World):Calls Tryz.prog 66 #[.agg #[.int .i64 lo,.int .i64 hi],.int .i64 n] w fun e w'=>e=.returned (.tuple #[zi,.int .i64 3])∧Kept w w':=by
 have KV:Hid (∀u,Calls Tryz.prog 65 #[.int .i64 0,.int .i64 n] u fun e w'=>e=.returned (.bool false)∧u=w'):=fun u=>X9 0 n g1 g2 u
 have hSF:=jx
 go_enter Tryz.func66,Tryz.ntmps66
 go_wp2_with (first|(go_at_call 65;refine(KV.out _).mono ?_;rintro e w1 ⟨rfl,rfl⟩))
 refine qoz (v:=.tuple #[zi,.int .i64 3]) (by simp[results,Tryz.results66,go_sem]) rfl ⟨rfl,?_⟩
 (repeat' first|assumption|exact qo0 _|exact Kept.alloc (by assumption) _ _|refine Kept.setCell ?_ ?_ _|refine Kept.alloc ?_ _ _|(simp<;>omega))
theorem Q6 (lo hi n:Int)(x y:Nat)(t1 t2 t3:Bool)(w:World)
  (KV:Hid (∀u,Calls Tryz.prog 65 #[.int .i64 0,.int .i64 n] u fun e w'=>e=.returned (.bool true)∧u=w'))
  (KF:Hid (∀u b z,(b=lo∧z=x∨b=hi∧z=y)→Calls Tryz.prog 85 #[.int .i64 b,.int .i64 n] u fun e w'=>e=.returned (.float .f64 z)∧Kept u w'))
  (hle:(FloatKind.f64.format.order x y==some .lt||FloatKind.f64.format.order x y==some .eq)=t1)
  (K2:Hid (t1=true→∀u,Calls Tryz.prog 81 #[.float .f64 x,.int .i64 1] u fun e w'=>e=.returned (.bool t2)∧u=w'))
  (K3:Hid (t1=true→∀u,Calls Tryz.prog 81 #[.float .f64 y,.int .i64 (-1)] u fun e w'=>e=.returned (.bool t3)∧u=w')):
  Calls Tryz.prog 66 #[.agg #[.int .i64 lo,.int .i64 hi],.int .i64 n] w fun e w'=>e=.returned (if (t1&&!t2&&!t3)=true then .tuple #[fv2 x y,.int .i64 0]else .tuple #[zi,.int .i64 1])∧Kept w w':=by
 obtain⟨X,hX⟩:∃X,X=(w.alloc (.cells #[.int .i64 lo,.int .i64 hi] 23)).alloc (.cells #[.float .f64 0,.float .f64 0] 68):=⟨_,rfl⟩
 have hP:P2 X w.heap.size (.int .i64 lo) (.int .i64 hi):=by
  rw[hX]
  exact(P2.new w _ _ _).kept ((qo0 _).alloc _ _)
 have hQ:P2 X (w.heap.size+1) (.float .f64 0) (.float .f64 0):=by
  rw[hX]
  have:=P2.new (w.alloc (.cells #[.int .i64 lo,.int .i64 hi] 23)) (.float .f64 0) (.float .f64 0) 68
  simpa using this
 have hK:Kept w X:=by
  rw[hX]
  exact((qo0 w).alloc _ _).alloc _ _
 have hs:Hid (X.heap.size=w.heap.size+2):=by rw[hX];simp[Hid]
 have kd:Kept X X.drew:=(qo0 X).drew
 have HS:Hid (∀u,Kept X u→Kept X u∧u.cell? ⟨w.heap.size,0,none⟩=some (.int .i64 lo)∧u.cell? ⟨w.heap.size,1,none⟩=some (.int .i64 hi)):=fun u k=>⟨k,(hP.kept k).c0,(hP.kept k).c1⟩
 have KF':Hid (∀u b z,(b=lo∧z=x∨b=hi∧z=y)→Kept X u→Calls Tryz.prog 85 #[.int .i64 b,.int .i64 n] u fun e w'=>e=.returned (.float .f64 z)∧Kept X w'∧Kept u w'):=fun u b z h k=>by
  refine(KF.out u b z h).mono ?_
  rintro e w' ⟨rfl,k'⟩
  exact⟨rfl,k.trans k',k'⟩
 clear KF
 have hSF:=jx
 go_enter Tryz.func66,Tryz.ntmps66
 go_upto_region 1 with fail
 rw[←hX]
 clear hX
 go_upto_region 3 with (first|(go_at_call 65;refine(KV.out _).mono ?_;rintro e w1 ⟨rfl,rfl⟩))
 go_cut [6]from 11 to 19 (fun t6 wx=>∃B,t6=.pointer (some ⟨B,0,none⟩)∧X.heap.size≤B∧P2 wx B (.float .f64 x) (.float .f64 y)∧Kept X wx)
 case first=>
  go_region_held (fun u=>Kept X u∧u.cell? ⟨w.heap.size,0,none⟩=some (.int .i64 lo)∧u.cell? ⟨w.heap.size,1,none⟩=some (.int .i64 hi)) (first|assumption|exact HS.out _ kd|exact HS.out _ (by assumption)|exact HS.out _ (by repeat' first|assumption|exact Kept.alloc (by assumption) _ _|(refine Kept.setCell ?_ ?_ _)|exact qoo _|(simp;done)|(simp;omega))) (first|(go_at_call 85;refine(KF'.out _ _ _ (by first|exact .inl ⟨rfl,rfl⟩|exact .inr ⟨rfl,rfl⟩) (by first|assumption|exact Kept.alloc (by assumption) _ _)).mono ?_;rintro e w3 ⟨rfl,k3,j3⟩;have z3:=k3.below.size;first|(have q3:=P2.newe j3;have q3f:=q3.fz;have q30:=q3.c0;have q31:=q3.c1)|(have q3:=P2.newd j3;have q3f:=q3.fz;have q30:=q3.c0;have q31:=q3.c1)|(have q3:=P2.newk j3;have q3f:=q3.fz;have q30:=q3.c0;have q31:=q3.c1)|(have q4:=P2.kept q3 j3;have q4f:=q4.fz;have q40:=q4.c0;have q41:=q4.c1)|skip))
  all_goals go_wp2_with fail
  all_goals go_meet
  all_goals
   refine⟨_,rfl,?_,?_,?_⟩
   ·first|exact qoo _|omega
   ·first|exact q4.put _ _|exact q3.put _ _|exact P2.new _ _ _ _
   ·(repeat' first|assumption|exact Kept.alloc (by assumption) _ _|(refine Kept.setCell ?_ ?_ _)|exact qoo _|(simp;done)|(simp;omega))
 case rest=>
  obtain⟨B,rfl,hB,hPB,kc⟩:=hcut
  have hr:=hQ.kept kc
  obtain⟨b0,b1,bf⟩:=hPB
  obtain⟨r0,r1,rf⟩:=hr
  have hkw:∀a b:Value,Kept w ((wc.setCell ⟨w.heap.size+1,0,none⟩ a).setCell ⟨w.heap.size+1,1,none⟩ b):=fun a b=>((hK.trans kc).setCell (by simp) _).setCell (by simp) _
  have hz:=(P2.mk r0 r1 rf).put (.float .f64 0) (.float .f64 0)
  have hxy:=(P2.mk r0 r1 rf).put (.float .f64 x) (.float .f64 y)
  obtain⟨z0,z1,zf⟩:=hz
  obtain⟨y0,y1,yf⟩:=hxy
  clear hQ hP HS KF' KV kd hB kc
  cases t1
  ·go_wp2_with fail
   exact qoz (v:=.tuple #[zi,.int .i64 1]) (by simp[results,Tryz.results66,go_sem, *]) rfl ⟨rfl,hkw _ _⟩
  ·have KI:Hid (∀u z s t,(z=x∧s=1∧t=t2∨z=y∧s=-1∧t=t3)→Calls Tryz.prog 81 #[.float .f64 z,.int .i64 s] u fun e w'=>e=.returned (.bool t)∧u=w'):=fun u z s t h=>by
    rcases h with ⟨rfl,rfl,rfl⟩|⟨rfl,rfl,rfl⟩
    ·exact K2.out rfl u
    ·exact K3.out rfl u
   clear K2 K3
   cases t2
   ·cases t3
    ·go_wp2_with (first|(go_at_call 81;refine(KI.out _ _ _ _ (by first|exact .inl ⟨rfl,rfl,rfl⟩|exact .inr ⟨rfl,rfl,rfl⟩)).mono ?_;rintro e w4 ⟨rfl,rfl⟩))
     all_goals exact qoz (v:=.tuple #[fv2 x y,.int .i64 0]) (by simp[results,Tryz.results66,go_sem, *]) rfl ⟨rfl,hkw _ _⟩
    ·go_wp2_with (first|(go_at_call 81;refine(KI.out _ _ _ _ (by first|exact .inl ⟨rfl,rfl,rfl⟩|exact .inr ⟨rfl,rfl,rfl⟩)).mono ?_;rintro e w4 ⟨rfl,rfl⟩))
     all_goals exact qoz (v:=.tuple #[zi,.int .i64 1]) (by simp[results,Tryz.results66,go_sem, *]) rfl ⟨rfl,hkw _ _⟩
   ·go_wp2_with (first|(go_at_call 81;refine(KI.out _ _ _ _ (by first|exact .inl ⟨rfl,rfl,rfl⟩|exact .inr ⟨rfl,rfl,rfl⟩)).mono ?_;rintro e w4 ⟨rfl,rfl⟩))
    all_goals exact qoz (v:=.tuple #[zi,.int .i64 1]) (by simp[results,Tryz.results66,go_sem, *]) rfl ⟨rfl,hkw _ _⟩
def vsp (lo hi n:Int):Bool:=qj lo n&&qj hi n&&decide (qc lo n≤qc hi n)&&decide (qc lo n≠(ifn n:Int))&&decide (qc hi n≠-(ifn n:Int))
def opE (lo hi n:Int):Int:=if n=64∨n=32 then (if vsp lo hi n=true then 0 else 1)else 3
def opV (lo hi n:Int):Value:=if vsp lo hi n=true then fv2 (flv lo n) (flv hi n)else zi
theorem qla (x y:Nat)(h:FloatKind.f64.format.infRung<qo FloatKind.f64.format x∨FloatKind.f64.format.infRung<qo FloatKind.f64.format y):FloatKind.f64.format.order x y=none:=by
 rcases h with h|h
 ·exact ju _ _ _ Ze h
 ·exact vY _ _ _ Ze h
theorem qde (b n:Int)(hn:n=64∨n=32)(h:qj b n=false):FloatKind.f64.format.infRung<qo FloatKind.f64.format (flv b n):=by
 unfold flv
 rw[if_neg (by simp[h]),if_pos hn]
 decide+kernel
theorem qm7 (k j:Int):(some (compare k j)==some Ordering.lt||some (compare k j)==some Ordering.eq)=decide (k≤j):=by
 rw[qfv,xi,Bool.eq_iff_iff]
 simp
 omega
theorem Zv (lo hi n:Int)(h:qj lo n=false∨qj hi n=false):vsp lo hi n=false:=by
 unfold vsp
 rcases h with h|h<;>simp[h]
theorem Js (lo hi n:Int)(h1:RB lo)(h2:RB hi)(w:World):Calls Tryz.prog 66 #[.agg #[.int .i64 lo,.int .i64 hi],.int .i64 n] w fun e w'=>e=.returned (.tuple #[opV lo hi n,.int .i64 (opE lo hi n)])∧Kept w w':=by
 by_cases hn:n=64∨n=32
 ·have KV:Hid (∀u,Calls Tryz.prog 65 #[.int .i64 0,.int .i64 n] u fun e w'=>e=.returned (.bool true)∧u=w'):=fun u=>by
   have:=Xc 0 n u
   rw[show val 0 n=true by rcases hn with rfl|rfl<;>decide]at this
   exact this
  have KF:Hid (∀u b z,(b=lo∧z=flv lo n∨b=hi∧z=flv hi n)→Calls Tryz.prog 85 #[.int .i64 b,.int .i64 n] u fun e w'=>e=.returned (.float .f64 z)∧Kept u w'):=fun u b z h=>by
   rcases h with ⟨rfl,rfl⟩|⟨rfl,rfl⟩
   ·exact jC _ n h1.1 h1.2 u
   ·exact jC _ n h2.1 h2.2 u
  by_cases hnum:qj lo n=true∧qj hi n=true
  ·have f1:=Fl.flv hnum.1 h1.1 h1.2
   have f2:=Fl.flv hnum.2 h2.1 h2.2
   have ho:=f1.ord f2
   refine(Q6 lo hi n (flv lo n) (flv hi n) (decide (qc lo n≤qc hi n)) (decide (qc lo n=(ifn n:Int))) (decide (qc hi n=-(ifn n:Int))) w KV KF (by rw[ho,qm7]) (fun _ u=>qil f1 u) (fun _ u=>qb5 f2 u)).mono ?_
   rintro e w' ⟨rfl,k⟩
   refine⟨?_,k⟩
   have hv:vsp lo hi n=(decide (qc lo n≤qc hi n)&&!decide (qc lo n=(ifn n:Int))&&!decide (qc hi n=-(ifn n:Int))):=by
    unfold vsp
    rw[hnum.1,hnum.2]
    simp
   unfold opV opE
   rw[if_pos hn,←hv]
   by_cases hvv:vsp lo hi n=true
   ·simp only[if_pos hvv]
   ·simp only[if_neg hvv]
  ·have hne:qj lo n=false∨qj hi n=false:=by
    cases h:qj lo n<;>cases h':qj hi n<;>simp_all
   have hv:=Zv lo hi n hne
   have ho:FloatKind.f64.format.order (flv lo n) (flv hi n)=none:=qla _ _ (by
    rcases hne with h|h
    ·exact .inl (qde lo n hn h)
    ·exact .inr (qde hi n hn h))
   refine(Q6 lo hi n (flv lo n) (flv hi n) false false false w KV KF (by rw[ho];rfl) (fun h=>by cases h) (fun h=>by cases h)).mono ?_
   rintro e w' ⟨rfl,k⟩
   refine⟨?_,k⟩
   unfold opV opE
   rw[if_pos hn,if_neg (by simp[hv])]
   simp[hv]
 ·have g1:(n==32)=false:=by simp;omega
  have g2:(n==64)=false:=by simp;omega
  refine(qin lo hi n g1 g2 w).mono ?_
  rintro e w' ⟨rfl,k⟩
  refine⟨?_,k⟩
  have hv:=Zv lo hi n (.inl (jW lo n (by omega) (by omega)))
  unfold opV opE
  rw[if_neg hn,if_neg (by simp[hv])]
theorem Ky (lo hi n:Int):∃x y,opV lo hi n=fv2 x y∧(vsp lo hi n=true→x=flv lo n∧y=flv hi n)∧(vsp lo hi n=false→x=0∧y=0):=by
 unfold opV
 by_cases h:vsp lo hi n=true
 ·rw[if_pos h]
  exact⟨_,_,rfl,fun _=>⟨rfl,rfl⟩,fun g=>by rw[h]at g;cases g⟩
 ·rw[if_neg h]
  exact⟨_,_,rfl,fun g=>absurd g h,fun _=>⟨rfl,rfl⟩⟩
theorem vB (lo hi n:Int):opE lo hi n=0↔vsp lo hi n=true:=by
 unfold opE
 by_cases hn:n=64∨n=32
 ·rw[if_pos hn]
  split<;>simp_all
 ·rw[if_neg hn,Zv lo hi n (.inl (jW lo n (by omega) (by omega)))]
  simp
end Go.Proofs.YtaglkncdedeipaaGreatDoor
