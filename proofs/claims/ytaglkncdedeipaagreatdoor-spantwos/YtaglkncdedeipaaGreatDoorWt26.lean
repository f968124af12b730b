/-  -/
import Derived.Test.YtaglkncdedeipaaGreatDoorWt25
import Derived.Test.YtaglkncdedeipaaGreatDoorWt13
import Derived.Test.YtaglkncdedeipaaGreatDoorWt06
import Derived.Test.YtaglkncdedeipaaGreatDoorWt10
import Derived.Outline
import Derived.Deep.RegionHeld
import Derived.Test.YtaglkncdedeipaaGreatDoorWt11
import Derived.Test.YtaglkncdedeipaaGreatDoorWt19
import Derived.Test.YtaglkncdedeipaaGreatDoorWt20
import Derived.Test.YtaglkncdedeipaaGreatDoorWt09
namespace Go.Proofs.YtaglkncdedeipaaGreatDoor
open Go.ChangeShapes Go.WideShapes Go.ChangeAt Go.RowKit
set_option linter.unusedVariables false
set_option linter.unusedSimpArgs false
set_option maxHeartbeats 16000000
set_option maxRecDepth 100000
theorem Xu (n way:Int)(hn:n=64∨n=32)(hw:way=0∨way=1∨way=2)(a b:Nm)(ha:vld a=true)(hb:vld b=true)(ham:a.mag≠[])(hbm:b.mag≠[])(k Q H F:Nat)(od hf rt:Bool)(hC:Cutz (cbn n) (2^(qk n-(-5000000)).toNat*(nv b.mag*2^(b.exp-(-5000000)).toNat)) (nv a.mag*2^(a.exp-2*(-5000000)).toNat) k Q H F od hf rt)(va vb:Value)(w:World)(h1:RL w va a.mag)(h2:RL w vb b.mag):Calls Tryz.prog 174 #[knd n,.agg #[.bool a.neg,va,.int .i64 a.exp],.agg #[.bool b.neg,vb,.int .i64 b.exp],.int .i64 way] w fun e w'=>e=.returned (.tuple #[.int .i64 (pz n (kyz (a.neg != b.neg) (mgz way (a.neg != b.neg) (ifn n) F od hf rt))),.bool (odz way (a.neg != b.neg) (ifn n) F od hf rt)])∧Kept w w':=by
 obtain⟨da,a0,la,xa1,xa2⟩:=kQ a ha ham
 obtain⟨db,b0,lb,xb1,xb2⟩:=kQ b hb hbm
 have hTa:=Yf a ha ham
 have hTb:=Yf b hb hbm
 obtain⟨pm1,pm2,pm3,pm4⟩:=qn7 n hn
 obtain⟨sh,hsh⟩:∃sh:Nat,(sh:Int)=max 0 ((bl (nv b.mag):Int)-(bl (nv a.mag):Int)+qM n+2):=⟨(max 0 ((bl (nv b.mag):Int)-(bl (nv a.mag):Int)+qM n+2)).toNat,by omega⟩
 obtain⟨e,he⟩:∃e,e=a.exp-b.exp-sh:=⟨_,rfl⟩
 obtain⟨u,hu⟩:∃u,unz (qM n).toNat (qk n) (bl (nv a.mag*2^sh/nv b.mag)) e=u:=⟨_,rfl⟩
 obtain⟨k',hk'⟩:∃k',flo (nv a.mag*2^sh/nv b.mag) (e-u)=k':=⟨_,rfl⟩
 obtain⟨F',hF'⟩:∃F',F'=(u-qk n).toNat*cbn n+k':=⟨_,rfl⟩
 obtain⟨Q',H',hD⟩:=qd3 n hn (nv a.mag) (nv b.mag) a0 b0 a.exp b.exp (-5000000) e sh (by omega) he (by omega) (by omega) (by omega) u hu k' F' hk' hF'
 have hS:=qd8 hC hD (XF n hn) way hw (a.neg != b.neg) (ifn n)
 rw[hS.1,hS.2]
 obtain⟨p1,-,-⟩:=xz n hn
 have hq:=J8 (nv a.mag) (nv b.mag) sh (qM n).toNat a0 b0 (by omega)
 have hq0:nv a.mag*2^sh/nv b.mag≠0:=by
  intro h0
  rw[h0,xP]at hq
  omega
 have hl1:=qf4 (nv a.mag) sh 5000 (by omega)
 have hl2:=Ym (nv a.mag*2^sh/nv b.mag) (nv a.mag*2^sh) (Nat.div_le_self _ _)
 rw[←da]at h1 la
 rw[←db]at h2 lb
 have hM:=Yb way (a.neg != b.neg) (ifn n) F' (decide (k'%2=1)) (decide (flo (nv a.mag*2^sh/nv b.mag) (e-u+1)%2=1)) (decide (nv a.mag*2^sh%nv b.mag≠0)||rst (nv a.mag*2^sh/nv b.mag) (e-u+1))
 rcases hn with rfl|rfl
 ·refine J9 64 53 4503599627370496 2047 (-1074) 1024 9218868437227405312 (-9223372036854775808) 9221120237041090561 (by decide) (nv a.mag) (nv b.mag) a0 b0 a.neg b.neg a.exp b.exp ⟨xa1,xa2⟩ ⟨xb1,xb2⟩ va vb w h1 h2 la lb sh hsh way ((if (a.neg != b.neg)=true then (-9223372036854775808:Int)else 0)+(mgz way (a.neg != b.neg) (ifn 64) F' (decide (k'%2=1)) (decide (flo (nv a.mag*2^sh/nv b.mag) (e-u+1)%2=1)) (decide (nv a.mag*2^sh%nv b.mag≠0)||rst (nv a.mag*2^sh/nv b.mag) (e-u+1)):Nat)) _ _ (fun v r1 hr=>?_) (fun v=>?_)
  ·rw[←he]
   exact qjl way hw (a.neg != b.neg) _ hq0 e _ r1 v hr (by omega) (by omega) (by omega) u hu k' hk' F' hF' _ _ _ rfl rfl rfl _ rfl
  ·have:=qf6 ((if (a.neg != b.neg)=true then (-9223372036854775808:Int)else 0)+(mgz way (a.neg != b.neg) (ifn 64) F' (decide (k'%2=1)) (decide (flo (nv a.mag*2^sh/nv b.mag) (e-u+1)%2=1)) (decide (nv a.mag*2^sh%nv b.mag≠0)||rst (nv a.mag*2^sh/nv b.mag) (e-u+1)):Nat)) (odz way (a.neg != b.neg) (ifn 64) F' (decide (k'%2=1)) (decide (flo (nv a.mag*2^sh/nv b.mag) (e-u+1)%2=1)) (decide (nv a.mag*2^sh%nv b.mag≠0)||rst (nv a.mag*2^sh/nv b.mag) (e-u+1))) v
   rw[qau _ _ hM]at this
   exact this
 ·refine J9 32 24 8388608 255 (-149) 128 2139095040 2147483648 2143289345 (by decide) (nv a.mag) (nv b.mag) a0 b0 a.neg b.neg a.exp b.exp ⟨xa1,xa2⟩ ⟨xb1,xb2⟩ va vb w h1 h2 la lb sh hsh way ((if (a.neg != b.neg)=true then (2147483648:Int)else 0)+(mgz way (a.neg != b.neg) (ifn 32) F' (decide (k'%2=1)) (decide (flo (nv a.mag*2^sh/nv b.mag) (e-u+1)%2=1)) (decide (nv a.mag*2^sh%nv b.mag≠0)||rst (nv a.mag*2^sh/nv b.mag) (e-u+1)):Nat)) _ _ (fun v r1 hr=>?_) (fun v=>?_)
  ·rw[←he]
   exact qjm way hw (a.neg != b.neg) _ hq0 e _ r1 v hr (by omega) (by omega) (by omega) u hu k' hk' F' hF' _ _ _ rfl rfl rfl _ rfl
  ·have:=qf7 ((if (a.neg != b.neg)=true then (2147483648:Int)else 0)+(mgz way (a.neg != b.neg) (ifn 32) F' (decide (k'%2=1)) (decide (flo (nv a.mag*2^sh/nv b.mag) (e-u+1)%2=1)) (decide (nv a.mag*2^sh%nv b.mag≠0)||rst (nv a.mag*2^sh/nv b.mag) (e-u+1)):Nat)) (odz way (a.neg != b.neg) (ifn 32) F' (decide (k'%2=1)) (decide (flo (nv a.mag*2^sh/nv b.mag) (e-u+1)%2=1)) (decide (nv a.mag*2^sh%nv b.mag≠0)||rst (nv a.mag*2^sh/nv b.mag) (e-u+1))) v
   rw[qav _ _ hM]at this
   exact this
theorem qbk {c D V k Q H F P:Nat}{od hf rt:Bool}(hP:0<P)(h:Cutz c D V k Q H F od hf rt):Cutz c (D*P) (V*P) k (Q*P) (H*P) F od hf rt:=by
 have hQ:0<Q:=by have:=h.two;have:=h.pos;omega
 refine⟨?_,Nat.mul_pos h.pos hP,?_,?_,?_,h.od,h.fod,?_,?_⟩
 ·rw[h.two,qop]
 ·rw[Nat.mul_div_mul_right _ _ hP];exact h.kq
 ·rw[←qop,h.low,qop]
 ·rw[←qop,h.high,qop]
 ·rw[h.hf,Nat.mul_mod_mul_right]
  apply decide_eq_decide.2
  exact⟨fun g=>Nat.mul_le_mul_right P g,fun g=>Nat.le_of_mul_le_mul_right g hP⟩
 ·rw[h.rt,Nat.mul_mod_mul_right,Nat.mul_mod_mul_right]
  apply decide_eq_decide.2
  constructor
  ·intro g h0
   rcases Nat.mul_eq_zero.1 h0 with h0|h0
   ·exact g h0
   ·omega
  ·intro g h0
   rw[h0]at g
   simp at g
theorem qe1 (n way:Int)(hn:n=64∨n=32)(hw:way=0∨way=1∨way=2)(a:Nm)(ha:vld a=true)(ham:a.mag≠[]):∃o,∀(va vb:Value) (w:World),RL w va a.mag→RL w vb oneN5.mag→Calls Tryz.prog 174 #[knd n,.agg #[.bool a.neg,va,.int .i64 a.exp],.agg #[.bool oneN5.neg,vb,.int .i64 oneN5.exp],.int .i64 way] w fun e w'=>e=.returned (.tuple #[.int .i64 (pz n (kyN n way a)),.bool o])∧Kept w w':=by
 obtain⟨-,a0,-,xa1,xa2⟩:=kQ a ha ham
 have hkl:(-1074:Int)≤qk n:=by rcases hn with rfl|rfl<;>decide
 have hC:=qkz n hn a ha ham (2*(-5000000)) (by omega) (by omega)
 rw[jo]at hC
 have hone:nv oneN5.mag=1:=by decide
 have hD:2^(qk n-2*(-5000000)).toNat=2^(qk n-(-5000000)).toNat*(nv oneN5.mag*2^(oneN5.exp-(-5000000)).toNat):=by
  rw[hone,Nat.one_mul,←qol]
  congr 1
  have:oneN5.exp=0:=rfl
  omega
 rw[hD]at hC
 have:=fun va vb w h1 h2=>Xu n way hn hw a oneN5 ha (by decide) ham (by decide) _ _ _ _ _ _ _ hC va vb w h1 h2
 have hs:(a.neg != oneN5.neg)=a.neg:=by
  have:oneN5.neg=false:=rfl
  rw[this]
  cases a.neg<;>rfl
 rw[hs]at this
 have hk:kyz a.neg (mgz way a.neg (ifn n) (flN n a) (odN n a) (hfN n a) (rtN n a))=kyN n way a:=by
  unfold kyN mgN kyz
  rw[if_neg ham]
 rw[hk]at this
 exact⟨_,this⟩
theorem VC (n way:Int)(hn:n=64∨n=32)(n1 n2:Bool)(a1 a2:Option Addr)(l1 c1 l2 c2:Nat)(x1 x2 b:Int)(od:Bool)(w:World)(KT:Hid (∀u,Kept w u→Calls Tryz.prog 174 #[knd n,.agg #[.bool n1,.slice a1 l1 c1,.int .i64 x1],.agg #[.bool n2,.slice a2 l2 c2,.int .i64 x2],.int .i64 way] u fun e w'=>e=.returned (.tuple #[.int .i64 b,.bool od])∧Kept u w')):Calls Tryz.prog 121 #[.agg #[.bool n1,.slice a1 l1 c1,.int .i64 x1],.agg #[.bool n2,.slice a2 l2 c2,.int .i64 x2],.int .i64 n,.int .i64 way] w fun e w'=>e=.returned (.int .i64 b)∧Kept w w':=by
 have KO:Hid (∀u,Kept w u→Calls Tryz.prog 155 #[.agg #[.bool n1,.slice a1 l1 c1,.int .i64 x1],.agg #[.bool n2,.slice a2 l2 c2,.int .i64 x2],.int .i64 n,.int .i64 way] u fun e w'=>e=.returned (.tuple #[.int .i64 b,.bool od])∧Kept u w'):=fun u k=>qf3 n way hn n1 n2 a1 a2 l1 c1 l2 c2 x1 x2 b od u (fun v kv=>KT.out v (k.trans kv))
 clear KT
 go_enter Tryz.func121,Tryz.ntmps121
 go_wp2_with (first|(go_at_call 155;refine(KO.out _ (((qo0 w).alloc _ _).alloc _ _)).mono ?_;rintro e w1 ⟨rfl,k1⟩))
 go_ret
 exact⟨rfl,(((qo0 w).alloc _ _).alloc _ _).trans k1⟩
def Tk (n way i:Int)(x:Nm):Int:=if 0<i then (ifn n:Int)else if i<0 then -(ifn n:Int)else kyN n way x
theorem qcw (n:Int)(hn:n=64∨n=32):∃e0 e1 e2 e3 e4 e5 e6 e7 e8:Int,knd n=.agg #[.int .i64 e0,.int .i64 e1,.int .i64 e2,.int .i64 e3,.int .i64 e4,.int .i64 e5,.int .i64 e6,.int .i64 e7,.int .i64 e8]∧e6=pz n (ifn n:Int)∧IntKind.i64.wrap (e6+e7)=pz n (-(ifn n:Int)):=by
 rcases hn with rfl|rfl
 ·exact⟨_,_,_,_,_,_,_,_,_,by unfold knd;rw[if_pos rfl],by decide,by decide⟩
 ·exact⟨_,_,_,_,_,_,_,_,_,by unfold knd;rw[if_neg (by decide)],by decide,by decide⟩
theorem vy (P:Nat→Prop)(n way:Int)(hn:n=64∨n=32)(hw:way=0∨way=1∨way=2)(v:Value)(i:Int)(x:Nm)(hi:i=-1∨i=0∨i=1)(hx:vld x=true)(w:World)(h:EnAt P w v i x oneN5):Calls Tryz.prog 93 #[v,.int .i64 n,.int .i64 way] w fun e w'=>e=.returned (.int .i64 (pz n (Tk n way i x)))∧Kept w w':=by
 obtain⟨e0,e1,e2,e3,e4,e5,e6,e7,e8,hk,h6,h7⟩:=qcw n hn
 have KO:Hid (∀u,Calls Tryz.prog 86 #[.int .i64 n] u fun e w'=>e=.returned (.tuple #[.agg #[.int .i64 e0,.int .i64 e1,.int .i64 e2,.int .i64 e3,.int .i64 e4,.int .i64 e5,.int .i64 e6,.int .i64 e7,.int .i64 e8],.bool true])∧Kept u w'):=fun u=>by
  have:=qat n hn u
  rw[hk]at this
  exact this
 obtain⟨a1,c1,a2,c2,rfl,r1,r2⟩:=h
 rcases hi with rfl|rfl|rfl
 ·have:Tk n way (-1) x=-(ifn n:Int):=by unfold Tk;rw[if_neg (by decide),if_pos (by decide)]
  rw[this]
  exact qj9 n way _ _ _ _ _ _ _ _ _ _ e0 e1 e2 e3 e4 e5 e6 e7 e8 _ h7 w KO
 ·have ht:Tk n way 0 x=kyN n way x:=by unfold Tk;rw[if_neg (by decide),if_neg (by decide)]
  rw[ht]
  refine VA n way _ _ _ _ _ _ _ _ _ _ e0 e1 e2 e3 e4 e5 e6 e7 e8 _ w KO (fun u k=>?_)
  by_cases hm:x.mag=[]
  ·have hz:kyN n way x=0:=by
    unfold kyN mgN
    simp[hm]
   have hp0:pz n 0=0:=by rcases hn with rfl|rfl<;>decide
   rw[hz,hp0,hm]
   exact VC n way hn _ _ _ _ _ _ _ _ _ _ 0 false u (fun u' _=>Xa (knd n) e0 e1 e2 e3 e4 e5 e6 e7 e8 hk _ _ _ _ _ _ _ _ _ _ u')
  ·obtain⟨o,hq⟩:=qe1 n way hn hw x hx hm
   exact VC n way hn _ _ _ _ _ _ _ _ _ _ _ o u (fun u' k'=>hq _ _ u' (r1.rl.kept (k.trans k')) (r2.rl.kept (k.trans k')))
 ·have:Tk n way 1 x=(ifn n:Int):=by unfold Tk;rw[if_pos (by decide)]
  rw[this]
  have:=qj8 n way x.neg a1 x.mag.length c1 x.exp oneN5.neg a2 oneN5.mag.length c2 oneN5.exp e0 e1 e2 e3 e4 e5 e6 e7 e8 w KO
  rw[h6]at this
  exact this
theorem qk2 (b:Int):cls b 32=4∨jY b=true∧2147483648≤b∨jY b=false∧b<2147483648:=by
 by_cases hc:cls b 32=4
 ·exact Or.inl hc
 ·have hv:=qV b hc
  refine Or.inr ?_
  have ht:thr b=true:=by simp[thr,hv]
  have e:jY b=decide (2147483648≤b):=by simp[jY,ht,sgn]
  by_cases h:2147483648≤b
  ·exact Or.inl ⟨by rw[e];simpa using h,h⟩
  ·exact Or.inr ⟨by rw[e];simpa using h,by omega⟩
theorem yo (b:Int)(hb1:-9223372036854775808≤b)(hb2:b≤9223372036854775807)(w:World):Calls Tryz.prog 172 #[.agg #[.int .i64 64,.int .i64 53,.int .i64 4503599627370496,.int .i64 2047,.int .i64 (-1074),.int .i64 1024,.int .i64 9218868437227405312,.int .i64 (-9223372036854775808),.int .i64 9221120237041090561],.int .i64 b] w fun e w'=>e=.returned (.bool (sgn b 64))∧Kept w w':=by
 go_enter Tryz.func172,Tryz.ntmps172
 go_wp2_with (first|(go_at_call 87;refine(Ji _ hb1 hb2 _).mono ?_;rintro e w2 ⟨rfl,hk2⟩))
 go_ret
 exact⟨rfl,((qo0 _).alloc _ _).trans hk2⟩
theorem ys (b:Int)(w:World):Calls Tryz.prog 172 #[.agg #[.int .i64 32,.int .i64 24,.int .i64 8388608,.int .i64 255,.int .i64 (-149),.int .i64 128,.int .i64 2139095040,.int .i64 2147483648,.int .i64 2143289345],.int .i64 b] w fun e w'=>e=.returned (.bool (jY b))∧Kept w w':=by
 go_enter Tryz.func172,Tryz.ntmps172
 go_wp2_with (first|(go_at_call 87;refine(Jj _ _).mono ?_;rintro e w2 ⟨rfl,hk2⟩))
 go_ret
 exact⟨rfl,((qo0 _).alloc _ _).trans hk2⟩
theorem qfc (b:Int)(hb1:-9223372036854775808≤b)(hb2:b≤9223372036854775807)(w:World):Calls Tryz.prog 151 #[.int .i64 b,.int .i64 64] w fun e w'=>e=.returned (.int .i64 (if cls b 64=4 then 9221120237041090561 else if cls b 64=0 then 0 else b))∧Kept w w':=by
 obtain⟨g,hs,hg⟩:∃g:Bool,sgn b 64=g∧(g=true∧b<0∨g=false∧0≤b):=⟨_,rfl,by by_cases h:b<0<;>simp[sgn,h];omega⟩
 rcases hg with ⟨rfl,hg⟩|⟨rfl,hg⟩
 all_goals
  go_enter Tryz.func151,Tryz.ntmps151
  go_wp2_with (first|(go_at_call 86;refine(vW _).mono ?_;rintro e w1 ⟨rfl,hk1⟩)|(go_at_call 72;refine(qH _ _ hb1 hb2 _).mono ?_;rintro e w2 ⟨rfl,hk2⟩;first|(have hK:=hK.trans hk2;have hcl:=qh hK)|(have hK:=hk2;have hcl:=qh hK))|(go_at_call 172;refine(yo _ hb1 hb2 _).mono ?_;rintro e w3 ⟨rfl,hk3⟩;have hK:=hK.trans hk3;have hcl:=qh hK))
  all_goals
   go_ret
   refine⟨qB ?_,(hk1.alloc _ _).trans hK⟩
   try unfold wrap64
   (try simp only[Bool.not_eq_true',Bool.not_eq_false',Bool.not_eq_true,bne_iff_ne,bne_eq_false_iff_eq,beq_iff_eq,beq_eq_false_iff_ne,ne_eq]at *)<;>((repeat' split)<;>omega)
theorem qfd (b:Int)(hb1:-9223372036854775808≤b)(hb2:b≤9223372036854775807)(w:World):Calls Tryz.prog 151 #[.int .i64 b,.int .i64 32] w fun e w'=>e=.returned (.int .i64 (if cls b 32=4 then 2143289345 else if cls b 32=0 then 0 else b))∧Kept w w':=by
 obtain⟨g,hs,hg⟩:∃g:Bool,jY b=g∧(cls b 32=4∨g=true∧2147483648≤b∨g=false∧b<2147483648):=⟨_,rfl,qk2 b⟩
 rcases hg with hg|⟨rfl,hg⟩|⟨rfl,hg⟩
 all_goals
  go_enter Tryz.func151,Tryz.ntmps151
  go_wp2_with (first|(go_at_call 86;refine(vX _).mono ?_;rintro e w1 ⟨rfl,hk1⟩)|(go_at_call 72;refine(qH _ _ hb1 hb2 _).mono ?_;rintro e w2 ⟨rfl,hk2⟩;first|(have hK:=hK.trans hk2;have hcl:=qh hK)|(have hK:=hk2;have hcl:=qh hK))|(go_at_call 172;refine(ys _ _).mono ?_;rintro e w3 ⟨rfl,hk3⟩;have hK:=hK.trans hk3;have hcl:=qh hK))
  all_goals
   go_ret
   refine⟨qB ?_,(hk1.alloc _ _).trans hK⟩
   try unfold wrap64
   (try simp only[Bool.not_eq_true',Bool.not_eq_false',Bool.not_eq_true,bne_iff_ne,bne_eq_false_iff_eq,beq_iff_eq,beq_eq_false_iff_ne,ne_eq]at *)<;>((repeat' split)<;>omega)
theorem qic (b n:Int)(h1:(n==32)=false)(h2:(n==64)=false)(w:World):Calls Tryz.prog 151 #[.int .i64 b,.int .i64 n] w fun e w'=>e=.returned (.int .i64 (0))∧Kept w w':=by
 go_enter Tryz.func151,Tryz.ntmps151
 go_wp2_with (first|(go_at_call 86;refine(qia _ h1 h2 _).mono ?_;rintro e w1 ⟨rfl,hk1⟩))
 go_ret
 exact⟨rfl,hk1.alloc _ _⟩
theorem Ko (b:Int)(hb1:-9223372036854775808≤b)(hb2:b≤9223372036854775807):cls b 64=0↔b=0∨b=-9223372036854775808:=by
 unfold cls zX
 rw[if_pos rfl]
 (repeat' split)<;>omega
theorem Kp (b:Int):cls b 32=0↔b=0∨b=2147483648:=by
 unfold cls zX
 rw[if_neg (by decide),if_pos rfl]
 (repeat' split)<;>omega
theorem vO (b n:Int)(hb1:-9223372036854775808≤b)(hb2:b≤9223372036854775807)(w:World):Calls Tryz.prog 151 #[.int .i64 b,.int .i64 n] w fun e w'=>e=.returned (.int .i64 (can b n))∧Kept w w':=by
 by_cases h64:n=64
 ·subst h64
  refine(qfc b hb1 hb2 w).mono ?_
  rintro e w' ⟨rfl,hk⟩
  refine⟨qB ?_,hk⟩
  have hz:=Ko b hb1 hb2
  by_cases hc:cls b 64=4
  ·simp[can,qj,jU,hc]
  ·have hi:qj b 64=true:=by simp[qj,hc]
   unfold can
   rw[if_neg hc,if_pos hi,if_pos rfl]
   (repeat' split)<;>omega
 ·by_cases h32:n=32
  ·subst h32
   refine(qfd b hb1 hb2 w).mono ?_
   rintro e w' ⟨rfl,hk⟩
   refine⟨qB ?_,hk⟩
   have hz:=Kp b
   by_cases hc:cls b 32=4
   ·simp[can,qj,jU,hc]
   ·have hi:qj b 32=true:=by simp[qj,hc]
    unfold can
    rw[if_neg hc,if_pos hi,if_neg (by decide:¬(32:Int)=64)]
    (repeat' split)<;>omega
  ·refine(qic b n (by simpa using h32) (by simpa using h64) w).mono ?_
   rintro e w' ⟨rfl,hk⟩
   exact⟨qB (by simp[can,jW b n h64 h32,Zi n h64 h32]),hk⟩
def plc (b n:Int):Int:=
 if qj b n=true then
  if n=64 then (if b<0 then -1-b%9223372036854775808 else b)else (if 2147483648≤b then -1-b%2147483648 else b)
 else 9223372036854775807
def qn9 (x y:Int):Int:=if x<y then -1 else if y<x then 1 else 0
def ord (a b n:Int):Int:=qn9 (plc a n) (plc b n)
theorem J3 (b:Int)(hb1:-9223372036854775808≤b)(hb2:b≤9223372036854775807)(hs:sgn b 64=true)(hg:b<0)(w:World):Calls Tryz.prog 150 #[.agg #[.int .i64 64,.int .i64 53,.int .i64 4503599627370496,.int .i64 2047,.int .i64 (-1074),.int .i64 1024,.int .i64 9218868437227405312,.int .i64 (-9223372036854775808),.int .i64 9221120237041090561],.int .i64 b] w fun e w'=>e=.returned (.int .i64 (-(b- -9223372036854775808)-1))∧Kept w w':=by
  go_enter Tryz.func150,Tryz.ntmps150
  go_wp2_with (first|(go_at_call 172;refine(yo _ hb1 hb2 _).mono ?_;rintro e w2 ⟨rfl,hk2⟩;have hcl:=qh hk2))
  go_ret
  exact ⟨qB (by (try unfold wrap64);omega),((qo0 _).alloc _ _).trans hk2⟩
theorem VP (b:Int)(hb1:-9223372036854775808≤b)(hb2:b≤9223372036854775807)(hs:sgn b 64=false)(w:World):Calls Tryz.prog 150 #[.agg #[.int .i64 64,.int .i64 53,.int .i64 4503599627370496,.int .i64 2047,.int .i64 (-1074),.int .i64 1024,.int .i64 9218868437227405312,.int .i64 (-9223372036854775808),.int .i64 9221120237041090561],.int .i64 b] w fun e w'=>e=.returned (.int .i64 b)∧Kept w w':=by
 go_enter Tryz.func150,Tryz.ntmps150
 go_wp2_with (first|(go_at_call 172;refine(yo _ hb1 hb2 _).mono ?_;rintro e w2 ⟨rfl,hk2⟩;have hcl:=qh hk2))
 go_ret
 exact⟨rfl,((qo0 _).alloc _ _).trans hk2⟩
theorem J4 (b:Int)(hb1:-9223372036854775808≤b)(hb2:b≤9223372036854775807)(hs:jY b=true)(hg:2147483648≤b)(w:World):Calls Tryz.prog 150 #[.agg #[.int .i64 32,.int .i64 24,.int .i64 8388608,.int .i64 255,.int .i64 (-149),.int .i64 128,.int .i64 2139095040,.int .i64 2147483648,.int .i64 2143289345],.int .i64 b] w fun e w'=>e=.returned (.int .i64 (-(b-2147483648)-1))∧Kept w w':=by
  go_enter Tryz.func150,Tryz.ntmps150
  go_wp2_with (first|(go_at_call 172;refine(ys _ _).mono ?_;rintro e w2 ⟨rfl,hk2⟩;have hcl:=qh hk2))
  go_ret
  exact ⟨qB (by (try unfold wrap64);omega),((qo0 _).alloc _ _).trans hk2⟩
theorem VQ (b:Int)(hb1:-9223372036854775808≤b)(hb2:b≤9223372036854775807)(hs:jY b=false)(w:World):Calls Tryz.prog 150 #[.agg #[.int .i64 32,.int .i64 24,.int .i64 8388608,.int .i64 255,.int .i64 (-149),.int .i64 128,.int .i64 2139095040,.int .i64 2147483648,.int .i64 2143289345],.int .i64 b] w fun e w'=>e=.returned (.int .i64 b)∧Kept w w':=by
 go_enter Tryz.func150,Tryz.ntmps150
 go_wp2_with (first|(go_at_call 172;refine(ys _ _).mono ?_;rintro e w2 ⟨rfl,hk2⟩;have hcl:=qh hk2))
 go_ret
 exact⟨rfl,((qo0 _).alloc _ _).trans hk2⟩
theorem ql5 {x v:World}{c:Array Value}{t:TypeId}(h:Kept (x.alloc (.cells c t)) v):Kept (x.alloc (.cells c t)) v.drew∧∀o,v.drew.cell? ⟨x.heap.size,o,none⟩=(x.alloc (.cells c t)).cell? ⟨x.heap.size,o,none⟩:=⟨h.drew,qh h.drew⟩
theorem ql6 {x v v':World}{c:Array Value}{t:TypeId}(h:Kept (x.alloc (.cells c t)) v∧∀o,v.cell? ⟨x.heap.size,o,none⟩=(x.alloc (.cells c t)).cell? ⟨x.heap.size,o,none⟩)(k:Kept v v'):Kept (x.alloc (.cells c t)) v'∧∀o,v'.cell? ⟨x.heap.size,o,none⟩=(x.alloc (.cells c t)).cell? ⟨x.heap.size,o,none⟩:=⟨h.1.trans k,qh (h.1.trans k)⟩
def rpl (b n:Int):Int:=if n=64 then (if b<0 then -1-b%9223372036854775808 else b)else (if jY b=true then -1-b%2147483648 else b)
theorem XH (b:Int)(hb1:-9223372036854775808≤b)(hb2:b≤9223372036854775807)(w:World):Calls Tryz.prog 150 #[.agg #[.int .i64 64,.int .i64 53,.int .i64 4503599627370496,.int .i64 2047,.int .i64 (-1074),.int .i64 1024,.int .i64 9218868437227405312,.int .i64 (-9223372036854775808),.int .i64 9221120237041090561],.int .i64 b] w fun e w'=>e=.returned (.int .i64 (rpl b 64))∧Kept w w':=by
 by_cases h:b<0
 ·refine(J3 b hb1 hb2 (by simp[sgn,h]) h w).mono ?_
  rintro e w' ⟨rfl,hk⟩
  exact⟨qB (by unfold rpl;rw[if_pos rfl,if_pos h];omega),hk⟩
 ·refine(VP b hb1 hb2 (by simp[sgn];omega) w).mono ?_
  rintro e w' ⟨rfl,hk⟩
  exact⟨qB (by unfold rpl;rw[if_pos rfl,if_neg h]),hk⟩
theorem qib (b:Int)(h:jY b=true):2147483648≤b∧b<4294967296:=by
 simp[jY,thr,sgn]at h
 omega
theorem XI (b:Int)(hb1:-9223372036854775808≤b)(hb2:b≤9223372036854775807)(w:World):Calls Tryz.prog 150 #[.agg #[.int .i64 32,.int .i64 24,.int .i64 8388608,.int .i64 255,.int .i64 (-149),.int .i64 128,.int .i64 2139095040,.int .i64 2147483648,.int .i64 2143289345],.int .i64 b] w fun e w'=>e=.returned (.int .i64 (rpl b 32))∧Kept w w':=by
 cases h:jY b
 ·refine(VQ b hb1 hb2 h w).mono ?_
  rintro e w' ⟨rfl,hk⟩
  exact⟨qB (by unfold rpl;rw[if_neg (by decide),if_neg (by rw[h];decide)]),hk⟩
 ·have hv:=qib b h
  refine(J4 b hb1 hb2 h hv.1 w).mono ?_
  rintro e w' ⟨rfl,hk⟩
  exact⟨qB (by unfold rpl;rw[if_neg (by decide),if_pos h];omega),hk⟩
theorem VM (b n:Int)(hb1:-9223372036854775808≤b)(hb2:b≤9223372036854775807):-9223372036854775808≤can b n∧can b n≤9223372036854775807:=by
 have:=JC n
 unfold can
 (repeat' split)<;>omega
theorem VN (a b:Int)(ha1:-9223372036854775808≤a)(ha2:a≤9223372036854775807)(hb1:-9223372036854775808≤b)(hb2:b≤9223372036854775807)(ca:(cls a 64==4)=false)(cb:(cls b 64==4)=false)(w:World):Calls Tryz.prog 116 #[.int .i64 a,.int .i64 b,.int .i64 64] w fun e w'=>e=.returned (.bool (decide (rpl (can a 64) 64<rpl (can b 64) 64)))∧Kept w w':=by
 have qa:=VM a 64 ha1 ha2
 have qb:=VM b 64 hb1 hb2
 go_enter Tryz.func116,Tryz.ntmps116
 go_wp2_with fail
 refine(vW _).mono ?_
 rintro e w1 ⟨rfl,hk1⟩
 go_wp2_with fail
 refine(qH a 64 ha1 ha2 _).mono ?_
 rintro e w2 ⟨rfl,hk2⟩
 go_wp2_with fail
 refine(qH b 64 hb1 hb2 _).mono ?_
 rintro e w3 ⟨rfl,hk3⟩
 have hK:=hk2.trans hk3
 go_wp2
 go_region_held (fun v=>Kept (w1.alloc (.cells #[.int .i64 64,.int .i64 53,.int .i64 4503599627370496,.int .i64 2047,.int .i64 (-1074),.int .i64 1024,.int .i64 9218868437227405312,.int .i64 (-9223372036854775808),.int .i64 9221120237041090561] 116)) v∧∀o,v.cell? ⟨w1.heap.size,o,none⟩=(w1.alloc (.cells #[.int .i64 64,.int .i64 53,.int .i64 4503599627370496,.int .i64 2047,.int .i64 (-1074),.int .i64 1024,.int .i64 9218868437227405312,.int .i64 (-9223372036854775808),.int .i64 9221120237041090561] 116)).cell? ⟨w1.heap.size,o,none⟩) (first|exact ql5 hK|(refine ql6 ?_ hk4;assumption)) (first|(go_at_call_of 150 (can a 64);refine(XH (can a 64) qa.1 qa.2 _).mono ?_;rintro e w4 ⟨rfl,hk4⟩)|(go_at_call_of 150 (can b 64);refine(XH (can b 64) qb.1 qb.2 _).mono ?_;rintro e w4 ⟨rfl,hk4⟩)|(go_at_call_of 151 a;refine(vO a 64 ha1 ha2 _).mono ?_;rintro e w4 ⟨rfl,hk4⟩)|(go_at_call_of 151 b;refine(vO b 64 hb1 hb2 _).mono ?_;rintro e w4 ⟨rfl,hk4⟩))
 all_goals
  go_wp2
  go_ret
  exact⟨rfl,(hk1.alloc _ _).trans (And.left ‹_›)⟩
theorem Ki (a b:Int)(ha1:-9223372036854775808≤a)(ha2:a≤9223372036854775807)(hb1:-9223372036854775808≤b)(hb2:b≤9223372036854775807)(ca:(cls a 64==4)=true)(w:World):Calls Tryz.prog 116 #[.int .i64 a,.int .i64 b,.int .i64 64] w fun e w'=>e=.returned (.bool false)∧Kept w w':=by
 go_enter Tryz.func116,Tryz.ntmps116
 go_wp2_with fail
 refine(vW _).mono ?_
 rintro e w1 ⟨rfl,hk1⟩
 go_wp2_with fail
 refine(qH a 64 ha1 ha2 _).mono ?_
 rintro e w2 ⟨rfl,hk2⟩
 go_wp2
 go_ret
 exact⟨rfl,(hk1.alloc _ _).trans hk2⟩
theorem Kk (a b:Int)(ha1:-9223372036854775808≤a)(ha2:a≤9223372036854775807)(hb1:-9223372036854775808≤b)(hb2:b≤9223372036854775807)(ca:(cls a 64==4)=false)(cb:(cls b 64==4)=true)(w:World):Calls Tryz.prog 116 #[.int .i64 a,.int .i64 b,.int .i64 64] w fun e w'=>e=.returned (.bool false)∧Kept w w':=by
 go_enter Tryz.func116,Tryz.ntmps116
 go_wp2_with fail
 refine(vW _).mono ?_
 rintro e w1 ⟨rfl,hk1⟩
 go_wp2_with fail
 refine(qH a 64 ha1 ha2 _).mono ?_
 rintro e w2 ⟨rfl,hk2⟩
 go_wp2_with fail
 refine(qH b 64 hb1 hb2 _).mono ?_
 rintro e w3 ⟨rfl,hk3⟩
 go_wp2
 go_ret
 exact⟨rfl,(hk1.alloc _ _).trans (hk2.trans hk3)⟩
theorem VO (a b:Int)(ha1:-9223372036854775808≤a)(ha2:a≤9223372036854775807)(hb1:-9223372036854775808≤b)(hb2:b≤9223372036854775807)(ca:(cls a 32==4)=false)(cb:(cls b 32==4)=false)(w:World):Calls Tryz.prog 116 #[.int .i64 a,.int .i64 b,.int .i64 32] w fun e w'=>e=.returned (.bool (decide (rpl (can a 32) 32<rpl (can b 32) 32)))∧Kept w w':=by
 have qa:=VM a 32 ha1 ha2
 have qb:=VM b 32 hb1 hb2
 go_enter Tryz.func116,Tryz.ntmps116
 go_wp2_with fail
 refine(vX _).mono ?_
 rintro e w1 ⟨rfl,hk1⟩
 go_wp2_with fail
 refine(qH a 32 ha1 ha2 _).mono ?_
 rintro e w2 ⟨rfl,hk2⟩
 go_wp2_with fail
 refine(qH b 32 hb1 hb2 _).mono ?_
 rintro e w3 ⟨rfl,hk3⟩
 have hK:=hk2.trans hk3
 go_wp2
 go_region_held (fun v=>Kept (w1.alloc (.cells #[.int .i64 32,.int .i64 24,.int .i64 8388608,.int .i64 255,.int .i64 (-149),.int .i64 128,.int .i64 2139095040,.int .i64 2147483648,.int .i64 2143289345] 116)) v∧∀o,v.cell? ⟨w1.heap.size,o,none⟩=(w1.alloc (.cells #[.int .i64 32,.int .i64 24,.int .i64 8388608,.int .i64 255,.int .i64 (-149),.int .i64 128,.int .i64 2139095040,.int .i64 2147483648,.int .i64 2143289345] 116)).cell? ⟨w1.heap.size,o,none⟩) (first|exact ql5 hK|(refine ql6 ?_ hk4;assumption)) (first|(go_at_call_of 150 (can a 32);refine(XI (can a 32) qa.1 qa.2 _).mono ?_;rintro e w4 ⟨rfl,hk4⟩)|(go_at_call_of 150 (can b 32);refine(XI (can b 32) qb.1 qb.2 _).mono ?_;rintro e w4 ⟨rfl,hk4⟩)|(go_at_call_of 151 a;refine(vO a 32 ha1 ha2 _).mono ?_;rintro e w4 ⟨rfl,hk4⟩)|(go_at_call_of 151 b;refine(vO b 32 hb1 hb2 _).mono ?_;rintro e w4 ⟨rfl,hk4⟩))
 all_goals
  go_wp2
  go_ret
  exact⟨rfl,(hk1.alloc _ _).trans (And.left ‹_›)⟩
theorem Km (a b:Int)(ha1:-9223372036854775808≤a)(ha2:a≤9223372036854775807)(hb1:-9223372036854775808≤b)(hb2:b≤9223372036854775807)(ca:(cls a 32==4)=true)(w:World):Calls Tryz.prog 116 #[.int .i64 a,.int .i64 b,.int .i64 32] w fun e w'=>e=.returned (.bool false)∧Kept w w':=by
 go_enter Tryz.func116,Tryz.ntmps116
 go_wp2_with fail
 refine(vX _).mono ?_
 rintro e w1 ⟨rfl,hk1⟩
 go_wp2_with fail
 refine(qH a 32 ha1 ha2 _).mono ?_
 rintro e w2 ⟨rfl,hk2⟩
 go_wp2
 go_ret
 exact⟨rfl,(hk1.alloc _ _).trans hk2⟩
theorem Kn (a b:Int)(ha1:-9223372036854775808≤a)(ha2:a≤9223372036854775807)(hb1:-9223372036854775808≤b)(hb2:b≤9223372036854775807)(ca:(cls a 32==4)=false)(cb:(cls b 32==4)=true)(w:World):Calls Tryz.prog 116 #[.int .i64 a,.int .i64 b,.int .i64 32] w fun e w'=>e=.returned (.bool false)∧Kept w w':=by
 go_enter Tryz.func116,Tryz.ntmps116
 go_wp2_with fail
 refine(vX _).mono ?_
 rintro e w1 ⟨rfl,hk1⟩
 go_wp2_with fail
 refine(qH a 32 ha1 ha2 _).mono ?_
 rintro e w2 ⟨rfl,hk2⟩
 go_wp2_with fail
 refine(qH b 32 hb1 hb2 _).mono ?_
 rintro e w3 ⟨rfl,hk3⟩
 go_wp2
 go_ret
 exact⟨rfl,(hk1.alloc _ _).trans (hk2.trans hk3)⟩
theorem qk1 (a b n:Int)(h1:(n==32)=false)(h2:(n==64)=false)(w:World):Calls Tryz.prog 116 #[.int .i64 a,.int .i64 b,.int .i64 n] w fun e w'=>e=.returned (.bool false)∧Kept w w':=by
 go_enter Tryz.func116,Tryz.ntmps116
 go_wp2_with fail
 refine(qia n h1 h2 _).mono ?_
 rintro e w1 ⟨rfl,hk1⟩
 go_wp2
 go_ret
 exact⟨rfl,hk1.alloc _ _⟩
theorem Zu (b n:Int)(hb1:-9223372036854775808≤b)(hb2:b≤9223372036854775807)(h:qj b n=true):rpl (can b n) n=if qc b n<0 then qc b n-1 else qc b n:=by
 rcases zN b n h with ⟨rfl,hc⟩|⟨rfl,hc⟩
 ·unfold rpl can qc
  rw[if_pos h]
  simp only[if_true]
  (repeat' split)<;>omega
 ·have hv:=qV b hc
  have e32:¬(32:Int)=64:=by decide
  have hcan:can b 32=if b=2147483648 then 0 else b:=by
   unfold can
   rw[if_pos h,if_neg e32]
  have hcv:0≤can b 32∧can b 32<4294967296:=by rw[hcan];split<;>omega
  have ht:thr (can b 32)=true:=by simp[thr,hcv]
  have e:jY (can b 32)=decide (2147483648≤can b 32):=by simp[jY,ht,sgn]
  unfold rpl qc
  rw[if_neg e32,if_neg e32,e]
  simp only[qor]
  rw[hcan]
  (repeat' split)<;>omega
theorem XG (a b n:Int)(ha1:-9223372036854775808≤a)(ha2:a≤9223372036854775807)(hb1:-9223372036854775808≤b)(hb2:b≤9223372036854775807)(w:World):Calls Tryz.prog 116 #[.int .i64 a,.int .i64 b,.int .i64 n] w fun e w'=>e=.returned (.bool (lss a b n))∧Kept w w':=by
 by_cases h64:n=64
 ·subst h64
  cases ca:(cls a 64==4)
  ·have ia:qj a 64=true:=by simpa [qj] using ca
   cases cb:(cls b 64==4)
   ·have ib:qj b 64=true:=by simpa [qj] using cb
    refine(VN a b ha1 ha2 hb1 hb2 ca cb w).mono ?_
    rintro e w' ⟨rfl,hk⟩
    refine⟨jG ?_,hk⟩
    unfold lss
    rw[ia,ib,Bool.true_and,Bool.true_and,Zu a 64 ha1 ha2 ia,Zu b 64 hb1 hb2 ib,Bool.eq_iff_iff,qor,qor]
    (repeat' split)<;>omega
   ·have ib:qj b 64=false:=by simpa [qj] using cb
    refine(Kk a b ha1 ha2 hb1 hb2 ca cb w).mono ?_
    rintro e w' ⟨rfl,hk⟩
    exact⟨jG (by simp[lss,ib]),hk⟩
  ·have ia:qj a 64=false:=by simpa [qj] using ca
   refine(Ki a b ha1 ha2 hb1 hb2 ca w).mono ?_
   rintro e w' ⟨rfl,hk⟩
   exact⟨jG (by simp[lss,ia]),hk⟩
 ·by_cases h32:n=32
  ·subst h32
   cases ca:(cls a 32==4)
   ·have ia:qj a 32=true:=by simpa [qj] using ca
    cases cb:(cls b 32==4)
    ·have ib:qj b 32=true:=by simpa [qj] using cb
     refine(VO a b ha1 ha2 hb1 hb2 ca cb w).mono ?_
     rintro e w' ⟨rfl,hk⟩
     refine⟨jG ?_,hk⟩
     unfold lss
     rw[ia,ib,Bool.true_and,Bool.true_and,Zu a 32 ha1 ha2 ia,Zu b 32 hb1 hb2 ib,Bool.eq_iff_iff,qor,qor]
     (repeat' split)<;>omega
    ·have ib:qj b 32=false:=by simpa [qj] using cb
     refine(Kn a b ha1 ha2 hb1 hb2 ca cb w).mono ?_
     rintro e w' ⟨rfl,hk⟩
     exact⟨jG (by simp[lss,ib]),hk⟩
   ·have ia:qj a 32=false:=by simpa [qj] using ca
    refine(Km a b ha1 ha2 hb1 hb2 ca w).mono ?_
    rintro e w' ⟨rfl,hk⟩
    exact⟨jG (by simp[lss,ia]),hk⟩
  ·refine(qk1 a b n (by simpa using h32) (by simpa using h64) w).mono ?_
   rintro e w' ⟨rfl,hk⟩
   exact⟨jG (by simp[lss,jW a n h64 h32]),hk⟩
end Go.Proofs.YtaglkncdedeipaaGreatDoor
namespace Go.Proofs.YtaglkncdedeipaaGreatDoor
open Go.ChangeShapes Go.WideShapes Go.ChangeAt Go.RowKit Ieee
set_option linter.unusedVariables false
set_option linter.unusedSimpArgs false
set_option maxHeartbeats 16000000
set_option maxRecDepth 100000
theorem qdm (y n:Int)(hn:n=64∨n=32)(hy:RB y)(hc:cls y n<3):ofN y n=ofN (pz n (qc y n)) n∧qj y n=true∧(-(ifn n:Int)<qc y n∧qc y n<(ifn n:Int)):=by
 have hi:qj y n=true:=by
  unfold qj
  rw[qor]
  exact⟨hn,by omega⟩
 have hf:=Qs y n hn hi hy
 have hfin:fin y n=true:=by
  unfold fin
  rw[qor]
  exact⟨hn,hc⟩
 rw[hfin]at hf
 have hne:=of_decide_eq_true hf.symm
 have hr:=zG y n hi hy.1 hy.2
 refine⟨?_,hi,by omega⟩
 have hcan:=qb4 y n hi hy.1 hy.2
 rw[←hcan]
 unfold can
 rw[if_pos hi]
 rcases hn with rfl|rfl
 ·rw[if_pos rfl]
  by_cases hz:y=-9223372036854775808
  ·rw[if_pos hz]
   subst hz
   rw[(vN (-9223372036854775808) 64 (by decide)).2,(vN 0 64 (by decide)).2]
  ·rw[if_neg hz]
 ·rw[if_neg (by decide:¬(32:Int)=64)]
  by_cases hz:y=2147483648
  ·rw[if_pos hz]
   subst hz
   rw[(vN 2147483648 32 (by decide)).2,(vN 0 32 (by decide)).2]
  ·rw[if_neg hz]
theorem zr (y n:Int)(hn:n=64∨n=32)(hy:RB y)(hc:cls y n<3):Lies (-1075) 5000 (ofN y n)∧vz (-1075) (ofN y n)=kvz n (-1074) (qc y n)*2:=by
 obtain⟨e,hi,b1,b2⟩:=qdm y n hn hy hc
 rw[e]
 obtain⟨h1,h2⟩:=qm0 n (qc y n) hn b1 b2 (-1075) (by decide) (by decide)
 refine⟨h1,?_⟩
 have hkl:(-1074:Int)≤qk n:=by rcases hn with rfl|rfl<;>decide
 rw[h2,xI n (-1075) (-1074) _ (by decide) hkl]
 rfl
end Go.Proofs.YtaglkncdedeipaaGreatDoor
namespace Go.Proofs.YtaglkncdedeipaaGreatDoor
open Go.ChangeShapes Go.WideShapes Go.ChangeAt Go.RowKit
set_option linter.unusedVariables false
set_option linter.unusedSimpArgs false
set_option maxHeartbeats 16000000
set_option maxRecDepth 100000
theorem zQ (a b:Int):(a<b→cz a b=-1)∧(a=b→cz a b=0)∧(b<a→cz a b=1):=by
 unfold cz
 refine⟨fun h=>?_,fun h=>?_,fun h=>?_⟩<;>(repeat' split)<;>omega
def qR (n k:Int):Int:=if k=(ifn n:Int)then 1 else if k=-(ifn n:Int)then -1 else 0
theorem jl (n k:Int):qR n k=-1∨qR n k=0∨qR n k=1:=by
 unfold qR
 (repeat' split)<;>simp
theorem qnq (b n:Int)(hb:RB b)(w:World):Calls Tryz.prog 88 #[.int .i64 b,.int .i64 n] w fun e w'=>e=.returned (.int .i64 (if lss b 0 n=true then -1 else if lss 0 b n=true then 1 else 0))∧Kept w w':=by
 have K1:Hid (∀u,Calls Tryz.prog 116 #[.int .i64 b,.int .i64 0,.int .i64 n] u fun e w'=>e=.returned (.bool (lss b 0 n))∧Kept u w'):=fun u=>XG b 0 n hb.1 hb.2 (by decide) (by decide) u
 have K2:Hid (∀u,Calls Tryz.prog 116 #[.int .i64 0,.int .i64 b,.int .i64 n] u fun e w'=>e=.returned (.bool (lss 0 b n))∧Kept u w'):=fun u=>XG 0 b n (by decide) (by decide) hb.1 hb.2 u
 generalize lss b 0 n=t1 at *
 generalize lss 0 b n=t2 at *
 go_enter Tryz.func88,Tryz.ntmps88
 go_wp2_with fail
 refine(K1.out _).mono ?_
 rintro e w1 ⟨rfl,k1⟩
 cases t1
 ·go_wp2_with fail
  refine(K2.out _).mono ?_
  rintro e w2 ⟨rfl,k2⟩
  cases t2
  ·go_wp2_with fail
   go_ret
   exact⟨rfl,k1.trans k2⟩
  ·go_wp2_with fail
   go_ret
   exact⟨rfl,k1.trans k2⟩
 ·go_wp2_with fail
  go_ret
  exact⟨rfl,k1⟩
theorem Zm (b n:Int)(hb:RB b)(hi:qj b n=true):(cls b n<3↔-(ifn n:Int)<qc b n∧qc b n<(ifn n:Int))∧(cls b n<3∨cls b n=3):=by
 have hn:=qv b n hi
 have hf:=Qs b n hn hi hb
 have hr:=zG b n hi hb.1 hb.2
 have h4:cls b n≠4:=by
  unfold qj at hi
  rw[qor]at hi
  exact hi.2
 have hle:cls b n≤4:=by
  unfold cls zX
  (repeat' split)<;>omega
 unfold fin at hf
 refine⟨⟨fun h=>?_,fun h=>?_⟩,by omega⟩
 ·rw[qos ⟨hn,h⟩]at hf
  have:=of_decide_eq_true hf.symm
  omega
 ·rw[qos (show ¬(qc b n=(ifn n:Int)∨qc b n=-(ifn n:Int)) by omega)]at hf
  exact(of_decide_eq_true hf).2
theorem qnr (b n:Int)(hb:RB b)(hi:qj b n=true)(w:World):Calls Tryz.prog 52 #[.int .i64 b,.int .i64 n] w fun e w'=>(∃r,e=.returned r∧EnAt (qn w.heap.size) w' r (qR n (qc b n)) (ql b n) oneN5)∧Kept w w':=by
 have hn:=qv b n hi
 obtain⟨hc,h3⟩:=Zm b n hb hi
 have hr:=zG b n hi hb.1 hb.2
 have hpos:=jw n
 by_cases hcl:cls b n<3
 ·have hk:=hc.1 hcl
  have e1:qR n (qc b n)=0:=by unfold qR;rw[if_neg (by omega),if_neg (by omega)]
  have e2:ql b n=ofN b n:=by unfold ql;rw[if_pos hcl]
  rw[e1,e2,(qly b n hn hcl).2]
  exact qj7 b n (cls b n) _ (by simp;omega) w (fun u=>qH b n hb.1 hb.2 u) (fun u=>qci b n hb.1 hb.2 hn hcl u)
 ·have hc3:cls b n=3:=by omega
  have e2:ql b n=⟨false,[],0⟩:=by unfold ql;rw[if_neg hcl]
  have h0:qj 0 n=true∧qc 0 n=0:=by rcases hn with rfl|rfl<;>decide
  have hk:¬(-(ifn n:Int)<qc b n∧qc b n<(ifn n:Int)):=fun h=>hcl (hc.2 h)
  have es:(if lss b 0 n=true then (-1:Int)else if lss 0 b n=true then 1 else 0)=qR n (qc b n):=by
   unfold lss qR
   rw[hi,h0.1,h0.2]
   simp only[Bool.true_and,qor]
   (repeat' split)<;>omega
  rw[e2,←es]
  refine qj6 b n _ w (fun u=>?_) (fun u=>qnq b n hb u)
  have:=qH b n hb.1 hb.2 u
  rw[hc3]at this
  exact this
theorem qhn (x:Nm)(h:vld x=true):nrm x.neg (nv x.mag) x.exp=x:=by
 obtain⟨ng,L,e⟩:=x
 by_cases hL:L=[]
 ·subst hL
  obtain⟨rfl,rfl⟩:=jH _ _ h
  simp[nrm,nv]
 ·have h1:=Jl e ng L e h (fun _=>Int.le_refl _)
  have h2:=ZC (decide (vz e ⟨ng,L,e⟩<0)) (vz e ⟨ng,L,e⟩).natAbs e
  unfold cfm at h1
  rw[h1]at h2
  have h3:(vz e ⟨ng,L,e⟩).natAbs=nv L:=by
   rw[jo]
   simp
  have hs:=jb e ⟨ng,L,e⟩ h
  have hp:=Jp e ng L e hL h
  rw[Int.sub_self]at hp
  have h4:decide (vz e ⟨ng,L,e⟩<0)=ng:=by
   cases ng
   ·have:=hs.2.1 rfl
    rw[decide_eq_false_iff_not];omega
   ·have:=hs.1 rfl
    rw[qor];omega
  rw[h3,h4]at h2
  split at h2
  ·exact(Option.some.inj h2).symm
  ·cases h2
theorem qcx (x:Nm)(h:vld x=true):tms x oneN5=x:=by
 have e1:nv oneN5.mag=1:=by decide
 have e2:(x.neg != oneN5.neg)=x.neg:=by
  have:oneN5.neg=false:=rfl
  rw[this]
  cases x.neg<;>rfl
 unfold tms
 rw[e1,e2,Nat.mul_one,show oneN5.exp=0 from rfl,Int.add_zero]
 exact qhn x h
theorem VD:vld oneN5=true:=by decide
def Rh (T s i:Int)(x:Nm):Int:=if 0<i then T else if i<0 then -T else vz s x
theorem qcy (P:Nat→Prop)(v1 v2:Value)(i1 i2:Int)(x1 x2:Nm)(s T:Int)(hi1:i1=-1∨i1=0∨i1=1)(hi2:i2=-1∨i2=0∨i2=1)(h1:vld x1=true)(h2:vld x2=true)(s1:x1.mag≠[]→s≤x1.exp)(s2:x2.mag≠[]→s≤x2.exp)(b1:-T<vz s x1∧vz s x1<T)(b2:-T<vz s x2∧vz s x2<T)(w:World)(e1:EnAt P w v1 i1 x1 oneN5)(e2:EnAt P w v2 i2 x2 oneN5):Calls Tryz.prog 53 #[v1,v2] w fun e w'=>e=.returned (.int .i64 (cz (Rh T s i1 x1) (Rh T s i2 x2)))∧Kept w w':=by
 obtain⟨a1,c1,a2,c2,rfl,r1,r2⟩:=e1
 obtain⟨a3,c3,a4,c4,rfl,r3,r4⟩:=e2
 by_cases hne:i1=i2
 ·subst hne
  by_cases h0:i1=0
  ·subst h0
   have er:cz (Rh T s 0 x1) (Rh T s 0 x2)=cz (vz s x1) (vz s x2):=by
    unfold Rh
    rw[if_neg (by decide),if_neg (by decide),if_neg (by decide),if_neg (by decide)]
   rw[er]
   refine Ja _ _ _ _ _ _ _ _ _ _ _ _ _ _ _ _ _ _ _ _ _ (fun u v=>RNp (PL P w) u v x1) (fun u v=>RNp (PL P w) u v x2) w (fun u u' v h k=>h.kept k) (fun u k=>?_) (fun u k=>?_) (fun u v1 v2 g1 g2=>?_)
   ·have:=vE P u x1 oneN5 _ _ ⟨_,rfl,r1.kept k⟩ ⟨_,rfl,r4.kept k⟩ h1 VD
    refine this.mono ?_
    rintro e w' ⟨⟨v,rfl,hv⟩,kk⟩
    rw[qcx x1 h1]at hv
    exact⟨v,rfl,hv.imp (fun c hc=>hc.elim .inl (fun g=>.inr (qou k.below.size g))),kk⟩
   ·have:=vE P u x2 oneN5 _ _ ⟨_,rfl,r3.kept k⟩ ⟨_,rfl,r2.kept k⟩ h2 VD
    refine this.mono ?_
    rintro e w' ⟨⟨v,rfl,hv⟩,kk⟩
    rw[qcx x2 h2]at hv
    exact⟨v,rfl,hv.imp (fun c hc=>hc.elim .inl (fun g=>.inr (qou k.below.size g))),kk⟩
   ·exact JD _ u x1 x2 v1 v2 g1 g2 h1 h2 _ (qi3 s x1 x2 h1 h2 s1 s2)
  ·have er:cz (Rh T s i1 x1) (Rh T s i1 x2)=0:=by
    have:Rh T s i1 x1=Rh T s i1 x2:=by
     unfold Rh
     (repeat' split)<;>first|rfl|omega
    rw[this]
    exact(zQ _ _).2.1 rfl
   rw[er]
   exact Z9 _ _ _ _ _ _ _ _ _ _ _ _ _ _ _ _ _ _ _ _ i1 (by simpa using h0) w
 ·refine Xt i1 _ _ _ _ _ _ _ _ _ _ i2 _ _ _ _ _ _ _ _ _ _ (by simpa using hne) _ ?_ w
  obtain⟨q1,q2,q3⟩:=zQ (Rh T s i1 x1) (Rh T s i2 x2)
  unfold Rh at *
  rcases hi1 with rfl|rfl|rfl<;>rcases hi2 with rfl|rfl|rfl<;>simp at * <;>first|(apply q1;omega)|(apply q3;omega)
end Go.Proofs.YtaglkncdedeipaaGreatDoor
