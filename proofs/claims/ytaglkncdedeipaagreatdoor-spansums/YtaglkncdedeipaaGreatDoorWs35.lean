/-  -/
import Derived.Test.YtaglkncdedeipaaGreatDoorWs34
import Derived.Test.YtaglkncdedeipaaGreatDoorWs23
import Derived.Test.YtaglkncdedeipaaGreatDoorWs33
import Derived.Test.YtaglkncdedeipaaGreatDoorWs30
import Derived.Test.YtaglkncdedeipaaGreatDoorWs29
import Derived.Test.YtaglkncdedeipaaGreatDoorWs03
import Derived.Outline
import Derived.Deep.RegionHeld
namespace Go.Proofs.YtaglkncdedeipaaGreatDoor
open Go.ChangeShapes Go.WideShapes Go.ChangeAt Go.RowKit
set_option linter.unusedVariables false
set_option linter.unusedSimpArgs false
set_option maxHeartbeats 16000000
set_option maxRecDepth 100000
def knd (n:Int):Value:=if n=64 then .agg #[.int .i64 64,.int .i64 53,.int .i64 4503599627370496,.int .i64 2047,.int .i64 (-1074),.int .i64 1024,.int .i64 9218868437227405312,.int .i64 (-9223372036854775808),.int .i64 9221120237041090561]else .agg #[.int .i64 32,.int .i64 24,.int .i64 8388608,.int .i64 255,.int .i64 (-149),.int .i64 128,.int .i64 2139095040,.int .i64 2147483648,.int .i64 2143289345]
theorem Ku (n:Int)(hn:n=64∨n=32)(w:World):Calls Tryz.prog 86 #[.int .i64 n] w fun e w'=>e=.returned (.tuple #[knd n,.bool true])∧Kept w w':=by
 rcases hn with rfl|rfl
 ·exact j4 w
 ·exact j5 w
theorem qfq (n:Int)(hn:n=64∨n=32):∃k0 p k2 k3 k4 k5 k6 k7 k8:Int,knd n=.agg #[.int .i64 k0,.int .i64 p,.int .i64 k2,.int .i64 k3,.int .i64 k4,.int .i64 k5,.int .i64 k6,.int .i64 k7,.int .i64 k8]:=by
 rcases hn with rfl|rfl
 ·exact⟨_,_,_,_,_,_,_,_,_,rfl⟩
 ·exact⟨_,_,_,_,_,_,_,_,_,rfl⟩
theorem Kv (n way:Int)(hn:n=64∨n=32)(n1 n2:Bool)(a1 a2:Option Addr)(l1 c1 l2 c2:Nat)(x1 x2 b:Int)(od:Bool)(w:World)(KT:Hid (∀u,Kept w u→Calls Tryz.prog 174 #[knd n,.agg #[.bool n1,.slice a1 l1 c1,.int .i64 x1],.agg #[.bool n2,.slice a2 l2 c2,.int .i64 x2],.int .i64 way] u fun e w'=>e=.returned (.tuple #[.int .i64 b,.bool od])∧Kept u w')):Calls Tryz.prog 155 #[.agg #[.bool n1,.slice a1 l1 c1,.int .i64 x1],.agg #[.bool n2,.slice a2 l2 c2,.int .i64 x2],.int .i64 n,.int .i64 way] w fun e w'=>e=.returned (.tuple #[.int .i64 b,.bool od])∧Kept w w':=by
 obtain⟨k0,p,k2,k3,k4,k5,k6,k7,k8,hk⟩:=qfq n hn
 have KO:Hid (∀u,Calls Tryz.prog 86 #[.int .i64 n] u fun e w'=>e=.returned (.tuple #[.agg #[.int .i64 k0,.int .i64 p,.int .i64 k2,.int .i64 k3,.int .i64 k4,.int .i64 k5,.int .i64 k6,.int .i64 k7,.int .i64 k8],.bool true])∧Kept u w'):=fun u=>by
  have:=Ku n hn u
  rw[hk]at this
  exact this
 rw[hk]at KT
 obtain⟨X,hX⟩:∃X,X=(w.alloc (.cells #[.bool n1,.slice a1 l1 c1,.int .i64 x1] 31)).alloc (.cells #[.bool n2,.slice a2 l2 c2,.int .i64 x2] 31):=⟨_,rfl⟩
 have hK:Kept w X:=by rw[hX];exact((qia w).alloc _ _).alloc _ _
 have HQ:Hid (∀u,Kept X u→(u.cell? ⟨w.heap.size,0,none⟩=some (.bool n1)∧u.cell? ⟨w.heap.size,1,none⟩=some (.slice a1 l1 c1)∧u.cell? ⟨w.heap.size,2,none⟩=some (.int .i64 x1))∧u.cell? ⟨w.heap.size+1,0,none⟩=some (.bool n2)∧u.cell? ⟨w.heap.size+1,1,none⟩=some (.slice a2 l2 c2)∧u.cell? ⟨w.heap.size+1,2,none⟩=some (.int .i64 x2)):=fun u k=>by
  have hb0:w.heap.size<X.heap.size:=by rw[hX];simp[go_sem]
  have hb1:w.heap.size+1<X.heap.size:=by rw[hX];simp
  refine⟨⟨(k.below.cell (p:=⟨w.heap.size,0,none⟩) hb0).trans ?_,(k.below.cell (p:=⟨w.heap.size,1,none⟩) hb0).trans ?_,(k.below.cell (p:=⟨w.heap.size,2,none⟩) hb0).trans ?_⟩,(k.below.cell (p:=⟨w.heap.size+1,0,none⟩) hb1).trans ?_,(k.below.cell (p:=⟨w.heap.size+1,1,none⟩) hb1).trans ?_,(k.below.cell (p:=⟨w.heap.size+1,2,none⟩) hb1).trans ?_⟩
  all_goals
   rw[hX]
   simp[go_sem]
 go_enter Tryz.func155,Tryz.ntmps155
 go_upto_region 1 with fail
 rw[←hX]
 clear hX
 go_wp2_with fail
 refine(KO.out _).mono ?_
 rintro e w1 ⟨rfl,hk1⟩
 have hk2:=hk1.alloc #[.int .i64 k0,.int .i64 p,.int .i64 k2,.int .i64 k3,.int .i64 k4,.int .i64 k5,.int .i64 k6,.int .i64 k7,.int .i64 k8] 116
 obtain⟨⟨q0,q1,q2⟩,q3,q4,q5⟩:=HQ.out _ hk2
 go_wp2_with fail
 refine(KT.out _ (hK.trans hk2)).mono ?_
 rintro e w2 ⟨rfl,hk3⟩
 go_wp2_with fail
 go_ret2
 exact⟨rfl,hK.trans (hk2.trans hk3)⟩
theorem Xx (ng:Bool)(M:Nat)(hM:M≤9218868437227405312):(if (if ng=true then (-9223372036854775808:Int)else 0)+(M:Int)=-9223372036854775808 then 0 else (if ng=true then (-9223372036854775808:Int)else 0)+(M:Int))=pz 64 (kyz ng M):=by
 unfold pz kyz
 cases ng
 ·simp only[Bool.false_eq_true,if_false,if_true]
  (repeat' split)<;>first|omega|(exfalso;simp_all;done)
 ·simp only[if_true]
  (repeat' split)<;>first|omega|(exfalso;simp_all;done)
theorem Xy (ng:Bool)(M:Nat)(hM:M≤2139095040):(if (if ng=true then (2147483648:Int)else 0)+(M:Int)=2147483648 then 0 else (if ng=true then (2147483648:Int)else 0)+(M:Int))=pz 32 (kyz ng M):=by
 unfold pz kyz
 cases ng
 ·simp only[Bool.false_eq_true,if_false,if_true]
  (repeat' split)<;>first|omega|(exfalso;simp_all;done)
 ·simp only[if_true]
  (repeat' split)<;>first|omega|(exfalso;simp_all;done)
theorem Kw (A s z:Nat)(h:s≤30*z):(digs (A*2^s)).length≤(digs A).length+z:=by
 have h1:=qE A _ (qhy (digs A).length)
 have h2:2^s≤2^(30*z):=qhw (by omega) h
 have h3:A*2^s<2^(30*((digs A).length+z)):=by
  rw[Nat.mul_add,qhv]
  exact Nat.mul_lt_mul_of_lt_of_le h1 h2 (qht _)
 exact qo _ _ h3
theorem Z1 (r:Nm)(hv:vld r=true)(hne:r.mag≠[]):bl (nv r.mag)≤60000:=by
 obtain⟨hd,h0,hl,hx1,hx2⟩:=vj r hv hne
 have:=qY (nv r.mag) (30*(digs (nv r.mag)).length) (qE (nv r.mag) _ (qhy _))
 rw[hd]at this
 omega
theorem qhk (n:Int)(hn:n=64∨n=32):qF n≤53∧24≤qF n∧-1074≤qi n∧qi n≤-149:=by
 rcases hn with rfl|rfl<;>decide
end Go.Proofs.YtaglkncdedeipaaGreatDoor
namespace Go.Proofs.YtaglkncdedeipaaGreatDoor
open Go.ChangeShapes Go.WideShapes Go.ChangeAt Go.RowKit Ieee
set_option linter.unusedVariables false
set_option linter.unusedSimpArgs false
set_option maxHeartbeats 16000000
set_option maxRecDepth 100000
end Go.Proofs.YtaglkncdedeipaaGreatDoor
namespace Go.Proofs.YtaglkncdedeipaaGreatDoor
open Go.ChangeShapes Go.WideShapes Go.ChangeAt Go.RowKit
set_option linter.unusedVariables false
set_option linter.unusedSimpArgs false
set_option maxHeartbeats 16000000
set_option maxRecDepth 100000
theorem YO (n way:Int)(hn:n=64∨n=32)(hw:way=0∨way=1∨way=2)(a b:Nm)(ha:vld a=true)(hb:vld b=true)(ham:a.mag≠[])(hbm:b.mag≠[])(k Q H F:Nat)(od hf rt:Bool)(hC:Cutz (cbn n) (2^(qi n-(-5000000)).toNat*(nv b.mag*2^(b.exp-(-5000000)).toNat)) (nv a.mag*2^(a.exp-2*(-5000000)).toNat) k Q H F od hf rt)(va vb:Value)(w:World)(h1:RL w va a.mag)(h2:RL w vb b.mag):Calls Tryz.prog 174 #[knd n,.agg #[.bool a.neg,va,.int .i64 a.exp],.agg #[.bool b.neg,vb,.int .i64 b.exp],.int .i64 way] w fun e w'=>e=.returned (.tuple #[.int .i64 (pz n (kyz (a.neg != b.neg) (mgz way (a.neg != b.neg) (ifn n) F od hf rt))),.bool (odz way (a.neg != b.neg) (ifn n) F od hf rt)])∧Kept w w':=by
 obtain⟨da,a0,la,xa1,xa2⟩:=vj a ha ham
 obtain⟨db,b0,lb,xb1,xb2⟩:=vj b hb hbm
 have hTa:=Z1 a ha ham
 have hTb:=Z1 b hb hbm
 obtain⟨pm1,pm2,pm3,pm4⟩:=qhk n hn
 obtain⟨sh,hsh⟩:∃sh:Nat,(sh:Int)=max 0 ((bl (nv b.mag):Int)-(bl (nv a.mag):Int)+qF n+2):=⟨(max 0 ((bl (nv b.mag):Int)-(bl (nv a.mag):Int)+qF n+2)).toNat,by omega⟩
 obtain⟨e,he⟩:∃e,e=a.exp-b.exp-sh:=⟨_,rfl⟩
 obtain⟨u,hu⟩:∃u,unz (qF n).toNat (qi n) (bl (nv a.mag*2^sh/nv b.mag)) e=u:=⟨_,rfl⟩
 obtain⟨k',hk'⟩:∃k',flo (nv a.mag*2^sh/nv b.mag) (e-u)=k':=⟨_,rfl⟩
 obtain⟨F',hF'⟩:∃F',F'=(u-qi n).toNat*cbn n+k':=⟨_,rfl⟩
 obtain⟨Q',H',hD⟩:=Yo n hn (nv a.mag) (nv b.mag) a0 b0 a.exp b.exp (-5000000) e sh (by omega) he (by omega) (by omega) (by omega) u hu k' F' hk' hF'
 have hS:=Yr hC hD (VW n hn) way hw (a.neg != b.neg) (ifn n)
 rw[hS.1,hS.2]
 obtain⟨p1,-,-⟩:=jH n hn
 have hq:=Qk (nv a.mag) (nv b.mag) sh (qF n).toNat a0 b0 (by omega)
 have hq0:nv a.mag*2^sh/nv b.mag≠0:=by
  intro h0
  rw[h0,jt]at hq
  omega
 have hl1:=Kw (nv a.mag) sh 5000 (by omega)
 have hl2:=Z8 (nv a.mag*2^sh/nv b.mag) (nv a.mag*2^sh) (Nat.div_le_self _ _)
 rw[←da]at h1 la
 rw[←db]at h2 lb
 have hM:=qcz way (a.neg != b.neg) (ifn n) F' (decide (k'%2=1)) (decide (flo (nv a.mag*2^sh/nv b.mag) (e-u+1)%2=1)) (decide (nv a.mag*2^sh%nv b.mag≠0)||rst (nv a.mag*2^sh/nv b.mag) (e-u+1))
 rcases hn with rfl|rfl
 ·refine Ql 64 53 4503599627370496 2047 (-1074) 1024 9218868437227405312 (-9223372036854775808) 9221120237041090561 (by decide) (nv a.mag) (nv b.mag) a0 b0 a.neg b.neg a.exp b.exp ⟨xa1,xa2⟩ ⟨xb1,xb2⟩ va vb w h1 h2 la lb sh hsh way ((if (a.neg != b.neg)=true then (-9223372036854775808:Int)else 0)+(mgz way (a.neg != b.neg) (ifn 64) F' (decide (k'%2=1)) (decide (flo (nv a.mag*2^sh/nv b.mag) (e-u+1)%2=1)) (decide (nv a.mag*2^sh%nv b.mag≠0)||rst (nv a.mag*2^sh/nv b.mag) (e-u+1)):Nat)) _ _ (fun v r1 hr=>?_) (fun v=>?_)
  ·rw[←he]
   exact qc7 way hw (a.neg != b.neg) _ hq0 e _ r1 v hr (by omega) (by omega) (by omega) u hu k' hk' F' hF' _ _ _ rfl rfl rfl _ rfl
  ·have:=Ky ((if (a.neg != b.neg)=true then (-9223372036854775808:Int)else 0)+(mgz way (a.neg != b.neg) (ifn 64) F' (decide (k'%2=1)) (decide (flo (nv a.mag*2^sh/nv b.mag) (e-u+1)%2=1)) (decide (nv a.mag*2^sh%nv b.mag≠0)||rst (nv a.mag*2^sh/nv b.mag) (e-u+1)):Nat)) (odz way (a.neg != b.neg) (ifn 64) F' (decide (k'%2=1)) (decide (flo (nv a.mag*2^sh/nv b.mag) (e-u+1)%2=1)) (decide (nv a.mag*2^sh%nv b.mag≠0)||rst (nv a.mag*2^sh/nv b.mag) (e-u+1))) v
   rw[Xx _ _ hM]at this
   exact this
 ·refine Ql 32 24 8388608 255 (-149) 128 2139095040 2147483648 2143289345 (by decide) (nv a.mag) (nv b.mag) a0 b0 a.neg b.neg a.exp b.exp ⟨xa1,xa2⟩ ⟨xb1,xb2⟩ va vb w h1 h2 la lb sh hsh way ((if (a.neg != b.neg)=true then (2147483648:Int)else 0)+(mgz way (a.neg != b.neg) (ifn 32) F' (decide (k'%2=1)) (decide (flo (nv a.mag*2^sh/nv b.mag) (e-u+1)%2=1)) (decide (nv a.mag*2^sh%nv b.mag≠0)||rst (nv a.mag*2^sh/nv b.mag) (e-u+1)):Nat)) _ _ (fun v r1 hr=>?_) (fun v=>?_)
  ·rw[←he]
   exact qc8 way hw (a.neg != b.neg) _ hq0 e _ r1 v hr (by omega) (by omega) (by omega) u hu k' hk' F' hF' _ _ _ rfl rfl rfl _ rfl
  ·have:=KG ((if (a.neg != b.neg)=true then (2147483648:Int)else 0)+(mgz way (a.neg != b.neg) (ifn 32) F' (decide (k'%2=1)) (decide (flo (nv a.mag*2^sh/nv b.mag) (e-u+1)%2=1)) (decide (nv a.mag*2^sh%nv b.mag≠0)||rst (nv a.mag*2^sh/nv b.mag) (e-u+1)):Nat)) (odz way (a.neg != b.neg) (ifn 32) F' (decide (k'%2=1)) (decide (flo (nv a.mag*2^sh/nv b.mag) (e-u+1)%2=1)) (decide (nv a.mag*2^sh%nv b.mag≠0)||rst (nv a.mag*2^sh/nv b.mag) (e-u+1))) v
   rw[Xy _ _ hM]at this
   exact this
theorem YP (n way:Int)(hn:n=64∨n=32)(hw:way=0∨way=1∨way=2)(a:Nm)(ha:vld a=true)(ham:a.mag≠[]):∃o,∀(va vb:Value) (w:World),RL w va a.mag→RL w vb oneN5.mag→Calls Tryz.prog 174 #[knd n,.agg #[.bool a.neg,va,.int .i64 a.exp],.agg #[.bool oneN5.neg,vb,.int .i64 oneN5.exp],.int .i64 way] w fun e w'=>e=.returned (.tuple #[.int .i64 (pz n (kyN n way a)),.bool o])∧Kept w w':=by
 obtain⟨-,a0,-,xa1,xa2⟩:=vj a ha ham
 have hkl:(-1074:Int)≤qi n:=by rcases hn with rfl|rfl<;>decide
 have hC:=qg7 n hn a ha ham (2*(-5000000)) (by omega) (by omega)
 rw[ki]at hC
 have hone:nv oneN5.mag=1:=by decide
 have hD:2^(qi n-2*(-5000000)).toNat=2^(qi n-(-5000000)).toNat*(nv oneN5.mag*2^(oneN5.exp-(-5000000)).toNat):=by
  rw[hone,Nat.one_mul,←qhv]
  congr 1
  have:oneN5.exp=0:=rfl
  omega
 rw[hD]at hC
 have:=fun va vb w h1 h2=>YO n way hn hw a oneN5 ha (by decide) ham (by decide) _ _ _ _ _ _ _ hC va vb w h1 h2
 have hs:(a.neg != oneN5.neg)=a.neg:=by
  have:oneN5.neg=false:=rfl
  rw[this]
  cases a.neg<;>rfl
 rw[hs]at this
 have hk:kyz a.neg (mgz way a.neg (ifn n) (flN n a) (odN n a) (hfN n a) (rtN n a))=kyN n way a:=by
  unfold kyN mgN kyz
  rw[if_neg ham]
 rw[hk]at this
 exact⟨_,this⟩
theorem qa6 (n way:Int)(hn:n=64∨n=32)(n1 n2:Bool)(a1 a2:Option Addr)(l1 c1 l2 c2:Nat)(x1 x2 b:Int)(od:Bool)(w:World)(KT:Hid (∀u,Kept w u→Calls Tryz.prog 174 #[knd n,.agg #[.bool n1,.slice a1 l1 c1,.int .i64 x1],.agg #[.bool n2,.slice a2 l2 c2,.int .i64 x2],.int .i64 way] u fun e w'=>e=.returned (.tuple #[.int .i64 b,.bool od])∧Kept u w')):Calls Tryz.prog 121 #[.agg #[.bool n1,.slice a1 l1 c1,.int .i64 x1],.agg #[.bool n2,.slice a2 l2 c2,.int .i64 x2],.int .i64 n,.int .i64 way] w fun e w'=>e=.returned (.int .i64 b)∧Kept w w':=by
 have KO:Hid (∀u,Kept w u→Calls Tryz.prog 155 #[.agg #[.bool n1,.slice a1 l1 c1,.int .i64 x1],.agg #[.bool n2,.slice a2 l2 c2,.int .i64 x2],.int .i64 n,.int .i64 way] u fun e w'=>e=.returned (.tuple #[.int .i64 b,.bool od])∧Kept u w'):=fun u k=>Kv n way hn n1 n2 a1 a2 l1 c1 l2 c2 x1 x2 b od u (fun v kv=>KT.out v (k.trans kv))
 clear KT
 go_enter Tryz.func121,Tryz.ntmps121
 go_wp2_with (first|(go_at_call 155;refine(KO.out _ (((qia w).alloc _ _).alloc _ _)).mono ?_;rintro e w1 ⟨rfl,k1⟩))
 go_ret
 exact⟨rfl,(((qia w).alloc _ _).alloc _ _).trans k1⟩
def Tk (n way i:Int)(x:Nm):Int:=if 0<i then (ifn n:Int)else if i<0 then -(ifn n:Int)else kyN n way x
theorem qdx (n:Int)(hn:n=64∨n=32):∃e0 e1 e2 e3 e4 e5 e6 e7 e8:Int,knd n=.agg #[.int .i64 e0,.int .i64 e1,.int .i64 e2,.int .i64 e3,.int .i64 e4,.int .i64 e5,.int .i64 e6,.int .i64 e7,.int .i64 e8]∧e6=pz n (ifn n:Int)∧IntKind.i64.wrap (e6+e7)=pz n (-(ifn n:Int)):=by
 rcases hn with rfl|rfl
 ·exact⟨_,_,_,_,_,_,_,_,_,by unfold knd;rw[if_pos rfl],by decide,by decide⟩
 ·exact⟨_,_,_,_,_,_,_,_,_,by unfold knd;rw[if_neg (by decide)],by decide,by decide⟩
theorem QB (P:Nat→Prop)(n way:Int)(hn:n=64∨n=32)(hw:way=0∨way=1∨way=2)(v:Value)(i:Int)(x:Nm)(hi:i=-1∨i=0∨i=1)(hx:vld x=true)(w:World)(h:EnAt P w v i x oneN5):Calls Tryz.prog 93 #[v,.int .i64 n,.int .i64 way] w fun e w'=>e=.returned (.int .i64 (pz n (Tk n way i x)))∧Kept w w':=by
 obtain⟨e0,e1,e2,e3,e4,e5,e6,e7,e8,hk,h6,h7⟩:=qdx n hn
 have KO:Hid (∀u,Calls Tryz.prog 86 #[.int .i64 n] u fun e w'=>e=.returned (.tuple #[.agg #[.int .i64 e0,.int .i64 e1,.int .i64 e2,.int .i64 e3,.int .i64 e4,.int .i64 e5,.int .i64 e6,.int .i64 e7,.int .i64 e8],.bool true])∧Kept u w'):=fun u=>by
  have:=Ku n hn u
  rw[hk]at this
  exact this
 obtain⟨a1,c1,a2,c2,rfl,r1,r2⟩:=h
 rcases hi with rfl|rfl|rfl
 ·have:Tk n way (-1) x=-(ifn n:Int):=by unfold Tk;rw[if_neg (by decide),if_pos (by decide)]
  rw[this]
  exact qds n way _ _ _ _ _ _ _ _ _ _ e0 e1 e2 e3 e4 e5 e6 e7 e8 _ h7 w KO
 ·have ht:Tk n way 0 x=kyN n way x:=by unfold Tk;rw[if_neg (by decide),if_neg (by decide)]
  rw[ht]
  refine qdt n way _ _ _ _ _ _ _ _ _ _ e0 e1 e2 e3 e4 e5 e6 e7 e8 _ w KO (fun u k=>?_)
  by_cases hm:x.mag=[]
  ·have hz:kyN n way x=0:=by
    unfold kyN mgN
    simp[hm]
   have hp0:pz n 0=0:=by rcases hn with rfl|rfl<;>decide
   rw[hz,hp0,hm]
   exact qa6 n way hn _ _ _ _ _ _ _ _ _ _ 0 false u (fun u' _=>Yt (knd n) e0 e1 e2 e3 e4 e5 e6 e7 e8 hk _ _ _ _ _ _ _ _ _ _ u')
  ·obtain⟨o,hq⟩:=YP n way hn hw x hx hm
   exact qa6 n way hn _ _ _ _ _ _ _ _ _ _ _ o u (fun u' k'=>hq _ _ u' (r1.rl.kept (k.trans k')) (r2.rl.kept (k.trans k')))
 ·have:Tk n way 1 x=(ifn n:Int):=by unfold Tk;rw[if_pos (by decide)]
  rw[this]
  have:=qdr n way x.neg a1 x.mag.length c1 x.exp oneN5.neg a2 oneN5.mag.length c2 oneN5.exp e0 e1 e2 e3 e4 e5 e6 e7 e8 w KO
  rw[h6]at this
  exact this
theorem qef (b:Int):cls b 32=4∨jb b=true∧2147483648≤b∨jb b=false∧b<2147483648:=by
 by_cases hc:cls b 32=4
 ·exact Or.inl hc
 ·have hv:=qG b hc
  refine Or.inr ?_
  have ht:thr b=true:=by simp[thr,hv]
  have e:jb b=decide (2147483648≤b):=by simp[jb,ht,sgn]
  by_cases h:2147483648≤b
  ·exact Or.inl ⟨by rw[e];simpa using h,h⟩
  ·exact Or.inr ⟨by rw[e];simpa using h,by omega⟩
theorem xh (b:Int)(hb1:-9223372036854775808≤b)(hb2:b≤9223372036854775807)(w:World):Calls Tryz.prog 172 #[.agg #[.int .i64 64,.int .i64 53,.int .i64 4503599627370496,.int .i64 2047,.int .i64 (-1074),.int .i64 1024,.int .i64 9218868437227405312,.int .i64 (-9223372036854775808),.int .i64 9221120237041090561],.int .i64 b] w fun e w'=>e=.returned (.bool (sgn b 64))∧Kept w w':=by
 go_enter Tryz.func172,Tryz.ntmps172
 go_wp2_with (first|(go_at_call 87;refine(ke _ hb1 hb2 _).mono ?_;rintro e w2 ⟨rfl,hk2⟩))
 go_ret
 exact⟨rfl,((qia _).alloc _ _).trans hk2⟩
theorem xi (b:Int)(w:World):Calls Tryz.prog 172 #[.agg #[.int .i64 32,.int .i64 24,.int .i64 8388608,.int .i64 255,.int .i64 (-149),.int .i64 128,.int .i64 2139095040,.int .i64 2147483648,.int .i64 2143289345],.int .i64 b] w fun e w'=>e=.returned (.bool (jb b))∧Kept w w':=by
 go_enter Tryz.func172,Tryz.ntmps172
 go_wp2_with (first|(go_at_call 87;refine(kg _ _).mono ?_;rintro e w2 ⟨rfl,hk2⟩))
 go_ret
 exact⟨rfl,((qia _).alloc _ _).trans hk2⟩
theorem YZ (b:Int)(hb1:-9223372036854775808≤b)(hb2:b≤9223372036854775807)(w:World):Calls Tryz.prog 151 #[.int .i64 b,.int .i64 64] w fun e w'=>e=.returned (.int .i64 (if cls b 64=4 then 9221120237041090561 else if cls b 64=0 then 0 else b))∧Kept w w':=by
 obtain⟨g,hs,hg⟩:∃g:Bool,sgn b 64=g∧(g=true∧b<0∨g=false∧0≤b):=⟨_,rfl,by by_cases h:b<0<;>simp[sgn,h];omega⟩
 rcases hg with ⟨rfl,hg⟩|⟨rfl,hg⟩
 all_goals
  go_enter Tryz.func151,Tryz.ntmps151
  go_wp2_with (first|(go_at_call 86;refine(j4 _).mono ?_;rintro e w1 ⟨rfl,hk1⟩)|(go_at_call 72;refine(qu _ _ hb1 hb2 _).mono ?_;rintro e w2 ⟨rfl,hk2⟩;first|(have hK:=hK.trans hk2;have hcl:=qg hK)|(have hK:=hk2;have hcl:=qg hK))|(go_at_call 172;refine(xh _ hb1 hb2 _).mono ?_;rintro e w3 ⟨rfl,hk3⟩;have hK:=hK.trans hk3;have hcl:=qg hK))
  all_goals
   go_ret
   refine⟨qn ?_,(hk1.alloc _ _).trans hK⟩
   try unfold wrap64
   (try simp only[Bool.not_eq_true',Bool.not_eq_false',Bool.not_eq_true,bne_iff_ne,bne_eq_false_iff_eq,beq_iff_eq,beq_eq_false_iff_ne,ne_eq]at *)<;>((repeat' split)<;>omega)
theorem Y0 (b:Int)(hb1:-9223372036854775808≤b)(hb2:b≤9223372036854775807)(w:World):Calls Tryz.prog 151 #[.int .i64 b,.int .i64 32] w fun e w'=>e=.returned (.int .i64 (if cls b 32=4 then 2143289345 else if cls b 32=0 then 0 else b))∧Kept w w':=by
 obtain⟨g,hs,hg⟩:∃g:Bool,jb b=g∧(cls b 32=4∨g=true∧2147483648≤b∨g=false∧b<2147483648):=⟨_,rfl,qef b⟩
 rcases hg with hg|⟨rfl,hg⟩|⟨rfl,hg⟩
 all_goals
  go_enter Tryz.func151,Tryz.ntmps151
  go_wp2_with (first|(go_at_call 86;refine(j5 _).mono ?_;rintro e w1 ⟨rfl,hk1⟩)|(go_at_call 72;refine(qu _ _ hb1 hb2 _).mono ?_;rintro e w2 ⟨rfl,hk2⟩;first|(have hK:=hK.trans hk2;have hcl:=qg hK)|(have hK:=hk2;have hcl:=qg hK))|(go_at_call 172;refine(xi _ _).mono ?_;rintro e w3 ⟨rfl,hk3⟩;have hK:=hK.trans hk3;have hcl:=qg hK))
  all_goals
   go_ret
   refine⟨qn ?_,(hk1.alloc _ _).trans hK⟩
   try unfold wrap64
   (try simp only[Bool.not_eq_true',Bool.not_eq_false',Bool.not_eq_true,bne_iff_ne,bne_eq_false_iff_eq,beq_iff_eq,beq_eq_false_iff_ne,ne_eq]at *)<;>((repeat' split)<;>omega)
theorem qbm (b n:Int)(h1:(n==32)=false)(h2:(n==64)=false)(w:World):Calls Tryz.prog 151 #[.int .i64 b,.int .i64 n] w fun e w'=>e=.returned (.int .i64 (0))∧Kept w w':=by
 go_enter Tryz.func151,Tryz.ntmps151
 go_wp2_with (first|(go_at_call 86;refine(qbk _ h1 h2 _).mono ?_;rintro e w1 ⟨rfl,hk1⟩))
 go_ret
 exact⟨rfl,hk1.alloc _ _⟩
theorem JU (b:Int)(hb1:-9223372036854775808≤b)(hb2:b≤9223372036854775807):cls b 64=0↔b=0∨b=-9223372036854775808:=by
 unfold cls zc
 rw[if_pos rfl]
 (repeat' split)<;>omega
theorem JV (b:Int):cls b 32=0↔b=0∨b=2147483648:=by
 unfold cls zc
 rw[if_neg (by decide),if_pos rfl]
 (repeat' split)<;>omega
theorem jT (b n:Int)(hb1:-9223372036854775808≤b)(hb2:b≤9223372036854775807)(w:World):Calls Tryz.prog 151 #[.int .i64 b,.int .i64 n] w fun e w'=>e=.returned (.int .i64 (can b n))∧Kept w w':=by
 by_cases h64:n=64
 ·subst h64
  refine(YZ b hb1 hb2 w).mono ?_
  rintro e w' ⟨rfl,hk⟩
  refine⟨qn ?_,hk⟩
  have hz:=JU b hb1 hb2
  by_cases hc:cls b 64=4
  ·simp[can,qh,z8,hc]
  ·have hi:qh b 64=true:=by simp[qh,hc]
   unfold can
   rw[if_neg hc,if_pos hi,if_pos rfl]
   (repeat' split)<;>omega
 ·by_cases h32:n=32
  ·subst h32
   refine(Y0 b hb1 hb2 w).mono ?_
   rintro e w' ⟨rfl,hk⟩
   refine⟨qn ?_,hk⟩
   have hz:=JV b
   by_cases hc:cls b 32=4
   ·simp[can,qh,z8,hc]
   ·have hi:qh b 32=true:=by simp[qh,hc]
    unfold can
    rw[if_neg hc,if_pos hi,if_neg (by decide:¬(32:Int)=64)]
    (repeat' split)<;>omega
  ·refine(qbm b n (by simpa using h32) (by simpa using h64) w).mono ?_
   rintro e w' ⟨rfl,hk⟩
   exact⟨qn (by simp[can,ja b n h64 h32,ys n h64 h32]),hk⟩
def plc (b n:Int):Int:=
 if qh b n=true then
  if n=64 then (if b<0 then -1-b%9223372036854775808 else b)else (if 2147483648≤b then -1-b%2147483648 else b)
 else 9223372036854775807
def qhm (x y:Int):Int:=if x<y then -1 else if y<x then 1 else 0
def ord (a b n:Int):Int:=qhm (plc a n) (plc b n)
theorem Qe (b:Int)(hb1:-9223372036854775808≤b)(hb2:b≤9223372036854775807)(hs:sgn b 64=true)(hg:b<0)(w:World):Calls Tryz.prog 150 #[.agg #[.int .i64 64,.int .i64 53,.int .i64 4503599627370496,.int .i64 2047,.int .i64 (-1074),.int .i64 1024,.int .i64 9218868437227405312,.int .i64 (-9223372036854775808),.int .i64 9221120237041090561],.int .i64 b] w fun e w'=>e=.returned (.int .i64 (-(b- -9223372036854775808)-1))∧Kept w w':=by
  go_enter Tryz.func150,Tryz.ntmps150
  go_wp2_with (first|(go_at_call 172;refine(xh _ hb1 hb2 _).mono ?_;rintro e w2 ⟨rfl,hk2⟩;have hcl:=qg hk2))
  go_ret
  exact ⟨qn (by (try unfold wrap64);omega),((qia _).alloc _ _).trans hk2⟩
theorem ZI (b:Int)(hb1:-9223372036854775808≤b)(hb2:b≤9223372036854775807)(hs:sgn b 64=false)(w:World):Calls Tryz.prog 150 #[.agg #[.int .i64 64,.int .i64 53,.int .i64 4503599627370496,.int .i64 2047,.int .i64 (-1074),.int .i64 1024,.int .i64 9218868437227405312,.int .i64 (-9223372036854775808),.int .i64 9221120237041090561],.int .i64 b] w fun e w'=>e=.returned (.int .i64 b)∧Kept w w':=by
 go_enter Tryz.func150,Tryz.ntmps150
 go_wp2_with (first|(go_at_call 172;refine(xh _ hb1 hb2 _).mono ?_;rintro e w2 ⟨rfl,hk2⟩;have hcl:=qg hk2))
 go_ret
 exact⟨rfl,((qia _).alloc _ _).trans hk2⟩
theorem Qf (b:Int)(hb1:-9223372036854775808≤b)(hb2:b≤9223372036854775807)(hs:jb b=true)(hg:2147483648≤b)(w:World):Calls Tryz.prog 150 #[.agg #[.int .i64 32,.int .i64 24,.int .i64 8388608,.int .i64 255,.int .i64 (-149),.int .i64 128,.int .i64 2139095040,.int .i64 2147483648,.int .i64 2143289345],.int .i64 b] w fun e w'=>e=.returned (.int .i64 (-(b-2147483648)-1))∧Kept w w':=by
  go_enter Tryz.func150,Tryz.ntmps150
  go_wp2_with (first|(go_at_call 172;refine(xi _ _).mono ?_;rintro e w2 ⟨rfl,hk2⟩;have hcl:=qg hk2))
  go_ret
  exact ⟨qn (by (try unfold wrap64);omega),((qia _).alloc _ _).trans hk2⟩
theorem ZJ (b:Int)(hb1:-9223372036854775808≤b)(hb2:b≤9223372036854775807)(hs:jb b=false)(w:World):Calls Tryz.prog 150 #[.agg #[.int .i64 32,.int .i64 24,.int .i64 8388608,.int .i64 255,.int .i64 (-149),.int .i64 128,.int .i64 2139095040,.int .i64 2147483648,.int .i64 2143289345],.int .i64 b] w fun e w'=>e=.returned (.int .i64 b)∧Kept w w':=by
 go_enter Tryz.func150,Tryz.ntmps150
 go_wp2_with (first|(go_at_call 172;refine(xi _ _).mono ?_;rintro e w2 ⟨rfl,hk2⟩;have hcl:=qg hk2))
 go_ret
 exact⟨rfl,((qia _).alloc _ _).trans hk2⟩
theorem qfi {x v:World}{c:Array Value}{t:TypeId}(h:Kept (x.alloc (.cells c t)) v):Kept (x.alloc (.cells c t)) v.drew∧∀o,v.drew.cell? ⟨x.heap.size,o,none⟩=(x.alloc (.cells c t)).cell? ⟨x.heap.size,o,none⟩:=⟨h.drew,qg h.drew⟩
theorem qfj {x v v':World}{c:Array Value}{t:TypeId}(h:Kept (x.alloc (.cells c t)) v∧∀o,v.cell? ⟨x.heap.size,o,none⟩=(x.alloc (.cells c t)).cell? ⟨x.heap.size,o,none⟩)(k:Kept v v'):Kept (x.alloc (.cells c t)) v'∧∀o,v'.cell? ⟨x.heap.size,o,none⟩=(x.alloc (.cells c t)).cell? ⟨x.heap.size,o,none⟩:=⟨h.1.trans k,qg (h.1.trans k)⟩
def rpl (b n:Int):Int:=if n=64 then (if b<0 then -1-b%9223372036854775808 else b)else (if jb b=true then -1-b%2147483648 else b)
theorem QG (b:Int)(hb1:-9223372036854775808≤b)(hb2:b≤9223372036854775807)(w:World):Calls Tryz.prog 150 #[.agg #[.int .i64 64,.int .i64 53,.int .i64 4503599627370496,.int .i64 2047,.int .i64 (-1074),.int .i64 1024,.int .i64 9218868437227405312,.int .i64 (-9223372036854775808),.int .i64 9221120237041090561],.int .i64 b] w fun e w'=>e=.returned (.int .i64 (rpl b 64))∧Kept w w':=by
 by_cases h:b<0
 ·refine(Qe b hb1 hb2 (by simp[sgn,h]) h w).mono ?_
  rintro e w' ⟨rfl,hk⟩
  exact⟨qn (by unfold rpl;rw[if_pos rfl,if_pos h];omega),hk⟩
 ·refine(ZI b hb1 hb2 (by simp[sgn];omega) w).mono ?_
  rintro e w' ⟨rfl,hk⟩
  exact⟨qn (by unfold rpl;rw[if_pos rfl,if_neg h]),hk⟩
theorem qbl (b:Int)(h:jb b=true):2147483648≤b∧b<4294967296:=by
 simp[jb,thr,sgn]at h
 omega
theorem QH (b:Int)(hb1:-9223372036854775808≤b)(hb2:b≤9223372036854775807)(w:World):Calls Tryz.prog 150 #[.agg #[.int .i64 32,.int .i64 24,.int .i64 8388608,.int .i64 255,.int .i64 (-149),.int .i64 128,.int .i64 2139095040,.int .i64 2147483648,.int .i64 2143289345],.int .i64 b] w fun e w'=>e=.returned (.int .i64 (rpl b 32))∧Kept w w':=by
 cases h:jb b
 ·refine(ZJ b hb1 hb2 h w).mono ?_
  rintro e w' ⟨rfl,hk⟩
  exact⟨qn (by unfold rpl;rw[if_neg (by decide),if_neg (by rw[h];decide)]),hk⟩
 ·have hv:=qbl b h
  refine(Qf b hb1 hb2 h hv.1 w).mono ?_
  rintro e w' ⟨rfl,hk⟩
  exact⟨qn (by unfold rpl;rw[if_neg (by decide),if_pos h];omega),hk⟩
end Go.Proofs.YtaglkncdedeipaaGreatDoor
