/-  -/
import Derived.Test.YtaglkncdedeipaaGreatDoorWs20
import Derived.Test.YtaglkncdedeipaaGreatDoorWs15
namespace Go.Proofs.YtaglkncdedeipaaGreatDoor
open Go.ChangeShapes Go.WideShapes Go.ChangeAt Go.RowKit Ieee
set_option linter.unusedVariables false
set_option linter.unusedSimpArgs false
set_option maxHeartbeats 16000000
set_option maxRecDepth 100000
theorem ZN (f:Format)(hb:f.binade≤f.infRung)(x:Nat):(f.infRung<qk f x∧∃s t,f.read x=.nan s t)∨(qk f x=f.infRung∧f.read x=.infinity (below f x))∨(qk f x<f.infRung∧∃m i,f.read x=.number (below f x) m i∧(m=0↔qk f x=0)):=by
 rcases Nat.lt_trichotomy (qk f x) f.infRung with h|h|h
 ·obtain⟨m,i,e,-,hv,-⟩:=zG f x h
  refine .inr (.inr ⟨h,m,i,e,?_⟩)
  constructor
  ·intro h0
   rw[h0,Nat.zero_mul]at hv
   exact xt f (by rw[←hv,zH])
  ·intro h0
   rw[h0,zH]at hv
   rcases Nat.mul_eq_zero.1 hv with h1|h1
   ·exact h1
   ·exact absurd h1 (Nat.ne_of_gt (qht _))
 ·exact .inr (.inl ⟨h,jn f x h hb⟩)
 ·exact .inl ⟨h,xu f x h hb⟩
def kdf (f:Format)(x:Nat):Nat:=if f.infRung<qk f x then 4 else if qk f x=f.infRung then 3 else if qk f x=0 then 0 else 1
theorem qho (f:Format)(hb:f.binade≤f.infRung)(h0:0<f.infRung)(x y:Nat)(hs:3≤kdf f x∨3≤kdf f y):f.mul x y=if kdf f x=4∨kdf f y=4∨kdf f x=0∨kdf f y=0 then none else some (f.word (below f x^^below f y) f.infRung):=by
 unfold kdf at *
 rcases ZN f hb x with ⟨hx,s,t,ex⟩|⟨hx,ex⟩|⟨hx,m,i,ex,hm⟩
 ·rw[if_pos hx,if_pos (.inl rfl)]
  unfold Format.mul
  rw[ex]
  rfl
 ·rcases ZN f hb y with ⟨hy,s',t',ey⟩|⟨hy,ey⟩|⟨hy,m',i',ey,hm'⟩
  ·rw[if_pos (.inr (.inl (by rw[if_pos hy])))]
   unfold Format.mul
   rw[ex,ey]
   rfl
  ·rw[if_neg (by rw[if_neg (by omega),if_pos hx,if_neg (by omega),if_pos hy];omega)]
   unfold Format.mul
   rw[ex,ey]
   rfl
  ·by_cases hz:qk f y=0
   ·rw[if_pos (.inr (.inr (.inr (by rw[if_neg (by omega),if_neg (by omega),if_pos hz]))))]
    unfold Format.mul
    rw[ex,ey,hm'.2 hz]
    rfl
   ·rw[if_neg (by rw[if_neg (by omega),if_pos hx,if_neg (by omega),if_neg (by omega),if_neg hz];omega)]
    unfold Format.mul
    have hne:m'≠0:=fun g=>hz (hm'.1 g)
    rw[ex,ey]
    simp[Datum.product,hne]
    rfl
 ·rcases ZN f hb y with ⟨hy,s',t',ey⟩|⟨hy,ey⟩|⟨hy,m',i',ey,hm'⟩
  ·rw[if_pos (.inr (.inl (by rw[if_pos hy])))]
   unfold Format.mul
   rw[ex,ey]
   rfl
  ·by_cases hz:qk f x=0
   ·rw[if_pos (.inr (.inr (.inl (by rw[if_neg (by omega),if_neg (by omega),if_pos hz]))))]
    unfold Format.mul
    rw[ex,ey,hm.2 hz]
    rfl
   ·rw[if_neg (by rw[if_neg (by omega),if_neg (by omega),if_neg hz,if_neg (by omega),if_pos hy];omega)]
    unfold Format.mul
    have hne:m≠0:=fun g=>hz (hm.1 g)
    rw[ex,ey]
    simp[Datum.product,hne,Bool.xor_comm]
    rfl
  ·exfalso
   rcases hs with h|h
   ·rw[if_neg (by omega),if_neg (by omega)]at h
    split at h<;>omega
   ·rw[if_neg (by omega),if_neg (by omega)]at h
    split at h<;>omega
theorem Fl.infw (n:Int)(hn:n=64∨n=32)(s:Bool):Fl n (FloatKind.f64.format.word s FloatKind.f64.format.infRung) (if s=true then -(ifn n:Int)else (ifn n:Int)):=by
 rcases hn with rfl|rfl<;>cases s
 ·exact⟨9218868437227405312,by decide,by decide,by decide,by decide+kernel⟩
 ·exact⟨-4503599627370496,by decide,by decide,by decide,by decide+kernel⟩
 ·exact⟨2139095040,by decide,by decide,by decide,by decide+kernel⟩
 ·exact⟨4286578688,by decide,by decide,by decide,by decide+kernel⟩
theorem Fl.parts {n:Int}{x:Nat}{k:Int}(h:Fl n x k):(qk FloatKind.f64.format x=0↔k=0)∧(qk FloatKind.f64.format x=FloatKind.f64.format.infRung↔(k=(ifn n:Int)∨k=-(ifn n:Int)))∧(k≠0→below FloatKind.f64.format x=decide (k<0)):=by
 obtain⟨q,hq,hK,o1,o2,o3,o4,o5,o6⟩:=h.wide
 have i2:=(vI x h.le h.lt).2
 rw[←o1,o3]at i2
 have hp:=hK.pos
 have hn:=hK.neg
 have ht:=hK.top
 have hb:=hK.bot
 have a:=Vn (below FloatKind.f64.format x) (qk FloatKind.f64.format x) (ifn 64) (jI 64)
 rw[←i2]at a
 rw[←qbw]
 have hpos:=jI 64
 generalize below FloatKind.f64.format x=sb at *
 generalize qk FloatKind.f64.format x=r at *
 refine⟨?_,?_,?_⟩
 ·cases sb<;>simp only[ZU,ZV]at i2<;>omega
 ·rw[ht,hb,a.1,a.2.1]
  cases sb<;>simp
 ·intro hk
  cases sb<;>simp only[ZU,ZV]at i2
  ·symm;rw[decide_eq_false_iff_not];omega
  ·symm;rw[qh1];omega
theorem Fl.kd {n:Int}{x:Nat}{k:Int}(h:Fl n x k):kdf FloatKind.f64.format x≠4∧(kdf FloatKind.f64.format x=0↔k=0)∧(3≤kdf FloatKind.f64.format x↔(k=(ifn n:Int)∨k=-(ifn n:Int))):=by
 obtain⟨p1,p2,-⟩:=h.parts
 have hle:=h.le
 have hpos:0<FloatKind.f64.format.infRung:=by decide+kernel
 unfold kdf
 rw[if_neg (by omega)]
 rw[←p1,←p2]
 generalize qk FloatKind.f64.format x=r at *
 generalize FloatKind.f64.format.infRung=I at *
 (repeat' split)<;>omega
theorem qeu {n:Int}{x y:Nat}{k j:Int}(hx:Fl n x k)(hy:Fl n y j)(h0:k≠0)(h1:j≠0)(hi:(k=(ifn n:Int)∨k=-(ifn n:Int))∨(j=(ifn n:Int)∨j=-(ifn n:Int))):FloatKind.f64.format.mul x y=some (FloatKind.f64.format.word (decide (k<0)^^decide (j<0)) FloatKind.f64.format.infRung):=by
 obtain⟨a1,a2,a3⟩:=hx.kd
 obtain⟨b1,b2,b3⟩:=hy.kd
 rw[qho FloatKind.f64.format kK (by decide+kernel) x y (hi.imp a3.2 b3.2),if_neg,hx.parts.2.2 h0,hy.parts.2.2 h1]
 intro h
 rcases h with h|h|h|h
 ·exact a1 h
 ·exact b1 h
 ·exact h0 (a2.1 h)
 ·exact h1 (b2.1 h)
theorem qfo (x:Nat)(hc:cls (qv x) 64<3):cfm (zw x) (-1074)=some (ofN (qv x) 64)∧Lies (-1074) 2200 (ofN (qv x) 64)∧vz (-1074) (ofN (qv x) 64)=zw x:=by
 have hn:(64:Int)=64∨(64:Int)=32:=.inl rfl
 obtain⟨p1,p2,p3,p4⟩:=xG _ hc
 have e1:cfm (zw x) (-1074)=some (ofN (qv x) 64):=by
  have h:=Zz (qv x) 64 hn hc
  rw[V0]at h
  have hm:∀(s:Bool) (a b:Int),sg s (a*b)=sg s a*b:=fun s a b=>by cases s<;>simp[sg,Int.neg_mul]
  unfold zw
  rw[hm,zM,show(-1074:Int)+((qA (qv x) 64+1074).toNat:Int)=qA (qv x) 64 by omega]
  rw[show((qw (qv x) 64).toNat:Int)=qw (qv x) 64 by omega]at h
  exact h
 have hlt:(zw x).natAbs<2^2200:=by
  have h:=qfn x hc
  obtain⟨K,hK⟩:∃K:Nat,K=2099:=⟨_,rfl⟩
  obtain⟨N,hN⟩:∃N:Nat,N=2200:=⟨_,rfl⟩
  rw[←hK]at h
  rw[←hN]
  have h6:(2:Nat)^K≤2^N:=qhw (by decide) (by omega)
  omega
 obtain⟨r,h1,h2,h3⟩:=jk (-1074) 2200 (by decide) (by decide) (by decide) (zw x) hlt
 rw[e1]at h1
 cases h1
 exact⟨e1,h2,h3⟩
theorem yg (x:Nat)(q:Int)(hx:Fl 64 x q)(hc:cls (qv x) 64<3)(w:World)(hT:Tab w):Calls Tryz.prog 83 #[.float .f64 x] w fun e w'=>∃v,e=.returned v∧New w w' v (ofN (qv x) 64)∧Kept w w':=by
 obtain⟨q',hq',hK,o1,o2,o3,o4,o5,o6⟩:=hx.wide
 have KO:Hid (∀u,Calls Tryz.prog 104 #[.float .f64 x] u fun e w'=>e=.returned (.int .i64 (qv x))∧u=w'):=fun u=>xs x u
 have hW:=(qia w).alloc #[.bool false,.slice none 0 0,.int .i64 0] 31
 have KE:Hid (Calls Tryz.prog 111 #[.int .i64 (qv x),.int .i64 64] (w.alloc (.cells #[.bool false,.slice none 0 0,.int .i64 0] 31)) fun e w'=>∃v,e=.returned (.tuple #[v,.int .i64 0])∧New (w.alloc (.cells #[.bool false,.slice none 0 0,.int .i64 0] 31)) w' v (ofN (qv x) 64)∧Kept (w.alloc (.cells #[.bool false,.slice none 0 0,.int .i64 0] 31)) w'):=qf7 (qv x) 64 o4 o5 (.inl rfl) hc _ (hT.kept hW)
 clear hx hK o1 o2 o3 o4 o5 o6 hc hT
 generalize qv x=p at *
 go_enter Tryz.func83,Tryz.ntmps83
 go_wp2_with (first|(go_at_call 104;refine(KO.out _).mono ?_;rintro e w1 ⟨rfl,rfl⟩)|(go_at_call 111;refine KE.out.mono ?_;rintro e w2 ⟨v,rfl,hN,k2⟩;obtain⟨vn,va,vl,vc,vx,rfl⟩:=hN.shape;obtain⟨f0,f1,f2,f3⟩:=qT w.heap.size (by simp) k2 (by simp[go_sem]) (by simp[go_sem]) (by simp[go_sem]) (fun o=>by simp[go_sem]);have hlt:w.heap.size<w2.heap.size:=by(have:=k2.below.size;simp at this;omega)))
 have:=vt w.heap.size (by omega) (by simp) hW hN k2 (.bool vn) (.slice va vl vc) (.int .i64 vx)
 exact qh9 (v:=.agg #[.bool vn,.slice va vl vc,.int .i64 vx]) (by simp[results,Tryz.results83,go_sem,f0,f1,f2,hlt]) rfl ⟨_,rfl,this.1.kept ((qia _).alloc _ _),this.2.alloc _ _⟩
theorem ZO (n way:Int)(x y:Nat)(t1 t2:Bool)(ht1:(FloatKind.f64.format.order x 0==some .eq)=t1)(ht2:(FloatKind.f64.format.order y 0==some .eq)=t2)(hz:(t1||t2)=true)(w:World):Calls Tryz.prog 49 #[.float .f64 x,.float .f64 y,.int .i64 n,.int .i64 way] w fun e w'=>e=.returned (.float .f64 0)∧Kept w w':=by
 cases t1
 ·cases t2
  ·cases hz
  ·go_enter Tryz.func49,Tryz.ntmps49
   go_wp2_with fail
   go_ret
   exact⟨rfl,qia _⟩
 ·go_enter Tryz.func49,Tryz.ntmps49
  go_wp2_with fail
  go_ret
  exact⟨rfl,qia _⟩
theorem Xb (n way:Int)(x y z:Nat)(ht1:(FloatKind.f64.format.order x 0==some .eq)=false)(ht2:(FloatKind.f64.format.order y 0==some .eq)=false)(s1 s2:Bool)(hs:(s1||s2)=true)(hm:FloatKind.f64.format.mul x y=some z)
  (KI:Hid (∀u v s,(v=x∧s=s1∨v=y∧s=s2)→Calls Tryz.prog 81 #[.float .f64 v,.int .i64 0] u fun e w'=>e=.returned (.bool s)∧u=w')) (w:World):Calls Tryz.prog 49 #[.float .f64 x,.float .f64 y,.int .i64 n,.int .i64 way] w fun e w'=>e=.returned (.float .f64 z)∧Kept w w':=by
 have hx:∀wx:World,(binOp .mul 66 (.float .f64 x) (.float .f64 y)).run Tryz.prog wx=.ok (.float .f64 z) wx:=fun wx=>run_float_arith wx .mul 66 .f64 x y z hm
 clear hm
 cases s1
 ·cases s2
  ·cases hs
  ·go_enter Tryz.func49,Tryz.ntmps49
   go_wp2_with (first|(go_at_call 81;refine(KI.out _ _ _ (by first|exact .inl ⟨rfl,rfl⟩|exact .inr ⟨rfl,rfl⟩)).mono ?_;rintro e w1 ⟨rfl,rfl⟩))
   go_ret
   exact⟨rfl,qia _⟩
 ·go_enter Tryz.func49,Tryz.ntmps49
  go_wp2_with (first|(go_at_call 81;refine(KI.out _ _ _ (by first|exact .inl ⟨rfl,rfl⟩|exact .inr ⟨rfl,rfl⟩)).mono ?_;rintro e w1 ⟨rfl,rfl⟩))
  go_ret
  exact⟨rfl,qia _⟩
theorem Xc (n way:Int)(x y z:Nat)(ht1:(FloatKind.f64.format.order x 0==some .eq)=false)(ht2:(FloatKind.f64.format.order y 0==some .eq)=false)(a b r:Nm)(rz:Int)(ox:Bool)(w:World)
  (KI:Hid (∀u v,(v=x∨v=y)→Calls Tryz.prog 81 #[.float .f64 v,.int .i64 0] u fun e w'=>e=.returned (.bool false)∧u=w'))
  (KX:Hid (∀u v c,(v=x∧c=a∨v=y∧c=b)→Kept w u→Calls Tryz.prog 83 #[.float .f64 v] u fun e w'=>∃v,e=.returned v∧New u w' v c∧Kept u w'))
  (KM:Hid (∀u a1 c1 a2 c2,Kept w u→Sl u (.slice a1 a.mag.length c1) a.mag→Sl u (.slice a2 b.mag.length c2) b.mag→Calls Tryz.prog 82 #[.agg #[.bool a.neg,.slice a1 a.mag.length c1,.int .i64 a.exp],.agg #[.bool b.neg,.slice a2 b.mag.length c2,.int .i64 b.exp]] u fun e w'=>∃v,e=.returned (.tuple #[v,.int .i64 0])∧New u w' v r∧Kept u w'))
  (KR:Hid (∀u a1 c1,Kept w u→Sl u (.slice a1 r.mag.length c1) r.mag→Calls Tryz.prog 84 #[.agg #[.bool r.neg,.slice a1 r.mag.length c1,.int .i64 r.exp],.int .i64 n,.int .i64 way] u fun e w'=>e=.returned (.tuple #[.int .i64 rz,.bool ox,.int .i64 0])∧Kept u w'))
  (KF:Hid (∀u,Calls Tryz.prog 85 #[.int .i64 rz,.int .i64 n] u fun e w'=>e=.returned (.float .f64 z)∧Kept u w')):
  Calls Tryz.prog 49 #[.float .f64 x,.float .f64 y,.int .i64 n,.int .i64 way] w fun e w'=>e=.returned (.float .f64 z)∧Kept w w':=by
 go_enter Tryz.func49,Tryz.ntmps49
 go_upto_region 5 with (first|(go_at_call 81;refine(KI.out _ _ (by first|exact .inl rfl|exact .inr rfl)).mono ?_;rintro e w1 ⟨rfl,rfl⟩))
 go_wp2_with fail
 refine(KX.out _ _ _ (.inl ⟨rfl,rfl⟩) (qia _)).mono ?_
 rintro e w1 ⟨v,rfl,hN1,k1⟩
 obtain⟨vn,va,vl,vc,vx,rfl⟩:=hN1.shape
 obtain⟨rfl,rfl,rfl,hs1⟩:=xH hN1
 have HS1:Hid (Sl w1 (.slice va a.mag.length vc) a.mag):=hs1
 clear hN1 hs1
 go_wp2_with fail
 refine(KX.out _ _ _ (.inr ⟨rfl,rfl⟩) k1).mono ?_
 rintro e w2 ⟨v,rfl,hN2,k2⟩
 obtain⟨vn,vb,vl,vd,vx,rfl⟩:=hN2.shape
 obtain⟨rfl,rfl,rfl,hs2⟩:=xH hN2
 have HS2:Hid (Sl w2 (.slice vb b.mag.length vd) b.mag):=hs2
 clear hN2 hs2
 go_wp2_with fail
 refine(KM.out _ _ _ _ _ (k1.trans k2) (HS1.out.kept k2) HS2.out).mono ?_
 rintro e w3 ⟨v,rfl,hN3,k3⟩
 obtain⟨vn,vr,vl,ve,vx,rfl⟩:=hN3.shape
 obtain⟨rfl,rfl,rfl,hs3⟩:=xH hN3
 have HS3:Hid (Sl w3 (.slice vr r.mag.length ve) r.mag):=hs3
 have HK3:Hid (Kept w w3):=(k1.trans k2).trans k3
 clear hN3 hs3 KX KM KI
 go_wp2_with (first|(go_at_call 84;refine(KR.out _ _ _ (HK3.out.alloc _ _) (HS3.out.kept ((qia _).alloc _ _))).mono ?_;rintro e w4 ⟨rfl,k4⟩)|(go_at_call 85;refine(KF.out _).mono ?_;rintro e w5 ⟨rfl,k5⟩))
 go_ret
 exact⟨rfl,((HK3.out.alloc _ _).trans k4).trans k5⟩
def Prk (n way k1 k2 K:Int):Prop:=
 ((k1=0∨k2=0)∧K=0)∨
 (k1≠0∧k2≠0∧((k1=(ifn n:Int)∨k1=-(ifn n:Int))∨(k2=(ifn n:Int)∨k2=-(ifn n:Int)))∧K=(if (decide (k1<0)^^decide (k2<0))=true then -(ifn n:Int)else (ifn n:Int)))∨
 (k1≠0∧k2≠0∧(-(ifn n:Int)<k1∧k1<(ifn n:Int))∧(-(ifn n:Int)<k2∧k2<(ifn n:Int))∧∃r,cfm (kvz n (-1074) k1*kvz n (-1074) k2) (-2148)=some r∧K=kyN n way r)
theorem zm (n way:Int)(hn:n=64∨n=32)(hw:way=0∨way=1∨way=2)(x y:Nat)(k j:Int)(hx:Fl n x k)(hy:Fl n y j):∃z K,Prk n way k j K∧Fl n z K∧∀w,Tab w→Calls Tryz.prog 49 #[.float .f64 x,.float .f64 y,.int .i64 n,.int .i64 way] w fun e w'=>e=.returned (.float .f64 z)∧Kept w w':=by
 have z0:=Fl.zero n hn
 have ex:=hx.ord z0
 have ey:=hy.ord z0
 have rx:=hx.rng
 have ry:=hy.rng
 have hpos:=jI n
 have tx:(FloatKind.f64.format.order x 0==some .eq)=decide (k=0):=by rw[ex,v9]
 have ty:(FloatKind.f64.format.order y 0==some .eq)=decide (j=0):=by rw[ey,v9]
 by_cases h0:k=0∨j=0
 ·refine⟨0,0,.inl ⟨h0,rfl⟩,z0,fun w _=>ZO n way x y _ _ tx ty ?_ w⟩
  rcases h0 with h|h<;>simp[h]
 ·have k0:k≠0:=fun e=>h0 (.inl e)
  have j0:j≠0:=fun e=>h0 (.inr e)
  rw[qh3 k0]at tx
  rw[qh3 j0]at ty
  by_cases hi:(k=(ifn n:Int)∨k=-(ifn n:Int))∨(j=(ifn n:Int)∨j=-(ifn n:Int))
  ·refine⟨_,_,.inr (.inl ⟨k0,j0,hi,rfl⟩),Fl.infw n hn _,fun w _=>Xb n way x y _ tx ty (decide (k=(ifn n:Int)∨k=-(ifn n:Int))) (decide (j=(ifn n:Int)∨j=-(ifn n:Int))) ?_ (qeu hx hy k0 j0 hi) (fun u v s h=>?_) w⟩
   ·rw[Bool.or_eq_true,qh1,qh1];exact hi
   ·rcases h with ⟨rfl,rfl⟩|⟨rfl,rfl⟩
    ·exact xF hx u
    ·exact xF hy u
  ·have bk:-(ifn n:Int)<k∧k<(ifn n:Int):=by omega
   have bj:-(ifn n:Int)<j∧j<(ifn n:Int):=by omega
   obtain⟨q,hq,hK,-⟩:=hx.wide
   obtain⟨p,hp,hJ,-⟩:=hy.wide
   have qr:=hq.rng
   have pr:=hp.rng
   have t1:=hK.top
   have t2:=hK.bot
   have t3:=hJ.top
   have t4:=hJ.bot
   obtain⟨zx,-,cx⟩:=Vu hq (by omega) (by omega)
   obtain⟨zy,-,cy⟩:=Vu hp (by omega) (by omega)
   obtain⟨ea,la,va⟩:=qfo x cx
   obtain⟨eb,lb,vb⟩:=qfo y cy
   have hm:=qeh (-1074) 2200 (by decide) (by decide) (by decide) _ _ la lb
   rw[va,vb,xY hx bk.1 bk.2,xY hy bj.1 bj.2]at hm
   have hsz:(kvz n (-1074) k*kvz n (-1074) j).natAbs<2^4400:=by
    rw[Int.natAbs_mul,←xY hx bk.1 bk.2,←xY hy bj.1 bj.2]
    have s1:=la.lt
    have s2:=lb.lt
    rw[va]at s1
    rw[vb]at s2
    obtain⟨N,hN⟩:∃N:Nat,N=2200:=⟨_,rfl⟩
    obtain⟨M,hM⟩:∃M:Nat,M=4400:=⟨_,rfl⟩
    rw[←hN]at s1 s2
    rw[←hM,show M=N+N by omega,qhv]
    exact Nat.mul_lt_mul'' s1 s2
   obtain⟨r,hr,lr,vr⟩:=jk (-2148) 4400 (by decide) (by decide) (by decide) _ hsz
   have hmr:Vl (ofN (qv x) 64) (ofN (qv y) 64)=some r:=hm.trans hr
   refine⟨_,_,.inr (.inr ⟨k0,j0,bk,bj,r,hr,rfl⟩),qb5 n way hn r,fun w hT=>Xc n way x y _ tx ty (ofN (qv x) 64) (ofN (qv y) 64) r (rzN n way r) (oxN n way r) w (fun u v h=>?_) (fun u v c h k=>?_) (fun u a1 c1 a2 c2 k h1 h2=>?_) (fun u a1 c1 k h=>?_) (fun u=>jU _ n (kn n way hn r).1 (kn n way hn r).2 u)⟩
   ·rcases h with rfl|rfl
    ·have:=xF hx u
     rw[qh3 (by omega)]at this
     exact this
    ·have:=xF hy u
     rw[qh3 (by omega)]at this
     exact this
   ·rcases h with ⟨rfl,rfl⟩|⟨rfl,rfl⟩
    ·exact yg _ q hq cx u (hT.kept k)
    ·exact yg _ p hp cy u (hT.kept k)
   ·exact qej u (hT.kept k) _ _ _ la.ok a1 c1 _ _ _ lb.ok a2 c2 h1 h2 r hmr
   ·exact qbc n way hn hw r lr.ok a1 c1 u (hT.kept k) h
theorem Xd (op:Nat)(hcall:∀a b c d w,(callFunc op #[a,b,c,d]).run Tryz.prog w=.ok (.enter op #[a,b,c,d]) w)(n:Int)(x y z1 z2:Nat)(w:World)(P Q:Nat)(hP:w.cell? ⟨P,0,none⟩=some (.func (.func op) #[] #[]))(hQ:w.cell? ⟨Q,0,none⟩=some (.int .i64 n))(lP:P<w.heap.size)(lQ:Q<w.heap.size)
  (KO:Hid (∀u way z,Kept w u→(way=1∧z=z1∨way=2∧z=z2)→Calls Tryz.prog op #[.float .f64 x,.float .f64 y,.int .i64 n,.int .i64 way] u fun e w'=>e=.returned (.float .f64 z)∧Kept u w')):
  Calls Tryz.prog 79 #[.float .f64 x,.float .f64 y,.pointer (some ⟨P,0,none⟩),.pointer (some ⟨Q,0,none⟩)] w fun e w'=>e=.returned (fv2 z1 z2)∧Kept w w':=by
 have hSF:=j6
 obtain⟨X,hX⟩:∃X,X=w.alloc (.cells #[.float .f64 0,.float .f64 0] 68):=⟨_,rfl⟩
 have hR:P2 X w.heap.size (.float .f64 0) (.float .f64 0):=by rw[hX];exact P2.new _ _ _ _
 have hK:Kept w X:=by rw[hX];exact(qia w).alloc _ _
 obtain⟨H,hH⟩:∃H,H=w.heap.size:=⟨_,rfl⟩
 rw[←hH]at hR
 have oH:w.heap.size≤H:=by omega
 have nP:H≠P:=by omega
 have nQ:H≠Q:=by omega
 have HS:Hid (∀u,Kept w u→u.cell? ⟨P,0,none⟩=some (.func (.func op) #[] #[])∧u.cell? ⟨Q,0,none⟩=some (.int .i64 n)):=fun u k=>⟨(k.below.cell (p:=⟨P,0,none⟩) lP).trans hP,(k.below.cell (p:=⟨Q,0,none⟩) lQ).trans hQ⟩
 clear hP hQ
 go_enter Tryz.func79,Tryz.ntmps79
 go_upto_region 1 with fail
 rw[←hX,←hH]
 clear hX hH
 have kd:Kept X X.drew:=(qia X).drew
 have e0:=HS.out _ (hK.trans kd)
 refine qib (S:=fun u=>u.cell? ⟨P,0,none⟩=some (.func (.func op) #[] #[])∧u.cell? ⟨Q,0,none⟩=some (.int .i64 n)) (by kernel_rfl) (e0) (fun hHeld=>?_)
 refine tk (i:=0) (v:=?_) rfl ?_
 simp only[zz]
 refine tk (i:=1) (v:=?_) rfl ?_
 simp only[zz]
 refine tk (i:=2) (v:=?_) rfl ?_
 simp only[zz]
 refine tk (i:=3) (v:=?_) rfl ?_
 simp only[zz]
 refine tk (i:=5) (v:=?_) rfl ?_
 simp only[zz]
 refine tk (i:=6) (v:=?_) rfl ?_
 simp only[zz]
 refine tk (i:=7) (v:=?_) rfl ?_
 simp only[zz]
 refine tk (i:=8) (v:=?_) rfl ?_
 simp only[zz]
 refine qh8 (rs:=[4]) (by kernel_rfl) (by simp) ?_
 refine qh6 rfl (fun K hK9=>?_) qh7
 go_simp
 go_wp2_with fail
 refine(KO.out _ _ _ (hK.trans kd) (.inl ⟨rfl,rfl⟩)).mono ?_
 rintro e u1 ⟨rfl,k1⟩
 have j1:=kd.trans k1
 have e1:=HS.out _ (hK.trans j1)
 refine hK9.out _ _ e1 (fun hHeld1=>?_)
 clear hK9 K
 refine qh8 (rs:=[9]) (by kernel_rfl) (by simp) ?_
 refine qh6 rfl (fun K hK9=>?_) qh7
 go_simp
 go_wp2_with fail
 refine(KO.out _ _ _ (hK.trans j1) (.inr ⟨rfl,rfl⟩)).mono ?_
 rintro e u2 ⟨rfl,k2⟩
 have j2:=j1.trans k2
 have e2:=HS.out _ (hK.trans j2)
 refine hK9.out _ _ e2 (fun hHeld2=>?_)
 clear hK9 K
 refine tk (i:=10) (v:=?_) rfl ?_
 simp only[zz]
 obtain⟨c0,c1,cf⟩:=hR.kept j2
 refine qh8 (rs:=[11]) (by kernel_rfl) (by simp) ?_
 refine qh6 rfl (fun K hK9=>?_) qh7
 go_simp
 have e3:=HS.out _ (((hK.trans j2).setCell (p:=⟨H,0,none⟩) oH (.float .f64 z1)).setCell (p:=⟨H,1,none⟩) oH (.float .f64 z2))
 refine hK9.out _ _ e3 (fun hHeld3=>?_)
 clear hK9 K
 refine qic (by kernel_rfl) ?_ _
 go_wp2_with fail
 have hz:=(P2.mk c0 c1 cf).put (.float .f64 z1) (.float .f64 z2)
 obtain⟨d0,d1,df⟩:=hz
 exact qh9 (v:=fv2 z1 z2) (by simp[results,Tryz.results79,go_sem,d0,d1]) rfl ⟨rfl,((hK.trans j2).setCell oH _).setCell oH _⟩
end Go.Proofs.YtaglkncdedeipaaGreatDoor
