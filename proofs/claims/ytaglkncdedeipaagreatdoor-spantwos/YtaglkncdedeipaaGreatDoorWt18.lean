/-  -/
import Derived.Test.YtaglkncdedeipaaGreatDoorWt17
import Derived.Test.YtaglkncdedeipaaGreatDoorWt09
namespace Go.Proofs.YtaglkncdedeipaaGreatDoor
open Go.ChangeShapes Go.WideShapes Go.ChangeAt Go.RowKit Ieee
set_option linter.unusedVariables false
set_option linter.unusedSimpArgs false
set_option maxHeartbeats 16000000
set_option maxRecDepth 100000
theorem qir (n s:Int)(b:Bool)(r:Nat):kvz n s (sv b r)=sv b (rv (cbn n) r*2^(qk n-s).toNat):=by
 cases b
 ·rw[V6,V6,jX]
 ·rw[V7,V7,xR]
theorem qn1 (r:Nat):rv (cbn 64) r=qF FloatKind.f64.format r:=by
 unfold rv qF
 rw[qmd]
 rfl
theorem qn2 (r:Nat):rv (cbn 32) r=qF FloatKind.f32.format r:=by
 unfold rv qF
 rw[qdu]
 rfl
theorem yt (n s:Int):kvz n s 0=0:=by
 have h:=jX n s 0
 have e:rv (cbn n) 0=0:=by
  unfold rv cbn
  split<;>split<;>simp_all
 rw[e,Nat.zero_mul]at h
 exact h
theorem Fl.same64 {x:Nat}{q:Int}(hx:Fl 64 x q):qc (qw x) 64=q:=by
 obtain⟨q',hq',hK,o1,o2,o3,o4,o5,o6⟩:=hx.wide
 obtain⟨c,c1,c2,c3,c4⟩:=hx
 have e:zn c=x:=by rw[c4];simp[fl]
 rw[←c3,←jS _ o4 o5,←jS _ c2.1 c2.2,o6,e]
theorem Fl.val64 {n:Int}{x:Nat}{k q:Int}(h:Fl n x k)(hq:Fl 64 x q)(h1:-(ifn n:Int)<k)(h2:k<(ifn n:Int))(s:Int)(hs:s≤-1074):kvz 64 s q=kvz n s k:=by
 have hqq:=hq.same64
 have hle:=h.le
 have hlt:=h.lt
 have ho:qw x=wrap64 x:=ZJ x hle
 obtain⟨i1,i2⟩:=Qq x hle hlt
 rw[ho,i2]at hqq
 obtain⟨b,b1,b2,rfl,rfl⟩:=h
 rcases zN b n b1 with ⟨rfl,c⟩|⟨rfl,c⟩
 ·have e:sv (below FloatKind.f64.format (fl b 64)) (qo FloatKind.f64.format (fl b 64))=qc b 64:=by
   rw[←zO,←jS b b2.1 b2.2]
   simp[fl]
  rw[←hqq,e]
 ·have hv:=qV b c
  have hr:qo FloatKind.f32.format (qt b)≤FloatKind.f32.format.infRung:=by have:=mt (jF b).2 c;omega
  have e:qc b 32=sv (below FloatKind.f32.format (qt b)) (qo FloatKind.f32.format (qt b)):=by rw[←zO,Ya b hv]
  have ex:fl b 32=W (qt b):=by simp[fl];rfl
  rw[ex]at hqq
  rw[e]at h1 h2 ⊢
  have hi:(ifn 32:Int)=(FloatKind.f32.format.infRung:Int):=by rw[←qij]
  have hlt2:qo FloatKind.f32.format (qt b)<FloatKind.f32.format.infRung:=by
   generalize below FloatKind.f32.format (qt b)=sb at *
   cases sb<;>simp only[V6,V7]at h1 h2<;>omega
  obtain⟨w1,w2,w3⟩:=XX (qt b) hlt2
  rw[←hqq,qir,qir,w3,qn1,qn2,w2,qop,←qol]
  congr 3
  have k1:qk 64=-1074:=rfl
  have k2:qk 32=-149:=rfl
  rw[k1,k2]
  unfold vU
  omega
theorem zk (q:Int)(h1:-(ifn 64:Int)<q)(h2:q<(ifn 64:Int)):sg (zv (pz 64 q) 64) (qI (pz 64 q) 64*2^(qK (pz 64 q) 64+1074).toNat)=kvz 64 (-1074) q:=by
 have hn:(64:Int)=64∨(64:Int)=32:=.inl rfl
 have hc:=(qch 64 q hn (by omega) (by omega)).2 ⟨h1,h2⟩
 obtain⟨f1,f2,f3,f4⟩:=vD _ hc
 have hng:=qjh 64 q hn h1 h2
 obtain⟨r,hr⟩:∃r,r=if q<0 then -q else q:=⟨_,rfl⟩
 obtain⟨q1,q2⟩:=qji 64 q hn h1 h2 4503599627370496 rfl (-1074) rfl r hr
 have hcb:(cbn 64:Int)=4503599627370496:=rfl
 have hra:r=(q.natAbs:Int):=by rw[hr];split<;>omega
 have hkl:qk 64=-1074:=rfl
 have hval:qI (pz 64 q) 64*2^(qK (pz 64 q) 64+1074).toNat=((rv (cbn 64) q.natAbs:Nat):Int):=by
  unfold rv
  by_cases hb:r<4503599627370496
  ·rw[if_pos hb]at q1 q2
   rw[if_pos (by omega),q1,q2,hra]
   simp
  ·rw[if_neg hb]at q1 q2
   have hcp:0<cbn 64:=by decide
   rw[if_neg (by omega),q1,q2]
   have hmod:(4503599627370496+r%4503599627370496:Int)=((cbn 64+q.natAbs%cbn 64:Nat):Int):=by
    rw[Int.natCast_add,Int.natCast_emod,hcb,hra]
   have hdiv:r/4503599627370496=((q.natAbs/cbn 64:Nat):Int):=by rw[hra,Int.natCast_ediv,hcb]
   have hge:1≤q.natAbs/cbn 64:=by
    rw[Nat.le_div_iff_mul_le hcp];omega
   rw[hmod,hdiv,Int.natCast_mul,Int.natCast_pow]
   congr 2
   generalize q.natAbs/cbn 64=D at *
   omega
 have hs0:(qk 64- -1074).toNat=0:=by rw[hkl];rfl
 rw[hval,hng]
 unfold kvz sg
 rw[hs0,Nat.pow_zero,Nat.mul_one]
 by_cases hk:q<0
 ·rw[qos hk,if_pos rfl,if_pos hk]
 ·rw[qot hk,if_neg (by decide),if_neg hk]
theorem Jw {x:Nat}{q:Int}(hx:Fl 64 x q)(h1:-(ifn 64:Int)<q)(h2:q<(ifn 64:Int)):zw x=kvz 64 (-1074) q∧(q≠0→qw x=pz 64 q)∧cls (qw x) 64<3:=by
 obtain⟨q',hq',hK,o1,o2,o3,o4,o5,o6⟩:=hx.wide
 have e:=hx.same64
 have hcan:=qb4 (qw x) 64 o2 o4 o5
 rw[e]at hcan
 have hf:=Qs (qw x) 64 (.inl rfl) o2 ⟨o4,o5⟩
 rw[e,qos (by omega)]at hf
 have hc:cls (qw x) 64<3:=by
  unfold fin at hf
  rw[qor]at hf
  exact hf.2
 have hne:q≠0→qw x=pz 64 q:=fun h=>by
  rw[←hcan]
  unfold can
  rw[if_pos o2,if_pos rfl,if_neg]
  intro g
  rw[g]at e
  exact h (e.symm.trans (by decide))
 refine⟨?_,hne,hc⟩
 by_cases h0:q=0
 ·subst h0
  rw[yt]
  rw[Kv]at e
  have hb:qw x=0∨qw x=-9223372036854775808:=by
   split at e<;>omega
  unfold zw
  rcases hb with hb|hb<;>rw[hb]<;>decide+kernel
 ·unfold zw
  rw[hne h0]
  exact zk q h1 h2
theorem yw {n:Int}{x:Nat}{k:Int}(h:Fl n x k)(h1:-(ifn n:Int)<k)(h2:k<(ifn n:Int)):zw x=kvz n (-1074) k:=by
 obtain⟨q,hq,hK,-⟩:=h.wide
 have g1:=hq.rng
 have t:=hK.top
 have bo:=hK.bot
 have a1:-(ifn 64:Int)<q:=by
  have:q≠-(ifn 64:Int):=fun e=>by have:=bo.2 e;omega
  omega
 have a2:q<(ifn 64:Int):=by
  have:q≠(ifn 64:Int):=fun e=>by have:=t.2 e;omega
  omega
 rw[(Jw hq a1 a2).1]
 exact h.val64 hq h1 h2 (-1074) (by decide)
theorem yx (n s:Int)(hn:n=64∨n=32)(a b:Int)(h:a<b):kvz n s a<kvz n s b:=by
 have hp:0<2^(qk n-s).toNat:=qoj _
 have hm:∀i j:Nat,i<j→rv (cbn n) i*2^(qk n-s).toNat<rv (cbn n) j*2^(qk n-s).toNat:=fun i j hij=>Nat.mul_lt_mul_of_pos_right (XF n hn i j hij) hp
 have h0:rv (cbn n) 0=0:=by
  unfold rv cbn
  split<;>split<;>simp_all
 unfold kvz
 by_cases ha:a<0
 ·rw[if_pos ha]
  have ha':=hm 0 a.natAbs (by omega)
  rw[h0,Nat.zero_mul]at ha'
  by_cases hb:b<0
  ·rw[if_pos hb]
   have:=hm b.natAbs a.natAbs (by omega)
   omega
  ·rw[if_neg hb]
   omega
 ·rw[if_neg ha,if_neg (by omega)]
  have:=hm a.natAbs b.natAbs (by omega)
  omega
theorem qlc (n s:Int)(hn:n=64∨n=32)(a b:Int)(h:kvz n s a=kvz n s b):a=b:=by
 rcases Int.lt_trichotomy a b with g|g|g
 ·have:=yx n s hn a b g;omega
 ·exact g
 ·have:=yx n s hn b a g;omega
theorem Jx (n:Int)(hn:n=64∨n=32)(r:Nm)(hv:vld r=true)(s:Int)(hs:r.mag≠[]→s≤r.exp)(hl:s<qk n)(K:Int)(h1:-(ifn n:Int)<K)(h2:K<(ifn n:Int))(hK:vz s r=kvz n s K):kyN n 1 r=K∧kyN n 2 r=K∧kyN n 0 r=K∧oxN n 0 r=false:=by
 obtain⟨hN,e1,e2⟩:=qob n hn r hv s hs hl
 rw[hK]at hN
 cases ho:oxN n 1 r
 ·obtain⟨a1,a2,a3,a4,a5⟩:=hN.same ho
  have:=qlc n s hn _ _ a3
  exact⟨this.symm,by rw[a1];exact this.symm,by rw[a2];exact this.symm,by rw[e2];exact ho⟩
 ·obtain⟨a1,a2,a3,a4,a5,a6⟩:=hN.next ho
  exfalso
  have b1:kyN n 1 r<K:=by
   by_cases hd:-(ifn n:Int)<kyN n 1 r
   ·have:=a5 hd
    rcases Int.lt_trichotomy (kyN n 1 r) K with g|g|g
    ·exact g
    ·rw[g]at this;omega
    ·have:=yx n s hn _ _ g;omega
   ·have:=xd n 1 r
    omega
  have b2:K<kyN n 2 r:=by
   by_cases hd:kyN n 2 r<(ifn n:Int)
   ·have:=a6 hd
    rcases Int.lt_trichotomy K (kyN n 2 r)with g|g|g
    ·exact g
    ·rw[g]at this;omega
    ·have:=yx n s hn _ _ g;omega
   ·have:=xd n 2 r
    omega
  omega
def two {α:Type}(a b:α)(i:Nat):α:=if i=0 then a else b
theorem Zw {w u:World}{x1 y1 x2 y2:Nat}{t:TypeId}(k:Kept (w.alloc (.cells #[.float .f64 x1,.float .f64 y1,.float .f64 x2,.float .f64 y2] t)) u):Ivs u (some ⟨w.heap.size,0,none⟩) 2 (two x1 x2) (two y1 y2):=fun v kv i hi=>by
 have h:∀o,v.cell? ⟨w.heap.size,o,none⟩=(w.alloc (.cells #[.float .f64 x1,.float .f64 y1,.float .f64 x2,.float .f64 y2] t)).cell? ⟨w.heap.size,o,none⟩:=fun o=>qh (k.trans kv) o
 refine⟨_,_,rfl,?_,?_⟩
 ·rw[h]
  rcases(show i=0∨i=1 by omega)with rfl|rfl<;>simp[go_sem,two]
 ·rw[h]
  rcases(show i=0∨i=1 by omega)with rfl|rfl<;>simp[go_sem,two]
theorem K5 (a1 b1 a2 b2 n:Int)(x1 y1 x2 y2:Nat)(q p1 p2:Int)(J:Nat→Nat→Prop)(w:World)
  (KB:Hid (∀u,Calls Tryz.prog 45 #[sp2 a1 b1,sp2 a2 b2,.int .i64 n] u fun e w'=>e=.returned (.tuple #[fv2 x1 y1,fv2 x2 y2,.int .i64 q])∧Kept u w'))
  (KJ:Hid (∀(u v:World) (B:Nat),Kept w u→B=v.heap.size→Kept (v.alloc (.cells #[.float .f64 x1,.float .f64 y1,.float .f64 x2,.float .f64 y2] 68)) u→Calls Tryz.prog 47 #[.int .i64 n,.slice (some ⟨B,0,none⟩) 2 2] u fun e w'=>∃x y,e=.returned (fv2 x y)∧J x y∧Kept u w'))
  (KT:Hid (∀u x y,J x y→Calls Tryz.prog 46 #[fv2 x y,.int .i64 n,.int .i64 q] u fun e w'=>e=.returned (.tuple #[sp2 p1 p2,.int .i64 q])∧Kept u w')):
  Calls Tryz.prog 10 #[sp2 a1 b1,sp2 a2 b2,.int .i64 n] w fun e w'=>e=.returned (.tuple #[sp2 p1 p2,.int .i64 q])∧Kept w w':=by
 obtain⟨X,hX⟩:∃X,X=((w.alloc (.cells #[.int .i64 a1,.int .i64 b1] 23)).alloc (.cells #[.int .i64 a2,.int .i64 b2] 23)).alloc (.cells #[.int .i64 0,.int .i64 0] 23):=⟨_,rfl⟩
 have hP1:P2 X w.heap.size (.int .i64 a1) (.int .i64 b1):=by
  rw[hX]
  exact((P2.new w _ _ _).alloc _ _).alloc _ _
 have hP2:P2 X (w.heap.size+1) (.int .i64 a2) (.int .i64 b2):=by
  rw[hX]
  have:=(P2.new (w.alloc (.cells #[.int .i64 a1,.int .i64 b1] 23)) (.int .i64 a2) (.int .i64 b2) 23).alloc #[.int .i64 0,.int .i64 0] 23
  simpa using this
 have hQ:P2 X (w.heap.size+1+1) (.int .i64 0) (.int .i64 0):=by
  rw[hX]
  have:=P2.new ((w.alloc (.cells #[.int .i64 a1,.int .i64 b1] 23)).alloc (.cells #[.int .i64 a2,.int .i64 b2] 23)) (.int .i64 0) (.int .i64 0) 23
  simpa using this
 have hK:Kept w X:=by
  rw[hX]
  exact(((qo0 w).alloc _ _).alloc _ _).alloc _ _
 obtain⟨H1,hH1⟩:∃H,H=w.heap.size+1:=⟨_,rfl⟩
 obtain⟨H2,hH2⟩:∃H,H=H1+1:=⟨_,rfl⟩
 rw[←hH1]at hP2 hQ
 rw[←hH2]at hQ
 have o2:w.heap.size≤H2:=by omega
 have hSF:=jx
 go_enter Tryz.func10,Tryz.ntmps10
 go_upto_region 1 with fail
 rw[←hX,←hH1,←hH2]
 clear hX hH1 hH2
 obtain⟨p10,p11,p1f⟩:=hP1
 obtain⟨p20,p21,p2f⟩:=hP2
 go_upto_region 2 with (first|(go_at_call 45;refine(KB.out _).mono ?_;rintro e w1 ⟨rfl,k1⟩))
 have hQ1:=hQ.kept k1
 have kw1:=hK.trans k1
 clear p10 p11 p1f p20 p21 p2f KB hK hQ k1
 obtain⟨Y,hY⟩:∃Y,Y=(w1.alloc (.cells #[.float .f64 x1,.float .f64 y1] 68)).alloc (.cells #[.float .f64 x2,.float .f64 y2] 68):=⟨_,rfl⟩
 have hC1:P2 Y w1.heap.size (.float .f64 x1) (.float .f64 y1):=by
  rw[hY]
  exact(P2.new w1 _ _ _).alloc _ _
 have hC2:P2 Y (w1.heap.size+1) (.float .f64 x2) (.float .f64 y2):=by
  rw[hY]
  have:=P2.new (w1.alloc (.cells #[.float .f64 x1,.float .f64 y1] 68)) (.float .f64 x2) (.float .f64 y2) 68
  simpa using this
 have kY:Kept w1 Y:=by
  rw[hY]
  exact((qo0 w1).alloc _ _).alloc _ _
 have hQY:=hQ1.kept kY
 have kwY:=kw1.trans kY
 rw[←hY]
 clear hY kw1 kY hQ1
 obtain⟨b0,b1',bf⟩:=hC1
 obtain⟨c0,c1,cf⟩:=hC2
 go_wp2_with (first|(go_at_call 47;refine(KJ.out _ _ _ (kwY.alloc _ _) rfl (qo0 _)).mono ?_;rintro e w2 ⟨x,y,rfl,hJ,k2⟩)|(go_at_call 46;refine(KT.out _ _ _ hJ).mono ?_;rintro e w3 ⟨rfl,k3⟩;have k4:=((qo0 Y).alloc _ _).trans (k2.trans k3);have hz:=(hQY.kept k4).put (.int .i64 p1) (.int .i64 p2);obtain⟨d0,d1,df⟩:=hQY.kept k4;obtain⟨e0,e1,ef⟩:=hz))
 refine qoz (v:=.tuple #[sp2 p1 p2,.int .i64 q]) ?_ rfl ⟨rfl,?_⟩
 ·simp[results,Tryz.results10,go_sem, *]
 ·(repeat' first|exact kwY.trans k4|refine Kept.setCell ?_ ?_ _|exact o2)
def Smk (n way k1 k2 K:Int):Prop:=
 ((k1=(ifn n:Int)∨k1=-(ifn n:Int))∧(k2≠-k1)∧K=k1)∨((k2=(ifn n:Int)∨k2=-(ifn n:Int))∧(k1≠-k2)∧K=k2)∨
 ((-(ifn n:Int)<k1∧k1<(ifn n:Int))∧(-(ifn n:Int)<k2∧k2<(ifn n:Int))∧∃r,cfm (kvz n (-1074) k1+kvz n (-1074) k2) (-1074)=some r∧K=kyN n way r)
theorem K6 {n:Int}{x:Nat}{k q:Int}(h:Fl n x k)(hq:Fl 64 x q):xH q↔(k=(ifn n:Int)∨k=-(ifn n:Int)):=by
 obtain⟨q',hq',hK,-⟩:=h.wide
 have:q'=q:=hq'.same64.symm.trans hq.same64
 subst this
 unfold xH
 rw[hK.top,hK.bot]
theorem VX (n way:Int)(hn:n=64∨n=32)(x1 x2:Nat)(k1 k2:Int)(h1:Fl n x1 k1)(h2:Fl n x2 k2)(hop:¬((k1=(ifn n:Int)∨k1=-(ifn n:Int))∧k2=-k1))(q1 q2:Int)(g1:Fl 64 x1 q1)(g2:Fl 64 x2 q2):∃K,Smk n way k1 k2 K∧(-(ifn n:Int)≤K∧K≤(ifn n:Int))∧∀x,Rd n way (two x1 x2) (two q1 q2) 2 x→Fl n x K:=by
 have i1:=K6 h1 g1
 have i2:=K6 h2 g2
 have hr1:=h1.rng
 have hr2:=h2.rng
 have hpos:=jw n
 have e0:two q1 q2 0=q1:=rfl
 have e1:two q1 q2 1=q2:=rfl
 have hw:iW (two x1 x2) (two q1 q2) 2=if xH q2 then x2 else (if xH q1 then x1 else 0):=rfl
 have hq:iQ (two q1 q2) 2=if xH q2 then q2 else (if xH q1 then q1 else 0):=rfl
 by_cases a2:xH q2
 ·have:=i2.1 a2
  refine⟨k2,.inr (.inl ⟨this,fun e=>hop ⟨by omega,by omega⟩,rfl⟩),hr2,fun x hx=>?_⟩
  rcases hx with ⟨hi,hx⟩|⟨hi,r,hr,hx⟩
  ·rw[hx,hw,if_pos a2]
   exact h2
  ·exact absurd (by rw[e1];exact a2) (hi 1 (by decide))
 ·by_cases a1:xH q1
  ·have:=i1.1 a1
   refine⟨k1,.inl ⟨this,fun e=>hop ⟨this,e⟩,rfl⟩,hr1,fun x hx=>?_⟩
   rcases hx with ⟨hi,hx⟩|⟨hi,r,hr,hx⟩
   ·rw[hx,hw,if_neg a2,if_pos a1]
    exact h1
   ·exact absurd (by rw[e0];exact a1) (hi 0 (by decide))
  ·have b1:-(ifn n:Int)<k1∧k1<(ifn n:Int):=by
    have c1:k1≠(ifn n:Int):=fun e=>a1 (i1.2 (.inl e))
    have c2:k1≠-(ifn n:Int):=fun e=>a1 (i1.2 (.inr e))
    omega
   have b2:-(ifn n:Int)<k2∧k2<(ifn n:Int):=by
    have c1:k2≠(ifn n:Int):=fun e=>a2 (i2.2 (.inl e))
    have c2:k2≠-(ifn n:Int):=fun e=>a2 (i2.2 (.inr e))
    omega
   have hs:sV (two x1 x2) (two q1 q2) 2=kvz n (-1074) k1+kvz n (-1074) k2:=by
    have:sV (two x1 x2) (two q1 q2) 2=0+(if xH q1 then 0 else zw x1)+(if xH q2 then 0 else zw x2):=rfl
    rw[this,if_neg a1,if_neg a2,yw h1 b1.1 b1.2,yw h2 b2.1 b2.2]
    omega
   obtain⟨r,hr,-,-⟩:=qb6 (two x1 x2) (two q1 q2) 2 (by decide) (fun i hi=>by
    rcases(show i=0∨i=1 by omega)with rfl|rfl
    ·exact g1
    ·exact g2)
   refine⟨kyN n way r,.inr (.inr ⟨b1,b2,r,by rw[←hs];exact hr,rfl⟩),xd n way r,fun x hx=>?_⟩
   rcases hx with ⟨hi,hx⟩|⟨hi,r',hr',hx⟩
   ·rw[hq,if_neg a2,if_neg a1]at hi
    exact absurd hi (by decide)
   ·rw[hr]at hr'
    cases hr'
    rw[hx]
    exact qma n way hn r
theorem qdi (a1 b1 a2 b2 n:Int)(s1:RB a1)(s2:RB b1)(s3:RB a2)(s4:RB b2)(hv1:vsp a1 b1 n=true)(hv2:vsp a2 b2 n=true):∃K1 K2,Smk n 1 (qc a1 n) (qc a2 n) K1∧Smk n 2 (qc b1 n) (qc b2 n) K2∧(-(ifn n:Int)≤K1∧K1≤(ifn n:Int))∧(-(ifn n:Int)≤K2∧K2≤(ifn n:Int))∧∀(w:World),Tab w→Calls Tryz.prog 10 #[sp2 a1 b1,sp2 a2 b2,.int .i64 n] w fun e w'=>e=.returned (.tuple #[sp2 (pz n K1) (pz n K2),.int .i64 0])∧Kept w w':=by
 obtain⟨i1,i2,v3,v4,v5⟩:=zW _ _ _ hv1
 obtain⟨i3,i4,u3,u4,u5⟩:=zW _ _ _ hv2
 have hn:=qv _ _ i1
 obtain⟨x1,y1,x2,y2,q,hB,KB⟩:=zS a1 b1 a2 b2 n s1 s2 s3 s4
 have hq:q=0:=hB.err.trans ((jP _ _ _ _ _).2 ⟨hv1,hv2⟩)
 obtain⟨f1,f2,f3,f4⟩:=hB.ok hq
 subst hq
 have hpos:=jw n
 obtain⟨p1,P1,-⟩:=f1.wide
 obtain⟨p2,P2,-⟩:=f2.wide
 obtain⟨p3,P3,-⟩:=f3.wide
 obtain⟨p4,P4,-⟩:=f4.wide
 obtain⟨K1,S1,R1,F1⟩:=VX n 1 hn x1 x2 _ _ f1 f3 (by omega) p1 p3 P1 P3
 obtain⟨K2,S2,R2,F2⟩:=VX n 2 hn y1 y2 _ _ f2 f4 (by omega) p2 p4 P2 P4
 refine⟨K1,K2,S1,S2,R1,R2,fun w hT=>?_⟩
 refine K5 a1 b1 a2 b2 n x1 y1 x2 y2 0 _ _ (fun x y=>Fl n x K1∧Fl n y K2) w KB (fun u v B kwu hBv k=>?_) (fun u x y h=>vC h.1 h.2 u)
 subst hBv
 refine(kI n hn 2 (by decide) (two x1 x2) (two y1 y2) (two p1 p3) (two p2 p4) (fun i hi=>?_) _ _ u (hT.kept kwu) (Zw k)).mono ?_
 ·rcases(show i=0∨i=1 by omega)with rfl|rfl
  ·exact⟨P1,P2⟩
  ·exact⟨P3,P4⟩
 ·rintro e w' ⟨x,y,rfl,hx,hy,k'⟩
  exact⟨x,y,rfl,⟨F1 x hx,F2 y hy⟩,k'⟩
theorem VY (f:Format)(hb:f.binade≤f.infRung)(x:Nat):(f.infRung<qo f x∧∃s t,f.read x=.nan s t)∨(qo f x=f.infRung∧f.read x=.infinity (below f x))∨(qo f x<f.infRung∧∃m i,f.read x=.number (below f x) m i∧(m=0↔qo f x=0)):=by
 rcases Nat.lt_trichotomy (qo f x) f.infRung with h|h|h
 ·obtain⟨m,i,e,-,hv,-⟩:=zY f x h
  refine .inr (.inr ⟨h,m,i,e,?_⟩)
  constructor
  ·intro h0
   rw[h0,Nat.zero_mul]at hv
   exact yG f (by rw[←hv,jt])
  ·intro h0
   rw[h0,jt]at hv
   rcases Nat.mul_eq_zero.1 hv with h1|h1
   ·exact h1
   ·exact absurd h1 (Nat.ne_of_gt (qoj _))
 ·exact .inr (.inl ⟨h,jQ f x h hb⟩)
 ·exact .inl ⟨h,yH f x h hb⟩
def kdf (f:Format)(x:Nat):Nat:=if f.infRung<qo f x then 4 else if qo f x=f.infRung then 3 else if qo f x=0 then 0 else 1
theorem qod (f:Format)(hb:f.binade≤f.infRung)(h0:0<f.infRung)(x y:Nat)(hs:3≤kdf f x∨3≤kdf f y):f.mul x y=if kdf f x=4∨kdf f y=4∨kdf f x=0∨kdf f y=0 then none else some (f.word (below f x^^below f y) f.infRung):=by
 unfold kdf at *
 rcases VY f hb x with ⟨hx,s,t,ex⟩|⟨hx,ex⟩|⟨hx,m,i,ex,hm⟩
 ·rw[if_pos hx,if_pos (.inl rfl)]
  unfold Format.mul
  rw[ex]
  rfl
 ·rcases VY f hb y with ⟨hy,s',t',ey⟩|⟨hy,ey⟩|⟨hy,m',i',ey,hm'⟩
  ·rw[if_pos (.inr (.inl (by rw[if_pos hy])))]
   unfold Format.mul
   rw[ex,ey]
   rfl
  ·rw[if_neg (by rw[if_neg (by omega),if_pos hx,if_neg (by omega),if_pos hy];omega)]
   unfold Format.mul
   rw[ex,ey]
   rfl
  ·by_cases hz:qo f y=0
   ·rw[if_pos (.inr (.inr (.inr (by rw[if_neg (by omega),if_neg (by omega),if_pos hz]))))]
    unfold Format.mul
    rw[ex,ey,hm'.2 hz]
    rfl
   ·rw[if_neg (by rw[if_neg (by omega),if_pos hx,if_neg (by omega),if_neg (by omega),if_neg hz];omega)]
    unfold Format.mul
    have hne:m'≠0:=fun g=>hz (hm'.1 g)
    rw[ex,ey]
    simp[Datum.product,hne]
    rfl
 ·rcases VY f hb y with ⟨hy,s',t',ey⟩|⟨hy,ey⟩|⟨hy,m',i',ey,hm'⟩
  ·rw[if_pos (.inr (.inl (by rw[if_pos hy])))]
   unfold Format.mul
   rw[ex,ey]
   rfl
  ·by_cases hz:qo f x=0
   ·rw[if_pos (.inr (.inr (.inl (by rw[if_neg (by omega),if_neg (by omega),if_pos hz]))))]
    unfold Format.mul
    rw[ex,ey,hm.2 hz]
    rfl
   ·rw[if_neg (by rw[if_neg (by omega),if_neg (by omega),if_neg hz,if_neg (by omega),if_pos hy];omega)]
    unfold Format.mul
    have hne:m≠0:=fun g=>hz (hm.1 g)
    rw[ex,ey]
    simp[Datum.product,hne,Bool.xor_comm]
    rfl
  ·exfalso
   rcases hs with h|h
   ·rw[if_neg (by omega),if_neg (by omega)]at h
    split at h<;>omega
   ·rw[if_neg (by omega),if_neg (by omega)]at h
    split at h<;>omega
theorem Fl.infw (n:Int)(hn:n=64∨n=32)(s:Bool):Fl n (FloatKind.f64.format.word s FloatKind.f64.format.infRung) (if s=true then -(ifn n:Int)else (ifn n:Int)):=by
 rcases hn with rfl|rfl<;>cases s
 ·exact⟨9218868437227405312,by decide,by decide,by decide,by decide+kernel⟩
 ·exact⟨-4503599627370496,by decide,by decide,by decide,by decide+kernel⟩
 ·exact⟨2139095040,by decide,by decide,by decide,by decide+kernel⟩
 ·exact⟨4286578688,by decide,by decide,by decide,by decide+kernel⟩
theorem Fl.parts {n:Int}{x:Nat}{k:Int}(h:Fl n x k):(qo FloatKind.f64.format x=0↔k=0)∧(qo FloatKind.f64.format x=FloatKind.f64.format.infRung↔(k=(ifn n:Int)∨k=-(ifn n:Int)))∧(k≠0→below FloatKind.f64.format x=decide (k<0)):=by
 obtain⟨q,hq,hK,o1,o2,o3,o4,o5,o6⟩:=h.wide
 have i2:=(Qq x h.le h.lt).2
 rw[←o1,o3]at i2
 have hp:=hK.pos
 have hn:=hK.neg
 have ht:=hK.top
 have hb:=hK.bot
 have a:=qb3 (below FloatKind.f64.format x) (qo FloatKind.f64.format x) (ifn 64) (jw 64)
 rw[←i2]at a
 rw[←qii]
 have hpos:=jw 64
 generalize below FloatKind.f64.format x=sb at *
 generalize qo FloatKind.f64.format x=r at *
 refine⟨?_,?_,?_⟩
 ·cases sb<;>simp only[V6,V7]at i2<;>omega
 ·rw[ht,hb,a.1,a.2.1]
  cases sb<;>simp
 ·intro hk
  cases sb<;>simp only[V6,V7]at i2
  ·symm;rw[decide_eq_false_iff_not];omega
  ·symm;rw[qor];omega
theorem Fl.kd {n:Int}{x:Nat}{k:Int}(h:Fl n x k):kdf FloatKind.f64.format x≠4∧(kdf FloatKind.f64.format x=0↔k=0)∧(3≤kdf FloatKind.f64.format x↔(k=(ifn n:Int)∨k=-(ifn n:Int))):=by
 obtain⟨p1,p2,-⟩:=h.parts
 have hle:=h.le
 have hpos:0<FloatKind.f64.format.infRung:=by decide+kernel
 unfold kdf
 rw[if_neg (by omega)]
 rw[←p1,←p2]
 generalize qo FloatKind.f64.format x=r at *
 generalize FloatKind.f64.format.infRung=I at *
 (repeat' split)<;>omega
theorem qld {n:Int}{x y:Nat}{k j:Int}(hx:Fl n x k)(hy:Fl n y j)(h0:k≠0)(h1:j≠0)(hi:(k=(ifn n:Int)∨k=-(ifn n:Int))∨(j=(ifn n:Int)∨j=-(ifn n:Int))):FloatKind.f64.format.mul x y=some (FloatKind.f64.format.word (decide (k<0)^^decide (j<0)) FloatKind.f64.format.infRung):=by
 obtain⟨a1,a2,a3⟩:=hx.kd
 obtain⟨b1,b2,b3⟩:=hy.kd
 rw[qod FloatKind.f64.format Ze (by decide+kernel) x y (hi.imp a3.2 b3.2),if_neg,hx.parts.2.2 h0,hy.parts.2.2 h1]
 intro h
 rcases h with h|h|h|h
 ·exact a1 h
 ·exact b1 h
 ·exact h0 (a2.1 h)
 ·exact h1 (b2.1 h)
theorem qdj (x:Nat)(hc:cls (qw x) 64<3):cfm (zw x) (-1074)=some (ofN (qw x) 64)∧Lies (-1074) 2200 (ofN (qw x) 64)∧vz (-1074) (ofN (qw x) 64)=zw x:=by
 have hn:(64:Int)=64∨(64:Int)=32:=.inl rfl
 obtain⟨p1,p2,p3,p4⟩:=vD _ hc
 have e1:cfm (zw x) (-1074)=some (ofN (qw x) 64):=by
  have h:=Jg (qw x) 64 hn hc
  rw[qdb]at h
  have hm:∀(s:Bool) (a b:Int),sg s (a*b)=sg s a*b:=fun s a b=>by cases s<;>simp[sg,Int.neg_mul]
  unfold zw
  rw[hm,jA,show(-1074:Int)+((qK (qw x) 64+1074).toNat:Int)=qK (qw x) 64 by omega]
  rw[show((qI (qw x) 64).toNat:Int)=qI (qw x) 64 by omega]at h
  exact h
 have hlt:(zw x).natAbs<2^2200:=by
  have h:=qmc x hc
  obtain⟨K,hK⟩:∃K:Nat,K=2099:=⟨_,rfl⟩
  obtain⟨N,hN⟩:∃N:Nat,N=2200:=⟨_,rfl⟩
  rw[←hK]at h
  rw[←hN]
  have h6:(2:Nat)^K≤2^N:=qom (by decide) (by omega)
  omega
 obtain⟨r,h1,h2,h3⟩:=xC (-1074) 2200 (by decide) (by decide) (by decide) (zw x) hlt
 rw[e1]at h1
 cases h1
 exact⟨e1,h2,h3⟩
theorem xS (x:Nat)(q:Int)(hx:Fl 64 x q)(hc:cls (qw x) 64<3)(w:World)(hT:Tab w):Calls Tryz.prog 83 #[.float .f64 x] w fun e w'=>∃v,e=.returned v∧New w w' v (ofN (qw x) 64)∧Kept w w':=by
 obtain⟨q',hq',hK,o1,o2,o3,o4,o5,o6⟩:=hx.wide
 have KO:Hid (∀u,Calls Tryz.prog 104 #[.float .f64 x] u fun e w'=>e=.returned (.int .i64 (qw x))∧u=w'):=fun u=>yE x u
 have hW:=(qo0 w).alloc #[.bool false,.slice none 0 0,.int .i64 0] 31
 have KE:Hid (Calls Tryz.prog 111 #[.int .i64 (qw x),.int .i64 64] (w.alloc (.cells #[.bool false,.slice none 0 0,.int .i64 0] 31)) fun e w'=>∃v,e=.returned (.tuple #[v,.int .i64 0])∧New (w.alloc (.cells #[.bool false,.slice none 0 0,.int .i64 0] 31)) w' v (ofN (qw x) 64)∧Kept (w.alloc (.cells #[.bool false,.slice none 0 0,.int .i64 0] 31)) w'):=qmx (qw x) 64 o4 o5 (.inl rfl) hc _ (hT.kept hW)
 clear hx hK o1 o2 o3 o4 o5 o6 hc hT
 generalize qw x=p at *
 go_enter Tryz.func83,Tryz.ntmps83
 go_wp2_with (first|(go_at_call 104;refine(KO.out _).mono ?_;rintro e w1 ⟨rfl,rfl⟩)|(go_at_call 111;refine KE.out.mono ?_;rintro e w2 ⟨v,rfl,hN,k2⟩;obtain⟨vn,va,vl,vc,vx,rfl⟩:=hN.shape;obtain⟨f0,f1,f2,f3⟩:=zH w.heap.size (by simp) k2 (by simp[go_sem]) (by simp[go_sem]) (by simp[go_sem]) (fun o=>by simp[go_sem]);have hlt:w.heap.size<w2.heap.size:=by(have:=k2.below.size;simp at this;omega)))
 have:=kT w.heap.size (by omega) (by simp) hW hN k2 (.bool vn) (.slice va vl vc) (.int .i64 vx)
 exact qoz (v:=.agg #[.bool vn,.slice va vl vc,.int .i64 vx]) (by simp[results,Tryz.results83,go_sem,f0,f1,f2,hlt]) rfl ⟨_,rfl,this.1.kept ((qo0 _).alloc _ _),this.2.alloc _ _⟩
theorem Qu (n way:Int)(x y:Nat)(t1 t2:Bool)(ht1:(FloatKind.f64.format.order x 0==some .eq)=t1)(ht2:(FloatKind.f64.format.order y 0==some .eq)=t2)(hz:(t1||t2)=true)(w:World):Calls Tryz.prog 49 #[.float .f64 x,.float .f64 y,.int .i64 n,.int .i64 way] w fun e w'=>e=.returned (.float .f64 0)∧Kept w w':=by
 cases t1
 ·cases t2
  ·cases hz
  ·go_enter Tryz.func49,Tryz.ntmps49
   go_wp2_with fail
   go_ret
   exact⟨rfl,qo0 _⟩
 ·go_enter Tryz.func49,Tryz.ntmps49
  go_wp2_with fail
  go_ret
  exact⟨rfl,qo0 _⟩
theorem K7 (n way:Int)(x y z:Nat)(ht1:(FloatKind.f64.format.order x 0==some .eq)=false)(ht2:(FloatKind.f64.format.order y 0==some .eq)=false)(s1 s2:Bool)(hs:(s1||s2)=true)(hm:FloatKind.f64.format.mul x y=some z)
  (KI:Hid (∀u v s,(v=x∧s=s1∨v=y∧s=s2)→Calls Tryz.prog 81 #[.float .f64 v,.int .i64 0] u fun e w'=>e=.returned (.bool s)∧u=w')) (w:World):Calls Tryz.prog 49 #[.float .f64 x,.float .f64 y,.int .i64 n,.int .i64 way] w fun e w'=>e=.returned (.float .f64 z)∧Kept w w':=by
 have hx:∀wx:World,(binOp .mul 66 (.float .f64 x) (.float .f64 y)).run Tryz.prog wx=.ok (.float .f64 z) wx:=fun wx=>run_float_arith wx .mul 66 .f64 x y z hm
 clear hm
 cases s1
 ·cases s2
  ·cases hs
  ·go_enter Tryz.func49,Tryz.ntmps49
   go_wp2_with (first|(go_at_call 81;refine(KI.out _ _ _ (by first|exact .inl ⟨rfl,rfl⟩|exact .inr ⟨rfl,rfl⟩)).mono ?_;rintro e w1 ⟨rfl,rfl⟩))
   go_ret
   exact⟨rfl,qo0 _⟩
 ·go_enter Tryz.func49,Tryz.ntmps49
  go_wp2_with (first|(go_at_call 81;refine(KI.out _ _ _ (by first|exact .inl ⟨rfl,rfl⟩|exact .inr ⟨rfl,rfl⟩)).mono ?_;rintro e w1 ⟨rfl,rfl⟩))
  go_ret
  exact⟨rfl,qo0 _⟩
theorem K8 (n way:Int)(x y z:Nat)(ht1:(FloatKind.f64.format.order x 0==some .eq)=false)(ht2:(FloatKind.f64.format.order y 0==some .eq)=false)(a b r:Nm)(rz:Int)(ox:Bool)(w:World)
  (KI:Hid (∀u v,(v=x∨v=y)→Calls Tryz.prog 81 #[.float .f64 v,.int .i64 0] u fun e w'=>e=.returned (.bool false)∧u=w'))
  (KX:Hid (∀u v c,(v=x∧c=a∨v=y∧c=b)→Kept w u→Calls Tryz.prog 83 #[.float .f64 v] u fun e w'=>∃v,e=.returned v∧New u w' v c∧Kept u w'))
  (KM:Hid (∀u a1 c1 a2 c2,Kept w u→Sl u (.slice a1 a.mag.length c1) a.mag→Sl u (.slice a2 b.mag.length c2) b.mag→Calls Tryz.prog 82 #[.agg #[.bool a.neg,.slice a1 a.mag.length c1,.int .i64 a.exp],.agg #[.bool b.neg,.slice a2 b.mag.length c2,.int .i64 b.exp]] u fun e w'=>∃v,e=.returned (.tuple #[v,.int .i64 0])∧New u w' v r∧Kept u w'))
  (KR:Hid (∀u a1 c1,Kept w u→Sl u (.slice a1 r.mag.length c1) r.mag→Calls Tryz.prog 84 #[.agg #[.bool r.neg,.slice a1 r.mag.length c1,.int .i64 r.exp],.int .i64 n,.int .i64 way] u fun e w'=>e=.returned (.tuple #[.int .i64 rz,.bool ox,.int .i64 0])∧Kept u w'))
  (KF:Hid (∀u,Calls Tryz.prog 85 #[.int .i64 rz,.int .i64 n] u fun e w'=>e=.returned (.float .f64 z)∧Kept u w')):
  Calls Tryz.prog 49 #[.float .f64 x,.float .f64 y,.int .i64 n,.int .i64 way] w fun e w'=>e=.returned (.float .f64 z)∧Kept w w':=by
 go_enter Tryz.func49,Tryz.ntmps49
 go_upto_region 5 with (first|(go_at_call 81;refine(KI.out _ _ (by first|exact .inl rfl|exact .inr rfl)).mono ?_;rintro e w1 ⟨rfl,rfl⟩))
 go_wp2_with fail
 refine(KX.out _ _ _ (.inl ⟨rfl,rfl⟩) (qo0 _)).mono ?_
 rintro e w1 ⟨v,rfl,hN1,k1⟩
 obtain⟨vn,va,vl,vc,vx,rfl⟩:=hN1.shape
 obtain⟨rfl,rfl,rfl,hs1⟩:=jD hN1
 have HS1:Hid (Sl w1 (.slice va a.mag.length vc) a.mag):=hs1
 clear hN1 hs1
 go_wp2_with fail
 refine(KX.out _ _ _ (.inr ⟨rfl,rfl⟩) k1).mono ?_
 rintro e w2 ⟨v,rfl,hN2,k2⟩
 obtain⟨vn,vb,vl,vd,vx,rfl⟩:=hN2.shape
 obtain⟨rfl,rfl,rfl,hs2⟩:=jD hN2
 have HS2:Hid (Sl w2 (.slice vb b.mag.length vd) b.mag):=hs2
 clear hN2 hs2
 go_wp2_with fail
 refine(KM.out _ _ _ _ _ (k1.trans k2) (HS1.out.kept k2) HS2.out).mono ?_
 rintro e w3 ⟨v,rfl,hN3,k3⟩
 obtain⟨vn,vr,vl,ve,vx,rfl⟩:=hN3.shape
 obtain⟨rfl,rfl,rfl,hs3⟩:=jD hN3
 have HS3:Hid (Sl w3 (.slice vr r.mag.length ve) r.mag):=hs3
 have HK3:Hid (Kept w w3):=(k1.trans k2).trans k3
 clear hN3 hs3 KX KM KI
 go_wp2_with (first|(go_at_call 84;refine(KR.out _ _ _ (HK3.out.alloc _ _) (HS3.out.kept ((qo0 _).alloc _ _))).mono ?_;rintro e w4 ⟨rfl,k4⟩)|(go_at_call 85;refine(KF.out _).mono ?_;rintro e w5 ⟨rfl,k5⟩))
 go_ret
 exact⟨rfl,((HK3.out.alloc _ _).trans k4).trans k5⟩
def Prk (n way k1 k2 K:Int):Prop:=
 ((k1=0∨k2=0)∧K=0)∨
 (k1≠0∧k2≠0∧((k1=(ifn n:Int)∨k1=-(ifn n:Int))∨(k2=(ifn n:Int)∨k2=-(ifn n:Int)))∧K=(if (decide (k1<0)^^decide (k2<0))=true then -(ifn n:Int)else (ifn n:Int)))∨
 (k1≠0∧k2≠0∧(-(ifn n:Int)<k1∧k1<(ifn n:Int))∧(-(ifn n:Int)<k2∧k2<(ifn n:Int))∧∃r,cfm (kvz n (-1074) k1*kvz n (-1074) k2) (-2148)=some r∧K=kyN n way r)
theorem je (n way:Int)(hn:n=64∨n=32)(hw:way=0∨way=1∨way=2)(x y:Nat)(k j:Int)(hx:Fl n x k)(hy:Fl n y j):∃z K,Prk n way k j K∧Fl n z K∧∀w,Tab w→Calls Tryz.prog 49 #[.float .f64 x,.float .f64 y,.int .i64 n,.int .i64 way] w fun e w'=>e=.returned (.float .f64 z)∧Kept w w':=by
 have z0:=Fl.zero n hn
 have ex:=hx.ord z0
 have ey:=hy.ord z0
 have rx:=hx.rng
 have ry:=hy.rng
 have hpos:=jw n
 have tx:(FloatKind.f64.format.order x 0==some .eq)=decide (k=0):=by rw[ex,xi]
 have ty:(FloatKind.f64.format.order y 0==some .eq)=decide (j=0):=by rw[ey,xi]
 by_cases h0:k=0∨j=0
 ·refine⟨0,0,.inl ⟨h0,rfl⟩,z0,fun w _=>Qu n way x y _ _ tx ty ?_ w⟩
  rcases h0 with h|h<;>simp[h]
 ·have k0:k≠0:=fun e=>h0 (.inl e)
  have j0:j≠0:=fun e=>h0 (.inr e)
  rw[qot k0]at tx
  rw[qot j0]at ty
  by_cases hi:(k=(ifn n:Int)∨k=-(ifn n:Int))∨(j=(ifn n:Int)∨j=-(ifn n:Int))
  ·refine⟨_,_,.inr (.inl ⟨k0,j0,hi,rfl⟩),Fl.infw n hn _,fun w _=>K7 n way x y _ tx ty (decide (k=(ifn n:Int)∨k=-(ifn n:Int))) (decide (j=(ifn n:Int)∨j=-(ifn n:Int))) ?_ (qld hx hy k0 j0 hi) (fun u v s h=>?_) w⟩
   ·rw[Bool.or_eq_true,qor,qor];exact hi
   ·rcases h with ⟨rfl,rfl⟩|⟨rfl,rfl⟩
    ·exact jZ hx u
    ·exact jZ hy u
  ·have bk:-(ifn n:Int)<k∧k<(ifn n:Int):=by omega
   have bj:-(ifn n:Int)<j∧j<(ifn n:Int):=by omega
   obtain⟨q,hq,hK,-⟩:=hx.wide
   obtain⟨p,hp,hJ,-⟩:=hy.wide
   have qr:=hq.rng
   have pr:=hp.rng
   have t1:=hK.top
   have t2:=hK.bot
   have t3:=hJ.top
   have t4:=hJ.bot
   obtain⟨zx,-,cx⟩:=Jw hq (by omega) (by omega)
   obtain⟨zy,-,cy⟩:=Jw hp (by omega) (by omega)
   obtain⟨ea,la,va⟩:=qdj x cx
   obtain⟨eb,lb,vb⟩:=qdj y cy
   have hm:=VT (-1074) 2200 (by decide) (by decide) (by decide) _ _ la lb
   rw[va,vb,yw hx bk.1 bk.2,yw hy bj.1 bj.2]at hm
   have hsz:(kvz n (-1074) k*kvz n (-1074) j).natAbs<2^4400:=by
    rw[Int.natAbs_mul,←yw hx bk.1 bk.2,←yw hy bj.1 bj.2]
    have s1:=la.lt
    have s2:=lb.lt
    rw[va]at s1
    rw[vb]at s2
    obtain⟨N,hN⟩:∃N:Nat,N=2200:=⟨_,rfl⟩
    obtain⟨M,hM⟩:∃M:Nat,M=4400:=⟨_,rfl⟩
    rw[←hN]at s1 s2
    rw[←hM,show M=N+N by omega,qol]
    exact Nat.mul_lt_mul'' s1 s2
   obtain⟨r,hr,lr,vr⟩:=xC (-2148) 4400 (by decide) (by decide) (by decide) _ hsz
   have hmr:Jn (ofN (qw x) 64) (ofN (qw y) 64)=some r:=hm.trans hr
   refine⟨_,_,.inr (.inr ⟨k0,j0,bk,bj,r,hr,rfl⟩),qma n way hn r,fun w hT=>K8 n way x y _ tx ty (ofN (qw x) 64) (ofN (qw y) 64) r (rzN n way r) (oxN n way r) w (fun u v h=>?_) (fun u v c h k=>?_) (fun u a1 c1 a2 c2 k h1 h2=>?_) (fun u a1 c1 k h=>?_) (fun u=>jC _ n (Jv n way hn r).1 (Jv n way hn r).2 u)⟩
   ·rcases h with rfl|rfl
    ·have:=jZ hx u
     rw[qot (by omega)]at this
     exact this
    ·have:=jZ hy u
     rw[qot (by omega)]at this
     exact this
   ·rcases h with ⟨rfl,rfl⟩|⟨rfl,rfl⟩
    ·exact xS _ q hq cx u (hT.kept k)
    ·exact xS _ p hp cy u (hT.kept k)
   ·exact qk5 u (hT.kept k) _ _ _ la.ok a1 c1 _ _ _ lb.ok a2 c2 h1 h2 r hmr
   ·exact qbr n way hn hw r lr.ok a1 c1 u (hT.kept k) h
theorem yy (op:Nat)(hcall:∀a b c d w,(callFunc op #[a,b,c,d]).run Tryz.prog w=.ok (.enter op #[a,b,c,d]) w)(n:Int)(x y z1 z2:Nat)(w:World)(P Q:Nat)(hP:w.cell? ⟨P,0,none⟩=some (.func (.func op) #[] #[]))(hQ:w.cell? ⟨Q,0,none⟩=some (.int .i64 n))(lP:P<w.heap.size)(lQ:Q<w.heap.size)
  (KO:Hid (∀u way z,Kept w u→(way=1∧z=z1∨way=2∧z=z2)→Calls Tryz.prog op #[.float .f64 x,.float .f64 y,.int .i64 n,.int .i64 way] u fun e w'=>e=.returned (.float .f64 z)∧Kept u w')):
  Calls Tryz.prog 79 #[.float .f64 x,.float .f64 y,.pointer (some ⟨P,0,none⟩),.pointer (some ⟨Q,0,none⟩)] w fun e w'=>e=.returned (fv2 z1 z2)∧Kept w w':=by
 have hSF:=jx
 obtain⟨X,hX⟩:∃X,X=w.alloc (.cells #[.float .f64 0,.float .f64 0] 68):=⟨_,rfl⟩
 have hR:P2 X w.heap.size (.float .f64 0) (.float .f64 0):=by rw[hX];exact P2.new _ _ _ _
 have hK:Kept w X:=by rw[hX];exact(qo0 w).alloc _ _
 obtain⟨H,hH⟩:∃H,H=w.heap.size:=⟨_,rfl⟩
 rw[←hH]at hR
 have oH:w.heap.size≤H:=by omega
 have nP:H≠P:=by omega
 have nQ:H≠Q:=by omega
 have HS:Hid (∀u,Kept w u→u.cell? ⟨P,0,none⟩=some (.func (.func op) #[] #[])∧u.cell? ⟨Q,0,none⟩=some (.int .i64 n)):=fun u k=>⟨(k.below.cell (p:=⟨P,0,none⟩) lP).trans hP,(k.below.cell (p:=⟨Q,0,none⟩) lQ).trans hQ⟩
 clear hP hQ
 go_enter Tryz.func79,Tryz.ntmps79
 go_upto_region 1 with fail
 rw[←hX,←hH]
 clear hX hH
 have kd:Kept X X.drew:=(qo0 X).drew
 have e0:=HS.out _ (hK.trans kd)
 refine qo1 (S:=fun u=>u.cell? ⟨P,0,none⟩=some (.func (.func op) #[] #[])∧u.cell? ⟨Q,0,none⟩=some (.int .i64 n)) (by kernel_rfl) (e0) (fun hHeld=>?_)
 refine tk (i:=0) (v:=?_) rfl ?_
 simp only[zz]
 refine tk (i:=1) (v:=?_) rfl ?_
 simp only[zz]
 refine tk (i:=2) (v:=?_) rfl ?_
 simp only[zz]
 refine tk (i:=3) (v:=?_) rfl ?_
 simp only[zz]
 refine tk (i:=5) (v:=?_) rfl ?_
 simp only[zz]
 refine tk (i:=6) (v:=?_) rfl ?_
 simp only[zz]
 refine tk (i:=7) (v:=?_) rfl ?_
 simp only[zz]
 refine tk (i:=8) (v:=?_) rfl ?_
 simp only[zz]
 refine qoy (rs:=[4]) (by kernel_rfl) (by simp) ?_
 refine qow rfl (fun K hK9=>?_) qox
 go_simp
 go_wp2_with fail
 refine(KO.out _ _ _ (hK.trans kd) (.inl ⟨rfl,rfl⟩)).mono ?_
 rintro e u1 ⟨rfl,k1⟩
 have j1:=kd.trans k1
 have e1:=HS.out _ (hK.trans j1)
 refine hK9.out _ _ e1 (fun hHeld1=>?_)
 clear hK9 K
 refine qoy (rs:=[9]) (by kernel_rfl) (by simp) ?_
 refine qow rfl (fun K hK9=>?_) qox
 go_simp
 go_wp2_with fail
 refine(KO.out _ _ _ (hK.trans j1) (.inr ⟨rfl,rfl⟩)).mono ?_
 rintro e u2 ⟨rfl,k2⟩
 have j2:=j1.trans k2
 have e2:=HS.out _ (hK.trans j2)
 refine hK9.out _ _ e2 (fun hHeld2=>?_)
 clear hK9 K
 refine tk (i:=10) (v:=?_) rfl ?_
 simp only[zz]
 obtain⟨c0,c1,cf⟩:=hR.kept j2
 refine qoy (rs:=[11]) (by kernel_rfl) (by simp) ?_
 refine qow rfl (fun K hK9=>?_) qox
 go_simp
 have e3:=HS.out _ (((hK.trans j2).setCell (p:=⟨H,0,none⟩) oH (.float .f64 z1)).setCell (p:=⟨H,1,none⟩) oH (.float .f64 z2))
 refine hK9.out _ _ e3 (fun hHeld3=>?_)
 clear hK9 K
 refine qo2 (by kernel_rfl) ?_ _
 go_wp2_with fail
 have hz:=(P2.mk c0 c1 cf).put (.float .f64 z1) (.float .f64 z2)
 obtain⟨d0,d1,df⟩:=hz
 exact qoz (v:=fv2 z1 z2) (by simp[results,Tryz.results79,go_sem,d0,d1]) rfl ⟨rfl,((hK.trans j2).setCell oH _).setCell oH _⟩
end Go.Proofs.YtaglkncdedeipaaGreatDoor
