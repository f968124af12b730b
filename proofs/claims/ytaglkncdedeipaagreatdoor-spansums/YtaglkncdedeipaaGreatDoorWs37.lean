/-  -/
import Derived.Test.YtaglkncdedeipaaGreatDoorWs36
import Derived.Test.YtaglkncdedeipaaGreatDoorWs30
import Derived.Test.YtaglkncdedeipaaGreatDoorWs23
namespace Go.Proofs.YtaglkncdedeipaaGreatDoor
open Go.ChangeShapes Go.WideShapes Go.ChangeAt Go.RowKit
set_option linter.unusedVariables false
set_option linter.unusedSimpArgs false
set_option maxHeartbeats 16000000
set_option maxRecDepth 100000
abbrev Top:Nat→Prop:=fun _=>True
def PE (n b:Int)(w:World)(v:Value):Prop:=EnAt Top w v (qR n (qd b n)) (qz b n) oneN5
theorem PE.kept (n:Int):∀b u u' v,PE n b u v→Kept u u'→PE n b u' v:=fun b u u' v h k=>EnAt.kept h k
theorem qg4 (n b:Int)(hb:RB b)(hi:qh b n=true)(u:World):Calls Tryz.prog 52 #[.int .i64 b,.int .i64 n] u fun e w'=>∃v,e=.returned v∧PE n b w' v∧Kept u w':=by
 refine(qg3 b n hb hi u).mono ?_
 rintro e w' ⟨⟨v,rfl,hv⟩,k⟩
 exact⟨v,rfl,hv.imp (fun _ _=>trivial),k⟩
theorem yx (n b:Int)(hb:RB b)(hi:qh b n=true):vld (qz b n)=true∧((qz b n).mag≠[]→-1075≤(qz b n).exp):=by
 have hn:=qO b n hi
 unfold qz
 split
 ·next h=>
  obtain⟨l,-⟩:=jc b n hn hb h
  exact⟨l.ok,l.low⟩
 ·exact⟨rfl,fun h=>absurd rfl h⟩
theorem qa8 (n b s:Int)(hs:s≤-1075)(hb:RB b)(hi:qh b n=true):(qR n (qd b n)=0→vz s (qz b n)=kvz n s (qd b n))∧(qR n (qd b n)≠0→vz s (qz b n)=0):=by
 have hn:=qO b n hi
 obtain⟨hc,h3⟩:=yw b n hb hi
 have hr:=zh b n hi hb.1 hb.2
 have hpos:=jI n
 have hkl:(-1074:Int)≤qi n:=by rcases hn with rfl|rfl<;>decide
 refine⟨fun h=>?_,fun h=>?_⟩
 ·have hk:-(ifn n:Int)<qd b n∧qd b n<(ifn n:Int):=by
   unfold qR at h
   (repeat' split at h)<;>omega
  have hcl:=hc.2 hk
  have e2:qz b n=ofN b n:=by unfold qz;rw[if_pos hcl]
  obtain⟨l1,z1⟩:=jc b n hn hb hcl
  rw[e2,V6 s (-1075) _ hs l1.low,z1,xl n s (-1075) _ hs (by omega),xl n (-1075) (-1074) _ (by decide) hkl]
  rfl
 ·have hcl:¬cls b n<3:=fun g=>by
   have:=hc.1 g
   unfold qR at h
   (repeat' split at h)<;>omega
  unfold qz
  rw[if_neg hcl]
  exact zj _ _ _
theorem qf4 (n way b:Int)(hw:way=1∨way=2)(hb:RB b)(hi:qh b n=true):Tk n way (qR n (qd b n)) (qz b n)=qd b n:=by
 have hn:=qO b n hi
 obtain⟨hc,h3⟩:=yw b n hb hi
 have hr:=zh b n hi hb.1 hb.2
 have hpos:=jI n
 unfold Tk qR
 by_cases h1:qd b n=(ifn n:Int)
 ·rw[if_pos h1,if_pos (by decide),h1]
 ·rw[if_neg h1]
  by_cases h2:qd b n=-(ifn n:Int)
  ·rw[if_pos h2,if_neg (by decide),if_pos (by decide),h2]
  ·rw[if_neg h2,if_neg (by decide),if_neg (by decide)]
   have hcl:=hc.2 (by omega)
   have e2:qz b n=ofN b n:=by unfold qz;rw[if_pos hcl]
   rw[e2]
   obtain⟨a1,a2⟩:=qhb b n hn hb hcl
   rcases hw with rfl|rfl
   ·exact a1
   ·exact a2
theorem qf5 (n:Int)(hn:n=64∨n=32)(i1 i2:Int)(x1 x2:Nm)(hi1:i1=-1∨i1=0∨i1=1)(hi2:i2=-1∨i2=0∨i2=1)(h1:vld x1=true)(h2:vld x2=true)(v1 v2:Value)(u:World)(e1:EnAt Top u v1 i1 x1 oneN5)(e2:EnAt Top u v2 i2 x2 oneN5):Calls Tryz.prog 60 #[v1,v2,.int .i64 n] u fun e w'=>e=.returned (.agg #[.int .i64 (pz n (Tk n 1 i1 x1)),.int .i64 (pz n (Tk n 2 i2 x2))])∧Kept u w':=by
 have g1:=e1
 have g2:=e2
 obtain⟨n1,a1,l1,c1,y1,m1,b1,k1,d1,z1,rfl⟩:=e1.shape
 obtain⟨n2,a2,l2,c2,y2,m2,b2,k2,d2,z2,rfl⟩:=e2.shape
 exact X5 n _ _ i1 n1 a1 l1 c1 y1 m1 b1 k1 d1 z1 i2 n2 a2 l2 c2 y2 m2 b2 k2 d2 z2 u (fun w k=>QB Top n 1 hn (.inr (.inl rfl)) _ i1 x1 hi1 h1 w (g1.kept k)) (fun w k=>QB Top n 2 hn (.inr (.inr rfl)) _ i2 x2 hi2 h2 w (g2.kept k))
theorem qfe (b n:Int)(hb:RB b)(w:World):Calls Tryz.prog 51 #[.int .i64 b,.int .i64 n] w fun e w'=>e=.returned (.bool (cls b n==4))∧Kept w w':=by
 have K:Hid (∀u,Calls Tryz.prog 72 #[.int .i64 b,.int .i64 n] u fun e w'=>e=.returned (.int .i64 (cls b n))∧Kept u w'):=fun u=>qu b n hb.1 hb.2 u
 generalize cls b n=c at *
 go_enter Tryz.func51,Tryz.ntmps51
 go_wp2_with (first|(go_at_call 72;refine(K.out _).mono ?_;rintro e w1 ⟨rfl,k1⟩))
 go_ret
 exact⟨rfl,k1⟩
theorem YQ (n a b:Int)(ha:RB a)(hb:RB b)(ia:qh a n=true)(ib:qh b n=true)(v1 v2:Value)(u:World)(e1:PE n a u v1)(e2:PE n b u v2):Calls Tryz.prog 53 #[v1,v2] u fun e w'=>e=.returned (.int .i64 (cz (qd a n) (qd b n)))∧Kept u w':=by
 have hn:=qO a n ia
 obtain⟨va,la⟩:=yx n a ha ia
 obtain⟨vb,lb⟩:=yx n b hb ib
 obtain⟨T,hT⟩:∃T:Int,T=(vz (-1075) (qz a n)).natAbs+(vz (-1075) (qz b n)).natAbs+1:=⟨_,rfl⟩
 have:=qdy Top v1 v2 _ _ _ _ (-1075) T (Zv n _) (Zv n _) va vb la lb (by omega) (by omega) u e1 e2
 obtain⟨a1,a2⟩:=qa8 n a (-1075) (by decide) ha ia
 obtain⟨b1,b2⟩:=qa8 n b (-1075) (by decide) hb ib
 have ra:=zh a n ia ha.1 ha.2
 have rb:=zh b n ib hb.1 hb.2
 have hpos:=jI n
 have e:cz (Rh T (-1075) (qR n (qd a n)) (qz a n)) (Rh T (-1075) (qR n (qd b n)) (qz b n))=cz (qd a n) (qd b n):=by
  have ord:∀p q:Int,p<q→kvz n (-1075) p<kvz n (-1075) q:=fun p q h=>kp n (-1075) hn p q h
  obtain⟨c1,c2,c3⟩:=jG (qd a n) (qd b n)
  obtain⟨d1,d2,d3⟩:=jG (Rh T (-1075) (qR n (qd a n)) (qz a n)) (Rh T (-1075) (qR n (qd b n)) (qz b n))
  have fa:Rh T (-1075) (qR n (qd a n)) (qz a n)=if qd a n=(ifn n:Int)then T else if qd a n=-(ifn n:Int)then -T else kvz n (-1075) (qd a n):=by
   unfold Rh qR at *
   by_cases h1:qd a n=(ifn n:Int)
   ·simp[h1]
   ·by_cases h2:qd a n=-(ifn n:Int)
    ·simp only[if_neg h1,if_pos h2]
     simp
    ·simp only[if_neg h1,if_neg h2]at a1 ⊢
     simpa using a1
  have fb:Rh T (-1075) (qR n (qd b n)) (qz b n)=if qd b n=(ifn n:Int)then T else if qd b n=-(ifn n:Int)then -T else kvz n (-1075) (qd b n):=by
   unfold Rh qR at *
   by_cases h1:qd b n=(ifn n:Int)
   ·simp[h1]
   ·by_cases h2:qd b n=-(ifn n:Int)
    ·simp only[if_neg h1,if_pos h2]
     simp
    ·simp only[if_neg h1,if_neg h2]at b1 ⊢
     simpa using b1
  have ba:qd a n≠(ifn n:Int)→qd a n≠-(ifn n:Int)→-T<kvz n (-1075) (qd a n)∧kvz n (-1075) (qd a n)<T:=fun g1 g2=>by
   have:=a1 (by unfold qR;rw[if_neg g1,if_neg g2])
   omega
  have bb:qd b n≠(ifn n:Int)→qd b n≠-(ifn n:Int)→-T<kvz n (-1075) (qd b n)∧kvz n (-1075) (qd b n)<T:=fun g1 g2=>by
   have:=b1 (by unfold qR;rw[if_neg g1,if_neg g2])
   omega
  have key:(qd a n<qd b n→Rh T (-1075) (qR n (qd a n)) (qz a n)<Rh T (-1075) (qR n (qd b n)) (qz b n))∧(qd b n<qd a n→Rh T (-1075) (qR n (qd b n)) (qz b n)<Rh T (-1075) (qR n (qd a n)) (qz a n))∧(qd a n=qd b n→Rh T (-1075) (qR n (qd a n)) (qz a n)=Rh T (-1075) (qR n (qd b n)) (qz b n)):=by
   rw[fa,fb]
   have oab:=ord (qd a n) (qd b n)
   have oba:=ord (qd b n) (qd a n)
   refine⟨fun h=>?_,fun h=>?_,fun h=>?_⟩
   ·have:=oab h
    (repeat' split)<;>omega
   ·have:=oba h
    (repeat' split)<;>omega
   ·rw[h]
  rcases Int.lt_trichotomy (qd a n) (qd b n)with h|h|h
  ·rw[c1 h,d1 (key.1 h)]
  ·rw[c2 h,d2 (key.2.2 h)]
  ·rw[c3 h,d3 (key.2.1 h)]
 rw[e]at this
 exact this
theorem qdz (b n:Int):qh b n=(val b n&&!(cls b n==4)):=by
 rw[Bool.eq_iff_iff]
 unfold qh val
 simp only[Bool.and_eq_true,Bool.not_eq_true',beq_eq_false_iff_ne,ne_eq,qh1]
 constructor
 ·rintro⟨h,h4⟩
  refine⟨?_,h4⟩
  rcases h with rfl|rfl
  ·exact .inl rfl
  ·refine .inr ⟨rfl,?_⟩
   apply Classical.not_not.1
   intro hb
   apply h4
   unfold cls
   rw[if_neg (by decide),if_pos rfl,if_neg hb]
 ·rintro⟨h,h4⟩
  exact⟨by omega,h4⟩
theorem qd0 (lo hi n:Int)(h1:RB lo)(h2:RB hi)(w:World):Calls Tryz.prog 12 #[.agg #[.int .i64 lo,.int .i64 hi],.int .i64 n] w fun e w'=>e=.returned (.bool (vsp lo hi n))∧Kept w w':=by
 have KV:Hid (∀u b q,(b=lo∧q=val lo n∨b=hi∧q=val hi n)→Calls Tryz.prog 50 #[.int .i64 b,.int .i64 n] u fun e w'=>e=.returned (.bool q)∧Kept u w'):=fun u b q h=>by
  rcases h with ⟨rfl,rfl⟩|⟨rfl,rfl⟩
  ·exact yc _ n h1.1 h1.2 u
  ·exact yc _ n h2.1 h2.2 u
 have KN:Hid (∀u b q,(b=lo∧q=(cls lo n==4)∨b=hi∧q=(cls hi n==4))→Calls Tryz.prog 51 #[.int .i64 b,.int .i64 n] u fun e w'=>e=.returned (.bool q)∧Kept u w'):=fun u b q h=>by
  rcases h with ⟨rfl,rfl⟩|⟨rfl,rfl⟩
  ·exact qfe _ n h1 u
  ·exact qfe _ n h2 u
 have hval:∀b,qh b n=(val b n&&!(cls b n==4)):=fun b=>qdz b n
 by_cases hq:(!val lo n||(!val hi n||((cls lo n==4)||(cls hi n==4))))=true
 ·have hf:vsp lo hi n=false:=by
   apply yB
   rw[hval lo,hval hi]
   revert hq
   cases val lo n<;>cases val hi n<;>cases (cls lo n==4)<;>cases (cls hi n==4)<;>simp
  rw[hf]
  exact X6 lo hi n _ _ _ _ hq w KV KN
 ·have hq1:val lo n=true∧val hi n=true∧(cls lo n==4)=false∧(cls hi n==4)=false:=by
   revert hq
   cases val lo n<;>cases val hi n<;>cases (cls lo n==4)<;>cases (cls hi n==4)<;>simp
  have i1:qh lo n=true:=by rw[hval,hq1.1,hq1.2.2.1];rfl
  have i2:qh hi n=true:=by rw[hval,hq1.2.1,hq1.2.2.2];rfl
  have hv:vsp lo hi n=((qR n (qd lo n) != 1)&&(qR n (qd hi n) != -1)&&decide (cz (qd lo n) (qd hi n)≤0)):=by
   have hpos:=jI n
   obtain⟨c1,c2,c3⟩:=jG (qd lo n) (qd hi n)
   have e1:(qR n (qd lo n) != 1)=decide (qd lo n≠(ifn n:Int)):=by
    unfold qR
    by_cases g1:qd lo n=(ifn n:Int)
    ·simp[g1]
    ·rw[if_neg g1,qh2 g1]
     split<;>rfl
   have e2:(qR n (qd hi n) != -1)=decide (qd hi n≠-(ifn n:Int)):=by
    unfold qR
    by_cases g2:qd hi n=-(ifn n:Int)
    ·rw[if_neg (by omega),if_pos g2]
     simp[g2]
    ·rw[qh2 g2,if_neg g2]
     split<;>rfl
   have e3:decide (cz (qd lo n) (qd hi n)≤0)=decide (qd lo n≤qd hi n):=by
    apply decide_eq_decide.2
    omega
   unfold vsp
   rw[i1,i2,e1,e2,e3,Bool.true_and,Bool.true_and]
   cases decide (qd lo n≤qd hi n)<;>cases decide (qd lo n≠(ifn n:Int))<;>cases decide (qd hi n≠-(ifn n:Int))<;>rfl
  rw[hv]
  refine JF lo hi n (qR n (qd lo n)) (qR n (qd hi n)) _ _ _ _ rfl rfl rfl _ _ _ _ hq1.1 hq1.2.1 hq1.2.2.1 hq1.2.2.2 (PE n) (PE.kept n) w KV KN (fun u b i h k=>?_) (fun u v1 v2 k e1 e2=>YQ n lo hi h1 h2 i1 i2 v1 v2 u e1 e2)
  rcases h with ⟨rfl,rfl⟩|⟨rfl,rfl⟩
  ·refine(qg4 n _ h1 i1 u).mono ?_
   rintro e w' ⟨v,rfl,hv,kk⟩
   obtain⟨n1,a1,l1,c1,x1,m1,b1,k1,d1,y1,rfl⟩:=EnAt.shape hv
   exact⟨n1,a1,l1,c1,x1,m1,b1,k1,d1,y1,rfl,hv,kk⟩
  ·refine(qg4 n _ h2 i2 u).mono ?_
   rintro e w' ⟨v,rfl,hv,kk⟩
   obtain⟨n1,a1,l1,c1,x1,m1,b1,k1,d1,y1,rfl⟩:=EnAt.shape hv
   exact⟨n1,a1,l1,c1,x1,m1,b1,k1,d1,y1,rfl,hv,kk⟩
def AV (u:World)(G o:Nat)(v:Value):Prop:=∃(i:Int) (n:Bool) (a:Option Addr) (l c:Nat) (x:Int) (m:Bool) (b:Option Addr) (k d:Nat) (y:Int),v=env i n a l c x m b k d y∧A7 u G o (.int .i64 i) (.bool n) (.slice a l c) (.int .i64 x) (.bool m) (.slice b k d) (.int .i64 y)
theorem A7.lt {w:World}{b o:Nat}{v0 v1 v2 v3 v4 v5 v6:Value}(h:A7 w b o v0 v1 v2 v3 v4 v5 v6):b<w.heap.size:=by
 have:=h.c0
 by_cases hb:b<w.heap.size
 ·exact hb
 ·have hg:w.heap[b]?=none:=by simp at hb ⊢;omega
  simp[World.cell?,hg]at this
theorem zK {w u:World}{p:Addr}{v:Value}(h:w.cell? p=some v)(hp:p.block<w.heap.size)(k:Kept w u):u.cell? p=some v:=(k.below.cell (p:=p) hp).trans h
theorem A7.kept {w u:World}{b o:Nat}{v0 v1 v2 v3 v4 v5 v6:Value}(h:A7 w b o v0 v1 v2 v3 v4 v5 v6)(k:Kept w u):A7 u b o v0 v1 v2 v3 v4 v5 v6:=by
 have hl:=A7.lt h
 exact⟨zK h.c0 hl k,zK h.c1 hl k,zK h.c2 hl k,zK h.c3 hl k,zK h.c4 hl k,zK h.c5 hl k,zK h.c6 hl k⟩
theorem AV.kept {w u:World}{G o:Nat}{v:Value}(h:AV w G o v)(k:Kept w u):AV u G o v:=by
 obtain⟨i,n,a,l,c,x,m,b,kk,d,y,e,h⟩:=h
 exact⟨i,n,a,l,c,x,m,b,kk,d,y,e,h.kept k⟩
theorem Stb.and {Y Z:(Nat→Prop)→World→Prop}(h:Stb Y)(g:Stb Z):Stb (fun P u=>Y P u∧Z P u):=⟨fun P P' u e q=>⟨h.imp P P' u e q.1,g.imp P P' u e q.2⟩,fun P u u' k q=>⟨h.kept P u u' k q.1,g.kept P u u' k q.2⟩⟩
theorem Fz.none {X u:World}:Fz X u none:=fun v h=>by cases h
theorem JJ.start {X u:World}(k:Kept X u):JJ X (fun _ _=>True) none none u:=⟨k,trivial,Fz.none,Fz.none,fun v h=>by cases h⟩
abbrev iK (n b:Int):Int:=qR n (qd b n)
theorem qd1 (n way:Int)(x:Nm):Tk n way 0 x=kyN n way x:=by unfold Tk;rw[if_neg (by decide),if_neg (by decide)]
theorem xg (n k:Int)(hn:n=64∨n=32)(hk:-(ifn n:Int)≤k∧k≤(ifn n:Int)):(qR n k=0↔-(ifn n:Int)<k∧k<(ifn n:Int)):=by
 have hp:(0:Int)<(ifn n:Int):=by rcases hn with rfl|rfl<;>decide
 unfold qR
 split
 ·constructor
  ·intro h;exact absurd h (by decide)
  ·intro h;omega
 ·split
  ·constructor
   ·intro h;exact absurd h (by decide)
   ·intro h;omega
  ·constructor
   ·intro _;omega
   ·intro _;rfl
theorem qd2 (n b:Int)(hb:RB b∧qh b n=true)(h:-(ifn n:Int)<qd b n∧qd b n<(ifn n:Int)):cls b n<3∧qz b n=ofN b n:=by
 have:=(yw b n hb.1 hb.2).1.2 h
 exact⟨this,by unfold qz;rw[if_pos this]⟩
end Go.Proofs.YtaglkncdedeipaaGreatDoor
namespace Go.Proofs.YtaglkncdedeipaaGreatDoor
open Go.ChangeShapes Go.WideShapes Go.ChangeAt Go.RowKit Ieee
set_option linter.unusedVariables false
set_option linter.unusedSimpArgs false
set_option maxHeartbeats 16000000
set_option maxRecDepth 100000
def sK (n:Int)(k:Nat→Int):Nat→Int
 |0=>0
 |m+1=>sK n k m+kvz n (-1074) (k m)
def SmN (n way:Int)(k:Nat→Int)(m:Nat)(K:Int):Prop:=
 (∃i,i<m∧(k i=(ifn n:Int)∨k i=-(ifn n:Int))∧K=k i)∨((∀i,i<m→-(ifn n:Int)<k i∧k i<(ifn n:Int))∧∃r,cfm (sK n k m) (-1074)=some r∧K=kyN n way r)
theorem qd9 (f:Nat→Nat)(q:Nat→Int)(m:Nat)(h:∃i,i<m∧ze (q i)):∃j,j<m∧ze (q j)∧iQ q m=q j∧iW f q m=f j:=by
 induction m with
 |zero=>
  obtain⟨i,hi,-⟩:=h
  omega
 | succ m ih=>
  unfold iQ iW
  by_cases hm:ze (q m)
  ·rw[if_pos hm,if_pos hm]
   exact⟨m,by omega,hm,rfl,rfl⟩
  ·rw[if_neg hm,if_neg hm]
   obtain⟨i,hi,hq⟩:=h
   have hne:i≠m:=fun e=>hm (e▸hq)
   obtain⟨j,hj,h1,h2,h3⟩:=ih ⟨i,by omega,hq⟩
   exact⟨j,by omega,h1,h2,h3⟩
theorem JM {n:Int}{x:Nat}{k q:Int}(h:Fl n x k)(g:Fl 64 x q)(hi:¬ze q):-(ifn n:Int)<k∧k<(ifn n:Int):=by
 have i1:=xj h g
 have hr:=h.rng
 have c1:k≠(ifn n:Int):=fun e=>hi (i1.2 (.inl e))
 have c2:k≠-(ifn n:Int):=fun e=>hi (i1.2 (.inr e))
 omega
theorem qfg (n:Int)(f:Nat→Nat)(k q:Nat→Int)(m:Nat)(h:∀i,i<m→Fl n (f i) (k i))(g:∀i,i<m→Fl 64 (f i) (q i))(hi:∀i,i<m→¬ze (q i)):sV f q m=sK n k m:=by
 induction m with
 |zero=>rfl
 |succ m ih=>
  unfold sV sK
  have b:=JM (h m (by omega)) (g m (by omega)) (hi m (by omega))
  rw[if_neg (hi m (by omega)),xY (h m (by omega)) b.1 b.2,ih (fun i hi=>h i (by omega)) (fun i hi=>g i (by omega)) (fun i h'=>hi i (by omega))]
theorem Va (n:Int)(f:Nat→Nat)(k q:Nat→Int)(m:Nat)(hm:m≤65536)(h:∀i,i<m→Fl n (f i) (k i))(g:∀i,i<m→Fl 64 (f i) (q i))(hi:∀i,i<m→¬ze (q i)):∃r,cfm (sK n k m) (-1074)=some r∧Lies (-1074) 2200 r∧vz (-1074) r=sK n k m:=by
 rw[←qfg n f k q m h g hi]
 exact Vt f q m hm g
theorem qbe (n way:Int)(hn:n=64∨n=32)(f:Nat→Nat)(k q:Nat→Int)(m:Nat)(hm:m≤65536)(h:∀i,i<m→Fl n (f i) (k i))(g:∀i,i<m→Fl 64 (f i) (q i)):∃K,SmN n way k m K∧(-(ifn n:Int)≤K∧K≤(ifn n:Int))∧∀x,Rd n way f q m x→Fl n x K:=by
 by_cases hi:∃i,i<m∧ze (q i)
 ·obtain⟨j,hj,h1,h2,h3⟩:=qd9 f q m hi
  refine⟨k j,.inl ⟨j,hj,(xj (h j hj) (g j hj)).1 h1,rfl⟩,(h j hj).rng,fun x hx=>?_⟩
  rcases hx with ⟨-,hx⟩|⟨hx,-⟩
  ·rw[hx,h3]
   exact h j hj
  ·exact absurd h1 (hx j hj)
 ·have hi':∀i,i<m→¬ze (q i):=fun i h1 h2=>hi ⟨i,h1,h2⟩
  obtain⟨r,hr,-,-⟩:=Va n f k q m hm h g hi'
  refine⟨kyN n way r,.inr ⟨fun i hm=>JM (h i hm) (g i hm) (hi' i hm),r,hr,rfl⟩,jf n way r,fun x hx=>?_⟩
  rcases hx with ⟨hx,-⟩|⟨-,r',hr',hx⟩
  ·rcases V5 q m with h0|⟨h0,-⟩
   ·exfalso
    have:∀m',m'≤m→¬ze (iQ q m'):=by
     intro m'
     induction m' with
     |zero=>intro _;show ¬ze 0;decide
     |succ m' ih=>
      intro hl
      unfold iQ
      rw[if_neg (hi' m' (by omega))]
      exact ih (by omega)
    exact this m (qhy _) hx
   ·rw[h0]at hx
    exact absurd hx (by decide)
  ·rw[qfg n f k q m h g hi',hr]at hr'
   cases hr'
   rw[hx]
   exact qb5 n way hn r
theorem QE (a1 b1 n:Int)(s1:RB a1)(s2:RB b1)(hv:vsp a1 b1 n=true):Fl n (flv a1 n) (qd a1 n)∧Fl n (flv b1 n) (qd b1 n)∧∀u,Calls Tryz.prog 66 #[sp2 a1 b1,.int .i64 n] u fun e w'=>e=.returned (.tuple #[fv2 (flv a1 n) (flv b1 n),.int .i64 0])∧Kept u w':=by
 obtain⟨i1,i2,-⟩:=jw _ _ _ hv
 refine⟨Fl.flv i1 s1.1 s1.2,Fl.flv i2 s2.1 s2.2,fun u=>?_⟩
 have:=jV a1 b1 n s1 s2 u
 unfold opV opE at this
 rw[if_pos hv,if_pos (qO _ _ i1),if_pos hv]at this
 exact this
theorem qea (n:Int)(hn:n=64∨n=32)(m:Nat)(hm:m≤65536)(la lb:Nat→Int)(ra:∀i,i<m→RB (la i))(rb:∀i,i<m→RB (lb i))(hv:∀i,i<m→vsp (la i) (lb i) n=true):∃K1 K2,SmN n 1 (fun i=>qd (la i) n) m K1∧SmN n 2 (fun i=>qd (lb i) n) m K2∧(-(ifn n:Int)≤K1∧K1≤(ifn n:Int))∧(-(ifn n:Int)≤K2∧K2≤(ifn n:Int))∧∀(w:World) (ao:Option Addr) (c:Nat),Tab w→Sps w ao m la lb→Calls Tryz.prog 26 #[.slice ao m c,.int .i64 n] w fun e w'=>e=.returned (.tuple #[sp2 (pz n K1) (pz n K2),.int .i64 0])∧Kept w w':=by
 have hO:∀i,i<m→_:=fun i hi=>QE (la i) (lb i) n (ra i hi) (rb i hi) (hv i hi)
 have hq:∀i,∃p q,i<m→Fl 64 (flv (la i) n) p∧Fl 64 (flv (lb i) n) q:=fun i=>by
  by_cases hi:i<m
  ·obtain⟨p,P,-⟩:=(hO i hi).1.wide
   obtain⟨q,Q,-⟩:=(hO i hi).2.1.wide
   exact⟨p,q,fun _=>⟨P,Q⟩⟩
  ·exact⟨0,0,fun h=>absurd h hi⟩
 obtain⟨p,hp⟩:=Classical.axiomOfChoice hq
 obtain⟨q,hp⟩:=Classical.axiomOfChoice hp
 obtain⟨K1,S1,R1,F1⟩:=qbe n 1 hn (fun i=>flv (la i) n) (fun i=>qd (la i) n) p m hm (fun i hi=>(hO i hi).1) (fun i hi=>(hp i hi).1)
 obtain⟨K2,S2,R2,F2⟩:=qbe n 2 hn (fun i=>flv (lb i) n) (fun i=>qd (lb i) n) q m hm (fun i hi=>(hO i hi).2.1) (fun i hi=>(hp i hi).2)
 refine⟨K1,K2,S1,S2,R1,R2,fun w ao c hT hS=>?_⟩
 refine qbu n m c hm la lb (fun i=>flv (la i) n) (fun i=>flv (lb i) n) ao _ _ (fun x y=>Fl n x K1∧Fl n y K2) w hS (fun u=>?_) (fun i hi u=>(hO i hi).2.2 u) (fun u D ku hI=>?_) (fun u x y h=>kl h.1 h.2 u)
 ·have:=jC 0 n u
  rw[show val 0 n=true by rcases hn with rfl|rfl<;>decide]at this
  exact this
 ·refine(ko n hn m hm _ _ p q (fun i hi=>hp i hi) _ _ u (hT.kept ku) hI).mono ?_
  rintro e w' ⟨x,y,rfl,hx,hy,k'⟩
  exact⟨x,y,rfl,⟨F1 x hx,F2 y hy⟩,k'⟩
end Go.Proofs.YtaglkncdedeipaaGreatDoor
namespace Go.Proofs.YtaglkncdedeipaaGreatDoor
open Go.ChangeShapes Go.WideShapes Go.ChangeAt Go.RowKit
set_option linter.unusedVariables false
set_option linter.unusedSimpArgs false
set_option maxHeartbeats 16000000
set_option maxRecDepth 100000
def iS (n:Int)(b:Nat→Int):Nat→Int
 |0=>0
 |k+1=>if iS n b k≠0 then iS n b k else if iK n (b k)≠0 then iK n (b k)else 0
def xS (n:Int)(b:Nat→Int):Nat→Nm
 |0=>⟨false,[],0⟩
 |k+1=>if iS n b k≠0 then xS n b k else if iK n (b k)≠0 then qz (b k) n else pls (xS n b k) (qz (b k) n)
theorem YU (Q:Nat→Prop)(n i:Int)(x:Nm)(c:Int)(hx:vld x=true)(hc:RB c∧qh c n=true)(v1 v2:Value)(u:World)(e1:EnAt Q u v1 i x oneN5)(e2:EnAt Q u v2 (iK n c) (qz c n) oneN5)(hQ:∀b,u.heap.size≤b→Q b):
  Calls Tryz.prog 61 #[v1,v2] u fun e w'=>∃r,e=.returned r∧EnAt Q w' r (if i≠0 then i else if iK n c≠0 then iK n c else 0) (if i≠0 then x else if iK n c≠0 then qz c n else pls x (qz c n)) oneN5∧Kept u w':=by
 unfold iK at *
 have g1:=EnAt.here e1
 have g2:=EnAt.here e2
 obtain⟨n1,a1,l1,c1,y1,m1,b1,k1,d1,z1,rfl⟩:=EnAt.shape e1
 obtain⟨n2,a2,l2,c2,y2,m2,b2,k2,d2,z2,rfl⟩:=EnAt.shape e2
 by_cases h1:i=0
 ·by_cases h2:qR n (qd c n)=0
  ·rw[if_neg (not_not_intro h1),if_neg (not_not_intro h2),if_neg (not_not_intro h1),if_neg (not_not_intro h2)]
   rw[h1]at g1 ⊢
   rw[h2]at g2 ⊢
   have q1:=xq _ hx
   have q2:=xq _ (yx n c hc.1 hc.2).1
   refine(qdw n1 a1 l1 c1 y1 m1 b1 k1 d1 z1 n2 a2 l2 c2 y2 m2 b2 k2 d2 z2 (pls x (qz c n)) (fun c=>Q c∧c<u.heap.size) u (fun v k=>?_)).mono ?_
   ·exact Xl _ v _ _ _ _ ((EnAt.kept g1 k).fst).1 ((EnAt.kept g2 k).fst).1 q1.1 q2.1 (by have:=q1.2.1;omega) (by have:=q2.2.1;omega) (by have:=q1.2.2;omega) (by have:=q2.2.2;omega)
   ·rintro e w' ⟨u',C,v,v0,v1,v2,v3,v4,v5,v6,rfl,g,k,hC,rfl⟩
    exact⟨v,rfl,(g.put C (fun c hc=>by rcases hc with ⟨-,hc⟩|hc<;>omega) _ _ _ _ _ _ _).imp fun b hb=>by
     rcases hb with hb|hb
     ·exact hb.1
     ·exact hQ b (by omega),yb k hC _ _ _ _ _ _ _⟩
  ·rw[if_neg (not_not_intro h1),if_pos h2,if_neg (not_not_intro h1),if_pos h2]
   rw[h1]at g1 ⊢
   refine(qdv n1 a1 l1 c1 y1 m1 b1 k1 d1 z1 _ n2 a2 l2 c2 y2 m2 b2 k2 d2 z2 (by simpa using h2) u).mono ?_
   rintro e w' ⟨u',C,v0,v1,v2,v3,v4,v5,v6,rfl,k,hC,rfl⟩
   exact⟨_,rfl,((g2.kept k).put C (fun c hc=>by have:=hc.2;omega) _ _ _ _ _ _ _).imp fun b hb=>hb.1,yb k hC _ _ _ _ _ _ _⟩
 ·rw[if_pos h1,if_pos h1]
  refine(qdu _ n1 a1 l1 c1 y1 m1 b1 k1 d1 z1 _ n2 a2 l2 c2 y2 m2 b2 k2 d2 z2 (by simpa using h1) u).mono ?_
  rintro e w' ⟨u',C,v0,v1,v2,v3,v4,v5,v6,rfl,k,hC,rfl⟩
  exact⟨_,rfl,((g1.kept k).put C (fun c hc=>by have:=hc.2;omega) _ _ _ _ _ _ _).imp fun b hb=>hb.1,yb k hC _ _ _ _ _ _ _⟩
theorem qeb (n:Int)(A:Int)(x:Nm)(hx:cfm A (-1074)=some x)(B:Nat)(hB:B=2200)(hA:A.natAbs<2^B)(c:Int)(hc:RB c∧qh c n=true)(h2:-(ifn n:Int)<qd c n∧qd c n<(ifn n:Int))(r:Nm)(hr:cfm (A+kvz n (-1074) (qd c n)) (-1074)=some r):pls x (qz c n)=r∧vld (pls x (qz c n))=true:=by
 have hn:=qO c n hc.2
 obtain⟨p2,q2⟩:=qd2 n c hc h2
 obtain⟨l2,z2⟩:=jc c n hn hc.1 p2
 have l1:Lies (-1075) 5000 x∧vz (-1075) x=A*2:=by
  have hb:∀E,E=5000→(A*2).natAbs<2^E:=by
   intro E hE
   have h1:(A*2).natAbs<2^(B+1):=by rw[qh5];omega
   exact qhu h1 (qhw (by decide) (by omega))
  obtain⟨r',h1,h2,h3⟩:=jk (-1075) 5000 (by decide) (by decide) (by decide) (A*2) (hb 5000 rfl)
  have hs:=zM A 1 (-1075)
  have e:cfm (A*2) (-1075)=some x:=hs.trans hx
  rw[h1]at e
  cases e
  exact⟨h2,h3⟩
 obtain⟨l1,z1⟩:=l1
 rw[q2]
 have e:=qeg (-1075) 5000 (by decide) _ _ l1 l2
 rw[z1,z2,←Int.add_mul]at e
 have hs:=zM (A+kvz n (-1074) (qd c n)) 1 (-1075)
 have e2:qbq x (ofN c n)=some r:=e.trans (hs.trans hr)
 rw[qe2 _ _ l1.ok l2.ok]at e2
 by_cases hv:vld (pls x (ofN c n))=true
 ·rw[if_pos hv]at e2
  cases e2
  exact⟨rfl,hv⟩
 ·rw[if_neg hv]at e2
  cases e2
structure qfh (n:Int) (b:Nat→Int) (k:Nat):Prop where
 ok:vld (xS n b k)=true
 sg:iS n b k=-1∨iS n b k=0∨iS n b k=1
 fin:iS n b k=0→(∀i,i<k→-(ifn n:Int)<qd (b i) n∧qd (b i) n<(ifn n:Int))∧cfm (sK n (fun i=>qd (b i) n) k) (-1074)=some (xS n b k)
 inf:iS n b k≠0→∃i,i<k∧iK n (b i)≠0∧iS n b k=iK n (b i)∧xS n b k=qz (b i) n
theorem Vb (n:Int)(hn:n=64∨n=32)(b:Nat→Int)(m:Nat)(hm:m≤65536)(hb:∀i,i<m→RB (b i)∧qh (b i) n=true):∀k,k≤m→qfh n b k:=by
 intro k
 induction k with
 |zero=>intro _;exact⟨show vld ⟨false,[],0⟩=true by decide,.inr (.inl rfl),fun _=>⟨fun i hi=>by omega,zX _⟩,fun h=>absurd rfl h⟩
 | succ k ih=>
  intro hk
  obtain⟨h1,h2,h3,h4⟩:=ih (by omega)
  have hbk:=hb k (by omega)
  have kr:=zh (b k) n hbk.2 hbk.1.1 hbk.1.2
  have ik:=xg n _ hn kr
  by_cases c1:iS n b k=0
  ·by_cases c2:iK n (b k)=0
   ·have hf:=ik.1 c2
    obtain⟨f1,f2⟩:=h3 c1
    have e1:iS n b (k+1)=0:=by
     show(if iS n b k≠0 then _ else _)=_
     rw[if_neg (not_not_intro c1),if_neg (not_not_intro c2)]
    have e2:xS n b (k+1)=pls (xS n b k) (qz (b k) n):=by
     show(if iS n b k≠0 then _ else _)=_
     rw[if_neg (not_not_intro c1),if_neg (not_not_intro c2)]
    have F:∀i,i<k+1→-(ifn n:Int)<qd (b i) n∧qd (b i) n<(ifn n:Int):=fun i hi=>by
     by_cases hik:i=k
     ·rw[hik];exact hf
     ·exact f1 i (by omega)
    have hfl:∀i,i<k+1→Fl n (flv (b i) n) (qd (b i) n):=fun i hi=>Fl.flv (hb i (by omega)).2 (hb i (by omega)).1.1 (hb i (by omega)).1.2
    have hq:∀i,∃q,i<k+1→Fl 64 (flv (b i) n) q:=fun i=>by
     by_cases hi:i<k+1
     ·obtain⟨p,P,-⟩:=(hfl i hi).wide
      exact⟨p,fun _=>P⟩
     ·exact⟨0,fun h=>absurd h hi⟩
    obtain⟨q,hq⟩:=Classical.axiomOfChoice hq
    have hni:∀i,i<k+1→¬ze (q i):=fun i hi hc=>by
     have:=(xj (hfl i hi) (hq i hi)).1 hc
     have:=F i hi
     omega
    obtain⟨r,hr,-,-⟩:=Va n (fun i=>flv (b i) n) (fun i=>qd (b i) n) q (k+1) (by omega) hfl hq hni
    obtain⟨r0,hr0,hl0,hv0⟩:=Va n (fun i=>flv (b i) n) (fun i=>qd (b i) n) q k (by omega) (fun i hi=>hfl i (by omega)) (fun i hi=>hq i (by omega)) (fun i hi=>hni i (by omega))
    rw[f2]at hr0
    cases hr0
    have hA:=hl0.lt
    rw[hv0]at hA
    obtain⟨p1,p2⟩:=qeb n _ _ f2 2200 rfl hA (b k) hbk hf r hr
    refine⟨by rw[e2];exact p2,.inr (.inl e1),fun _=>⟨F,by rw[e2,p1];exact hr⟩,fun h=>absurd e1 h⟩
   ·have e1:iS n b (k+1)=iK n (b k):=by
     show(if iS n b k≠0 then _ else _)=_
     rw[if_neg (not_not_intro c1),if_pos c2]
    have e2:xS n b (k+1)=qz (b k) n:=by
     show(if iS n b k≠0 then _ else _)=_
     rw[if_neg (not_not_intro c1),if_pos c2]
    exact⟨by rw[e2];exact(yx n _ hbk.1 hbk.2).1,by rw[e1];exact Zv n _,fun h=>absurd (e1▸h) c2,fun _=>⟨k,by omega,c2,e1,e2⟩⟩
  ·have e1:iS n b (k+1)=iS n b k:=by
    show(if iS n b k≠0 then _ else _)=_
    rw[if_pos c1]
   have e2:xS n b (k+1)=xS n b k:=by
    show(if iS n b k≠0 then _ else _)=_
    rw[if_pos c1]
   refine⟨by rw[e2];exact h1,by rw[e1];exact h2,fun h=>absurd (e1▸h) c1,fun _=>?_⟩
   obtain⟨i,hi,g1,g2,g3⟩:=h4 c1
   exact⟨i,by omega,g1,by rw[e1];exact g2,by rw[e2];exact g3⟩
theorem qbf (n way K:Int)(hn:n=64∨n=32)(hw:way=1∨way=2)(b:Nat→Int)(m:Nat)(hm:m≤65536)(hb:∀i,i<m→RB (b i)∧qh (b i) n=true)(hside:∀i j,i<m→j<m→iK n (b i)≠0→iK n (b j)≠0→qd (b i) n=qd (b j) n)(h:SmN n way (fun i=>qd (b i) n) m K):Tk n way (iS n b m) (xS n b m)=K:=by
 obtain⟨h1,h2,h3,h4⟩:=Vb n hn b m hm hb m (qhy _)
 have hik:∀i,i<m→(iK n (b i)=0↔-(ifn n:Int)<qd (b i) n∧qd (b i) n<(ifn n:Int)):=fun i hi=>xg n _ hn (zh (b i) n (hb i hi).2 (hb i hi).1.1 (hb i hi).1.2)
 have hp:(0:Int)<(ifn n:Int):=by rcases hn with rfl|rfl<;>decide
 by_cases c:iS n b m=0
 ·obtain⟨f1,f2⟩:=h3 c
  rcases h with ⟨i,hi,hI,hK⟩|⟨-,r,hr,hK⟩
  ·have:=f1 i hi
   simp only at hI
   rcases hI with hI|hI<;>omega
  ·rw[f2]at hr
   cases hr
   rw[c,qd1,hK]
 ·obtain⟨i,hi,g1,g2,g3⟩:=h4 c
  rw[g2,g3]
  show Tk n way (qR n (qd (b i) n)) (qz (b i) n)=K
  rw[qf4 n way (b i) hw (hb i hi).1 (hb i hi).2]
  rcases h with ⟨j,hj,hI,hK⟩|⟨hf,-⟩
  ·rw[hK]
   refine hside i j hi hj g1 (fun e=>?_)
   have:=(hik j hj).1 e
   simp only at hI
   rcases hI with hI|hI<;>omega
  ·exact absurd ((hik i hi).2 (hf i hi)) g1
end Go.Proofs.YtaglkncdedeipaaGreatDoor
