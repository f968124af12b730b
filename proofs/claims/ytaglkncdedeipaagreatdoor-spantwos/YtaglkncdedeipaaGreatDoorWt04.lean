/-  -/
import Derived.Test.YtaglkncdedeipaaGreatDoorWt03
import Derived.Laws.MakeOwn
import Derived.Laws.EntriesVeiled
import Derived.Test.YtaglkncdedeipaaGreatDoorWt02
namespace Go.Proofs.YtaglkncdedeipaaGreatDoor
open Go.ChangeShapes Go.WideShapes Go.ChangeAt Go.RowKit
set_option linter.unusedVariables false
set_option linter.unusedSimpArgs false
set_option maxHeartbeats 16000000
set_option maxRecDepth 100000
def cv:List Int→Int
 |[]=>0
 |c::l=>c+1073741824*cv l
theorem Xe (L:List Int)(h:Dg L):cv L=(nv L:Int):=by
 induction L with
 |nil=>rfl
 |cons d L ih=>
  have:=h.head
  simp only[cv,nv,ih h.tail]
  omega
def cr (s:Int):Int→List Int→List Int×Int
 |o,[]=>([],o)
 |o,c::C=>(((o+s*c)%1073741824)::(cr s ((o+s*c)/1073741824) C).1,(cr s ((o+s*c)/1073741824) C).2)
def ZK:List Int→Nat→List Int→List Int
 |C,_,[]=>C
 |C,f,d::ds=>ZK ((C.set f (C.getD f 0+d%1073741824)).set (f+1) (C.getD (f+1) 0+d/1073741824)) (f+1) ds
theorem QB (i:Nat):(2:Int)^(30*(i+1))=1073741824*2^(30*i):=by
 rw[show 30*(i+1)=30*i+30 by omega,Int.pow_add,Int.mul_comm,show(2:Int)^30=1073741824 from rfl]
theorem qgj (pre R:List Int)(k:Nat)(h:pre.length=k):(pre++R).getD k 0=R.getD 0 0:=by
 rw[qon,List.getElem?_append_right (by omega),h,Nat.sub_self,qon]
theorem qcm (pre R:List Int)(k:Nat)(c x:Int)(h:pre.length=k):(pre++c::R).set k x=pre++[x]++R:=by
 rw[List.set_append_right _ _ (by omega),h,Nat.sub_self]
 simp
theorem yM (s o:Int)(C:List Int):(cr s o C).1.length=C.length:=by
 induction C generalizing o with
 |nil=>rfl
 |cons c C ih=>simp[cr,ih]
theorem qcn (s o:Int)(C:List Int):Dg (cr s o C).1:=by
 induction C generalizing o with
 |nil=>exact Dg.nil
 |cons c C ih=>exact Dg.cons (by omega) (by omega) (ih _)
theorem qgk (s o:Int)(C:List Int):cv (cr s o C).1+(cr s o C).2*2^(30*C.length)=o+s*cv C:=by
 induction C generalizing o with
 |nil=>simp[cr,cv]
 |cons c C ih=>
  have h:=ih ((o+s*c)/1073741824)
  simp only[cr,cv,List.length_cons]
  have e:=QB C.length
  rw[e]
  generalize (2:Int)^(30*C.length)=p at *
  generalize (cr s ((o+s*c)/1073741824) C).2=q at *
  generalize cv (cr s ((o+s*c)/1073741824) C).1=r at *
  rw[show q*(1073741824*p)=1073741824*(q*p) by rw[Int.mul_left_comm]]
  rw[show s*(c+1073741824*cv C)=s*c+1073741824*(s*cv C) by rw[Int.mul_add,Int.mul_left_comm]]
  generalize q*p=qp at *
  generalize s*cv C=z at *
  generalize s*c=y at *
  omega
theorem ZL (C:List Int)(i:Nat)(hi:i<C.length)(d:Int):cv (C.set i (C.getD i 0+d))=cv C+d*2^(30*i):=by
 induction C generalizing i with
 |nil=>simp at hi
 | cons c C ih=>
  cases i with
  |zero=>simp[cv];omega
  |succ i=>
   have e:=QB i
   simp only[List.set_cons_succ,List.getD_cons_succ,cv]
   rw[ih i (by simpa using hi),e,Int.mul_left_comm]
   generalize d*2^(30*i)=z
   omega
theorem Yu (C:List Int)(f:Nat)(ds:List Int):(ZK C f ds).length=C.length:=by
 induction ds generalizing C f with
 |nil=>rfl
 |cons d ds ih=>simp[ZK,ih]
theorem qgl (C:List Int)(f:Nat)(ds:List Int)(h:f+ds.length<C.length):cv (ZK C f ds)=cv C+2^(30*f)*cv ds:=by
 induction ds generalizing C f with
 |nil=>simp[ZK,cv]
 | cons d ds ih=>
  simp only[List.length_cons]at h
  rw[ZK,ih _ _ (by simp;omega)]
  have e:=QB f
  have h1:(C.set f (C.getD f 0+d%1073741824)).getD (f+1) 0=C.getD (f+1) 0:=by
   rw[qL _ _ _ _ (by omega),if_neg (by omega)]
  rw[←h1,ZL _ (f+1) (by simp;omega),ZL _ f (by omega),e,cv]
  generalize (2:Int)^(30*f)=p
  have e2:d%1073741824*p+d/1073741824*(1073741824*p)=d*p:=by
   rw[←Int.mul_assoc,←Int.add_mul]
   congr 1
   omega
  rw[Int.mul_add,Int.mul_comm p d,Int.mul_assoc,Int.mul_left_comm p]
  omega
theorem qa1 (C:List Int)(f:Nat)(ds:List Int)(b:Int)(hb:0≤b)(hlen:f+ds.length<C.length)(hd:∀d∈ds,-1152921504606846976≤d∧d≤1152921504606846975)(h1:∀j,j<f→-(b+2147483648)≤C.getD j 0∧C.getD j 0≤b+2147483648)(h2:-(b+1073741824)≤C.getD f 0∧C.getD f 0≤b+1073741824)(h3:∀j,f<j→-b≤C.getD j 0∧C.getD j 0≤b):∀j,-(b+2147483648)≤(ZK C f ds).getD j 0∧(ZK C f ds).getD j 0≤b+2147483648:=by
 induction ds generalizing C f with
 |nil=>
  intro j
  rw[ZK]
  rcases Nat.lt_trichotomy j f with h|h|h
  ·exact h1 j h
  ·subst h;omega
  ·have:=h3 j h;omega
 | cons d ds ih=>
  simp only[List.length_cons]at hlen
  rw[ZK]
  have hd0:=hd d (by simp)
  have g1:∀j,((C.set f (C.getD f 0+d%1073741824)).set (f+1) (C.getD (f+1) 0+d/1073741824)).getD j 0=if f+1=j then C.getD (f+1) 0+d/1073741824 else if f=j then C.getD f 0+d%1073741824 else C.getD j 0:=by
   intro j
   rw[qL _ _ _ _ (by simp;omega),qL _ _ _ _ (by omega)]
  apply ih _ _ (by simp;omega) (fun x hx=>hd x (by simp[hx]))
  ·intro j hj
   rw[g1,if_neg (by omega)]
   split
   ·omega
   ·exact h1 j (by omega)
  ·rw[g1,if_pos rfl]
   have:=h3 (f+1) (by omega)
   omega
  ·intro j hj
   rw[g1,if_neg (by omega),if_neg (by omega)]
   exact h3 j (by omega)
theorem Xf (C:List Int)(s:Int)(hs:s=1∨s=-1)(g cap:Nat)(hlen:C.length<100000000)(hb:∀j,-9223372036854775807≤C.getD j 0∧C.getD j 0≤9223372036854775807)(w:World)(h:Own w g cap C):Calls Tryz.prog 159 #[.slice (some ⟨g,0,none⟩) C.length cap,.int .i64 s] w fun e w'=>e=.returned (.bool (decide ((cr s 0 C).2<0)))∧Own w' g cap (cr s 0 C).1∧Grw g w w':=by
 obtain⟨n,hn⟩:∃n,n=C.length:=⟨_,rfl⟩
 have HN:Hid (n=C.length):=hn
 have HB:Hid (∀j,-9223372036854775807≤C.getD j 0∧C.getD j 0≤9223372036854775807):=hb
 have HO:Hid (Own w g cap C):=h
 have hcap:n≤cap:=by obtain⟨_,_,h1,_⟩:=h;omega
 rw[←hn]at hlen ⊢
 obtain⟨D,o',hD⟩:∃D o',cr s 0 C=(D,o'):=⟨_,_,rfl⟩
 rw[hD]
 have HD:Hid (cr s 0 C=(D,o')):=hD
 clear h hb hD hn
 go_enter Tryz.func159,Tryz.ntmps159
 go_wp2
 go_loopw [5,10] (fun ov i wr=>∃(k:Nat) (pre:List Int) (o:Int),k≤n∧i=.int .i64 k∧ov=.int .i64 o∧pre.length=k∧-17179869184≤o∧o≤17179869184∧Own wr g cap (pre++C.drop k)∧(D,o')=(pre++(cr s o (C.drop k)).1,(cr s o (C.drop k)).2)∧Grw g w wr) (fun _ i _=>n-(intOf i).toNat)
 case atStart=>exact⟨0,[],0,Nat.zero_le _,rfl,rfl,rfl,by omega,by omega,by simpa using HO.out,by rw[←HD.out];simp,Grw.refl _ _⟩
 case round=>
  obtain⟨k,pre,o,hk,rfl,rfl,hpre,ho1,ho2,hO,hrun,hG⟩:=hrel
  have HO2:Hid (Own wr g cap (pre++C.drop k)):=hO
  have HR:Hid ((D,o')=(pre++(cr s o (C.drop k)).1,(cr s o (C.drop k)).2)):=hrun
  have HG:Hid (Grw g w wr):=hG
  by_cases hkn:k<n
  ·have hkC:k<C.length:=by have:=HN.out;omega
   have hdrop:C.drop k=C.getD k 0::C.drop (k+1):=by
    rw[List.drop_eq_getElem_cons hkC,qon,List.getElem?_eq_getElem hkC]
    rfl
   have hcell:wr.cell? ⟨g,k,none⟩=some (.int .i64 (C.getD k 0)):=by
    have:=hO.cell k (by rw[List.length_append,List.length_drop];omega)
    rw[qgj _ _ _ hpre,hdrop]at this
    simpa using this
   have hfree:=hO.free k
   have hbk:=HB.out k
   have HDr:Hid (C.drop k=C.getD k 0::C.drop (k+1)):=hdrop
   clear hO hrun hG hdrop
   generalize C.getD k 0=c at *
   have HP:Hid (pre.length=k):=hpre
   clear hpre
   obtain⟨y,hy⟩:∃y,y=s*c:=⟨_,rfl⟩
   have hy1:-9223372036854775807≤y∧y≤9223372036854775807:=by rcases hs with rfl|rfl<;>omega
   have hw1:IntKind.i64.wrap (s*c)=y:=by
    rw[qg];rcases hs with rfl|rfl<;>omega
   have hw2:wrap64 (s*c)=y:=by
    unfold wrap64;rcases hs with rfl|rfl<;>omega
   have hm:=xW y
   have hm2:=xW (o+y%1073741824)
   have hw3:IntKind.i64.wrap (o+y%1073741824)=o+y%1073741824:=by rw[qg];omega
   have hw4:wrap64 (o+y%1073741824)=o+y%1073741824:=by unfold wrap64;omega
   have hw5:IntKind.i64.wrap ((o+y%1073741824)/1073741824+y/1073741824)=(o+y%1073741824)/1073741824+y/1073741824:=by rw[qg];omega
   have hw6:wrap64 ((o+y%1073741824)/1073741824+y/1073741824)=(o+y%1073741824)/1073741824+y/1073741824:=by unfold wrap64;omega
   have Hy:Hid (y=s*c):=hy
   clear hy
   go_wp2
   go_roundw
   case rel=>
    refine⟨k+1,pre++[(o+y)%1073741824],(o+y%1073741824)/1073741824+y/1073741824,by omega,by go_num,rfl,by simp[HP.out],by omega,by omega,?_,?_,HG.out.setCell _ _⟩
    ·have:=HO2.out.set k ((o+y)%1073741824)
     rw[HDr.out,qcm _ _ _ _ _ HP.out]at this
     exact this
    ·rw[HR.out,HDr.out,cr,←Hy.out,show(o+y%1073741824)/1073741824+y/1073741824=(o+y)/1073741824 by omega]
     simp
   case measure=>simp[intOf];omega
  ·obtain rfl:k=n:=by omega
   have hlast:C.drop k=[]:=by rw[HN.out];simp
   rw[hlast]at hrun hO
   simp only[cr,List.append_nil,Prod.mk.injEq]at hrun hO
   obtain⟨rfl,rfl⟩:=hrun
   clear HR HO2
   go_wp2
   go_ret
   exact⟨rfl,hO,hG⟩
def sg (neg:Bool)(d:Int):Int:=if neg=true then -d else d
def dsh (neg:Bool)(s:Nat)(L:List Int):List Int:=L.map fun d=>sg neg (d*2^s)
theorem ZM (neg:Bool)(s:Nat)(L:List Int):(dsh neg s L).length=L.length:=by simp[dsh]
theorem qjq (neg:Bool)(s:Nat)(L:List Int)(h:Dg L):cv (dsh neg s L)=sg neg ((nv L:Int)*2^s):=by
 induction L with
 |nil=>cases neg<;>simp[dsh,cv,nv,sg]
 | cons d L ih=>
  have hd:=h.head
  have:=ih h.tail
  simp only[dsh,List.map_cons,cv,nv]at this ⊢
  rw[this]
  cases neg
  ·simp only[sg,Bool.false_eq_true,if_false,Int.natCast_add,Int.natCast_mul,Int.add_mul,Int.toNat_of_nonneg hd.1]
   rw[←Int.mul_assoc]
   rfl
  ·simp only[sg,if_true,Int.natCast_add,Int.natCast_mul,Int.add_mul,Int.toNat_of_nonneg hd.1]
   rw[Int.mul_neg,←Int.mul_assoc,Int.neg_add]
   rfl
theorem qee (d:Int)(s:Nat)(h0:0≤d)(h1:d<1073741824)(hs:s<30):0≤d*2^s∧d*2^s≤576460752303423488:=by
 have h2:(2:Int)^s≤2^29:=by
  have:2^s≤2^29:=qom (by decide) (by omega)
  have e:((2^s:Nat):Int)≤((2^29:Nat):Int):=by omega
  rw[Int.natCast_pow,Int.natCast_pow]at e
  exact e
 have h3:(0:Int)<2^s:=Int.pow_pos (by decide)
 constructor
 ·exact Int.mul_nonneg h0 (by omega)
 ·have:d*2^s≤d*2^29:=Int.mul_le_mul_of_nonneg_left h2 h0
  have e:(2:Int)^29=536870912:=rfl
  rw[e]at this
  omega
theorem qef (neg:Bool)(s:Nat)(hs:s<30)(L:List Int)(h:Dg L):∀d∈dsh neg s L,-1152921504606846976≤d∧d≤1152921504606846975:=by
 intro d hd
 simp only[dsh,List.mem_map]at hd
 obtain⟨c,hc,rfl⟩:=hd
 have h1:=h c hc
 have:=qee c s h1.1 h1.2 hs
 cases neg<;>simp only[sg,Bool.false_eq_true,if_false,if_true]<;>omega
def ZN (Res:Option Nm)(w0 w:World)(e:Ending):Prop:=match Res with|some r=>∃v,e=.returned v∧New w0 w v r|none=>e=.panicked vI
theorem vH (n:Nat):cv (List.replicate n 0)=0:=by
 induction n with
 |zero=>rfl
 |succ n ih=>simp[List.replicate_succ,cv,ih]
theorem xN (a b:Nat):(2:Int)^(a+b)=2^a*2^b:=Int.pow_add 2 a b
theorem qmj (neg:Bool)(a B:Int)(h0:0≤a)(h1:a<B):-B<sg neg a∧sg neg a<B:=by cases neg<;>simp[sg]<;>omega
theorem qjr (C:List Int)(T:Int)(hT:cv C=T)(h1:-(2:Int)^(30*C.length)<T)(h2:T<(2:Int)^(30*C.length)):
  (decide ((cr 1 0 C).2<0)=decide (T<0))∧(¬T<0→nv (cr 1 0 C).1=T.natAbs)∧(T<0→nv (cr (-1) 0 (cr 1 0 C).1).1=T.natAbs):=by
 have a1:=qgk 1 0 C
 have a2:=qcn 1 0 C
 have a3:=yM 1 0 C
 have a4:=zJ _ a2
 have b1:=qgk (-1) 0 (cr 1 0 C).1
 have b2:=qcn (-1) 0 (cr 1 0 C).1
 have b3:=yM (-1) 0 (cr 1 0 C).1
 have b4:=zJ _ b2
 rw[Xe _ a2,hT]at a1
 rw[Xe _ b2,Xe _ a2]at b1
 rw[a3]at a4 b1 b3
 rw[b3]at b4
 generalize nv (cr 1 0 C).1=D1 at *
 generalize nv (cr (-1) 0 (cr 1 0 C).1).1=D2 at *
 generalize (cr 1 0 C).2=o at *
 generalize (cr (-1) 0 (cr 1 0 C).1).2=o2 at *
 have e:((2^(30*C.length):Nat):Int)=(2:Int)^(30*C.length):=by rw[Int.natCast_pow];rfl
 have a5:(D1:Int)<(2:Int)^(30*C.length):=by rw[←e];omega
 have b5:(D2:Int)<(2:Int)^(30*C.length):=by rw[←e];omega
 have hp:(0:Int)<(2:Int)^(30*C.length):=Int.pow_pos (by decide)
 generalize (2:Int)^(30*C.length)=P at *
 clear e a4 b4
 have ho:∀k:Int,((k≤-2→k*P≤-2*P)∧(1≤k→P≤k*P)):=fun k=>⟨fun h=>Int.mul_le_mul_of_nonneg_right h (by omega),fun h=>by have:=Int.mul_le_mul_of_nonneg_right h (show 0≤P by omega);omega⟩
 have o1:=ho o
 have o3:=ho o2
 have hcase:o=0∨o=-1:=by
  rcases Int.lt_trichotomy o 0 with h|h|h
  ·by_cases h':o≤-2
   ·have:=o1.1 h';omega
   ·omega
  ·exact .inl h
  ·have:=o1.2 (by omega);omega
 rcases hcase with rfl|rfl
 ·refine⟨by simp;omega,fun h=>by omega,fun h=>by omega⟩
 ·have hcase2:o2=0∨o2=-1:=by
   rcases Int.lt_trichotomy o2 0 with h|h|h
   ·by_cases h':o2≤-2
    ·have:=o3.1 h';omega
    ·omega
   ·exact .inl h
   ·have:=o3.2 (by omega);omega
  refine⟨by simp;omega,fun h=>by omega,fun h=>?_⟩
  rcases hcase2 with rfl|rfl<;>omega
def qnl (g cap:Nat)(Res:Option Nm)(w0 w:World)(e:Ending):Prop:=match Res with|some r=>∃v,e=.returned v∧NewG g cap w0 w v r|none=>e=.panicked vI
theorem ZO {w w1:World}{g:Nat}(h:Grw g (qP w) w1)(hne:g≠w.heap.size):w1.cell? ⟨w.heap.size,0,none⟩=some (.bool false)∧w1.cell? ⟨w.heap.size,1,none⟩=some (.slice none 0 0)∧w1.cell? ⟨w.heap.size,2,none⟩=some (.int .i64 0)∧(∀o,w1.frozen? ⟨w.heap.size,o,none⟩=false):=
 ⟨(xO h hne 0).1.trans (by simp[go_sem]),(xO h hne 1).1.trans (by simp[go_sem]),(xO h hne 2).1.trans (by simp[go_sem]),fun o=>(xO h hne o).2.trans (by simp[go_sem])⟩
theorem Xg {w u0 z:World}{g cap:Nat}{v:Value}{r:Nm}(hN:NewG g cap u0 z v r)(hne:g≠w.heap.size)(hu:u0.heap.size≤w.heap.size)(hk:Kept u0 z)(a b c:Value):New u0 (((z.setCell ⟨w.heap.size,0,none⟩ a).setCell ⟨w.heap.size,1,none⟩ b).setCell ⟨w.heap.size,2,none⟩ c) v r∧Kept u0 (((z.setCell ⟨w.heap.size,0,none⟩ a).setCell ⟨w.heap.size,1,none⟩ b).setCell ⟨w.heap.size,2,none⟩ c):=by
 constructor
 ·rcases hN with h|⟨e,hg,ho,hne2⟩
  ·exact .inl h
  ·exact .inr ⟨g,cap,e,hg,((ho.setOther (by simpa using hne) _).setOther (by simpa using hne) _).setOther (by simpa using hne) _,hne2⟩
 ·exact hk.setCell hu _|>.setCell hu _|>.setCell hu _
theorem Ve (w:World)(n cap g:Nat)(x:Int)(C D1 D2:List Int)(ng:Bool)(u0:World)(hk:Kept u0 w)(hg:u0.heap.size≤g)(ho:Own w g cap C)
  (KC1:Hid (∀u,Own u g cap C→Calls Tryz.prog 159 #[.slice (some ⟨g,0,none⟩) n cap,.int .i64 1] u fun e w'=>e=.returned (.bool ng)∧Own w' g cap D1∧Grw g u w'))
  (KC2:Hid (ng=true→∀u,Own u g cap D1→Calls Tryz.prog 159 #[.slice (some ⟨g,0,none⟩) n cap,.int .i64 (-1)] u fun e w'=>(∃b,e=.returned (.bool b))∧Own w' g cap D2∧Grw g u w'))
  (Res:Option Nm) (KF:Hid (∀u,Kept u0 u→Own u g cap (if ng=true then D2 else D1)→Calls Tryz.prog 141 #[.bool ng,.slice (some ⟨g,0,none⟩) n cap,.int .i64 x] u fun e w'=>qnl g cap Res u0 w' e∧Kept u0 w'∧Grw g u w'))
  :Calls Tryz.prog 135 #[.slice (some ⟨g,0,none⟩) n cap,.int .i64 x] w fun e w'=>ZN Res u0 w' e∧Kept u0 w':=by
 have hK0:Kept w (qP w):=(qo0 w).alloc _ _
 have hne:g≠w.heap.size:=by have:=ho.lt;omega
 have hu:=hk.below.size
 have HO:Hid (Own (qP w) g cap C):=ho.kept hK0
 have HK:Hid (Kept u0 (qP w)):=hk.trans hK0
 clear ho
 go_enter Tryz.func135,Tryz.ntmps135
 go_wp2_with fail
 refine(KC1.out _ HO.out).mono ?_
 rintro e z3 ⟨rfl,oz3,gz3⟩
 cases ng
 ·go_wp2_with fail
  refine(KF.out _ (HK.out.grw hg gz3) oz3).mono ?_
  rintro e z5 ⟨hres,k5,g5⟩
  cases Res with
  |none=>
   have hres2:e=.panicked vI:=hres
   subst hres2
   go_wp2
   exact⟨rfl,rfl,k5⟩
  |some r=>
   obtain⟨v,rfl,hN⟩:=hres
   obtain⟨f0,f1,f2,f3⟩:=ZO (gz3.trans g5) hne
   obtain⟨vn,va,vl,vc,vx,rfl⟩:=hN.new.shape
   go_wp2
   have:=Xg hN hne hu k5 (.bool vn) (.slice va vl vc) (.int .i64 vx)
   exact qoz (v:=.agg #[.bool vn,.slice va vl vc,.int .i64 vx]) (by simp[results,Tryz.results135,go_sem,f0,f1,f2]) rfl ⟨⟨_,rfl,this.1⟩,this.2⟩
 ·go_wp2_with fail
  refine(KC2.out (by trivial) _ oz3).mono ?_
  rintro e z4 ⟨⟨b4,rfl⟩,oz4,gz4⟩
  go_wp2_with fail
  refine(KF.out _ (HK.out.grw hg (gz3.trans gz4)) oz4).mono ?_
  rintro e z5 ⟨hres,k5,g5⟩
  cases Res with
  |none=>
   have hres2:e=.panicked vI:=hres
   subst hres2
   go_wp2
   exact⟨rfl,rfl,k5⟩
  |some r=>
   obtain⟨v,rfl,hN⟩:=hres
   obtain⟨f0,f1,f2,f3⟩:=ZO ((gz3.trans gz4).trans g5) hne
   obtain⟨vn,va,vl,vc,vx,rfl⟩:=hN.new.shape
   go_wp2
   have:=Xg hN hne hu k5 (.bool vn) (.slice va vl vc) (.int .i64 vx)
   exact qoz (v:=.agg #[.bool vn,.slice va vl vc,.int .i64 vx]) (by simp[results,Tryz.results135,go_sem,f0,f1,f2]) rfl ⟨⟨_,rfl,this.1⟩,this.2⟩
theorem Yv (w:World)(n cap g:Nat)(x:Int)(C:List Int)(hn:C.length=n)(hn2:n<60000000)(hb:∀j,-9223372036854775807≤C.getD j 0∧C.getD j 0≤9223372036854775807)(T:Int)(hT:cv C=T)(h1:-(2:Int)^(30*n)<T)(h2:T<(2:Int)^(30*n))(u0:World)(hTab:Tab u0)(hk:Kept u0 w)(hg:u0.heap.size≤g)(ho:Own w g cap C)(Res:Option Nm)(hRes:frm (decide (T<0)) T.natAbs x=Res):
  Calls Tryz.prog 135 #[.slice (some ⟨g,0,none⟩) n cap,.int .i64 x] w fun e w'=>ZN Res u0 w' e∧Kept u0 w':=by
 have hcar:=qjr C T hT (by rw[hn];exact h1) (by rw[hn];exact h2)
 have hD1:=qcn 1 0 C
 have hD2:=qcn (-1) 0 (cr 1 0 C).1
 have lD1:(cr 1 0 C).1.length=n:=by rw[yM,hn]
 have lD2:(cr (-1) 0 (cr 1 0 C).1).1.length=n:=by rw[yM,lD1]
 refine Ve w n cap g x C (cr 1 0 C).1 (cr (-1) 0 (cr 1 0 C).1).1 (decide (T<0)) u0 hk hg ho ?_ ?_ Res ?_
 ·intro u ho
  have:=Xf C 1 (.inl rfl) g cap (by rw[hn];omega) hb u ho
  rw[hn,hcar.1]at this
  exact this
 ·intro hng u ho
  have:=Xf (cr 1 0 C).1 (-1) (.inr rfl) g cap (by rw[lD1];omega) (fun j=>by have:=hD1.getD j;omega) u ho
  rw[lD1]at this
  refine this.mono ?_
  rintro e w' ⟨rfl,r⟩
  exact⟨⟨_,rfl⟩,r⟩
 ·intro u k1 ho
  subst hRes
  obtain⟨D,hDe,hDd,hDl,hDv⟩:∃D,(if decide (T<0)=true then (cr (-1) 0 (cr 1 0 C).1).1 else (cr 1 0 C).1)=D∧Dg D∧D.length=n∧nv D=T.natAbs:=by
   by_cases hneg:T<0
   ·exact⟨_,by rw[if_pos (qos hneg)],hD2,lD2,hcar.2.2 hneg⟩
   ·exact⟨_,by rw[if_neg (by simpa using hneg)],hD1,lD1,hcar.2.1 hneg⟩
  rw[hDe]at ho
  rw[←hDv]
  cases hfr:frm (decide (T<0)) (nv D) x with
  |none=>
   have hf:=qcp (decide (T<0)) D hDd (by omega) g cap x u ho (hTab.kept k1) hfr
   rw[hDl]at hf
   refine hf.mono ?_
   rintro e w' ⟨rfl,k⟩
   exact⟨rfl,k1.trans k,k.toGrw g⟩
  |some r=>
   have hf:=Yz (decide (T<0)) D hDd (by omega) g cap x u0 u k1 hg ho (hTab.kept k1) r hfr
   rw[hDl]at hf
   exact hf
theorem vt (n:Nat)(hn:n<100000000)(w:World):(Instr.makeSlice 29 (.int .i64 (n:Int)) (.int .i64 (n:Int))).run Tryz.prog w=.ok (.slice (some ⟨w.heap.size,0,none⟩) n n) (w.alloc (.cells (madeCells #[.int .i64 0] n) 3)):=by
 obtain⟨i,hi,hz,hs,hby⟩:=info_parts (YA)
 have:=run_make (P:=Tryz.prog) w 29 3 i (.int .i64 0) ZU hi hz .i64 .i64 (n:Int) (n:Int) (by omega) (Int.le_refl _) (by rw[hby];omega) (by omega)
 rw[hs,Int.toNat_natCast,Nat.mul_one]at this
 exact this
theorem vu (n:Nat)(hn:n<100000000)(w:World):Own (w.alloc (.cells (madeCells #[.int .i64 0] n) 3)) w.heap.size n (List.replicate n 0):=by
 refine⟨_,heap_alloc_new w _,by simp,by simp[maxLen];omega,by simp[size_madeCells],?_⟩
 rw[List.length_replicate,toList_madeCells_one]
 simp
theorem zI (n j:Nat):(List.replicate n (0:Int)).getD j 0=0:=by
 rw[qon,List.getElem?_replicate]
 split<;>rfl
abbrev qg5:Value:=.agg #[.int .i64 64,.int .i64 53,.int .i64 (-1074),.int .i64 9218868437227405312]
theorem qeq (w:World):Calls Tryz.prog 142 #[.int .i64 64] w fun e w'=>e=.returned (.tuple #[qg5,.bool true])∧Kept w w':=by
 go_enter Tryz.func142,Tryz.ntmps142
 go_wp2
 exact qoz (v:=.tuple #[qg5,.bool true]) (by simp[results,Tryz.results142,go_sem]) rfl ⟨rfl,(qo0 _).alloc _ _⟩
theorem Z4 (w:World):Calls Tryz.prog 144 #[] w fun e w'=>e=.returned (.agg #[.func (.func 162) #[] #[],.func (.func 163) #[] #[],.func (.func 164) #[] #[]])∧Kept w w':=by
 go_enter Tryz.func144,Tryz.ntmps144
 go_wp2
 refine qoz (v:=.agg #[.func (.func 162) #[] #[],.func (.func 163) #[] #[],.func (.func 164) #[] #[]]) (by simp[results,Tryz.results144,go_sem]) rfl ⟨rfl,(qo0 _).alloc _ _⟩
theorem qbf (a b c:Value)(w:World):(Instr.index 182 (.agg #[a,b,c]) (.int .i64 0)).run Tryz.prog w=.ok (.agg #[a]) w:=by
 kernel_rfl
theorem Zc (u:World)(b c o:Nat)(h:c≠b)(v0 v1 v2 v3 v4:Value):(((((u.setCell ⟨b,0,none⟩ v0).setCell ⟨b,1,none⟩ v1).setCell ⟨b,2,none⟩ v2).setCell ⟨b,3,none⟩ v3).setCell ⟨b,4,none⟩ v4).cell? ⟨c,o,none⟩=u.cell? ⟨c,o,none⟩:=
 World.cell?_of_block (a:=⟨c,o,none⟩) ((Below.heap_setCell _ _ _ c h).trans ((Below.heap_setCell _ _ _ c h).trans ((Below.heap_setCell _ _ _ c h).trans ((Below.heap_setCell _ _ _ c h).trans (Below.heap_setCell _ _ _ c h)))))
abbrev zo:Obj:=.cells #[.int .i64 0,.int .i64 0,.int .i64 0,.int .i64 0,.nilFunc] 149
theorem qey (w:World):Calls Tryz.prog 142 #[.int .i64 32] w fun e w'=>e=.returned (.tuple #[.agg #[.int .i64 32,.int .i64 24,.int .i64 (-149),.int .i64 2139095040],.bool true])∧Kept w w':=by
 go_enter Tryz.func142,Tryz.ntmps142
 go_wp2
 exact qoz (v:=.tuple #[.agg #[.int .i64 32,.int .i64 24,.int .i64 (-149),.int .i64 2139095040],.bool true]) (by simp[results,Tryz.results142,go_sem]) rfl ⟨rfl,(qo0 _).alloc _ _⟩
theorem qhj (n:Int)(h1:(n==32)=false)(h2:(n==64)=false)(w:World):Calls Tryz.prog 142 #[.int .i64 n] w fun e w'=>e=.returned (.tuple #[.agg #[.int .i64 0,.int .i64 0,.int .i64 0,.int .i64 0],.bool false])∧Kept w w':=by
 go_enter Tryz.func142,Tryz.ntmps142
 go_wp2
 exact qoz (v:=.tuple #[.agg #[.int .i64 0,.int .i64 0,.int .i64 0,.int .i64 0],.bool false]) (by simp[results,Tryz.results142,go_sem]) rfl ⟨rfl,(qo0 _).alloc _ _⟩
def qM (n:Int):Int:=if n=64 then 53 else 24
def qk (n:Int):Int:=if n=64 then -1074 else -149
def jg (n:Int):Int:=if n=64 then 9218868437227405312 else 2139095040
theorem jy (n:Int)(hn:n=64∨n=32)(w:World):Calls Tryz.prog 142 #[.int .i64 n] w fun e w'=>e=.returned (.tuple #[.agg #[.int .i64 n,.int .i64 (qM n),.int .i64 (qk n),.int .i64 (jg n)],.bool true])∧Kept w w':=by
 rcases hn with rfl|rfl
 ·exact qeq w
 ·exact qey w
theorem YN (a b c:Value)(w:World):(Instr.index 182 (.agg #[a,b,c]) (.int .i64 1)).run Tryz.prog w=.ok (.agg #[b]) w:=by
 kernel_rfl
theorem YO (a b c:Value)(w:World):(Instr.index 182 (.agg #[a,b,c]) (.int .i64 2)).run Tryz.prog w=.ok (.agg #[c]) w:=by
 kernel_rfl
theorem Vx (n pr le fi:Int)(KK:Hid (∀u,Calls Tryz.prog 142 #[.int .i64 n] u fun e w'=>e=.returned (.tuple #[.agg #[.int .i64 n,.int .i64 pr,.int .i64 le,.int .i64 fi],.bool true])∧Kept u w'))(given:Value)(w:World)(KV:Hid (∀w',Kept w w'→Calls Tryz.prog 137 #[given] w' fun e w''=>e=.returned (.bool true)∧Kept w' w'')):Calls Tryz.prog 112 #[.int .i64 n,.int .i64 0,given] w fun e w'=>e=.returned (.tuple #[.agg #[.int .i64 n,.int .i64 pr,.int .i64 le,.int .i64 fi,.func (.func 162) #[] #[]],.int .i64 0])∧Kept w w':=by
 have hK:Kept w (w.alloc zo):=(qo0 w).alloc _ _
 have hidx:=qbf (.func (.func 162) #[] #[]) (.func (.func 163) #[] #[]) (.func (.func 164) #[] #[])
 go_enter Tryz.func112,Tryz.ntmps112
 go_wp2_with (first|(go_at_call 142;refine(KK.out _).mono ?_;rintro e w1 ⟨rfl,hk1⟩)|(go_at_call 137;refine(KV.out _ (hK.trans (hk1.alloc _ _))).mono ?_;rintro e w2 ⟨rfl,hk2⟩))
 have hkk:=hk1.alloc #[.int .i64 n,.int .i64 pr,.int .i64 le,.int .i64 fi] 144
 have hsz:w.heap.size+1≤w1.heap.size:=by have:=hk1.below.size;simpa using this
 have hne:¬w1.heap.size=w.heap.size:=by omega
 have HS:Hid (∀u,Kept (w1.alloc (.cells #[.int .i64 n,.int .i64 pr,.int .i64 le,.int .i64 fi] 144)) u→u.cell? ⟨w1.heap.size,0,none⟩=some (.int .i64 n)∧u.cell? ⟨w1.heap.size,1,none⟩=some (.int .i64 pr)∧u.cell? ⟨w1.heap.size,2,none⟩=some (.int .i64 le)∧u.cell? ⟨w1.heap.size,3,none⟩=some (.int .i64 fi)):=fun u k=>⟨(qh k 0).trans (by simp[go_sem]),(qh k 1).trans (by simp[go_sem]),(qh k 2).trans (by simp[go_sem]),(qh k 3).trans (by simp[go_sem])⟩
 have HR:Hid (∀u,Kept (w.alloc zo) u→(u.cell? ⟨w.heap.size,0,none⟩=some (.int .i64 0)∧u.cell? ⟨w.heap.size,1,none⟩=some (.int .i64 0)∧u.cell? ⟨w.heap.size,2,none⟩=some (.int .i64 0)∧u.cell? ⟨w.heap.size,3,none⟩=some (.int .i64 0)∧u.cell? ⟨w.heap.size,4,none⟩=some .nilFunc)∧∀o,u.frozen? ⟨w.heap.size,o,none⟩=false):=fun u k=>⟨⟨(qh k 0).trans (by simp[go_sem]),(qh k 1).trans (by simp[go_sem]),(qh k 2).trans (by simp[go_sem]),(qh k 3).trans (by simp[go_sem]),(qh k 4).trans (by simp[go_sem])⟩,fun o=>(k.frozen _).trans (by simp[go_sem])⟩
 refine qo1 (S:=fun u=>u.cell? ⟨w1.heap.size,0,none⟩=some (.int .i64 n)∧u.cell? ⟨w1.heap.size,1,none⟩=some (.int .i64 pr)∧u.cell? ⟨w1.heap.size,2,none⟩=some (.int .i64 le)∧u.cell? ⟨w1.heap.size,3,none⟩=some (.int .i64 fi)) (by kernel_rfl) (HS.out _ hk2.drew) (fun hHeld=>?_)
 refine tk (i:=0) (v:=?_) rfl ?_
 try simp only[Act.put,zD,zE,zF]
 refine tk (i:=2) (v:=?_) rfl ?_
 try simp only[Act.put,zD,zE,zF]
 refine qoy (rs:=[1]) (by kernel_rfl) (by simp) ?_
 refine qow rfl (fun K hK9=>?_) qox
 go_simp
 go_wp2_with (first|(go_at_call 144;refine(Z4 _).mono ?_;rintro e w3 ⟨rfl,hk3⟩;have e0:=HS.out _ (hk2.drew.trans hk3)))
 refine hK9.out _ _ e0 (fun hHeld2=>?_)
 clear hK9 K hHeld
 refine tk (i:=3) (v:=?_) rfl ?_
 try simp only[Act.put,zD,zE,zF]
 refine tk (i:=4) (v:=?_) rfl ?_
 try simp only[Act.put,zD,zE,zF]
 obtain⟨⟨r0,r1,r2,r3,r4⟩,rf⟩:=HR.out _ (hkk.trans (hk2.drew.trans hk3))
 refine qoy (rs:=[5]) (by kernel_rfl) (by simp) ?_
 refine qow rfl (fun K hK9=>?_) qox
 go_simp
 refine hK9.out _ _ ⟨(Zc _ _ _ _ hne _ _ _ _ _).trans e0.1,(Zc _ _ _ _ hne _ _ _ _ _).trans e0.2.1,(Zc _ _ _ _ hne _ _ _ _ _).trans e0.2.2.1,(Zc _ _ _ _ hne _ _ _ _ _).trans e0.2.2.2⟩ (fun hHeld3=>?_)
 clear hK9 K hHeld2
 refine tk (i:=6) (v:=?_) rfl ?_
 try simp only[Act.put,zD,zE,zF]
 refine qo2 (by kernel_rfl) ?_ _
 clear hHeld3
 simp only[List.getElem_toArray,List.getElem_cons_succ,List.getElem_cons_zero,List.setIfInBounds_toArray,List.set_cons_zero,List.set_cons_succ]
 go_wp2
 refine qoz (v:=.tuple #[.agg #[.int .i64 n,.int .i64 pr,.int .i64 le,.int .i64 fi,.func (.func 162) #[] #[]],.int .i64 0]) (by simp[results,Tryz.results112,go_sem,r0,r1,r2,r3,r4]) rfl ⟨rfl,?_⟩
 exact(hK.trans (hkk.trans (hk2.drew.trans hk3))).setCell (by simp) _|>.setCell (by simp) _|>.setCell (by simp) _|>.setCell (by simp) _|>.setCell (by simp) _
theorem Vy (n pr le fi:Int)(KK:Hid (∀u,Calls Tryz.prog 142 #[.int .i64 n] u fun e w'=>e=.returned (.tuple #[.agg #[.int .i64 n,.int .i64 pr,.int .i64 le,.int .i64 fi],.bool true])∧Kept u w'))(given:Value)(w:World)(KV:Hid (∀w',Kept w w'→Calls Tryz.prog 137 #[given] w' fun e w''=>e=.returned (.bool true)∧Kept w' w'')):Calls Tryz.prog 112 #[.int .i64 n,.int .i64 1,given] w fun e w'=>e=.returned (.tuple #[.agg #[.int .i64 n,.int .i64 pr,.int .i64 le,.int .i64 fi,.func (.func 163) #[] #[]],.int .i64 0])∧Kept w w':=by
 have hK:Kept w (w.alloc zo):=(qo0 w).alloc _ _
 have hidx:=YN (.func (.func 162) #[] #[]) (.func (.func 163) #[] #[]) (.func (.func 164) #[] #[])
 go_enter Tryz.func112,Tryz.ntmps112
 go_wp2_with (first|(go_at_call 142;refine(KK.out _).mono ?_;rintro e w1 ⟨rfl,hk1⟩)|(go_at_call 137;refine(KV.out _ (hK.trans (hk1.alloc _ _))).mono ?_;rintro e w2 ⟨rfl,hk2⟩))
 have hkk:=hk1.alloc #[.int .i64 n,.int .i64 pr,.int .i64 le,.int .i64 fi] 144
 have hsz:w.heap.size+1≤w1.heap.size:=by have:=hk1.below.size;simpa using this
 have hne:¬w1.heap.size=w.heap.size:=by omega
 have HS:Hid (∀u,Kept (w1.alloc (.cells #[.int .i64 n,.int .i64 pr,.int .i64 le,.int .i64 fi] 144)) u→u.cell? ⟨w1.heap.size,0,none⟩=some (.int .i64 n)∧u.cell? ⟨w1.heap.size,1,none⟩=some (.int .i64 pr)∧u.cell? ⟨w1.heap.size,2,none⟩=some (.int .i64 le)∧u.cell? ⟨w1.heap.size,3,none⟩=some (.int .i64 fi)):=fun u k=>⟨(qh k 0).trans (by simp[go_sem]),(qh k 1).trans (by simp[go_sem]),(qh k 2).trans (by simp[go_sem]),(qh k 3).trans (by simp[go_sem])⟩
 have HR:Hid (∀u,Kept (w.alloc zo) u→(u.cell? ⟨w.heap.size,0,none⟩=some (.int .i64 0)∧u.cell? ⟨w.heap.size,1,none⟩=some (.int .i64 0)∧u.cell? ⟨w.heap.size,2,none⟩=some (.int .i64 0)∧u.cell? ⟨w.heap.size,3,none⟩=some (.int .i64 0)∧u.cell? ⟨w.heap.size,4,none⟩=some .nilFunc)∧∀o,u.frozen? ⟨w.heap.size,o,none⟩=false):=fun u k=>⟨⟨(qh k 0).trans (by simp[go_sem]),(qh k 1).trans (by simp[go_sem]),(qh k 2).trans (by simp[go_sem]),(qh k 3).trans (by simp[go_sem]),(qh k 4).trans (by simp[go_sem])⟩,fun o=>(k.frozen _).trans (by simp[go_sem])⟩
 refine qo1 (S:=fun u=>u.cell? ⟨w1.heap.size,0,none⟩=some (.int .i64 n)∧u.cell? ⟨w1.heap.size,1,none⟩=some (.int .i64 pr)∧u.cell? ⟨w1.heap.size,2,none⟩=some (.int .i64 le)∧u.cell? ⟨w1.heap.size,3,none⟩=some (.int .i64 fi)) (by kernel_rfl) (HS.out _ hk2.drew) (fun hHeld=>?_)
 refine tk (i:=0) (v:=?_) rfl ?_
 try simp only[Act.put,zD,zE,zF]
 refine tk (i:=2) (v:=?_) rfl ?_
 try simp only[Act.put,zD,zE,zF]
 refine qoy (rs:=[1]) (by kernel_rfl) (by simp) ?_
 refine qow rfl (fun K hK9=>?_) qox
 go_simp
 go_wp2_with (first|(go_at_call 144;refine(Z4 _).mono ?_;rintro e w3 ⟨rfl,hk3⟩;have e0:=HS.out _ (hk2.drew.trans hk3)))
 refine hK9.out _ _ e0 (fun hHeld2=>?_)
 clear hK9 K hHeld
 refine tk (i:=3) (v:=?_) rfl ?_
 try simp only[Act.put,zD,zE,zF]
 refine tk (i:=4) (v:=?_) rfl ?_
 try simp only[Act.put,zD,zE,zF]
 obtain⟨⟨r0,r1,r2,r3,r4⟩,rf⟩:=HR.out _ (hkk.trans (hk2.drew.trans hk3))
 refine qoy (rs:=[5]) (by kernel_rfl) (by simp) ?_
 refine qow rfl (fun K hK9=>?_) qox
 go_simp
 refine hK9.out _ _ ⟨(Zc _ _ _ _ hne _ _ _ _ _).trans e0.1,(Zc _ _ _ _ hne _ _ _ _ _).trans e0.2.1,(Zc _ _ _ _ hne _ _ _ _ _).trans e0.2.2.1,(Zc _ _ _ _ hne _ _ _ _ _).trans e0.2.2.2⟩ (fun hHeld3=>?_)
 clear hK9 K hHeld2
 refine tk (i:=6) (v:=?_) rfl ?_
 try simp only[Act.put,zD,zE,zF]
 refine qo2 (by kernel_rfl) ?_ _
 clear hHeld3
 simp only[List.getElem_toArray,List.getElem_cons_succ,List.getElem_cons_zero,List.setIfInBounds_toArray,List.set_cons_zero,List.set_cons_succ]
 go_wp2
 refine qoz (v:=.tuple #[.agg #[.int .i64 n,.int .i64 pr,.int .i64 le,.int .i64 fi,.func (.func 163) #[] #[]],.int .i64 0]) (by simp[results,Tryz.results112,go_sem,r0,r1,r2,r3,r4]) rfl ⟨rfl,?_⟩
 exact(hK.trans (hkk.trans (hk2.drew.trans hk3))).setCell (by simp) _|>.setCell (by simp) _|>.setCell (by simp) _|>.setCell (by simp) _|>.setCell (by simp) _
theorem Vz (n pr le fi:Int)(KK:Hid (∀u,Calls Tryz.prog 142 #[.int .i64 n] u fun e w'=>e=.returned (.tuple #[.agg #[.int .i64 n,.int .i64 pr,.int .i64 le,.int .i64 fi],.bool true])∧Kept u w'))(given:Value)(w:World)(KV:Hid (∀w',Kept w w'→Calls Tryz.prog 137 #[given] w' fun e w''=>e=.returned (.bool true)∧Kept w' w'')):Calls Tryz.prog 112 #[.int .i64 n,.int .i64 2,given] w fun e w'=>e=.returned (.tuple #[.agg #[.int .i64 n,.int .i64 pr,.int .i64 le,.int .i64 fi,.func (.func 164) #[] #[]],.int .i64 0])∧Kept w w':=by
 have hK:Kept w (w.alloc zo):=(qo0 w).alloc _ _
 have hidx:=YO (.func (.func 162) #[] #[]) (.func (.func 163) #[] #[]) (.func (.func 164) #[] #[])
 go_enter Tryz.func112,Tryz.ntmps112
 go_wp2_with (first|(go_at_call 142;refine(KK.out _).mono ?_;rintro e w1 ⟨rfl,hk1⟩)|(go_at_call 137;refine(KV.out _ (hK.trans (hk1.alloc _ _))).mono ?_;rintro e w2 ⟨rfl,hk2⟩))
 have hkk:=hk1.alloc #[.int .i64 n,.int .i64 pr,.int .i64 le,.int .i64 fi] 144
 have hsz:w.heap.size+1≤w1.heap.size:=by have:=hk1.below.size;simpa using this
 have hne:¬w1.heap.size=w.heap.size:=by omega
 have HS:Hid (∀u,Kept (w1.alloc (.cells #[.int .i64 n,.int .i64 pr,.int .i64 le,.int .i64 fi] 144)) u→u.cell? ⟨w1.heap.size,0,none⟩=some (.int .i64 n)∧u.cell? ⟨w1.heap.size,1,none⟩=some (.int .i64 pr)∧u.cell? ⟨w1.heap.size,2,none⟩=some (.int .i64 le)∧u.cell? ⟨w1.heap.size,3,none⟩=some (.int .i64 fi)):=fun u k=>⟨(qh k 0).trans (by simp[go_sem]),(qh k 1).trans (by simp[go_sem]),(qh k 2).trans (by simp[go_sem]),(qh k 3).trans (by simp[go_sem])⟩
 have HR:Hid (∀u,Kept (w.alloc zo) u→(u.cell? ⟨w.heap.size,0,none⟩=some (.int .i64 0)∧u.cell? ⟨w.heap.size,1,none⟩=some (.int .i64 0)∧u.cell? ⟨w.heap.size,2,none⟩=some (.int .i64 0)∧u.cell? ⟨w.heap.size,3,none⟩=some (.int .i64 0)∧u.cell? ⟨w.heap.size,4,none⟩=some .nilFunc)∧∀o,u.frozen? ⟨w.heap.size,o,none⟩=false):=fun u k=>⟨⟨(qh k 0).trans (by simp[go_sem]),(qh k 1).trans (by simp[go_sem]),(qh k 2).trans (by simp[go_sem]),(qh k 3).trans (by simp[go_sem]),(qh k 4).trans (by simp[go_sem])⟩,fun o=>(k.frozen _).trans (by simp[go_sem])⟩
 refine qo1 (S:=fun u=>u.cell? ⟨w1.heap.size,0,none⟩=some (.int .i64 n)∧u.cell? ⟨w1.heap.size,1,none⟩=some (.int .i64 pr)∧u.cell? ⟨w1.heap.size,2,none⟩=some (.int .i64 le)∧u.cell? ⟨w1.heap.size,3,none⟩=some (.int .i64 fi)) (by kernel_rfl) (HS.out _ hk2.drew) (fun hHeld=>?_)
 refine tk (i:=0) (v:=?_) rfl ?_
 try simp only[Act.put,zD,zE,zF]
 refine tk (i:=2) (v:=?_) rfl ?_
 try simp only[Act.put,zD,zE,zF]
 refine qoy (rs:=[1]) (by kernel_rfl) (by simp) ?_
 refine qow rfl (fun K hK9=>?_) qox
 go_simp
 go_wp2_with (first|(go_at_call 144;refine(Z4 _).mono ?_;rintro e w3 ⟨rfl,hk3⟩;have e0:=HS.out _ (hk2.drew.trans hk3)))
 refine hK9.out _ _ e0 (fun hHeld2=>?_)
 clear hK9 K hHeld
 refine tk (i:=3) (v:=?_) rfl ?_
 try simp only[Act.put,zD,zE,zF]
 refine tk (i:=4) (v:=?_) rfl ?_
 try simp only[Act.put,zD,zE,zF]
 obtain⟨⟨r0,r1,r2,r3,r4⟩,rf⟩:=HR.out _ (hkk.trans (hk2.drew.trans hk3))
 refine qoy (rs:=[5]) (by kernel_rfl) (by simp) ?_
 refine qow rfl (fun K hK9=>?_) qox
 go_simp
 refine hK9.out _ _ ⟨(Zc _ _ _ _ hne _ _ _ _ _).trans e0.1,(Zc _ _ _ _ hne _ _ _ _ _).trans e0.2.1,(Zc _ _ _ _ hne _ _ _ _ _).trans e0.2.2.1,(Zc _ _ _ _ hne _ _ _ _ _).trans e0.2.2.2⟩ (fun hHeld3=>?_)
 clear hK9 K hHeld2
 refine tk (i:=6) (v:=?_) rfl ?_
 try simp only[Act.put,zD,zE,zF]
 refine qo2 (by kernel_rfl) ?_ _
 clear hHeld3
 simp only[List.getElem_toArray,List.getElem_cons_succ,List.getElem_cons_zero,List.setIfInBounds_toArray,List.set_cons_zero,List.set_cons_succ]
 go_wp2
 refine qoz (v:=.tuple #[.agg #[.int .i64 n,.int .i64 pr,.int .i64 le,.int .i64 fi,.func (.func 164) #[] #[]],.int .i64 0]) (by simp[results,Tryz.results112,go_sem,r0,r1,r2,r3,r4]) rfl ⟨rfl,?_⟩
 exact(hK.trans (hkk.trans (hk2.drew.trans hk3))).setCell (by simp) _|>.setCell (by simp) _|>.setCell (by simp) _|>.setCell (by simp) _|>.setCell (by simp) _
def wfv (way:Int):Nat:=if way=0 then 162 else if way=1 then 163 else 164
theorem xX (n way:Int)(hn:n=64∨n=32)(hw:way=0∨way=1∨way=2)(given:Value)(w:World)(KV:Hid (∀w',Kept w w'→Calls Tryz.prog 137 #[given] w' fun e w''=>e=.returned (.bool true)∧Kept w' w'')):Calls Tryz.prog 112 #[.int .i64 n,.int .i64 way,given] w fun e w'=>e=.returned (.tuple #[.agg #[.int .i64 n,.int .i64 (qM n),.int .i64 (qk n),.int .i64 (jg n),.func (.func (wfv way)) #[] #[]],.int .i64 0])∧Kept w w':=by
 rcases hw with rfl|rfl|rfl
 ·exact Vx n (qM n) (qk n) (jg n) (fun u=>jy n hn u) given w KV
 ·exact Vy n (qM n) (qk n) (jg n) (fun u=>jy n hn u) given w KV
 ·exact Vz n (qM n) (qk n) (jg n) (fun u=>jy n hn u) given w KV
theorem qhk (way:Int)(hw:way=0∨way=1∨way=2):∀a w,(callFunc (wfv way) #[a]).run Tryz.prog w=.ok (.enter (wfv way) #[a]) w:=by
 rcases hw with rfl|rfl|rfl
 ·intro a w;kernel_rfl
 ·intro a w;kernel_rfl
 ·intro a w;kernel_rfl
theorem kE (u:World)(b c o:Nat)(h:c≠b)(v0 v1 v2 v3:Value):((((u.setCell ⟨b,0,none⟩ v0).setCell ⟨b,1,none⟩ v1).setCell ⟨b,2,none⟩ v2).setCell ⟨b,3,none⟩ v3).cell? ⟨c,o,none⟩=u.cell? ⟨c,o,none⟩:=
 World.cell?_of_block (a:=⟨c,o,none⟩) ((Below.heap_setCell _ _ _ c h).trans ((Below.heap_setCell _ _ _ c h).trans ((Below.heap_setCell _ _ _ c h).trans (Below.heap_setCell _ _ _ c h))))
theorem YP (ng:Bool)(h ex kept P Q1:Int)(m:Nat)(hm:m<62)(od hf rt:Bool)(hk:h/2^(m+1)=kept)(hP:wrap64 (2^m)=P)(hQ:IntKind.i64.wrap (P-1)=Q1)(c1 c2 c3:Int)(hc1:bits .and .i64 kept 1=c1)(hc2:bits .and .i64 h P=c2)(hc3:bits .and .i64 h Q1=c3)(hod:(c1==1)=od)(hhf:(c2 != 0)=hf)(hrt:(c3 != 0)=rt)(w:World):Calls Tryz.prog 146 #[.agg #[.bool ng,.int .i64 h,.int .i64 ex,.bool false],.int .i64 ((m:Int)+1)] w fun e w'=>e=.returned (.tuple #[.int .i64 kept,.agg #[.bool ng,.bool od,.bool hf,.bool rt]])∧Kept w w':=by
 have hK:Kept w ((w.alloc (.cells #[.bool ng,.int .i64 h,.int .i64 ex,.bool false] 155)).alloc (.cells #[.bool false,.bool false,.bool false,.bool false] 186)):=((qo0 w).alloc _ _).alloc _ _
 go_enter Tryz.func146,Tryz.ntmps146
 go_wp2
 go_quiet (fail)
 go_wp2
 obtain⟨W0,hW0⟩:∃W0,((w.alloc (.cells #[.bool ng,.int .i64 h,.int .i64 ex,.bool false] 155)).alloc (.cells #[.bool false,.bool false,.bool false,.bool false] 186)).drewN nq=W0:=⟨_,rfl⟩
 have q0:W0.cell? ⟨w.heap.size,0,none⟩=some (.bool ng):=by rw[←hW0];simp[go_sem]
 have q1:W0.cell? ⟨w.heap.size,1,none⟩=some (.int .i64 h):=by rw[←hW0];simp[go_sem]
 have q3:W0.cell? ⟨w.heap.size,3,none⟩=some (.bool false):=by rw[←hW0];simp[go_sem]
 have s0:W0.cell? ⟨w.heap.size+1,0,none⟩=some (.bool false):=by rw[←hW0];simp[go_sem]
 have s1:W0.cell? ⟨w.heap.size+1,1,none⟩=some (.bool false):=by rw[←hW0];simp[go_sem]
 have s2:W0.cell? ⟨w.heap.size+1,2,none⟩=some (.bool false):=by rw[←hW0];simp[go_sem]
 have s3:W0.cell? ⟨w.heap.size+1,3,none⟩=some (.bool false):=by rw[←hW0];simp[go_sem]
 have sf:∀o,W0.frozen? ⟨w.heap.size+1,o,none⟩=false:=fun o=>by rw[←hW0];simp[go_sem]
 have hK0:Kept w W0:=by rw[←hW0];exact hK.drewN nq
 rw[hW0]
 clear hW0 hK
 refine qo1 (S:=fun u=>u.cell? ⟨w.heap.size,0,none⟩=some (.bool ng)∧u.cell? ⟨w.heap.size,1,none⟩=some (.int .i64 h)∧u.cell? ⟨w.heap.size,3,none⟩=some (.bool false)) (by kernel_rfl) ⟨q0,q1,q3⟩ (fun hHeld=>?_)
 refine tk (i:=0) (v:=?_) rfl ?_
 try simp only[zz]
 refine tk (i:=1) (v:=?_) rfl ?_
 try simp only[zz]
 refine tk (i:=2) (v:=?_) rfl ?_
 try simp only[zz]
 refine tk (i:=3) (v:=?_) rfl ?_
 try simp only[zz]
 refine tk (i:=4) (v:=?_) rfl ?_
 try simp only[zz]
 refine tk (i:=5) (v:=?_) rfl ?_
 try simp only[zz]
 refine tk (i:=6) (v:=?_) rfl ?_
 try simp only[zz]
 refine tk (i:=7) (v:=?_) rfl ?_
 try simp only[zz]
 refine tk (i:=8) (v:=?_) rfl ?_
 try simp only[zz]
 refine tk (i:=9) (v:=?_) rfl ?_
 try simp only[zz]
 refine tk (i:=10) (v:=?_) rfl ?_
 try simp only[zz]
 refine tk (i:=11) (v:=?_) rfl ?_
 try simp only[zz]
 refine tk (i:=12) (v:=?_) rfl ?_
 try simp only[zz]
 refine tk (i:=13) (v:=?_) rfl ?_
 try simp only[zz]
 refine tk (i:=14) (v:=?_) rfl ?_
 try simp only[zz]
 refine tk (i:=15) (v:=?_) rfl ?_
 try simp only[zz]
 refine tk (i:=16) (v:=?_) rfl ?_
 try simp only[zz]
 refine tk (i:=17) (v:=?_) rfl ?_
 try simp only[zz]
 refine tk (i:=18) (v:=?_) rfl ?_
 try simp only[zz]
 refine tk (i:=19) (v:=?_) rfl ?_
 try simp only[zz]
 refine tk (i:=20) (v:=?_) rfl ?_
 try simp only[zz]
 refine tk (i:=21) (v:=?_) rfl ?_
 try simp only[zz]
 refine tk (i:=22) (v:=?_) rfl ?_
 try simp only[zz]
 refine qoy (rs:=[23]) (by kernel_rfl) (by simp) ?_
 refine qow rfl (fun K hK9=>?_) qox
 go_simp
 refine hK9.out _ _ ⟨(kE _ _ _ _ (by omega) _ _ _ _).trans q0,(kE _ _ _ _ (by omega) _ _ _ _).trans q1,(kE _ _ _ _ (by omega) _ _ _ _).trans q3⟩ (fun hHeld3=>?_)
 clear hK9 K hHeld
 refine qo2 (by kernel_rfl) ?_ _
 clear hHeld3
 go_wp2
 refine qoz (v:=.tuple #[.int .i64 kept,.agg #[.bool ng,.bool od,.bool hf,.bool rt]]) (by simp[results,Tryz.results146,go_sem,s0,s1,s2,s3]) rfl ⟨rfl,?_⟩
 first
 |exact(hK0.drew.setCell (by simp) _|>.setCell (by simp) _|>.setCell (by simp) _|>.setCell (by simp) _)
 |exact(hK0.setCell (by simp) _|>.setCell (by simp) _|>.setCell (by simp) _|>.setCell (by simp) _).drew
theorem qbh (ng:Bool)(h ex kept P Q1:Int)(m:Nat)(hm:m<62)(od hf rt:Bool)(hk:h/2^(m+1)=kept)(hP:wrap64 (2^m)=P)(hQ:IntKind.i64.wrap (P-1)=Q1)(c1 c2 c3:Int)(hc1:bits .and .i64 kept 1=c1)(hc2:bits .and .i64 h P=c2)(hc3:bits .and .i64 h Q1=c3)(hod:(c1==1)=od)(hhf:(c2 != 0)=hf)(hrt:rt=true)(w:World):Calls Tryz.prog 146 #[.agg #[.bool ng,.int .i64 h,.int .i64 ex,.bool true],.int .i64 ((m:Int)+1)] w fun e w'=>e=.returned (.tuple #[.int .i64 kept,.agg #[.bool ng,.bool od,.bool hf,.bool rt]])∧Kept w w':=by
 have hK:Kept w ((w.alloc (.cells #[.bool ng,.int .i64 h,.int .i64 ex,.bool true] 155)).alloc (.cells #[.bool false,.bool false,.bool false,.bool false] 186)):=((qo0 w).alloc _ _).alloc _ _
 subst hrt
 go_enter Tryz.func146,Tryz.ntmps146
 go_wp2
 go_quiet (fail)
 go_wp2
 obtain⟨W0,hW0⟩:∃W0,((w.alloc (.cells #[.bool ng,.int .i64 h,.int .i64 ex,.bool true] 155)).alloc (.cells #[.bool false,.bool false,.bool false,.bool false] 186)).drewN nq=W0:=⟨_,rfl⟩
 have q0:W0.cell? ⟨w.heap.size,0,none⟩=some (.bool ng):=by rw[←hW0];simp[go_sem]
 have q1:W0.cell? ⟨w.heap.size,1,none⟩=some (.int .i64 h):=by rw[←hW0];simp[go_sem]
 have q3:W0.cell? ⟨w.heap.size,3,none⟩=some (.bool true):=by rw[←hW0];simp[go_sem]
 have s0:W0.cell? ⟨w.heap.size+1,0,none⟩=some (.bool false):=by rw[←hW0];simp[go_sem]
 have s1:W0.cell? ⟨w.heap.size+1,1,none⟩=some (.bool false):=by rw[←hW0];simp[go_sem]
 have s2:W0.cell? ⟨w.heap.size+1,2,none⟩=some (.bool false):=by rw[←hW0];simp[go_sem]
 have s3:W0.cell? ⟨w.heap.size+1,3,none⟩=some (.bool false):=by rw[←hW0];simp[go_sem]
 have sf:∀o,W0.frozen? ⟨w.heap.size+1,o,none⟩=false:=fun o=>by rw[←hW0];simp[go_sem]
 have hK0:Kept w W0:=by rw[←hW0];exact hK.drewN nq
 rw[hW0]
 clear hW0 hK
 refine qo1 (S:=fun u=>u.cell? ⟨w.heap.size,0,none⟩=some (.bool ng)∧u.cell? ⟨w.heap.size,1,none⟩=some (.int .i64 h)∧u.cell? ⟨w.heap.size,3,none⟩=some (.bool true)) (by kernel_rfl) ⟨q0,q1,q3⟩ (fun hHeld=>?_)
 refine tk (i:=0) (v:=?_) rfl ?_
 try simp only[zz]
 refine tk (i:=1) (v:=?_) rfl ?_
 try simp only[zz]
 refine tk (i:=2) (v:=?_) rfl ?_
 try simp only[zz]
 refine tk (i:=3) (v:=?_) rfl ?_
 try simp only[zz]
 refine tk (i:=4) (v:=?_) rfl ?_
 try simp only[zz]
 refine tk (i:=5) (v:=?_) rfl ?_
 try simp only[zz]
 refine tk (i:=6) (v:=?_) rfl ?_
 try simp only[zz]
 refine tk (i:=7) (v:=?_) rfl ?_
 try simp only[zz]
 refine tk (i:=8) (v:=?_) rfl ?_
 try simp only[zz]
 refine tk (i:=9) (v:=?_) rfl ?_
 try simp only[zz]
 refine tk (i:=10) (v:=?_) rfl ?_
 try simp only[zz]
 refine tk (i:=11) (v:=?_) rfl ?_
 try simp only[zz]
 refine tk (i:=12) (v:=?_) rfl ?_
 try simp only[zz]
 refine tk (i:=13) (v:=?_) rfl ?_
 try simp only[zz]
 refine wpAnyH_take (i:=14) (v:=undef) rfl (by kernel_rfl) (by kernel_rfl) (by kernel_rfl) (fun _ _ _ h=>h) (Or.inr ⟨by rfl,rfl⟩) (by assumption) ?_
 try simp only[zz]
 refine wpAnyH_take (i:=15) (v:=undef) rfl (by kernel_rfl) (by kernel_rfl) (by kernel_rfl) (fun _ _ _ h=>h) (Or.inr ⟨by rfl,rfl⟩) (by assumption) ?_
 try simp only[zz]
 refine wpAnyH_take (i:=16) (v:=undef) rfl (by kernel_rfl) (by kernel_rfl) (by kernel_rfl) (fun _ _ _ h=>h) (Or.inr ⟨by rfl,rfl⟩) (by assumption) ?_
 try simp only[zz]
 refine wpAnyH_take (i:=17) (v:=undef) rfl (by kernel_rfl) (by kernel_rfl) (by kernel_rfl) (fun _ _ _ h=>h) (Or.inr ⟨by rfl,rfl⟩) (by assumption) ?_
 try simp only[zz]
 refine wpAnyH_take (i:=18) (v:=undef) rfl (by kernel_rfl) (by kernel_rfl) (by kernel_rfl) (fun _ _ _ h=>h) (Or.inr ⟨by rfl,rfl⟩) (by assumption) ?_
 try simp only[zz]
 refine wpAnyH_take (i:=19) (v:=undef) rfl (by kernel_rfl) (by kernel_rfl) (by kernel_rfl) (fun _ _ _ h=>h) (Or.inr ⟨by rfl,rfl⟩) (by assumption) ?_
 try simp only[zz]
 refine tk (i:=20) (v:=?_) rfl ?_
 try simp only[zz]
 refine tk (i:=21) (v:=?_) rfl ?_
 try simp only[zz]
 refine tk (i:=22) (v:=?_) rfl ?_
 try simp only[zz]
 refine qoy (rs:=[23]) (by kernel_rfl) (by simp) ?_
 refine qow rfl (fun K hK9=>?_) qox
 go_simp
 refine hK9.out _ _ ⟨(kE _ _ _ _ (by omega) _ _ _ _).trans q0,(kE _ _ _ _ (by omega) _ _ _ _).trans q1,(kE _ _ _ _ (by omega) _ _ _ _).trans q3⟩ (fun hHeld3=>?_)
 clear hK9 K hHeld
 refine qo2 (by kernel_rfl) ?_ _
 clear hHeld3
 go_wp2
 refine qoz (v:=.tuple #[.int .i64 kept,.agg #[.bool ng,.bool od,.bool hf,.bool true]]) (by simp[results,Tryz.results146,go_sem,s0,s1,s2,s3]) rfl ⟨rfl,?_⟩
 first
 |exact(hK0.drew.setCell (by simp) _|>.setCell (by simp) _|>.setCell (by simp) _|>.setCell (by simp) _)
 |exact(hK0.setCell (by simp) _|>.setCell (by simp) _|>.setCell (by simp) _|>.setCell (by simp) _).drew
theorem qmr (ng od hf rt:Bool)(w:World):Calls Tryz.prog 162 #[.agg #[.bool ng,.bool od,.bool hf,.bool rt]] w fun e w'=>e=.returned (.bool (hf&&(rt||od)))∧Kept w w':=by
 cases ng<;>cases od<;>cases hf<;>cases rt
 all_goals
  go_enter Tryz.func162,Tryz.ntmps162
  go_wp2
  go_ret
  exact⟨rfl,(qo0 _).alloc _ _⟩
theorem qms (ng od hf rt:Bool)(w:World):Calls Tryz.prog 163 #[.agg #[.bool ng,.bool od,.bool hf,.bool rt]] w fun e w'=>e=.returned (.bool (ng&&(hf||rt)))∧Kept w w':=by
 cases ng<;>cases od<;>cases hf<;>cases rt
 all_goals
  go_enter Tryz.func163,Tryz.ntmps163
  go_wp2
  go_ret
  exact⟨rfl,(qo0 _).alloc _ _⟩
theorem qmt (ng od hf rt:Bool)(w:World):Calls Tryz.prog 164 #[.agg #[.bool ng,.bool od,.bool hf,.bool rt]] w fun e w'=>e=.returned (.bool (!ng&&(hf||rt)))∧Kept w w':=by
 cases ng<;>cases od<;>cases hf<;>cases rt
 all_goals
  go_enter Tryz.func164,Tryz.ntmps164
  go_wp2
  go_ret
  exact⟨rfl,(qo0 _).alloc _ _⟩
end Go.Proofs.YtaglkncdedeipaaGreatDoor
