/-  -/
import Derived.Test.YtaglkncdedeipaaGreatDoorWs10
import Derived.Laws.MakeOwn
namespace Go.Proofs.YtaglkncdedeipaaGreatDoor
open Go.ChangeShapes Go.WideShapes Go.ChangeAt Go.RowKit
set_option linter.unusedVariables false
set_option linter.unusedSimpArgs false
set_option maxHeartbeats 16000000
set_option maxRecDepth 100000
theorem xd (n:Nat)(hn:n<100000000)(w:World):(Instr.makeSlice 29 (.int .i64 (n:Int)) (.int .i64 (n:Int))).run Tryz.prog w=.ok (.slice (some ⟨w.heap.size,0,none⟩) n n) (w.alloc (.cells (madeCells #[.int .i64 0] n) 3)):=by
 obtain⟨i,hi,hz,hs,hby⟩:=info_parts (Jn)
 have:=run_make (P:=Tryz.prog) w 29 3 i (.int .i64 0) yR hi hz .i64 .i64 (n:Int) (n:Int) (by omega) (Int.le_refl _) (by rw[hby];omega) (by omega)
 rw[hs,Int.toNat_natCast,Nat.mul_one]at this
 exact this
theorem xe (n:Nat)(hn:n<100000000)(w:World):Own (w.alloc (.cells (madeCells #[.int .i64 0] n) 3)) w.heap.size n (List.replicate n 0):=by
 refine⟨_,heap_alloc_new w _,by simp,by simp[maxLen];omega,by simp[size_madeCells],?_⟩
 rw[List.length_replicate,toList_madeCells_one]
 simp
theorem qU (n j:Nat):(List.replicate n (0:Int)).getD j 0=0:=by
 rw[qhx,List.getElem?_replicate]
 split<;>rfl
def tot (a b:Nm)(lo:Int):Int:=sg a.neg ((nv a.mag:Int)*2^(a.exp-lo).toNat)+sg b.neg ((nv b.mag:Int)*2^(b.exp-lo).toNat)
def tp (a:Nm):Int:=a.exp+(bl (nv a.mag):Int)
def qgf (a b:Nm):Option Nm:=
 if max (tp a) (tp b)-min a.exp b.exp≤60001 then frm (decide (tot a b (min a.exp b.exp)<0)) (tot a b (min a.exp b.exp)).natAbs (min a.exp b.exp)else none
theorem Vj (a b:Nat)(h:a≤b):(2:Int)^a≤2^b:=by
 have h1:2^a≤2^b:=qhw (by decide) h
 have e:((2^a:Nat):Int)≤((2^b:Nat):Int):=by omega
 rw[Int.natCast_pow,Int.natCast_pow]at e
 exact e
theorem qbp (L:List Int)(hL:Dg L)(hne:L≠[])(hl:L.getD (L.length-1) 0≠0):30*L.length≤bl (nv L)+29∧bl (nv L)≤30*L.length:=by
 have h1:=qfd _ _ (qaw L hL hl)
 have h2:=qY _ _ (zp L hL)
 have:=List.length_pos_iff.2 hne
 omega
def qbq (a b:Nm):Option Nm:=if a.mag=[]then (if b.mag=[]then some ⟨false,[],0⟩else some b)else if b.mag=[]then some a else qgf a b
theorem ZK (n:Bool)(a:Int)(h:0<a):decide (sg n a<0)=n∧(sg n a).natAbs=a.toNat:=by
 cases n<;>simp[sg]<;>omega
theorem vW (x:Int)(h1:-1048576≤x)(h2:x≤1048576):wrap64 x=x:=by unfold wrap64;omega
theorem qhr (n1:Bool)(L1:List Int)(x1:Int)(hne1:L1≠[])(hv1:vld ⟨n1,L1,x1⟩=true)(n:Nat)(hn:L1.length<n)(C:List Int)(hC:yJ (List.replicate n 0) 0 (dsh n1 0 L1)=C):
  C.length=n∧(∀j,-2147483648≤C.getD j 0∧C.getD j 0≤2147483648)∧cv C=sg n1 (nv L1)∧-(2:Int)^(30*n)<sg n1 (nv L1)∧sg n1 (nv L1)<(2:Int)^(30*n)∧frm (decide (sg n1 (nv L1)<0)) (sg n1 (nv L1)).natAbs x1=some ⟨n1,L1,x1⟩:=by
 obtain⟨p1,p2,p3,p4,p5,p6⟩:=qX n1 L1 x1 hne1 hv1
 have l1:=List.length_pos_iff.2 hne1
 have b1:=qbp L1 p2 hne1 p3
 have hpos:0<nv L1:=by
  rcases Nat.eq_zero_or_pos (nv L1)with h|h
  ·exact absurd ((zq L1 p2).1 h (L1.length-1)) p3
  ·exact h
 have hsg:=ZK n1 (nv L1:Int) (by omega)
 have hlt:=zp L1 p2
 have hP:=Vj (30*L1.length) (30*n) (by omega)
 have e:((2^(30*L1.length):Nat):Int)=(2:Int)^(30*L1.length):=by rw[Int.natCast_pow];rfl
 have hlt2:(nv L1:Int)<(2:Int)^(30*L1.length):=by rw[←e];omega
 have hS:=qfv n1 (nv L1:Int) _ (by omega) hlt2
 refine⟨by rw[←hC,Jh,List.length_replicate],?_,?_,by omega,by omega,?_⟩
 ·have:=XG (List.replicate n 0) 0 (dsh n1 0 L1) 0 (by omega) (by rw[yL,List.length_replicate];omega) (Yz n1 0 (by omega) L1 p2) (fun j _=>by rw[qU];omega) (by rw[qU];omega) (fun j _=>by rw[qU];omega)
  rw[hC]at this
  intro j
  have:=this j
  omega
 ·rw[←hC,qag _ _ _ (by rw[yL,List.length_replicate];omega),jN,qdd _ _ _ p2]
  simp
 ·rw[hsg.1,hsg.2,Int.toNat_natCast]
  rw[VJ n1 n1 L1 x1 x1 hne1 hv1,vW x1 p5 p6,if_pos ⟨p5,p6⟩]
def cfm (z x:Int):Option Nm:=frm (decide (z<0)) z.natAbs x
def vz (s:Int)(a:Nm):Int:=sg a.neg ((nv a.mag:Int)*2^(a.exp-s).toNat)
structure Lies (s:Int) (B:Nat) (a:Nm):Prop where
 ok:vld a=true
 low:a.mag≠[]→s≤a.exp
 lt:(vz s a).natAbs<2^B
theorem Y1 (neg:Bool)(v k:Nat)(x:Int)(hv:v≠0):frm neg (v*2^k) x=frm neg v (x+(k:Int)):=by
 obtain⟨o,ho,e⟩:=zU v hv
 have hp:=qht k
 have hne:v*2^k≠0:=Nat.mul_ne_zero hv (by omega)
 have ht:tzn (v*2^k)=tzn v+k:=by
  have:v*2^k=o*2^(tzn v+k):=by rw[qhv,←qhz,←e]
  rw[this,vC o _ ho]
 have hb:=yX v k hv
 have hw:wrap64 (x+((tzn v+k:Nat):Int))=wrap64 (x+(k:Int)+(tzn v:Int)):=by congr 1;push_cast;omega
 have hd:v*2^k/2^(tzn v+k)=v/2^tzn v:=by
  rw[qhv,Nat.mul_div_mul_right _ _ hp]
 unfold frm
 rw[if_neg hne,if_neg hv,ht,hb,hw,hd,show bl v+k-(tzn v+k)=bl v-tzn v by omega]
theorem zX (x:Int):cfm 0 x=some ⟨false,[],0⟩:=by simp[cfm,frm]
theorem zM (z:Int)(k:Nat)(x:Int):cfm (z*2^k) x=cfm z (x+(k:Int)):=by
 by_cases hz:z=0
 ·subst hz
  rw[Int.zero_mul,zX,zX]
 ·have hp:(0:Int)<2^k:=Int.pow_pos (by decide)
  have hn:(z*2^k).natAbs=z.natAbs*2^k:=by
   rw[Int.natAbs_mul]
   congr 1
  have hd:decide (z*2^k<0)=decide (z<0):=by
   congr 1
   apply propext
   constructor
   ·intro h
    rcases Int.lt_or_le z 0 with g|g
    ·exact g
    ·exact absurd (Int.mul_nonneg g (Int.le_of_lt hp)) (by omega)
   ·intro h
    exact Int.mul_neg_of_neg_of_pos h hp
  unfold cfm
  rw[hn,hd]
  exact Y1 _ _ _ _ (by omega)
theorem zN (n:Bool)(L:List Int)(x:Int)(hne:L≠[])(hv:vld ⟨n,L,x⟩=true):0<nv L:=by
 obtain⟨p1,p2,p3,p4,p5,p6⟩:=qX n L x hne hv
 rcases Nat.eq_zero_or_pos (nv L)with h|h
 ·exact absurd ((zq L p2).1 h (L.length-1)) p3
 ·exact h
theorem zj (s:Int)(n:Bool)(x:Int):vz s ⟨n,[],x⟩=0:=by cases n<;>simp[vz,nv,sg]
theorem ki (s:Int)(a:Nm):(vz s a).natAbs=nv a.mag*2^(a.exp-s).toNat:=by
 have e:((nv a.mag*2^(a.exp-s).toNat:Nat):Int)=(nv a.mag:Int)*2^(a.exp-s).toNat:=by rw[Int.natCast_mul,Int.natCast_pow];rfl
 unfold vz
 rw[←e]
 cases a.neg<;>simp[sg]<;>omega
theorem Vk (s:Int)(n:Bool)(L:List Int)(x:Int)(hv:vld ⟨n,L,x⟩=true)(hs:L≠[]→s≤x):cfm (vz s ⟨n,L,x⟩) s=some ⟨n,L,x⟩:=by
 by_cases hne:L=[]
 ·subst hne
  rw[zj,zX]
  obtain⟨rfl,rfl⟩:=jM _ _ hv
  rfl
 ·obtain⟨p1,p2,p3,p4,p5,p6⟩:=qX n L x hne hv
  have hpos:=zN n L x hne hv
  have hs:=hs hne
  have e:vz s ⟨n,L,x⟩=sg n (nv L:Int)*2^(x-s).toNat:=by
   unfold vz
   cases n<;>simp[sg,Int.neg_mul]
  have hsg:=ZK n (nv L:Int) (by omega)
  rw[e,zM,show s+((x-s).toNat:Int)=x by omega]
  unfold cfm
  rw[hsg.1,hsg.2,Int.toNat_natCast,VJ n n L x x hne hv,vW x p5 p6,if_pos ⟨p5,p6⟩]
theorem qbr (s:Int)(B:Nat)(a:Nm)(h:Lies s B a)(hne:a.mag≠[]):tp a≤s+(B:Int):=by
 obtain⟨n,L,x⟩:=a
 have hpos:=zN n L x hne h.ok
 have hl:=h.low hne
 have h1:=h.lt
 rw[ki]at h1
 have h2:=yX (nv L) (x-s).toNat (by omega)
 have h3:=qY _ _ h1
 dsimp only at h3 hl
 rw[h2]at h3
 unfold tp
 dsimp only
 omega
theorem qgg (s:Int)(B:Nat)(a b:Nm)(ha:Lies s B a)(hb:Lies s B b)(h1:a.mag≠[])(h2:b.mag≠[]):vz s a+vz s b=tot a b (min a.exp b.exp)*2^(min a.exp b.exp-s).toNat:=by
 have la:=ha.low h1
 have lb:=hb.low h2
 have e1:(a.exp-s).toNat=(a.exp-min a.exp b.exp).toNat+(min a.exp b.exp-s).toNat:=by omega
 have e2:(b.exp-s).toNat=(b.exp-min a.exp b.exp).toNat+(min a.exp b.exp-s).toNat:=by omega
 unfold vz tot
 rw[e1,e2,jr,jr,Int.add_mul]
 congr 1
 ·cases a.neg<;>simp[sg,Int.mul_assoc,Int.neg_mul]
 ·cases b.neg<;>simp[sg,Int.mul_assoc,Int.neg_mul]
theorem qeg (s:Int)(B:Nat)(hB:B≤60000)(a b:Nm)(ha:Lies s B a)(hb:Lies s B b):qbq a b=cfm (vz s a+vz s b) s:=by
 obtain⟨n1,L1,x1⟩:=a
 obtain⟨n2,L2,x2⟩:=b
 unfold qbq
 dsimp only
 by_cases h1:L1=[]
 ·subst h1
  rw[if_pos rfl,zj,Int.zero_add,Vk s n2 L2 x2 hb.ok hb.low]
  by_cases h2:L2=[]
  ·subst h2
   obtain⟨rfl,rfl⟩:=jM _ _ hb.ok
   rw[if_pos rfl]
  ·rw[if_neg h2]
 ·rw[if_neg h1]
  by_cases h2:L2=[]
  ·subst h2
   rw[if_pos rfl,zj,Int.add_zero,Vk s n1 L1 x1 ha.ok ha.low]
  ·rw[if_neg h2,qgg s B _ _ ha hb h1 h2,zM]
   have t1:=qbr s B _ ha h1
   have t2:=qbr s B _ hb h2
   have l1:=ha.low h1
   have l2:=hb.low h2
   dsimp only at l1 l2 ⊢
   unfold qgf
   dsimp only
   rw[if_pos (by omega),show s+((min x1 x2-s).toNat:Int)=min x1 x2 by omega]
   rfl
theorem jk (s:Int)(B:Nat)(hB:B≤20000)(h1:-20000≤s)(h2:s≤0)(z:Int)(hz:z.natAbs<2^B):∃r,cfm z s=some r∧Lies s B r∧vz s r=z:=by
 by_cases h0:z=0
 ·subst h0
  exact⟨_,zX s,⟨rfl,fun h=>absurd rfl h,by rw[zj];exact qht B⟩,zj _ _ _⟩
 ·have hn:z.natAbs≠0:=by omega
  obtain⟨v,hv⟩:∃v,z.natAbs=v:=⟨_,rfl⟩
  rw[hv]at hz hn
  have hb:=qY _ _ hz
  obtain⟨hbt,hne⟩:=jP v hn
  obtain⟨hodd,hm⟩:=yv v hn
  obtain⟨t,ht⟩:∃t,tzn v=t:=⟨_,rfl⟩
  obtain⟨q,hq⟩:∃q,v/2^t=q:=⟨_,rfl⟩
  rw[ht]at hbt hodd hm hne
  rw[hq]at hbt hodd hm hne
  have hw:wrap64 (s+(t:Int))=s+(t:Int):=vW _ (by omega) (by omega)
  have hr:cfm z s=some ⟨decide (z<0),digs q,s+(t:Int)⟩:=by
   unfold cfm frm
   rw[hv,if_neg hn,ht,hw,hq,if_pos ⟨by omega,by omega,by omega⟩]
  have hdn:digs q≠[]:=by
   intro h
   have:=qI q
   rw[h]at this
   exact hne this.symm
  have hlen:(digs q).length≤2000:=by rw[vy q hne];omega
  have hval:vz s ⟨decide (z<0),digs q,s+(t:Int)⟩=z:=by
   unfold vz
   dsimp only
   rw[qI,show(s+(t:Int)-s).toNat=t by omega]
   have e:((q*2^t:Nat):Int)=(q:Int)*2^t:=by rw[Int.natCast_mul,Int.natCast_pow];rfl
   rw[←e,←hm,←hv]
   unfold sg
   by_cases hneg:z<0
   ·rw[if_pos (by simpa using hneg)];omega
   ·rw[if_neg (by simpa using hneg)];omega
  refine⟨_,hr,⟨?_,fun _=>by dsimp only;omega,by rw[hval];omega⟩,hval⟩
  unfold vld
  rw[if_neg hdn]
  unfold kU
  dsimp only
  have g1:=jE q hne
  have g2:dgb (digs q)=true:=(xB _).2 (qK q)
  have g3:bits .and .i64 ((digs q).getD 0 0) 1=1:=by
   rw[zT q hne,List.getD_cons_zero]
   have e:bits .and .i64 (((q%1073741824:Nat)):Int) 1=((q%1073741824%2:Nat):Int):=by
    have:=vu ((q%1073741824:Nat):Int)
    rw[this]
    omega
   rw[e]
   omega
  simp only[g2,g3,Bool.and_true,Bool.and_eq_true,bne_iff_ne,ne_eq,beq_self_eq_true,qh1]
  refine⟨⟨⟨by omega,g1⟩,by omega⟩,by omega⟩
theorem V1 (L:List Int)(j:Nat)(hj:j<L.length):cv (L.take (j+1))=cv (L.take j)+L.getD j 0*2^(30*j):=by
 induction L generalizing j with
 |nil=>simp at hj
 | cons d L ih=>
  cases j with
  |zero=>simp[cv]
  |succ j=>
   have e:=vQ j
   simp only[List.take_succ_cons,cv,List.getD_cons_succ]
   rw[ih j (by simpa using hj),e,Int.mul_left_comm (L.getD j 0)]
   generalize L.getD j 0*2^(30*j)=z
   omega
theorem kj (D:List Int)(i:Nat)(hi:i<D.length)(d:Int):cv (D.set i d)=cv D+(d-D.getD i 0)*2^(30*i):=by
 have:=yK D i hi (d-D.getD i 0)
 rw[show D.getD i 0+(d-D.getD i 0)=d by omega]at this
 exact this
theorem Dg.put {D:List Int}(h:Dg D)(i:Nat)(d:Int)(h0:0≤d)(h1:d<1073741824):Dg (D.set i d):=fun x hx=>by
 rcases List.mem_or_eq_of_mem_set hx with h2|h2
 ·exact h x h2
 ·rw[h2];exact⟨h0,h1⟩
structure PRow (A B:List Int) (n i j:Nat) (D:List Int) (o:Int):Prop where
 len:D.length=n
 dg:Dg D
 o0:0≤o
 o1:o<1073741824
 val:cv D+o*2^(30*(i+j))=cv (A.take i)*cv B+A.getD i 0*cv (B.take j)*2^(30*i)
 zero:∀k,i+B.length≤k→D.getD k 0=0
theorem PRow.start {A B:List Int}{n i:Nat}{D:List Int}(h1:D.length=n)(h2:Dg D)(h3:cv D=cv (A.take i)*cv B)(h4:∀k,i+B.length≤k→D.getD k 0=0):PRow A B n i 0 D 0:=
 ⟨h1,h2,by omega,by omega,by simp[cv,h3],h4⟩
theorem vX (a b:Int)(h0:0≤a)(h1:a<1073741824)(g0:0≤b)(g1:b<1073741824):0≤a*b∧a*b≤1152921502459363329:=by
 have e1:0≤a*b:=Int.mul_nonneg h0 g0
 have e2:a*b≤1073741823*1073741823:=Int.mul_le_mul (by omega) (by omega) g0 (by omega)
 exact⟨e1,by omega⟩
theorem PRow.step {A B:List Int}{n i j:Nat}{D:List Int}{o:Int}(h:PRow A B n i j D o)(hA:Dg A)(hB:Dg B)(hj:j<B.length)(hn:i+j<n)(T:Int)(hT:o+D.getD (i+j) 0+A.getD i 0*B.getD j 0=T):
  PRow A B n i (j+1) (D.set (i+j) (T%1073741824)) (T/1073741824):=by
 have hd:=h.dg.getD (i+j)
 have ha:=hA.getD i
 have hb:=hB.getD j
 have hm:=vX _ _ ha.1 ha.2 hb.1 hb.2
 have o0:=h.o0
 have o1:=h.o1
 refine⟨by rw[List.length_set];exact h.len,h.dg.put _ _ (by omega) (by omega),by omega,by omega,?_,?_⟩
 ·rw[kj D (i+j) (by rw[h.len];exact hn),V1 B j hj]
  have hv:=h.val
  have e1:(2:Int)^(30*(i+(j+1)))=1073741824*2^(30*(i+j)):=vQ (i+j)
  have e2:(2:Int)^(30*(i+j))=2^(30*j)*2^(30*i):=by rw[show 30*(i+j)=30*j+30*i by omega,Int.pow_add]
  have e3:A.getD i 0*(cv (B.take j)+B.getD j 0*2^(30*j))*2^(30*i)=A.getD i 0*cv (B.take j)*2^(30*i)+A.getD i 0*B.getD j 0*2^(30*(i+j)):=by
   rw[e2,Int.mul_add,Int.add_mul]
   congr 1
   simp only[Int.mul_assoc]
  rw[e3,e1]
  generalize A.getD i 0*B.getD j 0=m at *
  generalize (2:Int)^(30*(i+j))=P at *
  generalize D.getD (i+j) 0=d at *
  have hTT:T=1073741824*(T/1073741824)+T%1073741824:=by omega
  have e4:(T%1073741824-d)*P+T/1073741824*(1073741824*P)=(T-d)*P:=by
   rw[←Int.mul_assoc,←Int.add_mul]
   congr 1
   omega
  have e5:(T-d)*P=o*P+m*P:=by
   rw[←Int.add_mul]
   congr 1
   omega
  omega
 ·intro k hk
  rw[qB D (i+j) k _ (by rw[h.len];exact hn),if_neg (by omega)]
  exact h.zero k hk
theorem PRow.finish {A B:List Int}{n i:Nat}{D:List Int}{o:Int}(h:PRow A B n i B.length D o)(hi:i<A.length)(hn:i+B.length<n):
  PRow A B n (i+1) 0 (D.set (i+B.length) o) 0:=by
 refine .start (by rw[List.length_set];exact h.len) (h.dg.put _ _ h.o0 h.o1) ?_ ?_
 ·have hv:=h.val
  rw[kj D _ (by rw[h.len];exact hn),h.zero _ (qhy _),V1 A i hi]
  rw[List.take_length]at hv
  rw[Int.sub_zero,hv,Int.add_mul]
  congr 1
  rw[Int.mul_right_comm]
 ·intro k hk
  rw[qB D _ k _ (by rw[h.len];exact hn),if_neg (by omega)]
  exact h.zero k (by omega)
theorem PRow.last {A B:List Int}{n:Nat}{D:List Int}{o:Int}(h:PRow A B n A.length 0 D o)(ho:o=0)(hA:Dg A)(hB:Dg B):Dg D∧nv D=nv A*nv B:=by
 refine⟨h.dg,?_⟩
 have hv:=h.val
 subst ho
 rw[List.take_length,Qp D h.dg,Qp A hA,Qp B hB]at hv
 simp only[List.take_zero,cv,Int.zero_mul,Int.mul_zero,Int.add_zero]at hv
 have:((nv D:Nat):Int)=((nv A*nv B:Nat):Int):=by rw[hv,Int.natCast_mul]
 omega
def Vl (a b:Nm):Option Nm:=
 if (bl (nv a.mag):Int)+(bl (nv b.mag):Int)-1≤60000∧-1048576≤a.exp+b.exp∧a.exp+b.exp≤1048576 then frm (a.neg != b.neg) (nv a.mag*nv b.mag) (a.exp+b.exp)else none
theorem V2 (s:Int)(a:Nm):vz s a=sg a.neg (nv a.mag:Int)*2^(a.exp-s).toNat:=by
 unfold vz
 cases a.neg<;>simp[sg,Int.neg_mul]
theorem qeh (s:Int)(B:Nat)(hB:B≤20000)(h1:-20000≤s)(h2:s≤0)(a b:Nm)(ha:Lies s B a)(hb:Lies s B b):Vl a b=cfm (vz s a*vz s b) (s+s):=by
 obtain⟨n1,L1,x1⟩:=a
 obtain⟨n2,L2,x2⟩:=b
 have hz:∀(n:Bool) (L:List Int) (x:Int),Lies s B ⟨n,L,x⟩→(bl (nv L)≤20000∧-20000≤x∧x≤20000):=by
  intro n L x h
  by_cases hne:L=[]
  ·subst hne
   obtain⟨rfl,rfl⟩:=jM _ _ h.ok
   exact⟨by simp[nv,bl],by omega,by omega⟩
  ·have g1:=h.low hne
   have g2:=qbr s B _ h hne
   unfold tp at g2
   dsimp only at g1 g2
   omega
 have z1:=hz _ _ _ ha
 have z2:=hz _ _ _ hb
 have c1:=V2 s ⟨n1,L1,x1⟩
 have c2:=V2 s ⟨n2,L2,x2⟩
 dsimp only at c1 c2
 unfold Vl
 dsimp only
 rw[if_pos ⟨by omega,by omega,by omega⟩]
 by_cases e1:L1=[]
 ·subst e1
  rw[zj,Int.zero_mul,zX]
  simp[frm,nv]
 by_cases e2:L2=[]
 ·subst e2
  rw[zj,Int.mul_zero,zX]
  simp[frm,nv]
 have l1:=ha.low e1
 have l2:=hb.low e2
 dsimp only at l1 l2
 have p1:=zN n1 L1 x1 e1 ha.ok
 have p2:=zN n2 L2 x2 e2 hb.ok
 have e:vz s ⟨n1,L1,x1⟩*vz s ⟨n2,L2,x2⟩=sg n1 (nv L1:Int)*sg n2 (nv L2:Int)*2^((x1-s).toNat+(x2-s).toNat):=by
  rw[c1,c2,Int.pow_add]
  simp only[Int.mul_assoc,Int.mul_left_comm]
 rw[e,zM,show s+s+(((x1-s).toNat+(x2-s).toNat:Nat):Int)=x1+x2 by omega]
 have hp:0<nv L1*nv L2:=Nat.mul_pos p1 p2
 have e3:sg n1 (nv L1:Int)*sg n2 (nv L2:Int)=sg (n1 != n2) ((nv L1*nv L2:Nat):Int):=by
  rw[Int.natCast_mul]
  cases n1<;>cases n2<;>simp[sg,Int.neg_mul,Int.mul_neg]
 have hsg:=ZK (n1 != n2) ((nv L1*nv L2:Nat):Int) (by omega)
 rw[e3]
 unfold cfm
 rw[hsg.1,hsg.2,Int.toNat_natCast]
def cz (a b:Int):Int:=if a<b then -1 else if b<a then 1 else 0
theorem QI {a b:Int}(h:a<b):cz a b=-1:=by rw[cz,if_pos h]
theorem JW {a b:Int}(h:b<a):cz a b=1:=by rw[cz,if_neg (by omega),if_pos h]
theorem V3 {a b:Int}(h:a=b):cz a b=0:=by rw[cz,if_neg (by omega),if_neg (by omega)]
theorem QJ (F G P:Nat)(h:F/P<G/P):F<G:=by
 rcases Nat.lt_or_ge F G with g|g
 ·exact g
 ·exact absurd (Nat.div_le_div_right (c:=P) g) (by omega)
theorem qgh (a b:Int)(k:Nat):cz (a*2^k) (b*2^k)=cz a b:=by
 have hp:(0:Int)<2^k:=Int.pow_pos (by decide)
 rcases Int.lt_trichotomy a b with h|h|h
 ·rw[QI h,QI (Int.mul_lt_mul_of_pos_right h hp)]
 ·rw[V3 h,V3 (by rw[h])]
 ·rw[JW h,JW (Int.mul_lt_mul_of_pos_right h hp)]
end Go.Proofs.YtaglkncdedeipaaGreatDoor
