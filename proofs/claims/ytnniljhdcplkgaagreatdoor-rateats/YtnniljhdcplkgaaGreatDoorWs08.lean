/-  -/
import Derived.Test.YtnniljhdcplkgaaGreatDoorWs07
namespace Go.Proofs.YtnniljhdcplkgaaGreatDoor
open Go.ChangeShapes Go.WideShapes Go.ChangeAt Go.RowKit
set_option maxHeartbeats 16000000
set_option maxRecDepth 100000
set_option linter.unusedVariables false
set_option linter.unusedSimpArgs false
def cv:List Int→Int
 |[]=>0
 |c::l=>c+1073741824*cv l
theorem cv_nv (L:List Int)(h:Dg L):cv L=(nv L:Int):=by
 induction L with
 |nil=>rfl
 |cons d L ih=>
  have:=h.head
  simp only[cv,nv,ih h.tail]
  omega
def cr (s:Int):Int→List Int→List Int×Int
 |o,[]=>([],o)
 |o,c::C=>(((o+s*c)%1073741824)::(cr s ((o+s*c)/1073741824) C).1,(cr s ((o+s*c)/1073741824) C).2)
def layL:List Int→Nat→List Int→List Int
 |C,_,[]=>C
 |C,f,d::ds=>layL ((C.set f (C.getD f 0+d%1073741824)).set (f+1) (C.getD (f+1) 0+d/1073741824)) (f+1) ds
theorem pow30i (i:Nat):(2:Int)^(30*(i+1))=1073741824*2^(30*i):=by
 rw[show 30*(i+1)=30*i+30 by omega,Int.pow_add,Int.mul_comm,show(2:Int)^30=1073741824 from rfl]
theorem getD_app (pre R:List Int)(k:Nat)(h:pre.length=k):(pre++R).getD k 0=R.getD 0 0:=by
 rw[List.getD_eq_getElem?_getD,List.getElem?_append_right (by omega),h,Nat.sub_self,List.getD_eq_getElem?_getD]
theorem set_app (pre R:List Int)(k:Nat)(c x:Int)(h:pre.length=k):(pre++c::R).set k x=pre++[x]++R:=by
 rw[List.set_append_right _ _ (by omega),h,Nat.sub_self]
 simp
theorem cr_length (s o:Int)(C:List Int):(cr s o C).1.length=C.length:=by
 induction C generalizing o with
 |nil=>rfl
 |cons c C ih=>simp[cr,ih]
theorem cr_dg (s o:Int)(C:List Int):Dg (cr s o C).1:=by
 induction C generalizing o with
 |nil=>exact Dg.nil
 |cons c C ih=>exact Dg.cons (by omega) (by omega) (ih _)
theorem cr_val (s o:Int)(C:List Int):cv (cr s o C).1+(cr s o C).2*2^(30*C.length)=o+s*cv C:=by
 induction C generalizing o with
 |nil=>simp[cr,cv]
 |cons c C ih=>
  have h:=ih ((o+s*c)/1073741824)
  simp only[cr,cv,List.length_cons]
  have e:=pow30i C.length
  rw[e]
  generalize (2:Int)^(30*C.length)=p at *
  generalize (cr s ((o+s*c)/1073741824) C).2=q at *
  generalize cv (cr s ((o+s*c)/1073741824) C).1=r at *
  rw[show q*(1073741824*p)=1073741824*(q*p) by rw[Int.mul_left_comm]]
  rw[show s*(c+1073741824*cv C)=s*c+1073741824*(s*cv C) by rw[Int.mul_add,Int.mul_left_comm]]
  generalize q*p=qp at *
  generalize s*cv C=z at *
  generalize s*c=y at *
  omega
theorem cv_set (C:List Int)(i:Nat)(hi:i<C.length)(d:Int):cv (C.set i (C.getD i 0+d))=cv C+d*2^(30*i):=by
 induction C generalizing i with
 |nil=>simp at hi
 | cons c C ih=>
  cases i with
  |zero=>simp[cv];omega
  |succ i=>
   have e:=pow30i i
   simp only[List.set_cons_succ,List.getD_cons_succ,cv]
   rw[ih i (by simpa using hi),e,Int.mul_left_comm]
   generalize d*2^(30*i)=z
   omega
theorem layL_length (C:List Int)(f:Nat)(ds:List Int):(layL C f ds).length=C.length:=by
 induction ds generalizing C f with
 |nil=>rfl
 |cons d ds ih=>simp[layL,ih]
theorem layL_val (C:List Int)(f:Nat)(ds:List Int)(h:f+ds.length<C.length):cv (layL C f ds)=cv C+2^(30*f)*cv ds:=by
 induction ds generalizing C f with
 |nil=>simp[layL,cv]
 | cons d ds ih=>
  simp only[List.length_cons]at h
  rw[layL,ih _ _ (by simp;omega)]
  have e:=pow30i f
  have h1:(C.set f (C.getD f 0+d%1073741824)).getD (f+1) 0=C.getD (f+1) 0:=by
   rw[getD_set _ _ _ _ (by omega),if_neg (by omega)]
  rw[←h1,cv_set _ (f+1) (by simp;omega),cv_set _ f (by omega),e,cv]
  generalize (2:Int)^(30*f)=p
  have e2:d%1073741824*p+d/1073741824*(1073741824*p)=d*p:=by
   rw[←Int.mul_assoc,←Int.add_mul]
   congr 1
   omega
  rw[Int.mul_add,Int.mul_comm p d,Int.mul_assoc,Int.mul_left_comm p]
  omega
theorem layL_bound (C:List Int)(f:Nat)(ds:List Int)(b:Int)(hb:0≤b)(hlen:f+ds.length<C.length)(hd:∀d∈ds,-1152921504606846976≤d∧d≤1152921504606846975)(h1:∀j,j<f→-(b+2147483648)≤C.getD j 0∧C.getD j 0≤b+2147483648)(h2:-(b+1073741824)≤C.getD f 0∧C.getD f 0≤b+1073741824)(h3:∀j,f<j→-b≤C.getD j 0∧C.getD j 0≤b):∀j,-(b+2147483648)≤(layL C f ds).getD j 0∧(layL C f ds).getD j 0≤b+2147483648:=by
 induction ds generalizing C f with
 |nil=>
  intro j
  rw[layL]
  rcases Nat.lt_trichotomy j f with h|h|h
  ·exact h1 j h
  ·subst h;omega
  ·have:=h3 j h;omega
 | cons d ds ih=>
  simp only[List.length_cons]at hlen
  rw[layL]
  have hd0:=hd d (by simp)
  have g1:∀j,((C.set f (C.getD f 0+d%1073741824)).set (f+1) (C.getD (f+1) 0+d/1073741824)).getD j 0=if f+1=j then C.getD (f+1) 0+d/1073741824 else if f=j then C.getD f 0+d%1073741824 else C.getD j 0:=by
   intro j
   rw[getD_set _ _ _ _ (by simp;omega),getD_set _ _ _ _ (by omega)]
  apply ih _ _ (by simp;omega) (fun x hx=>hd x (by simp[hx]))
  ·intro j hj
   rw[g1,if_neg (by omega)]
   split
   ·omega
   ·exact h1 j (by omega)
  ·rw[g1,if_pos rfl]
   have:=h3 (f+1) (by omega)
   omega
  ·intro j hj
   rw[g1,if_neg (by omega),if_neg (by omega)]
   exact h3 j (by omega)
theorem layL_snoc (C:List Int)(f:Nat)(ds:List Int)(d:Int):layL C f (ds++[d])=((layL C f ds).set (f+ds.length) ((layL C f ds).getD (f+ds.length) 0+d%1073741824)).set (f+ds.length+1) ((layL C f ds).getD (f+ds.length+1) 0+d/1073741824):=by
 induction ds generalizing C f with
 |nil=>simp[layL]
 |cons e ds ih=>
  simp only[List.cons_append,layL,List.length_cons,ih]
  rw[show f+1+ds.length=f+(ds.length+1) by omega]
theorem carry_any (C:List Int)(s:Int)(hs:s=1∨s=-1)(g cap:Nat)(hlen:C.length<100000000)(hb:∀j,-9223372036854775807≤C.getD j 0∧C.getD j 0≤9223372036854775807)(w:World)(h:Own w g cap C):Calls Tryz.prog 166 #[.slice (some ⟨g,0,none⟩) C.length cap,.int .i64 s] w fun e w'=>e=.returned (.bool (decide ((cr s 0 C).2<0)))∧Own w' g cap (cr s 0 C).1∧Grw g w w':=by
 obtain⟨n,hn⟩:∃n,n=C.length:=⟨_,rfl⟩
 have HN:Hid (n=C.length):=hn
 have HB:Hid (∀j,-9223372036854775807≤C.getD j 0∧C.getD j 0≤9223372036854775807):=hb
 have HO:Hid (Own w g cap C):=h
 have hcap:n≤cap:=by obtain⟨_,_,h1,_⟩:=h;omega
 rw[←hn]at hlen ⊢
 obtain⟨D,o',hD⟩:∃D o',cr s 0 C=(D,o'):=⟨_,_,rfl⟩
 rw[hD]
 have HD:Hid (cr s 0 C=(D,o')):=hD
 clear h hb hD hn
 go_enter Tryz.func166,Tryz.ntmps166
 go_wp2
 go_loopw [5,10] (fun ov i wr=>∃(k:Nat) (pre:List Int) (o:Int),k≤n∧i=.int .i64 k∧ov=.int .i64 o∧pre.length=k∧-17179869184≤o∧o≤17179869184∧Own wr g cap (pre++C.drop k)∧(D,o')=(pre++(cr s o (C.drop k)).1,(cr s o (C.drop k)).2)∧Grw g w wr) (fun _ i _=>n-(intOf i).toNat)
 case atStart=>exact⟨0,[],0,Nat.zero_le _,rfl,rfl,rfl,by omega,by omega,by simpa using HO.out,by rw[←HD.out];simp,Grw.refl _ _⟩
 case round=>
  obtain⟨k,pre,o,hk,rfl,rfl,hpre,ho1,ho2,hO,hrun,hG⟩:=hrel
  have HO2:Hid (Own wr g cap (pre++C.drop k)):=hO
  have HR:Hid ((D,o')=(pre++(cr s o (C.drop k)).1,(cr s o (C.drop k)).2)):=hrun
  have HG:Hid (Grw g w wr):=hG
  by_cases hkn:k<n
  ·have hkC:k<C.length:=by have:=HN.out;omega
   have hdrop:C.drop k=C.getD k 0::C.drop (k+1):=by
    rw[List.drop_eq_getElem_cons hkC,List.getD_eq_getElem?_getD,List.getElem?_eq_getElem hkC]
    rfl
   have hcell:wr.cell? ⟨g,k,none⟩=some (.int .i64 (C.getD k 0)):=by
    have:=hO.cell k (by rw[List.length_append,List.length_drop];omega)
    rw[getD_app _ _ _ hpre,hdrop]at this
    simpa using this
   have hfree:=hO.free k
   have hbk:=HB.out k
   have HDr:Hid (C.drop k=C.getD k 0::C.drop (k+1)):=hdrop
   clear hO hrun hG hdrop
   generalize C.getD k 0=c at *
   have HP:Hid (pre.length=k):=hpre
   clear hpre
   obtain⟨y,hy⟩:∃y,y=s*c:=⟨_,rfl⟩
   have hy1:-9223372036854775807≤y∧y≤9223372036854775807:=by rcases hs with rfl|rfl<;>omega
   have hw1:IntKind.i64.wrap (s*c)=y:=by
    rw[wrap_i64];rcases hs with rfl|rfl<;>omega
   have hw2:wrap64 (s*c)=y:=by
    unfold wrap64;rcases hs with rfl|rfl<;>omega
   have hm:=mask30 y
   have hm2:=mask30 (o+y%1073741824)
   have hw3:IntKind.i64.wrap (o+y%1073741824)=o+y%1073741824:=by rw[wrap_i64];omega
   have hw4:wrap64 (o+y%1073741824)=o+y%1073741824:=by unfold wrap64;omega
   have hw5:IntKind.i64.wrap ((o+y%1073741824)/1073741824+y/1073741824)=(o+y%1073741824)/1073741824+y/1073741824:=by rw[wrap_i64];omega
   have hw6:wrap64 ((o+y%1073741824)/1073741824+y/1073741824)=(o+y%1073741824)/1073741824+y/1073741824:=by unfold wrap64;omega
   have Hy:Hid (y=s*c):=hy
   clear hy
   go_wp2
   go_roundw
   case rel=>
    refine⟨k+1,pre++[(o+y)%1073741824],(o+y%1073741824)/1073741824+y/1073741824,by omega,by go_num,rfl,by simp[HP.out],by omega,by omega,?_,?_,HG.out.setCell _ _⟩
    ·have:=HO2.out.set k ((o+y)%1073741824)
     rw[HDr.out,set_app _ _ _ _ _ HP.out]at this
     exact this
    ·rw[HR.out,HDr.out,cr,←Hy.out,show(o+y%1073741824)/1073741824+y/1073741824=(o+y)/1073741824 by omega]
     simp
   case measure=>simp[intOf];omega
  ·obtain rfl:k=n:=by omega
   have hlast:C.drop k=[]:=by rw[HN.out];simp
   rw[hlast]at hrun hO
   simp only[cr,List.append_nil,Prod.mk.injEq]at hrun hO
   obtain⟨rfl,rfl⟩:=hrun
   clear HR HO2
   go_wp2
   go_ret
   exact⟨rfl,hO,hG⟩
end Go.Proofs.YtnniljhdcplkgaaGreatDoor
namespace Go.Proofs.YtnniljhdcplkgaaGreatDoor
open Go.ChangeShapes Go.WideShapes Go.ChangeAt Go.RowKit
set_option maxHeartbeats 16000000
set_option maxRecDepth 100000
set_option linter.unusedVariables false
set_option linter.unusedSimpArgs false
def sg (neg:Bool)(d:Int):Int:=if neg=true then -d else d
def dsh (neg:Bool)(s:Nat)(L:List Int):List Int:=L.map fun d=>sg neg (d*2^s)
theorem dsh_length (neg:Bool)(s:Nat)(L:List Int):(dsh neg s L).length=L.length:=by simp[dsh]
theorem dsh_val (neg:Bool)(s:Nat)(L:List Int)(h:Dg L):cv (dsh neg s L)=sg neg ((nv L:Int)*2^s):=by
 induction L with
 |nil=>cases neg<;>simp[dsh,cv,nv,sg]
 | cons d L ih=>
  have hd:=h.head
  have:=ih h.tail
  simp only[dsh,List.map_cons,cv,nv]at this ⊢
  rw[this]
  cases neg
  ·simp only[sg,Bool.false_eq_true,if_false,Int.natCast_add,Int.natCast_mul,Int.add_mul,Int.toNat_of_nonneg hd.1]
   rw[←Int.mul_assoc]
   rfl
  ·simp only[sg,if_true,Int.natCast_add,Int.natCast_mul,Int.add_mul,Int.toNat_of_nonneg hd.1]
   rw[Int.mul_neg,←Int.mul_assoc,Int.neg_add]
   rfl
theorem shl_bound (d:Int)(s:Nat)(h0:0≤d)(h1:d<1073741824)(hs:s<30):0≤d*2^s∧d*2^s≤576460752303423488:=by
 have h2:(2:Int)^s≤2^29:=by
  have:2^s≤2^29:=Nat.pow_le_pow_right (by decide) (by omega)
  have e:((2^s:Nat):Int)≤((2^29:Nat):Int):=by omega
  rw[Int.natCast_pow,Int.natCast_pow]at e
  exact e
 have h3:(0:Int)<2^s:=Int.pow_pos (by decide)
 constructor
 ·exact Int.mul_nonneg h0 (by omega)
 ·have:d*2^s≤d*2^29:=Int.mul_le_mul_of_nonneg_left h2 h0
  have e:(2:Int)^29=536870912:=rfl
  rw[e]at this
  omega
theorem dsh_bound (neg:Bool)(s:Nat)(hs:s<30)(L:List Int)(h:Dg L):∀d∈dsh neg s L,-1152921504606846976≤d∧d≤1152921504606846975:=by
 intro d hd
 simp only[dsh,List.mem_map]at hd
 obtain⟨c,hc,rfl⟩:=hd
 have h1:=h c hc
 have:=shl_bound c s h1.1 h1.2 hs
 cases neg<;>simp only[sg,Bool.false_eq_true,if_false,if_true]<;>omega
theorem dsh_take (neg:Bool)(s:Nat)(L:List Int)(k:Nat)(hk:k<L.length):(dsh neg s L).take (k+1)=(dsh neg s L).take k++[sg neg (L.getD k 0*2^s)]:=by
 have hk2:k<(dsh neg s L).length:=by rw[dsh_length];exact hk
 rw[List.take_add_one,List.getElem?_eq_getElem hk2]
 congr 1
 simp[dsh,List.getD_eq_getElem?_getD,List.getElem?_eq_getElem hk]
theorem lay_nil (g:Nat)(n cap:Nat)(neg:Bool)(ao:Option Addr)(c2:Nat)(x p:Int)(w:World):Calls Tryz.prog 160 #[.slice (some ⟨g,0,none⟩) n cap,.agg #[.bool neg,.slice ao 0 c2,.int .i64 x],.int .i64 p] w fun e w'=>e=.returned (.tuple #[])∧Kept w w':=by
 go_enter Tryz.func160,Tryz.ntmps160
 go_wp2
 refine wp_loop_rounds 1 ?_
 rw[rounds_succ]
 go_wp2
 go_end0
 exact⟨rfl,(Kept.refl _).alloc _ _⟩
theorem lay_some (C:List Int)(g cap:Nat)(neg:Bool)(L:List Int)(hL:Dg L)(b off c2:Nat)(x p:Int)(f s:Nat)(hs:s<30)(hp:p=30*(f:Int)+(s:Int))(hfit:f+L.length<C.length)(hlen:C.length<100000000)(hb:∀j,-4294967296≤C.getD j 0∧C.getD j 0≤4294967296)(hbg:b≠g)(w:World)(hbw:b<w.heap.size)(hr:Reads w b off L)(h:Own w g cap C):Calls Tryz.prog 160 #[.slice (some ⟨g,0,none⟩) C.length cap,.agg #[.bool neg,.slice (some ⟨b,off,none⟩) L.length c2,.int .i64 x],.int .i64 p] w fun e w'=>e=.returned (.tuple #[])∧Own w' g cap (layL C f (dsh neg s L))∧Grw g w w':=by
 have hK:=(Kept.refl w).alloc #[.bool neg,.slice (some ⟨b,off,none⟩) L.length c2,.int .i64 x] 43
 have hgl:=h.lt
 have hcap:C.length≤cap:=by obtain⟨_,_,h1,_⟩:=h;exact h1
 obtain⟨e1,e2⟩:=tdiv_at p f s (by omega) (by omega) hp (.inl (by omega))
 have HBd:Hid (∀k,k≤L.length→∀j,-6442450944≤(layL C f ((dsh neg s L).take k)).getD j 0∧(layL C f ((dsh neg s L).take k)).getD j 0≤6442450944):=by
  intro k hk j
  have:=layL_bound C f ((dsh neg s L).take k) 4294967296 (by omega) (by rw[List.length_take,dsh_length];omega) (fun d hd=>dsh_bound neg s hs L hL d (List.mem_of_mem_take hd)) (fun j _=>by have:=hb j;omega) (by have:=hb f;omega) (fun j _=>hb j) j
  omega
 have HO:Hid (Own (w.alloc (.cells #[.bool neg,.slice (some ⟨b,off,none⟩) L.length c2,.int .i64 x] 43)) g cap C):=h.kept hK
 have HR:Hid (Reads (w.alloc (.cells #[.bool neg,.slice (some ⟨b,off,none⟩) L.length c2,.int .i64 x] 43)) b off L):=hr.kept hbw hK
 have hbl:b<(w.alloc (.cells #[.bool neg,.slice (some ⟨b,off,none⟩) L.length c2,.int .i64 x] 43)).heap.size:=by simp;omega
 obtain⟨n,hn⟩:∃n,n=L.length:=⟨_,rfl⟩
 have HN:Hid (n=L.length):=hn
 obtain⟨m,hmm⟩:∃m,m=C.length:=⟨_,rfl⟩
 have HM:Hid (m=C.length):=hmm
 rw[←hn]at hfit HO HR hK hbl ⊢
 rw[←hmm]at hfit hlen hcap ⊢
 have HK:Hid (Kept w (w.alloc (.cells #[.bool neg,.slice (some ⟨b,off,none⟩) n c2,.int .i64 x] 43))):=hK
 have HLe:Hid (∀k,(layL C f ((dsh neg s L).take k)).length=m):=fun k=>by rw[layL_length];exact hmm.symm
 clear h hb hr hn hmm hK hp
 go_enter Tryz.func160,Tryz.ntmps160
 go_wp2
 go_loopw [17] (fun i wr=>∃(k:Nat),k≤n∧i=.int .i64 k∧Own wr g cap (layL C f ((dsh neg s L).take k))∧Grw g (w.alloc (.cells #[.bool neg,.slice (some ⟨b,off,none⟩) n c2,.int .i64 x] 43)) wr) (fun i _=>n-(intOf i).toNat)
 case atStart=>exact⟨0,Nat.zero_le _,rfl,by simpa [layL] using HO.out,Grw.refl _ _⟩
 case round=>
  obtain⟨k,hk,rfl,hO,hG⟩:=hrel
  have HO2:Hid (Own wr g cap (layL C f ((dsh neg s L).take k))):=hO
  have HG:Hid (Grw g (w.alloc (.cells #[.bool neg,.slice (some ⟨b,off,none⟩) n c2,.int .i64 x] 43)) wr):=hG
  have hgn:g≠w.heap.size:=by omega
  have hb0:wr.cell? ⟨w.heap.size,0,none⟩=some (.bool neg):=(grw_new hG hgn 0).1.trans (by simp[go_sem])
  have hb1:wr.cell? ⟨w.heap.size,1,none⟩=some (.slice (some ⟨b,off,none⟩) n c2):=(grw_new hG hgn 1).1.trans (by simp[go_sem])
  by_cases hkn:k<n
  ·have hkL:k<L.length:=by have:=HN.out;omega
   have hd:=hL.getD k
   have hsb:=shl_bound _ s hd.1 hd.2 hs
   have hcell:wr.cell? ⟨b,off+k,none⟩=some (.int .i64 (L.getD k 0)):=by
    have hbk:=hG.grown.block b hbl (by simpa using hbg)
    exact(World.cell?_of_block (a:=⟨b,off+k,none⟩) hbk).trans (HR.out k hkL)
   have hl:=HLe.out k
   have m1:=hO.cell (f+k) (by rw[hl];omega)
   have m2:=hO.cell (f+k+1) (by rw[hl];omega)
   have f1:=hO.free (f+k)
   have f2:=hO.free (f+k+1)
   have q1:=HBd.out k (by have:=HN.out;omega) (f+k)
   have q2:=HBd.out k (by have:=HN.out;omega) (f+k+1)
   have hnext:layL C f ((dsh neg s L).take (k+1))=((layL C f ((dsh neg s L).take k)).set (f+k) ((layL C f ((dsh neg s L).take k)).getD (f+k) 0+sg neg (L.getD k 0*2^s)%1073741824)).set (f+k+1) ((layL C f ((dsh neg s L).take k)).getD (f+k+1) 0+sg neg (L.getD k 0*2^s)/1073741824):=by
    rw[dsh_take neg s L k hkL,layL_snoc,List.length_take,dsh_length,Nat.min_eq_left (by omega)]
   obtain⟨M,hM⟩:∃M,M=layL C f ((dsh neg s L).take k):=⟨_,rfl⟩
   rw[←hM]at m1 m2 q1 q2 hnext HO2 hl
   have HX:Hid (layL C f ((dsh neg s L).take (k+1))=(M.set (f+k) (M.getD (f+k) 0+sg neg (L.getD k 0*2^s)%1073741824)).set (f+k+1) (M.getD (f+k+1) 0+sg neg (L.getD k 0*2^s)/1073741824)):=hnext
   obtain⟨t,ht⟩:∃t,t=sg neg (L.getD k 0*2^s):=⟨_,rfl⟩
   have Ht:Hid (t=sg neg (L.getD k 0*2^s)):=ht
   have hw:IntKind.i64.wrap (L.getD k 0*2^s)=L.getD k 0*2^s:=by rw[wrap_i64];omega
   have htb:-576460752303423488≤t∧t≤576460752303423488:=by rw[ht];cases neg<;>simp only[sg,Bool.false_eq_true,if_false,if_true]<;>omega
   generalize hu:L.getD k 0*2^s=u at *
   generalize hLd:L.getD k 0=d at *
   generalize hm1:M.getD (f+k) 0=v1 at *
   generalize hm2:M.getD (f+k+1) 0=v2 at *
   have hmask:=mask30 t
   have hw5:IntKind.i64.wrap u=u:=hw
   clear hnext hM hO hG hw hl hm1 hm2 hLd
   have HU:Hid (d*2^s=u):=hu
   cases neg
   ·have htu:t=u:=by rw[ht];rfl
    subst htu
    clear ht Ht
    go_wp2
    go_roundw
    case rel=>
     have hx:=HX.out
     simp only[sg,Bool.false_eq_true,if_false,if_true]at hx
     refine⟨k+1,by omega,by go_num,?_,(HG.out.setCell _ _).setCell _ _⟩
     rw[hx]
     exact(HO2.out.set _ _).set _ _
    case measure=>simp[intOf];omega
   ·have htu:t=-u:=by rw[ht];rfl
    subst htu
    clear ht Ht
    go_wp2
    go_roundw
    case rel=>
     have hx:=HX.out
     simp only[sg,Bool.false_eq_true,if_false,if_true]at hx
     refine⟨k+1,by omega,by go_num,?_,(HG.out.setCell _ _).setCell _ _⟩
     rw[hx]
     exact(HO2.out.set _ _).set _ _
    case measure=>simp[intOf];omega
  ·obtain rfl:k=n:=by omega
   have hfull:(dsh neg s L).take k=dsh neg s L:=List.take_of_length_le (by rw[dsh_length];have:=HN.out;omega)
   go_wp2
   go_end0
   rw[hfull]at hO
   exact⟨rfl,hO,(HK.out.toGrw g).trans HG.out⟩
end Go.Proofs.YtnniljhdcplkgaaGreatDoor
namespace Go.Proofs.YtnniljhdcplkgaaGreatDoor
open Go.ChangeShapes Go.WideShapes Go.ChangeAt Go.RowKit
set_option maxHeartbeats 16000000
set_option maxRecDepth 100000
set_option linter.unusedVariables false
set_option linter.unusedSimpArgs false
def ToldR (Res:Option Nm)(w0 w:World)(e:Ending):Prop:=match Res with|some r=>∃v,e=.returned v∧New w0 w v r|none=>e=.panicked gaveUp
theorem top_any (neg:Bool)(L:List Int)(hL:Cn L)(hlen:L.length<3000000)(ao:Option Addr)(cap:Nat)(x:Int)(hx1:-1048576≤x)(hx2:x≤1048576)(w:World)(h:Sl w (.slice ao L.length cap) L):Calls Tryz.prog 159 #[.agg #[.bool neg,.slice ao L.length cap,.int .i64 x]] w fun e w'=>e=.returned (.int .i64 (x+(bl (nv L):Int)))∧Kept w w':=by
 have hK:=(Kept.refl w).alloc #[.bool neg,.slice ao L.length cap,.int .i64 x] 43
 have KL:Hid (∀u,Kept w u→Calls Tryz.prog 112 #[.slice ao L.length cap] u fun e w'=>e=.returned (.int .i64 ((bl (nv L):Nat):Int))∧u=w'):=fun u k=>length_any L hL (by omega) _ u (h.kept k)
 have hb:bl (nv L)≤90000000:=Nat.le_trans (bl_le _ _ (nv_lt L hL.1)) (by omega)
 clear h hL hlen
 generalize L.length=n at *
 generalize bl (nv L)=B at *
 have HS:Hid (∀u,Kept (w.alloc (.cells #[.bool neg,.slice ao n cap,.int .i64 x] 43)) u→Kept w u∧u.cell? ⟨w.heap.size,1,none⟩=some (.slice ao n cap)∧u.cell? ⟨w.heap.size,2,none⟩=some (.int .i64 x)):=fun u k=>⟨hK.trans k,(laid_cell k 1).trans (by simp[go_sem]),(laid_cell k 2).trans (by simp[go_sem])⟩
 have hD:Kept (w.alloc (.cells #[.bool neg,.slice ao n cap,.int .i64 x] 43)) (w.alloc (.cells #[.bool neg,.slice ao n cap,.int .i64 x] 43)).drew:=(Kept.refl _).drew
 have hw:IntKind.i64.wrap (x+(B:Int))=x+(B:Int):=by rw[wrap_i64];omega
 go_enter Tryz.func159,Tryz.ntmps159
 go_wp2
 go_region_held (fun u=>Kept w u∧u.cell? ⟨w.heap.size,1,none⟩=some (.slice ao n cap)∧u.cell? ⟨w.heap.size,2,none⟩=some (.int .i64 x)) (first|exact HS.out _ hD|assumption) (first|(go_at_call 112;refine(KL.out _ hK.drew).mono ?_;rintro e u1 ⟨rfl,rfl⟩))
 go_wp2
 go_ret
 exact⟨rfl,hK.drew⟩
theorem nv_replicate (n:Nat):cv (List.replicate n 0)=0:=by
 induction n with
 |zero=>rfl
 |succ n ih=>simp[List.replicate_succ,cv,ih]
theorem pow_add_int (a b:Nat):(2:Int)^(a+b)=2^a*2^b:=Int.pow_add 2 a b
theorem sg_mul (neg:Bool)(a b:Int):b*sg neg a=sg neg (b*a):=by cases neg<;>simp[sg,Int.mul_neg]
theorem sg_abs (neg:Bool)(a B:Int)(h0:0≤a)(h1:a<B):-B<sg neg a∧sg neg a<B:=by cases neg<;>simp[sg]<;>omega
theorem carried (C:List Int)(T:Int)(hT:cv C=T)(h1:-(2:Int)^(30*C.length)<T)(h2:T<(2:Int)^(30*C.length)):
  (decide ((cr 1 0 C).2<0)=decide (T<0))∧(¬T<0→nv (cr 1 0 C).1=T.natAbs)∧(T<0→nv (cr (-1) 0 (cr 1 0 C).1).1=T.natAbs):=by
 have a1:=cr_val 1 0 C
 have a2:=cr_dg 1 0 C
 have a3:=cr_length 1 0 C
 have a4:=nv_lt _ a2
 have b1:=cr_val (-1) 0 (cr 1 0 C).1
 have b2:=cr_dg (-1) 0 (cr 1 0 C).1
 have b3:=cr_length (-1) 0 (cr 1 0 C).1
 have b4:=nv_lt _ b2
 rw[cv_nv _ a2,hT]at a1
 rw[cv_nv _ b2,cv_nv _ a2]at b1
 rw[a3]at a4 b1 b3
 rw[b3]at b4
 generalize nv (cr 1 0 C).1=D1 at *
 generalize nv (cr (-1) 0 (cr 1 0 C).1).1=D2 at *
 generalize (cr 1 0 C).2=o at *
 generalize (cr (-1) 0 (cr 1 0 C).1).2=o2 at *
 have e:((2^(30*C.length):Nat):Int)=(2:Int)^(30*C.length):=by rw[Int.natCast_pow];rfl
 have a5:(D1:Int)<(2:Int)^(30*C.length):=by rw[←e];omega
 have b5:(D2:Int)<(2:Int)^(30*C.length):=by rw[←e];omega
 have hp:(0:Int)<(2:Int)^(30*C.length):=Int.pow_pos (by decide)
 generalize (2:Int)^(30*C.length)=P at *
 clear e a4 b4
 have ho:∀k:Int,((k≤-2→k*P≤-2*P)∧(1≤k→P≤k*P)):=fun k=>⟨fun h=>Int.mul_le_mul_of_nonneg_right h (by omega),fun h=>by have:=Int.mul_le_mul_of_nonneg_right h (show 0≤P by omega);omega⟩
 have o1:=ho o
 have o3:=ho o2
 have hcase:o=0∨o=-1:=by
  rcases Int.lt_trichotomy o 0 with h|h|h
  ·by_cases h':o≤-2
   ·have:=o1.1 h';omega
   ·omega
  ·exact .inl h
  ·have:=o1.2 (by omega);omega
 rcases hcase with rfl|rfl
 ·refine⟨by simp;omega,fun h=>by omega,fun h=>by omega⟩
 ·have hcase2:o2=0∨o2=-1:=by
   rcases Int.lt_trichotomy o2 0 with h|h|h
   ·by_cases h':o2≤-2
    ·have:=o3.1 h';omega
    ·omega
   ·exact .inl h
   ·have:=o3.2 (by omega);omega
  refine⟨by simp;omega,fun h=>by omega,fun h=>?_⟩
  rcases hcase2 with rfl|rfl<;>omega
end Go.Proofs.YtnniljhdcplkgaaGreatDoor
namespace Go.Proofs.YtnniljhdcplkgaaGreatDoor
open Go.ChangeShapes Go.WideShapes Go.ChangeAt Go.RowKit
set_option maxHeartbeats 16000000
set_option maxRecDepth 100000
set_option linter.unusedVariables false
set_option linter.unusedSimpArgs false
def ToldG (g cap:Nat)(Res:Option Nm)(w0 w:World)(e:Ending):Prop:=match Res with|some r=>∃v,e=.returned v∧NewG g cap w0 w v r|none=>e=.panicked gaveUp
theorem num_cellsg {w w1:World}{g:Nat}(h:Grw g (numW w) w1)(hne:g≠w.heap.size):w1.cell? ⟨w.heap.size,0,none⟩=some (.bool false)∧w1.cell? ⟨w.heap.size,1,none⟩=some (.slice none 0 0)∧w1.cell? ⟨w.heap.size,2,none⟩=some (.int .i64 0)∧(∀o,w1.frozen? ⟨w.heap.size,o,none⟩=false):=
 ⟨(grw_new h hne 0).1.trans (by simp[go_sem]),(grw_new h hne 1).1.trans (by simp[go_sem]),(grw_new h hne 2).1.trans (by simp[go_sem]),fun o=>(grw_new h hne o).2.trans (by simp[go_sem])⟩
theorem num_doneg {w u0 z:World}{g cap:Nat}{v:Value}{r:Nm}(hN:NewG g cap u0 z v r)(hne:g≠w.heap.size)(hu:u0.heap.size≤w.heap.size)(hk:Kept u0 z)(a b c:Value):New u0 (((z.setCell ⟨w.heap.size,0,none⟩ a).setCell ⟨w.heap.size,1,none⟩ b).setCell ⟨w.heap.size,2,none⟩ c) v r∧Kept u0 (((z.setCell ⟨w.heap.size,0,none⟩ a).setCell ⟨w.heap.size,1,none⟩ b).setCell ⟨w.heap.size,2,none⟩ c):=by
 constructor
 ·rcases hN with h|⟨e,hg,ho,hne2⟩
  ·exact .inl h
  ·exact .inr ⟨g,cap,e,hg,((ho.setOther (by simpa using hne) _).setOther (by simpa using hne) _).setOther (by simpa using hne) _,hne2⟩
 ·exact hk.setCell hu _|>.setCell hu _|>.setCell hu _
theorem settled_walk (w:World)(n cap g:Nat)(x:Int)(C D1 D2:List Int)(ng:Bool)(u0:World)(hk:Kept u0 w)(hg:u0.heap.size≤g)(ho:Own w g cap C)
  (KC1:Hid (∀u,Own u g cap C→Calls Tryz.prog 166 #[.slice (some ⟨g,0,none⟩) n cap,.int .i64 1] u fun e w'=>e=.returned (.bool ng)∧Own w' g cap D1∧Grw g u w'))
  (KC2:Hid (ng=true→∀u,Own u g cap D1→Calls Tryz.prog 166 #[.slice (some ⟨g,0,none⟩) n cap,.int .i64 (-1)] u fun e w'=>(∃b,e=.returned (.bool b))∧Own w' g cap D2∧Grw g u w'))
  (Res:Option Nm) (KF:Hid (∀u,Kept u0 u→Own u g cap (if ng=true then D2 else D1)→Calls Tryz.prog 74 #[.bool ng,.slice (some ⟨g,0,none⟩) n cap,.int .i64 x] u fun e w'=>ToldG g cap Res u0 w' e∧Kept u0 w'∧Grw g u w'))
  :Calls Tryz.prog 161 #[.slice (some ⟨g,0,none⟩) n cap,.int .i64 x] w fun e w'=>ToldR Res u0 w' e∧Kept u0 w':=by
 have hK0:Kept w (numW w):=(Kept.refl w).alloc _ _
 have hne:g≠w.heap.size:=by have:=ho.lt;omega
 have hu:=hk.below.size
 have HO:Hid (Own (numW w) g cap C):=ho.kept hK0
 have HK:Hid (Kept u0 (numW w)):=hk.trans hK0
 clear ho
 go_enter Tryz.func161,Tryz.ntmps161
 go_wp2_with fail
 refine(KC1.out _ HO.out).mono ?_
 rintro e z3 ⟨rfl,oz3,gz3⟩
 cases ng
 ·go_wp2_with fail
  refine(KF.out _ (HK.out.grw hg gz3) oz3).mono ?_
  rintro e z5 ⟨hres,k5,g5⟩
  cases Res with
  |none=>
   have hres2:e=.panicked gaveUp:=hres
   subst hres2
   go_wp2
   exact⟨rfl,rfl,k5⟩
  |some r=>
   obtain⟨v,rfl,hN⟩:=hres
   obtain⟨f0,f1,f2,f3⟩:=num_cellsg (gz3.trans g5) hne
   obtain⟨vn,va,vl,vc,vx,rfl⟩:=hN.new.shape
   go_wp2
   have:=num_doneg hN hne hu k5 (.bool vn) (.slice va vl vc) (.int .i64 vx)
   exact bodyPost_ret (v:=.agg #[.bool vn,.slice va vl vc,.int .i64 vx]) (by simp[results,Tryz.results161,go_sem,f0,f1,f2]) rfl ⟨⟨_,rfl,this.1⟩,this.2⟩
 ·go_wp2_with fail
  refine(KC2.out (by trivial) _ oz3).mono ?_
  rintro e z4 ⟨⟨b4,rfl⟩,oz4,gz4⟩
  go_wp2_with fail
  refine(KF.out _ (HK.out.grw hg (gz3.trans gz4)) oz4).mono ?_
  rintro e z5 ⟨hres,k5,g5⟩
  cases Res with
  |none=>
   have hres2:e=.panicked gaveUp:=hres
   subst hres2
   go_wp2
   exact⟨rfl,rfl,k5⟩
  |some r=>
   obtain⟨v,rfl,hN⟩:=hres
   obtain⟨f0,f1,f2,f3⟩:=num_cellsg ((gz3.trans gz4).trans g5) hne
   obtain⟨vn,va,vl,vc,vx,rfl⟩:=hN.new.shape
   go_wp2
   have:=num_doneg hN hne hu k5 (.bool vn) (.slice va vl vc) (.int .i64 vx)
   exact bodyPost_ret (v:=.agg #[.bool vn,.slice va vl vc,.int .i64 vx]) (by simp[results,Tryz.results161,go_sem,f0,f1,f2]) rfl ⟨⟨_,rfl,this.1⟩,this.2⟩
theorem settled_any (w:World)(n cap g:Nat)(x:Int)(C:List Int)(hn:C.length=n)(hn2:n<60000000)(hb:∀j,-9223372036854775807≤C.getD j 0∧C.getD j 0≤9223372036854775807)(T:Int)(hT:cv C=T)(h1:-(2:Int)^(30*n)<T)(h2:T<(2:Int)^(30*n))(u0:World)(hTab:Tab u0)(hk:Kept u0 w)(hg:u0.heap.size≤g)(ho:Own w g cap C)(Res:Option Nm)(hRes:frm (decide (T<0)) T.natAbs x=Res):
  Calls Tryz.prog 161 #[.slice (some ⟨g,0,none⟩) n cap,.int .i64 x] w fun e w'=>ToldR Res u0 w' e∧Kept u0 w':=by
 have hcar:=carried C T hT (by rw[hn];exact h1) (by rw[hn];exact h2)
 have hD1:=cr_dg 1 0 C
 have hD2:=cr_dg (-1) 0 (cr 1 0 C).1
 have lD1:(cr 1 0 C).1.length=n:=by rw[cr_length,hn]
 have lD2:(cr (-1) 0 (cr 1 0 C).1).1.length=n:=by rw[cr_length,lD1]
 refine settled_walk w n cap g x C (cr 1 0 C).1 (cr (-1) 0 (cr 1 0 C).1).1 (decide (T<0)) u0 hk hg ho ?_ ?_ Res ?_
 ·intro u ho
  have:=carry_any C 1 (.inl rfl) g cap (by rw[hn];omega) hb u ho
  rw[hn,hcar.1]at this
  exact this
 ·intro hng u ho
  have:=carry_any (cr 1 0 C).1 (-1) (.inr rfl) g cap (by rw[lD1];omega) (fun j=>by have:=hD1.getD j;omega) u ho
  rw[lD1]at this
  refine this.mono ?_
  rintro e w' ⟨rfl,r⟩
  exact⟨⟨_,rfl⟩,r⟩
 ·intro u k1 ho
  subst hRes
  obtain⟨D,hDe,hDd,hDl,hDv⟩:∃D,(if decide (T<0)=true then (cr (-1) 0 (cr 1 0 C).1).1 else (cr 1 0 C).1)=D∧Dg D∧D.length=n∧nv D=T.natAbs:=by
   by_cases hneg:T<0
   ·exact⟨_,by rw[if_pos (decide_eq_true hneg)],hD2,lD2,hcar.2.2 hneg⟩
   ·exact⟨_,by rw[if_neg (by simpa using hneg)],hD1,lD1,hcar.2.1 hneg⟩
  rw[hDe]at ho
  rw[←hDv]
  cases hfr:frm (decide (T<0)) (nv D) x with
  |none=>
   have hf:=form_no (decide (T<0)) D hDd (by omega) g cap x u ho (hTab.kept k1) hfr
   rw[hDl]at hf
   refine hf.mono ?_
   rintro e w' ⟨rfl,k⟩
   exact⟨rfl,k1.trans k,k.toGrw g⟩
  |some r=>
   have hf:=form_okg (decide (T<0)) D hDd (by omega) g cap x u0 u k1 hg ho (hTab.kept k1) r hfr
   rw[hDl]at hf
   exact hf
end Go.Proofs.YtnniljhdcplkgaaGreatDoor
