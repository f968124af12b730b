/-  -/
import Derived.Test.YtaglkncdedeipaaGreatDoorWt06
import Derived.Test.YtaglkncdedeipaaGreatDoorWt07
import Derived.Test.YtaglkncdedeipaaGreatDoorWt04
import Derived.Test.YtaglkncdedeipaaGreatDoorWt05
import Derived.BigRegion
namespace Go.Proofs.YtaglkncdedeipaaGreatDoor
open Go.ChangeShapes Go.WideShapes Go.ChangeAt Go.RowKit
set_option linter.unusedVariables false
set_option linter.unusedSimpArgs false
set_option maxHeartbeats 16000000
set_option maxRecDepth 100000
structure GrwS (S:List Nat) (w w':World):Prop where
 os:w'.os=w.os
 tape:w'.tape=w.tape
 output:w'.output=w.output
 size:w.heap.size≤w'.heap.size
 block:∀i,i<w.heap.size→i∉S→w'.heap[i]?=w.heap[i]?
 frozen:∀a,w'.frozen? a=w.frozen? a
theorem GrwS.refl (S:List Nat)(w:World):GrwS S w w:=⟨rfl,rfl,rfl,qoo _,fun _ _ _=>rfl,fun _=>rfl⟩
theorem GrwS.trans {S:List Nat}{a b c:World}(h:GrwS S a b)(k:GrwS S b c):GrwS S a c:=
 ⟨k.os.trans h.os,k.tape.trans h.tape,k.output.trans h.output,qou h.size k.size,fun i hi hn=>(k.block i (qok hi h.size) hn).trans (h.block i hi hn),fun x=>(k.frozen x).trans (h.frozen x)⟩
theorem GrwS.mono {S S':List Nat}{a b:World}(h:GrwS S a b)(hs:∀i∈S,i∈S'):GrwS S' a b:=
 ⟨h.os,h.tape,h.output,h.size,fun i hi hn=>h.block i hi (fun hm=>hn (hs i hm)),h.frozen⟩
theorem GrwS.then {S S':List Nat}{a b c:World}(h:GrwS S a b)(k:GrwS S' b c)(hs:∀i∈S',i∈S∨a.heap.size≤i):GrwS S a c:=
 ⟨k.os.trans h.os,k.tape.trans h.tape,k.output.trans h.output,qou h.size k.size,fun i hi hn=>(k.block i (qok hi h.size) (fun hm=>by rcases hs i hm with h1|h1;exact hn h1;omega)).trans (h.block i hi hn),fun x=>(k.frozen x).trans (h.frozen x)⟩
theorem Kept.toS {a b:World}(S:List Nat)(h:Kept a b):GrwS S a b:=⟨h.below.os,h.below.tape,h.below.output,h.below.size,fun i hi _=>h.below.block i hi,h.frozen⟩
theorem Grw.toS {g:Nat}{a b:World}(h:Grw g a b):GrwS [g] a b:=⟨h.grown.os,h.grown.tape,h.grown.output,h.grown.size,fun i hi hn=>h.grown.block i hi (by simpa using hn),h.frozen⟩
theorem Kept.grwS {S:List Nat}{a b c:World}(h:Kept a b)(hS:∀i∈S,a.heap.size≤i)(k:GrwS S b c):Kept a c:=
 ⟨⟨k.os.trans h.below.os,k.tape.trans h.below.tape,k.output.trans h.below.output,qou h.below.size k.size,fun i hi=>(k.block i (qok hi h.below.size) (fun hm=>by have:=hS i hm;omega)).trans (h.below.block i hi)⟩,fun x=>(k.frozen x).trans (h.frozen x)⟩
theorem GrwS.setCell {S:List Nat}{a b:World}(h:GrwS S a b){p:Addr}(hp:p.block∈S∨a.heap.size≤p.block)(u:Value):GrwS S a (b.setCell p u):=
 ⟨h.os,h.tape,h.output,by simpa using h.size,fun i hi hn=>(Below.heap_setCell b p u i (fun e=>by subst e;rcases hp with h1|h1;exact hn h1;omega)).trans (h.block i hi hn),fun x=>(World.frozen?_setCell _ _ _ _).trans (h.frozen x)⟩
def blk (v:Value):List Nat:=match v with
 | .slice (some a) _ _=>[a.block]
 |_=>[]
theorem OwnV.grwS {S:List Nat}{w w':World}{g cap:Nat}{e:TypeId}{V:List Value}(h:OwnV w g cap e V)(k:GrwS S w w')(hne:g∉S):OwnV w' g cap e V:=by
 have hl:=h.lt
 obtain⟨cur,hg,r⟩:=h
 exact⟨cur,(k.block g hl hne).trans hg,r⟩
theorem Rw.lt {w:World}{v:Value}{e:TypeId}{V:List Value}(h:Rw w v e V):∀b∈blk v,b<w.heap.size:=by
 rcases h with ⟨-,rfl⟩|⟨g,cap,rfl,ho⟩
 ·intro b hb;cases hb
 ·intro b hb
  obtain rfl:b=g:=by simpa [blk] using hb
  exact ho.lt
theorem Rw.grwS {S:List Nat}{w w':World}{v:Value}{e:TypeId}{V:List Value}(h:Rw w v e V)(k:GrwS S w w')(hn:∀b∈blk v,b∉S):Rw w' v e V:=by
 rcases h with h|⟨g,cap,rfl,ho⟩
 ·exact .inl h
 ·exact .inr ⟨g,cap,rfl,ho.grwS k (hn g (by simp[blk]))⟩
theorem Rw.kept {w w':World}{v:Value}{e:TypeId}{V:List Value}(h:Rw w v e V)(k:Kept w w'):Rw w' v e V:=h.grwS (k.toS []) (fun _ _ h=>by cases h)
theorem Rw.sl {w:World}{v:Value}{L:List Int}(h:Rw w v 3 (L.map (Value.int .i64))):Sl w v L:=by
 rcases h with ⟨e,rfl⟩|⟨g,cap,rfl,ho⟩
 ·obtain rfl:L=[]:=by simpa using e
  exact⟨none,0,rfl,qoo _,by simp[maxLen],fun h=>absurd rfl h⟩
 ·have:=(own_v.2 ho).sl
  rw[List.length_map]
  exact this
theorem Rw.shape {w:World}{v:Value}{e:TypeId}{V:List Value}(h:Rw w v e V):∃ao c,v=.slice ao V.length c:=by
 rcases h with ⟨rfl,rfl⟩|⟨g,cap,rfl,ho⟩
 ·exact⟨_,_,rfl⟩
 ·exact⟨_,_,rfl⟩
abbrev qoi (L:List Int):List Value:=L.map (Value.int .i64)
theorem Sl.shape {w:World}{v:Value}{L:List Int}(h:Sl w v L):∃ao c,v=.slice ao L.length c:=by
 obtain⟨ao,c,e,-⟩:=h
 exact⟨ao,c,e⟩
def qmn (M:Nat→List Int)(i:Nat)(L:List Int):Nat→List Int:=fun j=>if j=i then L else M j
def Mk (n:Nat→Nat)(M:Nat→List Int)(k j:Nat):Prop:=(∀i,i<k→∀t,t<n i→(M i).getD t 0=-2-(i:Int))∧∀t,t<j→(M k).getD t 0=-2-(k:Int)
theorem Mk.start (n:Nat→Nat)(M:Nat→List Int):Mk n M 0 0:=⟨fun i h=>by omega,fun t h=>by omega⟩
theorem Mk.step {n:Nat→Nat}{M:Nat→List Int}{k j:Nat}(h:Mk n M k j)(hj:j<(M k).length):Mk n (qmn M k ((M k).set j (-2-(k:Int)))) k (j+1):=by
 refine⟨fun i hi t ht=>?_,fun t ht=>?_⟩
 ·unfold qmn
  rw[if_neg (by omega)]
  exact h.1 i hi t ht
 ·unfold qmn
  rw[if_pos rfl,qon,List.getElem?_set]
  split
  ·rfl
  ·rw[←qon]
   exact h.2 t (by omega)
theorem Mk.next {n:Nat→Nat}{M:Nat→List Int}{k:Nat}(h:Mk n M k (n k)):Mk n M (k+1) 0:=by
 refine⟨fun i hi t ht=>?_,fun t ht=>by omega⟩
 by_cases e:i=k
 ·subst e;exact h.2 t ht
 ·exact h.1 i (by omega) t ht
theorem NumAt.shape {w:World}{v:Value}{x:Nm}(h:NumAt w v x):∃ao c,v=.agg #[.bool x.neg,.slice ao x.mag.length c,.int .i64 x.exp]:=by
 obtain⟨s,rfl,ao,c,rfl,-⟩:=h
 exact⟨ao,c,rfl⟩
theorem vL (ng:Bool)(ao:Option Addr)(n c:Nat)(ex:Int)(w:World):
  Calls Tryz.prog 96 #[.agg #[.bool ng,.slice ao n c,.int .i64 ex]] w fun e w'=>e=.returned (.agg #[.bool (if n=0 then ng else !ng),.slice ao n c,.int .i64 ex])∧Kept w w':=by
 have hK:Kept w ((w.alloc (.cells #[.bool ng,.slice ao n c,.int .i64 ex] 31)).alloc jh):=((qo0 w).alloc _ _).alloc _ _
 rcases n with _|n
 all_goals
  go_enter Tryz.func96,Tryz.ntmps96
  go_wp2
 ·exact qoz (v:=.agg #[.bool ng,.slice ao 0 c,.int .i64 ex]) (by simp[results,Tryz.results96,go_sem]) rfl ⟨rfl,((qo0 w).alloc _ _).alloc _ _⟩
 ·exact qoz (v:=.agg #[.bool (!ng),.slice ao (n+1) c,.int .i64 ex]) (by simp[results,Tryz.results96,go_sem]) rfl ⟨rfl,((qo0 w).alloc _ _).alloc _ _⟩
theorem YF (ng:Bool)(ao:Option Addr)(n c:Nat)(ex:Int)(w:World):
  Calls Tryz.prog 95 #[.agg #[.bool ng,.slice ao n c,.int .i64 ex]] w fun e w'=>e=.returned (.int .i64 (if n=0 then 0 else if ng then -1 else 1))∧Kept w w':=by
 rcases n with _|n
 ·go_enter Tryz.func95,Tryz.ntmps95
  go_wp2
  go_ret
  exact⟨rfl,(qo0 _).alloc _ _⟩
 ·cases ng
  all_goals
   go_enter Tryz.func95,Tryz.ntmps95
   go_wp2
   go_ret
   exact⟨rfl,(qo0 _).alloc _ _⟩
def RNp (P:Nat→Prop)(w:World)(v:Value)(r:Nm):Prop:=∃s,v=.agg #[.bool r.neg,s,.int .i64 r.exp]∧RLp P w s r.mag
theorem RNp.kept {P:Nat→Prop}{w w':World}{v:Value}{r:Nm}(h:RNp P w v r)(k:Kept w w'):RNp P w' v r:=by
 obtain⟨s,e,hs⟩:=h
 exact⟨s,e,hs.kept k⟩
theorem RNp.imp {P Q:Nat→Prop}{w:World}{v:Value}{r:Nm}(h:RNp P w v r)(hpq:∀b,P b→Q b):RNp Q w v r:=by
 obtain⟨s,e,hs⟩:=h
 exact⟨s,e,hs.imp hpq⟩
theorem RNp.shape {P:Nat→Prop}{w:World}{v:Value}{r:Nm}(h:RNp P w v r):∃ao c,v=.agg #[.bool r.neg,.slice ao r.mag.length c,.int .i64 r.exp]∧RLp P w (.slice ao r.mag.length c) r.mag:=by
 obtain⟨s,rfl,h⟩:=h
 have h':=h
 obtain⟨ao,c,rfl,-⟩:=h'
 exact⟨ao,c,rfl,h⟩
theorem RNp.numAt {P:Nat→Prop}{w:World}{v:Value}{r:Nm}(h:RNp P w v r):NumAt w v r:=by
 obtain⟨s,rfl,ao,c,rfl,-,hs,-⟩:=h
 exact⟨_,rfl,hs⟩
theorem RLp.shape {P:Nat→Prop}{w:World}{v:Value}{M:List Int}(h:RLp P w v M):∃ao c,v=.slice ao M.length c:=by
 obtain⟨ao,c,e,-⟩:=h
 exact⟨ao,c,e⟩
theorem RLp.set {P:Nat→Prop}{w:World}{v:Value}{M:List Int}(h:RLp P w v M)(p:Addr)(hp:∀b,P b→b≠p.block)(u:Value):RLp P (w.setCell p u) v M:=by
 obtain⟨ao,c,rfl,hc,⟨ao',c',e,h1,h2,hr⟩,hP⟩:=h
 cases e
 refine⟨ao,c,rfl,hc,⟨ao,c,rfl,h1,h2,fun hne=>?_⟩,hP⟩
 obtain⟨b,off,rfl,hb,hr⟩:=hr hne
 have hbp:=hp b (hP b off hne rfl)
 refine⟨b,off,rfl,by simpa using hb,fun i hi=>?_⟩
 exact(World.cell?_of_block (a:=⟨b,off+i,none⟩) (Below.heap_setCell w p u b hbp)).trans (hr i hi)
theorem RLp.here {P:Nat→Prop}{w:World}{v:Value}{M:List Int}(h:RLp P w v M):RLp (fun b=>P b∧b<w.heap.size) w v M:=by
 obtain⟨ao,c,rfl,hc,hs,hP⟩:=h
 refine⟨ao,c,rfl,hc,hs,fun b off hne e=>⟨hP b off hne e,?_⟩⟩
 obtain⟨ao',c',e',h1,h2,hr⟩:=hs
 cases e'
 obtain⟨b',off',e2,hb,-⟩:=hr hne
 rw[e]at e2
 cases e2
 exact hb
theorem RNp.here {P:Nat→Prop}{w:World}{v:Value}{r:Nm}(h:RNp P w v r):RNp (fun b=>P b∧b<w.heap.size) w v r:=by
 obtain⟨s,e,hs⟩:=h
 exact⟨s,e,hs.here⟩
theorem RNp.done {P:Nat→Prop}{w:World}{v:Value}{r:Nm}(h:RNp P w v r)(p:Nat)(hp:∀b,P b→b≠p)(x y z:Value):RNp P (((w.setCell ⟨p,0,none⟩ x).setCell ⟨p,1,none⟩ y).setCell ⟨p,2,none⟩ z) v r:=by
 obtain⟨s,e,hs⟩:=h
 exact⟨s,e,((hs.set ⟨p,0,none⟩ hp x).set ⟨p,1,none⟩ hp y).set ⟨p,2,none⟩ hp z⟩
theorem qcb (M:List Int)(hD:Dg M):nv M≠0→tzn (nv M)<30*M.length:=fun h=>by
 obtain⟨h1,h2⟩:=vJ (nv M) h
 have h3:=zg _ _ (zJ M hD)
 have h4:=qO _ h2
 omega
def nrm (neg:Bool)(v:Nat)(x:Int):Nm:=if v=0 then ⟨false,[],0⟩else ⟨neg,digs (v/2^tzn v),wrap64 (x+(tzn v:Int))⟩
theorem ZC (neg:Bool)(v:Nat)(x:Int):frm neg v x=if vld (nrm neg v x)=true then some (nrm neg v x)else none:=by
 unfold frm nrm
 by_cases h0:v=0
 ·rw[if_pos h0,if_pos h0,if_pos (by decide)]
 ·rw[if_neg h0,if_neg h0]
  obtain⟨hb,hne⟩:=vJ v h0
  obtain⟨hodd,hm⟩:=Zk v h0
  generalize v/2^tzn v=q at *
  generalize wrap64 (x+(tzn v:Int))=y at *
  have hdn:digs q≠[]:=fun h=>by
   have:=qQ q
   rw[h]at this
   exact hne this.symm
  have hl:=Qc q hne
  have hv:vld ⟨neg,digs q,y⟩=decide (bl v-tzn v≤60000∧-1048576≤y∧y≤1048576):=by
   unfold vld
   rw[if_neg hdn]
   unfold ZR
   dsimp only
   have g1:=vw q hne
   have g2:dgb (digs q)=true:=(yN _).2 (za q)
   have g3:bits .and .i64 ((digs q).getD 0 0) 1=1:=by
    rw[jJ q hne,List.getD_cons_zero,Qa]
    omega
   rw[Bool.eq_iff_iff]
   simp only[g2,g3,Bool.and_true,Bool.and_eq_true,bne_iff_ne,ne_eq,beq_self_eq_true,qor]
   constructor
   ·rintro⟨⟨⟨h1,-⟩,h2⟩,h3⟩
    exact⟨by omega,h2,h3⟩
   ·rintro⟨h1,h2,h3⟩
    exact⟨⟨⟨by omega,g1⟩,h2⟩,h3⟩
  by_cases hc:bl v-tzn v≤60000∧-1048576≤y∧y≤1048576
  ·rw[if_pos hc,hv,if_pos (by simpa using hc)]
  ·rw[if_neg hc,hv,if_neg (by simpa using hc)]
theorem Qx (w:World)(neg:Bool)(M:List Int)(va:Value)(ha:RL w va M)(hD:Dg M)(la:M.length<1000000)(x:Int):Calls Tryz.prog 100 #[.bool neg,va,.int .i64 x] w fun e w'=>(∃v,e=.returned v∧RNp (qn w.heap.size) w' v (nrm neg (nv M) x))∧Kept w w':=by
 have hK:Kept w (qP w):=(qo0 w).alloc _ _
 have KL:Hid (Calls Tryz.prog 126 #[va] (qP w) fun e w'=>e=.returned (.int .i64 (QQ (nv M)))∧qP w=w'):=kJ (qP w) va M (ha.kept hK) hD (by omega)
 have hlen:=qcb M hD
 have hlow:nv M≠0→QQ (nv M)=(tzn (nv M):Int):=fun h=>by rw[QQ,if_neg h]
 have KS:Hid (nv M≠0→∀k:Nat,k=tzn (nv M)→Calls Tryz.prog 127 #[va,.int .i64 (k:Int)] (qP w) fun e w'=>(∃r,e=.returned r∧RLp (qn (qP w).heap.size) w' r (digs (nv M/2^k)))∧Kept (qP w) w'):=fun h0 k hk=>vR (qP w) M k va (ha.kept hK) hD la (by have:=hlen h0;omega)
 obtain⟨ao,c,rfl,-,-⟩:=ha
 by_cases h0:nv M=0
 ·have e:nrm neg (nv M) x=⟨false,[],0⟩:=by rw[nrm,if_pos h0]
  have hl:QQ (nv M)=-1:=by rw[QQ,if_pos h0]
  rw[e]
  rw[hl]at KL
  clear KS hlow hlen hl e h0
  generalize M.length=n at *
  go_enter Tryz.func100,Tryz.ntmps100
  go_wp2_with (first|(go_at_call 126;refine KL.out.mono ?_;rintro e w1 ⟨rfl,rfl⟩))
  refine qoz (v:=Qb) (by simp[results,Tryz.results100,go_sem]) rfl ⟨⟨_,rfl,⟨_,rfl,RLp.nil _ _⟩⟩,hK⟩
 ·obtain⟨k,hk⟩:∃k,tzn (nv M)=k:=⟨_,rfl⟩
  have hkb:=hlen h0
  have e:nrm neg (nv M) x=⟨neg,digs (nv M/2^k),wrap64 (x+(k:Int))⟩:=by rw[nrm,if_neg h0,hk]
  have KS2:Hid (Calls Tryz.prog 127 #[.slice ao M.length c,.int .i64 (k:Int)] (qP w) fun e w'=>(∃r,e=.returned r∧RLp (qn (qP w).heap.size) w' r (digs (nv M/2^k)))∧Kept (qP w) w'):=KS.out h0 k hk.symm
  rw[hlow h0,hk]at KL
  rw[e]
  obtain⟨Q,hQ⟩:∃Q,digs (nv M/2^k)=Q:=⟨_,rfl⟩
  rw[hQ]at KS2 ⊢
  have hkb2:k<100000000:=by omega
  clear KS hlow hlen e hk h0 hQ hkb
  generalize M.length=n at *
  go_enter Tryz.func100,Tryz.ntmps100
  go_wp2_with (first|(go_at_call 126;refine KL.out.mono ?_;rintro e w1 ⟨rfl,rfl⟩)|(go_at_call 127;refine KS2.out.mono ?_;rintro e w2 ⟨⟨r,rfl,hr⟩,hk1⟩;obtain⟨ra,rc,rfl⟩:=hr.shape;obtain⟨f0,f1,f2,f3⟩:=j9 hk1))
  have hR:RNp (qn (qP w).heap.size) w2 (.agg #[.bool neg,.slice ra Q.length rc,.int .i64 (wrap64 (x+(k:Int)))]) ⟨neg,Q,wrap64 (x+(k:Int))⟩:=⟨_,rfl,hr⟩
  have hd:=(hR.done w.heap.size (fun b hb=>by simp[qn]at hb;omega) (.bool neg) (.slice ra Q.length rc) (.int .i64 (wrap64 (x+(k:Int))))).imp (Q:=qn w.heap.size) (fun b hb=>by simp[qn]at hb ⊢;omega)
  have hkk:=(hK.trans hk1).setCell (p:=⟨w.heap.size,0,none⟩) (qoo _) (.bool neg)|>.setCell (p:=⟨w.heap.size,1,none⟩) (qoo _) (.slice ra Q.length rc)|>.setCell (p:=⟨w.heap.size,2,none⟩) (qoo _) (.int .i64 (wrap64 (x+(k:Int))))
  refine qoz (v:=.agg #[.bool neg,.slice ra Q.length rc,.int .i64 (wrap64 (x+(k:Int)))]) (by simp[results,Tryz.results100,go_sem,f0,f1,f2]) rfl ⟨⟨_,rfl,hd⟩,hkk⟩
theorem RNp.shape5 {P:Nat→Prop}{w:World}{v:Value}{r:Nm}(h:RNp P w v r):∃n ao l c x,v=.agg #[.bool n,.slice ao l c,.int .i64 x]:=by
 obtain⟨ao,c,e,-⟩:=h.shape
 exact⟨_,_,_,_,_,e⟩
theorem ZD {L:List Int}(h:Cn L):digs (nv L)=L:=by
 refine Zj L h.1 ?_
 by_cases e:L=[]
 ·exact .inl e
 ·exact .inr (h.2 e)
theorem XT (m n:Nat)(h:m≤n):(digs m).length≤(digs n).length:=qC m _ (Nat.lt_of_le_of_lt h (qS n _ (qoo _)))
def pls (a b:Nm):Nm:=if a.mag=[]then b else if b.mag=[]then a else nrm (decide (tot a b (min a.exp b.exp)<0)) (tot a b (min a.exp b.exp)).natAbs (min a.exp b.exp)
theorem qfr (P:Nat→Prop)(w:World)(n1 n2:Bool)(a1 a2:Option Addr)(l1 c1 l2 c2:Nat)(x1 x2 lo:Int)(k1 k2:Nat)(p q:Nat)(hl1:((l1:Int)==0)=false)(hl2:((l2:Int)==0)=false)(hlo:min x1 x2=lo)(hk1:IntKind.i64.wrap (x1-lo)=(k1:Int))(hk2:IntKind.i64.wrap (x2-lo)=(k2:Int))(r:Nm)
  (K1:Hid (∀u,Kept w u→Calls Tryz.prog 122 #[.slice a1 l1 c1,.int .i64 (k1:Int)] u fun e w'=>(∃s,e=.returned s∧RLp (qn u.heap.size) w' s (digs p))∧Kept u w'))
  (K2:Hid (∀u,Kept w u→Calls Tryz.prog 122 #[.slice a2 l2 c2,.int .i64 (k2:Int)] u fun e w'=>(∃s,e=.returned s∧RLp (qn u.heap.size) w' s (digs q))∧Kept u w'))
  (lp:(digs p).length<900000) (lq:(digs q).length<900000)
  (R1:Hid (n1=n2→nrm n1 (p+q) lo=r)) (R2:Hid (n1≠n2→q≤p→nrm n1 (p-q) lo=r)) (R3:Hid (n1≠n2→p<q→nrm n2 (q-p) lo=r)) (lpq:(digs (p+q)).length<1000000):
  Calls Tryz.prog 94 #[.agg #[.bool n1,.slice a1 l1 c1,.int .i64 x1],.agg #[.bool n2,.slice a2 l2 c2,.int .i64 x2]] w fun e w'=>(∃v,e=.returned v∧RNp (fun c=>P c∨w.heap.size≤c) w' v r)∧Kept w w':=by
 obtain⟨W,hW⟩:∃W,W=(((w.alloc (.cells #[.bool n1,.slice a1 l1 c1,.int .i64 x1] 31)).alloc (.cells #[.bool n2,.slice a2 l2 c2,.int .i64 x2] 31)).alloc jh):=⟨_,rfl⟩
 have hK:Kept w W:=by rw[hW];exact(((qo0 w).alloc _ _).alloc _ _).alloc _ _
 have hWs:W.heap.size=w.heap.size+3:=by rw[hW];simp
 have HS:Hid (∀u,Kept W u→((u.cell? ⟨w.heap.size,0,none⟩=some (.bool n1)∧u.cell? ⟨w.heap.size,1,none⟩=some (.slice a1 l1 c1))∧u.cell? ⟨w.heap.size,2,none⟩=some (.int .i64 x1))∧(u.cell? ⟨w.heap.size+1,0,none⟩=some (.bool n2)∧u.cell? ⟨w.heap.size+1,1,none⟩=some (.slice a2 l2 c2))∧u.cell? ⟨w.heap.size+1,2,none⟩=some (.int .i64 x2)):=fun u k=>⟨⟨⟨((k.below.cell (p:=⟨w.heap.size,0,none⟩) (by show w.heap.size<W.heap.size;omega)).trans (by rw[hW];simp[go_sem])),((k.below.cell (p:=⟨w.heap.size,1,none⟩) (by show w.heap.size<W.heap.size;omega)).trans (by rw[hW];simp[go_sem]))⟩,((k.below.cell (p:=⟨w.heap.size,2,none⟩) (by show w.heap.size<W.heap.size;omega)).trans (by rw[hW];simp[go_sem]))⟩,⟨((k.below.cell (p:=⟨w.heap.size+1,0,none⟩) (by show w.heap.size+1<W.heap.size;omega)).trans (by rw[hW];simp[go_sem])),((k.below.cell (p:=⟨w.heap.size+1,1,none⟩) (by show w.heap.size+1<W.heap.size;omega)).trans (by rw[hW];simp[go_sem]))⟩,((k.below.cell (p:=⟨w.heap.size+1,2,none⟩) (by show w.heap.size+1<W.heap.size;omega)).trans (by rw[hW];simp[go_sem]))⟩
 have HC:Hid (W.cell? ⟨w.heap.size+1+1,0,none⟩=some (.bool false)∧W.cell? ⟨w.heap.size+1+1,1,none⟩=some (.slice none 0 0)∧W.cell? ⟨w.heap.size+1+1,2,none⟩=some (.int .i64 0)∧∀o,W.frozen? ⟨w.heap.size+1+1,o,none⟩=false):=by rw[hW];exact⟨by simp[go_sem],by simp[go_sem],by simp[go_sem],fun o=>by simp[go_sem]⟩
 have NN:Hid (∀u (ng:Bool) (va:Value) (z:Nat),RLp (qn W.heap.size) u va (digs z)→(digs z).length<1000000→Kept W u→Calls Tryz.prog 100 #[.bool ng,va,.int .i64 lo] u fun e w'=>(∃v,e=.returned v∧RNp (qn W.heap.size) w' v (nrm ng z lo))∧Kept u w'):=fun u ng va z h hl kw=>by
  have:=Qx u ng (digs z) va h.rl (za z) hl lo
  rw[qQ]at this
  refine this.mono ?_
  rintro e w' ⟨⟨v,rfl,hv⟩,k⟩
  exact⟨⟨v,rfl,hv.imp (fun b hb=>qou kw.below.size hb)⟩,k⟩
 go_enter Tryz.func94,Tryz.ntmps94
 go_upto_region 1 with fail
 rw[←hW]
 clear hW
 have e0:=HS.out _ (qo0 W)
 go_wp2_with fail
 refine(K1.out _ hK).mono ?_
 rintro e u1 ⟨⟨vp,rfl,hp⟩,kq1⟩
 clear e0
 have e0:=HS.out _ kq1
 go_wp2_with fail
 refine(K2.out _ (hK.trans kq1)).mono ?_
 rintro e u2 ⟨⟨vq,rfl,hq⟩,kq2⟩
 clear e0
 have kq:=kq1.trans kq2
 have HPp:Hid (RLp (qn W.heap.size) u2 vp (digs p)):=hp.kept kq2
 have HQq:Hid (RLp (qn W.heap.size) u2 vq (digs q)):=hq.imp (fun b hb=>qou kq1.below.size hb)
 clear hp hq K1 K2
 have e0:=HS.out _ kq
 by_cases hn:n1=n2
 ·have hne:(n1==n2)=true:=by simpa using hn
  have hr:=R1.out hn
  clear R1 R2 R3 hn
  go_wp2_with fail
  clear e0
  have kr0:=kq.drew
  refine qo1 (S:=fun u=>Kept w u∧((u.cell? ⟨w.heap.size,0,none⟩=some (.bool n1)∧u.cell? ⟨w.heap.size,1,none⟩=some (.slice a1 l1 c1))∧u.cell? ⟨w.heap.size,2,none⟩=some (.int .i64 x1))∧(u.cell? ⟨w.heap.size+1,0,none⟩=some (.bool n2)∧u.cell? ⟨w.heap.size+1,1,none⟩=some (.slice a2 l2 c2))∧u.cell? ⟨w.heap.size+1,2,none⟩=some (.int .i64 x2)) (by kernel_rfl) ⟨hK.trans kr0,HS.out _ kr0⟩ (fun hHeld0=>?_)
  refine tk (i:=0) (v:=?_) rfl ?_
  simp only[zz]
  refine tk (i:=1) (v:=?_) rfl ?_
  simp only[zz]
  refine tk (i:=2) (v:=?_) rfl ?_
  simp only[zz]
  refine tk (i:=3) (v:=?_) rfl ?_
  simp only[zz]
  refine tk (i:=5) (v:=?_) rfl ?_
  simp only[zz]
  refine qoy (rs:=[4]) (by kernel_rfl) (by simp) ?_
  refine qow rfl (fun K hK9=>?_) qox
  go_simp
  go_wp2_with fail
  refine(JE _ p q vp vq (HPp.out.kept ((qo0 _).drew)).rl (HQq.out.kept ((qo0 _).drew)).rl (by omega) (by omega)).mono ?_
  rintro e x1 ⟨⟨vs,rfl,hs⟩,qq⟩
  have kr1:=kr0.trans qq
  refine hK9.out _ _ ⟨hK.trans kr1,HS.out _ kr1⟩ (fun hHeld1=>?_)
  clear hK9 K
  refine qoy (rs:=[6]) (by kernel_rfl) (by simp) ?_
  refine qow rfl (fun K hK9=>?_) qox
  go_simp
  go_wp2_with fail
  refine(NN.out _ _ _ _ (hs.imp (fun b hb=>qou kr0.below.size hb)) (lpq) kr1).mono ?_
  rintro e x2 ⟨⟨v,rfl,hN⟩,qq2⟩
  obtain⟨vn,va,vl,vc,vx,rfl⟩:=hN.shape5
  have kr2:=kr1.trans qq2
  refine hK9.out _ _ ⟨hK.trans kr2,HS.out _ kr2⟩ (fun hHeld2=>?_)
  clear hK9 K
  have hc:=HC.out
  obtain⟨f0,f1,f2,f3⟩:=zH (w.heap.size+1+1) (by omega) kr2 hc.1 hc.2.1 hc.2.2.1 hc.2.2.2
  have kF:=(hK.trans kr2).setCell (p:=⟨w.heap.size+1+1,0,none⟩) (by show w.heap.size≤w.heap.size+1+1;omega) (.bool vn)|>.setCell (p:=⟨w.heap.size+1+1,1,none⟩) (by show w.heap.size≤w.heap.size+1+1;omega) (.slice va vl vc)|>.setCell (p:=⟨w.heap.size+1+1,2,none⟩) (by show w.heap.size≤w.heap.size+1+1;omega) (.int .i64 vx)
  refine qoy (rs:=[7]) (by kernel_rfl) (by simp) ?_
  refine qow rfl (fun K hK9=>?_) qox
  go_simp
  refine hK9.out _ _ ⟨kF,by have q:=HS.out _ kr2;obtain⟨⟨⟨q0,q1⟩,q2⟩,⟨q3,q4⟩,q5⟩:=q;refine⟨⟨⟨?_,?_⟩,?_⟩,⟨?_,?_⟩,?_⟩<;>simp[go_sem,q0,q1,q2,q3,q4,q5]⟩ (fun hHeld9=>?_)
  clear hK9 K
  refine qo2 (by kernel_rfl) ?_ _
  clear hHeld0 hHeld1 hHeld2 hHeld9
  rw[hr]at hN
  have hd:=hN.done (w.heap.size+1+1) (fun b hb=>by simp[qn]at hb;omega) (.bool vn) (.slice va vl vc) (.int .i64 vx)
  go_wp2
  refine qoz (v:=.agg #[.bool vn,.slice va vl vc,.int .i64 vx]) (by simp[results,Tryz.results94,go_sem,f0,f1,f2]) rfl ⟨⟨_,rfl,hd.imp (fun b hb=>by simp[qn]at hb ⊢;omega)⟩,kF⟩
 ·have hne:(n1==n2)=false:=by simpa using hn
  have hne2:¬n1=n2:=hn
  clear R1
  have KC:Hid (Calls Tryz.prog 124 #[vp,vq] u2 fun e w'=>e=.returned (.int .i64 (cz (p:Int) (q:Int)))∧Kept u2 w'):=JF u2 p q vp vq HPp.out.rl HQq.out.rl (by omega) (by omega)
  go_wp2_with fail
  refine KC.out.mono ?_
  rintro e u3 ⟨rfl,kc⟩
  have kq3:=kq.trans kc
  clear e0 KC
  have HPp3:Hid (RLp (qn W.heap.size) u3 vp (digs p)):=HPp.out.kept kc
  have HQq3:Hid (RLp (qn W.heap.size) u3 vq (digs q)):=HQq.out.kept kc
  clear HPp HQq
  by_cases hpq:q≤p
  ·have hr:=R2.out hne2 hpq
   have hcz:0≤cz (p:Int) (q:Int):=by unfold cz;split<;>(try split)<;>omega
   clear R2 R3 hne2 hn
   generalize cz (p:Int) (q:Int)=cc at *
   go_wp2_with fail
   have kr0:=kq3.drew
   refine qo1 (S:=fun u=>Kept w u∧((u.cell? ⟨w.heap.size,0,none⟩=some (.bool n1)∧u.cell? ⟨w.heap.size,1,none⟩=some (.slice a1 l1 c1))∧u.cell? ⟨w.heap.size,2,none⟩=some (.int .i64 x1))∧(u.cell? ⟨w.heap.size+1,0,none⟩=some (.bool n2)∧u.cell? ⟨w.heap.size+1,1,none⟩=some (.slice a2 l2 c2))∧u.cell? ⟨w.heap.size+1,2,none⟩=some (.int .i64 x2)) (by kernel_rfl) ⟨hK.trans kr0,HS.out _ kr0⟩ (fun hHeld0=>?_)
   refine tk (i:=0) (v:=?_) rfl ?_
   simp only[zz]
   refine tk (i:=1) (v:=?_) rfl ?_
   simp only[zz]
   refine tk (i:=2) (v:=?_) rfl ?_
   simp only[zz]
   refine tk (i:=3) (v:=?_) rfl ?_
   simp only[zz]
   refine tk (i:=5) (v:=?_) rfl ?_
   simp only[zz]
   refine qoy (rs:=[4]) (by kernel_rfl) (by simp) ?_
   refine qow rfl (fun K hK9=>?_) qox
   go_simp
   go_wp2_with fail
   refine(kN _ p q hpq vp vq (HPp3.out.kept ((qo0 _).drew)).rl (HQq3.out.kept ((qo0 _).drew)).rl (by omega) (by omega)).mono ?_
   rintro e x1 ⟨⟨vs,rfl,hs⟩,qq⟩
   have kr1:=kr0.trans qq
   refine hK9.out _ _ ⟨hK.trans kr1,HS.out _ kr1⟩ (fun hHeld1=>?_)
   clear hK9 K
   refine qoy (rs:=[6]) (by kernel_rfl) (by simp) ?_
   refine qow rfl (fun K hK9=>?_) qox
   go_simp
   go_wp2_with fail
   refine(NN.out _ _ _ _ (hs.imp (fun b hb=>qou kr0.below.size hb)) (Nat.lt_of_le_of_lt (XT _ _ (Nat.sub_le _ _)) (by omega)) kr1).mono ?_
   rintro e x2 ⟨⟨v,rfl,hN⟩,qq2⟩
   obtain⟨vn,va,vl,vc,vx,rfl⟩:=hN.shape5
   have kr2:=kr1.trans qq2
   refine hK9.out _ _ ⟨hK.trans kr2,HS.out _ kr2⟩ (fun hHeld2=>?_)
   clear hK9 K
   have hc:=HC.out
   obtain⟨f0,f1,f2,f3⟩:=zH (w.heap.size+1+1) (by omega) kr2 hc.1 hc.2.1 hc.2.2.1 hc.2.2.2
   have kF:=(hK.trans kr2).setCell (p:=⟨w.heap.size+1+1,0,none⟩) (by show w.heap.size≤w.heap.size+1+1;omega) (.bool vn)|>.setCell (p:=⟨w.heap.size+1+1,1,none⟩) (by show w.heap.size≤w.heap.size+1+1;omega) (.slice va vl vc)|>.setCell (p:=⟨w.heap.size+1+1,2,none⟩) (by show w.heap.size≤w.heap.size+1+1;omega) (.int .i64 vx)
   refine qoy (rs:=[7]) (by kernel_rfl) (by simp) ?_
   refine qow rfl (fun K hK9=>?_) qox
   go_simp
   refine hK9.out _ _ ⟨kF,by have q:=HS.out _ kr2;obtain⟨⟨⟨q0,q1⟩,q2⟩,⟨q3,q4⟩,q5⟩:=q;refine⟨⟨⟨?_,?_⟩,?_⟩,⟨?_,?_⟩,?_⟩<;>simp[go_sem,q0,q1,q2,q3,q4,q5]⟩ (fun hHeld9=>?_)
   clear hK9 K
   refine qo2 (by kernel_rfl) ?_ _
   clear hHeld0 hHeld1 hHeld2 hHeld9
   rw[hr]at hN
   have hd:=hN.done (w.heap.size+1+1) (fun b hb=>by simp[qn]at hb;omega) (.bool vn) (.slice va vl vc) (.int .i64 vx)
   go_wp2
   refine qoz (v:=.agg #[.bool vn,.slice va vl vc,.int .i64 vx]) (by simp[results,Tryz.results94,go_sem,f0,f1,f2]) rfl ⟨⟨_,rfl,hd.imp (fun b hb=>by simp[qn]at hb ⊢;omega)⟩,kF⟩
  ·have hr:=R3.out hne2 (by omega)
   have hcz:¬0≤cz (p:Int) (q:Int):=by rw[QZ (by omega)];omega
   clear R2 R3 hne2 hn
   generalize cz (p:Int) (q:Int)=cc at *
   go_wp2_with fail
   have kr0:=kq3.drew
   refine qo1 (S:=fun u=>Kept w u∧((u.cell? ⟨w.heap.size,0,none⟩=some (.bool n1)∧u.cell? ⟨w.heap.size,1,none⟩=some (.slice a1 l1 c1))∧u.cell? ⟨w.heap.size,2,none⟩=some (.int .i64 x1))∧(u.cell? ⟨w.heap.size+1,0,none⟩=some (.bool n2)∧u.cell? ⟨w.heap.size+1,1,none⟩=some (.slice a2 l2 c2))∧u.cell? ⟨w.heap.size+1,2,none⟩=some (.int .i64 x2)) (by kernel_rfl) ⟨hK.trans kr0,HS.out _ kr0⟩ (fun hHeld0=>?_)
   refine tk (i:=0) (v:=?_) rfl ?_
   simp only[zz]
   refine tk (i:=1) (v:=?_) rfl ?_
   simp only[zz]
   refine tk (i:=2) (v:=?_) rfl ?_
   simp only[zz]
   refine tk (i:=3) (v:=?_) rfl ?_
   simp only[zz]
   refine tk (i:=5) (v:=?_) rfl ?_
   simp only[zz]
   refine qoy (rs:=[4]) (by kernel_rfl) (by simp) ?_
   refine qow rfl (fun K hK9=>?_) qox
   go_simp
   go_wp2_with fail
   refine(kN _ q p (by omega) vq vp (HQq3.out.kept ((qo0 _).drew)).rl (HPp3.out.kept ((qo0 _).drew)).rl (by omega) (by omega)).mono ?_
   rintro e x1 ⟨⟨vs,rfl,hs⟩,qq⟩
   have kr1:=kr0.trans qq
   refine hK9.out _ _ ⟨hK.trans kr1,HS.out _ kr1⟩ (fun hHeld1=>?_)
   clear hK9 K
   refine qoy (rs:=[6]) (by kernel_rfl) (by simp) ?_
   refine qow rfl (fun K hK9=>?_) qox
   go_simp
   go_wp2_with fail
   refine(NN.out _ _ _ _ (hs.imp (fun b hb=>qou kr0.below.size hb)) (Nat.lt_of_le_of_lt (XT _ _ (Nat.sub_le _ _)) (by omega)) kr1).mono ?_
   rintro e x2 ⟨⟨v,rfl,hN⟩,qq2⟩
   obtain⟨vn,va,vl,vc,vx,rfl⟩:=hN.shape5
   have kr2:=kr1.trans qq2
   refine hK9.out _ _ ⟨hK.trans kr2,HS.out _ kr2⟩ (fun hHeld2=>?_)
   clear hK9 K
   have hc:=HC.out
   obtain⟨f0,f1,f2,f3⟩:=zH (w.heap.size+1+1) (by omega) kr2 hc.1 hc.2.1 hc.2.2.1 hc.2.2.2
   have kF:=(hK.trans kr2).setCell (p:=⟨w.heap.size+1+1,0,none⟩) (by show w.heap.size≤w.heap.size+1+1;omega) (.bool vn)|>.setCell (p:=⟨w.heap.size+1+1,1,none⟩) (by show w.heap.size≤w.heap.size+1+1;omega) (.slice va vl vc)|>.setCell (p:=⟨w.heap.size+1+1,2,none⟩) (by show w.heap.size≤w.heap.size+1+1;omega) (.int .i64 vx)
   refine qoy (rs:=[7]) (by kernel_rfl) (by simp) ?_
   refine qow rfl (fun K hK9=>?_) qox
   go_simp
   refine hK9.out _ _ ⟨kF,by have q:=HS.out _ kr2;obtain⟨⟨⟨q0,q1⟩,q2⟩,⟨q3,q4⟩,q5⟩:=q;refine⟨⟨⟨?_,?_⟩,?_⟩,⟨?_,?_⟩,?_⟩<;>simp[go_sem,q0,q1,q2,q3,q4,q5]⟩ (fun hHeld9=>?_)
   clear hK9 K
   refine qo2 (by kernel_rfl) ?_ _
   clear hHeld0 hHeld1 hHeld2 hHeld9
   rw[hr]at hN
   have hd:=hN.done (w.heap.size+1+1) (fun b hb=>by simp[qn]at hb;omega) (.bool vn) (.slice va vl vc) (.int .i64 vx)
   go_wp2
   refine qoz (v:=.agg #[.bool vn,.slice va vl vc,.int .i64 vx]) (by simp[results,Tryz.results94,go_sem,f0,f1,f2]) rfl ⟨⟨_,rfl,hd.imp (fun b hb=>by simp[qn]at hb ⊢;omega)⟩,kF⟩
theorem V5 (n1 n2:Bool)(L1 L2:List Int)(x1 x2 lo:Int)(k1 k2:Nat)(h1:(x1-lo).toNat=k1)(h2:(x2-lo).toNat=k2):tot ⟨n1,L1,x1⟩ ⟨n2,L2,x2⟩ lo=sg n1 ((nv L1*2^k1:Nat):Int)+sg n2 ((nv L2*2^k2:Nat):Int):=by
 unfold tot
 dsimp only
 rw[h1,h2,Int.natCast_mul,Int.natCast_mul,Int.natCast_pow,Int.natCast_pow]
 rfl
theorem qi4 (n m:Bool)(x:Int):nrm n 0 x=nrm m 0 x:=by simp[nrm]
theorem qlr (n1 n2:Bool)(p q:Nat)(hp:0<p)(hq:0<q)(lo:Int):(n1=n2→nrm n1 (p+q) lo=nrm (decide (sg n1 (p:Int)+sg n2 (q:Int)<0)) (sg n1 (p:Int)+sg n2 (q:Int)).natAbs lo)∧(n1≠n2→q≤p→nrm n1 (p-q) lo=nrm (decide (sg n1 (p:Int)+sg n2 (q:Int)<0)) (sg n1 (p:Int)+sg n2 (q:Int)).natAbs lo)∧(n1≠n2→p<q→nrm n2 (q-p) lo=nrm (decide (sg n1 (p:Int)+sg n2 (q:Int)<0)) (sg n1 (p:Int)+sg n2 (q:Int)).natAbs lo):=by
 refine⟨fun h=>?_,fun h g=>?_,fun h g=>?_⟩
 ·subst h
  cases n1
  ·have e1:decide (sg false (p:Int)+sg false (q:Int)<0)=false:=by simp[sg];omega
   have e2:(sg false (p:Int)+sg false (q:Int)).natAbs=p+q:=by simp[sg];omega
   rw[e1,e2]
  ·have e1:decide (sg true (p:Int)+sg true (q:Int)<0)=true:=by simp[sg];omega
   have e2:(sg true (p:Int)+sg true (q:Int)).natAbs=p+q:=by simp[sg];omega
   rw[e1,e2]
 ·have hn:n2=!n1:=by cases n1<;>cases n2<;>simp_all
  subst hn
  have e2:(sg n1 (p:Int)+sg (!n1) (q:Int)).natAbs=p-q:=by cases n1<;>simp[sg]<;>omega
  rw[e2]
  by_cases e:p=q
  ·rw[e,Nat.sub_self];exact qi4 _ _ _
  ·have e1:decide (sg n1 (p:Int)+sg (!n1) (q:Int)<0)=n1:=by cases n1<;>simp[sg]<;>omega
   rw[e1]
 ·have hn:n1=!n2:=by cases n1<;>cases n2<;>simp_all
  subst hn
  have e2:(sg (!n2) (p:Int)+sg n2 (q:Int)).natAbs=q-p:=by cases n2<;>simp[sg]<;>omega
  have e1:decide (sg (!n2) (p:Int)+sg n2 (q:Int)<0)=n2:=by cases n2<;>simp[sg]<;>omega
  rw[e1,e2]
theorem qdt (L:List Int)(hL:Dg L)(k N:Nat)(h:30*L.length+k≤30*N):(digs (nv L*2^k)).length≤N:=by
 refine qC _ _ ?_
 have h1:=zJ L hL
 calc nv L*2^k<2^(30*L.length)*2^k:=Nat.mul_lt_mul_of_lt_of_le h1 (qoo _) (qoj _)
  _=2^(30*L.length+k):=by rw[←qol]
  _≤2^(30*N):=qom (by decide) h
theorem qfs (P:Nat→Prop)(w:World)(n1 n2:Bool)(a1 a2:Option Addr)(c1 l2 c2:Nat)(x1 x2:Int)(r:Nm)(hb:RNp P w (.agg #[.bool n2,.slice a2 l2 c2,.int .i64 x2]) r):
  Calls Tryz.prog 94 #[.agg #[.bool n1,.slice a1 0 c1,.int .i64 x1],.agg #[.bool n2,.slice a2 l2 c2,.int .i64 x2]] w fun e w'=>(∃v,e=.returned v∧RNp (fun c=>P c∨w.heap.size≤c) w' v r)∧Kept w w':=by
 obtain⟨l1,hl⟩:∃l:Nat,l=0:=⟨_,rfl⟩
 rw[←hl]
 have hl1:((l1:Int)==0)=true:=by rw[hl];rfl
 clear hl
 obtain⟨W,hW⟩:∃W,W=(((w.alloc (.cells #[.bool n1,.slice a1 l1 c1,.int .i64 x1] 31)).alloc (.cells #[.bool n2,.slice a2 l2 c2,.int .i64 x2] 31)).alloc jh):=⟨_,rfl⟩
 have hK:Kept w W:=by rw[hW];exact(((qo0 w).alloc _ _).alloc _ _).alloc _ _
 have hWs:W.heap.size=w.heap.size+3:=by rw[hW];simp
 have HS:Hid (∀u,Kept W u→((u.cell? ⟨w.heap.size,0,none⟩=some (.bool n1)∧u.cell? ⟨w.heap.size,1,none⟩=some (.slice a1 l1 c1))∧u.cell? ⟨w.heap.size,2,none⟩=some (.int .i64 x1))∧(u.cell? ⟨w.heap.size+1,0,none⟩=some (.bool n2)∧u.cell? ⟨w.heap.size+1,1,none⟩=some (.slice a2 l2 c2))∧u.cell? ⟨w.heap.size+1,2,none⟩=some (.int .i64 x2)):=fun u k=>⟨⟨⟨((k.below.cell (p:=⟨w.heap.size,0,none⟩) (by show w.heap.size<W.heap.size;omega)).trans (by rw[hW];simp[go_sem])),((k.below.cell (p:=⟨w.heap.size,1,none⟩) (by show w.heap.size<W.heap.size;omega)).trans (by rw[hW];simp[go_sem]))⟩,((k.below.cell (p:=⟨w.heap.size,2,none⟩) (by show w.heap.size<W.heap.size;omega)).trans (by rw[hW];simp[go_sem]))⟩,⟨((k.below.cell (p:=⟨w.heap.size+1,0,none⟩) (by show w.heap.size+1<W.heap.size;omega)).trans (by rw[hW];simp[go_sem])),((k.below.cell (p:=⟨w.heap.size+1,1,none⟩) (by show w.heap.size+1<W.heap.size;omega)).trans (by rw[hW];simp[go_sem]))⟩,((k.below.cell (p:=⟨w.heap.size+1,2,none⟩) (by show w.heap.size+1<W.heap.size;omega)).trans (by rw[hW];simp[go_sem]))⟩
 have HC:Hid (W.cell? ⟨w.heap.size+1+1,0,none⟩=some (.bool false)∧W.cell? ⟨w.heap.size+1+1,1,none⟩=some (.slice none 0 0)∧W.cell? ⟨w.heap.size+1+1,2,none⟩=some (.int .i64 0)∧∀o,W.frozen? ⟨w.heap.size+1+1,o,none⟩=false):=by rw[hW];exact⟨by simp[go_sem],by simp[go_sem],by simp[go_sem],fun o=>by simp[go_sem]⟩
 go_enter Tryz.func94,Tryz.ntmps94
 go_upto_region 1 with fail
 rw[←hW]
 clear hW
 have kr2:=qo0 W
 have e0:=HS.out _ kr2
 have hN:=hb.here.kept hK
 obtain⟨vn,hvn⟩:∃v,v=n2:=⟨_,rfl⟩
 obtain⟨va,hva⟩:∃v,v=a2:=⟨_,rfl⟩
 obtain⟨vl,hvl⟩:∃v,v=l2:=⟨_,rfl⟩
 obtain⟨vc,hvc⟩:∃v,v=c2:=⟨_,rfl⟩
 obtain⟨vx,hvx⟩:∃v,v=x2:=⟨_,rfl⟩
 subst hvn hva hvl hvc hvx
 have hc:=HC.out
 obtain⟨f0,f1,f2,f3⟩:=zH (w.heap.size+1+1) (by omega) kr2 hc.1 hc.2.1 hc.2.2.1 hc.2.2.2
 have kF:=(hK.trans kr2).setCell (p:=⟨w.heap.size+1+1,0,none⟩) (by show w.heap.size≤w.heap.size+1+1;omega) (.bool vn)|>.setCell (p:=⟨w.heap.size+1+1,1,none⟩) (by show w.heap.size≤w.heap.size+1+1;omega) (.slice va vl vc)|>.setCell (p:=⟨w.heap.size+1+1,2,none⟩) (by show w.heap.size≤w.heap.size+1+1;omega) (.int .i64 vx)
 clear HS HC
 have hd:=hN.done (w.heap.size+1+1) (fun b hb=>by have:=hb.2;omega) (.bool vn) (.slice va vl vc) (.int .i64 vx)
 go_wp2
 refine qoz (v:=.agg #[.bool vn,.slice va vl vc,.int .i64 vx]) (by simp[results,Tryz.results94,go_sem,f0,f1,f2]) rfl ⟨⟨_,rfl,hd.imp (fun b hb=>Or.inl hb.1)⟩,kF⟩
theorem qcc (P:Nat→Prop)(w:World)(n1 n2:Bool)(a1 a2:Option Addr)(l1 c1 c2:Nat)(hl1:((l1:Int)==0)=false)(x1 x2:Int)(r:Nm)(ha:RNp P w (.agg #[.bool n1,.slice a1 l1 c1,.int .i64 x1]) r):
  Calls Tryz.prog 94 #[.agg #[.bool n1,.slice a1 l1 c1,.int .i64 x1],.agg #[.bool n2,.slice a2 0 c2,.int .i64 x2]] w fun e w'=>(∃v,e=.returned v∧RNp (fun c=>P c∨w.heap.size≤c) w' v r)∧Kept w w':=by
 obtain⟨l2,hl⟩:∃l:Nat,l=0:=⟨_,rfl⟩
 rw[←hl]
 have hl2:((l2:Int)==0)=true:=by rw[hl];rfl
 clear hl
 obtain⟨W,hW⟩:∃W,W=(((w.alloc (.cells #[.bool n1,.slice a1 l1 c1,.int .i64 x1] 31)).alloc (.cells #[.bool n2,.slice a2 l2 c2,.int .i64 x2] 31)).alloc jh):=⟨_,rfl⟩
 have hK:Kept w W:=by rw[hW];exact(((qo0 w).alloc _ _).alloc _ _).alloc _ _
 have hWs:W.heap.size=w.heap.size+3:=by rw[hW];simp
 have HS:Hid (∀u,Kept W u→((u.cell? ⟨w.heap.size,0,none⟩=some (.bool n1)∧u.cell? ⟨w.heap.size,1,none⟩=some (.slice a1 l1 c1))∧u.cell? ⟨w.heap.size,2,none⟩=some (.int .i64 x1))∧(u.cell? ⟨w.heap.size+1,0,none⟩=some (.bool n2)∧u.cell? ⟨w.heap.size+1,1,none⟩=some (.slice a2 l2 c2))∧u.cell? ⟨w.heap.size+1,2,none⟩=some (.int .i64 x2)):=fun u k=>⟨⟨⟨((k.below.cell (p:=⟨w.heap.size,0,none⟩) (by show w.heap.size<W.heap.size;omega)).trans (by rw[hW];simp[go_sem])),((k.below.cell (p:=⟨w.heap.size,1,none⟩) (by show w.heap.size<W.heap.size;omega)).trans (by rw[hW];simp[go_sem]))⟩,((k.below.cell (p:=⟨w.heap.size,2,none⟩) (by show w.heap.size<W.heap.size;omega)).trans (by rw[hW];simp[go_sem]))⟩,⟨((k.below.cell (p:=⟨w.heap.size+1,0,none⟩) (by show w.heap.size+1<W.heap.size;omega)).trans (by rw[hW];simp[go_sem])),((k.below.cell (p:=⟨w.heap.size+1,1,none⟩) (by show w.heap.size+1<W.heap.size;omega)).trans (by rw[hW];simp[go_sem]))⟩,((k.below.cell (p:=⟨w.heap.size+1,2,none⟩) (by show w.heap.size+1<W.heap.size;omega)).trans (by rw[hW];simp[go_sem]))⟩
 have HC:Hid (W.cell? ⟨w.heap.size+1+1,0,none⟩=some (.bool false)∧W.cell? ⟨w.heap.size+1+1,1,none⟩=some (.slice none 0 0)∧W.cell? ⟨w.heap.size+1+1,2,none⟩=some (.int .i64 0)∧∀o,W.frozen? ⟨w.heap.size+1+1,o,none⟩=false):=by rw[hW];exact⟨by simp[go_sem],by simp[go_sem],by simp[go_sem],fun o=>by simp[go_sem]⟩
 go_enter Tryz.func94,Tryz.ntmps94
 go_upto_region 1 with fail
 rw[←hW]
 clear hW
 have kr2:=qo0 W
 have e0:=HS.out _ kr2
 have hN:=ha.here.kept hK
 obtain⟨vn,hvn⟩:∃v,v=n1:=⟨_,rfl⟩
 obtain⟨va,hva⟩:∃v,v=a1:=⟨_,rfl⟩
 obtain⟨vl,hvl⟩:∃v,v=l1:=⟨_,rfl⟩
 obtain⟨vc,hvc⟩:∃v,v=c1:=⟨_,rfl⟩
 obtain⟨vx,hvx⟩:∃v,v=x1:=⟨_,rfl⟩
 subst hvn hva hvl hvc hvx
 have hc:=HC.out
 obtain⟨f0,f1,f2,f3⟩:=zH (w.heap.size+1+1) (by omega) kr2 hc.1 hc.2.1 hc.2.2.1 hc.2.2.2
 have kF:=(hK.trans kr2).setCell (p:=⟨w.heap.size+1+1,0,none⟩) (by show w.heap.size≤w.heap.size+1+1;omega) (.bool vn)|>.setCell (p:=⟨w.heap.size+1+1,1,none⟩) (by show w.heap.size≤w.heap.size+1+1;omega) (.slice va vl vc)|>.setCell (p:=⟨w.heap.size+1+1,2,none⟩) (by show w.heap.size≤w.heap.size+1+1;omega) (.int .i64 vx)
 clear HS HC
 have hd:=hN.done (w.heap.size+1+1) (fun b hb=>by have:=hb.2;omega) (.bool vn) (.slice va vl vc) (.int .i64 vx)
 go_wp2
 refine qoz (v:=.agg #[.bool vn,.slice va vl vc,.int .i64 vx]) (by simp[results,Tryz.results94,go_sem,f0,f1,f2]) rfl ⟨⟨_,rfl,hd.imp (fun b hb=>Or.inl hb.1)⟩,kF⟩
theorem qaj (P:Nat→Prop)(w:World)(a b:Nm)(va vb:Value)(ha:RNp P w va a)(hb:RNp P w vb b)(ca:Cn a.mag)(cb:Cn b.mag)(la:a.mag.length<100000)(lb:b.mag.length<100000)(xa:-4000000≤a.exp∧a.exp≤4000000)(xb:-4000000≤b.exp∧b.exp≤4000000):
  Calls Tryz.prog 94 #[va,vb] w fun e w'=>(∃v,e=.returned v∧RNp (fun c=>P c∨w.heap.size≤c) w' v (pls a b))∧Kept w w':=by
 obtain⟨n1,L1,x1⟩:=a
 obtain⟨n2,L2,x2⟩:=b
 obtain⟨a1,c1,rfl,hra⟩:=ha.shape
 obtain⟨a2,c2,rfl,hrb⟩:=hb.shape
 dsimp only at *
 by_cases e1:L1=[]
 ·subst e1
  have:pls ⟨n1,[],x1⟩ ⟨n2,L2,x2⟩=⟨n2,L2,x2⟩:=by simp[pls]
  rw[this]
  exact qfs P w n1 n2 a1 a2 c1 _ c2 x1 x2 _ hb
 have hl1:((L1.length:Int)==0)=false:=by
  have:=List.length_pos_iff.2 e1
  simp;omega
 by_cases e2:L2=[]
 ·subst e2
  have:pls ⟨n1,L1,x1⟩ ⟨n2,[],x2⟩=⟨n1,L1,x1⟩:=by simp[pls,e1]
  rw[this]
  exact qcc P w n1 n2 a1 a2 _ c1 c2 hl1 x1 x2 _ ha
 have hl2:((L2.length:Int)==0)=false:=by
  have:=List.length_pos_iff.2 e2
  simp;omega
 have d1:=ZD ca
 have d2:=ZD cb
 have p1:0<nv L1:=by
  rcases Nat.eq_zero_or_pos (nv L1)with h|h
  ·rw[h,qN]at d1;exact absurd d1.symm e1
  ·exact h
 have p2:0<nv L2:=by
  rcases Nat.eq_zero_or_pos (nv L2)with h|h
  ·rw[h,qN]at d2;exact absurd d2.symm e2
  ·exact h
 obtain⟨lo,hlo⟩:∃lo,min x1 x2=lo:=⟨_,rfl⟩
 obtain⟨k1,hk1⟩:∃k:Nat,(x1-lo).toNat=k:=⟨_,rfl⟩
 obtain⟨k2,hk2⟩:∃k:Nat,(x2-lo).toNat=k:=⟨_,rfl⟩
 have hq:=qlr n1 n2 (nv L1*2^k1) (nv L2*2^k2) (Nat.mul_pos p1 (qoj _)) (Nat.mul_pos p2 (qoj _)) lo
 have hp:pls ⟨n1,L1,x1⟩ ⟨n2,L2,x2⟩=nrm (decide (sg n1 ((nv L1*2^k1:Nat):Int)+sg n2 ((nv L2*2^k2:Nat):Int)<0)) (sg n1 ((nv L1*2^k1:Nat):Int)+sg n2 ((nv L2*2^k2:Nat):Int)).natAbs lo:=by
  unfold pls
  dsimp only
  rw[if_neg e1,if_neg e2,hlo,V5 n1 n2 L1 L2 x1 x2 lo k1 k2 hk1 hk2]
 obtain⟨N,hN⟩:∃N:Nat,N=800000:=⟨_,rfl⟩
 have s1:=qdt L1 ca.1 k1 N (by omega)
 have s2:=qdt L2 cb.1 k2 N (by omega)
 rw[hp]
 refine qfr P w n1 n2 a1 a2 L1.length c1 L2.length c2 x1 x2 lo k1 k2 (nv L1*2^k1) (nv L2*2^k2) hl1 hl2 hlo (by rw[qg];omega) (by rw[qg];omega) _ (fun u k=>?_) (fun u k=>?_) (by omega) (by omega) hq.1 hq.2.1 hq.2.2 ?_
 ·refine jE u (nv L1) k1 _ ?_ (by rw[d1];omega) (by omega)
  rw[d1]
  exact hra.rl.kept k
 ·refine jE u (nv L2) k2 _ ?_ (by rw[d2];omega) (by omega)
  rw[d2]
  exact hrb.rl.kept k
 ·have h1:=qS (nv L1*2^k1) N s1
  have h2:=qS (nv L2*2^k2) N s2
  have h3:nv L1*2^k1+nv L2*2^k2<2^(30*(N+1)):=by
   have:(2:Nat)^(30*N)*2≤2^(30*(N+1)):=by rw[←qov];exact qom (by decide) (by omega)
   omega
  have:=qC _ (N+1) h3
  omega
theorem qfx (w:World)(v:Nat)(hv:v≤9223372036854775807):Calls Tryz.prog 89 #[.int .i64 (v:Int)] w fun e w'=>(∃r,e=.returned r∧RNp (qn w.heap.size) w' r (nrm false v 0))∧Kept w w':=by
 have hK:Kept w (qP w):=(qo0 w).alloc _ _
 have hl:(digs v).length≤3:=qC v 3 (by omega)
 have KF:Hid (Calls Tryz.prog 101 #[.int .i64 (v:Int)] (qP w) fun e w'=>(∃r,e=.returned r∧RLp (qn (qP w).heap.size) w' r (digs v))∧Kept (qP w) w'):=Q9 (qP w) v hv
 have KN:Hid (∀u va,Kept (qP w) u→RLp (qn (qP w).heap.size) u va (digs v)→Calls Tryz.prog 100 #[.bool false,va,.int .i64 0] u fun e w'=>(∃r,e=.returned r∧RNp (qn (qP w).heap.size) w' r (nrm false v 0))∧Kept u w'):=fun u va k h=>by
  have:=Qx u false (digs v) va h.rl (za v) (by omega) 0
  rw[qQ]at this
  refine this.mono ?_
  rintro e w' ⟨⟨r,rfl,hr⟩,kk⟩
  exact⟨⟨r,rfl,hr.imp (fun b hb=>qou k.below.size hb)⟩,kk⟩
 have hv0:¬(v:Int)<0:=by omega
 go_enter Tryz.func89,Tryz.ntmps89
 go_wp2_with (first|(go_at_call 101;refine KF.out.mono ?_;rintro e w1 ⟨⟨va,rfl,hva⟩,k1⟩)|(go_at_call 100;refine(KN.out _ _ k1 hva).mono ?_;rintro e w2 ⟨⟨r,rfl,hN⟩,k2⟩;obtain⟨vn,ao,vl,vc,vx,rfl⟩:=hN.shape5;obtain⟨f0,f1,f2,f3⟩:=j9 (k1.trans k2)))
 have hd:=(hN.done w.heap.size (fun b hb=>by simp[qn]at hb;omega) (.bool vn) (.slice ao vl vc) (.int .i64 vx)).imp (Q:=qn w.heap.size) (fun b hb=>by simp[qn]at hb ⊢;omega)
 have hkk:=(hK.trans (k1.trans k2)).setCell (p:=⟨w.heap.size,0,none⟩) (qoo _) (.bool vn)|>.setCell (p:=⟨w.heap.size,1,none⟩) (qoo _) (.slice ao vl vc)|>.setCell (p:=⟨w.heap.size,2,none⟩) (qoo _) (.int .i64 vx)
 refine qoz (v:=.agg #[.bool vn,.slice ao vl vc,.int .i64 vx]) (by simp[results,Tryz.results89,go_sem,f0,f1,f2]) rfl ⟨⟨_,rfl,hd⟩,hkk⟩
theorem qci (b n:Int)(hb1:-9223372036854775808≤b)(hb2:b≤9223372036854775807)(hn:n=64∨n=32)(hc:cls b n<3)(w:World):Calls Tryz.prog 75 #[.int .i64 b,.int .i64 n] w fun e w'=>(∃v,e=.returned v∧RNp (qn w.heap.size) w' v (nrm (zv b n) (qI b n).toNat (qK b n)))∧Kept w w':=by
 have hK:Kept w (qP w):=(qo0 w).alloc _ _
 have hf:=Je b n hn hc
 have KP:Hid (∀u,Calls Tryz.prog 99 #[.int .i64 b,.int .i64 n] u fun e w'=>e=.returned (.tuple #[.bool (zv b n),.int .i64 (qI b n),.int .i64 (qK b n),.bool true])∧Kept u w'):=fun u=>by
  have:=qbz b n hb1 hb2 u
  rw[VJ b n hn hc]at this
  exact this
 have hm53:qI b n<9223372036854775807:=by
  have h1:=hf.2.1
  have h2:(2:Int)^(qM n).toNat≤9007199254740992:=by rcases hn with rfl|rfl<;>decide
  omega
 obtain⟨v,hv⟩:∃v:Nat,qI b n=(v:Int):=⟨(qI b n).toNat,by have:=hf.1;omega⟩
 have hv2:(qI b n).toNat=v:=by omega
 have hv9:v≤9223372036854775807:=by omega
 rw[hv]at KP
 rw[hv2]
 have KF:Hid (∀u,Kept (qP w) u→Calls Tryz.prog 101 #[.int .i64 (v:Int)] u fun e w'=>(∃r,e=.returned r∧RLp (qn (qP w).heap.size) w' r (digs v))∧Kept u w'):=fun u k=>(Q9 u v hv9).mono (by
  rintro e w' ⟨⟨r,rfl,hr⟩,kk⟩
  exact⟨⟨r,rfl,hr.imp (fun b hb=>qou k.below.size hb)⟩,kk⟩)
 have hl:(digs v).length≤3:=qC v 3 (by omega)
 have KN:Hid (∀u va,Kept (qP w) u→RLp (qn (qP w).heap.size) u va (digs v)→Calls Tryz.prog 100 #[.bool (zv b n),va,.int .i64 (qK b n)] u fun e w'=>(∃r,e=.returned r∧RNp (qn (qP w).heap.size) w' r (nrm (zv b n) v (qK b n)))∧Kept u w'):=fun u va k h=>by
  have:=Qx u (zv b n) (digs v) va h.rl (za v) (by omega) (qK b n)
  rw[qQ]at this
  refine this.mono ?_
  rintro e w' ⟨⟨r,rfl,hr⟩,kk⟩
  exact⟨⟨r,rfl,hr.imp (fun b hb=>qou k.below.size hb)⟩,kk⟩
 clear hf hm53 hv hv2 hl
 generalize nrm (zv b n) v (qK b n)=NR at *
 generalize zv b n=pn at *
 generalize qK b n=px at *
 go_enter Tryz.func75,Tryz.ntmps75
 go_wp2_with (first|(go_at_call 99;refine(KP.out _).mono ?_;rintro e w1 ⟨rfl,k1⟩)|(go_at_call 101;refine(KF.out _ k1).mono ?_;rintro e w2 ⟨⟨va,rfl,hva⟩,k2⟩)|(go_at_call 100;refine(KN.out _ _ (k1.trans k2) hva).mono ?_;rintro e w3 ⟨⟨r,rfl,hN⟩,k3⟩;obtain⟨vn,ao,vl,vc,vx,rfl⟩:=hN.shape5;obtain⟨f0,f1,f2,f3⟩:=j9 (k1.trans (k2.trans k3))))
 have hd:=(hN.done w.heap.size (fun b hb=>by simp[qn]at hb;omega) (.bool vn) (.slice ao vl vc) (.int .i64 vx)).imp (Q:=qn w.heap.size) (fun b hb=>by simp[qn]at hb ⊢;omega)
 have hkk:=(hK.trans (k1.trans (k2.trans k3))).setCell (p:=⟨w.heap.size,0,none⟩) (qoo _) (.bool vn)|>.setCell (p:=⟨w.heap.size,1,none⟩) (qoo _) (.slice ao vl vc)|>.setCell (p:=⟨w.heap.size,2,none⟩) (qoo _) (.int .i64 vx)
 refine qoz (v:=.agg #[.bool vn,.slice ao vl vc,.int .i64 vx]) (by simp[results,Tryz.results75,go_sem,f0,f1,f2]) rfl ⟨⟨_,rfl,hd⟩,hkk⟩
theorem qly (b n:Int)(hn:n=64∨n=32)(hc:cls b n<3):vld (nrm (zv b n) (qI b n).toNat (qK b n))=true∧ofN b n=nrm (zv b n) (qI b n).toNat (qK b n):=by
 have h1:=Jg b n hn hc
 rw[ZC]at h1
 by_cases h:vld (nrm (zv b n) (qI b n).toNat (qK b n))=true
 ·rw[if_pos h]at h1
  exact⟨h,(Option.some.inj h1).symm⟩
 ·rw[if_neg h]at h1
  cases h1
set_option linter.unnecessarySimpa false
end Go.Proofs.YtaglkncdedeipaaGreatDoor
