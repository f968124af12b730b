/-  -/
import Derived.Test.YtnniljhdcplkgaaGreatDoorWs12
import Derived.Test.YtnniljhdcplkgaaGreatDoorWs31
namespace Go.Proofs.YtnniljhdcplkgaaGreatDoor
open Go.ChangeShapes Go.WideShapes Go.ChangeAt Go.RowKit
set_option maxHeartbeats 16000000
set_option maxRecDepth 100000
set_option linter.unusedVariables false
set_option linter.unusedSimpArgs false
def RNp (P:Nat→Prop)(w:World)(v:Value)(r:Nm):Prop:=∃s,v=.agg #[.bool r.neg,s,.int .i64 r.exp]∧RLp P w s r.mag
theorem RNp.kept {P:Nat→Prop}{w w':World}{v:Value}{r:Nm}(h:RNp P w v r)(k:Kept w w'):RNp P w' v r:=by
 obtain⟨s,e,hs⟩:=h
 exact⟨s,e,hs.kept k⟩
theorem RNp.imp {P Q:Nat→Prop}{w:World}{v:Value}{r:Nm}(h:RNp P w v r)(hpq:∀b,P b→Q b):RNp Q w v r:=by
 obtain⟨s,e,hs⟩:=h
 exact⟨s,e,hs.imp hpq⟩
theorem RNp.shape {P:Nat→Prop}{w:World}{v:Value}{r:Nm}(h:RNp P w v r):∃ao c,v=.agg #[.bool r.neg,.slice ao r.mag.length c,.int .i64 r.exp]∧RLp P w (.slice ao r.mag.length c) r.mag:=by
 obtain⟨s,rfl,h⟩:=h
 have h':=h
 obtain⟨ao,c,rfl,-⟩:=h'
 exact⟨ao,c,rfl,h⟩
theorem RNp.numAt {P:Nat→Prop}{w:World}{v:Value}{r:Nm}(h:RNp P w v r):NumAt w v r:=by
 obtain⟨s,rfl,ao,c,rfl,-,hs,-⟩:=h
 exact⟨_,rfl,hs⟩
theorem RLp.shape {P:Nat→Prop}{w:World}{v:Value}{M:List Int}(h:RLp P w v M):∃ao c,v=.slice ao M.length c:=by
 obtain⟨ao,c,e,-⟩:=h
 exact⟨ao,c,e⟩
theorem RLp.set {P:Nat→Prop}{w:World}{v:Value}{M:List Int}(h:RLp P w v M)(p:Addr)(hp:∀b,P b→b≠p.block)(u:Value):RLp P (w.setCell p u) v M:=by
 obtain⟨ao,c,rfl,hc,⟨ao',c',e,h1,h2,hr⟩,hP⟩:=h
 cases e
 refine⟨ao,c,rfl,hc,⟨ao,c,rfl,h1,h2,fun hne=>?_⟩,hP⟩
 obtain⟨b,off,rfl,hb,hr⟩:=hr hne
 have hbp:=hp b (hP b off hne rfl)
 refine⟨b,off,rfl,by simpa using hb,fun i hi=>?_⟩
 exact(World.cell?_of_block (a:=⟨b,off+i,none⟩) (Below.heap_setCell w p u b hbp)).trans (hr i hi)
theorem RLp.here {P:Nat→Prop}{w:World}{v:Value}{M:List Int}(h:RLp P w v M):RLp (fun b=>P b∧b<w.heap.size) w v M:=by
 obtain⟨ao,c,rfl,hc,hs,hP⟩:=h
 refine⟨ao,c,rfl,hc,hs,fun b off hne e=>⟨hP b off hne e,?_⟩⟩
 obtain⟨ao',c',e',h1,h2,hr⟩:=hs
 cases e'
 obtain⟨b',off',e2,hb,-⟩:=hr hne
 rw[e]at e2
 cases e2
 exact hb
theorem RNp.here {P:Nat→Prop}{w:World}{v:Value}{r:Nm}(h:RNp P w v r):RNp (fun b=>P b∧b<w.heap.size) w v r:=by
 obtain⟨s,e,hs⟩:=h
 exact⟨s,e,hs.here⟩
theorem RNp.done {P:Nat→Prop}{w:World}{v:Value}{r:Nm}(h:RNp P w v r)(p:Nat)(hp:∀b,P b→b≠p)(x y z:Value):RNp P (((w.setCell ⟨p,0,none⟩ x).setCell ⟨p,1,none⟩ y).setCell ⟨p,2,none⟩ z) v r:=by
 obtain⟨s,e,hs⟩:=h
 exact⟨s,e,((hs.set ⟨p,0,none⟩ hp x).set ⟨p,1,none⟩ hp y).set ⟨p,2,none⟩ hp z⟩
theorem tzn_le_len (M:List Int)(hD:Dg M):nv M≠0→tzn (nv M)<30*M.length:=fun h=>by
 obtain⟨h1,h2⟩:=bl_sub (nv M) h
 have h3:=bl_le _ _ (nv_lt M hD)
 have h4:=bl_pos _ h2
 omega
def nrm (neg:Bool)(v:Nat)(x:Int):Nm:=if v=0 then ⟨false,[],0⟩else ⟨neg,digs (v/2^tzn v),wrap64 (x+(tzn v:Int))⟩
theorem frm_nrm (neg:Bool)(v:Nat)(x:Int):frm neg v x=if vld (nrm neg v x)=true then some (nrm neg v x)else none:=by
 unfold frm nrm
 by_cases h0:v=0
 ·rw[if_pos h0,if_pos h0,if_pos (by decide)]
 ·rw[if_neg h0,if_neg h0]
  obtain⟨hb,hne⟩:=bl_sub v h0
  obtain⟨hodd,hm⟩:=tzn_div v h0
  generalize v/2^tzn v=q at *
  generalize wrap64 (x+(tzn v:Int))=y at *
  have hdn:digs q≠[]:=fun h=>by
   have:=nv_digs q
   rw[h]at this
   exact hne this.symm
  have hl:=digs_len q hne
  have hv:vld ⟨neg,digs q,y⟩=decide (bl v-tzn v≤60000∧-1048576≤y∧y≤1048576):=by
   unfold vld
   rw[if_neg hdn]
   unfold vldN
   dsimp only
   have g1:=digs_last q hne
   have g2:dgb (digs q)=true:=(dgb_iff _).2 (dg_digs q)
   have g3:bits .and .i64 ((digs q).getD 0 0) 1=1:=by
    rw[digs_pos q hne,List.getD_cons_zero,and_one]
    omega
   rw[Bool.eq_iff_iff]
   simp only[g2,g3,Bool.and_true,Bool.and_eq_true,bne_iff_ne,ne_eq,beq_self_eq_true,decide_eq_true_eq]
   constructor
   ·rintro⟨⟨⟨h1,-⟩,h2⟩,h3⟩
    exact⟨by omega,h2,h3⟩
   ·rintro⟨h1,h2,h3⟩
    exact⟨⟨⟨by omega,g1⟩,h2⟩,h3⟩
  by_cases hc:bl v-tzn v≤60000∧-1048576≤y∧y≤1048576
  ·rw[if_pos hc,hv,if_pos (by simpa using hc)]
  ·rw[if_neg hc,hv,if_neg (by simpa using hc)]
theorem nrm_rg (neg:Bool)(v:Nat)(x:Int):Rg (nrm neg v x).mag∧(nrm neg v x).mag=digs (v/2^tzn v):=by
 unfold nrm
 split
 ·rename_i h
  subst h
  rw[Nat.zero_div,digs_zero]
  exact⟨Dg.nil.rg,rfl⟩
 ·exact⟨(dg_digs _).rg,rfl⟩
theorem norm_any (w:World)(neg:Bool)(M:List Int)(va:Value)(ha:RL w va M)(hD:Dg M)(la:M.length<1000000)(x:Int):Calls Tryz.prog 51 #[.bool neg,va,.int .i64 x] w fun e w'=>(∃v,e=.returned v∧RNp (Fresh w.heap.size) w' v (nrm neg (nv M) x))∧Kept w w':=by
 have hK:Kept w (numW w):=(Kept.refl w).alloc _ _
 have KL:Hid (Calls Tryz.prog 84 #[va] (numW w) fun e w'=>e=.returned (.int .i64 (lowz (nv M)))∧numW w=w'):=natLow_any (numW w) va M (ha.kept hK) hD (by omega)
 have hlen:=tzn_le_len M hD
 have hlow:nv M≠0→lowz (nv M)=(tzn (nv M):Int):=fun h=>by rw[lowz,if_neg h]
 have KS:Hid (nv M≠0→∀k:Nat,k=tzn (nv M)→Calls Tryz.prog 85 #[va,.int .i64 (k:Int)] (numW w) fun e w'=>(∃r,e=.returned r∧RLp (Fresh (numW w).heap.size) w' r (digs (nv M/2^k)))∧Kept (numW w) w'):=fun h0 k hk=>natShr_any (numW w) M k va (ha.kept hK) hD la (by have:=hlen h0;omega)
 obtain⟨ao,c,rfl,-,-⟩:=ha
 by_cases h0:nv M=0
 ·have e:nrm neg (nv M) x=⟨false,[],0⟩:=by rw[nrm,if_pos h0]
  have hl:lowz (nv M)=-1:=by rw[lowz,if_pos h0]
  rw[e]
  rw[hl]at KL
  clear KS hlow hlen hl e h0
  generalize M.length=n at *
  go_enter Tryz.func51,Tryz.ntmps51
  go_wp2_with (first|(go_at_call 84;refine KL.out.mono ?_;rintro e w1 ⟨rfl,rfl⟩))
  refine bodyPost_ret (v:=zeroNum) (by simp[results,Tryz.results51,go_sem]) rfl ⟨⟨_,rfl,⟨_,rfl,RLp.nil _ _⟩⟩,hK⟩
 ·obtain⟨k,hk⟩:∃k,tzn (nv M)=k:=⟨_,rfl⟩
  have hkb:=hlen h0
  have e:nrm neg (nv M) x=⟨neg,digs (nv M/2^k),wrap64 (x+(k:Int))⟩:=by rw[nrm,if_neg h0,hk]
  have KS2:Hid (Calls Tryz.prog 85 #[.slice ao M.length c,.int .i64 (k:Int)] (numW w) fun e w'=>(∃r,e=.returned r∧RLp (Fresh (numW w).heap.size) w' r (digs (nv M/2^k)))∧Kept (numW w) w'):=KS.out h0 k hk.symm
  rw[hlow h0,hk]at KL
  rw[e]
  obtain⟨Q,hQ⟩:∃Q,digs (nv M/2^k)=Q:=⟨_,rfl⟩
  rw[hQ]at KS2 ⊢
  have hkb2:k<100000000:=by omega
  clear KS hlow hlen e hk h0 hQ hkb
  generalize M.length=n at *
  go_enter Tryz.func51,Tryz.ntmps51
  go_wp2_with (first|(go_at_call 84;refine KL.out.mono ?_;rintro e w1 ⟨rfl,rfl⟩)|(go_at_call 85;refine KS2.out.mono ?_;rintro e w2 ⟨⟨r,rfl,hr⟩,hk1⟩;obtain⟨ra,rc,rfl⟩:=hr.shape;obtain⟨f0,f1,f2,f3⟩:=num_cells hk1))
  have hR:RNp (Fresh (numW w).heap.size) w2 (.agg #[.bool neg,.slice ra Q.length rc,.int .i64 (wrap64 (x+(k:Int)))]) ⟨neg,Q,wrap64 (x+(k:Int))⟩:=⟨_,rfl,hr⟩
  have hd:=(hR.done w.heap.size (fun b hb=>by simp[Fresh]at hb;omega) (.bool neg) (.slice ra Q.length rc) (.int .i64 (wrap64 (x+(k:Int))))).imp (Q:=Fresh w.heap.size) (fun b hb=>by simp[Fresh]at hb ⊢;omega)
  have hkk:=(hK.trans hk1).setCell (p:=⟨w.heap.size,0,none⟩) (Nat.le_refl _) (.bool neg)|>.setCell (p:=⟨w.heap.size,1,none⟩) (Nat.le_refl _) (.slice ra Q.length rc)|>.setCell (p:=⟨w.heap.size,2,none⟩) (Nat.le_refl _) (.int .i64 (wrap64 (x+(k:Int))))
  refine bodyPost_ret (v:=.agg #[.bool neg,.slice ra Q.length rc,.int .i64 (wrap64 (x+(k:Int)))]) (by simp[results,Tryz.results51,go_sem,f0,f1,f2]) rfl ⟨⟨_,rfl,hd⟩,hkk⟩
end Go.Proofs.YtnniljhdcplkgaaGreatDoor
namespace Go.Proofs.YtnniljhdcplkgaaGreatDoor
open Go.ChangeShapes Go.WideShapes Go.ChangeAt Go.RowKit
set_option maxHeartbeats 16000000
set_option maxRecDepth 100000
set_option linter.unusedVariables false
set_option linter.unusedSimpArgs false
theorem RNp.shape5 {P:Nat→Prop}{w:World}{v:Value}{r:Nm}(h:RNp P w v r):∃n ao l c x,v=.agg #[.bool n,.slice ao l c,.int .i64 x]:=by
 obtain⟨ao,c,e,-⟩:=h.shape
 exact⟨_,_,_,_,_,e⟩
theorem cn_digs {L:List Int}(h:Cn L):digs (nv L)=L:=by
 refine digs_nv L h.1 ?_
 by_cases e:L=[]
 ·exact .inl e
 ·exact .inr (h.2 e)
theorem digs_mono (m n:Nat)(h:m≤n):(digs m).length≤(digs n).length:=digs_length_le m _ (Nat.lt_of_le_of_lt h (digs_lt n _ (Nat.le_refl _)))
def pls (a b:Nm):Nm:=if a.mag=[]then b else if b.mag=[]then a else nrm (decide (tot a b (min a.exp b.exp)<0)) (tot a b (min a.exp b.exp)).natAbs (min a.exp b.exp)
theorem plus_walk (P:Nat→Prop)(w:World)(n1 n2:Bool)(a1 a2:Option Addr)(l1 c1 l2 c2:Nat)(x1 x2 lo:Int)(k1 k2:Nat)(p q:Nat)(hl1:((l1:Int)==0)=false)(hl2:((l2:Int)==0)=false)(hlo:min x1 x2=lo)(hk1:IntKind.i64.wrap (x1-lo)=(k1:Int))(hk2:IntKind.i64.wrap (x2-lo)=(k2:Int))(r:Nm)
  (K1:Hid (∀u,Kept w u→Calls Tryz.prog 54 #[.slice a1 l1 c1,.int .i64 (k1:Int)] u fun e w'=>(∃s,e=.returned s∧RLp (Fresh u.heap.size) w' s (digs p))∧Kept u w'))
  (K2:Hid (∀u,Kept w u→Calls Tryz.prog 54 #[.slice a2 l2 c2,.int .i64 (k2:Int)] u fun e w'=>(∃s,e=.returned s∧RLp (Fresh u.heap.size) w' s (digs q))∧Kept u w'))
  (lp:(digs p).length<900000) (lq:(digs q).length<900000)
  (R1:Hid (n1=n2→nrm n1 (p+q) lo=r)) (R2:Hid (n1≠n2→q≤p→nrm n1 (p-q) lo=r)) (R3:Hid (n1≠n2→p<q→nrm n2 (q-p) lo=r)) (lpq:(digs (p+q)).length<1000000):
  Calls Tryz.prog 50 #[.agg #[.bool n1,.slice a1 l1 c1,.int .i64 x1],.agg #[.bool n2,.slice a2 l2 c2,.int .i64 x2]] w fun e w'=>(∃v,e=.returned v∧RNp (fun c=>P c∨w.heap.size≤c) w' v r)∧Kept w w':=by
 obtain⟨W,hW⟩:∃W,W=(((w.alloc (.cells #[.bool n1,.slice a1 l1 c1,.int .i64 x1] 43)).alloc (.cells #[.bool n2,.slice a2 l2 c2,.int .i64 x2] 43)).alloc nilNum):=⟨_,rfl⟩
 have hK:Kept w W:=by rw[hW];exact(((Kept.refl w).alloc _ _).alloc _ _).alloc _ _
 have hWs:W.heap.size=w.heap.size+3:=by rw[hW];simp
 have HS:Hid (∀u,Kept W u→((u.cell? ⟨w.heap.size,0,none⟩=some (.bool n1)∧u.cell? ⟨w.heap.size,1,none⟩=some (.slice a1 l1 c1))∧u.cell? ⟨w.heap.size,2,none⟩=some (.int .i64 x1))∧(u.cell? ⟨w.heap.size+1,0,none⟩=some (.bool n2)∧u.cell? ⟨w.heap.size+1,1,none⟩=some (.slice a2 l2 c2))∧u.cell? ⟨w.heap.size+1,2,none⟩=some (.int .i64 x2)):=fun u k=>⟨⟨⟨((k.below.cell (p:=⟨w.heap.size,0,none⟩) (by show w.heap.size<W.heap.size;omega)).trans (by rw[hW];simp[go_sem])),((k.below.cell (p:=⟨w.heap.size,1,none⟩) (by show w.heap.size<W.heap.size;omega)).trans (by rw[hW];simp[go_sem]))⟩,((k.below.cell (p:=⟨w.heap.size,2,none⟩) (by show w.heap.size<W.heap.size;omega)).trans (by rw[hW];simp[go_sem]))⟩,⟨((k.below.cell (p:=⟨w.heap.size+1,0,none⟩) (by show w.heap.size+1<W.heap.size;omega)).trans (by rw[hW];simp[go_sem])),((k.below.cell (p:=⟨w.heap.size+1,1,none⟩) (by show w.heap.size+1<W.heap.size;omega)).trans (by rw[hW];simp[go_sem]))⟩,((k.below.cell (p:=⟨w.heap.size+1,2,none⟩) (by show w.heap.size+1<W.heap.size;omega)).trans (by rw[hW];simp[go_sem]))⟩
 have HC:Hid (W.cell? ⟨w.heap.size+1+1,0,none⟩=some (.bool false)∧W.cell? ⟨w.heap.size+1+1,1,none⟩=some (.slice none 0 0)∧W.cell? ⟨w.heap.size+1+1,2,none⟩=some (.int .i64 0)∧∀o,W.frozen? ⟨w.heap.size+1+1,o,none⟩=false):=by rw[hW];exact⟨by simp[go_sem],by simp[go_sem],by simp[go_sem],fun o=>by simp[go_sem]⟩
 have NN:Hid (∀u (ng:Bool) (va:Value) (z:Nat),RLp (Fresh W.heap.size) u va (digs z)→(digs z).length<1000000→Kept W u→Calls Tryz.prog 51 #[.bool ng,va,.int .i64 lo] u fun e w'=>(∃v,e=.returned v∧RNp (Fresh W.heap.size) w' v (nrm ng z lo))∧Kept u w'):=fun u ng va z h hl kw=>by
  have:=norm_any u ng (digs z) va h.rl (dg_digs z) hl lo
  rw[nv_digs]at this
  refine this.mono ?_
  rintro e w' ⟨⟨v,rfl,hv⟩,k⟩
  exact⟨⟨v,rfl,hv.imp (fun b hb=>Nat.le_trans kw.below.size hb)⟩,k⟩
 go_enter Tryz.func50,Tryz.ntmps50
 go_upto_region 1 with fail
 rw[←hW]
 clear hW
 have e0:=HS.out _ (Kept.refl W)
 go_wp2_with fail
 refine(K1.out _ hK).mono ?_
 rintro e u1 ⟨⟨vp,rfl,hp⟩,kq1⟩
 clear e0
 have e0:=HS.out _ kq1
 go_wp2_with fail
 refine(K2.out _ (hK.trans kq1)).mono ?_
 rintro e u2 ⟨⟨vq,rfl,hq⟩,kq2⟩
 clear e0
 have kq:=kq1.trans kq2
 have HPp:Hid (RLp (Fresh W.heap.size) u2 vp (digs p)):=hp.kept kq2
 have HQq:Hid (RLp (Fresh W.heap.size) u2 vq (digs q)):=hq.imp (fun b hb=>Nat.le_trans kq1.below.size hb)
 clear hp hq K1 K2
 have e0:=HS.out _ kq
 by_cases hn:n1=n2
 ·have hne:(n1==n2)=true:=by simpa using hn
  have hr:=R1.out hn
  clear R1 R2 R3 hn
  go_wp2_with fail
  clear e0
  have kr0:=kq.drew
  refine wp_region_held_drew (S:=fun u=>Kept w u∧((u.cell? ⟨w.heap.size,0,none⟩=some (.bool n1)∧u.cell? ⟨w.heap.size,1,none⟩=some (.slice a1 l1 c1))∧u.cell? ⟨w.heap.size,2,none⟩=some (.int .i64 x1))∧(u.cell? ⟨w.heap.size+1,0,none⟩=some (.bool n2)∧u.cell? ⟨w.heap.size+1,1,none⟩=some (.slice a2 l2 c2))∧u.cell? ⟨w.heap.size+1,2,none⟩=some (.int .i64 x2)) (by kernel_rfl) ⟨hK.trans kr0,HS.out _ kr0⟩ (fun hHeld0=>?_)
  refine tk (i:=0) (v:=?_) rfl ?_
  simp only[Act.put,zA,zB,zC,zD,zE,zF]
  refine tk (i:=1) (v:=?_) rfl ?_
  simp only[Act.put,zA,zB,zC,zD,zE,zF]
  refine tk (i:=2) (v:=?_) rfl ?_
  simp only[Act.put,zA,zB,zC,zD,zE,zF]
  refine tk (i:=3) (v:=?_) rfl ?_
  simp only[Act.put,zA,zB,zC,zD,zE,zF]
  refine tk (i:=5) (v:=?_) rfl ?_
  simp only[Act.put,zA,zB,zC,zD,zE,zF]
  refine wpAnyH_ready (rs:=[4]) (by kernel_rfl) (by simp) ?_
  refine AllReadyH.cons rfl (fun K hK9=>?_) AllReadyH.nil
  go_simp
  go_wp2_with fail
  refine(natAdd_any _ p q vp vq (HPp.out.kept ((Kept.refl _).drew)).rl (HQq.out.kept ((Kept.refl _).drew)).rl (by omega) (by omega)).mono ?_
  rintro e x1 ⟨⟨vs,rfl,hs⟩,qq⟩
  have kr1:=kr0.trans qq
  refine hK9.out _ _ ⟨hK.trans kr1,HS.out _ kr1⟩ (fun hHeld1=>?_)
  clear hK9 K
  refine wpAnyH_ready (rs:=[6]) (by kernel_rfl) (by simp) ?_
  refine AllReadyH.cons rfl (fun K hK9=>?_) AllReadyH.nil
  go_simp
  go_wp2_with fail
  refine(NN.out _ _ _ _ (hs.imp (fun b hb=>Nat.le_trans kr0.below.size hb)) (lpq) kr1).mono ?_
  rintro e x2 ⟨⟨v,rfl,hN⟩,qq2⟩
  obtain⟨vn,va,vl,vc,vx,rfl⟩:=hN.shape5
  have kr2:=kr1.trans qq2
  refine hK9.out _ _ ⟨hK.trans kr2,HS.out _ kr2⟩ (fun hHeld2=>?_)
  clear hK9 K
  have hc:=HC.out
  obtain⟨f0,f1,f2,f3⟩:=res_cells (w.heap.size+1+1) (by omega) kr2 hc.1 hc.2.1 hc.2.2.1 hc.2.2.2
  have kF:=(hK.trans kr2).setCell (p:=⟨w.heap.size+1+1,0,none⟩) (by show w.heap.size≤w.heap.size+1+1;omega) (.bool vn)|>.setCell (p:=⟨w.heap.size+1+1,1,none⟩) (by show w.heap.size≤w.heap.size+1+1;omega) (.slice va vl vc)|>.setCell (p:=⟨w.heap.size+1+1,2,none⟩) (by show w.heap.size≤w.heap.size+1+1;omega) (.int .i64 vx)
  refine wpAnyH_ready (rs:=[7]) (by kernel_rfl) (by simp) ?_
  refine AllReadyH.cons rfl (fun K hK9=>?_) AllReadyH.nil
  go_simp
  refine hK9.out _ _ ⟨kF,by have q:=HS.out _ kr2;obtain⟨⟨⟨q0,q1⟩,q2⟩,⟨q3,q4⟩,q5⟩:=q;refine⟨⟨⟨?_,?_⟩,?_⟩,⟨?_,?_⟩,?_⟩<;>simp[go_sem,q0,q1,q2,q3,q4,q5]⟩ (fun hHeld9=>?_)
  clear hK9 K
  refine wpAnyH_done (by kernel_rfl) ?_ _
  clear hHeld0 hHeld1 hHeld2 hHeld9
  rw[hr]at hN
  have hd:=hN.done (w.heap.size+1+1) (fun b hb=>by simp[Fresh]at hb;omega) (.bool vn) (.slice va vl vc) (.int .i64 vx)
  go_wp2
  refine bodyPost_ret (v:=.agg #[.bool vn,.slice va vl vc,.int .i64 vx]) (by simp[results,Tryz.results50,go_sem,f0,f1,f2]) rfl ⟨⟨_,rfl,hd.imp (fun b hb=>by simp[Fresh]at hb ⊢;omega)⟩,kF⟩
 ·have hne:(n1==n2)=false:=by simpa using hn
  have hne2:¬n1=n2:=hn
  clear R1
  have KC:Hid (Calls Tryz.prog 82 #[vp,vq] u2 fun e w'=>e=.returned (.int .i64 (cz (p:Int) (q:Int)))∧Kept u2 w'):=natCmp_any u2 p q vp vq HPp.out.rl HQq.out.rl (by omega) (by omega)
  go_wp2_with fail
  refine KC.out.mono ?_
  rintro e u3 ⟨rfl,kc⟩
  have kq3:=kq.trans kc
  clear e0 KC
  have HPp3:Hid (RLp (Fresh W.heap.size) u3 vp (digs p)):=HPp.out.kept kc
  have HQq3:Hid (RLp (Fresh W.heap.size) u3 vq (digs q)):=HQq.out.kept kc
  clear HPp HQq
  by_cases hpq:q≤p
  ·have hr:=R2.out hne2 hpq
   have hcz:0≤cz (p:Int) (q:Int):=by unfold cz;split<;>(try split)<;>omega
   clear R2 R3 hne2 hn
   generalize cz (p:Int) (q:Int)=cc at *
   go_wp2_with fail
   have kr0:=kq3.drew
   refine wp_region_held_drew (S:=fun u=>Kept w u∧((u.cell? ⟨w.heap.size,0,none⟩=some (.bool n1)∧u.cell? ⟨w.heap.size,1,none⟩=some (.slice a1 l1 c1))∧u.cell? ⟨w.heap.size,2,none⟩=some (.int .i64 x1))∧(u.cell? ⟨w.heap.size+1,0,none⟩=some (.bool n2)∧u.cell? ⟨w.heap.size+1,1,none⟩=some (.slice a2 l2 c2))∧u.cell? ⟨w.heap.size+1,2,none⟩=some (.int .i64 x2)) (by kernel_rfl) ⟨hK.trans kr0,HS.out _ kr0⟩ (fun hHeld0=>?_)
   refine tk (i:=0) (v:=?_) rfl ?_
   simp only[Act.put,zA,zB,zC,zD,zE,zF]
   refine tk (i:=1) (v:=?_) rfl ?_
   simp only[Act.put,zA,zB,zC,zD,zE,zF]
   refine tk (i:=2) (v:=?_) rfl ?_
   simp only[Act.put,zA,zB,zC,zD,zE,zF]
   refine tk (i:=3) (v:=?_) rfl ?_
   simp only[Act.put,zA,zB,zC,zD,zE,zF]
   refine tk (i:=5) (v:=?_) rfl ?_
   simp only[Act.put,zA,zB,zC,zD,zE,zF]
   refine wpAnyH_ready (rs:=[4]) (by kernel_rfl) (by simp) ?_
   refine AllReadyH.cons rfl (fun K hK9=>?_) AllReadyH.nil
   go_simp
   go_wp2_with fail
   refine(natSub_any _ p q hpq vp vq (HPp3.out.kept ((Kept.refl _).drew)).rl (HQq3.out.kept ((Kept.refl _).drew)).rl (by omega) (by omega)).mono ?_
   rintro e x1 ⟨⟨vs,rfl,hs⟩,qq⟩
   have kr1:=kr0.trans qq
   refine hK9.out _ _ ⟨hK.trans kr1,HS.out _ kr1⟩ (fun hHeld1=>?_)
   clear hK9 K
   refine wpAnyH_ready (rs:=[6]) (by kernel_rfl) (by simp) ?_
   refine AllReadyH.cons rfl (fun K hK9=>?_) AllReadyH.nil
   go_simp
   go_wp2_with fail
   refine(NN.out _ _ _ _ (hs.imp (fun b hb=>Nat.le_trans kr0.below.size hb)) (Nat.lt_of_le_of_lt (digs_mono _ _ (Nat.sub_le _ _)) (by omega)) kr1).mono ?_
   rintro e x2 ⟨⟨v,rfl,hN⟩,qq2⟩
   obtain⟨vn,va,vl,vc,vx,rfl⟩:=hN.shape5
   have kr2:=kr1.trans qq2
   refine hK9.out _ _ ⟨hK.trans kr2,HS.out _ kr2⟩ (fun hHeld2=>?_)
   clear hK9 K
   have hc:=HC.out
   obtain⟨f0,f1,f2,f3⟩:=res_cells (w.heap.size+1+1) (by omega) kr2 hc.1 hc.2.1 hc.2.2.1 hc.2.2.2
   have kF:=(hK.trans kr2).setCell (p:=⟨w.heap.size+1+1,0,none⟩) (by show w.heap.size≤w.heap.size+1+1;omega) (.bool vn)|>.setCell (p:=⟨w.heap.size+1+1,1,none⟩) (by show w.heap.size≤w.heap.size+1+1;omega) (.slice va vl vc)|>.setCell (p:=⟨w.heap.size+1+1,2,none⟩) (by show w.heap.size≤w.heap.size+1+1;omega) (.int .i64 vx)
   refine wpAnyH_ready (rs:=[7]) (by kernel_rfl) (by simp) ?_
   refine AllReadyH.cons rfl (fun K hK9=>?_) AllReadyH.nil
   go_simp
   refine hK9.out _ _ ⟨kF,by have q:=HS.out _ kr2;obtain⟨⟨⟨q0,q1⟩,q2⟩,⟨q3,q4⟩,q5⟩:=q;refine⟨⟨⟨?_,?_⟩,?_⟩,⟨?_,?_⟩,?_⟩<;>simp[go_sem,q0,q1,q2,q3,q4,q5]⟩ (fun hHeld9=>?_)
   clear hK9 K
   refine wpAnyH_done (by kernel_rfl) ?_ _
   clear hHeld0 hHeld1 hHeld2 hHeld9
   rw[hr]at hN
   have hd:=hN.done (w.heap.size+1+1) (fun b hb=>by simp[Fresh]at hb;omega) (.bool vn) (.slice va vl vc) (.int .i64 vx)
   go_wp2
   refine bodyPost_ret (v:=.agg #[.bool vn,.slice va vl vc,.int .i64 vx]) (by simp[results,Tryz.results50,go_sem,f0,f1,f2]) rfl ⟨⟨_,rfl,hd.imp (fun b hb=>by simp[Fresh]at hb ⊢;omega)⟩,kF⟩
  ·have hr:=R3.out hne2 (by omega)
   have hcz:¬0≤cz (p:Int) (q:Int):=by rw[cz_lt (by omega)];omega
   clear R2 R3 hne2 hn
   generalize cz (p:Int) (q:Int)=cc at *
   go_wp2_with fail
   have kr0:=kq3.drew
   refine wp_region_held_drew (S:=fun u=>Kept w u∧((u.cell? ⟨w.heap.size,0,none⟩=some (.bool n1)∧u.cell? ⟨w.heap.size,1,none⟩=some (.slice a1 l1 c1))∧u.cell? ⟨w.heap.size,2,none⟩=some (.int .i64 x1))∧(u.cell? ⟨w.heap.size+1,0,none⟩=some (.bool n2)∧u.cell? ⟨w.heap.size+1,1,none⟩=some (.slice a2 l2 c2))∧u.cell? ⟨w.heap.size+1,2,none⟩=some (.int .i64 x2)) (by kernel_rfl) ⟨hK.trans kr0,HS.out _ kr0⟩ (fun hHeld0=>?_)
   refine tk (i:=0) (v:=?_) rfl ?_
   simp only[Act.put,zA,zB,zC,zD,zE,zF]
   refine tk (i:=1) (v:=?_) rfl ?_
   simp only[Act.put,zA,zB,zC,zD,zE,zF]
   refine tk (i:=2) (v:=?_) rfl ?_
   simp only[Act.put,zA,zB,zC,zD,zE,zF]
   refine tk (i:=3) (v:=?_) rfl ?_
   simp only[Act.put,zA,zB,zC,zD,zE,zF]
   refine tk (i:=5) (v:=?_) rfl ?_
   simp only[Act.put,zA,zB,zC,zD,zE,zF]
   refine wpAnyH_ready (rs:=[4]) (by kernel_rfl) (by simp) ?_
   refine AllReadyH.cons rfl (fun K hK9=>?_) AllReadyH.nil
   go_simp
   go_wp2_with fail
   refine(natSub_any _ q p (by omega) vq vp (HQq3.out.kept ((Kept.refl _).drew)).rl (HPp3.out.kept ((Kept.refl _).drew)).rl (by omega) (by omega)).mono ?_
   rintro e x1 ⟨⟨vs,rfl,hs⟩,qq⟩
   have kr1:=kr0.trans qq
   refine hK9.out _ _ ⟨hK.trans kr1,HS.out _ kr1⟩ (fun hHeld1=>?_)
   clear hK9 K
   refine wpAnyH_ready (rs:=[6]) (by kernel_rfl) (by simp) ?_
   refine AllReadyH.cons rfl (fun K hK9=>?_) AllReadyH.nil
   go_simp
   go_wp2_with fail
   refine(NN.out _ _ _ _ (hs.imp (fun b hb=>Nat.le_trans kr0.below.size hb)) (Nat.lt_of_le_of_lt (digs_mono _ _ (Nat.sub_le _ _)) (by omega)) kr1).mono ?_
   rintro e x2 ⟨⟨v,rfl,hN⟩,qq2⟩
   obtain⟨vn,va,vl,vc,vx,rfl⟩:=hN.shape5
   have kr2:=kr1.trans qq2
   refine hK9.out _ _ ⟨hK.trans kr2,HS.out _ kr2⟩ (fun hHeld2=>?_)
   clear hK9 K
   have hc:=HC.out
   obtain⟨f0,f1,f2,f3⟩:=res_cells (w.heap.size+1+1) (by omega) kr2 hc.1 hc.2.1 hc.2.2.1 hc.2.2.2
   have kF:=(hK.trans kr2).setCell (p:=⟨w.heap.size+1+1,0,none⟩) (by show w.heap.size≤w.heap.size+1+1;omega) (.bool vn)|>.setCell (p:=⟨w.heap.size+1+1,1,none⟩) (by show w.heap.size≤w.heap.size+1+1;omega) (.slice va vl vc)|>.setCell (p:=⟨w.heap.size+1+1,2,none⟩) (by show w.heap.size≤w.heap.size+1+1;omega) (.int .i64 vx)
   refine wpAnyH_ready (rs:=[7]) (by kernel_rfl) (by simp) ?_
   refine AllReadyH.cons rfl (fun K hK9=>?_) AllReadyH.nil
   go_simp
   refine hK9.out _ _ ⟨kF,by have q:=HS.out _ kr2;obtain⟨⟨⟨q0,q1⟩,q2⟩,⟨q3,q4⟩,q5⟩:=q;refine⟨⟨⟨?_,?_⟩,?_⟩,⟨?_,?_⟩,?_⟩<;>simp[go_sem,q0,q1,q2,q3,q4,q5]⟩ (fun hHeld9=>?_)
   clear hK9 K
   refine wpAnyH_done (by kernel_rfl) ?_ _
   clear hHeld0 hHeld1 hHeld2 hHeld9
   rw[hr]at hN
   have hd:=hN.done (w.heap.size+1+1) (fun b hb=>by simp[Fresh]at hb;omega) (.bool vn) (.slice va vl vc) (.int .i64 vx)
   go_wp2
   refine bodyPost_ret (v:=.agg #[.bool vn,.slice va vl vc,.int .i64 vx]) (by simp[results,Tryz.results50,go_sem,f0,f1,f2]) rfl ⟨⟨_,rfl,hd.imp (fun b hb=>by simp[Fresh]at hb ⊢;omega)⟩,kF⟩
end Go.Proofs.YtnniljhdcplkgaaGreatDoor
namespace Go.Proofs.YtnniljhdcplkgaaGreatDoor
open Go.ChangeShapes Go.WideShapes Go.ChangeAt Go.RowKit
set_option maxHeartbeats 16000000
set_option maxRecDepth 100000
set_option linter.unusedVariables false
set_option linter.unusedSimpArgs false
theorem tot_nat (n1 n2:Bool)(L1 L2:List Int)(x1 x2 lo:Int)(k1 k2:Nat)(h1:(x1-lo).toNat=k1)(h2:(x2-lo).toNat=k2):tot ⟨n1,L1,x1⟩ ⟨n2,L2,x2⟩ lo=sg n1 ((nv L1*2^k1:Nat):Int)+sg n2 ((nv L2*2^k2:Nat):Int):=by
 unfold tot
 dsimp only
 rw[h1,h2,Int.natCast_mul,Int.natCast_mul,Int.natCast_pow,Int.natCast_pow]
 rfl
theorem nrm_zero (n m:Bool)(x:Int):nrm n 0 x=nrm m 0 x:=by simp[nrm]
theorem nrm_sum (n1 n2:Bool)(p q:Nat)(hp:0<p)(hq:0<q)(lo:Int):(n1=n2→nrm n1 (p+q) lo=nrm (decide (sg n1 (p:Int)+sg n2 (q:Int)<0)) (sg n1 (p:Int)+sg n2 (q:Int)).natAbs lo)∧(n1≠n2→q≤p→nrm n1 (p-q) lo=nrm (decide (sg n1 (p:Int)+sg n2 (q:Int)<0)) (sg n1 (p:Int)+sg n2 (q:Int)).natAbs lo)∧(n1≠n2→p<q→nrm n2 (q-p) lo=nrm (decide (sg n1 (p:Int)+sg n2 (q:Int)<0)) (sg n1 (p:Int)+sg n2 (q:Int)).natAbs lo):=by
 refine⟨fun h=>?_,fun h g=>?_,fun h g=>?_⟩
 ·subst h
  cases n1
  ·have e1:decide (sg false (p:Int)+sg false (q:Int)<0)=false:=by simp[sg];omega
   have e2:(sg false (p:Int)+sg false (q:Int)).natAbs=p+q:=by simp[sg];omega
   rw[e1,e2]
  ·have e1:decide (sg true (p:Int)+sg true (q:Int)<0)=true:=by simp[sg];omega
   have e2:(sg true (p:Int)+sg true (q:Int)).natAbs=p+q:=by simp[sg];omega
   rw[e1,e2]
 ·have hn:n2=!n1:=by cases n1<;>cases n2<;>simp_all
  subst hn
  have e2:(sg n1 (p:Int)+sg (!n1) (q:Int)).natAbs=p-q:=by cases n1<;>simp[sg]<;>omega
  rw[e2]
  by_cases e:p=q
  ·rw[e,Nat.sub_self];exact nrm_zero _ _ _
  ·have e1:decide (sg n1 (p:Int)+sg (!n1) (q:Int)<0)=n1:=by cases n1<;>simp[sg]<;>omega
   rw[e1]
 ·have hn:n1=!n2:=by cases n1<;>cases n2<;>simp_all
  subst hn
  have e2:(sg (!n2) (p:Int)+sg n2 (q:Int)).natAbs=q-p:=by cases n2<;>simp[sg]<;>omega
  have e1:decide (sg (!n2) (p:Int)+sg n2 (q:Int)<0)=n2:=by cases n2<;>simp[sg]<;>omega
  rw[e1,e2]
theorem shl_len (L:List Int)(hL:Dg L)(k N:Nat)(h:30*L.length+k≤30*N):(digs (nv L*2^k)).length≤N:=by
 refine digs_length_le _ _ ?_
 have h1:=nv_lt L hL
 calc nv L*2^k<2^(30*L.length)*2^k:=Nat.mul_lt_mul_of_lt_of_le h1 (Nat.le_refl _) (Nat.two_pow_pos _)
  _=2^(30*L.length+k):=by rw[←Nat.pow_add]
  _≤2^(30*N):=Nat.pow_le_pow_right (by decide) h
theorem plus_left (P:Nat→Prop)(w:World)(n1 n2:Bool)(a1 a2:Option Addr)(c1 l2 c2:Nat)(x1 x2:Int)(r:Nm)(hb:RNp P w (.agg #[.bool n2,.slice a2 l2 c2,.int .i64 x2]) r):
  Calls Tryz.prog 50 #[.agg #[.bool n1,.slice a1 0 c1,.int .i64 x1],.agg #[.bool n2,.slice a2 l2 c2,.int .i64 x2]] w fun e w'=>(∃v,e=.returned v∧RNp (fun c=>P c∨w.heap.size≤c) w' v r)∧Kept w w':=by
 obtain⟨l1,hl⟩:∃l:Nat,l=0:=⟨_,rfl⟩
 rw[←hl]
 have hl1:((l1:Int)==0)=true:=by rw[hl];rfl
 clear hl
 obtain⟨W,hW⟩:∃W,W=(((w.alloc (.cells #[.bool n1,.slice a1 l1 c1,.int .i64 x1] 43)).alloc (.cells #[.bool n2,.slice a2 l2 c2,.int .i64 x2] 43)).alloc nilNum):=⟨_,rfl⟩
 have hK:Kept w W:=by rw[hW];exact(((Kept.refl w).alloc _ _).alloc _ _).alloc _ _
 have hWs:W.heap.size=w.heap.size+3:=by rw[hW];simp
 have HS:Hid (∀u,Kept W u→((u.cell? ⟨w.heap.size,0,none⟩=some (.bool n1)∧u.cell? ⟨w.heap.size,1,none⟩=some (.slice a1 l1 c1))∧u.cell? ⟨w.heap.size,2,none⟩=some (.int .i64 x1))∧(u.cell? ⟨w.heap.size+1,0,none⟩=some (.bool n2)∧u.cell? ⟨w.heap.size+1,1,none⟩=some (.slice a2 l2 c2))∧u.cell? ⟨w.heap.size+1,2,none⟩=some (.int .i64 x2)):=fun u k=>⟨⟨⟨((k.below.cell (p:=⟨w.heap.size,0,none⟩) (by show w.heap.size<W.heap.size;omega)).trans (by rw[hW];simp[go_sem])),((k.below.cell (p:=⟨w.heap.size,1,none⟩) (by show w.heap.size<W.heap.size;omega)).trans (by rw[hW];simp[go_sem]))⟩,((k.below.cell (p:=⟨w.heap.size,2,none⟩) (by show w.heap.size<W.heap.size;omega)).trans (by rw[hW];simp[go_sem]))⟩,⟨((k.below.cell (p:=⟨w.heap.size+1,0,none⟩) (by show w.heap.size+1<W.heap.size;omega)).trans (by rw[hW];simp[go_sem])),((k.below.cell (p:=⟨w.heap.size+1,1,none⟩) (by show w.heap.size+1<W.heap.size;omega)).trans (by rw[hW];simp[go_sem]))⟩,((k.below.cell (p:=⟨w.heap.size+1,2,none⟩) (by show w.heap.size+1<W.heap.size;omega)).trans (by rw[hW];simp[go_sem]))⟩
 have HC:Hid (W.cell? ⟨w.heap.size+1+1,0,none⟩=some (.bool false)∧W.cell? ⟨w.heap.size+1+1,1,none⟩=some (.slice none 0 0)∧W.cell? ⟨w.heap.size+1+1,2,none⟩=some (.int .i64 0)∧∀o,W.frozen? ⟨w.heap.size+1+1,o,none⟩=false):=by rw[hW];exact⟨by simp[go_sem],by simp[go_sem],by simp[go_sem],fun o=>by simp[go_sem]⟩
 go_enter Tryz.func50,Tryz.ntmps50
 go_upto_region 1 with fail
 rw[←hW]
 clear hW
 have kr2:=Kept.refl W
 have e0:=HS.out _ kr2
 have hN:=hb.here.kept hK
 obtain⟨vn,hvn⟩:∃v,v=n2:=⟨_,rfl⟩
 obtain⟨va,hva⟩:∃v,v=a2:=⟨_,rfl⟩
 obtain⟨vl,hvl⟩:∃v,v=l2:=⟨_,rfl⟩
 obtain⟨vc,hvc⟩:∃v,v=c2:=⟨_,rfl⟩
 obtain⟨vx,hvx⟩:∃v,v=x2:=⟨_,rfl⟩
 subst hvn hva hvl hvc hvx
 have hc:=HC.out
 obtain⟨f0,f1,f2,f3⟩:=res_cells (w.heap.size+1+1) (by omega) kr2 hc.1 hc.2.1 hc.2.2.1 hc.2.2.2
 have kF:=(hK.trans kr2).setCell (p:=⟨w.heap.size+1+1,0,none⟩) (by show w.heap.size≤w.heap.size+1+1;omega) (.bool vn)|>.setCell (p:=⟨w.heap.size+1+1,1,none⟩) (by show w.heap.size≤w.heap.size+1+1;omega) (.slice va vl vc)|>.setCell (p:=⟨w.heap.size+1+1,2,none⟩) (by show w.heap.size≤w.heap.size+1+1;omega) (.int .i64 vx)
 clear HS HC
 have hd:=hN.done (w.heap.size+1+1) (fun b hb=>by have:=hb.2;omega) (.bool vn) (.slice va vl vc) (.int .i64 vx)
 go_wp2
 refine bodyPost_ret (v:=.agg #[.bool vn,.slice va vl vc,.int .i64 vx]) (by simp[results,Tryz.results50,go_sem,f0,f1,f2]) rfl ⟨⟨_,rfl,hd.imp (fun b hb=>Or.inl hb.1)⟩,kF⟩
theorem plus_right (P:Nat→Prop)(w:World)(n1 n2:Bool)(a1 a2:Option Addr)(l1 c1 c2:Nat)(hl1:((l1:Int)==0)=false)(x1 x2:Int)(r:Nm)(ha:RNp P w (.agg #[.bool n1,.slice a1 l1 c1,.int .i64 x1]) r):
  Calls Tryz.prog 50 #[.agg #[.bool n1,.slice a1 l1 c1,.int .i64 x1],.agg #[.bool n2,.slice a2 0 c2,.int .i64 x2]] w fun e w'=>(∃v,e=.returned v∧RNp (fun c=>P c∨w.heap.size≤c) w' v r)∧Kept w w':=by
 obtain⟨l2,hl⟩:∃l:Nat,l=0:=⟨_,rfl⟩
 rw[←hl]
 have hl2:((l2:Int)==0)=true:=by rw[hl];rfl
 clear hl
 obtain⟨W,hW⟩:∃W,W=(((w.alloc (.cells #[.bool n1,.slice a1 l1 c1,.int .i64 x1] 43)).alloc (.cells #[.bool n2,.slice a2 l2 c2,.int .i64 x2] 43)).alloc nilNum):=⟨_,rfl⟩
 have hK:Kept w W:=by rw[hW];exact(((Kept.refl w).alloc _ _).alloc _ _).alloc _ _
 have hWs:W.heap.size=w.heap.size+3:=by rw[hW];simp
 have HS:Hid (∀u,Kept W u→((u.cell? ⟨w.heap.size,0,none⟩=some (.bool n1)∧u.cell? ⟨w.heap.size,1,none⟩=some (.slice a1 l1 c1))∧u.cell? ⟨w.heap.size,2,none⟩=some (.int .i64 x1))∧(u.cell? ⟨w.heap.size+1,0,none⟩=some (.bool n2)∧u.cell? ⟨w.heap.size+1,1,none⟩=some (.slice a2 l2 c2))∧u.cell? ⟨w.heap.size+1,2,none⟩=some (.int .i64 x2)):=fun u k=>⟨⟨⟨((k.below.cell (p:=⟨w.heap.size,0,none⟩) (by show w.heap.size<W.heap.size;omega)).trans (by rw[hW];simp[go_sem])),((k.below.cell (p:=⟨w.heap.size,1,none⟩) (by show w.heap.size<W.heap.size;omega)).trans (by rw[hW];simp[go_sem]))⟩,((k.below.cell (p:=⟨w.heap.size,2,none⟩) (by show w.heap.size<W.heap.size;omega)).trans (by rw[hW];simp[go_sem]))⟩,⟨((k.below.cell (p:=⟨w.heap.size+1,0,none⟩) (by show w.heap.size+1<W.heap.size;omega)).trans (by rw[hW];simp[go_sem])),((k.below.cell (p:=⟨w.heap.size+1,1,none⟩) (by show w.heap.size+1<W.heap.size;omega)).trans (by rw[hW];simp[go_sem]))⟩,((k.below.cell (p:=⟨w.heap.size+1,2,none⟩) (by show w.heap.size+1<W.heap.size;omega)).trans (by rw[hW];simp[go_sem]))⟩
 have HC:Hid (W.cell? ⟨w.heap.size+1+1,0,none⟩=some (.bool false)∧W.cell? ⟨w.heap.size+1+1,1,none⟩=some (.slice none 0 0)∧W.cell? ⟨w.heap.size+1+1,2,none⟩=some (.int .i64 0)∧∀o,W.frozen? ⟨w.heap.size+1+1,o,none⟩=false):=by rw[hW];exact⟨by simp[go_sem],by simp[go_sem],by simp[go_sem],fun o=>by simp[go_sem]⟩
 go_enter Tryz.func50,Tryz.ntmps50
 go_upto_region 1 with fail
 rw[←hW]
 clear hW
 have kr2:=Kept.refl W
 have e0:=HS.out _ kr2
 have hN:=ha.here.kept hK
 obtain⟨vn,hvn⟩:∃v,v=n1:=⟨_,rfl⟩
 obtain⟨va,hva⟩:∃v,v=a1:=⟨_,rfl⟩
 obtain⟨vl,hvl⟩:∃v,v=l1:=⟨_,rfl⟩
 obtain⟨vc,hvc⟩:∃v,v=c1:=⟨_,rfl⟩
 obtain⟨vx,hvx⟩:∃v,v=x1:=⟨_,rfl⟩
 subst hvn hva hvl hvc hvx
 have hc:=HC.out
 obtain⟨f0,f1,f2,f3⟩:=res_cells (w.heap.size+1+1) (by omega) kr2 hc.1 hc.2.1 hc.2.2.1 hc.2.2.2
 have kF:=(hK.trans kr2).setCell (p:=⟨w.heap.size+1+1,0,none⟩) (by show w.heap.size≤w.heap.size+1+1;omega) (.bool vn)|>.setCell (p:=⟨w.heap.size+1+1,1,none⟩) (by show w.heap.size≤w.heap.size+1+1;omega) (.slice va vl vc)|>.setCell (p:=⟨w.heap.size+1+1,2,none⟩) (by show w.heap.size≤w.heap.size+1+1;omega) (.int .i64 vx)
 clear HS HC
 have hd:=hN.done (w.heap.size+1+1) (fun b hb=>by have:=hb.2;omega) (.bool vn) (.slice va vl vc) (.int .i64 vx)
 go_wp2
 refine bodyPost_ret (v:=.agg #[.bool vn,.slice va vl vc,.int .i64 vx]) (by simp[results,Tryz.results50,go_sem,f0,f1,f2]) rfl ⟨⟨_,rfl,hd.imp (fun b hb=>Or.inl hb.1)⟩,kF⟩
theorem plus_any (P:Nat→Prop)(w:World)(a b:Nm)(va vb:Value)(ha:RNp P w va a)(hb:RNp P w vb b)(ca:Cn a.mag)(cb:Cn b.mag)(la:a.mag.length<100000)(lb:b.mag.length<100000)(xa:-4000000≤a.exp∧a.exp≤4000000)(xb:-4000000≤b.exp∧b.exp≤4000000):
  Calls Tryz.prog 50 #[va,vb] w fun e w'=>(∃v,e=.returned v∧RNp (fun c=>P c∨w.heap.size≤c) w' v (pls a b))∧Kept w w':=by
 obtain⟨n1,L1,x1⟩:=a
 obtain⟨n2,L2,x2⟩:=b
 obtain⟨a1,c1,rfl,hra⟩:=ha.shape
 obtain⟨a2,c2,rfl,hrb⟩:=hb.shape
 dsimp only at *
 by_cases e1:L1=[]
 ·subst e1
  have:pls ⟨n1,[],x1⟩ ⟨n2,L2,x2⟩=⟨n2,L2,x2⟩:=by simp[pls]
  rw[this]
  exact plus_left P w n1 n2 a1 a2 c1 _ c2 x1 x2 _ hb
 have hl1:((L1.length:Int)==0)=false:=by
  have:=List.length_pos_iff.2 e1
  simp;omega
 by_cases e2:L2=[]
 ·subst e2
  have:pls ⟨n1,L1,x1⟩ ⟨n2,[],x2⟩=⟨n1,L1,x1⟩:=by simp[pls,e1]
  rw[this]
  exact plus_right P w n1 n2 a1 a2 _ c1 c2 hl1 x1 x2 _ ha
 have hl2:((L2.length:Int)==0)=false:=by
  have:=List.length_pos_iff.2 e2
  simp;omega
 have d1:=cn_digs ca
 have d2:=cn_digs cb
 have p1:0<nv L1:=by
  rcases Nat.eq_zero_or_pos (nv L1)with h|h
  ·rw[h,digs_zero]at d1;exact absurd d1.symm e1
  ·exact h
 have p2:0<nv L2:=by
  rcases Nat.eq_zero_or_pos (nv L2)with h|h
  ·rw[h,digs_zero]at d2;exact absurd d2.symm e2
  ·exact h
 obtain⟨lo,hlo⟩:∃lo,min x1 x2=lo:=⟨_,rfl⟩
 obtain⟨k1,hk1⟩:∃k:Nat,(x1-lo).toNat=k:=⟨_,rfl⟩
 obtain⟨k2,hk2⟩:∃k:Nat,(x2-lo).toNat=k:=⟨_,rfl⟩
 have hq:=nrm_sum n1 n2 (nv L1*2^k1) (nv L2*2^k2) (Nat.mul_pos p1 (Nat.two_pow_pos _)) (Nat.mul_pos p2 (Nat.two_pow_pos _)) lo
 have hp:pls ⟨n1,L1,x1⟩ ⟨n2,L2,x2⟩=nrm (decide (sg n1 ((nv L1*2^k1:Nat):Int)+sg n2 ((nv L2*2^k2:Nat):Int)<0)) (sg n1 ((nv L1*2^k1:Nat):Int)+sg n2 ((nv L2*2^k2:Nat):Int)).natAbs lo:=by
  unfold pls
  dsimp only
  rw[if_neg e1,if_neg e2,hlo,tot_nat n1 n2 L1 L2 x1 x2 lo k1 k2 hk1 hk2]
 obtain⟨N,hN⟩:∃N:Nat,N=800000:=⟨_,rfl⟩
 have s1:=shl_len L1 ca.1 k1 N (by omega)
 have s2:=shl_len L2 cb.1 k2 N (by omega)
 rw[hp]
 refine plus_walk P w n1 n2 a1 a2 L1.length c1 L2.length c2 x1 x2 lo k1 k2 (nv L1*2^k1) (nv L2*2^k2) hl1 hl2 hlo (by rw[wrap_i64];omega) (by rw[wrap_i64];omega) _ (fun u k=>?_) (fun u k=>?_) (by omega) (by omega) hq.1 hq.2.1 hq.2.2 ?_
 ·refine natShl_any u (nv L1) k1 _ ?_ (by rw[d1];omega) (by omega)
  rw[d1]
  exact hra.rl.kept k
 ·refine natShl_any u (nv L2) k2 _ ?_ (by rw[d2];omega) (by omega)
  rw[d2]
  exact hrb.rl.kept k
 ·have h1:=digs_lt (nv L1*2^k1) N s1
  have h2:=digs_lt (nv L2*2^k2) N s2
  have h3:nv L1*2^k1+nv L2*2^k2<2^(30*(N+1)):=by
   have:(2:Nat)^(30*N)*2≤2^(30*(N+1)):=by rw[←Nat.pow_succ];exact Nat.pow_le_pow_right (by decide) (by omega)
   omega
  have:=digs_length_le _ (N+1) h3
  omega
end Go.Proofs.YtnniljhdcplkgaaGreatDoor
