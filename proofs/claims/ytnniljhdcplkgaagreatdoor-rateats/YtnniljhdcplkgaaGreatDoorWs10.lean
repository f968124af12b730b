/-  -/
import Derived.Test.YtnniljhdcplkgaaGreatDoorWs09
import Derived.Test.YtnniljhdcplkgaaGreatDoorWs07
namespace Go.Proofs.YtnniljhdcplkgaaGreatDoor
open Go.ChangeShapes Go.WideShapes Go.ChangeAt Go.RowKit
set_option maxHeartbeats 16000000
set_option maxRecDepth 100000
set_option linter.unusedVariables false
set_option linter.unusedSimpArgs false
def tot (a b:Nm)(lo:Int):Int:=sg a.neg ((nv a.mag:Int)*2^(a.exp-lo).toNat)+sg b.neg ((nv b.mag:Int)*2^(b.exp-lo).toNat)
def tp (a:Nm):Int:=a.exp+(bl (nv a.mag):Int)
def addN (a b:Nm):Option Nm:=
 if max (tp a) (tp b)-min a.exp b.exp≤60001 then frm (decide (tot a b (min a.exp b.exp)<0)) (tot a b (min a.exp b.exp)).natAbs (min a.exp b.exp)else none
theorem nv_bl_mul (L:List Int)(k:Nat):(0:Int)≤(nv L:Int)*2^k∧(nv L:Int)*2^k<2^(bl (nv L)+k):=by
 have h:=bl_lt (nv L)
 have hp:=Nat.two_pow_pos k
 have h1:nv L*2^k<2^(bl (nv L)+k):=by
  rw[Nat.pow_add]
  exact Nat.mul_lt_mul_of_lt_of_le h (Nat.le_refl _) hp
 have e:((nv L*2^k:Nat):Int)=(nv L:Int)*2^k:=by rw[Int.natCast_mul,Int.natCast_pow];rfl
 have e2:((2^(bl (nv L)+k):Nat):Int)=(2:Int)^(bl (nv L)+k):=by rw[Int.natCast_pow];rfl
 rw[←e,←e2]
 omega
theorem pow_le_int (a b:Nat)(h:a≤b):(2:Int)^a≤2^b:=by
 have h1:2^a≤2^b:=Nat.pow_le_pow_right (by decide) h
 have e:((2^a:Nat):Int)≤((2^b:Nat):Int):=by omega
 rw[Int.natCast_pow,Int.natCast_pow]at e
 exact e
theorem len_bl (L:List Int)(hL:Dg L)(hne:L≠[])(hl:L.getD (L.length-1) 0≠0):30*L.length≤bl (nv L)+29∧bl (nv L)≤30*L.length:=by
 have h1:=le_bl _ _ (nv_ge L hL hl)
 have h2:=bl_le _ _ (nv_lt L hL)
 have:=List.length_pos_iff.2 hne
 omega
theorem sum_main (w:World)(T:Nat)(hTw:T<w.heap.size)(hTab:Tab w)
  (n1:Bool) (L1:List Int) (x1:Int) (hne1:L1≠[]) (hv1:vld ⟨n1,L1,x1⟩=true) (a1:Option Addr) (c1:Nat) (h1:Sl w (.slice a1 L1.length c1) L1)
  (n2:Bool) (L2:List Int) (x2:Int) (hne2:L2≠[]) (hv2:vld ⟨n2,L2,x2⟩=true) (a2:Option Addr) (c2:Nat) (h2:Sl w (.slice a2 L2.length c2) L2)
  (d0:w.cell? ⟨T,0,none⟩=some (.bool n1)) (d1:w.cell? ⟨T,1,none⟩=some (.slice a1 L1.length c1)) (d2:w.cell? ⟨T,2,none⟩=some (.int .i64 x1))
  (d3:w.cell? ⟨T,3,none⟩=some (.bool n2)) (d4:w.cell? ⟨T,4,none⟩=some (.slice a2 L2.length c2)) (d5:w.cell? ⟨T,5,none⟩=some (.int .i64 x2)) (Res:Option Nm) (hRes:addN ⟨n1,L1,x1⟩ ⟨n2,L2,x2⟩=Res):
  Calls Tryz.prog 145 #[.slice (some ⟨T,0,none⟩) 2 2] w fun e w'=>ToldR Res w w' e∧Kept w w':=by
 obtain⟨p1,p2,p3,p4,p5,p6⟩:=vld_some n1 L1 x1 hne1 hv1
 obtain⟨q1,q2,q3,q4,q5,q6⟩:=vld_some n2 L2 x2 hne2 hv2
 have b1:=len_bl L1 p2 hne1 p3
 have b2:=len_bl L2 q2 hne2 q3
 have l1:=List.length_pos_iff.2 hne1
 have l2:=List.length_pos_iff.2 hne2
 have KT1:Hid (∀u,Kept w u→Calls Tryz.prog 159 #[.agg #[.bool n1,.slice a1 L1.length c1,.int .i64 x1]] u fun e w'=>e=.returned (.int .i64 (x1+(bl (nv L1):Int)))∧Kept u w'):=fun u k=>top_any n1 L1 ⟨p2,fun _=>p3⟩ (by omega) a1 c1 x1 p5 p6 u (h1.kept k)
 have KT2:Hid (∀u,Kept w u→Calls Tryz.prog 159 #[.agg #[.bool n2,.slice a2 L2.length c2,.int .i64 x2]] u fun e w'=>e=.returned (.int .i64 (x2+(bl (nv L2):Int)))∧Kept u w'):=fun u k=>top_any n2 L2 ⟨q2,fun _=>q3⟩ (by omega) a2 c2 x2 q5 q6 u (h2.kept k)
 obtain⟨lo,hlo⟩:∃lo,min x1 x2=lo:=⟨_,rfl⟩
 obtain⟨hi,hhi⟩:∃hi,max (x1+(bl (nv L1):Int)) (x2+(bl (nv L2):Int))=hi:=⟨_,rfl⟩
 obtain⟨R,hR⟩:∃R:Nat,max 0 (hi-lo)=(R:Int):=⟨(max 0 (hi-lo)).toNat,by omega⟩
 unfold addN tp at hRes
 dsimp only at hRes
 rw[hlo,hhi]at hRes
 by_cases hfar:60001<R
 ·rw[if_neg (by omega)]at hRes
  subst hRes
  refine(sum_far w T hTw n1 a1 L1.length c1 x1 _ ⟨p5,p6⟩ ⟨by omega,by omega⟩ l1 (by omega) KT1 n2 a2 L2.length c2 x2 _ ⟨q5,q6⟩ ⟨by omega,by omega⟩ l2 (by omega) KT2 lo hi hlo hhi R hR hfar d0 d1 d2 d3 d4 d5).mono ?_
  rintro e w' ⟨rfl,k⟩
  exact⟨rfl,k⟩
 ·rw[if_pos (by omega)]at hRes
  obtain⟨n,hn⟩:∃n:Nat,(R:Int)/30+2=(n:Int):=⟨R/30+2,by omega⟩
  obtain⟨f1,hf1⟩:∃f:Nat,(x1-lo)/30=(f:Int):=⟨((x1-lo)/30).toNat,by omega⟩
  obtain⟨f2,hf2⟩:∃f:Nat,(x2-lo)/30=(f:Int):=⟨((x2-lo)/30).toNat,by omega⟩
  obtain⟨s1,hs1⟩:∃f:Nat,(x1-lo)%30=(f:Int):=⟨((x1-lo)%30).toNat,by omega⟩
  obtain⟨s2,hs2⟩:∃f:Nat,(x2-lo)%30=(f:Int):=⟨((x2-lo)%30).toNat,by omega⟩
  have e1:x1-lo=30*(f1:Int)+(s1:Int):=by omega
  have e2:x2-lo=30*(f2:Int)+(s2:Int):=by omega
  have g1:f1+L1.length<n:=by omega
  have g2:f2+L2.length<n:=by omega
  obtain⟨C1,hC1⟩:∃C,layL (List.replicate n 0) f1 (dsh n1 s1 L1)=C:=⟨_,rfl⟩
  obtain⟨C2,hC2⟩:∃C,layL C1 f2 (dsh n2 s2 L2)=C:=⟨_,rfl⟩
  have lC1:C1.length=n:=by rw[←hC1,layL_length,List.length_replicate]
  have lC2:C2.length=n:=by rw[←hC2,layL_length,lC1]
  have bC1:∀j,-2147483648≤C1.getD j 0∧C1.getD j 0≤2147483648:=by
   have:=layL_bound (List.replicate n 0) f1 (dsh n1 s1 L1) 0 (by omega) (by rw[dsh_length,List.length_replicate];omega) (dsh_bound n1 s1 (by omega) L1 p2) (fun j _=>by rw[getD_replicate];omega) (by rw[getD_replicate];omega) (fun j _=>by rw[getD_replicate];omega)
   rw[hC1]at this
   intro j
   have:=this j
   omega
  have bC2:∀j,-4294967296≤C2.getD j 0∧C2.getD j 0≤4294967296:=by
   have:=layL_bound C1 f2 (dsh n2 s2 L2) 2147483648 (by omega) (by rw[dsh_length,lC1];omega) (dsh_bound n2 s2 (by omega) L2 q2) (fun j _=>by have:=bC1 j;omega) (by have:=bC1 f2;omega) (fun j _=>bC1 j)
   rw[hC2]at this
   intro j
   have:=this j
   omega
  have hval:cv C2=tot ⟨n1,L1,x1⟩ ⟨n2,L2,x2⟩ lo:=by
   rw[←hC2,layL_val _ _ _ (by rw[dsh_length,lC1];omega),←hC1,layL_val _ _ _ (by rw[dsh_length,List.length_replicate];omega),nv_replicate,dsh_val _ _ _ p2,dsh_val _ _ _ q2,sg_mul,sg_mul]
   unfold tot
   dsimp only
   rw[show(x1-lo).toNat=30*f1+s1 by omega,show(x2-lo).toNat=30*f2+s2 by omega,pow_add_int,pow_add_int,Int.mul_left_comm,Int.mul_left_comm ((2:Int)^(30*f2)),Int.zero_add]
  have hT1:=nv_bl_mul L1 (x1-lo).toNat
  have hT2:=nv_bl_mul L2 (x2-lo).toNat
  have hP1:=pow_le_int (bl (nv L1)+(x1-lo).toNat) R (by omega)
  have hP2:=pow_le_int (bl (nv L2)+(x2-lo).toNat) R (by omega)
  have hP3:=pow_le_int (R+1) (30*n) (by omega)
  rw[Int.pow_succ]at hP3
  have hS1:=sg_abs n1 _ _ hT1.1 hT1.2
  have hS2:=sg_abs n2 _ _ hT2.1 hT2.2
  have hTt:-(2:Int)^(30*n)<tot ⟨n1,L1,x1⟩ ⟨n2,L2,x2⟩ lo∧tot ⟨n1,L1,x1⟩ ⟨n2,L2,x2⟩ lo<(2:Int)^(30*n):=by
   unfold tot
   dsimp only
   omega
  generalize htt:tot ⟨n1,L1,x1⟩ ⟨n2,L2,x2⟩ lo=tt at *
  refine sum_NN w T hTw n1 a1 L1.length c1 x1 _ ⟨p5,p6⟩ ⟨by omega,by omega⟩ l1 (by omega) KT1 n2 a2 L2.length c2 x2 _ ⟨q5,q6⟩ ⟨by omega,by omega⟩ l2 (by omega) KT2 lo hi hlo hhi R n hR (by omega) hn C1 C2 ?_ ?_ Res ?_ d0 d1 d2 d3 d4 d5
  ·intro u g k hg ho
   obtain⟨ao,cap,e,hc,hm,hr⟩:=h1.kept k
   cases e
   obtain⟨b,off,rfl,hb,hr⟩:=hr hne1
   obtain⟨ao',cap',e',-,-,hr0⟩:=h1
   cases e'
   obtain⟨b',off',e2',hb',-⟩:=hr0 hne1
   cases e2'
   have:=lay_some (List.replicate n 0) g n n1 L1 p2 b off c1 x1 (x1-lo) f1 s1 (by omega) e1 (by rw[List.length_replicate];exact g1) (by rw[List.length_replicate];omega) (fun j=>by rw[getD_replicate];omega) (by omega) u hb hr ho
   rw[List.length_replicate,hC1]at this
   exact this
  ·intro u g k hg ho
   obtain⟨ao,cap,e,hc,hm,hr⟩:=h2.kept k
   cases e
   obtain⟨b,off,rfl,hb,hr⟩:=hr hne2
   obtain⟨ao',cap',e',-,-,hr0⟩:=h2
   cases e'
   obtain⟨b',off',e2',hb',-⟩:=hr0 hne2
   cases e2'
   have:=lay_some C1 g n n2 L2 q2 b off c2 x2 (x2-lo) f2 s2 (by omega) e2 (by rw[lC1];exact g2) (by rw[lC1];omega) (fun j=>by have:=bC1 j;omega) (by omega) u hb hr ho
   rw[lC1,hC2]at this
   exact this
  ·intro u0 u g k0 k1 hg ho
   exact settled_any u n n g lo C2 lC2 (by omega) (fun j=>by have:=bC2 j;omega) tt hval hTt.1 hTt.2 u0 (hTab.kept k0) k1 hg ho Res hRes
end Go.Proofs.YtnniljhdcplkgaaGreatDoor
namespace Go.Proofs.YtnniljhdcplkgaaGreatDoor
open Go.ChangeShapes Go.WideShapes Go.ChangeAt Go.RowKit
set_option maxHeartbeats 16000000
set_option maxRecDepth 100000
set_option linter.unusedVariables false
set_option linter.unusedSimpArgs false
def addZ (a b:Nm):Option Nm:=if a.mag=[]then (if b.mag=[]then some ⟨false,[],0⟩else some b)else if b.mag=[]then some a else addN a b
theorem sg_neg (n:Bool)(a:Int)(h:0<a):decide (sg n a<0)=n∧(sg n a).natAbs=a.toNat:=by
 cases n<;>simp[sg]<;>omega
theorem wrap64_id (x:Int)(h1:-1048576≤x)(h2:x≤1048576):wrap64 x=x:=by unfold wrap64;omega
theorem vld_zero (n:Bool)(L:List Int)(x:Int)(h:vld ⟨n,L,x⟩=true):L=[]→x=0:=by
 rintro rfl
 simp[vld]at h
 exact h.2
theorem alone (n1:Bool)(L1:List Int)(x1:Int)(hne1:L1≠[])(hv1:vld ⟨n1,L1,x1⟩=true)(n:Nat)(hn:L1.length<n)(C:List Int)(hC:layL (List.replicate n 0) 0 (dsh n1 0 L1)=C):
  C.length=n∧(∀j,-2147483648≤C.getD j 0∧C.getD j 0≤2147483648)∧cv C=sg n1 (nv L1)∧-(2:Int)^(30*n)<sg n1 (nv L1)∧sg n1 (nv L1)<(2:Int)^(30*n)∧frm (decide (sg n1 (nv L1)<0)) (sg n1 (nv L1)).natAbs x1=some ⟨n1,L1,x1⟩:=by
 obtain⟨p1,p2,p3,p4,p5,p6⟩:=vld_some n1 L1 x1 hne1 hv1
 have l1:=List.length_pos_iff.2 hne1
 have b1:=len_bl L1 p2 hne1 p3
 have hpos:0<nv L1:=by
  rcases Nat.eq_zero_or_pos (nv L1)with h|h
  ·exact absurd ((nv_zero L1 p2).1 h (L1.length-1)) p3
  ·exact h
 have hsg:=sg_neg n1 (nv L1:Int) (by omega)
 have hlt:=nv_lt L1 p2
 have hP:=pow_le_int (30*L1.length) (30*n) (by omega)
 have e:((2^(30*L1.length):Nat):Int)=(2:Int)^(30*L1.length):=by rw[Int.natCast_pow];rfl
 have hlt2:(nv L1:Int)<(2:Int)^(30*L1.length):=by rw[←e];omega
 have hS:=sg_abs n1 (nv L1:Int) _ (by omega) hlt2
 refine⟨by rw[←hC,layL_length,List.length_replicate],?_,?_,by omega,by omega,?_⟩
 ·have:=layL_bound (List.replicate n 0) 0 (dsh n1 0 L1) 0 (by omega) (by rw[dsh_length,List.length_replicate];omega) (dsh_bound n1 0 (by omega) L1 p2) (fun j _=>by rw[getD_replicate];omega) (by rw[getD_replicate];omega) (fun j _=>by rw[getD_replicate];omega)
  rw[hC]at this
  intro j
  have:=this j
  omega
 ·rw[←hC,layL_val _ _ _ (by rw[dsh_length,List.length_replicate];omega),nv_replicate,dsh_val _ _ _ p2]
  simp
 ·rw[hsg.1,hsg.2,Int.toNat_natCast]
  rw[frm_odd n1 n1 L1 x1 x1 hne1 hv1,wrap64_id x1 p5 p6,if_pos ⟨p5,p6⟩]
theorem sum_any (w:World)(T:Nat)(hTw:T<w.heap.size)(hTab:Tab w)
  (n1:Bool) (L1:List Int) (x1:Int) (hv1:L1≠[]→vld ⟨n1,L1,x1⟩=true) (hz1:L1=[]→x1=0) (a1:Option Addr) (c1:Nat) (h1:Sl w (.slice a1 L1.length c1) L1)
  (n2:Bool) (L2:List Int) (x2:Int) (hv2:L2≠[]→vld ⟨n2,L2,x2⟩=true) (hz2:L2=[]→x2=0) (a2:Option Addr) (c2:Nat) (h2:Sl w (.slice a2 L2.length c2) L2)
  (d0:w.cell? ⟨T,0,none⟩=some (.bool n1)) (d1:w.cell? ⟨T,1,none⟩=some (.slice a1 L1.length c1)) (d2:w.cell? ⟨T,2,none⟩=some (.int .i64 x1))
  (d3:w.cell? ⟨T,3,none⟩=some (.bool n2)) (d4:w.cell? ⟨T,4,none⟩=some (.slice a2 L2.length c2)) (d5:w.cell? ⟨T,5,none⟩=some (.int .i64 x2)) (Res:Option Nm) (hRes:addZ ⟨n1,L1,x1⟩ ⟨n2,L2,x2⟩=Res):
  Calls Tryz.prog 145 #[.slice (some ⟨T,0,none⟩) 2 2] w fun e w'=>ToldR Res w w' e∧Kept w w':=by
 unfold addZ at hRes
 dsimp only at hRes
 by_cases e1:L1=[]
 ·rw[if_pos e1]at hRes
  by_cases e2:L2=[]
  ·rw[if_pos e2]at hRes
   have hx1:=hz1 e1
   have hx2:=hz2 e2
   subst e1 e2 hx1 hx2
   refine sum_EE w T hTw n1 a1 0 c1 0 0 (by omega) (by omega) rfl n2 a2 0 c2 0 0 (by omega) (by omega) rfl (List.replicate 2 0) (List.replicate 2 0) rfl rfl Res ?_ d0 d1 d2 d3 d4 d5
   intro u0 u g k0 k1 hg ho
   exact settled_any u 2 2 g 1048576 (List.replicate 2 0) (by simp) (by omega) (fun j=>by rw[getD_replicate];omega) 0 (nv_replicate 2) (by decide) (by decide) u0 (hTab.kept k0) k1 hg ho Res (by rw[←hRes];simp[frm])
  ·rw[if_neg e2]at hRes
   have hx1:=hz1 e1
   have hv:=hv2 e2
   obtain⟨q1,q2,q3,q4,q5,q6⟩:=vld_some n2 L2 x2 e2 hv
   have b2:=len_bl L2 q2 e2 q3
   have l2:=List.length_pos_iff.2 e2
   have KT2:Hid (∀u,Kept w u→Calls Tryz.prog 159 #[.agg #[.bool n2,.slice a2 L2.length c2,.int .i64 x2]] u fun e w'=>e=.returned (.int .i64 (x2+(bl (nv L2):Int)))∧Kept u w'):=fun u k=>top_any n2 L2 ⟨q2,fun _=>q3⟩ (by omega) a2 c2 x2 q5 q6 u (h2.kept k)
   subst e1 hx1
   obtain⟨n,hn⟩:∃n:Nat,((bl (nv L2):Nat):Int)/30+2=(n:Int):=⟨bl (nv L2)/30+2,by omega⟩
   obtain⟨C,hC⟩:∃C,layL (List.replicate n 0) 0 (dsh n2 0 L2)=C:=⟨_,rfl⟩
   obtain⟨lC,bC,vC,tC1,tC2,fC⟩:=alone n2 L2 x2 e2 hv n (by omega) C hC
   refine sum_EN w T hTw n1 a1 0 c1 0 0 (by omega) (by omega) rfl n2 a2 L2.length c2 x2 _ ⟨q5,q6⟩ ⟨by omega,by omega⟩ l2 (by omega) KT2 (bl (nv L2)) n (by omega) (by omega) hn (List.replicate n 0) C rfl ?_ Res ?_ d0 d1 d2 d3 d4 d5
   ·intro u g k hg ho
    obtain⟨ao,cap,e,hc,hm,hr⟩:=h2.kept k
    cases e
    obtain⟨b,off,rfl,hb,hr⟩:=hr e2
    obtain⟨ao',cap',e',-,-,hr0⟩:=h2
    cases e'
    obtain⟨b',off',e2',hb',-⟩:=hr0 e2
    cases e2'
    have:=lay_some (List.replicate n 0) g n n2 L2 q2 b off c2 x2 0 0 0 (by omega) (by omega) (by rw[List.length_replicate];omega) (by rw[List.length_replicate];omega) (fun j=>by rw[getD_replicate];omega) (by omega) u hb hr ho
    rw[List.length_replicate,hC]at this
    exact this
   ·intro u0 u g k0 k1 hg ho
    exact settled_any u n n g x2 C lC (by omega) (fun j=>by have:=bC j;omega) _ vC tC1 tC2 u0 (hTab.kept k0) k1 hg ho Res (by rw[←hRes];exact fC)
 ·rw[if_neg e1]at hRes
  by_cases e2:L2=[]
  ·rw[if_pos e2]at hRes
   have hx2:=hz2 e2
   have hv:=hv1 e1
   obtain⟨q1,q2,q3,q4,q5,q6⟩:=vld_some n1 L1 x1 e1 hv
   have b2:=len_bl L1 q2 e1 q3
   have l2:=List.length_pos_iff.2 e1
   have KT1:Hid (∀u,Kept w u→Calls Tryz.prog 159 #[.agg #[.bool n1,.slice a1 L1.length c1,.int .i64 x1]] u fun e w'=>e=.returned (.int .i64 (x1+(bl (nv L1):Int)))∧Kept u w'):=fun u k=>top_any n1 L1 ⟨q2,fun _=>q3⟩ (by omega) a1 c1 x1 q5 q6 u (h1.kept k)
   subst e2 hx2
   obtain⟨n,hn⟩:∃n:Nat,((bl (nv L1):Nat):Int)/30+2=(n:Int):=⟨bl (nv L1)/30+2,by omega⟩
   obtain⟨C,hC⟩:∃C,layL (List.replicate n 0) 0 (dsh n1 0 L1)=C:=⟨_,rfl⟩
   obtain⟨lC,bC,vC,tC1,tC2,fC⟩:=alone n1 L1 x1 e1 hv n (by omega) C hC
   refine sum_NE w T hTw n1 a1 L1.length c1 x1 _ ⟨q5,q6⟩ ⟨by omega,by omega⟩ l2 (by omega) KT1 n2 a2 0 c2 0 0 (by omega) (by omega) rfl (bl (nv L1)) n (by omega) (by omega) hn C C ?_ rfl Res ?_ d0 d1 d2 d3 d4 d5
   ·intro u g k hg ho
    obtain⟨ao,cap,e,hc,hm,hr⟩:=h1.kept k
    cases e
    obtain⟨b,off,rfl,hb,hr⟩:=hr e1
    obtain⟨ao',cap',e',-,-,hr0⟩:=h1
    cases e'
    obtain⟨b',off',e2',hb',-⟩:=hr0 e1
    cases e2'
    have:=lay_some (List.replicate n 0) g n n1 L1 q2 b off c1 x1 0 0 0 (by omega) (by omega) (by rw[List.length_replicate];omega) (by rw[List.length_replicate];omega) (fun j=>by rw[getD_replicate];omega) (by omega) u hb hr ho
    rw[List.length_replicate,hC]at this
    exact this
   ·intro u0 u g k0 k1 hg ho
    exact settled_any u n n g x1 C lC (by omega) (fun j=>by have:=bC j;omega) _ vC tC1 tC2 u0 (hTab.kept k0) k1 hg ho Res (by rw[←hRes];exact fC)
  ·rw[if_neg e2]at hRes
   exact sum_main w T hTw hTab n1 L1 x1 e1 (hv1 e1) a1 c1 h1 n2 L2 x2 e2 (hv2 e2) a2 c2 h2 d0 d1 d2 d3 d4 d5 Res hRes
end Go.Proofs.YtnniljhdcplkgaaGreatDoor
namespace Go.Proofs.YtnniljhdcplkgaaGreatDoor
open Go.ChangeShapes Go.WideShapes Go.ChangeAt Go.RowKit
set_option maxHeartbeats 16000000
set_option maxRecDepth 100000
set_option linter.unusedVariables false
set_option linter.unusedSimpArgs false
def cfm (z x:Int):Option Nm:=frm (decide (z<0)) z.natAbs x
def vz (s:Int)(a:Nm):Int:=sg a.neg ((nv a.mag:Int)*2^(a.exp-s).toNat)
structure Lies (s:Int) (B:Nat) (a:Nm):Prop where
 ok:vld a=true
 low:a.mag≠[]→s≤a.exp
 lt:(vz s a).natAbs<2^B
theorem frm_shift (neg:Bool)(v k:Nat)(x:Int)(hv:v≠0):frm neg (v*2^k) x=frm neg v (x+(k:Int)):=by
 obtain⟨o,ho,e⟩:=tzn_spec v hv
 have hp:=Nat.two_pow_pos k
 have hne:v*2^k≠0:=Nat.mul_ne_zero hv (by omega)
 have ht:tzn (v*2^k)=tzn v+k:=by
  have:v*2^k=o*2^(tzn v+k):=by rw[Nat.pow_add,←Nat.mul_assoc,←e]
  rw[this,tzn_mul o _ ho]
 have hb:=bl_mul v k hv
 have hw:wrap64 (x+((tzn v+k:Nat):Int))=wrap64 (x+(k:Int)+(tzn v:Int)):=by congr 1;push_cast;omega
 have hd:v*2^k/2^(tzn v+k)=v/2^tzn v:=by
  rw[Nat.pow_add,Nat.mul_div_mul_right _ _ hp]
 unfold frm
 rw[if_neg hne,if_neg hv,ht,hb,hw,hd,show bl v+k-(tzn v+k)=bl v-tzn v by omega]
theorem cfm_zero (x:Int):cfm 0 x=some ⟨false,[],0⟩:=by simp[cfm,frm]
theorem cfm_shift (z:Int)(k:Nat)(x:Int):cfm (z*2^k) x=cfm z (x+(k:Int)):=by
 by_cases hz:z=0
 ·subst hz
  rw[Int.zero_mul,cfm_zero,cfm_zero]
 ·have hp:(0:Int)<2^k:=Int.pow_pos (by decide)
  have hn:(z*2^k).natAbs=z.natAbs*2^k:=by
   rw[Int.natAbs_mul]
   congr 1
  have hd:decide (z*2^k<0)=decide (z<0):=by
   congr 1
   apply propext
   constructor
   ·intro h
    rcases Int.lt_or_le z 0 with g|g
    ·exact g
    ·exact absurd (Int.mul_nonneg g (Int.le_of_lt hp)) (by omega)
   ·intro h
    exact Int.mul_neg_of_neg_of_pos h hp
  unfold cfm
  rw[hn,hd]
  exact frm_shift _ _ _ _ (by omega)
theorem nv_pos_of (n:Bool)(L:List Int)(x:Int)(hne:L≠[])(hv:vld ⟨n,L,x⟩=true):0<nv L:=by
 obtain⟨p1,p2,p3,p4,p5,p6⟩:=vld_some n L x hne hv
 rcases Nat.eq_zero_or_pos (nv L)with h|h
 ·exact absurd ((nv_zero L p2).1 h (L.length-1)) p3
 ·exact h
theorem vz_nil (s:Int)(n:Bool)(x:Int):vz s ⟨n,[],x⟩=0:=by cases n<;>simp[vz,nv,sg]
theorem vz_abs (s:Int)(a:Nm):(vz s a).natAbs=nv a.mag*2^(a.exp-s).toNat:=by
 have e:((nv a.mag*2^(a.exp-s).toNat:Nat):Int)=(nv a.mag:Int)*2^(a.exp-s).toNat:=by rw[Int.natCast_mul,Int.natCast_pow];rfl
 unfold vz
 rw[←e]
 cases a.neg<;>simp[sg]<;>omega
theorem vz_cfm (s:Int)(n:Bool)(L:List Int)(x:Int)(hv:vld ⟨n,L,x⟩=true)(hs:L≠[]→s≤x):cfm (vz s ⟨n,L,x⟩) s=some ⟨n,L,x⟩:=by
 by_cases hne:L=[]
 ·subst hne
  rw[vz_nil,cfm_zero]
  obtain⟨rfl,rfl⟩:=vld_nil _ _ hv
  rfl
 ·obtain⟨p1,p2,p3,p4,p5,p6⟩:=vld_some n L x hne hv
  have hpos:=nv_pos_of n L x hne hv
  have hs:=hs hne
  have e:vz s ⟨n,L,x⟩=sg n (nv L:Int)*2^(x-s).toNat:=by
   unfold vz
   cases n<;>simp[sg,Int.neg_mul]
  have hsg:=sg_neg n (nv L:Int) (by omega)
  rw[e,cfm_shift,show s+((x-s).toNat:Int)=x by omega]
  unfold cfm
  rw[hsg.1,hsg.2,Int.toNat_natCast,frm_odd n n L x x hne hv,wrap64_id x p5 p6,if_pos ⟨p5,p6⟩]
theorem tp_le (s:Int)(B:Nat)(a:Nm)(h:Lies s B a)(hne:a.mag≠[]):tp a≤s+(B:Int):=by
 obtain⟨n,L,x⟩:=a
 have hpos:=nv_pos_of n L x hne h.ok
 have hl:=h.low hne
 have h1:=h.lt
 rw[vz_abs]at h1
 have h2:=bl_mul (nv L) (x-s).toNat (by omega)
 have h3:=bl_le _ _ h1
 dsimp only at h3 hl
 rw[h2]at h3
 unfold tp
 dsimp only
 omega
theorem vz_tot (s:Int)(B:Nat)(a b:Nm)(ha:Lies s B a)(hb:Lies s B b)(h1:a.mag≠[])(h2:b.mag≠[]):vz s a+vz s b=tot a b (min a.exp b.exp)*2^(min a.exp b.exp-s).toNat:=by
 have la:=ha.low h1
 have lb:=hb.low h2
 have e1:(a.exp-s).toNat=(a.exp-min a.exp b.exp).toNat+(min a.exp b.exp-s).toNat:=by omega
 have e2:(b.exp-s).toNat=(b.exp-min a.exp b.exp).toNat+(min a.exp b.exp-s).toNat:=by omega
 unfold vz tot
 rw[e1,e2,pow_add_int,pow_add_int,Int.add_mul]
 congr 1
 ·cases a.neg<;>simp[sg,Int.mul_assoc,Int.neg_mul]
 ·cases b.neg<;>simp[sg,Int.mul_assoc,Int.neg_mul]
theorem add_cfm (s:Int)(B:Nat)(hB:B≤60000)(a b:Nm)(ha:Lies s B a)(hb:Lies s B b):addZ a b=cfm (vz s a+vz s b) s:=by
 obtain⟨n1,L1,x1⟩:=a
 obtain⟨n2,L2,x2⟩:=b
 unfold addZ
 dsimp only
 by_cases h1:L1=[]
 ·subst h1
  rw[if_pos rfl,vz_nil,Int.zero_add,vz_cfm s n2 L2 x2 hb.ok hb.low]
  by_cases h2:L2=[]
  ·subst h2
   obtain⟨rfl,rfl⟩:=vld_nil _ _ hb.ok
   rw[if_pos rfl]
  ·rw[if_neg h2]
 ·rw[if_neg h1]
  by_cases h2:L2=[]
  ·subst h2
   rw[if_pos rfl,vz_nil,Int.add_zero,vz_cfm s n1 L1 x1 ha.ok ha.low]
  ·rw[if_neg h2,vz_tot s B _ _ ha hb h1 h2,cfm_shift]
   have t1:=tp_le s B _ ha h1
   have t2:=tp_le s B _ hb h2
   have l1:=ha.low h1
   have l2:=hb.low h2
   dsimp only at l1 l2 ⊢
   unfold addN
   dsimp only
   rw[if_pos (by omega),show s+((min x1 x2-s).toNat:Int)=min x1 x2 by omega]
   rfl
theorem cfm_lies (s:Int)(B:Nat)(hB:B≤20000)(h1:-20000≤s)(h2:s≤0)(z:Int)(hz:z.natAbs<2^B):∃r,cfm z s=some r∧Lies s B r∧vz s r=z:=by
 by_cases h0:z=0
 ·subst h0
  exact⟨_,cfm_zero s,⟨rfl,fun h=>absurd rfl h,by rw[vz_nil];exact Nat.two_pow_pos B⟩,vz_nil _ _ _⟩
 ·have hn:z.natAbs≠0:=by omega
  obtain⟨v,hv⟩:∃v,z.natAbs=v:=⟨_,rfl⟩
  rw[hv]at hz hn
  have hb:=bl_le _ _ hz
  obtain⟨hbt,hne⟩:=bl_sub v hn
  obtain⟨hodd,hm⟩:=tzn_div v hn
  obtain⟨t,ht⟩:∃t,tzn v=t:=⟨_,rfl⟩
  obtain⟨q,hq⟩:∃q,v/2^t=q:=⟨_,rfl⟩
  rw[ht]at hbt hodd hm hne
  rw[hq]at hbt hodd hm hne
  have hw:wrap64 (s+(t:Int))=s+(t:Int):=wrap64_id _ (by omega) (by omega)
  have hr:cfm z s=some ⟨decide (z<0),digs q,s+(t:Int)⟩:=by
   unfold cfm frm
   rw[hv,if_neg hn,ht,hw,hq,if_pos ⟨by omega,by omega,by omega⟩]
  have hdn:digs q≠[]:=by
   intro h
   have:=nv_digs q
   rw[h]at this
   exact hne this.symm
  have hlen:(digs q).length≤2000:=by rw[digs_len q hne];omega
  have hval:vz s ⟨decide (z<0),digs q,s+(t:Int)⟩=z:=by
   unfold vz
   dsimp only
   rw[nv_digs,show(s+(t:Int)-s).toNat=t by omega]
   have e:((q*2^t:Nat):Int)=(q:Int)*2^t:=by rw[Int.natCast_mul,Int.natCast_pow];rfl
   rw[←e,←hm,←hv]
   unfold sg
   by_cases hneg:z<0
   ·rw[if_pos (by simpa using hneg)];omega
   ·rw[if_neg (by simpa using hneg)];omega
  refine⟨_,hr,⟨?_,fun _=>by dsimp only;omega,by rw[hval];omega⟩,hval⟩
  unfold vld
  rw[if_neg hdn]
  unfold vldN
  dsimp only
  have g1:=digs_last q hne
  have g2:dgb (digs q)=true:=(dgb_iff _).2 (dg_digs q)
  have g3:bits .and .i64 ((digs q).getD 0 0) 1=1:=by
   rw[digs_pos q hne,List.getD_cons_zero]
   have e:bits .and .i64 (((q%1073741824:Nat)):Int) 1=((q%1073741824%2:Nat):Int):=by
    have:=and_one ((q%1073741824:Nat):Int)
    rw[this]
    omega
   rw[e]
   omega
  simp only[g2,g3,Bool.and_true,Bool.and_eq_true,bne_iff_ne,ne_eq,beq_self_eq_true,decide_eq_true_eq]
  refine⟨⟨⟨by omega,g1⟩,by omega⟩,by omega⟩
end Go.Proofs.YtnniljhdcplkgaaGreatDoor
namespace Go.Proofs.YtnniljhdcplkgaaGreatDoor
open Go.ChangeShapes Go.WideShapes Go.ChangeAt Go.RowKit
set_option maxHeartbeats 16000000
set_option maxRecDepth 100000
set_option linter.unusedVariables false
set_option linter.unusedSimpArgs false
theorem cv_take (L:List Int)(j:Nat)(hj:j<L.length):cv (L.take (j+1))=cv (L.take j)+L.getD j 0*2^(30*j):=by
 induction L generalizing j with
 |nil=>simp at hj
 | cons d L ih=>
  cases j with
  |zero=>simp[cv]
  |succ j=>
   have e:=pow30i j
   simp only[List.take_succ_cons,cv,List.getD_cons_succ]
   rw[ih j (by simpa using hj),e,Int.mul_left_comm (L.getD j 0)]
   generalize L.getD j 0*2^(30*j)=z
   omega
theorem cv_put (D:List Int)(i:Nat)(hi:i<D.length)(d:Int):cv (D.set i d)=cv D+(d-D.getD i 0)*2^(30*i):=by
 have:=cv_set D i hi (d-D.getD i 0)
 rw[show D.getD i 0+(d-D.getD i 0)=d by omega]at this
 exact this
theorem Dg.put {D:List Int}(h:Dg D)(i:Nat)(d:Int)(h0:0≤d)(h1:d<1073741824):Dg (D.set i d):=fun x hx=>by
 rcases List.mem_or_eq_of_mem_set hx with h2|h2
 ·exact h x h2
 ·rw[h2];exact⟨h0,h1⟩
structure PRow (A B:List Int) (n i j:Nat) (D:List Int) (o:Int):Prop where
 len:D.length=n
 dg:Dg D
 o0:0≤o
 o1:o<1073741824
 val:cv D+o*2^(30*(i+j))=cv (A.take i)*cv B+A.getD i 0*cv (B.take j)*2^(30*i)
 zero:∀k,i+B.length≤k→D.getD k 0=0
theorem PRow.start {A B:List Int}{n i:Nat}{D:List Int}(h1:D.length=n)(h2:Dg D)(h3:cv D=cv (A.take i)*cv B)(h4:∀k,i+B.length≤k→D.getD k 0=0):PRow A B n i 0 D 0:=
 ⟨h1,h2,by omega,by omega,by simp[cv,h3],h4⟩
theorem mul_lt_60 (a b:Int)(h0:0≤a)(h1:a<1073741824)(g0:0≤b)(g1:b<1073741824):0≤a*b∧a*b≤1152921502459363329:=by
 have e1:0≤a*b:=Int.mul_nonneg h0 g0
 have e2:a*b≤1073741823*1073741823:=Int.mul_le_mul (by omega) (by omega) g0 (by omega)
 exact⟨e1,by omega⟩
theorem PRow.step {A B:List Int}{n i j:Nat}{D:List Int}{o:Int}(h:PRow A B n i j D o)(hA:Dg A)(hB:Dg B)(hj:j<B.length)(hn:i+j<n)(T:Int)(hT:o+D.getD (i+j) 0+A.getD i 0*B.getD j 0=T):
  PRow A B n i (j+1) (D.set (i+j) (T%1073741824)) (T/1073741824):=by
 have hd:=h.dg.getD (i+j)
 have ha:=hA.getD i
 have hb:=hB.getD j
 have hm:=mul_lt_60 _ _ ha.1 ha.2 hb.1 hb.2
 have o0:=h.o0
 have o1:=h.o1
 refine⟨by rw[List.length_set];exact h.len,h.dg.put _ _ (by omega) (by omega),by omega,by omega,?_,?_⟩
 ·rw[cv_put D (i+j) (by rw[h.len];exact hn),cv_take B j hj]
  have hv:=h.val
  have e1:(2:Int)^(30*(i+(j+1)))=1073741824*2^(30*(i+j)):=pow30i (i+j)
  have e2:(2:Int)^(30*(i+j))=2^(30*j)*2^(30*i):=by rw[show 30*(i+j)=30*j+30*i by omega,Int.pow_add]
  have e3:A.getD i 0*(cv (B.take j)+B.getD j 0*2^(30*j))*2^(30*i)=A.getD i 0*cv (B.take j)*2^(30*i)+A.getD i 0*B.getD j 0*2^(30*(i+j)):=by
   rw[e2,Int.mul_add,Int.add_mul]
   congr 1
   simp only[Int.mul_assoc]
  rw[e3,e1]
  generalize A.getD i 0*B.getD j 0=m at *
  generalize (2:Int)^(30*(i+j))=P at *
  generalize D.getD (i+j) 0=d at *
  have hTT:T=1073741824*(T/1073741824)+T%1073741824:=by omega
  have e4:(T%1073741824-d)*P+T/1073741824*(1073741824*P)=(T-d)*P:=by
   rw[←Int.mul_assoc,←Int.add_mul]
   congr 1
   omega
  have e5:(T-d)*P=o*P+m*P:=by
   rw[←Int.add_mul]
   congr 1
   omega
  omega
 ·intro k hk
  rw[getD_set D (i+j) k _ (by rw[h.len];exact hn),if_neg (by omega)]
  exact h.zero k hk
theorem PRow.finish {A B:List Int}{n i:Nat}{D:List Int}{o:Int}(h:PRow A B n i B.length D o)(hi:i<A.length)(hn:i+B.length<n):
  PRow A B n (i+1) 0 (D.set (i+B.length) o) 0:=by
 refine .start (by rw[List.length_set];exact h.len) (h.dg.put _ _ h.o0 h.o1) ?_ ?_
 ·have hv:=h.val
  rw[cv_put D _ (by rw[h.len];exact hn),h.zero _ (Nat.le_refl _),cv_take A i hi]
  rw[List.take_length]at hv
  rw[Int.sub_zero,hv,Int.add_mul]
  congr 1
  rw[Int.mul_right_comm]
 ·intro k hk
  rw[getD_set D _ k _ (by rw[h.len];exact hn),if_neg (by omega)]
  exact h.zero k (by omega)
theorem PRow.last {A B:List Int}{n:Nat}{D:List Int}{o:Int}(h:PRow A B n A.length 0 D o)(ho:o=0)(hA:Dg A)(hB:Dg B):Dg D∧nv D=nv A*nv B:=by
 refine⟨h.dg,?_⟩
 have hv:=h.val
 subst ho
 rw[List.take_length,cv_nv D h.dg,cv_nv A hA,cv_nv B hB]at hv
 simp only[List.take_zero,cv,Int.zero_mul,Int.mul_zero,Int.add_zero]at hv
 have:((nv D:Nat):Int)=((nv A*nv B:Nat):Int):=by rw[hv,Int.natCast_mul]
 omega
def mulN (a b:Nm):Option Nm:=
 if (bl (nv a.mag):Int)+(bl (nv b.mag):Int)-1≤60000∧-1048576≤a.exp+b.exp∧a.exp+b.exp≤1048576 then frm (a.neg != b.neg) (nv a.mag*nv b.mag) (a.exp+b.exp)else none
theorem vz_sg (s:Int)(a:Nm):vz s a=sg a.neg (nv a.mag:Int)*2^(a.exp-s).toNat:=by
 unfold vz
 cases a.neg<;>simp[sg,Int.neg_mul]
theorem mul_cfm (s:Int)(B:Nat)(hB:B≤20000)(h1:-20000≤s)(h2:s≤0)(a b:Nm)(ha:Lies s B a)(hb:Lies s B b):mulN a b=cfm (vz s a*vz s b) (s+s):=by
 obtain⟨n1,L1,x1⟩:=a
 obtain⟨n2,L2,x2⟩:=b
 have hz:∀(n:Bool) (L:List Int) (x:Int),Lies s B ⟨n,L,x⟩→(bl (nv L)≤20000∧-20000≤x∧x≤20000):=by
  intro n L x h
  by_cases hne:L=[]
  ·subst hne
   obtain⟨rfl,rfl⟩:=vld_nil _ _ h.ok
   exact⟨by simp[nv,bl],by omega,by omega⟩
  ·have g1:=h.low hne
   have g2:=tp_le s B _ h hne
   unfold tp at g2
   dsimp only at g1 g2
   omega
 have z1:=hz _ _ _ ha
 have z2:=hz _ _ _ hb
 have c1:=vz_sg s ⟨n1,L1,x1⟩
 have c2:=vz_sg s ⟨n2,L2,x2⟩
 dsimp only at c1 c2
 unfold mulN
 dsimp only
 rw[if_pos ⟨by omega,by omega,by omega⟩]
 by_cases e1:L1=[]
 ·subst e1
  rw[vz_nil,Int.zero_mul,cfm_zero]
  simp[frm,nv]
 by_cases e2:L2=[]
 ·subst e2
  rw[vz_nil,Int.mul_zero,cfm_zero]
  simp[frm,nv]
 have l1:=ha.low e1
 have l2:=hb.low e2
 dsimp only at l1 l2
 have p1:=nv_pos_of n1 L1 x1 e1 ha.ok
 have p2:=nv_pos_of n2 L2 x2 e2 hb.ok
 have e:vz s ⟨n1,L1,x1⟩*vz s ⟨n2,L2,x2⟩=sg n1 (nv L1:Int)*sg n2 (nv L2:Int)*2^((x1-s).toNat+(x2-s).toNat):=by
  rw[c1,c2,Int.pow_add]
  simp only[Int.mul_assoc,Int.mul_left_comm]
 rw[e,cfm_shift,show s+s+(((x1-s).toNat+(x2-s).toNat:Nat):Int)=x1+x2 by omega]
 have hp:0<nv L1*nv L2:=Nat.mul_pos p1 p2
 have e3:sg n1 (nv L1:Int)*sg n2 (nv L2:Int)=sg (n1 != n2) ((nv L1*nv L2:Nat):Int):=by
  rw[Int.natCast_mul]
  cases n1<;>cases n2<;>simp[sg,Int.neg_mul,Int.mul_neg]
 have hsg:=sg_neg (n1 != n2) ((nv L1*nv L2:Nat):Int) (by omega)
 rw[e3]
 unfold cfm
 rw[hsg.1,hsg.2,Int.toNat_natCast]
end Go.Proofs.YtnniljhdcplkgaaGreatDoor
namespace Go.Proofs.YtnniljhdcplkgaaGreatDoor
open Go.ChangeShapes Go.WideShapes Go.ChangeAt Go.RowKit
set_option maxHeartbeats 16000000
set_option maxRecDepth 100000
set_option linter.unusedVariables false
set_option linter.unusedSimpArgs false
def cz (a b:Int):Int:=if a<b then -1 else if b<a then 1 else 0
theorem cz_lt {a b:Int}(h:a<b):cz a b=-1:=by rw[cz,if_pos h]
theorem cz_gt {a b:Int}(h:b<a):cz a b=1:=by rw[cz,if_neg (by omega),if_pos h]
theorem cz_eq {a b:Int}(h:a=b):cz a b=0:=by rw[cz,if_neg (by omega),if_neg (by omega)]
theorem compare_cz (x y:Int)(w:World):Calls Tryz.prog 167 #[.int .i64 x,.int .i64 y] w fun e w'=>e=.returned (.int .i64 (cz x y))∧w=w':=by
 rcases Int.lt_trichotomy x y with h|h|h
 ·rw[cz_lt h]
  have g2:¬x=y:=by omega
  have g3:¬y<x:=by omega
  go_enter Tryz.func167,Tryz.ntmps167
  go_wp2
  exact bodyPost_ret (v:=.int .i64 _) (by simp[results,Tryz.results167,go_sem]) rfl ⟨rfl,rfl⟩
 ·subst h
  rw[cz_eq rfl]
  have g3:¬x<x:=by omega
  go_enter Tryz.func167,Tryz.ntmps167
  go_wp2
  exact bodyPost_ret (v:=.int .i64 _) (by simp[results,Tryz.results167,go_sem]) rfl ⟨rfl,rfl⟩
 ·rw[cz_gt h]
  have g2:¬x=y:=by omega
  have g3:¬x<y:=by omega
  go_enter Tryz.func167,Tryz.ntmps167
  go_wp2
  exact bodyPost_ret (v:=.int .i64 _) (by simp[results,Tryz.results167,go_sem]) rfl ⟨rfl,rfl⟩
theorem lt_of_div (F G P:Nat)(h:F/P<G/P):F<G:=by
 rcases Nat.lt_or_ge F G with g|g
 ·exact g
 ·exact absurd (Nat.div_le_div_right (c:=P) g) (by omega)
end Go.Proofs.YtnniljhdcplkgaaGreatDoor
