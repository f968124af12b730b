/-  -/
import Derived.Test.YtnniljhdcplkgaaGreatDoorWs34
import Derived.Test.YtnniljhdcplkgaaGreatDoorWs24
import Derived.Test.YtnniljhdcplkgaaGreatDoorWs23
import Derived.Test.YtnniljhdcplkgaaGreatDoorWs22
namespace Go.Proofs.YtnniljhdcplkgaaGreatDoor
open Go.ChangeShapes Go.WideShapes Go.ChangeAt Go.RowKit
set_option maxHeartbeats 16000000
set_option maxRecDepth 100000
set_option linter.unusedVariables false
set_option linter.unusedSimpArgs false
def qA (a b:Nm):Nat:=flo (nv a.mag) (30*((b.mag.length:Int)+2)-(bl (nv a.mag):Int))
def qlw (a b:Nm):Int:=(bl (nv a.mag):Int)-(((b.mag.length:Int)+2)*30)
def qex (a b:Nm):Int:=a.exp-b.exp+(bl (nv a.mag):Int)-(bl (nv b.mag):Int)-60
def qrs (a b:Nm):Bool:=decide (0<qlw a b)||decide (qA a b%qU b≠0)
theorem qA_bounds (a b:Nm)(ha:vld a=true)(hne:a.mag≠[]):2^(30*b.mag.length+59)≤qA a b∧qA a b<2^(30*(b.mag.length+2)):=by
 have h0:=nv_ne a ha hne
 obtain⟨b1,b2,b3⟩:=bl_pos (nv a.mag) h0
 have:=flo_bounds (nv a.mag) (bl (nv a.mag)) (30*((b.mag.length:Int)+2)-(bl (nv a.mag):Int)) b1 b2 b3 (by omega)
 rw[show((bl (nv a.mag):Int)-1+(30*((b.mag.length:Int)+2)-(bl (nv a.mag):Int))).toNat=30*b.mag.length+59 by omega,show((bl (nv a.mag):Int)+(30*((b.mag.length:Int)+2)-(bl (nv a.mag):Int))).toNat=30*(b.mag.length+2) by omega]at this
 exact this
theorem qh_bounds (a b:Nm)(ha:vld a=true)(hb:vld b=true)(h1:a.mag≠[])(h2:b.mag≠[]):2^59≤qA a b/qU b∧qA a b/qU b<2^61:=by
 obtain⟨u1,u2⟩:=qU_bounds b hb h2
 obtain⟨a1,a2⟩:=qA_bounds a b ha h1
 have hl:=List.length_pos_iff.2 h2
 have hU0:0<qU b:=Nat.lt_of_lt_of_le (Nat.two_pow_pos _) u1
 constructor
 ·rw[Nat.le_div_iff_mul_le hU0]
  refine Nat.le_trans (Nat.mul_le_mul_left _ (Nat.le_of_lt u2)) ?_
  rw[←Nat.pow_add,Nat.add_comm]
  exact a1
 ·rw[Nat.div_lt_iff_lt_mul hU0]
  refine Nat.lt_of_lt_of_le a2 (Nat.le_trans ?_ (Nat.mul_le_mul_left _ u1))
  rw[←Nat.pow_add]
  exact Nat.pow_le_pow_right (by decide) (by omega)
theorem dv_digits (V:Nat)(hV:V<2^61):∃Q0 Q1 Q2 G0 H1 G1:Nat,Q0=dg V 2∧Q1=dg V 1∧Q2=dg V 0∧IntKind.i64.wrap ((Q0:Int)*1073741824)=(G0:Int)∧bits .or .i64 (G0:Int) (Q1:Int)=(H1:Int)∧IntKind.i64.wrap ((H1:Int)*1073741824)=(G1:Int)∧bits .or .i64 (G1:Int) (Q2:Int)=(V:Int)∧bits .or .i64 0 (Q0:Int)=(Q0:Int):=by
 have e0:dg V 0=V%1073741824:=by unfold dg;simp
 have e1:dg V 1=V/1073741824%1073741824:=by unfold dg;simp
 have e2:dg V 2=V/1152921504606846976%1073741824:=by unfold dg;simp
 have hV':V<2305843009213693952:=by simpa using hV
 obtain⟨G0,H1,a1,a2,a3,a4⟩:=or_head2 (dg V 1) (dg V 2) (dg_lt V 1) (by rw[e2];omega)
 obtain⟨G1,H2,b1,b2,b3,b4⟩:=or_head2 (dg V 0) H1 (dg_lt V 0) (by rw[a4,a3,e1,e2];omega)
 have hH:H2=V:=by rw[b4,b3,a4,a3,e0,e1,e2];omega
 exact⟨_,_,_,G0,H1,G1,rfl,rfl,rfl,a1,a2,b1,b2.trans (by rw[hH]),or_zero _ (dg_lt V 2)⟩
theorem quotient_any (a b:Nm)(ha:vld a=true)(hb:vld b=true)(h1:a.mag≠[])(h2:b.mag≠[])(a1 a2:Option Addr)(c1 c2:Nat)(w:World)(hs1:Sl w (.slice a1 a.mag.length c1) a.mag)(hs2:Sl w (.slice a2 b.mag.length c2) b.mag):Calls Tryz.prog 101 #[.agg #[.bool a.neg,.slice a1 a.mag.length c1,.int .i64 a.exp],.agg #[.bool b.neg,.slice a2 b.mag.length c2,.int .i64 b.exp]] w fun e w'=>e=.returned (.agg #[.bool (a.neg != b.neg),.int .i64 ((qA a b/qU b:Nat):Int),.int .i64 (qex a b),.bool (qrs a b)])∧Kept w w':=by
 obtain⟨Q0,Q1,Q2,G0,H1,G1,rfl,rfl,rfl,s1,s2,s3,s4,zz⟩:=dv_digits (qA a b/qU b) (qh_bounds a b ha hb h1 h2).2
 have eV:dV 2 a b=qA a b/qU b:=rfl
 have eE:dex 2 a b=qex a b:=by unfold dex qex;omega
 have eR:drs 2 a b=qrs a b:=rfl
 refine quot_walk a.neg b.neg _ rfl a1 a2 a.mag.length c1 b.mag.length c2 (List.length_pos_iff.2 h1) a.exp b.exp (qex a b) (qrs a b) _ _ _ G0 H1 G1 _ s1 s2 s3 s4 zz w (fun u k=>?_)
 refine(divided_any 2 (by decide) (by decide) a b ha hb h1 h2 a1 a2 c1 c2 u (hs1.kept k) (hs2.kept k)).mono ?_
 rintro e w' ⟨h,rfl,hh,ho,hk⟩
 rw[eE,eR]
 rw[eV]at ho
 have hlen:=dvl_len (qA a b/qU b) 2 3
 have hg:∀i,i<3→w'.cell? ⟨h,i,none⟩=some (.int .i64 ((dg (qA a b/qU b) i:Nat):Int)):=fun i hi=>by
  have:=ho.cell i (by rw[hlen];exact hi)
  rw[this,dvl_full,getD_range _ _ _ hi]
 exact⟨h,rfl,hg 0 (by decide),hg 1 (by decide),hg 2 (by decide),hk⟩
end Go.Proofs.YtnniljhdcplkgaaGreatDoor
namespace Go.Proofs.YtnniljhdcplkgaaGreatDoor
open Go.ChangeShapes Go.WideShapes Go.ChangeAt Go.RowKit
set_option maxHeartbeats 16000000
set_option maxRecDepth 100000
set_option linter.unusedVariables false
set_option linter.unusedSimpArgs false
theorem xquot (way:Int)(fv:Nat)(n pr le fi:Int)(n1 n2:Bool)(a1 a2:Option Addr)(l1 c1 l2 c2:Nat)(x1 x2 res sg2:Int)(ox:Bool)(hsg:(sg2==0)=false)(y0 y1 y2 y3:Value)(w:World)
  (KR:Hid (Calls Tryz.prog 98 #[.int .i64 n,.int .i64 way,.slice (some ⟨w.heap.size+2,0,none⟩) 2 2] (((w.alloc (.cells #[.bool n1,.slice a1 l1 c1,.int .i64 x1] 43)).alloc (.cells #[.bool n2,.slice a2 l2 c2,.int .i64 x2] 43)).alloc (.cells (pairC n1 (.slice a1 l1 c1) x1 n2 (.slice a2 l2 c2) x2) 43)) fun e w'=>e=.returned (.tuple #[.agg #[.int .i64 n,.int .i64 pr,.int .i64 le,.int .i64 fi,.func (.func fv) #[] #[]],.int .i64 0])∧Kept (((w.alloc (.cells #[.bool n1,.slice a1 l1 c1,.int .i64 x1] 43)).alloc (.cells #[.bool n2,.slice a2 l2 c2,.int .i64 x2] 43)).alloc (.cells (pairC n1 (.slice a1 l1 c1) x1 n2 (.slice a2 l2 c2) x2) 43)) w'))
  (KG:Hid (∀u,Kept w u→Calls Tryz.prog 99 #[.agg #[.bool n2,.slice a2 l2 c2,.int .i64 x2]] u fun e w'=>e=.returned (.int .i64 sg2)∧Kept u w'))
  (KQ:Hid (∀u,Kept w u→Calls Tryz.prog 101 #[.agg #[.bool n1,.slice a1 l1 c1,.int .i64 x1],.agg #[.bool n2,.slice a2 l2 c2,.int .i64 x2]] u fun e w'=>e=.returned (.agg #[y0,y1,y2,y3])∧Kept u w'))
  (KO:Hid (∀u,Kept w u→Calls Tryz.prog 100 #[.agg #[.int .i64 n,.int .i64 pr,.int .i64 le,.int .i64 fi,.func (.func fv) #[] #[]],.agg #[y0,y1,y2,y3]] u fun e w'=>e=.returned (.tuple #[.int .i64 res,.bool ox])∧Kept u w')):
  Calls Tryz.prog 68 #[.agg #[.bool n1,.slice a1 l1 c1,.int .i64 x1],.agg #[.bool n2,.slice a2 l2 c2,.int .i64 x2],.int .i64 n,.int .i64 way] w fun e w'=>e=.returned (.tuple #[.int .i64 res,.bool ox,.int .i64 0])∧Kept w w':=by
 have hK:Kept w (((w.alloc (.cells #[.bool n1,.slice a1 l1 c1,.int .i64 x1] 43)).alloc (.cells #[.bool n2,.slice a2 l2 c2,.int .i64 x2] 43)).alloc (.cells (pairC n1 (.slice a1 l1 c1) x1 n2 (.slice a2 l2 c2) x2) 43)):=(((Kept.refl w).alloc _ _).alloc _ _).alloc _ _
 have hsg2:¬sg2=0:=by simpa using hsg
 go_enter Tryz.func68,Tryz.ntmps68
 go_wp2_with fail
 refine KR.out.mono ?_
 rintro e w1 ⟨rfl,hk1⟩
 have HS:Hid (∀u,Kept (w1.alloc (.cells #[.int .i64 n,.int .i64 pr,.int .i64 le,.int .i64 fi,.func (.func fv) #[] #[]] 112)) u→u.cell? ⟨w1.heap.size,0,none⟩=some (.int .i64 n)∧u.cell? ⟨w1.heap.size,1,none⟩=some (.int .i64 pr)∧u.cell? ⟨w1.heap.size,2,none⟩=some (.int .i64 le)∧u.cell? ⟨w1.heap.size,3,none⟩=some (.int .i64 fi)∧u.cell? ⟨w1.heap.size,4,none⟩=some (.func (.func fv) #[] #[])∧u.cell? ⟨w.heap.size,0,none⟩=some (.bool n1)∧u.cell? ⟨w.heap.size,1,none⟩=some (.slice a1 l1 c1)∧u.cell? ⟨w.heap.size,2,none⟩=some (.int .i64 x1)∧u.cell? ⟨w.heap.size+1,0,none⟩=some (.bool n2)∧u.cell? ⟨w.heap.size+1,1,none⟩=some (.slice a2 l2 c2)∧u.cell? ⟨w.heap.size+1,2,none⟩=some (.int .i64 x2)):=fun u k=>⟨(laid_cell k 0).trans (by simp[go_sem]),(laid_cell k 1).trans (by simp[go_sem]),(laid_cell k 2).trans (by simp[go_sem]),(laid_cell k 3).trans (by simp[go_sem]),(laid_cell k 4).trans (by simp[go_sem]),((hk1.trans ((Kept.refl w1).alloc _ _|>.trans k)).below.cell (p:=⟨w.heap.size,0,none⟩) (by simp<;>omega)).trans (by simp[go_sem]),((hk1.trans ((Kept.refl w1).alloc _ _|>.trans k)).below.cell (p:=⟨w.heap.size,1,none⟩) (by simp<;>omega)).trans (by simp[go_sem]),((hk1.trans ((Kept.refl w1).alloc _ _|>.trans k)).below.cell (p:=⟨w.heap.size,2,none⟩) (by simp<;>omega)).trans (by simp[go_sem]),((hk1.trans ((Kept.refl w1).alloc _ _|>.trans k)).below.cell (p:=⟨w.heap.size+1,0,none⟩) (by simp<;>omega)).trans (by simp[go_sem]),((hk1.trans ((Kept.refl w1).alloc _ _|>.trans k)).below.cell (p:=⟨w.heap.size+1,1,none⟩) (by simp<;>omega)).trans (by simp[go_sem]),((hk1.trans ((Kept.refl w1).alloc _ _|>.trans k)).below.cell (p:=⟨w.heap.size+1,2,none⟩) (by simp<;>omega)).trans (by simp[go_sem])⟩
 have hsz:w.heap.size+3≤w1.heap.size:=by have:=hk1.below.size;simpa using this
 obtain⟨q0,q1,q2,q3,q4,q5,q6,q7,q8,q9,qq⟩:=HS.out _ (Kept.refl _)
 go_wp2_with fail
 refine(KG.out _ (hK.trans (hk1.alloc _ _))).mono ?_
 rintro e w2 ⟨rfl,hk2⟩
 clear q0 q1 q2 q3 q4 q5 q6 q7 q8 q9 qq
 have hkk:Kept w w2:=hK.trans (hk1.trans (((Kept.refl w1).alloc _ _).trans hk2))
 go_wp2
 refine wp_region_held_drew (S:=fun u=>u.cell? ⟨w1.heap.size,0,none⟩=some (.int .i64 n)∧u.cell? ⟨w1.heap.size,1,none⟩=some (.int .i64 pr)∧u.cell? ⟨w1.heap.size,2,none⟩=some (.int .i64 le)∧u.cell? ⟨w1.heap.size,3,none⟩=some (.int .i64 fi)∧u.cell? ⟨w1.heap.size,4,none⟩=some (.func (.func fv) #[] #[])∧u.cell? ⟨w.heap.size,0,none⟩=some (.bool n1)∧u.cell? ⟨w.heap.size,1,none⟩=some (.slice a1 l1 c1)∧u.cell? ⟨w.heap.size,2,none⟩=some (.int .i64 x1)∧u.cell? ⟨w.heap.size+1,0,none⟩=some (.bool n2)∧u.cell? ⟨w.heap.size+1,1,none⟩=some (.slice a2 l2 c2)∧u.cell? ⟨w.heap.size+1,2,none⟩=some (.int .i64 x2)) (by kernel_rfl) (HS.out _ hk2.drew) (fun hHeld=>?_)
 refine tk (i:=0) (v:=?_) rfl ?_
 simp only[Act.put,zA,zB,zC,zD,zE,zF]
 refine tk (i:=1) (v:=?_) rfl ?_
 simp only[Act.put,zA,zB,zC,zD,zE,zF]
 refine tk (i:=2) (v:=?_) rfl ?_
 simp only[Act.put,zA,zB,zC,zD,zE,zF]
 refine wpAnyH_ready (rs:=[3]) (by kernel_rfl) (by simp) ?_
 refine AllReadyH.cons rfl (fun K hK9=>?_) AllReadyH.nil
 go_simp
 go_wp2_with fail
 refine(KQ.out _ hkk.drew).mono ?_
 rintro e w3 ⟨rfl,hk3⟩
 refine hK9.out _ _ (HS.out _ (hk2.drew.trans hk3)) (fun hHeld2=>?_)
 clear hK9 K hHeld
 refine wpAnyH_ready (rs:=[4]) (by kernel_rfl) (by simp) ?_
 refine AllReadyH.cons rfl (fun K hK9=>?_) AllReadyH.nil
 go_simp
 go_wp2_with fail
 refine(KO.out _ (hkk.drew.trans hk3)).mono ?_
 rintro e w4 ⟨rfl,hk4⟩
 refine hK9.out _ _ (HS.out _ (hk2.drew.trans (hk3.trans hk4))) (fun hHeld=>?_)
 clear hK9 K hHeld2
 refine tk (i:=5) (v:=?_) rfl ?_
 simp only[Act.put,zA,zB,zC,zD,zE,zF]
 refine tk (i:=6) (v:=?_) rfl ?_
 simp only[Act.put,zA,zB,zC,zD,zE,zF]
 refine tk (i:=7) (v:=?_) rfl ?_
 simp only[Act.put,zA,zB,zC,zD,zE,zF]
 refine tk (i:=8) (v:=?_) rfl ?_
 simp only[Act.put,zA,zB,zC,zD,zE,zF]
 refine tk (i:=9) (v:=?_) rfl ?_
 simp only[Act.put,zA,zB,zC,zD,zE,zF]
 refine wpAnyH_done (by kernel_rfl) ?_ _
 clear hHeld
 go_wp2
 refine bodyPost_ret (v:=.tuple #[.int .i64 res,.bool ox,.int .i64 0]) (by simp[results,Tryz.results68,go_sem]) rfl ⟨rfl,hkk.drew.trans (hk3.trans hk4)⟩
end Go.Proofs.YtnniljhdcplkgaaGreatDoor
namespace Go.Proofs.YtnniljhdcplkgaaGreatDoor
open Go.ChangeShapes Go.WideShapes Go.ChangeAt Go.RowKit
set_option maxHeartbeats 16000000
set_option maxRecDepth 100000
set_option linter.unusedVariables false
set_option linter.unusedSimpArgs false
theorem quot_val (a b:Nm)(ha:vld a=true)(hb:vld b=true)(h1:a.mag≠[])(h2:b.mag≠[])(s:Int)(hx:2*s≤a.exp)(hu:2*s≤a.exp+(bl (nv a.mag):Int)-30*((b.mag.length:Int)+2)):qA a b/qU b=(nv a.mag*2^(a.exp-2*s).toNat)/(nv b.mag*2^(qex a b+b.exp-2*s).toNat)∧qrs a b=decide ((nv a.mag*2^(a.exp-2*s).toNat)%(nv b.mag*2^(qex a b+b.exp-2*s).toNat)≠0):=by
 obtain⟨p1,p2,p3,p4,p5,p6⟩:=vld_some a.neg a.mag a.exp h1 ha
 obtain⟨q1,q2,q3,q4,q5,q6⟩:=vld_some b.neg b.mag b.exp h2 hb
 have hodd:=nv_odd a.mag p2 p4
 have hb2:=bl_le _ _ (nv_lt b.mag q2)
 obtain⟨t,ht⟩:∃t,30*((b.mag.length:Int)+2)-(bl (nv a.mag):Int)=t:=⟨_,rfl⟩
 have hA:qA a b=(nv a.mag*2^(a.exp-2*s).toNat)/2^(a.exp-t-2*s).toNat:=by
  have:=flo_at (nv a.mag) a.exp (a.exp-t) (2*s) hx (by omega)
  rw[show a.exp-(a.exp-t)=t by omega]at this
  unfold qA
  rw[ht]
  exact this
 have hR:rst (nv a.mag) t=((nv a.mag*2^(a.exp-2*s).toNat)%2^(a.exp-t-2*s).toNat != 0):=by
  have:=rst_at (nv a.mag) a.exp (a.exp-t) (2*s) hx (by omega)
  rw[show a.exp-(a.exp-t)=t by omega]at this
  exact this
 have hU:qU b=nv b.mag*2^(30*(b.mag.length:Int)-(bl (nv b.mag):Int)).toNat:=by
  unfold qU flo
  rw[if_pos (by omega)]
 have hE:2^(a.exp-t-2*s).toNat*qU b=nv b.mag*2^(qex a b+b.exp-2*s).toNat:=by
  rw[hU,Nat.mul_left_comm,←Nat.pow_add]
  congr 2
  unfold qex
  omega
 have hlw:decide (0<qlw a b)=rst (nv a.mag) t:=by
  unfold rst qlw
  by_cases h0:0≤t
  ·rw[if_pos h0,decide_eq_false (by omega)]
  ·rw[if_neg h0,decide_eq_true (by omega)]
   obtain⟨j,hj⟩:∃j:Nat,(-t).toNat=j+1:=⟨(-t).toNat-1,by omega⟩
   rw[hj]
   have h3:nv a.mag%2^(j+1)%2=1:=by
    rw[Nat.mod_mod_of_dvd _ (by rw[Nat.pow_succ];exact Nat.dvd_mul_left _ _)]
    exact hodd
   have h4:nv a.mag%2^(j+1)≠0:=by
    intro h0;rw[h0]at h3;simp at h3
   exact(by simpa using h4)
 have hP:=Nat.two_pow_pos (a.exp-t-2*s).toNat
 unfold qrs
 rw[hlw,hR,←hE,hA]
 generalize nv a.mag*2^(a.exp-2*s).toNat=V
 generalize 2^(a.exp-t-2*s).toNat=P at hP ⊢
 generalize qU b=U
 refine⟨Nat.div_div_eq_div_mul _ _ _,?_⟩
 rw[Nat.mod_mul]
 by_cases g1:V%P=0
 ·by_cases g2:V/P%U=0
  ·simp[g1,g2]
  ·have:¬P*(V/P%U)=0:=by
    intro h0;rcases Nat.mul_eq_zero.1 h0 with h0|h0<;>omega
   rw[g1,Nat.zero_add,decide_eq_true g2,decide_eq_true this]
   simp
 ·rw[show(V%P != 0)=true by simpa using g1,Bool.true_or]
  exact(decide_eq_true (by omega)).symm
end Go.Proofs.YtnniljhdcplkgaaGreatDoor
namespace Go.Proofs.YtnniljhdcplkgaaGreatDoor
open Go.ChangeShapes Go.WideShapes Go.ChangeAt Go.RowKit
set_option maxHeartbeats 16000000
set_option maxRecDepth 100000
set_option linter.unusedVariables false
set_option linter.unusedSimpArgs false
theorem quotient_nil (n1:Bool)(a1:Option Addr)(c1:Nat)(x1:Int)(n2:Bool)(a2:Option Addr)(l2 c2:Nat)(x2:Int)(w:World):Calls Tryz.prog 101 #[.agg #[.bool n1,.slice a1 0 c1,.int .i64 x1],.agg #[.bool n2,.slice a2 l2 c2,.int .i64 x2]] w fun e w'=>e=.returned (.agg #[.bool false,.int .i64 0,.int .i64 0,.bool false])∧Kept w w':=by
 have hK:Kept w (((w.alloc (.cells #[.bool n1,.slice a1 0 c1,.int .i64 x1] 43)).alloc (.cells #[.bool n2,.slice a2 l2 c2,.int .i64 x2] 43)).alloc (.cells #[.bool false,.int .i64 0,.int .i64 0,.bool false] 117)):=(((Kept.refl w).alloc _ _).alloc _ _).alloc _ _
 go_enter Tryz.func101,Tryz.ntmps101
 go_wp2
 refine bodyPost_ret (v:=.agg #[.bool false,.int .i64 0,.int .i64 0,.bool false]) (by simp[results,Tryz.results101,go_sem]) rfl ⟨rfl,?_⟩
 exact hK
end Go.Proofs.YtnniljhdcplkgaaGreatDoor

namespace Go.Proofs.YtnniljhdcplkgaaGreatDoor
open Go.ChangeShapes Go.WideShapes Go.ChangeAt Go.RowKit
set_option maxHeartbeats 16000000
set_option maxRecDepth 100000
set_option linter.unusedVariables false
set_option linter.unusedSimpArgs false
theorem quotz_all (n:Int)(hn:n=64∨n=32)(a b:Nm)(ha:vld a=true)(hb:vld b=true)(ham:a.mag≠[])(hbm:b.mag≠[])(s:Int)(hs1:2*s≤a.exp)(hs2:s≤b.exp)(hs3:2*s≤a.exp+(bl (nv a.mag):Int)-30*((b.mag.length:Int)+2))(hs4:2*s≤qex a b+b.exp)(hs5:s<kleast n):∃k Q H F od hf rt,Cutz (cbn n) (2^(kleast n-s).toNat*(nv b.mag*2^(b.exp-s).toNat)) (nv a.mag*2^(a.exp-2*s).toNat) k Q H F od hf rt∧∀(way:Int),(way=0∨way=1∨way=2)→∀(a1 a2:Option Addr) (c1 c2:Nat) (w:World),Tab w→Sl w (.slice a1 a.mag.length c1) a.mag→Sl w (.slice a2 b.mag.length c2) b.mag→Calls Tryz.prog 68 #[.agg #[.bool a.neg,.slice a1 a.mag.length c1,.int .i64 a.exp],.agg #[.bool b.neg,.slice a2 b.mag.length c2,.int .i64 b.exp],.int .i64 n,.int .i64 way] w fun e w'=>e=.returned (.tuple #[.int .i64 (pz n (kyz (a.neg != b.neg) (mgz way (a.neg != b.neg) (ifn n) F od hf rt))),.bool (odz way (a.neg != b.neg) (ifn n) F od hf rt),.int .i64 0])∧Kept w w':=by
 obtain⟨hlen1,hDg1⟩:=vld_dg a.neg a.mag a.exp ha
 obtain⟨hlen2,hDg2⟩:=vld_dg b.neg b.mag b.exp hb
 have KR:∀(way:Int),(way=0∨way=1∨way=2)→∀(a1 a2:Option Addr) (c1 c2:Nat) (w:World),Sl w (.slice a1 a.mag.length c1) a.mag→Sl w (.slice a2 b.mag.length c2) b.mag→Hid (Calls Tryz.prog 98 #[.int .i64 n,.int .i64 way,.slice (some ⟨w.heap.size+2,0,none⟩) 2 2] (((w.alloc (.cells #[.bool a.neg,.slice a1 a.mag.length c1,.int .i64 a.exp] 43)).alloc (.cells #[.bool b.neg,.slice a2 b.mag.length c2,.int .i64 b.exp] 43)).alloc (.cells (pairC a.neg (.slice a1 a.mag.length c1) a.exp b.neg (.slice a2 b.mag.length c2) b.exp) 43)) fun e w'=>e=.returned (.tuple #[.agg #[.int .i64 n,.int .i64 (kprec n),.int .i64 (kleast n),.int .i64 (kinf n),.func (.func (wfv way)) #[] #[]],.int .i64 0])∧Kept (((w.alloc (.cells #[.bool a.neg,.slice a1 a.mag.length c1,.int .i64 a.exp] 43)).alloc (.cells #[.bool b.neg,.slice a2 b.mag.length c2,.int .i64 b.exp] 43)).alloc (.cells (pairC a.neg (.slice a1 a.mag.length c1) a.exp b.neg (.slice a2 b.mag.length c2) b.exp) 43)) w'):=fun way hw a1 a2 c1 c2 w h1 h2=>by
  refine roundingOf_ok n way hn hw _ _ (fun u k=>?_)
  have hK:Kept w (((w.alloc (.cells #[.bool a.neg,.slice a1 a.mag.length c1,.int .i64 a.exp] 43)).alloc (.cells #[.bool b.neg,.slice a2 b.mag.length c2,.int .i64 b.exp] 43)).alloc (.cells (pairC a.neg (.slice a1 a.mag.length c1) a.exp b.neg (.slice a2 b.mag.length c2) b.exp) 43)):=(((Kept.refl w).alloc _ _).alloc _ _).alloc _ _
  have hb':w.heap.size+2<(((w.alloc (.cells #[.bool a.neg,.slice a1 a.mag.length c1,.int .i64 a.exp] 43)).alloc (.cells #[.bool b.neg,.slice a2 b.mag.length c2,.int .i64 b.exp] 43)).alloc (.cells (pairC a.neg (.slice a1 a.mag.length c1) a.exp b.neg (.slice a2 b.mag.length c2) b.exp) 43)).heap.size:=by simp
  have:=allValid_2 u (w.heap.size+2) 2 a.neg b.neg a1 a2 a.mag.length c1 b.mag.length c2 a.exp b.exp true true (Nat.lt_of_lt_of_le hb' k.below.size) ((k.below.cell (p:=⟨w.heap.size+2,0,none⟩) hb').trans (by simp[go_sem])) ((k.below.cell (p:=⟨w.heap.size+2,1,none⟩) hb').trans (by simp[go_sem])) ((k.below.cell (p:=⟨w.heap.size+2,2,none⟩) hb').trans (by simp[go_sem])) ((k.below.cell (p:=⟨w.heap.size+2,3,none⟩) hb').trans (by simp[go_sem])) ((k.below.cell (p:=⟨w.heap.size+2,4,none⟩) hb').trans (by simp[go_sem])) ((k.below.cell (p:=⟨w.heap.size+2,5,none⟩) hb').trans (by simp[go_sem])) (fun v kv=>?_) (fun v kv=>?_)
  ·exact this
  ·have:=xvalid_any a hDg1.rg (by omega) (.agg #[.bool a.neg,.slice a1 a.mag.length c1,.int .i64 a.exp]) v ⟨_,rfl,((h1.kept hK).kept k).kept kv⟩
   rw[ha]at this
   exact this
  ·have:=xvalid_any b hDg2.rg (by omega) (.agg #[.bool b.neg,.slice a2 b.mag.length c2,.int .i64 b.exp]) v ⟨_,rfl,((h2.kept hK).kept k).kept kv⟩
   rw[hb]at this
   exact this
 have hl2:=List.length_pos_iff.2 hbm
 obtain⟨sg2,hsg2,KG⟩:∃sg2:Int,(sg2==0)=false∧∀(a2:Option Addr) (c2:Nat) (w:World),Calls Tryz.prog 99 #[.agg #[.bool b.neg,.slice a2 b.mag.length c2,.int .i64 b.exp]] w fun e w'=>e=.returned (.int .i64 sg2)∧Kept w w':=by
  refine⟨if b.neg=true then -1 else 1,by split<;>decide,fun a2 c2 w=>?_⟩
  have:=signOf_any b.neg a2 b.mag.length c2 b.exp w
  rw[if_neg (by omega)]at this
  exact this
 obtain⟨p1,p2,p3,p4,p5,p6⟩:=vld_some a.neg a.mag a.exp ham ha
 obtain⟨q1,q2,q3,q4,q5,q6⟩:=vld_some b.neg b.mag b.exp hbm hb
 have hba:=bl_le _ _ (nv_lt a.mag p2)
 have hbb:=bl_le _ _ (nv_lt b.mag q2)
 have h0a:=nv_ne a ha ham
 have hb0:=nv_ne b hb hbm
 obtain⟨v1,v2⟩:=quot_val a b ha hb ham hbm s hs1 hs3
 obtain⟨g1,g2⟩:=qh_bounds a b ha hb ham hbm
 obtain⟨k1,k2,k3⟩:=kp_toNat n hn
 obtain⟨c1',c2'⟩:=cbn_pow n hn
 have hexr:-3000000≤qex a b∧qex a b≤3000000:=by unfold qex;omega
 obtain⟨h,hh⟩:∃h,qA a b/qU b=h:=⟨_,rfl⟩
 obtain⟨B,hB54,hB62,hB1,hB2⟩:∃B,54≤B∧B≤62∧2^(B-1)≤h∧h<2^B:=by
  rw[hh]at g1 g2
  by_cases h60:h<2^60
  ·exact⟨60,by decide,by decide,g1,h60⟩
  ·exact⟨61,by decide,by decide,Nat.not_lt.1 h60,g2⟩
 obtain⟨un,hun⟩:∃un,max (qex a b+(B:Int)-kprec n) (kleast n)=un:=⟨_,rfl⟩
 obtain⟨m,hm⟩:∃m:Nat,un-qex a b=(m:Int)+1:=⟨(un-qex a b-1).toNat,by omega⟩
 obtain⟨k,hk⟩:∃k,k=h/2^(m+1):=⟨_,rfl⟩
 obtain⟨F,hF⟩:∃F,F=(un-kleast n).toNat*cbn n+k:=⟨_,rfl⟩
 have L:Ldz n h B (qex a b) un m k F:=⟨hun.symm,hm,hk,hF⟩
 obtain⟨u1,u2,u3⟩:=ld_bounds hn L hB1 hB2 hB54
 have hcp:0<cbn n:=by rw[c1'];exact Nat.two_pow_pos _
 have hce:cbn n%2=0:=by rcases hn with rfl|rfl<;>rfl
 have hC:=cutz_lead (cbn n) (2^(kleast n-s).toNat*(nv b.mag*2^(b.exp-s).toNat)) (nv a.mag*2^(a.exp-2*s).toNat) (nv b.mag*2^(qex a b+b.exp-2*s).toNat) h (qrs a b) (un-kleast n).toNat m k F hcp hce (Nat.mul_pos (by omega) (Nat.two_pow_pos _)) (by rw[←hh];exact v1) v2 hk hF u2 (by rcases u3 with h|h;left;omega;right;exact h) (by
  rw[Nat.mul_assoc,←Nat.pow_add,←Nat.mul_assoc,←Nat.pow_add,Nat.mul_left_comm,←Nat.pow_add]
  congr 2
  omega)
 refine⟨_,_,_,_,_,_,_,hC,fun way hw a1 a2 c1 c2 w hT h1 h2=>?_⟩
 have KQ:∀u,Kept w u→_:=fun u ku=>quotient_any a b ha hb ham hbm a1 a2 c1 c2 u (h1.kept ku) (h2.kept ku)
 rw[hh]at KQ
 exact xquot way _ n _ _ _ a.neg b.neg a1 a2 a.mag.length c1 b.mag.length c2 a.exp b.exp _ sg2 _ hsg2 _ _ _ _ w (KR way hw a1 a2 c1 c2 w h1 h2) (fun u _=>KG a2 c2 u) KQ (fun u ku=>ldround way hw n hn (a.neg != b.neg) h B (qex a b) (qrs a b) un m k F L hB1 hB2 hB54 hB62 hexr.1 hexr.2 _ _ _ rfl rfl rfl u (hT.kept ku))
end Go.Proofs.YtnniljhdcplkgaaGreatDoor

namespace Go.Proofs.YtnniljhdcplkgaaGreatDoor
open Go.ChangeShapes Go.WideShapes Go.ChangeAt Go.RowKit
set_option maxHeartbeats 16000000
set_option maxRecDepth 100000
set_option linter.unusedVariables false
set_option linter.unusedSimpArgs false
end Go.Proofs.YtnniljhdcplkgaaGreatDoor

namespace Go.Proofs.YtnniljhdcplkgaaGreatDoor
open Go.ChangeShapes Go.WideShapes Go.ChangeAt Go.RowKit
set_option maxHeartbeats 16000000
set_option maxRecDepth 100000
set_option linter.unusedVariables false
set_option linter.unusedSimpArgs false
theorem quot_cutz (n:Int)(hn:n=64∨n=32)(A B:Nat)(hA:A≠0)(hB:B≠0)(xa xb s e:Int)(sh:Nat)(hsh:(bl B:Int)+kprec n+2≤(bl A:Int)+sh)(he:e=xa-xb-sh)(hs1:s≤e)(hs2:s≤xb)(hs3:s<kleast n)(u:Int)(hu:unz (kprec n).toNat (kleast n) (bl (A*2^sh/B)) e=u)(k F:Nat)(hk:flo (A*2^sh/B) (e-u)=k)(hF:F=(u-kleast n).toNat*cbn n+k):∃Q H,Cutz (cbn n) (2^(kleast n-s).toNat*(B*2^(xb-s).toNat)) (A*2^(xa-2*s).toNat) k Q H F (decide (k%2=1)) (decide (flo (A*2^sh/B) (e-u+1)%2=1)) (decide (A*2^sh%B≠0)||rst (A*2^sh/B) (e-u+1)):=by
 obtain⟨p1,p2,p3⟩:=kp_toNat n hn
 have hqb:=quot_bits A B sh (kprec n).toNat hA hB (by omega)
 have hlu:kleast n≤u:=by unfold unz at hu;omega
 have hue:e+1≤u:=by unfold unz at hu;omega
 have hVE:A*2^(xa-2*s).toNat=A*2^sh*(2^(xb-s).toNat*2^(e-s).toNat):=by
  rw[Nat.mul_assoc,←Nat.pow_add,←Nat.pow_add];congr 2;omega
 have hP:0<2^(xb-s).toNat*2^(e-s).toNat:=Nat.mul_pos (Nat.two_pow_pos _) (Nat.two_pow_pos _)
 refine doc_cutz n hn _ e (by omega) u hu _ _ (B*(2^(xb-s).toNat*2^(e-s).toNat)) _ (Nat.mul_pos (by omega) hP) ?_ ?_ ?_ k F hk hF
 ·rw[hVE,Nat.mul_div_mul_right _ _ hP]
 ·rw[hVE,Nat.mul_mod_mul_right]
  apply decide_eq_decide.2
  have hP':=hP
  generalize 2^(xb-s).toNat*2^(e-s).toNat=P at *
  constructor
  ·intro g h0
   rcases Nat.mul_eq_zero.1 h0 with h0|h0<;>omega
  ·intro g h0
   rw[h0]at g;simp at g
 ·have e1:2^(e-s).toNat*2^(u-e).toNat=2^(u-kleast n).toNat*2^(kleast n-s).toNat:=by
   rw[←Nat.pow_add,←Nat.pow_add];congr 1;omega
  rw[Nat.mul_assoc,Nat.mul_assoc,e1]
  generalize 2^(xb-s).toNat=P1
  generalize 2^(u-kleast n).toNat=P2
  generalize 2^(kleast n-s).toNat=P3
  simp only[Nat.mul_comm,Nat.mul_left_comm,Nat.mul_assoc]
end Go.Proofs.YtnniljhdcplkgaaGreatDoor
