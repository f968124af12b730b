/-  -/
import Derived.Test.YtnniljhdcplkgaaGreatDoorWs28
import Derived.Test.YtnniljhdcplkgaaGreatDoorWs24
import Derived.Test.YtnniljhdcplkgaaGreatDoorWs21
import Derived.Laws.Shifts
namespace Go.Proofs.YtnniljhdcplkgaaGreatDoor
open Go.ChangeShapes Go.WideShapes Go.ChangeAt Go.RowKit
set_option maxHeartbeats 16000000
set_option maxRecDepth 100000
set_option linter.unusedVariables false
set_option linter.unusedSimpArgs false
theorem New.formT {w0 w:World}{v:Value}{x:Nm}(h:New w0 w v x):∃ao c,v=.agg #[.bool x.neg,.slice ao x.mag.length c,.int .i64 x.exp]∧Sl w (.slice ao x.mag.length c) x.mag:=by
 rcases h with ⟨rfl,rfl⟩|⟨g,cap,rfl,hg,ho,hne⟩
 ·exact⟨none,0,rfl,⟨none,0,rfl,Nat.le_refl _,by simp[maxLen],fun h=>absurd rfl h⟩⟩
 ·exact⟨_,_,rfl,ho.sl⟩
theorem mask_1 (s:Int):bits .and .i64 s 1=s%2:=by
 have e:(BitVec.ofInt 64 1:BitVec 64).toNat=2^1-1:=by decide
 have h:=ofInt_toNat s
 rw[bits_and,BitVec.toNat_and,e,Nat.and_two_pow_sub_one_eq_mod,wrap_i64]
 omega
theorem rootq_walk (n1 n2:Bool)(a b:Option Addr)(l1 c1 l2 c2:Nat)(hl1:0<l1)(x1 x2 ex e1 e2:Int)(hex:-3000000≤ex∧ex≤3000000)(he1:e1=ex%2)(he2:e2=ex/2)(r1 r2:Bool)(LL:List Int)(hL5:LL.length=5)(hLd:Dg LL)(r:Nm)(hr:frm false (nv LL) e1=some r)(hd:Nat)(rx:Int)(hrx:-3000000≤rx∧rx≤3000000)(w:World)(hT:Tab w)
  (Kd:Hid (∀u,Kept w u→Calls Tryz.prog 129 #[.agg #[.bool n1,.slice a l1 c1,.int .i64 x1],.agg #[.bool n2,.slice b l2 c2,.int .i64 x2],.int .i64 4] u fun e w'=>∃h,e=.returned (.tuple #[.slice (some ⟨h,0,none⟩) 5 5,.int .i64 ex,.bool r1])∧u.heap.size≤h∧Own w' h 5 LL∧Kept u w'))
  (Kr:Hid (∀ao c u,Sl u (.slice ao r.mag.length c) r.mag→Calls Tryz.prog 158 #[.agg #[.bool r.neg,.slice ao r.mag.length c,.int .i64 r.exp]] u fun e w'=>e=.returned (.agg #[.bool false,.int .i64 (hd:Int),.int .i64 rx,.bool r2])∧Kept u w')):
  Calls Tryz.prog 143 #[.agg #[.bool n1,.slice a l1 c1,.int .i64 x1],.agg #[.bool n2,.slice b l2 c2,.int .i64 x2]] w fun e w'=>e=.returned (.agg #[.bool false,.int .i64 (hd:Int),.int .i64 (rx+e2),.bool (r2||r1)])∧Kept w w':=by
 have hK:Kept w (((w.alloc (.cells #[.bool n1,.slice a l1 c1,.int .i64 x1] 43)).alloc (.cells #[.bool n2,.slice b l2 c2,.int .i64 x2] 43)).alloc (.cells #[.bool false,.int .i64 0,.int .i64 0,.bool false] 117)):=(((Kept.refl w).alloc _ _).alloc _ _).alloc _ _
 have hm:bits .and .i64 ex 1=e1:=by rw[mask_1,he1]
 have hsh:Op.shift .shr .i64 ex .u64 1=pure (.int .i64 e2):=by
  rw[shift_shr_any .i64 .u64 ex 1 (by decide),he2]
  rfl
 have zr:IntKind.i64.wrap (rx+e2)=rx+e2:=by rw[wrap_i64];omega
 have HR:Hid (frm false (nv LL) e1=some r):=hr
 have HL5:Hid (LL.length=5):=hL5
 clear he1 he2 hr hL5
 have hl0:((l1:Int)==0)=false:=by rw[beq_eq_false_iff_ne];omega
 have hl1':¬l1=0:=by omega
 obtain⟨W0,hW0⟩:∃W0,((w.alloc (.cells #[.bool n1,.slice a l1 c1,.int .i64 x1] 43)).alloc (.cells #[.bool n2,.slice b l2 c2,.int .i64 x2] 43)).alloc (.cells #[.bool false,.int .i64 0,.int .i64 0,.bool false] 117)=W0:=⟨_,rfl⟩
 have B1:Hid (∀u,Kept W0 u→(u.cell? ⟨w.heap.size+1+1,0,none⟩=some (.bool false)∧u.cell? ⟨w.heap.size+1+1,1,none⟩=some (.int .i64 0)∧u.cell? ⟨w.heap.size+1+1,2,none⟩=some (.int .i64 0)∧u.cell? ⟨w.heap.size+1+1,3,none⟩=some (.bool false))∧∀o,u.frozen? ⟨w.heap.size+1+1,o,none⟩=false):=fun u k=>by
  rw[←hW0]at k
  exact⟨⟨(k.below.cell (p:=⟨w.heap.size+1+1,0,none⟩) (by simp)).trans (by simp[go_sem]),(k.below.cell (p:=⟨w.heap.size+1+1,1,none⟩) (by simp)).trans (by simp[go_sem]),(k.below.cell (p:=⟨w.heap.size+1+1,2,none⟩) (by simp)).trans (by simp[go_sem]),(k.below.cell (p:=⟨w.heap.size+1+1,3,none⟩) (by simp)).trans (by simp[go_sem])⟩,fun o=>(k.frozen _).trans (by simp[go_sem])⟩
 have B2:Hid (∀u,Kept W0 u→(u.cell? ⟨w.heap.size,0,none⟩=some (.bool n1)∧u.cell? ⟨w.heap.size,1,none⟩=some (.slice a l1 c1)∧u.cell? ⟨w.heap.size,2,none⟩=some (.int .i64 x1))∧(u.cell? ⟨w.heap.size+1,0,none⟩=some (.bool n2)∧u.cell? ⟨w.heap.size+1,1,none⟩=some (.slice b l2 c2)∧u.cell? ⟨w.heap.size+1,2,none⟩=some (.int .i64 x2))):=fun u k=>by
  rw[←hW0]at k
  exact⟨⟨(k.below.cell (p:=⟨w.heap.size,0,none⟩) (by simp<;>omega)).trans (by simp[go_sem]),(k.below.cell (p:=⟨w.heap.size,1,none⟩) (by simp<;>omega)).trans (by simp[go_sem]),(k.below.cell (p:=⟨w.heap.size,2,none⟩) (by simp<;>omega)).trans (by simp[go_sem])⟩,⟨(k.below.cell (p:=⟨w.heap.size+1,0,none⟩) (by simp<;>omega)).trans (by simp[go_sem]),(k.below.cell (p:=⟨w.heap.size+1,1,none⟩) (by simp<;>omega)).trans (by simp[go_sem]),(k.below.cell (p:=⟨w.heap.size+1,2,none⟩) (by simp<;>omega)).trans (by simp[go_sem])⟩⟩
 obtain⟨⟨p0,p1,p2⟩,⟨q0,q1,q2⟩⟩:=B2.out _ (Kept.refl _)
 rw[hW0]at hK
 go_enter Tryz.func143,Tryz.ntmps143
 go_wp2_with fail
 clear hW0 p0 p1 p2 q0 q1 q2
 refine(Kd.out _ hK).mono ?_
 rintro e w1 ⟨h,rfl,hh,ho,k1⟩
 have k1':Kept w w1:=hK.trans k1
 have K1:Hid (Kept W0 w1):=k1
 have HO:Hid (Own w1 h 5 LL):=ho
 have HH:Hid (W0.heap.size≤h):=hh
 clear k1 ho hh
 go_wp2_with fail
 have hF:=form_ok false LL hLd (by rw[HL5.out];decide) h 5 e1 W0 w1 K1.out HH.out HO.out (hT.kept k1') r HR.out
 rw[HL5.out]at hF
 refine hF.mono ?_
 rintro e w2 ⟨⟨v,rfl,hN⟩,k2⟩
 obtain⟨ao,c,rfl,hS⟩:=hN.formT
 clear hF hN
 have HS:Hid (Sl w2 (.slice ao r.mag.length c) r.mag):=hS
 have K2:Hid (Kept W0 w2):=k2
 clear hS k2
 go_wp2_with fail
 refine(Kr.out ao c w2 HS.out).mono ?_
 rintro e w3 ⟨rfl,k3⟩
 have K3:Hid (Kept W0 w3):=K2.out.trans k3
 clear k3
 obtain⟨X,hX⟩:∃X,X=w3.alloc (.cells #[.bool false,.int .i64 (hd:Int),.int .i64 (rx+e2),.bool (r2||r1)] 117):=⟨_,rfl⟩
 have kX:Kept W0 X:=by rw[hX];exact K3.out.alloc _ _
 have x0:X.cell? ⟨w3.heap.size,0,none⟩=some (.bool false):=by rw[hX];simp[go_sem]
 have x1:X.cell? ⟨w3.heap.size,1,none⟩=some (.int .i64 (hd:Int)):=by rw[hX];simp[go_sem]
 have x2:X.cell? ⟨w3.heap.size,2,none⟩=some (.int .i64 (rx+e2)):=by rw[hX];simp[go_sem]
 have x3:X.cell? ⟨w3.heap.size,3,none⟩=some (.bool (r2||r1)):=by rw[hX];simp[go_sem]
 have HX:Hid (X=w3.alloc (.cells #[.bool false,.int .i64 (hd:Int),.int .i64 (rx+e2),.bool (r2||r1)] 117)):=hX
 have X0:=(show Hid (X.cell? ⟨w3.heap.size,0,none⟩=some (.bool false)∧X.cell? ⟨w3.heap.size,1,none⟩=some (.int .i64 (hd:Int))∧X.cell? ⟨w3.heap.size,2,none⟩=some (.int .i64 (rx+e2))∧X.cell? ⟨w3.heap.size,3,none⟩=some (.bool (r2||r1)))from⟨x0,x1,x2,x3⟩)
 have HQ:Hid (Kept W0 X):=kX
 clear hX kX x0 x1 x2 x3
 have hK2:Hid (Kept w W0):=hK
 clear hK
 cases r2
 all_goals
  go_upto_region 7 with fail
  have hX':=HX.out
  have hX0:=X0.out
  simp only[Bool.false_or,Bool.true_or]at hX' hX0
  rw[←hX']
  clear hX'
  obtain⟨x0,x1,x2,x3⟩:=hX0
  obtain⟨⟨o0,o1,o2,o3⟩,oF⟩:=B1.out _ HQ.out
  go_wp2_with fail
  refine bodyPost_ret (v:=.agg #[.bool false,.int .i64 (hd:Int),.int .i64 (rx+e2),.bool _]) (by simp[results,Tryz.results143,go_sem,o0,o1,o2,o3];try rfl) rfl ⟨rfl,?_⟩
  exact(((hK2.out.trans HQ.out).setCell (by simp<;>omega) _|>.setCell (by simp<;>omega) _|>.setCell (by simp<;>omega) _|>.setCell (by simp<;>omega) _))
end Go.Proofs.YtnniljhdcplkgaaGreatDoor

namespace Go.Proofs.YtnniljhdcplkgaaGreatDoor
open Go.ChangeShapes Go.WideShapes Go.ChangeAt Go.RowKit
set_option maxHeartbeats 16000000
set_option maxRecDepth 100000
set_option linter.unusedVariables false
set_option linter.unusedSimpArgs false
theorem xrootq (way:Int)(fv:Nat)(n pr le fi:Int)(n1 n2:Bool)(a1 a2:Option Addr)(l1 c1 l2 c2:Nat)(x1 x2 res sg1 sg2 pp:Int)(ox:Bool)(hsg:(sg2==0)=false)(hpp:IntKind.i64.wrap (sg1*sg2)=pp)(hp0:decide (pp<0)=false)(y0 y1 y2 y3:Value)(w:World)
  (KR:Hid (Calls Tryz.prog 98 #[.int .i64 n,.int .i64 way,.slice (some ⟨w.heap.size+2,0,none⟩) 2 2] (((w.alloc (.cells #[.bool n1,.slice a1 l1 c1,.int .i64 x1] 43)).alloc (.cells #[.bool n2,.slice a2 l2 c2,.int .i64 x2] 43)).alloc (.cells (pairC n1 (.slice a1 l1 c1) x1 n2 (.slice a2 l2 c2) x2) 43)) fun e w'=>e=.returned (.tuple #[.agg #[.int .i64 n,.int .i64 pr,.int .i64 le,.int .i64 fi,.func (.func fv) #[] #[]],.int .i64 0])∧Kept (((w.alloc (.cells #[.bool n1,.slice a1 l1 c1,.int .i64 x1] 43)).alloc (.cells #[.bool n2,.slice a2 l2 c2,.int .i64 x2] 43)).alloc (.cells (pairC n1 (.slice a1 l1 c1) x1 n2 (.slice a2 l2 c2) x2) 43)) w'))
  (KG1:Hid (∀u,Kept w u→Calls Tryz.prog 99 #[.agg #[.bool n1,.slice a1 l1 c1,.int .i64 x1]] u fun e w'=>e=.returned (.int .i64 sg1)∧Kept u w'))
  (KG:Hid (∀u,Kept w u→Calls Tryz.prog 99 #[.agg #[.bool n2,.slice a2 l2 c2,.int .i64 x2]] u fun e w'=>e=.returned (.int .i64 sg2)∧Kept u w'))
  (KQ:Hid (∀u,Kept w u→Calls Tryz.prog 143 #[.agg #[.bool n1,.slice a1 l1 c1,.int .i64 x1],.agg #[.bool n2,.slice a2 l2 c2,.int .i64 x2]] u fun e w'=>e=.returned (.agg #[y0,y1,y2,y3])∧Kept u w'))
  (KO:Hid (∀u,Kept w u→Calls Tryz.prog 100 #[.agg #[.int .i64 n,.int .i64 pr,.int .i64 le,.int .i64 fi,.func (.func fv) #[] #[]],.agg #[y0,y1,y2,y3]] u fun e w'=>e=.returned (.tuple #[.int .i64 res,.bool ox])∧Kept u w')):
  Calls Tryz.prog 120 #[.agg #[.bool n1,.slice a1 l1 c1,.int .i64 x1],.agg #[.bool n2,.slice a2 l2 c2,.int .i64 x2],.int .i64 n,.int .i64 way] w fun e w'=>e=.returned (.tuple #[.int .i64 res,.bool ox,.int .i64 0])∧Kept w w':=by
 have hK:Kept w (((w.alloc (.cells #[.bool n1,.slice a1 l1 c1,.int .i64 x1] 43)).alloc (.cells #[.bool n2,.slice a2 l2 c2,.int .i64 x2] 43)).alloc (.cells (pairC n1 (.slice a1 l1 c1) x1 n2 (.slice a2 l2 c2) x2) 43)):=(((Kept.refl w).alloc _ _).alloc _ _).alloc _ _
 have hsg2:¬sg2=0:=by simpa using hsg
 have hp1:¬pp<0:=by simpa using hp0
 go_enter Tryz.func120,Tryz.ntmps120
 go_wp2_with fail
 refine KR.out.mono ?_
 rintro e w1 ⟨rfl,hk1⟩
 have HS:Hid (∀u,Kept (w1.alloc (.cells #[.int .i64 n,.int .i64 pr,.int .i64 le,.int .i64 fi,.func (.func fv) #[] #[]] 112)) u→u.cell? ⟨w1.heap.size,0,none⟩=some (.int .i64 n)∧u.cell? ⟨w1.heap.size,1,none⟩=some (.int .i64 pr)∧u.cell? ⟨w1.heap.size,2,none⟩=some (.int .i64 le)∧u.cell? ⟨w1.heap.size,3,none⟩=some (.int .i64 fi)∧u.cell? ⟨w1.heap.size,4,none⟩=some (.func (.func fv) #[] #[])∧u.cell? ⟨w.heap.size,0,none⟩=some (.bool n1)∧u.cell? ⟨w.heap.size,1,none⟩=some (.slice a1 l1 c1)∧u.cell? ⟨w.heap.size,2,none⟩=some (.int .i64 x1)∧u.cell? ⟨w.heap.size+1,0,none⟩=some (.bool n2)∧u.cell? ⟨w.heap.size+1,1,none⟩=some (.slice a2 l2 c2)∧u.cell? ⟨w.heap.size+1,2,none⟩=some (.int .i64 x2)):=fun u k=>⟨(laid_cell k 0).trans (by simp[go_sem]),(laid_cell k 1).trans (by simp[go_sem]),(laid_cell k 2).trans (by simp[go_sem]),(laid_cell k 3).trans (by simp[go_sem]),(laid_cell k 4).trans (by simp[go_sem]),((hk1.trans ((Kept.refl w1).alloc _ _|>.trans k)).below.cell (p:=⟨w.heap.size,0,none⟩) (by simp<;>omega)).trans (by simp[go_sem]),((hk1.trans ((Kept.refl w1).alloc _ _|>.trans k)).below.cell (p:=⟨w.heap.size,1,none⟩) (by simp<;>omega)).trans (by simp[go_sem]),((hk1.trans ((Kept.refl w1).alloc _ _|>.trans k)).below.cell (p:=⟨w.heap.size,2,none⟩) (by simp<;>omega)).trans (by simp[go_sem]),((hk1.trans ((Kept.refl w1).alloc _ _|>.trans k)).below.cell (p:=⟨w.heap.size+1,0,none⟩) (by simp<;>omega)).trans (by simp[go_sem]),((hk1.trans ((Kept.refl w1).alloc _ _|>.trans k)).below.cell (p:=⟨w.heap.size+1,1,none⟩) (by simp<;>omega)).trans (by simp[go_sem]),((hk1.trans ((Kept.refl w1).alloc _ _|>.trans k)).below.cell (p:=⟨w.heap.size+1,2,none⟩) (by simp<;>omega)).trans (by simp[go_sem])⟩
 have hsz:w.heap.size+3≤w1.heap.size:=by have:=hk1.below.size;simpa using this
 obtain⟨r0,r1,r2,r3,r4,p0,p1,p2,q0,q1,q2⟩:=HS.out _ (Kept.refl _)
 go_wp2_with fail
 refine(KG.out _ (hK.trans (hk1.alloc _ _))).mono ?_
 rintro e w2 ⟨rfl,hk2⟩
 clear r0 r1 r2 r3 r4 p0 p1 p2 q0 q1 q2
 have hkk:Kept w w2:=hK.trans (hk1.trans (((Kept.refl w1).alloc _ _).trans hk2))
 go_upto_region 4 with fail
 refine wp_region_held_drew (S:=fun u=>u.cell? ⟨w1.heap.size,0,none⟩=some (.int .i64 n)∧u.cell? ⟨w1.heap.size,1,none⟩=some (.int .i64 pr)∧u.cell? ⟨w1.heap.size,2,none⟩=some (.int .i64 le)∧u.cell? ⟨w1.heap.size,3,none⟩=some (.int .i64 fi)∧u.cell? ⟨w1.heap.size,4,none⟩=some (.func (.func fv) #[] #[])∧u.cell? ⟨w.heap.size,0,none⟩=some (.bool n1)∧u.cell? ⟨w.heap.size,1,none⟩=some (.slice a1 l1 c1)∧u.cell? ⟨w.heap.size,2,none⟩=some (.int .i64 x1)∧u.cell? ⟨w.heap.size+1,0,none⟩=some (.bool n2)∧u.cell? ⟨w.heap.size+1,1,none⟩=some (.slice a2 l2 c2)∧u.cell? ⟨w.heap.size+1,2,none⟩=some (.int .i64 x2)) (by kernel_rfl) (HS.out _ hk2.drew) (fun hHeld=>?_)
 refine tk (i:=0) (v:=?_) rfl ?_
 simp only[Act.put,zA,zB,zC,zD,zE,zF]
 refine tk (i:=1) (v:=?_) rfl ?_
 simp only[Act.put,zA,zB,zC,zD,zE,zF]
 refine tk (i:=2) (v:=?_) rfl ?_
 simp only[Act.put,zA,zB,zC,zD,zE,zF]
 refine tk (i:=3) (v:=?_) rfl ?_
 simp only[Act.put,zA,zB,zC,zD,zE,zF]
 refine tk (i:=5) (v:=?_) rfl ?_
 simp only[Act.put,zA,zB,zC,zD,zE,zF]
 refine wpAnyH_ready (rs:=[4]) (by kernel_rfl) (by simp) ?_
 refine AllReadyH.cons rfl (fun K hK9=>?_) AllReadyH.nil
 go_simp
 go_wp2_with fail
 refine(KG1.out _ hkk.drew).mono ?_
 rintro e ub ⟨rfl,hk3⟩
 have eb:=HS.out _ (hk2.drew.trans hk3)
 refine hK9.out _ _ eb (fun hHeldb=>?_)
 clear hK9 K
 refine wpAnyH_ready (rs:=[6]) (by kernel_rfl) (by simp) ?_
 refine AllReadyH.cons rfl (fun K hK9=>?_) AllReadyH.nil
 go_simp
 go_wp2_with fail
 refine(KG.out _ (hkk.drew.trans hk3)).mono ?_
 rintro e uc ⟨rfl,hk4⟩
 have ec:=HS.out _ (hk2.drew.trans (hk3.trans hk4))
 refine hK9.out _ _ ec (fun hHeldc=>?_)
 clear hK9 K
 refine tk (i:=7) (v:=?_) rfl ?_
 simp only[Act.put,zA,zB,zC,zD,zE,zF]
 refine tk (i:=8) (v:=?_) rfl ?_
 simp only[Act.put,zA,zB,zC,zD,zE,zF]
 refine tk (i:=9) (v:=?_) rfl ?_
 simp only[Act.put,zA,zB,zC,zD,zE,zF]
 refine wpAnyH_done (by kernel_rfl) ?_ _
 have hk5:=hk2.drew.trans (hk3.trans hk4)
 have hkk5:=hkk.drew.trans (hk3.trans hk4)
 clear hHeld hHeldb hHeldc eb ec
 go_upto_region 8 with fail
 refine wp_region_held_drew (S:=fun u=>u.cell? ⟨w1.heap.size,0,none⟩=some (.int .i64 n)∧u.cell? ⟨w1.heap.size,1,none⟩=some (.int .i64 pr)∧u.cell? ⟨w1.heap.size,2,none⟩=some (.int .i64 le)∧u.cell? ⟨w1.heap.size,3,none⟩=some (.int .i64 fi)∧u.cell? ⟨w1.heap.size,4,none⟩=some (.func (.func fv) #[] #[])∧u.cell? ⟨w.heap.size,0,none⟩=some (.bool n1)∧u.cell? ⟨w.heap.size,1,none⟩=some (.slice a1 l1 c1)∧u.cell? ⟨w.heap.size,2,none⟩=some (.int .i64 x1)∧u.cell? ⟨w.heap.size+1,0,none⟩=some (.bool n2)∧u.cell? ⟨w.heap.size+1,1,none⟩=some (.slice a2 l2 c2)∧u.cell? ⟨w.heap.size+1,2,none⟩=some (.int .i64 x2)) (by kernel_rfl) (HS.out _ hk5.drew) (fun hHeld=>?_)
 refine tk (i:=0) (v:=?_) rfl ?_
 simp only[Act.put,zA,zB,zC,zD,zE,zF]
 refine tk (i:=1) (v:=?_) rfl ?_
 simp only[Act.put,zA,zB,zC,zD,zE,zF]
 refine tk (i:=2) (v:=?_) rfl ?_
 simp only[Act.put,zA,zB,zC,zD,zE,zF]
 refine wpAnyH_ready (rs:=[3]) (by kernel_rfl) (by simp) ?_
 refine AllReadyH.cons rfl (fun K hK9=>?_) AllReadyH.nil
 go_simp
 go_wp2_with fail
 refine(KQ.out _ hkk5.drew).mono ?_
 rintro e uf ⟨rfl,hk6⟩
 have ef:=HS.out _ (hk5.drew.trans hk6)
 refine hK9.out _ _ ef (fun hHeldf=>?_)
 clear hK9 K
 refine wpAnyH_ready (rs:=[4]) (by kernel_rfl) (by simp) ?_
 refine AllReadyH.cons rfl (fun K hK9=>?_) AllReadyH.nil
 go_simp
 go_wp2_with fail
 refine(KO.out _ (hkk5.drew.trans hk6)).mono ?_
 rintro e ug ⟨rfl,hk7⟩
 have eg:=HS.out _ (hk5.drew.trans (hk6.trans hk7))
 refine hK9.out _ _ eg (fun hHeldg=>?_)
 clear hK9 K
 refine tk (i:=5) (v:=?_) rfl ?_
 simp only[Act.put,zA,zB,zC,zD,zE,zF]
 refine tk (i:=6) (v:=?_) rfl ?_
 simp only[Act.put,zA,zB,zC,zD,zE,zF]
 refine tk (i:=7) (v:=?_) rfl ?_
 simp only[Act.put,zA,zB,zC,zD,zE,zF]
 refine tk (i:=8) (v:=?_) rfl ?_
 simp only[Act.put,zA,zB,zC,zD,zE,zF]
 refine tk (i:=9) (v:=?_) rfl ?_
 simp only[Act.put,zA,zB,zC,zD,zE,zF]
 refine wpAnyH_done (by kernel_rfl) ?_ _
 clear hHeld hHeldf hHeldg ef eg
 go_wp2_with fail
 exact bodyPost_ret (v:=.tuple #[.int .i64 res,.bool ox,.int .i64 0]) (by simp[results,Tryz.results120,go_sem]) rfl ⟨rfl,hkk5.drew.trans (hk6.trans hk7)⟩
end Go.Proofs.YtnniljhdcplkgaaGreatDoor

namespace Go.Proofs.YtnniljhdcplkgaaGreatDoor
open Go.ChangeShapes Go.WideShapes Go.ChangeAt Go.RowKit
set_option maxHeartbeats 16000000
set_option maxRecDepth 100000
set_option linter.unusedVariables false
set_option linter.unusedSimpArgs false
theorem pcz_dg (v:Nat)(t:Int)(i:Nat):pcz v (-t+30*(i:Int))=((dg (flo v t) i:Nat):Int):=by
 rw[pcz_flo]
 unfold dg
 rw[flo_div,show -(-t+30*(i:Int))=t-((30*i:Nat):Int) by omega]
theorem getD_range (n:Nat)(f:Nat→Int)(i:Nat)(hi:i<n):((List.range n).map f).getD i 0=f i:=by
 rw[List.getD_eq_getElem?_getD,List.getElem?_map,List.getElem?_range hi]
 rfl
def qU (b:Nm):Nat:=flo (nv b.mag) (30*(b.mag.length:Int)-(bl (nv b.mag):Int))
theorem qU_bounds (b:Nm)(hb:vld b=true)(hne:b.mag≠[]):2^(30*b.mag.length-1)≤qU b∧qU b<2^(30*b.mag.length):=by
 obtain⟨p1,p2,p3,p4,p5,p6⟩:=vld_some b.neg b.mag b.exp hne hb
 have h0:=nv_ne b hb hne
 have hbl:=bl_le _ _ (nv_lt b.mag p2)
 obtain⟨b1,b2,b3⟩:=bl_pos (nv b.mag) h0
 have hl:=List.length_pos_iff.2 hne
 have:=flo_bounds (nv b.mag) (bl (nv b.mag)) (30*(b.mag.length:Int)-(bl (nv b.mag):Int)) b1 b2 b3 (by omega)
 rw[show((bl (nv b.mag):Int)-1+(30*(b.mag.length:Int)-(bl (nv b.mag):Int))).toNat=30*b.mag.length-1 by omega,show((bl (nv b.mag):Int)+(30*(b.mag.length:Int)-(bl (nv b.mag):Int))).toNat=30*b.mag.length by omega]at this
 exact this
def dA (c:Nat)(a b:Nm):Nat:=flo (nv a.mag) (30*((b.mag.length:Int)+(c:Int))-(bl (nv a.mag):Int))
def dlw (c:Nat)(a b:Nm):Int:=(bl (nv a.mag):Int)-(((b.mag.length:Int)+(c:Int))*30)
def dex (c:Nat)(a b:Nm):Int:=a.exp-b.exp+(bl (nv a.mag):Int)-(bl (nv b.mag):Int)-(c:Int)*30
def drs (c:Nat)(a b:Nm):Bool:=decide (0<dlw c a b)||decide (dA c a b%qU b≠0)
def dV (c:Nat)(a b:Nm):Nat:=dA c a b/qU b
theorem dA_bounds (c:Nat)(hc:0<c)(a b:Nm)(ha:vld a=true)(hne:a.mag≠[]):2^(30*b.mag.length+(30*c-1))≤dA c a b∧dA c a b<2^(30*(b.mag.length+c)):=by
 have h0:=nv_ne a ha hne
 obtain⟨b1,b2,b3⟩:=bl_pos (nv a.mag) h0
 have:=flo_bounds (nv a.mag) (bl (nv a.mag)) (30*((b.mag.length:Int)+(c:Int))-(bl (nv a.mag):Int)) b1 b2 b3 (by omega)
 rw[show((bl (nv a.mag):Int)-1+(30*((b.mag.length:Int)+(c:Int))-(bl (nv a.mag):Int))).toNat=30*b.mag.length+(30*c-1) by omega,show((bl (nv a.mag):Int)+(30*((b.mag.length:Int)+(c:Int))-(bl (nv a.mag):Int))).toNat=30*(b.mag.length+c) by omega]at this
 exact this
theorem dV_bounds (c:Nat)(hc:0<c)(a b:Nm)(ha:vld a=true)(hb:vld b=true)(h1:a.mag≠[])(h2:b.mag≠[]):2^(30*c-1)≤dV c a b∧dV c a b<2^(30*c+1):=by
 obtain⟨u1,u2⟩:=qU_bounds b hb h2
 obtain⟨a1,a2⟩:=dA_bounds c hc a b ha h1
 have hl:=List.length_pos_iff.2 h2
 have hU0:0<qU b:=Nat.lt_of_lt_of_le (Nat.two_pow_pos _) u1
 unfold dV
 constructor
 ·rw[Nat.le_div_iff_mul_le hU0]
  refine Nat.le_trans (Nat.mul_le_mul_left _ (Nat.le_of_lt u2)) ?_
  rw[←Nat.pow_add,Nat.add_comm]
  exact a1
 ·rw[Nat.div_lt_iff_lt_mul hU0]
  refine Nat.lt_of_lt_of_le a2 (Nat.le_trans ?_ (Nat.mul_le_mul_left _ u1))
  rw[←Nat.pow_add]
  exact Nat.pow_le_pow_right (by decide) (by omega)
theorem divided_any (c:Nat)(hc:0<c)(hc8:c≤8)(a b:Nm)(ha:vld a=true)(hb:vld b=true)(h1:a.mag≠[])(h2:b.mag≠[])(a1 a2:Option Addr)(c1 c2:Nat)(w:World)(hs1:Sl w (.slice a1 a.mag.length c1) a.mag)(hs2:Sl w (.slice a2 b.mag.length c2) b.mag):Calls Tryz.prog 129 #[.agg #[.bool a.neg,.slice a1 a.mag.length c1,.int .i64 a.exp],.agg #[.bool b.neg,.slice a2 b.mag.length c2,.int .i64 b.exp],.int .i64 (c:Int)] w fun e w'=>∃h,e=.returned (.tuple #[.slice (some ⟨h,0,none⟩) (c+1) (c+1),.int .i64 (dex c a b),.bool (drs c a b)])∧w.heap.size≤h∧Own w' h (c+1) (dvl (dV c a b) c (c+1))∧Kept w w':=by
 obtain⟨p1,p2,p3,p4,p5,p6⟩:=vld_some a.neg a.mag a.exp h1 ha
 obtain⟨q1,q2,q3,q4,q5,q6⟩:=vld_some b.neg b.mag b.exp h2 hb
 have hl1:=List.length_pos_iff.2 h1
 have hl2:=List.length_pos_iff.2 h2
 have hb1:=bl_le _ _ (nv_lt a.mag p2)
 have hb2:=bl_le _ _ (nv_lt b.mag q2)
 obtain⟨u1,u2⟩:=qU_bounds b hb h2
 obtain⟨e1,e2⟩:=dA_bounds c hc a b ha h1
 refine divided_walk a.neg b.neg a1 a2 a.mag.length c1 b.mag.length c2 hl1 hl2 (by omega) c (c+1) (b.mag.length+c) (b.mag.length+c+1) hc8 rfl rfl rfl a.exp b.exp p5 p6 q5 q6 (bl (nv a.mag)) (bl (nv b.mag)) (by omega) (by omega) (dA c a b) (qU b) ((List.range (b.mag.length+c)).map fun i:Nat=>pcz (nv a.mag) (dlw c a b+30*(i:Int))) (dlw c a b) (by unfold dlw;push_cast;rfl) (dex c a b) rfl w ?_ e2 ?_ (fun u k=>length_any a.mag ⟨p2,fun _=>p3⟩ (by omega) _ u (hs1.kept k)) (fun u k=>length_any b.mag ⟨q2,fun _=>q3⟩ (by omega) _ u (hs2.kept k)) (fun u k=>?_) (fun u k=>?_)
 ·refine⟨by rw[List.length_map,List.length_range],fun i hi=>?_⟩
  rw[getD_range _ _ _ hi,show dlw c a b=-(30*((b.mag.length:Int)+(c:Int))-(bl (nv a.mag):Int)) by unfold dlw;omega]
  exact pcz_dg _ _ _
 ·refine⟨?_,u2,?_⟩
  ·refine Nat.le_trans (Nat.le_of_eq ?_) u1
   rw[show(536870912:Nat)=2^29 by decide,←Nat.pow_add]
   congr 1
   omega
  ·rw[Nat.div_lt_iff_lt_mul (Nat.two_pow_pos _)]
   refine Nat.lt_of_lt_of_le e2 (Nat.le_trans ?_ (Nat.mul_le_mul_right _ u1))
   rw[←Nat.pow_add]
   exact Nat.pow_le_pow_right (by decide) (by omega)
 ·refine(pieces_any b.mag q2 _ b.mag.length (by omega) ((bl (nv b.mag):Int)-(b.mag.length:Int)*30) (by omega) u (hs2.kept k)).mono ?_
  rintro e w' ⟨rfl,ho,hk⟩
  refine⟨rfl,fun i hi=>?_,hk⟩
  rw[Nat.zero_add,ho.cell i (by rw[List.length_map,List.length_range];exact hi),getD_range _ _ _ hi,show(bl (nv b.mag):Int)-(b.mag.length:Int)*30=-(30*(b.mag.length:Int)-(bl (nv b.mag):Int)) by omega,pcz_dg]
  rfl
 ·have hp:-10000000<dlw c a b∧dlw c a b<10000000:=by unfold dlw;omega
  exact pieces_any a.mag p2 (.slice a1 a.mag.length c1) (b.mag.length+c) (by omega) (dlw c a b) hp u (hs1.kept k)
theorem nv_dgs (V:Nat):∀(m:Nat),V<2^(30*m)→nv ((List.range m).map fun i=>((dg V i:Nat):Int))=V:=by
 intro m
 induction m generalizing V with
 |zero=>
  intro h
  simp only[Nat.mul_zero,Nat.pow_zero]at h
  have h0:V=0:=by omega
  subst h0
  rfl
 | succ m ih=>
  intro h
  rw[List.range_succ_eq_map,List.map_cons,List.map_map]
  have e:((fun i=>((dg V i:Nat):Int)) ∘ Nat.succ)=fun i=>((dg (V/1073741824) i:Nat):Int):=by
   funext i
   have:=dg_shift V 1 i
   rw[show 2^(30*1)=1073741824 by decide]at this
   simp only[Function.comp]
   rw[this,Nat.add_comm]
  rw[e]
  have h2:V/1073741824<2^(30*m):=by
   rw[Nat.div_lt_iff_lt_mul (by decide),←pow30k]
   exact h
  have:=ih (V/1073741824) h2
  rw[nv,this]
  have hd:dg V 0=V%1073741824:=by unfold dg;rw[Nat.mul_zero,Nat.pow_zero,Nat.div_one]
  rw[hd]
  omega
theorem dvl_full (V c:Nat):dvl V c (c+1)=(List.range (c+1)).map fun i=>((dg V i:Nat):Int):=by
 unfold dvl
 refine List.map_congr_left (fun i hi=>?_)
 rw[if_pos (by omega)]
theorem dvl_dg (V c k:Nat):Dg (dvl V c k):=by
 intro d hd
 unfold dvl at hd
 obtain⟨i,-,rfl⟩:=List.mem_map.1 hd
 split
 ·have:=dg_lt V i
  omega
 ·omega
end Go.Proofs.YtnniljhdcplkgaaGreatDoor
