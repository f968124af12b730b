/-  -/
import Derived.Test.YtelbefihigkhjaaGreatDoorWm28
import Derived.Test.YtelbefihigkhjaaGreatDoorWm24
import Derived.Test.YtelbefihigkhjaaGreatDoorWm20
import Derived.Test.YtelbefihigkhjaaGreatDoorWm19
import Derived.Test.YtelbefihigkhjaaGreatDoorWm16
import Derived.Test.YtelbefihigkhjaaGreatDoorWm04
namespace Go.Proofs.YtelbefihigkhjaaGreatDoor
open Go.ChangeShapes Go.WideShapes Go.ChangeAt Go.RowKit
set_option maxHeartbeats 16000000
set_option maxRecDepth 100000
set_option linter.unusedVariables false
set_option linter.unusedSimpArgs false
theorem qjd (way:Int)(fv:Nat)(n pr le fi:Int)(n1 n2:Bool)(a1 a2:Option Addr)(l1 c1 l2 c2:Nat)(x1 x2 res sg1 sg2 pp:Int)(ox:Bool)(hsg:(sg2==0)=false)(hpp:IntKind.i64.wrap (sg1*sg2)=pp)(hp0:decide (pp<0)=false)(y0 y1 y2 y3:Value)(w:World)
  (KR:Hid (Calls Tryz.prog 231 #[.int .i64 n,.int .i64 way,.slice (some ⟨w.heap.size+2,0,none⟩) 2 2] (((w.alloc (.cells #[.bool n1,.slice a1 l1 c1,.int .i64 x1] 78)).alloc (.cells #[.bool n2,.slice a2 l2 c2,.int .i64 x2] 78)).alloc (.cells (qO n1 (.slice a1 l1 c1) x1 n2 (.slice a2 l2 c2) x2) 78)) fun e w'=>e=.returned (.tuple #[.agg #[.int .i64 n,.int .i64 pr,.int .i64 le,.int .i64 fi,.func (.func fv) #[] #[]],.int .i64 0])∧Kept (((w.alloc (.cells #[.bool n1,.slice a1 l1 c1,.int .i64 x1] 78)).alloc (.cells #[.bool n2,.slice a2 l2 c2,.int .i64 x2] 78)).alloc (.cells (qO n1 (.slice a1 l1 c1) x1 n2 (.slice a2 l2 c2) x2) 78)) w'))
  (KG1:Hid (∀u,Kept w u→Calls Tryz.prog 301 #[.agg #[.bool n1,.slice a1 l1 c1,.int .i64 x1]] u fun e w'=>e=.returned (.int .i64 sg1)∧Kept u w'))
  (KG:Hid (∀u,Kept w u→Calls Tryz.prog 301 #[.agg #[.bool n2,.slice a2 l2 c2,.int .i64 x2]] u fun e w'=>e=.returned (.int .i64 sg2)∧Kept u w'))
  (KQ:Hid (∀u,Kept w u→Calls Tryz.prog 302 #[.agg #[.bool n1,.slice a1 l1 c1,.int .i64 x1],.agg #[.bool n2,.slice a2 l2 c2,.int .i64 x2]] u fun e w'=>e=.returned (.agg #[y0,y1,y2,y3])∧Kept u w'))
  (KO:Hid (∀u,Kept w u→Calls Tryz.prog 232 #[.agg #[.int .i64 n,.int .i64 pr,.int .i64 le,.int .i64 fi,.func (.func fv) #[] #[]],.agg #[y0,y1,y2,y3]] u fun e w'=>e=.returned (.tuple #[.int .i64 res,.bool ox])∧Kept u w')):
  Calls Tryz.prog 254 #[.agg #[.bool n1,.slice a1 l1 c1,.int .i64 x1],.agg #[.bool n2,.slice a2 l2 c2,.int .i64 x2],.int .i64 n,.int .i64 way] w fun e w'=>e=.returned (.tuple #[.int .i64 res,.bool ox,.int .i64 0])∧Kept w w':=by
 have hK:Kept w (((w.alloc (.cells #[.bool n1,.slice a1 l1 c1,.int .i64 x1] 78)).alloc (.cells #[.bool n2,.slice a2 l2 c2,.int .i64 x2] 78)).alloc (.cells (qO n1 (.slice a1 l1 c1) x1 n2 (.slice a2 l2 c2) x2) 78)):=(((qlv w).alloc _ _).alloc _ _).alloc _ _
 have hsg2:¬sg2=0:=by simpa using hsg
 have hp1:¬pp<0:=by simpa using hp0
 go_enter Tryz.func254,Tryz.ntmps254
 go_wp2_with fail
 refine KR.out.mono ?_
 rintro e w1 ⟨rfl,hk1⟩
 have HS:Hid (∀u,Kept (w1.alloc (.cells #[.int .i64 n,.int .i64 pr,.int .i64 le,.int .i64 fi,.func (.func fv) #[] #[]] 275)) u→u.cell? ⟨w1.heap.size,0,none⟩=some (.int .i64 n)∧u.cell? ⟨w1.heap.size,1,none⟩=some (.int .i64 pr)∧u.cell? ⟨w1.heap.size,2,none⟩=some (.int .i64 le)∧u.cell? ⟨w1.heap.size,3,none⟩=some (.int .i64 fi)∧u.cell? ⟨w1.heap.size,4,none⟩=some (.func (.func fv) #[] #[])∧u.cell? ⟨w.heap.size,0,none⟩=some (.bool n1)∧u.cell? ⟨w.heap.size,1,none⟩=some (.slice a1 l1 c1)∧u.cell? ⟨w.heap.size,2,none⟩=some (.int .i64 x1)∧u.cell? ⟨w.heap.size+1,0,none⟩=some (.bool n2)∧u.cell? ⟨w.heap.size+1,1,none⟩=some (.slice a2 l2 c2)∧u.cell? ⟨w.heap.size+1,2,none⟩=some (.int .i64 x2)):=fun u k=>⟨(qe k 0).trans (by simp[go_sem]),(qe k 1).trans (by simp[go_sem]),(qe k 2).trans (by simp[go_sem]),(qe k 3).trans (by simp[go_sem]),(qe k 4).trans (by simp[go_sem]),((hk1.trans ((qlv w1).alloc _ _|>.trans k)).below.cell (p:=⟨w.heap.size,0,none⟩) (by simp<;>omega)).trans (by simp[go_sem]),((hk1.trans ((qlv w1).alloc _ _|>.trans k)).below.cell (p:=⟨w.heap.size,1,none⟩) (by simp<;>omega)).trans (by simp[go_sem]),((hk1.trans ((qlv w1).alloc _ _|>.trans k)).below.cell (p:=⟨w.heap.size,2,none⟩) (by simp<;>omega)).trans (by simp[go_sem]),((hk1.trans ((qlv w1).alloc _ _|>.trans k)).below.cell (p:=⟨w.heap.size+1,0,none⟩) (by simp<;>omega)).trans (by simp[go_sem]),((hk1.trans ((qlv w1).alloc _ _|>.trans k)).below.cell (p:=⟨w.heap.size+1,1,none⟩) (by simp<;>omega)).trans (by simp[go_sem]),((hk1.trans ((qlv w1).alloc _ _|>.trans k)).below.cell (p:=⟨w.heap.size+1,2,none⟩) (by simp<;>omega)).trans (by simp[go_sem])⟩
 have hsz:w.heap.size+3≤w1.heap.size:=by have:=hk1.below.size;simpa using this
 obtain⟨r0,r1,r2,r3,r4,p0,p1,p2,q0,q1,q2⟩:=HS.out _ (qlv _)
 go_wp2_with fail
 refine(KG.out _ (hK.trans (hk1.alloc _ _))).mono ?_
 rintro e w2 ⟨rfl,hk2⟩
 clear r0 r1 r2 r3 r4 p0 p1 p2 q0 q1 q2
 have hkk:Kept w w2:=hK.trans (hk1.trans (((qlv w1).alloc _ _).trans hk2))
 go_upto_region 4 with fail
 refine qlw (S:=fun u=>u.cell? ⟨w1.heap.size,0,none⟩=some (.int .i64 n)∧u.cell? ⟨w1.heap.size,1,none⟩=some (.int .i64 pr)∧u.cell? ⟨w1.heap.size,2,none⟩=some (.int .i64 le)∧u.cell? ⟨w1.heap.size,3,none⟩=some (.int .i64 fi)∧u.cell? ⟨w1.heap.size,4,none⟩=some (.func (.func fv) #[] #[])∧u.cell? ⟨w.heap.size,0,none⟩=some (.bool n1)∧u.cell? ⟨w.heap.size,1,none⟩=some (.slice a1 l1 c1)∧u.cell? ⟨w.heap.size,2,none⟩=some (.int .i64 x1)∧u.cell? ⟨w.heap.size+1,0,none⟩=some (.bool n2)∧u.cell? ⟨w.heap.size+1,1,none⟩=some (.slice a2 l2 c2)∧u.cell? ⟨w.heap.size+1,2,none⟩=some (.int .i64 x2)) (by kernel_rfl) (HS.out _ hk2.drew) (fun hHeld=>?_)
 refine tk (i:=0) (v:=?_) rfl ?_
 simp only[zz]
 refine tk (i:=1) (v:=?_) rfl ?_
 simp only[zz]
 refine tk (i:=2) (v:=?_) rfl ?_
 simp only[zz]
 refine tk (i:=3) (v:=?_) rfl ?_
 simp only[zz]
 refine tk (i:=5) (v:=?_) rfl ?_
 simp only[zz]
 refine qlt (rs:=[4]) (by kernel_rfl) (by simp) ?_
 refine qlr rfl (fun K hK9=>?_) qls
 go_simp
 go_wp2_with fail
 refine(KG1.out _ hkk.drew).mono ?_
 rintro e ub ⟨rfl,hk3⟩
 have eb:=HS.out _ (hk2.drew.trans hk3)
 refine hK9.out _ _ eb (fun hHeldb=>?_)
 clear hK9 K
 refine qlt (rs:=[6]) (by kernel_rfl) (by simp) ?_
 refine qlr rfl (fun K hK9=>?_) qls
 go_simp
 go_wp2_with fail
 refine(KG.out _ (hkk.drew.trans hk3)).mono ?_
 rintro e uc ⟨rfl,hk4⟩
 have ec:=HS.out _ (hk2.drew.trans (hk3.trans hk4))
 refine hK9.out _ _ ec (fun hHeldc=>?_)
 clear hK9 K
 refine tk (i:=7) (v:=?_) rfl ?_
 simp only[zz]
 refine tk (i:=8) (v:=?_) rfl ?_
 simp only[zz]
 refine tk (i:=9) (v:=?_) rfl ?_
 simp only[zz]
 refine qlx (by kernel_rfl) ?_ _
 have hk5:=hk2.drew.trans (hk3.trans hk4)
 have hkk5:=hkk.drew.trans (hk3.trans hk4)
 clear hHeld hHeldb hHeldc eb ec
 go_upto_region 8 with fail
 refine qlw (S:=fun u=>u.cell? ⟨w1.heap.size,0,none⟩=some (.int .i64 n)∧u.cell? ⟨w1.heap.size,1,none⟩=some (.int .i64 pr)∧u.cell? ⟨w1.heap.size,2,none⟩=some (.int .i64 le)∧u.cell? ⟨w1.heap.size,3,none⟩=some (.int .i64 fi)∧u.cell? ⟨w1.heap.size,4,none⟩=some (.func (.func fv) #[] #[])∧u.cell? ⟨w.heap.size,0,none⟩=some (.bool n1)∧u.cell? ⟨w.heap.size,1,none⟩=some (.slice a1 l1 c1)∧u.cell? ⟨w.heap.size,2,none⟩=some (.int .i64 x1)∧u.cell? ⟨w.heap.size+1,0,none⟩=some (.bool n2)∧u.cell? ⟨w.heap.size+1,1,none⟩=some (.slice a2 l2 c2)∧u.cell? ⟨w.heap.size+1,2,none⟩=some (.int .i64 x2)) (by kernel_rfl) (HS.out _ hk5.drew) (fun hHeld=>?_)
 refine tk (i:=0) (v:=?_) rfl ?_
 simp only[zz]
 refine tk (i:=1) (v:=?_) rfl ?_
 simp only[zz]
 refine tk (i:=2) (v:=?_) rfl ?_
 simp only[zz]
 refine qlt (rs:=[3]) (by kernel_rfl) (by simp) ?_
 refine qlr rfl (fun K hK9=>?_) qls
 go_simp
 go_wp2_with fail
 refine(KQ.out _ hkk5.drew).mono ?_
 rintro e uf ⟨rfl,hk6⟩
 have ef:=HS.out _ (hk5.drew.trans hk6)
 refine hK9.out _ _ ef (fun hHeldf=>?_)
 clear hK9 K
 refine qlt (rs:=[4]) (by kernel_rfl) (by simp) ?_
 refine qlr rfl (fun K hK9=>?_) qls
 go_simp
 go_wp2_with fail
 refine(KO.out _ (hkk5.drew.trans hk6)).mono ?_
 rintro e ug ⟨rfl,hk7⟩
 have eg:=HS.out _ (hk5.drew.trans (hk6.trans hk7))
 refine hK9.out _ _ eg (fun hHeldg=>?_)
 clear hK9 K
 refine tk (i:=5) (v:=?_) rfl ?_
 simp only[zz]
 refine tk (i:=6) (v:=?_) rfl ?_
 simp only[zz]
 refine tk (i:=7) (v:=?_) rfl ?_
 simp only[zz]
 refine tk (i:=8) (v:=?_) rfl ?_
 simp only[zz]
 refine tk (i:=9) (v:=?_) rfl ?_
 simp only[zz]
 refine qlx (by kernel_rfl) ?_ _
 clear hHeld hHeldf hHeldg ef eg
 go_wp2_with fail
 exact qlu (v:=.tuple #[.int .i64 res,.bool ox,.int .i64 0]) (by simp[results,Tryz.results254,go_sem]) rfl ⟨rfl,hkk5.drew.trans (hk6.trans hk7)⟩
end Go.Proofs.YtelbefihigkhjaaGreatDoor

namespace Go.Proofs.YtelbefihigkhjaaGreatDoor
open Go.ChangeShapes Go.WideShapes Go.ChangeAt Go.RowKit
set_option maxHeartbeats 16000000
set_option maxRecDepth 100000
set_option linter.unusedVariables false
set_option linter.unusedSimpArgs false
theorem qcs (v:Nat)(t:Int)(i:Nat):pcz v (-t+30*(i:Int))=((dg (flo v t) i:Nat):Int):=by
 rw[YF]
 unfold dg
 rw[qgk,show -(-t+30*(i:Int))=t-((30*i:Nat):Int) by omega]
theorem Qe (n:Nat)(f:Nat→Int)(i:Nat)(hi:i<n):((List.range n).map f).getD i 0=f i:=by
 rw[qli,List.getElem?_map,List.getElem?_range hi]
 rfl
def qU (b:Nm):Nat:=flo (nv b.mag) (30*(b.mag.length:Int)-(bl (nv b.mag):Int))
theorem Zd (b:Nm)(hb:vld b=true)(hne:b.mag≠[]):2^(30*b.mag.length-1)≤qU b∧qU b<2^(30*b.mag.length):=by
 obtain⟨p1,p2,p3,p4,p5,p6⟩:=qw b.neg b.mag b.exp hne hb
 have h0:=yW b hb hne
 have hbl:=qN _ _ (qV b.mag p2)
 obtain⟨b1,b2,b3⟩:=qu (nv b.mag) h0
 have hl:=List.length_pos_iff.2 hne
 have:=vJ (nv b.mag) (bl (nv b.mag)) (30*(b.mag.length:Int)-(bl (nv b.mag):Int)) b1 b2 b3 (by omega)
 rw[show((bl (nv b.mag):Int)-1+(30*(b.mag.length:Int)-(bl (nv b.mag):Int))).toNat=30*b.mag.length-1 by omega,show((bl (nv b.mag):Int)+(30*(b.mag.length:Int)-(bl (nv b.mag):Int))).toNat=30*b.mag.length by omega]at this
 exact this
def dA (c:Nat)(a b:Nm):Nat:=flo (nv a.mag) (30*((b.mag.length:Int)+(c:Int))-(bl (nv a.mag):Int))
def dlw (c:Nat)(a b:Nm):Int:=(bl (nv a.mag):Int)-(((b.mag.length:Int)+(c:Int))*30)
def dex (c:Nat)(a b:Nm):Int:=a.exp-b.exp+(bl (nv a.mag):Int)-(bl (nv b.mag):Int)-(c:Int)*30
def drs (c:Nat)(a b:Nm):Bool:=decide (0<dlw c a b)||decide (dA c a b%qU b≠0)
def dV (c:Nat)(a b:Nm):Nat:=dA c a b/qU b
theorem Ze (c:Nat)(hc:0<c)(a b:Nm)(ha:vld a=true)(hne:a.mag≠[]):2^(30*b.mag.length+(30*c-1))≤dA c a b∧dA c a b<2^(30*(b.mag.length+c)):=by
 have h0:=yW a ha hne
 obtain⟨b1,b2,b3⟩:=qu (nv a.mag) h0
 have:=vJ (nv a.mag) (bl (nv a.mag)) (30*((b.mag.length:Int)+(c:Int))-(bl (nv a.mag):Int)) b1 b2 b3 (by omega)
 rw[show((bl (nv a.mag):Int)-1+(30*((b.mag.length:Int)+(c:Int))-(bl (nv a.mag):Int))).toNat=30*b.mag.length+(30*c-1) by omega,show((bl (nv a.mag):Int)+(30*((b.mag.length:Int)+(c:Int))-(bl (nv a.mag):Int))).toNat=30*(b.mag.length+c) by omega]at this
 exact this
theorem Ky (c:Nat)(hc:0<c)(a b:Nm)(ha:vld a=true)(hb:vld b=true)(h1:a.mag≠[])(h2:b.mag≠[]):2^(30*c-1)≤dV c a b∧dV c a b<2^(30*c+1):=by
 obtain⟨u1,u2⟩:=Zd b hb h2
 obtain⟨a1,a2⟩:=Ze c hc a b ha h1
 have hl:=List.length_pos_iff.2 h2
 have hU0:0<qU b:=qlf (qle _) u1
 unfold dV
 constructor
 ·rw[Nat.le_div_iff_mul_le hU0]
  refine qlp (Nat.mul_le_mul_left _ (Nat.le_of_lt u2)) ?_
  rw[←qlg,Nat.add_comm]
  exact a1
 ·rw[Nat.div_lt_iff_lt_mul hU0]
  refine qlf a2 (qlp ?_ (Nat.mul_le_mul_left _ u1))
  rw[←qlg]
  exact qlh (by decide) (by omega)
theorem J2 (c:Nat)(hc:0<c)(hc8:c≤8)(a b:Nm)(ha:vld a=true)(hb:vld b=true)(h1:a.mag≠[])(h2:b.mag≠[])(a1 a2:Option Addr)(c1 c2:Nat)(w:World)(hs1:Sl w (.slice a1 a.mag.length c1) a.mag)(hs2:Sl w (.slice a2 b.mag.length c2) b.mag):Calls Tryz.prog 326 #[.agg #[.bool a.neg,.slice a1 a.mag.length c1,.int .i64 a.exp],.agg #[.bool b.neg,.slice a2 b.mag.length c2,.int .i64 b.exp],.int .i64 (c:Int)] w fun e w'=>∃h,e=.returned (.tuple #[.slice (some ⟨h,0,none⟩) (c+1) (c+1),.int .i64 (dex c a b),.bool (drs c a b)])∧w.heap.size≤h∧Own w' h (c+1) (dvl (dV c a b) c (c+1))∧Kept w w':=by
 obtain⟨p1,p2,p3,p4,p5,p6⟩:=qw a.neg a.mag a.exp h1 ha
 obtain⟨q1,q2,q3,q4,q5,q6⟩:=qw b.neg b.mag b.exp h2 hb
 have hl1:=List.length_pos_iff.2 h1
 have hl2:=List.length_pos_iff.2 h2
 have hb1:=qN _ _ (qV a.mag p2)
 have hb2:=qN _ _ (qV b.mag q2)
 obtain⟨u1,u2⟩:=Zd b hb h2
 obtain⟨e1,e2⟩:=Ze c hc a b ha h1
 refine ZO a.neg b.neg a1 a2 a.mag.length c1 b.mag.length c2 hl1 hl2 (by omega) c (c+1) (b.mag.length+c) (b.mag.length+c+1) hc8 rfl rfl rfl a.exp b.exp p5 p6 q5 q6 (bl (nv a.mag)) (bl (nv b.mag)) (by omega) (by omega) (dA c a b) (qU b) ((List.range (b.mag.length+c)).map fun i:Nat=>pcz (nv a.mag) (dlw c a b+30*(i:Int))) (dlw c a b) (by unfold dlw;push_cast;rfl) (dex c a b) rfl w ?_ e2 ?_ (fun u k=>zg a.mag ⟨p2,fun _=>p3⟩ (by omega) _ u (hs1.kept k)) (fun u k=>zg b.mag ⟨q2,fun _=>q3⟩ (by omega) _ u (hs2.kept k)) (fun u k=>?_) (fun u k=>?_)
 ·refine⟨by rw[List.length_map,List.length_range],fun i hi=>?_⟩
  rw[Qe _ _ _ hi,show dlw c a b=-(30*((b.mag.length:Int)+(c:Int))-(bl (nv a.mag):Int)) by unfold dlw;omega]
  exact qcs _ _ _
 ·refine⟨?_,u2,?_⟩
  ·refine qlp (Nat.le_of_eq ?_) u1
   rw[show(536870912:Nat)=2^29 by decide,←qlg]
   congr 1
   omega
  ·rw[Nat.div_lt_iff_lt_mul (qle _)]
   refine qlf e2 (qlp ?_ (Nat.mul_le_mul_right _ u1))
   rw[←qlg]
   exact qlh (by decide) (by omega)
 ·refine(Qo b.mag q2 _ b.mag.length (by omega) ((bl (nv b.mag):Int)-(b.mag.length:Int)*30) (by omega) u (hs2.kept k)).mono ?_
  rintro e w' ⟨rfl,ho,hk⟩
  refine⟨rfl,fun i hi=>?_,hk⟩
  rw[Nat.zero_add,ho.cell i (by rw[List.length_map,List.length_range];exact hi),Qe _ _ _ hi,show(bl (nv b.mag):Int)-(b.mag.length:Int)*30=-(30*(b.mag.length:Int)-(bl (nv b.mag):Int)) by omega,qcs]
  rfl
 ·have hp:-10000000<dlw c a b∧dlw c a b<10000000:=by unfold dlw;omega
  exact Qo a.mag p2 (.slice a1 a.mag.length c1) (b.mag.length+c) (by omega) (dlw c a b) hp u (hs1.kept k)
theorem qis (V:Nat):∀(m:Nat),V<2^(30*m)→nv ((List.range m).map fun i=>((dg V i:Nat):Int))=V:=by
 intro m
 induction m generalizing V with
 |zero=>
  intro h
  simp only[Nat.mul_zero,Nat.pow_zero]at h
  have h0:V=0:=by omega
  subst h0
  rfl
 | succ m ih=>
  intro h
  rw[List.range_succ_eq_map,List.map_cons,List.map_map]
  have e:((fun i=>((dg V i:Nat):Int)) ∘ Nat.succ)=fun i=>((dg (V/1073741824) i:Nat):Int):=by
   funext i
   have:=Xg V 1 i
   rw[show 2^(30*1)=1073741824 by decide]at this
   simp only[Function.comp]
   rw[this,Nat.add_comm]
  rw[e]
  have h2:V/1073741824<2^(30*m):=by
   rw[Nat.div_lt_iff_lt_mul (by decide),←xe]
   exact h
  have:=ih (V/1073741824) h2
  rw[nv,this]
  have hd:dg V 0=V%1073741824:=by unfold dg;rw[Nat.mul_zero,Nat.pow_zero,Nat.div_one]
  rw[hd]
  omega
theorem qct (V c:Nat):dvl V c (c+1)=(List.range (c+1)).map fun i=>((dg V i:Nat):Int):=by
 unfold dvl
 refine List.map_congr_left (fun i hi=>?_)
 rw[if_pos (by omega)]
theorem qit (V c k:Nat):Dg (dvl V c k):=by
 intro d hd
 unfold dvl at hd
 obtain⟨i,-,rfl⟩:=List.mem_map.1 hd
 split
 ·have:=vt V i
  omega
 ·omega
end Go.Proofs.YtelbefihigkhjaaGreatDoor

namespace Go.Proofs.YtelbefihigkhjaaGreatDoor
open Go.ChangeShapes Go.WideShapes Go.ChangeAt Go.RowKit
set_option maxHeartbeats 16000000
set_option maxRecDepth 100000
set_option linter.unusedVariables false
set_option linter.unusedSimpArgs false
theorem qdx (V:Nat)(x:Int)(hx:x=0∨x=1)(h1:2^119≤V)(h2:V<2^121):∃r,frm false V x=some r∧vld r=true∧r.neg=false∧r.mag≠[]∧0≤r.exp∧nv r.mag*2^r.exp.toNat=V*2^x.toNat∧120≤r.exp+(bl (nv r.mag):Int)∧r.exp+(bl (nv r.mag):Int)≤122:=by
 have h0:V≠0:=fun h=>by rw[h]at h1;exact absurd h1 (by decide)
 obtain⟨k,rfl,hk⟩:∃k:Nat,x=(k:Int)∧k≤1:=by rcases hx with rfl|rfl;exact⟨0,rfl,by omega⟩;exact⟨1,rfl,by omega⟩
 rw[Int.toNat_natCast]
 have hsh:=Zs false V k 0 h0
 rw[Int.zero_add]at hsh
 have hlt:V*2^k<2^122:=by
  have:2^k≤2:=by rcases(show k=0∨k=1 by omega)with rfl|rfl<;>decide
  have:=Nat.mul_le_mul_left V this
  omega
 have hge:2^119≤V*2^k:=qlp h1 (Nat.le_mul_of_pos_right V (qle k))
 obtain⟨P,hP⟩:∃P,V*2^k=P:=⟨_,rfl⟩
 rw[hP]at hlt hge hsh ⊢
 obtain⟨r,e,l,v⟩:=xJ 0 122 (by decide) (by decide) (by decide) (P:Int) (by rw[Int.natAbs_natCast];exact hlt)
 have e2:frm false P 0=some r:=by
  rw[kH]
  exact e
 have hne:r.mag≠[]:=fun h=>by
  unfold vz at v
  rw[h]at v
  have:(P:Int)=0:=by rw[←v];cases r.neg<;>simp[sg,nv]
  omega
 have hl:=l.low hne
 have hng:r.neg=false:=by
  cases hg:r.neg
  ·rfl
  ·unfold vz at v
   rw[hg]at v
   simp only[sg,if_true]at v
   have:(0:Int)≤(nv r.mag:Int)*2^(r.exp-0).toNat:=Int.mul_nonneg (by omega) (Int.le_of_lt (Int.pow_pos (by decide)))
   omega
 have hv:nv r.mag*2^r.exp.toNat=P:=by
  unfold vz at v
  rw[hng,Int.sub_zero]at v
  simp only[sg]at v
  have:((nv r.mag*2^r.exp.toNat:Nat):Int)=(P:Int):=by push_cast;exact v
  omega
 have hn0:=yW r l.ok hne
 have hb:=xC (nv r.mag) r.exp.toNat hn0
 rw[hv]at hb
 have hb1:119<bl P:=by
  obtain⟨b1,b2,b3⟩:=qu P (by omega)
  apply Decidable.byContradiction
  intro hc
  have:2^bl P≤2^119:=qlh (by decide) (by omega)
  omega
 have hb2:=qN P 122 hlt
 exact⟨r,by rw[←hsh];exact e2,l.ok,hng,hne,hl,hv,by omega,by omega⟩
theorem Ji (n:Int)(hn:n=64∨n=32)(a b:Nm)(ha:vld a=true)(hb:vld b=true)(ham:a.mag≠[])(hbm:b.mag≠[])(han:a.neg=false)(hbn:b.neg=false):∃r h l rs ex un m k F,frm false (dV 4 a b) (dex 4 a b%2)=some r∧nv r.mag*2^r.exp.toNat=dV 4 a b*2^(dex 4 a b%2).toNat∧0≤r.exp∧Rtl r h l rs∧ex=zk r/2+dex 4 a b/2∧dex 4 a b/2+4≤ex∧ex≤dex 4 a b/2+5∧Ldz n h 56 ex un m k F∧∀(way:Int),(way=0∨way=1∨way=2)→∀(a1 a2:Option Addr) (c1 c2:Nat) (w:World),Tab w→Sl w (.slice a1 a.mag.length c1) a.mag→Sl w (.slice a2 b.mag.length c2) b.mag→Calls Tryz.prog 254 #[.agg #[.bool a.neg,.slice a1 a.mag.length c1,.int .i64 a.exp],.agg #[.bool b.neg,.slice a2 b.mag.length c2,.int .i64 b.exp],.int .i64 n,.int .i64 way] w fun e w'=>e=.returned (.tuple #[.int .i64 (pz n (kyz false (mgz way false (ifn n) F (decide (k%2=1)) (decide (h/2^m%2=1)) ((rs||drs 4 a b)||h%2^m != 0)))),.bool (odz way false (ifn n) F (decide (k%2=1)) (decide (h/2^m%2=1)) ((rs||drs 4 a b)||h%2^m != 0)),.int .i64 0])∧Kept w w':=by
 obtain⟨hlen1,hDg1⟩:=jj a.neg a.mag a.exp ha
 obtain⟨hlen2,hDg2⟩:=jj b.neg b.mag b.exp hb
 have KR:∀(way:Int),(way=0∨way=1∨way=2)→∀(a1 a2:Option Addr) (c1 c2:Nat) (w:World),Sl w (.slice a1 a.mag.length c1) a.mag→Sl w (.slice a2 b.mag.length c2) b.mag→Hid (Calls Tryz.prog 231 #[.int .i64 n,.int .i64 way,.slice (some ⟨w.heap.size+2,0,none⟩) 2 2] (((w.alloc (.cells #[.bool a.neg,.slice a1 a.mag.length c1,.int .i64 a.exp] 78)).alloc (.cells #[.bool b.neg,.slice a2 b.mag.length c2,.int .i64 b.exp] 78)).alloc (.cells (qO a.neg (.slice a1 a.mag.length c1) a.exp b.neg (.slice a2 b.mag.length c2) b.exp) 78)) fun e w'=>e=.returned (.tuple #[.agg #[.int .i64 n,.int .i64 (qH n),.int .i64 (qn n),.int .i64 (z9 n),.func (.func (wfv way)) #[] #[]],.int .i64 0])∧Kept (((w.alloc (.cells #[.bool a.neg,.slice a1 a.mag.length c1,.int .i64 a.exp] 78)).alloc (.cells #[.bool b.neg,.slice a2 b.mag.length c2,.int .i64 b.exp] 78)).alloc (.cells (qO a.neg (.slice a1 a.mag.length c1) a.exp b.neg (.slice a2 b.mag.length c2) b.exp) 78)) w'):=fun way hw a1 a2 c1 c2 w h1 h2=>by
  refine vu n way hn hw _ _ (fun u k=>?_)
  have hK:Kept w (((w.alloc (.cells #[.bool a.neg,.slice a1 a.mag.length c1,.int .i64 a.exp] 78)).alloc (.cells #[.bool b.neg,.slice a2 b.mag.length c2,.int .i64 b.exp] 78)).alloc (.cells (qO a.neg (.slice a1 a.mag.length c1) a.exp b.neg (.slice a2 b.mag.length c2) b.exp) 78)):=(((qlv w).alloc _ _).alloc _ _).alloc _ _
  have hb':w.heap.size+2<(((w.alloc (.cells #[.bool a.neg,.slice a1 a.mag.length c1,.int .i64 a.exp] 78)).alloc (.cells #[.bool b.neg,.slice a2 b.mag.length c2,.int .i64 b.exp] 78)).alloc (.cells (qO a.neg (.slice a1 a.mag.length c1) a.exp b.neg (.slice a2 b.mag.length c2) b.exp) 78)).heap.size:=by simp
  have:=jX u (w.heap.size+2) 2 a.neg b.neg a1 a2 a.mag.length c1 b.mag.length c2 a.exp b.exp true true (qlf hb' k.below.size) ((k.below.cell (p:=⟨w.heap.size+2,0,none⟩) hb').trans (by simp[go_sem])) ((k.below.cell (p:=⟨w.heap.size+2,1,none⟩) hb').trans (by simp[go_sem])) ((k.below.cell (p:=⟨w.heap.size+2,2,none⟩) hb').trans (by simp[go_sem])) ((k.below.cell (p:=⟨w.heap.size+2,3,none⟩) hb').trans (by simp[go_sem])) ((k.below.cell (p:=⟨w.heap.size+2,4,none⟩) hb').trans (by simp[go_sem])) ((k.below.cell (p:=⟨w.heap.size+2,5,none⟩) hb').trans (by simp[go_sem])) (fun v kv=>?_) (fun v kv=>?_)
  ·exact this
  ·have:=zh a hDg1.rg (by omega) (.agg #[.bool a.neg,.slice a1 a.mag.length c1,.int .i64 a.exp]) v ⟨_,rfl,((h1.kept hK).kept k).kept kv⟩
   rw[ha]at this
   exact this
  ·have:=zh b hDg2.rg (by omega) (.agg #[.bool b.neg,.slice a2 b.mag.length c2,.int .i64 b.exp]) v ⟨_,rfl,((h2.kept hK).kept k).kept kv⟩
   rw[hb]at this
   exact this
 have hl1:=List.length_pos_iff.2 ham
 have hl2:=List.length_pos_iff.2 hbm
 have KG:∀(x:Nm),x.neg=false→0<x.mag.length→∀(a2:Option Addr) (c2:Nat) (w:World),Calls Tryz.prog 301 #[.agg #[.bool x.neg,.slice a2 x.mag.length c2,.int .i64 x.exp]] w fun e w'=>e=.returned (.int .i64 1)∧Kept w w':=fun x hx hl a2 c2 w=>by
  have:=Vh x.neg a2 x.mag.length c2 x.exp w
  rw[if_neg (by omega),hx,if_neg (by decide)]at this
  rw[hx]
  exact this
 obtain⟨p1,p2,p3,p4,p5,p6⟩:=qw a.neg a.mag a.exp ham ha
 obtain⟨q1,q2,q3,q4,q5,q6⟩:=qw b.neg b.mag b.exp hbm hb
 have hba:=qN _ _ (qV a.mag p2)
 have hbb:=qN _ _ (qV b.mag q2)
 obtain⟨g1,g2⟩:=Ky 4 (by decide) a b ha hb ham hbm
 have hexr:-2900000≤dex 4 a b∧dex 4 a b≤2900000:=by unfold dex;omega
 obtain⟨dx,hdx⟩:∃dx,dex 4 a b=dx:=⟨_,rfl⟩
 have hm2:dx%2=0∨dx%2=1:=by omega
 obtain⟨V,hV⟩:∃V,dV 4 a b=V:=⟨_,rfl⟩
 rw[hV]at g1 g2
 rw[hdx]at hexr
 obtain⟨r,hr,rv,rn,rne,re,rval,rb1,rb2⟩:=qdx V (dx%2) hm2 g1 g2
 obtain⟨h,l,H⟩:=qjg r rv rne
 have hrl:4≤zk r/2∧zk r/2≤5:=by unfold zk qaq;omega
 obtain⟨ex,hex⟩:∃ex,ex=zk r/2+dx/2:=⟨_,rfl⟩
 obtain⟨un,hun⟩:∃un,max (ex+((56:Nat):Int)-qH n) (qn n)=un:=⟨_,rfl⟩
 obtain⟨k1,k2,k3⟩:=jR n hn
 obtain⟨m,hm⟩:∃m:Nat,un-ex=(m:Int)+1:=⟨(un-ex-1).toNat,by omega⟩
 have L:Ldz n h 56 ex un m (h/2^(m+1)) ((un-qn n).toNat*cbn n+h/2^(m+1)):=⟨hun.symm,hm,rfl,rfl⟩
 rw[hdx,hV]
 refine⟨r,h,l,_,ex,un,m,_,_,hr,rval,re,H,hex,by omega,by omega,L,fun way hw a1 a2 c1 c2 w hT h1 h2=>?_⟩
 have hroot:=qd2 r rv rne h l _ H
 have hLL:(dvl V 4 5).length=5:=jZ _ _ _
 have hnv:nv (dvl V 4 5)=V:=by
  rw[qct]
  exact qis V 5 (Nat.lt_trans g2 (by decide))
 have KQ:∀u,Kept w u→Calls Tryz.prog 302 #[.agg #[.bool a.neg,.slice a1 a.mag.length c1,.int .i64 a.exp],.agg #[.bool b.neg,.slice a2 b.mag.length c2,.int .i64 b.exp]] u fun e w'=>e=.returned (.agg #[.bool false,.int .i64 (h:Int),.int .i64 ex,.bool ((decide (l≠0)||decide (r.exp<zk r))||drs 4 a b)])∧Kept u w':=fun u ku=>by
  rw[hex]
  refine VL a.neg b.neg a1 a2 a.mag.length c1 b.mag.length c2 hl1 a.exp b.exp dx (dx%2) (dx/2) (by omega) rfl rfl (drs 4 a b) (decide (l≠0)||decide (r.exp<zk r)) (dvl V 4 5) hLL (qit _ _ _) r (by rw[hnv];exact hr) h (zk r/2) (by omega) u (hT.kept ku) (fun u2 k2=>?_) (fun ao c u2 hs=>hroot ao c u2 hs)
  have:=J2 4 (by decide) (by decide) a b ha hb ham hbm a1 a2 c1 c2 u2 ((h1.kept ku).kept k2) ((h2.kept ku).kept k2)
  rw[hdx,hV]at this
  exact this
 exact qjd way _ n _ _ _ a.neg b.neg a1 a2 a.mag.length c1 b.mag.length c2 a.exp b.exp _ 1 1 1 _ (by decide) (by decide) (by decide) _ _ _ _ w (KR way hw a1 a2 c1 c2 w h1 h2) (fun u _=>KG a han hl1 a1 c1 u) (fun u _=>KG b hbn hl2 a2 c2 u) KQ (fun u ku=>YD way hw n hn false h 56 ex _ un m _ _ L H.low H.high (by decide) (by decide) (by omega) (by omega) _ _ _ rfl rfl rfl u (hT.kept ku))
end Go.Proofs.YtelbefihigkhjaaGreatDoor

namespace Go.Proofs.YtelbefihigkhjaaGreatDoor
open Go.ChangeShapes Go.WideShapes Go.ChangeAt Go.RowKit
set_option maxHeartbeats 16000000
set_option maxRecDepth 100000
set_option linter.unusedVariables false
set_option linter.unusedSimpArgs false
end Go.Proofs.YtelbefihigkhjaaGreatDoor

namespace Go.Proofs.YtelbefihigkhjaaGreatDoor
open Go.ChangeShapes Go.WideShapes Go.ChangeAt Go.RowKit
set_option maxHeartbeats 16000000
set_option maxRecDepth 100000
set_option linter.unusedVariables false
set_option linter.unusedSimpArgs false
def knd (n:Int):Value:=if n=64 then .agg #[.int .i64 64,.int .i64 53,.int .i64 4503599627370496,.int .i64 2047,.int .i64 (-1074),.int .i64 1024,.int .i64 9218868437227405312,.int .i64 (-9223372036854775808),.int .i64 9221120237041090561]else .agg #[.int .i64 32,.int .i64 24,.int .i64 8388608,.int .i64 255,.int .i64 (-149),.int .i64 128,.int .i64 2139095040,.int .i64 2147483648,.int .i64 2143289345]
theorem X8 (n:Int)(hn:n=64∨n=32)(w:World):Calls Tryz.prog 116 #[.int .i64 n] w fun e w'=>e=.returned (.tuple #[knd n,.bool true])∧Kept w w':=by
 rcases hn with rfl|rfl
 ·exact xD w
 ·exact xE w
theorem qic (n:Int)(hn:n=64∨n=32):∃k0 p k2 k3 k4 k5 k6 k7 k8:Int,knd n=.agg #[.int .i64 k0,.int .i64 p,.int .i64 k2,.int .i64 k3,.int .i64 k4,.int .i64 k5,.int .i64 k6,.int .i64 k7,.int .i64 k8]:=by
 rcases hn with rfl|rfl
 ·exact⟨_,_,_,_,_,_,_,_,_,rfl⟩
 ·exact⟨_,_,_,_,_,_,_,_,_,rfl⟩
theorem Y2 (n way:Int)(hn:n=64∨n=32)(ng:Bool)(ao:Option Addr)(ln c:Nat)(x b:Int)(od:Bool)(w:World)(KT:Hid (∀u,Kept w u→Calls Tryz.prog 206 #[knd n,.agg #[.bool ng,.slice ao ln c,.int .i64 x],.int .i64 way] u fun e w'=>e=.returned (.tuple #[.int .i64 b,.bool od])∧Kept u w')):Calls Tryz.prog 126 #[.agg #[.bool ng,.slice ao ln c,.int .i64 x],.int .i64 n,.int .i64 way] w fun e w'=>e=.returned (.tuple #[.int .i64 b,.bool od])∧Kept w w':=by
 obtain⟨k0,p,k2,k3,k4,k5,k6,k7,k8,hk⟩:=qic n hn
 have KO:Hid (∀u,Calls Tryz.prog 116 #[.int .i64 n] u fun e w'=>e=.returned (.tuple #[.agg #[.int .i64 k0,.int .i64 p,.int .i64 k2,.int .i64 k3,.int .i64 k4,.int .i64 k5,.int .i64 k6,.int .i64 k7,.int .i64 k8],.bool true])∧Kept u w'):=fun u=>by
  have:=X8 n hn u
  rw[hk]at this
  exact this
 rw[hk]at KT
 have hK:Kept w (w.alloc (.cells #[.bool ng,.slice ao ln c,.int .i64 x] 78)):=(qlv w).alloc _ _
 go_enter Tryz.func126,Tryz.ntmps126
 go_wp2_with fail
 refine(KO.out _).mono ?_
 rintro e w1 ⟨rfl,hk1⟩
 have hk2:=hk1.alloc #[.int .i64 k0,.int .i64 p,.int .i64 k2,.int .i64 k3,.int .i64 k4,.int .i64 k5,.int .i64 k6,.int .i64 k7,.int .i64 k8] 136
 have hb:w.heap.size<(w.alloc (.cells #[.bool ng,.slice ao ln c,.int .i64 x] 78)).heap.size:=by simp
 have q0:=(hk2.below.cell (p:=⟨w.heap.size,0,none⟩) hb).trans (show _=some (.bool ng) by simp[go_sem])
 have q1:=(hk2.below.cell (p:=⟨w.heap.size,1,none⟩) hb).trans (show _=some (.slice ao ln c) by simp[go_sem])
 have q2:=(hk2.below.cell (p:=⟨w.heap.size,2,none⟩) hb).trans (show _=some (.int .i64 x) by simp[go_sem])
 clear hb
 go_wp2_with fail
 refine(KT.out _ (hK.trans hk2)).mono ?_
 rintro e w2 ⟨rfl,hk3⟩
 go_wp2_with fail
 go_ret2
 exact⟨rfl,hK.trans (hk2.trans hk3)⟩
end Go.Proofs.YtelbefihigkhjaaGreatDoor
