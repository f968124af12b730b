/-  -/
import Derived.Test.YtelbefihigkhjaaGreatDoorWm05
import Derived.ProofKit
import Derived.OpenShut
import Derived.Carry
import Derived.Lib.SmallJoins
import Derived.ChangeSlices
import Derived.Test.YtelbefihigkhjaaGreatDoorWm51
namespace Go.Proofs.YtelbefihigkhjaaGreatDoor
open Go.ChangeShapes Go.WideShapes Go.ChangeAt Go.RowKit Go.Joins
set_option maxHeartbeats 16000000
set_option maxRecDepth 100000
set_option linter.unusedVariables false
theorem qc6:laidOutB Tryz.prog=true:=by kernel_rfl
theorem Zh:Tryz.prog.cellsOf 3=1:=by kernel_rfl
theorem qc7 (n:Int)(h:(Lit.int .i64 n).wf=true):-9223372036854775808≤n∧n≤9223372036854775807:=by
 have e1:IntKind.i64.min=-9223372036854775808:=rfl
 have e2:IntKind.i64.max=9223372036854775807:=rfl
 simp[Lit.wf]at h
 omega
section
variable {H:Type} {enc:TypeId×Value→H} {W:World}
theorem vr {W':World}{sp:Nat→Bool}:∀{ts:List TypeId} {vs:List Value} {ds:List (DataW H)} {p:List MemPlace},(∀t∈ts,Tryz.prog.readableRec t=true∧t<Tryz.prog.types.size)→DataW.TrodAll enc Tryz.prog W 0 (fun _=>true) true ts vs ds p→(∀x∈p,W.sameAt W' x)→(∀x∈p,sp x.block=true)→DataW.TrodAll enc Tryz.prog W' 0 sp true ts vs ds p
 |[],_,_,_,_,h,_,_=>by
  obtain⟨rfl,rfl,rfl⟩:=trodAll_nil h
  exact trodAll_mk0
 |t::ts,_,_,_,hr,h,hs,hp=>by
  obtain⟨v,vs1,d,ds1,a,b,rfl,rfl,rfl,h1,h2⟩:=trodAll_cons h
  obtain⟨r1,r2⟩:=hr t (by simp)
  exact trodAll_cons_mk (WideElems.Trod_stays qc6 r1 r2 h1 (fun x hx=>hs x (by simp[hx])) (fun x hx=>hp x (by simp[hx]))) (vr (fun t' ht'=>hr t' (by simp[ht'])) h2 (fun x hx=>hs x (by simp[hx])) (fun x hx=>hp x (by simp[hx])))
end
end Go.Proofs.YtelbefihigkhjaaGreatDoor

namespace Go.Proofs.YtelbefihigkhjaaGreatDoor
open Go.ChangeShapes Go.WideShapes Go.ChangeAt Go.RowKit
set_option maxHeartbeats 16000000
set_option maxRecDepth 100000
set_option linter.unusedVariables false
set_option linter.unusedSimpArgs false
theorem Qu (ki1 ro1 co1 wi1 va1 vb1 seed stream:Int)(l1:Bool)(q:Int)(z0 z1 z2:Int)(M:Nat)(R:World→Option Addr→Prop)(w:World)
  (sR:Hid (∀u u' v,R u v→Kept u u'→R u' v))
  (KA:Hid (∀u,Kept w u→Calls Tryz.prog 9 #[] u fun e w'=>e=.returned (.bool true)∧Kept u w'))
  (KL1:Hid (∀u,Calls Tryz.prog 10 #[.agg #[.int .i64 ki1,.int .i64 ro1,.int .i64 co1,.int .i64 wi1,.int .i64 va1,.int .i64 vb1]] u fun e w'=>e=.returned (.bool l1)∧Kept u w'))
  (KX:Hid (∀u,Kept w u→Calls Tryz.prog 11 #[.agg #[.int .i64 ki1,.int .i64 ro1,.int .i64 co1,.int .i64 wi1,.int .i64 va1,.int .i64 vb1],.int .i64 seed,.int .i64 stream] u fun e w'=>∃v,e=.returned (.tuple #[.agg #[.int .i64 z0,.int .i64 z1,.int .i64 z2,.slice v M M],.int .i64 q])∧R w' v∧Kept u w'))
  (KY:Hid (∀u,Kept w u→Calls Tryz.prog 12 #[.agg #[.int .i64 ki1,.int .i64 ro1,.int .i64 co1,.int .i64 wi1,.int .i64 va1,.int .i64 vb1],.int .i64 seed,.int .i64 stream] u fun e w'=>∃v,e=.returned (.tuple #[.agg #[.int .i64 z0,.int .i64 z1,.int .i64 z2,.slice v M M],.int .i64 q])∧R w' v∧Kept u w'))
  (KS:Hid (∀u v v',R u v→R u v'→Calls Tryz.prog 13 #[.agg #[.int .i64 z0,.int .i64 z1,.int .i64 z2,.slice v M M],.agg #[.int .i64 z0,.int .i64 z1,.int .i64 z2,.slice v' M M]] u fun e w'=>e=.returned (.bool true)∧Kept u w')):
  Calls Tryz.prog 3 #[.agg #[.int .i64 ki1,.int .i64 ro1,.int .i64 co1,.int .i64 wi1,.int .i64 va1,.int .i64 vb1],.int .i64 seed,.int .i64 stream] w fun e w'=>e=.returned (.bool true)∧Kept w w':=by
 obtain⟨X,hX⟩:∃X,X=w.alloc (.cells #[.int .i64 ki1,.int .i64 ro1,.int .i64 co1,.int .i64 wi1,.int .i64 va1,.int .i64 vb1] 23):=⟨_,rfl⟩
 obtain⟨B0,hB0⟩:∃B,B=w.heap.size:=⟨_,rfl⟩
 have hK:Kept w X:=by rw[hX];exact(qlv w).alloc _ _
 have hP0:Q6 X B0 (.int .i64 ki1) (.int .i64 ro1) (.int .i64 co1) (.int .i64 wi1) (.int .i64 va1) (.int .i64 vb1):=by rw[hX,hB0];exact Q6.new w _ _ _ _ _ _ _
 have HP0:Hid (∀u,Kept X u→Q6 u B0 (.int .i64 ki1) (.int .i64 ro1) (.int .i64 co1) (.int .i64 wi1) (.int .i64 va1) (.int .i64 vb1)):=fun u k=>hP0.kept k
 clear hP0
 go_enter Tryz.func3,Tryz.ntmps3
 go_upto_region 1 with fail
 rw[←hX,←hB0]
 clear hX hB0
 go_wp2_with fail
 refine(KA.out _ hK).mono ?_
 rintro e w1 ⟨rfl,k1⟩
 obtain⟨p0,p1,p2,p3,p4,p5⟩:=HP0.out _ k1
 go_wp2_with fail
 refine(KL1.out _).mono ?_
 rintro e w2 ⟨rfl,k2⟩
 clear p0 p1 p2 p3 p4 p5
 have k12:=k1.trans k2
 clear k1 k2
 cases l1
 ·go_wp2_with fail
  refine(KA.out _ (hK.trans k12)).mono ?_
  rintro e w9 ⟨rfl,k9⟩
  go_wp2_with fail
  go_ret
  exact⟨rfl,(hK.trans k12).trans k9⟩
 obtain⟨p0,p1,p2,p3,p4,p5⟩:=HP0.out _ k12
 go_wp2_with fail
 refine(KX.out _ (hK.trans k12)).mono ?_
 rintro e w4 ⟨v,rfl,rv,k4⟩
 clear p0 p1 p2 p3 p4 p5
 go_upto_region 4 with fail
 obtain⟨V,hV⟩:∃V,V=w4.alloc (.cells #[.int .i64 z0,.int .i64 z1,.int .i64 z2,.slice v M M] 28):=⟨_,rfl⟩
 obtain⟨B8,hB8⟩:∃B,B=w4.heap.size:=⟨_,rfl⟩
 have kV:Kept X V:=by rw[hV];exact(k12.trans k4).alloc _ _
 have hP8:Q4 V B8 (.int .i64 z0) (.int .i64 z1) (.int .i64 z2) (.slice v M M):=by rw[hV,hB8];exact Q4.new w4 _ _ _ _ _
 have HP8:Hid (∀u,Kept V u→Q4 u B8 (.int .i64 z0) (.int .i64 z1) (.int .i64 z2) (.slice v M M)):=fun u k=>hP8.kept k
 have rV:Hid (∀u,Kept V u→R u v):=fun u k=>sR.out _ _ _ (sR.out _ _ _ rv (by rw[hV];exact(qlv w4).alloc _ _)) k
 rw[←hV,←hB8]
 clear hV hB8 k4 k12 hP8 rv
 obtain⟨p0,p1,p2,p3,p4,p5⟩:=HP0.out _ kV
 go_wp2_with fail
 refine(KY.out _ (hK.trans kV)).mono ?_
 rintro e w5 ⟨v',rfl,rv',k5⟩
 clear p0 p1 p2 p3 p4 p5
 go_upto_region 5 with fail
 obtain⟨U,hU⟩:∃U,U=w5.alloc (.cells #[.int .i64 z0,.int .i64 z1,.int .i64 z2,.slice v' M M] 28):=⟨_,rfl⟩
 obtain⟨B9,hB9⟩:∃B,B=w5.heap.size:=⟨_,rfl⟩
 have kU5:Kept w5 U:=by rw[hU];exact(qlv w5).alloc _ _
 have kU:Kept V U:=k5.trans kU5
 obtain⟨p0,p1,p2,p3⟩:Q4 U B9 (.int .i64 z0) (.int .i64 z1) (.int .i64 z2) (.slice v' M M):=by rw[hU,hB9];exact Q4.new w5 _ _ _ _ _
 have rU':R U v':=sR.out _ _ _ rv' kU5
 have rU:R U v:=rV.out _ kU
 obtain⟨q0,q1,q2,q3⟩:=HP8.out _ kU
 have HKU:=(show Hid (Kept w U)from hK.trans (kV.trans kU))
 have hq9:(q==q)=true:=by simp
 rw[←hU,←hB9]
 clear hU hB9 kU5 kU k5 rv' kV hK
 go_wp2_with fail
 refine(KS.out _ _ _ rU rU').mono ?_
 rintro e w6 ⟨rfl,k6⟩
 clear p0 p1 p2 p3 q0 q1 q2 q3
 go_wp2_with fail
 go_ret
 exact⟨rfl,HKU.out.trans k6⟩
theorem startMakes_true (W:World)(hT:Tab W)(ki1 ro1 co1 wi1 va1 vb1 seed stream:Int)(w1:(Lit.int .i64 va1).wf=true)(w2:(Lit.int .i64 vb1).wf=true):Calls Tryz.prog 3 #[xL ki1 ro1 co1 wi1 va1 vb1,.int .i64 seed,.int .i64 stream] W fun e w'=>e=.returned (.bool true)∧Kept W w':=by
 have w1:=qc7 _ w1
 have w2:=qc7 _ w2
 obtain⟨q,N,M,hM,hN,KM,KD⟩:=Kx ki1 ro1 co1 wi1 va1 vb1 seed stream w1 w2
 have KA:∀u,Kept W u→Calls Tryz.prog 9 #[] u fun e w'=>e=.returned (.bool true)∧Kept u w':=fun u k=>qg5 u (hT.kept k)
 have K1:=fun u=>qa8 ki1 ro1 co1 wi1 va1 vb1 u
 cases hq:(q==0)
 ·refine Qu ki1 ro1 co1 wi1 va1 vb1 seed stream _ q 0 0 0 0 (fun _ pp=>pp=none) W (fun _ _ _ h _=>h) KA K1 (fun u k=>(KM u (hT.kept k)).mono ?_) (fun u k=>(KD u).mono ?_) (fun u v v' h h'=>?_)
  ·rintro e w' ⟨k',⟨h0,-⟩|⟨-,he⟩⟩
   ·rw[h0]at hq;exact absurd hq (by decide)
   ·exact⟨none,he,rfl,k'⟩
  ·rintro e w' ⟨k',⟨h0,-⟩|⟨-,he⟩⟩
   ·rw[h0]at hq;exact absurd hq (by decide)
   ·exact⟨none,he,rfl,k'⟩
  ·rw[h,h']
   exact qek u
 ·have hq:q=0:=by simpa using hq
  refine Qu ki1 ro1 co1 wi1 va1 vb1 seed stream _ q ro1 co1 wi1 N (fun u pp=>∃g,pp=some ⟨g,0,none⟩∧Own u g N M) W (fun u u' v h k=>?_) KA K1 (fun u k=>(KM u (hT.kept k)).mono ?_) (fun u k=>(KD u).mono ?_) (fun u v v' h h'=>?_)
  ·obtain⟨g,rfl,ho⟩:=h
   exact⟨g,rfl,ho.kept k⟩
  ·rintro e w' ⟨k',⟨-,g,he,-,ho⟩|⟨h0,-⟩⟩
   ·exact⟨_,by rw[hq];exact he,⟨g,rfl,ho⟩,k'⟩
   ·rw[hq]at h0;exact absurd h0 (by decide)
  ·rintro e w' ⟨k',⟨-,g,he,-,ho⟩|⟨h0,-⟩⟩
   ·exact⟨_,by rw[hq];exact he,⟨g,rfl,ho⟩,k'⟩
   ·rw[hq]at h0;exact absurd h0 (by decide)
  ·obtain⟨g,rfl,ho⟩:=h
   obtain⟨g',rfl,ho'⟩:=h'
   exact qa9 ro1 co1 wi1 N (by omega) M hM g g' u ho ho'
end Go.Proofs.YtelbefihigkhjaaGreatDoor

namespace Go.Proofs.YtelbefihigkhjaaGreatDoor
open Go.ChangeShapes Go.WideShapes Go.ChangeAt Go.RowKit Go.Joins
set_option maxHeartbeats 16000000
set_option maxRecDepth 100000
set_option linter.unusedVariables false
set_option linter.unusedSimpArgs false
theorem Vy:Tryz.prog.cellsOf 23=6:=by kernel_rfl
section
variable {H:Type} {enc:TypeId×Value→H} {W:World}
theorem qge {cs:Array Value}(h:cs.size=6):∃c0 c1 c2 c3 c4 c5,cs=#[c0,c1,c2,c3,c4,c5]:=by
 obtain⟨l⟩:=cs
 match l,h with
 |[c0,c1,c2,c3,c4,c5],_=>exact⟨c0,c1,c2,c3,c4,c5,rfl⟩
theorem qac {b0:Nat}{v:Value}{d:DataW H}{p:List MemPlace}(hv:Value.okWide Tryz.prog W .any b0 23 v)(h:DataW.Trod enc Tryz.prog W 0 (fun _=>true) true 23 v d p):
  ∃(k r c n a b:Int),v=.agg #[.int .i64 k,.int .i64 r,.int .i64 c,.int .i64 n,.int .i64 a,.int .i64 b]∧(Lit.int .i64 a).wf=true∧(Lit.int .i64 b).wf=true:=by
 obtain⟨cs,rfl,hsz⟩:=okWide_struct Tryz.underlying23 hv
 obtain⟨c0,c1,c2,c3,c4,c5,rfl⟩:=qge (hsz.trans Vy)
 obtain⟨fuel,hf⟩:=h
 obtain⟨xs,n,-,-,-,hlen,hg⟩:=DataW.trod_struct Tryz.underlying23 hf
 match xs,hlen with
 |[y0,y1,y2,y3,y4,y5],_=>
  have h0:=hg 0 { name:="Kind",type:=3,offset:=0,embedded:=false,tag:="",pkgPath:="",byteOffset:=0 } rfl
  have h1:=hg 1 { name:="Rows",type:=3,offset:=1,embedded:=false,tag:="",pkgPath:="",byteOffset:=8 } rfl
  have h2:=hg 2 { name:="Cols",type:=3,offset:=2,embedded:=false,tag:="",pkgPath:="",byteOffset:=16 } rfl
  have h3:=hg 3 { name:="Width",type:=3,offset:=3,embedded:=false,tag:="",pkgPath:="",byteOffset:=24 } rfl
  have h4:=hg 4 { name:="A",type:=3,offset:=4,embedded:=false,tag:="",pkgPath:="",byteOffset:=32 } rfl
  have h5:=hg 5 { name:="B",type:=3,offset:=5,embedded:=false,tag:="",pkgPath:="",byteOffset:=40 } rfl
  simp only[Value.cells,Zh,List.drop_zero,List.drop_succ_cons,List.take_succ_cons,List.take_zero,List.getElem?_cons_zero,List.getElem?_cons_succ]at h0 h1 h2 h3 h4 h5
  obtain⟨x0,e0,-,w0⟩:=DataW.trod_int Tryz.underlying3 h0
  obtain⟨x1,e1,-,w1⟩:=DataW.trod_int Tryz.underlying3 h1
  obtain⟨x2,e2,-,w2⟩:=DataW.trod_int Tryz.underlying3 h2
  obtain⟨x3,e3,-,w3⟩:=DataW.trod_int Tryz.underlying3 h3
  obtain⟨x4,e4,-,w4⟩:=DataW.trod_int Tryz.underlying3 h4
  obtain⟨x5,e5,-,w5⟩:=DataW.trod_int Tryz.underlying3 h5
  simp only[Value.cells,Zh,List.drop_zero,List.drop_succ_cons,List.take_succ_cons,List.take_zero,List.cons.injEq,and_true]at e0 e1 e2 e3 e4 e5
  subst e0 e1 e2 e3 e4 e5
  exact⟨x0,x1,x2,x3,x4,x5,rfl,w4,w5⟩
end
end Go.Proofs.YtelbefihigkhjaaGreatDoor
