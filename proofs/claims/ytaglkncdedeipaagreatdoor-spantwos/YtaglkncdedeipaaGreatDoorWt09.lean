/-  -/
import Derived.Test.YtaglkncdedeipaaGreatDoorWt05
import Derived.Test.YtaglkncdedeipaaGreatDoorWt08
import Derived.Test.YtaglkncdedeipaaGreatDoorWt04
import Derived.Laws.EntriesVeiled
import Derived.OwnWalk
import Derived.Laws.OwnMore
import Derived.Test.YtaglkncdedeipaaGreatDoorWt06
import Derived.Deep.Cut
namespace Go.Proofs.YtaglkncdedeipaaGreatDoor
open Go.ChangeShapes Go.WideShapes Go.ChangeAt Go.RowKit
set_option linter.unusedVariables false
set_option linter.unusedSimpArgs false
set_option maxHeartbeats 16000000
set_option maxRecDepth 100000
theorem YG (n1 n2:Bool)(a1 a2:Option Addr)(l1 c1 l2 c2:Nat)(x1 x2:Int)(b1 b2:Nat)(hx1:-1048576≤x1∧x1≤1048576)(hx2:-1048576≤x2∧x2≤1048576)(hb1:b1≤60000)(hb2:b2≤60000)(hno:60000<(b1:Int)+b2-1∨x1+x2< -1048576∨1048576<x1+x2)(w:World)
  (K1:Hid (∀u,Kept w u→Calls Tryz.prog 140 #[.slice a1 l1 c1] u fun e w'=>e=.returned (.int .i64 (b1:Int))∧u=w')) (K2:Hid (∀u,Kept w u→Calls Tryz.prog 140 #[.slice a2 l2 c2] u fun e w'=>e=.returned (.int .i64 (b2:Int))∧u=w')):
  Calls Tryz.prog 110 #[.agg #[.bool n1,.slice a1 l1 c1,.int .i64 x1],.agg #[.bool n2,.slice a2 l2 c2,.int .i64 x2]] w fun e w'=>e=.panicked vI∧Kept w w':=by
 have hK:Kept w (((w.alloc (.cells #[.bool n1,.slice a1 l1 c1,.int .i64 x1] 31)).alloc (.cells #[.bool n2,.slice a2 l2 c2,.int .i64 x2] 31)).alloc jh):=(((qo0 w).alloc _ _).alloc _ _).alloc _ _
 have z1:IntKind.i64.wrap ((b1:Int)+(b2:Int))=(b1:Int)+(b2:Int):=by rw[qg];omega
 have z2:IntKind.i64.wrap ((b1:Int)+(b2:Int)-1)=(b1:Int)+(b2:Int)-1:=by rw[qg];omega
 have z3:IntKind.i64.wrap (x1+x2)=x1+x2:=by rw[qg];omega
 have hS:∀u,Kept (((w.alloc (.cells #[.bool n1,.slice a1 l1 c1,.int .i64 x1] 31)).alloc (.cells #[.bool n2,.slice a2 l2 c2,.int .i64 x2] 31)).alloc jh) u→(u.cell? ⟨w.heap.size,1,none⟩=some (.slice a1 l1 c1)∧u.cell? ⟨w.heap.size,2,none⟩=some (.int .i64 x1))∧u.cell? ⟨w.heap.size+1,1,none⟩=some (.slice a2 l2 c2)∧u.cell? ⟨w.heap.size+1,2,none⟩=some (.int .i64 x2):=fun u k=>⟨⟨(k.below.cell (p:=⟨w.heap.size,1,none⟩) (by simp<;>omega)).trans (by simp[go_sem]),(k.below.cell (p:=⟨w.heap.size,2,none⟩) (by simp<;>omega)).trans (by simp[go_sem])⟩,(k.below.cell (p:=⟨w.heap.size+1,1,none⟩) (by simp<;>omega)).trans (by simp[go_sem]),(k.below.cell (p:=⟨w.heap.size+1,2,none⟩) (by simp<;>omega)).trans (by simp[go_sem])⟩
 have HS:=hS _ (qo0 _).drew
 have HSS:Hid (∀u,Kept (((w.alloc (.cells #[.bool n1,.slice a1 l1 c1,.int .i64 x1] 31)).alloc (.cells #[.bool n2,.slice a2 l2 c2,.int .i64 x2] 31)).alloc jh) u→(u.cell? ⟨w.heap.size,1,none⟩=some (.slice a1 l1 c1)∧u.cell? ⟨w.heap.size,2,none⟩=some (.int .i64 x1))∧u.cell? ⟨w.heap.size+1,1,none⟩=some (.slice a2 l2 c2)∧u.cell? ⟨w.heap.size+1,2,none⟩=some (.int .i64 x2)):=hS
 clear hS
 go_enter Tryz.func110,Tryz.ntmps110
 go_wp2_with fail
 refine qo1 (S:=fun u=>(u.cell? ⟨w.heap.size,1,none⟩=some (.slice a1 l1 c1)∧u.cell? ⟨w.heap.size,2,none⟩=some (.int .i64 x1))∧u.cell? ⟨w.heap.size+1,1,none⟩=some (.slice a2 l2 c2)∧u.cell? ⟨w.heap.size+1,2,none⟩=some (.int .i64 x2)) (by kernel_rfl) HS (fun hHeld=>?_)
 refine tk (i:=0) (v:=?_) rfl ?_
 simp only[zz]
 refine tk (i:=1) (v:=?_) rfl ?_
 simp only[zz]
 refine tk (i:=3) (v:=?_) rfl ?_
 simp only[zz]
 refine tk (i:=4) (v:=?_) rfl ?_
 simp only[zz]
 refine tk (i:=8) (v:=?_) rfl ?_
 simp only[zz]
 refine tk (i:=9) (v:=?_) rfl ?_
 simp only[zz]
 refine tk (i:=10) (v:=?_) rfl ?_
 simp only[zz]
 refine tk (i:=11) (v:=?_) rfl ?_
 simp only[zz]
 refine tk (i:=12) (v:=?_) rfl ?_
 simp only[zz]
 refine qoy (rs:=[2]) (by kernel_rfl) (by simp) ?_
 refine qow rfl (fun K hK9=>?_) qox
 go_simp
 go_wp2_with fail
 refine(K1.out _ hK.drew).mono ?_
 rintro e u1 ⟨rfl,rfl⟩
 refine hK9.out _ _ HS (fun hHeld2=>?_)
 clear hK9 K
 refine qoy (rs:=[5]) (by kernel_rfl) (by simp) ?_
 refine qow rfl (fun K hK9=>?_) qox
 go_simp
 go_wp2_with fail
 refine(K2.out _ hK.drew).mono ?_
 rintro e u1 ⟨rfl,rfl⟩
 refine hK9.out _ _ HS (fun hHeld3=>?_)
 clear hK9 K
 refine tk (i:=6) (v:=?_) rfl ?_
 simp only[zz]
 refine tk (i:=7) (v:=?_) rfl ?_
 simp only[zz]
 refine qoy (rs:=[13]) (by kernel_rfl) (by simp) ?_
 refine qow rfl (fun K hK9=>?_) qox
 go_simp
 go_wp2_with fail
 refine(qgp _ _ hno _).mono ?_
 rintro e u1 ⟨rfl,rfl⟩
 exact⟨rfl,rfl,hK.drew⟩
theorem VU (n1 n2:Bool)(a1 a2:Option Addr)(l1 c1 l2 c2:Nat)(x1 x2:Int)(b1 b2 n:Nat)(hn:l1+l2=n)(hx1:-1048576≤x1∧x1≤1048576)(hx2:-1048576≤x2∧x2≤1048576)(hb1:b1≤60000)(hb2:b2≤60000)(hy1:(b1:Int)+b2-1≤60000)(hy2:-1048576≤x1+x2)(hy3:x1+x2≤1048576)(w:World)
  (hl1:l1≤2000) (hl2:l2≤2000) (L1 L2:List Int) (HL1:Hid (L1.length=l1)) (HL2:Hid (L2.length=l2)) (D1:Dg L1) (D2:Dg L2)
  (K1:Hid (∀u,Kept w u→Calls Tryz.prog 140 #[.slice a1 l1 c1] u fun e w'=>e=.returned (.int .i64 (b1:Int))∧u=w')) (K2:Hid (∀u,Kept w u→Calls Tryz.prog 140 #[.slice a2 l2 c2] u fun e w'=>e=.returned (.int .i64 (b2:Int))∧u=w'))
  (HA:Hid (∀u,Kept w u→∀i,i<l1→∃b off,a1=some ⟨b,off,none⟩∧u.cell? ⟨b,off+i,none⟩=some (.int .i64 (L1.getD i 0))))
  (HB:Hid (∀u,Kept w u→∀i,i<l2→∃b off,a2=some ⟨b,off,none⟩∧u.cell? ⟨b,off+i,none⟩=some (.int .i64 (L2.getD i 0))))
  (Res:Option Nm) (KF:Hid (∀u0 u g D,Kept w u0→Kept u0 u→u0.heap.size≤g→Own u g n D→Dg D→D.length=n→nv D=nv L1*nv L2→Calls Tryz.prog 141 #[.bool (!(n1==n2)),.slice (some ⟨g,0,none⟩) n n,.int .i64 (x1+x2)] u fun e w'=>ZN Res u0 w' e∧Kept u0 w')):
  Calls Tryz.prog 110 #[.agg #[.bool n1,.slice a1 l1 c1,.int .i64 x1],.agg #[.bool n2,.slice a2 l2 c2,.int .i64 x2]] w fun e w'=>ZN Res w w' e∧Kept w w':=by
 have hK:Kept w (((w.alloc (.cells #[.bool n1,.slice a1 l1 c1,.int .i64 x1] 31)).alloc (.cells #[.bool n2,.slice a2 l2 c2,.int .i64 x2] 31)).alloc jh):=(((qo0 w).alloc _ _).alloc _ _).alloc _ _
 have z1:IntKind.i64.wrap ((b1:Int)+(b2:Int))=(b1:Int)+(b2:Int):=by rw[qg];omega
 have z2:IntKind.i64.wrap ((b1:Int)+(b2:Int)-1)=(b1:Int)+(b2:Int)-1:=by rw[qg];omega
 have z3:IntKind.i64.wrap (x1+x2)=x1+x2:=by rw[qg];omega
 have z4:IntKind.i64.wrap ((l1:Int)+(l2:Int))=(n:Int):=by rw[qg];omega
 have HS:Hid (∀u,Kept (((w.alloc (.cells #[.bool n1,.slice a1 l1 c1,.int .i64 x1] 31)).alloc (.cells #[.bool n2,.slice a2 l2 c2,.int .i64 x2] 31)).alloc jh) u→((u.cell? ⟨w.heap.size,0,none⟩=some (.bool n1)∧u.cell? ⟨w.heap.size,1,none⟩=some (.slice a1 l1 c1))∧u.cell? ⟨w.heap.size,2,none⟩=some (.int .i64 x1))∧(u.cell? ⟨w.heap.size+1,0,none⟩=some (.bool n2)∧u.cell? ⟨w.heap.size+1,1,none⟩=some (.slice a2 l2 c2))∧u.cell? ⟨w.heap.size+1,2,none⟩=some (.int .i64 x2)):=fun u k=>⟨⟨⟨(k.below.cell (p:=⟨w.heap.size,0,none⟩) (by simp<;>omega)).trans (by simp[go_sem]),(k.below.cell (p:=⟨w.heap.size,1,none⟩) (by simp<;>omega)).trans (by simp[go_sem])⟩,(k.below.cell (p:=⟨w.heap.size,2,none⟩) (by simp<;>omega)).trans (by simp[go_sem])⟩,⟨(k.below.cell (p:=⟨w.heap.size+1,0,none⟩) (by simp<;>omega)).trans (by simp[go_sem]),(k.below.cell (p:=⟨w.heap.size+1,1,none⟩) (by simp<;>omega)).trans (by simp[go_sem])⟩,(k.below.cell (p:=⟨w.heap.size+1,2,none⟩) (by simp<;>omega)).trans (by simp[go_sem])⟩
 have HW:=vt n (by omega)
 have HZ:(n:Int)<5000:=by omega
 obtain⟨W,hW⟩:∃W,W=(((w.alloc (.cells #[.bool n1,.slice a1 l1 c1,.int .i64 x1] 31)).alloc (.cells #[.bool n2,.slice a2 l2 c2,.int .i64 x2] 31)).alloc jh):=⟨_,rfl⟩
 have hWs:W.heap.size=w.heap.size+3:=by rw[hW];simp
 have HC:Hid (W.cell? ⟨w.heap.size+1+1,0,none⟩=some (.bool false)∧W.cell? ⟨w.heap.size+1+1,1,none⟩=some (.slice none 0 0)∧W.cell? ⟨w.heap.size+1+1,2,none⟩=some (.int .i64 0)∧∀o,W.frozen? ⟨w.heap.size+1+1,o,none⟩=false):=by rw[hW];exact⟨by simp[go_sem],by simp[go_sem],by simp[go_sem],fun o=>by simp[go_sem]⟩
 rw[←hW]at hK HS
 go_enter Tryz.func110,Tryz.ntmps110
 go_wp2_with fail
 rw[←hW]
 clear hW
 have e0:=HS.out _ (qo0 _).drew
 refine qo1 (S:=fun u=>((u.cell? ⟨w.heap.size,0,none⟩=some (.bool n1)∧u.cell? ⟨w.heap.size,1,none⟩=some (.slice a1 l1 c1))∧u.cell? ⟨w.heap.size,2,none⟩=some (.int .i64 x1))∧(u.cell? ⟨w.heap.size+1,0,none⟩=some (.bool n2)∧u.cell? ⟨w.heap.size+1,1,none⟩=some (.slice a2 l2 c2))∧u.cell? ⟨w.heap.size+1,2,none⟩=some (.int .i64 x2)) (by kernel_rfl) e0 (fun hHeld=>?_)
 refine tk (i:=0) (v:=?_) rfl ?_
 simp only[zz]
 refine tk (i:=1) (v:=?_) rfl ?_
 simp only[zz]
 refine tk (i:=3) (v:=?_) rfl ?_
 simp only[zz]
 refine tk (i:=4) (v:=?_) rfl ?_
 simp only[zz]
 refine tk (i:=8) (v:=?_) rfl ?_
 simp only[zz]
 refine tk (i:=9) (v:=?_) rfl ?_
 simp only[zz]
 refine tk (i:=10) (v:=?_) rfl ?_
 simp only[zz]
 refine tk (i:=11) (v:=?_) rfl ?_
 simp only[zz]
 refine tk (i:=12) (v:=?_) rfl ?_
 simp only[zz]
 refine qoy (rs:=[2]) (by kernel_rfl) (by simp) ?_
 refine qow rfl (fun K hK9=>?_) qox
 go_simp
 go_wp2_with fail
 refine(K1.out _ hK.drew).mono ?_
 rintro e u1 ⟨rfl,rfl⟩
 refine hK9.out _ _ e0 (fun hHeld2=>?_)
 clear hK9 K
 refine qoy (rs:=[5]) (by kernel_rfl) (by simp) ?_
 refine qow rfl (fun K hK9=>?_) qox
 go_simp
 go_wp2_with fail
 refine(K2.out _ hK.drew).mono ?_
 rintro e u1 ⟨rfl,rfl⟩
 refine hK9.out _ _ e0 (fun hHeld3=>?_)
 clear hK9 K
 refine tk (i:=6) (v:=?_) rfl ?_
 simp only[zz]
 refine tk (i:=7) (v:=?_) rfl ?_
 simp only[zz]
 refine qoy (rs:=[13]) (by kernel_rfl) (by simp) ?_
 refine qow rfl (fun K hK9=>?_) qox
 go_simp
 go_wp2_with fail
 refine(qco _ _ hy1 hy2 hy3 _).mono ?_
 rintro e u1 ⟨rfl,rfl⟩
 refine hK9.out _ _ e0 (fun hHeld4=>?_)
 clear hK9 K
 refine qo2 (by kernel_rfl) ?_ _
 clear hHeld hHeld2 hHeld3 hHeld4
 have k1:Kept W (W.alloc (.cells (madeCells #[.int .i64 0] n) 3)).drew:=((qo0 W).alloc _ _).drew
 have e1:=HS.out _ k1
 have o1:=(vu n (by omega) W).kept (qo0 _).drew
 rw[hWs]at o1
 obtain⟨W1,hW1⟩:∃W1,W1=(W.alloc (.cells (madeCells #[.int .i64 0] n) 3)).drew:=⟨_,rfl⟩
 rw[←hW1]at k1 e1 o1
 have HR:Hid (∀u,Grw (w.heap.size+3) W1 u→Kept W u):=fun u hu=>k1.grw (by omega) hu
 have HP0:Hid (PRow L1 L2 n 0 0 (List.replicate n 0) 0):=.start (by simp) (fun d hd=>by rw[List.eq_of_mem_replicate hd];decide) (by rw[vH];simp[cv]) (fun k _=>zI n k)
 have HO1:Hid (Own W1 (w.heap.size+3) n (List.replicate n 0)):=o1
 clear o1
 rw[hW1]at e1
 go_wp2_with fail
 rw[←hW1]
 clear hW1 e1 e0 k1
 go_loopw [34] (fun iv wr=>∃(i:Nat) (D:List Int),i≤l1∧iv=.int .i64 i∧Own wr (w.heap.size+3) n D∧Grw (w.heap.size+3) W1 wr∧PRow L1 L2 n i 0 D 0) (fun iv _=>l1-(intOf iv).toNat)
 case atStart=>exact⟨0,_,Nat.zero_le _,rfl,HO1.out,Grw.refl _ _,HP0.out⟩
 case round=>
  obtain⟨i,D,hi,rfl,hO,hG,hP⟩:=hrel
  have kr:=HR.out _ hG
  have er:=HS.out _ kr
  have HO:Hid (Own wr (w.heap.size+3) n D):=hO
  have HG:Hid (Grw (w.heap.size+3) W1 wr):=hG
  have HP:Hid (PRow L1 L2 n i 0 D 0):=hP
  clear hO hG hP HO1 HP0
  by_cases hil:i<l1
  ·obtain⟨p1,o1,rfl,-⟩:=HA.out _ (hK.trans kr) i hil
   go_wp2_with fail
   go_loopw [40,7] (fun jv ov wr=>∃(j:Nat) (o:Int) (D:List Int),j≤l2∧jv=.int .i64 j∧ov=.int .i64 o∧Own wr (w.heap.size+3) n D∧Grw (w.heap.size+3) W1 wr∧PRow L1 L2 n i j D o) (fun jv _ _=>l2-(intOf jv).toNat)
   case atStart=>exact⟨0,0,D,Nat.zero_le _,rfl,rfl,HO.out,HG.out,HP.out⟩
   case round=>
    clear HO HG HP kr er D
    obtain⟨j,o,D,hj,rfl,rfl,hO,hG,hP⟩:=hrel
    have kr:=HR.out _ hG
    have er:=HS.out _ kr
    by_cases hjl:j<l2
    ·obtain⟨p2,o2,rfl,cb⟩:=HB.out _ (hK.trans kr) j hjl
     obtain⟨p1',o1',he,ca⟩:=HA.out _ (hK.trans kr) i hil
     cases he
     have hl:D.length=n:=hP.len
     have cd:=hO.cell (i+j) (by rw[hl];omega)
     have hf:=hO.free (i+j)
     have hdd:=hP.dg.getD (i+j)
     have ha:=D1.getD i
     have hb:=D2.getD j
     have hm:=QM _ _ ha.1 ha.2 hb.1 hb.2
     have q0:=hP.o0
     have q1:=hP.o1
     obtain⟨T,hT⟩:∃T,o+D.getD (i+j) 0+L1.getD i 0*L2.getD j 0=T:=⟨_,rfl⟩
     have hst:=hP.step D1 D2 (by rw[HL2.out];exact hjl) (by omega) T hT
     have HST:Hid (PRow L1 L2 n i (j+1) (D.set (i+j) (T%1073741824)) (T/1073741824)):=hst
     have HO:Hid (Own wr (w.heap.size+3) n D):=hO
     have HG:Hid (Grw (w.heap.size+3) W1 wr):=hG
     have hmask:=xW T
     have y1:IntKind.i64.wrap (L1.getD i 0*L2.getD j 0)=L1.getD i 0*L2.getD j 0:=by rw[qg];omega
     have y2:IntKind.i64.wrap (D.getD (i+j) 0+L1.getD i 0*L2.getD j 0)=D.getD (i+j) 0+L1.getD i 0*L2.getD j 0:=by rw[qg];omega
     have y3:IntKind.i64.wrap (o+(D.getD (i+j) 0+L1.getD i 0*L2.getD j 0))=T:=by rw[qg];omega
     have y4:IntKind.i64.wrap ((i:Int)+(j:Int))=(i:Int)+(j:Int):=by rw[qg];omega
     have HT2:Hid (wrap64 (o+wrap64 (D.getD (i+j) 0+wrap64 (L1.getD i 0*L2.getD j 0)))=T):=by
      show wrap64 (o+wrap64 (D.getD (i+j) 0+wrap64 (L1.getD i 0*L2.getD j 0)))=T
      unfold wrap64
      omega
     clear hP hst hO hG hT hl y1 y2 y3 hmask hm
     generalize hda:L1.getD i 0=da at *
     generalize hdb:L2.getD j 0=db at *
     generalize hdc:D.getD (i+j) 0=dc at *
     have hG0:=HG.out
     have eS:((((wr.drew.cell? ⟨w.heap.size,0,none⟩=some (.bool n1)∧wr.drew.cell? ⟨w.heap.size,1,none⟩=some (.slice (some ⟨p1,o1,none⟩) l1 c1))∧wr.drew.cell? ⟨w.heap.size,2,none⟩=some (.int .i64 x1))∧(wr.drew.cell? ⟨w.heap.size+1,0,none⟩=some (.bool n2)∧wr.drew.cell? ⟨w.heap.size+1,1,none⟩=some (.slice (some ⟨p2,o2,none⟩) l2 c2))∧wr.drew.cell? ⟨w.heap.size+1,2,none⟩=some (.int .i64 x2))∧wr.drew.cell? ⟨w.heap.size+3,i+j,none⟩=some (.int .i64 dc)∧wr.drew.cell? ⟨p1,o1+i,none⟩=some (.int .i64 da)∧wr.drew.cell? ⟨p2,o2+j,none⟩=some (.int .i64 db)):=by
      have q:=HS.out _ kr.drew
      exact⟨q,cd,ca,cb⟩
     have hidx:0≤(i:Int)+(j:Int)∧(i:Int)+(j:Int)<(n:Int):=by omega
     have hnat:((i:Int)+(j:Int)).toNat=i+j:=by omega
     go_wp2_with fail
     refine qo1 (S:=fun u=>(((u.cell? ⟨w.heap.size,0,none⟩=some (.bool n1)∧u.cell? ⟨w.heap.size,1,none⟩=some (.slice (some ⟨p1,o1,none⟩) l1 c1))∧u.cell? ⟨w.heap.size,2,none⟩=some (.int .i64 x1))∧(u.cell? ⟨w.heap.size+1,0,none⟩=some (.bool n2)∧u.cell? ⟨w.heap.size+1,1,none⟩=some (.slice (some ⟨p2,o2,none⟩) l2 c2))∧u.cell? ⟨w.heap.size+1,2,none⟩=some (.int .i64 x2))∧u.cell? ⟨w.heap.size+3,i+j,none⟩=some (.int .i64 dc)∧u.cell? ⟨p1,o1+i,none⟩=some (.int .i64 da)∧u.cell? ⟨p2,o2+j,none⟩=some (.int .i64 db)) (by kernel_rfl) eS (fun hHeld=>?_)
     refine tk (i:=0) (v:=?_) rfl ?_
     simp only[zz]
     refine tk (i:=1) (v:=?_) rfl ?_
     simp only[zz]
     refine tk (i:=2) (v:=?_) rfl ?_
     simp only[zz]
     refine tk (i:=3) (v:=?_) rfl ?_
     simp only[zz]
     refine tk (i:=4) (v:=?_) rfl ?_
     simp only[zz]
     refine tk (i:=5) (v:=?_) rfl ?_
     simp only[zz]
     refine tk (i:=6) (v:=?_) rfl ?_
     simp only[zz]
     refine tk (i:=7) (v:=?_) rfl ?_
     simp only[zz]
     refine tk (i:=8) (v:=?_) rfl ?_
     simp only[zz]
     refine tk (i:=9) (v:=?_) rfl ?_
     simp only[zz]
     refine tk (i:=10) (v:=?_) rfl ?_
     simp only[zz]
     refine tk (i:=11) (v:=?_) rfl ?_
     simp only[zz]
     refine tk (i:=12) (v:=?_) rfl ?_
     simp only[zz]
     refine tk (i:=13) (v:=?_) rfl ?_
     simp only[zz]
     refine tk (i:=14) (v:=?_) rfl ?_
     simp only[zz]
     refine tk (i:=15) (v:=?_) rfl ?_
     simp only[zz]
     refine tk (i:=16) (v:=?_) rfl ?_
     simp only[zz]
     refine tk (i:=17) (v:=?_) rfl ?_
     simp only[zz]
     refine tk (i:=18) (v:=?_) rfl ?_
     simp only[zz]
     refine tk (i:=19) (v:=?_) rfl ?_
     simp only[zz]
     refine tk (i:=20) (v:=?_) rfl ?_
     simp only[zz]
     refine qo2 (by kernel_rfl) ?_ _
     clear hHeld eS
     have hf2:wr.drew.frozen? ⟨w.heap.size+3,i+j,none⟩=false:=hf
     have cd2:wr.drew.cell? ⟨w.heap.size+3,i+j,none⟩=some (.int .i64 dc):=cd
     go_wp2
     go_roundw
     case rel=>exact⟨j+1,_,_,by omega,by go_num,rfl,(HO.out.kept (qo0 _).drew).set _ _,(HG.out.trans (Kept.toGrw _ (qo0 _).drew)).setCell _ _,by rw[HT2.out,xW];exact HST.out⟩
     case measure=>simp[intOf];omega
    ·obtain rfl:j=l2:=by omega
     have hl:D.length=n:=hP.len
     have cd:=hO.cell (i+j) (by rw[hl];omega)
     have hf:=hO.free (i+j)
     have hL2:=HL2.out
     subst hL2
     have hfin:=hP.finish (by rw[HL1.out];exact hil) (by omega)
     have HF:Hid (PRow L1 L2 n (i+1) 0 (D.set (i+L2.length) o) 0):=hfin
     have HO:Hid (Own wr (w.heap.size+3) n D):=hO
     have HG:Hid (Grw (w.heap.size+3) W1 wr):=hG
     have y4:IntKind.i64.wrap ((i:Int)+(L2.length:Int))=((i+L2.length:Nat):Int):=by rw[qg];omega
     clear hP hfin hO hG hl
     generalize D.getD (i+L2.length) 0=dc at *
     go_wp2
     go_roundw
     case rel=>exact⟨i+1,_,by omega,by go_num,HO.out.set _ _,HG.out.setCell _ _,HF.out⟩
     case measure=>simp[intOf];omega
  ·obtain rfl:i=l1:=by omega
   have hL1:=HL1.out
   subst hL1
   have hl:D.length=n:=HP.out.len
   obtain⟨hDg,hnv⟩:=HP.out.last rfl D1 D2
   go_wp2_with fail
   refine(KF.out W wr (w.heap.size+3) D hK kr (by omega) HO.out hDg hl hnv).mono ?_
   rintro e w1 ⟨hr,hk1⟩
   have hc:=HC.out
   obtain⟨f0,f1,f2,f3⟩:=zH (w.heap.size+1+1) (by omega) hk1 hc.1 hc.2.1 hc.2.2.1 hc.2.2.2
   clear KF HS HA HB K1 K2 HW
   cases Res with
   |none=>
    obtain rfl:e=.panicked vI:=hr
    exact⟨rfl,rfl,hK.trans hk1⟩
   |some r=>
    obtain⟨v,rfl,hN⟩:=hr
    obtain⟨vn,va,vl,vc,vx,rfl⟩:=hN.shape
    go_wp2
    have:=kT (w.heap.size+1+1) (by omega) (by omega) hK hN hk1 (.bool vn) (.slice va vl vc) (.int .i64 vx)
    exact qoz (v:=.agg #[.bool vn,.slice va vl vc,.int .i64 vx]) (by simp[results,Tryz.results110,go_sem,f0,f1,f2]) rfl ⟨⟨_,rfl,this.1⟩,this.2⟩
def ng (a:Nm):Nm:=⟨!a.neg,a.mag,a.exp⟩
theorem VV (n:Bool)(L:List Int)(x:Int)(h:vld ⟨n,L,x⟩=true):L≠[]→vld ⟨!n,L,x⟩=true:=by
 intro hne
 unfold vld at h ⊢
 dsimp only at h ⊢
 rw[if_neg hne]at h ⊢
 exact h
def sgz (n:Bool)(L:List Int):Int:=if L.length=0 then 0 else if n=true then -1 else 1
theorem qk4 (n:Bool):sgz n []=0:=rfl
theorem Kq (n:Bool)(L:List Int)(h:L≠[]):sgz n L=if n=true then -1 else 1:=by rw[sgz,if_neg (fun g=>h (List.length_eq_zero_iff.1 g))]
theorem qm5 (s:Int)(n:Bool)(L:List Int)(x:Int):vz s ⟨n,L,x⟩=sg n ((nv L*2^(x-s).toNat:Nat):Int):=by
 unfold vz
 rw[Int.natCast_mul,Int.natCast_pow]
 rfl
theorem Jp (s:Int)(n:Bool)(L:List Int)(x:Int)(hne:L≠[])(hv:vld ⟨n,L,x⟩=true):0<nv L*2^(x-s).toNat:=Nat.mul_pos (jB n L x hne hv) (qoj _)
theorem Kr {w u:World}{a:Option Addr}{L:List Int}{c:Nat}(h:Sl w (.slice a L.length c) L)(k:Kept w u)(i:Nat)(hi:i<L.length):∃b off,a=some ⟨b,off,none⟩∧u.cell? ⟨b,off+i,none⟩=some (.int .i64 (L.getD i 0)):=by
 obtain⟨ao,cap,e,hc,hm,hr⟩:=h.kept k
 cases e
 have hne:L≠[]:=by
  intro e
  subst e
  simp at hi
 obtain⟨b,off,rfl,hb,hr⟩:=hr hne
 exact⟨b,off,rfl,hr i hi⟩
theorem Kt (w:World)(hT:Tab w)(n1:Bool)(L1:List Int)(x1:Int)(hv1:vld ⟨n1,L1,x1⟩=true)(a1:Option Addr)(c1:Nat)(n2:Bool)(L2:List Int)(x2:Int)(hv2:vld ⟨n2,L2,x2⟩=true)(a2:Option Addr)(c2:Nat)(h1:Sl w (.slice a1 L1.length c1) L1)(h2:Sl w (.slice a2 L2.length c2) L2)(Res:Option Nm)(hRes:Jn ⟨n1,L1,x1⟩ ⟨n2,L2,x2⟩=Res):Calls Tryz.prog 110 #[.agg #[.bool n1,.slice a1 L1.length c1,.int .i64 x1],.agg #[.bool n2,.slice a2 L2.length c2,.int .i64 x2]] w fun e w'=>ZN Res w w' e∧Kept w w':=by
 have hb:∀(n:Bool) (L:List Int) (x:Int),vld ⟨n,L,x⟩=true→Dg L∧Cn L∧bl (nv L)≤60000∧L.length≤2000∧-1048576≤x∧x≤1048576:=by
  intro n L x h
  by_cases e:L=[]
  ·subst e
   obtain⟨-,rfl⟩:=jH _ _ h
   exact⟨Dg.nil,⟨Dg.nil,fun h=>absurd rfl h⟩,by simp[nv,bl],by simp,by omega,by omega⟩
  ·obtain⟨p1,p2,p3,p4,p5,p6⟩:=qT n L x e h
   have:=VR L p2 e p3
   exact⟨p2,⟨p2,fun _=>p3⟩,by omega,p1,p5,p6⟩
 obtain⟨d1,k1,b1,l1,p1,q1⟩:=hb n1 L1 x1 hv1
 obtain⟨d2,k2,b2,l2,p2,q2⟩:=hb n2 L2 x2 hv2
 unfold Jn at hRes
 dsimp only at hRes
 by_cases hfit:(bl (nv L1):Int)+(bl (nv L2):Int)-1≤60000∧-1048576≤x1+x2∧x1+x2≤1048576
 ·rw[if_pos hfit]at hRes
  refine VU n1 n2 a1 a2 L1.length c1 L2.length c2 x1 x2 (bl (nv L1)) (bl (nv L2)) _ rfl ⟨p1,q1⟩ ⟨p2,q2⟩ b1 b2 hfit.1 hfit.2.1 hfit.2.2 w l1 l2 L1 L2 rfl rfl d1 d2 (fun u k=>zR L1 k1 (by omega) _ u (h1.kept k)) (fun u k=>zR L2 k2 (by omega) _ u (h2.kept k)) (fun u k i hi=>Kr h1 k i hi) (fun u k i hi=>Kr h2 k i hi) Res ?_
  intro u0 u g D k0 k hg ho hD hl hnv
  have hf:frm (!(n1==n2)) (nv D) (x1+x2)=Res:=by rw[hnv];exact hRes
  rw[←hl]at ho ⊢
  cases Res with
  |some r=>
   refine(qcq _ D hD (by omega) g D.length _ u0 u k hg ho ((hT.kept k0).kept k) r hf).mono ?_
   rintro e w' ⟨⟨v,rfl,hN⟩,kk⟩
   exact⟨⟨v,rfl,hN⟩,kk⟩
  |none=>
   refine(qcp _ D hD (by omega) g D.length _ u ho ((hT.kept k0).kept k) hf).mono ?_
   rintro e w' ⟨rfl,kk⟩
   exact⟨rfl,k.trans kk⟩
 ·rw[if_neg hfit]at hRes
  subst hRes
  refine(YG n1 n2 a1 a2 L1.length c1 L2.length c2 x1 x2 _ _ ⟨p1,q1⟩ ⟨p2,q2⟩ b1 b2 (by omega) w (fun u k=>zR L1 k1 (by omega) _ u (h1.kept k)) (fun u k=>zR L2 k2 (by omega) _ u (h2.kept k))).mono ?_
  rintro e w' ⟨rfl,kk⟩
  exact⟨rfl,kk⟩
theorem qb2 (w:World)(hT:Tab w)(n1:Bool)(L1:List Int)(x1:Int)(hv1:vld ⟨n1,L1,x1⟩=true)(a1:Option Addr)(c1:Nat)(n2:Bool)(L2:List Int)(x2:Int)(hv2:vld ⟨n2,L2,x2⟩=true)(a2:Option Addr)(c2:Nat)(h1:Sl w (.slice a1 L1.length c1) L1)(h2:Sl w (.slice a2 L2.length c2) L2)(r:Nm)(hf:Jn ⟨n1,L1,x1⟩ ⟨n2,L2,x2⟩=some r)(p q:Nat)(hp:p<w.heap.size)(hq:q<w.heap.size)(cp0:w.cell? ⟨p,0,none⟩=some (.bool n1))(cp1:w.cell? ⟨p,1,none⟩=some (.slice a1 L1.length c1))(cp2:w.cell? ⟨p,2,none⟩=some (.int .i64 x1))(cq0:w.cell? ⟨q,0,none⟩=some (.bool n2))(cq1:w.cell? ⟨q,1,none⟩=some (.slice a2 L2.length c2))(cq2:w.cell? ⟨q,2,none⟩=some (.int .i64 x2)):Calls Tryz.prog 109 #[.pointer (some ⟨p,0,none⟩),.pointer (some ⟨q,0,none⟩)] w fun e w'=>(∃v,e=.returned v∧New w w' v r)∧Kept w w':=by
 have hK:Kept w (qP w):=(qo0 w).alloc _ _
 have KS:Hid (Calls Tryz.prog 110 #[.agg #[.bool n1,.slice a1 L1.length c1,.int .i64 x1],.agg #[.bool n2,.slice a2 L2.length c2,.int .i64 x2]] (qP w) fun e w'=>ZN (some r) (qP w) w' e∧Kept (qP w) w'):=Kt (qP w) (hT.kept hK) n1 L1 x1 hv1 a1 c1 n2 L2 x2 hv2 a2 c2 (h1.kept hK) (h2.kept hK) (some r) hf
 have ep0:(qP w).cell? ⟨p,0,none⟩=some (.bool n1):=(hK.below.cell (p:=⟨p,0,none⟩) hp).trans cp0
 have ep1:(qP w).cell? ⟨p,1,none⟩=some (.slice a1 L1.length c1):=(hK.below.cell (p:=⟨p,1,none⟩) hp).trans cp1
 have ep2:(qP w).cell? ⟨p,2,none⟩=some (.int .i64 x1):=(hK.below.cell (p:=⟨p,2,none⟩) hp).trans cp2
 have eq0:(qP w).cell? ⟨q,0,none⟩=some (.bool n2):=(hK.below.cell (p:=⟨q,0,none⟩) hq).trans cq0
 have eq1:(qP w).cell? ⟨q,1,none⟩=some (.slice a2 L2.length c2):=(hK.below.cell (p:=⟨q,1,none⟩) hq).trans cq1
 have eq2:(qP w).cell? ⟨q,2,none⟩=some (.int .i64 x2):=(hK.below.cell (p:=⟨q,2,none⟩) hq).trans cq2
 clear h1 h2 hT hf hv1 hv2 cp0 cp1 cp2 cq0 cq1 cq2
 generalize L1.length=l1 at *
 generalize L2.length=l2 at *
 go_enter Tryz.func109,Tryz.ntmps109
 go_wp2_with (first|(go_at_call 110;refine KS.out.mono ?_;rintro e w1 ⟨⟨v,rfl,hN⟩,hk1⟩;obtain⟨vn,va,vl,vc,vx,rfl⟩:=hN.shape;obtain⟨f0,f1,f2,f3⟩:=j9 hk1))
 have:=ZV hN hk1 (.bool vn) (.slice va vl vc) (.int .i64 vx)
 exact qoz (v:=.agg #[.bool vn,.slice va vl vc,.int .i64 vx]) (by simp[results,Tryz.results109,go_sem,f0,f1,f2]) rfl ⟨⟨_,rfl,this.1⟩,this.2⟩
theorem qk5 (w:World)(hT:Tab w)(n1:Bool)(L1:List Int)(x1:Int)(hv1:vld ⟨n1,L1,x1⟩=true)(a1:Option Addr)(c1:Nat)(n2:Bool)(L2:List Int)(x2:Int)(hv2:vld ⟨n2,L2,x2⟩=true)(a2:Option Addr)(c2:Nat)(h1:Sl w (.slice a1 L1.length c1) L1)(h2:Sl w (.slice a2 L2.length c2) L2)(r:Nm)(hf:Jn ⟨n1,L1,x1⟩ ⟨n2,L2,x2⟩=some r):Calls Tryz.prog 82 #[.agg #[.bool n1,.slice a1 L1.length c1,.int .i64 x1],.agg #[.bool n2,.slice a2 L2.length c2,.int .i64 x2]] w fun e w'=>∃v,e=.returned (.tuple #[v,.int .i64 0])∧New w w' v r∧Kept w w':=by
 have hW:=qeg w #[.bool n1,.slice a1 L1.length c1,.int .i64 x1] #[.bool n2,.slice a2 L2.length c2,.int .i64 x2] (jT n1 (.slice a1 L1.length c1) x1 n2 (.slice a2 L2.length c2) x2)
 have hd1:=ya _ _ _ hv1
 have hd2:=ya _ _ _ hv2
 have KV:Hid (∀w',Kept (qa2 w #[.bool n1,.slice a1 L1.length c1,.int .i64 x1] #[.bool n2,.slice a2 L2.length c2,.int .i64 x2] (jT n1 (.slice a1 L1.length c1) x1 n2 (.slice a2 L2.length c2) x2)) w'→Calls Tryz.prog 137 #[.slice (some ⟨w.heap.size+3,0,none⟩) 2 2] w' fun e w''=>e=.returned (.bool true)∧Kept w' w''):=fun u k=>by
  have hb:w.heap.size+3<(qa2 w #[.bool n1,.slice a1 L1.length c1,.int .i64 x1] #[.bool n2,.slice a2 L2.length c2,.int .i64 x2] (jT n1 (.slice a1 L1.length c1) x1 n2 (.slice a2 L2.length c2) x2)).heap.size:=by simp
  have:=kA u (w.heap.size+3) 2 n1 n2 a1 a2 L1.length c1 L2.length c2 x1 x2 true true (qok hb k.below.size) ((k.below.cell (p:=⟨w.heap.size+3,0,none⟩) hb).trans (by simp[go_sem])) ((k.below.cell (p:=⟨w.heap.size+3,1,none⟩) hb).trans (by simp[go_sem])) ((k.below.cell (p:=⟨w.heap.size+3,2,none⟩) hb).trans (by simp[go_sem])) ((k.below.cell (p:=⟨w.heap.size+3,3,none⟩) hb).trans (by simp[go_sem])) ((k.below.cell (p:=⟨w.heap.size+3,4,none⟩) hb).trans (by simp[go_sem])) ((k.below.cell (p:=⟨w.heap.size+3,5,none⟩) hb).trans (by simp[go_sem])) (fun v kv=>?_) (fun v kv=>?_)
  ·exact this
  ·have:=jc ⟨n1,L1,x1⟩ hd1.2.rg (by dsimp only;omega) (.agg #[.bool n1,.slice a1 L1.length c1,.int .i64 x1]) v ⟨_,rfl,((h1.kept hW).kept k).kept kv⟩
   rw[hv1]at this
   exact this
  ·have:=jc ⟨n2,L2,x2⟩ hd2.2.rg (by dsimp only;omega) (.agg #[.bool n2,.slice a2 L2.length c2,.int .i64 x2]) v ⟨_,rfl,((h2.kept hW).kept k).kept kv⟩
   rw[hv2]at this
   exact this
 have KT:Hid (Calls Tryz.prog 108 #[.func (.func 109) #[] #[.pointer (some ⟨w.heap.size,0,none⟩),.pointer (some ⟨w.heap.size+1,0,none⟩)],.slice (some ⟨w.heap.size+3,0,none⟩) 2 2] (qa2 w #[.bool n1,.slice a1 L1.length c1,.int .i64 x1] #[.bool n2,.slice a2 L2.length c2,.int .i64 x2] (jT n1 (.slice a1 L1.length c1) x1 n2 (.slice a2 L2.length c2) x2)) fun e w'=>∃v,e=.returned (.tuple #[v,.int .i64 0])∧New (qa2 w #[.bool n1,.slice a1 L1.length c1,.int .i64 x1] #[.bool n2,.slice a2 L2.length c2,.int .i64 x2] (jT n1 (.slice a1 L1.length c1) x1 n2 (.slice a2 L2.length c2) x2)) w' v r∧Kept (qa2 w #[.bool n1,.slice a1 L1.length c1,.int .i64 x1] #[.bool n2,.slice a2 L2.length c2,.int .i64 x2] (jT n1 (.slice a1 L1.length c1) x1 n2 (.slice a2 L2.length c2) x2)) w'):=by
  refine qcr 109 _ (fun w=>kS Tryz.func109 (by kernel_rfl) (by kernel_rfl) _ w) _ r _ KV (fun u k=>?_)
  have hs:=k.below.size
  simp only[qa2,World.size_alloc]at hs
  exact qb2 u ((hT.kept hW).kept k) n1 L1 x1 hv1 a1 c1 n2 L2 x2 hv2 a2 c2 ((h1.kept hW).kept k) ((h2.kept hW).kept k) r hf _ _ (by omega) (by omega) ((k.below.cell (p:=⟨w.heap.size,0,none⟩) (by simp<;>omega)).trans (by simp[go_sem])) ((k.below.cell (p:=⟨w.heap.size,1,none⟩) (by simp<;>omega)).trans (by simp[go_sem])) ((k.below.cell (p:=⟨w.heap.size,2,none⟩) (by simp<;>omega)).trans (by simp[go_sem])) ((k.below.cell (p:=⟨w.heap.size+1,0,none⟩) (by simp<;>omega)).trans (by simp[go_sem])) ((k.below.cell (p:=⟨w.heap.size+1,1,none⟩) (by simp<;>omega)).trans (by simp[go_sem])) ((k.below.cell (p:=⟨w.heap.size+1,2,none⟩) (by simp<;>omega)).trans (by simp[go_sem]))
 have hmf:∀(fn:Fn) (first cap:Array Value) (w:World),(Instr.makeFunc fn first cap).run Tryz.prog w=.ok (.func fn first cap) w:=fun _ _ _ _=>rfl
 clear h1 h2 hT hf hv1 hv2 KV hd1 hd2
 generalize L1.length=l1 at *
 generalize L2.length=l2 at *
 go_enter Tryz.func82,Tryz.ntmps82
 go_wp2_with (first|(go_at_call 108;refine KT.out.mono ?_;rintro e w1 ⟨v,rfl,hN,hk1⟩;obtain⟨vn,va,vl,vc,vx,rfl⟩:=hN.shape;obtain⟨f0,f1,f2,f3⟩:=zH (w.heap.size+2) (by simp<;>omega) hk1 (by simp[go_sem]) (by simp[go_sem]) (by simp[go_sem]) (fun o=>by simp[go_sem])))
 have:=kT (w.heap.size+2) (by omega) (by simp<;>omega) hW hN hk1 (.bool vn) (.slice va vl vc) (.int .i64 vx)
 refine qoz (v:=.tuple #[.agg #[.bool vn,.slice va vl vc,.int .i64 vx],.int .i64 0]) (by simp[results,Tryz.results82,go_sem,f0,f1,f2]) rfl ⟨_,rfl,this.1,this.2⟩
theorem Z5 (L:List Int)(hL:Dg L)(v:Value)(n:Nat)(hn:n<100000)(p:Int)(hp:-10000000<p∧p<10000000)(w:World)(h:Sl w v L):Calls Tryz.prog 153 #[v,.int .i64 (n:Int),.int .i64 p] w fun e w'=>e=.returned (.slice (some ⟨w.heap.size,0,none⟩) n n)∧Own w' w.heap.size n ((List.range n).map fun i:Nat=>pcz (nv L) (p+30*(i:Int)))∧Kept w w':=by
 have HM:=vt n (by omega)
 have hO:=vu n (by omega) w
 have hK0:Kept w (w.alloc (.cells (madeCells #[.int .i64 0] n) 3)):=(qo0 w).alloc _ _
 have HL:Hid (Sl w v L):=h
 have HO:Hid (Own (w.alloc (.cells (madeCells #[.int .i64 0] n) 3)) w.heap.size n (List.replicate n 0)):=hO
 have HK:Hid (Kept w (w.alloc (.cells (madeCells #[.int .i64 0] n) 3))):=hK0
 clear h hO hK0
 go_enter Tryz.func153,Tryz.ntmps153
 go_wp2
 go_loopw [12] (fun i wr=>∃(k:Nat),k≤n∧i=.int .i64 k∧Own wr w.heap.size n ((List.range k).map (fun i:Nat=>pcz (nv L) (p+30*(i:Int)))++List.replicate (n-k) 0)∧Kept w wr) (fun i _=>n-(intOf i).toNat)
 case atStart=>exact⟨0,Nat.zero_le _,rfl,by simpa using HO.out,HK.out⟩
 case round=>
  obtain⟨k,hk,rfl,hO,hG⟩:=hrel
  by_cases hkn:k<n
  ·have KP:Hid (Calls Tryz.prog 149 #[v,.int .i64 (p+(k:Int)*30)] wr fun e w'=>e=.returned (.int .i64 (pcz (nv L) (p+(k:Int)*30)))∧Kept wr w'):=QA L hL v _ (by omega) (by omega) wr (HL.out.kept hG)
   have HO2:Hid (Own wr w.heap.size n ((List.range k).map (fun i:Nat=>pcz (nv L) (p+30*(i:Int)))++List.replicate (n-k) 0)):=hO
   have HG:Hid (Kept w wr):=hG
   have hlen:((List.range k).map (fun i:Nat=>pcz (nv L) (p+30*(i:Int)))++List.replicate (n-k) 0).length=n:=by simp;omega
   have HLn:Hid (((List.range k).map (fun i:Nat=>pcz (nv L) (p+30*(i:Int)))++List.replicate (n-k) 0).length=n):=hlen
   clear hO hG hlen
   generalize hq:pcz (nv L) (p+(k:Int)*30)=pv at KP
   have HQ:Hid (pcz (nv L) (p+(k:Int)*30)=pv):=hq
   clear hq
   go_wp2_with (first|(go_at_call 149;refine KP.out.mono ?_;rintro e w2 ⟨rfl,hk2⟩;have hO2:=HO2.out.kept hk2;have hcc:=hO2.cell k (by rw[HLn.out];exact hkn);have hff:=hO2.free k))
   go_roundw
   case rel=>
    have hO2:=(HO2.out.kept hk2).set k pv
    refine⟨k+1,by omega,by go_num,?_,(HG.out.trans hk2).setCell (by simp) _⟩
    obtain⟨m,hm⟩:∃m,n-k=m+1:=⟨n-k-1,by omega⟩
    rw[hm,List.replicate_succ,qcm _ _ _ _ _ (by simp)]at hO2
    rw[show n-(k+1)=m by omega,List.range_succ,List.map_append]
    have:=HQ.out
    rw[Int.mul_comm]at this
    simpa [this] using hO2
   case measure=>simp[intOf];omega
  ·obtain rfl:k=n:=by omega
   rw[Nat.sub_self,List.replicate_zero,List.append_nil]at hO
   go_wp2
   go_ret
   exact⟨rfl,hO,hG⟩
theorem YL (u:World)(b c o:Nat)(h:c≠b)(v0 v1 v2 v3:Value):((((u.setCell ⟨b,0,none⟩ v0).setCell ⟨b,1,none⟩ v1).setCell ⟨b,2,none⟩ v2).setCell ⟨b,3,none⟩ v3).cell? ⟨c,o,none⟩=u.cell? ⟨c,o,none⟩:=
 World.cell?_of_block (a:=⟨c,o,none⟩) ((Below.heap_setCell _ _ _ c h).trans ((Below.heap_setCell _ _ _ c h).trans ((Below.heap_setCell _ _ _ c h).trans (Below.heap_setCell _ _ _ c h))))
theorem bl1:bl 1=1:=by decide
abbrev qog:Value:=.agg #[.bool false,.int .i64 768614336404564650,.int .i64 (-61),.bool true]
end Go.Proofs.YtaglkncdedeipaaGreatDoor
namespace Go.Proofs.YtaglkncdedeipaaGreatDoor
open Go.RowKit
set_option linter.unusedVariables false
set_option linter.unusedSimpArgs false
set_option maxHeartbeats 16000000
set_option maxRecDepth 100000
end Go.Proofs.YtaglkncdedeipaaGreatDoor
namespace Go.Proofs.YtaglkncdedeipaaGreatDoor
open Go.ChangeShapes Go.WideShapes Go.ChangeAt Go.RowKit
set_option linter.unusedVariables false
set_option linter.unusedSimpArgs false
set_option maxHeartbeats 16000000
set_option maxRecDepth 100000
theorem New.some {w0 w:World}{v:Value}{neg:Bool}{d:Int}{x:Int}(h:New w0 w v ⟨neg,[d],x⟩):∃g cap,v=.agg #[.bool neg,.slice (some ⟨g,0,none⟩) 1 cap,.int .i64 x]∧w0.heap.size≤g∧Own w g cap [d]:=by
 rcases h with ⟨h,-⟩|⟨g,cap,e,hg,ho,-⟩
 ·cases h
 ·exact⟨g,cap,e,hg,ho⟩
theorem Lies.mono {s:Int}{B C:Nat}{a:Nm}(h:Lies s B a)(hBC:B≤C):Lies s C a:=⟨h.ok,h.low,qok h.lt (qom (by decide) hBC)⟩
theorem qnx (s:Int)(a:Nm):vz s (ng a)=-vz s a:=by
 unfold vz ng
 dsimp only
 cases a.neg<;>simp[sg]
theorem qdb (n:Bool)(v:Nat)(y:Int):frm n v y=cfm (sg n (v:Int)) y:=by
 by_cases h:v=0
 ·subst h
  rw[show sg n ((0:Nat):Int)=0 by cases n<;>rfl,xB]
  simp[frm]
 ·have hsg:=VS n (v:Int) (by omega)
  unfold cfm
  rw[hsg.1,hsg.2,Int.toNat_natCast]
theorem qid (s:Int)(r:Nm)(h:vld r=true):sgz r.neg r.mag=cz (vz s r) 0:=by
 obtain⟨n,L,x⟩:=r
 dsimp only
 by_cases e:L=[]
 ·subst e
  rw[zM,qk4]
  rfl
 ·have p:=Jp s n L x e h
  rw[qm5,Kq n L e]
  generalize nv L*2^(x-s).toNat=y at *
  cases n<;>simp[sg,cz]<;>omega
theorem qie (a b:Int):cz (a-b) 0=cz a b:=by
 unfold cz
 split<;>split<;>(try split)<;>(try split)<;>omega
end Go.Proofs.YtaglkncdedeipaaGreatDoor
