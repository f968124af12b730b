/-  -/
import Derived.Test.YtaglkncdedeipaaGreatDoorWt21
import Derived.Test.YtaglkncdedeipaaGreatDoorWt09
import Derived.Test.YtaglkncdedeipaaGreatDoorWt06
import Derived.Test.YtaglkncdedeipaaGreatDoorWt17
namespace Go.Proofs.YtaglkncdedeipaaGreatDoor
open Go.ChangeShapes Go.WideShapes Go.ChangeAt Go.RowKit
set_option linter.unusedVariables false
set_option linter.unusedSimpArgs false
set_option maxHeartbeats 16000000
set_option maxRecDepth 100000
theorem qet (n1 n2 nb:Bool)(hnb:(n1 != n2)=nb)(a b:Option Addr)(l1 c1 n c2:Nat)(hl1:0<l1)(hn:0<n)(hn2:n<50000)(x1 x2:Int)(hx1:-1048576≤x1)(hx2:x1≤1048576)(hx3:-1048576≤x2)(hx4:x2≤1048576)(T1 T2:Nat)(hT1:T1≤90000)(hT2:T2≤90000)(A U:Nat)(LL:List Int)(lw:Int)(hlw:lw=(T1:Int)-(((n:Int)+2)*30))(ex:Int)(hex:ex=x1-x2+(T1:Int)-(T2:Int)-60)(w:World)
  (HLL:Hid (LL.length=n+2∧∀i,i<n+2→LL.getD i 0=((dg A i:Nat):Int)))
  (HA:Hid (A<2^(30*(n+2)))) (HU:Hid (2^(30*(n-1))*536870912≤U∧U<2^(30*n)∧A/2^(30*2)<2*U))
  (Ka:Hid (∀u,Kept w u→Calls Tryz.prog 140 #[.slice a l1 c1] u fun e w'=>e=.returned (.int .i64 (T1:Int))∧u=w'))
  (Kb:Hid (∀u,Kept w u→Calls Tryz.prog 140 #[.slice b n c2] u fun e w'=>e=.returned (.int .i64 (T2:Int))∧u=w'))
  (Kd:Hid (∀u,Kept w u→Calls Tryz.prog 153 #[.slice b n c2,.int .i64 (n:Int),.int .i64 ((T2:Int)-(n:Int)*30)] u fun e w'=>e=.returned (.slice (some ⟨u.heap.size,0,none⟩) n n)∧DgAt w' u.heap.size 0 n U∧Kept u w'))
  (Kl:Hid (∀u,Kept w u→Calls Tryz.prog 153 #[.slice a l1 c1,.int .i64 ((n:Int)+2),.int .i64 lw] u fun e w'=>e=.returned (.slice (some ⟨u.heap.size,0,none⟩) (n+2) (n+2))∧Own w' u.heap.size (n+2) LL∧Kept u w')):
  Calls Tryz.prog 120 #[.agg #[.bool n1,.slice a l1 c1,.int .i64 x1],.agg #[.bool n2,.slice b n c2,.int .i64 x2]] w fun e w'=>e=.returned (.agg #[.bool nb,.int .i64 ((A/U:Nat):Int),.int .i64 ex,.bool (decide (0<lw)||decide (A%U≠0))])∧Kept w w':=by
 have hK:Kept w (((w.alloc (.cells #[.bool n1,.slice a l1 c1,.int .i64 x1] 31)).alloc (.cells #[.bool n2,.slice b n c2,.int .i64 x2] 31)).alloc (.cells #[.bool false,.int .i64 0,.int .i64 0,.bool false] 155)):=(((qo0 w).alloc _ _).alloc _ _).alloc _ _
 have B1:Hid (∀u,Kept (((w.alloc (.cells #[.bool n1,.slice a l1 c1,.int .i64 x1] 31)).alloc (.cells #[.bool n2,.slice b n c2,.int .i64 x2] 31)).alloc (.cells #[.bool false,.int .i64 0,.int .i64 0,.bool false] 155)) u→(u.cell? ⟨w.heap.size,0,none⟩=some (.bool n1)∧u.cell? ⟨w.heap.size,1,none⟩=some (.slice a l1 c1)∧u.cell? ⟨w.heap.size,2,none⟩=some (.int .i64 x1))∧(u.cell? ⟨w.heap.size+1,0,none⟩=some (.bool n2)∧u.cell? ⟨w.heap.size+1,1,none⟩=some (.slice b n c2)∧u.cell? ⟨w.heap.size+1,2,none⟩=some (.int .i64 x2))∧(u.cell? ⟨w.heap.size+2,0,none⟩=some (.bool false)∧u.cell? ⟨w.heap.size+2,1,none⟩=some (.int .i64 0)∧u.cell? ⟨w.heap.size+2,2,none⟩=some (.int .i64 0)∧u.cell? ⟨w.heap.size+2,3,none⟩=some (.bool false))∧∀o,u.frozen? ⟨w.heap.size+2,o,none⟩=false):=fun u k=>⟨⟨(k.below.cell (p:=⟨w.heap.size,0,none⟩) (by simp<;>omega)).trans (by simp[go_sem]),(k.below.cell (p:=⟨w.heap.size,1,none⟩) (by simp<;>omega)).trans (by simp[go_sem]),(k.below.cell (p:=⟨w.heap.size,2,none⟩) (by simp<;>omega)).trans (by simp[go_sem])⟩,⟨(k.below.cell (p:=⟨w.heap.size+1,0,none⟩) (by simp<;>omega)).trans (by simp[go_sem]),(k.below.cell (p:=⟨w.heap.size+1,1,none⟩) (by simp<;>omega)).trans (by simp[go_sem]),(k.below.cell (p:=⟨w.heap.size+1,2,none⟩) (by simp<;>omega)).trans (by simp[go_sem])⟩,⟨(k.below.cell (p:=⟨w.heap.size+2,0,none⟩) (by simp<;>omega)).trans (by simp[go_sem]),(k.below.cell (p:=⟨w.heap.size+2,1,none⟩) (by simp<;>omega)).trans (by simp[go_sem]),(k.below.cell (p:=⟨w.heap.size+2,2,none⟩) (by simp<;>omega)).trans (by simp[go_sem]),(k.below.cell (p:=⟨w.heap.size+2,3,none⟩) (by simp<;>omega)).trans (by simp[go_sem])⟩,fun o=>(k.frozen _).trans (by simp[go_sem])⟩
 obtain⟨W0,hW0⟩:∃W0,((w.alloc (.cells #[.bool n1,.slice a l1 c1,.int .i64 x1] 31)).alloc (.cells #[.bool n2,.slice b n c2,.int .i64 x2] 31)).alloc (.cells #[.bool false,.int .i64 0,.int .i64 0,.bool false] 155)=W0:=⟨_,rfl⟩
 have hsz:W0.heap.size=w.heap.size+3:=by rw[←hW0];simp
 have HLW:Hid (lw=(T1:Int)-(((n:Int)+2)*30)):=hlw
 have HEX:Hid (ex=x1-x2+(T1:Int)-(T2:Int)-60):=hex
 have hlr:-2000000≤lw∧lw≤2000000:=by omega
 have hl0:((l1:Int)==0)=false:=by rw[beq_eq_false_iff_ne];omega
 have z1:IntKind.i64.wrap ((n:Int)*30)=(n:Int)*30:=by rw[qg];omega
 have z2:IntKind.i64.wrap ((T2:Int)-(n:Int)*30)=(T2:Int)-(n:Int)*30:=by rw[qg];omega
 have z3:IntKind.i64.wrap ((n:Int)+2)=(n:Int)+2:=by rw[qg];omega
 have z4:IntKind.i64.wrap (((n:Int)+2)*30)=((n:Int)+2)*30:=by rw[qg];omega
 have z5:IntKind.i64.wrap ((T1:Int)-((n:Int)+2)*30)=lw:=by rw[qg];omega
 clear hlw hex
 obtain⟨ld,hld⟩:∃ld,decide (0<lw)=ld:=⟨_,rfl⟩
 have HLD:Hid (decide (0<lw)=ld):=hld
 rw[hW0]at hK B1
 have hM0:=qo0 W0
 obtain⟨⟨p0,p1,p2⟩,⟨q0,q1,q2⟩,⟨o0,o1,o2,o3⟩,oF⟩:=B1.out _ hM0
 rw[hld]
 go_enter Tryz.func120,Tryz.ntmps120
 go_wp2_with fail
 clear hW0
 refine qo1 (S:=fun u=>u.cell? ⟨w.heap.size+1,1,none⟩=some (.slice b n c2)) (by kernel_rfl) q1 (fun hHeld=>?_)
 refine tk (i:=0) (v:=?_) rfl ?_
 simp only[Act.put,zz]
 refine tk (i:=1) (v:=?_) rfl ?_
 simp only[Act.put,zz]
 refine tk (i:=2) (v:=?_) rfl ?_
 simp only[Act.put,zz]
 refine tk (i:=3) (v:=?_) rfl ?_
 simp only[Act.put,zz]
 refine tk (i:=4) (v:=?_) rfl ?_
 simp only[Act.put,zz]
 refine qoy (rs:=[5]) (by kernel_rfl) (by simp) ?_
 refine qow rfl (fun K hK9=>?_) qox
 go_simp
 go_wp2_with fail
 refine(Kb.out _ hK.drew).mono ?_
 rintro e u0 ⟨rfl,rfl⟩
 refine hK9.out _ _ q1 (fun hHeld2=>?_)
 clear hK9 K hHeld
 refine tk (i:=6) (v:=?_) rfl ?_
 simp only[Act.put,zz]
 refine tk (i:=7) (v:=?_) rfl ?_
 simp only[Act.put,zz]
 refine qo2 (by kernel_rfl) ?_ _
 clear hHeld2
 go_wp2_with fail
 refine(Kd.out _ hK.drew).mono ?_
 rintro e u1 ⟨rfl,od,ku1⟩
 have mu1:=hM0.drew.trans ku1
 clear p0 p1 p2 q0 q1 q2 o0 o1 o2 o3 oF
 obtain⟨⟨p0,p1,p2⟩,⟨q0,q1,q2⟩,⟨o0,o1,o2,o3⟩,oF⟩:=B1.out _ mu1
 have OD:Hid (DgAt u1 W0.drew.heap.size 0 n U):=od
 have HM:Hid (Kept W0 u1):=mu1
 clear od mu1 ku1 oF o0 o1 o2 o3 p0 p2 q0 q2
 go_wp2_with fail
 refine(Ka.out _ (hK.trans HM.out)).mono ?_
 rintro e u9 ⟨rfl,rfl⟩
 go_wp2_with fail
 refine(Kl.out _ (hK.trans HM.out)).mono ?_
 rintro e u2 ⟨rfl,ol,ku2⟩
 have HU2:Hid (Kept u1 u2):=ku2
 obtain⟨v',V,hr,hM',hK'⟩:=jq u1.heap.size u2 (.slice (some ⟨u1.heap.size,0,none⟩) (n+2) (n+2)) LL (.inr ⟨u1.heap.size,n+2,by rw[HLL.out.1],qoo _,ol⟩) 0 ku2.below.size (by rw[HLL.out.1];omega)
 have hMl:(LL++[0]).length=n+3:=by rw[List.length_append,HLL.out.1];rfl
 obtain⟨g,C,hv',hgs,hOV⟩:∃g C,v'=.slice (some ⟨g,0,none⟩) (n+3) C∧u1.heap.size≤g∧Own V g C (LL++[0]):=by
  rcases hM' with ⟨e,-⟩|⟨g,C,e,h1,h2⟩
  ·rw[e]at hMl;simp at hMl
  ·exact⟨g,C,by rw[e,hMl],h1,h2⟩
 subst hv'
 have HHA:Hid (∀ty,(Builtin.append_ #[29,29] ty #[.slice (some ⟨u1.heap.size,0,none⟩) (n+2) (n+2),.slice (some ⟨u2.heap.size,0,none⟩) 1 1]).run Tryz.prog (u2.alloc (.cells #[.int .i64 0] 3))=.ok (.slice (some ⟨g,0,none⟩) (n+3) C) V):=hr
 have KV:Hid (Kept u1 V):=hK' u1 (qoo _) ku2
 have hC:n+3≤C:=by obtain⟨_,_,h1,_⟩:=hOV;rw[hMl]at h1;exact h1
 have HDA:Hid (∀i,i<n+3→V.cell? ⟨g,i,none⟩=some (.int .i64 ((dg A i:Nat):Int))):=fun i hi=>by
  rw[hOV.cell i (by rw[hMl];exact hi)]
  rw[qev,HLL.out.1]
  by_cases h2:i<n+2
  ·rw[if_pos h2,HLL.out.2 i h2]
  ·have hi2:i=n+2:=by omega
   rw[if_neg h2,if_pos hi2,hi2]
   unfold dg
   rw[Nat.div_eq_of_lt HA.out]
   simp
 have FZ:Hid (∀i,V.frozen? ⟨g,i,none⟩=false):=fun i=>hOV.free i
 have HGL:Hid (g<V.heap.size):=hOV.lt
 have hgt:w.heap.size+3<g:=by
  have h1:=World.block_lt_of_cell? u1 _ (OD.out 0 hn)
  have h4:W0.drew.heap.size=W0.heap.size:=rfl
  rw[h4,hsz]at h1
  have h5:w.heap.size+3<u1.heap.size:=h1
  omega
 have DD:Hid (DgAt V (w.heap.size+3) 0 n U):=by
  have:=OD.out.kept KV.out
  have h4:W0.drew.heap.size=W0.heap.size:=rfl
  rw[h4,hsz]at this
  exact this
 have HKV:Hid (Kept W0 V):=HM.out.trans KV.out
 clear hr hM' hK' hOV ku2 ol KV
 go_wp2_with (first|(at_builtin;refine qu rfl _ _ _ rfl _ _ rfl rfl _ _ (HHA.out _) ?_))
 clear HHA HU2 p1 q1
 have hgd:w.heap.size+3≠g:=by omega
 obtain⟨X0,Q0,R0,X1,Q1,R1,X2,Q2,R2,G0,H1,G1,H2,hZ⟩:=qmq A U n (qok (Nat.mul_pos (qoj _) (by decide)) HU.out.1) HU.out.2.1 HU.out.2.2
 have Z:Hid (Q3z A U n X0 Q0 R0 X1 Q1 R1 X2 Q2 R2 G0 H1 G1 H2):=hZ
 obtain⟨s1,s2,s3,s4,zz⟩:_∧_∧_∧_∧_:=⟨hZ.s1,hZ.s2,hZ.s3,hZ.s4,hZ.zz⟩
 clear hZ
 have TA:Hid (∀(off cap:Nat) (V':World) (X Q R:Nat),X<2^(30*(n+1))→X<U*4294967296→X/U=Q→X%U=R→g<V'.heap.size→DgAt V' g off (n+1) X→DgAt V' (w.heap.size+3) 0 n U→(∀i,V'.frozen? ⟨g,i,none⟩=false)→Calls Tryz.prog 154 #[.slice (some ⟨g,off,none⟩) (n+1) cap,.slice (some ⟨w.heap.size+3,0,none⟩) n n] V' fun e w'=>e=.returned (.int .i64 (Q:Int))∧DgAt w' g off (n+1) R∧TK g off n V' w'):=fun off cap V' X Q R h1 h2 hq hr h3 h4 h5 h6=>by
  rw[←hq,←hr]
  exact qhd g off cap (w.heap.size+3) n n hgd hn (by omega) X U h1 HU.out.1 HU.out.2.1 h2 V' h3 h4 h5 h6
 have D0:Hid (DgAt V g 2 (n+1) X0):=fun i hi=>by
  rw[HDA.out (2+i) (by omega),←Z.out.x0,qhe]
 have y1:IntKind.i64.wrap (3+(n:Int))=3+(n:Int):=by rw[qg];omega
 have y2:IntKind.i64.wrap (2+(n:Int))=2+(n:Int):=by rw[qg];omega
 have y3:IntKind.i64.wrap (1+(n:Int))=1+(n:Int):=by rw[qg];omega
 clear z1 z2 z3 z4 z5
 refine wp_loop_rounds 4 ?_
 rw[rounds_succ]
 go_wp2_with fail
 rw[show 3+n-2=n+1 by omega]
 refine(TA.out 2 _ V X0 Q0 R0 Z.out.x0b Z.out.x0u Z.out.q0 Z.out.r0 HGL.out D0.out DD.out FZ.out).mono ?_
 rintro e V1 ⟨rfl,d1,tk1⟩
 have T1':Hid (TK g 2 n V V1):=tk1
 have L1:Hid (g<V1.heap.size):=qok HGL.out tk1.grw.grown.size
 have DD1:Hid (DgAt V1 (w.heap.size+3) 0 n U):=DD.out.off_block hgd tk1.grw
 have FZ1:Hid (∀i,V1.frozen? ⟨g,i,none⟩=false):=fun i=>(tk1.grw.frozen _).trans (FZ.out i)
 have D1:Hid (DgAt V1 g 1 (n+1) X1):=fun i hi=>by
  rw[←Z.out.x1]
  rcases i with _|i
  ·rw[Qi _ _ (vV _ _)]
   exact(tk1.rest 1 (by omega)).trans (HDA.out 1 (by omega))
  ·rw[Qj _ _ _ (vV _ _),show 1+(i+1)=2+i by omega]
   exact d1 i (by omega)
 have C0:Hid (V1.cell? ⟨g,0,none⟩=some (.int .i64 ((dg A 0:Nat):Int))):=(tk1.rest 0 (by omega)).trans (HDA.out 0 (by omega))
 have KW1:Hid (Kept W0 V1):=HKV.out.grw (by rw[hsz];omega) tk1.grw
 clear d1 tk1 D0 DD FZ HGL HDA HKV
 go_wp2_with fail
 rw[rounds_succ]
 go_wp2_with fail
 rw[Nat.add_comm 1 n]
 refine(TA.out 1 _ V1 X1 Q1 R1 Z.out.x1b Z.out.x1u Z.out.q1 Z.out.r1 L1.out D1.out DD1.out FZ1.out).mono ?_
 rintro e V2 ⟨rfl,d2,tk2⟩
 have L2:Hid (g<V2.heap.size):=qok L1.out tk2.grw.grown.size
 have DD2:Hid (DgAt V2 (w.heap.size+3) 0 n U):=DD1.out.off_block hgd tk2.grw
 have FZ2:Hid (∀i,V2.frozen? ⟨g,i,none⟩=false):=fun i=>(tk2.grw.frozen _).trans (FZ1.out i)
 have D2:Hid (DgAt V2 g 0 (n+1) X2):=fun i hi=>by
  rw[←Z.out.x2]
  rcases i with _|i
  ·rw[Qi _ _ (vV _ _)]
   exact(tk2.rest 0 (by omega)).trans C0.out
  ·rw[Qj _ _ _ (vV _ _),show 0+(i+1)=1+i by omega]
   exact d2 i (by omega)
 have KW2:Hid (Kept W0 V2):=KW1.out.grw (by rw[hsz];omega) tk2.grw
 clear d2 tk2 D1 DD1 FZ1 L1 C0 KW1 T1'
 go_wp2_with fail
 rw[rounds_succ]
 go_wp2_with fail
 rw[Nat.add_comm 1 n]
 refine(TA.out 0 _ V2 X2 Q2 R2 Z.out.x2b Z.out.x2u Z.out.q2 Z.out.r2 L2.out D2.out DD2.out FZ2.out).mono ?_
 rintro e V3 ⟨rfl,d3,tk3⟩
 have D3:Hid (DgAt V3 g 0 (n+1) R2):=d3
 have KW3:Hid (Kept W0 V3):=KW2.out.grw (by rw[hsz];omega) tk3.grw
 clear d3 tk3 D2 DD2 FZ2 L2 KW2 TA
 go_wp2_with fail
 rw[rounds_succ]
 go_wp2_with fail
 go_loopw [12,68] (fun rv iv wr=>∃(k:Nat) (rk:Bool),k≤n∧iv=.int .i64 k∧rv=.bool rk∧rk=(ld||decide (R2%2^(30*k)≠0))∧Kept V3 wr) (fun _ iv _=>n-(intOf iv).toNat)
 case atStart=>exact⟨0,ld,Nat.zero_le _,rfl,rfl,by rw[Nat.mul_zero,Nat.pow_zero,Nat.mod_one];simp,qo0 _⟩
 case round=>
  obtain⟨k,rk,hk,rfl,rfl,hrk,hKr⟩:=hrel
  have HRK:Hid (rk=(ld||decide (R2%2^(30*k)≠0))):=hrk
  clear hrk
  by_cases hkn:k<n
  ·have hk3:(k:Int)<(n:Int)+3:=by omega
   have ck:=(D3.out.kept hKr) k (by omega)
   rw[Nat.zero_add]at ck
   obtain⟨dk,hdk⟩:∃dk,dg R2 k=dk:=⟨_,rfl⟩
   rw[hdk]at ck
   have HDK:Hid (dg R2 k=dk):=hdk
   clear hdk
   have HST:=qeu R2 k
   have HST2:Hid (decide (R2%2^(30*(k+1))≠0)=(decide (R2%2^(30*k)≠0)||decide (dg R2 k≠0))):=HST
   clear HST
   cases rk
   ·by_cases hd0:dk=0
    ·subst hd0
     go_wp2
     go_roundw
     case rel=>exact⟨k+1,false,by omega,by go_num,rfl,by rw[HST2.out,←Bool.or_assoc,←HRK.out,HDK.out];rfl,hKr⟩
     case measure=>simp[intOf];omega
    ·have hdb:((dk:Int)==0)=false:=by rw[beq_eq_false_iff_ne];omega
     have hdn:((dk:Int) != 0)=true:=by simpa [bne_iff_ne] using (show ¬(dk:Int)=0 by omega)
     go_wp2
     go_roundw
     case rel=>exact⟨k+1,true,by omega,by go_num,by first|rfl|simp[hd0],by rw[HST2.out,←Bool.or_assoc,←HRK.out,HDK.out];simp[hd0],hKr⟩
     case measure=>simp[intOf];omega
   ·go_wp2
    go_roundw
    case rel=>exact⟨k+1,true,by omega,by go_num,rfl,by rw[HST2.out,←Bool.or_assoc,←HRK.out];rfl,hKr⟩
    case measure=>simp[intOf];omega
  ·obtain rfl:k=n:=by omega
   have hfin:rk=(ld||decide (A%U≠0)):=by
    rw[HRK.out,Nat.mod_eq_of_lt Z.out.r2b,Z.out.rm]
   have HFIN:Hid (rk=(ld||decide (A%U≠0))):=hfin
   clear hfin
   have kW:=KW3.out.trans hKr
   obtain⟨⟨p0,p1,p2⟩,⟨q0,q1,q2⟩,⟨o0,o1,o2,o3⟩,oF⟩:=B1.out _ kW
   have hEX:=HEX.out
   obtain⟨e1,he1⟩:∃e1,x1-x2=e1:=⟨_,rfl⟩
   have v1:IntKind.i64.wrap (x1-x2)=e1:=by rw[qg];omega
   obtain⟨e2,he2⟩:∃e2,e1+(T1:Int)=e2:=⟨_,rfl⟩
   have v2:IntKind.i64.wrap (e1+(T1:Int))=e2:=by rw[qg];omega
   obtain⟨e3,he3⟩:∃e3,e2-(T2:Int)=e3:=⟨_,rfl⟩
   have v3:IntKind.i64.wrap (e2-(T2:Int))=e3:=by rw[qg];omega
   have v4:IntKind.i64.wrap (e3-60)=ex:=by rw[qg];omega
   clear hEX he1 he2 he3
   go_wp2_with fail
   refine qo1 (S:=fun u=>(u.cell? ⟨w.heap.size,0,none⟩=some (.bool n1)∧u.cell? ⟨w.heap.size,1,none⟩=some (.slice a l1 c1)∧u.cell? ⟨w.heap.size,2,none⟩=some (.int .i64 x1))∧u.cell? ⟨w.heap.size+1,0,none⟩=some (.bool n2)∧u.cell? ⟨w.heap.size+1,2,none⟩=some (.int .i64 x2)) (by kernel_rfl) ⟨⟨p0,p1,p2⟩,q0,q2⟩ (fun hHeld=>?_)
   refine tk (i:=0) (v:=?_) rfl ?_
   simp only[Act.put,zz]
   refine tk (i:=1) (v:=?_) rfl ?_
   simp only[Act.put,zz]
   refine tk (i:=2) (v:=?_) rfl ?_
   simp only[Act.put,zz]
   refine tk (i:=3) (v:=?_) rfl ?_
   simp only[Act.put,zz]
   refine tk (i:=4) (v:=?_) rfl ?_
   simp only[Act.put,zz]
   refine tk (i:=5) (v:=?_) rfl ?_
   simp only[Act.put,zz]
   refine tk (i:=6) (v:=?_) rfl ?_
   simp only[Act.put,zz]
   refine tk (i:=7) (v:=?_) rfl ?_
   simp only[Act.put,zz]
   refine tk (i:=8) (v:=?_) rfl ?_
   simp only[Act.put,zz]
   refine tk (i:=9) (v:=?_) rfl ?_
   simp only[Act.put,zz]
   refine tk (i:=10) (v:=?_) rfl ?_
   simp only[Act.put,zz]
   refine tk (i:=11) (v:=?_) rfl ?_
   simp only[Act.put,zz]
   refine tk (i:=12) (v:=?_) rfl ?_
   simp only[Act.put,zz]
   refine tk (i:=15) (v:=?_) rfl ?_
   simp only[Act.put,zz]
   refine tk (i:=18) (v:=?_) rfl ?_
   simp only[Act.put,zz]
   refine qoy (rs:=[13]) (by kernel_rfl) (by simp) ?_
   refine qow rfl (fun K hK9=>?_) qox
   go_simp
   go_wp2_with fail
   refine(Ka.out _ (hK.trans kW.drew)).mono ?_
   rintro e u9 ⟨rfl,rfl⟩
   refine hK9.out _ _ ⟨⟨p0,p1,p2⟩,q0,q2⟩ (fun hHeld2=>?_)
   clear hK9 K hHeld
   refine tk (i:=14) (v:=?_) rfl ?_
   simp only[Act.put,zz]
   refine tk (i:=16) (v:=?_) rfl ?_
   simp only[Act.put,zz]
   refine tk (i:=17) (v:=?_) rfl ?_
   simp only[Act.put,zz]
   refine tk (i:=19) (v:=?_) rfl ?_
   simp only[Act.put,zz]
   refine qoy (rs:=[20]) (by kernel_rfl) (by simp) ?_
   refine qow rfl (fun K hK9=>?_) qox
   go_simp
   refine hK9.out _ _ ⟨⟨(YL _ _ _ _ (by omega) _ _ _ _).trans p0,(YL _ _ _ _ (by omega) _ _ _ _).trans p1,(YL _ _ _ _ (by omega) _ _ _ _).trans p2⟩,(YL _ _ _ _ (by omega) _ _ _ _).trans q0,(YL _ _ _ _ (by omega) _ _ _ _).trans q2⟩ (fun hHeld3=>?_)
   clear hK9 K hHeld2
   refine qo2 (by kernel_rfl) ?_ _
   clear hHeld3
   go_wp2
   have hnb2:(n1==n2)=!nb:=by rw[←hnb];cases n1<;>cases n2<;>rfl
   have hfi:=HFIN.out
   rw[←hfi]
   have hdv:=Z.out.dv
   rw[hdv]
   refine qoz (v:=.agg #[.bool nb,.int .i64 (H2:Int),.int .i64 ex,.bool rk]) (by simp[results,Tryz.results120,go_sem,o0,o1,o2,o3,hnb2]) rfl ⟨rfl,?_⟩
   first
   |exact((hK.trans kW).drew.setCell (by simp<;>omega) _|>.setCell (by simp<;>omega) _|>.setCell (by simp<;>omega) _|>.setCell (by simp<;>omega) _)
   |exact((hK.trans kW).setCell (by simp<;>omega) _|>.setCell (by simp<;>omega) _|>.setCell (by simp<;>omega) _|>.setCell (by simp<;>omega) _).drew
theorem Jh (v B:Nat)(t:Int)(h1:2^(B-1)≤v)(h2:v<2^B)(hB:0<B)(ht:0≤(B:Int)-1+t):2^((B:Int)-1+t).toNat≤flo v t∧flo v t<2^((B:Int)+t).toNat:=by
 unfold flo
 split
 ·rw[show((B:Int)-1+t).toNat=(B-1)+t.toNat by omega,show((B:Int)+t).toNat=B+t.toNat by omega,qol,qol]
  exact⟨Nat.mul_le_mul_right _ h1,Nat.mul_lt_mul_of_pos_right h2 (qoj _)⟩
 ·constructor
  ·rw[Nat.le_div_iff_mul_le (qoj _),←qol]
   exact qou (qom (by decide) (by omega)) h1
  ·rw[Nat.div_lt_iff_lt_mul (qoj _),←qol]
   exact qok h2 (qom (by decide) (by omega))
theorem qhg (v:Nat)(t:Int)(i:Nat):pcz v (-t+30*(i:Int))=((dg (flo v t) i:Nat):Int):=by
 rw[qk0]
 unfold dg
 rw[qjz,show -(-t+30*(i:Int))=t-((30*i:Nat):Int) by omega]
theorem Z7 (n:Nat)(f:Nat→Int)(i:Nat)(hi:i<n):((List.range n).map f).getD i 0=f i:=by
 rw[qon,List.getElem?_map,List.getElem?_range hi]
 rfl
def qU (b:Nm):Nat:=flo (nv b.mag) (30*(b.mag.length:Int)-(bl (nv b.mag):Int))
def qA (a b:Nm):Nat:=flo (nv a.mag) (30*((b.mag.length:Int)+2)-(bl (nv a.mag):Int))
def qlw (a b:Nm):Int:=(bl (nv a.mag):Int)-(((b.mag.length:Int)+2)*30)
def qex (a b:Nm):Int:=a.exp-b.exp+(bl (nv a.mag):Int)-(bl (nv b.mag):Int)-60
def qrs (a b:Nm):Bool:=decide (0<qlw a b)||decide (qA a b%qU b≠0)
theorem Xo (b:Nm)(hb:vld b=true)(hne:b.mag≠[]):2^(30*b.mag.length-1)≤qU b∧qU b<2^(30*b.mag.length):=by
 obtain⟨p1,p2,p3,p4,p5,p6⟩:=qT b.neg b.mag b.exp hne hb
 have h0:=QX b hb hne
 have hbl:=zg _ _ (zJ b.mag p2)
 obtain⟨b1,b2,b3⟩:=qO (nv b.mag) h0
 have hl:=List.length_pos_iff.2 hne
 have:=Jh (nv b.mag) (bl (nv b.mag)) (30*(b.mag.length:Int)-(bl (nv b.mag):Int)) b1 b2 b3 (by omega)
 rw[show((bl (nv b.mag):Int)-1+(30*(b.mag.length:Int)-(bl (nv b.mag):Int))).toNat=30*b.mag.length-1 by omega,show((bl (nv b.mag):Int)+(30*(b.mag.length:Int)-(bl (nv b.mag):Int))).toNat=30*b.mag.length by omega]at this
 exact this
theorem Xp (a b:Nm)(ha:vld a=true)(hne:a.mag≠[]):2^(30*b.mag.length+59)≤qA a b∧qA a b<2^(30*(b.mag.length+2)):=by
 have h0:=QX a ha hne
 obtain⟨b1,b2,b3⟩:=qO (nv a.mag) h0
 have:=Jh (nv a.mag) (bl (nv a.mag)) (30*((b.mag.length:Int)+2)-(bl (nv a.mag):Int)) b1 b2 b3 (by omega)
 rw[show((bl (nv a.mag):Int)-1+(30*((b.mag.length:Int)+2)-(bl (nv a.mag):Int))).toNat=30*b.mag.length+59 by omega,show((bl (nv a.mag):Int)+(30*((b.mag.length:Int)+2)-(bl (nv a.mag):Int))).toNat=30*(b.mag.length+2) by omega]at this
 exact this
theorem qew (a b:Nm)(ha:vld a=true)(hb:vld b=true)(h1:a.mag≠[])(h2:b.mag≠[]):2^59≤qA a b/qU b∧qA a b/qU b<2^61:=by
 obtain⟨u1,u2⟩:=Xo b hb h2
 obtain⟨a1,a2⟩:=Xp a b ha h1
 have hl:=List.length_pos_iff.2 h2
 have hU0:0<qU b:=qok (qoj _) u1
 constructor
 ·rw[Nat.le_div_iff_mul_le hU0]
  refine qou (Nat.mul_le_mul_left _ (Nat.le_of_lt u2)) ?_
  rw[←qol,Nat.add_comm]
  exact a1
 ·rw[Nat.div_lt_iff_lt_mul hU0]
  refine qok a2 (qou ?_ (Nat.mul_le_mul_left _ u1))
  rw[←qol]
  exact qom (by decide) (by omega)
theorem Vv (a b:Nm)(ha:vld a=true)(hb:vld b=true)(h1:a.mag≠[])(h2:b.mag≠[])(a1 a2:Option Addr)(c1 c2:Nat)(w:World)(hs1:Sl w (.slice a1 a.mag.length c1) a.mag)(hs2:Sl w (.slice a2 b.mag.length c2) b.mag):Calls Tryz.prog 120 #[.agg #[.bool a.neg,.slice a1 a.mag.length c1,.int .i64 a.exp],.agg #[.bool b.neg,.slice a2 b.mag.length c2,.int .i64 b.exp]] w fun e w'=>e=.returned (.agg #[.bool (a.neg != b.neg),.int .i64 ((qA a b/qU b:Nat):Int),.int .i64 (qex a b),.bool (qrs a b)])∧Kept w w':=by
 obtain⟨p1,p2,p3,p4,p5,p6⟩:=qT a.neg a.mag a.exp h1 ha
 obtain⟨q1,q2,q3,q4,q5,q6⟩:=qT b.neg b.mag b.exp h2 hb
 have hl1:=List.length_pos_iff.2 h1
 have hl2:=List.length_pos_iff.2 h2
 have hb1:=zg _ _ (zJ a.mag p2)
 have hb2:=zg _ _ (zJ b.mag q2)
 obtain⟨u1,u2⟩:=Xo b hb h2
 obtain⟨e1,e2⟩:=Xp a b ha h1
 refine qet a.neg b.neg _ rfl a1 a2 a.mag.length c1 b.mag.length c2 hl1 hl2 (by omega) a.exp b.exp p5 p6 q5 q6 (bl (nv a.mag)) (bl (nv b.mag)) (by omega) (by omega) (qA a b) (qU b) ((List.range (b.mag.length+2)).map fun i:Nat=>pcz (nv a.mag) (qlw a b+30*(i:Int))) (qlw a b) rfl (qex a b) rfl w ?_ e2 ?_ (fun u k=>zR a.mag ⟨p2,fun _=>p3⟩ (by omega) _ u (hs1.kept k)) (fun u k=>zR b.mag ⟨q2,fun _=>q3⟩ (by omega) _ u (hs2.kept k)) (fun u k=>?_) (fun u k=>?_)
 ·refine⟨by rw[List.length_map,List.length_range],fun i hi=>?_⟩
  rw[Z7 _ _ _ hi,show qlw a b=-(30*((b.mag.length:Int)+2)-(bl (nv a.mag):Int)) by unfold qlw;omega]
  exact qhg _ _ _
 ·refine⟨?_,u2,?_⟩
  ·refine qou (Nat.le_of_eq ?_) u1
   rw[show(536870912:Nat)=2^29 by decide,←qol]
   congr 1
   omega
  ·rw[Nat.div_lt_iff_lt_mul (qoj _)]
   refine qok e2 ?_
   have:2*2^(30*b.mag.length-1)*2^(30*2)≤2*qU b*2^(30*2):=Nat.mul_le_mul_right _ (Nat.mul_le_mul_left _ u1)
   refine qou (Nat.le_of_eq ?_) this
   rw[←Nat.pow_succ',←qol]
   congr 1
   omega
 ·refine(Z5 b.mag q2 _ b.mag.length (by omega) ((bl (nv b.mag):Int)-(b.mag.length:Int)*30) (by omega) u (hs2.kept k)).mono ?_
  rintro e w' ⟨rfl,ho,hk⟩
  refine⟨rfl,fun i hi=>?_,hk⟩
  rw[Nat.zero_add,ho.cell i (by rw[List.length_map,List.length_range];exact hi),Z7 _ _ _ hi,show(bl (nv b.mag):Int)-(b.mag.length:Int)*30=-(30*(b.mag.length:Int)-(bl (nv b.mag):Int)) by omega,qhg]
  rfl
 ·have hp:-10000000<qlw a b∧qlw a b<10000000:=by unfold qlw;omega
  have:=Z5 a.mag p2 (.slice a1 a.mag.length c1) (b.mag.length+2) (by omega) (qlw a b) hp u (hs1.kept k)
  rw[show((b.mag.length+2:Nat):Int)=(b.mag.length:Int)+2 by omega]at this
  exact this
theorem ql1 (way:Int)(fv:Nat)(n pr le fi:Int)(n1 n2:Bool)(a1 a2:Option Addr)(l1 c1 l2 c2:Nat)(x1 x2 res sg2:Int)(ox:Bool)(hsg:(sg2==0)=false)(y0 y1 y2 y3:Value)(w:World)
  (KR:Hid (Calls Tryz.prog 112 #[.int .i64 n,.int .i64 way,.slice (some ⟨w.heap.size+2,0,none⟩) 2 2] (((w.alloc (.cells #[.bool n1,.slice a1 l1 c1,.int .i64 x1] 31)).alloc (.cells #[.bool n2,.slice a2 l2 c2,.int .i64 x2] 31)).alloc (.cells (jT n1 (.slice a1 l1 c1) x1 n2 (.slice a2 l2 c2) x2) 31)) fun e w'=>e=.returned (.tuple #[.agg #[.int .i64 n,.int .i64 pr,.int .i64 le,.int .i64 fi,.func (.func fv) #[] #[]],.int .i64 0])∧Kept (((w.alloc (.cells #[.bool n1,.slice a1 l1 c1,.int .i64 x1] 31)).alloc (.cells #[.bool n2,.slice a2 l2 c2,.int .i64 x2] 31)).alloc (.cells (jT n1 (.slice a1 l1 c1) x1 n2 (.slice a2 l2 c2) x2) 31)) w'))
  (KG:Hid (∀u,Kept w u→Calls Tryz.prog 119 #[.agg #[.bool n2,.slice a2 l2 c2,.int .i64 x2]] u fun e w'=>e=.returned (.int .i64 sg2)∧Kept u w'))
  (KQ:Hid (∀u,Kept w u→Calls Tryz.prog 120 #[.agg #[.bool n1,.slice a1 l1 c1,.int .i64 x1],.agg #[.bool n2,.slice a2 l2 c2,.int .i64 x2]] u fun e w'=>e=.returned (.agg #[y0,y1,y2,y3])∧Kept u w'))
  (KO:Hid (∀u,Kept w u→Calls Tryz.prog 113 #[.agg #[.int .i64 n,.int .i64 pr,.int .i64 le,.int .i64 fi,.func (.func fv) #[] #[]],.agg #[y0,y1,y2,y3]] u fun e w'=>e=.returned (.tuple #[.int .i64 res,.bool ox])∧Kept u w')):
  Calls Tryz.prog 92 #[.agg #[.bool n1,.slice a1 l1 c1,.int .i64 x1],.agg #[.bool n2,.slice a2 l2 c2,.int .i64 x2],.int .i64 n,.int .i64 way] w fun e w'=>e=.returned (.tuple #[.int .i64 res,.bool ox,.int .i64 0])∧Kept w w':=by
 have hK:Kept w (((w.alloc (.cells #[.bool n1,.slice a1 l1 c1,.int .i64 x1] 31)).alloc (.cells #[.bool n2,.slice a2 l2 c2,.int .i64 x2] 31)).alloc (.cells (jT n1 (.slice a1 l1 c1) x1 n2 (.slice a2 l2 c2) x2) 31)):=(((qo0 w).alloc _ _).alloc _ _).alloc _ _
 have hsg2:¬sg2=0:=by simpa using hsg
 go_enter Tryz.func92,Tryz.ntmps92
 go_wp2_with fail
 refine KR.out.mono ?_
 rintro e w1 ⟨rfl,hk1⟩
 have HS:Hid (∀u,Kept (w1.alloc (.cells #[.int .i64 n,.int .i64 pr,.int .i64 le,.int .i64 fi,.func (.func fv) #[] #[]] 149)) u→u.cell? ⟨w1.heap.size,0,none⟩=some (.int .i64 n)∧u.cell? ⟨w1.heap.size,1,none⟩=some (.int .i64 pr)∧u.cell? ⟨w1.heap.size,2,none⟩=some (.int .i64 le)∧u.cell? ⟨w1.heap.size,3,none⟩=some (.int .i64 fi)∧u.cell? ⟨w1.heap.size,4,none⟩=some (.func (.func fv) #[] #[])∧u.cell? ⟨w.heap.size,0,none⟩=some (.bool n1)∧u.cell? ⟨w.heap.size,1,none⟩=some (.slice a1 l1 c1)∧u.cell? ⟨w.heap.size,2,none⟩=some (.int .i64 x1)∧u.cell? ⟨w.heap.size+1,0,none⟩=some (.bool n2)∧u.cell? ⟨w.heap.size+1,1,none⟩=some (.slice a2 l2 c2)∧u.cell? ⟨w.heap.size+1,2,none⟩=some (.int .i64 x2)):=fun u k=>⟨(qh k 0).trans (by simp[go_sem]),(qh k 1).trans (by simp[go_sem]),(qh k 2).trans (by simp[go_sem]),(qh k 3).trans (by simp[go_sem]),(qh k 4).trans (by simp[go_sem]),((hk1.trans ((qo0 w1).alloc _ _|>.trans k)).below.cell (p:=⟨w.heap.size,0,none⟩) (by simp<;>omega)).trans (by simp[go_sem]),((hk1.trans ((qo0 w1).alloc _ _|>.trans k)).below.cell (p:=⟨w.heap.size,1,none⟩) (by simp<;>omega)).trans (by simp[go_sem]),((hk1.trans ((qo0 w1).alloc _ _|>.trans k)).below.cell (p:=⟨w.heap.size,2,none⟩) (by simp<;>omega)).trans (by simp[go_sem]),((hk1.trans ((qo0 w1).alloc _ _|>.trans k)).below.cell (p:=⟨w.heap.size+1,0,none⟩) (by simp<;>omega)).trans (by simp[go_sem]),((hk1.trans ((qo0 w1).alloc _ _|>.trans k)).below.cell (p:=⟨w.heap.size+1,1,none⟩) (by simp<;>omega)).trans (by simp[go_sem]),((hk1.trans ((qo0 w1).alloc _ _|>.trans k)).below.cell (p:=⟨w.heap.size+1,2,none⟩) (by simp<;>omega)).trans (by simp[go_sem])⟩
 have hsz:w.heap.size+3≤w1.heap.size:=by have:=hk1.below.size;simpa using this
 obtain⟨q0,q1,q2,q3,q4,q5,q6,q7,q8,q9,qq⟩:=HS.out _ (qo0 _)
 go_wp2_with fail
 refine(KG.out _ (hK.trans (hk1.alloc _ _))).mono ?_
 rintro e w2 ⟨rfl,hk2⟩
 clear q0 q1 q2 q3 q4 q5 q6 q7 q8 q9 qq
 have hkk:Kept w w2:=hK.trans (hk1.trans (((qo0 w1).alloc _ _).trans hk2))
 go_wp2
 refine qo1 (S:=fun u=>u.cell? ⟨w1.heap.size,0,none⟩=some (.int .i64 n)∧u.cell? ⟨w1.heap.size,1,none⟩=some (.int .i64 pr)∧u.cell? ⟨w1.heap.size,2,none⟩=some (.int .i64 le)∧u.cell? ⟨w1.heap.size,3,none⟩=some (.int .i64 fi)∧u.cell? ⟨w1.heap.size,4,none⟩=some (.func (.func fv) #[] #[])∧u.cell? ⟨w.heap.size,0,none⟩=some (.bool n1)∧u.cell? ⟨w.heap.size,1,none⟩=some (.slice a1 l1 c1)∧u.cell? ⟨w.heap.size,2,none⟩=some (.int .i64 x1)∧u.cell? ⟨w.heap.size+1,0,none⟩=some (.bool n2)∧u.cell? ⟨w.heap.size+1,1,none⟩=some (.slice a2 l2 c2)∧u.cell? ⟨w.heap.size+1,2,none⟩=some (.int .i64 x2)) (by kernel_rfl) (HS.out _ hk2.drew) (fun hHeld=>?_)
 refine tk (i:=0) (v:=?_) rfl ?_
 simp only[Act.put,zz]
 refine tk (i:=1) (v:=?_) rfl ?_
 simp only[Act.put,zz]
 refine tk (i:=2) (v:=?_) rfl ?_
 simp only[Act.put,zz]
 refine qoy (rs:=[3]) (by kernel_rfl) (by simp) ?_
 refine qow rfl (fun K hK9=>?_) qox
 go_simp
 go_wp2_with fail
 refine(KQ.out _ hkk.drew).mono ?_
 rintro e w3 ⟨rfl,hk3⟩
 refine hK9.out _ _ (HS.out _ (hk2.drew.trans hk3)) (fun hHeld2=>?_)
 clear hK9 K hHeld
 refine qoy (rs:=[4]) (by kernel_rfl) (by simp) ?_
 refine qow rfl (fun K hK9=>?_) qox
 go_simp
 go_wp2_with fail
 refine(KO.out _ (hkk.drew.trans hk3)).mono ?_
 rintro e w4 ⟨rfl,hk4⟩
 refine hK9.out _ _ (HS.out _ (hk2.drew.trans (hk3.trans hk4))) (fun hHeld=>?_)
 clear hK9 K hHeld2
 refine tk (i:=5) (v:=?_) rfl ?_
 simp only[Act.put,zz]
 refine tk (i:=6) (v:=?_) rfl ?_
 simp only[Act.put,zz]
 refine tk (i:=7) (v:=?_) rfl ?_
 simp only[Act.put,zz]
 refine tk (i:=8) (v:=?_) rfl ?_
 simp only[Act.put,zz]
 refine tk (i:=9) (v:=?_) rfl ?_
 simp only[Act.put,zz]
 refine qo2 (by kernel_rfl) ?_ _
 clear hHeld
 go_wp2
 refine qoz (v:=.tuple #[.int .i64 res,.bool ox,.int .i64 0]) (by simp[results,Tryz.results92,go_sem]) rfl ⟨rfl,hkk.drew.trans (hk3.trans hk4)⟩
theorem qhh (V H:Nat)(hH:0<H):(V/H%2=1)↔H≤V%(2*H):=by
 have e1:V/H=2*(V/(2*H))+V%(2*H)/H:=by
  have hdm:=Nat.div_add_mod V (2*H)
  have:V=V%(2*H)+H*(2*(V/(2*H))):=by
   rw[←qop,qoq H 2];omega
  rw[show V/H=(V%(2*H)+H*(2*(V/(2*H))))/H by rw[←this],Nat.add_mul_div_left _ _ hH];omega
 have e2:V%(2*H)<2*H:=Nat.mod_lt _ (by omega)
 rw[e1]
 constructor
 ·intro h
  apply Decidable.byContradiction
  intro hn
  have hz:V%(2*H)/H=0:=Nat.div_eq_of_lt (by omega)
  omega
 ·intro h
  have:V%(2*H)/H=1:=by
   rw[show V%(2*H)=(V%(2*H)-H)+H*1 by omega,Nat.add_mul_div_left _ _ hH,Nat.div_eq_of_lt (by omega)]
  omega
theorem Xq (c D V E h:Nat)(rs:Bool)(j m k F:Nat)(hc:0<c)(hce:c%2=0)(hE:0<E)(hh:h=V/E)(hrs:rs=decide (V%E≠0))(hk:k=h/2^(m+1))(hF:F=j*c+k)(hb:k<2*c)(hjk:j=0∨c≤k)(hQD:E*2^(m+1)=2^j*D):Cutz c D V k (E*2^(m+1)) (E*2^m) F (decide (k%2=1)) (decide (h/2^m%2=1)) (rs||h%2^m != 0):=by
 have hp:=qoj m
 have hH:0<E*2^m:=Nat.mul_pos hE hp
 have hQ:E*2^(m+1)=2*(E*2^m):=by rw[qov,←qop,qoq]
 have hkq:V/(E*2^(m+1))=k:=by rw[hk,hh,Nat.div_div_eq_div_mul]
 refine⟨hQ,hH,hkq,?_,?_,rfl,?_,?_,?_⟩
 ·rw[hF,qdw c j k hc (by omega) hjk,hQD,qop]
 ·rw[hF,Nat.add_assoc,qdw c j (k+1) hc (by omega) (by omega),hQD,qop]
 ·rw[hF,Nat.add_mod,Nat.mul_mod,hce];simp
 ·rw[hh,Nat.div_div_eq_div_mul,hQ]
  congr 1
  exact propext (qhh V (E*2^m) hH)
 ·rw [hQ,Nat.mod_mul_left_mod,Nat.mod_mul,←hh,hrs]
  by_cases h1:V%E=0
  ·by_cases h2:h%2^m=0
   ·simp[h1,h2]
   ·have:¬E*(h%2^m)=0:=by
     intro h0;rcases Nat.mul_eq_zero.1 h0 with h0|h0<;>omega
    rw[show(h%2^m != 0)=true by simpa using h2,h1,Nat.zero_add,qos this]
    simp
  ·rw[qos h1,Bool.true_or]
   exact(qos (by omega)).symm
theorem qhi (a b:Nm)(ha:vld a=true)(hb:vld b=true)(h1:a.mag≠[])(h2:b.mag≠[])(s:Int)(hx:2*s≤a.exp)(hu:2*s≤a.exp+(bl (nv a.mag):Int)-30*((b.mag.length:Int)+2)):qA a b/qU b=(nv a.mag*2^(a.exp-2*s).toNat)/(nv b.mag*2^(qex a b+b.exp-2*s).toNat)∧qrs a b=decide ((nv a.mag*2^(a.exp-2*s).toNat)%(nv b.mag*2^(qex a b+b.exp-2*s).toNat)≠0):=by
 obtain⟨p1,p2,p3,p4,p5,p6⟩:=qT a.neg a.mag a.exp h1 ha
 obtain⟨q1,q2,q3,q4,q5,q6⟩:=qT b.neg b.mag b.exp h2 hb
 have hodd:=kz a.mag p2 p4
 have hb2:=zg _ _ (zJ b.mag q2)
 obtain⟨t,ht⟩:∃t,30*((b.mag.length:Int)+2)-(bl (nv a.mag):Int)=t:=⟨_,rfl⟩
 have hA:qA a b=(nv a.mag*2^(a.exp-2*s).toNat)/2^(a.exp-t-2*s).toNat:=by
  have:=qcg (nv a.mag) a.exp (a.exp-t) (2*s) hx (by omega)
  rw[show a.exp-(a.exp-t)=t by omega]at this
  unfold qA
  rw[ht]
  exact this
 have hR:rst (nv a.mag) t=((nv a.mag*2^(a.exp-2*s).toNat)%2^(a.exp-t-2*s).toNat != 0):=by
  have:=qjf (nv a.mag) a.exp (a.exp-t) (2*s) hx (by omega)
  rw[show a.exp-(a.exp-t)=t by omega]at this
  exact this
 have hU:qU b=nv b.mag*2^(30*(b.mag.length:Int)-(bl (nv b.mag):Int)).toNat:=by
  unfold qU flo
  rw[if_pos (by omega)]
 have hE:2^(a.exp-t-2*s).toNat*qU b=nv b.mag*2^(qex a b+b.exp-2*s).toNat:=by
  rw[hU,Nat.mul_left_comm,←qol]
  congr 2
  unfold qex
  omega
 have hlw:decide (0<qlw a b)=rst (nv a.mag) t:=by
  unfold rst qlw
  by_cases h0:0≤t
  ·rw[if_pos h0,qot (by omega)]
  ·rw[if_neg h0,qos (by omega)]
   obtain⟨j,hj⟩:∃j:Nat,(-t).toNat=j+1:=⟨(-t).toNat-1,by omega⟩
   rw[hj]
   have h3:nv a.mag%2^(j+1)%2=1:=by
    rw[Nat.mod_mod_of_dvd _ (by rw[qov];exact Nat.dvd_mul_left _ _)]
    exact hodd
   have h4:nv a.mag%2^(j+1)≠0:=by
    intro h0;rw[h0]at h3;simp at h3
   exact(by simpa using h4)
 have hP:=qoj (a.exp-t-2*s).toNat
 unfold qrs
 rw[hlw,hR,←hE,hA]
 generalize nv a.mag*2^(a.exp-2*s).toNat=V
 generalize 2^(a.exp-t-2*s).toNat=P at hP ⊢
 generalize qU b=U
 refine⟨Nat.div_div_eq_div_mul _ _ _,?_⟩
 rw[Nat.mod_mul]
 by_cases g1:V%P=0
 ·by_cases g2:V/P%U=0
  ·simp[g1,g2]
  ·have:¬P*(V/P%U)=0:=by
    intro h0;rcases Nat.mul_eq_zero.1 h0 with h0|h0<;>omega
   rw[g1,Nat.zero_add,qos g2,qos this]
   simp
 ·rw[show(V%P != 0)=true by simpa using g1,Bool.true_or]
  exact(qos (by omega)).symm
theorem Vw (n1:Bool)(a1:Option Addr)(c1:Nat)(x1:Int)(n2:Bool)(a2:Option Addr)(l2 c2:Nat)(x2:Int)(w:World):Calls Tryz.prog 120 #[.agg #[.bool n1,.slice a1 0 c1,.int .i64 x1],.agg #[.bool n2,.slice a2 l2 c2,.int .i64 x2]] w fun e w'=>e=.returned (.agg #[.bool false,.int .i64 0,.int .i64 0,.bool false])∧Kept w w':=by
 have hK:Kept w (((w.alloc (.cells #[.bool n1,.slice a1 0 c1,.int .i64 x1] 31)).alloc (.cells #[.bool n2,.slice a2 l2 c2,.int .i64 x2] 31)).alloc (.cells #[.bool false,.int .i64 0,.int .i64 0,.bool false] 155)):=(((qo0 w).alloc _ _).alloc _ _).alloc _ _
 go_enter Tryz.func120,Tryz.ntmps120
 go_wp2
 refine qoz (v:=.agg #[.bool false,.int .i64 0,.int .i64 0,.bool false]) (by simp[results,Tryz.results120,go_sem]) rfl ⟨rfl,?_⟩
 exact hK
structure QD (n Z Bv d:Int) (o:Bool):Prop where
 low:-(ifn n:Int)≤d
 high:d<(ifn n:Int)
 fin:-(ifn n:Int)<d→kvz n (-1300) d*Bv≤Z∧o=decide (kvz n (-1300) d*Bv≠Z)
 nxt:d+1<(ifn n:Int)→Z<kvz n (-1300) (d+1)*Bv
theorem Zl (n:Int)(k U:Nat):kvz n (-1300) (k:Int)*(U:Int)=((rv (cbn n) k*(2^(qk n- -1300).toNat*U):Nat):Int)∧kvz n (-1300) (-(k:Int))*(U:Int)=-((rv (cbn n) k*(2^(qk n- -1300).toNat*U):Nat):Int):=by
 rw[jX,xR,←qop,Int.neg_mul,←Int.natCast_mul]
 exact⟨rfl,rfl⟩
theorem qcv (n:Int)(hn:n=64∨n=32)(ng:Bool)(V U k Q H F:Nat)(od hf rt:Bool)(hU:0<U)(hV:0<V)(h:Cutz (cbn n) (2^(qk n- -1300).toNat*U) V k Q H F od hf rt):QD n (if ng=true then -(V:Int)else (V:Int)) (U:Int) (kyz ng (mgz 1 ng (ifn n) F od hf rt)) (odz 1 ng (ifn n) F od hf rt):=by
 have hip:=qda n
 have hD:0<2^(qk n- -1300).toNat*U:=Nat.mul_pos (qoj _) hU
 obtain⟨B,o1,o2⟩:=h.btw (ifn n) hip (qh6 n hn) (XF n hn) hD ng
 obtain⟨N1,N2,N3⟩:=B
 have hmono:∀r s,r<s→rv (cbn n) r*(2^(qk n- -1300).toNat*U)<rv (cbn n) s*(2^(qk n- -1300).toNat*U):=fun r s hrs=>Nat.mul_lt_mul_of_pos_right (XF n hn r s hrs) hD
 have hz0:rv (cbn n) 0=0:=by rcases hn with rfl|rfl<;>rfl
 cases ng
 ·unfold kyz
  simp only[Bool.false_eq_true,if_false]
  generalize mgz 1 false (ifn n) F od hf rt=lo at *
  generalize mgz 2 false (ifn n) F od hf rt=hi at *
  generalize odz 1 false (ifn n) F od hf rt=o at *
  have hlo:lo<ifn n:=by cases o;exact(N1 rfl).1;exact(N2 rfl).2.1
  refine⟨by omega,by omega,fun _=>?_,fun hx=>?_⟩
  ·rw[(Zl n lo U).1]
   cases o
   ·have:=(N1 rfl).2.2.2
    rw[this]
    exact⟨Int.le_refl _,by simp⟩
   ·have:=(N2 rfl).2.2.1
    refine⟨by omega,(qos (by omega)).symm⟩
  ·rw[show(lo:Int)+1=((lo+1:Nat):Int) by omega,(Zl n (lo+1) U).1]
   cases o
   ·have:=(N1 rfl).2.2.2
    have:=hmono lo (lo+1) (by omega)
    omega
   ·obtain⟨t1,t2,t3,t4,t5⟩:=N2 rfl
    have:=t4 (by omega)
    rw[←t1]at this
    omega
 ·obtain⟨m3,m4⟩:=yY 2 (by omega) false (ifn n) F od hf rt
  rw[show mir 2=1 by decide,show(!false)=true by rfl]at m3 m4
  rw[m3,m4,o1]
  unfold kyz
  simp only[if_true]
  generalize mgz 1 false (ifn n) F od hf rt=lo at *
  generalize mgz 2 false (ifn n) F od hf rt=hi at *
  generalize odz 1 false (ifn n) F od hf rt=o at *
  have hhi:hi≤ifn n∧0<hi:=by
   cases o
   ·obtain⟨t1,t2,t3,t4⟩:=N1 rfl
    refine⟨by omega,?_⟩
    rcases Nat.eq_zero_or_pos lo with h0|h0
    ·rw[h0,hz0,Nat.zero_mul]at t4;omega
    ·omega
   ·have:=N2 rfl
    omega
  refine⟨by omega,by omega,fun hd=>?_,fun _=>?_⟩
  ·rw[(Zl n hi U).2]
   cases o
   ·obtain⟨t1,t2,t3,t4⟩:=N1 rfl
    rw[t2,t4]
    exact⟨Int.le_refl _,by simp⟩
   ·obtain⟨t1,t2,t3,t4,t5⟩:=N2 rfl
    have:=t4 (by omega)
    exact⟨by omega,(qos (by omega)).symm⟩
  ·obtain⟨h',hh'⟩:∃h',hi=h'+1:=⟨hi-1,by omega⟩
   rw[show -(hi:Int)+1=-(h':Int) by omega,(Zl n h' U).2]
   cases o
   ·obtain⟨t1,t2,t3,t4⟩:=N1 rfl
    have:=hmono h' lo (by omega)
    omega
   ·obtain⟨t1,t2,t3,t4,t5⟩:=N2 rfl
    have:lo=h':=by omega
    rw[this]at t3
    omega
theorem Xr (n:Int)(hn:n=64∨n=32)(a b:Nm)(ha:vld a=true)(hb:vld b=true)(ham:a.mag≠[])(hbm:b.mag≠[])(s:Int)(hs1:2*s≤a.exp)(hs2:s≤b.exp)(hs3:2*s≤a.exp+(bl (nv a.mag):Int)-30*((b.mag.length:Int)+2))(hs4:2*s≤qex a b+b.exp)(hs5:s<qk n):∃k Q H F od hf rt,Cutz (cbn n) (2^(qk n-s).toNat*(nv b.mag*2^(b.exp-s).toNat)) (nv a.mag*2^(a.exp-2*s).toNat) k Q H F od hf rt∧∀(way:Int),(way=0∨way=1∨way=2)→∀(a1 a2:Option Addr) (c1 c2:Nat) (w:World),Tab w→Sl w (.slice a1 a.mag.length c1) a.mag→Sl w (.slice a2 b.mag.length c2) b.mag→Calls Tryz.prog 92 #[.agg #[.bool a.neg,.slice a1 a.mag.length c1,.int .i64 a.exp],.agg #[.bool b.neg,.slice a2 b.mag.length c2,.int .i64 b.exp],.int .i64 n,.int .i64 way] w fun e w'=>e=.returned (.tuple #[.int .i64 (pz n (kyz (a.neg != b.neg) (mgz way (a.neg != b.neg) (ifn n) F od hf rt))),.bool (odz way (a.neg != b.neg) (ifn n) F od hf rt),.int .i64 0])∧Kept w w':=by
 obtain⟨hlen1,hDg1⟩:=ya a.neg a.mag a.exp ha
 obtain⟨hlen2,hDg2⟩:=ya b.neg b.mag b.exp hb
 have KR:∀(way:Int),(way=0∨way=1∨way=2)→∀(a1 a2:Option Addr) (c1 c2:Nat) (w:World),Sl w (.slice a1 a.mag.length c1) a.mag→Sl w (.slice a2 b.mag.length c2) b.mag→Hid (Calls Tryz.prog 112 #[.int .i64 n,.int .i64 way,.slice (some ⟨w.heap.size+2,0,none⟩) 2 2] (((w.alloc (.cells #[.bool a.neg,.slice a1 a.mag.length c1,.int .i64 a.exp] 31)).alloc (.cells #[.bool b.neg,.slice a2 b.mag.length c2,.int .i64 b.exp] 31)).alloc (.cells (jT a.neg (.slice a1 a.mag.length c1) a.exp b.neg (.slice a2 b.mag.length c2) b.exp) 31)) fun e w'=>e=.returned (.tuple #[.agg #[.int .i64 n,.int .i64 (qM n),.int .i64 (qk n),.int .i64 (jg n),.func (.func (wfv way)) #[] #[]],.int .i64 0])∧Kept (((w.alloc (.cells #[.bool a.neg,.slice a1 a.mag.length c1,.int .i64 a.exp] 31)).alloc (.cells #[.bool b.neg,.slice a2 b.mag.length c2,.int .i64 b.exp] 31)).alloc (.cells (jT a.neg (.slice a1 a.mag.length c1) a.exp b.neg (.slice a2 b.mag.length c2) b.exp) 31)) w'):=fun way hw a1 a2 c1 c2 w h1 h2=>by
  refine xX n way hn hw _ _ (fun u k=>?_)
  have hK:Kept w (((w.alloc (.cells #[.bool a.neg,.slice a1 a.mag.length c1,.int .i64 a.exp] 31)).alloc (.cells #[.bool b.neg,.slice a2 b.mag.length c2,.int .i64 b.exp] 31)).alloc (.cells (jT a.neg (.slice a1 a.mag.length c1) a.exp b.neg (.slice a2 b.mag.length c2) b.exp) 31)):=(((qo0 w).alloc _ _).alloc _ _).alloc _ _
  have hb':w.heap.size+2<(((w.alloc (.cells #[.bool a.neg,.slice a1 a.mag.length c1,.int .i64 a.exp] 31)).alloc (.cells #[.bool b.neg,.slice a2 b.mag.length c2,.int .i64 b.exp] 31)).alloc (.cells (jT a.neg (.slice a1 a.mag.length c1) a.exp b.neg (.slice a2 b.mag.length c2) b.exp) 31)).heap.size:=by simp
  have:=kA u (w.heap.size+2) 2 a.neg b.neg a1 a2 a.mag.length c1 b.mag.length c2 a.exp b.exp true true (qok hb' k.below.size) ((k.below.cell (p:=⟨w.heap.size+2,0,none⟩) hb').trans (by simp[go_sem])) ((k.below.cell (p:=⟨w.heap.size+2,1,none⟩) hb').trans (by simp[go_sem])) ((k.below.cell (p:=⟨w.heap.size+2,2,none⟩) hb').trans (by simp[go_sem])) ((k.below.cell (p:=⟨w.heap.size+2,3,none⟩) hb').trans (by simp[go_sem])) ((k.below.cell (p:=⟨w.heap.size+2,4,none⟩) hb').trans (by simp[go_sem])) ((k.below.cell (p:=⟨w.heap.size+2,5,none⟩) hb').trans (by simp[go_sem])) (fun v kv=>?_) (fun v kv=>?_)
  ·exact this
  ·have:=jc a hDg1.rg (by omega) (.agg #[.bool a.neg,.slice a1 a.mag.length c1,.int .i64 a.exp]) v ⟨_,rfl,((h1.kept hK).kept k).kept kv⟩
   rw[ha]at this
   exact this
  ·have:=jc b hDg2.rg (by omega) (.agg #[.bool b.neg,.slice a2 b.mag.length c2,.int .i64 b.exp]) v ⟨_,rfl,((h2.kept hK).kept k).kept kv⟩
   rw[hb]at this
   exact this
 have hl2:=List.length_pos_iff.2 hbm
 obtain⟨sg2,hsg2,KG⟩:∃sg2:Int,(sg2==0)=false∧∀(a2:Option Addr) (c2:Nat) (w:World),Calls Tryz.prog 119 #[.agg #[.bool b.neg,.slice a2 b.mag.length c2,.int .i64 b.exp]] w fun e w'=>e=.returned (.int .i64 sg2)∧Kept w w':=by
  refine⟨if b.neg=true then -1 else 1,by split<;>decide,fun a2 c2 w=>?_⟩
  have:=ZP b.neg a2 b.mag.length c2 b.exp w
  rw[if_neg (by omega)]at this
  exact this
 obtain⟨p1,p2,p3,p4,p5,p6⟩:=qT a.neg a.mag a.exp ham ha
 obtain⟨q1,q2,q3,q4,q5,q6⟩:=qT b.neg b.mag b.exp hbm hb
 have hba:=zg _ _ (zJ a.mag p2)
 have hbb:=zg _ _ (zJ b.mag q2)
 have h0a:=QX a ha ham
 have hb0:=QX b hb hbm
 obtain⟨v1,v2⟩:=qhi a b ha hb ham hbm s hs1 hs3
 obtain⟨g1,g2⟩:=qew a b ha hb ham hbm
 obtain⟨k1,k2,k3⟩:=xz n hn
 obtain⟨c1',c2'⟩:=Zt n hn
 have hexr:-3000000≤qex a b∧qex a b≤3000000:=by unfold qex;omega
 obtain⟨h,hh⟩:∃h,qA a b/qU b=h:=⟨_,rfl⟩
 obtain⟨B,hB54,hB62,hB1,hB2⟩:∃B,54≤B∧B≤62∧2^(B-1)≤h∧h<2^B:=by
  rw[hh]at g1 g2
  by_cases h60:h<2^60
  ·exact⟨60,by decide,by decide,g1,h60⟩
  ·exact⟨61,by decide,by decide,Nat.not_lt.1 h60,g2⟩
 obtain⟨un,hun⟩:∃un,max (qex a b+(B:Int)-qM n) (qk n)=un:=⟨_,rfl⟩
 obtain⟨m,hm⟩:∃m:Nat,un-qex a b=(m:Int)+1:=⟨(un-qex a b-1).toNat,by omega⟩
 obtain⟨k,hk⟩:∃k,k=h/2^(m+1):=⟨_,rfl⟩
 obtain⟨F,hF⟩:∃F,F=(un-qk n).toNat*cbn n+k:=⟨_,rfl⟩
 have L:Ldz n h B (qex a b) un m k F:=⟨hun.symm,hm,hk,hF⟩
 obtain⟨u1,u2,u3⟩:=XC hn L hB1 hB2 hB54
 have hcp:0<cbn n:=by rw[c1'];exact qoj _
 have hce:cbn n%2=0:=by rcases hn with rfl|rfl<;>rfl
 have hC:=Xq (cbn n) (2^(qk n-s).toNat*(nv b.mag*2^(b.exp-s).toNat)) (nv a.mag*2^(a.exp-2*s).toNat) (nv b.mag*2^(qex a b+b.exp-2*s).toNat) h (qrs a b) (un-qk n).toNat m k F hcp hce (Nat.mul_pos (by omega) (qoj _)) (by rw[←hh];exact v1) v2 hk hF u2 (by rcases u3 with h|h;left;omega;right;exact h) (by
  rw[qop,←qol,←qop,←qol,Nat.mul_left_comm,←qol]
  congr 2
  omega)
 refine⟨_,_,_,_,_,_,_,hC,fun way hw a1 a2 c1 c2 w hT h1 h2=>?_⟩
 have KQ:∀u,Kept w u→_:=fun u ku=>Vv a b ha hb ham hbm a1 a2 c1 c2 u (h1.kept ku) (h2.kept ku)
 rw[hh]at KQ
 exact ql1 way _ n _ _ _ a.neg b.neg a1 a2 a.mag.length c1 b.mag.length c2 a.exp b.exp _ sg2 _ hsg2 _ _ _ _ w (KR way hw a1 a2 c1 c2 w h1 h2) (fun u _=>KG a2 c2 u) KQ (fun u ku=>qc7 way hw n hn (a.neg != b.neg) h B (qex a b) (qrs a b) un m k F L hB1 hB2 hB54 hB62 hexr.1 hexr.2 _ _ _ rfl rfl rfl u (hT.kept ku))
end Go.Proofs.YtaglkncdedeipaaGreatDoor
