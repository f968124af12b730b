/-  -/
import Derived.Test.YtnniljhdcplkgaaGreatDoorWs24
import Derived.Test.YtnniljhdcplkgaaGreatDoorWs25
namespace Go.Proofs.YtnniljhdcplkgaaGreatDoor
open Go.ChangeShapes Go.WideShapes Go.ChangeAt Go.RowKit
set_option maxHeartbeats 16000000
set_option maxRecDepth 100000
set_option linter.unusedVariables false
set_option linter.unusedSimpArgs false
theorem tmod_two (z:Int):(z.tmod 2=0↔z%2=0):=by
 constructor
 ·intro h
  have:=Int.mul_tdiv_add_tmod z 2
  omega
 ·intro h
  obtain⟨k,rfl⟩:∃k,z=2*k:=⟨z/2,by omega⟩
  exact Int.mul_tmod_right 2 k
theorem len_pos2 (r:Nat):decide (0<(digs r).length)=decide (r≠0):=by
 apply decide_eq_decide.2
 constructor
 ·intro h e
  rw[e]at h
  exact absurd h (by decide)
 ·intro h
  have h1:=nv_digs r
  cases hd:digs r with
  |nil=>rw[hd]at h1;exact absurd h1.symm h
  |cons a l=>simp
theorem rrootq_walk (n:Int)(k0 k1 k2 k3 k4 k5 k6 k7 k8:Int)(n1 n2:Bool)(a1 a2:Option Addr)(l1 c1 l2 c2:Nat)(hl1:0<l1)(x1 x2:Int)(hx1:-1048576≤x1∧x1≤1048576)(hx2:-1048576≤x2∧x2≤1048576)(A B M sh:Nat)(e0 Z:Int)(hA0:A≠0)(hB0:B≠0)(hAl:bl A≤60000)(hBl:bl B≤60000)(hsh:sh=((x1-x2)%2).toNat)(he0:x1-x2-(sh:Int)=2*e0)(hM:M=A*2^sh)(w:World)
  (hLa:RL w (.slice a1 l1 c1) (digs A)) (hLb:RL w (.slice a2 l2 c2) (digs B))
  (KOf:Hid (∀u,Calls Tryz.prog 45 #[.int .i64 n] u fun e w'=>e=.returned (.tuple #[.agg #[.int .i64 k0,.int .i64 k1,.int .i64 k2,.int .i64 k3,.int .i64 k4,.int .i64 k5,.int .i64 k6,.int .i64 k7,.int .i64 k8],.bool true])∧Kept u w'))
  (KC:Hid (∀(u:World) (s r:Nat) (v:Value) (more:Bool),bl B+200≤bl M+2*s→s≤40000→r*r≤M*2^(2*s)/B→M*2^(2*s)/B<(r+1)*(r+1)→more=(decide (M*2^(2*s)%B≠0)||decide (M*2^(2*s)/B≠r*r))→RL u v (digs r)→Calls Tryz.prog 58 #[.agg #[.int .i64 k0,.int .i64 k1,.int .i64 k2,.int .i64 k3,.int .i64 k4,.int .i64 k5,.int .i64 k6,.int .i64 k7,.int .i64 k8],.bool false,v,.int .i64 (e0-(s:Int)),.bool more,.int .i64 0] u fun e w'=>∃o,e=.returned (.tuple #[.int .i64 Z,.bool o])∧Kept u w')):
  Calls Tryz.prog 34 #[.agg #[.bool n1,.slice a1 l1 c1,.int .i64 x1],.agg #[.bool n2,.slice a2 l2 c2,.int .i64 x2],.int .i64 n] w fun e w'=>e=.returned (.int .i64 Z)∧Kept w w':=by
 obtain⟨X,hX⟩:∃X,X=((w.alloc (.cells #[.bool n1,.slice a1 l1 c1,.int .i64 x1] 43)).alloc (.cells #[.bool n2,.slice a2 l2 c2,.int .i64 x2] 43)):=⟨_,rfl⟩
 have hK:Kept w X:=by rw[hX];exact((Kept.refl w).alloc _ _).alloc _ _
 have HS:Hid (∀u,Kept X u→u.cell? ⟨w.heap.size,0,none⟩=some (.bool n1)∧u.cell? ⟨w.heap.size,1,none⟩=some (.slice a1 l1 c1)∧u.cell? ⟨w.heap.size,2,none⟩=some (.int .i64 x1)∧u.cell? ⟨w.heap.size+1,0,none⟩=some (.bool n2)∧u.cell? ⟨w.heap.size+1,1,none⟩=some (.slice a2 l2 c2)∧u.cell? ⟨w.heap.size+1,2,none⟩=some (.int .i64 x2)):=fun u k=>⟨(k.below.cell (p:=⟨w.heap.size,0,none⟩) (by rw[hX];simp<;>omega)).trans (by rw[hX];simp[go_sem]),(k.below.cell (p:=⟨w.heap.size,1,none⟩) (by rw[hX];simp<;>omega)).trans (by rw[hX];simp[go_sem]),(k.below.cell (p:=⟨w.heap.size,2,none⟩) (by rw[hX];simp<;>omega)).trans (by rw[hX];simp[go_sem]),(k.below.cell (p:=⟨w.heap.size+1,0,none⟩) (by rw[hX];simp<;>omega)).trans (by rw[hX];simp[go_sem]),(k.below.cell (p:=⟨w.heap.size+1,1,none⟩) (by rw[hX];simp<;>omega)).trans (by rw[hX];simp[go_sem]),(k.below.cell (p:=⟨w.heap.size+1,2,none⟩) (by rw[hX];simp<;>omega)).trans (by rw[hX];simp[go_sem])⟩
 have hl0:((l1:Int)==0)=false:=by rw[beq_eq_false_iff_ne];omega
 have hl1':¬l1=0:=by omega
 have hsh1:sh≤1:=by omega
 have hM0:M≠0:=by rw[hM];exact Nat.mul_ne_zero hA0 (Nat.ne_of_gt (Nat.two_pow_pos _))
 have hMl:bl M≤60001:=by rw[hM,bl_mul A sh hA0];omega
 obtain⟨y1,hy1⟩:∃y:Nat,y=2001:=⟨_,rfl⟩
 obtain⟨y5,hy5⟩:∃y:Nat,y=5000:=⟨_,rfl⟩
 have hlenA:(digs A).length≤y1:=digs_length_le A y1 (Nat.lt_of_lt_of_le (bl_pos A hA0).2.1 (Nat.pow_le_pow_right (by decide) (by omega)))
 have hlenB:(digs B).length≤y1:=digs_length_le B y1 (Nat.lt_of_lt_of_le (bl_pos B hB0).2.1 (Nat.pow_le_pow_right (by decide) (by omega)))
 have hlenM:(digs M).length≤y1:=digs_length_le M y1 (Nat.lt_of_lt_of_le (bl_pos M hM0).2.1 (Nat.pow_le_pow_right (by decide) (by omega)))
 have HLa:=(show Hid (∀u,Kept w u→RL u (.slice a1 l1 c1) (digs A))from fun u k=>hLa.kept k)
 have HLb:=(show Hid (∀u,Kept w u→RL u (.slice a2 l2 c2) (digs B))from fun u k=>hLb.kept k)
 have KBb:Hid (∀u,Kept w u→Calls Tryz.prog 55 #[.slice a2 l2 c2] u fun e w'=>e=.returned (.int .i64 (bl B:Int))∧u=w'):=fun u k=>natBits_any u B _ (HLb.out u k) (by omega)
 have KBm:Hid (∀u v,RL u v (digs M)→Calls Tryz.prog 55 #[v] u fun e w'=>e=.returned (.int .i64 (bl M:Int))∧u=w'):=fun u v h=>natBits_any u M v h (by omega)
 have KS1:Hid (∀u,Kept w u→Calls Tryz.prog 54 #[.slice a1 l1 c1,.int .i64 1] u fun e w'=>(∃r,e=.returned r∧RL w' r (digs (A*2^1)))∧Kept u w'):=fun u k=>by
  refine(natShl_any u A 1 _ (HLa.out u k) (by omega) (by omega)).mono ?_
  rintro e w' ⟨⟨r,rfl,hr⟩,hk⟩
  exact⟨⟨r,rfl,hr.rl⟩,hk⟩
 have hPl:∀s:Nat,s≤40000→(digs (M*2^(2*s))).length≤y5∧bl (M*2^(2*s))=bl M+2*s:=fun s hs=>by
  have e:=bl_mul M (2*s) hM0
  obtain⟨P,hP⟩:∃P,M*2^(2*s)=P:=⟨_,rfl⟩
  rw[hP]at e ⊢
  have hP0:P≠0:=by rw[←hP];exact Nat.mul_ne_zero hM0 (Nat.ne_of_gt (Nat.two_pow_pos _))
  exact⟨digs_length_le P y5 (Nat.lt_of_lt_of_le (bl_pos P hP0).2.1 (Nat.pow_le_pow_right (by decide) (by omega))),e⟩
 have HPL:=(show Hid (∀s:Nat,s≤40000→(digs (M*2^(2*s))).length≤y5∧bl (M*2^(2*s))=bl M+2*s)from hPl)
 have KS2:Hid (∀u v (s:Nat),s≤40000→RL u v (digs M)→Calls Tryz.prog 54 #[v,.int .i64 ((2*s:Nat):Int)] u fun e w'=>(∃r,e=.returned r∧RL w' r (digs (M*2^(2*s))))∧Kept u w'):=fun u v s hs h=>by
  refine(natShl_any u M (2*s) v h (by omega) (by omega)).mono ?_
  rintro e w' ⟨⟨r,rfl,hr⟩,hk⟩
  exact⟨⟨r,rfl,hr.rl⟩,hk⟩
 have KD:Hid (∀u v (s:Nat),s≤40000→bl B+200≤bl M+2*s→Kept w u→RL u v (digs (M*2^(2*s)))→Calls Tryz.prog 56 #[v,.slice a2 l2 c2] u fun e w'=>∃r1 n2 b2 d2,e=.returned (.tuple #[r1,.slice b2 n2 d2])∧RL w' r1 (digs (M*2^(2*s)/B))∧decide (0<n2)=decide (M*2^(2*s)%B≠0)∧Kept u w'):=fun u v s hs hb k h=>by
  obtain⟨p1,p2⟩:=HPL.out s hs
  refine(natDiv_any u _ B v _ h (HLb.out u k) hB0 (by omega) (by omega) (by omega)).mono ?_
  rintro e w' ⟨r1,r2,rfl,h1,h2,h3⟩
  obtain⟨ao,c,rfl,-⟩:=h2
  exact⟨r1,_,ao,c,rfl,h1,len_pos2 _,h3⟩
 have KRt:Hid (∀u v (s:Nat),s≤40000→RL u v (digs (M*2^(2*s)/B))→Calls Tryz.prog 57 #[v] u fun e w'=>∃q r1 n2 b2 d2,e=.returned (.tuple #[r1,.slice b2 n2 d2])∧q*q≤M*2^(2*s)/B∧M*2^(2*s)/B<(q+1)*(q+1)∧RL w' r1 (digs q)∧decide (0<n2)=decide (M*2^(2*s)/B≠q*q)∧Kept u w'):=fun u v s hs h=>by
  obtain⟨p1,p2⟩:=HPL.out s hs
  refine(natRoot_any u _ v h (by have:=digs_len_le _ _ (Nat.div_le_self (M*2^(2*s)) B);omega)).mono ?_
  rintro e w' ⟨q,r1,r2,rfl,g1,g2,h1,h2,h3⟩
  obtain⟨ao,c,rfl,-⟩:=h2
  refine⟨q,r1,_,ao,c,rfl,g1,g2,h1,?_,h3⟩
  rw[len_pos2]
  apply decide_eq_decide.2
  omega
 obtain⟨d,hd⟩:∃d,x1-x2=d:=⟨_,rfl⟩
 have z1:IntKind.i64.wrap (x1-x2)=d:=by rw[wrap_i64];omega
 have z2:IntKind.i64.wrap (d-1)=d-1:=by rw[wrap_i64];omega
 have hdb:-2097152≤d∧d≤2097152:=by omega
 rw[hd]at he0 hsh
 have hcs:(d.tmod 2=0∧sh=0∧d=2*e0)∨((d.tmod 2==0)=false∧(d.tmod 2 != 0)=true∧sh=1∧d-1=2*e0):=by
  have:=tmod_two d
  rcases(show d%2=0∨d%2=1 by omega)with h|h
  ·exact .inl ⟨this.2 h,by omega,by omega⟩
  ·have h3:¬d.tmod 2=0:=by omega
   exact .inr ⟨by simpa using h3,by simpa using h3,by omega,by omega⟩
 have HMM:=(show Hid (M=A*2^sh)from hM)
 have HBL:=(show Hid (bl B≤60000∧bl M≤60001)from⟨hBl,hMl⟩)
 have HCS:=(show Hid ((d.tmod 2=0∧sh=0∧d=2*e0)∨((d.tmod 2==0)=false∧(d.tmod 2 != 0)=true∧sh=1∧d-1=2*e0))from hcs)
 have he0b:-1100000≤e0∧e0≤1100000:=by omega
 have kd:∀u,Kept X u→Kept w u:=fun u k=>hK.trans k
 clear hy1 hy5 hM hcs hsh he0 hd hLa hLb hlenA hlenB hlenM hPl hA0 hB0 hM0 hAl hBl hMl hsh1
 go_enter Tryz.func34,Tryz.ntmps34
 go_upto_region 1 with fail
 rw[←hX]
 clear hX
 go_wp2_with fail
 refine(KOf.out _).mono ?_
 rintro e w1 ⟨rfl,kw1⟩
 obtain⟨Y,hY⟩:∃Y,Y=w1.alloc (.cells #[.int .i64 k0,.int .i64 k1,.int .i64 k2,.int .i64 k3,.int .i64 k4,.int .i64 k5,.int .i64 k6,.int .i64 k7,.int .i64 k8] 66):=⟨_,rfl⟩
 have kY:Kept X Y:=by rw[hY];exact kw1.alloc _ _
 obtain⟨D,hD⟩:∃D,D=w1.heap.size:=⟨_,rfl⟩
 have HKD:Hid (∀u,Kept Y u→K9 u D (.int .i64 k0) (.int .i64 k1) (.int .i64 k2) (.int .i64 k3) (.int .i64 k4) (.int .i64 k5) (.int .i64 k6) (.int .i64 k7) (.int .i64 k8)):=fun u k=>by
  have:K9 Y D (.int .i64 k0) (.int .i64 k1) (.int .i64 k2) (.int .i64 k3) (.int .i64 k4) (.int .i64 k5) (.int .i64 k6) (.int .i64 k7) (.int .i64 k8):=by rw[hY,hD];exact K9.new w1 _ _ _ _ _ _ _ _ _ _
  exact this.kept k
 obtain⟨p0,p1,p2,q0,q1,q2⟩:=HS.out _ kY
 go_upto_region 2 with fail
 rw[←hY,←hD]
 clear hY hD
 go_upto_region 4 with fail
 clear p0 p1 p2 q0 q1 q2
 have HKY:=(show Hid (Kept X Y)from kY)
 refine wp_region_held_drew (S:=fun u=>u.cell? ⟨w.heap.size,0,none⟩=some (.bool n1)∧u.cell? ⟨w.heap.size,1,none⟩=some (.slice a1 l1 c1)∧u.cell? ⟨w.heap.size,2,none⟩=some (.int .i64 x1)∧u.cell? ⟨w.heap.size+1,0,none⟩=some (.bool n2)∧u.cell? ⟨w.heap.size+1,1,none⟩=some (.slice a2 l2 c2)∧u.cell? ⟨w.heap.size+1,2,none⟩=some (.int .i64 x2)) (by kernel_rfl) (HS.out _ kY.drew) (fun hHeld=>?_)
 refine tk (i:=0) (v:=?_) rfl ?_
 simp only[Act.put,zA,zB,zC,zD,zE,zF]
 refine tk (i:=1) (v:=?_) rfl ?_
 simp only[Act.put,zA,zB,zC,zD,zE,zF]
 refine tk (i:=2) (v:=?_) rfl ?_
 simp only[Act.put,zA,zB,zC,zD,zE,zF]
 refine tk (i:=3) (v:=?_) rfl ?_
 simp only[Act.put,zA,zB,zC,zD,zE,zF]
 refine tk (i:=4) (v:=?_) rfl ?_
 simp only[Act.put,zA,zB,zC,zD,zE,zF]
 refine tk (i:=5) (v:=?_) rfl ?_
 simp only[Act.put,zA,zB,zC,zD,zE,zF]
 refine tk (i:=6) (v:=?_) rfl ?_
 simp only[Act.put,zA,zB,zC,zD,zE,zF]
 refine tk (i:=7) (v:=?_) rfl ?_
 simp only[Act.put,zA,zB,zC,zD,zE,zF]
 refine tk (i:=8) (v:=?_) rfl ?_
 simp only[Act.put,zA,zB,zC,zD,zE,zF]
 refine wpAnyH_done (by kernel_rfl) ?_ _
 have kY2:=kY.drew
 clear kY hHeld
 go_upto_region 5 with fail
 have hjoin:∃(u:World) (vm:Value),True:=⟨w,.bool true,trivial⟩
 clear hjoin
 rcases HCS.out with ⟨h1,h2,h3⟩|⟨h1,h1',h2,h3⟩
 ·have hVM:∀u,Kept w u→RL u (.slice a1 l1 c1) (digs M):=fun u k=>by
   have:=HLa.out u k
   rw[HMM.out,h2,Nat.pow_zero,Nat.mul_one]
   exact this
  obtain⟨vm,hvm⟩:∃vm,vm=Value.slice a1 l1 c1:=⟨_,rfl⟩
  have HVM:=(show Hid (∀u,Kept Y.drew u→RL u vm (digs M))from fun u k=>by rw[hvm];exact hVM u (kd u (kY2.trans k)))
  obtain⟨V,hV⟩:∃V,V=Y.drew:=⟨_,rfl⟩
  rw[←hV]at HVM kY2
  have HYV:=(show Hid (Kept Y V)from by rw[hV];exact(Kept.refl Y).drew)
  subst h3
  clear hVM h2 HCS KS1 z1 z2
  go_upto_region 8 with fail
  rw[←hV]
  (try rw[←hvm])
  clear hV hvm h1
  have hdd:(2*e0).tdiv 2=e0:=Int.mul_tdiv_cancel_left e0 (by decide)
  have z5:IntKind.i64.wrap e0=e0:=by rw[wrap_i64];omega
  obtain⟨bM,hbM⟩:∃bM,bl M=bM:=⟨_,rfl⟩
  obtain⟨bB,hbB⟩:∃bB,bl B=bB:=⟨_,rfl⟩
  have hbb:bB≤60000∧bM≤60001:=by rw[←hbM,←hbB];exact HBL.out
  rw[hbM]at KBm KC KD
  rw[hbB]at KBb KC KD
  clear hbM hbB HBL HPL HLa HLb
  go_wp2_with fail
  go_loopw [11] (fun sv wr=>∃s:Nat,sv=.int .i64 (s:Int)∧s≤40000∧Kept V wr) (fun sv _=>40000-(intOf sv).toNat)
  case atStart=>exact⟨100,rfl,by omega,Kept.refl _⟩
  case round=>
   obtain⟨s,rfl,hs,kr⟩:=hrel
   have kXr:=kY2.trans kr
   obtain⟨s2,hs2⟩:∃s2:Nat,2*s=s2:=⟨_,rfl⟩
   obtain⟨t1,ht1⟩:∃t1:Nat,bM+s2=t1:=⟨_,rfl⟩
   obtain⟨t2,ht2⟩:∃t2:Nat,bB+200=t2:=⟨_,rfl⟩
   have y1:IntKind.i64.wrap (2*(s:Int))=(s2:Int):=by rw[wrap_i64];omega
   have y2:IntKind.i64.wrap ((bM:Int)+(s2:Int))=(t1:Int):=by rw[wrap_i64];omega
   have y3:IntKind.i64.wrap ((bB:Int)+200)=(t2:Int):=by rw[wrap_i64];omega
   have HT:=(show Hid (2*s=s2∧bM+s2=t1∧bB+200=t2)from⟨hs2,ht1,ht2⟩)
   clear hs2 ht1 ht2
   go_upto_region 9 with fail
   refine wp_region_held_drew (S:=fun u=>u.cell? ⟨w.heap.size+1,1,none⟩=some (.slice a2 l2 c2)) (by kernel_rfl) ((HS.out _ kXr.drew).2.2.2.2.1) (fun hHeld=>?_)
   refine tk (i:=0) (v:=?_) rfl ?_
   simp only[Act.put,zA,zB,zC,zD,zE,zF]
   refine tk (i:=2) (v:=?_) rfl ?_
   simp only[Act.put,zA,zB,zC,zD,zE,zF]
   refine tk (i:=3) (v:=?_) rfl ?_
   simp only[Act.put,zA,zB,zC,zD,zE,zF]
   refine tk (i:=5) (v:=?_) rfl ?_
   simp only[Act.put,zA,zB,zC,zD,zE,zF]
   refine tk (i:=6) (v:=?_) rfl ?_
   simp only[Act.put,zA,zB,zC,zD,zE,zF]
   refine wpAnyH_ready (rs:=[1]) (by kernel_rfl) (by simp) ?_
   refine AllReadyH.cons rfl (fun K hK9=>?_) AllReadyH.nil
   go_simp
   go_wp2_with fail
   refine(KBm.out _ vm (HVM.out _ kr.drew)).mono ?_
   rintro e ub ⟨rfl,rfl⟩
   have eb:=(HS.out _ kXr.drew).2.2.2.2.1
   refine hK9.out _ _ eb (fun hHeldb=>?_)
   clear hK9 K
   refine tk (i:=4) (v:=?_) rfl ?_
   simp only[Act.put,zA,zB,zC,zD,zE,zF]
   refine wpAnyH_ready (rs:=[7]) (by kernel_rfl) (by simp) ?_
   refine AllReadyH.cons rfl (fun K hK9=>?_) AllReadyH.nil
   go_simp
   go_wp2_with fail
   refine(KBb.out _ (kd _ kXr.drew)).mono ?_
   rintro e uc ⟨rfl,rfl⟩
   have ec:=(HS.out _ kXr.drew).2.2.2.2.1
   refine hK9.out _ _ ec (fun hHeldc=>?_)
   clear hK9 K
   refine tk (i:=8) (v:=?_) rfl ?_
   simp only[Act.put,zA,zB,zC,zD,zE,zF]
   refine tk (i:=9) (v:=?_) rfl ?_
   simp only[Act.put,zA,zB,zC,zD,zE,zF]
   refine wpAnyH_done (by kernel_rfl) ?_ _
   clear hHeld hHeldb hHeldc eb ec
   by_cases hlt:t1<t2
   ·have hlti:(t1:Int)<(t2:Int):=by omega
    have y4:IntKind.i64.wrap ((s:Int)+100)=((s+100:Nat):Int):=by rw[wrap_i64];omega
    go_wp2_with fail
    go_roundw
    case rel=>exact⟨s+100,by first|rfl|go_num,by have:=HT.out;omega,kr.drew⟩
    case measure=>simp[intOf];have:=HT.out;omega
   ·have hlti:¬(t1:Int)<(t2:Int):=by omega
    have hge:bB+200≤bM+2*s:=by have:=HT.out;omega
    have HGE:=(show Hid (bB+200≤bM+2*s)from hge)
    have hs2:((2*s:Nat):Int)=(s2:Int):=by have:=HT.out.1;omega
    have KSs:∀u,Kept V u→_:=fun u k=>KS2.out u vm s hs (HVM.out u k)
    rw[hs2]at KSs
    have KSS:=(show Hid (∀u,Kept V u→Calls Tryz.prog 54 #[vm,.int .i64 (s2:Int)] u fun e w'=>(∃r,e=.returned r∧RL w' r (digs (M*2^(2*s))))∧Kept u w')from KSs)
    have z6:IntKind.i64.wrap (e0-(s:Int))=e0-(s:Int):=by rw[wrap_i64];omega
    have kr2:=kr.drew
    have kXr2:=kXr.drew
    clear hge hs2 KSs y2 y3 KBm KBb KS2
    go_upto_region 11 with fail
    refine wp_region_held_drew (S:=fun u=>u.cell? ⟨w.heap.size+1,1,none⟩=some (.slice a2 l2 c2)) (by kernel_rfl) ((HS.out _ kXr2.drew).2.2.2.2.1) (fun hHeld=>?_)
    refine tk (i:=0) (v:=?_) rfl ?_
    simp only[Act.put,zA,zB,zC,zD,zE,zF]
    refine tk (i:=1) (v:=?_) rfl ?_
    simp only[Act.put,zA,zB,zC,zD,zE,zF]
    refine tk (i:=2) (v:=?_) rfl ?_
    simp only[Act.put,zA,zB,zC,zD,zE,zF]
    refine tk (i:=4) (v:=?_) rfl ?_
    simp only[Act.put,zA,zB,zC,zD,zE,zF]
    refine tk (i:=5) (v:=?_) rfl ?_
    simp only[Act.put,zA,zB,zC,zD,zE,zF]
    refine wpAnyH_ready (rs:=[3]) (by kernel_rfl) (by simp) ?_
    refine AllReadyH.cons rfl (fun K hK9=>?_) AllReadyH.nil
    go_simp
    go_wp2_with fail
    refine(KSS.out _ kr2.drew).mono ?_
    rintro e ue ⟨⟨rs,rfl,hrs⟩,ke⟩
    have ee:=(HS.out _ (kXr2.drew.trans ke)).2.2.2.2.1
    refine hK9.out _ _ ee (fun hHelde=>?_)
    clear hK9 K
    refine wpAnyH_ready (rs:=[6]) (by kernel_rfl) (by simp) ?_
    refine AllReadyH.cons rfl (fun K hK9=>?_) AllReadyH.nil
    go_simp
    go_wp2_with fail
    refine(KD.out _ rs s hs HGE.out (kd _ (kXr2.drew.trans ke)) hrs).mono ?_
    rintro e uf ⟨r1,nn,bb2,dd2,rfl,hr1,hn2,kf⟩
    have ef:=(HS.out _ (kXr2.drew.trans (ke.trans kf))).2.2.2.2.1
    refine hK9.out _ _ ef (fun hHeldf=>?_)
    clear hK9 K
    refine tk (i:=7) (v:=?_) rfl ?_
    simp only[Act.put,zA,zB,zC,zD,zE,zF]
    refine tk (i:=8) (v:=?_) rfl ?_
    simp only[Act.put,zA,zB,zC,zD,zE,zF]
    refine tk (i:=9) (v:=?_) rfl ?_
    simp only[Act.put,zA,zB,zC,zD,zE,zF]
    refine tk (i:=10) (v:=?_) rfl ?_
    simp only[Act.put,zA,zB,zC,zD,zE,zF]
    refine tk (i:=11) (v:=?_) rfl ?_
    simp only[Act.put,zA,zB,zC,zD,zE,zF]
    refine wpAnyH_done (by kernel_rfl) ?_ _
    clear hHeld hHelde hHeldf ee ef
    have kr4:=kr2.drew.trans (ke.trans kf)
    have kXr4:=kXr2.drew.trans (ke.trans kf)
    go_upto_region 12 with fail
    go_wp2_with fail
    refine(KRt.out _ r1 s hs hr1).mono ?_
    rintro e u5 ⟨q,r2,n3,b3,d3,rfl,g1,g2,hr2,hn3,k5⟩
    obtain⟨g,j0,j1,j2,j3,j4,j5,j6,j7,j8⟩:=HKD.out _ (HYV.out.trans (kr4.trans k5))
    have HQ:=(show Hid (decide (0<nn)=decide (M*2^(2*s)%B≠0)∧decide (0<n3)=decide (M*2^(2*s)/B≠q*q)∧q*q≤M*2^(2*s)/B∧M*2^(2*s)/B<(q+1)*(q+1)∧RL u5 r2 (digs q))from⟨hn2,hn3,g1,g2,hr2⟩)
    have HK5:=(show Hid (Kept w u5)from kd _ (kXr4.trans k5))
    clear hr1 hr2 hn2 hn3 g1 g2 kr4 kXr4 k5 KRt KD KSS
    by_cases c2:0<nn
    ·have c2i:(0:Int)<(nn:Int):=by omega
     go_wp2_with fail
     refine(KC.out u5 s q r2 true HGE.out hs HQ.out.2.2.1 HQ.out.2.2.2.1 (by rw[←HQ.out.1,decide_eq_true c2];rfl) HQ.out.2.2.2.2).mono ?_
     rintro e u6 ⟨o,rfl,k6⟩
     go_wp2_with fail
     go_ret
     exact⟨rfl,HK5.out.trans k6⟩
    ·have c2i:¬(0:Int)<(nn:Int):=by omega
     by_cases c3:0<n3
     ·have c3i:(0:Int)<(n3:Int):=by omega
      go_wp2_with fail
      refine(KC.out u5 s q r2 true HGE.out hs HQ.out.2.2.1 HQ.out.2.2.2.1 (by rw[←HQ.out.1,←HQ.out.2.1,decide_eq_true c3];simp) HQ.out.2.2.2.2).mono ?_
      rintro e u6 ⟨o,rfl,k6⟩
      go_wp2_with fail
      go_ret
      exact⟨rfl,HK5.out.trans k6⟩
     ·have c3i:¬(0:Int)<(n3:Int):=by omega
      go_wp2_with fail
      refine(KC.out u5 s q r2 false HGE.out hs HQ.out.2.2.1 HQ.out.2.2.2.1 (by rw[←HQ.out.1,←HQ.out.2.1,decide_eq_false c2,decide_eq_false c3];rfl) HQ.out.2.2.2.2).mono ?_
      rintro e u6 ⟨o,rfl,k6⟩
      go_wp2_with fail
      go_ret
      exact⟨rfl,HK5.out.trans k6⟩
 ·have z3:IntKind.i64.wrap (d-1)=2*e0:=by rw[z2];exact h3
  clear z2
  go_upto_region 6 with fail
  go_wp2_with fail
  refine(KS1.out _ (kd _ kY2)).mono ?_
  rintro e V ⟨⟨vm,rfl,hr⟩,kV⟩
  have HVM:=(show Hid (∀u,Kept V u→RL u vm (digs M))from fun u k=>by
   have:=hr.kept k
   rw[HMM.out,h2]
   exact this)
  have HYV:=(show Hid (Kept Y V)from(Kept.refl Y).drew.trans kV)
  replace kY2:=kY2.trans kV
  clear h2 h3 HCS KS1 hr kV
  go_upto_region 8 with fail
  clear h1 h1' z3 z1
  have hdd:(2*e0).tdiv 2=e0:=Int.mul_tdiv_cancel_left e0 (by decide)
  have z5:IntKind.i64.wrap e0=e0:=by rw[wrap_i64];omega
  obtain⟨bM,hbM⟩:∃bM,bl M=bM:=⟨_,rfl⟩
  obtain⟨bB,hbB⟩:∃bB,bl B=bB:=⟨_,rfl⟩
  have hbb:bB≤60000∧bM≤60001:=by rw[←hbM,←hbB];exact HBL.out
  rw[hbM]at KBm KC KD
  rw[hbB]at KBb KC KD
  clear hbM hbB HBL HPL HLa HLb
  go_wp2_with fail
  go_loopw [11] (fun sv wr=>∃s:Nat,sv=.int .i64 (s:Int)∧s≤40000∧Kept V wr) (fun sv _=>40000-(intOf sv).toNat)
  case atStart=>exact⟨100,rfl,by omega,Kept.refl _⟩
  case round=>
   obtain⟨s,rfl,hs,kr⟩:=hrel
   have kXr:=kY2.trans kr
   obtain⟨s2,hs2⟩:∃s2:Nat,2*s=s2:=⟨_,rfl⟩
   obtain⟨t1,ht1⟩:∃t1:Nat,bM+s2=t1:=⟨_,rfl⟩
   obtain⟨t2,ht2⟩:∃t2:Nat,bB+200=t2:=⟨_,rfl⟩
   have y1:IntKind.i64.wrap (2*(s:Int))=(s2:Int):=by rw[wrap_i64];omega
   have y2:IntKind.i64.wrap ((bM:Int)+(s2:Int))=(t1:Int):=by rw[wrap_i64];omega
   have y3:IntKind.i64.wrap ((bB:Int)+200)=(t2:Int):=by rw[wrap_i64];omega
   have HT:=(show Hid (2*s=s2∧bM+s2=t1∧bB+200=t2)from⟨hs2,ht1,ht2⟩)
   clear hs2 ht1 ht2
   go_upto_region 9 with fail
   refine wp_region_held_drew (S:=fun u=>u.cell? ⟨w.heap.size+1,1,none⟩=some (.slice a2 l2 c2)) (by kernel_rfl) ((HS.out _ kXr.drew).2.2.2.2.1) (fun hHeld=>?_)
   refine tk (i:=0) (v:=?_) rfl ?_
   simp only[Act.put,zA,zB,zC,zD,zE,zF]
   refine tk (i:=2) (v:=?_) rfl ?_
   simp only[Act.put,zA,zB,zC,zD,zE,zF]
   refine tk (i:=3) (v:=?_) rfl ?_
   simp only[Act.put,zA,zB,zC,zD,zE,zF]
   refine tk (i:=5) (v:=?_) rfl ?_
   simp only[Act.put,zA,zB,zC,zD,zE,zF]
   refine tk (i:=6) (v:=?_) rfl ?_
   simp only[Act.put,zA,zB,zC,zD,zE,zF]
   refine wpAnyH_ready (rs:=[1]) (by kernel_rfl) (by simp) ?_
   refine AllReadyH.cons rfl (fun K hK9=>?_) AllReadyH.nil
   go_simp
   go_wp2_with fail
   refine(KBm.out _ vm (HVM.out _ kr.drew)).mono ?_
   rintro e ub ⟨rfl,rfl⟩
   have eb:=(HS.out _ kXr.drew).2.2.2.2.1
   refine hK9.out _ _ eb (fun hHeldb=>?_)
   clear hK9 K
   refine tk (i:=4) (v:=?_) rfl ?_
   simp only[Act.put,zA,zB,zC,zD,zE,zF]
   refine wpAnyH_ready (rs:=[7]) (by kernel_rfl) (by simp) ?_
   refine AllReadyH.cons rfl (fun K hK9=>?_) AllReadyH.nil
   go_simp
   go_wp2_with fail
   refine(KBb.out _ (kd _ kXr.drew)).mono ?_
   rintro e uc ⟨rfl,rfl⟩
   have ec:=(HS.out _ kXr.drew).2.2.2.2.1
   refine hK9.out _ _ ec (fun hHeldc=>?_)
   clear hK9 K
   refine tk (i:=8) (v:=?_) rfl ?_
   simp only[Act.put,zA,zB,zC,zD,zE,zF]
   refine tk (i:=9) (v:=?_) rfl ?_
   simp only[Act.put,zA,zB,zC,zD,zE,zF]
   refine wpAnyH_done (by kernel_rfl) ?_ _
   clear hHeld hHeldb hHeldc eb ec
   by_cases hlt:t1<t2
   ·have hlti:(t1:Int)<(t2:Int):=by omega
    have y4:IntKind.i64.wrap ((s:Int)+100)=((s+100:Nat):Int):=by rw[wrap_i64];omega
    go_wp2_with fail
    go_roundw
    case rel=>exact⟨s+100,by first|rfl|go_num,by have:=HT.out;omega,kr.drew⟩
    case measure=>simp[intOf];have:=HT.out;omega
   ·have hlti:¬(t1:Int)<(t2:Int):=by omega
    have hge:bB+200≤bM+2*s:=by have:=HT.out;omega
    have HGE:=(show Hid (bB+200≤bM+2*s)from hge)
    have hs2:((2*s:Nat):Int)=(s2:Int):=by have:=HT.out.1;omega
    have KSs:∀u,Kept V u→_:=fun u k=>KS2.out u vm s hs (HVM.out u k)
    rw[hs2]at KSs
    have KSS:=(show Hid (∀u,Kept V u→Calls Tryz.prog 54 #[vm,.int .i64 (s2:Int)] u fun e w'=>(∃r,e=.returned r∧RL w' r (digs (M*2^(2*s))))∧Kept u w')from KSs)
    have z6:IntKind.i64.wrap (e0-(s:Int))=e0-(s:Int):=by rw[wrap_i64];omega
    have kr2:=kr.drew
    have kXr2:=kXr.drew
    clear hge hs2 KSs y2 y3 KBm KBb KS2
    go_upto_region 11 with fail
    refine wp_region_held_drew (S:=fun u=>u.cell? ⟨w.heap.size+1,1,none⟩=some (.slice a2 l2 c2)) (by kernel_rfl) ((HS.out _ kXr2.drew).2.2.2.2.1) (fun hHeld=>?_)
    refine tk (i:=0) (v:=?_) rfl ?_
    simp only[Act.put,zA,zB,zC,zD,zE,zF]
    refine tk (i:=1) (v:=?_) rfl ?_
    simp only[Act.put,zA,zB,zC,zD,zE,zF]
    refine tk (i:=2) (v:=?_) rfl ?_
    simp only[Act.put,zA,zB,zC,zD,zE,zF]
    refine tk (i:=4) (v:=?_) rfl ?_
    simp only[Act.put,zA,zB,zC,zD,zE,zF]
    refine tk (i:=5) (v:=?_) rfl ?_
    simp only[Act.put,zA,zB,zC,zD,zE,zF]
    refine wpAnyH_ready (rs:=[3]) (by kernel_rfl) (by simp) ?_
    refine AllReadyH.cons rfl (fun K hK9=>?_) AllReadyH.nil
    go_simp
    go_wp2_with fail
    refine(KSS.out _ kr2.drew).mono ?_
    rintro e ue ⟨⟨rs,rfl,hrs⟩,ke⟩
    have ee:=(HS.out _ (kXr2.drew.trans ke)).2.2.2.2.1
    refine hK9.out _ _ ee (fun hHelde=>?_)
    clear hK9 K
    refine wpAnyH_ready (rs:=[6]) (by kernel_rfl) (by simp) ?_
    refine AllReadyH.cons rfl (fun K hK9=>?_) AllReadyH.nil
    go_simp
    go_wp2_with fail
    refine(KD.out _ rs s hs HGE.out (kd _ (kXr2.drew.trans ke)) hrs).mono ?_
    rintro e uf ⟨r1,nn,bb2,dd2,rfl,hr1,hn2,kf⟩
    have ef:=(HS.out _ (kXr2.drew.trans (ke.trans kf))).2.2.2.2.1
    refine hK9.out _ _ ef (fun hHeldf=>?_)
    clear hK9 K
    refine tk (i:=7) (v:=?_) rfl ?_
    simp only[Act.put,zA,zB,zC,zD,zE,zF]
    refine tk (i:=8) (v:=?_) rfl ?_
    simp only[Act.put,zA,zB,zC,zD,zE,zF]
    refine tk (i:=9) (v:=?_) rfl ?_
    simp only[Act.put,zA,zB,zC,zD,zE,zF]
    refine tk (i:=10) (v:=?_) rfl ?_
    simp only[Act.put,zA,zB,zC,zD,zE,zF]
    refine tk (i:=11) (v:=?_) rfl ?_
    simp only[Act.put,zA,zB,zC,zD,zE,zF]
    refine wpAnyH_done (by kernel_rfl) ?_ _
    clear hHeld hHelde hHeldf ee ef
    have kr4:=kr2.drew.trans (ke.trans kf)
    have kXr4:=kXr2.drew.trans (ke.trans kf)
    go_upto_region 12 with fail
    go_wp2_with fail
    refine(KRt.out _ r1 s hs hr1).mono ?_
    rintro e u5 ⟨q,r2,n3,b3,d3,rfl,g1,g2,hr2,hn3,k5⟩
    obtain⟨g,j0,j1,j2,j3,j4,j5,j6,j7,j8⟩:=HKD.out _ (HYV.out.trans (kr4.trans k5))
    have HQ:=(show Hid (decide (0<nn)=decide (M*2^(2*s)%B≠0)∧decide (0<n3)=decide (M*2^(2*s)/B≠q*q)∧q*q≤M*2^(2*s)/B∧M*2^(2*s)/B<(q+1)*(q+1)∧RL u5 r2 (digs q))from⟨hn2,hn3,g1,g2,hr2⟩)
    have HK5:=(show Hid (Kept w u5)from kd _ (kXr4.trans k5))
    clear hr1 hr2 hn2 hn3 g1 g2 kr4 kXr4 k5 KRt KD KSS
    by_cases c2:0<nn
    ·have c2i:(0:Int)<(nn:Int):=by omega
     go_wp2_with fail
     refine(KC.out u5 s q r2 true HGE.out hs HQ.out.2.2.1 HQ.out.2.2.2.1 (by rw[←HQ.out.1,decide_eq_true c2];rfl) HQ.out.2.2.2.2).mono ?_
     rintro e u6 ⟨o,rfl,k6⟩
     go_wp2_with fail
     go_ret
     exact⟨rfl,HK5.out.trans k6⟩
    ·have c2i:¬(0:Int)<(nn:Int):=by omega
     by_cases c3:0<n3
     ·have c3i:(0:Int)<(n3:Int):=by omega
      go_wp2_with fail
      refine(KC.out u5 s q r2 true HGE.out hs HQ.out.2.2.1 HQ.out.2.2.2.1 (by rw[←HQ.out.1,←HQ.out.2.1,decide_eq_true c3];simp) HQ.out.2.2.2.2).mono ?_
      rintro e u6 ⟨o,rfl,k6⟩
      go_wp2_with fail
      go_ret
      exact⟨rfl,HK5.out.trans k6⟩
     ·have c3i:¬(0:Int)<(n3:Int):=by omega
      go_wp2_with fail
      refine(KC.out u5 s q r2 false HGE.out hs HQ.out.2.2.1 HQ.out.2.2.2.1 (by rw[←HQ.out.1,←HQ.out.2.1,decide_eq_false c2,decide_eq_false c3];rfl) HQ.out.2.2.2.2).mono ?_
      rintro e u6 ⟨o,rfl,k6⟩
      go_wp2_with fail
      go_ret
      exact⟨rfl,HK5.out.trans k6⟩
end Go.Proofs.YtnniljhdcplkgaaGreatDoor
