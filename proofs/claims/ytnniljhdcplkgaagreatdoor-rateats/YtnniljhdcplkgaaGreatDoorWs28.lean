/-  -/
import Derived.Test.YtnniljhdcplkgaaGreatDoorWs27
import Derived.Test.YtnniljhdcplkgaaGreatDoorWs19
import Derived.Test.YtnniljhdcplkgaaGreatDoorWs11
namespace Go.Proofs.YtnniljhdcplkgaaGreatDoor
open Go.ChangeShapes Go.WideShapes Go.ChangeAt Go.RowKit
set_option maxHeartbeats 16000000
set_option maxRecDepth 100000
set_option linter.unusedVariables false
set_option linter.unusedSimpArgs false
theorem dg_shift (A j i:Nat):dg (A/2^(30*j)) i=dg A (j+i):=by
 unfold dg
 rw[Nat.div_div_eq_div_mul,←Nat.pow_add,←Nat.mul_add]
theorem dg_cons_zero (R d:Nat)(hd:d<1073741824):dg (R*1073741824+d) 0=d:=by
 unfold dg
 rw[Nat.mul_zero,Nat.pow_zero,Nat.div_one]
 omega
theorem dg_cons_succ (R d i:Nat)(hd:d<1073741824):dg (R*1073741824+d) (i+1)=dg R i:=by
 unfold dg
 rw[show 30*(i+1)=30+30*i by omega,Nat.pow_add,←Nat.div_div_eq_div_mul,show(R*1073741824+d)/2^30=R by rw[show(2:Nat)^30=1073741824 by decide];omega]
theorem rest_step (R i:Nat):decide (R%2^(30*(i+1))≠0)=(decide (R%2^(30*i)≠0)||decide (dg R i≠0)):=by
 rw[dg_mod,←Bool.decide_or]
 congr 1
 apply propext
 have hp:=Nat.two_pow_pos (30*i)
 constructor
 ·intro h
  apply Decidable.byContradiction
  intro hn
  have h1:R%2^(30*i)=0:=by omega
  have h2:dg R i=0:=by omega
  rw[h1,h2]at h
  exact h (by simp)
 ·rintro(h|h)
  ·omega
  ·have:2^(30*i)≤2^(30*i)*dg R i:=Nat.le_mul_of_pos_right _ (by omega)
   omega
theorem flo_div (v:Nat)(t:Int)(j:Nat):flo v t/2^j=flo v (t-(j:Int)):=by
 unfold flo
 by_cases h:0≤t-(j:Int)
 ·rw[if_pos h,if_pos (by omega),show t.toNat=(t-(j:Int)).toNat+j by omega,Nat.pow_add,←Nat.mul_assoc,Nat.mul_div_cancel _ (Nat.two_pow_pos _)]
 ·rw[if_neg h]
  by_cases h1:0≤t
  ·rw[if_pos h1]
   have:(2:Nat)^j=2^t.toNat*2^(-(t-(j:Int))).toNat:=by rw[←Nat.pow_add];congr 1;omega
   rw[this,Nat.mul_comm v,Nat.mul_div_mul_left _ _ (Nat.two_pow_pos _)]
  ·rw[if_neg h1,Nat.div_div_eq_div_mul,←Nat.pow_add]
   congr 2
   omega
theorem or_head (q h:Nat)(hq:q<1073741824)(hh:h<2147483648):IntKind.i64.wrap ((h:Int)*1073741824)=((h*1073741824:Nat):Int)∧bits .or .i64 ((h*1073741824:Nat):Int) (q:Int)=((h*1073741824+q:Nat):Int):=by
 have e:(2:Nat)^30=1073741824:=by decide
 constructor
 ·rw[wrap_i64];omega
 ·have:=or_low q h 30 (by rw[e];exact hq) (by rw[e];omega)
  rw[e,Nat.add_comm q]at this
  exact this
theorem or_head2 (q h:Nat)(hq:q<1073741824)(hh:h<2147483648):∃G H:Nat,IntKind.i64.wrap ((h:Int)*1073741824)=(G:Int)∧bits .or .i64 (G:Int) (q:Int)=(H:Int)∧G=h*1073741824∧H=G+q:=by
 obtain⟨h1,h2⟩:=or_head q h hq hh
 exact⟨h*1073741824,h*1073741824+q,h1,h2,rfl,rfl⟩
theorem or_zero (q:Nat)(hq:q<1073741824):bits .or .i64 0 (q:Int)=(q:Int):=by
 obtain⟨h1,h2⟩:=or_head q 0 hq (by decide)
 rw[Nat.zero_mul,Nat.zero_add]at h2
 exact h2
theorem getD_snoc (L:List Int)(d:Int)(i:Nat):(L++[d]).getD i 0=if i<L.length then L.getD i 0 else if i=L.length then d else 0:=by
 simp only[List.getD_eq_getElem?_getD]
 by_cases h:i<L.length
 ·rw[if_pos h,List.getElem?_append_left h]
 ·rw[if_neg h,List.getElem?_append_right (by omega)]
  by_cases h2:i=L.length
  ·rw[if_pos h2,h2,Nat.sub_self]
   rfl
  ·rw[if_neg h2]
   obtain⟨j,hj⟩:∃j,i-L.length=j+1:=⟨i-L.length-1,by omega⟩
   rw[hj]
   rfl
end Go.Proofs.YtnniljhdcplkgaaGreatDoor

namespace Go.Proofs.YtnniljhdcplkgaaGreatDoor
open Go.ChangeShapes Go.WideShapes Go.ChangeAt Go.RowKit
set_option maxHeartbeats 16000000
set_option maxRecDepth 100000
set_option linter.unusedVariables false
set_option linter.unusedSimpArgs false
theorem dv_aux (B Y d U:Nat)(hU:0<U)(hd:d<B):(Y*B+d)/U=Y/U*B+(Y%U*B+d)/U∧(Y*B+d)%U=(Y%U*B+d)%U∧(Y%U*B+d)/U<B∧Y%U*B+d<U*B:=by
 have h1:=Nat.div_add_mod Y U
 have h2:=Nat.mod_lt Y hU
 generalize Y/U=q at *
 generalize Y%U=r at *
 have e:Y*B+d=U*(q*B)+(r*B+d):=by
  rw[←h1,Nat.add_mul,Nat.mul_assoc,Nat.add_assoc]
 have h3:r*B+d<U*B:=by
  have:=Nat.mul_le_mul_right B (show r+1≤U from h2)
  rw[Nat.add_mul,Nat.one_mul]at this
  exact Nat.lt_of_lt_of_le (Nat.add_lt_add_left hd _) this
 refine⟨?_,?_,?_,h3⟩
 ·rw[e,Nat.mul_add_div hU]
 ·rw[e,Nat.mul_add_mod]
 ·rw[Nat.div_lt_iff_lt_mul hU,Nat.mul_comm B U];exact h3
theorem dv_step (A U j:Nat)(hU:0<U):(A/2^(30*(j+1))%U*1073741824+dg A j)/U=dg (A/U) j∧(A/2^(30*(j+1))%U*1073741824+dg A j)%U=A/2^(30*j)%U∧A/2^(30*(j+1))%U*1073741824+dg A j<U*1073741824:=by
 obtain⟨B,hB⟩:∃B,B=1073741824:=⟨_,rfl⟩
 have hs:=dg_split A j
 have hd:=dg_lt A j
 have hg:dg (A/U) j=A/2^(30*j)/U%1073741824:=by
  unfold dg
  rw[Nat.div_div_eq_div_mul,Nat.mul_comm,←Nat.div_div_eq_div_mul]
 obtain⟨Y,hY⟩:∃Y,A/2^(30*(j+1))=Y:=⟨_,rfl⟩
 obtain⟨d,hd2⟩:∃d,dg A j=d:=⟨_,rfl⟩
 rw[hg,hs]
 rw[hY,hd2]
 rw[hd2]at hd
 rw[←hB]at hd ⊢
 obtain⟨a1,a2,a3,a4⟩:=dv_aux B Y d U hU hd
 refine⟨?_,a2.symm,a4⟩
 rw[a1,Nat.mul_comm (Y/U) B,Nat.mul_add_mod,Nat.mod_eq_of_lt a3]
theorem dv_x1 (B X U P:Nat)(h3:X<U*B)(hU:U<P):X<P*B:=Nat.lt_of_lt_of_le h3 (Nat.mul_le_mul_right B (Nat.le_of_lt hU))
theorem dv_x2 (B B2 X U:Nat)(h3:X<U*B)(h:B≤B2):X<U*B2:=Nat.lt_of_lt_of_le h3 (Nat.mul_le_mul_left U h)
theorem dv_x (A U n j:Nat)(hU:0<U)(h:U<2^(30*n)):∃X,X=A/2^(30*(j+1))%U*1073741824+dg A j∧X<2^(30*(n+1))∧X<U*4294967296∧X/U=dg (A/U) j∧X%U=A/2^(30*j)%U:=by
 obtain⟨s1,s2,s3⟩:=dv_step A U j hU
 have a1:=dv_x1 1073741824 _ U (2^(30*n)) s3 h
 have a2:=dv_x2 1073741824 4294967296 _ U s3 (by decide)
 rw[←pow30k]at a1
 exact⟨_,rfl,a1,a2,s1,s2⟩
def dvl (V c k:Nat):List Int:=(List.range (c+1)).map fun j=>if c+1≤j+k then ((dg V j:Nat):Int)else 0
theorem dvl_len (V c k:Nat):(dvl V c k).length=c+1:=by unfold dvl;rw[List.length_map,List.length_range]
theorem dvl_zero (V c:Nat):List.replicate (c+1) 0=dvl V c 0:=by
 refine List.ext_getElem (by rw[dvl_len,List.length_replicate]) (fun i h1 h2=>?_)
 rw[dvl_len]at h2
 simp only[dvl,List.getElem_replicate,List.getElem_map,List.getElem_range]
 rw[if_neg (by omega)]
theorem dvl_set (V c k:Nat)(hk:k≤c):(dvl V c k).set (c-k) ((dg V (c-k):Nat):Int)=dvl V c (k+1):=by
 refine List.ext_getElem (by rw[List.length_set,dvl_len,dvl_len]) (fun i h1 h2=>?_)
 rw[dvl_len]at h2
 rw[List.getElem_set]
 simp only[dvl,List.getElem_map,List.getElem_range]
 by_cases h:c-k=i
 ·rw[if_pos h,if_pos (by omega),h]
 ·rw[if_neg h]
  by_cases h3:c+1≤i+k
  ·rw[if_pos h3,if_pos (by omega)]
  ·rw[if_neg h3,if_neg (by omega)]
structure DVz (A U n c g dv h m k:Nat) (W0 wr:World):Prop where
 low:∀j,j+k<c+1→wr.cell? ⟨g,j,none⟩=some (.int .i64 ((dg A j:Nat):Int))
 high:∀j,j<n→wr.cell? ⟨g,c+1-k+j,none⟩=some (.int .i64 ((dg (A/2^(30*(c+1-k))%U) j:Nat):Int))
 dd:DgAt wr dv 0 n U
 fz:∀i,wr.frozen? ⟨g,i,none⟩=false
 lt:g<wr.heap.size
 own:Own wr h m (dvl (A/U) c k)
 kp:Kept W0 wr
theorem DVz.at {A U n c g dv h m k:Nat}{W0 wr:World}(Z:DVz A U n c g dv h m k W0 wr)(hn:0<n)(hk:k≤c):DgAt wr g (c-k) (n+1) (A/2^(30*(c-k+1))%U*1073741824+dg A (c-k)):=fun i hi=>by
 rcases i with _|i
 ·rw[dg_cons_zero _ _ (dg_lt _ _),Nat.add_zero]
  exact Z.low _ (by omega)
 ·rw[dg_cons_succ _ _ _ (dg_lt _ _)]
  have:=Z.high i (by omega)
  rw[show c+1-k=c-k+1 by omega]at this
  rw[show c-k+(i+1)=c-k+1+i by omega]
  exact this
theorem DVz.next {A U n c g dv h m k:Nat}{W0 wr V1:World}(Z:DVz A U n c g dv h m k W0 wr)(hk:k≤c)(hU:U<2^(30*n))(hU0:0<U)(hgw:W0.heap.size≤g)(hhw:W0.heap.size≤h)(hgd:dv≠g)(hhd:dv≠h)(hgh:h≠g)(d1:DgAt V1 g (c-k) (n+1) ((A/2^(30*(c-k+1))%U*1073741824+dg A (c-k))%U))(tk:TK g (c-k) n wr V1):DVz A U n c g dv h m (k+1) W0 (V1.setCell ⟨h,c-k,none⟩ (.int .i64 ((dg (A/U) (c-k):Nat):Int))):=by
 have ho:∀j,(V1.setCell ⟨h,c-k,none⟩ (.int .i64 ((dg (A/U) (c-k):Nat):Int))).cell? ⟨g,j,none⟩=V1.cell? ⟨g,j,none⟩:=fun j=>World.cell?_of_block (a:=⟨g,j,none⟩) (Below.heap_setCell _ _ _ g (Ne.symm hgh))
 have ho2:∀j,(V1.setCell ⟨h,c-k,none⟩ (.int .i64 ((dg (A/U) (c-k):Nat):Int))).cell? ⟨dv,j,none⟩=V1.cell? ⟨dv,j,none⟩:=fun j=>World.cell?_of_block (a:=⟨dv,j,none⟩) (Below.heap_setCell _ _ _ dv hhd)
 refine⟨fun j hj=>?_,fun j hj=>?_,fun i hi=>?_,fun i=>?_,?_,?_,?_⟩
 ·rw[ho]
  exact(tk.rest j (by omega)).trans (Z.low j (by omega))
 ·rw[ho,show c+1-(k+1)+j=c-k+j by omega,d1 j (by omega),(dv_step A U (c-k) hU0).2.1,show c+1-(k+1)=c-k by omega]
 ·rw[ho2]
  exact(Z.dd.off_block hgd tk.grw) i hi
 ·exact(((Kept.refl V1).toGrw h).setCell (c-k) _|>.frozen _).trans ((tk.grw.frozen _).trans (Z.fz i))
 ·exact Nat.lt_of_lt_of_le (Nat.lt_of_lt_of_le Z.lt tk.grw.grown.size) (((Kept.refl V1).toGrw h).setCell (c-k) _).grown.size
 ·rw[←dvl_set _ _ _ hk]
  exact(Z.own.grw tk.grw hgh).set _ _
 ·exact(Z.kp.grw hgw tk.grw).setCell hhw _
theorem divided_walk (n1 n2:Bool)(a b:Option Addr)(l1 c1 n c2:Nat)(hl1:0<l1)(hn:0<n)(hn2:n<50000)(c m nc nl:Nat)(hc:c≤8)(hm:m=c+1)(hnc:nc=n+c)(hnl:nl=n+c+1)(x1 x2:Int)(hx1:-1048576≤x1)(hx2:x1≤1048576)(hx3:-1048576≤x2)(hx4:x2≤1048576)(T1 T2:Nat)(hT1:T1≤90000)(hT2:T2≤90000)(A U:Nat)(LL:List Int)(lw:Int)(hlw:lw=(T1:Int)-((nc:Int)*30))(ex:Int)(hex:ex=x1-x2+(T1:Int)-(T2:Int)-(c:Int)*30)(w:World)
  (HLL:Hid (LL.length=nc∧∀i,i<nc→LL.getD i 0=((dg A i:Nat):Int)))
  (HA:Hid (A<2^(30*nc))) (HU:Hid (2^(30*(n-1))*536870912≤U∧U<2^(30*n)∧A/2^(30*(c+1))<U))
  (Ka:Hid (∀u,Kept w u→Calls Tryz.prog 112 #[.slice a l1 c1] u fun e w'=>e=.returned (.int .i64 (T1:Int))∧u=w'))
  (Kb:Hid (∀u,Kept w u→Calls Tryz.prog 112 #[.slice b n c2] u fun e w'=>e=.returned (.int .i64 (T2:Int))∧u=w'))
  (Kd:Hid (∀u,Kept w u→Calls Tryz.prog 152 #[.slice b n c2,.int .i64 (n:Int),.int .i64 ((T2:Int)-(n:Int)*30)] u fun e w'=>e=.returned (.slice (some ⟨u.heap.size,0,none⟩) n n)∧DgAt w' u.heap.size 0 n U∧Kept u w'))
  (Kl:Hid (∀u,Kept w u→Calls Tryz.prog 152 #[.slice a l1 c1,.int .i64 (nc:Int),.int .i64 lw] u fun e w'=>e=.returned (.slice (some ⟨u.heap.size,0,none⟩) nc nc)∧Own w' u.heap.size nc LL∧Kept u w')):
  Calls Tryz.prog 129 #[.agg #[.bool n1,.slice a l1 c1,.int .i64 x1],.agg #[.bool n2,.slice b n c2,.int .i64 x2],.int .i64 (c:Int)] w fun e w'=>∃h,e=.returned (.tuple #[.slice (some ⟨h,0,none⟩) m m,.int .i64 ex,.bool (decide (0<lw)||decide (A%U≠0))])∧w.heap.size≤h∧Own w' h m (dvl (A/U) c m)∧Kept w w':=by
 have HM:=make_run m (by omega)
 have hK:Kept w ((w.alloc (.cells #[.bool n1,.slice a l1 c1,.int .i64 x1] 43)).alloc (.cells #[.bool n2,.slice b n c2,.int .i64 x2] 43)):=((Kept.refl w).alloc _ _).alloc _ _
 have B1:Hid (∀u,Kept ((w.alloc (.cells #[.bool n1,.slice a l1 c1,.int .i64 x1] 43)).alloc (.cells #[.bool n2,.slice b n c2,.int .i64 x2] 43)) u→(u.cell? ⟨w.heap.size,0,none⟩=some (.bool n1)∧u.cell? ⟨w.heap.size,1,none⟩=some (.slice a l1 c1)∧u.cell? ⟨w.heap.size,2,none⟩=some (.int .i64 x1))∧(u.cell? ⟨w.heap.size+1,0,none⟩=some (.bool n2)∧u.cell? ⟨w.heap.size+1,1,none⟩=some (.slice b n c2)∧u.cell? ⟨w.heap.size+1,2,none⟩=some (.int .i64 x2))):=fun u k=>⟨⟨(k.below.cell (p:=⟨w.heap.size,0,none⟩) (by simp<;>omega)).trans (by simp[go_sem]),(k.below.cell (p:=⟨w.heap.size,1,none⟩) (by simp<;>omega)).trans (by simp[go_sem]),(k.below.cell (p:=⟨w.heap.size,2,none⟩) (by simp<;>omega)).trans (by simp[go_sem])⟩,⟨(k.below.cell (p:=⟨w.heap.size+1,0,none⟩) (by simp<;>omega)).trans (by simp[go_sem]),(k.below.cell (p:=⟨w.heap.size+1,1,none⟩) (by simp<;>omega)).trans (by simp[go_sem]),(k.below.cell (p:=⟨w.heap.size+1,2,none⟩) (by simp<;>omega)).trans (by simp[go_sem])⟩⟩
 obtain⟨W0,hW0⟩:∃W0,((w.alloc (.cells #[.bool n1,.slice a l1 c1,.int .i64 x1] 43)).alloc (.cells #[.bool n2,.slice b n c2,.int .i64 x2] 43))=W0:=⟨_,rfl⟩
 have hsz:W0.heap.size=w.heap.size+2:=by rw[←hW0];simp
 have HSZ:Hid (W0.heap.size=w.heap.size+2):=hsz
 clear hsz
 have HLW:Hid (lw=(T1:Int)-((nc:Int)*30)):=hlw
 have HEX:Hid (ex=x1-x2+(T1:Int)-(T2:Int)-(c:Int)*30):=hex
 have HN:Hid (m=c+1∧nc=n+c∧nl=n+c+1):=⟨hm,hnc,hnl⟩
 have hlr:-2000000≤lw∧lw≤2000000:=by omega
 have z1:IntKind.i64.wrap ((n:Int)*30)=(n:Int)*30:=by rw[wrap_i64];omega
 have z2:IntKind.i64.wrap ((T2:Int)-(n:Int)*30)=(T2:Int)-(n:Int)*30:=by rw[wrap_i64];omega
 have z3:IntKind.i64.wrap ((n:Int)+(c:Int))=(nc:Int):=by rw[wrap_i64];omega
 have z4:IntKind.i64.wrap ((nc:Int)*30)=(nc:Int)*30:=by rw[wrap_i64];omega
 have z5:IntKind.i64.wrap ((T1:Int)-(nc:Int)*30)=lw:=by rw[wrap_i64];omega
 have z6:IntKind.i64.wrap ((c:Int)+1)=(m:Int):=by rw[wrap_i64];omega
 have hcb:nc<60000:=by omega
 have hm2:0<m∧m≤9:=by omega
 clear hlw hex hm hnc hnl
 obtain⟨ld,hld⟩:∃ld,decide (0<lw)=ld:=⟨_,rfl⟩
 have HLD:Hid (decide (0<lw)=ld):=hld
 rw[hW0]at hK B1
 have hM0:=Kept.refl W0
 obtain⟨⟨p0,p1,p2⟩,⟨q0,q1,q2⟩⟩:=B1.out _ hM0
 rw[hld]
 go_enter Tryz.func129,Tryz.ntmps129
 go_wp2_with fail
 clear hW0
 refine wp_region_held_drew (S:=fun u=>u.cell? ⟨w.heap.size+1,1,none⟩=some (.slice b n c2)) (by kernel_rfl) q1 (fun hHeld=>?_)
 refine tk (i:=0) (v:=?_) rfl ?_
 simp only[Act.put,zA,zB,zC,zD,zE,zF]
 refine tk (i:=1) (v:=?_) rfl ?_
 simp only[Act.put,zA,zB,zC,zD,zE,zF]
 refine tk (i:=2) (v:=?_) rfl ?_
 simp only[Act.put,zA,zB,zC,zD,zE,zF]
 refine tk (i:=3) (v:=?_) rfl ?_
 simp only[Act.put,zA,zB,zC,zD,zE,zF]
 refine tk (i:=4) (v:=?_) rfl ?_
 simp only[Act.put,zA,zB,zC,zD,zE,zF]
 refine wpAnyH_ready (rs:=[5]) (by kernel_rfl) (by simp) ?_
 refine AllReadyH.cons rfl (fun K hK9=>?_) AllReadyH.nil
 go_simp
 go_wp2_with fail
 refine(Kb.out _ hK.drew).mono ?_
 rintro e u0 ⟨rfl,rfl⟩
 refine hK9.out _ _ q1 (fun hHeld2=>?_)
 clear hK9 K hHeld
 refine tk (i:=6) (v:=?_) rfl ?_
 simp only[Act.put,zA,zB,zC,zD,zE,zF]
 refine tk (i:=7) (v:=?_) rfl ?_
 simp only[Act.put,zA,zB,zC,zD,zE,zF]
 refine wpAnyH_done (by kernel_rfl) ?_ _
 clear hHeld2
 go_wp2_with fail
 refine(Kd.out _ hK.drew).mono ?_
 rintro e u1 ⟨rfl,od,ku1⟩
 have mu1:=hM0.drew.trans ku1
 clear p0 p1 p2 q0 q1 q2
 obtain⟨⟨p0,p1,p2⟩,⟨q0,q1,q2⟩⟩:=B1.out _ mu1
 have OD:Hid (DgAt u1 W0.drew.heap.size 0 n U):=od
 have HM1:Hid (Kept W0 u1):=mu1
 clear od mu1 ku1 p0 p2 q0 q2
 go_wp2_with fail
 refine(Ka.out _ (hK.trans HM1.out)).mono ?_
 rintro e u9 ⟨rfl,rfl⟩
 go_wp2_with fail
 refine(Kl.out _ (hK.trans HM1.out)).mono ?_
 rintro e u2 ⟨rfl,ol,ku2⟩
 have HU2:Hid (Kept u1 u2):=ku2
 obtain⟨v',V,hr,hM',hK'⟩:=app_step u1.heap.size u2 (.slice (some ⟨u1.heap.size,0,none⟩) nc nc) LL (.inr ⟨u1.heap.size,nc,by rw[HLL.out.1],Nat.le_refl _,ol⟩) 0 ku2.below.size (by rw[HLL.out.1];omega)
 have hMl:(LL++[0]).length=nl:=by rw[List.length_append,HLL.out.1];have:=HN.out;show nc+1=nl;omega
 obtain⟨g,C,hv',hgs,hOV⟩:∃g C,v'=.slice (some ⟨g,0,none⟩) nl C∧u1.heap.size≤g∧Own V g C (LL++[0]):=by
  rcases hM' with ⟨e,-⟩|⟨g,C,e,h1,h2⟩
  ·have:=HN.out;rw[e]at hMl;simp at hMl;omega
  ·exact⟨g,C,by rw[e,hMl],h1,h2⟩
 subst hv'
 have HHA:Hid (∀ty,(Builtin.append_ #[24,24] ty #[.slice (some ⟨u1.heap.size,0,none⟩) nc nc,.slice (some ⟨u2.heap.size,0,none⟩) 1 1]).run Tryz.prog (u2.alloc (.cells #[.int .i64 0] 3))=.ok (.slice (some ⟨g,0,none⟩) nl C) V):=hr
 have KV:Hid (Kept u1 V):=hK' u1 (Nat.le_refl _) ku2
 have hC:nl≤C:=by obtain⟨_,_,h1,_⟩:=hOV;rw[hMl]at h1;exact h1
 have HDA:Hid (∀i,i<nl→V.cell? ⟨g,i,none⟩=some (.int .i64 ((dg A i:Nat):Int))):=fun i hi=>by
  have hNN:=HN.out
  rw[hOV.cell i (by rw[hMl];exact hi)]
  rw[getD_snoc,HLL.out.1]
  by_cases h2:i<nc
  ·rw[if_pos h2,HLL.out.2 i h2]
  ·have hi2:i=nc:=by omega
   rw[if_neg h2,if_pos hi2,hi2]
   unfold dg
   rw[Nat.div_eq_of_lt HA.out]
   simp
 have FZ:Hid (∀i,V.frozen? ⟨g,i,none⟩=false):=fun i=>hOV.free i
 have HGL:Hid (g<V.heap.size):=hOV.lt
 obtain⟨dv,hdv⟩:∃dv,W0.heap.size=dv:=⟨_,rfl⟩
 have OD2:Hid (DgAt u1 dv 0 n U):=by rw[←hdv];exact OD.out
 have hgt:Hid (W0.heap.size≤dv∧dv<g):=by
  have h1:=World.block_lt_of_cell? u1 _ (OD2.out 0 hn)
  have h5:dv<u1.heap.size:=h1
  exact⟨Nat.le_of_eq hdv,Nat.lt_of_lt_of_le h5 hgs⟩
 have DD:Hid (DgAt V dv 0 n U):=OD2.out.kept KV.out
 have HKV:Hid (Kept W0 V):=HM1.out.trans KV.out
 have hO:=own_made m (by omega) V
 obtain⟨h,hh⟩:∃h,V.heap.size=h:=⟨_,rfl⟩
 obtain⟨V2,hV2⟩:∃V2,V.alloc (.cells (madeCells #[.int .i64 0] m) 3)=V2:=⟨_,rfl⟩
 have hUU:0<U:=Nat.lt_of_lt_of_le (Nat.mul_pos (Nat.two_pow_pos _) (by decide)) HU.out.1
 have kV2:Kept V V2:=by rw[←hV2];exact(Kept.refl V).alloc _ _
 have D0:Hid (DVz A U n c g dv h m 0 W0 V2):=by
  have hNN:=HN.out
  refine⟨fun j hj=>?_,fun j hj=>?_,DD.out.kept kV2,fun i=>(kV2.frozen _).trans (FZ.out i),Nat.lt_of_lt_of_le HGL.out kV2.below.size,?_,HKV.out.trans kV2⟩
  ·exact(kV2.below.cell (p:=⟨g,j,none⟩) HGL.out).trans (HDA.out j (by omega))
  ·rw[(kV2.below.cell (p:=⟨g,c+1-0+j,none⟩) HGL.out).trans (HDA.out _ (by omega)),Nat.sub_zero,Nat.mod_eq_of_lt HU.out.2.2,dg_shift]
  ·rw[←dvl_zero,←hNN.1,←hV2,←hh]
   exact hO
 have hhg:Hid (g<h):=by rw[←hh];exact HGL.out
 clear hr hM' hK' hOV ku2 ol KV hO kV2 HDA FZ DD HKV HGL
 go_wp2_with (first|(at_builtin;refine wpList_append_run rfl _ _ _ rfl _ _ rfl rfl _ _ (HHA.out _) ?_))
 (try rw[hV2])
 (try rw[hh])
 clear HHA HU2 p1 q1 hV2 hh z1 z2 z3 z4 z5 z6 hdv
 have TA:Hid (∀(off cap:Nat) (V':World) (X Q R:Nat),X<2^(30*(n+1))→X<U*4294967296→X/U=Q→X%U=R→g<V'.heap.size→DgAt V' g off (n+1) X→DgAt V' dv 0 n U→(∀i,V'.frozen? ⟨g,i,none⟩=false)→Calls Tryz.prog 153 #[.slice (some ⟨g,off,none⟩) (n+1) cap,.slice (some ⟨dv,0,none⟩) n n] V' fun e w'=>e=.returned (.int .i64 (Q:Int))∧DgAt w' g off (n+1) R∧TK g off n V' w'):=fun off cap V' X Q R h1 h2 hq hr h3 h4 h5 h6=>by
  rw[←hq,←hr]
  exact take_any g off cap dv n n (by have:=hgt.out;omega) hn (by omega) X U h1 HU.out.1 HU.out.2.1 h2 V' h3 h4 h5 h6
 go_loopw [52] (fun iv wr=>∃k:Nat,k≤m∧iv=.int .i64 k∧DVz A U n c g dv h m k W0 wr) (fun iv _=>m-(intOf iv).toNat)
 case atStart=>exact⟨0,Nat.zero_le _,rfl,D0.out⟩
 case round=>
  obtain⟨k,hkm,rfl,hZ⟩:=hrel
  have Z:Hid (DVz A U n c g dv h m k W0 wr):=hZ
  clear hZ
  by_cases hk:k<m
  ·have hNN:=HN.out
   have hki:(k:Int)<(m:Int):=by omega
   obtain⟨cd,hcd⟩:∃cd,cd=c-k:=⟨_,rfl⟩
   have HCD:Hid (cd=c-k):=hcd
   obtain⟨ce,hce⟩:∃ce,ce=cd+n:=⟨_,rfl⟩
   obtain⟨cf,hcf⟩:∃cf,cf=cd+n+1:=⟨_,rfl⟩
   have y1:IntKind.i64.wrap ((c:Int)-(k:Int))=(cd:Int):=by rw[wrap_i64];omega
   have y2:IntKind.i64.wrap ((cd:Int)+(n:Int))=(ce:Int):=by rw[wrap_i64];omega
   have y3:IntKind.i64.wrap ((ce:Int)+1)=(cf:Int):=by rw[wrap_i64];omega
   have y4:cd≤cf:=by omega
   have y5:cf≤C:=by omega
   have y6:cf-cd=n+1:=by omega
   have y7:cd<m:=by omega
   have y8:(cd:Int)<(m:Int):=by omega
   have y9:(cd:Int)≤(cf:Int):=by omega
   have y10:(cf:Int)≤(C:Int):=by omega
   have y11:¬C=cd:=by omega
   have y12:¬C-cd=0:=by omega
   have hk2:k≤c:=by omega
   have HK2:Hid (k≤c):=hk2
   have HY6:Hid (cf-cd=n+1):=y6
   clear hcd hce hcf y6 hNN hk2
   have hOw:=Z.out.own
   go_wp2_with fail
   rw[HY6.out]
   obtain⟨X,hX,hX1,hX2,s1,s2⟩:=dv_x A U n (c-k) hUU HU.out.2.1
   have hZat:=Z.out.at hn HK2.out
   rw[←hX,←HCD.out]at hZat
   rw[←HCD.out]at s1
   obtain⟨QQ,hQQ⟩:∃QQ,dg (A/U) cd=QQ:=⟨_,rfl⟩
   rw[hQQ]at s1
   have HQQ:Hid (dg (A/U) cd=QQ):=hQQ
   have HXX:Hid (X=A/2^(30*(c-k+1))%U*1073741824+dg A (c-k)):=hX
   obtain⟨RX,hRX⟩:∃RX,X%U=RX:=⟨_,rfl⟩
   have HRX:Hid (X%U=RX):=hRX
   have hTA:=TA.out cd (C-cd) wr X QQ RX hX1 hX2 s1 hRX Z.out.lt hZat Z.out.dd Z.out.fz
   clear hZat s1 s2 hX hX1 hX2 hQQ hRX
   refine hTA.mono ?_
   rintro e V1 ⟨rfl,d1,tk1⟩
   have hg2:=hgt.out
   have hg3:=hhg.out
   have N1:=Z.out.next HK2.out HU.out.2.1 hUU (by omega) (by omega) (by omega) (by omega) (by omega) (by rw[←HXX.out,HRX.out,←HCD.out];exact d1) (by rw[←HCD.out];exact tk1)
   have o1:=Z.out.own.grw tk1.grw (by omega)
   rw[←HCD.out]at N1
   have NX:Hid (DVz A U n c g dv h m (k+1) W0 (V1.setCell ⟨h,cd,none⟩ (.int .i64 ((dg (A/U) cd:Nat):Int)))):=N1
   have hcc:=o1.cell cd (by rw[dvl_len];have:=HN.out;omega)
   have hff:=o1.free cd
   rw[HQQ.out]at NX
   clear d1 tk1 N1 o1 hg2 hg3 hOw hTA
   go_wp2_with fail
   go_roundw
   case rel=>exact⟨k+1,by omega,by go_num,NX.out⟩
   case measure=>simp[intOf];omega
  ·obtain rfl:k=m:=by omega
   have Dz:Hid (DgAt wr g 0 n (A%U)):=fun j hj=>by
    have hNN:=HN.out
    have:=Z.out.high j hj
    rw[show c+1-k=0 by omega,Nat.mul_zero,Nat.pow_zero,Nat.div_one]at this
    exact this
   obtain⟨RR,hRR⟩:∃RR,A%U=RR:=⟨_,rfl⟩
   rw[hRR]at Dz
   have HRR:Hid (A%U=RR):=hRR
   have KW3:Hid (Kept W0 wr):=Z.out.kp
   have OW:Hid (Own wr h k (dvl (A/U) c k)):=Z.out.own
   have hRb:Hid (RR<2^(30*n)):=by rw[←hRR];exact Nat.lt_trans (Nat.mod_lt _ hUU) HU.out.2.1
   obtain⟨V3,hV3⟩:∃V3,wr=V3:=⟨_,rfl⟩
   subst hV3
   clear Z hRR TA D0
   go_wp2_with fail
   rename World=>wo
   go_loopw [8,77] (fun rv iv wr=>∃(k:Nat) (rk:Bool),k≤n∧iv=.int .i64 k∧rv=.bool rk∧rk=(ld||decide (RR%2^(30*k)≠0))∧Kept wo wr) (fun _ iv _=>n-(intOf iv).toNat)
   case atStart=>exact⟨0,ld,Nat.zero_le _,rfl,by first|rfl|(rw[←HLD.out]),by rw[Nat.mul_zero,Nat.pow_zero,Nat.mod_one];simp,Kept.refl _⟩
   case round=>
    obtain⟨j,rk,hk,rfl,rfl,hrk,hKr⟩:=hrel
    have HRK:Hid (rk=(ld||decide (RR%2^(30*j)≠0))):=hrk
    clear hrk
    by_cases hkn:j<n
    ·have hNN:=HN.out
     have hk3:(j:Int)<(nl:Int):=by omega
     have hk4:j<nl:=by omega
     have hk5:(j:Int)<(n:Int):=by omega
     have ck:=(Dz.out.kept hKr) j (by omega)
     rw[Nat.zero_add]at ck
     obtain⟨dk,hdk⟩:∃dk,dg RR j=dk:=⟨_,rfl⟩
     rw[hdk]at ck
     have HDK:Hid (dg RR j=dk):=hdk
     clear hdk hNN
     have HST:=rest_step RR j
     have HST2:Hid (decide (RR%2^(30*(j+1))≠0)=(decide (RR%2^(30*j)≠0)||decide (dg RR j≠0))):=HST
     clear HST
     cases rk
     ·by_cases hd0:dk=0
      ·subst hd0
       go_wp2
       go_roundw
       case rel=>exact⟨j+1,false,by omega,by go_num,rfl,by rw[HST2.out,←Bool.or_assoc,←HRK.out,HDK.out];rfl,hKr⟩
       case measure=>simp[intOf];omega
      ·have hdb:((dk:Int)==0)=false:=by rw[beq_eq_false_iff_ne];omega
       have hdn:((dk:Int) != 0)=true:=by simpa [bne_iff_ne] using (show ¬(dk:Int)=0 by omega)
       go_wp2
       go_roundw
       case rel=>exact⟨j+1,true,by omega,by go_num,by first|rfl|simp[hd0],by rw[HST2.out,←Bool.or_assoc,←HRK.out,HDK.out];simp[hd0],hKr⟩
       case measure=>simp[intOf];omega
     ·go_wp2
      go_roundw
      case rel=>exact⟨j+1,true,by omega,by go_num,rfl,by rw[HST2.out,←Bool.or_assoc,←HRK.out];rfl,hKr⟩
      case measure=>simp[intOf];omega
    ·obtain rfl:j=n:=by omega
     have hfin:rk=(ld||decide (A%U≠0)):=by
      rw[HRK.out,Nat.mod_eq_of_lt hRb.out,HRR.out]
     have HFIN:Hid (rk=(ld||decide (A%U≠0))):=hfin
     clear hfin
     have kW:=KW3.out.trans hKr
     obtain⟨⟨p0,p1,p2⟩,⟨q0,q1,q2⟩⟩:=B1.out _ kW
     have hEX:=HEX.out
     obtain⟨e1,he1⟩:∃e1,x1-x2=e1:=⟨_,rfl⟩
     have v1:IntKind.i64.wrap (x1-x2)=e1:=by rw[wrap_i64];omega
     obtain⟨e2,he2⟩:∃e2,e1+(T1:Int)=e2:=⟨_,rfl⟩
     have v2:IntKind.i64.wrap (e1+(T1:Int))=e2:=by rw[wrap_i64];omega
     obtain⟨e3,he3⟩:∃e3,e2-(T2:Int)=e3:=⟨_,rfl⟩
     have v3:IntKind.i64.wrap (e2-(T2:Int))=e3:=by rw[wrap_i64];omega
     obtain⟨c3,hc3⟩:∃c3,(c:Int)*30=c3:=⟨_,rfl⟩
     have v5:IntKind.i64.wrap ((c:Int)*30)=c3:=by rw[wrap_i64];omega
     have v4:IntKind.i64.wrap (e3-c3)=ex:=by rw[wrap_i64];omega
     have HSP:Hid (∀u,Kept W0 u→(u.cell? ⟨w.heap.size,1,none⟩=some (.slice a l1 c1)∧u.cell? ⟨w.heap.size,2,none⟩=some (.int .i64 x1))∧u.cell? ⟨w.heap.size+1,2,none⟩=some (.int .i64 x2)):=fun u k=>⟨⟨(B1.out u k).1.2.1,(B1.out u k).1.2.2⟩,(B1.out u k).2.2.2⟩
     clear hEX he1 he2 he3 hc3 p0 p1 p2 q0 q1 q2
     clear HRK
     go_upto_region 17 with fail
     go_region_held (fun u=>(u.cell? ⟨w.heap.size,1,none⟩=some (.slice a l1 c1)∧u.cell? ⟨w.heap.size,2,none⟩=some (.int .i64 x1))∧u.cell? ⟨w.heap.size+1,2,none⟩=some (.int .i64 x2)) (first|exact HSP.out _ kW.drew|assumption) (first|(go_at_call 112;refine(Ka.out _ (hK.trans kW.drew)).mono ?_;rintro e u9 ⟨rfl,rfl⟩;have e0:=HSP.out _ kW.drew))
     all_goals
      go_wp2_with fail
      exact bodyPost_ret (v:=.tuple #[.slice (some ⟨h,0,none⟩) k k,.int .i64 ex,.bool rk]) (by simp[results,Tryz.results129,go_sem]) rfl ⟨h,by rw[HFIN.out],by have:=hhg.out;have:=hgt.out;have:=HSZ.out;omega,OW.out.kept hKr.drew,hK.trans kW.drew⟩
end Go.Proofs.YtnniljhdcplkgaaGreatDoor
