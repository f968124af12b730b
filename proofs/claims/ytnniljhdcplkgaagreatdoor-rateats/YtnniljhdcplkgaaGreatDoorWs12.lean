/-  -/
import Derived.Test.YtnniljhdcplkgaaGreatDoorWs11
import Derived.Test.YtnniljhdcplkgaaGreatDoorWs09
import Derived.Test.YtnniljhdcplkgaaGreatDoorWs10
namespace Go.Proofs.YtnniljhdcplkgaaGreatDoor
open Go.ChangeShapes Go.WideShapes Go.ChangeAt Go.RowKit
set_option maxHeartbeats 16000000
set_option maxRecDepth 100000
set_option linter.unusedVariables false
set_option linter.unusedSimpArgs false
theorem dl_digs (V i:Nat)(h:V<2^(30*i))(h2:i=0∨2^(30*(i-1))≤V):dl V i=digs V:=by
 refine nv_inj _ _ (dl_dg V i) (dg_digs V) ?_ (by rw[dl_lt V i h,nv_digs])
 rw[dl_length]
 have h3:=digs_length_le V i h
 rcases h2 with rfl|h2
 ·omega
 ·have:=digs_length_ge V (i-1) h2
  omega
theorem digs_ge (n i:Nat)(h:i<(digs n).length):2^(30*i)≤n:=by
 have hne:digs n≠[]:=by intro e;rw[e]at h;simp at h
 have h0:n≠0:=fun e=>hne (by rw[e,digs_zero])
 have:=nv_ge (digs n) (dg_digs n) (digs_last n h0)
 rw[nv_digs]at this
 exact Nat.le_trans (Nat.pow_le_pow_right (by decide) (by omega)) this
theorem digs_lt (n i:Nat)(h:(digs n).length≤i):n<2^(30*i):=by
 have:=nv_lt (digs n) (dg_digs n)
 rw[nv_digs]at this
 exact Nat.lt_of_lt_of_le this (Nat.pow_le_pow_right (by decide) (by omega))
theorem digs_at (n i:Nat):(digs n).getD i 0=((n/2^(30*i)%1073741824:Nat):Int):=by
 have h1:=nv_getD (digs n) (dg_digs n) i
 rw[nv_digs]at h1
 have h2:=(dg_digs n).getD i
 omega
theorem pow30m (i:Nat):2^(30*(i+1))=2^(30*i)*1073741824:=by rw[pow30,Nat.mul_comm]
theorem tm30 (s:Int)(h:0≤s):s.tmod 1073741824=s%1073741824∧s.tdiv 1073741824=s/1073741824:=⟨Int.tmod_eq_emod_of_nonneg h,Int.tdiv_eq_ediv_of_nonneg h⟩
theorem natAdd_any (w:World)(a b:Nat)(va vb:Value)(ha:RL w va (digs a))(hb:RL w vb (digs b))(la:(digs a).length<1000000)(lb:(digs b).length<1000000):Calls Tryz.prog 81 #[va,vb] w fun e w'=>(∃r,e=.returned r∧RLp (Fresh w.heap.size) w' r (digs (a+b)))∧Kept w w':=by
 obtain⟨a1,c1,rfl,-,hA⟩:=ha.at
 obtain⟨a2,c2,rfl,-,hB⟩:=hb.at
 have HA:Hid (∀u,Kept w u→∀i,i<(digs a).length→∃b off,a1=some ⟨b,off,none⟩∧u.cell? ⟨b,off+i,none⟩=some (.int .i64 ((digs a).getD i 0))):=fun u k=>(hA u k).2
 have HB:Hid (∀u,Kept w u→∀i,i<(digs b).length→∃b' off,a2=some ⟨b',off,none⟩∧u.cell? ⟨b',off+i,none⟩=some (.int .i64 ((digs b).getD i 0))):=fun u k=>(hB u k).2
 have GA:Hid (∀i,i<(digs a).length→2^(30*i)≤a+b):=fun i hi=>Nat.le_trans (digs_ge a i hi) (Nat.le_add_right _ _)
 have GB:Hid (∀i,i<(digs b).length→2^(30*i)≤a+b):=fun i hi=>Nat.le_trans (digs_ge b i hi) (Nat.le_add_left _ _)
 have TA:Hid (∀i,(digs a).length≤i→a<2^(30*i)):=fun i hi=>digs_lt a i hi
 have TB:Hid (∀i,(digs b).length≤i→b<2^(30*i)):=fun i hi=>digs_lt b i hi
 have XA:Hid (∀i,(digs a).getD i 0=((a/2^(30*i)%1073741824:Nat):Int)):=digs_at a
 have XB:Hid (∀i,(digs b).getD i 0=((b/2^(30*i)%1073741824:Nat):Int)):=digs_at b
 have ZA:Hid (∀i,(digs a).length≤i→(digs a).getD i 0=0):=fun i hi=>by rw[List.getD_eq_getElem?_getD,List.getElem?_eq_none hi];rfl
 have ZB:Hid (∀i,(digs b).length≤i→(digs b).getD i 0=0):=fun i hi=>by rw[List.getD_eq_getElem?_getD,List.getElem?_eq_none hi];rfl
 clear ha hb hA hB
 generalize (digs a).length=n at *
 generalize (digs b).length=m at *
 go_enter Tryz.func81,Tryz.ntmps81
 go_wp2
 go_loopw [5,6,7] (fun sv cv iv wr=>∃(i:Nat) (c:Int) (lv:Value),i≤1000001∧c=(((a%2^(30*i)+b%2^(30*i))/2^(30*i):Nat):Int)∧(0<i→2^(30*(i-1))≤a+b)∧(i≤n∨i≤m∨(i≤max n m+1∧c=0))∧0≤c∧c≤1∧iv=.int .i64 i∧cv=.int .i64 c∧sv=lv∧MR w.heap.size wr lv (dl (a+b) i)∧Kept w wr) (fun _ _ iv _=>1000002-(intOf iv).toNat)
 case atStart=>exact⟨0,0,_,by omega,by simp[Nat.mod_one],by omega,by omega,by omega,by omega,rfl,rfl,rfl,.inl ⟨rfl,rfl⟩,Kept.refl _⟩
 case round=>
  obtain⟨i,c,lv,hi,hc,hge,hcase,hc0,hc1,rfl,rfl,hlv,hM,hKr⟩:=hrel
  have hlv':=hlv.symm
  clear hlv
  subst hlv'
  by_cases hrun:i<n∨i<m∨0<c
  ·have hst:=add_step a b (2^(30*i)) 1073741824 (Nat.two_pow_pos _) (by decide)
   have hge2:2^(30*i)≤a+b:=by
    rcases hrun with g|g|g
    ·exact GA.out i g
    ·exact GB.out i g
    ·have hpos:0<(a%2^(30*i)+b%2^(30*i))/2^(30*i):=by omega
     have h1:=(Nat.div_pos_iff.1 hpos).2
     have h2:=Nat.mod_le a (2^(30*i))
     have h3:=Nat.mod_le b (2^(30*i))
     omega
   have HGE:Hid (2^(30*i)≤a+b):=hge2
   rw[←pow30m]at hst
   have hx:=XA.out i
   have hy:=XB.out i
   obtain⟨cn,hcn⟩:∃cn,(a%2^(30*i)+b%2^(30*i))/2^(30*i)=cn:=⟨_,rfl⟩
   rw[hcn]at hc hst
   obtain⟨xn,hxn⟩:∃x,a/2^(30*i)%1073741824=x:=⟨_,rfl⟩
   obtain⟨yn,hyn⟩:∃y,b/2^(30*i)%1073741824=y:=⟨_,rfl⟩
   have bx:xn<1073741824:=by rw[←hxn];exact Nat.mod_lt _ (by decide)
   have bY:yn<1073741824:=by rw[←hyn];exact Nat.mod_lt _ (by decide)
   rw[hxn,hyn]at hst
   rw[hxn]at hx
   rw[hyn]at hy
   obtain⟨s,hs⟩:∃s,cn+xn+yn=s:=⟨_,rfl⟩
   rw[hs]at hst
   have hdig:((s%1073741824:Nat):Int)=(((a+b)/2^(30*i)%1073741824:Nat):Int):=by rw[hst.1]
   have HN:Hid ((((a%2^(30*(i+1))+b%2^(30*(i+1)))/2^(30*(i+1)):Nat):Int)=((s/1073741824:Nat):Int)):=by
    show(((a%2^(30*(i+1))+b%2^(30*(i+1)))/2^(30*(i+1)):Nat):Int)=_
    rw[hst.2]
   obtain⟨v',w',hr,hM',hK'⟩:=app_step w.heap.size wr lv (dl (a+b) i) hM (((s%1073741824:Nat):Int)) hKr.below.size (by rw[dl_length];omega)
   have HR:Hid (∀ty,(Builtin.append_ #[24,24] ty #[lv,.slice (some ⟨wr.heap.size,0,none⟩) 1 1]).run Tryz.prog (wr.alloc (.cells #[.int .i64 (((s%1073741824:Nat):Int))] 3))=.ok v' w'):=hr
   have HM:Hid (MR w.heap.size w' v' (dl (a+b) (i+1))):=by rw[dl_succ];rw[hdig]at hM';exact hM'
   have HKK:Hid (Kept w w'):=hK' w (Nat.le_refl _) hKr
   clear hr hM' hK' hM
   clear hst hdig hcn hxn hyn hge hge2
   obtain⟨dgt,hdgt⟩:∃d:Int,((s%1073741824:Nat):Int)=d:=⟨_,rfl⟩
   obtain⟨nc,hnc⟩:∃d:Int,((s/1073741824:Nat):Int)=d:=⟨_,rfl⟩
   rw[hdgt]at HR
   rw[hnc]at HN
   have hnc2:0≤nc∧nc≤1:=by omega
   have q1:((s:Int)).tmod 1073741824=dgt:=by rw[(tm30 (s:Int) (by omega)).1];omega
   have q2:((s:Int)).tdiv 1073741824=nc:=by rw[(tm30 (s:Int) (by omega)).2];omega
   have hfinal:∀(w'':World),True:=fun _=>trivial
   have XA0:=ZA.out i
   have XB0:=ZB.out i
   subst hc
   by_cases g1:i<n
   ·obtain⟨p1,o1,rfl,ca⟩:=HA.out _ hKr i g1
    rw[hx]at ca
    by_cases g2:i<m
    ·obtain⟨p2,o2,rfl,cb⟩:=HB.out _ hKr i g2
     rw[hy]at cb
     have e1:(cn:Int)+(xn:Int)+(yn:Int)=(s:Int):=by omega
     clear XA0 XB0 hx hy XA XB ZA ZB
     go_wp2_with (first|(at_builtin;refine wpList_append_run rfl _ _ _ rfl _ _ rfl rfl _ _ (HR.out _) ?_))
     go_roundw
     case rel=>exact⟨i+1,nc,_,by omega,HN.out.symm,fun _=>by rw[Nat.add_sub_cancel];exact HGE.out,by omega,hnc2.1,hnc2.2,by go_num,rfl,rfl,HM.out,HKK.out⟩
     case measure=>simp[intOf]<;>omega
    ·have hy0:yn=0:=by have:=XB0 (by omega);omega
     have e1:(cn:Int)+(xn:Int)=(s:Int):=by omega
     clear XA0 XB0 hx hy XA XB ZA ZB
     go_wp2_with (first|(at_builtin;refine wpList_append_run rfl _ _ _ rfl _ _ rfl rfl _ _ (HR.out _) ?_))
     go_roundw
     case rel=>exact⟨i+1,nc,_,by omega,HN.out.symm,fun _=>by rw[Nat.add_sub_cancel];exact HGE.out,by omega,hnc2.1,hnc2.2,by go_num,rfl,rfl,HM.out,HKK.out⟩
     case measure=>simp[intOf]<;>omega
   ·have hx0:xn=0:=by have:=XA0 (by omega);omega
    by_cases g2:i<m
    ·obtain⟨p2,o2,rfl,cb⟩:=HB.out _ hKr i g2
     rw[hy]at cb
     have e1:(cn:Int)+(yn:Int)=(s:Int):=by omega
     clear XA0 XB0 hx hy XA XB ZA ZB
     go_wp2_with (first|(at_builtin;refine wpList_append_run rfl _ _ _ rfl _ _ rfl rfl _ _ (HR.out _) ?_))
     go_roundw
     case rel=>exact⟨i+1,nc,_,by omega,HN.out.symm,fun _=>by rw[Nat.add_sub_cancel];exact HGE.out,by omega,hnc2.1,hnc2.2,by go_num,rfl,rfl,HM.out,HKK.out⟩
     case measure=>simp[intOf]<;>omega
    ·have hy0:yn=0:=by have:=XB0 (by omega);omega
     have e1:(cn:Int)=(s:Int):=by omega
     have g3:0<(cn:Int):=by omega
     have e2:cn=s:=by omega
     subst e2
     clear XA0 XB0 hx hy XA XB ZA ZB
     go_wp2_with (first|(at_builtin;refine wpList_append_run rfl _ _ _ rfl _ _ rfl rfl _ _ (HR.out _) ?_))
     go_roundw
     case rel=>exact⟨i+1,nc,_,by omega,HN.out.symm,fun _=>by rw[Nat.add_sub_cancel];exact HGE.out,by omega,hnc2.1,hnc2.2,by go_num,rfl,rfl,HM.out,HKK.out⟩
     case measure=>simp[intOf]<;>omega
  ·have g1:¬i<n:=by omega
   have g2:¬i<m:=by omega
   have g3:c=0:=by omega
   have hlt:a+b<2^(30*i):=by
    have h1:=TA.out i (by omega)
    have h2:=TB.out i (by omega)
    rw[Nat.mod_eq_of_lt h1,Nat.mod_eq_of_lt h2]at hc
    have h3:(a+b)/2^(30*i)=0:=by omega
    exact(Nat.div_eq_zero_iff_lt (Nat.two_pow_pos _)).1 h3
   have hfin:=dl_digs (a+b) i hlt (by rcases Nat.eq_zero_or_pos i with h|h;exact .inl h;exact .inr (hge h))
   rw[hfin]at hM
   have HF:Hid (RLp (Fresh w.heap.size) wr lv (digs (a+b))):=hM.rlp
   clear hM hfin hlt hc hge
   subst g3
   go_wp2
   go_ret
   exact⟨⟨_,rfl,HF.out⟩,hKr⟩
end Go.Proofs.YtnniljhdcplkgaaGreatDoor
namespace Go.Proofs.YtnniljhdcplkgaaGreatDoor
open Go.ChangeShapes Go.WideShapes Go.ChangeAt Go.RowKit
set_option maxHeartbeats 16000000
set_option maxRecDepth 100000
set_option linter.unusedVariables false
set_option linter.unusedSimpArgs false
theorem unit_facts (s:Nat)(hs:s<30)(u:Int)(hu:u=((2^s:Nat):Int)):wrap64 (2^s)=u∧IntKind.i64.wrap (2^s)=u∧IntKind.i64.wrap (1*2^s)=u∧wrap64 (1*2^s)=u∧1≤u∧u≤536870912:=by
 have h1:2^s≤2^29:=Nat.pow_le_pow_right (by decide) (by omega)
 have h2:=Nat.two_pow_pos s
 have e:(2:Int)^s=u:=by rw[hu,Int.natCast_pow];rfl
 have h3:(2:Nat)^29=536870912:=by decide
 rw[Int.one_mul,e]
 refine⟨?_,?_,?_,?_,by omega,by omega⟩
 ·unfold wrap64;omega
 ·rw[wrap_i64];omega
 ·rw[wrap_i64];omega
 ·unfold wrap64;omega
def ShC (a s i c:Nat):Prop:=c=a%2^(30*i)*2^s/2^(30*i)
theorem shl_digit (a s f i:Nat):a*2^(30*f+s)/2^(30*(f+i))=a*2^s/2^(30*i):=by
 rw[Nat.pow_add,Nat.mul_comm (2^(30*f)),←Nat.mul_assoc,show 30*(f+i)=30*i+30*f by omega,Nat.pow_add,Nat.mul_div_mul_right _ _ (Nat.two_pow_pos _)]
theorem natShl_any (w:World)(a k:Nat)(va:Value)(ha:RL w va (digs a))(la:(digs a).length<100000)(hk:k<10000000):Calls Tryz.prog 54 #[va,.int .i64 (k:Int)] w fun e w'=>(∃r,e=.returned r∧RLp (Fresh w.heap.size) w' r (digs (a*2^k)))∧Kept w w':=by
 obtain⟨a1,c1,rfl,-,hA⟩:=ha.at
 have HA:Hid (∀u,Kept w u→∀i,i<(digs a).length→∃b off,a1=some ⟨b,off,none⟩∧u.cell? ⟨b,off+i,none⟩=some (.int .i64 ((digs a).getD i 0))):=fun u k=>(hA u k).2
 have XA:Hid (∀i,(digs a).getD i 0=((a/2^(30*i)%1073741824:Nat):Int)):=digs_at a
 have TA:Hid (∀i,(digs a).length≤i→a<2^(30*i)):=fun i hi=>digs_lt a i hi
 have H0:Hid ((digs a).length=0→a=0):=fun h=>by
  have:=nv_digs a
  rw[List.length_eq_zero_iff.1 h]at this
  exact this.symm
 obtain⟨f,hf⟩:∃f,k/30=f:=⟨_,rfl⟩
 obtain⟨s,hs⟩:∃s,k%30=s:=⟨_,rfl⟩
 have hks:k=30*f+s:=by omega
 have hs30:s<30:=by omega
 obtain⟨e1,e2⟩:=tdiv_at (k:Int) f s (by omega) (by omega) (by omega) (.inl (by omega))
 obtain⟨u,hu⟩:∃u:Int,u=((2^s:Nat):Int):=⟨_,rfl⟩
 obtain⟨u1,u2,u3,u4,u5,u6⟩:=unit_facts s hs30 u hu
 have HW:=make_run f (by omega)
 have hV:a*2^k=a*2^s*2^(30*f):=by rw[hks,Nat.pow_add,Nat.mul_comm (2^(30*f)),←Nat.mul_assoc]
 have HV:Hid (dl (a*2^k) f=List.replicate f 0):=by rw[hV];exact dl_zeros _ _
 have HD:Hid (∀i,a*2^k/2^(30*(f+i))=a*2^s/2^(30*i)):=fun i=>by rw[hks];exact shl_digit a s f i
 have HB:Hid (∀i,a<2^(30*i)→a*2^k<2^(30*(f+i+1))):=fun i hi=>by
  have h1:a*2^k<2^(30*i)*2^k:=Nat.mul_lt_mul_of_lt_of_le hi (Nat.le_refl _) (Nat.two_pow_pos _)
  rw[←Nat.pow_add]at h1
  exact Nat.lt_of_lt_of_le h1 (Nat.pow_le_pow_right (by decide) (by omega))
 have KT:Hid (∀u' (v':Value) c,MR w.heap.size u' v' (dl (a*2^k) c)→c<10000000→a*2^k<2^(30*c)→Calls Tryz.prog 87 #[v'] u' fun e w'=>(∃r,e=.returned r∧RLp (Fresh w.heap.size) u' r (digs (a*2^k)))∧u'=w'):=fun u' v' c hM hc hlt=>by
  have:=trim_any w.heap.size u' v' (dl (a*2^k) c) hM (dl_dg _ _) (by rw[dl_length];omega)
  rw[dl_lt _ _ hlt]at this
  exact this
 have O0:Hid (MR w.heap.size (w.alloc (.cells (madeCells #[.int .i64 0] f) 3)) (.slice (some ⟨w.heap.size,0,none⟩) f f) (dl (a*2^k) f)):=by
  rw[HV.out]
  exact .inr ⟨w.heap.size,f,by rw[List.length_replicate],Nat.le_refl _,own_made f (by omega) w⟩
 have K0:Hid (Kept w (w.alloc (.cells (madeCells #[.int .i64 0] f) 3))):=(Kept.refl w).alloc _ _
 have hR0:=RLp.nil (Fresh w.heap.size) w
 have HU:Hid (u=((2^s:Nat):Int)):=hu
 have hfb:f<1000000:=by omega
 clear ha hA hV HV hf hs hks hu
 generalize (digs a).length=n at *
 by_cases hn:n=0
 ·have ha0:=H0.out hn
  subst ha0
  subst hn
  have e:digs (0*2^k)=[]:=by rw[Nat.zero_mul,digs_zero]
  rw[e]
  clear KT HB HD XA TA HA O0
  go_enter Tryz.func54,Tryz.ntmps54
  go_wp2
  go_ret
  exact⟨⟨_,rfl,hR0⟩,Kept.refl _⟩
 ·clear H0 hR0
  have hn1:((n:Int)==0)=false:=by simp;omega
  go_enter Tryz.func54,Tryz.ntmps54
  go_wp2
  go_loopw [5,7,8] (fun sv cv iv wr=>∃(i c:Nat) (lv:Value),i≤n∧ShC a s i c∧(c:Int)<u∧iv=.int .i64 i∧cv=.int .i64 c∧sv=lv∧MR w.heap.size wr lv (dl (a*2^k) (f+i))∧Kept w wr) (fun _ _ iv _=>n-(intOf iv).toNat)
  case atStart=>exact⟨0,0,_,by omega,by simp[ShC,Nat.mod_one],by omega,rfl,rfl,rfl,O0.out,K0.out⟩
  case round=>
   obtain⟨i,c,lv,hi,hc,hcu,rfl,rfl,hlv,hM,hKr⟩:=hrel
   have hlv':=hlv.symm
   clear hlv
   subst hlv'
   have hc:c=a%2^(30*i)*2^s/2^(30*i):=hc
   by_cases hin:i<n
   ·obtain⟨p1,o1,rfl,ca⟩:=HA.out _ hKr i hin
    have hst:=shl_step a (2^s) (2^(30*i)) 1073741824 (Nat.two_pow_pos _) (by decide)
    rw[←pow30m]at hst
    have hx:=XA.out i
    rw[hx]at ca
    obtain⟨xn,hxn⟩:∃x,a/2^(30*i)%1073741824=x:=⟨_,rfl⟩
    have bx:xn<1073741824:=by rw[←hxn];exact Nat.mod_lt _ (by decide)
    rw[hxn,←hc]at hst
    rw[hxn]at ca
    obtain⟨t,ht⟩:∃t,xn*2^s+c=t:=⟨_,rfl⟩
    rw[ht]at hst
    have hmul:(xn:Int)*u+(c:Int)=(t:Int):=by rw[←ht,HU.out,Int.natCast_add,Int.natCast_mul]
    have hm0:0≤(xn:Int)*u:=Int.mul_nonneg (by omega) (by omega)
    have hm1:(xn:Int)*u≤1073741823*u:=Int.mul_le_mul_of_nonneg_right (by omega) (by omega)
    have hdig:((t%1073741824:Nat):Int)=((a*2^k/2^(30*(f+i))%1073741824:Nat):Int):=by rw[HD.out i,hst.1]
    have HN:Hid (ShC a s (i+1) (t/1073741824)):=hst.2.symm
    obtain⟨v',w',hr,hM',hK'⟩:=app_step w.heap.size wr lv (dl (a*2^k) (f+i)) hM (((t%1073741824:Nat):Int)) hKr.below.size (by rw[dl_length];omega)
    have HR:Hid (∀ty,(Builtin.append_ #[24,24] ty #[lv,.slice (some ⟨wr.heap.size,0,none⟩) 1 1]).run Tryz.prog (wr.alloc (.cells #[.int .i64 (((t%1073741824:Nat):Int))] 3))=.ok v' w'):=hr
    have HM:Hid (MR w.heap.size w' v' (dl (a*2^k) (f+(i+1)))):=by rw[←Nat.add_assoc,dl_succ];rw[hdig]at hM';exact hM'
    have HKK:Hid (Kept w w'):=hK' w (Nat.le_refl _) hKr
    clear hr hM' hK' hM
    clear hst hdig hxn hx hc ht
    obtain⟨dgt,hdgt⟩:∃d:Int,((t%1073741824:Nat):Int)=d:=⟨_,rfl⟩
    rw[hdgt]at HR
    have q1:((t:Int)).tmod 1073741824=dgt:=by rw[(tm30 (t:Int) (by omega)).1];omega
    have q2:((t:Int)).tdiv 1073741824=((t/1073741824:Nat):Int):=by rw[(tm30 (t:Int) (by omega)).2];omega
    have q3:IntKind.i64.wrap ((xn:Int)*u)=(xn:Int)*u:=by rw[wrap_i64];omega
    have q4:IntKind.i64.wrap ((xn:Int)*u+(c:Int))=(t:Int):=by rw[wrap_i64];omega
    have q5:((t/1073741824:Nat):Int)<u:=by omega
    clear KT HB HD XA TA HA
    go_wp2_with (first|(at_builtin;refine wpList_append_run rfl _ _ _ rfl _ _ rfl rfl _ _ (HR.out _) ?_))
    go_roundw
    case rel=>exact⟨i+1,t/1073741824,_,by omega,HN.out,q5,by go_num,by first|rfl|go_num,rfl,HM.out,HKK.out⟩
    case measure=>simp[intOf]<;>omega
   ·obtain rfl:i=n:=by omega
    have hlt:=TA.out i (Nat.le_refl _)
    have hx:a*2^k/2^(30*(f+i))%1073741824=c:=by
     rw[HD.out i]
     rw[Nat.mod_eq_of_lt hlt]at hc
     rw[←hc]
     exact Nat.mod_eq_of_lt (by omega)
    have hcd:(c:Int)=((a*2^k/2^(30*(f+i))%1073741824:Nat):Int):=by rw[hx]
    obtain⟨v',w',hr,hM',hK'⟩:=app_step w.heap.size wr lv (dl (a*2^k) (f+i)) hM ((c:Int)) hKr.below.size (by rw[dl_length];omega)
    have HR:Hid (∀ty,(Builtin.append_ #[24,24] ty #[lv,.slice (some ⟨wr.heap.size,0,none⟩) 1 1]).run Tryz.prog (wr.alloc (.cells #[.int .i64 ((c:Int))] 3))=.ok v' w'):=hr
    have HM:Hid (MR w.heap.size w' v' (dl (a*2^k) ((f+i)+1))):=by rw[dl_succ];rw[hcd]at hM';exact hM'
    have HKK:Hid (Kept w w'):=hK' w (Nat.le_refl _) hKr
    clear hr hM' hK' hM
    have hbig:=HB.out i hlt
    have HKT:Hid (Calls Tryz.prog 87 #[v'] w' fun e w''=>(∃r,e=.returned r∧RLp (Fresh w.heap.size) w' r (digs (a*2^k)))∧w'=w''):=KT.out w' v' (f+i+1) HM.out (by omega) hbig
    clear hx hcd hlt hbig hc KT HB HD XA TA HA
    go_wp2_with (first|(at_builtin;refine wpList_append_run rfl _ _ _ rfl _ _ rfl rfl _ _ (HR.out _) ?_)|(go_at_call 87;refine HKT.out.mono ?_;rintro e w2 ⟨⟨r,rfl,hr⟩,rfl⟩))
    go_ret
    exact⟨⟨_,rfl,hr⟩,HKK.out⟩
end Go.Proofs.YtnniljhdcplkgaaGreatDoor
namespace Go.Proofs.YtnniljhdcplkgaaGreatDoor
open Go.ChangeShapes Go.WideShapes Go.ChangeAt Go.RowKit
set_option maxHeartbeats 16000000
set_option maxRecDepth 100000
set_option linter.unusedVariables false
set_option linter.unusedSimpArgs false
theorem shr_at (V f s j:Nat):V/2^(30*f+s)/2^(30*j)=V/2^(30*(f+j)+s):=by
 rw[Nat.div_div_eq_div_mul,←Nat.pow_add]
 congr 2
 omega
theorem natShr_any (w:World)(M:List Int)(k:Nat)(va:Value)(ha:RL w va M)(hD:Dg M)(la:M.length<1000000)(hk:k<100000000):Calls Tryz.prog 85 #[va,.int .i64 (k:Int)] w fun e w'=>(∃r,e=.returned r∧RLp (Fresh w.heap.size) w' r (digs (nv M/2^k)))∧Kept w w':=by
 obtain⟨a1,c1,rfl,-,hA⟩:=ha.at
 have HA:Hid (∀u,Kept w u→∀i,i<M.length→∃b off,a1=some ⟨b,off,none⟩∧u.cell? ⟨b,off+i,none⟩=some (.int .i64 (M.getD i 0))):=fun u k=>(hA u k).2
 have XA:Hid (∀i,M.getD i 0=((nv M/2^(30*i)%1073741824:Nat):Int)):=fun i=>by
  have h1:=nv_getD M hD i
  have h2:=hD.getD i
  omega
 obtain⟨f,hf⟩:∃f,k/30=f:=⟨_,rfl⟩
 obtain⟨s,hs⟩:∃s,k%30=s:=⟨_,rfl⟩
 have hks:k=30*f+s:=by omega
 have hs30:s<30:=by omega
 obtain⟨e1,e2⟩:=tdiv_at (k:Int) f s (by omega) (by omega) (by omega) (.inl (by omega))
 obtain⟨u,hu⟩:∃u:Int,u=((2^s:Nat):Int):=⟨_,rfl⟩
 obtain⟨u1,u2,u3,u4,u5,u6⟩:=unit_facts s hs30 u hu
 obtain⟨V,hV⟩:∃V,V=nv M:=⟨_,rfl⟩
 rw[←hV]at XA ⊢
 have hlt:V<2^(30*M.length):=by rw[hV];exact nv_lt M hD
 have HE:Hid (M.length≤f→V/2^k=0):=fun h=>Nat.div_eq_of_lt (Nat.lt_of_lt_of_le hlt (Nat.pow_le_pow_right (by decide) (by omega)))
 have HQ:Hid (∀j,V/2^k/2^(30*j)=V/2^(30*(f+j)+s)):=fun j=>by rw[hks];exact shr_at V f s j
 have HB:Hid (∀c,f+c=M.length→V/2^k<2^(30*c)):=fun c hc=>by
  rw[Nat.div_lt_iff_lt_mul (Nat.two_pow_pos _),←Nat.pow_add]
  exact Nat.lt_of_lt_of_le hlt (Nat.pow_le_pow_right (by decide) (by omega))
 have KT:Hid (∀u' (v':Value) c,MR w.heap.size u' v' (dl (V/2^k) c)→c<10000000→V/2^k<2^(30*c)→Calls Tryz.prog 87 #[v'] u' fun e w'=>(∃r,e=.returned r∧RLp (Fresh w.heap.size) u' r (digs (V/2^k)))∧u'=w'):=fun u' v' c hM hc hlt=>by
  have:=trim_any w.heap.size u' v' (dl (V/2^k) c) hM (dl_dg _ _) (by rw[dl_length];omega)
  rw[dl_lt _ _ hlt]at this
  exact this
 have HP:Hid (∀i,V/2^(30*i)%1073741824/2^s+V/2^(30*(i+1))%1073741824%2^s*2^(30-s)=V/2^(30*i+s)%1073741824):=fun i=>by
  rw[shr_digit _ _ s hs30 (Nat.mod_lt _ (by decide)),piece_nat V s hs30 i]
 have hR0:=RLp.nil (Fresh w.heap.size) w
 have HU:Hid (u=((2^s:Nat):Int)):=hu
 have HU2:Hid ((1073741824:Int).tdiv u=((2^(30-s):Nat):Int)):=by
  show(1073741824:Int).tdiv u=_
  have hpp:2^s*2^(30-s)=1073741824:=by rw[←Nat.pow_add,show s+(30-s)=30 by omega]
  rw[hu,show(1073741824:Int)=((2^s*2^(30-s):Nat):Int) by rw[hpp];rfl,Int.tdiv_eq_ediv_of_nonneg (by omega),←Int.natCast_ediv,Nat.mul_div_cancel_left _ (Nat.two_pow_pos s)]
 have hzz:Hid (∀i,M.length≤i→M.getD i 0=0):=fun i hi=>by rw[List.getD_eq_getElem?_getD,List.getElem?_eq_none hi];rfl
 have hfb:f<10000000:=by omega
 clear ha hA hf hs hks hu hV hlt hD
 generalize M.length=n at *
 by_cases hn:n≤f
 ·have h0:=HE.out hn
  rw[h0,digs_zero]
  have hge:(n:Int)≤(f:Int):=by omega
  clear HE HQ HB KT HP XA HA HU HU2 hzz h0
  go_enter Tryz.func85,Tryz.ntmps85
  go_wp2
  go_ret
  exact⟨⟨_,rfl,hR0⟩,Kept.refl _⟩
 ·have hge:¬(n:Int)≤(f:Int):=by omega
  have hu0:¬u=0:=by omega
  have hu1:(u==0)=false:=by simp;omega
  clear HE hR0
  go_enter Tryz.func85,Tryz.ntmps85
  go_wp2
  go_loopw [5,7] (fun sv iv wr=>∃(j:Nat) (lv:Value),f+j≤n∧iv=.int .i64 ((f+j:Nat):Int)∧sv=lv∧MR w.heap.size wr lv (dl (V/2^k) j)∧Kept w wr) (fun _ iv _=>n-(intOf iv).toNat)
  case atStart=>exact⟨0,_,by omega,rfl,rfl,.inl ⟨rfl,rfl⟩,Kept.refl _⟩
  case round=>
   obtain⟨j,lv,hj,rfl,hlv,hM,hKr⟩:=hrel
   have hlv':=hlv.symm
   clear hlv
   subst hlv'
   obtain⟨i,hi⟩:∃i,f+j=i:=⟨_,rfl⟩
   have hqj:=HQ.out j
   rw[hi]at hj hqj ⊢
   have hjb:j<1000000:=by omega
   by_cases hin:i<n
   ·obtain⟨p1,o1,rfl,ca⟩:=HA.out _ hKr i hin
    have hp:=HP.out i
    rw[XA.out i]at ca
    obtain⟨xn,hxn⟩:∃x,V/2^(30*i)%1073741824=x:=⟨_,rfl⟩
    have bx:xn<1073741824:=by rw[←hxn];exact Nat.mod_lt _ (by decide)
    have hyy:=XA.out (i+1)
    obtain⟨yn,hyn⟩:∃x,V/2^(30*(i+1))%1073741824=x:=⟨_,rfl⟩
    have bY:yn<1073741824:=by rw[←hyn];exact Nat.mod_lt _ (by decide)
    rw[hxn]at ca
    rw[hxn,hyn]at hp
    rw[hyn]at hyy
    have hdig:((xn/2^s+yn%2^s*2^(30-s):Nat):Int)=((V/2^k/2^(30*j)%1073741824:Nat):Int):=by rw[hqj,hp]
    have hdb:xn/2^s+yn%2^s*2^(30-s)<1073741824:=by rw[hp];exact Nat.mod_lt _ (by decide)
    obtain⟨x1,hx1⟩:∃x,xn/2^s=x:=⟨_,rfl⟩
    obtain⟨y1,hy1⟩:∃x,yn%2^s=x:=⟨_,rfl⟩
    obtain⟨pw,hpw⟩:∃x,2^(30-s)=x:=⟨_,rfl⟩
    obtain⟨ym,hym⟩:∃x,y1*pw=x:=⟨_,rfl⟩
    rw[hx1,hy1,hpw,hym]at hdig hdb
    have q1:((xn:Int)).tdiv u=(x1:Int):=by rw[HU.out,Int.tdiv_eq_ediv_of_nonneg (by omega),←Int.natCast_ediv,hx1]
    have q2:((yn:Int)).tmod u=(y1:Int):=by rw[HU.out,Int.tmod_eq_emod_of_nonneg (by omega),←Int.natCast_emod,hy1]
    have q3:(1073741824:Int).tdiv u=(pw:Int):=by rw[HU2.out,hpw]
    have q4:(y1:Int)*(pw:Int)=(ym:Int):=by rw[←hym,Int.natCast_mul]
    have q5:IntKind.i64.wrap ((y1:Int)*(pw:Int))=(ym:Int):=by rw[q4,wrap_i64];omega
    have q6:IntKind.i64.wrap ((x1:Int)+(ym:Int))=((x1+ym:Nat):Int):=by rw[wrap_i64];omega
    have q7:(x1:Int)+(ym:Int)=((x1+ym:Nat):Int):=by omega
    have bx1:x1<1073741824:=by omega
    have q9:IntKind.i64.wrap (ym:Int)=(ym:Int):=by rw[wrap_i64];omega
    have hi1:IntKind.i64.wrap ((i:Int)+1)=(i:Int)+1:=by rw[wrap_i64];omega
    obtain⟨dd,hdd⟩:∃d:Int,((x1+ym:Nat):Int)=d:=⟨_,rfl⟩
    rw[hdd]at hdig q6 q7
    have HDG:Hid (dd=((V/2^k/2^(30*j)%1073741824:Nat):Int)):=hdig
    clear hdig
    have hz0:=hzz.out (i+1)
    have HI:Hid (f+j=i):=hi
    have hpb:pw≤1073741824:=by rw[←hpw];exact Nat.pow_le_pow_right (n:=2) (by decide) (show 30-s≤30 by omega)
    have q8:IntKind.i64.wrap (pw:Int)=(pw:Int):=by rw[wrap_i64];omega
    clear hxn hyn hp hqj hx1 hpw hym hi
    by_cases hin2:i+1<n
    ·obtain⟨p2,o2,he,cb⟩:=HA.out _ hKr (i+1) hin2
     cases he
     rw[hyy]at cb
     have hlt2:(i:Int)+1<(n:Int):=by omega
     have hnn:((i:Int)+1).toNat=i+1:=by omega
     have hidx:0≤(i:Int)+1∧(i:Int)+1<(n:Int):=by omega
     have cb2:wr.drew.cell? ⟨p1,o1+(i+1),none⟩=some (.int .i64 (yn:Int)):=cb
     clear hyy hz0 KT HP XA HA HU HU2 hzz HQ HB hdd hy1
     go_wp2_with fail
     refine wp_region_held_drew (S:=fun u=>u.cell? ⟨p1,o1+(i+1),none⟩=some (.int .i64 (yn:Int))) (by kernel_rfl) cb2 (fun hHeld=>?_)
     refine tk (i:=0) (v:=?_) rfl ?_
     simp only[Act.put,zA,zB,zC,zD,zE,zF]
     refine tk (i:=1) (v:=?_) rfl ?_
     simp only[Act.put,zA,zB,zC,zD,zE,zF]
     refine tk (i:=2) (v:=?_) rfl ?_
     simp only[Act.put,zA,zB,zC,zD,zE,zF]
     refine tk (i:=3) (v:=?_) rfl ?_
     simp only[Act.put,zA,zB,zC,zD,zE,zF]
     refine tk (i:=4) (v:=?_) rfl ?_
     simp only[Act.put,zA,zB,zC,zD,zE,zF]
     refine tk (i:=5) (v:=?_) rfl ?_
     simp only[Act.put,zA,zB,zC,zD,zE,zF]
     refine tk (i:=6) (v:=?_) rfl ?_
     simp only[Act.put,zA,zB,zC,zD,zE,zF]
     refine tk (i:=7) (v:=?_) rfl ?_
     simp only[Act.put,zA,zB,zC,zD,zE,zF]
     refine tk (i:=8) (v:=?_) rfl ?_
     simp only[Act.put,zA,zB,zC,zD,zE,zF]
     refine tk (i:=9) (v:=?_) rfl ?_
     simp only[Act.put,zA,zB,zC,zD,zE,zF]
     refine tk (i:=10) (v:=?_) rfl ?_
     simp only[Act.put,zA,zB,zC,zD,zE,zF]
     refine tk (i:=11) (v:=?_) rfl ?_
     simp only[Act.put,zA,zB,zC,zD,zE,zF]
     refine tk (i:=12) (v:=?_) rfl ?_
     simp only[Act.put,zA,zB,zC,zD,zE,zF]
     refine wpAnyH_done (by kernel_rfl) ?_ _
     clear hHeld
     obtain⟨wd,hwd⟩:∃x,x=wr.drew:=⟨_,rfl⟩
     have hM:=hM.kept (Kept.refl wr).drew
     have hKr:=hKr.drew
     rw[←hwd]at hM hKr ⊢
     clear hwd ca cb2 cb
     obtain⟨v',w',hr,hM',hK'⟩:=app_step w.heap.size wd lv (dl (V/2^k) j) hM (dd) hKr.below.size (by rw[dl_length];omega)
     have HR:Hid (∀ty,(Builtin.append_ #[24,24] ty #[lv,.slice (some ⟨wd.heap.size,0,none⟩) 1 1]).run Tryz.prog (wd.alloc (.cells #[.int .i64 (dd)] 3))=.ok v' w'):=hr
     have HM:Hid (MR w.heap.size w' v' (dl (V/2^k) (j+1))):=by rw[dl_succ];rw[HDG.out]at hM';exact hM'
     have HKK:Hid (Kept w w'):=hK' w (Nat.le_refl _) hKr
     clear hr hM' hK' hM
     go_wp2_with (first|(at_builtin;refine wpList_append_run rfl _ _ _ rfl _ _ rfl rfl _ _ (HR.out _) ?_))
     go_roundw
     case rel=>exact⟨j+1,_,by have:=HI.out;omega,by rw[show f+(j+1)=i+1 by have:=HI.out;omega];go_num,rfl,HM.out,HKK.out⟩
     case measure=>simp[intOf]<;>omega
    ·have hy0:yn=0:=by have:=hz0 (by omega);omega
     have hge2:¬(i:Int)+1<(n:Int):=by omega
     have hy10:y1=0:=by rw[←hy1,hy0,Nat.zero_mod]
     have hdx:dd=(x1:Int):=by
      rw[←hdd]
      have:(ym:Int)=0:=by rw[←q4,hy10];simp
      omega
     have hdig:=HDG.out
     rw[hdx]at hdig
     obtain⟨v',w',hr,hM',hK'⟩:=app_step w.heap.size wr lv (dl (V/2^k) j) hM ((x1:Int)) hKr.below.size (by rw[dl_length];omega)
     have HR:Hid (∀ty,(Builtin.append_ #[24,24] ty #[lv,.slice (some ⟨wr.heap.size,0,none⟩) 1 1]).run Tryz.prog (wr.alloc (.cells #[.int .i64 ((x1:Int))] 3))=.ok v' w'):=hr
     have HM:Hid (MR w.heap.size w' v' (dl (V/2^k) (j+1))):=by rw[dl_succ];rw[hdig]at hM';exact hM'
     have HKK:Hid (Kept w w'):=hK' w (Nat.le_refl _) hKr
     clear hr hM' hK' hM
     clear hdig hdd hdx q2 q3 q4 q5 q6 q7 KT HP XA HA HU HU2 hzz HQ HB hyy hz0
     go_wp2_with (first|(at_builtin;refine wpList_append_run rfl _ _ _ rfl _ _ rfl rfl _ _ (HR.out _) ?_))
     go_roundw
     case rel=>exact⟨j+1,_,by have:=HI.out;omega,by rw[show f+(j+1)=i+1 by have:=HI.out;omega];go_num,rfl,HM.out,HKK.out⟩
     case measure=>simp[intOf]<;>omega
   ·obtain rfl:i=n:=by omega
    have HKT:Hid (Calls Tryz.prog 87 #[lv] wr fun e w''=>(∃r,e=.returned r∧RLp (Fresh w.heap.size) wr r (digs (V/2^k)))∧wr=w''):=KT.out wr lv j hM (by omega) (HB.out j hi)
    clear KT HP XA HA HU HU2 hzz HQ HB hqj hi hM
    go_wp2_with (first|(go_at_call 87;refine HKT.out.mono ?_;rintro e w2 ⟨⟨r,rfl,hr⟩,rfl⟩))
    go_ret
    exact⟨⟨_,rfl,hr⟩,hKr⟩
end Go.Proofs.YtnniljhdcplkgaaGreatDoor
namespace Go.Proofs.YtnniljhdcplkgaaGreatDoor
open Go.ChangeShapes Go.WideShapes Go.ChangeAt Go.RowKit
set_option maxHeartbeats 16000000
set_option maxRecDepth 100000
set_option linter.unusedVariables false
set_option linter.unusedSimpArgs false
def SbC (a b i:Nat)(c:Int):Prop:=c=if a%2^(30*i)<b%2^(30*i)then 1 else 0
theorem natSub_any (w:World)(a b:Nat)(hba:b≤a)(va vb:Value)(ha:RL w va (digs a))(hb:RL w vb (digs b))(la:(digs a).length<1000000)(lb:(digs b).length<1000000):Calls Tryz.prog 83 #[va,vb] w fun e w'=>(∃r,e=.returned r∧RLp (Fresh w.heap.size) w' r (digs (a-b)))∧Kept w w':=by
 obtain⟨a1,c1,rfl,-,hA⟩:=ha.at
 obtain⟨a2,c2,rfl,-,hB⟩:=hb.at
 have HA:Hid (∀u,Kept w u→∀i,i<(digs a).length→∃b off,a1=some ⟨b,off,none⟩∧u.cell? ⟨b,off+i,none⟩=some (.int .i64 ((digs a).getD i 0))):=fun u k=>(hA u k).2
 have HB:Hid (∀u,Kept w u→∀i,i<(digs b).length→∃b' off,a2=some ⟨b',off,none⟩∧u.cell? ⟨b',off+i,none⟩=some (.int .i64 ((digs b).getD i 0))):=fun u k=>(hB u k).2
 have XA:Hid (∀i,(digs a).getD i 0=((a/2^(30*i)%1073741824:Nat):Int)):=digs_at a
 have XB:Hid (∀i,(digs b).getD i 0=((b/2^(30*i)%1073741824:Nat):Int)):=digs_at b
 have ZB:Hid (∀i,(digs b).length≤i→(digs b).getD i 0=0):=fun i hi=>by rw[List.getD_eq_getElem?_getD,List.getElem?_eq_none hi];rfl
 have TA:Hid (a-b<2^(30*(digs a).length)):=Nat.lt_of_le_of_lt (Nat.sub_le _ _) (digs_lt a _ (Nat.le_refl _))
 have KT:Hid (∀u' (v':Value) c,MR w.heap.size u' v' (dl (a-b) c)→c<10000000→a-b<2^(30*c)→Calls Tryz.prog 87 #[v'] u' fun e w'=>(∃r,e=.returned r∧RLp (Fresh w.heap.size) u' r (digs (a-b)))∧u'=w'):=fun u' v' c hM hc hlt=>by
  have:=trim_any w.heap.size u' v' (dl (a-b) c) hM (dl_dg _ _) (by rw[dl_length];omega)
  rw[dl_lt _ _ hlt]at this
  exact this
 have HBA:Hid (b≤a):=hba
 clear ha hb hA hB hba
 generalize (digs a).length=n at *
 generalize (digs b).length=m at *
 go_enter Tryz.func83,Tryz.ntmps83
 go_wp2
 go_loopw [5,6,7] (fun sv cv iv wr=>∃(i:Nat) (c:Int) (lv:Value),i≤n∧SbC a b i c∧0≤c∧c≤1∧iv=.int .i64 i∧cv=.int .i64 c∧sv=lv∧MR w.heap.size wr lv (dl (a-b) i)∧Kept w wr) (fun _ _ iv _=>n-(intOf iv).toNat)
 case atStart=>exact⟨0,0,_,by omega,by simp[SbC,Nat.mod_one],by omega,by omega,rfl,rfl,rfl,.inl ⟨rfl,rfl⟩,Kept.refl _⟩
 case round=>
  obtain⟨i,c,lv,hi,hc,hc0,hc1,rfl,rfl,hlv,hM,hKr⟩:=hrel
  have hlv':=hlv.symm
  clear hlv
  subst hlv'
  by_cases hin:i<n
  ·obtain⟨p1,o1,rfl,ca⟩:=HA.out _ hKr i hin
   rw[XA.out i]at ca
   have hy:=XB.out i
   obtain⟨xn,hxn⟩:∃x,a/2^(30*i)%1073741824=x:=⟨_,rfl⟩
   obtain⟨yn,hyn⟩:∃y,b/2^(30*i)%1073741824=y:=⟨_,rfl⟩
   have bx:xn<1073741824:=by rw[←hxn];exact Nat.mod_lt _ (by decide)
   have bY:yn<1073741824:=by rw[←hyn];exact Nat.mod_lt _ (by decide)
   obtain⟨s,hs⟩:∃s:Int,s=(xn:Int)-c-(yn:Int):=⟨_,rfl⟩
   have hst:=sub_step a b (2^(30*i)) 1073741824 (Nat.two_pow_pos _) (by decide) HBA.out c hc s (by rw[hxn,hyn];exact hs)
   rw[←pow30m]at hst
   rw[hxn]at ca
   rw[hyn]at hy
   have hz:=ZB.out i
   have HY:Hid (m≤i→yn=0):=fun h=>by have:=hz h;omega
   have HB2:Hid (i<m→∃b' off,a2=some ⟨b',off,none⟩∧wr.cell? ⟨b',off+i,none⟩=some (.int .i64 (yn:Int))):=fun h=>by
    have:=HB.out _ hKr i h
    rw[hy]at this
    exact this
   clear hz hy hxn hyn hc
   have w1:IntKind.i64.wrap ((xn:Int)-c)=(xn:Int)-c:=by rw[wrap_i64];omega
   by_cases hneg:s<0
   ·rw[if_pos hneg]at hst
    have HN:Hid (SbC a b (i+1) 1):=by
     show(1:Int)=if _ then 1 else 0
     rw[if_pos (hst.2.2 hneg)]
    have hdig:s+1073741824=(((a-b)/2^(30*i)%1073741824:Nat):Int):=hst.1.symm
    obtain⟨v',w',hr,hM',hK'⟩:=app_step w.heap.size wr lv (dl (a-b) i) hM (s+1073741824) hKr.below.size (by rw[dl_length];omega)
    have HR:Hid (∀ty,(Builtin.append_ #[24,24] ty #[lv,.slice (some ⟨wr.heap.size,0,none⟩) 1 1]).run Tryz.prog (wr.alloc (.cells #[.int .i64 (s+1073741824)] 3))=.ok v' w'):=hr
    have HM:Hid (MR w.heap.size w' v' (dl (a-b) (i+1))):=by rw[dl_succ];rw[hdig]at hM';exact hM'
    have HKK:Hid (Kept w w'):=hK' w (Nat.le_refl _) hKr
    clear hr hM' hK' hM
    obtain⟨dd,hdd⟩:∃d:Int,s+1073741824=d:=⟨_,rfl⟩
    rw[hdd]at HR
    have w3:IntKind.i64.wrap (s+1073741824)=dd:=by rw[wrap_i64];omega
    clear hst hdig
    by_cases g2:i<m
    ·obtain⟨p2,o2,rfl,cb⟩:=HB2.out g2
     have w2:IntKind.i64.wrap ((xn:Int)-c-(yn:Int))=s:=by rw[wrap_i64];omega
     have w4:(xn:Int)-c-(yn:Int)=s:=hs.symm
     clear hs HB2 HY KT TA HA HB XA XB ZB
     go_wp2_with (first|(at_builtin;refine wpList_append_run rfl _ _ _ rfl _ _ rfl rfl _ _ (HR.out _) ?_))
     go_roundw
     case rel=>exact⟨i+1,1,_,by omega,HN.out,by omega,by omega,by go_num,rfl,rfl,HM.out,HKK.out⟩
     case measure=>simp[intOf]<;>omega
    ·have hy0:=HY.out (by omega)
     subst hy0
     have w4:(xn:Int)-c=s:=by omega
     have g2i:¬(i:Int)<(m:Int):=by omega
     clear hs HB2 HY KT TA HA HB XA XB ZB w1
     have w1:IntKind.i64.wrap ((xn:Int)-c)=s:=by rw[wrap_i64];omega
     go_wp2_with (first|(at_builtin;refine wpList_append_run rfl _ _ _ rfl _ _ rfl rfl _ _ (HR.out _) ?_))
     go_roundw
     case rel=>exact⟨i+1,1,_,by omega,HN.out,by omega,by omega,by go_num,rfl,rfl,HM.out,HKK.out⟩
     case measure=>simp[intOf]<;>omega
   ·rw[if_neg hneg]at hst
    have HN:Hid (SbC a b (i+1) 0):=by
     show(0:Int)=if _ then 1 else 0
     rw[if_neg (fun h=>hneg (hst.2.1 h))]
    have hdig:s=(((a-b)/2^(30*i)%1073741824:Nat):Int):=hst.1.symm
    obtain⟨v',w',hr,hM',hK'⟩:=app_step w.heap.size wr lv (dl (a-b) i) hM (s) hKr.below.size (by rw[dl_length];omega)
    have HR:Hid (∀ty,(Builtin.append_ #[24,24] ty #[lv,.slice (some ⟨wr.heap.size,0,none⟩) 1 1]).run Tryz.prog (wr.alloc (.cells #[.int .i64 (s)] 3))=.ok v' w'):=hr
    have HM:Hid (MR w.heap.size w' v' (dl (a-b) (i+1))):=by rw[dl_succ];rw[hdig]at hM';exact hM'
    have HKK:Hid (Kept w w'):=hK' w (Nat.le_refl _) hKr
    clear hr hM' hK' hM
    clear hst hdig
    by_cases g2:i<m
    ·obtain⟨p2,o2,rfl,cb⟩:=HB2.out g2
     have w2:IntKind.i64.wrap ((xn:Int)-c-(yn:Int))=s:=by rw[wrap_i64];omega
     have w4:(xn:Int)-c-(yn:Int)=s:=hs.symm
     clear hs HB2 HY KT TA HA HB XA XB ZB
     go_wp2_with (first|(at_builtin;refine wpList_append_run rfl _ _ _ rfl _ _ rfl rfl _ _ (HR.out _) ?_))
     go_roundw
     case rel=>exact⟨i+1,0,_,by omega,HN.out,by omega,by omega,by go_num,rfl,rfl,HM.out,HKK.out⟩
     case measure=>simp[intOf]<;>omega
    ·have hy0:=HY.out (by omega)
     subst hy0
     have w4:(xn:Int)-c=s:=by omega
     have g2i:¬(i:Int)<(m:Int):=by omega
     clear hs HB2 HY KT TA HA HB XA XB ZB w1
     have w1:IntKind.i64.wrap ((xn:Int)-c)=s:=by rw[wrap_i64];omega
     go_wp2_with (first|(at_builtin;refine wpList_append_run rfl _ _ _ rfl _ _ rfl rfl _ _ (HR.out _) ?_))
     go_roundw
     case rel=>exact⟨i+1,0,_,by omega,HN.out,by omega,by omega,by go_num,rfl,rfl,HM.out,HKK.out⟩
     case measure=>simp[intOf]<;>omega
  ·obtain rfl:i=n:=by omega
   have HKT:Hid (Calls Tryz.prog 87 #[lv] wr fun e w''=>(∃r,e=.returned r∧RLp (Fresh w.heap.size) wr r (digs (a-b)))∧wr=w''):=KT.out wr lv i hM (by omega) TA.out
   clear KT TA HA HB XA XB ZB hM hc
   go_wp2_with (first|(go_at_call 87;refine HKT.out.mono ?_;rintro e w2 ⟨⟨r,rfl,hr⟩,rfl⟩))
   go_ret
   exact⟨⟨_,rfl,hr⟩,hKr⟩
theorem cmp_len (a b:Nat)(h:(digs a).length<(digs b).length):a<b:=by
 have h1:=digs_lt a _ (Nat.le_refl _)
 have h2:=digs_ge b ((digs b).length-1) (by omega)
 have h3:(2:Nat)^(30*(digs a).length)≤2^(30*((digs b).length-1)):=Nat.pow_le_pow_right (by decide) (by omega)
 omega
theorem div_step (a i:Nat):a/2^(30*i)=a/2^(30*(i+1))*1073741824+a/2^(30*i)%1073741824:=by
 have e:a/2^(30*(i+1))=a/2^(30*i)/1073741824:=by rw[pow30m,←Nat.div_div_eq_div_mul]
 rw[e]
 omega
theorem natCmp_any (w:World)(a b:Nat)(va vb:Value)(ha:RL w va (digs a))(hb:RL w vb (digs b))(la:(digs a).length<1000000)(lb:(digs b).length<1000000):Calls Tryz.prog 82 #[va,vb] w fun e w'=>e=.returned (.int .i64 (cz (a:Int) (b:Int)))∧Kept w w':=by
 obtain⟨a1,c1,rfl,-,hA⟩:=ha.at
 obtain⟨a2,c2,rfl,-,hB⟩:=hb.at
 have HA:Hid (∀u,Kept w u→∀i,i<(digs a).length→∃b off,a1=some ⟨b,off,none⟩∧u.cell? ⟨b,off+i,none⟩=some (.int .i64 ((digs a).getD i 0))):=fun u k=>(hA u k).2
 have HB:Hid (∀u,Kept w u→∀i,i<(digs b).length→∃b' off,a2=some ⟨b',off,none⟩∧u.cell? ⟨b',off+i,none⟩=some (.int .i64 ((digs b).getD i 0))):=fun u k=>(hB u k).2
 obtain⟨R,hRR⟩:∃R,cz (a:Int) (b:Int)=R:=⟨_,rfl⟩
 have HRR:Hid (cz (a:Int) (b:Int)=R):=hRR
 rw[hRR]
 clear hRR
 have L1:Hid ((digs a).length<(digs b).length→R=-1):=fun h=>HRR.out.symm.trans (cz_lt (by have:=cmp_len a b h;omega))
 have L2:Hid ((digs b).length<(digs a).length→R=1):=fun h=>HRR.out.symm.trans (cz_gt (by have:=cmp_len b a h;omega))
 have TA:Hid (∀i,(digs a).length≤i→a/2^(30*i)=0):=fun i hi=>Nat.div_eq_of_lt (digs_lt a i hi)
 have TB:Hid (∀i,(digs b).length≤i→b/2^(30*i)=0):=fun i hi=>Nat.div_eq_of_lt (digs_lt b i hi)
 have XA:Hid (∀i,(digs a).getD i 0=((a/2^(30*i)%1073741824:Nat):Int)):=digs_at a
 have XB:Hid (∀i,(digs b).getD i 0=((b/2^(30*i)%1073741824:Nat):Int)):=digs_at b
 clear ha hb hA hB
 generalize (digs a).length=n at *
 generalize (digs b).length=m at *
 rcases Nat.lt_trichotomy n m with h|h|h
 ·have hR:=L1.out h
  subst hR
  have g1:¬(n:Int)=(m:Int):=by omega
  have g2:(n:Int)<(m:Int):=by omega
  clear L1 L2 TA TB XA XB HA HB
  go_enter Tryz.func82,Tryz.ntmps82
  go_wp2
  go_ret
  exact⟨rfl,Kept.refl _⟩
 ·subst h
  clear L1 L2
  go_enter Tryz.func82,Tryz.ntmps82
  go_wp2
  go_loopw [5] (fun iv wr=>∃k:Nat,k≤n∧iv=.int .i64 ((k:Int)-1)∧a/2^(30*k)=b/2^(30*k)∧Kept w wr) (fun iv _=>(intOf iv+1).toNat)
  case atStart=>exact⟨n,by omega,rfl,by rw[TA.out n (Nat.le_refl _),TB.out n (Nat.le_refl _)],Kept.refl _⟩
  case round=>
   obtain⟨k,hk,rfl,he,hKr⟩:=hrel
   rcases k with _|k
   ·have hab:a=b:=by simpa using he
    have hR:R=0:=HRR.out.symm.trans (cz_eq (by rw[hab]))
    subst hR
    clear TA TB XA XB HA HB he hab HRR
    go_wp2
    go_ret
    exact⟨rfl,hKr⟩
   ·have hz:((k+1:Nat):Int)-1=(k:Int):=by omega
    rw[hz]
    obtain⟨p1,o1,rfl,ca⟩:=HA.out _ hKr k (by omega)
    obtain⟨p2,o2,rfl,cb⟩:=HB.out _ hKr k (by omega)
    rw[XA.out k]at ca
    rw[XB.out k]at cb
    have sa:=div_step a k
    have sb:=div_step b k
    obtain⟨xn,hxn⟩:∃x,a/2^(30*k)%1073741824=x:=⟨_,rfl⟩
    obtain⟨yn,hyn⟩:∃y,b/2^(30*k)%1073741824=y:=⟨_,rfl⟩
    rw[hxn]at ca sa
    rw[hyn]at cb sb
    have c1':wr.drew.cell? ⟨p1,o1+k,none⟩=some (.int .i64 (xn:Int))∧wr.drew.cell? ⟨p2,o2+k,none⟩=some (.int .i64 (yn:Int)):=⟨ca,cb⟩
    have c2':wr.drew.drew.cell? ⟨p1,o1+k,none⟩=some (.int .i64 (xn:Int))∧wr.drew.drew.cell? ⟨p2,o2+k,none⟩=some (.int .i64 (yn:Int)):=⟨ca,cb⟩
    have hkn:(k:Int)<(n:Int):=by omega
    have RL1:Hid (xn<yn→R=-1):=fun h=>HRR.out.symm.trans (cz_lt (by have:=lt_of_div a b (2^(30*k)) (by omega);omega))
    have RG1:Hid (yn<xn→R=1):=fun h=>HRR.out.symm.trans (cz_gt (by have:=lt_of_div b a (2^(30*k)) (by omega);omega))
    have RE:Hid (xn=yn→a/2^(30*k)=b/2^(30*k)):=fun h=>by rw[sa,sb,he,h]
    have hw1:IntKind.i64.wrap ((k:Int)-1)=(k:Int)-1:=by rw[wrap_i64];omega
    have hk0:0≤(k:Int):=by omega
    clear TA TB XA XB HA HB he sa sb hxn hyn ca cb hz
    clear HRR
    go_wp2_with fail
    refine wp_region_held_drew (S:=fun u=>u.cell? ⟨p1,o1+k,none⟩=some (.int .i64 (xn:Int))∧u.cell? ⟨p2,o2+k,none⟩=some (.int .i64 (yn:Int))) (by kernel_rfl) c1' (fun hHeld=>?_)
    refine tk (i:=0) (v:=?_) rfl ?_
    simp only[Act.put,zA,zB,zC,zD,zE,zF]
    refine tk (i:=1) (v:=?_) rfl ?_
    simp only[Act.put,zA,zB,zC,zD,zE,zF]
    refine tk (i:=2) (v:=?_) rfl ?_
    simp only[Act.put,zA,zB,zC,zD,zE,zF]
    refine tk (i:=3) (v:=?_) rfl ?_
    simp only[Act.put,zA,zB,zC,zD,zE,zF]
    refine tk (i:=4) (v:=?_) rfl ?_
    simp only[Act.put,zA,zB,zC,zD,zE,zF]
    refine tk (i:=5) (v:=?_) rfl ?_
    simp only[Act.put,zA,zB,zC,zD,zE,zF]
    refine tk (i:=6) (v:=?_) rfl ?_
    simp only[Act.put,zA,zB,zC,zD,zE,zF]
    refine tk (i:=7) (v:=?_) rfl ?_
    simp only[Act.put,zA,zB,zC,zD,zE,zF]
    refine tk (i:=8) (v:=?_) rfl ?_
    simp only[Act.put,zA,zB,zC,zD,zE,zF]
    refine wpAnyH_done (by kernel_rfl) ?_ _
    clear hHeld
    rcases Nat.lt_trichotomy xn yn with h|h|h
    ·have hR:=RL1.out h
     subst hR
     have g1:(xn:Int)<(yn:Int):=by omega
     clear RL1 RG1 RE
     go_wp2
     go_ret
     exact⟨rfl,hKr.drew⟩
    ·have HE:Hid (a/2^(30*k)=b/2^(30*k)):=RE.out h
     subst h
     clear RL1 RG1 RE
     go_wp2_with fail
     refine wp_region_held_drew (S:=fun u=>u.cell? ⟨p1,o1+k,none⟩=some (.int .i64 (xn:Int))∧u.cell? ⟨p2,o2+k,none⟩=some (.int .i64 (xn:Int))) (by kernel_rfl) c2' (fun hHeld=>?_)
     refine tk (i:=0) (v:=?_) rfl ?_
     simp only[Act.put,zA,zB,zC,zD,zE,zF]
     refine tk (i:=1) (v:=?_) rfl ?_
     simp only[Act.put,zA,zB,zC,zD,zE,zF]
     refine tk (i:=2) (v:=?_) rfl ?_
     simp only[Act.put,zA,zB,zC,zD,zE,zF]
     refine tk (i:=3) (v:=?_) rfl ?_
     simp only[Act.put,zA,zB,zC,zD,zE,zF]
     refine tk (i:=4) (v:=?_) rfl ?_
     simp only[Act.put,zA,zB,zC,zD,zE,zF]
     refine tk (i:=5) (v:=?_) rfl ?_
     simp only[Act.put,zA,zB,zC,zD,zE,zF]
     refine tk (i:=6) (v:=?_) rfl ?_
     simp only[Act.put,zA,zB,zC,zD,zE,zF]
     refine tk (i:=7) (v:=?_) rfl ?_
     simp only[Act.put,zA,zB,zC,zD,zE,zF]
     refine tk (i:=8) (v:=?_) rfl ?_
     simp only[Act.put,zA,zB,zC,zD,zE,zF]
     refine wpAnyH_done (by kernel_rfl) ?_ _
     clear hHeld
     go_wp2
     go_roundw
     case rel=>exact⟨k,by omega,by go_num,HE.out,hKr.drew.drew⟩
     case measure=>simp[intOf]<;>omega
    ·have hR:=RG1.out h
     subst hR
     have g1:¬(xn:Int)<(yn:Int):=by omega
     have g2:(yn:Int)<(xn:Int):=by omega
     clear RL1 RG1 RE
     go_wp2_with fail
     refine wp_region_held_drew (S:=fun u=>u.cell? ⟨p1,o1+k,none⟩=some (.int .i64 (xn:Int))∧u.cell? ⟨p2,o2+k,none⟩=some (.int .i64 (yn:Int))) (by kernel_rfl) c2' (fun hHeld=>?_)
     refine tk (i:=0) (v:=?_) rfl ?_
     simp only[Act.put,zA,zB,zC,zD,zE,zF]
     refine tk (i:=1) (v:=?_) rfl ?_
     simp only[Act.put,zA,zB,zC,zD,zE,zF]
     refine tk (i:=2) (v:=?_) rfl ?_
     simp only[Act.put,zA,zB,zC,zD,zE,zF]
     refine tk (i:=3) (v:=?_) rfl ?_
     simp only[Act.put,zA,zB,zC,zD,zE,zF]
     refine tk (i:=4) (v:=?_) rfl ?_
     simp only[Act.put,zA,zB,zC,zD,zE,zF]
     refine tk (i:=5) (v:=?_) rfl ?_
     simp only[Act.put,zA,zB,zC,zD,zE,zF]
     refine tk (i:=6) (v:=?_) rfl ?_
     simp only[Act.put,zA,zB,zC,zD,zE,zF]
     refine tk (i:=7) (v:=?_) rfl ?_
     simp only[Act.put,zA,zB,zC,zD,zE,zF]
     refine tk (i:=8) (v:=?_) rfl ?_
     simp only[Act.put,zA,zB,zC,zD,zE,zF]
     refine wpAnyH_done (by kernel_rfl) ?_ _
     clear hHeld
     go_wp2
     go_ret
     exact⟨rfl,hKr.drew.drew⟩
 ·have hR:=L2.out h
  subst hR
  have g1:¬(n:Int)=(m:Int):=by omega
  have g2:¬(n:Int)<(m:Int):=by omega
  clear L1 L2 TA TB XA XB HA HB
  go_enter Tryz.func82,Tryz.ntmps82
  go_wp2
  go_ret
  exact⟨rfl,Kept.refl _⟩
end Go.Proofs.YtnniljhdcplkgaaGreatDoor
namespace Go.Proofs.YtnniljhdcplkgaaGreatDoor
open Go.ChangeShapes Go.WideShapes Go.ChangeAt Go.RowKit
set_option maxHeartbeats 16000000
set_option maxRecDepth 100000
set_option linter.unusedVariables false
set_option linter.unusedSimpArgs false
theorem digs_len0 (a:Nat)(h:(digs a).length=0):a=0:=by
 have:=nv_digs a
 rw[List.length_eq_zero_iff.1 h]at this
 exact this.symm
theorem natMul_any (w:World)(a b:Nat)(va vb:Value)(ha:RL w va (digs a))(hb:RL w vb (digs b))(la:(digs a).length<1000000)(lb:(digs b).length<1000000):Calls Tryz.prog 79 #[va,vb] w fun e w'=>(∃r,e=.returned r∧RLp (Fresh w.heap.size) w' r (digs (a*b)))∧Kept w w':=by
 obtain⟨a1,c1,rfl,-,hA⟩:=ha.at
 obtain⟨a2,c2,rfl,-,hB⟩:=hb.at
 have HA:Hid (∀u,Kept w u→∀i,i<(digs a).length→∃b off,a1=some ⟨b,off,none⟩∧u.cell? ⟨b,off+i,none⟩=some (.int .i64 ((digs a).getD i 0))):=fun u k=>(hA u k).2
 have HB:Hid (∀u,Kept w u→∀i,i<(digs b).length→∃b' off,a2=some ⟨b',off,none⟩∧u.cell? ⟨b',off+i,none⟩=some (.int .i64 ((digs b).getD i 0))):=fun u k=>(hB u k).2
 have HZ:Hid ((digs a).length=0∨(digs b).length=0→digs (a*b)=[]):=fun h=>by
  rcases h with h|h
  ·rw[digs_len0 a h,Nat.zero_mul,digs_zero]
  ·rw[digs_len0 b h,Nat.mul_zero,digs_zero]
 have hR0:=RLp.nil (Fresh w.heap.size) w
 obtain⟨n,hn⟩:∃n,(digs a).length+(digs b).length=n:=⟨_,rfl⟩
 have HW:=make_run n (by omega)
 have KT:Hid (∀u' D,Own u' w.heap.size n D→Dg D→D.length=n→nv D=nv (digs a)*nv (digs b)→Calls Tryz.prog 87 #[.slice (some ⟨w.heap.size,0,none⟩) n n] u' fun e w'=>(∃r,e=.returned r∧RLp (Fresh w.heap.size) u' r (digs (a*b)))∧u'=w'):=fun u' D ho hD hl hv=>by
  have:=trim_any w.heap.size u' (.slice (some ⟨w.heap.size,0,none⟩) n n) D (.inr ⟨w.heap.size,n,by rw[hl],Nat.le_refl _,ho⟩) hD (by omega)
  rw[hv,nv_digs,nv_digs]at this
  exact this
 obtain⟨W1,hW1⟩:∃W1,W1=w.alloc (.cells (madeCells #[.int .i64 0] n) 3):=⟨_,rfl⟩
 have k1:Kept w W1:=by rw[hW1];exact(Kept.refl w).alloc _ _
 have HR:Hid (∀u,Grw w.heap.size W1 u→Kept w u):=fun u hu=>k1.grw (Nat.le_refl _) hu
 have HO1:Hid (Own W1 w.heap.size n (List.replicate n 0)):=by rw[hW1];exact own_made n (by omega) w
 have HP0:Hid (PRow (digs a) (digs b) n 0 0 (List.replicate n 0) 0):=.start (by simp) (fun d hd=>by rw[List.eq_of_mem_replicate hd];decide) (by rw[nv_replicate];simp[cv]) (fun k _=>getD_replicate n k)
 have D1:=dg_digs a
 have D2:=dg_digs b
 obtain⟨l1,hl1⟩:∃l,(digs a).length=l:=⟨_,rfl⟩
 obtain⟨l2,hl2⟩:∃l,(digs b).length=l:=⟨_,rfl⟩
 have HL1:Hid ((digs a).length=l1):=hl1
 have HL2:Hid ((digs b).length=l2):=hl2
 rw[hl1]at HA HZ la hn ⊢
 rw[hl2]at HB HZ lb hn ⊢
 clear ha hb hA hB hl1 hl2
 generalize digs a=L1 at *
 generalize digs b=L2 at *
 by_cases hz:l1=0∨l2=0
 ·rw[HZ.out hz]
  clear HZ KT HP0 HO1 HR HA HB
  by_cases h1:l1=0
  ·subst h1
   clear hW1
   go_enter Tryz.func79,Tryz.ntmps79
   go_wp2
   go_ret
   exact⟨⟨_,rfl,hR0⟩,Kept.refl _⟩
  ·have h2:l2=0:=by omega
   subst h2
   have h1':((l1:Int)==0)=false:=by simp;omega
   clear hW1
   go_enter Tryz.func79,Tryz.ntmps79
   go_wp2
   go_ret
   exact⟨⟨_,rfl,hR0⟩,Kept.refl _⟩
 ·have h1':((l1:Int)==0)=false:=by simp;omega
  have h2':((l2:Int)==0)=false:=by simp;omega
  have z4:IntKind.i64.wrap ((l1:Int)+(l2:Int))=(n:Int):=by rw[wrap_i64];omega
  have z5:(l1:Int)+(l2:Int)=(n:Int):=by omega
  clear HZ hR0
  go_enter Tryz.func79,Tryz.ntmps79
  go_wp2_with fail
  rw[←hW1]
  clear hW1
  go_loopw [6] (fun iv wr=>∃(i:Nat) (D:List Int),i≤l1∧iv=.int .i64 i∧Own wr w.heap.size n D∧Grw w.heap.size W1 wr∧PRow L1 L2 n i 0 D 0) (fun iv _=>l1-(intOf iv).toNat)
  case atStart=>exact⟨0,_,Nat.zero_le _,rfl,HO1.out,Grw.refl _ _,HP0.out⟩
  case round=>
   obtain⟨i,D,hi,rfl,hO,hG,hP⟩:=hrel
   have kr:=HR.out _ hG
   have HO:Hid (Own wr w.heap.size n D):=hO
   have HG:Hid (Grw w.heap.size W1 wr):=hG
   have HP:Hid (PRow L1 L2 n i 0 D 0):=hP
   clear hO hG hP HO1 HP0
   by_cases hil:i<l1
   ·obtain⟨p1,o1,rfl,-⟩:=HA.out _ kr i hil
    go_wp2_with fail
    go_loopw [7,8] (fun ov jv wr=>∃(j:Nat) (o:Int) (D:List Int),j≤l2∧jv=.int .i64 j∧ov=.int .i64 o∧Own wr w.heap.size n D∧Grw w.heap.size W1 wr∧PRow L1 L2 n i j D o) (fun _ jv _=>l2-(intOf jv).toNat)
    case atStart=>exact⟨0,0,D,Nat.zero_le _,rfl,rfl,HO.out,HG.out,HP.out⟩
    case round=>
     clear HO HG HP kr D
     obtain⟨j,o,D,hj,rfl,rfl,hO,hG,hP⟩:=hrel
     have kr:=HR.out _ hG
     by_cases hjl:j<l2
     ·obtain⟨p2,o2,rfl,cb⟩:=HB.out _ kr j hjl
      obtain⟨p1',o1',he,ca⟩:=HA.out _ kr i hil
      cases he
      have hl:D.length=n:=hP.len
      have cd:=hO.cell (i+j) (by rw[hl];omega)
      have hf:=hO.free (i+j)
      have hdd:=hP.dg.getD (i+j)
      have ha:=D1.getD i
      have hb:=D2.getD j
      have hm:=mul_lt_60 _ _ ha.1 ha.2 hb.1 hb.2
      have q0:=hP.o0
      have q1:=hP.o1
      obtain⟨T,hT⟩:∃T,o+D.getD (i+j) 0+L1.getD i 0*L2.getD j 0=T:=⟨_,rfl⟩
      have hst:=hP.step D1 D2 (by rw[HL2.out];exact hjl) (by omega) T hT
      have HST:Hid (PRow L1 L2 n i (j+1) (D.set (i+j) (T%1073741824)) (T/1073741824)):=hst
      have HO:Hid (Own wr w.heap.size n D):=hO
      have HG:Hid (Grw w.heap.size W1 wr):=hG
      have hT0:0≤T:=by omega
      have hT1:T≤1152921504606846976:=by omega
      have y4:IntKind.i64.wrap ((i:Int)+(j:Int))=(i:Int)+(j:Int):=by rw[wrap_i64];omega
      have y1:IntKind.i64.wrap (L1.getD i 0*L2.getD j 0)=L1.getD i 0*L2.getD j 0:=by rw[wrap_i64];omega
      have y2:IntKind.i64.wrap (D.getD (i+j) 0+L1.getD i 0*L2.getD j 0)=D.getD (i+j) 0+L1.getD i 0*L2.getD j 0:=by rw[wrap_i64];omega
      have y3:IntKind.i64.wrap (D.getD (i+j) 0+L1.getD i 0*L2.getD j 0+o)=T:=by rw[wrap_i64];omega
      have y5:T.tmod 1073741824=T%1073741824:=(tm30 T hT0).1
      have y6:T.tdiv 1073741824=T/1073741824:=(tm30 T hT0).2
      clear hP hst hO hG hT hl hm
      generalize hda:L1.getD i 0=da at *
      generalize hdb:L2.getD j 0=db at *
      generalize hdc:D.getD (i+j) 0=dc at *
      have eS:((wr.drew.cell? ⟨w.heap.size,i+j,none⟩=some (.int .i64 dc)∧wr.drew.cell? ⟨p1,o1+i,none⟩=some (.int .i64 da))∧wr.drew.cell? ⟨p2,o2+j,none⟩=some (.int .i64 db)):=⟨⟨cd,ca⟩,cb⟩
      have hidx:0≤(i:Int)+(j:Int)∧(i:Int)+(j:Int)<(n:Int):=by omega
      have hnat:((i:Int)+(j:Int)).toNat=i+j:=by omega
      go_wp2_with fail
      refine wp_region_held_drew (S:=fun u=>(u.cell? ⟨w.heap.size,i+j,none⟩=some (.int .i64 dc)∧u.cell? ⟨p1,o1+i,none⟩=some (.int .i64 da))∧u.cell? ⟨p2,o2+j,none⟩=some (.int .i64 db)) (by kernel_rfl) eS (fun hHeld=>?_)
      refine tk (i:=0) (v:=?_) rfl ?_
      simp only[Act.put,zA,zB,zC,zD,zE,zF]
      refine tk (i:=1) (v:=?_) rfl ?_
      simp only[Act.put,zA,zB,zC,zD,zE,zF]
      refine tk (i:=2) (v:=?_) rfl ?_
      simp only[Act.put,zA,zB,zC,zD,zE,zF]
      refine tk (i:=3) (v:=?_) rfl ?_
      simp only[Act.put,zA,zB,zC,zD,zE,zF]
      refine tk (i:=4) (v:=?_) rfl ?_
      simp only[Act.put,zA,zB,zC,zD,zE,zF]
      refine tk (i:=5) (v:=?_) rfl ?_
      simp only[Act.put,zA,zB,zC,zD,zE,zF]
      refine tk (i:=6) (v:=?_) rfl ?_
      simp only[Act.put,zA,zB,zC,zD,zE,zF]
      refine tk (i:=7) (v:=?_) rfl ?_
      simp only[Act.put,zA,zB,zC,zD,zE,zF]
      refine tk (i:=8) (v:=?_) rfl ?_
      simp only[Act.put,zA,zB,zC,zD,zE,zF]
      refine tk (i:=9) (v:=?_) rfl ?_
      simp only[Act.put,zA,zB,zC,zD,zE,zF]
      refine tk (i:=10) (v:=?_) rfl ?_
      simp only[Act.put,zA,zB,zC,zD,zE,zF]
      refine tk (i:=11) (v:=?_) rfl ?_
      simp only[Act.put,zA,zB,zC,zD,zE,zF]
      refine tk (i:=12) (v:=?_) rfl ?_
      simp only[Act.put,zA,zB,zC,zD,zE,zF]
      refine tk (i:=13) (v:=?_) rfl ?_
      simp only[Act.put,zA,zB,zC,zD,zE,zF]
      refine tk (i:=14) (v:=?_) rfl ?_
      simp only[Act.put,zA,zB,zC,zD,zE,zF]
      refine tk (i:=15) (v:=?_) rfl ?_
      simp only[Act.put,zA,zB,zC,zD,zE,zF]
      refine tk (i:=16) (v:=?_) rfl ?_
      simp only[Act.put,zA,zB,zC,zD,zE,zF]
      refine tk (i:=17) (v:=?_) rfl ?_
      simp only[Act.put,zA,zB,zC,zD,zE,zF]
      refine tk (i:=18) (v:=?_) rfl ?_
      simp only[Act.put,zA,zB,zC,zD,zE,zF]
      refine wpAnyH_done (by kernel_rfl) ?_ _
      clear hHeld eS
      have hf2:wr.drew.frozen? ⟨w.heap.size,i+j,none⟩=false:=hf
      have cd2:wr.drew.cell? ⟨w.heap.size,i+j,none⟩=some (.int .i64 dc):=cd
      go_wp2
      go_roundw
      case rel=>exact⟨j+1,_,_,by omega,by go_num,rfl,(HO.out.kept (Kept.refl _).drew).set _ _,(HG.out.trans (Kept.toGrw _ (Kept.refl _).drew)).setCell _ _,by first|exact HST.out|(rw[show wrap64 (T/1073741824)=T/1073741824 by unfold wrap64;omega];exact HST.out)⟩
      case measure=>simp[intOf]<;>omega
     ·obtain rfl:j=l2:=by omega
      have hl:D.length=n:=hP.len
      have cd:=hO.cell (i+j) (by rw[hl];omega)
      have hf:=hO.free (i+j)
      have hL2:=HL2.out
      subst hL2
      have hfin:=hP.finish (by rw[HL1.out];exact hil) (by omega)
      have HF:Hid (PRow L1 L2 n (i+1) 0 (D.set (i+L2.length) o) 0):=hfin
      have HO:Hid (Own wr w.heap.size n D):=hO
      have HG:Hid (Grw w.heap.size W1 wr):=hG
      have y4:IntKind.i64.wrap ((i:Int)+(L2.length:Int))=((i+L2.length:Nat):Int):=by rw[wrap_i64];omega
      clear hP hfin hO hG hl
      generalize D.getD (i+L2.length) 0=dc at *
      go_wp2
      go_roundw
      case rel=>exact⟨i+1,_,by omega,by go_num,HO.out.set _ _,HG.out.setCell _ _,HF.out⟩
      case measure=>simp[intOf]<;>omega
   ·obtain rfl:i=l1:=by omega
    have hL1:=HL1.out
    subst hL1
    have hl:D.length=n:=HP.out.len
    obtain⟨hDg,hnv⟩:=HP.out.last rfl D1 D2
    have HKT:Hid (Calls Tryz.prog 87 #[.slice (some ⟨w.heap.size,0,none⟩) n n] wr fun e w'=>(∃r,e=.returned r∧RLp (Fresh w.heap.size) wr r (digs (a*b)))∧wr=w'):=KT.out wr D HO.out hDg hl hnv
    clear KT HO HP hDg hnv HA HB HR
    go_wp2_with (first|(go_at_call 87;refine HKT.out.mono ?_;rintro e w2 ⟨⟨r,rfl,hr⟩,rfl⟩))
    go_ret
    exact⟨⟨_,rfl,hr⟩,kr⟩
theorem natFrom_any (w:World)(v:Nat)(hv:v≤9223372036854775807):Calls Tryz.prog 52 #[.int .i64 (v:Int)] w fun e w'=>(∃r,e=.returned r∧RLp (Fresh w.heap.size) w' r (digs v))∧Kept w w':=by
 have HV:Hid (∀i,v/2^(30*i)=0→v<2^(30*i)):=fun i h=>(Nat.div_eq_zero_iff_lt (Nat.two_pow_pos _)).1 h
 have HS:Hid (∀i,v/2^(30*(i+1))=v/2^(30*i)/1073741824):=fun i=>by rw[pow30m,←Nat.div_div_eq_div_mul]
 have HG:Hid (∀i,0<v/2^(30*i)→2^(30*i)≤v):=fun i h=>(Nat.div_pos_iff.1 h).2
 have HL:Hid (∀i,2^(30*i)≤v→i<3):=fun i h=>by
  rcases Nat.lt_or_ge i 3 with g|g
  ·exact g
  ·exfalso
   have:2^90≤2^(30*i):=Nat.pow_le_pow_right (by decide) (by omega)
   have h90:(2:Nat)^90=1237940039285380274899124224:=by decide
   omega
 go_enter Tryz.func52,Tryz.ntmps52
 go_wp2
 go_loopw [0,3] (fun xv sv wr=>∃(i x:Nat) (lv:Value),i≤3∧x≤9223372036854775807∧v/2^(30*i)=x∧(0<i→2^(30*(i-1))≤v)∧xv=.int .i64 x∧sv=lv∧MR w.heap.size wr lv (dl v i)∧Kept w wr) (fun xv _ _=>(intOf xv).toNat)
 case atStart=>exact⟨0,v,_,by omega,hv,by simp,by omega,rfl,rfl,.inl ⟨rfl,rfl⟩,Kept.refl _⟩
 case round=>
  obtain⟨i,x,lv,hi,hx9,hx,hge,rfl,hlv,hM,hKr⟩:=hrel
  have hlv':=hlv.symm
  clear hlv
  subst hlv'
  by_cases hx0:0<x
  ·have hg:2^(30*i)≤v:=HG.out i (by omega)
   have hi3:=HL.out i hg
   have HGE:Hid (2^(30*i)≤v):=hg
   have HX:Hid (v/2^(30*(i+1))=x/1073741824):=by
    show v/2^(30*(i+1))=x/1073741824
    rw[HS.out i,hx]
   have hdig:((x%1073741824:Nat):Int)=((v/2^(30*i)%1073741824:Nat):Int):=by rw[hx]
   obtain⟨v',w',hr,hM',hK'⟩:=app_step w.heap.size wr lv (dl (v) i) hM (((x%1073741824:Nat):Int)) hKr.below.size (by rw[dl_length];omega)
   have HR:Hid (∀ty,(Builtin.append_ #[24,24] ty #[lv,.slice (some ⟨wr.heap.size,0,none⟩) 1 1]).run Tryz.prog (wr.alloc (.cells #[.int .i64 (((x%1073741824:Nat):Int))] 3))=.ok v' w'):=hr
   have HM:Hid (MR w.heap.size w' v' (dl (v) (i+1))):=by rw[dl_succ];rw[hdig]at hM';exact hM'
   have HKK:Hid (Kept w w'):=hK' w (Nat.le_refl _) hKr
   clear hr hM' hK' hM
   obtain⟨dd,hdd⟩:∃d:Int,((x%1073741824:Nat):Int)=d:=⟨_,rfl⟩
   rw[hdd]at HR
   have q1:((x:Int)).tmod 1073741824=dd:=by rw[(tm30 (x:Int) (by omega)).1];omega
   have q2:((x:Int)).tdiv 1073741824=((x/1073741824:Nat):Int):=by rw[(tm30 (x:Int) (by omega)).2];omega
   have hx0':(0:Int)<(x:Int):=by omega
   clear hdig hg hge hx HV HS HG HL
   go_wp2_with (first|(at_builtin;refine wpList_append_run rfl _ _ _ rfl _ _ rfl rfl _ _ (HR.out _) ?_))
   go_roundw
   case rel=>exact⟨i+1,x/1073741824,_,by omega,by omega,HX.out,fun _=>by rw[Nat.add_sub_cancel];exact HGE.out,by first|rfl|go_num,rfl,HM.out,HKK.out⟩
   case measure=>simp[intOf]<;>omega
  ·obtain rfl:x=0:=by omega
   have hfin:=dl_digs v i (HV.out i hx) (by rcases Nat.eq_zero_or_pos i with h|h;exact .inl h;exact .inr (hge h))
   rw[hfin]at hM
   have HF:Hid (RLp (Fresh w.heap.size) wr lv (digs v)):=hM.rlp
   clear hM hfin hx hge HV HS HG HL
   go_wp2
   go_ret
   exact⟨⟨_,rfl,HF.out⟩,hKr⟩
end Go.Proofs.YtnniljhdcplkgaaGreatDoor
