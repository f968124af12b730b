/-  -/
import Derived.Test.YtnniljhdcplkgaaGreatDoorWs29
import Derived.Test.YtnniljhdcplkgaaGreatDoorWs21
import Derived.Test.YtnniljhdcplkgaaGreatDoorWs19
import Derived.Test.YtnniljhdcplkgaaGreatDoorWs17
import Derived.Test.YtnniljhdcplkgaaGreatDoorWs04
import Derived.Test.YtnniljhdcplkgaaGreatDoorWs26
namespace Go.Proofs.YtnniljhdcplkgaaGreatDoor
open Go.ChangeShapes Go.WideShapes Go.ChangeAt Go.RowKit
set_option maxHeartbeats 16000000
set_option maxRecDepth 100000
set_option linter.unusedVariables false
set_option linter.unusedSimpArgs false
theorem rq_under (V:Nat)(x:Int)(hx:x=0∨x=1)(h1:2^119≤V)(h2:V<2^121):∃r,frm false V x=some r∧vld r=true∧r.neg=false∧r.mag≠[]∧0≤r.exp∧nv r.mag*2^r.exp.toNat=V*2^x.toNat∧120≤r.exp+(bl (nv r.mag):Int)∧r.exp+(bl (nv r.mag):Int)≤122:=by
 have h0:V≠0:=fun h=>by rw[h]at h1;exact absurd h1 (by decide)
 obtain⟨k,rfl,hk⟩:∃k:Nat,x=(k:Int)∧k≤1:=by rcases hx with rfl|rfl;exact⟨0,rfl,by omega⟩;exact⟨1,rfl,by omega⟩
 rw[Int.toNat_natCast]
 have hsh:=frm_shift false V k 0 h0
 rw[Int.zero_add]at hsh
 have hlt:V*2^k<2^122:=by
  have:2^k≤2:=by rcases(show k=0∨k=1 by omega)with rfl|rfl<;>decide
  have:=Nat.mul_le_mul_left V this
  omega
 have hge:2^119≤V*2^k:=Nat.le_trans h1 (Nat.le_mul_of_pos_right V (Nat.two_pow_pos k))
 obtain⟨P,hP⟩:∃P,V*2^k=P:=⟨_,rfl⟩
 rw[hP]at hlt hge hsh ⊢
 obtain⟨r,e,l,v⟩:=cfm_lies 0 122 (by decide) (by decide) (by decide) (P:Int) (by rw[Int.natAbs_natCast];exact hlt)
 have e2:frm false P 0=some r:=by
  rw[frm_cfm]
  exact e
 have hne:r.mag≠[]:=fun h=>by
  unfold vz at v
  rw[h]at v
  have:(P:Int)=0:=by rw[←v];cases r.neg<;>simp[sg,nv]
  omega
 have hl:=l.low hne
 have hng:r.neg=false:=by
  cases hg:r.neg
  ·rfl
  ·unfold vz at v
   rw[hg]at v
   simp only[sg,if_true]at v
   have:(0:Int)≤(nv r.mag:Int)*2^(r.exp-0).toNat:=Int.mul_nonneg (by omega) (Int.le_of_lt (Int.pow_pos (by decide)))
   omega
 have hv:nv r.mag*2^r.exp.toNat=P:=by
  unfold vz at v
  rw[hng,Int.sub_zero]at v
  simp only[sg]at v
  have:((nv r.mag*2^r.exp.toNat:Nat):Int)=(P:Int):=by push_cast;exact v
  omega
 have hn0:=nv_ne r l.ok hne
 have hb:=bl_mul (nv r.mag) r.exp.toNat hn0
 rw[hv]at hb
 have hb1:119<bl P:=by
  obtain⟨b1,b2,b3⟩:=bl_pos P (by omega)
  apply Decidable.byContradiction
  intro hc
  have:2^bl P≤2^119:=Nat.pow_le_pow_right (by decide) (by omega)
  omega
 have hb2:=bl_le P 122 hlt
 exact⟨r,by rw[←hsh];exact e2,l.ok,hng,hne,hl,hv,by omega,by omega⟩
theorem rootquot_any (n:Int)(hn:n=64∨n=32)(a b:Nm)(ha:vld a=true)(hb:vld b=true)(ham:a.mag≠[])(hbm:b.mag≠[])(han:a.neg=false)(hbn:b.neg=false):∃r h l rs ex un m k F,frm false (dV 4 a b) (dex 4 a b%2)=some r∧nv r.mag*2^r.exp.toNat=dV 4 a b*2^(dex 4 a b%2).toNat∧0≤r.exp∧Rtl r h l rs∧ex=rlast r/2+dex 4 a b/2∧dex 4 a b/2+4≤ex∧ex≤dex 4 a b/2+5∧Ldz n h 56 ex un m k F∧∀(way:Int),(way=0∨way=1∨way=2)→∀(a1 a2:Option Addr) (c1 c2:Nat) (w:World),Tab w→Sl w (.slice a1 a.mag.length c1) a.mag→Sl w (.slice a2 b.mag.length c2) b.mag→Calls Tryz.prog 120 #[.agg #[.bool a.neg,.slice a1 a.mag.length c1,.int .i64 a.exp],.agg #[.bool b.neg,.slice a2 b.mag.length c2,.int .i64 b.exp],.int .i64 n,.int .i64 way] w fun e w'=>e=.returned (.tuple #[.int .i64 (pz n (kyz false (mgz way false (ifn n) F (decide (k%2=1)) (decide (h/2^m%2=1)) ((rs||drs 4 a b)||h%2^m != 0)))),.bool (odz way false (ifn n) F (decide (k%2=1)) (decide (h/2^m%2=1)) ((rs||drs 4 a b)||h%2^m != 0)),.int .i64 0])∧Kept w w':=by
 obtain⟨hlen1,hDg1⟩:=vld_dg a.neg a.mag a.exp ha
 obtain⟨hlen2,hDg2⟩:=vld_dg b.neg b.mag b.exp hb
 have KR:∀(way:Int),(way=0∨way=1∨way=2)→∀(a1 a2:Option Addr) (c1 c2:Nat) (w:World),Sl w (.slice a1 a.mag.length c1) a.mag→Sl w (.slice a2 b.mag.length c2) b.mag→Hid (Calls Tryz.prog 98 #[.int .i64 n,.int .i64 way,.slice (some ⟨w.heap.size+2,0,none⟩) 2 2] (((w.alloc (.cells #[.bool a.neg,.slice a1 a.mag.length c1,.int .i64 a.exp] 43)).alloc (.cells #[.bool b.neg,.slice a2 b.mag.length c2,.int .i64 b.exp] 43)).alloc (.cells (pairC a.neg (.slice a1 a.mag.length c1) a.exp b.neg (.slice a2 b.mag.length c2) b.exp) 43)) fun e w'=>e=.returned (.tuple #[.agg #[.int .i64 n,.int .i64 (kprec n),.int .i64 (kleast n),.int .i64 (kinf n),.func (.func (wfv way)) #[] #[]],.int .i64 0])∧Kept (((w.alloc (.cells #[.bool a.neg,.slice a1 a.mag.length c1,.int .i64 a.exp] 43)).alloc (.cells #[.bool b.neg,.slice a2 b.mag.length c2,.int .i64 b.exp] 43)).alloc (.cells (pairC a.neg (.slice a1 a.mag.length c1) a.exp b.neg (.slice a2 b.mag.length c2) b.exp) 43)) w'):=fun way hw a1 a2 c1 c2 w h1 h2=>by
  refine roundingOf_ok n way hn hw _ _ (fun u k=>?_)
  have hK:Kept w (((w.alloc (.cells #[.bool a.neg,.slice a1 a.mag.length c1,.int .i64 a.exp] 43)).alloc (.cells #[.bool b.neg,.slice a2 b.mag.length c2,.int .i64 b.exp] 43)).alloc (.cells (pairC a.neg (.slice a1 a.mag.length c1) a.exp b.neg (.slice a2 b.mag.length c2) b.exp) 43)):=(((Kept.refl w).alloc _ _).alloc _ _).alloc _ _
  have hb':w.heap.size+2<(((w.alloc (.cells #[.bool a.neg,.slice a1 a.mag.length c1,.int .i64 a.exp] 43)).alloc (.cells #[.bool b.neg,.slice a2 b.mag.length c2,.int .i64 b.exp] 43)).alloc (.cells (pairC a.neg (.slice a1 a.mag.length c1) a.exp b.neg (.slice a2 b.mag.length c2) b.exp) 43)).heap.size:=by simp
  have:=allValid_2 u (w.heap.size+2) 2 a.neg b.neg a1 a2 a.mag.length c1 b.mag.length c2 a.exp b.exp true true (Nat.lt_of_lt_of_le hb' k.below.size) ((k.below.cell (p:=⟨w.heap.size+2,0,none⟩) hb').trans (by simp[go_sem])) ((k.below.cell (p:=⟨w.heap.size+2,1,none⟩) hb').trans (by simp[go_sem])) ((k.below.cell (p:=⟨w.heap.size+2,2,none⟩) hb').trans (by simp[go_sem])) ((k.below.cell (p:=⟨w.heap.size+2,3,none⟩) hb').trans (by simp[go_sem])) ((k.below.cell (p:=⟨w.heap.size+2,4,none⟩) hb').trans (by simp[go_sem])) ((k.below.cell (p:=⟨w.heap.size+2,5,none⟩) hb').trans (by simp[go_sem])) (fun v kv=>?_) (fun v kv=>?_)
  ·exact this
  ·have:=xvalid_any a hDg1.rg (by omega) (.agg #[.bool a.neg,.slice a1 a.mag.length c1,.int .i64 a.exp]) v ⟨_,rfl,((h1.kept hK).kept k).kept kv⟩
   rw[ha]at this
   exact this
  ·have:=xvalid_any b hDg2.rg (by omega) (.agg #[.bool b.neg,.slice a2 b.mag.length c2,.int .i64 b.exp]) v ⟨_,rfl,((h2.kept hK).kept k).kept kv⟩
   rw[hb]at this
   exact this
 have hl1:=List.length_pos_iff.2 ham
 have hl2:=List.length_pos_iff.2 hbm
 have KG:∀(x:Nm),x.neg=false→0<x.mag.length→∀(a2:Option Addr) (c2:Nat) (w:World),Calls Tryz.prog 99 #[.agg #[.bool x.neg,.slice a2 x.mag.length c2,.int .i64 x.exp]] w fun e w'=>e=.returned (.int .i64 1)∧Kept w w':=fun x hx hl a2 c2 w=>by
  have:=signOf_any x.neg a2 x.mag.length c2 x.exp w
  rw[if_neg (by omega),hx,if_neg (by decide)]at this
  rw[hx]
  exact this
 obtain⟨p1,p2,p3,p4,p5,p6⟩:=vld_some a.neg a.mag a.exp ham ha
 obtain⟨q1,q2,q3,q4,q5,q6⟩:=vld_some b.neg b.mag b.exp hbm hb
 have hba:=bl_le _ _ (nv_lt a.mag p2)
 have hbb:=bl_le _ _ (nv_lt b.mag q2)
 obtain⟨g1,g2⟩:=dV_bounds 4 (by decide) a b ha hb ham hbm
 have hexr:-2900000≤dex 4 a b∧dex 4 a b≤2900000:=by unfold dex;omega
 obtain⟨dx,hdx⟩:∃dx,dex 4 a b=dx:=⟨_,rfl⟩
 have hm2:dx%2=0∨dx%2=1:=by omega
 obtain⟨V,hV⟩:∃V,dV 4 a b=V:=⟨_,rfl⟩
 rw[hV]at g1 g2
 rw[hdx]at hexr
 obtain⟨r,hr,rv,rn,rne,re,rval,rb1,rb2⟩:=rq_under V (dx%2) hm2 g1 g2
 obtain⟨h,l,H⟩:=rtl_of r rv rne
 have hrl:4≤rlast r/2∧rlast r/2≤5:=by unfold rlast rfst;omega
 obtain⟨ex,hex⟩:∃ex,ex=rlast r/2+dx/2:=⟨_,rfl⟩
 obtain⟨un,hun⟩:∃un,max (ex+((56:Nat):Int)-kprec n) (kleast n)=un:=⟨_,rfl⟩
 obtain⟨k1,k2,k3⟩:=kp_toNat n hn
 obtain⟨m,hm⟩:∃m:Nat,un-ex=(m:Int)+1:=⟨(un-ex-1).toNat,by omega⟩
 have L:Ldz n h 56 ex un m (h/2^(m+1)) ((un-kleast n).toNat*cbn n+h/2^(m+1)):=⟨hun.symm,hm,rfl,rfl⟩
 rw[hdx,hV]
 refine⟨r,h,l,_,ex,un,m,_,_,hr,rval,re,H,hex,by omega,by omega,L,fun way hw a1 a2 c1 c2 w hT h1 h2=>?_⟩
 have hroot:=root_any r rv rne h l _ H
 have hLL:(dvl V 4 5).length=5:=dvl_len _ _ _
 have hnv:nv (dvl V 4 5)=V:=by
  rw[dvl_full]
  exact nv_dgs V 5 (Nat.lt_trans g2 (by decide))
 have KQ:∀u,Kept w u→Calls Tryz.prog 143 #[.agg #[.bool a.neg,.slice a1 a.mag.length c1,.int .i64 a.exp],.agg #[.bool b.neg,.slice a2 b.mag.length c2,.int .i64 b.exp]] u fun e w'=>e=.returned (.agg #[.bool false,.int .i64 (h:Int),.int .i64 ex,.bool ((decide (l≠0)||decide (r.exp<rlast r))||drs 4 a b)])∧Kept u w':=fun u ku=>by
  rw[hex]
  refine rootq_walk a.neg b.neg a1 a2 a.mag.length c1 b.mag.length c2 hl1 a.exp b.exp dx (dx%2) (dx/2) (by omega) rfl rfl (drs 4 a b) (decide (l≠0)||decide (r.exp<rlast r)) (dvl V 4 5) hLL (dvl_dg _ _ _) r (by rw[hnv];exact hr) h (rlast r/2) (by omega) u (hT.kept ku) (fun u2 k2=>?_) (fun ao c u2 hs=>hroot ao c u2 hs)
  have:=divided_any 4 (by decide) (by decide) a b ha hb ham hbm a1 a2 c1 c2 u2 ((h1.kept ku).kept k2) ((h2.kept ku).kept k2)
  rw[hdx,hV]at this
  exact this
 exact xrootq way _ n _ _ _ a.neg b.neg a1 a2 a.mag.length c1 b.mag.length c2 a.exp b.exp _ 1 1 1 _ (by decide) (by decide) (by decide) _ _ _ _ w (KR way hw a1 a2 c1 c2 w h1 h2) (fun u _=>KG a han hl1 a1 c1 u) (fun u _=>KG b hbn hl2 a2 c2 u) KQ (fun u ku=>ldround way hw n hn false h 56 ex _ un m _ _ L H.low H.high (by decide) (by decide) (by omega) (by omega) _ _ _ rfl rfl rfl u (hT.kept ku))
end Go.Proofs.YtnniljhdcplkgaaGreatDoor

namespace Go.Proofs.YtnniljhdcplkgaaGreatDoor
open Go.ChangeShapes Go.WideShapes Go.ChangeAt Go.RowKit
set_option maxHeartbeats 16000000
set_option maxRecDepth 100000
set_option linter.unusedVariables false
set_option linter.unusedSimpArgs false
end Go.Proofs.YtnniljhdcplkgaaGreatDoor

namespace Go.Proofs.YtnniljhdcplkgaaGreatDoor
open Go.ChangeShapes Go.WideShapes Go.ChangeAt Go.RowKit
set_option maxHeartbeats 16000000
set_option maxRecDepth 100000
set_option linter.unusedVariables false
set_option linter.unusedSimpArgs false
def knd (n:Int):Value:=if n=64 then .agg #[.int .i64 64,.int .i64 53,.int .i64 4503599627370496,.int .i64 2047,.int .i64 (-1074),.int .i64 1024,.int .i64 9218868437227405312,.int .i64 (-9223372036854775808),.int .i64 9221120237041090561]else .agg #[.int .i64 32,.int .i64 24,.int .i64 8388608,.int .i64 255,.int .i64 (-149),.int .i64 128,.int .i64 2139095040,.int .i64 2147483648,.int .i64 2143289345]
theorem of_knd (n:Int)(hn:n=64∨n=32)(w:World):Calls Tryz.prog 45 #[.int .i64 n] w fun e w'=>e=.returned (.tuple #[knd n,.bool true])∧Kept w w':=by
 rcases hn with rfl|rfl
 ·exact of_64 w
 ·exact of_32 w
theorem knd_is (n:Int)(hn:n=64∨n=32):∃k0 p k2 k3 k4 k5 k6 k7 k8:Int,knd n=.agg #[.int .i64 k0,.int .i64 p,.int .i64 k2,.int .i64 k3,.int .i64 k4,.int .i64 k5,.int .i64 k6,.int .i64 k7,.int .i64 k8]:=by
 rcases hn with rfl|rfl
 ·exact⟨_,_,_,_,_,_,_,_,_,rfl⟩
 ·exact⟨_,_,_,_,_,_,_,_,_,rfl⟩
theorem ref2round (n way:Int)(hn:n=64∨n=32)(ng:Bool)(ao:Option Addr)(ln c:Nat)(x b:Int)(od:Bool)(w:World)(KT:Hid (∀u,Kept w u→Calls Tryz.prog 86 #[knd n,.agg #[.bool ng,.slice ao ln c,.int .i64 x],.int .i64 way] u fun e w'=>e=.returned (.tuple #[.int .i64 b,.bool od])∧Kept u w')):Calls Tryz.prog 53 #[.agg #[.bool ng,.slice ao ln c,.int .i64 x],.int .i64 n,.int .i64 way] w fun e w'=>e=.returned (.tuple #[.int .i64 b,.bool od])∧Kept w w':=by
 obtain⟨k0,p,k2,k3,k4,k5,k6,k7,k8,hk⟩:=knd_is n hn
 have KO:Hid (∀u,Calls Tryz.prog 45 #[.int .i64 n] u fun e w'=>e=.returned (.tuple #[.agg #[.int .i64 k0,.int .i64 p,.int .i64 k2,.int .i64 k3,.int .i64 k4,.int .i64 k5,.int .i64 k6,.int .i64 k7,.int .i64 k8],.bool true])∧Kept u w'):=fun u=>by
  have:=of_knd n hn u
  rw[hk]at this
  exact this
 rw[hk]at KT
 have hK:Kept w (w.alloc (.cells #[.bool ng,.slice ao ln c,.int .i64 x] 43)):=(Kept.refl w).alloc _ _
 go_enter Tryz.func53,Tryz.ntmps53
 go_wp2_with fail
 refine(KO.out _).mono ?_
 rintro e w1 ⟨rfl,hk1⟩
 have hk2:=hk1.alloc #[.int .i64 k0,.int .i64 p,.int .i64 k2,.int .i64 k3,.int .i64 k4,.int .i64 k5,.int .i64 k6,.int .i64 k7,.int .i64 k8] 66
 have hb:w.heap.size<(w.alloc (.cells #[.bool ng,.slice ao ln c,.int .i64 x] 43)).heap.size:=by simp
 have q0:=(hk2.below.cell (p:=⟨w.heap.size,0,none⟩) hb).trans (show _=some (.bool ng) by simp[go_sem])
 have q1:=(hk2.below.cell (p:=⟨w.heap.size,1,none⟩) hb).trans (show _=some (.slice ao ln c) by simp[go_sem])
 have q2:=(hk2.below.cell (p:=⟨w.heap.size,2,none⟩) hb).trans (show _=some (.int .i64 x) by simp[go_sem])
 clear hb
 go_wp2_with fail
 refine(KT.out _ (hK.trans hk2)).mono ?_
 rintro e w2 ⟨rfl,hk3⟩
 go_wp2_with fail
 go_ret2
 exact⟨rfl,hK.trans (hk2.trans hk3)⟩
theorem ref2quot (n way:Int)(hn:n=64∨n=32)(n1 n2:Bool)(a1 a2:Option Addr)(l1 c1 l2 c2:Nat)(x1 x2 b:Int)(od:Bool)(w:World)(KT:Hid (∀u,Kept w u→Calls Tryz.prog 46 #[knd n,.agg #[.bool n1,.slice a1 l1 c1,.int .i64 x1],.agg #[.bool n2,.slice a2 l2 c2,.int .i64 x2],.int .i64 way] u fun e w'=>e=.returned (.tuple #[.int .i64 b,.bool od])∧Kept u w')):Calls Tryz.prog 27 #[.agg #[.bool n1,.slice a1 l1 c1,.int .i64 x1],.agg #[.bool n2,.slice a2 l2 c2,.int .i64 x2],.int .i64 n,.int .i64 way] w fun e w'=>e=.returned (.tuple #[.int .i64 b,.bool od])∧Kept w w':=by
 obtain⟨k0,p,k2,k3,k4,k5,k6,k7,k8,hk⟩:=knd_is n hn
 have KO:Hid (∀u,Calls Tryz.prog 45 #[.int .i64 n] u fun e w'=>e=.returned (.tuple #[.agg #[.int .i64 k0,.int .i64 p,.int .i64 k2,.int .i64 k3,.int .i64 k4,.int .i64 k5,.int .i64 k6,.int .i64 k7,.int .i64 k8],.bool true])∧Kept u w'):=fun u=>by
  have:=of_knd n hn u
  rw[hk]at this
  exact this
 rw[hk]at KT
 obtain⟨X,hX⟩:∃X,X=(w.alloc (.cells #[.bool n1,.slice a1 l1 c1,.int .i64 x1] 43)).alloc (.cells #[.bool n2,.slice a2 l2 c2,.int .i64 x2] 43):=⟨_,rfl⟩
 have hK:Kept w X:=by rw[hX];exact((Kept.refl w).alloc _ _).alloc _ _
 have HQ:Hid (∀u,Kept X u→(u.cell? ⟨w.heap.size,0,none⟩=some (.bool n1)∧u.cell? ⟨w.heap.size,1,none⟩=some (.slice a1 l1 c1)∧u.cell? ⟨w.heap.size,2,none⟩=some (.int .i64 x1))∧u.cell? ⟨w.heap.size+1,0,none⟩=some (.bool n2)∧u.cell? ⟨w.heap.size+1,1,none⟩=some (.slice a2 l2 c2)∧u.cell? ⟨w.heap.size+1,2,none⟩=some (.int .i64 x2)):=fun u k=>by
  have hb0:w.heap.size<X.heap.size:=by rw[hX];simp[go_sem]
  have hb1:w.heap.size+1<X.heap.size:=by rw[hX];simp
  refine⟨⟨(k.below.cell (p:=⟨w.heap.size,0,none⟩) hb0).trans ?_,(k.below.cell (p:=⟨w.heap.size,1,none⟩) hb0).trans ?_,(k.below.cell (p:=⟨w.heap.size,2,none⟩) hb0).trans ?_⟩,(k.below.cell (p:=⟨w.heap.size+1,0,none⟩) hb1).trans ?_,(k.below.cell (p:=⟨w.heap.size+1,1,none⟩) hb1).trans ?_,(k.below.cell (p:=⟨w.heap.size+1,2,none⟩) hb1).trans ?_⟩
  all_goals
   rw[hX]
   simp[go_sem]
 go_enter Tryz.func27,Tryz.ntmps27
 go_upto_region 1 with fail
 rw[←hX]
 clear hX
 go_wp2_with fail
 refine(KO.out _).mono ?_
 rintro e w1 ⟨rfl,hk1⟩
 have hk2:=hk1.alloc #[.int .i64 k0,.int .i64 p,.int .i64 k2,.int .i64 k3,.int .i64 k4,.int .i64 k5,.int .i64 k6,.int .i64 k7,.int .i64 k8] 66
 obtain⟨⟨q0,q1,q2⟩,q3,q4,q5⟩:=HQ.out _ hk2
 go_wp2_with fail
 refine(KT.out _ (hK.trans hk2)).mono ?_
 rintro e w2 ⟨rfl,hk3⟩
 go_wp2_with fail
 go_ret2
 exact⟨rfl,hK.trans (hk2.trans hk3)⟩
end Go.Proofs.YtnniljhdcplkgaaGreatDoor

namespace Go.Proofs.YtnniljhdcplkgaaGreatDoor
open Go.ChangeShapes Go.WideShapes Go.ChangeAt Go.RowKit
set_option maxHeartbeats 16000000
set_option maxRecDepth 100000
set_option linter.unusedVariables false
set_option linter.unusedSimpArgs false
theorem div_val (c:Nat)(a b:Nm)(ha:vld a=true)(hb:vld b=true)(h1:a.mag≠[])(h2:b.mag≠[])(s:Int)(hx:2*s≤a.exp)(hu:2*s≤a.exp+(bl (nv a.mag):Int)-30*((b.mag.length:Int)+(c:Int))):dV c a b=(nv a.mag*2^(a.exp-2*s).toNat)/(nv b.mag*2^(dex c a b+b.exp-2*s).toNat)∧drs c a b=decide ((nv a.mag*2^(a.exp-2*s).toNat)%(nv b.mag*2^(dex c a b+b.exp-2*s).toNat)≠0):=by
 obtain⟨p1,p2,p3,p4,p5,p6⟩:=vld_some a.neg a.mag a.exp h1 ha
 obtain⟨q1,q2,q3,q4,q5,q6⟩:=vld_some b.neg b.mag b.exp h2 hb
 have hodd:=nv_odd a.mag p2 p4
 have hb2:=bl_le _ _ (nv_lt b.mag q2)
 obtain⟨t,ht⟩:∃t,30*((b.mag.length:Int)+(c:Int))-(bl (nv a.mag):Int)=t:=⟨_,rfl⟩
 have hA:dA c a b=(nv a.mag*2^(a.exp-2*s).toNat)/2^(a.exp-t-2*s).toNat:=by
  have:=flo_at (nv a.mag) a.exp (a.exp-t) (2*s) hx (by omega)
  rw[show a.exp-(a.exp-t)=t by omega]at this
  unfold dA
  rw[ht]
  exact this
 have hR:rst (nv a.mag) t=((nv a.mag*2^(a.exp-2*s).toNat)%2^(a.exp-t-2*s).toNat != 0):=by
  have:=rst_at (nv a.mag) a.exp (a.exp-t) (2*s) hx (by omega)
  rw[show a.exp-(a.exp-t)=t by omega]at this
  exact this
 have hU:qU b=nv b.mag*2^(30*(b.mag.length:Int)-(bl (nv b.mag):Int)).toNat:=by
  unfold qU flo
  rw[if_pos (by omega)]
 have hE:2^(a.exp-t-2*s).toNat*qU b=nv b.mag*2^(dex c a b+b.exp-2*s).toNat:=by
  rw[hU,Nat.mul_left_comm,←Nat.pow_add]
  congr 2
  unfold dex
  omega
 have hlw:decide (0<dlw c a b)=rst (nv a.mag) t:=by
  unfold rst dlw
  by_cases h0:0≤t
  ·rw[if_pos h0,decide_eq_false (by omega)]
  ·rw[if_neg h0,decide_eq_true (by omega)]
   obtain⟨j,hj⟩:∃j:Nat,(-t).toNat=j+1:=⟨(-t).toNat-1,by omega⟩
   rw[hj]
   have h3:nv a.mag%2^(j+1)%2=1:=by
    rw[Nat.mod_mod_of_dvd _ (by rw[Nat.pow_succ];exact Nat.dvd_mul_left _ _)]
    exact hodd
   have h4:nv a.mag%2^(j+1)≠0:=by
    intro h0;rw[h0]at h3;simp at h3
   exact(by simpa using h4)
 have hP:=Nat.two_pow_pos (a.exp-t-2*s).toNat
 unfold drs dV
 rw[hlw,hR,←hE,hA]
 generalize nv a.mag*2^(a.exp-2*s).toNat=V
 generalize 2^(a.exp-t-2*s).toNat=P at hP ⊢
 generalize qU b=U
 refine⟨Nat.div_div_eq_div_mul _ _ _,?_⟩
 rw[Nat.mod_mul]
 by_cases g1:V%P=0
 ·by_cases g2:V/P%U=0
  ·simp[g1,g2]
  ·have:¬P*(V/P%U)=0:=by
    intro h0;rcases Nat.mul_eq_zero.1 h0 with h0|h0<;>omega
   rw[g1,Nat.zero_add,decide_eq_true g2,decide_eq_true this]
   simp
 ·rw[show(V%P != 0)=true by simpa using g1,Bool.true_or]
  exact(decide_eq_true (by omega)).symm
theorem root_prog (v:Nat)(x s la ex:Int)(h l:Nat)(hodd:v%2=1)(hR:Rtz (flo v (x-la)) h l)(hla:la=2*ex)(hs1:2*s≤x)(hs2:s≤ex):(h*2^(ex-s).toNat)*(h*2^(ex-s).toNat)≤v*2^(x-2*s).toNat∧v*2^(x-2*s).toNat<((h+1)*2^(ex-s).toNat)*((h+1)*2^(ex-s).toNat)∧(decide (l≠0)||decide (x<la))=decide (v*2^(x-2*s).toNat≠(h*2^(ex-s).toNat)*(h*2^(ex-s).toNat)):=by
 have hA:=flo_at v x la (2*s) hs1 (by omega)
 obtain⟨Q,hQ⟩:∃Q,2^(la-2*s).toNat=Q:=⟨_,rfl⟩
 have hQp:0<Q:=by rw[←hQ];exact Nat.two_pow_pos _
 have hQ2:2^(ex-s).toNat*2^(ex-s).toNat=Q:=by
  rw[←Nat.pow_add,←hQ];congr 1;omega
 have hVQ:x<la→v*2^(x-2*s).toNat%Q≠0:=by
  intro hlt
  rw[←hQ,show(la-2*s).toNat=(x-2*s).toNat+(la-x).toNat by omega,Nat.pow_add,Nat.mul_comm v,Nat.mul_mod_mul_left]
  have hp:=Nat.two_pow_pos (x-2*s).toNat
  obtain⟨j,hj⟩:∃j:Nat,(la-x).toNat=j+1:=⟨(la-x).toNat-1,by omega⟩
  rw[hj]
  have h2:v%2^(j+1)%2=1:=by
   rw[Nat.mod_mod_of_dvd _ (by rw[Nat.pow_succ];exact Nat.dvd_mul_left _ _)]
   exact hodd
  intro h0
  rcases Nat.mul_eq_zero.1 h0 with h0|h0
  ·omega
  ·rw[h0]at h2;simp at h2
 have hVQ2:¬x<la→v*2^(x-2*s).toNat%Q=0:=by
  intro hlt
  rw[←hQ,show(x-2*s).toNat=(x-la).toNat+(la-2*s).toNat by omega,Nat.pow_add,←Nat.mul_assoc,Nat.mul_mod_left]
 rw[msq h,msq (h+1),hQ2]
 rw[hQ]at hA
 generalize v*2^(x-2*s).toNat=T at *
 have hdm:=Nat.div_add_mod T Q
 have hml:T%Q<Q:=Nat.mod_lt _ hQp
 rw[←hA]at hdm
 have heq:=hR.eq
 obtain⟨b1,b2⟩:=hR.lt
 have c1:h*h*Q≤flo v (x-la)*Q:=Nat.mul_le_mul_right _ b1
 have c2:(flo v (x-la)+1)*Q≤(h+1)*(h+1)*Q:=Nat.mul_le_mul_right _ b2
 have c3:h*h*Q+l*Q=flo v (x-la)*Q:=by rw[←Nat.add_mul,heq]
 rw[Nat.add_mul,Nat.one_mul]at c2
 rw[Nat.mul_comm]at hdm
 refine⟨by omega,by omega,?_⟩
 rw[←Bool.decide_or]
 congr 1
 apply propext
 constructor
 ·rintro(h1|h1)
  ·have:Q≤l*Q:=Nat.le_mul_of_pos_left _ (by omega)
   omega
  ·have:=hVQ h1
   have:=Nat.zero_le (l*Q)
   omega
 ·intro hne
  apply Decidable.byContradiction
  intro hn
  have n1:l=0:=by omega
  have n2:=hVQ2 (by omega)
  rw[n1]at c3
  omega
theorem quot_bits (A B sh p:Nat)(hA:A≠0)(hB:B≠0)(h:bl B+p+2≤bl A+sh):p+2≤bl (A*2^sh/B):=by
 obtain⟨a1,a2,a3⟩:=bl_pos A hA
 obtain⟨b1,b2,b3⟩:=bl_pos B hB
 have h1:2^(p+1)≤A*2^sh/B:=by
  rw[Nat.le_div_iff_mul_le (by omega)]
  have h2:2^(p+1)*B≤2^(p+1)*2^bl B:=Nat.mul_le_mul_left _ (by omega)
  have h3:2^(bl A-1)*2^sh≤A*2^sh:=Nat.mul_le_mul_right _ a1
  rw[←Nat.pow_add]at h2 h3
  have h4:2^(p+1+bl B)≤2^(bl A-1+sh):=Nat.pow_le_pow_right (by decide) (by omega)
  omega
 obtain⟨q1,q2,q3⟩:=bl_pos (A*2^sh/B) (by have:=Nat.two_pow_pos (p+1);omega)
 have:=(Nat.pow_lt_pow_iff_right (by decide:1<2)).1 (Nat.lt_of_le_of_lt h1 q2)
 omega
def rvq (B Nf G:Nat):Nat:=2*G+(if G*G*B=Nf then 0 else 1)
theorem sqb_lt {a b B:Nat}(h:a*a*B<b*b*B):a<b:=sq_lt (Nat.lt_of_mul_lt_mul_right h)
theorem rootq_lead (B Nf G h W:Nat)(hB:0<B)(hW:0<W)(g1:G*G*B≤Nf)(g2:Nf<(G+1)*(G+1)*B)(h1:(h*W)*(h*W)*B≤Nf)(h2:Nf<((h+1)*W)*((h+1)*W)*B):h=rvq B Nf G/(2*W)∧decide (Nf≠(h*W)*(h*W)*B)=decide (rvq B Nf G%(2*W)≠0):=by
 have a1:=sqb_lt (Nat.lt_of_le_of_lt h1 g2)
 have a2:=sqb_lt (Nat.lt_of_le_of_lt g1 h2)
 have hh1:(h+1)*W=h*W+W:=by rw[Nat.add_mul,Nat.one_mul]
 rw[hh1]at a2
 have hv:rvq B Nf G=2*G∨rvq B Nf G=2*G+1:=by unfold rvq;split<;>omega
 have hm1:h*(2*W)=2*(h*W):=by rw[Nat.mul_left_comm]
 have hd:h=rvq B Nf G/(2*W):=by
  symm
  apply Nat.div_eq_of_lt_le
  ·rw[hm1];omega
  ·rw[Nat.add_mul,hm1];omega
 refine⟨hd,?_⟩
 have hdm:=Nat.div_add_mod (rvq B Nf G) (2*W)
 rw[←hd,Nat.mul_comm,hm1]at hdm
 apply decide_eq_decide.2
 constructor
 ·intro hne h0
  rw[h0]at hdm
  have hG:G=h*W:=by omega
  have:rvq B Nf G=2*G:=by omega
  unfold rvq at this
  split at this
  ·rename_i hh;rw[←hG]at hne;exact hne hh.symm
  ·omega
 ·intro hne hT
  have hG:G=h*W:=by
   have:=sqb_lt (Nat.lt_of_le_of_lt g1 (show Nf<(h*W+1)*(h*W+1)*B by
    rw[hT]
    exact Nat.mul_lt_mul_of_pos_right (Nat.mul_self_lt_mul_self (by omega)) hB))
   omega
  have:rvq B Nf G=2*G:=by
   unfold rvq
   rw[if_pos (by rw[hG,hT])]
   rfl
  rw[this,hG]at hdm hne
  omega
theorem rq_prog (N Dd V o e1 h P:Nat)(hD:0<Dd)(hV:V=N/Dd)(ho:o≤1)(he:1≤e1)(hP:P=V*2^o)(h1:(h*2^e1)*(h*2^e1)≤P)(h2:P<((h+1)*2^e1)*((h+1)*2^e1)):(h*h*2^(2*e1-o)*Dd≤N∧N<(h+1)*(h+1)*2^(2*e1-o)*Dd)∧(decide (P≠(h*2^e1)*(h*2^e1))||decide (N%Dd≠0))=decide (N≠h*h*2^(2*e1-o)*Dd):=by
 have hsq:∀k:Nat,(k*2^e1)*(k*2^e1)=k*k*2^(2*e1-o)*2^o:=fun k=>by
  rw[Nat.mul_mul_mul_comm,←Nat.pow_add,Nat.mul_assoc (k*k),←Nat.pow_add]
  congr 2
  omega
 rw[hsq]at h1 h2 ⊢
 rw[hP]at h1 h2 ⊢
 have hp:=Nat.two_pow_pos o
 have c1:h*h*2^(2*e1-o)≤V:=Nat.le_of_mul_le_mul_right h1 hp
 have c2:V<(h+1)*(h+1)*2^(2*e1-o):=Nat.lt_of_mul_lt_mul_right h2
 generalize h*h*2^(2*e1-o)=C1 at *
 generalize (h+1)*(h+1)*2^(2*e1-o)=C2 at *
 have hdm:=Nat.div_add_mod N Dd
 have hml:=Nat.mod_lt N hD
 rw[←hV]at hdm
 refine⟨⟨?_,?_⟩,?_⟩
 ·have:=Nat.mul_le_mul_right Dd c1
  rw[Nat.mul_comm Dd V]at hdm
  omega
 ·have:=Nat.mul_le_mul_right Dd (show V+1≤C2 from c2)
  rw[Nat.add_mul,Nat.one_mul]at this
  rw[Nat.mul_comm Dd V]at hdm
  omega
 ·have e1':decide (V*2^o≠C1*2^o)=decide (V≠C1):=by
   apply decide_eq_decide.2
   constructor
   ·intro h e;rw[e]at h;exact h rfl
   ·intro h e;exact h (Nat.eq_of_mul_eq_mul_right hp e)
  rw[e1']
  by_cases hVC:V=C1
  ·rw[decide_eq_false (by simpa using hVC),Bool.false_or]
   apply decide_eq_decide.2
   rw[hVC,Nat.mul_comm]at hdm
   omega
  ·rw[decide_eq_true hVC,Bool.true_or]
   symm
   apply decide_eq_true
   intro e
   have hlt:C1+1≤V:=by omega
   have:=Nat.mul_le_mul_right Dd hlt
   rw[Nat.add_mul,Nat.one_mul]at this
   rw[Nat.mul_comm Dd V]at hdm
   omega
theorem pow_sq (x y B:Nat)(k:Nat):x*2^k*(x*2^k)*B=x*x*B*2^(2*k):=by
 rw[Nat.mul_mul_mul_comm,←Nat.pow_add,show k+k=2*k by omega,Nat.mul_right_comm]
theorem scale_dec (N X P:Nat)(hP:0<P):decide (N*P≠X*P)=decide (N≠X):=by
 apply decide_eq_decide.2
 constructor
 ·intro h e;rw[e]at h;exact h rfl
 ·intro h e;exact h (Nat.eq_of_mul_eq_mul_right hP e)
theorem doc_side (M B s r:Nat)(hB:0<B)(h1:r*r≤M*2^(2*s)/B)(h2:M*2^(2*s)/B<(r+1)*(r+1)):r*r*B≤M*2^(2*s)∧M*2^(2*s)<(r+1)*(r+1)*B∧(decide (M*2^(2*s)%B≠0)||decide (M*2^(2*s)/B≠r*r))=decide (M*2^(2*s)≠r*r*B):=by
 generalize M*2^(2*s)=T at *
 have hdm:=Nat.div_add_mod T B
 have hml:=Nat.mod_lt T hB
 generalize r*r=C1 at *
 generalize (r+1)*(r+1)=C2 at *
 generalize T/B=Q at *
 generalize T%B=R at *
 refine⟨?_,?_,?_⟩
 ·have:=Nat.mul_le_mul_right B h1
  rw[Nat.mul_comm B Q]at hdm
  omega
 ·have:=Nat.mul_le_mul_right B (show Q+1≤C2 from h2)
  rw[Nat.add_mul,Nat.one_mul]at this
  rw[Nat.mul_comm B Q]at hdm
  omega
 ·by_cases hQ:Q=C1
  ·rw[decide_eq_false (show ¬Q≠C1 by simpa using hQ),Bool.or_false]
   apply decide_eq_decide.2
   rw[hQ,Nat.mul_comm]at hdm
   omega
  ·rw[decide_eq_true hQ,Bool.or_true]
   symm
   apply decide_eq_true
   intro e
   have:=Nat.mul_le_mul_right B (show C1+1≤Q by omega)
   rw[Nat.add_mul,Nat.one_mul]at this
   rw[Nat.mul_comm B Q]at hdm
   omega
end Go.Proofs.YtnniljhdcplkgaaGreatDoor
