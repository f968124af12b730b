/-  -/
import Derived.Test.YtnniljhdcplkgaaGreatDoorWs08
import Derived.Test.YtnniljhdcplkgaaGreatDoorWs14
import Derived.Test.YtnniljhdcplkgaaGreatDoorWs23
import Derived.Test.YtnniljhdcplkgaaGreatDoorWs22
namespace Go.Proofs.YtnniljhdcplkgaaGreatDoor
open Go.ChangeShapes Go.WideShapes Go.ChangeAt Go.RowKit
set_option maxHeartbeats 16000000
set_option maxRecDepth 100000
set_option linter.unusedVariables false
set_option linter.unusedSimpArgs false
theorem flo_four (v:Nat)(t:Int):flo v t/4=flo v (t-2):=by
 unfold flo
 by_cases h:0≤t-2
 ·rw[if_pos h,if_pos (by omega),show t.toNat=(t-2).toNat+2 by omega,Nat.pow_add,←Nat.mul_assoc]
  exact Nat.mul_div_cancel _ (by decide)
 ·rw[if_neg h]
  by_cases h1:0≤t
  ·rw[if_pos h1]
   have:t=0∨t=1:=by omega
   rcases this with rfl|rfl
   ·simp
   ·show v*2^1/4=v/2^1
    omega
  ·rw[if_neg h1,show(-(t-2)).toNat=(-t).toNat+2 by omega,Nat.pow_add,←Nat.div_div_eq_div_mul]
structure Rtz (A h l:Nat):Prop where
 eq:h*h+l=A
 le:l≤2*h
theorem Rtz.zero:Rtz 0 0 0:=⟨rfl,Nat.le_refl _⟩
theorem sq_two (h:Nat):2*h*(2*h)=4*(h*h):=by
 rw[Nat.mul_mul_mul_comm]
theorem sq_odd (h:Nat):(2*h+1)*(2*h+1)=4*(h*h)+4*h+1:=by
 rw[Nat.add_mul,Nat.mul_add,sq_two]
 omega
theorem Rtz.step {A h l:Nat}(R:Rtz A h l)(A':Nat)(hA:A'/4=A):(4*h+1≤4*l+A'%4→Rtz A' (2*h+1) (4*l+A'%4-(4*h+1)))∧(¬4*h+1≤4*l+A'%4→Rtz A' (2*h) (4*l+A'%4)):=by
 obtain⟨e,le⟩:=R
 refine⟨fun hh=>⟨?_,?_⟩,fun hh=>⟨?_,?_⟩⟩
 ·rw[sq_odd];omega
 ·omega
 ·rw[sq_two];omega
 ·omega
theorem Rtz.lt {A h l:Nat}(R:Rtz A h l):h*h≤A∧A<(h+1)*(h+1):=by
 obtain⟨e,le⟩:=R
 have:(h+1)*(h+1)=h*h+2*h+1:=by rw[Nat.add_mul,Nat.mul_add];omega
 omega
theorem sq_lt {a b:Nat}(h:a*a<b*b):a<b:=by
 apply Decidable.byContradiction
 intro hn
 have:=Nat.mul_le_mul (show b≤a by omega) (show b≤a by omega)
 omega
theorem pcz_flo (v:Nat)(p:Int):pcz v p=((flo v (-p)%1073741824:Nat):Int):=by
 unfold pcz flo
 by_cases h:0≤p
 ·rw[if_pos h]
  by_cases h0:p=0
  ·subst h0;simp
  ·rw[if_neg (by omega),Int.neg_neg]
 ·rw[if_neg h,if_pos (by omega)]
theorem mask_2 (s:Int):bits .and .i64 s 3=s%4:=by
 have e:(BitVec.ofInt 64 3:BitVec 64).toNat=2^2-1:=by decide
 have h:=ofInt_toNat s
 rw[bits_and,BitVec.toNat_and,e,Nat.and_two_pow_sub_one_eq_mod,wrap_i64]
 omega
theorem or_low (x y k:Nat)(h:x<2^k)(hb:x+y*2^k<9223372036854775808):bits .or .i64 ((y*2^k:Nat):Int) (x:Int)=((x+y*2^k:Nat):Int):=by
 rw[←or_sum x y k h hb]
 unfold bits
 simp[BitVec.or_comm]
theorem andNot_1 (t:Int)(h1:-9223372036854775808≤t)(h2:t≤9223372036854775807):bits .andNot .i64 t 1=t-t%2:=by
 have e:(BitVec.ofInt 64 t&&& ~~~ BitVec.ofInt 64 1:BitVec 64).toNat=(BitVec.ofInt 64 t).toNat/2*2:=by
  have:(BitVec.ofInt 64 t&&& ~~~ BitVec.ofInt 64 1:BitVec 64)=(BitVec.ofInt 64 t>>>1)<<<1:=by
   apply BitVec.eq_of_getLsbD_eq
   intro i hi
   rw[BitVec.getLsbD_and,BitVec.getLsbD_not,BitVec.getLsbD_shiftLeft,BitVec.getLsbD_ushiftRight]
   have h01:(BitVec.ofInt 64 1).getLsbD i=decide (i=0):=by
    rw[show BitVec.ofInt 64 1=1#64 by decide,BitVec.getLsbD_one]
    simp
   rw[h01]
   by_cases h0:i=0
   ·subst h0;simp
   ·simp[h0,hi,show ¬i<1 by omega,show 1+(i-1)=i by omega]
  rw[this]
  simp only[BitVec.toNat_shiftLeft,BitVec.toNat_ushiftRight,Nat.shiftRight_eq_div_pow,Nat.shiftLeft_eq,Nat.pow_one]
  have:=(BitVec.ofInt 64 t).isLt
  omega
 have h:=ofInt_toNat t
 rw[bits_andNot,e,wrap_i64]
 omega
theorem root_walk (ng:Bool)(ao:Option Addr)(n c:Nat)(hn:0<n)(x T f:Int)(v:Nat)(hx1:-1048576≤x)(hx2:x≤1048576)(hT1:x≤T)(hT2:T≤x+90000)(hf:bits .andNot .i64 (T-1) 1=f)(hf1:T-2≤f)(hf2:f≤T-1)(w:World)
  (HV:Hid (flo v (x-f-2)=0))
  (KT:Hid (∀u,Kept w u→Calls Tryz.prog 159 #[.agg #[.bool ng,.slice ao n c,.int .i64 x]] u fun e w'=>e=.returned (.int .i64 T)∧Kept u w'))
  (KP:Hid (∀u p,Kept w u→-1000000000<p→p<1000000000→Calls Tryz.prog 114 #[.slice ao n c,.int .i64 p] u fun e w'=>e=.returned (.int .i64 (pcz v p))∧Kept u w')):
  Calls Tryz.prog 158 #[.agg #[.bool ng,.slice ao n c,.int .i64 x]] w fun e w'=>∃h l:Nat,e=.returned (.agg #[.bool false,.int .i64 (h:Int),.int .i64 ((f-110).tdiv 2),.bool (decide (l≠0)||decide (x<f-110))])∧Rtz (flo v (x-(f-110))) h l∧Kept w w':=by
 have hK:Kept w ((w.alloc (.cells #[.bool ng,.slice ao n c,.int .i64 x] 43)).alloc (.cells #[.bool false,.int .i64 0,.int .i64 0,.bool false] 117)):=((Kept.refl w).alloc _ _).alloc _ _
 obtain⟨W,hW⟩:∃W,W=((w.alloc (.cells #[.bool ng,.slice ao n c,.int .i64 x] 43)).alloc (.cells #[.bool false,.int .i64 0,.int .i64 0,.bool false] 117)):=⟨_,rfl⟩
 have HS:Hid (∀u,Kept W u→(u.cell? ⟨w.heap.size,0,none⟩=some (.bool ng)∧u.cell? ⟨w.heap.size,1,none⟩=some (.slice ao n c)∧u.cell? ⟨w.heap.size,2,none⟩=some (.int .i64 x))∧u.cell? ⟨w.heap.size+1,0,none⟩=some (.bool false)∧u.cell? ⟨w.heap.size+1,1,none⟩=some (.int .i64 0)∧u.cell? ⟨w.heap.size+1,2,none⟩=some (.int .i64 0)∧u.cell? ⟨w.heap.size+1,3,none⟩=some (.bool false)∧∀o,u.frozen? ⟨w.heap.size+1,o,none⟩=false):=fun u k=>by rw[hW]at k;exact⟨⟨(k.below.cell (p:=⟨w.heap.size,0,none⟩) (by simp<;>omega)).trans (by simp[go_sem]),(k.below.cell (p:=⟨w.heap.size,1,none⟩) (by simp<;>omega)).trans (by simp[go_sem]),(k.below.cell (p:=⟨w.heap.size,2,none⟩) (by simp<;>omega)).trans (by simp[go_sem])⟩,(k.below.cell (p:=⟨w.heap.size+1,0,none⟩) (by simp)).trans (by simp[go_sem]),(k.below.cell (p:=⟨w.heap.size+1,1,none⟩) (by simp)).trans (by simp[go_sem]),(k.below.cell (p:=⟨w.heap.size+1,2,none⟩) (by simp)).trans (by simp[go_sem]),(k.below.cell (p:=⟨w.heap.size+1,3,none⟩) (by simp)).trans (by simp[go_sem]),fun o=>(k.frozen _).trans (by simp[go_sem])⟩
 rw[←hW]at hK
 have hn0:((n:Int)==0)=false:=by simp;omega
 have zT:IntKind.i64.wrap (T-1)=T-1:=by rw[wrap_i64];omega
 have zf:IntKind.i64.wrap (f-110)=f-110:=by rw[wrap_i64];omega
 go_enter Tryz.func158,Tryz.ntmps158
 go_upto_region 3 with fail
 rw[←hW]
 clear hW
 obtain⟨⟨p0,p1,p2⟩,r0,r1,r2,r3,rf⟩:=HS.out _ (Kept.refl W)
 go_wp2_with fail
 refine(KT.out _ hK).mono ?_
 rintro e w1 ⟨rfl,k1⟩
 clear p0 p1 p2 r0 r1 r2 r3 rf
 go_wp2_with fail
 go_loopw [5,6,20] (fun hv lv iv wr=>∃(k h l:Nat),k≤56∧iv=.int .i64 k∧hv=.int .i64 h∧lv=.int .i64 l∧Rtz (flo v (x-f-2+2*(k:Int))) h l∧h<2^k∧Kept W wr) (fun _ _ iv _=>56-(intOf iv).toNat)
 case atStart=>exact⟨0,0,0,Nat.zero_le _,rfl,rfl,rfl,by rw[Int.natCast_zero,Int.mul_zero,Int.add_zero,HV.out];exact Rtz.zero,by decide,k1⟩
 case round=>
  obtain⟨k,h,l,hk,rfl,rfl,rfl,hR,hh,hKr⟩:=hrel
  have hl:=hR.le
  have HR:Hid (Rtz (flo v (x-f-2+2*(k:Int))) h l):=hR
  clear hR
  by_cases hk56:k<56
  ·have hp55:(2:Nat)^k≤2^55:=Nat.pow_le_pow_right (by decide) (by omega)
   have h55:(2:Nat)^55=36028797018963968:=by decide
   obtain⟨⟨p0,p1,p2⟩,r0,r1,r2,r3,rf⟩:=HS.out _ hKr
   obtain⟨q,hq⟩:∃q:Nat,q=flo v (x-f+2*(k:Int))%4:=⟨_,rfl⟩
   have HQ:Hid (q=flo v (x-f+2*(k:Int))%4):=hq
   have hq4:q<4:=by rw[hq];omega
   obtain⟨pv,hpv⟩:∃pv,pcz v (f-2*(k:Int)-x)=pv:=⟨_,rfl⟩
   have hand:bits .and .i64 pv 3=(q:Int):=by
    rw[←hpv,mask_2,pcz_flo,hq,show -(f-2*(k:Int)-x)=x-f+2*(k:Int) by omega]
    omega
   have KP2:Hid (Calls Tryz.prog 114 #[.slice ao n c,.int .i64 (f-2*(k:Int)-x)] wr fun e w'=>e=.returned (.int .i64 pv)∧Kept wr w'):=by
    have:=KP.out wr (f-2*(k:Int)-x) (hK.trans hKr) (by omega) (by omega)
    rw[hpv]at this
    exact this
   clear hq hpv
   have HH:Hid (h<2^k):=hh
   clear hh
   have hh:h<36028797018963968:=by have:=HH.out;omega
   clear hp55 h55
   have z2:IntKind.i64.wrap (2*(k:Int))=2*(k:Int):=by rw[wrap_i64];omega
   have z3:IntKind.i64.wrap (f-2*(k:Int))=f-2*(k:Int):=by rw[wrap_i64];omega
   have z4:IntKind.i64.wrap (f-2*(k:Int)-x)=f-2*(k:Int)-x:=by rw[wrap_i64];omega
   obtain⟨A1,hA1⟩:∃A1:Nat,4*l+q=A1:=⟨_,rfl⟩
   obtain⟨T1,hT1'⟩:∃T1:Nat,4*h+1=T1:=⟨_,rfl⟩
   obtain⟨H1,hH1⟩:∃H1:Nat,2*h+1=H1:=⟨_,rfl⟩
   have o1:bits .or .i64 ((l:Int)*4) (q:Int)=(A1:Int):=by
    have:=or_low q l 2 hq4 (by omega)
    rw[show((l*2^2:Nat):Int)=(l:Int)*4 by omega,show((q+l*2^2:Nat):Int)=(A1:Int) by omega]at this
    exact this
   have o2:bits .or .i64 ((h:Int)*2*2) 1=(T1:Int):=by
    have:=or_low 1 (2*h) 1 (by decide) (by omega)
    rw[show((2*h*2^1:Nat):Int)=(h:Int)*2*2 by omega,show((1+2*h*2^1:Nat):Int)=(T1:Int) by omega]at this
    exact this
   have o3:bits .or .i64 ((h:Int)*2) 1=(H1:Int):=by
    have:=or_low 1 h 1 (by decide) (by omega)
    rw[show((h*2^1:Nat):Int)=(h:Int)*2 by omega,show((1+h*2^1:Nat):Int)=(H1:Int) by omega]at this
    exact this
   have HA:Hid (4*l+q=A1∧4*h+1=T1∧2*h+1=H1):=⟨hA1,hT1',hH1⟩
   have b1:A1<1000000000000000000:=by omega
   have b2:T1<1000000000000000000:=by omega
   clear hA1 hT1' hH1
   by_cases hfit:(T1:Int)≤(A1:Int)
   ·go_wp2_with fail
    refine KP2.out.mono ?_
    rintro e w2 ⟨rfl,k2⟩
    go_wp2
    go_roundw
    case rel=>
     obtain⟨a1,a2,a3⟩:=HA.out
     have hs:=(HR.out.step (flo v (x-f+2*(k:Int))) (by rw[flo_four];congr 1;omega)).1 (by rw[←HQ.out];omega)
     refine⟨k+1,H1,A1-T1,by omega,by go_num,rfl,by go_num,?_,?_,hKr.trans k2⟩
     ·rw[←HQ.out,a2,a1,a3]at hs
      rw[show x-f-2+2*((k+1:Nat):Int)=x-f+2*(k:Int) by omega]
      exact hs
     ·have:=HH.out
      rw[Nat.pow_succ]
      omega
    case measure=>simp[intOf];omega
   ·go_wp2_with fail
    refine KP2.out.mono ?_
    rintro e w2 ⟨rfl,k2⟩
    go_wp2
    go_roundw
    case rel=>
     obtain⟨a1,a2,a3⟩:=HA.out
     have hs:=(HR.out.step (flo v (x-f+2*(k:Int))) (by rw[flo_four];congr 1;omega)).2 (by rw[←HQ.out];omega)
     refine⟨k+1,2*h,A1,by omega,by go_num,by go_num,by go_num,?_,?_,hKr.trans k2⟩
     ·rw[←HQ.out,a1]at hs
      rw[show x-f-2+2*((k+1:Nat):Int)=x-f+2*(k:Int) by omega]
      exact hs
     ·have:=HH.out
      rw[Nat.pow_succ]
      omega
    case measure=>simp[intOf];omega
  ·obtain rfl:k=56:=by omega
   have hR:=HR.out
   rw[show x-f-2+2*((56:Nat):Int)=x-(f-110) by omega]at hR
   have HR2:Hid (Rtz (flo v (x-(f-110))) h l):=hR
   clear hR hh
   obtain⟨⟨p0,p1,p2⟩,r0,r1,r2,r3,rf⟩:=HS.out _ hKr
   by_cases hl0:l=0
   ·subst hl0
    go_wp2
    refine bodyPost_ret (v:=.agg #[.bool false,.int .i64 (h:Int),.int .i64 ((f-110).tdiv 2),.bool (decide (x<f-110))]) (by simp[results,Tryz.results158,go_sem,r0,r1,r2,r3]) rfl ⟨h,0,by simp,HR2.out,?_⟩
    exact(hK.trans hKr).setCell (by simp) _|>.setCell (by simp) _|>.setCell (by simp) _|>.setCell (by simp) _
   ·have hl0':((l:Int)==0)=false:=by simp;omega
    go_wp2
    refine bodyPost_ret (v:=.agg #[.bool false,.int .i64 (h:Int),.int .i64 ((f-110).tdiv 2),.bool true]) (by simp[results,Tryz.results158,go_sem,r0,r1,r2,r3]) rfl ⟨h,l,by simp[hl0],HR2.out,?_⟩
    exact(hK.trans hKr).setCell (by simp) _|>.setCell (by simp) _|>.setCell (by simp) _|>.setCell (by simp) _
end Go.Proofs.YtnniljhdcplkgaaGreatDoor

namespace Go.Proofs.YtnniljhdcplkgaaGreatDoor
open Go.ChangeShapes Go.WideShapes Go.ChangeAt Go.RowKit
set_option maxHeartbeats 16000000
set_option maxRecDepth 100000
set_option linter.unusedVariables false
set_option linter.unusedSimpArgs false
theorem flo_bounds (v B:Nat)(t:Int)(h1:2^(B-1)≤v)(h2:v<2^B)(hB:0<B)(ht:0≤(B:Int)-1+t):2^((B:Int)-1+t).toNat≤flo v t∧flo v t<2^((B:Int)+t).toNat:=by
 unfold flo
 split
 ·rw[show((B:Int)-1+t).toNat=(B-1)+t.toNat by omega,show((B:Int)+t).toNat=B+t.toNat by omega,Nat.pow_add,Nat.pow_add]
  exact⟨Nat.mul_le_mul_right _ h1,Nat.mul_lt_mul_of_pos_right h2 (Nat.two_pow_pos _)⟩
 ·constructor
  ·rw[Nat.le_div_iff_mul_le (Nat.two_pow_pos _),←Nat.pow_add]
   exact Nat.le_trans (Nat.pow_le_pow_right (by decide) (by omega)) h1
  ·rw[Nat.div_lt_iff_lt_mul (Nat.two_pow_pos _),←Nat.pow_add]
   exact Nat.lt_of_lt_of_le h2 (Nat.pow_le_pow_right (by decide) (by omega))
def rfst (r:Nm):Int:=r.exp+(bl (nv r.mag):Int)-1-(r.exp+(bl (nv r.mag):Int)-1)%2
def rlast (r:Nm):Int:=rfst r-110
structure Rtl (r:Nm) (h l:Nat) (rs:Bool):Prop where
 rt:Rtz (flo (nv r.mag) (r.exp-rlast r)) h l
 low:2^(56-1)≤h
 high:h<2^56
 rs:rs=(decide (l≠0)||decide (r.exp<rlast r))
 even:rlast r%2=0
theorem rtz_ex (A:Nat):∃h l,Rtz A h l:=by
 induction A using Nat.strongRecOn with
 | ind A ih=>
  by_cases h0:A=0
  ·subst h0;exact⟨0,0,Rtz.zero⟩
  ·obtain⟨h,l,hR⟩:=ih (A/4) (by omega)
   obtain⟨s1,s2⟩:=hR.step A rfl
   by_cases hh:4*h+1≤4*l+A%4
   ·exact⟨_,_,s1 hh⟩
   ·exact⟨_,_,s2 hh⟩
theorem rtz_uniq {A h l h' l':Nat}(a:Rtz A h l)(b:Rtz A h' l'):h=h'∧l=l':=by
 obtain⟨a1,a2⟩:=a.lt
 obtain⟨b1,b2⟩:=b.lt
 have c1:=sq_lt (Nat.lt_of_le_of_lt a1 b2)
 have c2:=sq_lt (Nat.lt_of_le_of_lt b1 a2)
 have e:h=h':=by omega
 subst e
 have:=a.eq
 have:=b.eq
 exact⟨rfl,by omega⟩
theorem rtl_of (r:Nm)(hv:vld r=true)(hne:r.mag≠[]):∃h l,Rtl r h l (decide (l≠0)||decide (r.exp<rlast r)):=by
 have h0:=nv_ne r hv hne
 obtain⟨b1,b2,b3⟩:=bl_pos (nv r.mag) h0
 obtain⟨h,l,hR⟩:=rtz_ex (flo (nv r.mag) (r.exp-rlast r))
 obtain⟨f,hf⟩:∃f,rlast r=f-110:=⟨rfst r,rfl⟩
 have hf2:=hf
 unfold rlast rfst at hf2
 rw[hf]at hR
 have hA:=flo_bounds (nv r.mag) (bl (nv r.mag)) (r.exp-(f-110)) b1 b2 b3 (by omega)
 obtain⟨q1,q2⟩:=hR.lt
 have hlow:2^55*2^55<(h+1)*(h+1):=by
  rw[←Nat.pow_add]
  refine Nat.lt_of_le_of_lt ?_ q2
  exact Nat.le_trans (Nat.pow_le_pow_right (by decide) (by omega)) hA.1
 have hhigh:h*h<2^56*2^56:=by
  rw[←Nat.pow_add]
  refine Nat.lt_of_le_of_lt q1 (Nat.lt_of_lt_of_le hA.2 ?_)
  exact Nat.pow_le_pow_right (by decide) (by omega)
 have g1:=sq_lt hlow
 have g2:=sq_lt hhigh
 exact⟨h,l,⟨by rw[hf];exact hR,by rw[show 56-1=55 by rfl];omega,g2,rfl,by omega⟩⟩
theorem root_any (r:Nm)(hv:vld r=true)(hne:r.mag≠[])(h l:Nat)(rs:Bool)(H:Rtl r h l rs)(ao:Option Addr)(c:Nat)(w:World)(hS:Sl w (.slice ao r.mag.length c) r.mag):Calls Tryz.prog 158 #[.agg #[.bool r.neg,.slice ao r.mag.length c,.int .i64 r.exp]] w fun e w'=>e=.returned (.agg #[.bool false,.int .i64 (h:Int),.int .i64 (rlast r/2),.bool rs])∧Kept w w':=by
 obtain⟨p1,p2,p3,p4,p5,p6⟩:=vld_some r.neg r.mag r.exp hne hv
 have h0:=nv_ne r hv hne
 have hbl:=bl_le _ _ (nv_lt r.mag p2)
 obtain⟨b1,b2,b3⟩:=bl_pos (nv r.mag) h0
 obtain⟨f,hf⟩:∃f,rfst r=f:=⟨_,rfl⟩
 have hf2:=hf
 unfold rfst at hf2
 have hla:rlast r=f-110:=by unfold rlast;rw[hf]
 have hpos:=List.length_pos_iff.2 hne
 have HV:Hid (flo (nv r.mag) (r.exp-f-2)=0):=by
  show flo (nv r.mag) (r.exp-f-2)=0
  unfold flo
  rw[if_neg (by omega)]
  exact Nat.div_eq_of_lt (Nat.lt_of_lt_of_le b2 (Nat.pow_le_pow_right (by decide) (by omega)))
 refine(root_walk r.neg ao r.mag.length c hpos r.exp (r.exp+(bl (nv r.mag):Int)) f (nv r.mag) p5 p6 (by omega) (by omega) (by rw[andNot_1 _ (by omega) (by omega)];omega) (by omega) (by omega) w HV (fun u k=>top_any r.neg r.mag ⟨p2,fun _=>p3⟩ (by omega) ao c r.exp p5 p6 u (hS.kept k)) (fun u p k g1 g2=>piece_any r.mag p2 _ p g1 g2 u (hS.kept k))).mono ?_
 rintro e w' ⟨h',l',rfl,hR,hk⟩
 rw[←hla]at hR
 obtain⟨rfl,rfl⟩:=rtz_uniq H.rt hR
 have he:=H.even
 rw[hla]at he
 have:(f-110).tdiv 2=(f-110)/2:=Int.tdiv_eq_ediv_of_dvd (by omega)
 rw[this,←hla,←H.rs]
 exact⟨rfl,hk⟩
end Go.Proofs.YtnniljhdcplkgaaGreatDoor

namespace Go.Proofs.YtnniljhdcplkgaaGreatDoor
open Go.ChangeShapes Go.WideShapes Go.ChangeAt Go.RowKit
set_option maxHeartbeats 16000000
set_option maxRecDepth 100000
set_option linter.unusedVariables false
set_option linter.unusedSimpArgs false
theorem half_iff (V H:Nat)(hH:0<H):(V/H%2=1)↔H≤V%(2*H):=by
 have e1:V/H=2*(V/(2*H))+V%(2*H)/H:=by
  have hdm:=Nat.div_add_mod V (2*H)
  have:V=V%(2*H)+H*(2*(V/(2*H))):=by
   rw[←Nat.mul_assoc,Nat.mul_comm H 2];omega
  rw[show V/H=(V%(2*H)+H*(2*(V/(2*H))))/H by rw[←this],Nat.add_mul_div_left _ _ hH];omega
 have e2:V%(2*H)<2*H:=Nat.mod_lt _ (by omega)
 rw[e1]
 constructor
 ·intro h
  apply Decidable.byContradiction
  intro hn
  have hz:V%(2*H)/H=0:=Nat.div_eq_of_lt (by omega)
  omega
 ·intro h
  have:V%(2*H)/H=1:=by
   rw[show V%(2*H)=(V%(2*H)-H)+H*1 by omega,Nat.add_mul_div_left _ _ hH,Nat.div_eq_of_lt (by omega)]
  omega
theorem cutz_lead (c D V E h:Nat)(rs:Bool)(j m k F:Nat)(hc:0<c)(hce:c%2=0)(hE:0<E)(hh:h=V/E)(hrs:rs=decide (V%E≠0))(hk:k=h/2^(m+1))(hF:F=j*c+k)(hb:k<2*c)(hjk:j=0∨c≤k)(hQD:E*2^(m+1)=2^j*D):Cutz c D V k (E*2^(m+1)) (E*2^m) F (decide (k%2=1)) (decide (h/2^m%2=1)) (rs||h%2^m != 0):=by
 have hp:=Nat.two_pow_pos m
 have hH:0<E*2^m:=Nat.mul_pos hE hp
 have hQ:E*2^(m+1)=2*(E*2^m):=by rw[Nat.pow_succ,←Nat.mul_assoc,Nat.mul_comm]
 have hkq:V/(E*2^(m+1))=k:=by rw[hk,hh,Nat.div_div_eq_div_mul]
 refine⟨hQ,hH,hkq,?_,?_,rfl,?_,?_,?_⟩
 ·rw[hF,rv_at c j k hc (by omega) hjk,hQD,Nat.mul_assoc]
 ·rw[hF,Nat.add_assoc,rv_at c j (k+1) hc (by omega) (by omega),hQD,Nat.mul_assoc]
 ·rw[hF,Nat.add_mod,Nat.mul_mod,hce];simp
 ·rw[hh,Nat.div_div_eq_div_mul,hQ]
  congr 1
  exact propext (half_iff V (E*2^m) hH)
 ·rw [hQ,Nat.mod_mul_left_mod,Nat.mod_mul,←hh,hrs]
  by_cases h1:V%E=0
  ·by_cases h2:h%2^m=0
   ·simp[h1,h2]
   ·have:¬E*(h%2^m)=0:=by
     intro h0;rcases Nat.mul_eq_zero.1 h0 with h0|h0<;>omega
    rw[show(h%2^m != 0)=true by simpa using h2,h1,Nat.zero_add,decide_eq_true this]
    simp
  ·rw[decide_eq_true h1,Bool.true_or]
   exact(decide_eq_true (by omega)).symm
theorem lead_flo (h:Nat)(e u:Int)(m:Nat)(hm:u-e=(m:Int)+1):flo h (e-u)=h/2^(m+1)∧flo h (e-u+1)=h/2^m∧rst h (e-u+1)=(h%2^m != 0):=by
 have e1:e-u=-((m:Int)+1):=by omega
 have e2:e-u+1=-(m:Int):=by omega
 rw[e2,e1]
 refine⟨?_,?_,?_⟩
 ·unfold flo
  rw[if_neg (by omega),show(- -((m:Int)+1)).toNat=m+1 by omega]
 ·unfold flo
  by_cases h0:m=0
  ·subst h0;simp
  ·rw[if_neg (by omega),show(- -(m:Int)).toNat=m by omega]
 ·unfold rst
  by_cases h0:m=0
  ·subst h0;simp[Nat.mod_one]
  ·rw[if_neg (by omega),show(- -(m:Int)).toNat=m by omega]
theorem doc_cutz (n:Int)(hn:n=64∨n=32)(q:Nat)(e:Int)(hq:kprec n+1≤(bl q:Int))(u:Int)(hu:unz (kprec n).toNat (kleast n) (bl q) e=u)(V D E:Nat)(more:Bool)(hE:0<E)(hh:q=V/E)(hm:more=decide (V%E≠0))(hQD:E*2^(u-e).toNat=2^(u-kleast n).toNat*D)(k F:Nat)(hk:flo q (e-u)=k)(hF:F=(u-kleast n).toNat*cbn n+k):∃Q H,Cutz (cbn n) D V k Q H F (decide (k%2=1)) (decide (flo q (e-u+1)%2=1)) (more||rst q (e-u+1)):=by
 obtain⟨p1,p2,p3⟩:=kp_toNat n hn
 obtain⟨c1,c2⟩:=cbn_pow n hn
 have hq0:q≠0:=by
  intro h0
  rw[h0,bl_zero]at hq
  omega
 obtain⟨b1,b2,b3⟩:=bl_pos q hq0
 obtain⟨hb1,hb2⟩:=kept_bounds (kprec n).toNat (kleast n) q (bl q) e (by omega) b1 b2 b3
 rw[hu]at hb1 hb2
 have hue:e+1≤u:=by unfold unz at hu;omega
 obtain⟨m,hm2⟩:∃m:Nat,u-e=(m:Int)+1:=⟨(u-e-1).toNat,by omega⟩
 obtain⟨f1,f2,f3⟩:=lead_flo q e u m hm2
 rw[hk]at hb1 hb2
 have hcp:0<cbn n:=by rw[c1];exact Nat.two_pow_pos _
 have hce:cbn n%2=0:=by
  rw[c1,show(kprec n).toNat-1=((kprec n).toNat-2)+1 by omega,Nat.pow_succ];omega
 have hp:2*cbn n=2^(kprec n).toNat:=by rw[c1,←Nat.pow_succ'];congr 1;omega
 rw[f2,f3]
 refine⟨_,_,cutz_lead (cbn n) D V E q more (u-kleast n).toNat m k F hcp hce hE hh hm (by rw[←f1,hk]) hF (by omega) ?_ ?_⟩
 ·rcases hb2 with g|g
  ·left;omega
  ·right;rw[c1];exact g
 ·rw[←hQD,show(u-e).toNat=m+1 by omega]
theorem told_pz_64 (ng:Bool)(M:Nat)(hM:M≤9218868437227405312):(if (if ng=true then (-9223372036854775808:Int)else 0)+(M:Int)=-9223372036854775808 then 0 else (if ng=true then (-9223372036854775808:Int)else 0)+(M:Int))=pz 64 (kyz ng M):=by
 unfold pz kyz
 cases ng
 ·simp only[Bool.false_eq_true,if_false,if_true]
  (repeat' split)<;>first|omega|(exfalso;simp_all;done)
 ·simp only[if_true]
  (repeat' split)<;>first|omega|(exfalso;simp_all;done)
theorem told_pz_32 (ng:Bool)(M:Nat)(hM:M≤2139095040):(if (if ng=true then (2147483648:Int)else 0)+(M:Int)=2147483648 then 0 else (if ng=true then (2147483648:Int)else 0)+(M:Int))=pz 32 (kyz ng M):=by
 unfold pz kyz
 cases ng
 ·simp only[Bool.false_eq_true,if_false,if_true]
  (repeat' split)<;>first|omega|(exfalso;simp_all;done)
 ·simp only[if_true]
  (repeat' split)<;>first|omega|(exfalso;simp_all;done)
theorem msq (a b:Nat):(a*b)*(a*b)=(a*a)*(b*b):=Nat.mul_mul_mul_comm a b a b
theorem shl_len2 (A s z:Nat)(h:s≤30*z):(digs (A*2^s)).length≤(digs A).length+z:=by
 have h1:=digs_lt A _ (Nat.le_refl (digs A).length)
 have h2:2^s≤2^(30*z):=Nat.pow_le_pow_right (by omega) h
 have h3:A*2^s<2^(30*((digs A).length+z)):=by
  rw[Nat.mul_add,Nat.pow_add]
  exact Nat.mul_lt_mul_of_lt_of_le h1 h2 (Nat.two_pow_pos _)
 exact digs_length_le _ _ h3
theorem kmax (n:Int)(hn:n=64∨n=32):kprec n≤53∧24≤kprec n∧-1074≤kleast n∧kleast n≤-149:=by
 rcases hn with rfl|rfl<;>decide
theorem root_bits (V q p:Nat)(h:2*p+4≤bl V)(hV:V≠0)(hq:V<(q+1)*(q+1)):p+2≤bl q:=by
 obtain⟨b1,b2,b3⟩:=bl_pos V hV
 have h1:2^(p+1)*2^(p+1)≤V:=by
  rw[←Nat.pow_add]
  exact Nat.le_trans (Nat.pow_le_pow_right (by decide) (by omega)) b1
 have h2:=sq_lt (Nat.lt_of_le_of_lt h1 hq)
 have hp:=Nat.two_pow_pos (p+1)
 obtain⟨q1,q2,q3⟩:=bl_pos q (by omega)
 have:=(Nat.pow_lt_pow_iff_right (by decide:1<2)).1 (Nat.lt_of_le_of_lt (show 2^(p+1)≤q by omega) q2)
 omega
end Go.Proofs.YtnniljhdcplkgaaGreatDoor
