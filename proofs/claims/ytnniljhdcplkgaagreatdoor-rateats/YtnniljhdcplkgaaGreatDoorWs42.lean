/-  -/
import Derived.Test.YtnniljhdcplkgaaGreatDoorWs40
import Derived.Test.YtnniljhdcplkgaaGreatDoorWs41
import Derived.Test.YtnniljhdcplkgaaGreatDoorWs37
namespace Go.Proofs.YtnniljhdcplkgaaGreatDoor
open Go.ChangeShapes Go.WideShapes Go.ChangeAt Go.RowKit
set_option maxHeartbeats 16000000
set_option maxRecDepth 100000
set_option linter.unusedVariables false
set_option linter.unusedSimpArgs false
theorem rsgn18 (b n:Int)(hb:-9223372036854775808≤b∧b≤9223372036854775807)(w:World):Calls Tryz.prog 44 #[.int .i64 b,.int .i64 n] w fun e w'=>e=.returned (.int .i64 (if lss b 0 n=true then -1 else if lss 0 b n=true then 1 else 0))∧Kept w w':=by
 have K1:Hid (∀u,Calls Tryz.prog 76 #[.int .i64 b,.int .i64 0,.int .i64 n] u fun e w'=>e=.returned (.bool (lss b 0 n))∧Kept u w'):=fun u=>rless_any b 0 n hb.1 hb.2 (by decide) (by decide) u
 have K2:Hid (∀u,Calls Tryz.prog 76 #[.int .i64 0,.int .i64 b,.int .i64 n] u fun e w'=>e=.returned (.bool (lss 0 b n))∧Kept u w'):=fun u=>rless_any 0 b n (by decide) (by decide) hb.1 hb.2 u
 generalize lss b 0 n=p at *
 generalize lss 0 b n=q at *
 go_enter Tryz.func44,Tryz.ntmps44
 go_wp2_with fail
 refine(K1.out _).mono ?_
 rintro e w1 ⟨rfl,k1⟩
 cases p
 ·go_wp2_with fail
  refine(K2.out _).mono ?_
  rintro e w2 ⟨rfl,k2⟩
  cases q
  all_goals
   go_wp2_with fail
   go_ret
   exact⟨rfl,k1.trans k2⟩
 ·go_wp2_with fail
  go_ret
  exact⟨rfl,k1⟩
def gd (b:Int):Bool:=decide (cls b 64<3)&&!lss b 0 64
theorem gd_cls {b:Int}(h:gd b=true):cls b 64<3:=by
 unfold gd at h
 simp only[Bool.and_eq_true]at h
 exact of_decide_eq_true h.1
theorem isSize_any (b:Int)(h1:-9223372036854775808≤b)(h2:b≤9223372036854775807)(w:World):Calls Tryz.prog 20 #[.int .i64 b] w fun e w'=>e=.returned (.bool (gd b))∧Kept w w':=isSize_walk b _ (fun w=>less_any b 0 64 h1 h2 (by decide) (by decide) w) w
theorem good_any (b:Int)(h1:-9223372036854775808≤b)(h2:b≤9223372036854775807)(w:World):Calls Tryz.prog 26 #[.int .i64 b] w fun e w'=>e=.returned (.bool (gd b))∧Kept w w':=by
 have KF:Hid (∀u,Calls Tryz.prog 18 #[.int .i64 b,.int .i64 64] u fun e w'=>e=.returned (.bool (decide (cls b 64<3)))∧Kept u w'):=fun u=>rfinite_any b 64 h1 h2 u
 have KS:Hid (∀u,Calls Tryz.prog 44 #[.int .i64 b,.int .i64 64] u fun e w'=>e=.returned (.int .i64 (if lss b 0 64=true then -1 else if lss 0 b 64=true then 1 else 0))∧Kept u w'):=fun u=>rsgn18 b 64 ⟨h1,h2⟩ u
 unfold gd
 generalize lss b 0 64=p at *
 generalize lss 0 b 64=q at *
 generalize decide (cls b 64<3)=r at *
 go_enter Tryz.func26,Tryz.ntmps26
 go_wp2_with fail
 refine(KF.out _).mono ?_
 rintro e w1 ⟨rfl,k1⟩
 cases r
 ·go_wp2_with fail
  go_ret
  exact⟨rfl,k1⟩
 ·go_wp2_with fail
  refine(KS.out _).mono ?_
  rintro e w2 ⟨rfl,k2⟩
  cases p<;>cases q
  all_goals
   go_wp2_with fail
   go_ret
   exact⟨rfl,k1.trans k2⟩
theorem cok_0 (ev tt:Int):cok 0 ev tt=true:=by simp[cok]
theorem cok_1 (ev tt:Int):cok 1 ev tt=decide (0<ev):=by simp[cok]
theorem cok_2 (ev tt:Int):cok 2 ev tt=decide (0<tt):=by simp[cok]
theorem cok_3 (ev tt:Int):cok 3 ev tt=decide (0<ev):=by simp[cok]
theorem cok_4 (ev tt:Int):cok 4 ev tt=decide (0<ev):=by simp[cok]
theorem cok_5 (ev tt:Int):cok 5 ev tt=(decide (0<ev)&&decide (ev≤8)&&decide (0<tt)):=by simp[cok]
def ckb (kd ba fa wa ev tt:Int):Bool:=decide (0≤kd∧kd≤5)&&gd ba&&gd fa&&(cnt wa&&cnt ev&&cnt tt)&&cok kd ev tt
theorem rcheck_any (kd ba fa wa ev tt:Int)(hb1:-9223372036854775808≤ba)(hb2:ba≤9223372036854775807)(hf1:-9223372036854775808≤fa)(hf2:fa≤9223372036854775807)(w:World):Calls Tryz.prog 12 #[.agg #[.int .i64 kd,.int .i64 ba,.int .i64 fa,.int .i64 wa,.int .i64 ev,.int .i64 tt]] w fun e w'=>e=.returned (.int .i64 (if ckb kd ba fa wa ev tt=true then 0 else 42))∧Kept w w':=by
 have KG1:Hid (∀u,Calls Tryz.prog 26 #[.int .i64 ba] u fun e w'=>e=.returned (.bool (gd ba))∧Kept u w'):=fun u=>good_any ba hb1 hb2 u
 have KG2:Hid (∀u,Calls Tryz.prog 26 #[.int .i64 fa] u fun e w'=>e=.returned (.bool (gd fa))∧Kept u w'):=fun u=>good_any fa hf1 hf2 u
 obtain⟨g1,hg1⟩:∃g,gd ba=g:=⟨_,rfl⟩
 obtain⟨g2,hg2⟩:∃g,gd fa=g:=⟨_,rfl⟩
 have HR:=hidr (show ckb kd ba fa wa ev tt=(decide (0≤kd∧kd≤5)&&g1&&g2&&(cnt wa&&cnt ev&&cnt tt)&&cok kd ev tt)from by unfold ckb;rw[hg1,hg2])
 rw[hg1]at KG1
 rw[hg2]at KG2
 obtain⟨R,hR⟩:∃R,ckb kd ba fa wa ev tt=R:=⟨_,rfl⟩
 rw[hR]at HR ⊢
 obtain⟨X,hX⟩:∃X,X=w.alloc (.cells #[.int .i64 kd,.int .i64 ba,.int .i64 fa,.int .i64 wa,.int .i64 ev,.int .i64 tt] 23):=⟨_,rfl⟩
 have hK:Kept w X:=by rw[hX];exact(Kept.refl w).alloc _ _
 have HS0:Hid (∀u,Kept X u→_):=fun u k=>sch_cells w kd ba fa wa ev tt _ X hX u k
 obtain⟨B0,hB0⟩:∃B,B=w.heap.size:=⟨_,rfl⟩
 rw[←hB0]at HS0
 clear hR hg1 hg2 hb1 hb2 hf1 hf2
 go_enter Tryz.func12,Tryz.ntmps12
 go_upto_region 1 with fail
 rw[←hX,←hB0]
 clear hX hB0
 obtain⟨c0,c1,c2,c3,c4,c5⟩:=HS0.out _ (Kept.refl X)
 by_cases h0:kd<0
 ·have hr:R=false:=by rw[HR.out,show decide (0≤kd∧kd≤5)=false from decide_eq_false (by omega)];rfl
  subst hr
  go_wp2_with fail
  go_ret
  exact⟨rfl,hK⟩
 by_cases h5:5<kd
 ·have hr:R=false:=by rw[HR.out,show decide (0≤kd∧kd≤5)=false from decide_eq_false (by omega)];rfl
  subst hr
  go_wp2_with fail
  go_ret
  exact⟨rfl,hK⟩
 have HK:=hidr (show 0≤kd∧kd≤5 from by omega)
 go_wp2_with fail
 refine(KG1.out _).mono ?_
 rintro e w1 ⟨rfl,k1⟩
 clear c0 c1 c2 c3 c4 c5
 obtain⟨c0,c1,c2,c3,c4,c5⟩:=HS0.out _ k1
 cases g1
 ·have hr:R=false:=by rw[HR.out];simp
  subst hr
  go_wp2_with fail
  go_ret
  exact⟨rfl,hK.trans k1⟩
 go_wp2_with fail
 refine(KG2.out _).mono ?_
 rintro e w2 ⟨rfl,k2⟩
 have k12:=k1.trans k2
 clear c0 c1 c2 c3 c4 c5 k1 k2
 obtain⟨c0,c1,c2,c3,c4,c5⟩:=HS0.out _ k12
 cases g2
 ·have hr:R=false:=by rw[HR.out];simp
  subst hr
  go_wp2_with fail
  go_ret
  exact⟨rfl,hK.trans k12⟩
 go_upto_region 5 with fail
 obtain⟨Y,hY⟩:∃Y,Y=w2.alloc (.cells #[.int .i64 wa,.int .i64 ev,.int .i64 tt] 3):=⟨_,rfl⟩
 obtain⟨g,hg⟩:∃g,g=w2.heap.size:=⟨_,rfl⟩
 have kY:Kept X Y:=by rw[hY];exact k12.alloc _ _
 have y0:Y.cell? ⟨g,0,none⟩=some (.int .i64 wa):=by rw[hY,hg];simp[go_sem]
 have y1:Y.cell? ⟨g,1,none⟩=some (.int .i64 ev):=by rw[hY,hg];simp[go_sem]
 have y2:Y.cell? ⟨g,2,none⟩=some (.int .i64 tt):=by rw[hY,hg];simp[go_sem]
 have hgl:g<Y.heap.size:=by rw[hY,hg];simp
 have HL:Hid (∀j x,(j=0∧x=wa∨j=1∧x=ev∨j=2∧x=tt)→∀u,Kept Y u→u.cell? ⟨g,j,none⟩=some (.int .i64 x)):=fun j x hj u k=>by
  rcases hj with ⟨rfl,rfl⟩|⟨rfl,rfl⟩|⟨rfl,rfl⟩
  ·exact(k.below.cell (p:=⟨g,0,none⟩) hgl).trans y0
  ·exact(k.below.cell (p:=⟨g,1,none⟩) hgl).trans y1
  ·exact(k.below.cell (p:=⟨g,2,none⟩) hgl).trans y2
 have HX:Hid (Kept w Y):=hK.trans kY
 have HS1:Hid (∀u,Kept Y u→_):=fun u k=>HS0.out u (kY.trans k)
 rw[←hY,←hg]
 clear hY hg y0 y1 y2 hgl k12 kY hK c0 c1 c2 c3 c4 c5 KG1 KG2 HS0
 go_wp2_with fail
 go_loopw [5] (fun iv wr=>∃i:Nat,i≤3∧iv=.int .i64 (i:Int)∧Kept Y wr∧(1≤i→cnt wa=true)∧(2≤i→cnt ev=true)∧(3≤i→cnt tt=true)) (fun iv _=>3-(intOf iv).toNat)
 case atStart=>exact⟨0,by omega,rfl,Kept.refl Y,fun h=>by omega,fun h=>by omega,fun h=>by omega⟩
 case round=>
  obtain⟨i,hi,rfl,kr,q1,q2,q3⟩:=hrel
  by_cases h3:i<3
  ·obtain⟨x,hx⟩:∃x,(i=0∧x=wa∨i=1∧x=ev∨i=2∧x=tt):=by
    have:i=0∨i=1∨i=2:=by omega
    rcases this with rfl|rfl|rfl
    ·exact⟨wa,.inl ⟨rfl,rfl⟩⟩
    ·exact⟨ev,.inr (.inl ⟨rfl,rfl⟩)⟩
    ·exact⟨tt,.inr (.inr ⟨rfl,rfl⟩)⟩
   have c:=HL.out i x hx wr kr
   have hi3:(i:Int)<3:=by omega
   have bad:cnt x=false→R=false:=fun h=>by
    rw[HR.out]
    rcases hx with ⟨-,rfl⟩|⟨-,rfl⟩|⟨-,rfl⟩<;>simp[h]
   have HBD:=hidr bad
   have good:cnt x=true→(1≤i+1→cnt wa=true)∧(2≤i+1→cnt ev=true)∧(3≤i+1→cnt tt=true):=fun h=>by
    rcases hx with ⟨rfl,rfl⟩|⟨rfl,rfl⟩|⟨rfl,rfl⟩
    ·exact⟨fun _=>h,fun h=>by omega,fun h=>by omega⟩
    ·exact⟨fun _=>q1 (by omega),fun _=>h,fun h=>by omega⟩
    ·exact⟨fun _=>q1 (by omega),fun _=>q2 (by omega),fun _=>h⟩
   have HGD:=hidr good
   clear bad good hx q1 q2 q3
   have z1:IntKind.i64.wrap ((i:Int)+1)=(i:Int)+1:=by rw[wrap_i64];omega
   by_cases hx0:x<0
   ·have hr:=HBD.out (decide_eq_false (by omega))
    subst hr
    go_wp2_with fail
    go_ret
    exact⟨rfl,HX.out.trans kr⟩
   ·by_cases hx1:(1099511627776:Int)<x
    ·have hr:=HBD.out (decide_eq_false (by omega))
     subst hr
     go_wp2_with fail
     go_ret
     exact⟨rfl,HX.out.trans kr⟩
    ·go_wp2_with fail
     go_roundw
     case rel=>exact⟨i+1,by omega,by go_num,kr,HGD.out (decide_eq_true (by omega))⟩
     case measure=>simp[intOf];omega
  ·obtain rfl:i=3:=by omega
   have t1:=q1 (by omega)
   have t2:=q2 (by omega)
   have t3:=q3 (by omega)
   have e1:=of_decide_eq_true (show decide (0≤ev∧ev≤1099511627776)=true from t2)
   have e2:=of_decide_eq_true (show decide (0≤tt∧tt≤1099511627776)=true from t3)
   have hr:R=cok kd ev tt:=by
    rw[HR.out,t1,t2,t3,show decide (0≤kd∧kd≤5)=true from decide_eq_true HK.out];simp
   have HRR:=hidr hr
   obtain⟨c0,c1,c2,c3,c4,c5⟩:=HS1.out _ kr
   have hkd:kd=0∨kd=1∨kd=2∨kd=3∨kd=4∨kd=5:=by have:=HK.out;omega
   clear q1 q2 q3 hr t1 t2 t3 h0 h5 h3 hi HK HR HL HS1
   rcases hkd with rfl|rfl|rfl|rfl|rfl|rfl
   ·rw [cok_0]at HRR
    by_cases a1:ev=0
    ·have a2:¬8<ev:=by omega
     by_cases a3:tt=0
     ·have hr2:R=true:=HRR.out.trans (rfl)
      clear HRR e1 e2
      subst hr2
      go_wp2_with fail
      go_ret
      exact⟨rfl,HX.out.trans kr⟩
     ·have hr2:R=true:=HRR.out.trans (rfl)
      clear HRR e1 e2
      subst hr2
      go_wp2_with fail
      go_ret
      exact⟨rfl,HX.out.trans kr⟩
    ·by_cases a2:8<ev
     ·by_cases a3:tt=0
      ·have hr2:R=true:=HRR.out.trans (rfl)
       clear HRR e1 e2
       subst hr2
       go_wp2_with fail
       go_ret
       exact⟨rfl,HX.out.trans kr⟩
      ·have hr2:R=true:=HRR.out.trans (rfl)
       clear HRR e1 e2
       subst hr2
       go_wp2_with fail
       go_ret
       exact⟨rfl,HX.out.trans kr⟩
     ·by_cases a3:tt=0
      ·have hr2:R=true:=HRR.out.trans (rfl)
       clear HRR e1 e2
       subst hr2
       go_wp2_with fail
       go_ret
       exact⟨rfl,HX.out.trans kr⟩
      ·have hr2:R=true:=HRR.out.trans (rfl)
       clear HRR e1 e2
       subst hr2
       go_wp2_with fail
       go_ret
       exact⟨rfl,HX.out.trans kr⟩
   ·rw [cok_1]at HRR
    by_cases a1:ev=0
    ·have a2:¬8<ev:=by omega
     by_cases a3:tt=0
     ·have hr2:R=false:=HRR.out.trans (decide_eq_false (by omega))
      clear HRR e1 e2
      subst hr2
      go_wp2_with fail
      go_ret
      exact⟨rfl,HX.out.trans kr⟩
     ·have hr2:R=false:=HRR.out.trans (decide_eq_false (by omega))
      clear HRR e1 e2
      subst hr2
      go_wp2_with fail
      go_ret
      exact⟨rfl,HX.out.trans kr⟩
    ·by_cases a2:8<ev
     ·by_cases a3:tt=0
      ·have hr2:R=true:=HRR.out.trans (decide_eq_true (by omega))
       clear HRR e1 e2
       subst hr2
       go_wp2_with fail
       go_ret
       exact⟨rfl,HX.out.trans kr⟩
      ·have hr2:R=true:=HRR.out.trans (decide_eq_true (by omega))
       clear HRR e1 e2
       subst hr2
       go_wp2_with fail
       go_ret
       exact⟨rfl,HX.out.trans kr⟩
     ·by_cases a3:tt=0
      ·have hr2:R=true:=HRR.out.trans (decide_eq_true (by omega))
       clear HRR e1 e2
       subst hr2
       go_wp2_with fail
       go_ret
       exact⟨rfl,HX.out.trans kr⟩
      ·have hr2:R=true:=HRR.out.trans (decide_eq_true (by omega))
       clear HRR e1 e2
       subst hr2
       go_wp2_with fail
       go_ret
       exact⟨rfl,HX.out.trans kr⟩
   ·rw [cok_2]at HRR
    by_cases a1:ev=0
    ·have a2:¬8<ev:=by omega
     by_cases a3:tt=0
     ·have hr2:R=false:=HRR.out.trans (decide_eq_false (by omega))
      clear HRR e1 e2
      subst hr2
      go_wp2_with fail
      go_ret
      exact⟨rfl,HX.out.trans kr⟩
     ·have hr2:R=true:=HRR.out.trans (decide_eq_true (by omega))
      clear HRR e1 e2
      subst hr2
      go_wp2_with fail
      go_ret
      exact⟨rfl,HX.out.trans kr⟩
    ·by_cases a2:8<ev
     ·by_cases a3:tt=0
      ·have hr2:R=false:=HRR.out.trans (decide_eq_false (by omega))
       clear HRR e1 e2
       subst hr2
       go_wp2_with fail
       go_ret
       exact⟨rfl,HX.out.trans kr⟩
      ·have hr2:R=true:=HRR.out.trans (decide_eq_true (by omega))
       clear HRR e1 e2
       subst hr2
       go_wp2_with fail
       go_ret
       exact⟨rfl,HX.out.trans kr⟩
     ·by_cases a3:tt=0
      ·have hr2:R=false:=HRR.out.trans (decide_eq_false (by omega))
       clear HRR e1 e2
       subst hr2
       go_wp2_with fail
       go_ret
       exact⟨rfl,HX.out.trans kr⟩
      ·have hr2:R=true:=HRR.out.trans (decide_eq_true (by omega))
       clear HRR e1 e2
       subst hr2
       go_wp2_with fail
       go_ret
       exact⟨rfl,HX.out.trans kr⟩
   ·rw [cok_3]at HRR
    by_cases a1:ev=0
    ·have a2:¬8<ev:=by omega
     by_cases a3:tt=0
     ·have hr2:R=false:=HRR.out.trans (decide_eq_false (by omega))
      clear HRR e1 e2
      subst hr2
      go_wp2_with fail
      go_ret
      exact⟨rfl,HX.out.trans kr⟩
     ·have hr2:R=false:=HRR.out.trans (decide_eq_false (by omega))
      clear HRR e1 e2
      subst hr2
      go_wp2_with fail
      go_ret
      exact⟨rfl,HX.out.trans kr⟩
    ·by_cases a2:8<ev
     ·by_cases a3:tt=0
      ·have hr2:R=true:=HRR.out.trans (decide_eq_true (by omega))
       clear HRR e1 e2
       subst hr2
       go_wp2_with fail
       go_ret
       exact⟨rfl,HX.out.trans kr⟩
      ·have hr2:R=true:=HRR.out.trans (decide_eq_true (by omega))
       clear HRR e1 e2
       subst hr2
       go_wp2_with fail
       go_ret
       exact⟨rfl,HX.out.trans kr⟩
     ·by_cases a3:tt=0
      ·have hr2:R=true:=HRR.out.trans (decide_eq_true (by omega))
       clear HRR e1 e2
       subst hr2
       go_wp2_with fail
       go_ret
       exact⟨rfl,HX.out.trans kr⟩
      ·have hr2:R=true:=HRR.out.trans (decide_eq_true (by omega))
       clear HRR e1 e2
       subst hr2
       go_wp2_with fail
       go_ret
       exact⟨rfl,HX.out.trans kr⟩
   ·rw [cok_4]at HRR
    by_cases a1:ev=0
    ·have a2:¬8<ev:=by omega
     by_cases a3:tt=0
     ·have hr2:R=false:=HRR.out.trans (decide_eq_false (by omega))
      clear HRR e1 e2
      subst hr2
      go_wp2_with fail
      go_ret
      exact⟨rfl,HX.out.trans kr⟩
     ·have hr2:R=false:=HRR.out.trans (decide_eq_false (by omega))
      clear HRR e1 e2
      subst hr2
      go_wp2_with fail
      go_ret
      exact⟨rfl,HX.out.trans kr⟩
    ·by_cases a2:8<ev
     ·by_cases a3:tt=0
      ·have hr2:R=true:=HRR.out.trans (decide_eq_true (by omega))
       clear HRR e1 e2
       subst hr2
       go_wp2_with fail
       go_ret
       exact⟨rfl,HX.out.trans kr⟩
      ·have hr2:R=true:=HRR.out.trans (decide_eq_true (by omega))
       clear HRR e1 e2
       subst hr2
       go_wp2_with fail
       go_ret
       exact⟨rfl,HX.out.trans kr⟩
     ·by_cases a3:tt=0
      ·have hr2:R=true:=HRR.out.trans (decide_eq_true (by omega))
       clear HRR e1 e2
       subst hr2
       go_wp2_with fail
       go_ret
       exact⟨rfl,HX.out.trans kr⟩
      ·have hr2:R=true:=HRR.out.trans (decide_eq_true (by omega))
       clear HRR e1 e2
       subst hr2
       go_wp2_with fail
       go_ret
       exact⟨rfl,HX.out.trans kr⟩
   ·rw [cok_5]at HRR
    by_cases a1:ev=0
    ·have a2:¬8<ev:=by omega
     by_cases a3:tt=0
     ·have hr2:R=false:=HRR.out.trans (by simp;omega)
      clear HRR e1 e2
      subst hr2
      go_wp2_with fail
      go_ret
      exact⟨rfl,HX.out.trans kr⟩
     ·have hr2:R=false:=HRR.out.trans (by simp;omega)
      clear HRR e1 e2
      subst hr2
      go_wp2_with fail
      go_ret
      exact⟨rfl,HX.out.trans kr⟩
    ·by_cases a2:8<ev
     ·by_cases a3:tt=0
      ·have hr2:R=false:=HRR.out.trans (by simp;omega)
       clear HRR e1 e2
       subst hr2
       go_wp2_with fail
       go_ret
       exact⟨rfl,HX.out.trans kr⟩
      ·have hr2:R=false:=HRR.out.trans (by simp;omega)
       clear HRR e1 e2
       subst hr2
       go_wp2_with fail
       go_ret
       exact⟨rfl,HX.out.trans kr⟩
     ·by_cases a3:tt=0
      ·have hr2:R=false:=HRR.out.trans (by simp;omega)
       clear HRR e1 e2
       subst hr2
       go_wp2_with fail
       go_ret
       exact⟨rfl,HX.out.trans kr⟩
      ·have hr2:R=true:=HRR.out.trans (by simp;omega)
       clear HRR e1 e2
       subst hr2
       go_wp2_with fail
       go_ret
       exact⟨rfl,HX.out.trans kr⟩
end Go.Proofs.YtnniljhdcplkgaaGreatDoor

namespace Go.Proofs.YtnniljhdcplkgaaGreatDoor
open Go
set_option maxHeartbeats 16000000
set_option maxRecDepth 100000
set_option linter.unusedVariables false
section
variable {P:Program} {ops:Array Oper} {Q:Exit→Act→World→Prop} {md:Region.Mode} {S T:World→Prop} {D:List Nat}
def anyL (D:List Nat)(listed:Array Bool):Bool:=D.any fun j=>listed.getD j false
def wpAnyT (P:Program)(md:Region.Mode)(ops:Array Oper)(Q:Exit→Act→World→Prop)(S T:World→Prop)(D:List Nat):Nat→Array Bool→Act→World→Prop
 |0,listed,a,w=>Region.ready md ops listed=[]∧Q .normal a w
 |fuel+1,listed,a,w=>
  (Region.ready md ops listed=[]→Q .normal a w)∧
  ∀i∈Region.ready md ops listed,wpOp P ops Q i (fun a' w'=>((anyL D (listed.setIfInBounds i true)=false→S w')∧T w')∧wpAnyT P md ops Q S T D fuel (listed.setIfInBounds i true) a' w') a w
theorem wpAny_of_lateT:∀(fuel:Nat) (listed:Array Bool) (a:Act) (w:World),wpAnyT P md ops Q S T D fuel listed a w→wpAny P md ops Q fuel listed a w
 |0,_,_,_,h=>h
 |fuel+1,_,_,_,h=>⟨h.1,fun i hi=>wpOp_mono (fun a' w' h'=>wpAny_of_lateT fuel _ a' w' h'.2) (h.2 i hi)⟩
theorem getD_set_f {listed:Array Bool}{i k:Nat}(h:i≠k):(listed.setIfInBounds i true).getD k false=listed.getD k false:=by
 simp[Array.getElem?_setIfInBounds_ne h]
theorem anyL_mono {listed:Array Bool}{i:Nat}(h:anyL D (listed.setIfInBounds i true)=false):anyL D listed=false:=by
 unfold anyL at *
 rw[List.any_eq_false]at *
 intro k hk hc
 refine h k hk ?_
 by_cases hik:i=k
 ·subst hik
  rcases Nat.lt_or_ge i listed.size with h'|h'
  ·simp[h']
  ·simp[Array.getElem?_eq_none h']at hc
 ·rw[getD_set_f hik];exact hc
theorem anyL_ne {listed:Array Bool}{i j:Nat}(hi:D.contains i=false)(hij:j≠i)(h:anyL D (listed.setIfInBounds j true)=false):anyL D ((listed.setIfInBounds i true).setIfInBounds j true)=false:=by
 unfold anyL at *
 rw[List.any_eq_false]at *
 intro k hk hc
 have hik:i≠k:=fun e=>by
  subst e
  have:D.contains i=true:=by simpa using hk
  rw[this]at hi
  cases hi
 refine h k hk ?_
 rw[Array.setIfInBounds_comm _ _ (Ne.symm hij),getD_set_f hik]at hc
 exact hc
theorem wpAnyT_any {i:Nat}{oi:Oper}{v:Value}(hi:ops[i]?=some oi)(hsel:∀(j:Nat) (o:Oper) cs b,ops[j]?=some o→o.op≠.select cs b)
  (hQ:∀c a w,Q (.panic c) (a.put oi.dst v) w→Q (.panic c) a w) (hDi:D.contains i=false):
  ∀(fuel:Nat) (listed:Array Bool) (a:Act) (w:World),
   (∀j oj,ops[j]?=some oj→j≠i→listed.getD j true=false→(∀e∈oj.after,Region.binds md e=true→e.on≠i)→oi.apart ops oj=true)→
   i∈Region.ready md ops listed→YieldsIf P ops T oi v a→(anyL D listed=false→S w)→T w→
   wpAnyT P md ops Q S T D fuel (listed.setIfInBounds i true) (a.put oi.dst v) w→wpAnyT P md ops Q S T D (fuel+1) listed a w:=by
 intro fuel
 induction fuel with
 | zero=>
  intro listed a w _ hr hy hS hTw H
  refine⟨fun h=>(by rw[h]at hr;cases hr),fun j hj=>?_⟩
  by_cases hji:j=i
  ·subst hji;exact hy.wpOp hi hTw ⟨⟨fun h=>hS (anyL_mono h),hTw⟩,H⟩
  ·have:=ready_mono hj hji
   rw[H.1]at this
   cases this
 | succ fuel ih=>
  intro listed a w hfree hr hy hS hTw H
  refine⟨fun h=>(by rw[h]at hr;cases hr),fun j hj=>?_⟩
  by_cases hji:j=i
  ·subst hji;exact hy.wpOp hi hTw ⟨⟨fun h=>hS (anyL_mono h),hTw⟩,H⟩
  ·have h1:=H.2 j (ready_mono hj hji)
   obtain⟨hjun,oj,hoj,hall⟩:=mem_ready.1 hj
   have hnot:∀e∈oj.after,Region.binds md e=true→e.on≠i:=fun e he hb heq=>by
    have h1:=hall e he hb
    rw[heq]at h1
    exact getD_ff (mem_ready.1 hr).1 h1
   have h2:=wpOp_putIf hoj (hfree j oj hoj hji hjun hnot) (fun cs b=>hsel i oi cs b hi) (fun cs b=>hsel j oj cs b hoj) hQ hy h1
   have hfree':∀k ok,ops[k]?=some ok→k≠i→(listed.setIfInBounds j true).getD k true=false→
     (∀e∈ok.after,Region.binds md e=true→e.on≠i)→oi.apart ops ok=true:=fun k ok hk hki hun hno=>by
    refine hfree k ok hk hki ?_ hno
    by_cases hjk:j=k
    ·subst hjk;exact hjun
    ·rw[getD_set_ne true hjk]at hun;exact hun
   refine wpOp_mono (fun a' w' h3=>⟨⟨fun h=>h3.2.1.1 (anyL_ne hDi hji h),h3.2.1.2⟩,ih (listed.setIfInBounds j true) a' w' hfree' (ready_mono hr (Ne.symm hji)) h3.1 (fun h=>h3.2.1.1 (anyL_ne hDi hji h)) h3.2.1.2 ?_⟩) h2
   rw[Array.setIfInBounds_comm _ _ hji]
   exact h3.2.2
theorem wpAnyT_take2 {i:Nat}{oi:Oper}{v:Value}{fuel:Nat}{listed:Array Bool}{a:Act}{w:World}(hi:ops[i]?=some oi)
  (hs:Region.noSelect ops=true) (hf:Region.free md ops listed i=true) (hr:(Region.ready md ops listed).contains i=true) (hd:D.contains i=false)
  (hQ:∀c a w,Q (.panic c) (a.put oi.dst v) w→Q (.panic c) a w) (hy:YieldsIf P ops T oi v a) (hS:anyL D listed=false→S w) (hT:T w)
  (h:wpAnyT P md ops Q S T D fuel (listed.setIfInBounds i true) (a.put oi.dst v) w):wpAnyT P md ops Q S T D (fuel+1) listed a w:=
 wpAnyT_any hi (Region.noSelect_spec hs) hQ hd fuel listed a w (Region.free_spec hi hf) (by simpa using hr) hy hS hT h
theorem wpAnyT_late {i:Nat}{o:Oper}{fuel:Nat}{listed:Array Bool}{a:Act}{w:World}(hr:Region.ready md ops listed=[i])(ho:ops[i]?=some o)(hd:anyL D (listed.setIfInBounds i true)=true)
  (h:∀K':Act→World→Prop,Shut (∀a w,T w→(T w→wpAnyT P md ops Q S T D fuel (listed.setIfInBounds i true) a w)→K' a w)→if Region.wanted o (yielded ops a.tmps)=true then Oper.wp P o a w K' Q else K' (a.put o.dst undef) w):
  wpAnyT P md ops Q S T D (fuel+1) listed a w:=by
 refine⟨fun h0=>(by rw[h0]at hr;cases hr),fun j hj=>?_⟩
 rw[hr]at hj
 obtain rfl:=List.mem_singleton.1 hj
 exact wpOp_step ho (fun K' hK=>h K' (fun a w hT hW=>hK a w ⟨⟨fun hc=>(by rw[hd]at hc;cases hc),hT⟩,hW hT⟩))
theorem wpAnyT_done {listed:Array Bool}{a:Act}{w:World}(hr:Region.ready md ops listed=[])(h:Q .normal a w):
  ∀fuel,wpAnyT P md ops Q S T D fuel listed a w
 |0=>⟨hr,h⟩
 |_+1=>⟨fun _=>h,by rw[hr];simp⟩
theorem wp_region_lateT {id:Nat}{a:Act}{w:World}(D:List Nat)(S T:World→Prop)(hm:P.follows .mixedOrders=true)(hS:S w.drew)(hT:T w.drew)
  (h:S w.drew→T w.drew→wpAnyT P .any ops Q S T D ops.size (Array.replicate ops.size false) a w.drew):(Code.region id ops true).wp P Q a w:=
 wp_region_any hm (wpAny_of_lateT _ _ _ _ (h hS hT))
end
theorem tkU {P:Program}{ops:Array Oper}{Q:Exit→Act→World→Prop}{md:Region.Mode}{S T:World→Prop}{D:List Nat}{i:Nat}{oi:Oper}{v:Value}{fuel:Nat}{listed:Array Bool}{a:Act}{w:World}(hi:ops[i]?=some oi)(hS:anyL D listed=false→S w)(hT:T w)(h:wpAnyT P md ops Q S T D fuel (listed.setIfInBounds i true) (a.put oi.dst v) w)(hy:YieldsIf P ops T oi v a:=by exact .inl ⟨by rfl,by(intro w hSw;(try dsimp only at hSw);go_simp;try (with_reducible rfl))⟩)(hs:Region.noSelect ops=true:=by kernel_rfl)(hf:Region.free md ops listed i=true:=by kernel_rfl)(hr:(Region.ready md ops listed).contains i=true:=by kernel_rfl)(hd:D.contains i=false:=by kernel_rfl)(hQ:∀c a w,Q (.panic c) (a.put oi.dst v) w→Q (.panic c) a w:=by exact fun _ _ _ h=>h):wpAnyT P md ops Q S T D (fuel+1) listed a w:=wpAnyT_take2 hi hs hf hr hd hQ hy hS hT h
end Go.Proofs.YtnniljhdcplkgaaGreatDoor

namespace Go.Proofs.YtnniljhdcplkgaaGreatDoor
open Go
set_option maxHeartbeats 16000000
set_option maxRecDepth 100000
set_option linter.unusedVariables false
section
variable {P:Program} {ops:Array Oper} {Q:Exit→Act→World→Prop} {md:Region.Mode} {S T:World→Prop} {D:List Nat}
abbrev NextT (P:Program)(md:Region.Mode)(ops:Array Oper)(Q:Exit→Act→World→Prop)(S T:World→Prop)(D:List Nat)(fuel:Nat)(listed:Array Bool)(a:Act)(w:World)(i:Nat)(o:Oper):Prop:=
 ∀K':Act→World→Prop,Shut (∀a w,S w→T w→(S w→T w→wpAnyT P md ops Q S T D fuel (listed.setIfInBounds i true) a w)→K' a w)→if Region.wanted o (yielded ops a.tmps)=true then Oper.wp P o a w K' Q else K' (a.put o.dst undef) w
theorem wpAnyT_two {i j:Nat}{o o':Oper}{fuel:Nat}{listed:Array Bool}{a:Act}{w:World}(hr:Region.ready md ops listed=[i,j])(ho:ops[i]?=some o)(ho':ops[j]?=some o')
  (h:NextT P md ops Q S T D fuel listed a w i o) (h':NextT P md ops Q S T D fuel listed a w j o'):
  wpAnyT P md ops Q S T D (fuel+1) listed a w:=by
 refine⟨fun h0=>(by rw[h0]at hr;cases hr),fun k hk=>?_⟩
 rw[hr]at hk
 rcases List.mem_cons.1 hk with rfl|hk
 ·exact wpOp_step ho (fun K' hK=>h K' (fun a w hS hT hW=>hK a w ⟨⟨fun _=>hS,hT⟩,hW hS hT⟩))
 ·obtain rfl:=List.mem_singleton.1 hk
  exact wpOp_step ho' (fun K' hK=>h' K' (fun a w hS hT hW=>hK a w ⟨⟨fun _=>hS,hT⟩,hW hS hT⟩))
theorem wpAnyT_three {i j m:Nat}{o o' o'':Oper}{fuel:Nat}{listed:Array Bool}{a:Act}{w:World}(hr:Region.ready md ops listed=[i,j,m])(ho:ops[i]?=some o)(ho':ops[j]?=some o')(ho'':ops[m]?=some o'')
  (h:NextT P md ops Q S T D fuel listed a w i o) (h':NextT P md ops Q S T D fuel listed a w j o') (h'':NextT P md ops Q S T D fuel listed a w m o''):
  wpAnyT P md ops Q S T D (fuel+1) listed a w:=by
 refine⟨fun h0=>(by rw[h0]at hr;cases hr),fun k hk=>?_⟩
 rw[hr]at hk
 rcases List.mem_cons.1 hk with rfl|hk
 ·exact wpOp_step ho (fun K' hK=>h K' (fun a w hS hT hW=>hK a w ⟨⟨fun _=>hS,hT⟩,hW hS hT⟩))
 ·rcases List.mem_cons.1 hk with rfl|hk
  ·exact wpOp_step ho' (fun K' hK=>h' K' (fun a w hS hT hW=>hK a w ⟨⟨fun _=>hS,hT⟩,hW hS hT⟩))
  ·obtain rfl:=List.mem_singleton.1 hk
   exact wpOp_step ho'' (fun K' hK=>h'' K' (fun a w hS hT hW=>hK a w ⟨⟨fun _=>hS,hT⟩,hW hS hT⟩))
theorem wpAnyT_one {i:Nat}{o:Oper}{fuel:Nat}{listed:Array Bool}{a:Act}{w:World}(hr:Region.ready md ops listed=[i])(ho:ops[i]?=some o)(h:NextT P md ops Q S T D fuel listed a w i o):
  wpAnyT P md ops Q S T D (fuel+1) listed a w:=by
 refine⟨fun h0=>(by rw[h0]at hr;cases hr),fun k hk=>?_⟩
 rw[hr]at hk
 obtain rfl:=List.mem_singleton.1 hk
 exact wpOp_step ho (fun K' hK=>h K' (fun a w hS hT hW=>hK a w ⟨⟨fun _=>hS,hT⟩,hW hS hT⟩))
end
end Go.Proofs.YtnniljhdcplkgaaGreatDoor
