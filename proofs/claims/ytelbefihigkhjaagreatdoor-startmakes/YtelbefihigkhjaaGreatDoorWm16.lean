/-  -/
import Derived.Test.YtelbefihigkhjaaGreatDoorWm15
import Derived.Deep.CutBlock
import Derived.Test.YtelbefihigkhjaaGreatDoorWm10
import Derived.Test.YtelbefihigkhjaaGreatDoorWm09
import Derived.BigRegion
namespace Go.Proofs.YtelbefihigkhjaaGreatDoor
open Go.ChangeShapes Go.WideShapes Go.ChangeAt Go.RowKit
set_option maxHeartbeats 16000000
set_option maxRecDepth 100000
set_option linter.unusedVariables false
set_option linter.unusedSimpArgs false
theorem Yo (way:Int)(hw:way=0∨way=1∨way=2)(ng:Bool)(V:Nat)(hV:V≠0)(x:Int)(more:Bool)(va:Value)(w:World)(hL:RL w va (digs V))(hlen:(digs V).length<30000)(hx1:-10000000≤x)(hx2:x≤10000000)(u:Int)(hu:unz 24 (-149) (bl V) x=u)(k:Nat)(hk:flo V (x-u)=k)(F:Nat)(hF:F=(u-(-149)).toNat*8388608+k)(od hf rt:Bool)(hod:od=decide (k%2=1))(hhf:hf=decide (flo V (x-u+1)%2=1))(hrt:rt=(more||rst V (x-u+1)))(sg:Int)(hsg:sg=if ng=true then 2147483648 else 0):
  Calls Tryz.prog 121 #[.agg #[.int .i64 32,.int .i64 24,.int .i64 8388608,.int .i64 255,.int .i64 (-149),.int .i64 128,.int .i64 2139095040,.int .i64 2147483648,.int .i64 2143289345],.bool ng,va,.int .i64 x,.bool more,.int .i64 way] w fun e w'=>e=.returned (.tuple #[.int .i64 (sg+(mgz way ng 2139095040 F od hf rt:Nat)),.bool (odz way ng 2139095040 F od hf rt)])∧Kept w w':=by
 obtain⟨hk2,hs,hlu,huu⟩:=QN V hV x u hu k hk
 have hT9:bl V≤900000:=by
  have:=qN V (30*(digs V).length) (qM V _ (qlj _))
  omega
 have hub:-2000≤u∧u≤30000000:=by omega
 have Hs2:Hid (u=-149∨8388608≤k):=hs
 obtain⟨low,hlow⟩:∃low,low=u-x:=⟨_,rfl⟩
 obtain⟨a,ha⟩:∃a:Nat,a=(awz way ng od hf rt).toNat:=⟨_,rfl⟩
 have ha1:a≤1:=by rw[ha];cases awz way ng od hf rt<;>decide
 have hov:=qfo u k a F ha1 hk2 hlu hs hF
 have hFa:((F+a:Nat):Int)=(u+149)*8388608+((k+a:Nat):Int):=by rw[hF];omega
 have KB:Hid (∀v,Kept w v→Calls Tryz.prog 118 #[va] v fun e w'=>e=.returned (.int .i64 (bl V:Int))∧v=w'):=fun v kv=>ze v V va (hL.kept kv) (by omega)
 have KR:Hid (∀v,Kept w v→∀s:Nat,s<100000000→Calls Tryz.prog 195 #[va,.int .i64 (s:Int)] v fun e w'=>(∃r,e=.returned r∧RL w' r (digs (V/2^s)))∧Kept v w'):=fun v kv s hs=>by
  refine(xp v (digs V) s va (hL.kept kv) (qL V) (by omega) hs).mono ?_
  rintro e w' ⟨⟨r,rfl,hr⟩,hk⟩
  rw[qC]at hr
  exact⟨⟨r,rfl,hr.rl⟩,hk⟩
 have KLf:Hid (∀v,Kept w v→∀s:Nat,s<10000000→Calls Tryz.prog 117 #[va,.int .i64 (s:Int)] v fun e w'=>(∃r,e=.returned r∧RL w' r (digs (V*2^s)))∧Kept v w'):=fun v kv s hs=>by
  refine(zo v V s va (hL.kept kv) (by omega) hs).mono ?_
  rintro e w' ⟨⟨r,rfl,hr⟩,hk⟩
  exact⟨⟨r,rfl,hr.rl⟩,hk⟩
 have hhf':JH V (low-1)=hf:=by rw[JI,hhf,hlow,show 1-(u-x)=x-u+1 by omega]
 have KH:Hid (∀v,Kept w v→Calls Tryz.prog 198 #[va,.int .i64 (low-1)] v fun e w'=>e=.returned (.bool hf)∧Kept v w'):=fun v kv=>by
  have:=vB v V va (hL.kept kv) (by omega) (low-1) (by omega) (by omega)
  rw[hhf']at this
  exact this
 have KL:Hid (∀v,Kept w v→Calls Tryz.prog 201 #[va] v fun e w'=>e=.returned (.int .i64 (tzn V:Int))∧v=w'):=fun v kv=>by
  have:=vK v va (digs V) (hL.kept kv) (qL V) (by omega)
  rw[qC,yL,if_neg hV]at this
  exact this
 have hrt':rt=(more||decide (0<low-1∧(tzn V:Int)<low-1)):=by rw[hrt,←JJ V hV low,hlow,show 1-(u-x)=x-u+1 by omega]
 have hbp:=(qu V hV).2.2
 have HKR:Hid (0≤low→V/2^low.toNat=k):=fun g=>by rw[hlow]at g ⊢;rw[JK V x u g];exact hk
 have HKL:Hid (low<0→V*2^(-low).toNat=k):=fun g=>by rw[hlow]at g ⊢;rw[JL V x u g];exact hk
 have HT:Hid (unz 24 (-149) (bl V) x=u):=hu
 have htz:tzn V<100000000:=by
  obtain⟨o,ho,hVo⟩:=zR V hV
  have h1:2^tzn V≤V:=by
   have:=Nat.le_mul_of_pos_left (2^tzn V) (show 0<o by omega)
   omega
  have h2:=Ql V
  have h3:2^tzn V<2^bl V:=by omega
  have:=(Nat.pow_lt_pow_iff_right (show 1<2 by omega)).1 h3
  omega
 generalize bl V=T at *
 generalize tzn V=tz at *
 have hmax:max ((T:Int)+x-24) (-149)=u:=by have:=HT.out;unfold unz at this;omega
 obtain⟨X,hX⟩:∃X,X=w.alloc (.cells #[.int .i64 32,.int .i64 24,.int .i64 8388608,.int .i64 255,.int .i64 (-149),.int .i64 128,.int .i64 2139095040,.int .i64 2147483648,.int .i64 2143289345] 136):=⟨_,rfl⟩
 have hKX:Kept w X:=by rw[hX];exact(qlv w).alloc _ _
 have h9:K9 X w.heap.size (.int .i64 32) (.int .i64 24) (.int .i64 8388608) (.int .i64 255) (.int .i64 (-149)) (.int .i64 128) (.int .i64 2139095040) (.int .i64 2147483648) (.int .i64 2143289345):=by rw[hX];exact K9.new w _ _ _ _ _ _ _ _ _ _
 clear hu hk hF hhf hrt hhf' hL hV hs huu
 have Hw:Hid (way=0∨way=1∨way=2):=hw
 clear hw
 have Hhov:Hid _:=hov
 have HFa:Hid _:=hFa
 have Hhrt:Hid _:=hrt'
 have Hod:Hid _:=hod
 have Ha:Hid _:=ha
 clear hov hFa hrt' hod ha
 go_enter Tryz.func121,Tryz.ntmps121
 go_upto_if 27 with fail
 rw[←hX]
 clear hX
 go_cut [14]from 27 (fun t wx=>t=.int .i64 sg∧wx=X)
 case first=>
  obtain⟨-,g0,g1,g2,g3,g4,g5,g6,g7,g8⟩:=h9
  cases ng
  all_goals
   go_wp2_with fail
   go_meet
   exact⟨by rw[hsg];rfl,rfl⟩
 case rest=>
 obtain⟨rfl,hwc⟩:=hcut
 obtain rfl:X=wc:=hwc.symm
 have Hsg:Hid (sg=if ng=true then 2147483648 else 0):=hsg
 clear hsg
 have h9':=h9
 obtain⟨-,g0,g1,g2,g3,g4,g5,g6,g7,g8⟩:=h9'
 have hT0:¬(T:Int)=0:=by omega
 have hTb:((T:Int)==0)=false:=by simp;omega
 go_upto_region 7 with (first|(go_at_call 118;refine(KB.out _ hKX).mono ?_;rintro e w1 ⟨rfl,rfl⟩))
 clear hTb
 go_upto_region 8 with fail
 clear g0 g1 g2 g3 g4 g5 g6 g7 g8
 rw[←hlow]
 have Hlx:Hid (low+x=u):=by
  show low+x=u
  omega
 have hlb:-100≤low∧low≤30000000:=by omega
 obtain⟨s,hs0⟩:∃s:Nat,max low 0=(s:Int):=⟨(max low 0).toNat,by omega⟩
 have hs9:s<100000000:=by omega
 have Hs:Hid (low<0∨low.toNat=s):=by
  show low<0∨low.toNat=s
  omega
 clear hlow hmax hx1 hx2
 go_upto_region 9 with (first|(go_at_call 195;refine(KR.out _ hKX s hs9).mono ?_;rintro e w1 ⟨⟨r1,rfl,hr1⟩,k1⟩))
 clear hs0
 go_upto_if 55 with fail
 go_cut [17]from 54 (fun t wx=>RL wx t (digs k)∧Kept w1 wx)
 case first=>
  by_cases hneg:low<0
  ·obtain⟨s2,hs2⟩:∃s2:Nat,-low=(s2:Int):=⟨(-low).toNat,by omega⟩
   have h2:s2<10000000:=by omega
   have HE:Hid (V*2^s2=k):=by
    have:=HKL.out hneg
    rw[show(-low).toNat=s2 by omega]at this
    exact this
   go_wp2_with (first|(go_at_call 117;refine(KLf.out _ (hKX.trans k1) s2 h2).mono ?_;rintro e w2 ⟨⟨r2,rfl,hr2⟩,k2⟩))
   go_meet
   rw[HE.out]at hr2
   exact⟨hr2,k2⟩
  ·have HE:Hid (V/2^s=k):=by
    have:=HKR.out (by omega)
    rw[show low.toNat=s by have:=Hs.out;omega]at this
    exact this
   go_wp2_with fail
   go_meet
   rw[HE.out]at hr1
   exact⟨hr1,qlv _⟩
 case rest=>
 obtain⟨hr,k2⟩:=hcut
 rename World=>w2
 have kx:=k1.trans k2
 clear k1 k2 hr1 HKR HKL KR KLf KB Hs hs9
 go_upto_region 12 with (first|(go_at_call 198;refine(KH.out _ (hKX.trans kx)).mono ?_;rintro e w3 ⟨rfl,k3⟩))
 replace hr:=hr.kept k3
 replace kx:=kx.trans k3
 clear k3 KH
 go_cut [19]from 64 (fun t wx=>t=.bool rt∧wx=w3)
 case first=>
  have hrt:=Hhrt.out
  cases more
  ·by_cases h1:0<low-1
   ·by_cases h2:(tz:Int)<low-1
    ·have hz:0≤(tz:Int):=by omega
     have Hrt:Hid (rt=true):=by show rt=true;rw[hrt,qln ⟨h1,h2⟩];rfl
     clear hrt
     go_wp2_with (first|(go_at_call 201;refine(KL.out _ (hKX.trans kx)).mono ?_;rintro e w4 ⟨rfl,rfl⟩))
     go_meet
     exact⟨by rw[Hrt.out]<;>simp[*],rfl⟩
    ·have hz:0≤(tz:Int):=by omega
     have Hrt:Hid (rt=false):=by show rt=false;rw[hrt,qlo (fun g=>h2 g.2)];rfl
     clear hrt
     go_wp2_with (first|(go_at_call 201;refine(KL.out _ (hKX.trans kx)).mono ?_;rintro e w4 ⟨rfl,rfl⟩))
     go_meet
     exact⟨by rw[Hrt.out]<;>simp[*],rfl⟩
   ·have Hrt:Hid (rt=false):=by show rt=false;rw[hrt,qlo (fun g=>h1 g.1)];rfl
    clear hrt
    go_wp2_with fail
    go_meet
    exact⟨by rw[Hrt.out]<;>simp[*],rfl⟩
  ·have Hrt:Hid (rt=true):=by show rt=true;rw[hrt];rfl
   clear hrt
   go_wp2_with fail
   go_meet
   exact⟨by rw[Hrt.out]<;>simp[*],rfl⟩
 case rest=>
 obtain⟨rfl,hwc⟩:=hcut
 obtain rfl:w3=wc:=hwc.symm
 clear KL Hhrt hlb htz
 obtain⟨ao,cc,rfl,-,hat⟩:=hr.at
 have HA:Hid (∀i,i<(digs k).length→∃b off,ao=some ⟨b,off,none⟩∧w3.cell? ⟨b,off+i,none⟩=some (.int .i64 ((digs k).getD i 0))):=(hat w3 (qlv w3)).2
 have HZ:Hid (k/2^(30*(digs k).length)=0):=Nat.div_eq_of_lt (qM k _ (qlj _))
 have HXA:Hid (∀i,(digs k).getD i 0=((k/2^(30*i)%1073741824:Nat):Int)):=zX k
 have hl9:(digs k).length≤3:=ql k 3 (qlf hk2 (by decide+kernel))
 clear hr hat
 generalize (digs k).length=n at *
 go_upto_region 15 with fail
 go_loopw [20,21] (fun mv iv wr=>∃i m:Nat,i≤n∧iv=.int .i64 ((i:Int)-1)∧mv=.int .i64 (m:Int)∧m=k/2^(30*i)∧w3=wr) (fun _ iv _=>(intOf iv+1).toNat)
 case atStart=>exact⟨n,0,qlj _,by first|rfl|(congr 1;omega),rfl,HZ.out.symm,rfl⟩
 case round=>
  obtain⟨i,m,hi,rfl,rfl,hm,rfl⟩:=hrel
  rcases i with _|i
  ·rw [Nat.mul_zero,Nat.pow_zero,Nat.div_one]at hm
   have hm':k=m:=hm.symm
   subst hm'
   clear HA HZ HXA
   obtain⟨ox,hox⟩:∃ox,ox=(hf||rt):=⟨_,rfl⟩
   obtain⟨aw,haw⟩:∃aw,aw=awz way ng od hf rt:=⟨_,rfl⟩
   have Hox:Hid (ox=(hf||rt)):=hox
   have Haw:Hid (aw=awz way ng od hf rt):=haw
   clear hox haw
   go_upto_region 18 with fail
   go_cut [22]from 96 (fun t wx=>t=.bool ox∧wx=w3)
   case first=>
    have hox:=Hox.out
    cases hf<;>cases rt
    all_goals
     have hox':ox=_:=hox
     clear hox
     have HO:Hid _:=hox'
     clear hox'
     go_wp2_with fail
     go_meet
     exact⟨by rw[HO.out];rfl,rfl⟩
   case rest=>
   obtain⟨rfl,hwc⟩:=hcut
   obtain rfl:w3=wc:=hwc.symm
   go_upto_block 2 with fail
   go_cut [23]from 101 (fun t wx=>t=.bool aw∧wx=w3)
   case first=>
    have haw:=Haw.out
    have hod:=Hod.out
    have y1:((k:Int)).tmod 2=((k%2:Nat):Int):=by rw[Int.tmod_eq_emod_of_nonneg (by omega)];omega
    rcases Hw.out with rfl|rfl|rfl
    ·generalize k%2=kb at *
     by_cases hb:kb=1
     ·obtain rfl:od=true:=by rw[hod];simp[hb]
      subst hb
      clear hod Hod
      cases hf
      ·have HO:Hid (aw=false):=haw
       clear haw
       go_wp2_with fail
       go_meet
       exact⟨by rw[HO.out],rfl⟩
      ·have HO:Hid (aw=true):=haw.trans (by cases rt<;>rfl)
       clear haw
       cases rt
       all_goals
        go_wp2_with fail
        go_meet
        exact⟨by rw[HO.out],rfl⟩
     ·obtain rfl:od=false:=by rw[hod];simp[hb]
      have hb2:((kb:Int)==1)=false:=by simp;omega
      clear hod Hod
      cases hf
      ·have HO:Hid (aw=false):=haw
       clear haw
       go_wp2_with fail
       go_meet
       exact⟨by rw[HO.out],rfl⟩
      ·have HO:Hid (aw=rt):=haw.trans (by cases rt<;>rfl)
       clear haw
       cases rt
       all_goals
        go_wp2_with fail
        go_meet
        exact⟨by rw[HO.out],rfl⟩
    ·have HO:Hid (aw=(ng&&ox)):=by rw[Hox.out];exact haw
     clear haw hod y1
     cases ng<;>cases ox
     all_goals
      go_wp2_with fail
      go_meet
      exact⟨by rw[HO.out]<;>rfl,rfl⟩
    ·have HO:Hid (aw=(!ng&&ox)):=by rw[Hox.out];exact haw
     clear haw hod y1
     cases ng<;>cases ox
     all_goals
      go_wp2_with fail
      go_meet
      exact⟨by rw[HO.out]<;>rfl,rfl⟩
   case rest=>
   obtain⟨rfl,hwc⟩:=hcut
   obtain rfl:w3=wc:=hwc.symm
   go_upto_if 125 with fail
   go_cut [20]from 126 (fun t wx=>t=.int .i64 ((k+a:Nat):Int)∧wx=w3)
   case first=>
    have ha:a=aw.toNat:=by rw[Ha.out,Haw.out]
    cases aw
    ·have HA1:Hid (a=0):=ha
     clear ha
     go_wp2_with fail
     go_meet
     exact⟨congrArg (Value.int .i64) (by rw[HA1.out];simp),rfl⟩
    ·have HA1:Hid (a=1):=ha
     clear ha
     go_wp2_with fail
     go_meet
     exact⟨congrArg (Value.int .i64) (by rw[HA1.out];simp),rfl⟩
   case rest=>
   obtain⟨rfl,hwc⟩:=hcut
   obtain rfl:w3=wc:=hwc.symm
   obtain⟨m,hm⟩:∃m,m=k+a:=⟨_,rfl⟩
   have hm2:m≤16777216:=by omega
   rw[←hm]
   have hlx:=Hlx.out
   have Hm:Hid (m=k+a):=hm
   clear hm
   go_upto_region 32 with fail
   go_loopw [25,26] (fun lv vv wr=>∃j y:Nat,lv=.int .i64 (j:Int)∧vv=.int .i64 (y:Int)∧y≤m∧j+bl y=bl m∧w3=wr) (fun _ vv _=>(intOf vv).toNat)
   case atStart=>exact⟨0,m,rfl,rfl,qlj _,by omega,rfl⟩
   case round=>
    obtain⟨j,y,rfl,rfl,hy,hj,rfl⟩:=hrel
    have hbm:bl m≤26:=qN m 26 (Nat.lt_of_le_of_lt hm2 (by decide+kernel))
    by_cases hy0:y=0
    ·subst hy0
     rw[xd,Nat.add_zero]at hj
     subst hj
     obtain⟨j,hj⟩:∃j,j=bl m:=⟨_,rfl⟩
     rw[←hj]at hbm ⊢
     have Hj:Hid (j=bl m):=hj
     clear hj hy
     obtain⟨ov,hov⟩:∃ov,ov=decide (2139095040≤F+a):=⟨_,rfl⟩
     have Hov:Hid (ov=decide (8388608≤m∧128<(j:Int)+u)):=by
      show ov=_
      rw[hov,Hj.out,Hm.out]
      exact decide_eq_decide.2 Hhov.out.symm
     have Hov2:Hid (ov=decide (2139095040≤F+a)):=hov
     clear hov
     obtain⟨-,g0,g1,g2,g3,g4,g5,g6,g7,g8⟩:=h9.kept kx
     go_upto_region 35 with fail
     go_cut [149]from 138 (fun t wx=>t=.bool ov∧wx=w3)
     case first=>
      by_cases c1:(8388608:Int)≤(m:Int)
      ·by_cases c2:128<(j:Int)+u
       ·have HO:Hid (ov=true):=by show ov=true;rw[Hov.out];exact qln ⟨by omega,c2⟩
        go_wp2_with fail
        go_meet
        exact⟨by rw[HO.out],rfl⟩
       ·have HO:Hid (ov=false):=by show ov=false;rw[Hov.out];exact qlo (fun g=>c2 g.2)
        go_wp2_with fail
        go_meet
        exact⟨by rw[HO.out]<;>simp[c2],rfl⟩
      ·have HO:Hid (ov=false):=by show ov=false;rw[Hov.out];exact qlo (fun g=>c1 (by omega))
       go_wp2_with fail
       go_meet
       exact⟨by rw[HO.out],rfl⟩
     case rest=>
     obtain⟨rfl,hwc⟩:=hcut
     obtain rfl:w3=wc:=hwc.symm
     have hsgb:0≤sg∧sg≤2147483648:=by
      have:=Hsg.out
      rw[this]
      split<;>omega
     have hms:m<8388608→u=-149:=fun g=>by have:=Hs2.out;have:=Hm.out;omega
     cases ov
     ·have hin:¬2139095040≤F+a:=of_decide_eq_false Hov2.out.symm
      obtain⟨e1,e2⟩:=qhx way ng 2139095040 F _ _ _ a Ha.out hin
      have hnov:¬(8388608≤m∧128<(j:Int)+u):=of_decide_eq_false Hov.out.symm
      have hu1:u≤104∧(m=16777216→u≤103):=by
       by_cases hc:8388608≤m
       ·have hb:=JO m hc hm2
        rw[←Hj.out]at hb
        by_cases h2:m=16777216
        ·rw[if_pos h2]at hb
         exact⟨by omega,fun _=>by omega⟩
        ·rw[if_neg h2]at hb
         exact⟨by omega,fun g=>absurd g h2⟩
       ·have:=hms (by omega)
        exact⟨by omega,fun g=>by omega⟩
      have KJ:Hid (∀v,Calls Tryz.prog 202 #[.agg #[.int .i64 32,.int .i64 24,.int .i64 8388608,.int .i64 255,.int .i64 (-149),.int .i64 128,.int .i64 2139095040,.int .i64 2147483648,.int .i64 2143289345],.int .i64 m,.int .i64 u] v fun e w'=>e=.returned (.int .i64 ((F+a:Nat):Int))∧Kept v w'):=fun v=>Y4 m u hm2 hlu hms hu1.1 hu1.2 _ (by rw[HFa.out,Hm.out]) v
      have HE1:Hid _:=e1
      have HE2:Hid _:=e2
      have hFb:((F+a:Nat):Int)<2139095040:=by omega
      have hF0:0≤((F+a:Nat):Int):=by omega
      clear e1 e2 hin hnov hu1 hms
      have HQ0:Hid (∃Q:Int,Q=((F+a:Nat):Int)):=⟨_,rfl⟩
      obtain⟨Q,hQ⟩:=HQ0.out
      rw[←hQ]at KJ hFb hF0
      have HQ:Hid (Q=((F+a:Nat):Int)):=hQ
      clear hQ HQ0
      go_wp2_with (first|(go_at_call 202;refine(KJ.out _).mono ?_;rintro e w5 ⟨rfl,k5⟩))
      go_ret2
      refine⟨xV ?_ ?_,hKX.trans (kx.trans k5)⟩
      ·rw[HE1.out,HQ.out]
      ·rw[HE2.out]
       exact Hox.out
     ·have hin:2139095040≤F+a:=of_decide_eq_true Hov2.out.symm
      obtain⟨e1,e2⟩:=qbu way ng 2139095040 F _ _ _ a Ha.out hin
      have HE1:Hid _:=e1
      have HE2:Hid _:=e2
      clear e1 e2 hin hms
      obtain⟨bw,hbw⟩:∃bw,bw=awz way ng false true true:=⟨_,rfl⟩
      have Hbw:Hid (bw=awz way ng false true true):=hbw
      clear hbw
      go_upto_region 36 with fail
      go_cut [166]from 150 (fun t wx=>t=.bool bw∧wx=w3)
      case first=>
       have hbw:=Hbw.out
       rcases Hw.out with rfl|rfl|rfl
       ·have HO:Hid (bw=true):=hbw
        clear hbw
        go_wp2_with fail
        go_meet
        exact⟨by rw[HO.out],rfl⟩
       ·have HO:Hid (bw=ng):=hbw.trans (by cases ng<;>rfl)
        clear hbw
        cases ng
        all_goals
         go_wp2_with fail
         go_meet
         exact⟨by rw[HO.out],rfl⟩
       ·have HO:Hid (bw=!ng):=hbw.trans (by cases ng<;>rfl)
        clear hbw
        cases ng
        all_goals
         go_wp2_with fail
         go_meet
         exact⟨by rw[HO.out]<;>rfl,rfl⟩
      case rest=>
      obtain⟨rfl,hwc⟩:=hcut
      obtain rfl:w3=wc:=hwc.symm
      cases bw
      ·go_wp2_with fail
       go_ret2
       refine⟨xV ?_ ?_,hKX.trans kx⟩
       ·rw[HE1.out,←Hbw.out]
        simp
        omega
       ·rw[HE2.out]
      ·go_wp2_with fail
       go_ret2
       refine⟨xV ?_ ?_,hKX.trans kx⟩
       ·rw[HE1.out,←Hbw.out]
        simp
       ·rw[HE2.out]
    ·have y2:((y:Int)).tdiv 2=((y/2:Nat):Int):=by rw[Int.tdiv_eq_ediv_of_nonneg (by omega)];omega
     have hh:=ZC y hy0
     have Hh:Hid (bl y=bl (y/2)+1):=hh
     have Hj:Hid (j+bl y=bl m):=hj
     have hjb:j≤100:=by omega
     clear hh hj hbm
     go_wp2_with fail
     exact⟨⟨j+1,y/2,by first|rfl|exact congrArg (Value.int .i64) (by omega),by first|rfl|exact congrArg (Value.int .i64) y2,by omega,by have:=Hj.out;have:=Hh.out;omega,trivial⟩,by simp[intOf]<;>omega⟩
  ·have hz:((i+1:Nat):Int)-1=(i:Int):=by omega
   rw[hz]
   obtain⟨b,off,rfl,hc⟩:=HA.out i (by omega)
   rw[HXA.out i]at hc
   have hst:=yl k i
   rw[←hm]at hst
   obtain⟨dg,hdg⟩:∃y,k/2^(30*i)%1073741824=y:=⟨_,rfl⟩
   have hdl:dg<1073741824:=by rw[←hdg];exact Nat.mod_lt _ (by omega)
   rw[hdg]at hc hst
   have hq:k/2^(30*i)≤k:=Nat.div_le_self _ _
   have HM:Hid (m*1073741824+dg=k/2^(30*i)):=hst.symm
   have hmb:m*1073741824+dg<16777216:=by rw[←hst];omega
   have y1:IntKind.i64.wrap ((m:Int)*1073741824)=(m:Int)*1073741824:=by rw[qc];omega
   have y2:IntKind.i64.wrap ((m:Int)*1073741824+dg)=(m:Int)*1073741824+dg:=by rw[qc];omega
   have hin:(i:Int)<(n:Int):=by omega
   clear hm hst hq hdg HA HZ HXA hz
   go_wp2_with fail
   exact⟨⟨i,m*1073741824+dg,by omega,rfl,congrArg (Value.int .i64) (by omega),HM.out,trivial⟩,by simp[intOf]<;>omega⟩
end Go.Proofs.YtelbefihigkhjaaGreatDoor

namespace Go.Proofs.YtelbefihigkhjaaGreatDoor
open Go.ChangeShapes Go.WideShapes Go.ChangeAt Go.RowKit
set_option maxHeartbeats 16000000
set_option maxRecDepth 100000
set_option linter.unusedVariables false
set_option linter.unusedSimpArgs false
abbrev qO (n1:Bool)(s1:Value)(x1:Int)(n2:Bool)(s2:Value)(x2:Int):Array Value:=#[.bool n1,s1,.int .i64 x1,.bool n2,s2,.int .i64 x2]
theorem Vf (w:World)(hT:Tab w)(n1:Bool)(L1:List Int)(x1:Int)(hv1:vld ⟨n1,L1,x1⟩=true)(a1:Option Addr)(c1:Nat)(n2:Bool)(L2:List Int)(x2:Int)(hv2:vld ⟨n2,L2,x2⟩=true)(a2:Option Addr)(c2:Nat)(h1:Sl w (.slice a1 L1.length c1) L1)(h2:Sl w (.slice a2 L2.length c2) L2)(r:Nm)(hf:xw ⟨n1,L1,x1⟩ ⟨n2,L2,x2⟩=some r)(p q:Nat)(hp:p<w.heap.size)(hq:q<w.heap.size)(cp0:w.cell? ⟨p,0,none⟩=some (.bool n1))(cp1:w.cell? ⟨p,1,none⟩=some (.slice a1 L1.length c1))(cp2:w.cell? ⟨p,2,none⟩=some (.int .i64 x1))(cq0:w.cell? ⟨q,0,none⟩=some (.bool n2))(cq1:w.cell? ⟨q,1,none⟩=some (.slice a2 L2.length c2))(cq2:w.cell? ⟨q,2,none⟩=some (.int .i64 x2)):Calls Tryz.prog 251 #[.pointer (some ⟨p,0,none⟩),.pointer (some ⟨q,0,none⟩)] w fun e w'=>(∃v,e=.returned v∧New w w' v r)∧Kept w w':=by
 have hK:Kept w (qh w):=(qlv w).alloc _ _
 have hK2:Kept (qh w) ((qh w).alloc (.cells (qO n1 (.slice a1 L1.length c1) x1 n2 (.slice a2 L2.length c2) x2) 78)):=(qlv _).alloc _ _
 have KS:Hid (Calls Tryz.prog 250 #[.slice (some ⟨w.heap.size+1,0,none⟩) 2 2] ((qh w).alloc (.cells (qO n1 (.slice a1 L1.length c1) x1 n2 (.slice a2 L2.length c2) x2) 78)) fun e w'=>zZ (some r) ((qh w).alloc (.cells (qO n1 (.slice a1 L1.length c1) x1 n2 (.slice a2 L2.length c2) x2) 78)) w' e∧Kept (qh w) w'):=by
  have:=YG ((qh w).alloc (.cells (qO n1 (.slice a1 L1.length c1) x1 n2 (.slice a2 L2.length c2) x2) 78)) (w.heap.size+1) (by simp) (hT.kept (hK.trans hK2)) n1 L1 x1 (fun _=>hv1) (yd n1 L1 x1 hv1) a1 c1 (h1.kept (hK.trans hK2)) n2 L2 x2 (fun _=>hv2) (yd n2 L2 x2 hv2) a2 c2 (h2.kept (hK.trans hK2)) (by simp[go_sem]) (by simp[go_sem]) (by simp[go_sem]) (by simp[go_sem]) (by simp[go_sem]) (by simp[go_sem]) (some r) hf
  refine this.mono ?_
  rintro e w' ⟨hr,k⟩
  exact⟨hr,hK2.trans k⟩
 have ep0:(qh w).cell? ⟨p,0,none⟩=some (.bool n1):=(hK.below.cell (p:=⟨p,0,none⟩) hp).trans cp0
 have ep1:(qh w).cell? ⟨p,1,none⟩=some (.slice a1 L1.length c1):=(hK.below.cell (p:=⟨p,1,none⟩) hp).trans cp1
 have ep2:(qh w).cell? ⟨p,2,none⟩=some (.int .i64 x1):=(hK.below.cell (p:=⟨p,2,none⟩) hp).trans cp2
 have eq0:(qh w).cell? ⟨q,0,none⟩=some (.bool n2):=(hK.below.cell (p:=⟨q,0,none⟩) hq).trans cq0
 have eq1:(qh w).cell? ⟨q,1,none⟩=some (.slice a2 L2.length c2):=(hK.below.cell (p:=⟨q,1,none⟩) hq).trans cq1
 have eq2:(qh w).cell? ⟨q,2,none⟩=some (.int .i64 x2):=(hK.below.cell (p:=⟨q,2,none⟩) hq).trans cq2
 clear h1 h2 hT hf hv1 hv2 cp0 cp1 cp2 cq0 cq1 cq2
 generalize L1.length=l1 at *
 generalize L2.length=l2 at *
 go_enter Tryz.func251,Tryz.ntmps251
 go_wp2_with (first|(go_at_call 250;refine KS.out.mono ?_;rintro e w1 ⟨⟨v,rfl,hN⟩,hk1⟩;obtain⟨vn,va,vl,vc,vx,rfl⟩:=hN.shape;obtain⟨f0,f1,f2,f3⟩:=qI hk1))
 have:=zj (hN.from hK2) hk1 (.bool vn) (.slice va vl vc) (.int .i64 vx)
 exact qlu (v:=.agg #[.bool vn,.slice va vl vc,.int .i64 vx]) (by simp[results,Tryz.results251,go_sem,f0,f1,f2]) rfl ⟨⟨_,rfl,this.1⟩,this.2⟩
abbrev jW (w:World)(v1 v2 c:Array Value):World:=(((w.alloc (.cells v1 78)).alloc (.cells v2 78)).alloc zc).alloc (.cells c 78)
theorem yt (w:World)(v1 v2 c:Array Value):Kept w (jW w v1 v2 c):=((((qlv w).alloc _ _).alloc _ _).alloc _ _).alloc _ _
theorem qft (w:World)(hT:Tab w)(n1:Bool)(L1:List Int)(x1:Int)(hv1:vld ⟨n1,L1,x1⟩=true)(a1:Option Addr)(c1:Nat)(n2:Bool)(L2:List Int)(x2:Int)(hv2:vld ⟨n2,L2,x2⟩=true)(a2:Option Addr)(c2:Nat)(h1:Sl w (.slice a1 L1.length c1) L1)(h2:Sl w (.slice a2 L2.length c2) L2)(r:Nm)(hf:xw ⟨n1,L1,x1⟩ ⟨n2,L2,x2⟩=some r):Calls Tryz.prog 186 #[.agg #[.bool n1,.slice a1 L1.length c1,.int .i64 x1],.agg #[.bool n2,.slice a2 L2.length c2,.int .i64 x2]] w fun e w'=>∃v,e=.returned (.tuple #[v,.int .i64 0])∧New w w' v r∧Kept w w':=by
 have hW:=yt w #[.bool n1,.slice a1 L1.length c1,.int .i64 x1] #[.bool n2,.slice a2 L2.length c2,.int .i64 x2] (qO n1 (.slice a1 L1.length c1) x1 n2 (.slice a2 L2.length c2) x2)
 have hd1:=jj _ _ _ hv1
 have hd2:=jj _ _ _ hv2
 have KV:Hid (∀w',Kept (jW w #[.bool n1,.slice a1 L1.length c1,.int .i64 x1] #[.bool n2,.slice a2 L2.length c2,.int .i64 x2] (qO n1 (.slice a1 L1.length c1) x1 n2 (.slice a2 L2.length c2) x2)) w'→Calls Tryz.prog 282 #[.slice (some ⟨w.heap.size+3,0,none⟩) 2 2] w' fun e w''=>e=.returned (.bool true)∧Kept w' w''):=fun u k=>by
  have hb:w.heap.size+3<(jW w #[.bool n1,.slice a1 L1.length c1,.int .i64 x1] #[.bool n2,.slice a2 L2.length c2,.int .i64 x2] (qO n1 (.slice a1 L1.length c1) x1 n2 (.slice a2 L2.length c2) x2)).heap.size:=by simp
  have:=jX u (w.heap.size+3) 2 n1 n2 a1 a2 L1.length c1 L2.length c2 x1 x2 true true (qlf hb k.below.size) ((k.below.cell (p:=⟨w.heap.size+3,0,none⟩) hb).trans (by simp[go_sem])) ((k.below.cell (p:=⟨w.heap.size+3,1,none⟩) hb).trans (by simp[go_sem])) ((k.below.cell (p:=⟨w.heap.size+3,2,none⟩) hb).trans (by simp[go_sem])) ((k.below.cell (p:=⟨w.heap.size+3,3,none⟩) hb).trans (by simp[go_sem])) ((k.below.cell (p:=⟨w.heap.size+3,4,none⟩) hb).trans (by simp[go_sem])) ((k.below.cell (p:=⟨w.heap.size+3,5,none⟩) hb).trans (by simp[go_sem])) (fun v kv=>?_) (fun v kv=>?_)
  ·exact this
  ·have:=zh ⟨n1,L1,x1⟩ hd1.2.rg (by dsimp only;omega) (.agg #[.bool n1,.slice a1 L1.length c1,.int .i64 x1]) v ⟨_,rfl,((h1.kept hW).kept k).kept kv⟩
   rw[hv1]at this
   exact this
  ·have:=zh ⟨n2,L2,x2⟩ hd2.2.rg (by dsimp only;omega) (.agg #[.bool n2,.slice a2 L2.length c2,.int .i64 x2]) v ⟨_,rfl,((h2.kept hW).kept k).kept kv⟩
   rw[hv2]at this
   exact this
 have KT:Hid (Calls Tryz.prog 248 #[.func (.func 251) #[] #[.pointer (some ⟨w.heap.size,0,none⟩),.pointer (some ⟨w.heap.size+1,0,none⟩)],.slice (some ⟨w.heap.size+3,0,none⟩) 2 2] (jW w #[.bool n1,.slice a1 L1.length c1,.int .i64 x1] #[.bool n2,.slice a2 L2.length c2,.int .i64 x2] (qO n1 (.slice a1 L1.length c1) x1 n2 (.slice a2 L2.length c2) x2)) fun e w'=>∃v,e=.returned (.tuple #[v,.int .i64 0])∧New (jW w #[.bool n1,.slice a1 L1.length c1,.int .i64 x1] #[.bool n2,.slice a2 L2.length c2,.int .i64 x2] (qO n1 (.slice a1 L1.length c1) x1 n2 (.slice a2 L2.length c2) x2)) w' v r∧Kept (jW w #[.bool n1,.slice a1 L1.length c1,.int .i64 x1] #[.bool n2,.slice a2 L2.length c2,.int .i64 x2] (qO n1 (.slice a1 L1.length c1) x1 n2 (.slice a2 L2.length c2) x2)) w'):=by
  refine kA 251 _ (fun w=>ko Tryz.func251 (by kernel_rfl) (by kernel_rfl) _ w) _ r _ KV (fun u k=>?_)
  have hs:=k.below.size
  simp only[jW,World.size_alloc]at hs
  exact Vf u ((hT.kept hW).kept k) n1 L1 x1 hv1 a1 c1 n2 L2 x2 hv2 a2 c2 ((h1.kept hW).kept k) ((h2.kept hW).kept k) r hf _ _ (by omega) (by omega) ((k.below.cell (p:=⟨w.heap.size,0,none⟩) (by simp<;>omega)).trans (by simp[go_sem])) ((k.below.cell (p:=⟨w.heap.size,1,none⟩) (by simp<;>omega)).trans (by simp[go_sem])) ((k.below.cell (p:=⟨w.heap.size,2,none⟩) (by simp<;>omega)).trans (by simp[go_sem])) ((k.below.cell (p:=⟨w.heap.size+1,0,none⟩) (by simp<;>omega)).trans (by simp[go_sem])) ((k.below.cell (p:=⟨w.heap.size+1,1,none⟩) (by simp<;>omega)).trans (by simp[go_sem])) ((k.below.cell (p:=⟨w.heap.size+1,2,none⟩) (by simp<;>omega)).trans (by simp[go_sem]))
 have hmf:∀(fn:Fn) (first cap:Array Value) (w:World),(Instr.makeFunc fn first cap).run Tryz.prog w=.ok (.func fn first cap) w:=fun _ _ _ _=>rfl
 clear h1 h2 hT hf hv1 hv2 KV hd1 hd2
 generalize L1.length=l1 at *
 generalize L2.length=l2 at *
 go_enter Tryz.func186,Tryz.ntmps186
 go_wp2_with (first|(go_at_call 248;refine KT.out.mono ?_;rintro e w1 ⟨v,rfl,hN,hk1⟩;obtain⟨vn,va,vl,vc,vx,rfl⟩:=hN.shape;obtain⟨f0,f1,f2,f3⟩:=qJ (w.heap.size+2) (by simp<;>omega) hk1 (by simp[go_sem]) (by simp[go_sem]) (by simp[go_sem]) (fun o=>by simp[go_sem])))
 have:=zi (w.heap.size+2) (by omega) (by simp<;>omega) hW hN hk1 (.bool vn) (.slice va vl vc) (.int .i64 vx)
 refine qlu (v:=.tuple #[.agg #[.bool vn,.slice va vl vc,.int .i64 vx],.int .i64 0]) (by simp[results,Tryz.results186,go_sem,f0,f1,f2]) rfl ⟨_,rfl,this.1,this.2⟩
theorem yu (w:World)(a b c:Int):Own (w.alloc (.cells #[.int .i64 a,.int .i64 b,.int .i64 c] 3)) w.heap.size 3 [a,b,c]:=
 ⟨_,heap_alloc_new w _,qlj _,by simp[maxLen],by simp,by simp⟩
theorem qfu (n:Int)(h0:0≤n)(h1:n≤9223372036854775807)(r:Nm)(hf:frm (decide (n<0)) n.natAbs 0=some r)(w:World)(hT:Tab w):Calls Tryz.prog 253 #[.int .i64 n] w fun e w'=>(∃v,e=.returned v∧New w w' v r)∧Kept w w':=by
 have hK:Kept w (qh w):=(qlv w).alloc _ _
 obtain⟨s,hs⟩:∃s:Int,s=(n.natAbs:Int):=⟨_,rfl⟩
 have hs1:0≤s∧s≤9223372036854775808:=by omega
 have hw1:IntKind.u64.wrap n=if n<0 then n+18446744073709551616 else n:=by rw[IntKind.wrap_u64];split<;>omega
 have KD:Hid (Calls Tryz.prog 247 #[.int .u64 s] (qh w) fun e w'=>e=.returned (.slice (some ⟨(qh w).heap.size,0,none⟩) 3 3)∧w'=(qh w).alloc (.cells #[.int .i64 (s%1073741824),.int .i64 (s/1073741824%1073741824),.int .i64 (s/1152921504606846976)] 3)):=jY s hs1.1 (by omega) (qh w)
 have hO:=yu (qh w) (s%1073741824) (s/1073741824%1073741824) (s/1152921504606846976)
 have hDg:Dg [s%1073741824,s/1073741824%1073741824,s/1152921504606846976]:=Dg.cons (by omega) (by omega) (Dg.cons (by omega) (by omega) (Dg.cons (by omega) (by omega) Dg.nil))
 have hnv:nv [s%1073741824,s/1073741824%1073741824,s/1152921504606846976]=n.natAbs:=by
  show(s%1073741824).toNat+1073741824*((s/1073741824%1073741824).toNat+1073741824*((s/1152921504606846976).toNat+1073741824*0))=n.natAbs
  omega
 have hK2:Kept (qh w) ((qh w).alloc (.cells #[.int .i64 (s%1073741824),.int .i64 (s/1073741824%1073741824),.int .i64 (s/1152921504606846976)] 3)):=(qlv _).alloc _ _
 have KF:Hid (Calls Tryz.prog 246 #[.bool (decide (n<0)),.slice (some ⟨(qh w).heap.size,0,none⟩) 3 3,.int .i64 0] ((qh w).alloc (.cells #[.int .i64 (s%1073741824),.int .i64 (s/1073741824%1073741824),.int .i64 (s/1152921504606846976)] 3)) fun e w'=>(∃v,e=.returned v∧New (qh w) w' v r)∧Kept (qh w) w'):=x6 _ _ hDg (by simp) _ 3 0 (qh w) _ hK2 (qlj _) hO (hT.kept (hK.trans hK2)) r (by rw[hnv];exact hf)
 clear hO hDg hnv hf hT
 simp only[World.size_alloc]at KD KF
 have hneg:¬n<0:=by omega
 ·rw[if_neg hneg]at hw1
  have hsn:s=n:=by omega
  subst hsn
  rw[qlo hneg]at KF
  clear hs hs1 h1
  go_enter Tryz.func253,Tryz.ntmps253
  go_wp2_with (first|(go_at_call 247;refine KD.out.mono ?_;rintro e w1 ⟨rfl,rfl⟩)|(go_at_call 246;refine KF.out.mono ?_;rintro e w2 ⟨⟨v,rfl,hN⟩,hk1⟩;obtain⟨vn,va,vl,vc,vx,rfl⟩:=hN.shape;obtain⟨f0,f1,f2,f3⟩:=qI hk1))
  have:=zj hN hk1 (.bool vn) (.slice va vl vc) (.int .i64 vx)
  exact qlu (v:=.agg #[.bool vn,.slice va vl vc,.int .i64 vx]) (by simp[results,Tryz.results253,go_sem,f0,f1,f2]) rfl ⟨⟨_,rfl,this.1⟩,this.2⟩
end Go.Proofs.YtelbefihigkhjaaGreatDoor

namespace Go.Proofs.YtelbefihigkhjaaGreatDoor
open Go.ChangeShapes Go.WideShapes Go.ChangeAt Go.RowKit
set_option maxHeartbeats 16000000
set_option maxRecDepth 100000
set_option linter.unusedVariables false
set_option linter.unusedSimpArgs false
set_option linter.unnecessarySimpa false
end Go.Proofs.YtelbefihigkhjaaGreatDoor
