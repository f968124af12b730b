/-  -/
import Derived.Test.YtaglkncdedeipaaGreatDoorWt23
import Derived.Deep.CutBlock
import Derived.Test.YtaglkncdedeipaaGreatDoorWt16
import Derived.Test.YtaglkncdedeipaaGreatDoorWt22
import Derived.Deep.CutRange
namespace Go.Proofs.YtaglkncdedeipaaGreatDoor
open Go.ChangeShapes Go.WideShapes Go.ChangeAt Go.RowKit
set_option linter.unusedVariables false
set_option linter.unusedSimpArgs false
set_option maxHeartbeats 16000000
set_option maxRecDepth 100000
theorem qjm (way:Int)(hw:way=0∨way=1∨way=2)(ng:Bool)(V:Nat)(hV:V≠0)(x:Int)(more:Bool)(va:Value)(w:World)(hL:RL w va (digs V))(hlen:(digs V).length<30000)(hx1:-10000000≤x)(hx2:x≤10000000)(u:Int)(hu:unz 24 (-149) (bl V) x=u)(k:Nat)(hk:flo V (x-u)=k)(F:Nat)(hF:F=(u-(-149)).toNat*8388608+k)(od hf rt:Bool)(hod:od=decide (k%2=1))(hhf:hf=decide (flo V (x-u+1)%2=1))(hrt:rt=(more||rst V (x-u+1)))(sg:Int)(hsg:sg=if ng=true then 2147483648 else 0):
  Calls Tryz.prog 183 #[.agg #[.int .i64 32,.int .i64 24,.int .i64 8388608,.int .i64 255,.int .i64 (-149),.int .i64 128,.int .i64 2139095040,.int .i64 2147483648,.int .i64 2143289345],.bool ng,va,.int .i64 x,.bool more,.int .i64 way] w fun e w'=>e=.returned (.tuple #[.int .i64 (sg+(mgz way ng 2139095040 F od hf rt:Nat)),.bool (odz way ng 2139095040 F od hf rt)])∧Kept w w':=by
 obtain⟨hk2,hs,hlu,huu⟩:=JV V hV x u hu k hk
 have hT9:bl V≤900000:=by
  have:=zg V (30*(digs V).length) (qS V _ (qoo _))
  omega
 have hub:-2000≤u∧u≤30000000:=by omega
 have Hs2:Hid (u=-149∨8388608≤k):=hs
 obtain⟨low,hlow⟩:∃low,low=u-x:=⟨_,rfl⟩
 obtain⟨a,ha⟩:∃a:Nat,a=(awz way ng od hf rt).toNat:=⟨_,rfl⟩
 have ha1:a≤1:=by rw[ha];cases awz way ng od hf rt<;>decide
 have hov:=qjk u k a F ha1 hk2 hlu hs hF
 have hFa:((F+a:Nat):Int)=(u+149)*8388608+((k+a:Nat):Int):=by rw[hF];omega
 have KB:Hid (∀v,Kept w v→Calls Tryz.prog 185 #[va] v fun e w'=>e=.returned (.int .i64 (bl V:Int))∧v=w'):=fun v kv=>xM v V va (hL.kept kv) (by omega)
 have KR:Hid (∀v,Kept w v→∀s:Nat,s<100000000→Calls Tryz.prog 127 #[va,.int .i64 (s:Int)] v fun e w'=>(∃r,e=.returned r∧RL w' r (digs (V/2^s)))∧Kept v w'):=fun v kv s hs=>by
  refine(vR v (digs V) s va (hL.kept kv) (za V) (by omega) hs).mono ?_
  rintro e w' ⟨⟨r,rfl,hr⟩,hk⟩
  rw[qQ]at hr
  exact⟨⟨r,rfl,hr.rl⟩,hk⟩
 have KLf:Hid (∀v,Kept w v→∀s:Nat,s<10000000→Calls Tryz.prog 122 #[va,.int .i64 (s:Int)] v fun e w'=>(∃r,e=.returned r∧RL w' r (digs (V*2^s)))∧Kept v w'):=fun v kv s hs=>by
  refine(jE v V s va (hL.kept kv) (by omega) hs).mono ?_
  rintro e w' ⟨⟨r,rfl,hr⟩,hk⟩
  exact⟨⟨r,rfl,hr.rl⟩,hk⟩
 have hhf':Yd V (low-1)=hf:=by rw[Yg,hhf,hlow,show 1-(u-x)=x-u+1 by omega]
 have KH:Hid (∀v,Kept w v→Calls Tryz.prog 187 #[va,.int .i64 (low-1)] v fun e w'=>e=.returned (.bool hf)∧Kept v w'):=fun v kv=>by
  have:=km v V va (hL.kept kv) (by omega) (low-1) (by omega) (by omega)
  rw[hhf']at this
  exact this
 have KL:Hid (∀v,Kept w v→Calls Tryz.prog 126 #[va] v fun e w'=>e=.returned (.int .i64 (tzn V:Int))∧v=w'):=fun v kv=>by
  have:=kJ v va (digs V) (hL.kept kv) (za V) (by omega)
  rw[qQ,QQ,if_neg hV]at this
  exact this
 have hrt':rt=(more||decide (0<low-1∧(tzn V:Int)<low-1)):=by rw[hrt,←Yh V hV low,hlow,show 1-(u-x)=x-u+1 by omega]
 have hbp:=(qO V hV).2.2
 have HKR:Hid (0≤low→V/2^low.toNat=k):=fun g=>by rw[hlow]at g ⊢;rw[Yi V x u g];exact hk
 have HKL:Hid (low<0→V*2^(-low).toNat=k):=fun g=>by rw[hlow]at g ⊢;rw[Yj V x u g];exact hk
 have HT:Hid (unz 24 (-149) (bl V) x=u):=hu
 have htz:tzn V<100000000:=by
  obtain⟨o,ho,hVo⟩:=jK V hV
  have h1:2^tzn V≤V:=by
   have:=Nat.le_mul_of_pos_left (2^tzn V) (show 0<o by omega)
   omega
  have h2:=Z0 V
  have h3:2^tzn V<2^bl V:=by omega
  have:=(Nat.pow_lt_pow_iff_right (show 1<2 by omega)).1 h3
  omega
 generalize bl V=T at *
 generalize tzn V=tz at *
 have hmax:max ((T:Int)+x-24) (-149)=u:=by have:=HT.out;unfold unz at this;omega
 obtain⟨X,hX⟩:∃X,X=w.alloc (.cells #[.int .i64 32,.int .i64 24,.int .i64 8388608,.int .i64 255,.int .i64 (-149),.int .i64 128,.int .i64 2139095040,.int .i64 2147483648,.int .i64 2143289345] 116):=⟨_,rfl⟩
 have hKX:Kept w X:=by rw[hX];exact(qo0 w).alloc _ _
 have h9:K9 X w.heap.size (.int .i64 32) (.int .i64 24) (.int .i64 8388608) (.int .i64 255) (.int .i64 (-149)) (.int .i64 128) (.int .i64 2139095040) (.int .i64 2147483648) (.int .i64 2143289345):=by rw[hX];exact K9.new w _ _ _ _ _ _ _ _ _ _
 clear hu hk hF hhf hrt hhf' hL hV hs huu
 have Hw:Hid (way=0∨way=1∨way=2):=hw
 clear hw
 have Hhov:Hid _:=hov
 have HFa:Hid _:=hFa
 have Hhrt:Hid _:=hrt'
 have Hod:Hid _:=hod
 have Ha:Hid _:=ha
 clear hov hFa hrt' hod ha
 go_enter Tryz.func183,Tryz.ntmps183
 go_upto_if 27 with fail
 rw[←hX]
 clear hX
 go_cut [14]from 27 (fun t wx=>t=.int .i64 sg∧wx=X)
 case first=>
  obtain⟨-,g0,g1,g2,g3,g4,g5,g6,g7,g8⟩:=h9
  cases ng
  all_goals
   go_wp2_with fail
   go_meet
   exact⟨by rw[hsg];rfl,rfl⟩
 case rest=>
 obtain⟨rfl,hwc⟩:=hcut
 obtain rfl:X=wc:=hwc.symm
 have Hsg:Hid (sg=if ng=true then 2147483648 else 0):=hsg
 clear hsg
 have h9':=h9
 obtain⟨-,g0,g1,g2,g3,g4,g5,g6,g7,g8⟩:=h9'
 have hT0:¬(T:Int)=0:=by omega
 have hTb:((T:Int)==0)=false:=by simp;omega
 go_upto_region 7 with (first|(go_at_call 185;refine(KB.out _ hKX).mono ?_;rintro e w1 ⟨rfl,rfl⟩))
 clear hTb
 go_upto_region 8 with fail
 clear g0 g1 g2 g3 g4 g5 g6 g7 g8
 rw[←hlow]
 have Hlx:Hid (low+x=u):=by
  show low+x=u
  omega
 have hlb:-100≤low∧low≤30000000:=by omega
 obtain⟨s,hs0⟩:∃s:Nat,max low 0=(s:Int):=⟨(max low 0).toNat,by omega⟩
 have hs9:s<100000000:=by omega
 have Hs:Hid (low<0∨low.toNat=s):=by
  show low<0∨low.toNat=s
  omega
 clear hlow hmax hx1 hx2
 go_upto_region 9 with (first|(go_at_call 127;refine(KR.out _ hKX s hs9).mono ?_;rintro e w1 ⟨⟨r1,rfl,hr1⟩,k1⟩))
 clear hs0
 go_upto_if 55 with fail
 go_cut [17]from 54 (fun t wx=>RL wx t (digs k)∧Kept w1 wx)
 case first=>
  by_cases hneg:low<0
  ·obtain⟨s2,hs2⟩:∃s2:Nat,-low=(s2:Int):=⟨(-low).toNat,by omega⟩
   have h2:s2<10000000:=by omega
   have HE:Hid (V*2^s2=k):=by
    have:=HKL.out hneg
    rw[show(-low).toNat=s2 by omega]at this
    exact this
   go_wp2_with (first|(go_at_call 122;refine(KLf.out _ (hKX.trans k1) s2 h2).mono ?_;rintro e w2 ⟨⟨r2,rfl,hr2⟩,k2⟩))
   go_meet
   rw[HE.out]at hr2
   exact⟨hr2,k2⟩
  ·have HE:Hid (V/2^s=k):=by
    have:=HKR.out (by omega)
    rw[show low.toNat=s by have:=Hs.out;omega]at this
    exact this
   go_wp2_with fail
   go_meet
   rw[HE.out]at hr1
   exact⟨hr1,qo0 _⟩
 case rest=>
 obtain⟨hr,k2⟩:=hcut
 rename World=>w2
 have kx:=k1.trans k2
 clear k1 k2 hr1 HKR HKL KR KLf KB Hs hs9
 go_upto_region 12 with (first|(go_at_call 187;refine(KH.out _ (hKX.trans kx)).mono ?_;rintro e w3 ⟨rfl,k3⟩))
 replace hr:=hr.kept k3
 replace kx:=kx.trans k3
 clear k3 KH
 go_cut [19]from 64 (fun t wx=>t=.bool rt∧wx=w3)
 case first=>
  have hrt:=Hhrt.out
  cases more
  ·by_cases h1:0<low-1
   ·by_cases h2:(tz:Int)<low-1
    ·have hz:0≤(tz:Int):=by omega
     have Hrt:Hid (rt=true):=by show rt=true;rw[hrt,qos ⟨h1,h2⟩];rfl
     clear hrt
     go_wp2_with (first|(go_at_call 126;refine(KL.out _ (hKX.trans kx)).mono ?_;rintro e w4 ⟨rfl,rfl⟩))
     go_meet
     exact⟨by rw[Hrt.out]<;>simp[*],rfl⟩
    ·have hz:0≤(tz:Int):=by omega
     have Hrt:Hid (rt=false):=by show rt=false;rw[hrt,qot (fun g=>h2 g.2)];rfl
     clear hrt
     go_wp2_with (first|(go_at_call 126;refine(KL.out _ (hKX.trans kx)).mono ?_;rintro e w4 ⟨rfl,rfl⟩))
     go_meet
     exact⟨by rw[Hrt.out]<;>simp[*],rfl⟩
   ·have Hrt:Hid (rt=false):=by show rt=false;rw[hrt,qot (fun g=>h1 g.1)];rfl
    clear hrt
    go_wp2_with fail
    go_meet
    exact⟨by rw[Hrt.out]<;>simp[*],rfl⟩
  ·have Hrt:Hid (rt=true):=by show rt=true;rw[hrt];rfl
   clear hrt
   go_wp2_with fail
   go_meet
   exact⟨by rw[Hrt.out]<;>simp[*],rfl⟩
 case rest=>
 obtain⟨rfl,hwc⟩:=hcut
 obtain rfl:w3=wc:=hwc.symm
 clear KL Hhrt hlb htz
 obtain⟨ao,cc,rfl,-,hat⟩:=hr.at
 have HA:Hid (∀i,i<(digs k).length→∃b off,ao=some ⟨b,off,none⟩∧w3.cell? ⟨b,off+i,none⟩=some (.int .i64 ((digs k).getD i 0))):=(hat w3 (qo0 w3)).2
 have HZ:Hid (k/2^(30*(digs k).length)=0):=Nat.div_eq_of_lt (qS k _ (qoo _))
 have HXA:Hid (∀i,(digs k).getD i 0=((k/2^(30*i)%1073741824:Nat):Int)):=js k
 have hl9:(digs k).length≤3:=qC k 3 (qok hk2 (by decide+kernel))
 clear hr hat
 generalize (digs k).length=n at *
 go_upto_region 15 with fail
 go_loopw [20,21] (fun mv iv wr=>∃i m:Nat,i≤n∧iv=.int .i64 ((i:Int)-1)∧mv=.int .i64 (m:Int)∧m=k/2^(30*i)∧w3=wr) (fun _ iv _=>(intOf iv+1).toNat)
 case atStart=>exact⟨n,0,qoo _,by first|rfl|(congr 1;omega),rfl,HZ.out.symm,rfl⟩
 case round=>
  obtain⟨i,m,hi,rfl,rfl,hm,rfl⟩:=hrel
  rcases i with _|i
  ·rw [Nat.mul_zero,Nat.pow_zero,Nat.div_one]at hm
   have hm':k=m:=hm.symm
   subst hm'
   clear HA HZ HXA
   obtain⟨ox,hox⟩:∃ox,ox=(hf||rt):=⟨_,rfl⟩
   obtain⟨aw,haw⟩:∃aw,aw=awz way ng od hf rt:=⟨_,rfl⟩
   have Hox:Hid (ox=(hf||rt)):=hox
   have Haw:Hid (aw=awz way ng od hf rt):=haw
   clear hox haw
   go_upto_region 18 with fail
   go_cut [22]from 96 (fun t wx=>t=.bool ox∧wx=w3)
   case first=>
    have hox:=Hox.out
    cases hf<;>cases rt
    all_goals
     have hox':ox=_:=hox
     clear hox
     have HO:Hid _:=hox'
     clear hox'
     go_wp2_with fail
     go_meet
     exact⟨by rw[HO.out];rfl,rfl⟩
   case rest=>
   obtain⟨rfl,hwc⟩:=hcut
   obtain rfl:w3=wc:=hwc.symm
   go_upto_block 2 with fail
   go_cut [23]from 101 (fun t wx=>t=.bool aw∧wx=w3)
   case first=>
    have haw:=Haw.out
    have hod:=Hod.out
    have y1:((k:Int)).tmod 2=((k%2:Nat):Int):=by rw[Int.tmod_eq_emod_of_nonneg (by omega)];omega
    rcases Hw.out with rfl|rfl|rfl
    ·generalize k%2=kb at *
     by_cases hb:kb=1
     ·obtain rfl:od=true:=by rw[hod];simp[hb]
      subst hb
      clear hod Hod
      cases hf
      ·have HO:Hid (aw=false):=haw
       clear haw
       go_wp2_with fail
       go_meet
       exact⟨by rw[HO.out],rfl⟩
      ·have HO:Hid (aw=true):=haw.trans (by cases rt<;>rfl)
       clear haw
       cases rt
       all_goals
        go_wp2_with fail
        go_meet
        exact⟨by rw[HO.out],rfl⟩
     ·obtain rfl:od=false:=by rw[hod];simp[hb]
      have hb2:((kb:Int)==1)=false:=by simp;omega
      clear hod Hod
      cases hf
      ·have HO:Hid (aw=false):=haw
       clear haw
       go_wp2_with fail
       go_meet
       exact⟨by rw[HO.out],rfl⟩
      ·have HO:Hid (aw=rt):=haw.trans (by cases rt<;>rfl)
       clear haw
       cases rt
       all_goals
        go_wp2_with fail
        go_meet
        exact⟨by rw[HO.out],rfl⟩
    ·have HO:Hid (aw=(ng&&ox)):=by rw[Hox.out];exact haw
     clear haw hod y1
     cases ng<;>cases ox
     all_goals
      go_wp2_with fail
      go_meet
      exact⟨by rw[HO.out]<;>rfl,rfl⟩
    ·have HO:Hid (aw=(!ng&&ox)):=by rw[Hox.out];exact haw
     clear haw hod y1
     cases ng<;>cases ox
     all_goals
      go_wp2_with fail
      go_meet
      exact⟨by rw[HO.out]<;>rfl,rfl⟩
   case rest=>
   obtain⟨rfl,hwc⟩:=hcut
   obtain rfl:w3=wc:=hwc.symm
   go_upto_if 125 with fail
   go_cut [20]from 126 (fun t wx=>t=.int .i64 ((k+a:Nat):Int)∧wx=w3)
   case first=>
    have ha:a=aw.toNat:=by rw[Ha.out,Haw.out]
    cases aw
    ·have HA1:Hid (a=0):=ha
     clear ha
     go_wp2_with fail
     go_meet
     exact⟨congrArg (Value.int .i64) (by rw[HA1.out];simp),rfl⟩
    ·have HA1:Hid (a=1):=ha
     clear ha
     go_wp2_with fail
     go_meet
     exact⟨congrArg (Value.int .i64) (by rw[HA1.out];simp),rfl⟩
   case rest=>
   obtain⟨rfl,hwc⟩:=hcut
   obtain rfl:w3=wc:=hwc.symm
   obtain⟨m,hm⟩:∃m,m=k+a:=⟨_,rfl⟩
   have hm2:m≤16777216:=by omega
   rw[←hm]
   have hlx:=Hlx.out
   have Hm:Hid (m=k+a):=hm
   clear hm
   go_upto_region 32 with fail
   go_loopw [25,26] (fun lv vv wr=>∃j y:Nat,lv=.int .i64 (j:Int)∧vv=.int .i64 (y:Int)∧y≤m∧j+bl y=bl m∧w3=wr) (fun _ vv _=>(intOf vv).toNat)
   case atStart=>exact⟨0,m,rfl,rfl,qoo _,by omega,rfl⟩
   case round=>
    obtain⟨j,y,rfl,rfl,hy,hj,rfl⟩:=hrel
    have hbm:bl m≤26:=zg m 26 (Nat.lt_of_le_of_lt hm2 (by decide+kernel))
    by_cases hy0:y=0
    ·subst hy0
     rw[xP,Nat.add_zero]at hj
     subst hj
     obtain⟨j,hj⟩:∃j,j=bl m:=⟨_,rfl⟩
     rw[←hj]at hbm ⊢
     have Hj:Hid (j=bl m):=hj
     clear hj hy
     obtain⟨ov,hov⟩:∃ov,ov=decide (2139095040≤F+a):=⟨_,rfl⟩
     have Hov:Hid (ov=decide (8388608≤m∧128<(j:Int)+u)):=by
      show ov=_
      rw[hov,Hj.out,Hm.out]
      exact decide_eq_decide.2 Hhov.out.symm
     have Hov2:Hid (ov=decide (2139095040≤F+a)):=hov
     clear hov
     obtain⟨-,g0,g1,g2,g3,g4,g5,g6,g7,g8⟩:=h9.kept kx
     go_upto_region 35 with fail
     go_cut [149]from 138 (fun t wx=>t=.bool ov∧wx=w3)
     case first=>
      by_cases c1:(8388608:Int)≤(m:Int)
      ·by_cases c2:128<(j:Int)+u
       ·have HO:Hid (ov=true):=by show ov=true;rw[Hov.out];exact qos ⟨by omega,c2⟩
        go_wp2_with fail
        go_meet
        exact⟨by rw[HO.out],rfl⟩
       ·have HO:Hid (ov=false):=by show ov=false;rw[Hov.out];exact qot (fun g=>c2 g.2)
        go_wp2_with fail
        go_meet
        exact⟨by rw[HO.out]<;>simp[c2],rfl⟩
      ·have HO:Hid (ov=false):=by show ov=false;rw[Hov.out];exact qot (fun g=>c1 (by omega))
       go_wp2_with fail
       go_meet
       exact⟨by rw[HO.out],rfl⟩
     case rest=>
     obtain⟨rfl,hwc⟩:=hcut
     obtain rfl:w3=wc:=hwc.symm
     have hsgb:0≤sg∧sg≤2147483648:=by
      have:=Hsg.out
      rw[this]
      split<;>omega
     have hms:m<8388608→u=-149:=fun g=>by have:=Hs2.out;have:=Hm.out;omega
     cases ov
     ·have hin:¬2139095040≤F+a:=of_decide_eq_false Hov2.out.symm
      obtain⟨e1,e2⟩:=qlz way ng 2139095040 F _ _ _ a Ha.out hin
      have hnov:¬(8388608≤m∧128<(j:Int)+u):=of_decide_eq_false Hov.out.symm
      have hu1:u≤104∧(m=16777216→u≤103):=by
       by_cases hc:8388608≤m
       ·have hb:=Yl m hc hm2
        rw[←Hj.out]at hb
        by_cases h2:m=16777216
        ·rw[if_pos h2]at hb
         exact⟨by omega,fun _=>by omega⟩
        ·rw[if_neg h2]at hb
         exact⟨by omega,fun g=>absurd g h2⟩
       ·have:=hms (by omega)
        exact⟨by omega,fun g=>by omega⟩
      have KJ:Hid (∀v,Calls Tryz.prog 188 #[.agg #[.int .i64 32,.int .i64 24,.int .i64 8388608,.int .i64 255,.int .i64 (-149),.int .i64 128,.int .i64 2139095040,.int .i64 2147483648,.int .i64 2143289345],.int .i64 m,.int .i64 u] v fun e w'=>e=.returned (.int .i64 ((F+a:Nat):Int))∧Kept v w'):=fun v=>qd7 m u hm2 hlu hms hu1.1 hu1.2 _ (by rw[HFa.out,Hm.out]) v
      have HE1:Hid _:=e1
      have HE2:Hid _:=e2
      have hFb:((F+a:Nat):Int)<2139095040:=by omega
      have hF0:0≤((F+a:Nat):Int):=by omega
      clear e1 e2 hin hnov hu1 hms
      have HQ0:Hid (∃Q:Int,Q=((F+a:Nat):Int)):=⟨_,rfl⟩
      obtain⟨Q,hQ⟩:=HQ0.out
      rw[←hQ]at KJ hFb hF0
      have HQ:Hid (Q=((F+a:Nat):Int)):=hQ
      clear hQ HQ0
      go_wp2_with (first|(go_at_call 188;refine(KJ.out _).mono ?_;rintro e w5 ⟨rfl,k5⟩))
      go_ret2
      refine⟨yL ?_ ?_,hKX.trans (kx.trans k5)⟩
      ·rw[HE1.out,HQ.out]
      ·rw[HE2.out]
       exact Hox.out
     ·have hin:2139095040≤F+a:=of_decide_eq_true Hov2.out.symm
      obtain⟨e1,e2⟩:=qf5 way ng 2139095040 F _ _ _ a Ha.out hin
      have HE1:Hid _:=e1
      have HE2:Hid _:=e2
      clear e1 e2 hin hms
      obtain⟨bw,hbw⟩:∃bw,bw=awz way ng false true true:=⟨_,rfl⟩
      have Hbw:Hid (bw=awz way ng false true true):=hbw
      clear hbw
      go_upto_region 36 with fail
      go_cut [166]from 150 (fun t wx=>t=.bool bw∧wx=w3)
      case first=>
       have hbw:=Hbw.out
       rcases Hw.out with rfl|rfl|rfl
       ·have HO:Hid (bw=true):=hbw
        clear hbw
        go_wp2_with fail
        go_meet
        exact⟨by rw[HO.out],rfl⟩
       ·have HO:Hid (bw=ng):=hbw.trans (by cases ng<;>rfl)
        clear hbw
        cases ng
        all_goals
         go_wp2_with fail
         go_meet
         exact⟨by rw[HO.out],rfl⟩
       ·have HO:Hid (bw=!ng):=hbw.trans (by cases ng<;>rfl)
        clear hbw
        cases ng
        all_goals
         go_wp2_with fail
         go_meet
         exact⟨by rw[HO.out]<;>rfl,rfl⟩
      case rest=>
      obtain⟨rfl,hwc⟩:=hcut
      obtain rfl:w3=wc:=hwc.symm
      cases bw
      ·go_wp2_with fail
       go_ret2
       refine⟨yL ?_ ?_,hKX.trans kx⟩
       ·rw[HE1.out,←Hbw.out]
        simp
        omega
       ·rw[HE2.out]
      ·go_wp2_with fail
       go_ret2
       refine⟨yL ?_ ?_,hKX.trans kx⟩
       ·rw[HE1.out,←Hbw.out]
        simp
       ·rw[HE2.out]
    ·have y2:((y:Int)).tdiv 2=((y/2:Nat):Int):=by rw[Int.tdiv_eq_ediv_of_nonneg (by omega)];omega
     have hh:=XY y hy0
     have Hh:Hid (bl y=bl (y/2)+1):=hh
     have Hj:Hid (j+bl y=bl m):=hj
     have hjb:j≤100:=by omega
     clear hh hj hbm
     go_wp2_with fail
     exact⟨⟨j+1,y/2,by first|rfl|exact congrArg (Value.int .i64) (by omega),by first|rfl|exact congrArg (Value.int .i64) y2,by omega,by have:=Hj.out;have:=Hh.out;omega,trivial⟩,by simp[intOf]<;>omega⟩
  ·have hz:((i+1:Nat):Int)-1=(i:Int):=by omega
   rw[hz]
   obtain⟨b,off,rfl,hc⟩:=HA.out i (by omega)
   rw[HXA.out i]at hc
   have hst:=Qw k i
   rw[←hm]at hst
   obtain⟨dg,hdg⟩:∃y,k/2^(30*i)%1073741824=y:=⟨_,rfl⟩
   have hdl:dg<1073741824:=by rw[←hdg];exact Nat.mod_lt _ (by omega)
   rw[hdg]at hc hst
   have hq:k/2^(30*i)≤k:=Nat.div_le_self _ _
   have HM:Hid (m*1073741824+dg=k/2^(30*i)):=hst.symm
   have hmb:m*1073741824+dg<16777216:=by rw[←hst];omega
   have y1:IntKind.i64.wrap ((m:Int)*1073741824)=(m:Int)*1073741824:=by rw[qg];omega
   have y2:IntKind.i64.wrap ((m:Int)*1073741824+dg)=(m:Int)*1073741824+dg:=by rw[qg];omega
   have hin:(i:Int)<(n:Int):=by omega
   clear hm hst hq hdg HA HZ HXA hz
   go_wp2_with fail
   exact⟨⟨i,m*1073741824+dg,by omega,rfl,congrArg (Value.int .i64) (by omega),HM.out,trivial⟩,by simp[intOf]<;>omega⟩
theorem kQ (r:Nm)(hv:vld r=true)(hne:r.mag≠[]):digs (nv r.mag)=r.mag∧nv r.mag≠0∧r.mag.length≤2000∧-1048576≤r.exp∧r.exp≤1048576:=by
 have h0:=QX r hv hne
 obtain⟨hl,hD⟩:=ya r.neg r.mag r.exp hv
 unfold vld at hv
 rw[if_neg hne]at hv
 unfold ZR at hv
 simp only[Bool.and_eq_true,qor,bne_iff_ne]at hv
 exact⟨Zj r.mag hD (Or.inr hv.1.1.1.2),h0,by omega,by omega,by omega⟩
theorem qf6 (b:Int)(odd:Bool)(w:World):Calls Tryz.prog 182 #[.agg #[.int .i64 64,.int .i64 53,.int .i64 4503599627370496,.int .i64 2047,.int .i64 (-1074),.int .i64 1024,.int .i64 9218868437227405312,.int .i64 (-9223372036854775808),.int .i64 9221120237041090561],.int .i64 b,.bool odd] w fun e w'=>e=.returned (.tuple #[.int .i64 (if b=-9223372036854775808 then 0 else b),.bool odd])∧Kept w w':=by
 by_cases hb:b=-9223372036854775808
 ·rw[if_pos hb]
  subst hb
  go_enter Tryz.func182,Tryz.ntmps182
  go_wp2
  go_ret2
  exact⟨rfl,(qo0 _).alloc _ _⟩
 ·rw[if_neg hb]
  have hb2:(b==(-9223372036854775808))=false:=by simp[hb]
  go_enter Tryz.func182,Tryz.ntmps182
  go_wp2
  go_ret2
  exact⟨rfl,(qo0 _).alloc _ _⟩
theorem qf7 (b:Int)(odd:Bool)(w:World):Calls Tryz.prog 182 #[.agg #[.int .i64 32,.int .i64 24,.int .i64 8388608,.int .i64 255,.int .i64 (-149),.int .i64 128,.int .i64 2139095040,.int .i64 2147483648,.int .i64 2143289345],.int .i64 b,.bool odd] w fun e w'=>e=.returned (.tuple #[.int .i64 (if b=2147483648 then 0 else b),.bool odd])∧Kept w w':=by
 by_cases hb:b=2147483648
 ·rw[if_pos hb]
  subst hb
  go_enter Tryz.func182,Tryz.ntmps182
  go_wp2
  go_ret2
  exact⟨rfl,(qo0 _).alloc _ _⟩
 ·rw[if_neg hb]
  have hb2:(b==2147483648)=false:=by simp[hb]
  go_enter Tryz.func182,Tryz.ntmps182
  go_wp2
  go_ret2
  exact⟨rfl,(qo0 _).alloc _ _⟩
theorem qd8 {c D V k Q H F k' Q' H' F':Nat}{od hf rt od' hf' rt':Bool}(h:Cutz c D V k Q H F od hf rt)(h':Cutz c D V k' Q' H' F' od' hf' rt')(hm:∀r s,r<s→rv c r<rv c s)(way:Int)(hw:way=0∨way=1∨way=2)(ng:Bool)(inf:Nat):mgz way ng inf F od hf rt=mgz way ng inf F' od' hf' rt'∧odz way ng inf F od hf rt=odz way ng inf F' od' hf' rt':=by
 have hF:F=F':=by
  obtain⟨a1,a2⟩:=h.floor
  obtain⟨b1,b2⟩:=h'.floor
  have mono:∀r s,r≤s→rv c r*D≤rv c s*D:=fun r s g=>by
   rcases Nat.lt_or_eq_of_le g with g|g
   ·exact Nat.mul_le_mul_right D (Nat.le_of_lt (hm r s g))
   ·rw[g];exact qoo _
  rcases Nat.lt_trichotomy F F' with g|g|g
  ·have:=mono (F+1) F' g;omega
  ·exact g
  ·have:=mono (F'+1) F g;omega
 subst hF
 have e1:=h.cut.trans h'.cut.symm
 have e2:=h.near.trans h'.near.symm
 have ea:awz way ng od hf rt=awz way ng od' hf' rt':=by
  unfold awz
  rw[e1,e2]
 unfold mgz odz
 rw[ea,e1]
 exact⟨rfl,rfl⟩
theorem qf1 (h:Nat)(e u:Int)(m:Nat)(hm:u-e=(m:Int)+1):flo h (e-u)=h/2^(m+1)∧flo h (e-u+1)=h/2^m∧rst h (e-u+1)=(h%2^m != 0):=by
 have e1:e-u=-((m:Int)+1):=by omega
 have e2:e-u+1=-(m:Int):=by omega
 rw[e2,e1]
 refine⟨?_,?_,?_⟩
 ·unfold flo
  rw[if_neg (by omega),show(- -((m:Int)+1)).toNat=m+1 by omega]
 ·unfold flo
  by_cases h0:m=0
  ·subst h0;simp
  ·rw[if_neg (by omega),show(- -(m:Int)).toNat=m by omega]
 ·unfold rst
  by_cases h0:m=0
  ·subst h0;simp[Nat.mod_one]
  ·rw[if_neg (by omega),show(- -(m:Int)).toNat=m by omega]
theorem qf2 (n:Int)(hn:n=64∨n=32)(q:Nat)(e:Int)(hq:qM n+1≤(bl q:Int))(u:Int)(hu:unz (qM n).toNat (qk n) (bl q) e=u)(V D E:Nat)(more:Bool)(hE:0<E)(hh:q=V/E)(hm:more=decide (V%E≠0))(hQD:E*2^(u-e).toNat=2^(u-qk n).toNat*D)(k F:Nat)(hk:flo q (e-u)=k)(hF:F=(u-qk n).toNat*cbn n+k):∃Q H,Cutz (cbn n) D V k Q H F (decide (k%2=1)) (decide (flo q (e-u+1)%2=1)) (more||rst q (e-u+1)):=by
 obtain⟨p1,p2,p3⟩:=xz n hn
 obtain⟨c1,c2⟩:=Zt n hn
 have hq0:q≠0:=by
  intro h0
  rw[h0,xP]at hq
  omega
 obtain⟨b1,b2,b3⟩:=qO q hq0
 obtain⟨hb1,hb2⟩:=xU (qM n).toNat (qk n) q (bl q) e (by omega) b1 b2 b3
 rw[hu]at hb1 hb2
 have hue:e+1≤u:=by unfold unz at hu;omega
 obtain⟨m,hm2⟩:∃m:Nat,u-e=(m:Int)+1:=⟨(u-e-1).toNat,by omega⟩
 obtain⟨f1,f2,f3⟩:=qf1 q e u m hm2
 rw[hk]at hb1 hb2
 have hcp:0<cbn n:=by rw[c1];exact qoj _
 have hce:cbn n%2=0:=by
  rw[c1,show(qM n).toNat-1=((qM n).toNat-2)+1 by omega,qov];omega
 have hp:2*cbn n=2^(qM n).toNat:=by rw[c1,←Nat.pow_succ'];congr 1;omega
 rw[f2,f3]
 refine⟨_,_,Xq (cbn n) D V E q more (u-qk n).toNat m k F hcp hce hE hh hm (by rw[←f1,hk]) hF (by omega) ?_ ?_⟩
 ·rcases hb2 with g|g
  ·left;omega
  ·right;rw[c1];exact g
 ·rw[←hQD,show(u-e).toNat=m+1 by omega]
theorem J8 (A B sh p:Nat)(hA:A≠0)(hB:B≠0)(h:bl B+p+2≤bl A+sh):p+2≤bl (A*2^sh/B):=by
 obtain⟨a1,a2,a3⟩:=qO A hA
 obtain⟨b1,b2,b3⟩:=qO B hB
 have h1:2^(p+1)≤A*2^sh/B:=by
  rw[Nat.le_div_iff_mul_le (by omega)]
  have h2:2^(p+1)*B≤2^(p+1)*2^bl B:=Nat.mul_le_mul_left _ (by omega)
  have h3:2^(bl A-1)*2^sh≤A*2^sh:=Nat.mul_le_mul_right _ a1
  rw[←qol]at h2 h3
  have h4:2^(p+1+bl B)≤2^(bl A-1+sh):=qom (by decide) (by omega)
  omega
 obtain⟨q1,q2,q3⟩:=qO (A*2^sh/B) (by have:=qoj (p+1);omega)
 have:=(Nat.pow_lt_pow_iff_right (by decide:1<2)).1 (Nat.lt_of_le_of_lt h1 q2)
 omega
theorem qd3 (n:Int)(hn:n=64∨n=32)(A B:Nat)(hA:A≠0)(hB:B≠0)(xa xb s e:Int)(sh:Nat)(hsh:(bl B:Int)+qM n+2≤(bl A:Int)+sh)(he:e=xa-xb-sh)(hs1:s≤e)(hs2:s≤xb)(hs3:s<qk n)(u:Int)(hu:unz (qM n).toNat (qk n) (bl (A*2^sh/B)) e=u)(k F:Nat)(hk:flo (A*2^sh/B) (e-u)=k)(hF:F=(u-qk n).toNat*cbn n+k):∃Q H,Cutz (cbn n) (2^(qk n-s).toNat*(B*2^(xb-s).toNat)) (A*2^(xa-2*s).toNat) k Q H F (decide (k%2=1)) (decide (flo (A*2^sh/B) (e-u+1)%2=1)) (decide (A*2^sh%B≠0)||rst (A*2^sh/B) (e-u+1)):=by
 obtain⟨p1,p2,p3⟩:=xz n hn
 have hqb:=J8 A B sh (qM n).toNat hA hB (by omega)
 have hlu:qk n≤u:=by unfold unz at hu;omega
 have hue:e+1≤u:=by unfold unz at hu;omega
 have hVE:A*2^(xa-2*s).toNat=A*2^sh*(2^(xb-s).toNat*2^(e-s).toNat):=by
  rw[qop,←qol,←qol];congr 2;omega
 have hP:0<2^(xb-s).toNat*2^(e-s).toNat:=Nat.mul_pos (qoj _) (qoj _)
 refine qf2 n hn _ e (by omega) u hu _ _ (B*(2^(xb-s).toNat*2^(e-s).toNat)) _ (Nat.mul_pos (by omega) hP) ?_ ?_ ?_ k F hk hF
 ·rw[hVE,Nat.mul_div_mul_right _ _ hP]
 ·rw[hVE,Nat.mul_mod_mul_right]
  apply decide_eq_decide.2
  have hP':=hP
  generalize 2^(xb-s).toNat*2^(e-s).toNat=P at *
  constructor
  ·intro g h0
   rcases Nat.mul_eq_zero.1 h0 with h0|h0<;>omega
  ·intro g h0
   rw[h0]at g;simp at g
 ·have e1:2^(e-s).toNat*2^(u-e).toNat=2^(u-qk n).toNat*2^(qk n-s).toNat:=by
   rw[←qol,←qol];congr 1;omega
  rw[qop,qop,e1]
  generalize 2^(xb-s).toNat=P1
  generalize 2^(u-qk n).toNat=P2
  generalize 2^(qk n-s).toNat=P3
  simp only[qoq,Nat.mul_left_comm,qop]
theorem qmh (w:World):RL (w.alloc (.cells #[.int .i64 1] 3)) (.slice (some ⟨w.heap.size,0,none⟩) 1 1) (digs 1):=by
 have h1:digs 1=[1]:=by decide
 rw[h1]
 refine⟨some ⟨w.heap.size,0,none⟩,1,rfl,fun h=>by simp at h,some ⟨w.heap.size,0,none⟩,1,rfl,qoo _,by simp[maxLen],fun _=>⟨w.heap.size,0,rfl,by simp[go_sem],?_⟩⟩
 intro i hi
 obtain rfl:i=0:=by simp at hi;exact hi
 simp[go_sem]
theorem Ym (S A:Nat)(h:S≤A):(digs S).length≤(digs A).length:=qC S _ (Nat.lt_of_le_of_lt h (qS A _ (qoo _)))
theorem RLp.grw {H g:Nat}{w w':World}{v:Value}{M:List Int}(h:RLp (qn H) w v M)(k:Grw g w w')(hg:g<H):RLp (qn H) w' v M:=by
 obtain⟨ao,c,e,hn,⟨ao',cap',e',h1,h2,hrd⟩,hP⟩:=h
 cases e'
 refine⟨ao,c,e,hn,⟨ao,c,rfl,h1,h2,fun hne=>?_⟩,hP⟩
 obtain⟨b,off,rfl,hb,rd⟩:=hrd hne
 have hbg:b≠g:=by
  have h5:H≤b:=hP b off hne rfl
  omega
 have blk:=k.grown.block b hb (by simpa using hbg)
 refine⟨b,off,rfl,qok hb k.grown.size,fun i hi=>?_⟩
 have:=rd i hi
 simp only[World.cell?]at this ⊢
 rw[blk]
 exact this
theorem qaw (x:Nat):∀(L:List Int) (f:Nat),Dg L→f<L.length→nv (L.set f (L.getD f 0+(x:Int)))=nv L+x*2^(30*f):=by
 intro L
 induction L with
 |nil=>intro f _ hf;simp at hf
 | cons d L ih=>
  intro f hD hf
  cases f with
  |zero=>
   have:=hD.head
   simp only[List.set_cons_zero,List.getD_cons_zero,nv,Nat.mul_zero,Nat.pow_zero,Nat.mul_one]
   omega
  |succ f=>
   have hf':f<L.length:=by simpa using hf
   have h1:=ih f hD.tail hf'
   simp only[List.set_cons_succ,List.getD_cons_succ,nv]
   rw[h1,yD,Nat.mul_add,←qop x,qoq 1073741824 (x*2^(30*f))]
   omega
theorem qjn (D:List Int)(hD:Dg D)(i Q:Nat)(hv:nv D=Q*2^(i+1))(hf:i/30<D.length):Dg (D.set (i/30) (D.getD (i/30) 0+((2^(i%30):Nat):Int)))∧nv (D.set (i/30) (D.getD (i/30) 0+((2^(i%30):Nat):Int)))=(2*Q+1)*2^i∧D.getD (i/30) 0+((2^(i%30):Nat):Int)<1073741824:=by
 have hs:i%30<30:=by omega
 have h1:=zZ D hD (i/30)
 have hg:=hD.getD (i/30)
 have e1:nv D/2^(30*(i/30))=Q*2^(i%30+1):=by
  rw[hv,show i+1=30*(i/30)+(i%30+1) by omega,qol,←qop,qoq Q,qop,Nat.mul_div_cancel_left _ (qoj _)]
 rw[e1]at h1
 have e2:(1073741824:Nat)=2^(29-i%30)*2^(i%30+1):=by rw[←qol,show 29-i%30+(i%30+1)=30 by omega]
 have e3:Q*2^(i%30+1)%1073741824=Q%2^(29-i%30)*2^(i%30+1):=by rw[e2,Nat.mul_mod_mul_right]
 have e4:Q%2^(29-i%30)<2^(29-i%30):=Nat.mod_lt _ (qoj _)
 have e5:Q%2^(29-i%30)*2^(i%30+1)+2^(i%30+1)≤1073741824:=by
  rw[e2,←Nat.succ_mul]
  exact Nat.mul_le_mul_right _ e4
 have e6:2^(i%30+1)=2^(i%30)*2:=qov _ _
 have hlt:D.getD (i/30) 0+((2^(i%30):Nat):Int)<1073741824:=by
  rw[e3]at h1
  have:=qoj (i%30)
  omega
 refine⟨hD.put _ _ (by omega) hlt,?_,hlt⟩
 rw[qaw _ D _ hD hf,hv,←qol,show i%30+30*(i/30)=i by omega,qov,Nat.add_mul,Nat.one_mul,qoq 2 Q,qop,qoq 2 (2^i)]
theorem qf8 (A B i:Nat)(hB:0<B)(R:Nat)(hR:R=2*(A/2^(i+1)%B)+A/2^i%2):
  (B≤R→R-B=A/2^i%B∧2*(A/2^(i+1)/B)+1=A/2^i/B)∧(¬B≤R→R=A/2^i%B∧2*(A/2^(i+1)/B)=A/2^i/B):=by
 have hX:A/2^(i+1)=A/2^i/2:=by rw[qov,Nat.div_div_eq_div_mul]
 rw[hX]at hR ⊢
 generalize A/2^i=Y at *
 have h1:=Nat.div_add_mod Y 2
 have h2:=Nat.div_add_mod (Y/2) B
 have h3:=Nat.mod_lt (Y/2) hB
 generalize Y/2/B=Q at *
 generalize Y/2%B=M at *
 have hY:Y=B*(2*Q)+R:=by
  rw[←qop,qoq B 2,qop]
  omega
 refine⟨fun h=>?_,fun h=>?_⟩
 ·have e:Y=(R-B)+B*(2*Q+1):=by rw[Nat.mul_add,Nat.mul_one];omega
  rw[e,Nat.add_mul_mod_self_left,Nat.mod_eq_of_lt (by omega),Nat.add_mul_div_left _ _ hB,Nat.div_eq_of_lt (by omega)]
  omega
 ·have e:Y=R+B*(2*Q):=by omega
  rw[e,Nat.add_mul_mod_self_left,Nat.mod_eq_of_lt (by omega),Nat.add_mul_div_left _ _ hB,Nat.div_eq_of_lt (by omega)]
  omega
theorem qf9 (d u:Int)(h:0≤d∧d<1073741824)(h2:1≤u)(h3:u≤536870912):IntKind.i64.wrap (d+u)=d+u:=by rw[qg];omega
theorem qax (w:World)(A B:Nat)(va vb:Value)(hA:RL w va (digs A))(hB:RL w vb (digs B))(hB0:B≠0)(hbl:bl B≤bl A)(la:(digs A).length<20000)(lb:(digs B).length<20000):Calls Tryz.prog 186 #[va,vb] w fun e w'=>∃r1 r2,e=.returned (.tuple #[r1,r2])∧RL w' r1 (digs (A/B))∧RL w' r2 (digs (A%B))∧Kept w w':=by
 have hT9:bl A≤600000:=by
  have:=zg A (30*(digs A).length) (qS A _ (qoo _))
  omega
 have hA0:A≠0:=by
  intro h
  have:=(qO B hB0).2.2
  rw[h,xP]at hbl
  omega
 obtain⟨n,hn⟩:∃n,(digs A).length=n:=⟨_,rfl⟩
 obtain⟨k,hk⟩:∃k,k=bl A-bl B:=⟨_,rfl⟩
 have hAn:A<2^(30*n):=qS A n (by omega)
 have hkn:k/30<n:=by
  have h1:=(qO A hA0).1
  have h2:bl A≤30*n:=zg A _ hAn
  have h3:=(qO B hB0).2.2
  omega
 have KB:Hid (∀v x X,RL v x (digs X)→(digs X).length<20000→Calls Tryz.prog 185 #[x] v fun e w'=>e=.returned (.int .i64 (bl X:Int))∧v=w'):=fun v x X hx hl=>xM v X x hx (by omega)
 have hBp:0<B:=by omega
 have HLn:Hid (∀X,X<2*B→(digs X).length<20002):=fun X hX=>by
  obtain⟨b,hb⟩:∃b,b=(digs B).length:=⟨_,rfl⟩
  have h1:B<2^(30*b):=qS B b (by omega)
  have h2:=yD b
  have:=qC X (b+1) (by rw[h2];generalize 2^(30*b)=P at *;omega)
  omega
 have Hst:Hid (A/2^k=2*(A/2^(k+1)%B)+A/2^k%2∧A/2^(k+1)/B=0):=by
  have h1:=(qO A hA0).2.1
  have h2:=(qO B hB0)
  have h3:A/2^(k+1)<B:=by
   refine qok (Nat.div_lt_of_lt_mul ?_) h2.1
   rw[←qol,show k+1+(bl B-1)=bl A by omega]
   exact h1
  have h4:A/2^(k+1)=A/2^k/2:=by rw[qov,Nat.div_div_eq_div_mul]
  refine⟨?_,Nat.div_eq_of_lt h3⟩
  rw[Nat.mod_eq_of_lt h3,h4]
  omega
 have hkk:(bl A:Int)-(bl B:Int)=(k:Int):=by omega
 have hk9:k≤600000:=by omega
 have hn9:n<20000:=by omega
 have hA':=hA
 obtain⟨a1,c1,rfl,-,-⟩:=hA'.at
 rw[hn]at hA ⊢
 have HA:Hid (RL w (.slice a1 n c1) (digs A)):=hA
 have HB:Hid (RL w vb (digs B)):=hB
 have HW:=vt n (by omega)
 obtain⟨W1,hW1⟩:∃W1,W1=w.alloc (.cells (madeCells #[.int .i64 0] n) 3):=⟨_,rfl⟩
 have k1:Kept w W1:=by rw[hW1];exact(qo0 w).alloc _ _
 have hs1:W1.heap.size=w.heap.size+1:=by rw[hW1];simp[go_sem]
 have HO1:Hid (Own W1 w.heap.size n (List.replicate n 0)):=by rw[hW1];exact vu n (by omega) w
 have KR:Hid (∀v,Kept W1 v→Calls Tryz.prog 127 #[.slice a1 n c1,.int .i64 (k:Int)] v fun e w'=>(∃r,e=.returned r∧RLp (qn (w.heap.size+1)) w' r (digs (A/2^k)))∧Kept v w'):=fun v kv=>by
  refine(vR v (digs A) k _ (hA.kept (k1.trans kv)) (za A) (by omega) (by omega)).mono ?_
  rintro e w' ⟨⟨r,rfl,hr⟩,hk⟩
  rw[qQ]at hr
  exact⟨⟨r,rfl,hr.imp fun b hb=>by have h5:v.heap.size≤b:=hb;have:=kv.below.size;show w.heap.size+1≤b;omega⟩,hk⟩
 have HK:Hid (∀u,Grw w.heap.size W1 u→Kept w u):=fun u hu=>k1.grw (qoo _) hu
 have hla:(digs A).length<20000:=la
 have hT1:=hT9
 clear hA hA' hB hk hAn la hA0
 go_enter Tryz.func186,Tryz.ntmps186
 go_upto_region 4 with (first|(go_at_call 185;refine(KB.out _ _ _ (by first|exact HA.out|exact HB.out) (by first|exact hla|exact lb)).mono ?_;rintro e w1 ⟨rfl,rfl⟩))
 go_upto_region 5 with fail
 rw[←hW1]
 clear hW1 HW hkk hbl hT9 hT1 KB
 go_upto_region 7 with (first|(go_at_call 127;refine(KR.out _ (qo0 W1)).mono ?_;rintro e w2 ⟨⟨r2,rfl,hr2⟩,k2⟩))
 have HG2:Hid (Grw w.heap.size W1 w2):=k2.toGrw _
 have hs2:=k2.below.size
 go_loopw [8,9] (fun rv iv wr=>∃(i R:Nat) (D:List Int),i≤k∧iv=.int .i64 (i:Int)∧RLp (qn (w.heap.size+1)) wr rv (digs R)∧R=2*(A/2^(i+1)%B)+A/2^i%2∧Own wr w.heap.size n D∧D.length=n∧Dg D∧nv D=A/2^(i+1)/B*2^(i+1)∧Grw w.heap.size W1 wr∧w.heap.size+1≤wr.heap.size) (fun _ iv _=>(intOf iv).toNat)
 case atStart=>exact⟨k,_,_,qoo _,rfl,hr2,Hst.out.1,HO1.out.kept k2,by simp,fun d hd=>by rw[List.eq_of_mem_replicate hd];decide,by rw[Hst.out.2,Nat.zero_mul];exact(jj _ (fun d hd=>by rw[List.eq_of_mem_replicate hd];decide)).2 (fun j=>zI n j),HG2.out,by omega⟩
 case round=>
  obtain⟨i,R,D,hi,rfl,hr,hR,hO,hDl,hD,hv,hG,hsz⟩:=hrel
  clear hr2 k2 HO1 HG2 Hst KR hs2
  have hKr:=HK.out _ hG
  have hRB:R<2*B:=by
   have:=Nat.mod_lt (A/2^(i+1)) hBp
   have:=Nat.mod_lt (A/2^i) (show 0<2 by omega)
   omega
  have hRl:=HLn.out R hRB
  obtain⟨dn1,dn2⟩:=qf8 A B i hBp R hR
  have Hr:Hid (∀v,Kept wr v→RL v u8 (digs R)∧RLp (qn (w.heap.size+1)) v u8 (digs R)):=fun v kv=>⟨(hr.kept kv).rl,hr.kept kv⟩
  have HO:Hid (∀v,Kept wr v→Own v w.heap.size n D):=fun v kv=>hO.kept kv
  have HG:Hid (Grw w.heap.size W1 wr):=hG
  have HD:Hid (Dg D):=hD
  have Hv:Hid (nv D=A/2^(i+1)/B*2^(i+1)):=hv
  have hi9:i≤600000:=by omega
  have hin:i/30<n:=by omega
  have KCm:Hid (∀v,Kept wr v→Calls Tryz.prog 124 #[u8,vb] v fun e w'=>e=.returned (.int .i64 (cz (R:Int) (B:Int)))∧Kept v w'):=fun v kv=>JF v R B _ vb (hr.kept kv).rl (HB.out.kept (hKr.trans kv)) (by omega) (by omega)
  clear hr hO hG hD hv hR
  have Hz:Hid ((B≤R→0≤cz (R:Int) (B:Int))∧(¬B≤R→¬0≤cz (R:Int) (B:Int))):=by
   refine⟨fun hle=>?_,fun hle=>?_⟩
   ·rcases Nat.lt_or_eq_of_le hle with g|g
    ·rw[Jo (by omega)];decide
    ·rw[XJ (by rw[g])];decide
   ·rw[QZ (by omega)];decide
  have HR:Hid (∀v,Kept wr v→B≤R→Calls Tryz.prog 125 #[u8,vb] v fun e w'=>(∃r,e=.returned r∧RLp (qn (w.heap.size+1)) w' r (digs (A/2^i%B)))∧Kept v w'):=fun v kv hle=>by
   refine(kN v R B hle _ vb (Hr.out v kv).1 (HB.out.kept (hKr.trans kv)) (by omega) (by omega)).mono ?_
   rintro e w' ⟨⟨r,rfl,hr⟩,hk⟩
   rw[(dn1 hle).1]at hr
   exact⟨⟨r,rfl,hr.imp fun b hb=>by have h5:v.heap.size≤b:=hb;have:=kv.below.size;show w.heap.size+1≤b;omega⟩,hk⟩
  have Hd1:Hid (B≤R→2*(A/2^(i+1)/B)+1=A/2^i/B):=fun h=>(dn1 h).2
  have Hd2:Hid (¬B≤R→R=A/2^i%B∧2*(A/2^(i+1)/B)=A/2^i/B):=dn2
  clear dn1 dn2
  generalize cz (R:Int) (B:Int)=z at *
  go_upto_if 33 with (first|(go_at_call 124;refine(KCm.out _ (qo0 _)).mono ?_;rintro e w3 ⟨rfl,k3⟩))
  go_cut [8]from 26 to 60 (fun t wx=>∃D':List Int,RLp (qn (w.heap.size+1)) wx t (digs (A/2^i%B))∧Own wx w.heap.size n D'∧D'.length=n∧Dg D'∧nv D'=A/2^i/B*2^i∧Grw w.heap.size W1 wx∧w.heap.size+1≤wx.heap.size)
  case first=>
   by_cases hle:B≤R
   ·have hz0:=Hz.out.1 hle
    have Hle:Hid (B≤R):=hle
    obtain⟨sb1,sb2,sb3⟩:=qjn D HD.out i _ Hv.out (by omega)
    rw[Hd1.out hle]at sb2
    have Hs1:Hid (Dg (D.set (i/30) (D.getD (i/30) 0+((2^(i%30):Nat):Int)))):=sb1
    have Hs2:Hid (nv (D.set (i/30) (D.getD (i/30) 0+((2^(i%30):Nat):Int)))=A/2^i/B*2^i):=sb2
    have y2:((i:Int)).tdiv 30=((i/30:Nat):Int):=by rw[Int.tdiv_eq_ediv_of_nonneg (by omega)];omega
    have y1:((i:Int)).tmod 30=((i%30:Nat):Int):=by rw[Int.tmod_eq_emod_of_nonneg (by omega)];omega
    have hq9:i/30≤20000∧i%30<30:=by omega
    clear sb1 sb2 hle Hd1 Hd2 Hz KCm
    go_upto_region 11 with (first|(go_at_call 125;refine(HR.out _ k3 Hle.out).mono ?_;rintro e w4 ⟨⟨r4,rfl,hr4⟩,k4⟩))
    have hO4:=HO.out w4 (k3.trans k4)
    have hcl:=hO4.cell (i/30) (by omega)
    have hfr:=hO4.free (i/30)
    have hgd:=HD.out.getD (i/30)
    obtain⟨y3,y4,y5,y6,y7,y8⟩:=kM (i%30) hq9.2 _ rfl
    have HOn:Hid (∀x:Int,Own (w4.setCell ⟨w.heap.size,i/30,none⟩ (.int .i64 x)) w.heap.size n (D.set (i/30) x)):=fun x=>hO4.set _ _
    have z1:=qf9 _ _ hgd y7 y8
    have hGx:Hid (∀x:Value,Grw w.heap.size w4 (w4.setCell ⟨w.heap.size,i/30,none⟩ x)):=fun x=>(Grw.refl _ _).setCell _ _
    have HG4:Hid (Grw w.heap.size W1 w4):=HG.out.trans ((k3.trans k4).toGrw _)
    have hs4:w.heap.size+1≤w4.heap.size:=qou hsz (k3.trans k4).below.size
    have Hr4:Hid (∀x:Value,RLp (qn (w.heap.size+1)) (w4.setCell ⟨w.heap.size,i/30,none⟩ x) r4 (digs (A/2^i%B))):=fun x=>hr4.grw (hGx.out x) (by omega)
    have hfn:((i/30:Nat):Int)<(n:Int):=by omega
    generalize i/30=f at *
    generalize i%30=s at *
    generalize ((2^s:Nat):Int)=un at *
    generalize hdd:D.getD f 0=dd at *
    have hcd:w4.drew.cell? ⟨w.heap.size,f,none⟩=some (.int .i64 dd):=hcl
    have hfd:w4.drew.frozen? ⟨w.heap.size,f,none⟩=false:=hfr
    clear hO4 hdd hr4 HO HD Hv Hr HR HLn HG hgd HA HB HK
    go_region
    go_wp2_with fail
    go_meet
    have kd:=(qo0 (w4.setCell ⟨w.heap.size,f,none⟩ (.int .i64 (dd+un)))).drew
    exact⟨_,(Hr4.out _).kept kd,(HOn.out _).kept kd,by rw[List.length_set];exact hDl,Hs1.out,Hs2.out,(HG4.out.trans (hGx.out _)).trans (kd.toGrw _),by simpa [go_sem] using hs4⟩
   ·have hz0:=Hz.out.2 hle
    have e1:=Hd2.out hle
    have He:Hid (R=A/2^i%B∧2*(A/2^(i+1)/B)=A/2^i/B):=e1
    clear e1 hle Hd1 Hd2 Hz KCm HR
    go_wp2_with fail
    go_meet
    refine⟨D,by rw[←He.out.1];exact(Hr.out _ k3).2,HO.out _ k3,hDl,HD.out,?_,HG.out.trans (k3.toGrw _),qou hsz k3.below.size⟩
    rw[Hv.out,←He.out.2,qov,qoq 2,qop,qoq 2 (2^i)]
  case rest=>
   obtain⟨D',hr',hO',hDl',hD',hv',hG',hsz'⟩:=hcut
   rename World=>w5
   clear Hr HO HG HD Hv KCm Hz HR Hd1 Hd2 k3 hKr hRB hRl hDl
   have hK5:=HK.out _ hG'
   have hm:=Nat.mod_lt (A/2^i) hBp
   have hml:=HLn.out _ (show A/2^i%B<2*B by omega)
   by_cases hi0:i=0
   ·subst hi0
    rw[Nat.pow_zero,Nat.div_one]at hr' hv'
    rw[Nat.mul_one]at hv'
    have KT:Hid (Calls Tryz.prog 152 #[.slice (some ⟨w.heap.size,0,none⟩) n n] w5 fun e w'=>(∃r,e=.returned r∧RL w5 r (digs (A/B)))∧w5=w'):=by
     have:=yC w.heap.size w5 (.slice (some ⟨w.heap.size,0,none⟩) n n) D' (.inr ⟨w.heap.size,n,by rw[hDl'],qoo _,hO'⟩) hD' (by omega)
     rw[hv']at this
     refine Calls.mono this ?_
     rintro e w' ⟨⟨r,rfl,hr⟩,rfl⟩
     exact⟨⟨r,rfl,hr.rl⟩,rfl⟩
    have Hr5:Hid (RL w5 u8 (digs (A%B))):=hr'.rl
    clear hr' hv' hO' hD' hG' HLn HA HB HK
    go_wp2_with (first|(go_at_call 152;refine(KT.out).mono ?_;rintro e w6 ⟨⟨r6,rfl,hr6⟩,rfl⟩))
    go_ret2
    exact⟨_,_,rfl,hr6,Hr5.out,hK5⟩
   ·obtain⟨j,rfl⟩:∃j,i=j+1:=⟨i-1,by omega⟩
    have hib:(((j+1:Nat):Int)==0)=false:=by simp;omega
    have hi1:((j+1:Nat):Int)-1=(j:Int):=by omega
    have KSh:Hid (Calls Tryz.prog 122 #[u8,.int .i64 1] w5 fun e w'=>(∃r,e=.returned r∧RLp (qn (w.heap.size+1)) w' r (digs (A/2^(j+1)%B*2)))∧Kept w5 w'):=by
     have:=jE w5 (A/2^(j+1)%B) 1 u8 hr'.rl (by omega) (by omega)
     refine Calls.mono this ?_
     rintro e w' ⟨⟨r,rfl,hr⟩,hk⟩
     rw[Nat.pow_one]at hr
     exact⟨⟨r,rfl,hr.imp fun b hb=>by have h5:w5.heap.size≤b:=hb;show w.heap.size+1≤b;omega⟩,hk⟩
    have hm2:=HLn.out _ (show A/2^(j+1)%B*2<2*B by omega)
    have KBt:Hid (∀v,Kept w5 v→Calls Tryz.prog 187 #[.slice a1 n c1,.int .i64 (j:Int)] v fun e w'=>e=.returned (.bool (decide (A/2^j%2=1)))∧Kept v w'):=fun v kv=>by
     have:=km v A _ (HA.out.kept (hK5.trans kv)) (by omega) (j:Int) (by omega) (by omega)
     rw[Yd,if_neg (by omega),Int.toNat_natCast]at this
     exact this
    have KAd:Hid (∀v r,w.heap.size+1≤v.heap.size→RLp (qn (w.heap.size+1)) v r (digs (A/2^(j+1)%B*2))→Calls Tryz.prog 123 #[r,.slice (some ⟨v.heap.size,0,none⟩) 1 1] (v.alloc (.cells #[.int .i64 1] 3)) fun e w'=>(∃r,e=.returned r∧RLp (qn (w.heap.size+1)) w' r (digs (A/2^(j+1)%B*2+1)))∧Kept v w'):=fun v r hs hr=>by
     have ka:=(qo0 v).alloc #[.int .i64 1] 3
     refine(JE _ _ 1 r _ (hr.kept ka).rl (qmh v) (by omega) (by decide)).mono ?_
     rintro e w' ⟨⟨r,rfl,hr⟩,hk⟩
     have:=ka.below.size
     exact⟨⟨r,rfl,hr.imp fun b hb=>by have h5:(v.alloc (.cells #[.int .i64 1] 3)).heap.size≤b:=hb;show w.heap.size+1≤b;omega⟩,ka.trans hk⟩
    have HO5:Hid (∀v,Kept w5 v→Own v w.heap.size n D'):=fun v kv=>hO'.kept kv
    have HG5:Hid (Grw w.heap.size W1 w5):=hG'
    have Hv5:Hid (nv D'=A/2^(j+1)/B*2^(j+1)):=hv'
    have HD5:Hid (Dg D'):=hD'
    clear hr' hv' hO' hD' hG' HLn HA HB HK hm hml
    by_cases hb:A/2^j%2=1
    ·rw[qos hb]at KBt
     have Hb:Hid (A/2^j%2=1):=hb
     clear hb
     go_wp2_with (first|(go_at_call 122;refine(KSh.out).mono ?_;rintro e w6 ⟨⟨r6,rfl,hr6⟩,k6⟩)|(go_at_call 187;refine(KBt.out _ k6).mono ?_;rintro e w7 ⟨rfl,k7⟩)|(go_at_call 123;refine(KAd.out _ _ (qou hsz' (k6.trans k7).below.size) (hr6.kept k7)).mono ?_;rintro e w8 ⟨⟨r8,rfl,hr8⟩,k8⟩))
     have k9:=k6.trans (k7.trans k8)
     exact⟨⟨j,_,D',by omega,rfl,hr8,by rw[Hb.out];omega,HO5.out _ k9,hDl',HD5.out,Hv5.out,HG5.out.trans (k9.toGrw _),qou hsz' k9.below.size⟩,by simp[intOf]<;>omega⟩
    ·rw[qot hb]at KBt
     have Hb:Hid (A/2^j%2=0):=by
      show A/2^j%2=0
      omega
     clear hb
     go_wp2_with (first|(go_at_call 122;refine(KSh.out).mono ?_;rintro e w6 ⟨⟨r6,rfl,hr6⟩,k6⟩)|(go_at_call 187;refine(KBt.out _ k6).mono ?_;rintro e w7 ⟨rfl,k7⟩))
     have k9:=k6.trans k7
     exact⟨⟨j,_,D',by omega,rfl,hr6.kept k7,by rw[Hb.out];omega,HO5.out _ k9,hDl',HD5.out,Hv5.out,HG5.out.trans (k9.toGrw _),qou hsz' k9.below.size⟩,by simp[intOf]<;>omega⟩
end Go.Proofs.YtaglkncdedeipaaGreatDoor
