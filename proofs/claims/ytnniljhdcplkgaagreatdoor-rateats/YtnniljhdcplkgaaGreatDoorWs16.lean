/-  -/
import Derived.Test.YtnniljhdcplkgaaGreatDoorWs15
import Derived.Deep.CutBlock
namespace Go.Proofs.YtnniljhdcplkgaaGreatDoor
open Go.ChangeShapes Go.WideShapes Go.ChangeAt Go.RowKit
set_option maxHeartbeats 16000000
set_option maxRecDepth 100000
set_option linter.unusedVariables false
set_option linter.unusedSimpArgs false
theorem rcut_32 (way:Int)(hw:way=0∨way=1∨way=2)(ng:Bool)(V:Nat)(hV:V≠0)(x:Int)(more:Bool)(va:Value)(w:World)(hL:RL w va (digs V))(hlen:(digs V).length<30000)(hx1:-10000000≤x)(hx2:x≤10000000)(u:Int)(hu:unz 24 (-149) (bl V) x=u)(k:Nat)(hk:flo V (x-u)=k)(F:Nat)(hF:F=(u-(-149)).toNat*8388608+k)(od hf rt:Bool)(hod:od=decide (k%2=1))(hhf:hf=decide (flo V (x-u+1)%2=1))(hrt:rt=(more||rst V (x-u+1)))(sg:Int)(hsg:sg=if ng=true then 2147483648 else 0):
  Calls Tryz.prog 58 #[.agg #[.int .i64 32,.int .i64 24,.int .i64 8388608,.int .i64 255,.int .i64 (-149),.int .i64 128,.int .i64 2139095040,.int .i64 2147483648,.int .i64 2143289345],.bool ng,va,.int .i64 x,.bool more,.int .i64 way] w fun e w'=>e=.returned (.tuple #[.int .i64 (sg+(mgz way ng 2139095040 F od hf rt:Nat)),.bool (odz way ng 2139095040 F od hf rt)])∧Kept w w':=by
 obtain⟨hk2,hs,hlu,huu⟩:=cut_bounds_32 V hV x u hu k hk
 have hT9:bl V≤900000:=by
  have:=bl_le V (30*(digs V).length) (digs_lt V _ (Nat.le_refl _))
  omega
 have hub:-2000≤u∧u≤30000000:=by omega
 have Hs2:Hid (u=-149∨8388608≤k):=hs
 obtain⟨low,hlow⟩:∃low,low=u-x:=⟨_,rfl⟩
 obtain⟨a,ha⟩:∃a:Nat,a=(awz way ng od hf rt).toNat:=⟨_,rfl⟩
 have ha1:a≤1:=by rw[ha];cases awz way ng od hf rt<;>decide
 have hov:=over_32 u k a F ha1 hk2 hlu hs hF
 have hFa:((F+a:Nat):Int)=(u+149)*8388608+((k+a:Nat):Int):=by rw[hF];omega
 have KB:Hid (∀v,Kept w v→Calls Tryz.prog 55 #[va] v fun e w'=>e=.returned (.int .i64 (bl V:Int))∧v=w'):=fun v kv=>natBits_any v V va (hL.kept kv) (by omega)
 have KR:Hid (∀v,Kept w v→∀s:Nat,s<100000000→Calls Tryz.prog 85 #[va,.int .i64 (s:Int)] v fun e w'=>(∃r,e=.returned r∧RL w' r (digs (V/2^s)))∧Kept v w'):=fun v kv s hs=>by
  refine(natShr_any v (digs V) s va (hL.kept kv) (dg_digs V) (by omega) hs).mono ?_
  rintro e w' ⟨⟨r,rfl,hr⟩,hk⟩
  rw[nv_digs]at hr
  exact⟨⟨r,rfl,hr.rl⟩,hk⟩
 have KLf:Hid (∀v,Kept w v→∀s:Nat,s<10000000→Calls Tryz.prog 54 #[va,.int .i64 (s:Int)] v fun e w'=>(∃r,e=.returned r∧RL w' r (digs (V*2^s)))∧Kept v w'):=fun v kv s hs=>by
  refine(natShl_any v V s va (hL.kept kv) (by omega) hs).mono ?_
  rintro e w' ⟨⟨r,rfl,hr⟩,hk⟩
  exact⟨⟨r,rfl,hr.rl⟩,hk⟩
 have hhf':bitz V (low-1)=hf:=by rw[bit_half,hhf,hlow,show 1-(u-x)=x-u+1 by omega]
 have KH:Hid (∀v,Kept w v→Calls Tryz.prog 88 #[va,.int .i64 (low-1)] v fun e w'=>e=.returned (.bool hf)∧Kept v w'):=fun v kv=>by
  have:=natBit_any v V va (hL.kept kv) (by omega) (low-1) (by omega) (by omega)
  rw[hhf']at this
  exact this
 have KL:Hid (∀v,Kept w v→Calls Tryz.prog 84 #[va] v fun e w'=>e=.returned (.int .i64 (tzn V:Int))∧v=w'):=fun v kv=>by
  have:=natLow_any v va (digs V) (hL.kept kv) (dg_digs V) (by omega)
  rw[nv_digs,lowz,if_neg hV]at this
  exact this
 have hrt':rt=(more||decide (0<low-1∧(tzn V:Int)<low-1)):=by rw[hrt,←rest_low V hV low,hlow,show 1-(u-x)=x-u+1 by omega]
 have hbp:=(bl_pos V hV).2.2
 have HKR:Hid (0≤low→V/2^low.toNat=k):=fun g=>by rw[hlow]at g ⊢;rw[kept_shr V x u g];exact hk
 have HKL:Hid (low<0→V*2^(-low).toNat=k):=fun g=>by rw[hlow]at g ⊢;rw[kept_shl V x u g];exact hk
 have HT:Hid (unz 24 (-149) (bl V) x=u):=hu
 have htz:tzn V<100000000:=by
  obtain⟨o,ho,hVo⟩:=tzn_spec V hV
  have h1:2^tzn V≤V:=by
   have:=Nat.le_mul_of_pos_left (2^tzn V) (show 0<o by omega)
   omega
  have h2:=bl_lt V
  have h3:2^tzn V<2^bl V:=by omega
  have:=(Nat.pow_lt_pow_iff_right (show 1<2 by omega)).1 h3
  omega
 generalize bl V=T at *
 generalize tzn V=tz at *
 have hmax:max ((T:Int)+x-24) (-149)=u:=by have:=HT.out;unfold unz at this;omega
 obtain⟨X,hX⟩:∃X,X=w.alloc (.cells #[.int .i64 32,.int .i64 24,.int .i64 8388608,.int .i64 255,.int .i64 (-149),.int .i64 128,.int .i64 2139095040,.int .i64 2147483648,.int .i64 2143289345] 66):=⟨_,rfl⟩
 have hKX:Kept w X:=by rw[hX];exact(Kept.refl w).alloc _ _
 have h9:K9 X w.heap.size (.int .i64 32) (.int .i64 24) (.int .i64 8388608) (.int .i64 255) (.int .i64 (-149)) (.int .i64 128) (.int .i64 2139095040) (.int .i64 2147483648) (.int .i64 2143289345):=by rw[hX];exact K9.new w _ _ _ _ _ _ _ _ _ _
 clear hu hk hF hhf hrt hhf' hL hV hs huu
 have Hw:Hid (way=0∨way=1∨way=2):=hw
 clear hw
 have Hhov:Hid _:=hov
 have HFa:Hid _:=hFa
 have Hhrt:Hid _:=hrt'
 have Hod:Hid _:=hod
 have Ha:Hid _:=ha
 clear hov hFa hrt' hod ha
 go_enter Tryz.func58,Tryz.ntmps58
 go_upto_if 27 with fail
 rw[←hX]
 clear hX
 go_cut [14]from 27 (fun t wx=>t=.int .i64 sg∧wx=X)
 case first=>
  obtain⟨-,g0,g1,g2,g3,g4,g5,g6,g7,g8⟩:=h9
  cases ng
  all_goals
   go_wp2_with fail
   go_meet
   exact⟨by rw[hsg];rfl,rfl⟩
 case rest=>
 obtain⟨rfl,hwc⟩:=hcut
 obtain rfl:X=wc:=hwc.symm
 have Hsg:Hid (sg=if ng=true then 2147483648 else 0):=hsg
 clear hsg
 have h9':=h9
 obtain⟨-,g0,g1,g2,g3,g4,g5,g6,g7,g8⟩:=h9'
 have hT0:¬(T:Int)=0:=by omega
 have hTb:((T:Int)==0)=false:=by simp;omega
 go_upto_region 7 with (first|(go_at_call 55;refine(KB.out _ hKX).mono ?_;rintro e w1 ⟨rfl,rfl⟩))
 clear hTb
 go_upto_region 8 with fail
 clear g0 g1 g2 g3 g4 g5 g6 g7 g8
 rw[←hlow]
 have Hlx:Hid (low+x=u):=by
  show low+x=u
  omega
 have hlb:-100≤low∧low≤30000000:=by omega
 obtain⟨s,hs0⟩:∃s:Nat,max low 0=(s:Int):=⟨(max low 0).toNat,by omega⟩
 have hs9:s<100000000:=by omega
 have Hs:Hid (low<0∨low.toNat=s):=by
  show low<0∨low.toNat=s
  omega
 clear hlow hmax hx1 hx2
 go_upto_region 9 with (first|(go_at_call 85;refine(KR.out _ hKX s hs9).mono ?_;rintro e w1 ⟨⟨r1,rfl,hr1⟩,k1⟩))
 clear hs0
 go_upto_if 55 with fail
 go_cut [17]from 54 (fun t wx=>RL wx t (digs k)∧Kept w1 wx)
 case first=>
  by_cases hneg:low<0
  ·obtain⟨s2,hs2⟩:∃s2:Nat,-low=(s2:Int):=⟨(-low).toNat,by omega⟩
   have h2:s2<10000000:=by omega
   have HE:Hid (V*2^s2=k):=by
    have:=HKL.out hneg
    rw[show(-low).toNat=s2 by omega]at this
    exact this
   go_wp2_with (first|(go_at_call 54;refine(KLf.out _ (hKX.trans k1) s2 h2).mono ?_;rintro e w2 ⟨⟨r2,rfl,hr2⟩,k2⟩))
   go_meet
   rw[HE.out]at hr2
   exact⟨hr2,k2⟩
  ·have HE:Hid (V/2^s=k):=by
    have:=HKR.out (by omega)
    rw[show low.toNat=s by have:=Hs.out;omega]at this
    exact this
   go_wp2_with fail
   go_meet
   rw[HE.out]at hr1
   exact⟨hr1,Kept.refl _⟩
 case rest=>
 obtain⟨hr,k2⟩:=hcut
 rename World=>w2
 have kx:=k1.trans k2
 clear k1 k2 hr1 HKR HKL KR KLf KB Hs hs9
 go_upto_region 12 with (first|(go_at_call 88;refine(KH.out _ (hKX.trans kx)).mono ?_;rintro e w3 ⟨rfl,k3⟩))
 replace hr:=hr.kept k3
 replace kx:=kx.trans k3
 clear k3 KH
 go_cut [19]from 64 (fun t wx=>t=.bool rt∧wx=w3)
 case first=>
  have hrt:=Hhrt.out
  cases more
  ·by_cases h1:0<low-1
   ·by_cases h2:(tz:Int)<low-1
    ·have hz:0≤(tz:Int):=by omega
     have Hrt:Hid (rt=true):=by show rt=true;rw[hrt,decide_eq_true ⟨h1,h2⟩];rfl
     clear hrt
     go_wp2_with (first|(go_at_call 84;refine(KL.out _ (hKX.trans kx)).mono ?_;rintro e w4 ⟨rfl,rfl⟩))
     go_meet
     exact⟨by rw[Hrt.out]<;>simp[*],rfl⟩
    ·have hz:0≤(tz:Int):=by omega
     have Hrt:Hid (rt=false):=by show rt=false;rw[hrt,decide_eq_false (fun g=>h2 g.2)];rfl
     clear hrt
     go_wp2_with (first|(go_at_call 84;refine(KL.out _ (hKX.trans kx)).mono ?_;rintro e w4 ⟨rfl,rfl⟩))
     go_meet
     exact⟨by rw[Hrt.out]<;>simp[*],rfl⟩
   ·have Hrt:Hid (rt=false):=by show rt=false;rw[hrt,decide_eq_false (fun g=>h1 g.1)];rfl
    clear hrt
    go_wp2_with fail
    go_meet
    exact⟨by rw[Hrt.out]<;>simp[*],rfl⟩
  ·have Hrt:Hid (rt=true):=by show rt=true;rw[hrt];rfl
   clear hrt
   go_wp2_with fail
   go_meet
   exact⟨by rw[Hrt.out]<;>simp[*],rfl⟩
 case rest=>
 obtain⟨rfl,hwc⟩:=hcut
 obtain rfl:w3=wc:=hwc.symm
 clear KL Hhrt hlb htz
 obtain⟨ao,cc,rfl,-,hat⟩:=hr.at
 have HA:Hid (∀i,i<(digs k).length→∃b off,ao=some ⟨b,off,none⟩∧w3.cell? ⟨b,off+i,none⟩=some (.int .i64 ((digs k).getD i 0))):=(hat w3 (Kept.refl w3)).2
 have HZ:Hid (k/2^(30*(digs k).length)=0):=Nat.div_eq_of_lt (digs_lt k _ (Nat.le_refl _))
 have HXA:Hid (∀i,(digs k).getD i 0=((k/2^(30*i)%1073741824:Nat):Int)):=digs_at k
 have hl9:(digs k).length≤3:=digs_length_le k 3 (Nat.lt_of_lt_of_le hk2 (by decide+kernel))
 clear hr hat
 generalize (digs k).length=n at *
 go_upto_region 15 with fail
 go_loopw [20,21] (fun mv iv wr=>∃i m:Nat,i≤n∧iv=.int .i64 ((i:Int)-1)∧mv=.int .i64 (m:Int)∧m=k/2^(30*i)∧w3=wr) (fun _ iv _=>(intOf iv+1).toNat)
 case atStart=>exact⟨n,0,Nat.le_refl _,by first|rfl|(congr 1;omega),rfl,HZ.out.symm,rfl⟩
 case round=>
  obtain⟨i,m,hi,rfl,rfl,hm,rfl⟩:=hrel
  rcases i with _|i
  ·rw [Nat.mul_zero,Nat.pow_zero,Nat.div_one]at hm
   have hm':k=m:=hm.symm
   subst hm'
   clear HA HZ HXA
   obtain⟨ox,hox⟩:∃ox,ox=(hf||rt):=⟨_,rfl⟩
   obtain⟨aw,haw⟩:∃aw,aw=awz way ng od hf rt:=⟨_,rfl⟩
   have Hox:Hid (ox=(hf||rt)):=hox
   have Haw:Hid (aw=awz way ng od hf rt):=haw
   clear hox haw
   go_upto_region 18 with fail
   go_cut [22]from 96 (fun t wx=>t=.bool ox∧wx=w3)
   case first=>
    have hox:=Hox.out
    cases hf<;>cases rt
    all_goals
     have hox':ox=_:=hox
     clear hox
     have HO:Hid _:=hox'
     clear hox'
     go_wp2_with fail
     go_meet
     exact⟨by rw[HO.out];rfl,rfl⟩
   case rest=>
   obtain⟨rfl,hwc⟩:=hcut
   obtain rfl:w3=wc:=hwc.symm
   go_upto_block 2 with fail
   go_cut [23]from 101 (fun t wx=>t=.bool aw∧wx=w3)
   case first=>
    have haw:=Haw.out
    have hod:=Hod.out
    have y1:((k:Int)).tmod 2=((k%2:Nat):Int):=by rw[Int.tmod_eq_emod_of_nonneg (by omega)];omega
    rcases Hw.out with rfl|rfl|rfl
    ·generalize k%2=kb at *
     by_cases hb:kb=1
     ·obtain rfl:od=true:=by rw[hod];simp[hb]
      subst hb
      clear hod Hod
      cases hf
      ·have HO:Hid (aw=false):=haw
       clear haw
       go_wp2_with fail
       go_meet
       exact⟨by rw[HO.out],rfl⟩
      ·have HO:Hid (aw=true):=haw.trans (by cases rt<;>rfl)
       clear haw
       cases rt
       all_goals
        go_wp2_with fail
        go_meet
        exact⟨by rw[HO.out],rfl⟩
     ·obtain rfl:od=false:=by rw[hod];simp[hb]
      have hb2:((kb:Int)==1)=false:=by simp;omega
      clear hod Hod
      cases hf
      ·have HO:Hid (aw=false):=haw
       clear haw
       go_wp2_with fail
       go_meet
       exact⟨by rw[HO.out],rfl⟩
      ·have HO:Hid (aw=rt):=haw.trans (by cases rt<;>rfl)
       clear haw
       cases rt
       all_goals
        go_wp2_with fail
        go_meet
        exact⟨by rw[HO.out],rfl⟩
    ·have HO:Hid (aw=(ng&&ox)):=by rw[Hox.out];exact haw
     clear haw hod y1
     cases ng<;>cases ox
     all_goals
      go_wp2_with fail
      go_meet
      exact⟨by rw[HO.out]<;>rfl,rfl⟩
    ·have HO:Hid (aw=(!ng&&ox)):=by rw[Hox.out];exact haw
     clear haw hod y1
     cases ng<;>cases ox
     all_goals
      go_wp2_with fail
      go_meet
      exact⟨by rw[HO.out]<;>rfl,rfl⟩
   case rest=>
   obtain⟨rfl,hwc⟩:=hcut
   obtain rfl:w3=wc:=hwc.symm
   go_upto_if 125 with fail
   go_cut [20]from 126 (fun t wx=>t=.int .i64 ((k+a:Nat):Int)∧wx=w3)
   case first=>
    have ha:a=aw.toNat:=by rw[Ha.out,Haw.out]
    cases aw
    ·have HA1:Hid (a=0):=ha
     clear ha
     go_wp2_with fail
     go_meet
     exact⟨congrArg (Value.int .i64) (by rw[HA1.out];simp),rfl⟩
    ·have HA1:Hid (a=1):=ha
     clear ha
     go_wp2_with fail
     go_meet
     exact⟨congrArg (Value.int .i64) (by rw[HA1.out];simp),rfl⟩
   case rest=>
   obtain⟨rfl,hwc⟩:=hcut
   obtain rfl:w3=wc:=hwc.symm
   obtain⟨m,hm⟩:∃m,m=k+a:=⟨_,rfl⟩
   have hm2:m≤16777216:=by omega
   rw[←hm]
   have hlx:=Hlx.out
   have Hm:Hid (m=k+a):=hm
   clear hm
   go_upto_region 32 with fail
   go_loopw [25,26] (fun lv vv wr=>∃j y:Nat,lv=.int .i64 (j:Int)∧vv=.int .i64 (y:Int)∧y≤m∧j+bl y=bl m∧w3=wr) (fun _ vv _=>(intOf vv).toNat)
   case atStart=>exact⟨0,m,rfl,rfl,Nat.le_refl _,by omega,rfl⟩
   case round=>
    obtain⟨j,y,rfl,rfl,hy,hj,rfl⟩:=hrel
    have hbm:bl m≤26:=bl_le m 26 (Nat.lt_of_le_of_lt hm2 (by decide+kernel))
    by_cases hy0:y=0
    ·subst hy0
     rw[bl_zero,Nat.add_zero]at hj
     subst hj
     obtain⟨j,hj⟩:∃j,j=bl m:=⟨_,rfl⟩
     rw[←hj]at hbm ⊢
     have Hj:Hid (j=bl m):=hj
     clear hj hy
     obtain⟨ov,hov⟩:∃ov,ov=decide (2139095040≤F+a):=⟨_,rfl⟩
     have Hov:Hid (ov=decide (8388608≤m∧128<(j:Int)+u)):=by
      show ov=_
      rw[hov,Hj.out,Hm.out]
      exact decide_eq_decide.2 Hhov.out.symm
     have Hov2:Hid (ov=decide (2139095040≤F+a)):=hov
     clear hov
     obtain⟨-,g0,g1,g2,g3,g4,g5,g6,g7,g8⟩:=h9.kept kx
     go_upto_region 35 with fail
     go_cut [149]from 138 (fun t wx=>t=.bool ov∧wx=w3)
     case first=>
      by_cases c1:(8388608:Int)≤(m:Int)
      ·by_cases c2:128<(j:Int)+u
       ·have HO:Hid (ov=true):=by show ov=true;rw[Hov.out];exact decide_eq_true ⟨by omega,c2⟩
        go_wp2_with fail
        go_meet
        exact⟨by rw[HO.out],rfl⟩
       ·have HO:Hid (ov=false):=by show ov=false;rw[Hov.out];exact decide_eq_false (fun g=>c2 g.2)
        go_wp2_with fail
        go_meet
        exact⟨by rw[HO.out]<;>simp[c2],rfl⟩
      ·have HO:Hid (ov=false):=by show ov=false;rw[Hov.out];exact decide_eq_false (fun g=>c1 (by omega))
       go_wp2_with fail
       go_meet
       exact⟨by rw[HO.out],rfl⟩
     case rest=>
     obtain⟨rfl,hwc⟩:=hcut
     obtain rfl:w3=wc:=hwc.symm
     have hsgb:0≤sg∧sg≤2147483648:=by
      have:=Hsg.out
      rw[this]
      split<;>omega
     have hms:m<8388608→u=-149:=fun g=>by have:=Hs2.out;have:=Hm.out;omega
     cases ov
     ·have hin:¬2139095040≤F+a:=of_decide_eq_false Hov2.out.symm
      obtain⟨e1,e2⟩:=mg_in way ng 2139095040 F _ _ _ a Ha.out hin
      have hnov:¬(8388608≤m∧128<(j:Int)+u):=of_decide_eq_false Hov.out.symm
      have hu1:u≤104∧(m=16777216→u≤103):=by
       by_cases hc:8388608≤m
       ·have hb:=bl_at_32 m hc hm2
        rw[←Hj.out]at hb
        by_cases h2:m=16777216
        ·rw[if_pos h2]at hb
         exact⟨by omega,fun _=>by omega⟩
        ·rw[if_neg h2]at hb
         exact⟨by omega,fun g=>absurd g h2⟩
       ·have:=hms (by omega)
        exact⟨by omega,fun g=>by omega⟩
      have KJ:Hid (∀v,Calls Tryz.prog 89 #[.agg #[.int .i64 32,.int .i64 24,.int .i64 8388608,.int .i64 255,.int .i64 (-149),.int .i64 128,.int .i64 2139095040,.int .i64 2147483648,.int .i64 2143289345],.int .i64 m,.int .i64 u] v fun e w'=>e=.returned (.int .i64 ((F+a:Nat):Int))∧Kept v w'):=fun v=>joined_32 m u hm2 hlu hms hu1.1 hu1.2 _ (by rw[HFa.out,Hm.out]) v
      have HE1:Hid _:=e1
      have HE2:Hid _:=e2
      have hFb:((F+a:Nat):Int)<2139095040:=by omega
      have hF0:0≤((F+a:Nat):Int):=by omega
      clear e1 e2 hin hnov hu1 hms
      have HQ0:Hid (∃Q:Int,Q=((F+a:Nat):Int)):=⟨_,rfl⟩
      obtain⟨Q,hQ⟩:=HQ0.out
      rw[←hQ]at KJ hFb hF0
      have HQ:Hid (Q=((F+a:Nat):Int)):=hQ
      clear hQ HQ0
      go_wp2_with (first|(go_at_call 89;refine(KJ.out _).mono ?_;rintro e w5 ⟨rfl,k5⟩))
      go_ret2
      refine⟨ret_two ?_ ?_,hKX.trans (kx.trans k5)⟩
      ·rw[HE1.out,HQ.out]
      ·rw[HE2.out]
       exact Hox.out
     ·have hin:2139095040≤F+a:=of_decide_eq_true Hov2.out.symm
      obtain⟨e1,e2⟩:=mg_out way ng 2139095040 F _ _ _ a Ha.out hin
      have HE1:Hid _:=e1
      have HE2:Hid _:=e2
      clear e1 e2 hin hms
      obtain⟨bw,hbw⟩:∃bw,bw=awz way ng false true true:=⟨_,rfl⟩
      have Hbw:Hid (bw=awz way ng false true true):=hbw
      clear hbw
      go_upto_region 36 with fail
      go_cut [166]from 150 (fun t wx=>t=.bool bw∧wx=w3)
      case first=>
       have hbw:=Hbw.out
       rcases Hw.out with rfl|rfl|rfl
       ·have HO:Hid (bw=true):=hbw
        clear hbw
        go_wp2_with fail
        go_meet
        exact⟨by rw[HO.out],rfl⟩
       ·have HO:Hid (bw=ng):=hbw.trans (by cases ng<;>rfl)
        clear hbw
        cases ng
        all_goals
         go_wp2_with fail
         go_meet
         exact⟨by rw[HO.out],rfl⟩
       ·have HO:Hid (bw=!ng):=hbw.trans (by cases ng<;>rfl)
        clear hbw
        cases ng
        all_goals
         go_wp2_with fail
         go_meet
         exact⟨by rw[HO.out]<;>rfl,rfl⟩
      case rest=>
      obtain⟨rfl,hwc⟩:=hcut
      obtain rfl:w3=wc:=hwc.symm
      cases bw
      ·go_wp2_with fail
       go_ret2
       refine⟨ret_two ?_ ?_,hKX.trans kx⟩
       ·rw[HE1.out,←Hbw.out]
        simp
        omega
       ·rw[HE2.out]
      ·go_wp2_with fail
       go_ret2
       refine⟨ret_two ?_ ?_,hKX.trans kx⟩
       ·rw[HE1.out,←Hbw.out]
        simp
       ·rw[HE2.out]
    ·have y2:((y:Int)).tdiv 2=((y/2:Nat):Int):=by rw[Int.tdiv_eq_ediv_of_nonneg (by omega)];omega
     have hh:=bl_half y hy0
     have Hh:Hid (bl y=bl (y/2)+1):=hh
     have Hj:Hid (j+bl y=bl m):=hj
     have hjb:j≤100:=by omega
     clear hh hj hbm
     go_wp2_with fail
     exact⟨⟨j+1,y/2,by first|rfl|exact congrArg (Value.int .i64) (by omega),by first|rfl|exact congrArg (Value.int .i64) y2,by omega,by have:=Hj.out;have:=Hh.out;omega,trivial⟩,by simp[intOf]<;>omega⟩
  ·have hz:((i+1:Nat):Int)-1=(i:Int):=by omega
   rw[hz]
   obtain⟨b,off,rfl,hc⟩:=HA.out i (by omega)
   rw[HXA.out i]at hc
   have hst:=div_step k i
   rw[←hm]at hst
   obtain⟨dg,hdg⟩:∃y,k/2^(30*i)%1073741824=y:=⟨_,rfl⟩
   have hdl:dg<1073741824:=by rw[←hdg];exact Nat.mod_lt _ (by omega)
   rw[hdg]at hc hst
   have hq:k/2^(30*i)≤k:=Nat.div_le_self _ _
   have HM:Hid (m*1073741824+dg=k/2^(30*i)):=hst.symm
   have hmb:m*1073741824+dg<16777216:=by rw[←hst];omega
   have y1:IntKind.i64.wrap ((m:Int)*1073741824)=(m:Int)*1073741824:=by rw[wrap_i64];omega
   have y2:IntKind.i64.wrap ((m:Int)*1073741824+dg)=(m:Int)*1073741824+dg:=by rw[wrap_i64];omega
   have hin:(i:Int)<(n:Int):=by omega
   clear hm hst hq hdg HA HZ HXA hz
   go_wp2_with fail
   exact⟨⟨i,m*1073741824+dg,by omega,rfl,congrArg (Value.int .i64) (by omega),HM.out,trivial⟩,by simp[intOf]<;>omega⟩
end Go.Proofs.YtnniljhdcplkgaaGreatDoor
