/-  -/
import Derived.Test.YtelbefihigkhjaaGreatDoorWm24
import Derived.Deep.CutRange
namespace Go.Proofs.YtelbefihigkhjaaGreatDoor
open Go.ChangeShapes Go.WideShapes Go.ChangeAt Go.RowKit
set_option maxHeartbeats 16000000
set_option maxRecDepth 100000
set_option linter.unusedVariables false
set_option linter.unusedSimpArgs false
theorem RLp.grw {H g:Nat}{w w':World}{v:Value}{M:List Int}(h:RLp (qj H) w v M)(k:Grw g w w')(hg:g<H):RLp (qj H) w' v M:=by
 obtain⟨ao,c,e,hn,⟨ao',cap',e',h1,h2,hrd⟩,hP⟩:=h
 cases e'
 refine⟨ao,c,e,hn,⟨ao,c,rfl,h1,h2,fun hne=>?_⟩,hP⟩
 obtain⟨b,off,rfl,hb,rd⟩:=hrd hne
 have hbg:b≠g:=by
  have h5:H≤b:=hP b off hne rfl
  omega
 have blk:=k.grown.block b hb (by simpa using hbg)
 refine⟨b,off,rfl,qlf hb k.grown.size,fun i hi=>?_⟩
 have:=rd i hi
 simp only[World.cell?]at this ⊢
 rw[blk]
 exact this
theorem X9 (x:Nat):∀(L:List Int) (f:Nat),Dg L→f<L.length→nv (L.set f (L.getD f 0+(x:Int)))=nv L+x*2^(30*f):=by
 intro L
 induction L with
 |nil=>intro f _ hf;simp at hf
 | cons d L ih=>
  intro f hD hf
  cases f with
  |zero=>
   have:=hD.head
   simp only[List.set_cons_zero,List.getD_cons_zero,nv,Nat.mul_zero,Nat.pow_zero,Nat.mul_one]
   omega
  |succ f=>
   have hf':f<L.length:=by simpa using hf
   have h1:=ih f hD.tail hf'
   simp only[List.set_cons_succ,List.getD_cons_succ,nv]
   rw[h1,xo,Nat.mul_add,←qlk x,qll 1073741824 (x*2^(30*f))]
   omega
theorem qfp (D:List Int)(hD:Dg D)(i Q:Nat)(hv:nv D=Q*2^(i+1))(hf:i/30<D.length):Dg (D.set (i/30) (D.getD (i/30) 0+((2^(i%30):Nat):Int)))∧nv (D.set (i/30) (D.getD (i/30) 0+((2^(i%30):Nat):Int)))=(2*Q+1)*2^i∧D.getD (i/30) 0+((2^(i%30):Nat):Int)<1073741824:=by
 have hs:i%30<30:=by omega
 have h1:=zI D hD (i/30)
 have hg:=hD.getD (i/30)
 have e1:nv D/2^(30*(i/30))=Q*2^(i%30+1):=by
  rw[hv,show i+1=30*(i/30)+(i%30+1) by omega,qlg,←qlk,qll Q,qlk,Nat.mul_div_cancel_left _ (qle _)]
 rw[e1]at h1
 have e2:(1073741824:Nat)=2^(29-i%30)*2^(i%30+1):=by rw[←qlg,show 29-i%30+(i%30+1)=30 by omega]
 have e3:Q*2^(i%30+1)%1073741824=Q%2^(29-i%30)*2^(i%30+1):=by rw[e2,Nat.mul_mod_mul_right]
 have e4:Q%2^(29-i%30)<2^(29-i%30):=Nat.mod_lt _ (qle _)
 have e5:Q%2^(29-i%30)*2^(i%30+1)+2^(i%30+1)≤1073741824:=by
  rw[e2,←Nat.succ_mul]
  exact Nat.mul_le_mul_right _ e4
 have e6:2^(i%30+1)=2^(i%30)*2:=qlq _ _
 have hlt:D.getD (i/30) 0+((2^(i%30):Nat):Int)<1073741824:=by
  rw[e3]at h1
  have:=qle (i%30)
  omega
 refine⟨hD.put _ _ (by omega) hlt,?_,hlt⟩
 rw[X9 _ D _ hD hf,hv,←qlg,show i%30+30*(i/30)=i by omega,qlq,Nat.add_mul,Nat.one_mul,qll 2 Q,qlk,qll 2 (2^i)]
theorem qby (A B i:Nat)(hB:0<B)(R:Nat)(hR:R=2*(A/2^(i+1)%B)+A/2^i%2):
  (B≤R→R-B=A/2^i%B∧2*(A/2^(i+1)/B)+1=A/2^i/B)∧(¬B≤R→R=A/2^i%B∧2*(A/2^(i+1)/B)=A/2^i/B):=by
 have hX:A/2^(i+1)=A/2^i/2:=by rw[qlq,Nat.div_div_eq_div_mul]
 rw[hX]at hR ⊢
 generalize A/2^i=Y at *
 have h1:=Nat.div_add_mod Y 2
 have h2:=Nat.div_add_mod (Y/2) B
 have h3:=Nat.mod_lt (Y/2) hB
 generalize Y/2/B=Q at *
 generalize Y/2%B=M at *
 have hY:Y=B*(2*Q)+R:=by
  rw[←qlk,qll B 2,qlk]
  omega
 refine⟨fun h=>?_,fun h=>?_⟩
 ·have e:Y=(R-B)+B*(2*Q+1):=by rw[Nat.mul_add,Nat.mul_one];omega
  rw[e,Nat.add_mul_mod_self_left,Nat.mod_eq_of_lt (by omega),Nat.add_mul_div_left _ _ hB,Nat.div_eq_of_lt (by omega)]
  omega
 ·have e:Y=R+B*(2*Q):=by omega
  rw[e,Nat.add_mul_mod_self_left,Nat.mod_eq_of_lt (by omega),Nat.add_mul_div_left _ _ hB,Nat.div_eq_of_lt (by omega)]
  omega
theorem qbz (d u:Int)(h:0≤d∧d<1073741824)(h2:1≤u)(h3:u≤536870912):IntKind.i64.wrap (d+u)=d+u:=by rw[qc];omega
theorem Va (w:World)(A B:Nat)(va vb:Value)(hA:RL w va (digs A))(hB:RL w vb (digs B))(hB0:B≠0)(hbl:bl B≤bl A)(la:(digs A).length<20000)(lb:(digs B).length<20000):Calls Tryz.prog 119 #[va,vb] w fun e w'=>∃r1 r2,e=.returned (.tuple #[r1,r2])∧RL w' r1 (digs (A/B))∧RL w' r2 (digs (A%B))∧Kept w w':=by
 have hT9:bl A≤600000:=by
  have:=qN A (30*(digs A).length) (qM A _ (qlj _))
  omega
 have hA0:A≠0:=by
  intro h
  have:=(qu B hB0).2.2
  rw[h,xd]at hbl
  omega
 obtain⟨n,hn⟩:∃n,(digs A).length=n:=⟨_,rfl⟩
 obtain⟨k,hk⟩:∃k,k=bl A-bl B:=⟨_,rfl⟩
 have hAn:A<2^(30*n):=qM A n (by omega)
 have hkn:k/30<n:=by
  have h1:=(qu A hA0).1
  have h2:bl A≤30*n:=qN A _ hAn
  have h3:=(qu B hB0).2.2
  omega
 have KB:Hid (∀v x X,RL v x (digs X)→(digs X).length<20000→Calls Tryz.prog 118 #[x] v fun e w'=>e=.returned (.int .i64 (bl X:Int))∧v=w'):=fun v x X hx hl=>ze v X x hx (by omega)
 have hBp:0<B:=by omega
 have HLn:Hid (∀X,X<2*B→(digs X).length<20002):=fun X hX=>by
  obtain⟨b,hb⟩:∃b,b=(digs B).length:=⟨_,rfl⟩
  have h1:B<2^(30*b):=qM B b (by omega)
  have h2:=xo b
  have:=ql X (b+1) (by rw[h2];generalize 2^(30*b)=P at *;omega)
  omega
 have Hst:Hid (A/2^k=2*(A/2^(k+1)%B)+A/2^k%2∧A/2^(k+1)/B=0):=by
  have h1:=(qu A hA0).2.1
  have h2:=(qu B hB0)
  have h3:A/2^(k+1)<B:=by
   refine qlf (Nat.div_lt_of_lt_mul ?_) h2.1
   rw[←qlg,show k+1+(bl B-1)=bl A by omega]
   exact h1
  have h4:A/2^(k+1)=A/2^k/2:=by rw[qlq,Nat.div_div_eq_div_mul]
  refine⟨?_,Nat.div_eq_of_lt h3⟩
  rw[Nat.mod_eq_of_lt h3,h4]
  omega
 have hkk:(bl A:Int)-(bl B:Int)=(k:Int):=by omega
 have hk9:k≤600000:=by omega
 have hn9:n<20000:=by omega
 have hA':=hA
 obtain⟨a1,c1,rfl,-,-⟩:=hA'.at
 rw[hn]at hA ⊢
 have HA:Hid (RL w (.slice a1 n c1) (digs A)):=hA
 have HB:Hid (RL w vb (digs B)):=hB
 have HW:=zG n (by omega)
 obtain⟨W1,hW1⟩:∃W1,W1=w.alloc (.cells (madeCells #[.int .i64 0] n) 3):=⟨_,rfl⟩
 have k1:Kept w W1:=by rw[hW1];exact(qlv w).alloc _ _
 have hs1:W1.heap.size=w.heap.size+1:=by rw[hW1];simp[go_sem]
 have HO1:Hid (Own W1 w.heap.size n (List.replicate n 0)):=by rw[hW1];exact zH n (by omega) w
 have KR:Hid (∀v,Kept W1 v→Calls Tryz.prog 195 #[.slice a1 n c1,.int .i64 (k:Int)] v fun e w'=>(∃r,e=.returned r∧RLp (qj (w.heap.size+1)) w' r (digs (A/2^k)))∧Kept v w'):=fun v kv=>by
  refine(xp v (digs A) k _ (hA.kept (k1.trans kv)) (qL A) (by omega) (by omega)).mono ?_
  rintro e w' ⟨⟨r,rfl,hr⟩,hk⟩
  rw[qC]at hr
  exact⟨⟨r,rfl,hr.imp fun b hb=>by have h5:v.heap.size≤b:=hb;have:=kv.below.size;show w.heap.size+1≤b;omega⟩,hk⟩
 have HK:Hid (∀u,Grw w.heap.size W1 u→Kept w u):=fun u hu=>k1.grw (qlj _) hu
 have hla:(digs A).length<20000:=la
 have hT1:=hT9
 clear hA hA' hB hk hAn la hA0
 go_enter Tryz.func119,Tryz.ntmps119
 go_upto_region 4 with (first|(go_at_call 118;refine(KB.out _ _ _ (by first|exact HA.out|exact HB.out) (by first|exact hla|exact lb)).mono ?_;rintro e w1 ⟨rfl,rfl⟩))
 go_upto_region 5 with fail
 rw[←hW1]
 clear hW1 HW hkk hbl hT9 hT1 KB
 go_upto_region 7 with (first|(go_at_call 195;refine(KR.out _ (qlv W1)).mono ?_;rintro e w2 ⟨⟨r2,rfl,hr2⟩,k2⟩))
 have HG2:Hid (Grw w.heap.size W1 w2):=k2.toGrw _
 have hs2:=k2.below.size
 go_loopw [8,9] (fun rv iv wr=>∃(i R:Nat) (D:List Int),i≤k∧iv=.int .i64 (i:Int)∧RLp (qj (w.heap.size+1)) wr rv (digs R)∧R=2*(A/2^(i+1)%B)+A/2^i%2∧Own wr w.heap.size n D∧D.length=n∧Dg D∧nv D=A/2^(i+1)/B*2^(i+1)∧Grw w.heap.size W1 wr∧w.heap.size+1≤wr.heap.size) (fun _ iv _=>(intOf iv).toNat)
 case atStart=>exact⟨k,_,_,qlj _,rfl,hr2,Hst.out.1,HO1.out.kept k2,by simp,fun d hd=>by rw[List.eq_of_mem_replicate hd];decide,by rw[Hst.out.2,Nat.zero_mul];exact(zO _ (fun d hd=>by rw[List.eq_of_mem_replicate hd];decide)).2 (fun j=>qy n j),HG2.out,by omega⟩
 case round=>
  obtain⟨i,R,D,hi,rfl,hr,hR,hO,hDl,hD,hv,hG,hsz⟩:=hrel
  clear hr2 k2 HO1 HG2 Hst KR hs2
  have hKr:=HK.out _ hG
  have hRB:R<2*B:=by
   have:=Nat.mod_lt (A/2^(i+1)) hBp
   have:=Nat.mod_lt (A/2^i) (show 0<2 by omega)
   omega
  have hRl:=HLn.out R hRB
  obtain⟨dn1,dn2⟩:=qby A B i hBp R hR
  have Hr:Hid (∀v,Kept wr v→RL v u8 (digs R)∧RLp (qj (w.heap.size+1)) v u8 (digs R)):=fun v kv=>⟨(hr.kept kv).rl,hr.kept kv⟩
  have HO:Hid (∀v,Kept wr v→Own v w.heap.size n D):=fun v kv=>hO.kept kv
  have HG:Hid (Grw w.heap.size W1 wr):=hG
  have HD:Hid (Dg D):=hD
  have Hv:Hid (nv D=A/2^(i+1)/B*2^(i+1)):=hv
  have hi9:i≤600000:=by omega
  have hin:i/30<n:=by omega
  have KCm:Hid (∀v,Kept wr v→Calls Tryz.prog 196 #[u8,vb] v fun e w'=>e=.returned (.int .i64 (cz (R:Int) (B:Int)))∧Kept v w'):=fun v kv=>vN v R B _ vb (hr.kept kv).rl (HB.out.kept (hKr.trans kv)) (by omega) (by omega)
  clear hr hO hG hD hv hR
  have Hz:Hid ((B≤R→0≤cz (R:Int) (B:Int))∧(¬B≤R→¬0≤cz (R:Int) (B:Int))):=by
   refine⟨fun hle=>?_,fun hle=>?_⟩
   ·rcases Nat.lt_or_eq_of_le hle with g|g
    ·rw[Zt (by omega)];decide
    ·rw[XC (by rw[g])];decide
   ·rw[Qt (by omega)];decide
  have HR:Hid (∀v,Kept wr v→B≤R→Calls Tryz.prog 197 #[u8,vb] v fun e w'=>(∃r,e=.returned r∧RLp (qj (w.heap.size+1)) w' r (digs (A/2^i%B)))∧Kept v w'):=fun v kv hle=>by
   refine(xq v R B hle _ vb (Hr.out v kv).1 (HB.out.kept (hKr.trans kv)) (by omega) (by omega)).mono ?_
   rintro e w' ⟨⟨r,rfl,hr⟩,hk⟩
   rw[(dn1 hle).1]at hr
   exact⟨⟨r,rfl,hr.imp fun b hb=>by have h5:v.heap.size≤b:=hb;have:=kv.below.size;show w.heap.size+1≤b;omega⟩,hk⟩
  have Hd1:Hid (B≤R→2*(A/2^(i+1)/B)+1=A/2^i/B):=fun h=>(dn1 h).2
  have Hd2:Hid (¬B≤R→R=A/2^i%B∧2*(A/2^(i+1)/B)=A/2^i/B):=dn2
  clear dn1 dn2
  generalize cz (R:Int) (B:Int)=z at *
  go_upto_if 33 with (first|(go_at_call 196;refine(KCm.out _ (qlv _)).mono ?_;rintro e w3 ⟨rfl,k3⟩))
  go_cut [8]from 26 to 60 (fun t wx=>∃D':List Int,RLp (qj (w.heap.size+1)) wx t (digs (A/2^i%B))∧Own wx w.heap.size n D'∧D'.length=n∧Dg D'∧nv D'=A/2^i/B*2^i∧Grw w.heap.size W1 wx∧w.heap.size+1≤wx.heap.size)
  case first=>
   by_cases hle:B≤R
   ·have hz0:=Hz.out.1 hle
    have Hle:Hid (B≤R):=hle
    obtain⟨sb1,sb2,sb3⟩:=qfp D HD.out i _ Hv.out (by omega)
    rw[Hd1.out hle]at sb2
    have Hs1:Hid (Dg (D.set (i/30) (D.getD (i/30) 0+((2^(i%30):Nat):Int)))):=sb1
    have Hs2:Hid (nv (D.set (i/30) (D.getD (i/30) 0+((2^(i%30):Nat):Int)))=A/2^i/B*2^i):=sb2
    have y2:((i:Int)).tdiv 30=((i/30:Nat):Int):=by rw[Int.tdiv_eq_ediv_of_nonneg (by omega)];omega
    have y1:((i:Int)).tmod 30=((i%30:Nat):Int):=by rw[Int.tmod_eq_emod_of_nonneg (by omega)];omega
    have hq9:i/30≤20000∧i%30<30:=by omega
    clear sb1 sb2 hle Hd1 Hd2 Hz KCm
    go_upto_region 11 with (first|(go_at_call 197;refine(HR.out _ k3 Hle.out).mono ?_;rintro e w4 ⟨⟨r4,rfl,hr4⟩,k4⟩))
    have hO4:=HO.out w4 (k3.trans k4)
    have hcl:=hO4.cell (i/30) (by omega)
    have hfr:=hO4.free (i/30)
    have hgd:=HD.out.getD (i/30)
    obtain⟨y3,y4,y5,y6,y7,y8⟩:=vM (i%30) hq9.2 _ rfl
    have HOn:Hid (∀x:Int,Own (w4.setCell ⟨w.heap.size,i/30,none⟩ (.int .i64 x)) w.heap.size n (D.set (i/30) x)):=fun x=>hO4.set _ _
    have z1:=qbz _ _ hgd y7 y8
    have hGx:Hid (∀x:Value,Grw w.heap.size w4 (w4.setCell ⟨w.heap.size,i/30,none⟩ x)):=fun x=>(Grw.refl _ _).setCell _ _
    have HG4:Hid (Grw w.heap.size W1 w4):=HG.out.trans ((k3.trans k4).toGrw _)
    have hs4:w.heap.size+1≤w4.heap.size:=qlp hsz (k3.trans k4).below.size
    have Hr4:Hid (∀x:Value,RLp (qj (w.heap.size+1)) (w4.setCell ⟨w.heap.size,i/30,none⟩ x) r4 (digs (A/2^i%B))):=fun x=>hr4.grw (hGx.out x) (by omega)
    have hfn:((i/30:Nat):Int)<(n:Int):=by omega
    generalize i/30=f at *
    generalize i%30=s at *
    generalize ((2^s:Nat):Int)=un at *
    generalize hdd:D.getD f 0=dd at *
    have hcd:w4.drew.cell? ⟨w.heap.size,f,none⟩=some (.int .i64 dd):=hcl
    have hfd:w4.drew.frozen? ⟨w.heap.size,f,none⟩=false:=hfr
    clear hO4 hdd hr4 HO HD Hv Hr HR HLn HG hgd HA HB HK
    go_region
    go_wp2_with fail
    go_meet
    have kd:=(qlv (w4.setCell ⟨w.heap.size,f,none⟩ (.int .i64 (dd+un)))).drew
    exact⟨_,(Hr4.out _).kept kd,(HOn.out _).kept kd,by rw[List.length_set];exact hDl,Hs1.out,Hs2.out,(HG4.out.trans (hGx.out _)).trans (kd.toGrw _),by simpa [go_sem] using hs4⟩
   ·have hz0:=Hz.out.2 hle
    have e1:=Hd2.out hle
    have He:Hid (R=A/2^i%B∧2*(A/2^(i+1)/B)=A/2^i/B):=e1
    clear e1 hle Hd1 Hd2 Hz KCm HR
    go_wp2_with fail
    go_meet
    refine⟨D,by rw[←He.out.1];exact(Hr.out _ k3).2,HO.out _ k3,hDl,HD.out,?_,HG.out.trans (k3.toGrw _),qlp hsz k3.below.size⟩
    rw[Hv.out,←He.out.2,qlq,qll 2,qlk,qll 2 (2^i)]
  case rest=>
   obtain⟨D',hr',hO',hDl',hD',hv',hG',hsz'⟩:=hcut
   rename World=>w5
   clear Hr HO HG HD Hv KCm Hz HR Hd1 Hd2 k3 hKr hRB hRl hDl
   have hK5:=HK.out _ hG'
   have hm:=Nat.mod_lt (A/2^i) hBp
   have hml:=HLn.out _ (show A/2^i%B<2*B by omega)
   by_cases hi0:i=0
   ·subst hi0
    rw[Nat.pow_zero,Nat.div_one]at hr' hv'
    rw[Nat.mul_one]at hv'
    have KT:Hid (Calls Tryz.prog 194 #[.slice (some ⟨w.heap.size,0,none⟩) n n] w5 fun e w'=>(∃r,e=.returned r∧RL w5 r (digs (A/B)))∧w5=w'):=by
     have:=xO w.heap.size w5 (.slice (some ⟨w.heap.size,0,none⟩) n n) D' (.inr ⟨w.heap.size,n,by rw[hDl'],qlj _,hO'⟩) hD' (by omega)
     rw[hv']at this
     refine Calls.mono this ?_
     rintro e w' ⟨⟨r,rfl,hr⟩,rfl⟩
     exact⟨⟨r,rfl,hr.rl⟩,rfl⟩
    have Hr5:Hid (RL w5 u8 (digs (A%B))):=hr'.rl
    clear hr' hv' hO' hD' hG' HLn HA HB HK
    go_wp2_with (first|(go_at_call 194;refine(KT.out).mono ?_;rintro e w6 ⟨⟨r6,rfl,hr6⟩,rfl⟩))
    go_ret2
    exact⟨_,_,rfl,hr6,Hr5.out,hK5⟩
   ·obtain⟨j,rfl⟩:∃j,i=j+1:=⟨i-1,by omega⟩
    have hib:(((j+1:Nat):Int)==0)=false:=by simp;omega
    have hi1:((j+1:Nat):Int)-1=(j:Int):=by omega
    have KSh:Hid (Calls Tryz.prog 117 #[u8,.int .i64 1] w5 fun e w'=>(∃r,e=.returned r∧RLp (qj (w.heap.size+1)) w' r (digs (A/2^(j+1)%B*2)))∧Kept w5 w'):=by
     have:=zo w5 (A/2^(j+1)%B) 1 u8 hr'.rl (by omega) (by omega)
     refine Calls.mono this ?_
     rintro e w' ⟨⟨r,rfl,hr⟩,hk⟩
     rw[Nat.pow_one]at hr
     exact⟨⟨r,rfl,hr.imp fun b hb=>by have h5:w5.heap.size≤b:=hb;show w.heap.size+1≤b;omega⟩,hk⟩
    have hm2:=HLn.out _ (show A/2^(j+1)%B*2<2*B by omega)
    have KBt:Hid (∀v,Kept w5 v→Calls Tryz.prog 198 #[.slice a1 n c1,.int .i64 (j:Int)] v fun e w'=>e=.returned (.bool (decide (A/2^j%2=1)))∧Kept v w'):=fun v kv=>by
     have:=vB v A _ (HA.out.kept (hK5.trans kv)) (by omega) (j:Int) (by omega) (by omega)
     rw[JH,if_neg (by omega),Int.toNat_natCast]at this
     exact this
    have KAd:Hid (∀v r,w.heap.size+1≤v.heap.size→RLp (qj (w.heap.size+1)) v r (digs (A/2^(j+1)%B*2))→Calls Tryz.prog 199 #[r,.slice (some ⟨v.heap.size,0,none⟩) 1 1] (v.alloc (.cells #[.int .i64 1] 3)) fun e w'=>(∃r,e=.returned r∧RLp (qj (w.heap.size+1)) w' r (digs (A/2^(j+1)%B*2+1)))∧Kept v w'):=fun v r hs hr=>by
     have ka:=(qlv v).alloc #[.int .i64 1] 3
     refine(vL _ _ 1 r _ (hr.kept ka).rl (qbx v) (by omega) (by decide)).mono ?_
     rintro e w' ⟨⟨r,rfl,hr⟩,hk⟩
     have:=ka.below.size
     exact⟨⟨r,rfl,hr.imp fun b hb=>by have h5:(v.alloc (.cells #[.int .i64 1] 3)).heap.size≤b:=hb;show w.heap.size+1≤b;omega⟩,ka.trans hk⟩
    have HO5:Hid (∀v,Kept w5 v→Own v w.heap.size n D'):=fun v kv=>hO'.kept kv
    have HG5:Hid (Grw w.heap.size W1 w5):=hG'
    have Hv5:Hid (nv D'=A/2^(j+1)/B*2^(j+1)):=hv'
    have HD5:Hid (Dg D'):=hD'
    clear hr' hv' hO' hD' hG' HLn HA HB HK hm hml
    by_cases hb:A/2^j%2=1
    ·rw[qln hb]at KBt
     have Hb:Hid (A/2^j%2=1):=hb
     clear hb
     go_wp2_with (first|(go_at_call 117;refine(KSh.out).mono ?_;rintro e w6 ⟨⟨r6,rfl,hr6⟩,k6⟩)|(go_at_call 198;refine(KBt.out _ k6).mono ?_;rintro e w7 ⟨rfl,k7⟩)|(go_at_call 199;refine(KAd.out _ _ (qlp hsz' (k6.trans k7).below.size) (hr6.kept k7)).mono ?_;rintro e w8 ⟨⟨r8,rfl,hr8⟩,k8⟩))
     have k9:=k6.trans (k7.trans k8)
     exact⟨⟨j,_,D',by omega,rfl,hr8,by rw[Hb.out];omega,HO5.out _ k9,hDl',HD5.out,Hv5.out,HG5.out.trans (k9.toGrw _),qlp hsz' k9.below.size⟩,by simp[intOf]<;>omega⟩
    ·rw[qlo hb]at KBt
     have Hb:Hid (A/2^j%2=0):=by
      show A/2^j%2=0
      omega
     clear hb
     go_wp2_with (first|(go_at_call 117;refine(KSh.out).mono ?_;rintro e w6 ⟨⟨r6,rfl,hr6⟩,k6⟩)|(go_at_call 198;refine(KBt.out _ k6).mono ?_;rintro e w7 ⟨rfl,k7⟩))
     have k9:=k6.trans k7
     exact⟨⟨j,_,D',by omega,rfl,hr6.kept k7,by rw[Hb.out];omega,HO5.out _ k9,hDl',HD5.out,Hv5.out,HG5.out.trans (k9.toGrw _),qlp hsz' k9.below.size⟩,by simp[intOf]<;>omega⟩
end Go.Proofs.YtelbefihigkhjaaGreatDoor
