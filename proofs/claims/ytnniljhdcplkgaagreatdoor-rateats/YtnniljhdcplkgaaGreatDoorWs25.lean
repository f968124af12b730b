/-  -/
import Derived.Test.YtnniljhdcplkgaaGreatDoorWs13
import Derived.Deep.CutRange
namespace Go.Proofs.YtnniljhdcplkgaaGreatDoor
open Go.ChangeShapes Go.WideShapes Go.ChangeAt Go.RowKit
set_option maxHeartbeats 16000000
set_option maxRecDepth 100000
set_option linter.unusedVariables false
set_option linter.unusedSimpArgs false
theorem rl_one (w:World):RL (w.alloc (.cells #[.int .i64 1] 3)) (.slice (some ⟨w.heap.size,0,none⟩) 1 1) (digs 1):=by
 have h1:digs 1=[1]:=by decide
 rw[h1]
 refine⟨some ⟨w.heap.size,0,none⟩,1,rfl,fun h=>by simp at h,some ⟨w.heap.size,0,none⟩,1,rfl,Nat.le_refl _,by simp[maxLen],fun _=>⟨w.heap.size,0,rfl,by simp[go_sem],?_⟩⟩
 intro i hi
 obtain rfl:i=0:=by simp at hi;exact hi
 simp[go_sem]
theorem digs_len_le (S A:Nat)(h:S≤A):(digs S).length≤(digs A).length:=digs_length_le S _ (Nat.lt_of_le_of_lt h (digs_lt A _ (Nat.le_refl _)))
theorem sq_up (S p:Nat):(S+2*p)*(S+2*p)=(S+p+p)*(S+p+p):=by rw[show S+2*p=S+p+p by omega]
theorem natRoot_any (w:World)(A:Nat)(va:Value)(hL:RL w va (digs A))(hlen:(digs A).length<20000):Calls Tryz.prog 57 #[va] w fun e w'=>∃q r1 r2,e=.returned (.tuple #[r1,r2])∧q*q≤A∧A<(q+1)*(q+1)∧RL w' r1 (digs q)∧RL w' r2 (digs (A-q*q))∧Kept w w':=by
 have hT9:bl A≤600000:=by
  have:=bl_le A (30*(digs A).length) (digs_lt A _ (Nat.le_refl _))
  omega
 have KB:Hid (∀v,Kept w v→Calls Tryz.prog 55 #[va] v fun e w'=>e=.returned (.int .i64 (bl A:Int))∧v=w'):=fun v kv=>natBits_any v A va (hL.kept kv) (by omega)
 have HL:Hid (RL w va (digs A)):=hL
 obtain⟨N,hN⟩:∃N:Nat,N=(bl A+1)/2:=⟨_,rfl⟩
 have hA0:A<(0+2^(N+1))*(0+2^(N+1)):=by
  rw[Nat.zero_add,←Nat.pow_add]
  exact Nat.lt_of_lt_of_le (bl_lt A) (Nat.pow_le_pow_right (by omega) (by omega))
 have HA0:Hid _:=hA0
 have y2:((bl A:Int)+1).tdiv 2=(N:Int):=by rw[Int.tdiv_eq_ediv_of_nonneg (by omega),hN];omega
 have hN9:N≤300000:=by omega
 have HP:Hid (∀i S:Nat,i≤300000→S≤A→(digs (S+2^i)).length<40000):=fun i S hi hS=>by
  obtain⟨B,hB⟩:∃B:Nat,B=20000:=⟨_,rfl⟩
  have h1:=digs_lt A _ (Nat.le_refl (digs A).length)
  have h2:2^(30*(digs A).length)≤2^(30*B):=Nat.pow_le_pow_right (by omega) (by omega)
  have h3:2^i≤2^(30*B):=Nat.pow_le_pow_right (by omega) (by omega)
  have h4:=pow30m B
  have h5:=Nat.two_pow_pos (30*B)
  have:(digs (S+2^i)).length≤B+1:=digs_length_le _ _ (by rw[h4];generalize 2^(30*B)=P at *;omega)
  omega
 generalize bl A=T at *
 clear hL hA0 hN
 go_enter Tryz.func57,Tryz.ntmps57
 go_upto_region 3 with (first|(go_at_call 55;refine(KB.out _ (Kept.refl w)).mono ?_;rintro e w1 ⟨rfl,rfl⟩))
 go_loopw [4,5] (fun sv iv wr=>∃i S:Nat,i≤N+1∧iv=.int .i64 ((i:Int)-1)∧RL wr sv (digs S)∧S*S≤A∧A<(S+2^i)*(S+2^i)∧Kept w wr) (fun _ iv _=>(intOf iv+1).toNat)
 case atStart=>exact⟨N+1,0,Nat.le_refl _,by first|rfl|exact congrArg (Value.int .i64) (by omega),by rw[digs_zero];exact RL.nil _,by omega,HA0.out,Kept.refl _⟩
 case round=>
  obtain⟨i,S,hi,rfl,hS,hS1,hS2,hK⟩:=hrel
  have hSA:S≤A:=Nat.le_trans (Nat.le_mul_self S) hS1
  have hSl:(digs S).length<40000:=Nat.lt_of_le_of_lt (digs_len_le S A hSA) (by omega)
  rcases i with _|i
  ·have HQ:Hid (S*S≤A∧A<(S+1)*(S+1)):=⟨hS1,by simpa using hS2⟩
   have KM:Hid (∀v,Kept wr v→Calls Tryz.prog 79 #[u4,u4] v fun e w'=>(∃r,e=.returned r∧RL w' r (digs (S*S)))∧Kept v w'):=fun v kv=>by
    refine(natMul_any v S S _ _ (hS.kept kv) (hS.kept kv) (by omega) (by omega)).mono ?_
    rintro e w' ⟨⟨r,rfl,hr⟩,hk⟩
    exact⟨⟨r,rfl,hr.rl⟩,hk⟩
   have KSb:Hid (∀v r,Kept wr v→RL v r (digs (S*S))→Calls Tryz.prog 83 #[va,r] v fun e w'=>(∃r,e=.returned r∧RL w' r (digs (A-S*S)))∧Kept v w'):=fun v r kv hr=>by
    refine(natSub_any v A (S*S) HQ.out.1 va r (HL.out.kept (hK.trans kv)) hr (by omega) (Nat.lt_of_le_of_lt (digs_len_le _ A HQ.out.1) (by omega))).mono ?_
    rintro e w' ⟨⟨r,rfl,hr⟩,hk⟩
    exact⟨⟨r,rfl,hr.rl⟩,hk⟩
   clear hS1 hS2 HP
   go_wp2_with (first|(go_at_call 79;refine(KM.out _ (Kept.refl _)).mono ?_;rintro e w2 ⟨⟨r2,rfl,hr2⟩,k2⟩)|(go_at_call 83;refine(KSb.out _ _ k2 hr2).mono ?_;rintro e w3 ⟨⟨r3,rfl,hr3⟩,k3⟩))
   go_ret2
   exact⟨S,_,_,rfl,HQ.out.1,HQ.out.2,(hS.kept k2).kept k3,hr3,hK.trans (k2.trans k3)⟩
  ·have hz:((i+1:Nat):Int)-1=(i:Int):=by omega
   rw[hz]
   have hi9:i≤300000:=by omega
   have HtL:=HP.out i S hi9 hSA
   have HS2:Hid (A<(S+2*2^i)*(S+2*2^i)):=by
    show A<(S+2*2^i)*(S+2*2^i)
    rw[←Nat.pow_succ']
    exact hS2
   have HS1:Hid (S*S≤A):=hS1
   have KSh:Hid (∀v,Calls Tryz.prog 54 #[.slice (some ⟨v.heap.size,0,none⟩) 1 1,.int .i64 (i:Int)] (v.alloc (.cells #[.int .i64 1] 3)) fun e w'=>(∃r,e=.returned r∧RL w' r (digs (2^i)))∧Kept v w'):=fun v=>by
    refine(natShl_any _ 1 i _ (rl_one v) (by decide) (by omega)).mono ?_
    rintro e w' ⟨⟨r,rfl,hr⟩,hk⟩
    rw[Nat.one_mul]at hr
    exact⟨⟨r,rfl,hr.rl⟩,((Kept.refl v).alloc _ _).trans hk⟩
   have KAd:Hid (∀v r,Kept wr v→RL v r (digs (2^i))→Calls Tryz.prog 81 #[u4,r] v fun e w'=>(∃r,e=.returned r∧RL w' r (digs (S+2^i)))∧Kept v w'):=fun v r kv hr=>by
    refine(natAdd_any v S (2^i) _ r (hS.kept kv) hr (by omega) (Nat.lt_of_le_of_lt (digs_len_le _ (S+2^i) (Nat.le_add_left _ _)) (by omega))).mono ?_
    rintro e w' ⟨⟨r,rfl,hr⟩,hk⟩
    exact⟨⟨r,rfl,hr.rl⟩,hk⟩
   obtain⟨t,ht⟩:∃t,t=S+2^i:=⟨_,rfl⟩
   have Ht:Hid (t=S+2^i):=ht
   rw[←ht]at KAd HtL
   obtain⟨z,hzz⟩:∃z,cz ((t*t:Nat):Int) (A:Int)=z:=⟨_,rfl⟩
   have htt:(digs (t*t)).length<1000000:=by
    have h1:=digs_lt t _ (Nat.le_refl (digs t).length)
    have h2:t*t<2^(30*((digs t).length+(digs t).length)):=by
     rw[Nat.mul_add,Nat.pow_add]
     exact Nat.mul_lt_mul'' h1 h1
    have:=digs_length_le _ _ h2
    omega
   have KM:Hid (∀v r,RL v r (digs t)→Calls Tryz.prog 79 #[r,r] v fun e w'=>(∃r,e=.returned r∧RL w' r (digs (t*t)))∧Kept v w'):=fun v r hr=>by
    refine(natMul_any v t t _ _ hr hr (by omega) (by omega)).mono ?_
    rintro e w' ⟨⟨r,rfl,hr⟩,hk⟩
    exact⟨⟨r,rfl,hr.rl⟩,hk⟩
   have KCm:Hid (∀v r,Kept wr v→RL v r (digs (t*t))→Calls Tryz.prog 82 #[r,va] v fun e w'=>e=.returned (.int .i64 z)∧Kept v w'):=fun v r kv hr=>by
    have:=natCmp_any v (t*t) A r va hr (HL.out.kept (hK.trans kv)) htt (by omega)
    rw[hzz]at this
    exact this
   have Hz:Hid ((t*t≤A→z≤0)∧(¬t*t≤A→¬z≤0)):=by
    refine⟨fun h=>?_,fun h=>?_⟩
    ·rw[←hzz]
     rcases Nat.lt_or_eq_of_le h with g|g
     ·rw[cz_lt (by omega)];decide
     ·rw[cz_eq (by rw[g])];decide
    ·rw[←hzz,cz_gt (by omega)];decide
   clear hzz ht htt hS1 hS2 HP hz
   by_cases hle:t*t≤A
   ·have hz0:=Hz.out.1 hle
    clear Hz
    have Hle:Hid (t*t≤A):=hle
    clear hle
    go_wp2_with (first|(go_at_call 54;refine(KSh.out _).mono ?_;rintro e w2 ⟨⟨r2,rfl,hr2⟩,k2⟩)|(go_at_call 81;refine(KAd.out _ _ k2 hr2).mono ?_;rintro e w3 ⟨⟨r3,rfl,hr3⟩,k3⟩)|(go_at_call 79;refine(KM.out _ _ hr3).mono ?_;rintro e w4 ⟨⟨r4,rfl,hr4⟩,k4⟩)|(go_at_call 82;refine(KCm.out _ _ (k2.trans (k3.trans k4)) hr4).mono ?_;rintro e w5 ⟨rfl,k5⟩))
    exact⟨⟨i,t,by omega,rfl,(hr3.kept k4).kept k5,Hle.out,by rw[Ht.out];have:=HS2.out;rw[sq_up]at this;exact this,hK.trans (k2.trans (k3.trans (k4.trans k5)))⟩,by simp[intOf]<;>omega⟩
   ·have hz0:=Hz.out.2 hle
    clear Hz
    have Hle:Hid (A<t*t):=Nat.lt_of_not_le hle
    clear hle
    go_wp2_with (first|(go_at_call 54;refine(KSh.out _).mono ?_;rintro e w2 ⟨⟨r2,rfl,hr2⟩,k2⟩)|(go_at_call 81;refine(KAd.out _ _ k2 hr2).mono ?_;rintro e w3 ⟨⟨r3,rfl,hr3⟩,k3⟩)|(go_at_call 79;refine(KM.out _ _ hr3).mono ?_;rintro e w4 ⟨⟨r4,rfl,hr4⟩,k4⟩)|(go_at_call 82;refine(KCm.out _ _ (k2.trans (k3.trans k4)) hr4).mono ?_;rintro e w5 ⟨rfl,k5⟩))
    exact⟨⟨i,S,by omega,rfl,((((hS.kept k2).kept k3).kept k4).kept k5),HS1.out,by have:=Hle.out;rw[Ht.out]at this;exact this,hK.trans (k2.trans (k3.trans (k4.trans k5)))⟩,by simp[intOf]<;>omega⟩
end Go.Proofs.YtnniljhdcplkgaaGreatDoor

namespace Go.Proofs.YtnniljhdcplkgaaGreatDoor
open Go.ChangeShapes Go.WideShapes Go.ChangeAt Go.RowKit
set_option maxHeartbeats 16000000
set_option maxRecDepth 100000
set_option linter.unusedVariables false
set_option linter.unusedSimpArgs false
theorem RLp.grw {H g:Nat}{w w':World}{v:Value}{M:List Int}(h:RLp (Fresh H) w v M)(k:Grw g w w')(hg:g<H):RLp (Fresh H) w' v M:=by
 obtain⟨ao,c,e,hn,⟨ao',cap',e',h1,h2,hrd⟩,hP⟩:=h
 cases e'
 refine⟨ao,c,e,hn,⟨ao,c,rfl,h1,h2,fun hne=>?_⟩,hP⟩
 obtain⟨b,off,rfl,hb,rd⟩:=hrd hne
 have hbg:b≠g:=by
  have h5:H≤b:=hP b off hne rfl
  omega
 have blk:=k.grown.block b hb (by simpa using hbg)
 refine⟨b,off,rfl,Nat.lt_of_lt_of_le hb k.grown.size,fun i hi=>?_⟩
 have:=rd i hi
 simp only[World.cell?]at this ⊢
 rw[blk]
 exact this
theorem nv_set_add (x:Nat):∀(L:List Int) (f:Nat),Dg L→f<L.length→nv (L.set f (L.getD f 0+(x:Int)))=nv L+x*2^(30*f):=by
 intro L
 induction L with
 |nil=>intro f _ hf;simp at hf
 | cons d L ih=>
  intro f hD hf
  cases f with
  |zero=>
   have:=hD.head
   simp only[List.set_cons_zero,List.getD_cons_zero,nv,Nat.mul_zero,Nat.pow_zero,Nat.mul_one]
   omega
  |succ f=>
   have hf':f<L.length:=by simpa using hf
   have h1:=ih f hD.tail hf'
   simp only[List.set_cons_succ,List.getD_cons_succ,nv]
   rw[h1,pow30m,Nat.mul_add,←Nat.mul_assoc x,Nat.mul_comm 1073741824 (x*2^(30*f))]
   omega
theorem set_bit (D:List Int)(hD:Dg D)(i Q:Nat)(hv:nv D=Q*2^(i+1))(hf:i/30<D.length):Dg (D.set (i/30) (D.getD (i/30) 0+((2^(i%30):Nat):Int)))∧nv (D.set (i/30) (D.getD (i/30) 0+((2^(i%30):Nat):Int)))=(2*Q+1)*2^i∧D.getD (i/30) 0+((2^(i%30):Nat):Int)<1073741824:=by
 have hs:i%30<30:=by omega
 have h1:=nv_getD D hD (i/30)
 have hg:=hD.getD (i/30)
 have e1:nv D/2^(30*(i/30))=Q*2^(i%30+1):=by
  rw[hv,show i+1=30*(i/30)+(i%30+1) by omega,Nat.pow_add,←Nat.mul_assoc,Nat.mul_comm Q,Nat.mul_assoc,Nat.mul_div_cancel_left _ (Nat.two_pow_pos _)]
 rw[e1]at h1
 have e2:(1073741824:Nat)=2^(29-i%30)*2^(i%30+1):=by rw[←Nat.pow_add,show 29-i%30+(i%30+1)=30 by omega]
 have e3:Q*2^(i%30+1)%1073741824=Q%2^(29-i%30)*2^(i%30+1):=by rw[e2,Nat.mul_mod_mul_right]
 have e4:Q%2^(29-i%30)<2^(29-i%30):=Nat.mod_lt _ (Nat.two_pow_pos _)
 have e5:Q%2^(29-i%30)*2^(i%30+1)+2^(i%30+1)≤1073741824:=by
  rw[e2,←Nat.succ_mul]
  exact Nat.mul_le_mul_right _ e4
 have e6:2^(i%30+1)=2^(i%30)*2:=Nat.pow_succ _ _
 have hlt:D.getD (i/30) 0+((2^(i%30):Nat):Int)<1073741824:=by
  rw[e3]at h1
  have:=Nat.two_pow_pos (i%30)
  omega
 refine⟨hD.put _ _ (by omega) hlt,?_,hlt⟩
 rw[nv_set_add _ D _ hD hf,hv,←Nat.pow_add,show i%30+30*(i/30)=i by omega,Nat.pow_succ,Nat.add_mul,Nat.one_mul,Nat.mul_comm 2 Q,Nat.mul_assoc,Nat.mul_comm 2 (2^i)]
theorem div_next (A B i:Nat)(hB:0<B)(R:Nat)(hR:R=2*(A/2^(i+1)%B)+A/2^i%2):
  (B≤R→R-B=A/2^i%B∧2*(A/2^(i+1)/B)+1=A/2^i/B)∧(¬B≤R→R=A/2^i%B∧2*(A/2^(i+1)/B)=A/2^i/B):=by
 have hX:A/2^(i+1)=A/2^i/2:=by rw[Nat.pow_succ,Nat.div_div_eq_div_mul]
 rw[hX]at hR ⊢
 generalize A/2^i=Y at *
 have h1:=Nat.div_add_mod Y 2
 have h2:=Nat.div_add_mod (Y/2) B
 have h3:=Nat.mod_lt (Y/2) hB
 generalize Y/2/B=Q at *
 generalize Y/2%B=M at *
 have hY:Y=B*(2*Q)+R:=by
  rw[←Nat.mul_assoc,Nat.mul_comm B 2,Nat.mul_assoc]
  omega
 refine⟨fun h=>?_,fun h=>?_⟩
 ·have e:Y=(R-B)+B*(2*Q+1):=by rw[Nat.mul_add,Nat.mul_one];omega
  rw[e,Nat.add_mul_mod_self_left,Nat.mod_eq_of_lt (by omega),Nat.add_mul_div_left _ _ hB,Nat.div_eq_of_lt (by omega)]
  omega
 ·have e:Y=R+B*(2*Q):=by omega
  rw[e,Nat.add_mul_mod_self_left,Nat.mod_eq_of_lt (by omega),Nat.add_mul_div_left _ _ hB,Nat.div_eq_of_lt (by omega)]
  omega
theorem wrap_sum (d u:Int)(h:0≤d∧d<1073741824)(h2:1≤u)(h3:u≤536870912):IntKind.i64.wrap (d+u)=d+u:=by rw[wrap_i64];omega
theorem natDiv_any (w:World)(A B:Nat)(va vb:Value)(hA:RL w va (digs A))(hB:RL w vb (digs B))(hB0:B≠0)(hbl:bl B≤bl A)(la:(digs A).length<20000)(lb:(digs B).length<20000):Calls Tryz.prog 56 #[va,vb] w fun e w'=>∃r1 r2,e=.returned (.tuple #[r1,r2])∧RL w' r1 (digs (A/B))∧RL w' r2 (digs (A%B))∧Kept w w':=by
 have hT9:bl A≤600000:=by
  have:=bl_le A (30*(digs A).length) (digs_lt A _ (Nat.le_refl _))
  omega
 have hA0:A≠0:=by
  intro h
  have:=(bl_pos B hB0).2.2
  rw[h,bl_zero]at hbl
  omega
 obtain⟨n,hn⟩:∃n,(digs A).length=n:=⟨_,rfl⟩
 obtain⟨k,hk⟩:∃k,k=bl A-bl B:=⟨_,rfl⟩
 have hAn:A<2^(30*n):=digs_lt A n (by omega)
 have hkn:k/30<n:=by
  have h1:=(bl_pos A hA0).1
  have h2:bl A≤30*n:=bl_le A _ hAn
  have h3:=(bl_pos B hB0).2.2
  omega
 have KB:Hid (∀v x X,RL v x (digs X)→(digs X).length<20000→Calls Tryz.prog 55 #[x] v fun e w'=>e=.returned (.int .i64 (bl X:Int))∧v=w'):=fun v x X hx hl=>natBits_any v X x hx (by omega)
 have hBp:0<B:=by omega
 have HLn:Hid (∀X,X<2*B→(digs X).length<20002):=fun X hX=>by
  obtain⟨b,hb⟩:∃b,b=(digs B).length:=⟨_,rfl⟩
  have h1:B<2^(30*b):=digs_lt B b (by omega)
  have h2:=pow30m b
  have:=digs_length_le X (b+1) (by rw[h2];generalize 2^(30*b)=P at *;omega)
  omega
 have Hst:Hid (A/2^k=2*(A/2^(k+1)%B)+A/2^k%2∧A/2^(k+1)/B=0):=by
  have h1:=(bl_pos A hA0).2.1
  have h2:=(bl_pos B hB0)
  have h3:A/2^(k+1)<B:=by
   refine Nat.lt_of_lt_of_le (Nat.div_lt_of_lt_mul ?_) h2.1
   rw[←Nat.pow_add,show k+1+(bl B-1)=bl A by omega]
   exact h1
  have h4:A/2^(k+1)=A/2^k/2:=by rw[Nat.pow_succ,Nat.div_div_eq_div_mul]
  refine⟨?_,Nat.div_eq_of_lt h3⟩
  rw[Nat.mod_eq_of_lt h3,h4]
  omega
 have hkk:(bl A:Int)-(bl B:Int)=(k:Int):=by omega
 have hk9:k≤600000:=by omega
 have hn9:n<20000:=by omega
 have hA':=hA
 obtain⟨a1,c1,rfl,-,-⟩:=hA'.at
 rw[hn]at hA ⊢
 have HA:Hid (RL w (.slice a1 n c1) (digs A)):=hA
 have HB:Hid (RL w vb (digs B)):=hB
 have HW:=make_run n (by omega)
 obtain⟨W1,hW1⟩:∃W1,W1=w.alloc (.cells (madeCells #[.int .i64 0] n) 3):=⟨_,rfl⟩
 have k1:Kept w W1:=by rw[hW1];exact(Kept.refl w).alloc _ _
 have hs1:W1.heap.size=w.heap.size+1:=by rw[hW1];simp[go_sem]
 have HO1:Hid (Own W1 w.heap.size n (List.replicate n 0)):=by rw[hW1];exact own_made n (by omega) w
 have KR:Hid (∀v,Kept W1 v→Calls Tryz.prog 85 #[.slice a1 n c1,.int .i64 (k:Int)] v fun e w'=>(∃r,e=.returned r∧RLp (Fresh (w.heap.size+1)) w' r (digs (A/2^k)))∧Kept v w'):=fun v kv=>by
  refine(natShr_any v (digs A) k _ (hA.kept (k1.trans kv)) (dg_digs A) (by omega) (by omega)).mono ?_
  rintro e w' ⟨⟨r,rfl,hr⟩,hk⟩
  rw[nv_digs]at hr
  exact⟨⟨r,rfl,hr.imp fun b hb=>by have h5:v.heap.size≤b:=hb;have:=kv.below.size;show w.heap.size+1≤b;omega⟩,hk⟩
 have HK:Hid (∀u,Grw w.heap.size W1 u→Kept w u):=fun u hu=>k1.grw (Nat.le_refl _) hu
 have hla:(digs A).length<20000:=la
 have hT1:=hT9
 clear hA hA' hB hk hAn la hA0
 go_enter Tryz.func56,Tryz.ntmps56
 go_upto_region 4 with (first|(go_at_call 55;refine(KB.out _ _ _ (by first|exact HA.out|exact HB.out) (by first|exact hla|exact lb)).mono ?_;rintro e w1 ⟨rfl,rfl⟩))
 go_upto_region 5 with fail
 rw[←hW1]
 clear hW1 HW hkk hbl hT9 hT1 KB
 go_upto_region 7 with (first|(go_at_call 85;refine(KR.out _ (Kept.refl W1)).mono ?_;rintro e w2 ⟨⟨r2,rfl,hr2⟩,k2⟩))
 have HG2:Hid (Grw w.heap.size W1 w2):=k2.toGrw _
 have hs2:=k2.below.size
 go_loopw [8,9] (fun rv iv wr=>∃(i R:Nat) (D:List Int),i≤k∧iv=.int .i64 (i:Int)∧RLp (Fresh (w.heap.size+1)) wr rv (digs R)∧R=2*(A/2^(i+1)%B)+A/2^i%2∧Own wr w.heap.size n D∧D.length=n∧Dg D∧nv D=A/2^(i+1)/B*2^(i+1)∧Grw w.heap.size W1 wr∧w.heap.size+1≤wr.heap.size) (fun _ iv _=>(intOf iv).toNat)
 case atStart=>exact⟨k,_,_,Nat.le_refl _,rfl,hr2,Hst.out.1,HO1.out.kept k2,by simp,fun d hd=>by rw[List.eq_of_mem_replicate hd];decide,by rw[Hst.out.2,Nat.zero_mul];exact(nv_zero _ (fun d hd=>by rw[List.eq_of_mem_replicate hd];decide)).2 (fun j=>getD_replicate n j),HG2.out,by omega⟩
 case round=>
  obtain⟨i,R,D,hi,rfl,hr,hR,hO,hDl,hD,hv,hG,hsz⟩:=hrel
  clear hr2 k2 HO1 HG2 Hst KR hs2
  have hKr:=HK.out _ hG
  have hRB:R<2*B:=by
   have:=Nat.mod_lt (A/2^(i+1)) hBp
   have:=Nat.mod_lt (A/2^i) (show 0<2 by omega)
   omega
  have hRl:=HLn.out R hRB
  obtain⟨dn1,dn2⟩:=div_next A B i hBp R hR
  have Hr:Hid (∀v,Kept wr v→RL v u8 (digs R)∧RLp (Fresh (w.heap.size+1)) v u8 (digs R)):=fun v kv=>⟨(hr.kept kv).rl,hr.kept kv⟩
  have HO:Hid (∀v,Kept wr v→Own v w.heap.size n D):=fun v kv=>hO.kept kv
  have HG:Hid (Grw w.heap.size W1 wr):=hG
  have HD:Hid (Dg D):=hD
  have Hv:Hid (nv D=A/2^(i+1)/B*2^(i+1)):=hv
  have hi9:i≤600000:=by omega
  have hin:i/30<n:=by omega
  have KCm:Hid (∀v,Kept wr v→Calls Tryz.prog 82 #[u8,vb] v fun e w'=>e=.returned (.int .i64 (cz (R:Int) (B:Int)))∧Kept v w'):=fun v kv=>natCmp_any v R B _ vb (hr.kept kv).rl (HB.out.kept (hKr.trans kv)) (by omega) (by omega)
  clear hr hO hG hD hv hR
  have Hz:Hid ((B≤R→0≤cz (R:Int) (B:Int))∧(¬B≤R→¬0≤cz (R:Int) (B:Int))):=by
   refine⟨fun hle=>?_,fun hle=>?_⟩
   ·rcases Nat.lt_or_eq_of_le hle with g|g
    ·rw[cz_gt (by omega)];decide
    ·rw[cz_eq (by rw[g])];decide
   ·rw[cz_lt (by omega)];decide
  have HR:Hid (∀v,Kept wr v→B≤R→Calls Tryz.prog 83 #[u8,vb] v fun e w'=>(∃r,e=.returned r∧RLp (Fresh (w.heap.size+1)) w' r (digs (A/2^i%B)))∧Kept v w'):=fun v kv hle=>by
   refine(natSub_any v R B hle _ vb (Hr.out v kv).1 (HB.out.kept (hKr.trans kv)) (by omega) (by omega)).mono ?_
   rintro e w' ⟨⟨r,rfl,hr⟩,hk⟩
   rw[(dn1 hle).1]at hr
   exact⟨⟨r,rfl,hr.imp fun b hb=>by have h5:v.heap.size≤b:=hb;have:=kv.below.size;show w.heap.size+1≤b;omega⟩,hk⟩
  have Hd1:Hid (B≤R→2*(A/2^(i+1)/B)+1=A/2^i/B):=fun h=>(dn1 h).2
  have Hd2:Hid (¬B≤R→R=A/2^i%B∧2*(A/2^(i+1)/B)=A/2^i/B):=dn2
  clear dn1 dn2
  generalize cz (R:Int) (B:Int)=z at *
  go_upto_if 33 with (first|(go_at_call 82;refine(KCm.out _ (Kept.refl _)).mono ?_;rintro e w3 ⟨rfl,k3⟩))
  go_cut [8]from 26 to 60 (fun t wx=>∃D':List Int,RLp (Fresh (w.heap.size+1)) wx t (digs (A/2^i%B))∧Own wx w.heap.size n D'∧D'.length=n∧Dg D'∧nv D'=A/2^i/B*2^i∧Grw w.heap.size W1 wx∧w.heap.size+1≤wx.heap.size)
  case first=>
   by_cases hle:B≤R
   ·have hz0:=Hz.out.1 hle
    have Hle:Hid (B≤R):=hle
    obtain⟨sb1,sb2,sb3⟩:=set_bit D HD.out i _ Hv.out (by omega)
    rw[Hd1.out hle]at sb2
    have Hs1:Hid (Dg (D.set (i/30) (D.getD (i/30) 0+((2^(i%30):Nat):Int)))):=sb1
    have Hs2:Hid (nv (D.set (i/30) (D.getD (i/30) 0+((2^(i%30):Nat):Int)))=A/2^i/B*2^i):=sb2
    have y2:((i:Int)).tdiv 30=((i/30:Nat):Int):=by rw[Int.tdiv_eq_ediv_of_nonneg (by omega)];omega
    have y1:((i:Int)).tmod 30=((i%30:Nat):Int):=by rw[Int.tmod_eq_emod_of_nonneg (by omega)];omega
    have hq9:i/30≤20000∧i%30<30:=by omega
    clear sb1 sb2 hle Hd1 Hd2 Hz KCm
    go_upto_region 11 with (first|(go_at_call 83;refine(HR.out _ k3 Hle.out).mono ?_;rintro e w4 ⟨⟨r4,rfl,hr4⟩,k4⟩))
    have hO4:=HO.out w4 (k3.trans k4)
    have hcl:=hO4.cell (i/30) (by omega)
    have hfr:=hO4.free (i/30)
    have hgd:=HD.out.getD (i/30)
    obtain⟨y3,y4,y5,y6,y7,y8⟩:=unit_facts (i%30) hq9.2 _ rfl
    have HOn:Hid (∀x:Int,Own (w4.setCell ⟨w.heap.size,i/30,none⟩ (.int .i64 x)) w.heap.size n (D.set (i/30) x)):=fun x=>hO4.set _ _
    have z1:=wrap_sum _ _ hgd y7 y8
    have hGx:Hid (∀x:Value,Grw w.heap.size w4 (w4.setCell ⟨w.heap.size,i/30,none⟩ x)):=fun x=>(Grw.refl _ _).setCell _ _
    have HG4:Hid (Grw w.heap.size W1 w4):=HG.out.trans ((k3.trans k4).toGrw _)
    have hs4:w.heap.size+1≤w4.heap.size:=Nat.le_trans hsz (k3.trans k4).below.size
    have Hr4:Hid (∀x:Value,RLp (Fresh (w.heap.size+1)) (w4.setCell ⟨w.heap.size,i/30,none⟩ x) r4 (digs (A/2^i%B))):=fun x=>hr4.grw (hGx.out x) (by omega)
    have hfn:((i/30:Nat):Int)<(n:Int):=by omega
    generalize i/30=f at *
    generalize i%30=s at *
    generalize ((2^s:Nat):Int)=un at *
    generalize hdd:D.getD f 0=dd at *
    have hcd:w4.drew.cell? ⟨w.heap.size,f,none⟩=some (.int .i64 dd):=hcl
    have hfd:w4.drew.frozen? ⟨w.heap.size,f,none⟩=false:=hfr
    clear hO4 hdd hr4 HO HD Hv Hr HR HLn HG hgd HA HB HK
    go_region
    go_wp2_with fail
    go_meet
    have kd:=(Kept.refl (w4.setCell ⟨w.heap.size,f,none⟩ (.int .i64 (dd+un)))).drew
    exact⟨_,(Hr4.out _).kept kd,(HOn.out _).kept kd,by rw[List.length_set];exact hDl,Hs1.out,Hs2.out,(HG4.out.trans (hGx.out _)).trans (kd.toGrw _),by simpa [go_sem] using hs4⟩
   ·have hz0:=Hz.out.2 hle
    have e1:=Hd2.out hle
    have He:Hid (R=A/2^i%B∧2*(A/2^(i+1)/B)=A/2^i/B):=e1
    clear e1 hle Hd1 Hd2 Hz KCm HR
    go_wp2_with fail
    go_meet
    refine⟨D,by rw[←He.out.1];exact(Hr.out _ k3).2,HO.out _ k3,hDl,HD.out,?_,HG.out.trans (k3.toGrw _),Nat.le_trans hsz k3.below.size⟩
    rw[Hv.out,←He.out.2,Nat.pow_succ,Nat.mul_comm 2,Nat.mul_assoc,Nat.mul_comm 2 (2^i)]
  case rest=>
   obtain⟨D',hr',hO',hDl',hD',hv',hG',hsz'⟩:=hcut
   rename World=>w5
   clear Hr HO HG HD Hv KCm Hz HR Hd1 Hd2 k3 hKr hRB hRl hDl
   have hK5:=HK.out _ hG'
   have hm:=Nat.mod_lt (A/2^i) hBp
   have hml:=HLn.out _ (show A/2^i%B<2*B by omega)
   by_cases hi0:i=0
   ·subst hi0
    rw[Nat.pow_zero,Nat.div_one]at hr' hv'
    rw[Nat.mul_one]at hv'
    have KT:Hid (Calls Tryz.prog 87 #[.slice (some ⟨w.heap.size,0,none⟩) n n] w5 fun e w'=>(∃r,e=.returned r∧RL w5 r (digs (A/B)))∧w5=w'):=by
     have:=trim_any w.heap.size w5 (.slice (some ⟨w.heap.size,0,none⟩) n n) D' (.inr ⟨w.heap.size,n,by rw[hDl'],Nat.le_refl _,hO'⟩) hD' (by omega)
     rw[hv']at this
     refine Calls.mono this ?_
     rintro e w' ⟨⟨r,rfl,hr⟩,rfl⟩
     exact⟨⟨r,rfl,hr.rl⟩,rfl⟩
    have Hr5:Hid (RL w5 u8 (digs (A%B))):=hr'.rl
    clear hr' hv' hO' hD' hG' HLn HA HB HK
    go_wp2_with (first|(go_at_call 87;refine(KT.out).mono ?_;rintro e w6 ⟨⟨r6,rfl,hr6⟩,rfl⟩))
    go_ret2
    exact⟨_,_,rfl,hr6,Hr5.out,hK5⟩
   ·obtain⟨j,rfl⟩:∃j,i=j+1:=⟨i-1,by omega⟩
    have hib:(((j+1:Nat):Int)==0)=false:=by simp;omega
    have hi1:((j+1:Nat):Int)-1=(j:Int):=by omega
    have KSh:Hid (Calls Tryz.prog 54 #[u8,.int .i64 1] w5 fun e w'=>(∃r,e=.returned r∧RLp (Fresh (w.heap.size+1)) w' r (digs (A/2^(j+1)%B*2)))∧Kept w5 w'):=by
     have:=natShl_any w5 (A/2^(j+1)%B) 1 u8 hr'.rl (by omega) (by omega)
     refine Calls.mono this ?_
     rintro e w' ⟨⟨r,rfl,hr⟩,hk⟩
     rw[Nat.pow_one]at hr
     exact⟨⟨r,rfl,hr.imp fun b hb=>by have h5:w5.heap.size≤b:=hb;show w.heap.size+1≤b;omega⟩,hk⟩
    have hm2:=HLn.out _ (show A/2^(j+1)%B*2<2*B by omega)
    have KBt:Hid (∀v,Kept w5 v→Calls Tryz.prog 88 #[.slice a1 n c1,.int .i64 (j:Int)] v fun e w'=>e=.returned (.bool (decide (A/2^j%2=1)))∧Kept v w'):=fun v kv=>by
     have:=natBit_any v A _ (HA.out.kept (hK5.trans kv)) (by omega) (j:Int) (by omega) (by omega)
     rw[bitz,if_neg (by omega),Int.toNat_natCast]at this
     exact this
    have KAd:Hid (∀v r,w.heap.size+1≤v.heap.size→RLp (Fresh (w.heap.size+1)) v r (digs (A/2^(j+1)%B*2))→Calls Tryz.prog 81 #[r,.slice (some ⟨v.heap.size,0,none⟩) 1 1] (v.alloc (.cells #[.int .i64 1] 3)) fun e w'=>(∃r,e=.returned r∧RLp (Fresh (w.heap.size+1)) w' r (digs (A/2^(j+1)%B*2+1)))∧Kept v w'):=fun v r hs hr=>by
     have ka:=(Kept.refl v).alloc #[.int .i64 1] 3
     refine(natAdd_any _ _ 1 r _ (hr.kept ka).rl (rl_one v) (by omega) (by decide)).mono ?_
     rintro e w' ⟨⟨r,rfl,hr⟩,hk⟩
     have:=ka.below.size
     exact⟨⟨r,rfl,hr.imp fun b hb=>by have h5:(v.alloc (.cells #[.int .i64 1] 3)).heap.size≤b:=hb;show w.heap.size+1≤b;omega⟩,ka.trans hk⟩
    have HO5:Hid (∀v,Kept w5 v→Own v w.heap.size n D'):=fun v kv=>hO'.kept kv
    have HG5:Hid (Grw w.heap.size W1 w5):=hG'
    have Hv5:Hid (nv D'=A/2^(j+1)/B*2^(j+1)):=hv'
    have HD5:Hid (Dg D'):=hD'
    clear hr' hv' hO' hD' hG' HLn HA HB HK hm hml
    by_cases hb:A/2^j%2=1
    ·rw[decide_eq_true hb]at KBt
     have Hb:Hid (A/2^j%2=1):=hb
     clear hb
     go_wp2_with (first|(go_at_call 54;refine(KSh.out).mono ?_;rintro e w6 ⟨⟨r6,rfl,hr6⟩,k6⟩)|(go_at_call 88;refine(KBt.out _ k6).mono ?_;rintro e w7 ⟨rfl,k7⟩)|(go_at_call 81;refine(KAd.out _ _ (Nat.le_trans hsz' (k6.trans k7).below.size) (hr6.kept k7)).mono ?_;rintro e w8 ⟨⟨r8,rfl,hr8⟩,k8⟩))
     have k9:=k6.trans (k7.trans k8)
     exact⟨⟨j,_,D',by omega,rfl,hr8,by rw[Hb.out];omega,HO5.out _ k9,hDl',HD5.out,Hv5.out,HG5.out.trans (k9.toGrw _),Nat.le_trans hsz' k9.below.size⟩,by simp[intOf]<;>omega⟩
    ·rw[decide_eq_false hb]at KBt
     have Hb:Hid (A/2^j%2=0):=by
      show A/2^j%2=0
      omega
     clear hb
     go_wp2_with (first|(go_at_call 54;refine(KSh.out).mono ?_;rintro e w6 ⟨⟨r6,rfl,hr6⟩,k6⟩)|(go_at_call 88;refine(KBt.out _ k6).mono ?_;rintro e w7 ⟨rfl,k7⟩))
     have k9:=k6.trans k7
     exact⟨⟨j,_,D',by omega,rfl,hr6.kept k7,by rw[Hb.out];omega,HO5.out _ k9,hDl',HD5.out,Hv5.out,HG5.out.trans (k9.toGrw _),Nat.le_trans hsz' k9.below.size⟩,by simp[intOf]<;>omega⟩
end Go.Proofs.YtnniljhdcplkgaaGreatDoor
