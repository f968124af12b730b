/-  -/
import Derived.Test.YtnniljhdcplkgaaGreatDoorWs47
import Derived.Test.YtnniljhdcplkgaaGreatDoorWs44
namespace Go.Proofs.YtnniljhdcplkgaaGreatDoor
open Go.ChangeShapes Go.WideShapes Go.ChangeAt Go.RowKit
set_option maxHeartbeats 16000000
set_option maxRecDepth 100000
set_option linter.unusedVariables false
set_option linter.unusedSimpArgs false
theorem quarter_cut:Cutz (cbn 64) (2^(kleast 64-(-1075)).toNat*(1*2^(2-(-1075):Int).toNat)) (1*2^(0-2*(-1075):Int).toNat) 4503599627370496 (2^1020*(2^(kleast 64-(-1075)).toNat*(1*2^(2-(-1075):Int).toNat))) (2^1019*(2^(kleast 64-(-1075)).toNat*(1*2^(2-(-1075):Int).toNat))) 4598175219545276416 false false false:=
 ⟨by decide+kernel,by decide+kernel,by decide+kernel,by decide+kernel,by decide+kernel,by decide+kernel,by decide+kernel,by decide+kernel,by decide+kernel⟩
theorem one_num:mulT (ofN 4607182418800017408 64) ⟨false,[1],0⟩=⟨false,[1],0⟩:=by kernel_rfl
theorem one_back:rzN 64 0 (ofN 4607182418800017408 64)=4607182418800017408:=by decide+kernel
theorem one_cfm:cfm 1 0=some ⟨false,[1],0⟩:=by kernel_rfl
theorem four_cfm:cfm 4 0=some ⟨false,[1],2⟩:=by kernel_rfl
theorem n1_vld:vld ⟨false,[1],0⟩=true:=by decide
theorem n4_vld:vld ⟨false,[1],2⟩=true:=by decide
theorem quarter (v1 v2:Value)(w:World)(hT:Tab w)(h1:NumAt w v1 ⟨false,[1],0⟩)(h2:NumAt w v2 ⟨false,[1],2⟩):Calls Tryz.prog 40 #[v1,v2,.int .i64 64] w fun e w'=>e=.returned (.int .i64 4598175219545276416)∧Kept w w':=by
 obtain⟨a1,c1,rfl,s1⟩:=h1.form
 obtain⟨a2,c2,rfl,s2⟩:=h2.form
 obtain⟨k,Q,H,F,od,hf,rt,hC,hP⟩:=quotz_all 64 (.inl rfl) ⟨false,[1],0⟩ ⟨false,[1],2⟩ n1_vld n4_vld (by decide) (by decide) (-1075) (by decide) (by decide) (by decide+kernel) (by decide+kernel) (by decide)
 have e1:nv [1]=1:=by decide+kernel
 dsimp only at hC
 rw[e1]at hC
 have hS:=cutz_same hC quarter_cut (rv_lt 64 (.inl rfl)) 0 (.inl rfl) false (ifn 64)
 refine squot_walk _ _ _ _ _ _ _ _ _ _ 64 4598175219545276416 false w (fun u k=>?_)
 have:=hP 0 (.inl rfl) a1 a2 c1 c2 u (hT.kept k) (s1.kept k) (s2.kept k)
 dsimp only[bne_self_eq_false]at this
 rw[show(false != false)=false from rfl,hS.1,hS.2]at this
 exact this
theorem size_true (b:Int)(h1:-9223372036854775808≤b)(h2:b≤9223372036854775807)(hc:cls b 64<3)(hl:lss b 0 64=false)(w:World):Calls Tryz.prog 20 #[.int .i64 b] w fun e w'=>e=.returned (.bool true)∧Kept w w':=by
 have:=isSize_walk b false (fun w=>by have:=less_any b 0 64 h1 h2 (by decide) (by decide) w;rwa [hl]at this) w
 rwa [decide_eq_true hc]at this
theorem checked_one (w:World):Calls Tryz.prog 8 #[.agg #[.int .i64 0,.int .i64 4607182418800017408,.int .i64 0,.int .i64 4,.int .i64 0,.int .i64 0]] w fun e w'=>e=.returned (.tuple #[.func (.func 61) #[] #[],.int .i64 0])∧Kept w w':=by
 have:=checked_walk 0 4607182418800017408 0 4 0 0 (kFn 0) (decide ((0:Int)≤0∧(0:Int)≤5)) true true (cok 0 0 0) w (fun u=>kindOf_any 0 u) (fun u=>size_true _ (by decide) (by decide) (by decide+kernel) (by decide+kernel) u) (fun u=>size_true _ (by decide) (by decide) (by decide+kernel) (by decide+kernel) u) (fun u _=>counts_yes 0 4607182418800017408 0 4 0 0 (.inl rfl) u (fun u=>isCount_any 4 u) (fun u=>isCount_any 0 u) (fun u=>isCount_any 0 u))
 rw[if_pos (by decide)]at this
 exact this
theorem At_quarter (w:World)(hT:Tab w):Calls Tryz.prog 6 #[.agg #[.int .i64 0,.int .i64 4607182418800017408,.int .i64 0,.int .i64 4,.int .i64 0,.int .i64 0],.int .i64 0] w fun e w'=>e=.returned (.tuple #[.int .i64 4598175219545276416,.int .i64 0])∧Kept w w':=by
 have:=At_yes 0 4607182418800017408 0 4 0 0 0 (.func (.func 61) #[] #[]) true 4598175219545276416 w (fun u _=>checked_one u) (fun u=>isCount_any 0 u) (fun u k _=>at_warm 0 4607182418800017408 0 4 0 0 0 1 _ (by decide) (by decide) ⟨false,[1],0⟩ ⟨false,[1],2⟩ _ u (fun u2 k2=>sint_any 1 (by decide) (by decide) _ one_cfm u2 ((hT.kept k).kept k2)) (fun u2 k2=>sint_any 4 (by decide) (by decide) _ four_cfm u2 ((hT.kept k).kept k2)) (fun u2 v v' k2 nv nv'=>?_))
 ·rw[if_pos rfl,if_neg (by decide+kernel)]at this
  exact this
 ·have hT2:=(hT.kept k).kept k2
  obtain⟨a1,c1,rfl,s1⟩:=nv.form
  obtain⟨a2,c2,rfl,s2⟩:=nv'.form
  exact share_walk 4607182418800017408 _ _ _ _ _ _ _ _ _ _ (ofN 4607182418800017408 64) ⟨false,[1],0⟩ _ u2 (fun u3 k3=>sof_any _ 64 (by decide) (by decide) (.inl rfl) (by decide+kernel) u3 (hT2.kept k3)) (fun u3 v k3 nv=>by
   have:=smulT (ofN 4607182418800017408 64) ⟨false,[1],0⟩ (zf_vz 4607182418800017408 64 (.inl rfl) (by decide+kernel)).1.ok n1_vld v _ u3 (hT2.kept k3) nv ⟨_,rfl,s1.kept k3⟩
   rwa [one_num]at this) (fun u3 v k3 nv=>quarter v _ u3 (hT2.kept k3) nv ⟨_,rfl,s2.kept k3⟩)
theorem At_one (w:World)(hT:Tab w):Calls Tryz.prog 6 #[.agg #[.int .i64 0,.int .i64 4607182418800017408,.int .i64 0,.int .i64 4,.int .i64 0,.int .i64 0],.int .i64 9] w fun e w'=>e=.returned (.tuple #[.int .i64 4607182418800017408,.int .i64 0])∧Kept w w':=by
 have:=At_yes 0 4607182418800017408 0 4 0 0 9 (.func (.func 61) #[] #[]) true 4607182418800017408 w (fun u _=>checked_one u) (fun u=>isCount_any 9 u) (fun u k _=>at_beh0 0 4607182418800017408 0 4 0 0 9 5 (by decide) (by decide) _ u (fun u2 k2=>constant_walk 0 4607182418800017408 0 4 0 0 5 (ofN 4607182418800017408 64) _ u2 (fun u3 k3=>sof_any _ 64 (by decide) (by decide) (.inl rfl) (by decide+kernel) u3 (((hT.kept k).kept k2).kept k3)) (fun u3 v k3 nv=>by
  have:=sround_any 64 (.inl rfl) (ofN 4607182418800017408 64) (zf_vz 4607182418800017408 64 (.inl rfl) (by decide+kernel)).1.ok v u3 (((hT.kept k).kept k2).kept k3) nv
  rwa [one_back]at this)))
 rw[if_pos rfl,if_neg (by decide+kernel)]at this
 exact this
theorem alive18 (w:World)(hT:Tab w):Calls Tryz.prog 5 #[] w fun e w'=>e=.returned (.bool true)∧Kept w w':=by
 obtain⟨X,hX⟩:∃X,X=w.alloc (.cells #[.int .i64 0,.int .i64 4607182418800017408,.int .i64 0,.int .i64 4,.int .i64 0,.int .i64 0] 23):=⟨_,rfl⟩
 have hK:Kept w X:=by rw[hX];exact(Kept.refl w).alloc _ _
 have HS0:Hid (∀u,Kept X u→_):=fun u k=>sch_cells w 0 4607182418800017408 0 4 0 0 _ X hX u k
 have HT:=hidr hT
 obtain⟨B0,hB0⟩:∃B,B=w.heap.size:=⟨_,rfl⟩
 rw[←hB0]at HS0
 clear hT
 go_enter Tryz.func5,Tryz.ntmps5
 go_upto_region 2 with fail
 rw[←hX,←hB0]
 clear hX hB0
 obtain⟨c0,c1,c2,c3,c4,c5⟩:=HS0.out _ (Kept.refl X)
 go_wp2_with fail
 refine(At_quarter _ (HT.out.kept hK)).mono ?_
 rintro e w1 ⟨rfl,k1⟩
 clear c0 c1 c2 c3 c4 c5
 obtain⟨c0,c1,c2,c3,c4,c5⟩:=HS0.out _ k1
 go_wp2_with fail
 refine(At_one _ (HT.out.kept (hK.trans k1))).mono ?_
 rintro e w2 ⟨rfl,k2⟩
 go_wp2_with fail
 go_ret
 exact⟨rfl,hK.trans (k1.trans k2)⟩
end Go.Proofs.YtnniljhdcplkgaaGreatDoor

namespace Go.Proofs.YtnniljhdcplkgaaGreatDoor
open Go.ChangeShapes Go.WideShapes Go.ChangeAt Go.RowKit
set_option maxHeartbeats 16000000
set_option maxRecDepth 100000
set_option linter.unusedVariables false
set_option linter.unusedSimpArgs false
theorem tzn_le (v:Nat)(hv:v≠0):tzn v≤bl v:=by have:=(bl_sub v hv).1;omega
theorem nrm_vld (neg:Bool)(v:Nat)(x:Int)(hb:bl v≤60000)(h1:-1048576≤x)(h2:x+(bl v:Int)≤1048576):vld (nrm neg v x)=true:=by
 by_cases h0:v=0
 ·subst h0
  simp[nrm]
  decide
 ·have ht:=tzn_le v h0
  have hw:wrap64 (x+(tzn v:Int))=x+(tzn v:Int):=by unfold wrap64;omega
  have hf:=frm_nrm neg v x
  unfold frm at hf
  rw[if_neg h0,hw,if_pos ⟨by omega,by omega,by omega⟩]at hf
  split at hf
  ·assumption
  ·cases hf
theorem tms_nrm (g1 g2:Bool)(A B:Nat)(a b:Int)(hA:bl A≤100000)(hB:bl B≤100000)(ha:-2000000≤a∧a≤2000000)(hb:-2000000≤b∧b≤2000000):tms (nrm g1 A a) (nrm g2 B b)=nrm (g1 != g2) (A*B) (a+b):=by
 by_cases a0:A=0
 ·subst a0
  simp[nrm,tms,nv]
 by_cases b0:B=0
 ·subst b0
  simp[nrm,tms,nv]
 have ta:=tzn_le A a0
 have tb:=tzn_le B b0
 have ea:=(tzn_div A a0).2
 have eb:=(tzn_div B b0).2
 have wa:wrap64 (a+(tzn A:Int))=a+(tzn A:Int):=by unfold wrap64;omega
 have wb:wrap64 (b+(tzn B:Int))=b+(tzn B:Int):=by unfold wrap64;omega
 have e1:nrm g1 A a=⟨g1,digs (A/2^tzn A),a+(tzn A:Int)⟩:=by rw[nrm,if_neg a0,wa]
 have e2:nrm g2 B b=⟨g2,digs (B/2^tzn B),b+(tzn B:Int)⟩:=by rw[nrm,if_neg b0,wb]
 rw[e1,e2]
 unfold tms
 dsimp only
 rw[nv_digs,nv_digs]
 obtain⟨k,hk⟩:∃k,tzn A=k:=⟨_,rfl⟩
 obtain⟨l,hl⟩:∃l,tzn B=l:=⟨_,rfl⟩
 rw[hk]at ea ⊢
 rw[hl]at eb ⊢
 have e3:A*B=(A/2^k*(B/2^l))*2^(k+l):=by
  generalize A/2^k=p at *
  generalize B/2^l=q at *
  rw[ea,eb,Nat.pow_add]
  ac_rfl
 rw[e3,nrm_shift]
 congr 1
 push_cast
 omega
theorem mulT_tms (x y:Nm)(hx:vld x=true)(hy:vld y=true)(h:vld (tms x y)=true):mulT x y=tms x y:=by
 unfold mulT
 rw[mul_ans x y hx hy,if_pos h]
 rfl
theorem bl_mul_le (A B p q:Nat)(hA:bl A≤p)(hB:bl B≤q):bl (A*B)≤p+q:=by
 refine bl_le _ _ ?_
 have h1:=Nat.lt_of_lt_of_le (bl_lt A) (Nat.pow_le_pow_right (by decide) hA)
 have h2:=Nat.lt_of_lt_of_le (bl_lt B) (Nat.pow_le_pow_right (by decide) hB)
 rw[Nat.pow_add]
 rcases Nat.eq_zero_or_pos A with rfl|h0
 ·rw[Nat.zero_mul];exact Nat.mul_pos (Nat.two_pow_pos _) (Nat.two_pow_pos _)
 ·exact Nat.mul_lt_mul'' h1 h2
theorem bl_pow_le (A p:Nat)(hA:bl A≤p):∀n,bl (A^n)≤p*n+1
 |0=>by
  have h:bl 1=1:=by decide
  rw[Nat.pow_zero,h]
  omega
 |n+1=>by
  rw[Nat.pow_succ]
  have:=bl_mul_le _ _ _ _ (bl_pow_le A p hA n) hA
  rw[Nat.mul_succ]
  omega
def gx (g:Bool)(n:Nat):Bool:=g&&(n%2==1)
theorem gx_add (g:Bool)(i j:Nat):(gx g i != gx g j)=gx g (i+j):=by
 unfold gx
 have h1:=Nat.mod_two_eq_zero_or_one i
 have h2:=Nat.mod_two_eq_zero_or_one j
 have h3:(i+j)%2=(i%2+j%2)%2:=Nat.add_mod i j 2
 rcases h1 with h1|h1<;>rcases h2 with h2|h2<;>cases g<;>simp[h1,h2,h3]
def pw (g:Bool)(M:Nat)(E:Int)(n:Nat):Nm:=nrm (gx g n) (M^n) ((n:Int)*E)
theorem pw_zero (g:Bool)(M:Nat)(E:Int):pw g M E 0=nrm false 1 0:=by simp[pw,gx]
theorem pw_one (g:Bool)(M:Nat)(E:Int):pw g M E 1=nrm g M E:=by simp[pw,gx]
theorem ne_bd {E:Int}(h1:-1074≤E)(h2:E≤971)(n:Nat)(hn:n≤900):-966600≤(n:Int)*E∧(n:Int)*E≤873900:=by
 have h0:(0:Int)≤(n:Int):=by omega
 have h9:(n:Int)≤900:=by omega
 constructor
 ·have:=Int.mul_le_mul_of_nonneg_left h1 h0
  omega
 ·have:=Int.mul_le_mul_of_nonneg_left h2 h0
  omega
theorem pw_vld (g:Bool)(M:Nat)(E:Int)(hM:bl M≤53)(h1:-1074≤E)(h2:E≤971)(n:Nat)(hn:n≤900):vld (pw g M E n)=true:=by
 have hb:=bl_pow_le M 53 hM n
 have he:=ne_bd h1 h2 n hn
 exact nrm_vld _ _ _ (by omega) (by omega) (by omega)
theorem pw_add (g:Bool)(M:Nat)(E:Int)(hM:bl M≤53)(h1:-1074≤E)(h2:E≤971)(i j:Nat)(hi:i≤900)(hj:j≤900):tms (pw g M E i) (pw g M E j)=pw g M E (i+j):=by
 have b1:=bl_pow_le M 53 hM i
 have b2:=bl_pow_le M 53 hM j
 have e1:=ne_bd h1 h2 i hi
 have e2:=ne_bd h1 h2 j hj
 unfold pw
 rw[tms_nrm _ _ _ _ _ _ (by omega) (by omega) (by omega) (by omega),gx_add,Nat.pow_add]
 congr 1
 push_cast
 rw[Int.add_mul]
theorem rz_pw (g:Bool)(M:Nat)(E:Int)(hM:bl M≤53)(h1:-1074≤E)(h2:E≤971)(t L:Nat)(hL:t<2^L)(ht:t≤900):∀i,i≤L→rz (nrm false 1 0) (nrm g M E) t L i=pw g M E (t/2^(L-i))
 |0,_=>by
  rw[Nat.sub_zero,Nat.div_eq_of_lt hL,pw_zero]
  rfl
 | i+1,hi=>by
  have ih:=rz_pw g M E hM h1 h2 t L hL ht i (by omega)
  obtain⟨m,hm⟩:∃m,t/2^(L-i)=m:=⟨_,rfl⟩
  obtain⟨q,hq⟩:∃q,t/2^(L-(i+1))=q:=⟨_,rfl⟩
  have hmq:m=q/2:=by
   rw[←hm,←hq,Nat.div_div_eq_div_mul,←Nat.pow_succ,show(L-(i+1)).succ=L-i by omega]
  have hqt:q≤t:=by rw[←hq];exact Nat.div_le_self _ _
  rw[hm]at ih
  rw[show L-(i+1)=L-1-i by omega]at hq
  have v0:=pw_vld g M E hM h1 h2 m (by omega)
  have a2:=pw_add g M E hM h1 h2 m m (by omega) (by omega)
  have v2:=pw_vld g M E hM h1 h2 (m+m) (by omega)
  have s2:mulT (rz (nrm false 1 0) (nrm g M E) t L i) (rz (nrm false 1 0) (nrm g M E) t L i)=pw g M E (m+m):=by
   rw[ih,mulT_tms _ _ v0 v0 (by rw[a2];exact v2),a2]
  rw[show L-(i+1)=L-1-i by omega,hq]
  by_cases hbit:t/2^(L-1-i)%2=1
  ·rw[rz_one _ _ _ _ _ hbit,s2]
   rw[hq]at hbit
   have a3:=pw_add g M E hM h1 h2 (m+m) 1 (by omega) (by omega)
   have v1:=pw_vld g M E hM h1 h2 1 (by omega)
   have v3:=pw_vld g M E hM h1 h2 (m+m+1) (by omega)
   rw[←pw_one g M E,mulT_tms _ _ v2 v1 (by rw[a3];exact v3),a3]
   congr 1
   omega
  ·rw[rz_nul _ _ _ _ _ hbit,s2]
   rw[hq]at hbit
   congr 1
   omega
theorem dwh_any (n:Int)(h0:0≤n)(h1:n≤9223372036854775807):Dwh n (nrm false n.toNat 0):=fun l u hl=>(whole_v n h0 h1 u).mono fun e w' ⟨⟨v,h1,h2⟩,k⟩=>⟨v,h1,ni_call h2 hl,k⟩
theorem dnu_any (b:Int)(hb1:-9223372036854775808≤b)(hb2:b≤9223372036854775807)(hc:cls b 64<3):Dnu b (ofN b 64):=fun l u hl=>(num_v b hb1 hb2 hc u).mono fun e w' ⟨⟨v,h1,h2⟩,k⟩=>⟨v,h1,ni_call h2 hl,k⟩
theorem dtm_any (x y:Nm)(hx:vld x=true)(hy:vld y=true):Dtm x y (tms x y):=fun l u va vb hl ha hb=>times_ni l u hl x y va vb ha hb hx hy
theorem pl_ni {l:List Nat}{w w':World}{v:Value}{r:Nm}(hl:Lt l w)(h:RNp (PL (fun c=>c∉l) w) w' v r):NI l w' v r:=h.imp (fun c hc hm=>hc.elim (fun h=>h hm) (fun h=>by have:=hl c hm;omega))
theorem dmi_any (x y:Nm)(hx:vld x=true)(hy:vld y=true):Dmi x y (pls x (trn y)):=fun l u va vb hl ha hb=>(minus2_any _ u x y va vb ha hb hx hy).mono fun e w' ⟨⟨v,h1,h2⟩,k⟩=>⟨v,h1,pl_ni hl h2,k⟩
theorem dpl_any (x y:Nm)(hx:vld x=true)(hy:vld y=true):Dpl x y (pls x y):=fun l u va vb hl ha hb=>(plus2_any _ u x y va vb ha hb hx hy).mono fun e w' ⟨⟨v,h1,h2⟩,k⟩=>⟨v,h1,pl_ni hl h2,k⟩
theorem dnr_any (x:Nm)(hx:vld x=true):Dnr x (rzN 64 0 x):=fun u va ha=>vnear 64 (.inl rfl) x hx va u ha.rt2
theorem dpw_any (g:Bool)(M:Nat)(E:Int)(hM:bl M≤53)(h1:-1074≤E)(h2:E≤971)(t:Nat)(ht:t≤900):Dpw (nrm g M E) (t:Int) (pw g M E t):=fun u va ha=>by
 have hs:=ha.shape5
 obtain⟨n1,a1,l1,c1,x1,rfl⟩:=hs
 have hv:=pw_vld g M E hM h1 h2 1 (by omega)
 rw[pw_one]at hv
 refine(pow18_walk n1 a1 l1 c1 x1 t (by omega) (fun i=>pw g M E i) (nrm g M E) u ha.rt2 (fun u2 k=>?_) (fun u2 i va vb l hi hl hva hvb=>?_)).mono fun e w' ⟨v,h1,h2,k⟩=>⟨v,h1,h2.imp fun _ _ h=>(by cases h),k⟩
 ·have:=whole_v 1 (by decide) (by decide) u2
  refine this.mono ?_
  rintro e w' ⟨⟨v,rfl,hr⟩,kk⟩
  refine⟨v,rfl,?_,kk⟩
  show RNp _ _ _ (pw g M E 0)
  rw[pw_zero]
  exact hr
 ·have hp:=pw_vld g M E hM h1 h2 i (by omega)
  have ha2:=pw_add g M E hM h1 h2 i 1 (by omega) (by omega)
  rw[pw_one]at ha2
  have:=times_ni l u2 hl (pw g M E i) (nrm g M E) va vb hva hvb hp hv
  rw[ha2]at this
  exact this
end Go.Proofs.YtnniljhdcplkgaaGreatDoor

namespace Go.Proofs.YtnniljhdcplkgaaGreatDoor
open Go.ChangeShapes Go.WideShapes Go.ChangeAt Go.RowKit
set_option maxHeartbeats 16000000
set_option maxRecDepth 100000
set_option linter.unusedVariables false
set_option linter.unusedSimpArgs false
theorem rrootq_nil (n1:Bool)(a1:Option Addr)(c1:Nat)(x1:Int)(n2:Bool)(a2:Option Addr)(l2 c2:Nat)(x2:Int)(w:World):Calls Tryz.prog 34 #[.agg #[.bool n1,.slice a1 0 c1,.int .i64 x1],.agg #[.bool n2,.slice a2 l2 c2,.int .i64 x2],.int .i64 64] w fun e w'=>e=.returned (.int .i64 0)∧Kept w w':=by
 obtain⟨k0,p,k2,k3,k4,k5,k6,k7,k8,hk⟩:=knd_is 64 (.inl rfl)
 have KO:Hid (∀u,Calls Tryz.prog 45 #[.int .i64 64] u fun e w'=>e=.returned (.tuple #[.agg #[.int .i64 k0,.int .i64 p,.int .i64 k2,.int .i64 k3,.int .i64 k4,.int .i64 k5,.int .i64 k6,.int .i64 k7,.int .i64 k8],.bool true])∧Kept u w'):=fun u=>by
  have:=of_knd 64 (.inl rfl) u
  rw[hk]at this
  exact this
 obtain⟨X,hX⟩:∃X,X=((w.alloc (.cells #[.bool n1,.slice a1 0 c1,.int .i64 x1] 43)).alloc (.cells #[.bool n2,.slice a2 l2 c2,.int .i64 x2] 43)):=⟨_,rfl⟩
 have hK:Kept w X:=by rw[hX];exact((Kept.refl w).alloc _ _).alloc _ _
 have hP0:N3 X w.heap.size (.bool n1) (.slice a1 0 c1) (.int .i64 x1):=by rw[hX];exact(N3.new w _ _ _ 43).alloc _ _
 obtain⟨B0,hB0⟩:∃B,B=w.heap.size:=⟨_,rfl⟩
 obtain⟨B1,hB1⟩:∃B,B=B0+1:=⟨_,rfl⟩
 rw[←hB0]at hP0
 have HP:=hidr hP0
 clear hP0 hk
 go_enter Tryz.func34,Tryz.ntmps34
 go_upto_region 1 with fail
 rw[←hX,←hB0,←hB1]
 clear hX hB0 hB1
 go_wp2_with fail
 refine(KO.out _).mono ?_
 rintro e w1 ⟨rfl,k1⟩
 obtain⟨Y,hY⟩:∃Y,Y=w1.alloc (.cells #[.int .i64 k0,.int .i64 p,.int .i64 k2,.int .i64 k3,.int .i64 k4,.int .i64 k5,.int .i64 k6,.int .i64 k7,.int .i64 k8] 66):=⟨_,rfl⟩
 have kY:Kept X Y:=by rw[hY];exact k1.alloc _ _
 obtain⟨D,hD⟩:∃D,D=w1.heap.size:=⟨_,rfl⟩
 obtain⟨c0,c1',c2',cf⟩:=HP.out.kept kY
 go_upto_region 2 with fail
 rw[←hY,←hD]
 clear hY hD
 go_wp2_with fail
 go_ret
 exact⟨rfl,hK.trans kY⟩
theorem squot_both (x y:Nm)(hx:vld x=true)(hy:vld y=true)(hy0:y.mag≠[]):∃s:Int,Cl4 s∧(x.mag=[]→s=0)∧(∀v1 v2 w,Tab w→NumAt w v1 x→NumAt w v2 y→Calls Tryz.prog 40 #[v1,v2,.int .i64 64] w fun e w'=>e=.returned (.int .i64 s)∧Kept w w')∧Dqt x y s:=by
 by_cases h0:x.mag=[]
 ·obtain⟨rx,lx,ex1,ex2⟩:=vld_bounds x hx
  obtain⟨ry,ly,ey1,ey2⟩:=vld_bounds y hy
  refine⟨0,by decide,fun _=>rfl,fun v1 v2 w hT h1 h2=>?_,fun u va vb ha hb=>?_⟩
  ·obtain⟨a1,c1,rfl,s1⟩:=h1.form
   obtain⟨a2,c2,rfl,s2⟩:=h2.form
   exact squot_walk _ _ _ _ _ _ _ _ _ _ 64 0 false w (fun u k=>quot_nought 64 0 (.inl rfl) (.inl rfl) x y rx ry (by omega) (by omega) a1 a2 c1 c2 u (s1.kept k) (s2.kept k) hx hy (by rw[h0];rfl) (fun h=>hy0 (List.length_eq_zero_iff.1 h)))
  ·obtain⟨a1,c1,rfl,s1⟩:=ha.shape
   obtain⟨a2,c2,rfl,s2⟩:=hb.shape
   obtain⟨k0,p,k2,k3,k4,k5,k6,k7,k8,hk⟩:=knd_is 64 (.inl rfl)
   refine rq_any 64 0 (.inl rfl) _ _ _ _ _ _ _ _ _ _ 0 false u (fun u2 k=>?_)
   rw[h0]
   exact rQuot_nil _ k0 p k2 k3 k4 k5 k6 k7 k8 hk _ _ _ _ _ _ _ _ _ _ u2
 ·obtain⟨q,o,hq,hP,hD⟩:=quot_both 64 0 (.inl rfl) (.inl rfl) x y hx hy h0 hy0
  refine⟨q,hq rfl,fun h=>absurd h h0,fun v1 v2 w hT h1 h2=>?_,fun u va vb ha hb=>?_⟩
  ·obtain⟨a1,c1,rfl,s1⟩:=h1.form
   obtain⟨a2,c2,rfl,s2⟩:=h2.form
   exact squot_walk _ _ _ _ _ _ _ _ _ _ 64 q o w (fun u k=>hP a1 a2 c1 c2 u (hT.kept k) (s1.kept k) (s2.kept k))
  ·obtain⟨a1,c1,rfl,s1⟩:=ha.shape
   obtain⟨a2,c2,rfl,s2⟩:=hb.shape
   exact rq_any 64 0 (.inl rfl) _ _ _ _ _ _ _ _ _ _ q o u (fun u2 k=>hD _ _ u2 (s1.rl.kept k) (s2.rl.kept k))
theorem sroot_both (x y:Nm)(hx:vld x=true)(hy:vld y=true)(hy0:y.mag≠[])(hxn:x.neg=false)(hyn:y.neg=false):∃s:Int,Cl4 s∧(∀v1 v2 w,Tab w→NumAt w v1 x→NumAt w v2 y→Calls Tryz.prog 93 #[v1,v2,.int .i64 64] w fun e w'=>e=.returned (.int .i64 s)∧Kept w w')∧Drq x y s:=by
 by_cases h0:x.mag=[]
 ·obtain⟨rx,lx,ex1,ex2⟩:=vld_bounds x hx
  obtain⟨ry,ly,ey1,ey2⟩:=vld_bounds y hy
  refine⟨0,by decide,fun v1 v2 w hT h1 h2=>?_,fun u va vb ha hb=>?_⟩
  ·obtain⟨a1,c1,rfl,s1⟩:=h1.form
   obtain⟨a2,c2,rfl,s2⟩:=h2.form
   refine srootq_walk _ _ _ _ _ _ _ _ _ _ 64 0 0 false w (fun u k=>?_)
   have ham:x.mag.length=0:=by rw[h0];rfl
   have hbm:y.mag.length≠0:=fun h=>hy0 (List.length_eq_zero_iff.1 h)
   have hv:=av2 x y rx ry (by omega) (by omega) a1 a2 c1 c2 u (s1.kept k) (s2.kept k)
   rw[hx,hy]at hv
   have KG:∀u2,Kept u u2→_:=fun u2 _=>signOf_any y.neg a2 y.mag.length c2 y.exp u2
   rw[if_neg hbm]at KG
   have KG1:∀u2,Kept u u2→_:=fun u2 _=>signOf_any x.neg a1 x.mag.length c1 x.exp u2
   rw[if_pos ham]at KG1
   have hsg:((if y.neg=true then (-1:Int)else 1)==0)=false:=by cases y.neg<;>rfl
   have KQ:∀u2,Kept u u2→_:=fun u2 _=>rootq_nil x.neg a1 c1 x.exp y.neg a2 y.mag.length c2 y.exp u2
   rw[←ham]at KQ
   exact xrootq 0 _ 64 _ _ _ x.neg y.neg a1 a2 x.mag.length c1 y.mag.length c2 x.exp y.exp 0 _ _ _ false hsg rfl (by cases y.neg<;>rfl) _ _ _ _ u (roundingOf_ok 64 0 (.inl rfl) (.inl rfl) _ _ hv) KG1 KG KQ (fun u _=>round_zero 64 _ _ _ _ 0 false false u)
  ·obtain⟨a1,c1,rfl,s1⟩:=ha.shape
   obtain⟨a2,c2,rfl,s2⟩:=hb.shape
   rw[h0]
   exact rrootq_nil _ _ _ _ _ _ _ _ _ u
 ·obtain⟨R,o,hR,-,hP,hD⟩:=rq_both 64 (.inl rfl) x y hx hy h0 hy0 hxn hyn
  have hi:ifn 64=9218868437227405312:=rfl
  have hk:pz 64 (R:Int)=(R:Int):=by unfold pz;rw[if_pos rfl,if_neg (by omega)]
  have hc:=pz_cls4 (R:Int) (by omega) (by omega)
  rw[hk]at hc
  refine⟨(R:Int),hc,fun v1 v2 w hT h1 h2=>?_,fun u va vb ha hb=>?_⟩
  ·obtain⟨a1,c1,rfl,s1⟩:=h1.form
   obtain⟨a2,c2,rfl,s2⟩:=h2.form
   exact srootq_walk _ _ _ _ _ _ _ _ _ _ 64 (R:Int) 0 o w (fun u k=>hP a1 a2 c1 c2 u (hT.kept k) (s1.kept k) (s2.kept k))
  ·obtain⟨a1,c1,rfl,s1⟩:=ha.shape
   obtain⟨a2,c2,rfl,s2⟩:=hb.shape
   exact hD a1 a2 c1 c2 u s1.rl s2.rl
theorem int_nrm (p:Int)(h0:0≤p)(h:p<1152921504606846976):vld (nrm false p.toNat 0)=true∧(0<p→(nrm false p.toNat 0).mag≠[])∧∀u,Tab u→Calls Tryz.prog 23 #[.int .i64 p] u fun e w'=>∃v,e=.returned v∧New u w' v (nrm false p.toNat 0)∧Kept u w':=by
 have hz:p.natAbs<2^expS:=Nat.lt_of_lt_of_le (show p.natAbs<2^60 by have hh:(2:Nat)^60=1152921504606846976:=(by decide);omega) (Nat.pow_le_pow_right (by decide) (by unfold expS;omega))
 obtain⟨y,hy⟩:=vz_mk 0 p (by decide) (by decide) hz
 have hr:=cfm_nrm hy.eq
 rw[decide_eq_false (by omega),show p.natAbs=p.toNat by omega]at hr
 rw[hr]
 exact⟨hy.ok,fun hp=>vz_ne hy (by omega),fun u hT=>sint_any p (by omega) (by omega) y hy.eq u hT⟩
theorem bl_cnt (n:Int)(h0:0≤n)(h:n<4398046511104):bl n.toNat≤42:=bl_le _ _ (by
 have hh:(2:Nat)^42=4398046511104:=(by decide)
 omega)
theorem of_nrm (b:Int)(hc:cls b 64<3):∃(g:Bool) (M:Nat) (E:Int),ofN b 64=nrm g M E∧bl M≤53∧-1074≤E∧E≤971∧vld (ofN b 64)=true:=by
 have h:=ofN_nrm b 64 (.inl rfl) hc
 have h1:=fl_64 b hc
 have h2:=bl_mag b 64 (.inl rfl) hc
 exact⟨_,_,_,h.2,h2.2,h1.2.2.1,h1.2.2.2.1,by rw[h.2];exact h.1⟩
theorem share_both (b:Int)(h1:-9223372036854775808≤b)(h2:b≤9223372036854775807)(hc:cls b 64<3)(P Q:Nat)(hP:bl P≤400)(hQ:bl Q≤400)(hQ0:(nrm false Q 0).mag≠[]):∃(s:Int) (z:Nm),Cl4 s∧(P=0→s=0)∧(∀u v1 v2,Tab u→NumAt u v1 (nrm false P 0)→NumAt u v2 (nrm false Q 0)→Calls Tryz.prog 22 #[.int .i64 b,v1,v2] u fun e w'=>e=.returned (.int .i64 s)∧Kept u w')∧Dtm (ofN b 64) (nrm false P 0) z∧Dqt z (nrm false Q 0) s:=by
 obtain⟨g,M,E,he,hM,hE1,hE2,hv⟩:=of_nrm b hc
 have vP:=nrm_vld false P 0 (by omega) (by omega) (by omega)
 have vQ:=nrm_vld false Q 0 (by omega) (by omega) (by omega)
 have ht:tms (ofN b 64) (nrm false P 0)=nrm (g != false) (M*P) (E+0):=by rw[he];exact tms_nrm _ _ _ _ _ _ (by omega) (by omega) (by omega) (by omega)
 have hbl:=bl_mul_le M P 53 400 hM hP
 have vT:vld (tms (ofN b 64) (nrm false P 0))=true:=by rw[ht];exact nrm_vld _ _ _ (by omega) (by omega) (by omega)
 obtain⟨s,hs,hs0,K1,K2⟩:=squot_both _ _ vT vQ hQ0
 refine⟨s,_,hs,fun hP0=>hs0 (by rw[ht,hP0,Nat.mul_zero];simp[nrm]),fun u v1 v2 hT n1 n2=>?_,dtm_any _ _ hv vP,K2⟩
 obtain⟨a1,c1,rfl,s1⟩:=n1.form
 obtain⟨a2,c2,rfl,s2⟩:=n2.form
 exact share_walk b _ _ _ _ _ _ _ _ _ _ (ofN b 64) _ s u (fun u2 k=>sof_any b 64 h1 h2 (.inl rfl) hc u2 (hT.kept k)) (fun u2 v k nv=>by
  have:=smulT (ofN b 64) (nrm false P 0) hv vP v _ u2 (hT.kept k) nv ⟨_,rfl,s1.kept k⟩
  rwa [mulT_tms _ _ hv vP vT]at this) (fun u2 v k nv=>K1 _ _ u2 (hT.kept k) nv ⟨_,rfl,s2.kept k⟩)
theorem raised_pw (g:Bool)(M:Nat)(E:Int)(hM:bl M≤53)(h1:-1074≤E)(h2:E≤971)(t:Nat)(ht:t≤900):∀u v,Tab u→NumAt u v (nrm g M E)→Calls Tryz.prog 91 #[v,.int .i64 (t:Int)] u fun e w'=>∃v,e=.returned v∧New u w' v (pw g M E t)∧Kept u w':=fun u v hT nv=>by
 obtain⟨v1,-,hone⟩:=int_nrm 1 (by decide) (by decide)
 have vx:=pw_vld g M E hM h1 h2 1 (by omega)
 rw[pw_one]at vx
 obtain⟨a1,c1,rfl,s1⟩:=nv.form
 have hz:=rz_pw g M E hM h1 h2 t (bl t) (bl_lt t) ht (bl t) (Nat.le_refl _)
 rw[Nat.sub_self,Nat.pow_zero,Nat.div_one]at hz
 have:=raised_walk _ a1 _ c1 _ t (bl t) (by omega) rfl (nrm false 1 0) (nrm g M E) v1 u (fun u2 k=>hone u2 (hT.kept k)) (fun u2 v p k np vp=>smulT p p vp vp _ _ u2 (hT.kept k) np np) (fun u2 v p k np vp=>smulT p (nrm g M E) vp vx _ _ u2 (hT.kept k) np ⟨_,rfl,s1.kept k⟩)
 rw[hz]at this
 exact this
end Go.Proofs.YtnniljhdcplkgaaGreatDoor
