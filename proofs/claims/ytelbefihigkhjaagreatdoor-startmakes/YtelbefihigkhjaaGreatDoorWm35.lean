/-  -/
import Derived.Test.YtelbefihigkhjaaGreatDoorWm34
import Derived.Test.YtelbefihigkhjaaGreatDoorWm23
import Derived.Test.YtelbefihigkhjaaGreatDoorWm20
import Derived.Test.YtelbefihigkhjaaGreatDoorWm19
import Derived.Test.YtelbefihigkhjaaGreatDoorWm02
import Derived.Deep.RegionHeld
import Derived.Test.YtelbefihigkhjaaGreatDoorWm33
namespace Go.Proofs.YtelbefihigkhjaaGreatDoor
open Go.ChangeShapes Go.WideShapes Go.ChangeAt Go.RowKit
set_option maxHeartbeats 16000000
set_option maxRecDepth 100000
set_option linter.unusedVariables false
set_option linter.unusedSimpArgs false
def jz:Nat:=9000
structure Vz (s Z:Int) (x:Nm):Prop where
 eq:cfm Z s=some x
 lies:Lies s jz x
 val:vz s x=Z
theorem Qv (s Z:Int)(h1:-20000≤s)(h2:s≤0)(hz:Z.natAbs<2^jz):∃x,Vz s Z x:=by
 obtain⟨x,e,l,v⟩:=xJ s jz (by unfold jz;omega) h1 h2 Z hz
 exact⟨x,e,l,v⟩
theorem Vz.of {s Z:Int}{x:Nm}(h1:-20000≤s)(h2:s≤0)(hz:Z.natAbs<2^jz)(h:cfm Z s=some x):Vz s Z x:=by
 obtain⟨y,e,l,v⟩:=xJ s jz (by unfold jz;omega) h1 h2 Z hz
 rw[h]at e
 cases e
 exact⟨h,l,v⟩
theorem Vz.ok {s Z:Int}{x:Nm}(h:Vz s Z x):vld x=true:=h.lies.ok
theorem Vz.add {s X Y:Int}{x y r:Nm}(hx:Vz s X x)(hy:Vz s Y y)(hr:Vz s (X+Y) r):xw x y=some r:=by
 rw[YH s jz (by unfold jz;omega) x y hx.lies hy.lies,hx.val,hy.val]
 exact hr.eq
theorem Vz.sub {s X Y:Int}{x y r:Nm}(hx:Vz s X x)(hy:Vz s Y y)(hr:Vz s (X-Y) r):xw x (ng y)=some r:=by
 rw[qg2 s jz (by unfold jz;omega) x y hx.lies hy.lies,hx.val,hy.val]
 exact hr.eq
theorem Vz.mul {s t X Y:Int}{x y r:Nm}(h1:-20000≤s)(h2:s≤0)(hx:Vz s X x)(hy:Vz s Y y)(ht:t=s+s)(hr:cfm (X*Y) t=some r):Qs x y=some r:=by
 subst ht
 rw[qgz s jz (by unfold jz;omega) h1 h2 x y hx.lies hy.lies,hx.val,hy.val]
 exact hr
theorem Vz.down {s t Z:Int}{x:Nm}(k:Nat)(hk:s=t+k)(h:Vz s Z x)(h1:-20000≤t)(h2:t≤0)(hz:(Z*2^k).natAbs<2^jz):Vz t (Z*2^k) x:=Vz.of h1 h2 hz (by rw[zw,←hk];exact h.eq)
def zf (b n:Int):Int:=sg (qT b n) (qx b n*2^(qE b n+1074).toNat)
theorem jh (b n:Int)(hn:n=64∨n=32)(hc:cls b n<3):Vz (-1074) (zf b n) (ofN b n)∧∀E,E=2200→(zf b n).natAbs<2^E:=by
 obtain⟨p1,p2,p3,p4,p5,-⟩:=yA b n hn hc
 have hlt:∀E,E=2200→(zf b n).natAbs<2^E:=by
  intro E hE
  have e:(zf b n).natAbs=(qx b n).toNat*2^(qE b n+1074).toNat:=by
   obtain⟨M,hM⟩:∃M:Nat,qx b n=(M:Int):=⟨(qx b n).toNat,by omega⟩
   unfold zf
   rw[hM,Int.toNat_natCast]
   have h0:∀(s:Bool) (a:Nat),(sg s (a:Int)).natAbs=a:=fun s a=>by cases s<;>simp[sg]
   have:=h0 (qT b n) (M*2^(qE b n+1074).toNat)
   push_cast at this
   exact this
  rw[e]
  have h1:(qx b n).toNat<2^(qH n).toNat:=by
   have:((qx b n).toNat:Int)<((2^(qH n).toNat:Nat):Int):=by push_cast;omega
   omega
  have h2:(qH n).toNat≤53:=by rcases hn with rfl|rfl<;>decide
  have h3:(qE b n+1074).toNat≤2074:=by omega
  have h4:(qx b n).toNat<2^53:=qlf h1 (qlh (by decide) h2)
  obtain⟨F,hF⟩:∃F:Nat,F=2074:=⟨_,rfl⟩
  rw[←hF]at h3
  have h5:2^(qE b n+1074).toNat≤2^F:=qlh (by decide) h3
  have h6:(qx b n).toNat*2^(qE b n+1074).toNat≤2^53*2^F:=Nat.mul_le_mul (Nat.le_of_lt h4) h5
  have h7:2^53*2^F<2^E:=by
   rw[←qlg]
   exact Nat.pow_lt_pow_right (by decide) (by omega)
  exact Nat.lt_of_le_of_lt h6 h7
 obtain⟨E,hE⟩:∃E:Nat,E=2200:=⟨_,rfl⟩
 refine⟨Vz.of (by decide) (by decide) (qlf (hlt E hE) (qlh (by decide) (by unfold jz;omega))) ?_,hlt⟩
 have h:=Jd b n hn hc
 rw[kH]at h
 have hm:∀(s:Bool) (a b:Int),sg s (a*b)=sg s a*b:=fun s a b=>by cases s<;>simp[sg,Int.neg_mul]
 unfold zf
 rw[hm,zw,show(-1074:Int)+((qE b n+1074).toNat:Int)=qE b n by omega]
 rw[show((qx b n).toNat:Int)=qx b n by omega]at h
 exact h
theorem NumAt.keptS {w w':World}{v:Value}{x:Nm}(h:NumAt w v x)(k:Kept w w'):NumAt w' v x:=by
 obtain⟨s,e,hs⟩:=h
 exact⟨s,e,hs.kept k⟩
theorem NumAt.form {w:World}{v:Value}{x:Nm}(h:NumAt w v x):∃ao c,v=.agg #[.bool x.neg,.slice ao x.mag.length c,.int .i64 x.exp]∧Sl w (.slice ao x.mag.length c) x.mag:=by
 obtain⟨s,rfl,hs⟩:=h
 obtain⟨ao,c,rfl,r⟩:=hs
 exact⟨ao,c,rfl,ao,c,rfl,r⟩
theorem Jt (b n:Int)(hb1:-9223372036854775808≤b)(hb2:b≤9223372036854775807)(hn:n=64∨n=32)(hc:cls b n<3)(w:World)(hT:Tab w):Calls Tryz.prog 102 #[.int .i64 b,.int .i64 n] w fun e w'=>∃v,e=.returned v∧New w w' v (ofN b n)∧Kept w w':=
 qeb b n _ w (fun u k=>qi7 b n hb1 hb2 hn hc u (hT.kept k))
theorem qec (x y r:Nm)(v1 v2:Value)(w:World)(hT:Tab w)(h1:NumAt w v1 x)(h2:NumAt w v2 y)(hx:vld x=true)(hy:vld y=true)(hr:xw x y=some r):Calls Tryz.prog 105 #[v1,v2] w fun e w'=>∃v,e=.returned v∧New w w' v r∧Kept w w':=by
 obtain⟨a1,c1,rfl,s1⟩:=h1.form
 obtain⟨a2,c2,rfl,s2⟩:=h2.form
 exact qa0 _ _ _ _ _ _ _ _ _ _ r w (fun u k=>qft u (hT.kept k) x.neg x.mag x.exp hx a1 c1 y.neg y.mag y.exp hy a2 c2 (s1.kept k) (s2.kept k) r hr)
theorem qed (x y r:Nm)(v1 v2:Value)(w:World)(hT:Tab w)(h1:NumAt w v1 x)(h2:NumAt w v2 y)(hx:vld x=true)(hy:vld y=true)(hr:xw x (ng y)=some r):Calls Tryz.prog 103 #[v1,v2] w fun e w'=>∃v,e=.returned v∧New w w' v r∧Kept w w':=by
 obtain⟨a1,c1,rfl,s1⟩:=h1.form
 obtain⟨a2,c2,rfl,s2⟩:=h2.form
 exact qa1 _ _ _ _ _ _ _ _ _ _ r w (fun u k=>qg0 u (hT.kept k) x.neg x.mag x.exp hx a1 c1 y.neg y.mag y.exp hy a2 c2 (s1.kept k) (s2.kept k) r hr)
theorem qee (x y r:Nm)(v1 v2:Value)(w:World)(hT:Tab w)(h1:NumAt w v1 x)(h2:NumAt w v2 y)(hx:vld x=true)(hy:vld y=true)(hr:Qs x y=some r):Calls Tryz.prog 165 #[v1,v2] w fun e w'=>∃v,e=.returned v∧New w w' v r∧Kept w w':=by
 obtain⟨a1,c1,rfl,s1⟩:=h1.form
 obtain⟨a2,c2,rfl,s2⟩:=h2.form
 exact qa2 _ _ _ _ _ _ _ _ _ _ r w (fun u k=>qg1 u (hT.kept k) x.neg x.mag x.exp hx a1 c1 y.neg y.mag y.exp hy a2 c2 (s1.kept k) (s2.kept k) r hr)
end Go.Proofs.YtelbefihigkhjaaGreatDoor

namespace Go.Proofs.YtelbefihigkhjaaGreatDoor
open Go
set_option maxHeartbeats 16000000
set_option maxRecDepth 100000
set_option linter.unusedVariables false
section
variable {P:Program} {ops:Array Oper} {Q:Exit→Act→World→Prop} {md:Region.Mode} {S:World→Prop} {D:List Nat}
def qG (P:Program)(md:Region.Mode)(ops:Array Oper)(Q:Exit→Act→World→Prop)(S:World→Prop)(D:List Nat):Nat→Array Bool→Act→World→Prop
 |0,listed,a,w=>Region.ready md ops listed=[]∧Q .normal a w
 |fuel+1,listed,a,w=>
  (Region.ready md ops listed=[]→Q .normal a w)∧
  ∀i∈Region.ready md ops listed,wpOp P ops Q i (fun a' w'=>(D.contains i=false→S w')∧qG P md ops Q S D fuel (listed.setIfInBounds i true) a' w') a w
theorem vw:∀(fuel:Nat) (listed:Array Bool) (a:Act) (w:World),qG P md ops Q S D fuel listed a w→wpAny P md ops Q fuel listed a w
 |0,_,_,_,h=>h
 |fuel+1,_,_,_,h=>⟨h.1,fun i hi=>wpOp_mono (fun a' w' h'=>vw fuel _ a' w' h'.2) (h.2 i hi)⟩
def qeq (md:Region.Mode)(i:Nat)(E:List Nat)(o:Oper):Bool:=o.after.any fun e=>Region.binds md e&&(e.on==i||E.contains e.on)
def qer (md:Region.Mode)(ops:Array Oper)(i:Nat):List Nat:=(List.range ops.size).foldl (fun E j=>match ops[j]? with
 |some o=>if qeq md i E o then j::E else E
 |none=>E) []
def YP (md:Region.Mode)(ops:Array Oper)(listed:Array Bool)(D:List Nat)(i:Nat)(E:List Nat):Bool:=
 D.all (fun j=>E.contains j)&&E.all fun j=>(listed.getD j true==false)&&(j != i)&&(match ops[j]? with
  |some o=>qeq md i E o
  |none=>true)
def YQ (md:Region.Mode)(ops:Array Oper)(listed:Array Bool)(i:Nat)(E:List Nat):Prop:=
 ∀j∈E,listed.getD j true=false∧j≠i∧∀o,ops[j]?=some o→∃e∈o.after,Region.binds md e=true∧(e.on=i∨e.on∈E)
theorem QA {listed:Array Bool}{i:Nat}{E:List Nat}(h:YP md ops listed D i E=true):(∀j∈D,j∈E)∧YQ md ops listed i E:=by
 unfold YP at h
 rw[Bool.and_eq_true,List.all_eq_true,List.all_eq_true]at h
 refine⟨fun j hj=>by simpa using h.1 j hj,fun j hj=>?_⟩
 have h1:=h.2 j hj
 rw[Bool.and_eq_true,Bool.and_eq_true]at h1
 refine⟨by simpa using h1.1.1,by simpa using h1.1.2,fun o ho=>?_⟩
 have h2:=h1.2
 rw[ho]at h2
 unfold qeq at h2
 obtain⟨e,he,hb⟩:=Array.any_eq_true'.1 h2
 simp only[Bool.and_eq_true,Bool.or_eq_true,beq_iff_eq,List.contains_iff_mem]at hb
 exact⟨e,he,hb.1,hb.2⟩
theorem Jw {listed:Array Bool}{k:Nat}(h0:listed.getD k true=false)(h1:listed.getD k false=true):False:=by
 rcases Nat.lt_or_ge k listed.size with h'|h'
 ·simp[h']at h0 h1;rw[h0]at h1;cases h1
 ·simp[Array.getElem?_eq_none h']at h1
theorem QB {listed:Array Bool}{i j:Nat}{E:List Nat}(hL:YQ md ops listed i E)(hi:i∈Region.ready md ops listed)(hj:j∈Region.ready md ops listed):j∉E:=by
 intro hE
 obtain⟨-,-,h3⟩:=hL j hE
 obtain⟨-,o,ho,hall⟩:=mem_ready.1 hj
 obtain⟨e,he,hb,hw⟩:=h3 o ho
 have h1:=hall e he hb
 rcases hw with hw|hw
 ·rw[hw]at h1
  exact Jw (mem_ready.1 hi).1 h1
 ·exact Jw (hL _ hw).1 h1
theorem Jx {i:Nat}{oi:Oper}{v:Value}{E:List Nat}(hi:ops[i]?=some oi)(hsel:∀(j:Nat) (o:Oper) cs b,ops[j]?=some o→o.op≠.select cs b)
  (hQ:∀c a w,Q (.panic c) (a.put oi.dst v) w→Q (.panic c) a w) (hD:∀j∈D,j∈E):
  ∀(fuel:Nat) (listed:Array Bool) (a:Act) (w:World),YQ md ops listed i E→
   (∀j oj,ops[j]?=some oj→j≠i→listed.getD j true=false→(∀e∈oj.after,Region.binds md e=true→e.on≠i)→oi.apart ops oj=true)→
   i∈Region.ready md ops listed→YieldsIf P ops S oi v a→S w→
   qG P md ops Q S D fuel (listed.setIfInBounds i true) (a.put oi.dst v) w→qG P md ops Q S D (fuel+1) listed a w:=by
 intro fuel
 induction fuel with
 | zero=>
  intro listed a w _ _ hr hy hS H
  refine⟨fun h=>(by rw[h]at hr;cases hr),fun j hj=>?_⟩
  by_cases hji:j=i
  ·subst hji;exact hy.wpOp hi hS ⟨fun _=>hS,H⟩
  ·have:=ready_mono hj hji
   rw[H.1]at this
   cases this
 | succ fuel ih=>
  intro listed a w hL hfree hr hy hS H
  refine⟨fun h=>(by rw[h]at hr;cases hr),fun j hj=>?_⟩
  by_cases hji:j=i
  ·subst hji;exact hy.wpOp hi hS ⟨fun _=>hS,H⟩
  ·have h1:=H.2 j (ready_mono hj hji)
   have hjE:=QB hL hr hj
   have hjD:D.contains j=false:=by
    rcases hc:D.contains j with _|_
    ·rfl
    ·exact absurd (hD j (by simpa using hc)) hjE
   obtain⟨hjun,oj,hoj,hall⟩:=mem_ready.1 hj
   have hnot:∀e∈oj.after,Region.binds md e=true→e.on≠i:=fun e he hb heq=>by
    have h1:=hall e he hb
    rw[heq]at h1
    exact Jw (mem_ready.1 hr).1 h1
   have h2:=wpOp_putIf hoj (hfree j oj hoj hji hjun hnot) (fun cs b=>hsel i oi cs b hi) (fun cs b=>hsel j oj cs b hoj) hQ hy h1
   have hfree':∀k ok,ops[k]?=some ok→k≠i→(listed.setIfInBounds j true).getD k true=false→
     (∀e∈ok.after,Region.binds md e=true→e.on≠i)→oi.apart ops ok=true:=fun k ok hk hki hun hno=>by
    refine hfree k ok hk hki ?_ hno
    by_cases hjk:j=k
    ·subst hjk;exact hjun
    ·rw[getD_set_ne true hjk]at hun;exact hun
   have hL':YQ md ops (listed.setIfInBounds j true) i E:=fun k hk=>by
    obtain⟨g1,g2,g3⟩:=hL k hk
    have hne:j≠k:=fun e=>by subst e;exact hjE hk
    exact⟨by rw[getD_set_ne true hne];exact g1,g2,g3⟩
   refine wpOp_mono (fun a' w' h3=>⟨h3.2.1,ih (listed.setIfInBounds j true) a' w' hL' hfree' (ready_mono hr (Ne.symm hji)) h3.1 (h3.2.1 hjD) ?_⟩) h2
   rw[Array.setIfInBounds_comm _ _ hji]
   exact h3.2.2
theorem XP {i:Nat}{oi:Oper}{v:Value}{fuel:Nat}{listed:Array Bool}{a:Act}{w:World}(hi:ops[i]?=some oi)
  (hs:Region.noSelect ops=true) (hf:Region.free md ops listed i=true) (hr:(Region.ready md ops listed).contains i=true) (hl:YP md ops listed D i (qer md ops i)=true)
  (hQ:∀c a w,Q (.panic c) (a.put oi.dst v) w→Q (.panic c) a w) (hy:YieldsIf P ops S oi v a) (hS:S w)
  (h:qG P md ops Q S D fuel (listed.setIfInBounds i true) (a.put oi.dst v) w):qG P md ops Q S D (fuel+1) listed a w:=
 Jx hi (Region.noSelect_spec hs) hQ (QA hl).1 fuel listed a w (QA hl).2 (Region.free_spec hi hf) (by simpa using hr) hy hS h
theorem QC {rs:List Nat}{fuel:Nat}{listed:Array Bool}{a:Act}{w:World}(hr:Region.ready md ops listed=rs)(hne:rs≠[])
  (h:∀i∈rs,wpOp P ops Q i (fun a' w'=>(D.contains i=false→S w')∧qG P md ops Q S D fuel (listed.setIfInBounds i true) a' w') a w):qG P md ops Q S D (fuel+1) listed a w:=
 ⟨fun h0=>absurd (hr▸h0) hne,hr▸h⟩
theorem qg {i:Nat}{o:Oper}{fuel:Nat}{listed:Array Bool}{a:Act}{w:World}(hr:Region.ready md ops listed=[i])(ho:ops[i]?=some o)
  (h:∀K':Act→World→Prop,Shut (∀a w,S w→(S w→qG P md ops Q S D fuel (listed.setIfInBounds i true) a w)→K' a w)→if Region.wanted o (yielded ops a.tmps)=true then Oper.wp P o a w K' Q else K' (a.put o.dst undef) w):
  qG P md ops Q S D (fuel+1) listed a w:=by
 refine QC hr (by simp) fun j hj=>?_
 obtain rfl:=List.mem_singleton.1 hj
 exact wpOp_step ho (fun K' hK=>h K' (fun a w hS hW=>hK a w ⟨fun _=>hS,hW hS⟩))
theorem qo {i:Nat}{o:Oper}{fuel:Nat}{listed:Array Bool}{a:Act}{w:World}(hr:Region.ready md ops listed=[i])(ho:ops[i]?=some o)(hd:D.contains i=true)
  (h:∀K':Act→World→Prop,Shut (∀a w,qG P md ops Q S D fuel (listed.setIfInBounds i true) a w→K' a w)→if Region.wanted o (yielded ops a.tmps)=true then Oper.wp P o a w K' Q else K' (a.put o.dst undef) w):
  qG P md ops Q S D (fuel+1) listed a w:=by
 refine QC hr (by simp) fun j hj=>?_
 obtain rfl:=List.mem_singleton.1 hj
 exact wpOp_step ho (fun K' hK=>h K' (fun a w hW=>hK a w ⟨fun hc=>(by rw[hd]at hc;cases hc),hW⟩))
theorem qk {listed:Array Bool}{a:Act}{w:World}(hr:Region.ready md ops listed=[])(h:Q .normal a w):
  ∀fuel,qG P md ops Q S D fuel listed a w
 |0=>⟨hr,h⟩
 |_+1=>⟨fun _=>h,by rw[hr];simp⟩
theorem qi {id:Nat}{a:Act}{w:World}(D:List Nat)(S:World→Prop)(hm:P.follows .mixedOrders=true)(hS:S w.drew)
  (h:S w.drew→qG P .any ops Q S D ops.size (Array.replicate ops.size false) a w.drew):(Code.region id ops true).wp P Q a w:=
 wp_region_any hm (vw _ _ _ _ (h hS))
end
theorem tkD {P:Program}{ops:Array Oper}{Q:Exit→Act→World→Prop}{md:Region.Mode}{S:World→Prop}{D:List Nat}{i:Nat}{oi:Oper}{v:Value}{fuel:Nat}{listed:Array Bool}{a:Act}{w:World}(hi:ops[i]?=some oi)(hS:S w)(h:qG P md ops Q S D fuel (listed.setIfInBounds i true) (a.put oi.dst v) w)(hy:YieldsIf P ops S oi v a:=by exact .inl ⟨by rfl,by(intro w hSw;(try dsimp only at hSw);go_simp;try (with_reducible rfl))⟩)(hs:Region.noSelect ops=true:=by kernel_rfl)(hf:Region.free md ops listed i=true:=by kernel_rfl)(hr:(Region.ready md ops listed).contains i=true:=by kernel_rfl)(hl:YP md ops listed D i (qer md ops i)=true:=by kernel_rfl)(hQ:∀c a w,Q (.panic c) (a.put oi.dst v) w→Q (.panic c) a w:=by exact fun _ _ _ h=>h):qG P md ops Q S D (fuel+1) listed a w:=XP hi hs hf hr hl hQ hy hS h
end Go.Proofs.YtelbefihigkhjaaGreatDoor

namespace Go.Proofs.YtelbefihigkhjaaGreatDoor
open Go.ChangeShapes Go.WideShapes Go.ChangeAt Go.RowKit
set_option maxHeartbeats 16000000
set_option maxRecDepth 100000
set_option linter.unusedVariables false
set_option linter.unusedSimpArgs false
theorem VY (z:Int)(k e:Nat)(h:z.natAbs<2^k):(z*2^e).natAbs<2^(k+e):=by
 rw[Int.natAbs_mul,Int.natAbs_pow,qlg]
 exact Nat.mul_lt_mul_of_pos_right h (qle _)
theorem Qw (p:Int)(h1:-9223372036854775808≤p)(h2:p≤9223372036854775807)(y:Nm)(hy:cfm p 0=some y)(w:World)(hT:Tab w):Calls Tryz.prog 188 #[.int .i64 p] w fun e w'=>∃v,e=.returned v∧New w w' v y∧Kept w w':=by
 refine qaz p y w (fun u k=>?_)
 by_cases h0:0≤p
 ·refine(qfu p h0 h2 y hy u (hT.kept k)).mono ?_
  rintro e w' ⟨⟨v,rfl,hN⟩,kk⟩
  exact⟨v,rfl,hN,kk⟩
 ·refine(qgd p h1 (by omega) y hy u (hT.kept k)).mono ?_
  rintro e w' ⟨⟨v,rfl,hN⟩,kk⟩
  exact⟨v,rfl,hN,kk⟩
theorem New.formS {w0 w:World}{v:Value}{x:Nm}(h:New w0 w v x):∃ao c,v=.agg #[.bool x.neg,.slice ao x.mag.length c,.int .i64 x.exp]∧Sl w (.slice ao x.mag.length c) x.mag∧(ao=none→c=0):=by
 rcases h with ⟨rfl,rfl⟩|⟨g,cap,rfl,hg,ho,hne⟩
 ·exact⟨none,0,rfl,⟨none,0,rfl,qlj _,by simp[maxLen],fun h=>absurd rfl h⟩,fun _=>rfl⟩
 ·exact⟨_,_,rfl,ho.sl,fun h=>by cases h⟩
theorem Vz.scale {s Z:Int}{x r:Nm}(h:Vz s Z x)(k:Int)(hr:cfm Z (s+k)=some r):frm x.neg (nv x.mag) (x.exp+k)=some r:=by
 rw[kH,←hr]
 by_cases hne:x.mag=[]
 ·have hz:Z=0:=by
   rw[←h.val]
   unfold vz
   rw[hne]
   cases x.neg<;>simp[sg,nv]
  rw[hz,hne,show sg x.neg ((nv []:Nat):Int)=0 by cases x.neg<;>rfl,zU,zU]
 ·have hl:=h.lies.low hne
  have e:Z=sg x.neg (nv x.mag:Int)*2^(x.exp-s).toNat:=by
   rw[←h.val]
   unfold vz
   cases x.neg<;>simp[sg,Int.neg_mul]
  rw[e,zw,show s+k+((x.exp-s).toNat:Int)=x.exp+k by omega]
theorem qg3 (x:Nm)(h:vld x=true):-1048576≤x.exp∧x.exp≤1048576:=by
 obtain⟨n,L,e⟩:=x
 by_cases hL:L=[]
 ·subst hL
  obtain⟨-,rfl⟩:=ja _ _ h
  exact⟨by dsimp only;omega,by dsimp only;omega⟩
 ·obtain⟨p1,p2,p3,p4,p5,p6⟩:=qw n L e hL h
  exact⟨p5,p6⟩
theorem VZ {s Z:Int}{x r:Nm}(h:Vz s Z x)(k:Int)(hk1:-1000≤k)(hk2:k≤1000)(hr:cfm Z (s+k)=some r)(w0:World)(v1:Value)(w:World)(hT:Tab w)(h1:New w0 w v1 x):Calls Tryz.prog 187 #[v1,.int .i64 k] w fun e w'=>∃v,e=.returned v∧New w w' v r∧Kept w w':=by
 obtain⟨a1,c1,rfl,s1,hcap⟩:=h1.formS
 have hv:=h.ok
 obtain⟨hlen,hDg⟩:=jj x.neg x.mag x.exp hv
 have hx:=qg3 x hv
 have e1:wrap64 (x.exp+k)=x.exp+k:=by unfold wrap64;omega
 exact XG _ _ _ _ _ k r w (fun u kk=>qb8 x.neg x.mag hDg.rg (by omega) a1 c1 hcap x.exp k (x.exp+k) (by rw[qc];omega) e1 hv r (h.scale k hr) u (s1.kept kk) (hT.kept kk))
theorem V4 (n:Int)(hn:n=64∨n=32)(x:Nm)(hv:vld x=true)(v1:Value)(w:World)(hT:Tab w)(h1:NumAt w v1 x):Calls Tryz.prog 100 #[v1,.int .i64 n] w fun e w'=>e=.returned (.int .i64 (rzN n 0 x))∧Kept w w':=by
 obtain⟨a1,c1,rfl,s1⟩:=h1.form
 exact XH _ _ _ _ _ n _ 0 _ w (fun u kk=>qja n 0 hn (.inl rfl) x hv a1 c1 u (hT.kept kk) (s1.kept kk))
theorem V5 (n1:Bool)(a1:Option Addr)(l1 c1:Nat)(x1:Int)(p:Int)(y m r:Nm)(w:World)
  (KI:Hid (∀u,Kept w u→Calls Tryz.prog 188 #[.int .i64 p] u fun e w'=>∃v,e=.returned v∧New u w' v y∧Kept u w'))
  (KM:Hid (∀u v2,Kept w u→NumAt u v2 y→Calls Tryz.prog 165 #[.agg #[.bool n1,.slice a1 l1 c1,.int .i64 x1],v2] u fun e w'=>∃v,e=.returned v∧New u w' v m∧Kept u w'))
  (KS:Hid (∀u0 u v2,Kept w u→New u0 u v2 m→Calls Tryz.prog 187 #[v2,.int .i64 (-53)] u fun e w'=>∃v,e=.returned v∧New u w' v r∧Kept u w')):
  Calls Tryz.prog 106 #[.agg #[.bool n1,.slice a1 l1 c1,.int .i64 x1],.int .i64 p] w fun e w'=>∃v,e=.returned v∧New w w' v r∧Kept w w':=by
 obtain⟨X,hX⟩:∃X,X=(w.alloc (.cells #[.bool n1,.slice a1 l1 c1,.int .i64 x1] 78)).alloc (.cells #[.bool false,.slice none 0 0,.int .i64 0] 78):=⟨_,rfl⟩
 have hK:Kept w X:=by rw[hX];exact((qlv w).alloc _ _).alloc _ _
 have hXs:X.heap.size=w.heap.size+2:=by rw[hX];simp
 have hP0:N3 X (w.heap.size) (.bool n1) (.slice a1 l1 c1) (.int .i64 x1):=by
  rw[hX]
  have:=((N3.new (w) (.bool n1) (.slice a1 l1 c1) (.int .i64 x1) 78).alloc #[.bool false,.slice none 0 0,.int .i64 0] 78)
  simpa using this
 have hP1:N3 X (w.heap.size+1) (.bool false) (.slice none 0 0) (.int .i64 0):=by
  rw[hX]
  have:=(N3.new (w.alloc (.cells #[.bool n1,.slice a1 l1 c1,.int .i64 x1] 78)) (.bool false) (.slice none 0 0) (.int .i64 0) 78)
  simpa using this
 obtain⟨B0,hB0⟩:∃B,B=w.heap.size:=⟨_,rfl⟩
 obtain⟨B1,hB1⟩:∃B,B=B0+1:=⟨_,rfl⟩
 rw[←hB0]at hP0
 rw[←hB0,←hB1]at hP1
 have oB:Hid (w.heap.size≤B0∧B0<X.heap.size∧w.heap.size≤B1∧B1<X.heap.size):=(show _∧_∧_∧_ from by omega)
 have HS:Hid (∀u,Kept X u→Kept X u∧u.cell? ⟨B0,0,none⟩=some (.bool n1)∧u.cell? ⟨B0,1,none⟩=some (.slice a1 l1 c1)∧u.cell? ⟨B0,2,none⟩=some (.int .i64 x1)):=fun u k=>⟨k,(hP0.kept k).c0,(hP0.kept k).c1,(hP0.kept k).c2⟩
 have HR:Hid (∀u,Kept X u→N3 u B1 (.bool false) (.slice none 0 0) (.int .i64 0)):=fun u k=>hP1.kept k
 go_enter Tryz.func106,Tryz.ntmps106
 go_upto_region 1 with fail
 rw[←hX,←hB0,←hB1]
 clear hX hXs hB0 hB1
 refine qi [5] (fun u=>Kept X u∧u.cell? ⟨B0,0,none⟩=some (.bool n1)∧u.cell? ⟨B0,1,none⟩=some (.slice a1 l1 c1)∧u.cell? ⟨B0,2,none⟩=some (.int .i64 x1)) (by kernel_rfl) (HS.out _ (qlv X).drew) (fun hHeld=>?_)
 refine tkD (i:=0) (v:=?_) rfl hHeld ?_
 try simp only[zz]
 refine tkD (i:=1) (v:=?_) rfl hHeld ?_
 try simp only[zz]
 refine qg (i:=2) (by kernel_rfl) rfl (fun K hK9=>?_)
 go_simp
 go_wp2_with fail
 refine(KI.out _ (hK.trans hHeld.1)).mono ?_
 rintro e u1 ⟨v1,rfl,g1,k1⟩
 refine hK9.out _ _ (HS.out _ (hHeld.1.trans k1)) (fun hH1=>?_)
 clear hK9 K
 try simp only[zz]
 refine qg (i:=3) (by kernel_rfl) rfl (fun K hK9=>?_)
 go_simp
 go_wp2_with fail
 refine(KM.out _ _ (hK.trans hH1.1) g1.numAt).mono ?_
 rintro e u2 ⟨v2,rfl,g2,k2⟩
 refine hK9.out _ _ (HS.out _ (hH1.1.trans k2)) (fun hH2=>?_)
 clear hK9 K
 try simp only[zz]
 refine qg (i:=4) (by kernel_rfl) rfl (fun K hK9=>?_)
 go_simp
 go_wp2_with fail
 refine(KS.out _ _ _ (hK.trans hH2.1) g2).mono ?_
 rintro e u3 ⟨v3,rfl,g3,k3⟩
 refine hK9.out _ _ (HS.out _ (hH2.1.trans k3)) (fun hH3=>?_)
 clear hK9 K
 try simp only[zz]
 obtain⟨vn,va,vl,vc,vx,rfl⟩:=g3.shape
 obtain⟨f0,f1,f2,f3⟩:=HR.out _ hH3.1
 refine qo (i:=5) (by kernel_rfl) rfl rfl (fun K hK9=>?_)
 go_simp
 refine hK9.out _ _ ?_
 clear hK9 K
 try simp only[zz]
 refine qk (by kernel_rfl) ?_ _
 try simp only[zz]
 go_wp2_with fail
 have:=zi B1 oB.out.2.2.1 oB.out.2.2.2 hK (g3.from hH2.1) hH3.1 (.bool vn) (.slice va vl vc) (.int .i64 vx)
 exact qlu (v:=.agg #[.bool vn,.slice va vl vc,.int .i64 vx]) (by simp[results,Tryz.results106,go_sem,f0,f1,f2]) rfl ⟨_,rfl,this.1,this.2⟩
theorem qa3 {s X:Int}{x:Nm}(hx:Vz s X x)(p:Int)(h1:-9223372036854775808≤p)(h2:p≤9223372036854775807)(hs1:-2000≤s)(hs2:s≤0)(hp:(p*2^(-s).toNat).natAbs<2^jz)(hb:(X*p).natAbs<2^jz)(r:Nm)(hr:cfm (X*p) (s+-53)=some r)(v1:Value)(w:World)(hT:Tab w)(hv:NumAt w v1 x):Calls Tryz.prog 106 #[v1,.int .i64 p] w fun e w'=>∃v,e=.returned v∧New w w' v r∧Kept w w':=by
 have hpb:p.natAbs<2^jz:=by
  refine Nat.lt_of_le_of_lt ?_ hp
  rw[Int.natAbs_mul]
  have:1≤((2:Int)^(-s).toNat).natAbs:=by
   rw[Int.natAbs_pow]
   exact Nat.one_le_two_pow
  exact Nat.le_mul_of_pos_right _ this
 obtain⟨y,hy⟩:=Qv 0 p (by decide) (by decide) hpb
 have hy2:=hy.down (-s).toNat (t:=s) (by omega) (by omega) hs2 hp
 obtain⟨m,hm⟩:=Qv s (X*p) (by omega) hs2 hb
 have hmul:Qs x y=some m:=by
  refine Vz.mul (by omega) hs2 hx hy2 rfl ?_
  rw[←Int.mul_assoc,zw,show s+s+((-s).toNat:Int)=s by omega]
  exact hm.eq
 obtain⟨a1,c1,rfl,s1⟩:=hv.form
 refine V5 _ _ _ _ _ p y m r w (fun u k=>Qw p h1 h2 y hy.eq u (hT.kept k)) (fun u v2 k hv2=>qee x y m _ v2 u (hT.kept k) (hv.keptS k) hv2 hx.ok hy.ok hmul) (fun u0 u v2 k hN=>VZ hm (-53) (by decide) (by decide) hr u0 v2 u (hT.kept k) hN)
end Go.Proofs.YtelbefihigkhjaaGreatDoor

namespace Go.Proofs.YtelbefihigkhjaaGreatDoor
open Go.ChangeShapes Go.WideShapes Go.ChangeAt Go.RowKit Ieee
set_option maxHeartbeats 16000000
set_option maxRecDepth 100000
set_option linter.unusedVariables false
set_option linter.unusedSimpArgs false
theorem XF (neg:Bool)(m k d:Nat)(hm:m≠0)(hd:d≤k):Toward.zero.cut neg (m*2^k) d=m*2^(k-d):=by
 have hl:=vF m k hm
 unfold Toward.cut
 simp only[Nat.one_shiftLeft]
 rw[hl,Nat.min_eq_left (by omega)]
 have e:m*2^k=m*2^(k-d)*2^d:=by rw[qlk,←qlg];congr 2;omega
 rw[e,Nat.mul_div_cancel _ (qle d)]
 simp
theorem qax (m q K:Nat)(hK:K=1074)(hm:m≠0)(hm2:m<9007199254740992)(hq:q<FloatKind.f64.format.infRung)(hv:qs FloatKind.f64.format q=m*2^K):floatToIntVal .f64 q .i64=some (m:Int):=by
 have hsw:FloatKind.f64.format.infRung<FloatKind.f64.format.signWeight:=by decide+kernel
 have hr:qF FloatKind.f64.format q=q:=by unfold qF;exact Nat.mod_eq_of_lt (by omega)
 have hb:below FloatKind.f64.format q=false:=by
  unfold below
  rw[Nat.div_eq_of_lt (by omega)]
  rfl
 obtain⟨m',i,h1,h2,h3,h4⟩:=ji FloatKind.f64.format q (by rw[hr];exact hq)
 rw[hr,hv]at h3
 rw[hb]at h1
 have hl:FloatKind.f64.format.leastPlace=-(K:Int):=by rw[hK];exact vk
 rw[hl]at h2 h3
 have hcut:Toward.zero.cut false (m'<<<i.toNat) (-i).toNat=m:=by
  by_cases hi:0≤i
  ·obtain⟨j,hj⟩:∃j:Nat,i=(j:Int):=⟨i.toNat,by omega⟩
   subst hj
   have e:m'*2^j=m:=by
    have:m'*2^j*2^K=m*2^K:=by
     rw[qlk,←qlg,←h3]
     congr 2
     omega
    exact Nat.eq_of_mul_eq_mul_right (qle K) this
   have h0:(-(j:Int)).toNat=0:=by omega
   rw[h0,Int.toNat_natCast,Nat.shiftLeft_eq,e]
   have:=XF false m 0 0 hm (qlj _)
   simpa using this
  ·obtain⟨d,hd⟩:∃d:Nat,i=-(d:Int):=⟨(-i).toNat,by omega⟩
   subst hd
   have e:m'=m*2^d:=by
    have h5:(-(d:Int)- -(K:Int)).toNat=K-d:=by omega
    rw[h5]at h3
    have:m'*2^(K-d)=m*2^d*2^(K-d):=by
     rw[h3,qlk,←qlg]
     congr 2
     omega
    exact Nat.eq_of_mul_eq_mul_right (qle _) this
   have h0:(-(d:Int)).toNat=0:=by omega
   have h1':(- -(d:Int)).toNat=d:=by omega
   rw[h0,h1',Nat.shiftLeft_zero,e,XF false m d d hm (qlj _),Nat.sub_self]
   simp
 unfold floatToIntVal
 have:(FloatKind.f64.decode q).toInt .zero=some (m:Int):=by
  show(FloatKind.f64.format.read q).toInt .zero=_
  rw[h1]
  unfold Datum.toInt Datum.integral
  simp only[hcut]
  simp[signed]
 rw[this]
 have hmin:IntKind.i64.min=-9223372036854775808:=by decide
 have hmax:IntKind.i64.max=9223372036854775807:=by decide
 simp only[hmin,hmax]
 rw[if_pos (by omega)]
theorem qay (m :Nat)(hm2:m<9007199254740992):∃r q:Nat,r<9218868437227405312∧FloatKind.f64.format.mul (floatOfInt .f64 (m:Int)) 4368491638549381120=some r∧FloatKind.f64.format.mul r 4845873199050653696=some q∧floatToIntVal .f64 q .i64=some (m:Int):=by
  by_cases hm:m=0
  · subst hm
    exact⟨0,0,by decide,by decide+kernel,by decide+kernel,by decide+kernel⟩
  · obtain ⟨K, hK⟩ : ∃K:Nat,K=1074:=⟨_,rfl⟩
    obtain⟨fb,hfb⟩:∃fb:Nat,fb=52:=⟨_,rfl⟩
    have hsw:FloatKind.f64.format.infRung<FloatKind.f64.format.signWeight:=by decide+kernel
    have hinf:2^(K+(fb+1))≤qs FloatKind.f64.format FloatKind.f64.format.infRung:=by rw[vA];exact qlh (by decide) (by rw[hK,hfb];decide)
    obtain⟨r,g1,g2,g3⟩:=K8 FloatKind.f64.format m 4368491638549381120 (fb+1) fb K (by rw[hfb];decide+kernel) (by rw[hK];exact vk) hm (by rw[hfb];exact hm2) rfl (by omega) (by rw[hfb];decide+kernel) hinf hsw
    have e0:floatOfInt .f64 (m:Int)=FloatKind.f64.format.nearest false m 0:=by
      have:decide ((m:Int)<0)=false:=qlo (by omega)
      show FloatKind.f64.format.nearest (decide ((m:Int)<0)) (m:Int).natAbs 0=_
      rw[this,Int.natAbs_natCast]
    have hr:qF FloatKind.f64.format r=r:=by unfold qF;exact Nat.mod_eq_of_lt (by omega)
    have hb:below FloatKind.f64.format r=false:=by
      unfold below
      rw[Nat.div_eq_of_lt (by omega)]
      rfl
    obtain⟨m',i,h1,h2,h3,h4⟩:=ji FloatKind.f64.format r (by rw[hr];exact g2)
    rw[hr,g3]at h3
    rw[hb]at h1
    have hl:FloatKind.f64.format.leastPlace=-(K:Int):=by rw[hK];exact vk
    rw[hl]at h2 h3
    have hm':m'≠0:=by
      intro h0
      rw[h0,Nat.zero_mul]at h3
      exact absurd h3.symm (Nat.ne_of_gt (Nat.mul_pos (Nat.pos_of_ne_zero hm) (qle _)))
    have hbin:FloatKind.f64.format.binade=2^fb:=by rw[hfb];decide+kernel
    have hfr:FloatKind.f64.format.fractionBits=fb:=by rw[hfb];decide+kernel
    have hml':m'.log2≤FloatKind.f64.format.fractionBits:=by rw[hfr];exact log2_lt m' fb hm' (by rw[qlq,qll,←hbin];exact h4)
    have hval:m'*2^(i+((fb+1:Nat):Int)-FloatKind.f64.format.leastPlace).toNat=m*2^K:=by
      have e1:(i+((fb+1:Nat):Int)-FloatKind.f64.format.leastPlace).toNat=(i- -(K:Int)).toNat+(fb+1):=by rw[hl];omega
      rw[e1,qlg,←qlk,h3,qlk,←qlg]
      congr 2
      omega
    have hmK:m*2^K<qs FloatKind.f64.format FloatKind.f64.format.infRung:=by
      refine qlf ?_ hinf
      rw[Nat.add_comm,qlg]
      exact Nat.mul_lt_mul_of_pos_right (by rw[hfb];exact hm2) (qle _)
    obtain⟨q,k1,k2,k3⟩:=jd FloatKind.f64.format false m' (i+((fb+1:Nat):Int)) hm' hml' (by rw[hl];omega) (by rw[hval];exact hmK)
    rw[hval]at k3
    have hw:FloatKind.f64.format.word false q=q:=by unfold Format.word;simp
    rw[hw]at k1
    refine ⟨r, q, by have:FloatKind.f64.format.infRung=9218868437227405312:=by decide+kernel
                     omega,by rw[e0];exact g1,?_,qax m q K hK hm hm2 k2 k3⟩
    have hc:FloatKind.f64.format.read 4845873199050653696=.number false (2^fb) 1:=by rw[hfb];decide+kernel
    unfold Format.mul
    rw[h1,hc]
    show some (FloatKind.f64.format.nearest (false^^false) (m'*2^fb) (i+1))=some q
    rw[show(false^^false)=false from rfl,vo FloatKind.f64.format false m' fb _ hm' hml' (by rw[hl];omega),show i+1+(fb:Int)=i+((fb+1:Nat):Int) by omega,k1]
end Go.Proofs.YtelbefihigkhjaaGreatDoor
