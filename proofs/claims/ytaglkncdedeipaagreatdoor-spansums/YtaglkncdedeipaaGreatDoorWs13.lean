/-  -/
import Derived.Test.YtaglkncdedeipaaGreatDoorWs02
import Derived.Deep.RegionHeld
import Derived.Test.YtaglkncdedeipaaGreatDoorWs12
import Derived.Test.YtaglkncdedeipaaGreatDoorWs10
import Derived.Test.YtaglkncdedeipaaGreatDoorWs11
namespace Go.Proofs.YtaglkncdedeipaaGreatDoor
open Go
set_option linter.unusedVariables false
set_option linter.unusedSimpArgs false
set_option maxHeartbeats 16000000
set_option maxRecDepth 100000
section
variable {P:Program} {ops:Array Oper} {Q:Exit→Act→World→Prop} {md:Region.Mode} {S:World→Prop} {D:List Nat}
def zd (P:Program)(md:Region.Mode)(ops:Array Oper)(Q:Exit→Act→World→Prop)(S:World→Prop)(D:List Nat):Nat→Array Bool→Act→World→Prop
 |0,listed,a,w=>Region.ready md ops listed=[]∧Q .normal a w
 |fuel+1,listed,a,w=>
  (Region.ready md ops listed=[]→Q .normal a w)∧
  ∀i∈Region.ready md ops listed,wpOp P ops Q i (fun a' w'=>(D.contains i=false→S w')∧zd P md ops Q S D fuel (listed.setIfInBounds i true) a' w') a w
theorem xM:∀(fuel:Nat) (listed:Array Bool) (a:Act) (w:World),zd P md ops Q S D fuel listed a w→wpAny P md ops Q fuel listed a w
 |0,_,_,_,h=>h
 |fuel+1,_,_,_,h=>⟨h.1,fun i hi=>wpOp_mono (fun a' w' h'=>xM fuel _ a' w' h'.2) (h.2 i hi)⟩
def qcc (md:Region.Mode)(i:Nat)(E:List Nat)(o:Oper):Bool:=o.after.any fun e=>Region.binds md e&&(e.on==i||E.contains e.on)
def qcd (md:Region.Mode)(ops:Array Oper)(i:Nat):List Nat:=(List.range ops.size).foldl (fun E j=>match ops[j]? with
 |some o=>if qcc md i E o then j::E else E
 |none=>E) []
def V8 (md:Region.Mode)(ops:Array Oper)(listed:Array Bool)(D:List Nat)(i:Nat)(E:List Nat):Bool:=
 D.all (fun j=>E.contains j)&&E.all fun j=>(listed.getD j true==false)&&(j != i)&&(match ops[j]? with
  |some o=>qcc md i E o
  |none=>true)
def V9 (md:Region.Mode)(ops:Array Oper)(listed:Array Bool)(i:Nat)(E:List Nat):Prop:=
 ∀j∈E,listed.getD j true=false∧j≠i∧∀o,ops[j]?=some o→∃e∈o.after,Region.binds md e=true∧(e.on=i∨e.on∈E)
theorem kz {listed:Array Bool}{i:Nat}{E:List Nat}(h:V8 md ops listed D i E=true):(∀j∈D,j∈E)∧V9 md ops listed i E:=by
 unfold V8 at h
 rw[Bool.and_eq_true,List.all_eq_true,List.all_eq_true]at h
 refine⟨fun j hj=>by simpa using h.1 j hj,fun j hj=>?_⟩
 have h1:=h.2 j hj
 rw[Bool.and_eq_true,Bool.and_eq_true]at h1
 refine⟨by simpa using h1.1.1,by simpa using h1.1.2,fun o ho=>?_⟩
 have h2:=h1.2
 rw[ho]at h2
 unfold qcc at h2
 obtain⟨e,he,hb⟩:=Array.any_eq_true'.1 h2
 simp only[Bool.and_eq_true,Bool.or_eq_true,beq_iff_eq,List.contains_iff_mem]at hb
 exact⟨e,he,hb.1,hb.2⟩
theorem ZP {listed:Array Bool}{k:Nat}(h0:listed.getD k true=false)(h1:listed.getD k false=true):False:=by
 rcases Nat.lt_or_ge k listed.size with h'|h'
 ·simp[h']at h0 h1;rw[h0]at h1;cases h1
 ·simp[Array.getElem?_eq_none h']at h1
theorem kA {listed:Array Bool}{i j:Nat}{E:List Nat}(hL:V9 md ops listed i E)(hi:i∈Region.ready md ops listed)(hj:j∈Region.ready md ops listed):j∉E:=by
 intro hE
 obtain⟨-,-,h3⟩:=hL j hE
 obtain⟨-,o,ho,hall⟩:=mem_ready.1 hj
 obtain⟨e,he,hb,hw⟩:=h3 o ho
 have h1:=hall e he hb
 rcases hw with hw|hw
 ·rw[hw]at h1
  exact ZP (mem_ready.1 hi).1 h1
 ·exact ZP (hL _ hw).1 h1
theorem ZQ {i:Nat}{oi:Oper}{v:Value}{E:List Nat}(hi:ops[i]?=some oi)(hsel:∀(j:Nat) (o:Oper) cs b,ops[j]?=some o→o.op≠.select cs b)
  (hQ:∀c a w,Q (.panic c) (a.put oi.dst v) w→Q (.panic c) a w) (hD:∀j∈D,j∈E):
  ∀(fuel:Nat) (listed:Array Bool) (a:Act) (w:World),V9 md ops listed i E→
   (∀j oj,ops[j]?=some oj→j≠i→listed.getD j true=false→(∀e∈oj.after,Region.binds md e=true→e.on≠i)→oi.apart ops oj=true)→
   i∈Region.ready md ops listed→YieldsIf P ops S oi v a→S w→
   zd P md ops Q S D fuel (listed.setIfInBounds i true) (a.put oi.dst v) w→zd P md ops Q S D (fuel+1) listed a w:=by
 intro fuel
 induction fuel with
 | zero=>
  intro listed a w _ _ hr hy hS H
  refine⟨fun h=>(by rw[h]at hr;cases hr),fun j hj=>?_⟩
  by_cases hji:j=i
  ·subst hji;exact hy.wpOp hi hS ⟨fun _=>hS,H⟩
  ·have:=ready_mono hj hji
   rw[H.1]at this
   cases this
 | succ fuel ih=>
  intro listed a w hL hfree hr hy hS H
  refine⟨fun h=>(by rw[h]at hr;cases hr),fun j hj=>?_⟩
  by_cases hji:j=i
  ·subst hji;exact hy.wpOp hi hS ⟨fun _=>hS,H⟩
  ·have h1:=H.2 j (ready_mono hj hji)
   have hjE:=kA hL hr hj
   have hjD:D.contains j=false:=by
    rcases hc:D.contains j with _|_
    ·rfl
    ·exact absurd (hD j (by simpa using hc)) hjE
   obtain⟨hjun,oj,hoj,hall⟩:=mem_ready.1 hj
   have hnot:∀e∈oj.after,Region.binds md e=true→e.on≠i:=fun e he hb heq=>by
    have h1:=hall e he hb
    rw[heq]at h1
    exact ZP (mem_ready.1 hr).1 h1
   have h2:=wpOp_putIf hoj (hfree j oj hoj hji hjun hnot) (fun cs b=>hsel i oi cs b hi) (fun cs b=>hsel j oj cs b hoj) hQ hy h1
   have hfree':∀k ok,ops[k]?=some ok→k≠i→(listed.setIfInBounds j true).getD k true=false→
     (∀e∈ok.after,Region.binds md e=true→e.on≠i)→oi.apart ops ok=true:=fun k ok hk hki hun hno=>by
    refine hfree k ok hk hki ?_ hno
    by_cases hjk:j=k
    ·subst hjk;exact hjun
    ·rw[getD_set_ne true hjk]at hun;exact hun
   have hL':V9 md ops (listed.setIfInBounds j true) i E:=fun k hk=>by
    obtain⟨g1,g2,g3⟩:=hL k hk
    have hne:j≠k:=fun e=>by subst e;exact hjE hk
    exact⟨by rw[getD_set_ne true hne];exact g1,g2,g3⟩
   refine wpOp_mono (fun a' w' h3=>⟨h3.2.1,ih (listed.setIfInBounds j true) a' w' hL' hfree' (ready_mono hr (Ne.symm hji)) h3.1 (h3.2.1 hjD) ?_⟩) h2
   rw[Array.setIfInBounds_comm _ _ hji]
   exact h3.2.2
theorem Xh {i:Nat}{oi:Oper}{v:Value}{fuel:Nat}{listed:Array Bool}{a:Act}{w:World}(hi:ops[i]?=some oi)
  (hs:Region.noSelect ops=true) (hf:Region.free md ops listed i=true) (hr:(Region.ready md ops listed).contains i=true) (hl:V8 md ops listed D i (qcd md ops i)=true)
  (hQ:∀c a w,Q (.panic c) (a.put oi.dst v) w→Q (.panic c) a w) (hy:YieldsIf P ops S oi v a) (hS:S w)
  (h:zd P md ops Q S D fuel (listed.setIfInBounds i true) (a.put oi.dst v) w):zd P md ops Q S D (fuel+1) listed a w:=
 ZQ hi (Region.noSelect_spec hs) hQ (kz hl).1 fuel listed a w (kz hl).2 (Region.free_spec hi hf) (by simpa using hr) hy hS h
theorem kB {rs:List Nat}{fuel:Nat}{listed:Array Bool}{a:Act}{w:World}(hr:Region.ready md ops listed=rs)(hne:rs≠[])
  (h:∀i∈rs,wpOp P ops Q i (fun a' w'=>(D.contains i=false→S w')∧zd P md ops Q S D fuel (listed.setIfInBounds i true) a' w') a w):zd P md ops Q S D (fuel+1) listed a w:=
 ⟨fun h0=>absurd (hr▸h0) hne,hr▸h⟩
theorem qN {i:Nat}{o:Oper}{fuel:Nat}{listed:Array Bool}{a:Act}{w:World}(hr:Region.ready md ops listed=[i])(ho:ops[i]?=some o)
  (h:∀K':Act→World→Prop,Shut (∀a w,S w→(S w→zd P md ops Q S D fuel (listed.setIfInBounds i true) a w)→K' a w)→if Region.wanted o (yielded ops a.tmps)=true then Oper.wp P o a w K' Q else K' (a.put o.dst undef) w):
  zd P md ops Q S D (fuel+1) listed a w:=by
 refine kB hr (by simp) fun j hj=>?_
 obtain rfl:=List.mem_singleton.1 hj
 exact wpOp_step ho (fun K' hK=>h K' (fun a w hS hW=>hK a w ⟨fun _=>hS,hW hS⟩))
theorem jx {i:Nat}{o:Oper}{fuel:Nat}{listed:Array Bool}{a:Act}{w:World}(hr:Region.ready md ops listed=[i])(ho:ops[i]?=some o)(hd:D.contains i=true)
  (h:∀K':Act→World→Prop,Shut (∀a w,zd P md ops Q S D fuel (listed.setIfInBounds i true) a w→K' a w)→if Region.wanted o (yielded ops a.tmps)=true then Oper.wp P o a w K' Q else K' (a.put o.dst undef) w):
  zd P md ops Q S D (fuel+1) listed a w:=by
 refine kB hr (by simp) fun j hj=>?_
 obtain rfl:=List.mem_singleton.1 hj
 exact wpOp_step ho (fun K' hK=>h K' (fun a w hW=>hK a w ⟨fun hc=>(by rw[hd]at hc;cases hc),hW⟩))
theorem zY {listed:Array Bool}{a:Act}{w:World}(hr:Region.ready md ops listed=[])(h:Q .normal a w):
  ∀fuel,zd P md ops Q S D fuel listed a w
 |0=>⟨hr,h⟩
 |_+1=>⟨fun _=>h,by rw[hr];simp⟩
theorem qZ {id:Nat}{a:Act}{w:World}(D:List Nat)(S:World→Prop)(hm:P.follows .mixedOrders=true)(hS:S w.drew)
  (h:S w.drew→zd P .any ops Q S D ops.size (Array.replicate ops.size false) a w.drew):(Code.region id ops true).wp P Q a w:=
 wp_region_any hm (xM _ _ _ _ (h hS))
end
theorem tkD {P:Program}{ops:Array Oper}{Q:Exit→Act→World→Prop}{md:Region.Mode}{S:World→Prop}{D:List Nat}{i:Nat}{oi:Oper}{v:Value}{fuel:Nat}{listed:Array Bool}{a:Act}{w:World}(hi:ops[i]?=some oi)(hS:S w)(h:zd P md ops Q S D fuel (listed.setIfInBounds i true) (a.put oi.dst v) w)(hy:YieldsIf P ops S oi v a:=by exact .inl ⟨by rfl,by(intro w hSw;(try dsimp only at hSw);go_simp;try (with_reducible rfl))⟩)(hs:Region.noSelect ops=true:=by kernel_rfl)(hf:Region.free md ops listed i=true:=by kernel_rfl)(hr:(Region.ready md ops listed).contains i=true:=by kernel_rfl)(hl:V8 md ops listed D i (qcd md ops i)=true:=by kernel_rfl)(hQ:∀c a w,Q (.panic c) (a.put oi.dst v) w→Q (.panic c) a w:=by exact fun _ _ _ h=>h):zd P md ops Q S D (fuel+1) listed a w:=Xh hi hs hf hr hl hQ hy hS h
end Go.Proofs.YtaglkncdedeipaaGreatDoor
namespace Go.Proofs.YtaglkncdedeipaaGreatDoor
open Go.ChangeShapes Go.WideShapes Go.ChangeAt Go.RowKit
set_option linter.unusedVariables false
set_option linter.unusedSimpArgs false
set_option maxHeartbeats 16000000
set_option maxRecDepth 100000
theorem Grw.drew {g:Nat}{a c:World}(h:Grw g a c):Grw g a c.drew:=by
 have k:Kept c c.drew:=(qia c).drew
 exact⟨⟨k.below.os.trans h.grown.os,k.below.tape.trans h.grown.tape,k.below.output.trans h.grown.output,qh4 h.grown.size k.below.size,fun i hi hn=>(k.below.block i (qhu hi h.grown.size)).trans (h.grown.block i hi hn)⟩,fun x=>(k.frozen x).trans (h.frozen x)⟩
def ws (M0 M1 M2:Int):Nat→Int
 |0=>0
 |1=>M0
 |2=>M0+M1*1073741824
 |_=>M0+M1*1073741824+M2*1152921504606846976
def mv (M0 M1 M2:Int):Nat→Int
 |0=>M0
 |1=>M1
 |_=>M2
structure Ly (C C':List Int) (f st:Nat) (V:Int):Prop where
 len:C'.length=141
 val:cv C'=cv C+V*2^(30*f)
 near:∀k,-((st:Int)*2147483648)≤C'.getD k 0-C.getD k 0∧C'.getD k 0-C.getD k 0≤(st:Int)*2147483648
 out:∀k,(k<f∨f+5≤k)→C'.getD k 0=C.getD k 0
theorem Ko {w:World}{p:Nat}{o:Obj}(h:w.heap[p]?=some o):p<w.heap.size:=by
 apply Decidable.byContradiction
 intro g
 rw[Array.getElem?_eq_none (by omega)]at h
 cases h
theorem Ly.step {C C':List Int}{f st:Nat}{V:Int}(h:Ly C C' f st V)(r:Nat)(hr:r+1<5)(hf:f+5≤141)(P:Int)(hP:-1152921504606846976≤P∧P<1152921504606846976):Ly C ((C'.set (f+r) (C'.getD (f+r) 0+P%1073741824)).set (f+r+1) ((C'.set (f+r) (C'.getD (f+r) 0+P%1073741824)).getD (f+r+1) 0+P/1073741824)) f (st+1) (V+P*2^(30*r)):=by
 have hl:=h.len
 refine⟨by simp[hl],?_,fun k=>?_,fun k hk=>?_⟩
 ·rw[yK _ _ (by simp;omega),yK _ _ (by omega),h.val,Int.add_mul,Int.mul_assoc P,←Int.pow_add,show 30*r+30*f=30*(f+r) by omega,vQ (f+r)]
  have e:P%1073741824+1073741824*(P/1073741824)=P:=by omega
  generalize (2:Int)^(30*(f+r))=Z at *
  have:P*Z=(P%1073741824)*Z+P/1073741824*(1073741824*Z):=by
   rw[←Int.mul_assoc,←Int.add_mul,Int.mul_comm (P/1073741824),e]
  omega
 ·have h1:=h.near k
  rw[qB _ _ _ _ (by simp;omega),qB _ _ _ _ (by omega),qB _ _ _ _ (by omega)]
  have e1:=h.near (f+r)
  have e2:=h.near (f+r+1)
  by_cases k1:f+r+1=k
  ·rw[if_pos k1,if_neg (by omega)]
   subst k1
   push_cast
   omega
  ·rw[if_neg k1]
   by_cases k2:f+r=k
   ·rw[if_pos k2]
    subst k2
    push_cast
    omega
   ·rw[if_neg k2]
    push_cast
    omega
 ·rw[qB _ _ _ _ (by simp;omega),if_neg (by omega),qB _ _ _ _ (by omega),if_neg (by omega)]
  exact h.out k hk
theorem j9 (z:Int):bits .and .i64 (wrap64 z) 1073741823=z%1073741824:=by
 rw[jR]
 unfold wrap64
 omega
theorem Qj (a:Int)(s t:Nat)(h:s≤t):a/2^(t-s)=a*2^s/2^t:=by
 have e:(2:Int)^t=2^(t-s)*2^s:=by rw[←Int.pow_add];congr 1;omega
 rw[e,Int.mul_ediv_mul_of_pos_left _ _ (Int.pow_pos (by decide))]
theorem Yl (a:Int)(s:Nat)(hs:s<30)(M0 M1 M2:Int)(h0:bits .and .i64 (wrap64 (a*2^s)) 1073741823=M0)(h1:bits .and .i64 (a/2^(30-s)) 1073741823=M1)(h2:a/2^(60-s)=M2):ws M0 M1 M2 3=a*2^s:=by
 rw[j9]at h0
 rw[jR,Qj a s 30 (by omega)]at h1
 rw[Qj a s 60 (by omega)]at h2
 generalize a*2^s=Z at *
 show M0+M1*1073741824+M2*1152921504606846976=Z
 rw[show(2:Int)^30=1073741824 from rfl]at h1
 rw[show(2:Int)^60=1152921504606846976 from rfl]at h2
 omega
theorem ZZ (a:Int)(ha:0<a∧a<9007199254740992)(s:Nat)(hs:s<30)(M0 M1 M2:Int)(h0:bits .and .i64 (wrap64 (a*2^s)) 1073741823=M0)(h1:bits .and .i64 (a/2^(30-s)) 1073741823=M1)(h2:a/2^(60-s)=M2):∀i,0≤mv M0 M1 M2 i∧mv M0 M1 M2 i<1073741824:=by
 rw[j9]at h0
 rw[jR]at h1
 have e:(2:Int)^(60-s)=2^(29-s)*2147483648:=by
  rw[show(2147483648:Int)=2^31 from rfl,←Int.pow_add];congr 1;omega
 have hp:(0:Int)<2^(29-s):=Int.pow_pos (by decide)
 have h3:a/2^(60-s)≤a/2147483648:=by
  rw[e,Int.mul_comm,←Int.ediv_ediv_of_nonneg (by decide)]
  exact Int.ediv_le_self _ (Int.ediv_nonneg (by omega) (by decide))
 have h4:0≤a/2^(60-s):=Int.ediv_nonneg (by omega) (by rw[e];omega)
 intro i
 match i with
 |0=>show 0≤M0∧M0<1073741824;omega
 |1=>show 0≤M1∧M1<1073741824;omega
 |i+2=>show 0≤M2∧M2<1073741824;omega
theorem Own.setCells {g cap:Nat}:∀(vs A B:List Int) (w:World),Own w g cap (A++B)→vs.length≤B.length→Own (w.setCells g A.length (vs.map (Value.int .i64))) g cap (A++vs++B.drop vs.length)
 |[],A,B,w,h,_=>by simpa [World.setCells] using h
 |v::r,A,[],w,h,hl=>by simp at hl
 |v::r,A,b::B,w,h,hl=>by
  have h1:=h.set A.length v
  have e:(A++b::B).set A.length v=(A++[v])++B:=by simp
  rw[e]at h1
  have:=Own.setCells r (A++[v]) B _ h1 (by simpa using hl)
  simpa [World.setCells] using this
theorem VH:∀(C:List Int),(∀j,-9223372036854775807≤C.getD j 0∧C.getD j 0≤9223372036854775807)→-(2:Int)^34*((2:Int)^(30*C.length)-1)≤cv C∧cv C≤(2:Int)^34*((2:Int)^(30*C.length)-1)
 |[],_=>by simp[cv]
 |c::r,h=>by
  have h0:=h 0
  have ih:=VH r (fun j=>by simpa using h (j+1))
  simp only[List.getD_cons_zero]at h0
  rw[List.length_cons,Nat.mul_add,Int.pow_add,cv]
  obtain⟨P,hP⟩:∃P,P=(2:Int)^(30*r.length):=⟨_,rfl⟩
  rw[←hP]at ih ⊢
  generalize cv r=s at *
  omega
theorem yF:∀C:List Int,cv (C++[0,0])=cv C
 |[]=>by simp[cv]
 |c::r=>by rw[List.cons_append,cv,cv,yF r]
theorem Kp (w:World)(hT:Tab w)(q1 q2 b o cap:Nat)(h1:q1<w.heap.size)(h2:q2<w.heap.size)(hb:b<w.heap.size)(C:List Int)(hl:C.length≤141)(hC:∀j,-9223372036854775807≤C.getD j 0∧C.getD j 0≤9223372036854775807)(x:Int)(c1:w.cell? ⟨q1,0,none⟩=some (.slice (some ⟨b,o,none⟩) C.length cap))(c2:w.cell? ⟨q2,0,none⟩=some (.int .i64 x))(hr:∀j,j<C.length→w.cell? ⟨b,o+j,none⟩=some (.int .i64 (C.getD j 0)))(r:Nm)(hRes:frm (decide (cv C<0)) (cv C).natAbs x=some r):
  Calls Tryz.prog 134 #[.pointer (some ⟨q1,0,none⟩),.pointer (some ⟨q2,0,none⟩)] w fun e w'=>(∃v,e=.returned v∧New w w' v r)∧Kept w w':=by
 have hK:Kept w (qD w):=(qia w).alloc _ _
 have q:IntKind.i64.wrap ((C.length:Int)+2)=(C.length:Int)+2:=by rw[qc];omega
 have hmk:∀u,(Instr.makeSlice 29 (.int .i64 ((C.length:Int)+2)) (.int .i64 ((C.length:Int)+2))).run Tryz.prog u=.ok (.slice (some ⟨u.heap.size,0,none⟩) (C.length+2) (C.length+2)) (u.alloc (.cells (madeCells #[.int .i64 0] (C.length+2)) 3)):=xd (C.length+2) (by omega)
 have e1:=(hK.below.cell (p:=⟨q1,0,none⟩) h1).trans c1
 have e2:=(hK.below.cell (p:=⟨q2,0,none⟩) h2).trans c2
 have hO:=xe (C.length+2) (by omega) (qD w)
 have hK2:Kept (qD w) ((qD w).alloc (.cells (madeCells #[.int .i64 0] (C.length+2)) 3)):=(qia _).alloc _ _
 have hK3:Kept (qD w) (((qD w).alloc (.cells (madeCells #[.int .i64 0] (C.length+2)) 3)).setCells (w.heap.size+1) 0 (C.map (Value.int .i64))):=
  hK2.grw (g:=w.heap.size+1) (by simp) (Grw.setCells _ ((qia _).toGrw _) 0)
 have hO2:Own (((qD w).alloc (.cells (madeCells #[.int .i64 0] (C.length+2)) 3)).setCells (w.heap.size+1) 0 (C.map (Value.int .i64))) (w.heap.size+1) (C.length+2) (C++[0,0]):=by
  have:=Own.setCells C [] (List.replicate (C.length+2) 0) _ (by simpa using hO) (by simp)
  have e:(List.replicate (C.length+2) (0:Int)).drop C.length=[0,0]:=by rw[List.drop_replicate,Nat.add_sub_cancel_left];rfl
  rw[e]at this
  simpa using this
 have hcp:(Builtin.copy_ #[29,29] 3 #[.slice (some ⟨w.heap.size+1,0,none⟩) (C.length+2) (C.length+2),.slice (some ⟨b,o,none⟩) C.length cap]).run Tryz.prog ((qD w).alloc (.cells (madeCells #[.int .i64 0] (C.length+2)) 3))=.ok (goInt C.length) (((qD w).alloc (.cells (madeCells #[.int .i64 0] (C.length+2)) 3)).setCells (w.heap.size+1) 0 (C.map (Value.int .i64))):=by
  have:=run_copy_cells (P:=Tryz.prog) ((qD w).alloc (.cells (madeCells #[.int .i64 0] (C.length+2)) 3)) 29 29 3 3 (w.heap.size+1) 0 (C.length+2) (C.length+2) ⟨b,o,none⟩ C.length cap (C.map (Value.int .i64)) yR (by kernel_rfl) (by simp) (fun j v hv=>?_) (fun j hj=>?_) (fun j hj=>?_) (by simp[Value.oneCell'])
  ·simpa using this
  ·rw[List.getElem?_map]at hv
   obtain⟨c,hc,rfl⟩:=Option.map_eq_some_iff.mp hv
   have hj:j<C.length:=by
    rcases Nat.lt_or_ge j C.length with h|h
    ·exact h
    ·rw[List.getElem?_eq_none h]at hc;exact absurd hc (by simp)
   have:=(hK.trans hK2).below.cell (p:=⟨b,o+j,none⟩) hb
   have ea:(⟨b,o,none⟩:Addr).add j=⟨b,o+j,none⟩:=by simp[Addr.add]
   rw[ea]
   refine(this.trans (hr j hj)).trans ?_
   rw[qhx,hc];rfl
  ·have:=hO.cell j (by simp at hj ⊢;omega)
   simp only[Nat.zero_add]
   have e:(qD w).heap.size=w.heap.size+1:=by simp
   rw[e]at this
   rw[this];rfl
  ·have e:(qD w).heap.size=w.heap.size+1:=by simp
   rw[e]at hO
   exact hO.free _
 have KS:Hid (Calls Tryz.prog 135 #[.slice (some ⟨w.heap.size+1,0,none⟩) (C.length+2) (C.length+2),.int .i64 x] (((qD w).alloc (.cells (madeCells #[.int .i64 0] (C.length+2)) 3)).setCells (w.heap.size+1) 0 (C.map (Value.int .i64))) fun e w'=>yM (some r) (qD w) w' e∧Kept (qD w) w'):=by
  have hn:=VH C hC
  have e:cv (C++[0,0])=cv C:=yF C
  have hP:(2:Int)^(30*(C.length+2))=(2:Int)^(30*C.length)*2^60:=by rw[Nat.mul_add,Int.pow_add]
  have hp:0<(2:Int)^(30*C.length):=Int.pow_pos (by decide)
  refine Ji _ (C.length+2) (C.length+2) (w.heap.size+1) x (C++[0,0]) (by simp) (by omega) (fun j=>?_) (cv C) e (by rw[hP];omega) (by rw[hP];omega) (qD w) (hT.kept hK) hK3 (by simp) hO2 (some r) hRes
  rw[qhx,List.getElem?_append]
  split
  ·have:=hC j
   rwa [qhx]at this
  ·generalize j-C.length=i
   rcases i with _|_|i<;>simp
 clear c1 c2 hO hO2 hr
 have hs:=hK3.below.size
 go_enter Tryz.func134,Tryz.ntmps134
 have ez:=(hK3.below.cell (p:=⟨q2,0,none⟩) (by simp;omega)).trans e2
 obtain⟨X,hX⟩:∃X,X=(((qD w).alloc (.cells (madeCells #[.int .i64 0] (C.length+2)) 3)).setCells (w.heap.size+1) 0 (C.map (Value.int .i64))):=⟨_,rfl⟩
 rw[←hX]at hcp KS hK3 ez hs
 clear hX
 go_wp2_with (first|(go_at_call 135;refine KS.out.mono ?_;rintro e w1 ⟨⟨v,rfl,hN⟩,hk1⟩;obtain⟨vn,va,vl,vc,vx,rfl⟩:=hN.shape;obtain⟨f0,f1,f2,f3⟩:=je hk1))
 have:=yS hN hk1 (.bool vn) (.slice va vl vc) (.int .i64 vx)
 exact qh9 (v:=.agg #[.bool vn,.slice va vl vc,.int .i64 vx]) (by simp[results,Tryz.results134,go_sem,f0,f1,f2]) rfl ⟨⟨_,rfl,this.1⟩,this.2⟩
abbrev Kq (w:World)(sv:Value)(x:Int):World:=((w.alloc (.cells #[sv] 29)).alloc (.cells #[.int .i64 x] 3)).alloc zn
theorem Ym (w:World)(sv:Value)(x:Int):Kept w (Kq w sv x):=(((qia w).alloc _ _).alloc _ _).alloc _ _
theorem Xw (w:World)(hT:Tab w)(b o cap:Nat)(hb:b<w.heap.size)(C:List Int)(hl:C.length≤141)(hC:∀j,-9223372036854775807≤C.getD j 0∧C.getD j 0≤9223372036854775807)(x:Int)(hr:∀j,j<C.length→w.cell? ⟨b,o+j,none⟩=some (.int .i64 (C.getD j 0)))(r:Nm)(hRes:frm (decide (cv C<0)) (cv C).natAbs x=some r):
  Calls Tryz.prog 106 #[.slice (some ⟨b,o,none⟩) C.length cap,.int .i64 x] w fun e w'=>∃v,e=.returned (.tuple #[v,.int .i64 0])∧New w w' v r∧Kept w w':=by
 have hW:=Ym w (.slice (some ⟨b,o,none⟩) C.length cap) x
 have KT:Hid (Calls Tryz.prog 108 #[.func (.func 134) #[] #[.pointer (some ⟨w.heap.size,0,none⟩),.pointer (some ⟨w.heap.size+1,0,none⟩)],.slice none 0 0] (Kq w (.slice (some ⟨b,o,none⟩) C.length cap) x) fun e w'=>∃v,e=.returned (.tuple #[v,.int .i64 0])∧New (Kq w (.slice (some ⟨b,o,none⟩) C.length cap) x) w' v r∧Kept (Kq w (.slice (some ⟨b,o,none⟩) C.length cap) x) w'):=by
  refine VO 134 _ (fun w=>Q9 Tryz.func134 (by kernel_rfl) (by kernel_rfl) _ w) _ r _ (fun u k=>XK u) (fun u k=>?_)
  have hs:=k.below.size
  simp only[Kq,World.size_alloc]at hs
  exact Kp u ((hT.kept hW).kept k) _ _ b o cap (by omega) (by omega) (by omega) C hl hC x ((k.below.cell (p:=⟨w.heap.size,0,none⟩) (by simp<;>omega)).trans (by simp[go_sem])) ((k.below.cell (p:=⟨w.heap.size+1,0,none⟩) (by simp<;>omega)).trans (by simp[go_sem])) (fun j hj=>((hW.trans k).below.cell (p:=⟨b,o+j,none⟩) hb).trans (hr j hj)) r hRes
 have hmf:∀(fn:Fn) (first cap:Array Value) (w:World),(Instr.makeFunc fn first cap).run Tryz.prog w=.ok (.func fn first cap) w:=fun _ _ _ _=>rfl
 clear hr hT hRes hC hl
 generalize C.length=n at *
 go_enter Tryz.func106,Tryz.ntmps106
 go_wp2_with (first|(go_at_call 108;refine KT.out.mono ?_;rintro e w1 ⟨v,rfl,hN,hk1⟩;obtain⟨vn,va,vl,vc,vx,rfl⟩:=hN.shape;obtain⟨f0,f1,f2,f3⟩:=qT (w.heap.size+2) (by simp) hk1 (by simp[go_sem]) (by simp[go_sem]) (by simp[go_sem]) (fun o=>by simp[go_sem])))
 have:=vt (w.heap.size+2) (by omega) (by simp) hW hN hk1 (.bool vn) (.slice va vl vc) (.int .i64 vx)
 refine qh9 (v:=.tuple #[.agg #[.bool vn,.slice va vl vc,.int .i64 vx],.int .i64 0]) (by simp[results,Tryz.results106,go_sem,f0,f1,f2]) rfl ⟨_,rfl,this.1,this.2⟩
end Go.Proofs.YtaglkncdedeipaaGreatDoor
