/-  -/
import Derived.Test.YtaglkncdedeipaaGreatDoorWs09
import Derived.Defers
import Derived.Recover
import Derived.OwnWalk
import Derived.Laws.Cover3
import Derived.Laws.OwnMore
import Derived.Laws.AppendOwn
import Derived.Test.YtaglkncdedeipaaGreatDoorWs08
namespace Go.Proofs.YtaglkncdedeipaaGreatDoor
open Go.ChangeShapes Go.WideShapes Go.ChangeAt Go.RowKit
set_option linter.unusedVariables false
set_option linter.unusedSimpArgs false
set_option maxHeartbeats 16000000
set_option maxRecDepth 100000
theorem XN (p q:Addr)(w:World):CallsD Tryz.prog 138 #[.pointer (some p),.pointer (some q)] .returning w fun e u' w'=>e=.returned (.tuple #[])∧u'=.returning∧w'=w:=by
 refine callsD_of_wpS Tryz.func138 rfl fun c₀ cs hu=>?_
 apply wpS_seq
 apply wpS_region
 simp[wpOpsS,go_sem,recoverD,hu,Tryz.ntmps138,Exit.thenS]
 refine wpS_cond (t:=false) (by simp[Act.eval,Array.replicate]) ?_
 simp only[Bool.false_eq_true,if_false]
 refine wpS_of_wp (wp_skip ?_)
 cases c₀
 simp_all [bodyPostS,results,Tryz.results138]
abbrev qfc (w:World):World:=(w.alloc (.cells #[.bool false,.slice none 0 0,.int .i64 0] 31)).alloc (.cells #[.int .i64 0] 36)
theorem yQ {w w1:World}(h:Kept (qfc w) w1):w1.cell? ⟨w.heap.size,0,none⟩=some (.bool false)∧w1.cell? ⟨w.heap.size,1,none⟩=some (.slice none 0 0)∧w1.cell? ⟨w.heap.size,2,none⟩=some (.int .i64 0)∧w1.cell? ⟨w.heap.size+1,0,none⟩=some (.int .i64 0)∧(∀o,w1.frozen? ⟨w.heap.size,o,none⟩=false)∧w1.frozen? ⟨w.heap.size+1,0,none⟩=false:=
 ⟨(h.below.cell (p:=⟨w.heap.size,0,none⟩) (by simp;omega)).trans (by simp[go_sem]),(h.below.cell (p:=⟨w.heap.size,1,none⟩) (by simp;omega)).trans (by simp[go_sem]),(h.below.cell (p:=⟨w.heap.size,2,none⟩) (by simp;omega)).trans (by simp[go_sem]),(h.below.cell (p:=⟨w.heap.size+1,0,none⟩) (by simp)).trans (by simp[go_sem]),fun o=>(h.frozen _).trans (by simp[go_sem]),(h.frozen _).trans (by simp[go_sem])⟩
theorem XO (w:World):Kept w (qfc w):=((qia w).alloc _ _).alloc _ _
theorem VO (K:Nat)(caps:Array Value)(hcall:∀w,(callFunc K caps).run Tryz.prog w=.ok (.enter K caps) w)(given:Value)(r:Nm)(w:World)
  (KV:Hid (∀w',Kept w w'→Calls Tryz.prog 137 #[given] w' fun e w''=>e=.returned (.bool true)∧Kept w' w''))
  (KR:Hid (∀w',Kept w w'→Calls Tryz.prog K caps w' fun e w''=>(∃v,e=.returned v∧New w' w'' v r)∧Kept w' w'')):
  Calls Tryz.prog 108 #[.func (.func K) #[] caps,given] w fun e w'=>∃v,e=.returned (.tuple #[v,.int .i64 0])∧New w w' v r∧Kept w w':=by
 have hK:=XO w
 have hmf:∀(fn:Fn) (first cap:Array Value) (w:World),(Instr.makeFunc fn first cap).run Tryz.prog w=.ok (.func fn first cap) w:=fun _ _ _ _=>rfl
 go_enter_defers Tryz.func108,Tryz.ntmps108
 go_wp2_with (first|(go_at_call 137;refine(KV.out _ hK).mono ?_;rintro e w1 ⟨rfl,hk1⟩;obtain⟨c0,c1,c2,c3,f0,f1⟩:=yQ hk1))
 refine(KR.out _ (hK.trans hk1)).mono ?_
 rintro e w2 ⟨⟨v,rfl,hN⟩,hk2⟩
 obtain⟨d0,d1,d2,d3,g0,g1⟩:=yQ (hk1.trans hk2)
 clear c0 c1 c2 c3 f0 f1
 have HN:Hid (New w1 w2 v r):=hN
 obtain⟨n,ao,l,c,x,rfl⟩:∃n ao l c x,v=.agg #[.bool n,.slice ao l c,.int .i64 x]:=by
  rcases hN with ⟨-,rfl⟩|⟨g,cap,rfl,-⟩
  ·exact⟨_,_,_,_,_,rfl⟩
  ·exact⟨_,_,_,_,_,rfl⟩
 clear hN
 go_wp2
 refine leaves_cons (f:=138) (args:=#[.pointer (some ⟨w.heap.size,0,none⟩),.pointer (some ⟨w.heap.size+1,0,none⟩)]) (by simp) (by simp[go_sem]) ?_
 refine(XN ⟨w.heap.size,0,none⟩ ⟨w.heap.size+1,0,none⟩ _).mono ?_
 rintro e u' w'' ⟨rfl,rfl,rfl⟩
 simp only[Leaves,settle]
 refine⟨_,(by simp[results,Tryz.results108,go_sem,d0,d1,d2,d3];rfl),_,rfl,?_,?_⟩
 ·have hsz:w.heap.size+2≤w1.heap.size:=by have:=hk1.below.size;simpa using this
  have hn:=HN.out
  rcases hn with h|⟨g,cap,e,hg,ho,hne⟩
  ·exact .inl h
  ·exact .inr ⟨g,cap,e,by omega,(((ho.setOther (by simp;omega) _).setOther (by simp;omega) _).setOther (by simp;omega) _).setOther (by simp;omega) _,hne⟩
 ·exact((hK.trans hk1).trans hk2).setCell (by simp) _|>.setCell (by simp) _|>.setCell (by simp) _|>.setCell (by simp) _
theorem ql {P:Program}{w:World}{ops:Array Oper}{rest:List Oper}{o:Oper}{a:Act}{Q:Exit→Act→World→Prop}(hgd:o.guard=none)(s x:Operand)(t:TypeId)
  (ho:o.op=.call { callee:=.builtin .append,args:=#[s,x],argTypes:=#[t,t] }) (v xv:Value) (hs:a.eval s=v) (hx:a.eval x=xv) (v':Value) (w':World)
  (hr:(Builtin.append_ #[t,t] o.type #[v,xv]).run P w=.ok v' w') (h:wpList P ops Q rest (a.put o.dst v') w'):wpList P ops Q (o::rest) a w:=by
 refine wpList_plain hgd fun K hK=>?_
 unfold Oper.wp execOp
 simp only[ho,resolve,invoke,builtin,Sem.run_bind,Sem.run_pure,Result.andThen_ok,List.map_toArray,List.map_cons,List.map_nil,hs,hx,hr]
 exact hK _ _ h
theorem Jn:(Tryz.prog.info? 3).map (fun i=>(i.zero,i.size,i.bytes))=some (some (.int .i64 0),1,8):=by kernel_rfl
theorem yR:Tryz.prog.underlying 29=some (.slice 3):=by kernel_rfl
def Cl (w0 w:World)(sv:Value)(L:List Int):Prop:=
 (L=[]∧∃ao cap,sv=.slice ao 0 cap)∨∃g cap,sv=.slice (some ⟨g,0,none⟩) L.length cap∧w0.heap.size≤g∧Own w g cap L
theorem Cl.kept {w0 w w':World}{sv:Value}{L:List Int}(h:Cl w0 w sv L)(k:Kept w w'):Cl w0 w' sv L:=by
 rcases h with h|⟨g,cap,e,hg,ho⟩
 ·exact .inl h
 ·exact .inr ⟨g,cap,e,hg,ho.kept k⟩
abbrev qD (w:World):World:=w.alloc (.cells #[.bool false,.slice none 0 0,.int .i64 0] 31)
theorem je {w w1:World}(h:Kept (qD w) w1):w1.cell? ⟨w.heap.size,0,none⟩=some (.bool false)∧w1.cell? ⟨w.heap.size,1,none⟩=some (.slice none 0 0)∧w1.cell? ⟨w.heap.size,2,none⟩=some (.int .i64 0)∧(∀o,w1.frozen? ⟨w.heap.size,o,none⟩=false):=
 ⟨(h.below.cell (p:=⟨w.heap.size,0,none⟩) (by simp)).trans (by simp[go_sem]),(h.below.cell (p:=⟨w.heap.size,1,none⟩) (by simp)).trans (by simp[go_sem]),(h.below.cell (p:=⟨w.heap.size,2,none⟩) (by simp)).trans (by simp[go_sem]),fun o=>(h.frozen _).trans (by simp[go_sem])⟩
theorem yS {w u2:World}{v:Value}{r:Nm}(hN:New (qD w) u2 v r)(hk:Kept (qD w) u2)(a b c:Value):New w (((u2.setCell ⟨w.heap.size,0,none⟩ a).setCell ⟨w.heap.size,1,none⟩ b).setCell ⟨w.heap.size,2,none⟩ c) v r∧Kept w (((u2.setCell ⟨w.heap.size,0,none⟩ a).setCell ⟨w.heap.size,1,none⟩ b).setCell ⟨w.heap.size,2,none⟩ c):=by
 have hK:Kept w (qD w):=(qia w).alloc _ _
 constructor
 ·rcases hN with h|⟨g,cap,e,hg,ho,hne⟩
  ·exact .inl h
  ·have hsz:w.heap.size+1≤g:=by simpa using hg
   exact .inr ⟨g,cap,e,by omega,((ho.setOther (by simp;omega) _).setOther (by simp;omega) _).setOther (by simp;omega) _,hne⟩
 ·exact(hK.trans hk).setCell (by simp) _|>.setCell (by simp) _|>.setCell (by simp) _
theorem New.shape {w0 w:World}{v:Value}{r:Nm}(h:New w0 w v r):∃n ao l c x,v=.agg #[.bool n,.slice ao l c,.int .i64 x]:=by
 rcases h with ⟨-,rfl⟩|⟨g,cap,rfl,-⟩
 ·exact⟨_,_,_,_,_,rfl⟩
 ·exact⟨_,_,_,_,_,rfl⟩
theorem Cl.from {w0 w1 w:World}{sv:Value}{L:List Int}(h:Cl w1 w sv L)(k:Kept w0 w1):Cl w0 w sv L:=by
 rcases h with h|⟨g,cap,e,hg,ho⟩
 ·exact .inl h
 ·exact .inr ⟨g,cap,e,qh4 k.below.size hg,ho⟩
theorem Q9 {P:Program}{f:FuncId}{fn:Func}(hf:P.funcs[f]?=some fn)(h1:(fn.name=="runtime.NumGoroutine")=false)(h2:fn.body.isNone=false)(caps:Array Value)(w:World):(callFunc f caps).run P w=.ok (.enter f caps) w:=by
 have h3:¬fn.name="runtime.NumGoroutine":=by simpa using h1
 have h4:¬fn.body=none:=by intro h;rw[h]at h2;cases h2
 simp[callFunc,hf,go_sem,h3,h4]
theorem qT {W w1:World}(H:Nat)(hH:H<W.heap.size)(h:Kept W w1)(c0:W.cell? ⟨H,0,none⟩=some (.bool false))(c1:W.cell? ⟨H,1,none⟩=some (.slice none 0 0))(c2:W.cell? ⟨H,2,none⟩=some (.int .i64 0))(f:∀o,W.frozen? ⟨H,o,none⟩=false):w1.cell? ⟨H,0,none⟩=some (.bool false)∧w1.cell? ⟨H,1,none⟩=some (.slice none 0 0)∧w1.cell? ⟨H,2,none⟩=some (.int .i64 0)∧(∀o,w1.frozen? ⟨H,o,none⟩=false):=
 ⟨(h.below.cell (p:=⟨H,0,none⟩) hH).trans c0,(h.below.cell (p:=⟨H,1,none⟩) hH).trans c1,(h.below.cell (p:=⟨H,2,none⟩) hH).trans c2,fun o=>(h.frozen _).trans (f o)⟩
theorem vt {w W u2:World}{v:Value}{r:Nm}(H:Nat)(hw:w.heap.size≤H)(hH:H<W.heap.size)(h0:Kept w W)(hN:New W u2 v r)(hk:Kept W u2)(a b c:Value):New w (((u2.setCell ⟨H,0,none⟩ a).setCell ⟨H,1,none⟩ b).setCell ⟨H,2,none⟩ c) v r∧Kept w (((u2.setCell ⟨H,0,none⟩ a).setCell ⟨H,1,none⟩ b).setCell ⟨H,2,none⟩ c):=by
 constructor
 ·rcases hN with h|⟨g,cap,e,hg,ho,hne⟩
  ·exact .inl h
  ·exact .inr ⟨g,cap,e,by omega,((ho.setOther (by simp;omega) _).setOther (by simp;omega) _).setOther (by simp;omega) _,hne⟩
 ·exact(h0.trans hk).setCell (by simpa using hw) _|>.setCell (by simpa using hw) _|>.setCell (by simpa using hw) _
abbrev zn:Obj:=.cells #[.bool false,.slice none 0 0,.int .i64 0] 31
theorem vu (d:Int):bits .and .i64 d 1=d%2:=by
 have e:(BitVec.ofInt 64 1:BitVec 64).toNat=2^1-1:=by decide
 have h:=qs d
 rw[zo,BitVec.toNat_and,e,Nat.and_two_pow_sub_one_eq_mod,qc]
 omega
theorem qX (neg:Bool)(L:List Int)(x:Int)(hne:L≠[])(h:vld ⟨neg,L,x⟩=true):L.length≤2000∧Dg L∧L.getD (L.length-1) 0≠0∧L.getD 0 0%2=1∧-1048576≤x∧x≤1048576:=by
 unfold vld kU at h
 simp only[hne,if_false,Bool.and_eq_true,qh1,bne_iff_ne,beq_iff_eq,vu]at h
 obtain⟨⟨⟨⟨⟨h1,h2⟩,h3⟩,h4⟩,h5⟩,h6⟩:=h
 exact⟨by omega,(xB L).1 h2,h3,h4,h5,h6⟩
theorem jM (neg:Bool)(x:Int)(h:vld ⟨neg,[],x⟩=true):neg=false∧x=0:=by
 simpa [vld] using h
theorem Za (neg:Bool)(L:List Int)(x:Int)(h:vld ⟨neg,L,x⟩=true):L.length≤2000∧Dg L:=by
 by_cases hne:L=[]
 ·subst hne;exact⟨by simp,Dg.nil⟩
 ·have:=qX neg L x hne h
  exact⟨this.1,this.2.1⟩
theorem Zb (L:List Int)(hL:Dg L)(h:L.getD 0 0%2=1):nv L%2=1:=by
 have h1:=zg L hL 0
 have h2:=hL.getD 0
 rw[Nat.mul_zero,Nat.pow_zero,Nat.div_one]at h1
 omega
theorem VJ (neg b:Bool)(L:List Int)(x y:Int)(hne:L≠[])(h:vld ⟨neg,L,x⟩=true):frm b (nv L) y=if -1048576≤wrap64 y∧wrap64 y≤1048576 then some ⟨b,L,wrap64 y⟩else none:=by
 obtain⟨h1,h2,h3,h4,h5,h6⟩:=qX neg L x hne h
 have ho:=Zb L h2 h4
 have hz:=yu _ ho
 have hb:=qY _ _ (zp L h2)
 have hd:=yt L h2 (.inr h3)
 unfold frm
 rw[if_neg (by omega),hz]
 simp only[Nat.pow_zero,Nat.div_one,hd,Int.natCast_zero,Int.add_zero,Nat.sub_zero]
 by_cases hy:-1048576≤wrap64 y∧wrap64 y≤1048576
 ·rw[if_pos hy,if_pos ⟨by omega,hy⟩]
 ·rw[if_neg hy,if_neg (fun hh=>hy hh.2)]
theorem Jg {W:World}(b:Nat)(hb:b<W.heap.size)(neg:Bool)(L:List Int)(hR:Rg L)(hlen:L.length<100000000)(ao:Option Addr)(cap:Nat)(x:Int)(h:Sl W (.slice ao L.length cap) L)(c0:W.cell? ⟨b,0,none⟩=some (.bool neg))(c1:W.cell? ⟨b,1,none⟩=some (.slice ao L.length cap))(c2:W.cell? ⟨b,2,none⟩=some (.int .i64 x))(g:Bool)(hg:vld ⟨neg,L,x⟩=g):
  Hid (∀w',Kept W w'→Calls Tryz.prog 137 #[.slice (some ⟨b,0,none⟩) 1 1] w' fun e w''=>e=.returned (.bool g)∧Kept w' w''):=fun w' k=>by
 subst hg
 refine XL w' b 1 neg ao L.length cap x _ (qhu hb k.below.size) ((k.below.cell (p:=⟨b,0,none⟩) hb).trans c0) ((k.below.cell (p:=⟨b,1,none⟩) hb).trans c1) ((k.below.cell (p:=⟨b,2,none⟩) hb).trans c2) (fun u ku=>?_)
 exact xT ⟨neg,L,x⟩ hR hlen _ u ⟨_,rfl,(h.kept k).kept ku⟩
def cv:List Int→Int
 |[]=>0
 |c::l=>c+1073741824*cv l
theorem Qp (L:List Int)(h:Dg L):cv L=(nv L:Int):=by
 induction L with
 |nil=>rfl
 |cons d L ih=>
  have:=h.head
  simp only[cv,nv,ih h.tail]
  omega
def cr (s:Int):Int→List Int→List Int×Int
 |o,[]=>([],o)
 |o,c::C=>(((o+s*c)%1073741824)::(cr s ((o+s*c)/1073741824) C).1,(cr s ((o+s*c)/1073741824) C).2)
def yJ:List Int→Nat→List Int→List Int
 |C,_,[]=>C
 |C,f,d::ds=>yJ ((C.set f (C.getD f 0+d%1073741824)).set (f+1) (C.getD (f+1) 0+d/1073741824)) (f+1) ds
theorem vQ (i:Nat):(2:Int)^(30*(i+1))=1073741824*2^(30*i):=by
 rw[show 30*(i+1)=30*i+30 by omega,Int.pow_add,Int.mul_comm,show(2:Int)^30=1073741824 from rfl]
theorem qae (pre R:List Int)(k:Nat)(h:pre.length=k):(pre++R).getD k 0=R.getD 0 0:=by
 rw[qhx,List.getElem?_append_right (by omega),h,Nat.sub_self,qhx]
theorem qdc (pre R:List Int)(k:Nat)(c x:Int)(h:pre.length=k):(pre++c::R).set k x=pre++[x]++R:=by
 rw[List.set_append_right _ _ (by omega),h,Nat.sub_self]
 simp
theorem xA (s o:Int)(C:List Int):(cr s o C).1.length=C.length:=by
 induction C generalizing o with
 |nil=>rfl
 |cons c C ih=>simp[cr,ih]
theorem VK (s o:Int)(C:List Int):Dg (cr s o C).1:=by
 induction C generalizing o with
 |nil=>exact Dg.nil
 |cons c C ih=>exact Dg.cons (by omega) (by omega) (ih _)
theorem qaf (s o:Int)(C:List Int):cv (cr s o C).1+(cr s o C).2*2^(30*C.length)=o+s*cv C:=by
 induction C generalizing o with
 |nil=>simp[cr,cv]
 |cons c C ih=>
  have h:=ih ((o+s*c)/1073741824)
  simp only[cr,cv,List.length_cons]
  have e:=vQ C.length
  rw[e]
  generalize (2:Int)^(30*C.length)=p at *
  generalize (cr s ((o+s*c)/1073741824) C).2=q at *
  generalize cv (cr s ((o+s*c)/1073741824) C).1=r at *
  rw[show q*(1073741824*p)=1073741824*(q*p) by rw[Int.mul_left_comm]]
  rw[show s*(c+1073741824*cv C)=s*c+1073741824*(s*cv C) by rw[Int.mul_add,Int.mul_left_comm]]
  generalize q*p=qp at *
  generalize s*cv C=z at *
  generalize s*c=y at *
  omega
theorem yK (C:List Int)(i:Nat)(hi:i<C.length)(d:Int):cv (C.set i (C.getD i 0+d))=cv C+d*2^(30*i):=by
 induction C generalizing i with
 |nil=>simp at hi
 | cons c C ih=>
  cases i with
  |zero=>simp[cv];omega
  |succ i=>
   have e:=vQ i
   simp only[List.set_cons_succ,List.getD_cons_succ,cv]
   rw[ih i (by simpa using hi),e,Int.mul_left_comm]
   generalize d*2^(30*i)=z
   omega
theorem Jh (C:List Int)(f:Nat)(ds:List Int):(yJ C f ds).length=C.length:=by
 induction ds generalizing C f with
 |nil=>rfl
 |cons d ds ih=>simp[yJ,ih]
theorem qag (C:List Int)(f:Nat)(ds:List Int)(h:f+ds.length<C.length):cv (yJ C f ds)=cv C+2^(30*f)*cv ds:=by
 induction ds generalizing C f with
 |nil=>simp[yJ,cv]
 | cons d ds ih=>
  simp only[List.length_cons]at h
  rw[yJ,ih _ _ (by simp;omega)]
  have e:=vQ f
  have h1:(C.set f (C.getD f 0+d%1073741824)).getD (f+1) 0=C.getD (f+1) 0:=by
   rw[qB _ _ _ _ (by omega),if_neg (by omega)]
  rw[←h1,yK _ (f+1) (by simp;omega),yK _ f (by omega),e,cv]
  generalize (2:Int)^(30*f)=p
  have e2:d%1073741824*p+d/1073741824*(1073741824*p)=d*p:=by
   rw[←Int.mul_assoc,←Int.add_mul]
   congr 1
   omega
  rw[Int.mul_add,Int.mul_comm p d,Int.mul_assoc,Int.mul_left_comm p]
  omega
theorem XG (C:List Int)(f:Nat)(ds:List Int)(b:Int)(hb:0≤b)(hlen:f+ds.length<C.length)(hd:∀d∈ds,-1152921504606846976≤d∧d≤1152921504606846975)(h1:∀j,j<f→-(b+2147483648)≤C.getD j 0∧C.getD j 0≤b+2147483648)(h2:-(b+1073741824)≤C.getD f 0∧C.getD f 0≤b+1073741824)(h3:∀j,f<j→-b≤C.getD j 0∧C.getD j 0≤b):∀j,-(b+2147483648)≤(yJ C f ds).getD j 0∧(yJ C f ds).getD j 0≤b+2147483648:=by
 induction ds generalizing C f with
 |nil=>
  intro j
  rw[yJ]
  rcases Nat.lt_trichotomy j f with h|h|h
  ·exact h1 j h
  ·subst h;omega
  ·have:=h3 j h;omega
 | cons d ds ih=>
  simp only[List.length_cons]at hlen
  rw[yJ]
  have hd0:=hd d (by simp)
  have g1:∀j,((C.set f (C.getD f 0+d%1073741824)).set (f+1) (C.getD (f+1) 0+d/1073741824)).getD j 0=if f+1=j then C.getD (f+1) 0+d/1073741824 else if f=j then C.getD f 0+d%1073741824 else C.getD j 0:=by
   intro j
   rw[qB _ _ _ _ (by simp;omega),qB _ _ _ _ (by omega)]
  apply ih _ _ (by simp;omega) (fun x hx=>hd x (by simp[hx]))
  ·intro j hj
   rw[g1,if_neg (by omega)]
   split
   ·omega
   ·exact h1 j (by omega)
  ·rw[g1,if_pos rfl]
   have:=h3 (f+1) (by omega)
   omega
  ·intro j hj
   rw[g1,if_neg (by omega),if_neg (by omega)]
   exact h3 j (by omega)
theorem Qq (C:List Int)(s:Int)(hs:s=1∨s=-1)(g cap:Nat)(hlen:C.length<100000000)(hb:∀j,-9223372036854775807≤C.getD j 0∧C.getD j 0≤9223372036854775807)(w:World)(h:Own w g cap C):Calls Tryz.prog 159 #[.slice (some ⟨g,0,none⟩) C.length cap,.int .i64 s] w fun e w'=>e=.returned (.bool (decide ((cr s 0 C).2<0)))∧Own w' g cap (cr s 0 C).1∧Grw g w w':=by
 obtain⟨n,hn⟩:∃n,n=C.length:=⟨_,rfl⟩
 have HN:Hid (n=C.length):=hn
 have HB:Hid (∀j,-9223372036854775807≤C.getD j 0∧C.getD j 0≤9223372036854775807):=hb
 have HO:Hid (Own w g cap C):=h
 have hcap:n≤cap:=by obtain⟨_,_,h1,_⟩:=h;omega
 rw[←hn]at hlen ⊢
 obtain⟨D,o',hD⟩:∃D o',cr s 0 C=(D,o'):=⟨_,_,rfl⟩
 rw[hD]
 have HD:Hid (cr s 0 C=(D,o')):=hD
 clear h hb hD hn
 go_enter Tryz.func159,Tryz.ntmps159
 go_wp2
 go_loopw [5,10] (fun ov i wr=>∃(k:Nat) (pre:List Int) (o:Int),k≤n∧i=.int .i64 k∧ov=.int .i64 o∧pre.length=k∧-17179869184≤o∧o≤17179869184∧Own wr g cap (pre++C.drop k)∧(D,o')=(pre++(cr s o (C.drop k)).1,(cr s o (C.drop k)).2)∧Grw g w wr) (fun _ i _=>n-(intOf i).toNat)
 case atStart=>exact⟨0,[],0,Nat.zero_le _,rfl,rfl,rfl,by omega,by omega,by simpa using HO.out,by rw[←HD.out];simp,Grw.refl _ _⟩
 case round=>
  obtain⟨k,pre,o,hk,rfl,rfl,hpre,ho1,ho2,hO,hrun,hG⟩:=hrel
  have HO2:Hid (Own wr g cap (pre++C.drop k)):=hO
  have HR:Hid ((D,o')=(pre++(cr s o (C.drop k)).1,(cr s o (C.drop k)).2)):=hrun
  have HG:Hid (Grw g w wr):=hG
  by_cases hkn:k<n
  ·have hkC:k<C.length:=by have:=HN.out;omega
   have hdrop:C.drop k=C.getD k 0::C.drop (k+1):=by
    rw[List.drop_eq_getElem_cons hkC,qhx,List.getElem?_eq_getElem hkC]
    rfl
   have hcell:wr.cell? ⟨g,k,none⟩=some (.int .i64 (C.getD k 0)):=by
    have:=hO.cell k (by rw[List.length_append,List.length_drop];omega)
    rw[qae _ _ _ hpre,hdrop]at this
    simpa using this
   have hfree:=hO.free k
   have hbk:=HB.out k
   have HDr:Hid (C.drop k=C.getD k 0::C.drop (k+1)):=hdrop
   clear hO hrun hG hdrop
   generalize C.getD k 0=c at *
   have HP:Hid (pre.length=k):=hpre
   clear hpre
   obtain⟨y,hy⟩:∃y,y=s*c:=⟨_,rfl⟩
   have hy1:-9223372036854775807≤y∧y≤9223372036854775807:=by rcases hs with rfl|rfl<;>omega
   have hw1:IntKind.i64.wrap (s*c)=y:=by
    rw[qc];rcases hs with rfl|rfl<;>omega
   have hw2:wrap64 (s*c)=y:=by
    unfold wrap64;rcases hs with rfl|rfl<;>omega
   have hm:=jR y
   have hm2:=jR (o+y%1073741824)
   have hw3:IntKind.i64.wrap (o+y%1073741824)=o+y%1073741824:=by rw[qc];omega
   have hw4:wrap64 (o+y%1073741824)=o+y%1073741824:=by unfold wrap64;omega
   have hw5:IntKind.i64.wrap ((o+y%1073741824)/1073741824+y/1073741824)=(o+y%1073741824)/1073741824+y/1073741824:=by rw[qc];omega
   have hw6:wrap64 ((o+y%1073741824)/1073741824+y/1073741824)=(o+y%1073741824)/1073741824+y/1073741824:=by unfold wrap64;omega
   have Hy:Hid (y=s*c):=hy
   clear hy
   go_wp2
   go_roundw
   case rel=>
    refine⟨k+1,pre++[(o+y)%1073741824],(o+y%1073741824)/1073741824+y/1073741824,by omega,by go_num,rfl,by simp[HP.out],by omega,by omega,?_,?_,HG.out.setCell _ _⟩
    ·have:=HO2.out.set k ((o+y)%1073741824)
     rw[HDr.out,qdc _ _ _ _ _ HP.out]at this
     exact this
    ·rw[HR.out,HDr.out,cr,←Hy.out,show(o+y%1073741824)/1073741824+y/1073741824=(o+y)/1073741824 by omega]
     simp
   case measure=>simp[intOf];omega
  ·obtain rfl:k=n:=by omega
   have hlast:C.drop k=[]:=by rw[HN.out];simp
   rw[hlast]at hrun hO
   simp only[cr,List.append_nil,Prod.mk.injEq]at hrun hO
   obtain⟨rfl,rfl⟩:=hrun
   clear HR HO2
   go_wp2
   go_ret
   exact⟨rfl,hO,hG⟩
def sg (neg:Bool)(d:Int):Int:=if neg=true then -d else d
def dsh (neg:Bool)(s:Nat)(L:List Int):List Int:=L.map fun d=>sg neg (d*2^s)
theorem yL (neg:Bool)(s:Nat)(L:List Int):(dsh neg s L).length=L.length:=by simp[dsh]
theorem qdd (neg:Bool)(s:Nat)(L:List Int)(h:Dg L):cv (dsh neg s L)=sg neg ((nv L:Int)*2^s):=by
 induction L with
 |nil=>cases neg<;>simp[dsh,cv,nv,sg]
 | cons d L ih=>
  have hd:=h.head
  have:=ih h.tail
  simp only[dsh,List.map_cons,cv,nv]at this ⊢
  rw[this]
  cases neg
  ·simp only[sg,Bool.false_eq_true,if_false,Int.natCast_add,Int.natCast_mul,Int.add_mul,Int.toNat_of_nonneg hd.1]
   rw[←Int.mul_assoc]
   rfl
  ·simp only[sg,if_true,Int.natCast_add,Int.natCast_mul,Int.add_mul,Int.toNat_of_nonneg hd.1]
   rw[Int.mul_neg,←Int.mul_assoc,Int.neg_add]
   rfl
theorem Yy (d:Int)(s:Nat)(h0:0≤d)(h1:d<1073741824)(hs:s<30):0≤d*2^s∧d*2^s≤576460752303423488:=by
 have h2:(2:Int)^s≤2^29:=by
  have:2^s≤2^29:=qhw (by decide) (by omega)
  have e:((2^s:Nat):Int)≤((2^29:Nat):Int):=by omega
  rw[Int.natCast_pow,Int.natCast_pow]at e
  exact e
 have h3:(0:Int)<2^s:=Int.pow_pos (by decide)
 constructor
 ·exact Int.mul_nonneg h0 (by omega)
 ·have:d*2^s≤d*2^29:=Int.mul_le_mul_of_nonneg_left h2 h0
  have e:(2:Int)^29=536870912:=rfl
  rw[e]at this
  omega
theorem Yz (neg:Bool)(s:Nat)(hs:s<30)(L:List Int)(h:Dg L):∀d∈dsh neg s L,-1152921504606846976≤d∧d≤1152921504606846975:=by
 intro d hd
 simp only[dsh,List.mem_map]at hd
 obtain⟨c,hc,rfl⟩:=hd
 have h1:=h c hc
 have:=Yy c s h1.1 h1.2 hs
 cases neg<;>simp only[sg,Bool.false_eq_true,if_false,if_true]<;>omega
def yM (Res:Option Nm)(w0 w:World)(e:Ending):Prop:=match Res with|some r=>∃v,e=.returned v∧New w0 w v r|none=>e=.panicked jO
theorem jN (n:Nat):cv (List.replicate n 0)=0:=by
 induction n with
 |zero=>rfl
 |succ n ih=>simp[List.replicate_succ,cv,ih]
theorem jr (a b:Nat):(2:Int)^(a+b)=2^a*2^b:=Int.pow_add 2 a b
theorem qfv (neg:Bool)(a B:Int)(h0:0≤a)(h1:a<B):-B<sg neg a∧sg neg a<B:=by cases neg<;>simp[sg]<;>omega
theorem qde (C:List Int)(T:Int)(hT:cv C=T)(h1:-(2:Int)^(30*C.length)<T)(h2:T<(2:Int)^(30*C.length)):
  (decide ((cr 1 0 C).2<0)=decide (T<0))∧(¬T<0→nv (cr 1 0 C).1=T.natAbs)∧(T<0→nv (cr (-1) 0 (cr 1 0 C).1).1=T.natAbs):=by
 have a1:=qaf 1 0 C
 have a2:=VK 1 0 C
 have a3:=xA 1 0 C
 have a4:=zp _ a2
 have b1:=qaf (-1) 0 (cr 1 0 C).1
 have b2:=VK (-1) 0 (cr 1 0 C).1
 have b3:=xA (-1) 0 (cr 1 0 C).1
 have b4:=zp _ b2
 rw[Qp _ a2,hT]at a1
 rw[Qp _ b2,Qp _ a2]at b1
 rw[a3]at a4 b1 b3
 rw[b3]at b4
 generalize nv (cr 1 0 C).1=D1 at *
 generalize nv (cr (-1) 0 (cr 1 0 C).1).1=D2 at *
 generalize (cr 1 0 C).2=o at *
 generalize (cr (-1) 0 (cr 1 0 C).1).2=o2 at *
 have e:((2^(30*C.length):Nat):Int)=(2:Int)^(30*C.length):=by rw[Int.natCast_pow];rfl
 have a5:(D1:Int)<(2:Int)^(30*C.length):=by rw[←e];omega
 have b5:(D2:Int)<(2:Int)^(30*C.length):=by rw[←e];omega
 have hp:(0:Int)<(2:Int)^(30*C.length):=Int.pow_pos (by decide)
 generalize (2:Int)^(30*C.length)=P at *
 clear e a4 b4
 have ho:∀k:Int,((k≤-2→k*P≤-2*P)∧(1≤k→P≤k*P)):=fun k=>⟨fun h=>Int.mul_le_mul_of_nonneg_right h (by omega),fun h=>by have:=Int.mul_le_mul_of_nonneg_right h (show 0≤P by omega);omega⟩
 have o1:=ho o
 have o3:=ho o2
 have hcase:o=0∨o=-1:=by
  rcases Int.lt_trichotomy o 0 with h|h|h
  ·by_cases h':o≤-2
   ·have:=o1.1 h';omega
   ·omega
  ·exact .inl h
  ·have:=o1.2 (by omega);omega
 rcases hcase with rfl|rfl
 ·refine⟨by simp;omega,fun h=>by omega,fun h=>by omega⟩
 ·have hcase2:o2=0∨o2=-1:=by
   rcases Int.lt_trichotomy o2 0 with h|h|h
   ·by_cases h':o2≤-2
    ·have:=o3.1 h';omega
    ·omega
   ·exact .inl h
   ·have:=o3.2 (by omega);omega
  refine⟨by simp;omega,fun h=>by omega,fun h=>?_⟩
  rcases hcase2 with rfl|rfl<;>omega
def qgx (g cap:Nat)(Res:Option Nm)(w0 w:World)(e:Ending):Prop:=match Res with|some r=>∃v,e=.returned v∧NewG g cap w0 w v r|none=>e=.panicked jO
theorem yN {w w1:World}{g:Nat}(h:Grw g (qD w) w1)(hne:g≠w.heap.size):w1.cell? ⟨w.heap.size,0,none⟩=some (.bool false)∧w1.cell? ⟨w.heap.size,1,none⟩=some (.slice none 0 0)∧w1.cell? ⟨w.heap.size,2,none⟩=some (.int .i64 0)∧(∀o,w1.frozen? ⟨w.heap.size,o,none⟩=false):=
 ⟨(js h hne 0).1.trans (by simp[go_sem]),(js h hne 1).1.trans (by simp[go_sem]),(js h hne 2).1.trans (by simp[go_sem]),fun o=>(js h hne o).2.trans (by simp[go_sem])⟩
theorem Qr {w u0 z:World}{g cap:Nat}{v:Value}{r:Nm}(hN:NewG g cap u0 z v r)(hne:g≠w.heap.size)(hu:u0.heap.size≤w.heap.size)(hk:Kept u0 z)(a b c:Value):New u0 (((z.setCell ⟨w.heap.size,0,none⟩ a).setCell ⟨w.heap.size,1,none⟩ b).setCell ⟨w.heap.size,2,none⟩ c) v r∧Kept u0 (((z.setCell ⟨w.heap.size,0,none⟩ a).setCell ⟨w.heap.size,1,none⟩ b).setCell ⟨w.heap.size,2,none⟩ c):=by
 constructor
 ·rcases hN with h|⟨e,hg,ho,hne2⟩
  ·exact .inl h
  ·exact .inr ⟨g,cap,e,hg,((ho.setOther (by simpa using hne) _).setOther (by simpa using hne) _).setOther (by simpa using hne) _,hne2⟩
 ·exact hk.setCell hu _|>.setCell hu _|>.setCell hu _
theorem Zc (w:World)(n cap g:Nat)(x:Int)(C D1 D2:List Int)(ng:Bool)(u0:World)(hk:Kept u0 w)(hg:u0.heap.size≤g)(ho:Own w g cap C)
  (KC1:Hid (∀u,Own u g cap C→Calls Tryz.prog 159 #[.slice (some ⟨g,0,none⟩) n cap,.int .i64 1] u fun e w'=>e=.returned (.bool ng)∧Own w' g cap D1∧Grw g u w'))
  (KC2:Hid (ng=true→∀u,Own u g cap D1→Calls Tryz.prog 159 #[.slice (some ⟨g,0,none⟩) n cap,.int .i64 (-1)] u fun e w'=>(∃b,e=.returned (.bool b))∧Own w' g cap D2∧Grw g u w'))
  (Res:Option Nm) (KF:Hid (∀u,Kept u0 u→Own u g cap (if ng=true then D2 else D1)→Calls Tryz.prog 141 #[.bool ng,.slice (some ⟨g,0,none⟩) n cap,.int .i64 x] u fun e w'=>qgx g cap Res u0 w' e∧Kept u0 w'∧Grw g u w'))
  :Calls Tryz.prog 135 #[.slice (some ⟨g,0,none⟩) n cap,.int .i64 x] w fun e w'=>yM Res u0 w' e∧Kept u0 w':=by
 have hK0:Kept w (qD w):=(qia w).alloc _ _
 have hne:g≠w.heap.size:=by have:=ho.lt;omega
 have hu:=hk.below.size
 have HO:Hid (Own (qD w) g cap C):=ho.kept hK0
 have HK:Hid (Kept u0 (qD w)):=hk.trans hK0
 clear ho
 go_enter Tryz.func135,Tryz.ntmps135
 go_wp2_with fail
 refine(KC1.out _ HO.out).mono ?_
 rintro e z3 ⟨rfl,oz3,gz3⟩
 cases ng
 ·go_wp2_with fail
  refine(KF.out _ (HK.out.grw hg gz3) oz3).mono ?_
  rintro e z5 ⟨hres,k5,g5⟩
  cases Res with
  |none=>
   have hres2:e=.panicked jO:=hres
   subst hres2
   go_wp2
   exact⟨rfl,rfl,k5⟩
  |some r=>
   obtain⟨v,rfl,hN⟩:=hres
   obtain⟨f0,f1,f2,f3⟩:=yN (gz3.trans g5) hne
   obtain⟨vn,va,vl,vc,vx,rfl⟩:=hN.new.shape
   go_wp2
   have:=Qr hN hne hu k5 (.bool vn) (.slice va vl vc) (.int .i64 vx)
   exact qh9 (v:=.agg #[.bool vn,.slice va vl vc,.int .i64 vx]) (by simp[results,Tryz.results135,go_sem,f0,f1,f2]) rfl ⟨⟨_,rfl,this.1⟩,this.2⟩
 ·go_wp2_with fail
  refine(KC2.out (by trivial) _ oz3).mono ?_
  rintro e z4 ⟨⟨b4,rfl⟩,oz4,gz4⟩
  go_wp2_with fail
  refine(KF.out _ (HK.out.grw hg (gz3.trans gz4)) oz4).mono ?_
  rintro e z5 ⟨hres,k5,g5⟩
  cases Res with
  |none=>
   have hres2:e=.panicked jO:=hres
   subst hres2
   go_wp2
   exact⟨rfl,rfl,k5⟩
  |some r=>
   obtain⟨v,rfl,hN⟩:=hres
   obtain⟨f0,f1,f2,f3⟩:=yN ((gz3.trans gz4).trans g5) hne
   obtain⟨vn,va,vl,vc,vx,rfl⟩:=hN.new.shape
   go_wp2
   have:=Qr hN hne hu k5 (.bool vn) (.slice va vl vc) (.int .i64 vx)
   exact qh9 (v:=.agg #[.bool vn,.slice va vl vc,.int .i64 vx]) (by simp[results,Tryz.results135,go_sem,f0,f1,f2]) rfl ⟨⟨_,rfl,this.1⟩,this.2⟩
theorem Ji (w:World)(n cap g:Nat)(x:Int)(C:List Int)(hn:C.length=n)(hn2:n<60000000)(hb:∀j,-9223372036854775807≤C.getD j 0∧C.getD j 0≤9223372036854775807)(T:Int)(hT:cv C=T)(h1:-(2:Int)^(30*n)<T)(h2:T<(2:Int)^(30*n))(u0:World)(hTab:Tab u0)(hk:Kept u0 w)(hg:u0.heap.size≤g)(ho:Own w g cap C)(Res:Option Nm)(hRes:frm (decide (T<0)) T.natAbs x=Res):
  Calls Tryz.prog 135 #[.slice (some ⟨g,0,none⟩) n cap,.int .i64 x] w fun e w'=>yM Res u0 w' e∧Kept u0 w':=by
 have hcar:=qde C T hT (by rw[hn];exact h1) (by rw[hn];exact h2)
 have hD1:=VK 1 0 C
 have hD2:=VK (-1) 0 (cr 1 0 C).1
 have lD1:(cr 1 0 C).1.length=n:=by rw[xA,hn]
 have lD2:(cr (-1) 0 (cr 1 0 C).1).1.length=n:=by rw[xA,lD1]
 refine Zc w n cap g x C (cr 1 0 C).1 (cr (-1) 0 (cr 1 0 C).1).1 (decide (T<0)) u0 hk hg ho ?_ ?_ Res ?_
 ·intro u ho
  have:=Qq C 1 (.inl rfl) g cap (by rw[hn];omega) hb u ho
  rw[hn,hcar.1]at this
  exact this
 ·intro hng u ho
  have:=Qq (cr 1 0 C).1 (-1) (.inr rfl) g cap (by rw[lD1];omega) (fun j=>by have:=hD1.getD j;omega) u ho
  rw[lD1]at this
  refine this.mono ?_
  rintro e w' ⟨rfl,r⟩
  exact⟨⟨_,rfl⟩,r⟩
 ·intro u k1 ho
  subst hRes
  obtain⟨D,hDe,hDd,hDl,hDv⟩:∃D,(if decide (T<0)=true then (cr (-1) 0 (cr 1 0 C).1).1 else (cr 1 0 C).1)=D∧Dg D∧D.length=n∧nv D=T.natAbs:=by
   by_cases hneg:T<0
   ·exact⟨_,by rw[if_pos (qh2 hneg)],hD2,lD2,hcar.2.2 hneg⟩
   ·exact⟨_,by rw[if_neg (by simpa using hneg)],hD1,lD1,hcar.2.1 hneg⟩
  rw[hDe]at ho
  rw[←hDv]
  cases hfr:frm (decide (T<0)) (nv D) x with
  |none=>
   have hf:=VM (decide (T<0)) D hDd (by omega) g cap x u ho (hTab.kept k1) hfr
   rw[hDl]at hf
   refine hf.mono ?_
   rintro e w' ⟨rfl,k⟩
   exact⟨rfl,k1.trans k,k.toGrw g⟩
  |some r=>
   have hf:=Jm (decide (T<0)) D hDd (by omega) g cap x u0 u k1 hg ho (hTab.kept k1) r hfr
   rw[hDl]at hf
   exact hf
end Go.Proofs.YtaglkncdedeipaaGreatDoor
