/-  -/
import Derived.Test.YtnniljhdcplkgaaGreatDoorWs06
import Derived.Defers
import Derived.Recover
import Derived.OwnWalk
import Derived.Laws.Cover3
import Derived.Laws.OwnMore
import Derived.Laws.AppendOwn
import Derived.Test.YtnniljhdcplkgaaGreatDoorWs05
namespace Go.Proofs.YtnniljhdcplkgaaGreatDoor
open Go.ChangeShapes Go.WideShapes Go.ChangeAt Go.RowKit
set_option maxHeartbeats 16000000
set_option maxRecDepth 100000
set_option linter.unusedVariables false
theorem catch_idle (p q:Addr)(w:World):CallsD Tryz.prog 135 #[.pointer (some p),.pointer (some q)] .returning w fun e u' w'=>e=.returned (.tuple #[])∧u'=.returning∧w'=w:=by
 refine callsD_of_wpS Tryz.func135 rfl fun c₀ cs hu=>?_
 apply wpS_seq
 apply wpS_region
 simp[wpOpsS,go_sem,recoverD,hu,Tryz.ntmps135,Exit.thenS]
 refine wpS_cond (t:=false) (by simp[Act.eval,Array.replicate]) ?_
 simp only[Bool.false_eq_true,if_false]
 refine wpS_of_wp (wp_skip ?_)
 cases c₀
 simp_all [bodyPostS,results,Tryz.results135]
theorem catch_up (P B:Nat)(n:Bool)(ao:Option Addr)(l c:Nat)(x y:Int)(u:TypeId)(pv:Value)(older:List PanicEntry)(w:World)
  (c0:w.cell? ⟨P,0,none⟩=some (.bool n)) (c1:w.cell? ⟨P,1,none⟩=some (.slice ao l c)) (c2:w.cell? ⟨P,2,none⟩=some (.int .i64 x)) (c3:w.cell? ⟨B,0,none⟩=some (.int .i64 y)) (hz:∀o,w.frozen? ⟨P,o,none⟩=false) (hz2:w.frozen? ⟨B,0,none⟩=false) (hne:P≠B):
  CallsD Tryz.prog 135 #[.pointer (some ⟨P,0,none⟩),.pointer (some ⟨B,0,none⟩)] (.panicking ({ v:=.iface u pv,recovered:=false }::older)) w fun e u' w'=>
   e=.returned (.tuple #[])∧u'=.panicking ({ v:=.iface u pv,recovered:=true }::older)∧w'=(((w.setCell ⟨P,0,none⟩ (.bool false)).setCell ⟨P,1,none⟩ (.slice none 0 0)).setCell ⟨P,2,none⟩ (.int .i64 0)).setCell ⟨B,0,none⟩ (.int .i64 2):=by
 refine callsD_of_wpS Tryz.func135 rfl fun c₀ cs hu=>?_
 apply wpS_seq
 apply wpS_region
 simp[wpOpsS,go_sem,recoverD,hu,Tryz.ntmps135,Exit.thenS]
 refine wpS_cond (t:=true) (by simp[Act.eval,Array.replicate]) ?_
 simp only[if_true]
 apply wpS_region
 simp[wpOpsS,go_sem,c0,c1,c2,c3,hz,hz2,bodyPostS,results,Tryz.results135]
abbrev toldW (w:World):World:=(w.alloc (.cells #[.bool false,.slice none 0 0,.int .i64 0] 43)).alloc (.cells #[.int .i64 0] 26)
theorem told_cells {w w1:World}(h:Kept (toldW w) w1):w1.cell? ⟨w.heap.size,0,none⟩=some (.bool false)∧w1.cell? ⟨w.heap.size,1,none⟩=some (.slice none 0 0)∧w1.cell? ⟨w.heap.size,2,none⟩=some (.int .i64 0)∧w1.cell? ⟨w.heap.size+1,0,none⟩=some (.int .i64 0)∧(∀o,w1.frozen? ⟨w.heap.size,o,none⟩=false)∧w1.frozen? ⟨w.heap.size+1,0,none⟩=false:=
 ⟨(h.below.cell (p:=⟨w.heap.size,0,none⟩) (by simp;omega)).trans (by simp[go_sem]),(h.below.cell (p:=⟨w.heap.size,1,none⟩) (by simp;omega)).trans (by simp[go_sem]),(h.below.cell (p:=⟨w.heap.size,2,none⟩) (by simp;omega)).trans (by simp[go_sem]),(h.below.cell (p:=⟨w.heap.size+1,0,none⟩) (by simp)).trans (by simp[go_sem]),fun o=>(h.frozen _).trans (by simp[go_sem]),(h.frozen _).trans (by simp[go_sem])⟩
theorem toldW_kept (w:World):Kept w (toldW w):=((Kept.refl w).alloc _ _).alloc _ _
theorem told_ok (K:Nat)(caps:Array Value)(hcall:∀w,(callFunc K caps).run Tryz.prog w=.ok (.enter K caps) w)(given:Value)(r:Nm)(w:World)
  (KV:Hid (∀w',Kept w w'→Calls Tryz.prog 124 #[given] w' fun e w''=>e=.returned (.bool true)∧Kept w' w''))
  (KR:Hid (∀w',Kept w w'→Calls Tryz.prog K caps w' fun e w''=>(∃v,e=.returned v∧New w' w'' v r)∧Kept w' w'')):
  Calls Tryz.prog 106 #[.func (.func K) #[] caps,given] w fun e w'=>∃v,e=.returned (.tuple #[v,.int .i64 0])∧New w w' v r∧Kept w w':=by
 have hK:=toldW_kept w
 have hmf:∀(fn:Fn) (first cap:Array Value) (w:World),(Instr.makeFunc fn first cap).run Tryz.prog w=.ok (.func fn first cap) w:=fun _ _ _ _=>rfl
 go_enter_defers Tryz.func106,Tryz.ntmps106
 go_wp2_with (first|(go_at_call 124;refine(KV.out _ hK).mono ?_;rintro e w1 ⟨rfl,hk1⟩;obtain⟨c0,c1,c2,c3,f0,f1⟩:=told_cells hk1))
 refine(KR.out _ (hK.trans hk1)).mono ?_
 rintro e w2 ⟨⟨v,rfl,hN⟩,hk2⟩
 obtain⟨d0,d1,d2,d3,g0,g1⟩:=told_cells (hk1.trans hk2)
 clear c0 c1 c2 c3 f0 f1
 have HN:Hid (New w1 w2 v r):=hN
 obtain⟨n,ao,l,c,x,rfl⟩:∃n ao l c x,v=.agg #[.bool n,.slice ao l c,.int .i64 x]:=by
  rcases hN with ⟨-,rfl⟩|⟨g,cap,rfl,-⟩
  ·exact⟨_,_,_,_,_,rfl⟩
  ·exact⟨_,_,_,_,_,rfl⟩
 clear hN
 go_wp2
 refine leaves_cons (f:=135) (args:=#[.pointer (some ⟨w.heap.size,0,none⟩),.pointer (some ⟨w.heap.size+1,0,none⟩)]) (by simp) (by simp[go_sem]) ?_
 refine(catch_idle ⟨w.heap.size,0,none⟩ ⟨w.heap.size+1,0,none⟩ _).mono ?_
 rintro e u' w'' ⟨rfl,rfl,rfl⟩
 simp only[Leaves,settle]
 refine⟨_,(by simp[results,Tryz.results106,go_sem,d0,d1,d2,d3];rfl),_,rfl,?_,?_⟩
 ·have hsz:w.heap.size+2≤w1.heap.size:=by have:=hk1.below.size;simpa using this
  have hn:=HN.out
  rcases hn with h|⟨g,cap,e,hg,ho,hne⟩
  ·exact .inl h
  ·exact .inr ⟨g,cap,e,by omega,(((ho.setOther (by simp;omega) _).setOther (by simp;omega) _).setOther (by simp;omega) _).setOther (by simp;omega) _,hne⟩
 ·exact((hK.trans hk1).trans hk2).setCell (by simp) _|>.setCell (by simp) _|>.setCell (by simp) _|>.setCell (by simp) _
theorem told_no (K:Nat)(caps:Array Value)(hcall:∀w,(callFunc K caps).run Tryz.prog w=.ok (.enter K caps) w)(given:Value)(w:World)
  (KV:Hid (∀w',Kept w w'→Calls Tryz.prog 124 #[given] w' fun e w''=>e=.returned (.bool true)∧Kept w' w''))
  (KR:Hid (∀w',Kept w w'→Calls Tryz.prog K caps w' fun e w''=>e=.panicked gaveUp∧Kept w' w'')):
  Calls Tryz.prog 106 #[.func (.func K) #[] caps,given] w fun e w'=>e=.returned (.tuple #[zeroNum,.int .i64 2])∧Kept w w':=by
 have hK:=toldW_kept w
 have hmf:∀(fn:Fn) (first cap:Array Value) (w:World),(Instr.makeFunc fn first cap).run Tryz.prog w=.ok (.func fn first cap) w:=fun _ _ _ _=>rfl
 go_enter_defers Tryz.func106,Tryz.ntmps106
 go_wp2_with (first|(go_at_call 124;refine(KV.out _ hK).mono ?_;rintro e w1 ⟨rfl,hk1⟩;obtain⟨c0,c1,c2,c3,f0,f1⟩:=told_cells hk1))
 refine(KR.out _ (hK.trans hk1)).mono ?_
 rintro e w2 ⟨rfl,hk2⟩
 obtain⟨d0,d1,d2,d3,g0,g1⟩:=told_cells (hk1.trans hk2)
 clear c0 c1 c2 c3 f0 f1
 go_wp2
 refine leaves_cons (f:=135) (args:=#[.pointer (some ⟨w.heap.size,0,none⟩),.pointer (some ⟨w.heap.size+1,0,none⟩)]) (by simp) (by simp[go_sem]) ?_
 refine(catch_up _ _ _ _ _ _ _ _ _ _ [] _ d0 d1 d2 d3 g0 g1 (by omega)).mono ?_
 rintro e u' w'' ⟨rfl,rfl,rfl⟩
 simp only[settle,List.dropWhile_nil,Leaves]
 refine⟨_,(by simp[results,Tryz.results106,go_sem,d0,d1,d2,d3]),rfl,?_⟩
 exact((hK.trans hk1).trans hk2).setCell (by simp) _|>.setCell (by simp) _|>.setCell (by simp) _|>.setCell (by simp) _
end Go.Proofs.YtnniljhdcplkgaaGreatDoor
namespace Go.Proofs.YtnniljhdcplkgaaGreatDoor
open Go.ChangeShapes Go.WideShapes Go.ChangeAt Go.RowKit
set_option maxHeartbeats 16000000
set_option maxRecDepth 100000
set_option linter.unusedVariables false
theorem wpList_append_run {P:Program}{w:World}{ops:Array Oper}{rest:List Oper}{o:Oper}{a:Act}{Q:Exit→Act→World→Prop}(hgd:o.guard=none)(s x:Operand)(t:TypeId)
  (ho:o.op=.call { callee:=.builtin .append,args:=#[s,x],argTypes:=#[t,t] }) (v xv:Value) (hs:a.eval s=v) (hx:a.eval x=xv) (v':Value) (w':World)
  (hr:(Builtin.append_ #[t,t] o.type #[v,xv]).run P w=.ok v' w') (h:wpList P ops Q rest (a.put o.dst v') w'):wpList P ops Q (o::rest) a w:=by
 refine wpList_plain hgd fun K hK=>?_
 unfold Oper.wp execOp
 simp only[ho,resolve,invoke,builtin,Sem.run_bind,Sem.run_pure,Result.andThen_ok,List.map_toArray,List.map_cons,List.map_nil,hs,hx,hr]
 exact hK _ _ h
theorem int_info:(Tryz.prog.info? 3).map (fun i=>(i.zero,i.size,i.bytes))=some (some (.int .i64 0),1,8):=by kernel_rfl
theorem li_under:Tryz.prog.underlying 24=some (.slice 3):=by kernel_rfl
def Cl (w0 w:World)(sv:Value)(L:List Int):Prop:=
 (L=[]∧∃ao cap,sv=.slice ao 0 cap)∨∃g cap,sv=.slice (some ⟨g,0,none⟩) L.length cap∧w0.heap.size≤g∧Own w g cap L
theorem Cl.kept {w0 w w':World}{sv:Value}{L:List Int}(h:Cl w0 w sv L)(k:Kept w w'):Cl w0 w' sv L:=by
 rcases h with h|⟨g,cap,e,hg,ho⟩
 ·exact .inl h
 ·exact .inr ⟨g,cap,e,hg,ho.kept k⟩
abbrev numW (w:World):World:=w.alloc (.cells #[.bool false,.slice none 0 0,.int .i64 0] 43)
theorem num_cells {w w1:World}(h:Kept (numW w) w1):w1.cell? ⟨w.heap.size,0,none⟩=some (.bool false)∧w1.cell? ⟨w.heap.size,1,none⟩=some (.slice none 0 0)∧w1.cell? ⟨w.heap.size,2,none⟩=some (.int .i64 0)∧(∀o,w1.frozen? ⟨w.heap.size,o,none⟩=false):=
 ⟨(h.below.cell (p:=⟨w.heap.size,0,none⟩) (by simp)).trans (by simp[go_sem]),(h.below.cell (p:=⟨w.heap.size,1,none⟩) (by simp)).trans (by simp[go_sem]),(h.below.cell (p:=⟨w.heap.size,2,none⟩) (by simp)).trans (by simp[go_sem]),fun o=>(h.frozen _).trans (by simp[go_sem])⟩
theorem num_done {w u2:World}{v:Value}{r:Nm}(hN:New (numW w) u2 v r)(hk:Kept (numW w) u2)(a b c:Value):New w (((u2.setCell ⟨w.heap.size,0,none⟩ a).setCell ⟨w.heap.size,1,none⟩ b).setCell ⟨w.heap.size,2,none⟩ c) v r∧Kept w (((u2.setCell ⟨w.heap.size,0,none⟩ a).setCell ⟨w.heap.size,1,none⟩ b).setCell ⟨w.heap.size,2,none⟩ c):=by
 have hK:Kept w (numW w):=(Kept.refl w).alloc _ _
 constructor
 ·rcases hN with h|⟨g,cap,e,hg,ho,hne⟩
  ·exact .inl h
  ·have hsz:w.heap.size+1≤g:=by simpa using hg
   exact .inr ⟨g,cap,e,by omega,((ho.setOther (by simp;omega) _).setOther (by simp;omega) _).setOther (by simp;omega) _,hne⟩
 ·exact(hK.trans hk).setCell (by simp) _|>.setCell (by simp) _|>.setCell (by simp) _
theorem New.shape {w0 w:World}{v:Value}{r:Nm}(h:New w0 w v r):∃n ao l c x,v=.agg #[.bool n,.slice ao l c,.int .i64 x]:=by
 rcases h with ⟨-,rfl⟩|⟨g,cap,rfl,-⟩
 ·exact⟨_,_,_,_,_,rfl⟩
 ·exact⟨_,_,_,_,_,rfl⟩
theorem Cl.from {w0 w1 w:World}{sv:Value}{L:List Int}(h:Cl w1 w sv L)(k:Kept w0 w1):Cl w0 w sv L:=by
 rcases h with h|⟨g,cap,e,hg,ho⟩
 ·exact .inl h
 ·exact .inr ⟨g,cap,e,Nat.le_trans k.below.size hg,ho⟩
end Go.Proofs.YtnniljhdcplkgaaGreatDoor

namespace Go.Proofs.YtnniljhdcplkgaaGreatDoor
open Go.ChangeShapes Go.WideShapes Go.ChangeAt Go.RowKit
set_option maxHeartbeats 16000000
set_option maxRecDepth 100000
set_option linter.unusedVariables false
set_option linter.unusedSimpArgs false
end Go.Proofs.YtnniljhdcplkgaaGreatDoor
namespace Go.Proofs.YtnniljhdcplkgaaGreatDoor
open Go.ChangeShapes Go.WideShapes Go.ChangeAt Go.RowKit
set_option maxHeartbeats 16000000
set_option maxRecDepth 100000
set_option linter.unusedVariables false
set_option linter.unusedSimpArgs false
theorem call_of {P:Program}{f:FuncId}{fn:Func}(hf:P.funcs[f]?=some fn)(h1:(fn.name=="runtime.NumGoroutine")=false)(h2:fn.body.isNone=false)(caps:Array Value)(w:World):(callFunc f caps).run P w=.ok (.enter f caps) w:=by
 have h3:¬fn.name="runtime.NumGoroutine":=by simpa using h1
 have h4:¬fn.body=none:=by intro h;rw[h]at h2;cases h2
 simp[callFunc,hf,go_sem,h3,h4]
theorem res_cells {W w1:World}(H:Nat)(hH:H<W.heap.size)(h:Kept W w1)(c0:W.cell? ⟨H,0,none⟩=some (.bool false))(c1:W.cell? ⟨H,1,none⟩=some (.slice none 0 0))(c2:W.cell? ⟨H,2,none⟩=some (.int .i64 0))(f:∀o,W.frozen? ⟨H,o,none⟩=false):w1.cell? ⟨H,0,none⟩=some (.bool false)∧w1.cell? ⟨H,1,none⟩=some (.slice none 0 0)∧w1.cell? ⟨H,2,none⟩=some (.int .i64 0)∧(∀o,w1.frozen? ⟨H,o,none⟩=false):=
 ⟨(h.below.cell (p:=⟨H,0,none⟩) hH).trans c0,(h.below.cell (p:=⟨H,1,none⟩) hH).trans c1,(h.below.cell (p:=⟨H,2,none⟩) hH).trans c2,fun o=>(h.frozen _).trans (f o)⟩
theorem res_done {w W u2:World}{v:Value}{r:Nm}(H:Nat)(hw:w.heap.size≤H)(hH:H<W.heap.size)(h0:Kept w W)(hN:New W u2 v r)(hk:Kept W u2)(a b c:Value):New w (((u2.setCell ⟨H,0,none⟩ a).setCell ⟨H,1,none⟩ b).setCell ⟨H,2,none⟩ c) v r∧Kept w (((u2.setCell ⟨H,0,none⟩ a).setCell ⟨H,1,none⟩ b).setCell ⟨H,2,none⟩ c):=by
 constructor
 ·rcases hN with h|⟨g,cap,e,hg,ho,hne⟩
  ·exact .inl h
  ·exact .inr ⟨g,cap,e,by omega,((ho.setOther (by simp;omega) _).setOther (by simp;omega) _).setOther (by simp;omega) _,hne⟩
 ·exact(h0.trans hk).setCell (by simpa using hw) _|>.setCell (by simpa using hw) _|>.setCell (by simpa using hw) _
theorem res_kept {w W u2:World}(H:Nat)(hw:w.heap.size≤H)(h0:Kept w W)(hk:Kept W u2)(a b c:Value):Kept w (((u2.setCell ⟨H,0,none⟩ a).setCell ⟨H,1,none⟩ b).setCell ⟨H,2,none⟩ c):=
 (h0.trans hk).setCell (by simpa using hw) _|>.setCell (by simpa using hw) _|>.setCell (by simpa using hw) _
abbrev nilNum:Obj:=.cells #[.bool false,.slice none 0 0,.int .i64 0] 43
end Go.Proofs.YtnniljhdcplkgaaGreatDoor
namespace Go.Proofs.YtnniljhdcplkgaaGreatDoor
open Go.ChangeShapes Go.WideShapes Go.ChangeAt Go.RowKit
set_option maxHeartbeats 16000000
set_option maxRecDepth 100000
set_option linter.unusedVariables false
set_option linter.unusedSimpArgs false
theorem and_one (d:Int):bits .and .i64 d 1=d%2:=by
 have e:(BitVec.ofInt 64 1:BitVec 64).toNat=2^1-1:=by decide
 have h:=ofInt_toNat d
 rw[bits_and,BitVec.toNat_and,e,Nat.and_two_pow_sub_one_eq_mod,wrap_i64]
 omega
theorem vld_some (neg:Bool)(L:List Int)(x:Int)(hne:L≠[])(h:vld ⟨neg,L,x⟩=true):L.length≤2000∧Dg L∧L.getD (L.length-1) 0≠0∧L.getD 0 0%2=1∧-1048576≤x∧x≤1048576:=by
 unfold vld vldN at h
 simp only[hne,if_false,Bool.and_eq_true,decide_eq_true_eq,bne_iff_ne,beq_iff_eq,and_one]at h
 obtain⟨⟨⟨⟨⟨h1,h2⟩,h3⟩,h4⟩,h5⟩,h6⟩:=h
 exact⟨by omega,(dgb_iff L).1 h2,h3,h4,h5,h6⟩
theorem vld_nil (neg:Bool)(x:Int)(h:vld ⟨neg,[],x⟩=true):neg=false∧x=0:=by
 simpa [vld] using h
theorem vld_dg (neg:Bool)(L:List Int)(x:Int)(h:vld ⟨neg,L,x⟩=true):L.length≤2000∧Dg L:=by
 by_cases hne:L=[]
 ·subst hne;exact⟨by simp,Dg.nil⟩
 ·have:=vld_some neg L x hne h
  exact⟨this.1,this.2.1⟩
theorem nv_odd (L:List Int)(hL:Dg L)(h:L.getD 0 0%2=1):nv L%2=1:=by
 have h1:=nv_getD L hL 0
 have h2:=hL.getD 0
 rw[Nat.mul_zero,Nat.pow_zero,Nat.div_one]at h1
 omega
theorem frm_odd (neg b:Bool)(L:List Int)(x y:Int)(hne:L≠[])(h:vld ⟨neg,L,x⟩=true):frm b (nv L) y=if -1048576≤wrap64 y∧wrap64 y≤1048576 then some ⟨b,L,wrap64 y⟩else none:=by
 obtain⟨h1,h2,h3,h4,h5,h6⟩:=vld_some neg L x hne h
 have ho:=nv_odd L h2 h4
 have hz:=tzn_odd _ ho
 have hb:=bl_le _ _ (nv_lt L h2)
 have hd:=digs_nv L h2 (.inr h3)
 unfold frm
 rw[if_neg (by omega),hz]
 simp only[Nat.pow_zero,Nat.div_one,hd,Int.natCast_zero,Int.add_zero,Nat.sub_zero]
 by_cases hy:-1048576≤wrap64 y∧wrap64 y≤1048576
 ·rw[if_pos hy,if_pos ⟨by omega,hy⟩]
 ·rw[if_neg hy,if_neg (fun hh=>hy hh.2)]
theorem allValid_at {W:World}(b:Nat)(hb:b<W.heap.size)(neg:Bool)(L:List Int)(hR:Rg L)(hlen:L.length<100000000)(ao:Option Addr)(cap:Nat)(x:Int)(h:Sl W (.slice ao L.length cap) L)(c0:W.cell? ⟨b,0,none⟩=some (.bool neg))(c1:W.cell? ⟨b,1,none⟩=some (.slice ao L.length cap))(c2:W.cell? ⟨b,2,none⟩=some (.int .i64 x))(g:Bool)(hg:vld ⟨neg,L,x⟩=g):
  Hid (∀w',Kept W w'→Calls Tryz.prog 124 #[.slice (some ⟨b,0,none⟩) 1 1] w' fun e w''=>e=.returned (.bool g)∧Kept w' w''):=fun w' k=>by
 subst hg
 refine allValid_1 w' b 1 neg ao L.length cap x _ (Nat.lt_of_lt_of_le hb k.below.size) ((k.below.cell (p:=⟨b,0,none⟩) hb).trans c0) ((k.below.cell (p:=⟨b,1,none⟩) hb).trans c1) ((k.below.cell (p:=⟨b,2,none⟩) hb).trans c2) (fun u ku=>?_)
 exact xvalid_any ⟨neg,L,x⟩ hR hlen _ u ⟨_,rfl,(h.kept k).kept ku⟩
end Go.Proofs.YtnniljhdcplkgaaGreatDoor

namespace Go.Proofs.YtnniljhdcplkgaaGreatDoor
open Go.ChangeShapes Go.WideShapes Go.ChangeAt Go.RowKit
set_option maxHeartbeats 16000000
set_option maxRecDepth 100000
set_option linter.unusedVariables false
set_option linter.unusedSimpArgs false
end Go.Proofs.YtnniljhdcplkgaaGreatDoor
