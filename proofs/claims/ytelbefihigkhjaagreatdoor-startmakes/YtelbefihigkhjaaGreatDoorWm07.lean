/-  -/
import Derived.Test.YtelbefihigkhjaaGreatDoorWm06
import Derived.Defers
import Derived.Recover
import Derived.OwnWalk
import Derived.Laws.Cover3
import Derived.Laws.OwnMore
import Derived.Laws.AppendOwn
import Derived.Test.YtelbefihigkhjaaGreatDoorWm05
namespace Go.Proofs.YtelbefihigkhjaaGreatDoor
open Go.ChangeShapes Go.WideShapes Go.ChangeAt Go.RowKit
set_option maxHeartbeats 16000000
set_option maxRecDepth 100000
set_option linter.unusedVariables false
theorem Vk (p q:Addr)(w:World):CallsD Tryz.prog 297 #[.pointer (some p),.pointer (some q)] .returning w fun e u' w'=>e=.returned (.tuple #[])∧u'=.returning∧w'=w:=by
 refine callsD_of_wpS Tryz.func297 rfl fun c₀ cs hu=>?_
 apply wpS_seq
 apply wpS_region
 simp[wpOpsS,go_sem,recoverD,hu,Tryz.ntmps297,Exit.thenS]
 refine wpS_cond (t:=false) (by simp[Act.eval,Array.replicate]) ?_
 simp only[Bool.false_eq_true,if_false]
 refine wpS_of_wp (wp_skip ?_)
 cases c₀
 simp_all [bodyPostS,results,Tryz.results297]
abbrev qhy (w:World):World:=(w.alloc (.cells #[.bool false,.slice none 0 0,.int .i64 0] 78)).alloc (.cells #[.int .i64 0] 29)
theorem Qa {w w1:World}(h:Kept (qhy w) w1):w1.cell? ⟨w.heap.size,0,none⟩=some (.bool false)∧w1.cell? ⟨w.heap.size,1,none⟩=some (.slice none 0 0)∧w1.cell? ⟨w.heap.size,2,none⟩=some (.int .i64 0)∧w1.cell? ⟨w.heap.size+1,0,none⟩=some (.int .i64 0)∧(∀o,w1.frozen? ⟨w.heap.size,o,none⟩=false)∧w1.frozen? ⟨w.heap.size+1,0,none⟩=false:=
 ⟨(h.below.cell (p:=⟨w.heap.size,0,none⟩) (by simp;omega)).trans (by simp[go_sem]),(h.below.cell (p:=⟨w.heap.size,1,none⟩) (by simp;omega)).trans (by simp[go_sem]),(h.below.cell (p:=⟨w.heap.size,2,none⟩) (by simp;omega)).trans (by simp[go_sem]),(h.below.cell (p:=⟨w.heap.size+1,0,none⟩) (by simp)).trans (by simp[go_sem]),fun o=>(h.frozen _).trans (by simp[go_sem]),(h.frozen _).trans (by simp[go_sem])⟩
theorem Vl (w:World):Kept w (qhy w):=((qlv w).alloc _ _).alloc _ _
theorem kA (K:Nat)(caps:Array Value)(hcall:∀w,(callFunc K caps).run Tryz.prog w=.ok (.enter K caps) w)(given:Value)(r:Nm)(w:World)
  (KV:Hid (∀w',Kept w w'→Calls Tryz.prog 282 #[given] w' fun e w''=>e=.returned (.bool true)∧Kept w' w''))
  (KR:Hid (∀w',Kept w w'→Calls Tryz.prog K caps w' fun e w''=>(∃v,e=.returned v∧New w' w'' v r)∧Kept w' w'')):
  Calls Tryz.prog 248 #[.func (.func K) #[] caps,given] w fun e w'=>∃v,e=.returned (.tuple #[v,.int .i64 0])∧New w w' v r∧Kept w w':=by
 have hK:=Vl w
 have hmf:∀(fn:Fn) (first cap:Array Value) (w:World),(Instr.makeFunc fn first cap).run Tryz.prog w=.ok (.func fn first cap) w:=fun _ _ _ _=>rfl
 go_enter_defers Tryz.func248,Tryz.ntmps248
 go_wp2_with (first|(go_at_call 282;refine(KV.out _ hK).mono ?_;rintro e w1 ⟨rfl,hk1⟩;obtain⟨c0,c1,c2,c3,f0,f1⟩:=Qa hk1))
 refine(KR.out _ (hK.trans hk1)).mono ?_
 rintro e w2 ⟨⟨v,rfl,hN⟩,hk2⟩
 obtain⟨d0,d1,d2,d3,g0,g1⟩:=Qa (hk1.trans hk2)
 clear c0 c1 c2 c3 f0 f1
 have HN:Hid (New w1 w2 v r):=hN
 obtain⟨n,ao,l,c,x,rfl⟩:∃n ao l c x,v=.agg #[.bool n,.slice ao l c,.int .i64 x]:=by
  rcases hN with ⟨-,rfl⟩|⟨g,cap,rfl,-⟩
  ·exact⟨_,_,_,_,_,rfl⟩
  ·exact⟨_,_,_,_,_,rfl⟩
 clear hN
 go_wp2
 refine leaves_cons (f:=297) (args:=#[.pointer (some ⟨w.heap.size,0,none⟩),.pointer (some ⟨w.heap.size+1,0,none⟩)]) (by simp) (by simp[go_sem]) ?_
 refine(Vk ⟨w.heap.size,0,none⟩ ⟨w.heap.size+1,0,none⟩ _).mono ?_
 rintro e u' w'' ⟨rfl,rfl,rfl⟩
 simp only[Leaves,settle]
 refine⟨_,(by simp[results,Tryz.results248,go_sem,d0,d1,d2,d3];rfl),_,rfl,?_,?_⟩
 ·have hsz:w.heap.size+2≤w1.heap.size:=by have:=hk1.below.size;simpa using this
  have hn:=HN.out
  rcases hn with h|⟨g,cap,e,hg,ho,hne⟩
  ·exact .inl h
  ·exact .inr ⟨g,cap,e,by omega,(((ho.setOther (by simp;omega) _).setOther (by simp;omega) _).setOther (by simp;omega) _).setOther (by simp;omega) _,hne⟩
 ·exact((hK.trans hk1).trans hk2).setCell (by simp) _|>.setCell (by simp) _|>.setCell (by simp) _|>.setCell (by simp) _
end Go.Proofs.YtelbefihigkhjaaGreatDoor
namespace Go.Proofs.YtelbefihigkhjaaGreatDoor
open Go.ChangeShapes Go.WideShapes Go.ChangeAt Go.RowKit
set_option maxHeartbeats 16000000
set_option maxRecDepth 100000
set_option linter.unusedVariables false
theorem qm {P:Program}{w:World}{ops:Array Oper}{rest:List Oper}{o:Oper}{a:Act}{Q:Exit→Act→World→Prop}(hgd:o.guard=none)(s x:Operand)(t:TypeId)
  (ho:o.op=.call { callee:=.builtin .append,args:=#[s,x],argTypes:=#[t,t] }) (v xv:Value) (hs:a.eval s=v) (hx:a.eval x=xv) (v':Value) (w':World)
  (hr:(Builtin.append_ #[t,t] o.type #[v,xv]).run P w=.ok v' w') (h:wpList P ops Q rest (a.put o.dst v') w'):wpList P ops Q (o::rest) a w:=by
 refine wpList_plain hgd fun K hK=>?_
 unfold Oper.wp execOp
 simp only[ho,resolve,invoke,builtin,Sem.run_bind,Sem.run_pure,Result.andThen_ok,List.map_toArray,List.map_cons,List.map_nil,hs,hx,hr]
 exact hK _ _ h
theorem jN:(Tryz.prog.info? 3).map (fun i=>(i.zero,i.size,i.bytes))=some (some (.int .i64 0),1,8):=by kernel_rfl
theorem ju:Tryz.prog.underlying 26=some (.slice 3):=by kernel_rfl
theorem ZM (w:World)(a:Option Addr)(n c:Nat):(binOp .eql 26 (.slice a n c) (.slice none 0 0)).run Tryz.prog w=.ok (.bool a.isNone) w:=by
 simp only[binOp]
 simp[run_equal_slice_nil w _ _ a n c ju]
def Cl (w0 w:World)(sv:Value)(L:List Int):Prop:=
 (L=[]∧∃ao cap,sv=.slice ao 0 cap)∨∃g cap,sv=.slice (some ⟨g,0,none⟩) L.length cap∧w0.heap.size≤g∧Own w g cap L
theorem Ko (w:World)(L:List Int)(cap:Nat)(h1:L.length≤cap)(h2:cap≤maxLen):Own (w.alloc (.cells ((L.map (Value.int .i64)).toArray++Builtin.zeroCells (Value.int .i64 0).cells (cap-L.length)) 3)) w.heap.size cap L:=by
 refine⟨_,heap_alloc_new w _,h1,h2,?_,?_⟩
 ·simp[size_zeroCells,Value.cells];omega
 ·simp
theorem Vm (w:World):Calls Tryz.prog 157 #[.slice none 0 0] w fun e w'=>e=.returned (.slice none 0 0)∧w=w':=by
 have hnil:=ZM
 go_enter Tryz.func157,Tryz.ntmps157
 go_wp2
 go_ret
 exact⟨rfl,rfl⟩
theorem Vn (L:List Int)(hne:L≠[])(hlen:L.length<100000000)(b off cap:Nat)(w:World)(hb:b<w.heap.size)(hr:Reads w b off L):Calls Tryz.prog 157 #[.slice (some ⟨b,off,none⟩) L.length cap] w fun e w'=>(∃g cap,e=.returned (.slice (some ⟨g,0,none⟩) L.length cap)∧w.heap.size≤g∧Own w' g cap L)∧Kept w w':=by
 obtain⟨i,hi,hz,hs,hby⟩:=info_parts (jN)
 have hpos:=List.length_pos_iff.2 hne
 have hr2:=hr.kept hb ((qlv w).alloc #[] 3)
 have HA:Hid (∀ty,(Builtin.append_ #[26,26] ty #[.slice (some ⟨w.heap.size,0,none⟩) 0 0,.slice (some ⟨b,off,none⟩) L.length cap]).run Tryz.prog (w.alloc (.cells #[] 3))=.ok (.slice (some ⟨w.heap.size+1,0,none⟩) L.length (grownCap (w.alloc (.cells #[] 3)) L.length 0 3)) ((w.alloc (.cells #[] 3)).drew.alloc (.cells ((L.map (Value.int .i64)).toArray++Builtin.zeroCells (Value.int .i64 0).cells (grownCap (w.alloc (.cells #[] 3)) L.length 0 3-L.length)) 3))):=by
  intro ty
  have:=run_append_grow (P:=Tryz.prog) (w.alloc (.cells #[] 3)) 26 ty 3 i (.int .i64 0) ju hi hz ⟨w.heap.size,0,none⟩ 0 0 [] (by simp) (by simp) ⟨b,off,none⟩ L.length cap (L.map (Value.int .i64)) (by simp[hs]) (fun j v hj=>by
   rw[List.getElem?_map]at hj
   by_cases hjl:j<L.length
   ·rw[List.getElem?_eq_getElem hjl]at hj
    cases hj
    have:=hr2 j hjl
    rw[qli,List.getElem?_eq_getElem hjl]at this
    rw[Addr.add_lit]
    simpa using this
   ·rw[List.getElem?_eq_none (by omega)]at hj
    cases hj) (by omega) (by omega) (growslice_fits (by omega) (by rw[hby];omega))
  simpa [hs] using this
 clear hr2 hi hz hs hby
 have hnil:=ZM
 go_enter Tryz.func157,Tryz.ntmps157
 go_wp2_with (first|(at_builtin;refine qm rfl _ _ _ rfl _ _ rfl rfl _ _ (HA.out _) ?_))
 go_ret
 refine⟨⟨_,_,rfl,by simp,?_⟩,(((qlv w).alloc #[] 3).drew.alloc _ _)⟩
 have:=Ko (w.alloc (.cells #[] 3)).drew L (grownCap (w.alloc (.cells #[] 3)) L.length 0 3) (grownCap_ge _ _ _ _) (grownCap_le_maxLen _ _ _ _ (by simp[maxLen];omega))
 rw[show(w.alloc (.cells #[] 3)).drew.heap.size=w.heap.size+1 by simp]at this
 exact this
theorem J1 (a:Addr)(cap:Nat)(w:World):Calls Tryz.prog 157 #[.slice (some a) 0 cap] w fun e w'=>(∃ao c,e=.returned (.slice ao 0 c))∧Kept w w':=by
 obtain⟨i,hi,hz,hs,hby⟩:=info_parts (jN)
 have HA:Hid (∀ty,(Builtin.append_ #[26,26] ty #[.slice (some ⟨w.heap.size,0,none⟩) 0 0,.slice (some a) 0 cap]).run Tryz.prog (w.alloc (.cells #[] 3))=.ok (.slice (some ⟨w.heap.size,0,none⟩) 0 0) ((w.alloc (.cells #[] 3)).setRow w.heap.size #[])):=by
  intro ty
  have:=run_append_room (P:=Tryz.prog) (w.alloc (.cells #[] 3)) 26 ty 3 i ju hi w.heap.size 0 0 #[] (heap_alloc_new w _) a 0 cap [] (by simp) (by simp) (by simp) (by simp) (by simp)
  simpa [hs] using this
 clear hi hz hs hby
 have hnil:=ZM
 go_enter Tryz.func157,Tryz.ntmps157
 go_wp2_with (first|(at_builtin;refine qm rfl _ _ _ rfl _ _ rfl rfl _ _ (HA.out _) ?_))
 go_ret
 refine⟨⟨_,_,rfl⟩,⟨⟨rfl,rfl,rfl,by simp,fun k hk=>(setRow_other _ _ _ _ (by omega)).trans (Below.heap_alloc w _ k hk)⟩,fun x=>?_⟩⟩
 have h:=frozen?_alloc_cells w #[] 3 x
 by_cases hx:x.block=w.heap.size
 ·have h1:=setRow_heap (w.alloc (.cells #[] 3)) w.heap.size #[] #[] 3 (0,0) (heap_alloc_new w _)
  have h2:=heap_alloc_new w (.cells #[] 3)
  rw[←h]
  unfold World.frozen?
  rw[hx,h1,h2]
 ·rw[←h];exact World.frozen?_of_block (setRow_other _ _ _ _ hx)
theorem Cl.kept {w0 w w':World}{sv:Value}{L:List Int}(h:Cl w0 w sv L)(k:Kept w w'):Cl w0 w' sv L:=by
 rcases h with h|⟨g,cap,e,hg,ho⟩
 ·exact .inl h
 ·exact .inr ⟨g,cap,e,hg,ho.kept k⟩
theorem Kp (L:List Int)(hlen:L.length<100000000)(ao:Option Addr)(cap:Nat)(hcap:ao=none→cap=0)(w:World)(h:Sl w (.slice ao L.length cap) L):Calls Tryz.prog 157 #[.slice ao L.length cap] w fun e w'=>(∃sv,e=.returned sv∧Cl w w' sv L)∧Kept w w':=by
 obtain⟨ao',cap',e,hc,hm,hr⟩:=h
 cases e
 by_cases hne:L=[]
 ·subst hne
  cases ao with
  |none=>
   obtain rfl:=hcap rfl
   refine(Vm w).mono ?_
   rintro e w' ⟨rfl,rfl⟩
   exact⟨⟨_,rfl,.inl ⟨rfl,_,_,rfl⟩⟩,qlv _⟩
  |some a=>
   refine(J1 a cap w).mono ?_
   rintro e w' ⟨⟨ao,c,rfl⟩,k⟩
   exact⟨⟨_,rfl,.inl ⟨rfl,_,_,rfl⟩⟩,k⟩
 ·obtain⟨b,off,rfl,hb,hr⟩:=hr hne
  refine(Vn L hne hlen b off cap w hb hr).mono ?_
  rintro e w' ⟨⟨g,c,rfl,hg,ho⟩,k⟩
  exact⟨⟨_,rfl,.inr ⟨g,c,rfl,hg,ho⟩⟩,k⟩
theorem Vo (neg:Bool)(L:List Int)(hL:Dg L)(hlen:L.length<60000000)(sv:Value)(x:Int)(w0 w:World)(hk:Kept w0 w)(h:Cl w0 w sv L)(hT:Tab w)(r:Nm)(hf:frm neg (nv L) x=some r):Calls Tryz.prog 246 #[.bool neg,sv,.int .i64 x] w fun e w'=>(∃v,e=.returned v∧New w0 w' v r)∧Kept w0 w':=by
 rcases h with ⟨rfl,ao,cap,rfl⟩|⟨g,cap,rfl,hg,ho⟩
 ·simp only[nv,frm,if_true]at hf
  cases hf
  refine(qch neg ao cap x w).mono ?_
  rintro e w' ⟨rfl,k⟩
  exact⟨⟨_,rfl,.inl ⟨rfl,rfl⟩⟩,hk.trans k⟩
 ·exact x6 neg L hL hlen g cap x w0 w hk hg ho hT r hf
abbrev qh (w:World):World:=w.alloc (.cells #[.bool false,.slice none 0 0,.int .i64 0] 78)
theorem qI {w w1:World}(h:Kept (qh w) w1):w1.cell? ⟨w.heap.size,0,none⟩=some (.bool false)∧w1.cell? ⟨w.heap.size,1,none⟩=some (.slice none 0 0)∧w1.cell? ⟨w.heap.size,2,none⟩=some (.int .i64 0)∧(∀o,w1.frozen? ⟨w.heap.size,o,none⟩=false):=
 ⟨(h.below.cell (p:=⟨w.heap.size,0,none⟩) (by simp)).trans (by simp[go_sem]),(h.below.cell (p:=⟨w.heap.size,1,none⟩) (by simp)).trans (by simp[go_sem]),(h.below.cell (p:=⟨w.heap.size,2,none⟩) (by simp)).trans (by simp[go_sem]),fun o=>(h.frozen _).trans (by simp[go_sem])⟩
theorem zj {w u2:World}{v:Value}{r:Nm}(hN:New (qh w) u2 v r)(hk:Kept (qh w) u2)(a b c:Value):New w (((u2.setCell ⟨w.heap.size,0,none⟩ a).setCell ⟨w.heap.size,1,none⟩ b).setCell ⟨w.heap.size,2,none⟩ c) v r∧Kept w (((u2.setCell ⟨w.heap.size,0,none⟩ a).setCell ⟨w.heap.size,1,none⟩ b).setCell ⟨w.heap.size,2,none⟩ c):=by
 have hK:Kept w (qh w):=(qlv w).alloc _ _
 constructor
 ·rcases hN with h|⟨g,cap,e,hg,ho,hne⟩
  ·exact .inl h
  ·have hsz:w.heap.size+1≤g:=by simpa using hg
   exact .inr ⟨g,cap,e,by omega,((ho.setOther (by simp;omega) _).setOther (by simp;omega) _).setOther (by simp;omega) _,hne⟩
 ·exact(hK.trans hk).setCell (by simp) _|>.setCell (by simp) _|>.setCell (by simp) _
theorem New.shape {w0 w:World}{v:Value}{r:Nm}(h:New w0 w v r):∃n ao l c x,v=.agg #[.bool n,.slice ao l c,.int .i64 x]:=by
 rcases h with ⟨-,rfl⟩|⟨g,cap,rfl,-⟩
 ·exact⟨_,_,_,_,_,rfl⟩
 ·exact⟨_,_,_,_,_,rfl⟩
theorem Cl.from {w0 w1 w:World}{sv:Value}{L:List Int}(h:Cl w1 w sv L)(k:Kept w0 w1):Cl w0 w sv L:=by
 rcases h with h|⟨g,cap,e,hg,ho⟩
 ·exact .inl h
 ·exact .inr ⟨g,cap,e,qlp k.below.size hg,ho⟩
end Go.Proofs.YtelbefihigkhjaaGreatDoor

namespace Go.Proofs.YtelbefihigkhjaaGreatDoor
open Go.ChangeShapes Go.WideShapes Go.ChangeAt Go.RowKit
set_option maxHeartbeats 16000000
set_option maxRecDepth 100000
set_option linter.unusedVariables false
set_option linter.unusedSimpArgs false
theorem JV (neg:Bool)(x k0 y:Int)(hy:IntKind.i64.wrap (x+k0)=y)(hy2:wrap64 (x+k0)=y)(L:List Int)(hL:Dg L)(hlen:L.length<60000000)(ao:Option Addr)(cap:Nat)(hcap:ao=none→cap=0)(r:Nm)(hf:frm (neg) (nv L) (y)=some r)(p q:Nat)(w:World)(hp:p<w.heap.size)(hq:q<w.heap.size)(h:Sl w (.slice ao L.length cap) L)(hT:Tab w)
  (c0:w.cell? ⟨p,0,none⟩=some (.bool neg)) (c1:w.cell? ⟨p,1,none⟩=some (.slice ao L.length cap)) (c2:w.cell? ⟨p,2,none⟩=some (.int .i64 x)) (c3:w.cell? ⟨q,0,none⟩=some (.int .i64 k0)):Calls Tryz.prog 300 #[.pointer (some ⟨p,0,none⟩),.pointer (some ⟨q,0,none⟩)] w fun e w'=>(∃v,e=.returned v∧New w w' v r)∧Kept w w':=by
 have hK:=(qlv w).alloc #[.bool false,.slice none 0 0,.int .i64 0] 78
 have C0:Hid (∀u,Kept w u→u.cell? ⟨p,0,none⟩=some (.bool neg)):=fun u k=>(k.below.cell (p:=⟨p,0,none⟩) hp).trans c0
 have C1:Hid (∀u,Kept w u→u.cell? ⟨p,1,none⟩=some (.slice ao L.length cap)):=fun u k=>(k.below.cell (p:=⟨p,1,none⟩) hp).trans c1
 have C2:Hid (∀u,Kept w u→u.cell? ⟨p,2,none⟩=some (.int .i64 x)):=fun u k=>(k.below.cell (p:=⟨p,2,none⟩) hp).trans c2
 have C3:Hid (∀u,Kept w u→u.cell? ⟨q,0,none⟩=some (.int .i64 k0)):=fun u k=>(k.below.cell (p:=⟨q,0,none⟩) hq).trans c3
 have KC:Hid (∀u,Kept w u→Calls Tryz.prog 157 #[.slice ao L.length cap] u fun e w'=>(∃sv,e=.returned sv∧Cl u w' sv L)∧Kept u w'):=fun u k=>Kp L (by omega) ao cap hcap u (h.kept k)
 have KF:Hid (∀u0 u sv,Kept w u0→Kept u0 u→Cl u0 u sv L→Calls Tryz.prog 246 #[.bool (neg),sv,.int .i64 (y)] u fun e w'=>(∃v,e=.returned v∧New u0 w' v r)∧Kept u0 w'):=fun u0 u sv k0 k1 hc=>Vo (neg) L hL hlen sv (y) u0 u k1 hc (hT.kept (k0.trans k1)) r hf
 clear c0 c1 c2 c3 h hT hf
 generalize L.length=n at *
 have hD:Kept (qh w) (qh w).drew:=(qlv _).drew
 have HS:Hid (∀u,Kept w u→Kept w u∧u.cell? ⟨p,0,none⟩=some (.bool neg)∧u.cell? ⟨p,1,none⟩=some (.slice ao n cap)∧u.cell? ⟨p,2,none⟩=some (.int .i64 x)∧u.cell? ⟨q,0,none⟩=some (.int .i64 k0)):=fun u k=>⟨k,C0.out u k,C1.out u k,C2.out u k,C3.out u k⟩
 go_enter Tryz.func300,Tryz.ntmps300
 go_wp2
 go_region_held (fun u=>Kept w u∧u.cell? ⟨p,0,none⟩=some (.bool neg)∧u.cell? ⟨p,1,none⟩=some (.slice ao n cap)∧u.cell? ⟨p,2,none⟩=some (.int .i64 x)∧u.cell? ⟨q,0,none⟩=some (.int .i64 k0)) (first|exact HS.out _ hK.drew|assumption|exact HS.out _ ((zj hN k2 _ _ _).2)) (first|(go_at_call 157;refine(KC.out _ hK.drew).mono ?_;rintro e u1 ⟨⟨sv,rfl,hcl⟩,k1⟩;have e0:=HS.out _ (hK.drew.trans k1))|(go_at_call 246;refine(KF.out (qh w) _ _ hK (hD.trans k1) (hcl.from hD)).mono ?_;rintro e u2 ⟨⟨v,rfl,hN⟩,k2⟩;obtain⟨f0,f1,f2,f3⟩:=qI k2;obtain⟨vn,va,vl,vc,vx,rfl⟩:=hN.shape;have e0:=HS.out _ (hK.trans k2)))
 all_goals
  go_wp2
  refine qlu (v:=.agg #[.bool vn,.slice va vl vc,.int .i64 vx]) (by simp[results,Tryz.results300,go_sem,f0,f1,f2]) rfl ?_
  have:=zj hN k2 (.bool vn) (.slice va vl vc) (.int .i64 vx)
  exact⟨⟨_,rfl,this.1⟩,this.2⟩
end Go.Proofs.YtelbefihigkhjaaGreatDoor
namespace Go.Proofs.YtelbefihigkhjaaGreatDoor
open Go.ChangeShapes Go.WideShapes Go.ChangeAt Go.RowKit
set_option maxHeartbeats 16000000
set_option maxRecDepth 100000
set_option linter.unusedVariables false
set_option linter.unusedSimpArgs false
theorem ko {P:Program}{f:FuncId}{fn:Func}(hf:P.funcs[f]?=some fn)(h1:(fn.name=="runtime.NumGoroutine")=false)(h2:fn.body.isNone=false)(caps:Array Value)(w:World):(callFunc f caps).run P w=.ok (.enter f caps) w:=by
 have h3:¬fn.name="runtime.NumGoroutine":=by simpa using h1
 have h4:¬fn.body=none:=by intro h;rw[h]at h2;cases h2
 simp[callFunc,hf,go_sem,h3,h4]
theorem qJ {W w1:World}(H:Nat)(hH:H<W.heap.size)(h:Kept W w1)(c0:W.cell? ⟨H,0,none⟩=some (.bool false))(c1:W.cell? ⟨H,1,none⟩=some (.slice none 0 0))(c2:W.cell? ⟨H,2,none⟩=some (.int .i64 0))(f:∀o,W.frozen? ⟨H,o,none⟩=false):w1.cell? ⟨H,0,none⟩=some (.bool false)∧w1.cell? ⟨H,1,none⟩=some (.slice none 0 0)∧w1.cell? ⟨H,2,none⟩=some (.int .i64 0)∧(∀o,w1.frozen? ⟨H,o,none⟩=false):=
 ⟨(h.below.cell (p:=⟨H,0,none⟩) hH).trans c0,(h.below.cell (p:=⟨H,1,none⟩) hH).trans c1,(h.below.cell (p:=⟨H,2,none⟩) hH).trans c2,fun o=>(h.frozen _).trans (f o)⟩
theorem zi {w W u2:World}{v:Value}{r:Nm}(H:Nat)(hw:w.heap.size≤H)(hH:H<W.heap.size)(h0:Kept w W)(hN:New W u2 v r)(hk:Kept W u2)(a b c:Value):New w (((u2.setCell ⟨H,0,none⟩ a).setCell ⟨H,1,none⟩ b).setCell ⟨H,2,none⟩ c) v r∧Kept w (((u2.setCell ⟨H,0,none⟩ a).setCell ⟨H,1,none⟩ b).setCell ⟨H,2,none⟩ c):=by
 constructor
 ·rcases hN with h|⟨g,cap,e,hg,ho,hne⟩
  ·exact .inl h
  ·exact .inr ⟨g,cap,e,by omega,((ho.setOther (by simp;omega) _).setOther (by simp;omega) _).setOther (by simp;omega) _,hne⟩
 ·exact(h0.trans hk).setCell (by simpa using hw) _|>.setCell (by simpa using hw) _|>.setCell (by simpa using hw) _
abbrev zc:Obj:=.cells #[.bool false,.slice none 0 0,.int .i64 0] 78
end Go.Proofs.YtelbefihigkhjaaGreatDoor
namespace Go.Proofs.YtelbefihigkhjaaGreatDoor
open Go.ChangeShapes Go.WideShapes Go.ChangeAt Go.RowKit
set_option maxHeartbeats 16000000
set_option maxRecDepth 100000
set_option linter.unusedVariables false
set_option linter.unusedSimpArgs false
theorem vS (d:Int):bits .and .i64 d 1=d%2:=by
 have e:(BitVec.ofInt 64 1:BitVec 64).toNat=2^1-1:=by decide
 have h:=qr d
 rw[zm,BitVec.toNat_and,e,Nat.and_two_pow_sub_one_eq_mod,qc]
 omega
theorem qw (neg:Bool)(L:List Int)(x:Int)(hne:L≠[])(h:vld ⟨neg,L,x⟩=true):L.length≤2000∧Dg L∧L.getD (L.length-1) 0≠0∧L.getD 0 0%2=1∧-1048576≤x∧x≤1048576:=by
 unfold vld QO at h
 simp only[hne,if_false,Bool.and_eq_true,qlm,bne_iff_ne,beq_iff_eq,vS]at h
 obtain⟨⟨⟨⟨⟨h1,h2⟩,h3⟩,h4⟩,h5⟩,h6⟩:=h
 exact⟨by omega,(xZ L).1 h2,h3,h4,h5,h6⟩
theorem ja (neg:Bool)(x:Int)(h:vld ⟨neg,[],x⟩=true):neg=false∧x=0:=by
 simpa [vld] using h
theorem jj (neg:Bool)(L:List Int)(x:Int)(h:vld ⟨neg,L,x⟩=true):L.length≤2000∧Dg L:=by
 by_cases hne:L=[]
 ·subst hne;exact⟨by simp,Dg.nil⟩
 ·have:=qw neg L x hne h
  exact⟨this.1,this.2.1⟩
theorem xz (L:List Int)(hL:Dg L)(h:L.getD 0 0%2=1):nv L%2=1:=by
 have h1:=zI L hL 0
 have h2:=hL.getD 0
 rw[Nat.mul_zero,Nat.pow_zero,Nat.div_one]at h1
 omega
theorem Yr (neg b:Bool)(L:List Int)(x y:Int)(hne:L≠[])(h:vld ⟨neg,L,x⟩=true):frm b (nv L) y=if -1048576≤wrap64 y∧wrap64 y≤1048576 then some ⟨b,L,wrap64 y⟩else none:=by
 obtain⟨h1,h2,h3,h4,h5,h6⟩:=qw neg L x hne h
 have ho:=xz L h2 h4
 have hz:=ya _ ho
 have hb:=qN _ _ (qV L h2)
 have hd:=kC L h2 (.inr h3)
 unfold frm
 rw[if_neg (by omega),hz]
 simp only[Nat.pow_zero,Nat.div_one,hd,Int.natCast_zero,Int.add_zero,Nat.sub_zero]
 by_cases hy:-1048576≤wrap64 y∧wrap64 y≤1048576
 ·rw[if_pos hy,if_pos ⟨by omega,hy⟩]
 ·rw[if_neg hy,if_neg (fun hh=>hy hh.2)]
abbrev qj6 (w:World)(v:Array Value):World:=((w.alloc (.cells v 78)).alloc zc).alloc (.cells v 78)
theorem Kc (w:World)(v:Array Value):Kept w (qj6 w v):=(((qlv w).alloc _ _).alloc _ _).alloc _ _
abbrev vE (w:World)(v:Array Value)(k:Int):World:=(((w.alloc (.cells v 78)).alloc (.cells #[.int .i64 k] 3)).alloc zc).alloc (.cells v 78)
theorem JW (w:World)(v:Array Value)(k:Int):Kept w (vE w v k):=((((qlv w).alloc _ _).alloc _ _).alloc _ _).alloc _ _
theorem yS {W:World}(b:Nat)(hb:b<W.heap.size)(neg:Bool)(L:List Int)(hR:Rg L)(hlen:L.length<100000000)(ao:Option Addr)(cap:Nat)(x:Int)(h:Sl W (.slice ao L.length cap) L)(c0:W.cell? ⟨b,0,none⟩=some (.bool neg))(c1:W.cell? ⟨b,1,none⟩=some (.slice ao L.length cap))(c2:W.cell? ⟨b,2,none⟩=some (.int .i64 x))(g:Bool)(hg:vld ⟨neg,L,x⟩=g):
  Hid (∀w',Kept W w'→Calls Tryz.prog 282 #[.slice (some ⟨b,0,none⟩) 1 1] w' fun e w''=>e=.returned (.bool g)∧Kept w' w''):=fun w' k=>by
 subst hg
 refine Vj w' b 1 neg ao L.length cap x _ (qlf hb k.below.size) ((k.below.cell (p:=⟨b,0,none⟩) hb).trans c0) ((k.below.cell (p:=⟨b,1,none⟩) hb).trans c1) ((k.below.cell (p:=⟨b,2,none⟩) hb).trans c2) (fun u ku=>?_)
 exact zh ⟨neg,L,x⟩ hR hlen _ u ⟨_,rfl,(h.kept k).kept ku⟩
theorem qb8 (neg:Bool)(L:List Int)(hR:Rg L)(hlen:L.length<60000000)(ao:Option Addr)(cap:Nat)(hcap:ao=none→cap=0)(x:Int)(k0 y:Int)(hy:IntKind.i64.wrap (x+k0)=y)(hy2:wrap64 (x+k0)=y)(hv:vld ⟨neg,L,x⟩=true)(r:Nm)(hf:frm (neg) (nv L) y=some r)(w:World)(h:Sl w (.slice ao L.length cap) L)(hT:Tab w):Calls Tryz.prog 252 #[.agg #[.bool neg,.slice ao L.length cap,.int .i64 x],.int .i64 k0] w fun e w'=>∃v,e=.returned (.tuple #[v,.int .i64 0])∧New w w' v r∧Kept w w':=by
 have hW:Kept w (vE w #[.bool neg,.slice ao L.length cap,.int .i64 x] k0):=by first|exact Kc _ _|exact JW _ _ _
 have KV:=yS (W:=vE w #[.bool neg,.slice ao L.length cap,.int .i64 x] k0) (w.heap.size+3) (by simp) neg L hR (by omega) ao cap x (h.kept hW) (by simp[go_sem]) (by simp[go_sem]) (by simp[go_sem]) _ hv
 have KT:Hid (Calls Tryz.prog 248 #[.func (.func 300) #[] #[.pointer (some ⟨w.heap.size,0,none⟩),.pointer (some ⟨w.heap.size+1,0,none⟩)],.slice (some ⟨w.heap.size+3,0,none⟩) 1 1] (vE w #[.bool neg,.slice ao L.length cap,.int .i64 x] k0) fun e w'=>∃v,e=.returned (.tuple #[v,.int .i64 0])∧New (vE w #[.bool neg,.slice ao L.length cap,.int .i64 x] k0) w' v r∧Kept (vE w #[.bool neg,.slice ao L.length cap,.int .i64 x] k0) w'):=by
  refine kA 300 _ (fun w=>ko Tryz.func300 (by kernel_rfl) (by kernel_rfl) _ w) _ r _ KV (fun u k=>?_)
  have hs:=k.below.size
  simp only[qj6,vE,World.size_alloc]at hs
  have hd:=jj _ _ _ hv
  exact JV neg x k0 y hy hy2 L hd.2 hlen ao cap hcap r hf _ _ u (by omega) (by omega) ((h.kept hW).kept k) ((hT.kept hW).kept k) ((k.below.cell (p:=⟨w.heap.size,0,none⟩) (by simp<;>omega)).trans (by simp[go_sem])) ((k.below.cell (p:=⟨w.heap.size,1,none⟩) (by simp<;>omega)).trans (by simp[go_sem])) ((k.below.cell (p:=⟨w.heap.size,2,none⟩) (by simp<;>omega)).trans (by simp[go_sem])) ((k.below.cell (p:=⟨w.heap.size+1,0,none⟩) (by simp<;>omega)).trans (by simp[go_sem]))
 have hmf:∀(fn:Fn) (first cap:Array Value) (w:World),(Instr.makeFunc fn first cap).run Tryz.prog w=.ok (.func fn first cap) w:=fun _ _ _ _=>rfl
 clear h hT hv hR hlen KV hf
 generalize L.length=n at *
 go_enter Tryz.func252,Tryz.ntmps252
 go_wp2_with (first|(go_at_call 248;refine KT.out.mono ?_;rintro e w1 ⟨v,rfl,hN,hk1⟩;obtain⟨vn,va,vl,vc,vx,rfl⟩:=hN.shape;obtain⟨f0,f1,f2,f3⟩:=qJ (w.heap.size+2) (by simp<;>omega) hk1 (by simp[go_sem]) (by simp[go_sem]) (by simp[go_sem]) (fun o=>by simp[go_sem])))
 have:=zi (w.heap.size+2) (by omega) (by simp<;>omega) hW hN hk1 (.bool vn) (.slice va vl vc) (.int .i64 vx)
 refine qlu (v:=.tuple #[.agg #[.bool vn,.slice va vl vc,.int .i64 vx],.int .i64 0]) (by simp[results,Tryz.results252,go_sem,f0,f1,f2]) rfl ⟨_,rfl,this.1,this.2⟩
end Go.Proofs.YtelbefihigkhjaaGreatDoor

namespace Go.Proofs.YtelbefihigkhjaaGreatDoor
open Go.ChangeShapes Go.WideShapes Go.ChangeAt Go.RowKit
set_option maxHeartbeats 16000000
set_option maxRecDepth 100000
set_option linter.unusedVariables false
set_option linter.unusedSimpArgs false
end Go.Proofs.YtelbefihigkhjaaGreatDoor
