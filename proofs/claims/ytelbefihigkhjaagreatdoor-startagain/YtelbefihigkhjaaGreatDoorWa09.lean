/- The walk of exact's told: what is reckoned,or it gives up. The walks of slices.Clone and of the closures that clone and form. -/
import Derived.Test.YtelbefihigkhjaaGreatDoorWa08
import Derived.Defers
import Derived.Recover
import Derived.OwnWalk
import Derived.Laws.Cover3
import Derived.Laws.OwnMore
import Derived.Laws.AppendOwn
namespace Go.Proofs.YtelbefihigkhjaaGreatDoor
open Go.ChangeShapes Go.WideShapes Go.ChangeAt Go.RowKit
set_option maxHeartbeats 16000000
set_option maxRecDepth 100000
set_option linter.unusedVariables false
theorem catch_idle (p q : Addr) (w : World) : CallsD Tryz.prog 297 #[.pointer (some p),.pointer (some q)] .returning w fun e u' w' => e = .returned (.tuple #[]) ∧ u' = .returning ∧ w' = w:=by
 refine callsD_of_wpS Tryz.func297 rfl fun c₀ cs hu => ?_
 apply wpS_seq
 apply wpS_region
 simp [wpOpsS,go_sem,recoverD,hu,Tryz.ntmps297,Exit.thenS]
 refine wpS_cond (t:=false) (by simp [Act.eval,Array.replicate]) ?_
 simp only [Bool.false_eq_true,if_false]
 refine wpS_of_wp (wp_skip ?_)
 cases c₀
 simp_all [bodyPostS,results,Tryz.results297]
abbrev toldW (w : World) : World:=(w.alloc (.cells #[.bool false,.slice none 0 0,.int .i64 0] 78)).alloc (.cells #[.int .i64 0] 29)
theorem told_cells {w w1 : World} (h : Kept (toldW w) w1) : w1.cell? ⟨w.heap.size,0,none⟩ = some (.bool false) ∧ w1.cell? ⟨w.heap.size,1,none⟩ = some (.slice none 0 0) ∧ w1.cell? ⟨w.heap.size,2,none⟩ = some (.int .i64 0) ∧ w1.cell? ⟨w.heap.size + 1,0,none⟩ = some (.int .i64 0) ∧ (∀ o,w1.frozen? ⟨w.heap.size,o,none⟩ = false) ∧ w1.frozen? ⟨w.heap.size + 1,0,none⟩ = false :=
 ⟨(h.below.cell (p:=⟨w.heap.size,0,none⟩) (by simp; omega)).trans (by simp [go_sem]),(h.below.cell (p:=⟨w.heap.size,1,none⟩) (by simp; omega)).trans (by simp [go_sem]),(h.below.cell (p:=⟨w.heap.size,2,none⟩) (by simp; omega)).trans (by simp [go_sem]),(h.below.cell (p:=⟨w.heap.size + 1,0,none⟩) (by simp)).trans (by simp [go_sem]),fun o => (h.frozen _).trans (by simp [go_sem]),(h.frozen _).trans (by simp [go_sem])⟩
theorem toldW_kept (w : World) : Kept w (toldW w):=((Kept.refl w).alloc _ _).alloc _ _
theorem told_ok (K : Nat) (caps : Array Value) (hcall : ∀ w,(callFunc K caps).run Tryz.prog w = .ok (.enter K caps) w) (given : Value) (r : Nm) (w : World)
  (KV : Hid (∀ w',Kept w w' → Calls Tryz.prog 282 #[given] w' fun e w'' => e = .returned (.bool true) ∧ Kept w' w''))
  (KR : Hid (∀ w',Kept w w' → Calls Tryz.prog K caps w' fun e w'' => (∃ v,e = .returned v ∧ New w' w'' v r) ∧ Kept w' w'')) :
  Calls Tryz.prog 248 #[.func (.func K) #[] caps,given] w fun e w' => ∃ v,e = .returned (.tuple #[v,.int .i64 0]) ∧ New w w' v r ∧ Kept w w':=by
 have hK:=toldW_kept w
 have hmf : ∀ (fn : Fn) (first cap : Array Value) (w : World),(Instr.makeFunc fn first cap).run Tryz.prog w = .ok (.func fn first cap) w:=fun _ _ _ _ => rfl
 go_enter_defers Tryz.func248,Tryz.ntmps248
 go_wp2_with (first | (go_at_call 282; refine (KV.out _ hK).mono ?_; rintro e w1 ⟨rfl,hk1⟩; obtain ⟨c0,c1,c2,c3,f0,f1⟩:=told_cells hk1))
 refine (KR.out _ (hK.trans hk1)).mono ?_
 rintro e w2 ⟨⟨v,rfl,hN⟩,hk2⟩
 obtain ⟨d0,d1,d2,d3,g0,g1⟩:=told_cells (hk1.trans hk2)
 clear c0 c1 c2 c3 f0 f1
 have HN : Hid (New w1 w2 v r):=hN
 obtain ⟨n,ao,l,c,x,rfl⟩ : ∃ n ao l c x,v = .agg #[.bool n,.slice ao l c,.int .i64 x]:=by
  rcases hN with ⟨-,rfl⟩ | ⟨g,cap,rfl,-⟩
  ·exact ⟨_,_,_,_,_,rfl⟩
  ·exact ⟨_,_,_,_,_,rfl⟩
 clear hN
 go_wp2
 refine leaves_cons (f:=297) (args:=#[.pointer (some ⟨w.heap.size,0,none⟩),.pointer (some ⟨w.heap.size + 1,0,none⟩)]) (by simp) (by simp [go_sem]) ?_
 refine (catch_idle ⟨w.heap.size,0,none⟩ ⟨w.heap.size + 1,0,none⟩ _).mono ?_
 rintro e u' w'' ⟨rfl,rfl,rfl⟩
 simp only [Leaves,settle]
 refine ⟨_,(by simp [results,Tryz.results248,go_sem,d0,d1,d2,d3]; rfl),_,rfl,?_,?_⟩
 ·have hsz : w.heap.size + 2 ≤ w1.heap.size:=by have:=hk1.below.size; simpa using this
  have hn:=HN.out
  rcases hn with h | ⟨g,cap,e,hg,ho,hne⟩
  ·exact .inl h
  ·exact .inr ⟨g,cap,e,by omega,(((ho.setOther (by simp; omega) _).setOther (by simp; omega) _).setOther (by simp; omega) _).setOther (by simp; omega) _,hne⟩
 ·exact ((hK.trans hk1).trans hk2).setCell (by simp) _ |>.setCell (by simp) _ |>.setCell (by simp) _ |>.setCell (by simp) _
end Go.Proofs.YtelbefihigkhjaaGreatDoor
namespace Go.Proofs.YtelbefihigkhjaaGreatDoor
open Go.ChangeShapes Go.WideShapes Go.ChangeAt Go.RowKit
set_option maxHeartbeats 16000000
set_option maxRecDepth 100000
set_option linter.unusedVariables false
theorem wpList_append_run {P : Program} {w : World} {ops : Array Oper} {rest : List Oper} {o : Oper} {a : Act} {Q : Exit → Act → World → Prop} (hgd : o.guard = none) (s x : Operand) (t : TypeId)
  (ho : o.op = .call { callee:=.builtin .append,args:=#[s,x],argTypes:=#[t,t] }) (v xv : Value) (hs : a.eval s = v) (hx : a.eval x = xv) (v' : Value) (w' : World)
  (hr : (Builtin.append_ #[t,t] o.type #[v,xv]).run P w = .ok v' w') (h : wpList P ops Q rest (a.put o.dst v') w') : wpList P ops Q (o :: rest) a w:=by
 refine wpList_plain hgd fun K hK => ?_
 unfold Oper.wp execOp
 simp only [ho,resolve,invoke,builtin,Sem.run_bind,Sem.run_pure,Result.andThen_ok,List.map_toArray,List.map_cons,List.map_nil,hs,hx,hr]
 exact hK _ _ h
theorem int_info : (Tryz.prog.info? 3).map (fun i => (i.zero,i.size,i.bytes)) = some (some (.int .i64 0),1,8):=by kernel_rfl
theorem li_under : Tryz.prog.underlying 26 = some (.slice 3):=by kernel_rfl
theorem eql_nil (w : World) (a : Option Addr) (n c : Nat): (binOp .eql 26 (.slice a n c) (.slice none 0 0)).run Tryz.prog w = .ok (.bool a.isNone) w:=by
 simp only [binOp]
 simp [run_equal_slice_nil w _ _ a n c li_under]
def Cl (w0 w : World) (sv : Value) (L : List Int) : Prop :=
 (L = [] ∧ ∃ ao cap,sv = .slice ao 0 cap) ∨ ∃ g cap,sv = .slice (some ⟨g,0,none⟩) L.length cap ∧ w0.heap.size ≤ g ∧ Own w g cap L
theorem own_grown (w : World) (L : List Int) (cap : Nat) (h1 : L.length ≤ cap) (h2 : cap ≤ maxLen) : Own (w.alloc (.cells ((L.map (Value.int .i64)).toArray ++ Builtin.zeroCells (Value.int .i64 0).cells (cap - L.length)) 3)) w.heap.size cap L:=by
 refine ⟨_,heap_alloc_new w _,h1,h2,?_,?_⟩
 ·simp [size_zeroCells,Value.cells]; omega
 ·simp
theorem clone_none (w : World) : Calls Tryz.prog 157 #[.slice none 0 0] w fun e w' => e = .returned (.slice none 0 0) ∧ w = w':=by
 have hnil:=eql_nil
 go_enter Tryz.func157,Tryz.ntmps157
 go_wp2
 go_ret
 exact ⟨rfl,rfl⟩
theorem clone_some (L : List Int) (hne : L ≠ []) (hlen : L.length < 100000000) (b off cap : Nat) (w : World) (hb : b < w.heap.size) (hr : Reads w b off L) : Calls Tryz.prog 157 #[.slice (some ⟨b,off,none⟩) L.length cap] w fun e w' => (∃ g cap,e = .returned (.slice (some ⟨g,0,none⟩) L.length cap) ∧ w.heap.size ≤ g ∧ Own w' g cap L) ∧ Kept w w':=by
 obtain ⟨i,hi,hz,hs,hby⟩:=info_parts (int_info)
 have hpos:=List.length_pos_iff.2 hne
 have hr2:=hr.kept hb ((Kept.refl w).alloc #[] 3)
 have HA : Hid (∀ ty,(Builtin.append_ #[26,26] ty #[.slice (some ⟨w.heap.size,0,none⟩) 0 0,.slice (some ⟨b,off,none⟩) L.length cap]).run Tryz.prog (w.alloc (.cells #[] 3)) = .ok (.slice (some ⟨w.heap.size + 1,0,none⟩) L.length (grownCap (w.alloc (.cells #[] 3)) L.length 0 3)) ((w.alloc (.cells #[] 3)).drew.alloc (.cells ((L.map (Value.int .i64)).toArray ++ Builtin.zeroCells (Value.int .i64 0).cells (grownCap (w.alloc (.cells #[] 3)) L.length 0 3 - L.length)) 3))):=by
  intro ty
  have:=run_append_grow (P:=Tryz.prog) (w.alloc (.cells #[] 3)) 26 ty 3 i (.int .i64 0) li_under hi hz ⟨w.heap.size,0,none⟩ 0 0 [] (by simp) (by simp) ⟨b,off,none⟩ L.length cap (L.map (Value.int .i64)) (by simp [hs]) (fun j v hj => by
   rw [List.getElem?_map] at hj
   by_cases hjl : j < L.length
   ·rw [List.getElem?_eq_getElem hjl] at hj
    cases hj
    have:=hr2 j hjl
    rw [List.getD_eq_getElem?_getD,List.getElem?_eq_getElem hjl] at this
    rw [Addr.add_lit]
    simpa using this
   ·rw [List.getElem?_eq_none (by omega)] at hj
    cases hj) (by omega) (by omega) (growslice_fits (by omega) (by rw [hby]; omega))
  simpa [hs] using this
 clear hr2 hi hz hs hby
 have hnil:=eql_nil
 go_enter Tryz.func157,Tryz.ntmps157
 go_wp2_with (first | (at_builtin; refine wpList_append_run rfl _ _ _ rfl _ _ rfl rfl _ _ (HA.out _) ?_))
 go_ret
 refine ⟨⟨_,_,rfl,by simp,?_⟩,(((Kept.refl w).alloc #[] 3).drew.alloc _ _)⟩
 have:=own_grown (w.alloc (.cells #[] 3)).drew L (grownCap (w.alloc (.cells #[] 3)) L.length 0 3) (grownCap_ge _ _ _ _) (grownCap_le_maxLen _ _ _ _ (by simp [maxLen]; omega))
 rw [show (w.alloc (.cells #[] 3)).drew.heap.size = w.heap.size + 1 by simp] at this
 exact this
theorem clone_empty (a : Addr) (cap : Nat) (w : World) : Calls Tryz.prog 157 #[.slice (some a) 0 cap] w fun e w' => (∃ ao c,e = .returned (.slice ao 0 c)) ∧ Kept w w':=by
 obtain ⟨i,hi,hz,hs,hby⟩:=info_parts (int_info)
 have HA : Hid (∀ ty,(Builtin.append_ #[26,26] ty #[.slice (some ⟨w.heap.size,0,none⟩) 0 0,.slice (some a) 0 cap]).run Tryz.prog (w.alloc (.cells #[] 3)) = .ok (.slice (some ⟨w.heap.size,0,none⟩) 0 0) ((w.alloc (.cells #[] 3)).setRow w.heap.size #[])):=by
  intro ty
  have:=run_append_room (P:=Tryz.prog) (w.alloc (.cells #[] 3)) 26 ty 3 i li_under hi w.heap.size 0 0 #[] (heap_alloc_new w _) a 0 cap [] (by simp) (by simp) (by simp) (by simp) (by simp)
  simpa [hs] using this
 clear hi hz hs hby
 have hnil:=eql_nil
 go_enter Tryz.func157,Tryz.ntmps157
 go_wp2_with (first | (at_builtin; refine wpList_append_run rfl _ _ _ rfl _ _ rfl rfl _ _ (HA.out _) ?_))
 go_ret
 refine ⟨⟨_,_,rfl⟩,⟨⟨rfl,rfl,rfl,by simp,fun k hk => (setRow_other _ _ _ _ (by omega)).trans (Below.heap_alloc w _ k hk)⟩,fun x => ?_⟩⟩
 have h:=frozen?_alloc_cells w #[] 3 x
 by_cases hx : x.block = w.heap.size
 ·have h1:=setRow_heap (w.alloc (.cells #[] 3)) w.heap.size #[] #[] 3 (0,0) (heap_alloc_new w _)
  have h2:=heap_alloc_new w (.cells #[] 3)
  rw [← h]
  unfold World.frozen?
  rw [hx,h1,h2]
 ·rw [← h]; exact World.frozen?_of_block (setRow_other _ _ _ _ hx)
theorem Cl.kept {w0 w w' : World} {sv : Value} {L : List Int} (h : Cl w0 w sv L) (k : Kept w w') : Cl w0 w' sv L:=by
 rcases h with h | ⟨g,cap,e,hg,ho⟩
 ·exact .inl h
 ·exact .inr ⟨g,cap,e,hg,ho.kept k⟩
theorem clone_any (L : List Int) (hlen : L.length < 100000000) (ao : Option Addr) (cap : Nat) (hcap : ao = none → cap = 0) (w : World) (h : Sl w (.slice ao L.length cap) L) : Calls Tryz.prog 157 #[.slice ao L.length cap] w fun e w' => (∃ sv,e = .returned sv ∧ Cl w w' sv L) ∧ Kept w w':=by
 obtain ⟨ao',cap',e,hc,hm,hr⟩:=h
 cases e
 by_cases hne : L = []
 ·subst hne
  cases ao with
  | none =>
   obtain rfl:=hcap rfl
   refine (clone_none w).mono ?_
   rintro e w' ⟨rfl,rfl⟩
   exact ⟨⟨_,rfl,.inl ⟨rfl,_,_,rfl⟩⟩,Kept.refl _⟩
  | some a =>
   refine (clone_empty a cap w).mono ?_
   rintro e w' ⟨⟨ao,c,rfl⟩,k⟩
   exact ⟨⟨_,rfl,.inl ⟨rfl,_,_,rfl⟩⟩,k⟩
 ·obtain ⟨b,off,rfl,hb,hr⟩:=hr hne
  refine (clone_some L hne hlen b off cap w hb hr).mono ?_
  rintro e w' ⟨⟨g,c,rfl,hg,ho⟩,k⟩
  exact ⟨⟨_,rfl,.inr ⟨g,c,rfl,hg,ho⟩⟩,k⟩
theorem form_cl_ok (neg : Bool) (L : List Int) (hL : Dg L) (hlen : L.length < 60000000) (sv : Value) (x : Int) (w0 w : World) (hk : Kept w0 w) (h : Cl w0 w sv L) (hT : Tab w) (r : Nm) (hf : frm neg (nv L) x = some r) : Calls Tryz.prog 246 #[.bool neg,sv,.int .i64 x] w fun e w' => (∃ v,e = .returned v ∧ New w0 w' v r) ∧ Kept w0 w':=by
 rcases h with ⟨rfl,ao,cap,rfl⟩ | ⟨g,cap,rfl,hg,ho⟩
 ·simp only [nv,frm,if_true] at hf
  cases hf
  refine (form_nil neg ao cap x w).mono ?_
  rintro e w' ⟨rfl,k⟩
  exact ⟨⟨_,rfl,.inl ⟨rfl,rfl⟩⟩,hk.trans k⟩
 ·exact form_ok neg L hL hlen g cap x w0 w hk hg ho hT r hf
abbrev numW (w : World) : World:=w.alloc (.cells #[.bool false,.slice none 0 0,.int .i64 0] 78)
theorem num_cells {w w1 : World} (h : Kept (numW w) w1) : w1.cell? ⟨w.heap.size,0,none⟩ = some (.bool false) ∧ w1.cell? ⟨w.heap.size,1,none⟩ = some (.slice none 0 0) ∧ w1.cell? ⟨w.heap.size,2,none⟩ = some (.int .i64 0) ∧ (∀ o,w1.frozen? ⟨w.heap.size,o,none⟩ = false) :=
 ⟨(h.below.cell (p:=⟨w.heap.size,0,none⟩) (by simp)).trans (by simp [go_sem]),(h.below.cell (p:=⟨w.heap.size,1,none⟩) (by simp)).trans (by simp [go_sem]),(h.below.cell (p:=⟨w.heap.size,2,none⟩) (by simp)).trans (by simp [go_sem]),fun o => (h.frozen _).trans (by simp [go_sem])⟩
theorem num_done {w u2 : World} {v : Value} {r : Nm} (hN : New (numW w) u2 v r) (hk : Kept (numW w) u2) (a b c : Value) : New w (((u2.setCell ⟨w.heap.size,0,none⟩ a).setCell ⟨w.heap.size,1,none⟩ b).setCell ⟨w.heap.size,2,none⟩ c) v r ∧ Kept w (((u2.setCell ⟨w.heap.size,0,none⟩ a).setCell ⟨w.heap.size,1,none⟩ b).setCell ⟨w.heap.size,2,none⟩ c):=by
 have hK : Kept w (numW w):=(Kept.refl w).alloc _ _
 constructor
 ·rcases hN with h | ⟨g,cap,e,hg,ho,hne⟩
  ·exact .inl h
  ·have hsz : w.heap.size + 1 ≤ g:=by simpa using hg
   exact .inr ⟨g,cap,e,by omega,((ho.setOther (by simp; omega) _).setOther (by simp; omega) _).setOther (by simp; omega) _,hne⟩
 ·exact (hK.trans hk).setCell (by simp) _ |>.setCell (by simp) _ |>.setCell (by simp) _
theorem New.shape {w0 w : World} {v : Value} {r : Nm} (h : New w0 w v r) : ∃ n ao l c x,v = .agg #[.bool n,.slice ao l c,.int .i64 x]:=by
 rcases h with ⟨-,rfl⟩ | ⟨g,cap,rfl,-⟩
 ·exact ⟨_,_,_,_,_,rfl⟩
 ·exact ⟨_,_,_,_,_,rfl⟩
theorem Cl.from {w0 w1 w : World} {sv : Value} {L : List Int} (h : Cl w1 w sv L) (k : Kept w0 w1) : Cl w0 w sv L:=by
 rcases h with h | ⟨g,cap,e,hg,ho⟩
 ·exact .inl h
 ·exact .inr ⟨g,cap,e,Nat.le_trans k.below.size hg,ho⟩
end Go.Proofs.YtelbefihigkhjaaGreatDoor
