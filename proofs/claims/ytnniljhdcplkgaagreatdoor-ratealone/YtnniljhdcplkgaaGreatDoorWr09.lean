/- The walk of exact's told: what is reckoned,or it gives up. The walks of slices.Clone and of the closures that clone and form. -/
import Derived.Test.YtnniljhdcplkgaaGreatDoorWr08
import Derived.Defers
import Derived.Recover
import Derived.OwnWalk
import Derived.Laws.Cover3
import Derived.Laws.OwnMore
import Derived.Laws.AppendOwn
namespace Go.Proofs.YtnniljhdcplkgaaGreatDoor
open Go.ChangeShapes Go.WideShapes Go.ChangeAt Go.RowKit
set_option maxHeartbeats 16000000
set_option maxRecDepth 100000
set_option linter.unusedVariables false
theorem catch_idle (p q : Addr) (w : World) : CallsD Tryz.prog 135 #[.pointer (some p),.pointer (some q)] .returning w fun e u' w' => e = .returned (.tuple #[]) ∧ u' = .returning ∧ w' = w:=by
 refine callsD_of_wpS Tryz.func135 rfl fun c₀ cs hu => ?_
 apply wpS_seq
 apply wpS_region
 simp [wpOpsS,go_sem,recoverD,hu,Tryz.ntmps135,Exit.thenS]
 refine wpS_cond (t:=false) (by simp [Act.eval,Array.replicate]) ?_
 simp only [Bool.false_eq_true,if_false]
 refine wpS_of_wp (wp_skip ?_)
 cases c₀
 simp_all [bodyPostS,results,Tryz.results135]
theorem catch_up (P B : Nat) (n : Bool) (ao : Option Addr) (l c : Nat) (x y : Int) (u : TypeId) (pv : Value) (older : List PanicEntry) (w : World)
  (c0 : w.cell? ⟨P,0,none⟩ = some (.bool n)) (c1 : w.cell? ⟨P,1,none⟩ = some (.slice ao l c)) (c2 : w.cell? ⟨P,2,none⟩ = some (.int .i64 x)) (c3 : w.cell? ⟨B,0,none⟩ = some (.int .i64 y)) (hz : ∀ o,w.frozen? ⟨P,o,none⟩ = false) (hz2 : w.frozen? ⟨B,0,none⟩ = false) (hne : P ≠ B) :
  CallsD Tryz.prog 135 #[.pointer (some ⟨P,0,none⟩),.pointer (some ⟨B,0,none⟩)] (.panicking ({ v:=.iface u pv,recovered:=false } :: older)) w fun e u' w' =>
   e = .returned (.tuple #[]) ∧ u' = .panicking ({ v:=.iface u pv,recovered:=true } :: older) ∧ w' = (((w.setCell ⟨P,0,none⟩ (.bool false)).setCell ⟨P,1,none⟩ (.slice none 0 0)).setCell ⟨P,2,none⟩ (.int .i64 0)).setCell ⟨B,0,none⟩ (.int .i64 2):=by
 refine callsD_of_wpS Tryz.func135 rfl fun c₀ cs hu => ?_
 apply wpS_seq
 apply wpS_region
 simp [wpOpsS,go_sem,recoverD,hu,Tryz.ntmps135,Exit.thenS]
 refine wpS_cond (t:=true) (by simp [Act.eval,Array.replicate]) ?_
 simp only [if_true]
 apply wpS_region
 simp [wpOpsS,go_sem,c0,c1,c2,c3,hz,hz2,bodyPostS,results,Tryz.results135]
abbrev toldW (w : World) : World:=(w.alloc (.cells #[.bool false,.slice none 0 0,.int .i64 0] 43)).alloc (.cells #[.int .i64 0] 26)
theorem told_cells {w w1 : World} (h : Kept (toldW w) w1) : w1.cell? ⟨w.heap.size,0,none⟩ = some (.bool false) ∧ w1.cell? ⟨w.heap.size,1,none⟩ = some (.slice none 0 0) ∧ w1.cell? ⟨w.heap.size,2,none⟩ = some (.int .i64 0) ∧ w1.cell? ⟨w.heap.size + 1,0,none⟩ = some (.int .i64 0) ∧ (∀ o,w1.frozen? ⟨w.heap.size,o,none⟩ = false) ∧ w1.frozen? ⟨w.heap.size + 1,0,none⟩ = false :=
 ⟨(h.below.cell (p:=⟨w.heap.size,0,none⟩) (by simp; omega)).trans (by simp [go_sem]),(h.below.cell (p:=⟨w.heap.size,1,none⟩) (by simp; omega)).trans (by simp [go_sem]),(h.below.cell (p:=⟨w.heap.size,2,none⟩) (by simp; omega)).trans (by simp [go_sem]),(h.below.cell (p:=⟨w.heap.size + 1,0,none⟩) (by simp)).trans (by simp [go_sem]),fun o => (h.frozen _).trans (by simp [go_sem]),(h.frozen _).trans (by simp [go_sem])⟩
theorem toldW_kept (w : World) : Kept w (toldW w):=((Kept.refl w).alloc _ _).alloc _ _
theorem told_ok (K : Nat) (caps : Array Value) (hcall : ∀ w,(callFunc K caps).run Tryz.prog w = .ok (.enter K caps) w) (given : Value) (r : Nm) (w : World)
  (KV : Hid (∀ w',Kept w w' → Calls Tryz.prog 124 #[given] w' fun e w'' => e = .returned (.bool true) ∧ Kept w' w''))
  (KR : Hid (∀ w',Kept w w' → Calls Tryz.prog K caps w' fun e w'' => (∃ v,e = .returned v ∧ New w' w'' v r) ∧ Kept w' w'')) :
  Calls Tryz.prog 106 #[.func (.func K) #[] caps,given] w fun e w' => ∃ v,e = .returned (.tuple #[v,.int .i64 0]) ∧ New w w' v r ∧ Kept w w':=by
 have hK:=toldW_kept w
 have hmf : ∀ (fn : Fn) (first cap : Array Value) (w : World),(Instr.makeFunc fn first cap).run Tryz.prog w = .ok (.func fn first cap) w:=fun _ _ _ _ => rfl
 go_enter_defers Tryz.func106,Tryz.ntmps106
 go_wp2_with (first | (go_at_call 124; refine (KV.out _ hK).mono ?_; rintro e w1 ⟨rfl,hk1⟩; obtain ⟨c0,c1,c2,c3,f0,f1⟩:=told_cells hk1))
 refine (KR.out _ (hK.trans hk1)).mono ?_
 rintro e w2 ⟨⟨v,rfl,hN⟩,hk2⟩
 obtain ⟨d0,d1,d2,d3,g0,g1⟩:=told_cells (hk1.trans hk2)
 clear c0 c1 c2 c3 f0 f1
 have HN : Hid (New w1 w2 v r):=hN
 obtain ⟨n,ao,l,c,x,rfl⟩ : ∃ n ao l c x,v = .agg #[.bool n,.slice ao l c,.int .i64 x]:=by
  rcases hN with ⟨-,rfl⟩ | ⟨g,cap,rfl,-⟩
  ·exact ⟨_,_,_,_,_,rfl⟩
  ·exact ⟨_,_,_,_,_,rfl⟩
 clear hN
 go_wp2
 refine leaves_cons (f:=135) (args:=#[.pointer (some ⟨w.heap.size,0,none⟩),.pointer (some ⟨w.heap.size + 1,0,none⟩)]) (by simp) (by simp [go_sem]) ?_
 refine (catch_idle ⟨w.heap.size,0,none⟩ ⟨w.heap.size + 1,0,none⟩ _).mono ?_
 rintro e u' w'' ⟨rfl,rfl,rfl⟩
 simp only [Leaves,settle]
 refine ⟨_,(by simp [results,Tryz.results106,go_sem,d0,d1,d2,d3]; rfl),_,rfl,?_,?_⟩
 ·have hsz : w.heap.size + 2 ≤ w1.heap.size:=by have:=hk1.below.size; simpa using this
  have hn:=HN.out
  rcases hn with h | ⟨g,cap,e,hg,ho,hne⟩
  ·exact .inl h
  ·exact .inr ⟨g,cap,e,by omega,(((ho.setOther (by simp; omega) _).setOther (by simp; omega) _).setOther (by simp; omega) _).setOther (by simp; omega) _,hne⟩
 ·exact ((hK.trans hk1).trans hk2).setCell (by simp) _ |>.setCell (by simp) _ |>.setCell (by simp) _ |>.setCell (by simp) _
theorem told_no (K : Nat) (caps : Array Value) (hcall : ∀ w,(callFunc K caps).run Tryz.prog w = .ok (.enter K caps) w) (given : Value) (w : World)
  (KV : Hid (∀ w',Kept w w' → Calls Tryz.prog 124 #[given] w' fun e w'' => e = .returned (.bool true) ∧ Kept w' w''))
  (KR : Hid (∀ w',Kept w w' → Calls Tryz.prog K caps w' fun e w'' => e = .panicked gaveUp ∧ Kept w' w'')) :
  Calls Tryz.prog 106 #[.func (.func K) #[] caps,given] w fun e w' => e = .returned (.tuple #[zeroNum,.int .i64 2]) ∧ Kept w w':=by
 have hK:=toldW_kept w
 have hmf : ∀ (fn : Fn) (first cap : Array Value) (w : World),(Instr.makeFunc fn first cap).run Tryz.prog w = .ok (.func fn first cap) w:=fun _ _ _ _ => rfl
 go_enter_defers Tryz.func106,Tryz.ntmps106
 go_wp2_with (first | (go_at_call 124; refine (KV.out _ hK).mono ?_; rintro e w1 ⟨rfl,hk1⟩; obtain ⟨c0,c1,c2,c3,f0,f1⟩:=told_cells hk1))
 refine (KR.out _ (hK.trans hk1)).mono ?_
 rintro e w2 ⟨rfl,hk2⟩
 obtain ⟨d0,d1,d2,d3,g0,g1⟩:=told_cells (hk1.trans hk2)
 clear c0 c1 c2 c3 f0 f1
 go_wp2
 refine leaves_cons (f:=135) (args:=#[.pointer (some ⟨w.heap.size,0,none⟩),.pointer (some ⟨w.heap.size + 1,0,none⟩)]) (by simp) (by simp [go_sem]) ?_
 refine (catch_up _ _ _ _ _ _ _ _ _ _ [] _ d0 d1 d2 d3 g0 g1 (by omega)).mono ?_
 rintro e u' w'' ⟨rfl,rfl,rfl⟩
 simp only [settle,List.dropWhile_nil,Leaves]
 refine ⟨_,(by simp [results,Tryz.results106,go_sem,d0,d1,d2,d3]),rfl,?_⟩
 exact ((hK.trans hk1).trans hk2).setCell (by simp) _ |>.setCell (by simp) _ |>.setCell (by simp) _ |>.setCell (by simp) _
end Go.Proofs.YtnniljhdcplkgaaGreatDoor
namespace Go.Proofs.YtnniljhdcplkgaaGreatDoor
open Go.ChangeShapes Go.WideShapes Go.ChangeAt Go.RowKit
set_option maxHeartbeats 16000000
set_option maxRecDepth 100000
set_option linter.unusedVariables false
theorem wpList_append_run {P : Program} {w : World} {ops : Array Oper} {rest : List Oper} {o : Oper} {a : Act} {Q : Exit → Act → World → Prop} (hgd : o.guard = none) (s x : Operand) (t : TypeId)
  (ho : o.op = .call { callee:=.builtin .append,args:=#[s,x],argTypes:=#[t,t] }) (v xv : Value) (hs : a.eval s = v) (hx : a.eval x = xv) (v' : Value) (w' : World)
  (hr : (Builtin.append_ #[t,t] o.type #[v,xv]).run P w = .ok v' w') (h : wpList P ops Q rest (a.put o.dst v') w') : wpList P ops Q (o :: rest) a w:=by
 refine wpList_plain hgd fun K hK => ?_
 unfold Oper.wp execOp
 simp only [ho,resolve,invoke,builtin,Sem.run_bind,Sem.run_pure,Result.andThen_ok,List.map_toArray,List.map_cons,List.map_nil,hs,hx,hr]
 exact hK _ _ h
theorem int_info : (Tryz.prog.info? 3).map (fun i => (i.zero,i.size,i.bytes)) = some (some (.int .i64 0),1,8):=by kernel_rfl
theorem li_under : Tryz.prog.underlying 24 = some (.slice 3):=by kernel_rfl
def Cl (w0 w : World) (sv : Value) (L : List Int) : Prop :=
 (L = [] ∧ ∃ ao cap,sv = .slice ao 0 cap) ∨ ∃ g cap,sv = .slice (some ⟨g,0,none⟩) L.length cap ∧ w0.heap.size ≤ g ∧ Own w g cap L
theorem Cl.kept {w0 w w' : World} {sv : Value} {L : List Int} (h : Cl w0 w sv L) (k : Kept w w') : Cl w0 w' sv L:=by
 rcases h with h | ⟨g,cap,e,hg,ho⟩
 ·exact .inl h
 ·exact .inr ⟨g,cap,e,hg,ho.kept k⟩
abbrev numW (w : World) : World:=w.alloc (.cells #[.bool false,.slice none 0 0,.int .i64 0] 43)
theorem num_cells {w w1 : World} (h : Kept (numW w) w1) : w1.cell? ⟨w.heap.size,0,none⟩ = some (.bool false) ∧ w1.cell? ⟨w.heap.size,1,none⟩ = some (.slice none 0 0) ∧ w1.cell? ⟨w.heap.size,2,none⟩ = some (.int .i64 0) ∧ (∀ o,w1.frozen? ⟨w.heap.size,o,none⟩ = false) :=
 ⟨(h.below.cell (p:=⟨w.heap.size,0,none⟩) (by simp)).trans (by simp [go_sem]),(h.below.cell (p:=⟨w.heap.size,1,none⟩) (by simp)).trans (by simp [go_sem]),(h.below.cell (p:=⟨w.heap.size,2,none⟩) (by simp)).trans (by simp [go_sem]),fun o => (h.frozen _).trans (by simp [go_sem])⟩
theorem num_done {w u2 : World} {v : Value} {r : Nm} (hN : New (numW w) u2 v r) (hk : Kept (numW w) u2) (a b c : Value) : New w (((u2.setCell ⟨w.heap.size,0,none⟩ a).setCell ⟨w.heap.size,1,none⟩ b).setCell ⟨w.heap.size,2,none⟩ c) v r ∧ Kept w (((u2.setCell ⟨w.heap.size,0,none⟩ a).setCell ⟨w.heap.size,1,none⟩ b).setCell ⟨w.heap.size,2,none⟩ c):=by
 have hK : Kept w (numW w):=(Kept.refl w).alloc _ _
 constructor
 ·rcases hN with h | ⟨g,cap,e,hg,ho,hne⟩
  ·exact .inl h
  ·have hsz : w.heap.size + 1 ≤ g:=by simpa using hg
   exact .inr ⟨g,cap,e,by omega,((ho.setOther (by simp; omega) _).setOther (by simp; omega) _).setOther (by simp; omega) _,hne⟩
 ·exact (hK.trans hk).setCell (by simp) _ |>.setCell (by simp) _ |>.setCell (by simp) _
theorem New.shape {w0 w : World} {v : Value} {r : Nm} (h : New w0 w v r) : ∃ n ao l c x,v = .agg #[.bool n,.slice ao l c,.int .i64 x]:=by
 rcases h with ⟨-,rfl⟩ | ⟨g,cap,rfl,-⟩
 ·exact ⟨_,_,_,_,_,rfl⟩
 ·exact ⟨_,_,_,_,_,rfl⟩
theorem Cl.from {w0 w1 w : World} {sv : Value} {L : List Int} (h : Cl w1 w sv L) (k : Kept w0 w1) : Cl w0 w sv L:=by
 rcases h with h | ⟨g,cap,e,hg,ho⟩
 ·exact .inl h
 ·exact .inr ⟨g,cap,e,Nat.le_trans k.below.size hg,ho⟩
end Go.Proofs.YtnniljhdcplkgaaGreatDoor
