/- acc's begin. Regions that draw their order and whose last operations write a cell that earlier ones load: S is asked behind all operations but the late ones; a load may be taken first under S if every late one waits for it. A sum that is being made lies in one block; its cells. -/
import Derived.Test.YtoflafgbbjinpaaGreatDoorX10
import Derived.Deep.MidRow
import Derived.Test.YtoflafgbbjinpaaGreatDoorX02
import Derived.Deep.RegionHeld
import Derived.Test.YtoflafgbbjinpaaGreatDoorX03
import Derived.Test.YtoflafgbbjinpaaGreatDoorX07
namespace Go.Proofs.YtoflafgbbjinpaaGreatDoor
open Go.ChangeShapes Go.WideShapes Go.ChangeAt Go.RowKit
set_option linter.unusedVariables false
set_option linter.unusedSimpArgs false
set_option maxHeartbeats 16000000
set_option maxRecDepth 100000
/- what a sum that is being made is,cell by cell: what it tells,its width,its columns,from where to where -/
def mkC (ac : List Value) (n : Int) (C : List Int) (lo hi : Int) : List Value:=ac ++ (.int .i64 n :: (C.map (Value.int .i64) ++ [.int .i64 lo,.int .i64 hi]))
abbrev acc0 : List Value:=[.bool false,.slice none 0 0,.int .i64 0,.bool false,.bool false,.bool false]
def C0 : List Int:=List.replicate 141 0
theorem mk_zero (n : Int) : ((Tryz.zeroCells100.setIfInBounds 6 (.int .i64 n)).setIfInBounds 148 (.int .i64 141)).toList = mkC acc0 n C0 141 0:=by kernel_rfl
theorem mk_size (ac : List Value) (n : Int) (C : List Int) (lo hi : Int) (h : ac.length = 6) (hC : C.length = 141) : (mkC ac n C lo hi).length = 150:=by
 simp [mkC,h,hC]
theorem mk_one (ac : List Value) (n : Int) (C : List Int) (lo hi : Int) (h : ∀ v ∈ ac,v.oneCell' = true) : ∀ v ∈ mkC ac n C lo hi,v.oneCell' = true:=by
 intro v hv
 simp only [mkC,List.mem_append,List.mem_cons,List.mem_map,List.not_mem_nil,or_false] at hv
 rcases hv with hv | rfl | ⟨d,-,rfl⟩ | rfl | rfl
 ·exact h v hv
 all_goals rfl
theorem there_new (w : World) (C : Array Value) (t : TypeId) : (w.alloc (.cells C t)).there w.heap.size 0 C.size:=by
 intro j hj
 refine ⟨?_,by simp [go_sem]⟩
 simp [go_sem,hj]
theorem begin_any (n : Int) (w : World) : Calls Tryz.prog 68 #[.int .i64 n] w fun e w' => e = .returned (.agg (mkC acc0 n C0 141 0).toArray) ∧ Kept w w':=by
 have hz : Tryz.zeroCells100.size = 150:=by rfl
 have hin : (Tryz.prog.info? 100).map (·.size) = some 150:=by kernel_rfl
 obtain ⟨V,hV⟩ : ∃ V,V = (Tryz.zeroCells100.toList.set 6 (.int .i64 n)).set 148 (.int .i64 141):=⟨_,rfl⟩
 have hVl : V = mkC acc0 n C0 141 0:=by
  rw [hV,← mk_zero n]
  simp
 have hVs : V.length = 150:=by rw [hVl]; exact mk_size _ _ _ _ _ rfl rfl
 have h1 : ∀ v ∈ V,v.oneCell' = true:=by rw [hVl]; exact mk_one acc0 _ _ _ _ (by decide)
 have ht : (w.alloc (.cells Tryz.zeroCells100 100)).there w.heap.size 0 V.length:=by rw [hVs,← hz]; exact there_new w _ _
 have hst:=run_storeCells_cells (P:=Tryz.prog) w.heap.size 0 V 0 (w.alloc (.cells Tryz.zeroCells100 100)) (fun j hj => by simpa using (ht j hj).1) (fun j hj => by simp) h1
 have hld:=run_loadVar_mid (P:=Tryz.prog) ((w.alloc (.cells Tryz.zeroCells100 100)).setCells w.heap.size 0 V) w.heap.size 0 100 V _ (World.rangeAt_setCells_same _ _ _ _ ht) Tryz.underlying100 rfl (by rw [hVs]; exact hin)
 have hk : Kept w ((w.alloc (.cells Tryz.zeroCells100 100)).setCells w.heap.size 0 V):=((Kept.refl w).alloc _ _).grw (Nat.le_refl _) (Grw.setCells V (Grw.refl _ _) 0)
 rw [hV] at hst
 simp only [Nat.add_zero] at hst
 clear hin ht h1 hVs
 go_enter Tryz.func68,Tryz.ntmps68
 go_wp2
 rw [← hV]
 exact bodyPost_ret (v:=.agg V.toArray) (by simp [results,Tryz.results68,asAddr,hld]) rfl ⟨by rw [hVl],hk⟩
end Go.Proofs.YtoflafgbbjinpaaGreatDoor
namespace Go.Proofs.YtoflafgbbjinpaaGreatDoor
open Go
set_option linter.unusedVariables false
set_option linter.unusedSimpArgs false
set_option maxHeartbeats 16000000
set_option maxRecDepth 100000
section
variable {P : Program} {ops : Array Oper} {Q : Exit → Act → World → Prop} {md : Region.Mode} {S : World → Prop} {D : List Nat}
/-- Whatever order is picked; S holds behind every operation that is not late. -/
def wpAnyD (P : Program) (md : Region.Mode) (ops : Array Oper) (Q : Exit → Act → World → Prop) (S : World → Prop) (D : List Nat) : Nat → Array Bool → Act → World → Prop
 | 0,listed,a,w => Region.ready md ops listed = [] ∧ Q .normal a w
 | fuel + 1,listed,a,w =>
  (Region.ready md ops listed = [] → Q .normal a w) ∧
  ∀ i ∈ Region.ready md ops listed,wpOp P ops Q i (fun a' w' => (D.contains i = false → S w') ∧ wpAnyD P md ops Q S D fuel (listed.setIfInBounds i true) a' w') a w
theorem wpAny_of_late : ∀ (fuel : Nat) (listed : Array Bool) (a : Act) (w : World),wpAnyD P md ops Q S D fuel listed a w → wpAny P md ops Q fuel listed a w
 | 0,_,_,_,h => h
 | fuel + 1,_,_,_,h => ⟨h.1,fun i hi => wpOp_mono (fun a' w' h' => wpAny_of_late fuel _ a' w' h'.2) (h.2 i hi)⟩
/-- Those that wait for i,or for one of these. -/
def waits (md : Region.Mode) (i : Nat) (E : List Nat) (o : Oper) : Bool:=o.after.any fun e => Region.binds md e && (e.on == i || E.contains e.on)
def lateOf (md : Region.Mode) (ops : Array Oper) (i : Nat) : List Nat:=(List.range ops.size).foldl (fun E j => match ops[j]? with
 | some o => if waits md i E o then j :: E else E
 | none => E) []
def lateB (md : Region.Mode) (ops : Array Oper) (listed : Array Bool) (D : List Nat) (i : Nat) (E : List Nat) : Bool :=
 D.all (fun j => E.contains j) && E.all fun j => (listed.getD j true == false) && (j != i) && (match ops[j]? with
  | some o => waits md i E o
  | none => true)
def LateP (md : Region.Mode) (ops : Array Oper) (listed : Array Bool) (i : Nat) (E : List Nat) : Prop :=
 ∀ j ∈ E,listed.getD j true = false ∧ j ≠ i ∧ ∀ o,ops[j]? = some o → ∃ e ∈ o.after,Region.binds md e = true ∧ (e.on = i ∨ e.on ∈ E)
theorem lateB_spec {listed : Array Bool} {i : Nat} {E : List Nat} (h : lateB md ops listed D i E = true) : (∀ j ∈ D,j ∈ E) ∧ LateP md ops listed i E:=by
 unfold lateB at h
 rw [Bool.and_eq_true,List.all_eq_true,List.all_eq_true] at h
 refine ⟨fun j hj => by simpa using h.1 j hj,fun j hj => ?_⟩
 have h1:=h.2 j hj
 rw [Bool.and_eq_true,Bool.and_eq_true] at h1
 refine ⟨by simpa using h1.1.1,by simpa using h1.1.2,fun o ho => ?_⟩
 have h2:=h1.2
 rw [ho] at h2
 unfold waits at h2
 obtain ⟨e,he,hb⟩:=Array.any_eq_true'.1 h2
 simp only [Bool.and_eq_true,Bool.or_eq_true,beq_iff_eq,List.contains_iff_mem] at hb
 exact ⟨e,he,hb.1,hb.2⟩
theorem getD_ff {listed : Array Bool} {k : Nat} (h0 : listed.getD k true = false) (h1 : listed.getD k false = true) : False:=by
 rcases Nat.lt_or_ge k listed.size with h' | h'
 ·simp [h'] at h0 h1; rw [h0] at h1; cases h1
 ·simp [Array.getElem?_eq_none h'] at h1
theorem late_not_ready {listed : Array Bool} {i j : Nat} {E : List Nat} (hL : LateP md ops listed i E) (hi : i ∈ Region.ready md ops listed) (hj : j ∈ Region.ready md ops listed) : j ∉ E:=by
 intro hE
 obtain ⟨-,-,h3⟩:=hL j hE
 obtain ⟨-,o,ho,hall⟩:=mem_ready.1 hj
 obtain ⟨e,he,hb,hw⟩:=h3 o ho
 have h1:=hall e he hb
 rcases hw with hw | hw
 ·rw [hw] at h1
  exact getD_ff (mem_ready.1 hi).1 h1
 ·exact getD_ff (hL _ hw).1 h1
theorem wpAnyD_first {i : Nat} {oi : Oper} {v : Value} {E : List Nat} (hi : ops[i]? = some oi) (hsel : ∀ (j : Nat) (o : Oper) cs b,ops[j]? = some o → o.op ≠ .select cs b)
  (hQ : ∀ c a w,Q (.panic c) (a.put oi.dst v) w → Q (.panic c) a w) (hD : ∀ j ∈ D,j ∈ E) :
  ∀ (fuel : Nat) (listed : Array Bool) (a : Act) (w : World),LateP md ops listed i E →
   (∀ j oj,ops[j]? = some oj → j ≠ i → listed.getD j true = false → (∀ e ∈ oj.after,Region.binds md e = true → e.on ≠ i) → oi.apart ops oj = true) →
   i ∈ Region.ready md ops listed → YieldsIf P ops S oi v a → S w →
   wpAnyD P md ops Q S D fuel (listed.setIfInBounds i true) (a.put oi.dst v) w → wpAnyD P md ops Q S D (fuel + 1) listed a w:=by
 intro fuel
 induction fuel with
 | zero =>
  intro listed a w _ _ hr hy hS H
  refine ⟨fun h => (by rw [h] at hr; cases hr),fun j hj => ?_⟩
  by_cases hji : j = i
  ·subst hji; exact hy.wpOp hi hS ⟨fun _ => hS,H⟩
  ·have:=ready_mono hj hji
   rw [H.1] at this
   cases this
 | succ fuel ih =>
  intro listed a w hL hfree hr hy hS H
  refine ⟨fun h => (by rw [h] at hr; cases hr),fun j hj => ?_⟩
  by_cases hji : j = i
  ·subst hji; exact hy.wpOp hi hS ⟨fun _ => hS,H⟩
  ·have h1:=H.2 j (ready_mono hj hji)
   have hjE:=late_not_ready hL hr hj
   have hjD : D.contains j = false:=by
    rcases hc : D.contains j with _ | _
    ·rfl
    ·exact absurd (hD j (by simpa using hc)) hjE
   obtain ⟨hjun,oj,hoj,hall⟩:=mem_ready.1 hj
   have hnot : ∀ e ∈ oj.after,Region.binds md e = true → e.on ≠ i:=fun e he hb heq => by
    have h1:=hall e he hb
    rw [heq] at h1
    exact getD_ff (mem_ready.1 hr).1 h1
   have h2:=wpOp_putIf hoj (hfree j oj hoj hji hjun hnot) (fun cs b => hsel i oi cs b hi) (fun cs b => hsel j oj cs b hoj) hQ hy h1
   have hfree' : ∀ k ok,ops[k]? = some ok → k ≠ i → (listed.setIfInBounds j true).getD k true = false →
     (∀ e ∈ ok.after,Region.binds md e = true → e.on ≠ i) → oi.apart ops ok = true:=fun k ok hk hki hun hno => by
    refine hfree k ok hk hki ?_ hno
    by_cases hjk : j = k
    ·subst hjk; exact hjun
    ·rw [getD_set_ne true hjk] at hun; exact hun
   have hL' : LateP md ops (listed.setIfInBounds j true) i E:=fun k hk => by
    obtain ⟨g1,g2,g3⟩:=hL k hk
    have hne : j ≠ k:=fun e => by subst e; exact hjE hk
    exact ⟨by rw [getD_set_ne true hne]; exact g1,g2,g3⟩
   refine wpOp_mono (fun a' w' h3 => ⟨h3.2.1,ih (listed.setIfInBounds j true) a' w' hL' hfree' (ready_mono hr (Ne.symm hji)) h3.1 (h3.2.1 hjD) ?_⟩) h2
   rw [Array.setIfInBounds_comm _ _ hji]
   exact h3.2.2
theorem wpAnyD_take {i : Nat} {oi : Oper} {v : Value} {fuel : Nat} {listed : Array Bool} {a : Act} {w : World} (hi : ops[i]? = some oi)
  (hs : Region.noSelect ops = true) (hf : Region.free md ops listed i = true) (hr : (Region.ready md ops listed).contains i = true) (hl : lateB md ops listed D i (lateOf md ops i) = true)
  (hQ : ∀ c a w,Q (.panic c) (a.put oi.dst v) w → Q (.panic c) a w) (hy : YieldsIf P ops S oi v a) (hS : S w)
  (h : wpAnyD P md ops Q S D fuel (listed.setIfInBounds i true) (a.put oi.dst v) w) : wpAnyD P md ops Q S D (fuel + 1) listed a w :=
 wpAnyD_first hi (Region.noSelect_spec hs) hQ (lateB_spec hl).1 fuel listed a w (lateB_spec hl).2 (Region.free_spec hi hf) (by simpa using hr) hy hS h
theorem wpAnyD_all {rs : List Nat} {fuel : Nat} {listed : Array Bool} {a : Act} {w : World} (hr : Region.ready md ops listed = rs) (hne : rs ≠ [])
  (h : ∀ i ∈ rs,wpOp P ops Q i (fun a' w' => (D.contains i = false → S w') ∧ wpAnyD P md ops Q S D fuel (listed.setIfInBounds i true) a' w') a w) : wpAnyD P md ops Q S D (fuel + 1) listed a w :=
 ⟨fun h0 => absurd (hr ▸ h0) hne,hr ▸ h⟩
/-- One operation alone may come up; it is not late: S is shown anew behind it. -/
theorem wpAnyD_step {i : Nat} {o : Oper} {fuel : Nat} {listed : Array Bool} {a : Act} {w : World} (hr : Region.ready md ops listed = [i]) (ho : ops[i]? = some o)
  (h : ∀ K' : Act → World → Prop,Shut (∀ a w,S w → (S w → wpAnyD P md ops Q S D fuel (listed.setIfInBounds i true) a w) → K' a w) → if Region.wanted o (yielded ops a.tmps) = true then Oper.wp P o a w K' Q else K' (a.put o.dst undef) w) :
  wpAnyD P md ops Q S D (fuel + 1) listed a w:=by
 refine wpAnyD_all hr (by simp) fun j hj => ?_
 obtain rfl:=List.mem_singleton.1 hj
 exact wpOp_step ho (fun K' hK => h K' (fun a w hS hW => hK a w ⟨fun _ => hS,hW hS⟩))
/-- One operation alone may come up,and it is late. -/
theorem wpAnyD_late {i : Nat} {o : Oper} {fuel : Nat} {listed : Array Bool} {a : Act} {w : World} (hr : Region.ready md ops listed = [i]) (ho : ops[i]? = some o) (hd : D.contains i = true)
  (h : ∀ K' : Act → World → Prop,Shut (∀ a w,wpAnyD P md ops Q S D fuel (listed.setIfInBounds i true) a w → K' a w) → if Region.wanted o (yielded ops a.tmps) = true then Oper.wp P o a w K' Q else K' (a.put o.dst undef) w) :
  wpAnyD P md ops Q S D (fuel + 1) listed a w:=by
 refine wpAnyD_all hr (by simp) fun j hj => ?_
 obtain rfl:=List.mem_singleton.1 hj
 exact wpOp_step ho (fun K' hK => h K' (fun a w hW => hK a w ⟨fun hc => (by rw [hd] at hc; cases hc),hW⟩))
theorem wpAnyD_done {listed : Array Bool} {a : Act} {w : World} (hr : Region.ready md ops listed = []) (h : Q .normal a w) :
  ∀ fuel,wpAnyD P md ops Q S D fuel listed a w
 | 0 => ⟨hr,h⟩
 | _ + 1 => ⟨fun _ => h,by rw [hr]; simp⟩
theorem wp_region_late {id : Nat} {a : Act} {w : World} (D : List Nat) (S : World → Prop) (hm : P.follows .mixedOrders = true) (hS : S w.drew)
  (h : S w.drew → wpAnyD P .any ops Q S D ops.size (Array.replicate ops.size false) a w.drew) : (Code.region id ops true).wp P Q a w :=
 wp_region_any hm (wpAny_of_late _ _ _ _ (h hS))
/-- Append at a step of a drawn region. -/
theorem oper_append_run {P : Program} {w : World} {o : Oper} {a : Act} {K : Act → World → Prop} {Q : Exit → Act → World → Prop} (s x : Operand) (t : TypeId)
  (ho : o.op = .call { callee:=.builtin .append,args:=#[s,x],argTypes:=#[t,t] }) (v xv : Value) (hs : a.eval s = v) (hx : a.eval x = xv) (v' : Value) (w' : World)
  (hr : (Builtin.append_ #[t,t] o.type #[v,xv]).run P w = .ok v' w') (h : K (a.put o.dst v') w') : Oper.wp P o a w K Q:=by
 unfold Oper.wp execOp
 simp only [ho,resolve,invoke,builtin,Sem.run_bind,Sem.run_pure,Result.andThen_ok,List.map_toArray,List.map_cons,List.map_nil,hs,hx,hr]
 exact h
end
theorem tkD {P : Program} {ops : Array Oper} {Q : Exit → Act → World → Prop} {md : Region.Mode} {S : World → Prop} {D : List Nat} {i : Nat} {oi : Oper} {v : Value} {fuel : Nat} {listed : Array Bool} {a : Act} {w : World} (hi : ops[i]? = some oi) (hS : S w) (h : wpAnyD P md ops Q S D fuel (listed.setIfInBounds i true) (a.put oi.dst v) w) (hy : YieldsIf P ops S oi v a := by exact .inl ⟨by rfl, by (intro w hSw; (try dsimp only at hSw); go_simp; try (with_reducible rfl))⟩) (hs : Region.noSelect ops = true := by kernel_rfl) (hf : Region.free md ops listed i = true := by kernel_rfl) (hr : (Region.ready md ops listed).contains i = true := by kernel_rfl) (hl : lateB md ops listed D i (lateOf md ops i) = true := by kernel_rfl) (hQ : ∀ c a w, Q (.panic c) (a.put oi.dst v) w → Q (.panic c) a w := by exact fun _ _ _ h => h) : wpAnyD P md ops Q S D (fuel + 1) listed a w := wpAnyD_take hi hs hf hr hl hQ hy hS h
end Go.Proofs.YtoflafgbbjinpaaGreatDoor
namespace Go.Proofs.YtoflafgbbjinpaaGreatDoor
open Go.ChangeShapes Go.WideShapes Go.ChangeAt Go.RowKit
set_option linter.unusedVariables false
set_option linter.unusedSimpArgs false
set_option maxHeartbeats 16000000
set_option maxRecDepth 100000
structure MkAt (w : World) (b : Nat) (ac : List Value) (n : Int) (C : List Int) (lo hi : Int) : Prop where
 blk : w.heap[b]? = some (.cells (mkC ac n C lo hi).toArray 100 (0,0))
 a6 : ac.length = 6
 c141 : C.length = 141
theorem MkAt.cell {w : World} {b : Nat} {ac : List Value} {n : Int} {C : List Int} {lo hi : Int} (h : MkAt w b ac n C lo hi) (i : Nat) : w.cell? ⟨b,i,none⟩ = (mkC ac n C lo hi)[i]?:=by
 simp [World.cell?,h.blk]
theorem MkAt.width {w : World} {b : Nat} {ac : List Value} {n : Int} {C : List Int} {lo hi : Int} (h : MkAt w b ac n C lo hi) : w.cell? ⟨b,6,none⟩ = some (.int .i64 n):=by
 rw [h.cell,mkC,List.getElem?_append_right (by rw [h.a6]; omega),h.a6]
 rfl
theorem MkAt.col {w : World} {b : Nat} {ac : List Value} {n : Int} {C : List Int} {lo hi : Int} (h : MkAt w b ac n C lo hi) (k : Nat) (hk : k < 141) : w.cell? ⟨b,7 + k,none⟩ = some (.int .i64 (C.getD k 0)):=by
 have hc:=h.c141
 rw [h.cell,mkC,List.getElem?_append_right (by rw [h.a6]; omega),h.a6,show 7 + k - 6 = k + 1 by omega,List.getElem?_cons_succ,List.getElem?_append_left (by simp; omega)]
 simp [List.getElem?_map,List.getElem?_eq_getElem (show k < C.length by omega),List.getD_eq_getElem?_getD]
theorem MkAt.low {w : World} {b : Nat} {ac : List Value} {n : Int} {C : List Int} {lo hi : Int} (h : MkAt w b ac n C lo hi) : w.cell? ⟨b,148,none⟩ = some (.int .i64 lo):=by
 rw [h.cell,mkC,List.getElem?_append_right (by rw [h.a6]; omega),h.a6,show 148 - 6 = 141 + 1 by omega,List.getElem?_cons_succ,List.getElem?_append_right (by simp [h.c141])]
 simp [h.c141]
theorem MkAt.high {w : World} {b : Nat} {ac : List Value} {n : Int} {C : List Int} {lo hi : Int} (h : MkAt w b ac n C lo hi) : w.cell? ⟨b,149,none⟩ = some (.int .i64 hi):=by
 rw [h.cell,mkC,List.getElem?_append_right (by rw [h.a6]; omega),h.a6,show 149 - 6 = 142 + 1 by omega,List.getElem?_cons_succ,List.getElem?_append_right (by simp [h.c141])]
 simp [h.c141]
theorem MkAt.kept {w w' : World} {b : Nat} {ac : List Value} {n : Int} {C : List Int} {lo hi : Int} (h : MkAt w b ac n C lo hi) (k : Kept w w') : MkAt w' b ac n C lo hi:=by
 have hb : b < w.heap.size:=by
  apply Decidable.byContradiction
  intro g
  have:=h.blk
  rw [Array.getElem?_eq_none (by omega)] at this
  cases this
 exact ⟨(k.below.block b hb).trans h.blk,h.a6,h.c141⟩
theorem set_cell_block (w : World) (b i : Nat) (cs : Array Value) (t : TypeId) (v : Value) (h : w.heap[b]? = some (.cells cs t (0,0))) : (w.setCell ⟨b,i,none⟩ v).heap[b]? = some (.cells (cs.setIfInBounds i v) t (0,0)):=by
 have hb : b < w.heap.size:=by
  apply Decidable.byContradiction
  intro g
  rw [Array.getElem?_eq_none (by omega)] at h
  cases h
 have h' : w.heap[b] = .cells cs t (0,0):=by
  have e:=Array.getElem?_eq_getElem hb
  rw [h] at e
  injection e with e
  exact e.symm
 simp [World.setCell,hb,Array.getElem_modify,h']
theorem MkAt.setCol {w : World} {b : Nat} {ac : List Value} {n : Int} {C : List Int} {lo hi : Int} (h : MkAt w b ac n C lo hi) (k : Nat) (hk : k < 141) (v : Int) : MkAt (w.setCell ⟨b,7 + k,none⟩ (.int .i64 v)) b ac n (C.set k v) lo hi:=by
 have hc:=h.c141
 refine ⟨?_,h.a6,by simp [hc]⟩
 rw [set_cell_block w b _ _ _ _ h.blk]
 congr 2
 rw [List.setIfInBounds_toArray]
 congr 1
 rw [mkC,mkC,List.set_append_right _ _ (by rw [h.a6]; omega),h.a6,show 7 + k - 6 = k + 1 by omega,List.set_cons_succ,List.set_append_left _ _ (by simp; omega),List.map_set]
theorem MkAt.setLow {w : World} {b : Nat} {ac : List Value} {n : Int} {C : List Int} {lo hi : Int} (h : MkAt w b ac n C lo hi) (v : Int) : MkAt (w.setCell ⟨b,148,none⟩ (.int .i64 v)) b ac n C v hi:=by
 have hc:=h.c141
 refine ⟨?_,h.a6,hc⟩
 rw [set_cell_block w b _ _ _ _ h.blk]
 congr 2
 rw [List.setIfInBounds_toArray]
 congr 1
 rw [mkC,mkC,List.set_append_right _ _ (by rw [h.a6]; omega),h.a6,show 148 - 6 = 141 + 1 by omega,List.set_cons_succ,List.set_append_right _ _ (by simp [hc])]
 simp [hc]
theorem MkAt.setHigh {w : World} {b : Nat} {ac : List Value} {n : Int} {C : List Int} {lo hi : Int} (h : MkAt w b ac n C lo hi) (v : Int) : MkAt (w.setCell ⟨b,149,none⟩ (.int .i64 v)) b ac n C lo v:=by
 have hc:=h.c141
 refine ⟨?_,h.a6,hc⟩
 rw [set_cell_block w b _ _ _ _ h.blk]
 congr 2
 rw [List.setIfInBounds_toArray]
 congr 1
 rw [mkC,mkC,List.set_append_right _ _ (by rw [h.a6]; omega),h.a6,show 149 - 6 = 142 + 1 by omega,List.set_cons_succ,List.set_append_right _ _ (by simp [hc])]
 simp [hc]
theorem MkAt.new (w : World) (ac : List Value) (n : Int) (C : List Int) (lo hi : Int) (h6 : ac.length = 6) (hC : C.length = 141) : MkAt (w.alloc (.cells (mkC ac n C lo hi).toArray 100)) w.heap.size ac n C lo hi:=⟨heap_alloc_new w _,h6,hC⟩
end Go.Proofs.YtoflafgbbjinpaaGreatDoor
