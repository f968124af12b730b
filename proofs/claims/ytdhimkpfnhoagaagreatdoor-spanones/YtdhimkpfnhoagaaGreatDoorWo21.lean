/- Regions that draw their order and whose last operations write a cell that earlier ones load: S is asked behind all operations but the late ones; a load may be taken first under S if every late one waits for it. The document's ends: how they lie; whole,Of. -/
import Derived.Test.YtdhimkpfnhoagaaGreatDoorWo02
import Derived.Deep.RegionHeld
import Derived.Test.YtdhimkpfnhoagaaGreatDoorWo18
import Derived.Test.YtdhimkpfnhoagaaGreatDoorWo20
namespace Go.Proofs.YtdhimkpfnhoagaaGreatDoor
open Go
set_option linter.unusedVariables false
set_option linter.unusedSimpArgs false
set_option maxHeartbeats 16000000
set_option maxRecDepth 100000
section
variable {P : Program} {ops : Array Oper} {Q : Exit → Act → World → Prop} {md : Region.Mode} {S : World → Prop} {D : List Nat}
/-- Whatever order is picked; S holds behind every operation that is not late. -/
def wpAnyD (P : Program) (md : Region.Mode) (ops : Array Oper) (Q : Exit → Act → World → Prop) (S : World → Prop) (D : List Nat) : Nat → Array Bool → Act → World → Prop
 | 0,listed,a,w => Region.ready md ops listed = [] ∧ Q .normal a w
 | fuel + 1,listed,a,w =>
  (Region.ready md ops listed = [] → Q .normal a w) ∧
  ∀ i ∈ Region.ready md ops listed,wpOp P ops Q i (fun a' w' => (D.contains i = false → S w') ∧ wpAnyD P md ops Q S D fuel (listed.setIfInBounds i true) a' w') a w
theorem wpAny_of_late : ∀ (fuel : Nat) (listed : Array Bool) (a : Act) (w : World),wpAnyD P md ops Q S D fuel listed a w → wpAny P md ops Q fuel listed a w
 | 0,_,_,_,h => h
 | fuel + 1,_,_,_,h => ⟨h.1,fun i hi => wpOp_mono (fun a' w' h' => wpAny_of_late fuel _ a' w' h'.2) (h.2 i hi)⟩
/-- Those that wait for i,or for one of these. -/
def waits (md : Region.Mode) (i : Nat) (E : List Nat) (o : Oper) : Bool:=o.after.any fun e => Region.binds md e && (e.on == i || E.contains e.on)
def lateOf (md : Region.Mode) (ops : Array Oper) (i : Nat) : List Nat:=(List.range ops.size).foldl (fun E j => match ops[j]? with
 | some o => if waits md i E o then j :: E else E
 | none => E) []
def lateB (md : Region.Mode) (ops : Array Oper) (listed : Array Bool) (D : List Nat) (i : Nat) (E : List Nat) : Bool :=
 D.all (fun j => E.contains j) && E.all fun j => (listed.getD j true == false) && (j != i) && (match ops[j]? with
  | some o => waits md i E o
  | none => true)
def LateP (md : Region.Mode) (ops : Array Oper) (listed : Array Bool) (i : Nat) (E : List Nat) : Prop :=
 ∀ j ∈ E,listed.getD j true = false ∧ j ≠ i ∧ ∀ o,ops[j]? = some o → ∃ e ∈ o.after,Region.binds md e = true ∧ (e.on = i ∨ e.on ∈ E)
theorem lateB_spec {listed : Array Bool} {i : Nat} {E : List Nat} (h : lateB md ops listed D i E = true) : (∀ j ∈ D,j ∈ E) ∧ LateP md ops listed i E:=by
 unfold lateB at h
 rw [Bool.and_eq_true,List.all_eq_true,List.all_eq_true] at h
 refine ⟨fun j hj => by simpa using h.1 j hj,fun j hj => ?_⟩
 have h1:=h.2 j hj
 rw [Bool.and_eq_true,Bool.and_eq_true] at h1
 refine ⟨by simpa using h1.1.1,by simpa using h1.1.2,fun o ho => ?_⟩
 have h2:=h1.2
 rw [ho] at h2
 unfold waits at h2
 obtain ⟨e,he,hb⟩:=Array.any_eq_true'.1 h2
 simp only [Bool.and_eq_true,Bool.or_eq_true,beq_iff_eq,List.contains_iff_mem] at hb
 exact ⟨e,he,hb.1,hb.2⟩
theorem getD_ff {listed : Array Bool} {k : Nat} (h0 : listed.getD k true = false) (h1 : listed.getD k false = true) : False:=by
 rcases Nat.lt_or_ge k listed.size with h' | h'
 ·simp [h'] at h0 h1; rw [h0] at h1; cases h1
 ·simp [Array.getElem?_eq_none h'] at h1
theorem late_not_ready {listed : Array Bool} {i j : Nat} {E : List Nat} (hL : LateP md ops listed i E) (hi : i ∈ Region.ready md ops listed) (hj : j ∈ Region.ready md ops listed) : j ∉ E:=by
 intro hE
 obtain ⟨-,-,h3⟩:=hL j hE
 obtain ⟨-,o,ho,hall⟩:=mem_ready.1 hj
 obtain ⟨e,he,hb,hw⟩:=h3 o ho
 have h1:=hall e he hb
 rcases hw with hw | hw
 ·rw [hw] at h1
  exact getD_ff (mem_ready.1 hi).1 h1
 ·exact getD_ff (hL _ hw).1 h1
theorem wpAnyD_first {i : Nat} {oi : Oper} {v : Value} {E : List Nat} (hi : ops[i]? = some oi) (hsel : ∀ (j : Nat) (o : Oper) cs b,ops[j]? = some o → o.op ≠ .select cs b)
  (hQ : ∀ c a w,Q (.panic c) (a.put oi.dst v) w → Q (.panic c) a w) (hD : ∀ j ∈ D,j ∈ E) :
  ∀ (fuel : Nat) (listed : Array Bool) (a : Act) (w : World),LateP md ops listed i E →
   (∀ j oj,ops[j]? = some oj → j ≠ i → listed.getD j true = false → (∀ e ∈ oj.after,Region.binds md e = true → e.on ≠ i) → oi.apart ops oj = true) →
   i ∈ Region.ready md ops listed → YieldsIf P ops S oi v a → S w →
   wpAnyD P md ops Q S D fuel (listed.setIfInBounds i true) (a.put oi.dst v) w → wpAnyD P md ops Q S D (fuel + 1) listed a w:=by
 intro fuel
 induction fuel with
 | zero =>
  intro listed a w _ _ hr hy hS H
  refine ⟨fun h => (by rw [h] at hr; cases hr),fun j hj => ?_⟩
  by_cases hji : j = i
  ·subst hji; exact hy.wpOp hi hS ⟨fun _ => hS,H⟩
  ·have:=ready_mono hj hji
   rw [H.1] at this
   cases this
 | succ fuel ih =>
  intro listed a w hL hfree hr hy hS H
  refine ⟨fun h => (by rw [h] at hr; cases hr),fun j hj => ?_⟩
  by_cases hji : j = i
  ·subst hji; exact hy.wpOp hi hS ⟨fun _ => hS,H⟩
  ·have h1:=H.2 j (ready_mono hj hji)
   have hjE:=late_not_ready hL hr hj
   have hjD : D.contains j = false:=by
    rcases hc : D.contains j with _ | _
    ·rfl
    ·exact absurd (hD j (by simpa using hc)) hjE
   obtain ⟨hjun,oj,hoj,hall⟩:=mem_ready.1 hj
   have hnot : ∀ e ∈ oj.after,Region.binds md e = true → e.on ≠ i:=fun e he hb heq => by
    have h1:=hall e he hb
    rw [heq] at h1
    exact getD_ff (mem_ready.1 hr).1 h1
   have h2:=wpOp_putIf hoj (hfree j oj hoj hji hjun hnot) (fun cs b => hsel i oi cs b hi) (fun cs b => hsel j oj cs b hoj) hQ hy h1
   have hfree' : ∀ k ok,ops[k]? = some ok → k ≠ i → (listed.setIfInBounds j true).getD k true = false →
     (∀ e ∈ ok.after,Region.binds md e = true → e.on ≠ i) → oi.apart ops ok = true:=fun k ok hk hki hun hno => by
    refine hfree k ok hk hki ?_ hno
    by_cases hjk : j = k
    ·subst hjk; exact hjun
    ·rw [getD_set_ne true hjk] at hun; exact hun
   have hL' : LateP md ops (listed.setIfInBounds j true) i E:=fun k hk => by
    obtain ⟨g1,g2,g3⟩:=hL k hk
    have hne : j ≠ k:=fun e => by subst e; exact hjE hk
    exact ⟨by rw [getD_set_ne true hne]; exact g1,g2,g3⟩
   refine wpOp_mono (fun a' w' h3 => ⟨h3.2.1,ih (listed.setIfInBounds j true) a' w' hL' hfree' (ready_mono hr (Ne.symm hji)) h3.1 (h3.2.1 hjD) ?_⟩) h2
   rw [Array.setIfInBounds_comm _ _ hji]
   exact h3.2.2
theorem wpAnyD_take {i : Nat} {oi : Oper} {v : Value} {fuel : Nat} {listed : Array Bool} {a : Act} {w : World} (hi : ops[i]? = some oi)
  (hs : Region.noSelect ops = true) (hf : Region.free md ops listed i = true) (hr : (Region.ready md ops listed).contains i = true) (hl : lateB md ops listed D i (lateOf md ops i) = true)
  (hQ : ∀ c a w,Q (.panic c) (a.put oi.dst v) w → Q (.panic c) a w) (hy : YieldsIf P ops S oi v a) (hS : S w)
  (h : wpAnyD P md ops Q S D fuel (listed.setIfInBounds i true) (a.put oi.dst v) w) : wpAnyD P md ops Q S D (fuel + 1) listed a w :=
 wpAnyD_first hi (Region.noSelect_spec hs) hQ (lateB_spec hl).1 fuel listed a w (lateB_spec hl).2 (Region.free_spec hi hf) (by simpa using hr) hy hS h
theorem wpAnyD_all {rs : List Nat} {fuel : Nat} {listed : Array Bool} {a : Act} {w : World} (hr : Region.ready md ops listed = rs) (hne : rs ≠ [])
  (h : ∀ i ∈ rs,wpOp P ops Q i (fun a' w' => (D.contains i = false → S w') ∧ wpAnyD P md ops Q S D fuel (listed.setIfInBounds i true) a' w') a w) : wpAnyD P md ops Q S D (fuel + 1) listed a w :=
 ⟨fun h0 => absurd (hr ▸ h0) hne,hr ▸ h⟩
/-- One operation alone may come up; it is not late: S is shown anew behind it. -/
theorem wpAnyD_step {i : Nat} {o : Oper} {fuel : Nat} {listed : Array Bool} {a : Act} {w : World} (hr : Region.ready md ops listed = [i]) (ho : ops[i]? = some o)
  (h : ∀ K' : Act → World → Prop,Shut (∀ a w,S w → (S w → wpAnyD P md ops Q S D fuel (listed.setIfInBounds i true) a w) → K' a w) → if Region.wanted o (yielded ops a.tmps) = true then Oper.wp P o a w K' Q else K' (a.put o.dst undef) w) :
  wpAnyD P md ops Q S D (fuel + 1) listed a w:=by
 refine wpAnyD_all hr (by simp) fun j hj => ?_
 obtain rfl:=List.mem_singleton.1 hj
 exact wpOp_step ho (fun K' hK => h K' (fun a w hS hW => hK a w ⟨fun _ => hS,hW hS⟩))
/-- One operation alone may come up,and it is late. -/
theorem wpAnyD_late {i : Nat} {o : Oper} {fuel : Nat} {listed : Array Bool} {a : Act} {w : World} (hr : Region.ready md ops listed = [i]) (ho : ops[i]? = some o) (hd : D.contains i = true)
  (h : ∀ K' : Act → World → Prop,Shut (∀ a w,wpAnyD P md ops Q S D fuel (listed.setIfInBounds i true) a w → K' a w) → if Region.wanted o (yielded ops a.tmps) = true then Oper.wp P o a w K' Q else K' (a.put o.dst undef) w) :
  wpAnyD P md ops Q S D (fuel + 1) listed a w:=by
 refine wpAnyD_all hr (by simp) fun j hj => ?_
 obtain rfl:=List.mem_singleton.1 hj
 exact wpOp_step ho (fun K' hK => h K' (fun a w hW => hK a w ⟨fun hc => (by rw [hd] at hc; cases hc),hW⟩))
theorem wpAnyD_done {listed : Array Bool} {a : Act} {w : World} (hr : Region.ready md ops listed = []) (h : Q .normal a w) :
  ∀ fuel,wpAnyD P md ops Q S D fuel listed a w
 | 0 => ⟨hr,h⟩
 | _ + 1 => ⟨fun _ => h,by rw [hr]; simp⟩
theorem wp_region_late {id : Nat} {a : Act} {w : World} (D : List Nat) (S : World → Prop) (hm : P.follows .mixedOrders = true) (hS : S w.drew)
  (h : S w.drew → wpAnyD P .any ops Q S D ops.size (Array.replicate ops.size false) a w.drew) : (Code.region id ops true).wp P Q a w :=
 wp_region_any hm (wpAny_of_late _ _ _ _ (h hS))
end
theorem tkD {P : Program} {ops : Array Oper} {Q : Exit → Act → World → Prop} {md : Region.Mode} {S : World → Prop} {D : List Nat} {i : Nat} {oi : Oper} {v : Value} {fuel : Nat} {listed : Array Bool} {a : Act} {w : World} (hi : ops[i]? = some oi) (hS : S w) (h : wpAnyD P md ops Q S D fuel (listed.setIfInBounds i true) (a.put oi.dst v) w) (hy : YieldsIf P ops S oi v a := by exact .inl ⟨by rfl, by (intro w hSw; (try dsimp only at hSw); go_simp; try (with_reducible rfl))⟩) (hs : Region.noSelect ops = true := by kernel_rfl) (hf : Region.free md ops listed i = true := by kernel_rfl) (hr : (Region.ready md ops listed).contains i = true := by kernel_rfl) (hl : lateB md ops listed D i (lateOf md ops i) = true := by kernel_rfl) (hQ : ∀ c a w, Q (.panic c) (a.put oi.dst v) w → Q (.panic c) a w := by exact fun _ _ _ h => h) : wpAnyD P md ops Q S D (fuel + 1) listed a w := wpAnyD_take hi hs hf hr hl hQ hy hS h
end Go.Proofs.YtdhimkpfnhoagaaGreatDoor
namespace Go.Proofs.YtdhimkpfnhoagaaGreatDoor
open Go.ChangeShapes Go.WideShapes Go.ChangeAt Go.RowKit
set_option linter.unusedVariables false
set_option linter.unusedSimpArgs false
set_option maxHeartbeats 16000000
set_option maxRecDepth 100000
/-- seven cells of a block -/
structure P7 (w : World) (b : Nat) (v0 v1 v2 v3 v4 v5 v6 : Value) : Prop where
 c0 : w.cell? ⟨b,0,none⟩ = some v0
 c1 : w.cell? ⟨b,1,none⟩ = some v1
 c2 : w.cell? ⟨b,2,none⟩ = some v2
 c3 : w.cell? ⟨b,3,none⟩ = some v3
 c4 : w.cell? ⟨b,4,none⟩ = some v4
 c5 : w.cell? ⟨b,5,none⟩ = some v5
 c6 : w.cell? ⟨b,6,none⟩ = some v6
 fz : ∀ o,w.frozen? ⟨b,o,none⟩ = false
theorem P7.new (w : World) (v0 v1 v2 v3 v4 v5 v6 : Value) (t : TypeId) : P7 (w.alloc (.cells #[v0,v1,v2,v3,v4,v5,v6] t)) w.heap.size v0 v1 v2 v3 v4 v5 v6:=⟨by simp [go_sem],by simp [go_sem],by simp [go_sem],by simp [go_sem],by simp [go_sem],by simp [go_sem],by simp [go_sem],fun o => by simp [go_sem]⟩
theorem P7.lt {w : World} {b : Nat} {v0 v1 v2 v3 v4 v5 v6 : Value} (h : P7 w b v0 v1 v2 v3 v4 v5 v6) : b < w.heap.size:=by
 have:=h.c0
 by_cases hb : b < w.heap.size
 ·exact hb
 ·have hg : w.heap[b]? = none:=by simp at hb ⊢; omega
  simp [World.cell?,hg] at this
theorem P7.kept {w w' : World} {b : Nat} {v0 v1 v2 v3 v4 v5 v6 : Value} (h : P7 w b v0 v1 v2 v3 v4 v5 v6) (k : Kept w w') : P7 w' b v0 v1 v2 v3 v4 v5 v6 :=
 ⟨(k.below.cell (p:=⟨b,0,none⟩) h.lt).trans h.c0,(k.below.cell (p:=⟨b,1,none⟩) h.lt).trans h.c1,(k.below.cell (p:=⟨b,2,none⟩) h.lt).trans h.c2,(k.below.cell (p:=⟨b,3,none⟩) h.lt).trans h.c3,(k.below.cell (p:=⟨b,4,none⟩) h.lt).trans h.c4,(k.below.cell (p:=⟨b,5,none⟩) h.lt).trans h.c5,(k.below.cell (p:=⟨b,6,none⟩) h.lt).trans h.c6,fun o => (k.frozen _).trans (h.fz o)⟩
theorem P7.alloc {w : World} {b : Nat} {v0 v1 v2 v3 v4 v5 v6 : Value} (h : P7 w b v0 v1 v2 v3 v4 v5 v6) (c : Array Value) (t : TypeId) : P7 (w.alloc (.cells c t)) b v0 v1 v2 v3 v4 v5 v6:=h.kept ((Kept.refl w).alloc c t)
abbrev put7 (w : World) (b : Nat) (v0 v1 v2 v3 v4 v5 v6 : Value) : World:=((((((w.setCell ⟨b,0,none⟩ v0).setCell ⟨b,1,none⟩ v1).setCell ⟨b,2,none⟩ v2).setCell ⟨b,3,none⟩ v3).setCell ⟨b,4,none⟩ v4).setCell ⟨b,5,none⟩ v5).setCell ⟨b,6,none⟩ v6
theorem P7.put {w : World} {b : Nat} {u0 u1 u2 u3 u4 u5 u6 : Value} (h : P7 w b u0 u1 u2 u3 u4 u5 u6) (v0 v1 v2 v3 v4 v5 v6 : Value) : P7 (put7 w b v0 v1 v2 v3 v4 v5 v6) b v0 v1 v2 v3 v4 v5 v6:=by
 obtain ⟨c0,c1,c2,c3,c4,c5,c6,fz⟩:=h
 exact ⟨by simp [go_sem, *],by simp [go_sem, *],by simp [go_sem, *],by simp [go_sem, *],by simp [go_sem, *],by simp [go_sem, *],by simp [go_sem, *],fun o => by simp [World.frozen?_setCell, *]⟩
theorem kept7 {w u : World} {b : Nat} (k : Kept w u) (h : w.heap.size ≤ b) (v0 v1 v2 v3 v4 v5 v6 : Value) : Kept w (put7 u b v0 v1 v2 v3 v4 v5 v6) :=
 ((((((k.setCell (p:=⟨b,0,none⟩) h v0).setCell (p:=⟨b,1,none⟩) h v1).setCell (p:=⟨b,2,none⟩) h v2).setCell (p:=⟨b,3,none⟩) h v3).setCell (p:=⟨b,4,none⟩) h v4).setCell (p:=⟨b,5,none⟩) h v5).setCell (p:=⟨b,6,none⟩) h v6
theorem rlp7 {P : Nat → Prop} {w : World} {v : Value} {M : List Int} (h : RLp P w v M) (b : Nat) (hp : ∀ c,P c → c ≠ b) (v0 v1 v2 v3 v4 v5 v6 : Value) : RLp P (put7 w b v0 v1 v2 v3 v4 v5 v6) v M :=
 ((((((h.set ⟨b,0,none⟩ hp v0).set ⟨b,1,none⟩ hp v1).set ⟨b,2,none⟩ hp v2).set ⟨b,3,none⟩ hp v3).set ⟨b,4,none⟩ hp v4).set ⟨b,5,none⟩ hp v5).set ⟨b,6,none⟩ hp v6
/-- an end: infinite with a sign,or a quotient -/
abbrev env (i : Int) (n1 : Bool) (a1 : Option Addr) (l1 c1 : Nat) (x1 : Int) (n2 : Bool) (a2 : Option Addr) (l2 c2 : Nat) (x2 : Int) : Value:=.agg #[.int .i64 i,.bool n1,.slice a1 l1 c1,.int .i64 x1,.bool n2,.slice a2 l2 c2,.int .i64 x2]
def EnAt (P : Nat → Prop) (w : World) (v : Value) (i : Int) (x y : Nm) : Prop:=∃ a1 c1 a2 c2,v = env i x.neg a1 x.mag.length c1 x.exp y.neg a2 y.mag.length c2 y.exp ∧ RLp P w (.slice a1 x.mag.length c1) x.mag ∧ RLp P w (.slice a2 y.mag.length c2) y.mag
theorem EnAt.kept {P : Nat → Prop} {w w' : World} {v : Value} {i : Int} {x y : Nm} (h : EnAt P w v i x y) (k : Kept w w') : EnAt P w' v i x y:=by
 obtain ⟨a1,c1,a2,c2,e,h1,h2⟩:=h
 exact ⟨a1,c1,a2,c2,e,h1.kept k,h2.kept k⟩
theorem EnAt.imp {P Q : Nat → Prop} {w : World} {v : Value} {i : Int} {x y : Nm} (h : EnAt P w v i x y) (hpq : ∀ b,P b → Q b) : EnAt Q w v i x y:=by
 obtain ⟨a1,c1,a2,c2,e,h1,h2⟩:=h
 exact ⟨a1,c1,a2,c2,e,h1.imp hpq,h2.imp hpq⟩
theorem EnAt.here {P : Nat → Prop} {w : World} {v : Value} {i : Int} {x y : Nm} (h : EnAt P w v i x y) : EnAt (fun b => P b ∧ b < w.heap.size) w v i x y:=by
 obtain ⟨a1,c1,a2,c2,e,h1,h2⟩:=h
 exact ⟨a1,c1,a2,c2,e,h1.here,h2.here⟩
theorem EnAt.put {P : Nat → Prop} {w : World} {v : Value} {i : Int} {x y : Nm} (h : EnAt P w v i x y) (b : Nat) (hp : ∀ c,P c → c ≠ b) (v0 v1 v2 v3 v4 v5 v6 : Value) : EnAt P (put7 w b v0 v1 v2 v3 v4 v5 v6) v i x y:=by
 obtain ⟨a1,c1,a2,c2,e,h1,h2⟩:=h
 exact ⟨a1,c1,a2,c2,e,rlp7 h1 b hp _ _ _ _ _ _ _,rlp7 h2 b hp _ _ _ _ _ _ _⟩
theorem EnAt.shape {P : Nat → Prop} {w : World} {v : Value} {i : Int} {x y : Nm} (h : EnAt P w v i x y) : ∃ n1 a1 l1 c1 x1 n2 a2 l2 c2 x2,v = env i n1 a1 l1 c1 x1 n2 a2 l2 c2 x2:=by
 obtain ⟨a1,c1,a2,c2,e,-⟩:=h
 exact ⟨_,_,_,_,_,_,_,_,_,_,e⟩
theorem RNp.en {P : Nat → Prop} {w : World} {v1 v2 : Value} {x y : Nm} (i : Int) {n1 n2 : Bool} {a1 a2 : Option Addr} {l1 c1 l2 c2 : Nat} {x1 x2 : Int} (h1 : RNp P w (.agg #[.bool n1,.slice a1 l1 c1,.int .i64 x1]) x) (h2 : RNp P w (.agg #[.bool n2,.slice a2 l2 c2,.int .i64 x2]) y) : EnAt P w (env i n1 a1 l1 c1 x1 n2 a2 l2 c2 x2) i x y:=by
 obtain ⟨b1,d1,e1,r1⟩:=h1.shape
 obtain ⟨b2,d2,e2,r2⟩:=h2.shape
 cases e1
 cases e2
 exact ⟨_,_,_,_,rfl,r1,r2⟩
abbrev nilEnd : Obj:=.cells #[.int .i64 0,.bool false,.slice none 0 0,.int .i64 0,.bool false,.slice none 0 0,.int .i64 0] 120
/-- one -/
def oneN5 : Nm:=⟨false,[1],0⟩
theorem one_nrm : nrm false 1 0 = oneN5:=by
 unfold nrm oneN5
 rw [if_neg (by decide),show tzn 1 = 0 by decide,show digs (1 / 2 ^ 0) = [1] by decide,show wrap64 (0 + ((0 : Nat) : Int)) = 0 by unfold wrap64; omega]
theorem one5 (w : World) : Calls Tryz.prog 139 #[.int .i64 1] w fun e w' => (∃ r,e = .returned r ∧ RNp (Fresh w.heap.size) w' r oneN5) ∧ Kept w w':=by
 have:=whole_pos w 1 (by decide)
 rw [one_nrm] at this
 exact this
theorem rwhole_walk (n1 : Bool) (a1 : Option Addr) (l1 c1 : Nat) (x1 : Int) (w : World) :
  Calls Tryz.prog 96 #[.agg #[.bool n1,.slice a1 l1 c1,.int .i64 x1]] w fun e w' => ∃ (n2 : Bool) (a2 : Option Addr) (l2 c2 : Nat) (x2 : Int) (u : World) (v0 v1 v2 v3 v4 v5 v6 : Value),e = .returned (env 0 n1 a1 l1 c1 x1 n2 a2 l2 c2 x2) ∧ Kept w u ∧ RNp (Fresh (w.heap.size + 2)) u (.agg #[.bool n2,.slice a2 l2 c2,.int .i64 x2]) oneN5 ∧ w' = put7 u (w.heap.size + 1) v0 v1 v2 v3 v4 v5 v6:=by
 obtain ⟨X,hX⟩ : ∃ X,X = (w.alloc (.cells #[.bool n1,.slice a1 l1 c1,.int .i64 x1] 26)).alloc nilEnd:=⟨_,rfl⟩
 have hK : Kept w X:=by rw [hX]; exact ((Kept.refl w).alloc _ _).alloc _ _
 have hXs : X.heap.size = w.heap.size + 2:=by rw [hX]; simp
 have hP : P7 X (w.heap.size + 1) (.int .i64 0) (.bool false) (.slice none 0 0) (.int .i64 0) (.bool false) (.slice none 0 0) (.int .i64 0):=by
  rw [hX]
  have:=P7.new (w.alloc (.cells #[.bool n1,.slice a1 l1 c1,.int .i64 x1] 26)) (.int .i64 0) (.bool false) (.slice none 0 0) (.int .i64 0) (.bool false) (.slice none 0 0) (.int .i64 0) 120
  simpa using this
 obtain ⟨B,hB⟩ : ∃ B,B = w.heap.size:=⟨_,rfl⟩
 obtain ⟨C,hC⟩ : ∃ B,B = w.heap.size + 1:=⟨_,rfl⟩
 have HB : Hid (∀ u,Kept X u → Kept X u ∧ u.cell? ⟨B,0,none⟩ = some (.bool n1) ∧ u.cell? ⟨B,1,none⟩ = some (.slice a1 l1 c1) ∧ u.cell? ⟨B,2,none⟩ = some (.int .i64 x1)):=fun u k => ⟨k,(k.below.cell (by rw [hXs]; dsimp only; omega)).trans (by rw [hX,hB]; simp [go_sem]),(k.below.cell (by rw [hXs]; dsimp only; omega)).trans (by rw [hX,hB]; simp [go_sem]),(k.below.cell (by rw [hXs]; dsimp only; omega)).trans (by rw [hX,hB]; simp [go_sem])⟩
 have KW : Hid (∀ u,Kept X u → Calls Tryz.prog 139 #[.int .i64 1] u fun e w' => ∃ (n2 : Bool) (a2 : Option Addr) (l2 c2 : Nat) (x2 : Int),e = .returned (.agg #[.bool n2,.slice a2 l2 c2,.int .i64 x2]) ∧ RNp (Fresh (w.heap.size + 2)) w' (.agg #[.bool n2,.slice a2 l2 c2,.int .i64 x2]) oneN5 ∧ Kept u w'):=fun u k => by
  refine (one5 u).mono ?_
  rintro e w' ⟨⟨r,rfl,hr⟩,k'⟩
  obtain ⟨n2,a2,l2,c2,x2,rfl⟩:=hr.shape5
  exact ⟨n2,a2,l2,c2,x2,rfl,hr.imp (fun b hb => by have:=k.below.size; simp only [Fresh] at hb ⊢; omega),k'⟩
 rw [← hC] at hP
 rw [← hC]
 go_enter Tryz.func96,Tryz.ntmps96
 go_upto_region 1 with fail
 rw [← hX,← hC,← hB]
 clear hX hB hC hXs
 refine wp_region_late [3] (fun u => Kept X u ∧ u.cell? ⟨B,0,none⟩ = some (.bool n1) ∧ u.cell? ⟨B,1,none⟩ = some (.slice a1 l1 c1) ∧ u.cell? ⟨B,2,none⟩ = some (.int .i64 x1)) (by kernel_rfl) (HB.out _ (Kept.refl X).drew) (fun hHeld => ?_)
 refine tkD (i:=0) (v:=?_) rfl hHeld ?_
 (try simp only [Act.put,zA,zB,zC,zD,zE,zF])
 refine wpAnyD_step (i:=1) (by kernel_rfl) rfl (fun K hK9 => ?_)
 go_simp
 go_wp2_with fail
 refine (KW.out _ hHeld.1).mono ?_
 rintro e u2 ⟨n2,a2,l2,c2,x2,rfl,hn2,k2⟩
 refine hK9.out _ _ (HB.out _ (hHeld.1.trans k2)) (fun hH2 => ?_)
 clear hK9 K
 (try simp only [Act.put,zA,zB,zC,zD,zE,zF])
 refine tkD (i:=2) (v:=?_) rfl hH2 ?_
 (try simp only [Act.put,zA,zB,zC,zD,zE,zF])
 obtain ⟨p0,p1,p2,p3,p4,p5,p6,pf⟩:=hP.kept hH2.1
 refine wpAnyD_late (i:=3) (by kernel_rfl) rfl rfl (fun K hK9 => ?_)
 go_simp
 refine hK9.out _ _ ?_
 clear hK9 K
 (try simp only [Act.put,zA,zB,zC,zD,zE,zF])
 refine wpAnyD_done (by kernel_rfl) ?_ _
 (try simp only [Act.put,zA,zB,zC,zD,zE,zF])
 go_wp2_with fail
 exact bodyPost_ret (v:=env 0 n1 a1 l1 c1 x1 n2 a2 l2 c2 x2) (by simp [results,Tryz.results96,go_sem,p0,p1,p2,p3,p4,p5,p6]) rfl ⟨n2,a2,l2,c2,x2,u2,_,_,_,_,_,_,_,rfl,hK.trans hH2.1,hn2,rfl⟩
theorem rwhole_any (P : Nat → Prop) (w : World) (x : Nm) (v : Value) (h : RNp P w v x) : Calls Tryz.prog 96 #[v] w fun e w' => (∃ r,e = .returned r ∧ EnAt (PL P w) w' r 0 x oneN5) ∧ Kept w w':=by
 obtain ⟨a1,c1,rfl,hr⟩:=h.shape
 refine (rwhole_walk _ a1 _ c1 _ w).mono ?_
 rintro e w' ⟨n2,a2,l2,c2,x2,u,v0,v1,v2,v3,v4,v5,v6,rfl,k,h2,rfl⟩
 obtain ⟨b2,d2,e2,r2⟩:=h2.shape
 cases e2
 refine ⟨⟨_,rfl,a1,c1,_,_,rfl,?_,?_⟩,kept7 k (by omega) _ _ _ _ _ _ _⟩
 ·exact (rlp7 (hr.here.kept k) _ (fun b hb => by have:=hb.2; omega) _ _ _ _ _ _ _).imp (fun b hb => .inl hb.1)
 ·exact (rlp7 r2 _ (fun b hb => by simp only [Fresh] at hb; omega) _ _ _ _ _ _ _).imp (fun b hb => .inr (by simp only [Fresh] at hb; omega))
theorem rof_inf (b n s : Int) (w : World)
  (KC : Hid (∀ u,Calls Tryz.prog 92 #[.int .i64 b,.int .i64 n] u fun e w' => e = .returned (.int .i64 3) ∧ Kept u w'))
  (KS : Hid (∀ u,Calls Tryz.prog 138 #[.int .i64 b,.int .i64 n] u fun e w' => e = .returned (.int .i64 s) ∧ Kept u w')) :
  Calls Tryz.prog 88 #[.int .i64 b,.int .i64 n] w fun e w' => (∃ r,e = .returned r ∧ EnAt (Fresh w.heap.size) w' r s ⟨false,[],0⟩ oneN5) ∧ Kept w w':=by
 obtain ⟨X,hX⟩ : ∃ X,X = w.alloc nilEnd:=⟨_,rfl⟩
 have hK : Kept w X:=by rw [hX]; exact (Kept.refl w).alloc _ _
 have hXs : X.heap.size = w.heap.size + 1:=by rw [hX]; simp
 have hP : P7 X w.heap.size (.int .i64 0) (.bool false) (.slice none 0 0) (.int .i64 0) (.bool false) (.slice none 0 0) (.int .i64 0):=by rw [hX]; exact P7.new w _ _ _ _ _ _ _ _
 obtain ⟨C,hC⟩ : ∃ B,B = w.heap.size:=⟨_,rfl⟩
 rw [← hC] at hP
 have KW : Hid (∀ u,Kept X u → Calls Tryz.prog 139 #[.int .i64 1] u fun e w' => ∃ (n2 : Bool) (a2 : Option Addr) (l2 c2 : Nat) (x2 : Int),e = .returned (.agg #[.bool n2,.slice a2 l2 c2,.int .i64 x2]) ∧ RNp (Fresh (w.heap.size + 1)) w' (.agg #[.bool n2,.slice a2 l2 c2,.int .i64 x2]) oneN5 ∧ Kept u w'):=fun u k => by
  refine (one5 u).mono ?_
  rintro e w' ⟨⟨r,rfl,hr⟩,k'⟩
  obtain ⟨n2,a2,l2,c2,x2,rfl⟩:=hr.shape5
  exact ⟨n2,a2,l2,c2,x2,rfl,hr.imp (fun b hb => by have:=k.below.size; simp only [Fresh] at hb ⊢; omega),k'⟩
 go_enter Tryz.func88,Tryz.ntmps88
 go_upto_region 1 with fail
 rw [← hX,← hC]
 have oC : Hid (w.heap.size ≤ C ∧ C < w.heap.size + 1):=(show _ ∧ _ from by omega)
 clear hX hXs hC
 go_wp2_with (first | (go_at_call 92; refine (KC.out _).mono ?_; rintro e w1 ⟨rfl,k1⟩) | (go_at_call 138; refine (KS.out _).mono ?_; rintro e w2 ⟨rfl,k2⟩) | (go_at_call 139; refine (KW.out _ (k1.trans k2)).mono ?_; rintro e w3 ⟨n2,a2,l2,c2,x2,rfl,hn2,k3⟩; obtain ⟨p0,p1,p2,p3,p4,p5,p6,pf⟩:=hP.kept ((k1.trans k2).trans k3)))
 have kk:=hK.trans ((k1.trans k2).trans k3)
 refine bodyPost_ret (v:=env s false none 0 0 0 n2 a2 l2 c2 x2) (by simp [results,Tryz.results88,go_sem,p0,p1,p2,p3,p4,p5,p6]) rfl ⟨⟨_,rfl,?_⟩,kept7 kk oC.out.1 _ _ _ _ _ _ _⟩
 have h0 : RNp (Fresh (w.heap.size + 1)) w3 (.agg #[.bool false,.slice none 0 0,.int .i64 0]) ⟨false,[],0⟩:=⟨_,rfl,RLp.nil _ _⟩
 exact ((h0.en (v1:=.bool true) (v2:=.bool true) s hn2).put C (fun c hc => by have:=oC.out; simp only [Fresh] at hc; omega) _ _ _ _ _ _ _).imp (fun c hc => by simp only [Fresh] at hc ⊢; omega)
theorem rof_fin (b n c : Int) (r : Nm) (hc3 : (c == 3) = false) (w : World)
  (KC : Hid (∀ u,Calls Tryz.prog 92 #[.int .i64 b,.int .i64 n] u fun e w' => e = .returned (.int .i64 c) ∧ Kept u w'))
  (KE : Hid (∀ u,Calls Tryz.prog 97 #[.int .i64 b,.int .i64 n] u fun e w' => (∃ v,e = .returned v ∧ RNp (Fresh u.heap.size) w' v r) ∧ Kept u w')) :
  Calls Tryz.prog 88 #[.int .i64 b,.int .i64 n] w fun e w' => (∃ r1,e = .returned r1 ∧ EnAt (Fresh w.heap.size) w' r1 0 r oneN5) ∧ Kept w w':=by
 obtain ⟨X,hX⟩ : ∃ X,X = w.alloc nilEnd:=⟨_,rfl⟩
 have hK : Kept w X:=by rw [hX]; exact (Kept.refl w).alloc _ _
 have hXs : X.heap.size = w.heap.size + 1:=by rw [hX]; simp
 have hP : P7 X w.heap.size (.int .i64 0) (.bool false) (.slice none 0 0) (.int .i64 0) (.bool false) (.slice none 0 0) (.int .i64 0):=by rw [hX]; exact P7.new w _ _ _ _ _ _ _ _
 obtain ⟨C,hC⟩ : ∃ B,B = w.heap.size:=⟨_,rfl⟩
 rw [← hC] at hP
 have KE' : Hid (∀ u,Kept X u → Calls Tryz.prog 97 #[.int .i64 b,.int .i64 n] u fun e w' => ∃ v,e = .returned v ∧ RNp (Fresh (w.heap.size + 1)) w' v r ∧ Kept u w'):=fun u k => by
  refine (KE.out u).mono ?_
  rintro e w' ⟨⟨v,rfl,hr⟩,k'⟩
  exact ⟨v,rfl,hr.imp (fun b hb => by have:=k.below.size; simp only [Fresh] at hb ⊢; omega),k'⟩
 have KW : Hid (∀ u v,Kept X u → RNp (Fresh (w.heap.size + 1)) u v r → Calls Tryz.prog 96 #[v] u fun e w' => ∃ (n1 : Bool) (a1 : Option Addr) (l1 c1 : Nat) (x1 : Int) (n2 : Bool) (a2 : Option Addr) (l2 c2 : Nat) (x2 : Int),e = .returned (env 0 n1 a1 l1 c1 x1 n2 a2 l2 c2 x2) ∧ EnAt (Fresh (w.heap.size + 1)) w' (env 0 n1 a1 l1 c1 x1 n2 a2 l2 c2 x2) 0 r oneN5 ∧ Kept u w'):=fun u v k h => by
  refine (rwhole_any _ u r v h).mono ?_
  rintro e w' ⟨⟨q,rfl,hq⟩,k'⟩
  have hq2:=hq.imp (Q:=Fresh (w.heap.size + 1)) (fun b hb => by
   have:=k.below.size
   simp only [PL,Fresh] at hb ⊢
   omega)
  obtain ⟨n1,a1,l1,c1,x1,n2,a2,l2,c2,x2,rfl⟩:=hq.shape
  exact ⟨n1,a1,l1,c1,x1,n2,a2,l2,c2,x2,rfl,hq2,k'⟩
 clear KE
 go_enter Tryz.func88,Tryz.ntmps88
 go_upto_region 1 with fail
 rw [← hX,← hC]
 have oC : Hid (w.heap.size ≤ C ∧ C < w.heap.size + 1):=(show _ ∧ _ from by omega)
 clear hX hXs hC
 go_wp2_with (first | (go_at_call 92; refine (KC.out _).mono ?_; rintro e w1 ⟨rfl,k1⟩) | (go_at_call 97; refine (KE'.out _ k1).mono ?_; rintro e w2 ⟨v,rfl,hv,k2⟩) | (go_at_call 96; refine (KW.out _ _ (k1.trans k2) hv).mono ?_; rintro e w3 ⟨n1,a1,l1,c1,x1,n2,a2,l2,c2,x2,rfl,hE,k3⟩; obtain ⟨p0,p1,p2,p3,p4,p5,p6,pf⟩:=hP.kept ((k1.trans k2).trans k3)))
 have kk:=hK.trans ((k1.trans k2).trans k3)
 exact bodyPost_ret (v:=env 0 n1 a1 l1 c1 x1 n2 a2 l2 c2 x2) (by simp [results,Tryz.results88,go_sem,p0,p1,p2,p3,p4,p5,p6]) rfl ⟨⟨_,rfl,(hE.put C (fun c hc => by have:=oC.out; simp only [Fresh] at hc; omega) _ _ _ _ _ _ _).imp (fun c hc => by simp only [Fresh] at hc ⊢; omega)⟩,kept7 kk oC.out.1 _ _ _ _ _ _ _⟩
end Go.Proofs.YtdhimkpfnhoagaaGreatDoor
