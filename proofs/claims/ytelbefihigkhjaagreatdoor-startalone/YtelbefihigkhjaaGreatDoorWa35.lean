/- Regions that draw their order,in which two operations float (they wait for nothing) beside a chain of others. Package start: what makes the elements of a parameter: its variables. -/
import Derived.Test.YtelbefihigkhjaaGreatDoorWa26
import Derived.Test.YtelbefihigkhjaaGreatDoorWa34
namespace Go.Proofs.YtelbefihigkhjaaGreatDoor
open Go
set_option maxHeartbeats 16000000
set_option maxRecDepth 100000
set_option linter.unusedVariables false
section
variable {P : Program} {ops : Array Oper} {Q : Exit → Act → World → Prop} {md : Region.Mode} {S : World → Prop} {D : List Nat} {i1 i2 : Nat} {d1 d2 : Tmp}
def FU : Value:=undef
def fls (x : Option Value) (i : Nat) (l : Array Bool) : Array Bool:=match x with
 | none => l
 | some _ => l.setIfInBounds i true
def fpt (x : Option Value) (d : Tmp) (a : Act) : Act:=match x with
 | none => a
 | some v => a.put (some d) v
def fnn (x : Option Value) : Nat:=match x with
 | none => 1
 | some _ => 0
def fwo (x : Option Value) (i : Nat) : List Nat:=match x with
 | none => [i]
 | some _ => []
theorem fls_set {x : Option Value} {i c : Nat} {l : Array Bool} (h : c ≠ i) : (fls x i l).setIfInBounds c true = fls x i (l.setIfInBounds c true):=by
 cases x with
 | none => rfl
 | some _ => exact Array.setIfInBounds_comm _ _ (Ne.symm h)
theorem fpt_put {x : Option Value} {d : Tmp} {a : Act} {e : Option Tmp} {v : Value} (h : e ≠ some d) : (fpt x d a).put e v = fpt x d (a.put e v):=by
 cases x with
 | none => rfl
 | some u => exact Act.put_comm a u v (fun d' hd he => h (by cases hd; exact he))
/-- What may float has come or not: whichever,the rest goes well. -/
def FL (P : Program) (md : Region.Mode) (ops : Array Oper) (Q : Exit → Act → World → Prop) (S : World → Prop) (D : List Nat) (i1 i2 : Nat) (d1 d2 : Tmp) (fuel : Nat) (L : Array Bool) (a : Act) (I : Option Value → Option Value → World → Prop) : Prop :=
 ∀ x y w,I x y w → wpAnyD P md ops Q S D (fuel + fnn x + fnn y) (fls y i2 (fls x i1 L)) (fpt y d2 (fpt x d1 a)) w
/-- Only c and what floats may come up. -/
def rdy (md : Region.Mode) (ops : Array Oper) (L : Array Bool) (cs : List Nat) (i1 i2 : Nat) : Bool :=
 [(none : Option Value),some FU].all fun x => [(none : Option Value),some FU].all fun y => ((cs ++ fwo x i1 ++ fwo y i2).isEmpty || !(Region.ready md ops (fls y i2 (fls x i1 L))).isEmpty) && (Region.ready md ops (fls y i2 (fls x i1 L))).all fun j => (cs ++ fwo x i1 ++ fwo y i2).contains j
theorem fls_any {x : Option Value} {i : Nat} {l : Array Bool} : fls x i l = fls (x.map fun _ => FU) i l:=by cases x <;> rfl
theorem fwo_any {x : Option Value} {i : Nat} : fwo x i = fwo (x.map fun _ => FU) i:=by cases x <;> rfl
theorem map_in (x : Option Value) : (x.map fun _ => FU) ∈ [(none : Option Value),some FU]:=by cases x <;> simp
theorem rdy_spec {L : Array Bool} {cs : List Nat} (h : rdy md ops L cs i1 i2 = true) (x y : Option Value) :
  (cs ++ fwo x i1 ++ fwo y i2 ≠ [] → Region.ready md ops (fls y i2 (fls x i1 L)) ≠ []) ∧ ∀ j ∈ Region.ready md ops (fls y i2 (fls x i1 L)),j ∈ cs ++ fwo x i1 ++ fwo y i2:=by
 unfold rdy at h
 have h1:=List.all_eq_true.1 (List.all_eq_true.1 h _ (map_in x)) _ (map_in y)
 rw [← fwo_any,← fwo_any,← fls_any,← fls_any (x:=x)] at h1
 rw [Bool.and_eq_true,List.all_eq_true] at h1
 refine ⟨fun hn he => ?_,fun j hj => by simpa using h1.2 j hj⟩
 rw [he] at h1
 have h2:=h1.1
 simp only [List.isEmpty_nil,Bool.not_true,Bool.or_false,List.isEmpty_iff] at h2
 exact hn h2
/-- What the floating ones do,whenever they come. -/
structure Flt (P : Program) (ops : Array Oper) (Q : Exit → Act → World → Prop) (S : World → Prop) (i1 i2 : Nat) (d1 d2 : Tmp) (I : Option Value → Option Value → World → Prop) : Prop where
 keeps : ∀ x y w,I x y w → S w
 one : ∀ (K : Act → World → Prop) a y w,I none y w → (∀ x w',I (some x) y w' → K (a.put (some d1) x) w') → wpOp P ops Q i1 K a w
 two : ∀ (K : Act → World → Prop) a x w,I x none w → (∀ y w',I x (some y) w' → K (a.put (some d2) y) w') → wpOp P ops Q i2 K a w
/-- The next of the chain. -/
theorem FL_step {c : Nat} {o : Oper} {fuel : Nat} {L : Array Bool} {a : Act} {I : Option Value → Option Value → World → Prop} {I' : Value → Option Value → Option Value → World → Prop}
  (ho : ops[c]? = some o) (hr : rdy md ops L [c] i1 i2 = true) (hn : (c != i1 && c != i2 && i1 != i2) = true) (hd : (o.dst != some d1 && o.dst != some d2 && d1 != d2) = true) (hF : Flt P ops Q S i1 i2 d1 d2 I) (hS' : ∀ v x y w,I' v x y w → S w)
  (hc : ∀ x y w,I x y w → ∀ K' : Act → World → Prop,Shut (∀ v A w',A = (fpt y d2 (fpt x d1 a)).put o.dst v → I' v x y w' → K' A w') →
   if Region.wanted o (yielded ops (fpt y d2 (fpt x d1 a)).tmps) = true then Oper.wp P o (fpt y d2 (fpt x d1 a)) w K' Q else K' ((fpt y d2 (fpt x d1 a)).put o.dst undef) w)
  (h : ∀ v,FL P md ops Q S D i1 i2 d1 d2 fuel (L.setIfInBounds c true) (a.put o.dst v) (I' v)) : FL P md ops Q S D i1 i2 d1 d2 (fuel + 1) L a I:=by
 simp only [Bool.and_eq_true,bne_iff_ne] at hn hd
 obtain ⟨⟨hn1,hn2⟩,hn3⟩:=hn
 obtain ⟨⟨hd1,hd2⟩,hd3⟩:=hd
 have hstep : ∀ x y w,I x y w → wpOp P ops Q c (fun a' w' => (D.contains c = false → S w') ∧ wpAnyD P md ops Q S D (fuel + fnn x + fnn y) ((fls y i2 (fls x i1 L)).setIfInBounds c true) a' w') (fpt y d2 (fpt x d1 a)) w:=fun x y w hI => by
  refine wpOp_step ho fun K' hK => hc x y w hI K' fun v A w' hA hI' => hK _ _ ⟨fun _ => hS' v x y w' hI',?_⟩
  rw [hA,fls_set hn2,fls_set hn1,fpt_put hd2,fpt_put hd1]
  exact h v x y w' hI'
 have h11 : ∀ x y w,I (some x) (some y) w → wpAnyD P md ops Q S D (fuel + 1) (fls (some y) i2 (fls (some x) i1 L)) (fpt (some y) d2 (fpt (some x) d1 a)) w:=fun x y w hI => by
  obtain ⟨g1,g2⟩:=rdy_spec hr (some x) (some y)
  refine ⟨fun he => absurd he (g1 (by simp [fwo])),fun j hj => ?_⟩
  have hj' : j = c:=by simpa [fwo] using g2 j hj
  subst hj'
  exact hstep (some x) (some y) w hI
 have h10 : ∀ x w,I (some x) none w → wpAnyD P md ops Q S D (fuel + 1 + 1) (fls none i2 (fls (some x) i1 L)) (fpt none d2 (fpt (some x) d1 a)) w:=fun x w hI => by
  obtain ⟨g1,g2⟩:=rdy_spec hr (some x) none
  refine ⟨fun he => absurd he (g1 (by simp [fwo])),fun j hj => ?_⟩
  have hj' : j = c ∨ j = i2:=by simpa [fwo] using g2 j hj
  rcases hj' with rfl | rfl
  ·exact hstep (some x) none w hI
  ·exact hF.two _ _ _ _ hI fun y w' hI' => ⟨fun _ => hF.keeps _ _ _ hI',h11 x y w' hI'⟩
 have h01 : ∀ y w,I none (some y) w → wpAnyD P md ops Q S D (fuel + 1 + 1) (fls (some y) i2 (fls none i1 L)) (fpt (some y) d2 (fpt none d1 a)) w:=fun y w hI => by
  obtain ⟨g1,g2⟩:=rdy_spec hr none (some y)
  refine ⟨fun he => absurd he (g1 (by simp [fwo])),fun j hj => ?_⟩
  have hj' : j = c ∨ j = i1:=by simpa [fwo] using g2 j hj
  rcases hj' with rfl | rfl
  ·exact hstep none (some y) w hI
  ·refine hF.one _ _ _ _ hI fun x w' hI' => ⟨fun _ => hF.keeps _ _ _ hI',?_⟩
   rw [fls_set hn3,fpt_put (by simpa using hd3)]
   exact h11 x y w' hI'
 have h00 : ∀ w,I none none w → wpAnyD P md ops Q S D (fuel + 1 + 1 + 1) (fls none i2 (fls none i1 L)) (fpt none d2 (fpt none d1 a)) w:=fun w hI => by
  obtain ⟨g1,g2⟩:=rdy_spec hr none none
  refine ⟨fun he => absurd he (g1 (by simp [fwo])),fun j hj => ?_⟩
  have hj' : j = c ∨ j = i1 ∨ j = i2:=by simpa [fwo] using g2 j hj
  rcases hj' with rfl | rfl | rfl
  ·exact hstep none none w hI
  ·exact hF.one _ _ _ _ hI fun x w' hI' => ⟨fun _ => hF.keeps _ _ _ hI',h10 x w' hI'⟩
  ·exact hF.two _ _ _ _ hI fun y w' hI' => ⟨fun _ => hF.keeps _ _ _ hI',h01 y w' hI'⟩
 intro x y w hI
 cases x with
 | none => cases y with
  | none => exact h00 w hI
  | some y => exact h01 y w hI
 | some x => cases y with
  | none => exact h10 x w hI
  | some y => exact h11 x y w hI
def rdyE (md : Region.Mode) (ops : Array Oper) (L : Array Bool) (i1 i2 : Nat) : Bool :=
 [((none : Option Value),(none : Option Value)),(none,some FU),(some FU,none)].all fun p => !(Region.ready md ops (fls p.2 i2 (fls p.1 i1 L))).isEmpty && (Region.ready md ops (fls p.2 i2 (fls p.1 i1 L))).all fun j => (fwo p.1 i1 ++ fwo p.2 i2).contains j
theorem rdyE_spec {L : Array Bool} (h : rdyE md ops L i1 i2 = true) (x y : Option Value) (hxy : x = none ∨ y = none) :
  Region.ready md ops (fls y i2 (fls x i1 L)) ≠ [] ∧ ∀ j ∈ Region.ready md ops (fls y i2 (fls x i1 L)),j ∈ fwo x i1 ++ fwo y i2:=by
 unfold rdyE at h
 have hm : ((x.map fun _ => FU),(y.map fun _ => FU)) ∈ [((none : Option Value),(none : Option Value)),(none,some FU),(some FU,none)]:=by
  rcases hxy with rfl | rfl
  ·cases y <;> simp
  ·cases x <;> simp
 have h1:=List.all_eq_true.1 h _ hm
 dsimp only at h1
 rw [← fwo_any,← fwo_any,← fls_any,← fls_any (x:=x)] at h1
 rw [Bool.and_eq_true,List.all_eq_true] at h1
 refine ⟨fun he => ?_,fun j hj => by simpa using h1.2 j hj⟩
 rw [he] at h1
 exact absurd h1.1 (by simp)
/-- The chain is at its end: what floats comes now at the latest. -/
theorem FL_end {fuel : Nat} {L : Array Bool} {a : Act} {I : Option Value → Option Value → World → Prop}
  (hr : rdyE md ops L i1 i2 = true) (hn : (i1 != i2) = true) (hd : (d1 != d2) = true) (hF : Flt P ops Q S i1 i2 d1 d2 I)
  (h : ∀ x y w,I (some x) (some y) w → wpAnyD P md ops Q S D fuel ((L.setIfInBounds i1 true).setIfInBounds i2 true) ((a.put (some d1) x).put (some d2) y) w) : FL P md ops Q S D i1 i2 d1 d2 fuel L a I:=by
 rw [bne_iff_ne] at hn hd
 have h11 : ∀ x y w,I (some x) (some y) w → wpAnyD P md ops Q S D fuel (fls (some y) i2 (fls (some x) i1 L)) (fpt (some y) d2 (fpt (some x) d1 a)) w:=h
 have h10 : ∀ x w,I (some x) none w → wpAnyD P md ops Q S D (fuel + 1) (fls none i2 (fls (some x) i1 L)) (fpt none d2 (fpt (some x) d1 a)) w:=fun x w hI => by
  obtain ⟨g1,g2⟩:=rdyE_spec hr (some x) none (.inr rfl)
  refine ⟨fun he => absurd he g1,fun j hj => ?_⟩
  have hj' : j = i2:=by simpa [fwo] using g2 j hj
  subst hj'
  exact hF.two _ _ _ _ hI fun y w' hI' => ⟨fun _ => hF.keeps _ _ _ hI',h11 x y w' hI'⟩
 have h01 : ∀ y w,I none (some y) w → wpAnyD P md ops Q S D (fuel + 1) (fls (some y) i2 (fls none i1 L)) (fpt (some y) d2 (fpt none d1 a)) w:=fun y w hI => by
  obtain ⟨g1,g2⟩:=rdyE_spec hr none (some y) (.inl rfl)
  refine ⟨fun he => absurd he g1,fun j hj => ?_⟩
  have hj' : j = i1:=by simpa [fwo] using g2 j hj
  subst hj'
  refine hF.one _ _ _ _ hI fun x w' hI' => ⟨fun _ => hF.keeps _ _ _ hI',?_⟩
  rw [fls_set hn,fpt_put (by simpa using hd)]
  exact h11 x y w' hI'
 have h00 : ∀ w,I none none w → wpAnyD P md ops Q S D (fuel + 1 + 1) (fls none i2 (fls none i1 L)) (fpt none d2 (fpt none d1 a)) w:=fun w hI => by
  obtain ⟨g1,g2⟩:=rdyE_spec hr none none (.inl rfl)
  refine ⟨fun he => absurd he g1,fun j hj => ?_⟩
  have hj' : j = i1 ∨ j = i2:=by simpa [fwo] using g2 j hj
  rcases hj' with rfl | rfl
  ·exact hF.one _ _ _ _ hI fun x w' hI' => ⟨fun _ => hF.keeps _ _ _ hI',h10 x w' hI'⟩
  ·exact hF.two _ _ _ _ hI fun y w' hI' => ⟨fun _ => hF.keeps _ _ _ hI',h01 y w' hI'⟩
 intro x y w hI
 cases x with
 | none => cases y with
  | none => exact h00 w hI
  | some y => exact h01 y w hI
 | some x => cases y with
  | none => exact h10 x w hI
  | some y => exact h11 x y w hI
end
theorem FL_in {P : Program} {md : Region.Mode} {ops : Array Oper} {Q : Exit → Act → World → Prop} {S : World → Prop} {D : List Nat} {i1 i2 : Nat} {d1 d2 : Tmp} {fuel : Nat} {L : Array Bool} {a : Act} {I : Option Value → Option Value → World → Prop} {w : World} (hI : I none none w) (h : FL P md ops Q S D i1 i2 d1 d2 fuel L a I) : wpAnyD P md ops Q S D (fuel + 2) L a w:=h none none w hI
end Go.Proofs.YtelbefihigkhjaaGreatDoor

namespace Go.Proofs.YtelbefihigkhjaaGreatDoor
open Go.ChangeShapes Go.WideShapes Go.ChangeAt Go.RowKit
set_option maxHeartbeats 16000000
set_option maxRecDepth 100000
set_option linter.unusedVariables false
set_option linter.unusedSimpArgs false
theorem uniforms_any (s t a : Int) (w : World) : Calls Tryz.prog 101 #[.agg #[.int .i64 s,.int .i64 t,.int .i64 a]] w fun e w' => ∃ D,e = .returned (ufn D) ∧ w.heap.size ≤ D ∧ Dw w' D s t a ∧ Kept w w':=by
 go_enter Tryz.func101,Tryz.ntmps101
 go_wp2_with fail
 go_ret
 exact ⟨_,rfl,Nat.le_refl _,dw_new w s t a _,(Kept.refl w).alloc _ _⟩
/-- a variable that holds a function,made at any moment -/
def FnB (X u : World) (x : Option Value) : Prop:=∀ v,x = some v → ∃ b,v = .pointer (some ⟨b,0,none⟩) ∧ X.heap.size ≤ b ∧ u.cell? ⟨b,0,none⟩ = some .nilFunc ∧ ∀ o,u.frozen? ⟨b,o,none⟩ = false
/-- a variable that holds a number,made at any moment -/
def NuB (X u : World) (x : Option Value) : Prop:=∀ v,x = some v → ∃ b,v = .pointer (some ⟨b,0,none⟩) ∧ X.heap.size ≤ b ∧ N3 u b (.bool false) (.slice none 0 0) (.int .i64 0)
structure JE (X : World) (Y : World → Prop) (x y : Option Value) (u : World) : Prop where
 k : Kept X u
 v : Y u
 f : FnB X u x
 n : NuB X u y
def StE (Y : World → Prop) : Prop:=∀ u u',Kept u u' → Y u → Y u'
theorem FnB.kept {X u u' : World} {x : Option Value} (h : FnB X u x) (k : Kept u u') : FnB X u' x:=fun v hv => by
 obtain ⟨b,e,hb,hc,hf⟩:=h v hv
 exact ⟨b,e,hb,(k.below.cell (p:=⟨b,0,none⟩) (cell_ltU hc)).trans hc,fun o => (k.frozen _).trans (hf o)⟩
theorem NuB.kept {X u u' : World} {x : Option Value} (h : NuB X u x) (k : Kept u u') : NuB X u' x:=fun v hv => by
 obtain ⟨b,e,hb,hc⟩:=h v hv
 exact ⟨b,e,hb,hc.kept k⟩
theorem JE.next {X : World} {Y Y' : World → Prop} {x y : Option Value} {u u' : World} (h : JE X Y x y u) (k : Kept u u') (hv : Y' u') : JE X Y' x y u':=⟨h.k.trans k,hv,h.f.kept k,h.n.kept k⟩
theorem JE.start {X : World} {Y : World → Prop} {u : World} (k : Kept X u) (hv : Y u) : JE X Y none none u:=⟨k,hv,(fun v hv => by cases hv),(fun v hv => by cases hv)⟩
theorem fn_alloc {o : Oper} (ho : o.op = .alloc 128) {a : Act} {w : World} {K : Act → World → Prop} {Q : Exit → Act → World → Prop}
  (h : K (a.put o.dst (.pointer (some ⟨w.heap.size,0,none⟩))) (w.alloc (.cells #[.nilFunc] 128))) : Oper.wp Tryz.prog o a w K Q:=by
 unfold Oper.wp execOp
 rw [ho]
 have e : (Instr.alloc 128 true (.tuple #[])).run Tryz.prog w = .ok (.pointer (some ⟨w.heap.size,0,none⟩)) (w.alloc (.cells #[.nilFunc] 128)):=by go_simp
 simp only [go_sem,e,Oper.upon]
 exact h
theorem nu_alloc {o : Oper} (ho : o.op = .alloc 78) {a : Act} {w : World} {K : Act → World → Prop} {Q : Exit → Act → World → Prop}
  (h : K (a.put o.dst (.pointer (some ⟨w.heap.size,0,none⟩))) (w.alloc (.cells #[.bool false,.slice none 0 0,.int .i64 0] 78))) : Oper.wp Tryz.prog o a w K Q:=by
 unfold Oper.wp execOp
 rw [ho]
 have e : (Instr.alloc 78 true (.tuple #[])).run Tryz.prog w = .ok (.pointer (some ⟨w.heap.size,0,none⟩)) (w.alloc (.cells #[.bool false,.slice none 0 0,.int .i64 0] 78)):=by go_simp
 simp only [go_sem,e,Oper.upon]
 exact h
theorem je_flt {ops : Array Oper} {Q : Exit → Act → World → Prop} {S : World → Prop} {i1 i2 : Nat} {d1 d2 : Tmp} {o1 o2 : Oper} {X : World} {Y : World → Prop} (sY : StE Y) (hS : ∀ u,Kept X u → S u)
  (h1 : ops[i1]? = some o1) (h2 : ops[i2]? = some o2) (e1 : o1.op = .alloc 128 ∧ o1.dst = some d1 ∧ o1.guard = none) (e2 : o2.op = .alloc 78 ∧ o2.dst = some d2 ∧ o2.guard = none) : Flt Tryz.prog ops Q S i1 i2 d1 d2 (JE X Y):=by
 refine ⟨fun x y w h => hS w h.k,fun K a y w hI h => ?_,fun K a x w hI h => ?_⟩
 ·refine wpOp_step h1 fun K' hK => ?_
  have hw : Region.wanted o1 (yielded ops a.tmps) = true:=by unfold Region.wanted; rw [e1.2.2]
  rw [if_pos hw]
  refine fn_alloc e1.1 (hK _ _ ?_)
  rw [e1.2.1]
  have k : Kept w (w.alloc (.cells #[.nilFunc] 128)):=(Kept.refl w).alloc _ _
  exact h _ _ ⟨hI.k.trans k,sY _ _ k hI.v,fun v hv => by cases hv; exact ⟨_,rfl,hI.k.below.size,by simp [go_sem],fun o => by simp [go_sem]⟩,hI.n.kept k⟩
 ·refine wpOp_step h2 fun K' hK => ?_
  have hw : Region.wanted o2 (yielded ops a.tmps) = true:=by unfold Region.wanted; rw [e2.2.2]
  rw [if_pos hw]
  refine nu_alloc e2.1 (hK _ _ ?_)
  rw [e2.2.1]
  have k : Kept w (w.alloc (.cells #[.bool false,.slice none 0 0,.int .i64 0] 78)):=(Kept.refl w).alloc _ _
  exact h _ _ ⟨hI.k.trans k,sY _ _ k hI.v,hI.f.kept k,fun v hv => by cases hv; exact ⟨_,rfl,hI.k.below.size,N3.new w _ _ _ _⟩⟩
theorem FL_ex {α : Type} {P : Program} {md : Region.Mode} {ops : Array Oper} {Q : Exit → Act → World → Prop} {S : World → Prop} {D : List Nat} {i1 i2 : Nat} {d1 d2 : Tmp} {fuel : Nat} {L : Array Bool} {a : Act} {I : α → Option Value → Option Value → World → Prop} (h : ∀ z,FL P md ops Q S D i1 i2 d1 d2 fuel L a (I z)) : FL P md ops Q S D i1 i2 d1 d2 fuel L a (fun x y w => ∃ z,I z x y w):=fun x y w ⟨z,hz⟩ => h z x y w hz
theorem FL_eq {P : Program} {md : Region.Mode} {ops : Array Oper} {Q : Exit → Act → World → Prop} {S : World → Prop} {D : List Nat} {i1 i2 : Nat} {d1 d2 : Tmp} {fuel : Nat} {L : Array Bool} {a : Act} {p : Prop} {I : Option Value → Option Value → World → Prop} (h : p → FL P md ops Q S D i1 i2 d1 d2 fuel L a I) : FL P md ops Q S D i1 i2 d1 d2 fuel L a (fun x y w => p ∧ I x y w):=fun x y w ⟨hp,hI⟩ => h hp x y w hI
end Go.Proofs.YtelbefihigkhjaaGreatDoor
