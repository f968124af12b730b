/- Package start: what makes the elements of a parameter: its variables. Regions that draw their order,in which one operation floats (it waits for nothing) beside a chain of others. -/
import Derived.Test.YtcfcbabbgcckhaaGreatDoorWa39
import Derived.Test.YtcfcbabbgcckhaaGreatDoorWa40
namespace Go.Proofs.YtcfcbabbgcckhaaGreatDoor
open Go.ChangeShapes Go.WideShapes Go.ChangeAt Go.RowKit
set_option maxHeartbeats 16000000
set_option maxRecDepth 100000
set_option linter.unusedVariables false
set_option linter.unusedSimpArgs false
theorem uniforms_any (s t a : Int) (w : World) : Calls Tryz.prog 88 #[.agg #[.int .i64 s,.int .i64 t,.int .i64 a]] w fun e w' => ∃ D,e = .returned (ufn D) ∧ w.heap.size ≤ D ∧ Dw w' D s t a ∧ Kept w w':=by
 go_enter Tryz.func88,Tryz.ntmps88
 go_wp2_with fail
 go_ret
 exact ⟨_,rfl,Nat.le_refl _,dw_new w s t a _,(Kept.refl w).alloc _ _⟩
/-- a variable that holds a function,made at any moment -/
def FnB (X u : World) (x : Option Value) : Prop:=∀ v,x = some v → ∃ b,v = .pointer (some ⟨b,0,none⟩) ∧ X.heap.size ≤ b ∧ u.cell? ⟨b,0,none⟩ = some .nilFunc ∧ ∀ o,u.frozen? ⟨b,o,none⟩ = false
/-- a variable that holds a number,made at any moment -/
def NuB (X u : World) (x : Option Value) : Prop:=∀ v,x = some v → ∃ b,v = .pointer (some ⟨b,0,none⟩) ∧ X.heap.size ≤ b ∧ N3 u b (.bool false) (.slice none 0 0) (.int .i64 0)
structure JE (X : World) (Y : World → Prop) (x y : Option Value) (u : World) : Prop where
 k : Kept X u
 v : Y u
 f : FnB X u x
 n : NuB X u y
def StE (Y : World → Prop) : Prop:=∀ u u',Kept u u' → Y u → Y u'
theorem FnB.kept {X u u' : World} {x : Option Value} (h : FnB X u x) (k : Kept u u') : FnB X u' x:=fun v hv => by
 obtain ⟨b,e,hb,hc,hf⟩:=h v hv
 exact ⟨b,e,hb,(k.below.cell (p:=⟨b,0,none⟩) (cell_ltU hc)).trans hc,fun o => (k.frozen _).trans (hf o)⟩
theorem NuB.kept {X u u' : World} {x : Option Value} (h : NuB X u x) (k : Kept u u') : NuB X u' x:=fun v hv => by
 obtain ⟨b,e,hb,hc⟩:=h v hv
 exact ⟨b,e,hb,hc.kept k⟩
theorem JE.next {X : World} {Y Y' : World → Prop} {x y : Option Value} {u u' : World} (h : JE X Y x y u) (k : Kept u u') (hv : Y' u') : JE X Y' x y u':=⟨h.k.trans k,hv,h.f.kept k,h.n.kept k⟩
theorem JE.start {X : World} {Y : World → Prop} {u : World} (k : Kept X u) (hv : Y u) : JE X Y none none u:=⟨k,hv,(fun v hv => by cases hv),(fun v hv => by cases hv)⟩
theorem fn_alloc {o : Oper} (ho : o.op = .alloc 115) {a : Act} {w : World} {K : Act → World → Prop} {Q : Exit → Act → World → Prop}
  (h : K (a.put o.dst (.pointer (some ⟨w.heap.size,0,none⟩))) (w.alloc (.cells #[.nilFunc] 115))) : Oper.wp Tryz.prog o a w K Q:=by
 unfold Oper.wp execOp
 rw [ho]
 have e : (Instr.alloc 115 true (.tuple #[])).run Tryz.prog w = .ok (.pointer (some ⟨w.heap.size,0,none⟩)) (w.alloc (.cells #[.nilFunc] 115)):=by go_simp
 simp only [go_sem,e,Oper.upon]
 exact h
theorem nu_alloc {o : Oper} (ho : o.op = .alloc 74) {a : Act} {w : World} {K : Act → World → Prop} {Q : Exit → Act → World → Prop}
  (h : K (a.put o.dst (.pointer (some ⟨w.heap.size,0,none⟩))) (w.alloc (.cells #[.bool false,.slice none 0 0,.int .i64 0] 74))) : Oper.wp Tryz.prog o a w K Q:=by
 unfold Oper.wp execOp
 rw [ho]
 have e : (Instr.alloc 74 true (.tuple #[])).run Tryz.prog w = .ok (.pointer (some ⟨w.heap.size,0,none⟩)) (w.alloc (.cells #[.bool false,.slice none 0 0,.int .i64 0] 74)):=by go_simp
 simp only [go_sem,e,Oper.upon]
 exact h
theorem je_flt {ops : Array Oper} {Q : Exit → Act → World → Prop} {S : World → Prop} {i1 i2 : Nat} {d1 d2 : Tmp} {o1 o2 : Oper} {X : World} {Y : World → Prop} (sY : StE Y) (hS : ∀ u,Kept X u → S u)
  (h1 : ops[i1]? = some o1) (h2 : ops[i2]? = some o2) (e1 : o1.op = .alloc 115 ∧ o1.dst = some d1 ∧ o1.guard = none) (e2 : o2.op = .alloc 74 ∧ o2.dst = some d2 ∧ o2.guard = none) : Flt Tryz.prog ops Q S i1 i2 d1 d2 (JE X Y):=by
 refine ⟨fun x y w h => hS w h.k,fun K a y w hI h => ?_,fun K a x w hI h => ?_⟩
 ·refine wpOp_step h1 fun K' hK => ?_
  have hw : Region.wanted o1 (yielded ops a.tmps) = true:=by unfold Region.wanted; rw [e1.2.2]
  rw [if_pos hw]
  refine fn_alloc e1.1 (hK _ _ ?_)
  rw [e1.2.1]
  have k : Kept w (w.alloc (.cells #[.nilFunc] 115)):=(Kept.refl w).alloc _ _
  exact h _ _ ⟨hI.k.trans k,sY _ _ k hI.v,fun v hv => by cases hv; exact ⟨_,rfl,hI.k.below.size,by simp [go_sem],fun o => by simp [go_sem]⟩,hI.n.kept k⟩
 ·refine wpOp_step h2 fun K' hK => ?_
  have hw : Region.wanted o2 (yielded ops a.tmps) = true:=by unfold Region.wanted; rw [e2.2.2]
  rw [if_pos hw]
  refine nu_alloc e2.1 (hK _ _ ?_)
  rw [e2.2.1]
  have k : Kept w (w.alloc (.cells #[.bool false,.slice none 0 0,.int .i64 0] 74)):=(Kept.refl w).alloc _ _
  exact h _ _ ⟨hI.k.trans k,sY _ _ k hI.v,hI.f.kept k,fun v hv => by cases hv; exact ⟨_,rfl,hI.k.below.size,N3.new w _ _ _ _⟩⟩
theorem FL_ex {α : Type} {P : Program} {md : Region.Mode} {ops : Array Oper} {Q : Exit → Act → World → Prop} {S : World → Prop} {D : List Nat} {i1 i2 : Nat} {d1 d2 : Tmp} {fuel : Nat} {L : Array Bool} {a : Act} {I : α → Option Value → Option Value → World → Prop} (h : ∀ z,FL P md ops Q S D i1 i2 d1 d2 fuel L a (I z)) : FL P md ops Q S D i1 i2 d1 d2 fuel L a (fun x y w => ∃ z,I z x y w):=fun x y w ⟨z,hz⟩ => h z x y w hz
theorem FL_eq {P : Program} {md : Region.Mode} {ops : Array Oper} {Q : Exit → Act → World → Prop} {S : World → Prop} {D : List Nat} {i1 i2 : Nat} {d1 d2 : Tmp} {fuel : Nat} {L : Array Bool} {a : Act} {p : Prop} {I : Option Value → Option Value → World → Prop} (h : p → FL P md ops Q S D i1 i2 d1 d2 fuel L a I) : FL P md ops Q S D i1 i2 d1 d2 fuel L a (fun x y w => p ∧ I x y w):=fun x y w ⟨hp,hI⟩ => h hp x y w hI
end Go.Proofs.YtcfcbabbgcckhaaGreatDoor

namespace Go.Proofs.YtcfcbabbgcckhaaGreatDoor
open Go
set_option maxHeartbeats 16000000
set_option maxRecDepth 100000
set_option linter.unusedVariables false
section
variable {P : Program} {ops : Array Oper} {Q : Exit → Act → World → Prop} {md : Region.Mode} {S : World → Prop} {D : List Nat} {i1 : Nat} {d1 : Tmp}
def F1 (P : Program) (md : Region.Mode) (ops : Array Oper) (Q : Exit → Act → World → Prop) (S : World → Prop) (D : List Nat) (i1 : Nat) (d1 : Tmp) (fuel : Nat) (L : Array Bool) (a : Act) (I : Option Value → World → Prop) : Prop :=
 ∀ x w,I x w → wpAnyD P md ops Q S D (fuel + fnn x) (fls x i1 L) (fpt x d1 a) w
def rdy1 (md : Region.Mode) (ops : Array Oper) (L : Array Bool) (cs : List Nat) (i1 : Nat) : Bool :=
 [(none : Option Value),some FU].all fun x => ((cs ++ fwo x i1).isEmpty || !(Region.ready md ops (fls x i1 L)).isEmpty) && (Region.ready md ops (fls x i1 L)).all fun j => (cs ++ fwo x i1).contains j
theorem rdy1_spec {L : Array Bool} {cs : List Nat} (h : rdy1 md ops L cs i1 = true) (x : Option Value) :
  (cs ++ fwo x i1 ≠ [] → Region.ready md ops (fls x i1 L) ≠ []) ∧ ∀ j ∈ Region.ready md ops (fls x i1 L),j ∈ cs ++ fwo x i1:=by
 unfold rdy1 at h
 have h1:=List.all_eq_true.1 h _ (map_in x)
 rw [← fwo_any,← fls_any] at h1
 rw [Bool.and_eq_true,List.all_eq_true] at h1
 refine ⟨fun hn he => ?_,fun j hj => by simpa using h1.2 j hj⟩
 rw [he] at h1
 have h2:=h1.1
 simp only [List.isEmpty_nil,Bool.not_true,Bool.or_false,List.isEmpty_iff] at h2
 exact hn h2
structure Flt1 (P : Program) (ops : Array Oper) (Q : Exit → Act → World → Prop) (S : World → Prop) (i1 : Nat) (d1 : Tmp) (I : Option Value → World → Prop) : Prop where
 keeps : ∀ x w,I x w → S w
 one : ∀ (K : Act → World → Prop) a w,I none w → (∀ x w',I (some x) w' → K (a.put (some d1) x) w') → wpOp P ops Q i1 K a w
theorem F1_step {c : Nat} {o : Oper} {fuel : Nat} {L : Array Bool} {a : Act} {I : Option Value → World → Prop} {I' : Value → Option Value → World → Prop}
  (ho : ops[c]? = some o) (hr : rdy1 md ops L [c] i1 = true) (hn : (c != i1) = true) (hd : (o.dst != some d1) = true) (hF : Flt1 P ops Q S i1 d1 I) (hS' : ∀ v x w,I' v x w → S w)
  (hc : ∀ x w,I x w → ∀ K' : Act → World → Prop,Shut (∀ v A w',A = (fpt x d1 a).put o.dst v → I' v x w' → K' A w') →
   if Region.wanted o (yielded ops (fpt x d1 a).tmps) = true then Oper.wp P o (fpt x d1 a) w K' Q else K' ((fpt x d1 a).put o.dst undef) w)
  (h : ∀ v,F1 P md ops Q S D i1 d1 fuel (L.setIfInBounds c true) (a.put o.dst v) (I' v)) : F1 P md ops Q S D i1 d1 (fuel + 1) L a I:=by
 rw [bne_iff_ne] at hn hd
 have hstep : ∀ x w,I x w → wpOp P ops Q c (fun a' w' => (D.contains c = false → S w') ∧ wpAnyD P md ops Q S D (fuel + fnn x) ((fls x i1 L).setIfInBounds c true) a' w') (fpt x d1 a) w:=fun x w hI => by
  refine wpOp_step ho fun K' hK => hc x w hI K' fun v A w' hA hI' => hK _ _ ⟨fun _ => hS' v x w' hI',?_⟩
  rw [hA,fls_set hn,fpt_put hd]
  exact h v x w' hI'
 have h1 : ∀ x w,I (some x) w → wpAnyD P md ops Q S D (fuel + 1) (fls (some x) i1 L) (fpt (some x) d1 a) w:=fun x w hI => by
  obtain ⟨g1,g2⟩:=rdy1_spec hr (some x)
  refine ⟨fun he => absurd he (g1 (by simp [fwo])),fun j hj => ?_⟩
  have hj' : j = c:=by simpa [fwo] using g2 j hj
  subst hj'
  exact hstep (some x) w hI
 have h0 : ∀ w,I none w → wpAnyD P md ops Q S D (fuel + 1 + 1) (fls none i1 L) (fpt none d1 a) w:=fun w hI => by
  obtain ⟨g1,g2⟩:=rdy1_spec hr none
  refine ⟨fun he => absurd he (g1 (by simp [fwo])),fun j hj => ?_⟩
  have hj' : j = c ∨ j = i1:=by simpa [fwo] using g2 j hj
  rcases hj' with rfl | rfl
  ·exact hstep none w hI
  ·exact hF.one _ _ _ hI fun x w' hI' => ⟨fun _ => hF.keeps _ _ hI',h1 x w' hI'⟩
 intro x w hI
 cases x with
 | none => exact h0 w hI
 | some x => exact h1 x w hI
theorem F1_end {fuel : Nat} {L : Array Bool} {a : Act} {I : Option Value → World → Prop} (hr : rdy1 md ops L [] i1 = true ∨ Region.ready md ops L = [i1]) (hF : Flt1 P ops Q S i1 d1 I)
  (h : ∀ x w,I (some x) w → wpAnyD P md ops Q S D fuel (L.setIfInBounds i1 true) (a.put (some d1) x) w) : F1 P md ops Q S D i1 d1 fuel L a I:=by
 have h0 : ∀ w,I none w → wpAnyD P md ops Q S D (fuel + 1) (fls none i1 L) (fpt none d1 a) w:=fun w hI => by
  have hr' : Region.ready md ops (fls none i1 L) = [i1] ∨ (Region.ready md ops (fls none i1 L) ≠ [] ∧ ∀ j ∈ Region.ready md ops (fls none i1 L),j = i1):=by
   rcases hr with hr | hr
   ·obtain ⟨g1,g2⟩:=rdy1_spec hr none
    exact .inr ⟨g1 (by simp [fwo]),fun j hj => by simpa [fwo] using g2 j hj⟩
   ·exact .inl hr
  have h2 : ∀ j ∈ Region.ready md ops (fls none i1 L),j = i1:=by
   rcases hr' with hr' | hr'
   ·intro j hj; rw [hr'] at hj; simpa using hj
   ·exact hr'.2
  have h3 : Region.ready md ops (fls none i1 L) ≠ []:=by
   rcases hr' with hr' | hr'
   ·rw [hr']; simp
   ·exact hr'.1
  refine ⟨fun he => absurd he h3,fun j hj => ?_⟩
  obtain rfl:=h2 j hj
  exact hF.one _ _ _ hI fun x w' hI' => ⟨fun _ => hF.keeps _ _ hI',h x w' hI'⟩
 intro x w hI
 cases x with
 | none => exact h0 w hI
 | some x => exact h x w hI
theorem F1_in {fuel : Nat} {L : Array Bool} {a : Act} {I : Option Value → World → Prop} {w : World} (hI : I none w) (h : F1 P md ops Q S D i1 d1 fuel L a I) : wpAnyD P md ops Q S D (fuel + 1) L a w:=h none w hI
end
end Go.Proofs.YtcfcbabbgcckhaaGreatDoor
