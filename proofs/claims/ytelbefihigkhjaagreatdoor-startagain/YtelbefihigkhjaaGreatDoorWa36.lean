/- Regions that draw their order,in which one operation floats (it waits for nothing) beside a chain of others. -/
import Derived.Test.YtelbefihigkhjaaGreatDoorWa35
namespace Go.Proofs.YtelbefihigkhjaaGreatDoor
open Go
set_option maxHeartbeats 16000000
set_option maxRecDepth 100000
set_option linter.unusedVariables false
section
variable {P : Program} {ops : Array Oper} {Q : Exit → Act → World → Prop} {md : Region.Mode} {S : World → Prop} {D : List Nat} {i1 : Nat} {d1 : Tmp}
def F1 (P : Program) (md : Region.Mode) (ops : Array Oper) (Q : Exit → Act → World → Prop) (S : World → Prop) (D : List Nat) (i1 : Nat) (d1 : Tmp) (fuel : Nat) (L : Array Bool) (a : Act) (I : Option Value → World → Prop) : Prop :=
 ∀ x w,I x w → wpAnyD P md ops Q S D (fuel + fnn x) (fls x i1 L) (fpt x d1 a) w
def rdy1 (md : Region.Mode) (ops : Array Oper) (L : Array Bool) (cs : List Nat) (i1 : Nat) : Bool :=
 [(none : Option Value),some FU].all fun x => ((cs ++ fwo x i1).isEmpty || !(Region.ready md ops (fls x i1 L)).isEmpty) && (Region.ready md ops (fls x i1 L)).all fun j => (cs ++ fwo x i1).contains j
theorem rdy1_spec {L : Array Bool} {cs : List Nat} (h : rdy1 md ops L cs i1 = true) (x : Option Value) :
  (cs ++ fwo x i1 ≠ [] → Region.ready md ops (fls x i1 L) ≠ []) ∧ ∀ j ∈ Region.ready md ops (fls x i1 L),j ∈ cs ++ fwo x i1:=by
 unfold rdy1 at h
 have h1:=List.all_eq_true.1 h _ (map_in x)
 rw [← fwo_any,← fls_any] at h1
 rw [Bool.and_eq_true,List.all_eq_true] at h1
 refine ⟨fun hn he => ?_,fun j hj => by simpa using h1.2 j hj⟩
 rw [he] at h1
 have h2:=h1.1
 simp only [List.isEmpty_nil,Bool.not_true,Bool.or_false,List.isEmpty_iff] at h2
 exact hn h2
structure Flt1 (P : Program) (ops : Array Oper) (Q : Exit → Act → World → Prop) (S : World → Prop) (i1 : Nat) (d1 : Tmp) (I : Option Value → World → Prop) : Prop where
 keeps : ∀ x w,I x w → S w
 one : ∀ (K : Act → World → Prop) a w,I none w → (∀ x w',I (some x) w' → K (a.put (some d1) x) w') → wpOp P ops Q i1 K a w
theorem F1_step {c : Nat} {o : Oper} {fuel : Nat} {L : Array Bool} {a : Act} {I : Option Value → World → Prop} {I' : Value → Option Value → World → Prop}
  (ho : ops[c]? = some o) (hr : rdy1 md ops L [c] i1 = true) (hn : (c != i1) = true) (hd : (o.dst != some d1) = true) (hF : Flt1 P ops Q S i1 d1 I) (hS' : ∀ v x w,I' v x w → S w)
  (hc : ∀ x w,I x w → ∀ K' : Act → World → Prop,Shut (∀ v A w',A = (fpt x d1 a).put o.dst v → I' v x w' → K' A w') →
   if Region.wanted o (yielded ops (fpt x d1 a).tmps) = true then Oper.wp P o (fpt x d1 a) w K' Q else K' ((fpt x d1 a).put o.dst undef) w)
  (h : ∀ v,F1 P md ops Q S D i1 d1 fuel (L.setIfInBounds c true) (a.put o.dst v) (I' v)) : F1 P md ops Q S D i1 d1 (fuel + 1) L a I:=by
 rw [bne_iff_ne] at hn hd
 have hstep : ∀ x w,I x w → wpOp P ops Q c (fun a' w' => (D.contains c = false → S w') ∧ wpAnyD P md ops Q S D (fuel + fnn x) ((fls x i1 L).setIfInBounds c true) a' w') (fpt x d1 a) w:=fun x w hI => by
  refine wpOp_step ho fun K' hK => hc x w hI K' fun v A w' hA hI' => hK _ _ ⟨fun _ => hS' v x w' hI',?_⟩
  rw [hA,fls_set hn,fpt_put hd]
  exact h v x w' hI'
 have h1 : ∀ x w,I (some x) w → wpAnyD P md ops Q S D (fuel + 1) (fls (some x) i1 L) (fpt (some x) d1 a) w:=fun x w hI => by
  obtain ⟨g1,g2⟩:=rdy1_spec hr (some x)
  refine ⟨fun he => absurd he (g1 (by simp [fwo])),fun j hj => ?_⟩
  have hj' : j = c:=by simpa [fwo] using g2 j hj
  subst hj'
  exact hstep (some x) w hI
 have h0 : ∀ w,I none w → wpAnyD P md ops Q S D (fuel + 1 + 1) (fls none i1 L) (fpt none d1 a) w:=fun w hI => by
  obtain ⟨g1,g2⟩:=rdy1_spec hr none
  refine ⟨fun he => absurd he (g1 (by simp [fwo])),fun j hj => ?_⟩
  have hj' : j = c ∨ j = i1:=by simpa [fwo] using g2 j hj
  rcases hj' with rfl | rfl
  ·exact hstep none w hI
  ·exact hF.one _ _ _ hI fun x w' hI' => ⟨fun _ => hF.keeps _ _ hI',h1 x w' hI'⟩
 intro x w hI
 cases x with
 | none => exact h0 w hI
 | some x => exact h1 x w hI
theorem F1_end {fuel : Nat} {L : Array Bool} {a : Act} {I : Option Value → World → Prop} (hr : rdy1 md ops L [] i1 = true ∨ Region.ready md ops L = [i1]) (hF : Flt1 P ops Q S i1 d1 I)
  (h : ∀ x w,I (some x) w → wpAnyD P md ops Q S D fuel (L.setIfInBounds i1 true) (a.put (some d1) x) w) : F1 P md ops Q S D i1 d1 fuel L a I:=by
 have h0 : ∀ w,I none w → wpAnyD P md ops Q S D (fuel + 1) (fls none i1 L) (fpt none d1 a) w:=fun w hI => by
  have hr' : Region.ready md ops (fls none i1 L) = [i1] ∨ (Region.ready md ops (fls none i1 L) ≠ [] ∧ ∀ j ∈ Region.ready md ops (fls none i1 L),j = i1):=by
   rcases hr with hr | hr
   ·obtain ⟨g1,g2⟩:=rdy1_spec hr none
    exact .inr ⟨g1 (by simp [fwo]),fun j hj => by simpa [fwo] using g2 j hj⟩
   ·exact .inl hr
  have h2 : ∀ j ∈ Region.ready md ops (fls none i1 L),j = i1:=by
   rcases hr' with hr' | hr'
   ·intro j hj; rw [hr'] at hj; simpa using hj
   ·exact hr'.2
  have h3 : Region.ready md ops (fls none i1 L) ≠ []:=by
   rcases hr' with hr' | hr'
   ·rw [hr']; simp
   ·exact hr'.1
  refine ⟨fun he => absurd he h3,fun j hj => ?_⟩
  obtain rfl:=h2 j hj
  exact hF.one _ _ _ hI fun x w' hI' => ⟨fun _ => hF.keeps _ _ hI',h x w' hI'⟩
 intro x w hI
 cases x with
 | none => exact h0 w hI
 | some x => exact h x w hI
theorem F1_in {fuel : Nat} {L : Array Bool} {a : Act} {I : Option Value → World → Prop} {w : World} (hI : I none w) (h : F1 P md ops Q S D i1 d1 fuel L a I) : wpAnyD P md ops Q S D (fuel + 1) L a w:=h none w hI
end
end Go.Proofs.YtelbefihigkhjaaGreatDoor
