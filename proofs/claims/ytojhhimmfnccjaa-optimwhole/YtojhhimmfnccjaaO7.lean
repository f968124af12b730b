/- Two variables that are made at any moment of a region; lists and blocks apart. -/
import Derived.Test.YtojhhimmfnccjaaO6
namespace Go.Proofs.Ytojhhimmfnccjaa
open Go.ChangeShapes Go.WideShapes Go.ChangeAt Go.RowKit Ieee
set_option linter.unusedVariables false
set_option linter.unusedSimpArgs false

structure J2 (X : World) (vs vs' : List Value) (Y : World → Prop) (x y : Option Value) (u : World) : Prop where
  k : Kept X u
  v : Y u
  n1 : VbB X u vs x
  n2 : VbB X u vs' y
  d : ∀ v v', x = some v → y = some v' → v ≠ v'
theorem J2.next {X : World} {vs vs' : List Value} {Y Y' : World → Prop} {x y : Option Value} {u u' : World} (h : J2 X vs vs' Y x y u) (k : Kept u u') (hv : Y' u') : J2 X vs vs' Y' x y u' := ⟨h.k.trans k, hv, h.n1.kept k, h.n2.kept k, h.d⟩
theorem J2.start {X : World} {vs vs' : List Value} {Y : World → Prop} {u : World} (k : Kept X u) (hv : Y u) : J2 X vs vs' Y none none u := ⟨k, hv, (fun v hv => by cases hv), (fun v hv => by cases hv), (fun v v' hv => by cases hv)⟩
theorem ptr_ne {a b : Nat} (h : a ≠ b) : Value.pointer (some ⟨a, 0, none⟩) ≠ .pointer (some ⟨b, 0, none⟩) := fun e => by cases e; exact h rfl
theorem j2_flt {T T' : TypeId} {vs vs' : List Value} (hr : Alw T vs) (hr' : Alw T' vs') {ops : Array Oper} {Q : Exit → Act → World → Prop} {S : World → Prop} {i1 i2 : Nat} {d1 d2 : Tmp} {o1 o2 : Oper} {X : World} {Y : World → Prop} (sY : StE Y) (hS : ∀ u, Kept X u → S u)
    (h1 : ops[i1]? = some o1) (h2 : ops[i2]? = some o2) (e1 : o1.op = .alloc T ∧ o1.dst = some d1 ∧ o1.guard = none) (e2 : o2.op = .alloc T' ∧ o2.dst = some d2 ∧ o2.guard = none) : Flt Try.prog ops Q S i1 i2 d1 d2 (J2 X vs vs' Y) := by
  refine ⟨fun x y w h => hS w h.k, fun K a y w hI h => ?_, fun K a x w hI h => ?_⟩
  · refine wpOp_step h1 fun K' hK => ?_
    have hw : Region.wanted o1 (yielded ops a.tmps) = true := by unfold Region.wanted; rw [e1.2.2]
    rw [if_pos hw]
    refine hr o1 e1.1 _ _ _ _ (hK _ _ ?_)
    rw [e1.2.1]
    have k : Kept w (w.alloc (.cells vs.toArray T)) := (Kept.refl w).alloc _ _
    refine h _ _ ⟨hI.k.trans k, sY _ _ k hI.v, (fun v hv => by cases hv; exact ⟨_, rfl, hI.k.below.size, Bk.new w vs _⟩), hI.n2.kept k, fun v v' hv hv' => ?_⟩
    cases hv
    obtain ⟨b, rfl, -, hb⟩ := hI.n2 _ hv'
    exact ptr_ne (Nat.ne_of_gt hb.lt)
  · refine wpOp_step h2 fun K' hK => ?_
    have hw : Region.wanted o2 (yielded ops a.tmps) = true := by unfold Region.wanted; rw [e2.2.2]
    rw [if_pos hw]
    refine hr' o2 e2.1 _ _ _ _ (hK _ _ ?_)
    rw [e2.2.1]
    have k : Kept w (w.alloc (.cells vs'.toArray T')) := (Kept.refl w).alloc _ _
    refine h _ _ ⟨hI.k.trans k, sY _ _ k hI.v, hI.n1.kept k, (fun v hv => by cases hv; exact ⟨_, rfl, hI.k.below.size, Bk.new w vs' _⟩), fun v v' hv hv' => ?_⟩
    cases hv'
    obtain ⟨b, rfl, -, hb⟩ := hI.n1 _ hv
    exact ptr_ne (Nat.ne_of_lt hb.lt)
theorem FL_ex' {α : Type} {P : Program} {md : Region.Mode} {ops : Array Oper} {Q : Exit → Act → World → Prop} {S : World → Prop} {D : List Nat} {i1 i2 : Nat} {d1 d2 : Tmp} {fuel : Nat} {L : Array Bool} {a : Act} {I : α → Option Value → Option Value → World → Prop} (h : ∀ z, FL P md ops Q S D i1 i2 d1 d2 fuel L a (I z)) : FL P md ops Q S D i1 i2 d1 d2 fuel L a (fun x y w => ∃ z, I z x y w) := fun x y w ⟨z, hz⟩ => h z x y w hz
theorem own_ne {w : World} {g cap b i : Nat} {L : List Int} {vs : List Value} {v : Value} (ho : Own w g cap L) (hL : L.length = cap) (hb : Bk w b vs) (hv : vs[i]? = some v) (hn : ∀ z, v ≠ .int .i64 z) : g ≠ b := fun e => by
  subst e
  have hc := hb.c i v hv
  have ho' := ho
  obtain ⟨cur, hg, h1, h2, h3, h4⟩ := ho
  rw [cell_of_row w g i cur 3 (0, 0) hg] at hc
  have hi : i < cur.size := by
    rcases Nat.lt_or_ge i cur.size with h | h
    · exact h
    · rw [Array.getElem?_eq_none h] at hc; cases hc
  have hd := ho'.cell i (by omega)
  rw [cell_of_row w g i cur 3 (0, 0) hg, hc] at hd
  cases hd
  exact hn _ rfl
set_option maxRecDepth 100000 in
theorem alw_m : Alw 25 [.int .i64 0, .int .i64 0, .int .i64 0, .slice none 0 0] := fun o ho a w K Q h => by
  unfold Oper.wp execOp
  rw [ho]
  have e : (Instr.alloc 25 true (.tuple #[])).run Try.prog w = .ok (.pointer (some ⟨w.heap.size, 0, none⟩)) (w.alloc (.cells ([.int .i64 0, .int .i64 0, .int .i64 0, .slice none 0 0] : List Value).toArray 25)) := by go_simp
  simp only [go_sem, e, Oper.upon]
  exact h
set_option maxRecDepth 100000 in
theorem alw_c : Alw 64 [.slice none 0 0, .slice none 0 0, .slice none 0 0] := fun o ho a w K Q h => by
  unfold Oper.wp execOp
  rw [ho]
  have e : (Instr.alloc 64 true (.tuple #[])).run Try.prog w = .ok (.pointer (some ⟨w.heap.size, 0, none⟩)) (w.alloc (.cells ([.slice none 0 0, .slice none 0 0, .slice none 0 0] : List Value).toArray 64)) := by go_simp
  simp only [go_sem, e, Oper.upon]
  exact h
set_option maxRecDepth 100000 in
theorem alw_e64 : Alw 82 [.float .f64 0, .float .f64 0, .float .f64 0, .float .f64 0] := fun o ho a w K Q h => by
  unfold Oper.wp execOp
  rw [ho]
  have e : (Instr.alloc 82 true (.tuple #[])).run Try.prog w = .ok (.pointer (some ⟨w.heap.size, 0, none⟩)) (w.alloc (.cells ([.float .f64 0, .float .f64 0, .float .f64 0, .float .f64 0] : List Value).toArray 82)) := by go_simp
  simp only [go_sem, e, Oper.upon]
  exact h
set_option maxRecDepth 100000 in
theorem alw_e32 : Alw 72 [.float .f32 0, .float .f32 0, .float .f32 0, .float .f32 0] := fun o ho a w K Q h => by
  unfold Oper.wp execOp
  rw [ho]
  have e : (Instr.alloc 72 true (.tuple #[])).run Try.prog w = .ok (.pointer (some ⟨w.heap.size, 0, none⟩)) (w.alloc (.cells ([.float .f32 0, .float .f32 0, .float .f32 0, .float .f32 0] : List Value).toArray 72)) := by go_simp
  simp only [go_sem, e, Oper.upon]
  exact h
end Go.Proofs.Ytojhhimmfnccjaa
