/- Package disk: what a step turns of a disk. -/
import Derived.Test.YthaiejmajhmahabDLI
namespace Go.Proofs.Ythaiejmajhmahab
open Go.ChangeShapes Go.WideShapes Go.ChangeAt Go.RowKit Go.Maps
set_option linter.unusedVariables false
set_option linter.unusedSimpArgs false

theorem Mp.ne_cells {w : World} {m n : Nat} {M : Nms} (h : Mp w m n M) {b : Nat} {c : Array Value} {t : TypeId} (hb : w.heap[b]? = some (.cells c t (0, 0))) : b ≠ m := by
  rintro rfl
  obtain ⟨es, cl, e⟩ := h.isMap
  rw [hb] at e
  cases e
/-- Which blocks the parts of a disk lie in: none of them is two things at once. -/
def up {α : Type} (r : Nat → α) (f : Nat) (v : α) : Nat → α := fun g => if g = f then v else r g
theorem up_same {α : Type} (r : Nat → α) (f : Nat) (v : α) : up r f v f = v := if_pos rfl
theorem up_other {α : Type} (r : Nat → α) {f g : Nat} (v : α) (h : g ≠ f) : up r f v g = r g := if_neg h
theorem DSt.mono {w : World} {O O' : Nat → Prop} {B : Nat} {a : Da} {d : Dk} (h : DSt w O B a d) (hO : ∀ b, O b → O' b) (hl : ∀ b, O' b → b < w.heap.size) : DSt w O' B a d := h.onb hO hl fun _ _ => rfl
theorem Ow.lt {w w' : World} {O : Nat → Prop} {b : Nat} (hO : ∀ b, O b → b < w.heap.size) (hs : w.heap.size ≤ w'.heap.size) (h : Ow O w w' b) : b < w'.heap.size := by
  rcases h with h | h
  · exact Nat.lt_of_lt_of_le (hO b h) hs
  · exact h.2
/-- Other names. -/
theorem DSt.names {w w' : World} {O : Nat → Prop} {B : Nat} {a : Da} {d : Dk} (h : DSt w O B a d) (k : KX (fun i => i = a.mN) w w') (n' : Nat) (M' : Nms) (hM : Mp w' a.mN n' M') (hin : ∀ s f, M' s = some f → a.Fs f ∧ s.size ≤ 32) :
    DSt w' O B a { d with nN := M', nn := n' } := by
  have hw := h.wks
  have kb : ∀ (b : Nat) (c : Array Value) (t : TypeId), w.heap[b]? = some (.cells c t (0, 0)) → w'.heap[b]? = w.heap[b]? := fun b c t hb => k.block b (lt_of_block hb) (h.mN.ne_cells hb)
  exact ⟨h.blk.on (kb _ _ _ h.blk), h.oB, fun b hb => Nat.lt_of_lt_of_le (h.olt b hb) k.size, hM, h.mF.kx k (fun e => h.ne e.symm), h.oN, h.oF, h.ne, hin, h.inF, h.fls.onb (fun _ h => h) fun b c t _ hb _ => kb b c t hb, hw.onb (fun _ h => h) fun b c t _ hb _ => kb b c t hb⟩
/-- Other names that are fast. -/
theorem DSt.namesF {w w' : World} {O : Nat → Prop} {B : Nat} {a : Da} {d : Dk} (h : DSt w O B a d) (k : KX (fun i => i = a.mF) w w') (n' : Nat) (M' : Nms) (hM : Mp w' a.mF n' M') (hin : ∀ s f, M' s = some f → a.Fs f ∧ s.size ≤ 32) :
    DSt w' O B a { d with nF := M', nf := n' } := by
  have hw := h.wks
  have kb : ∀ (b : Nat) (c : Array Value) (t : TypeId), w.heap[b]? = some (.cells c t (0, 0)) → w'.heap[b]? = w.heap[b]? := fun b c t hb => k.block b (lt_of_block hb) (h.mF.ne_cells hb)
  exact ⟨h.blk.on (kb _ _ _ h.blk), h.oB, fun b hb => Nat.lt_of_lt_of_le (h.olt b hb) k.size, h.mN.kx k (fun e => h.ne e), hM, h.oN, h.oF, h.ne, h.inN, hin, h.fls.onb (fun _ h => h) fun b c t _ hb _ => kb b c t hb, hw.onb (fun _ h => h) fun b c t _ hb _ => kb b c t hb⟩
theorem stp_names {w w' : World} {O : Nat → Prop} {m : Nat} (k : KX (fun i => i = m) w w') (hm : O m) : Stp w O w' O := ⟨k.mono fun b hb => by rw [hb]; exact hm, fun b hb => .inl hb⟩
/-- Another power. -/
theorem DSt.power {w w' : World} {O : Nat → Prop} {B : Nat} {a : Da} {d : Dk} (h : DSt w O B a d) (k : KX (fun i => i = B) w w') (on fused : Bool) (left : Int) (hB : Arr w' B 47 (dcell a { d with on := on, fused := fused, left := left })) :
    DSt w' O B a { d with on := on, fused := fused, left := left } := by
  have hw := h.wks
  have kb : ∀ (b : Nat) (c : Array Value) (t : TypeId), w.heap[b]? = some (.cells c t (0, 0)) → t ≠ 47 → w'.heap[b]? = w.heap[b]? := fun b c t hb ht => k.block b (lt_of_block hb) (fun e => by
    subst e
    exact ht (ne_ty hb h.blk))
  refine ⟨hB, h.oB, fun b hb => Nat.lt_of_lt_of_le (h.olt b hb) k.size, h.mN.kx k (fun e => h.mN.ne_cells h.blk e.symm), h.mF.kx k (fun e => h.mF.ne_cells h.blk e.symm), h.oN, h.oF, h.ne, h.inN, h.inF, h.fls.onb (fun _ h => h) fun b c t _ hb ht => kb b c t hb ?_, hw.onb (fun _ h => h) fun b c t _ hb ht => kb b c t hb ?_⟩
  · rcases ht with e | e <;> rw [e] <;> decide
  · rcases ht with e | ⟨e, -⟩ <;> rw [e] <;> decide
/-- Other bytes of a file. -/
theorem DSt.now {w w1 w2 : World} {O : Nat → Prop} {B : Nat} {a : Da} {d : Dk} (h : DSt w O B a d) (f : Nat) (hf : a.Fs f) (v' : Value) (l' : List UInt8) (k : KX (fun b => ob (a.rn f) b) w w1) (hr : Rb w1 v' l') (ho : ∀ b, ob v' b → ob (a.rn f) b ∨ w.heap.size ≤ b) (hw2 : w2 = w1.setCell ⟨f, 0, none⟩ v') :
    Stp w O w2 (Ow O w w2) ∧ DSt w2 (Ow O w w2) B { a with rn := up a.rn f v' } { d with cn := up d.cn f l' } := by
  have hw := h.wks
  have hfb := h.fls.blk f hf
  have k2 : KX (fun b => ob (a.rn f) b ∨ b = f) w w2 := by rw [hw2]; exact (k.mono fun _ h => .inl h).setCell (.inl (.inr rfl)) v'
  have tyR : ∀ {b : Nat}, ob (a.rn f) b → ∃ cur, w.heap[b]? = some (.cells cur 5 (0, 0)) := fun hb => (h.fls.rn f hf).ob hb
  have neR : ∀ {b : Nat} {c : Array Value} {t : TypeId}, w.heap[b]? = some (.cells c t (0, 0)) → t ≠ 5 → ¬ ob (a.rn f) b := fun {b c t} hb ht ho => by
    obtain ⟨cur, hc⟩ := tyR ho
    exact ht (ne_ty hb hc)
  have neF : ∀ {b : Nat} {c : Array Value} {t : TypeId}, w.heap[b]? = some (.cells c t (0, 0)) → t ≠ 64 → b ≠ f := fun {b c t} hb ht e => by
    subst e
    exact ht (ne_ty hb hfb)
  have kb : ∀ (b : Nat) (c : Array Value) (t : TypeId), w.heap[b]? = some (.cells c t (0, 0)) → ¬ ob (a.rn f) b → b ≠ f → w2.heap[b]? = w.heap[b]? := fun b c t hb h1 h2 => k2.block b (lt_of_block hb) (fun h => h.elim h1 h2)
  have f1 := hfb.kx k (neR hfb (by decide))
  have f2 : Arr w2 f 64 [v', a.rf f] := by rw [hw2]; exact f1.set 0 v'
  have hr2 : Rb w2 v' l' := by
    rw [hw2]
    exact MS.onb hr fun b cur hb _ => Below.heap_setCell w1 _ v' b (fun e => by
      have e : b = f := e
      subst e
      exact absurd (ne_ty hb f1) (by decide))
  have hlt : ∀ b, ob v' b → b < w2.heap.size := fun b hb => by
    obtain ⟨c, hc⟩ := hr2.ob hb
    exact lt_of_block hc
  have oldR : ∀ {b g}, a.Fs g → ob (a.rn g) b → b < w.heap.size := fun hg hb => by
    obtain ⟨c, hc⟩ := (h.fls.rn _ hg).ob hb
    exact lt_of_block hc
  have oldF : ∀ {b g}, a.Fs g → ob (a.rf g) b → b < w.heap.size := fun hg hb => by
    obtain ⟨c, hc⟩ := (h.fls.rf _ hg).ob hb
    exact lt_of_block hc
  have hS := stp_ow (O := O) k2 fun b hb _ => by
    rcases hb with hb | rfl
    · exact h.fls.on f b hf hb
    · exact h.fls.of b hf
  refine ⟨hS, ⟨?_, Ow.of _ h.oB, fun b hb => hb.lt h.olt k2.size, ?_, ?_, Ow.of _ h.oN, Ow.of _ h.oF, h.ne, h.inN, h.inF, ⟨?_, ?_, ?_, ?_, ?_, ?_, ?_, ?_, ?_⟩, ?_⟩⟩
  · exact h.blk.on (kb _ _ _ h.blk (neR h.blk (by decide)) (neF h.blk (by decide)))
  · refine h.mN.kx k2 fun e => ?_
    rcases e with e | e
    · obtain ⟨c, hc⟩ := tyR e
      exact h.mN.ne_cells hc rfl
    · exact h.mN.ne_cells hfb e.symm
  · refine h.mF.kx k2 fun e => ?_
    rcases e with e | e
    · obtain ⟨c, hc⟩ := tyR e
      exact h.mF.ne_cells hc rfl
    · exact h.mF.ne_cells hfb e.symm
  · intro g hg
    by_cases e : g = f
    · subst e
      simp only [up_same]
      exact f2
    · simp only [up_other _ _ e]
      exact (h.fls.blk g hg).on (kb _ _ _ (h.fls.blk g hg) (neR (h.fls.blk g hg) (by decide)) e)
  · intro g hg
    by_cases e : g = f
    · subst e
      simp only [up_same]
      exact hr2
    · simp only [up_other _ _ e]
      exact (h.fls.rn g hg).onb fun b c hb hob => kb b c _ hb (fun hx => e (h.fls.nn g f b hg hf hob hx)) (neF hb (by decide))
  · intro g hg
    exact (h.fls.rf g hg).onb fun b c hb hob => kb b c _ hb (fun hx => h.fls.nf f g b hf hg hx hob) (neF hb (by decide))
  · exact fun g hg => Ow.of _ (h.fls.of g hg)
  · intro g b hg hb
    by_cases e : g = f
    · subst e
      simp only [up_same] at hb
      rcases ho b hb with h1 | h1
      · exact Ow.of _ (h.fls.on g b hg h1)
      · exact .inr ⟨h1, hlt b hb⟩
    · simp only [up_other _ _ e] at hb
      exact Ow.of _ (h.fls.on g b hg hb)
  · exact fun g b hg hb => Ow.of _ (h.fls.off g b hg hb)
  · intro g g' b hg hg' hb hb'
    by_cases e : g = f
    · by_cases e' : g' = f
      · rw [e, e']
      · subst e
        simp only [up_same] at hb
        simp only [up_other _ _ e'] at hb'
        rcases ho b hb with h1 | h1
        · exact h.fls.nn g g' b hg hg' h1 hb'
        · exact absurd (oldR hg' hb') (by omega)
    · simp only [up_other _ _ e] at hb
      by_cases e' : g' = f
      · subst e'
        simp only [up_same] at hb'
        rcases ho b hb' with h1 | h1
        · exact h.fls.nn g g' b hg hg' hb h1
        · exact absurd (oldR hg hb) (by omega)
      · simp only [up_other _ _ e'] at hb'
        exact h.fls.nn g g' b hg hg' hb hb'
  · exact h.fls.ff
  · intro g g' b hg hg' hb hb'
    by_cases e : g = f
    · subst e
      simp only [up_same] at hb
      rcases ho b hb with h1 | h1
      · exact h.fls.nf g g' b hg hg' h1 hb'
      · exact absurd (oldF hg' hb') (by omega)
    · simp only [up_other _ _ e] at hb
      exact h.fls.nf g g' b hg hg' hb hb'
  · refine ⟨hw.len, hw.ms.onb fun b c hb _ => kb b c _ hb (neR hb (by decide)) (neF hb (by decide)), fun i x v h1 h2 => ?_, fun b hb => Ow.of _ (hw.ow b hb)⟩
    have hx := hw.ok i x v h1 h2
    refine ⟨hx.rb.onb fun b c hb hob => kb b c _ hb (hx.far b f hob hf).1 (neF hb (by decide)), fun b hb => Ow.of _ (hx.ow b hb), fun b g hb hg => ⟨?_, (hx.far b g hb hg).2⟩, hx.fs, hx.nm, hx.to_⟩
    by_cases e : g = f
    · subst e
      simp only [up_same]
      intro h3
      rcases ho b h3 with h4 | h4
      · exact (hx.far b g hb hg).1 h4
      · obtain ⟨c, hc⟩ := hx.rb.ob hb
        exact absurd (lt_of_block hc) (by omega)
    · simp only [up_other _ _ e]
      exact (hx.far b g hb hg).1
end Go.Proofs.Ythaiejmajhmahab
