/- Package disk: what a step turns of a disk: what is fast, works, new files. -/
import Derived.Test.YthaiejmajhmahabDLJ
namespace Go.Proofs.Ythaiejmajhmahab
open Go.ChangeShapes Go.WideShapes Go.ChangeAt Go.RowKit Go.Maps
set_option linter.unusedVariables false
set_option linter.unusedSimpArgs false

/-- Other bytes of a file that are fast. -/
theorem DSt.fast {w w1 w2 : World} {O : Nat → Prop} {B : Nat} {a : Da} {d : Dk} (h : DSt w O B a d) (f : Nat) (hf : a.Fs f) (v' : Value) (l' : List UInt8) (k : KX (fun b => ob (a.rf f) b) w w1) (hr : Rb w1 v' l') (ho : ∀ b, ob v' b → ob (a.rf f) b ∨ w.heap.size ≤ b) (hw2 : w2 = w1.setCell ⟨f, 1, none⟩ v') :
    Stp w O w2 (Ow O w w2) ∧ DSt w2 (Ow O w w2) B { a with rf := up a.rf f v' } { d with cf := up d.cf f l' } := by
  have hw := h.wks
  have hfb := h.fls.blk f hf
  have k2 : KX (fun b => ob (a.rf f) b ∨ b = f) w w2 := by rw [hw2]; exact (k.mono fun _ h => .inl h).setCell (.inl (.inr rfl)) v'
  have tyR : ∀ {b : Nat}, ob (a.rf f) b → ∃ cur, w.heap[b]? = some (.cells cur 5 (0, 0)) := fun hb => (h.fls.rf f hf).ob hb
  have neR : ∀ {b : Nat} {c : Array Value} {t : TypeId}, w.heap[b]? = some (.cells c t (0, 0)) → t ≠ 5 → ¬ ob (a.rf f) b := fun {b c t} hb ht ho => by
    obtain ⟨cur, hc⟩ := tyR ho
    exact ht (ne_ty hb hc)
  have neF : ∀ {b : Nat} {c : Array Value} {t : TypeId}, w.heap[b]? = some (.cells c t (0, 0)) → t ≠ 64 → b ≠ f := fun {b c t} hb ht e => by
    subst e
    exact ht (ne_ty hb hfb)
  have kb : ∀ (b : Nat) (c : Array Value) (t : TypeId), w.heap[b]? = some (.cells c t (0, 0)) → ¬ ob (a.rf f) b → b ≠ f → w2.heap[b]? = w.heap[b]? := fun b c t hb h1 h2 => k2.block b (lt_of_block hb) (fun h => h.elim h1 h2)
  have f1 := hfb.kx k (neR hfb (by decide))
  have f2 : Arr w2 f 64 [a.rn f, v'] := by rw [hw2]; exact f1.set 1 v'
  have hr2 : Rb w2 v' l' := by
    rw [hw2]
    exact MS.onb hr fun b cur hb _ => Below.heap_setCell w1 _ v' b (fun e => by
      have e : b = f := e
      subst e
      exact absurd (ne_ty hb f1) (by decide))
  have hlt : ∀ b, ob v' b → b < w2.heap.size := fun b hb => by
    obtain ⟨c, hc⟩ := hr2.ob hb
    exact lt_of_block hc
  have oldR : ∀ {b g}, a.Fs g → ob (a.rf g) b → b < w.heap.size := fun hg hb => by
    obtain ⟨c, hc⟩ := (h.fls.rf _ hg).ob hb
    exact lt_of_block hc
  have oldF : ∀ {b g}, a.Fs g → ob (a.rn g) b → b < w.heap.size := fun hg hb => by
    obtain ⟨c, hc⟩ := (h.fls.rn _ hg).ob hb
    exact lt_of_block hc
  have hS := stp_ow (O := O) k2 fun b hb _ => by
    rcases hb with hb | rfl
    · exact h.fls.off f b hf hb
    · exact h.fls.of b hf
  refine ⟨hS, ⟨?_, Ow.of _ h.oB, fun b hb => hb.lt h.olt k2.size, ?_, ?_, Ow.of _ h.oN, Ow.of _ h.oF, h.ne, h.inN, h.inF, ⟨?_, ?_, ?_, ?_, ?_, ?_, ?_, ?_, ?_⟩, ?_⟩⟩
  · exact h.blk.on (kb _ _ _ h.blk (neR h.blk (by decide)) (neF h.blk (by decide)))
  · refine h.mN.kx k2 fun e => ?_
    rcases e with e | e
    · obtain ⟨c, hc⟩ := tyR e
      exact h.mN.ne_cells hc rfl
    · exact h.mN.ne_cells hfb e.symm
  · refine h.mF.kx k2 fun e => ?_
    rcases e with e | e
    · obtain ⟨c, hc⟩ := tyR e
      exact h.mF.ne_cells hc rfl
    · exact h.mF.ne_cells hfb e.symm
  · intro g hg
    by_cases e : g = f
    · subst e
      simp only [up_same]
      exact f2
    · simp only [up_other _ _ e]
      exact (h.fls.blk g hg).on (kb _ _ _ (h.fls.blk g hg) (neR (h.fls.blk g hg) (by decide)) e)
  · intro g hg
    exact (h.fls.rn g hg).onb fun b c hb hob => kb b c _ hb (fun hx => h.fls.nf g f b hg hf hob hx) (neF hb (by decide))
  · intro g hg
    by_cases e : g = f
    · subst e
      simp only [up_same]
      exact hr2
    · simp only [up_other _ _ e]
      exact (h.fls.rf g hg).onb fun b c hb hob => kb b c _ hb (fun hx => e (h.fls.ff g f b hg hf hob hx)) (neF hb (by decide))
  · exact fun g hg => Ow.of _ (h.fls.of g hg)
  · exact fun g b hg hb => Ow.of _ (h.fls.on g b hg hb)
  · intro g b hg hb
    by_cases e : g = f
    · subst e
      simp only [up_same] at hb
      rcases ho b hb with h1 | h1
      · exact Ow.of _ (h.fls.off g b hg h1)
      · exact .inr ⟨h1, hlt b hb⟩
    · simp only [up_other _ _ e] at hb
      exact Ow.of _ (h.fls.off g b hg hb)
  · exact h.fls.nn
  · intro g g' b hg hg' hb hb'
    by_cases e : g = f
    · by_cases e' : g' = f
      · rw [e, e']
      · subst e
        simp only [up_same] at hb
        simp only [up_other _ _ e'] at hb'
        rcases ho b hb with h1 | h1
        · exact h.fls.ff g g' b hg hg' h1 hb'
        · exact absurd (oldR hg' hb') (by omega)
    · simp only [up_other _ _ e] at hb
      by_cases e' : g' = f
      · subst e'
        simp only [up_same] at hb'
        rcases ho b hb' with h1 | h1
        · exact h.fls.ff g g' b hg hg' hb h1
        · exact absurd (oldR hg hb) (by omega)
      · simp only [up_other _ _ e'] at hb'
        exact h.fls.ff g g' b hg hg' hb hb'
  · intro g g' b hg hg' hb hb'
    by_cases e : g' = f
    · subst e
      simp only [up_same] at hb'
      rcases ho b hb' with h1 | h1
      · exact h.fls.nf g g' b hg hg' hb h1
      · exact absurd (oldF hg hb) (by omega)
    · simp only [up_other _ _ e] at hb'
      exact h.fls.nf g g' b hg hg' hb hb'
  · refine ⟨hw.len, hw.ms.onb fun b c hb _ => kb b c _ hb (neR hb (by decide)) (neF hb (by decide)), fun i x v h1 h2 => ?_, fun b hb => Ow.of _ (hw.ow b hb)⟩
    have hx := hw.ok i x v h1 h2
    refine ⟨hx.rb.onb fun b c hb hob => kb b c _ hb (hx.far b f hob hf).2 (neF hb (by decide)), fun b hb => Ow.of _ (hx.ow b hb), fun b g hb hg => ⟨(hx.far b g hb hg).1, ?_⟩, hx.fs, hx.nm, hx.to_⟩
    by_cases e : g = f
    · subst e
      simp only [up_same]
      intro h3
      rcases ho b h3 with h4 | h4
      · exact (hx.far b g hb hg).2 h4
      · obtain ⟨c, hc⟩ := hx.rb.ob hb
        exact absurd (lt_of_block hc) (by omega)
    · simp only [up_other _ _ e]
      exact (hx.far b g hb hg).2
/-- Other works. -/
theorem DSt.works {w w1 w2 : World} {O : Nat → Prop} {B : Nat} {a : Da} {d : Dk} (h : DSt w O B a d) (v' : Value) (W' : List Wk) (vb' : List Value) (k : KX (fun b => ob a.pv b) w w1) (ho : ∀ b, ob v' b → O b ∨ w.heap.size ≤ b) (hlen : vb'.length = W'.length) (hms : MS 6 59 0 w1 v' W'.length (wcs W' vb'))
    (hok : ∀ (i : Nat) x v, W'[i]? = some x → vb'[i]? = some v → WkOk w O a x v) (hw2 : w2 = w1.setCell ⟨B, 7, none⟩ v') :
    Stp w O w2 (Ow O w w2) ∧ DSt w2 (Ow O w w2) B { a with pv := v', vb := vb' } { d with W := W' } := by
  have hw := h.wks
  have k2 : KX (fun b => ob a.pv b ∨ b = B) w w2 := by rw [hw2]; exact (k.mono fun _ h => .inl h).setCell (.inl (.inr rfl)) v'
  have tyR : ∀ {b : Nat}, ob a.pv b → ∃ cur, w.heap[b]? = some (.cells cur 59 (0, 0)) := fun hb => hw.ms.ob hb
  have neR : ∀ {b : Nat} {c : Array Value} {t : TypeId}, w.heap[b]? = some (.cells c t (0, 0)) → t ≠ 59 → ¬ ob a.pv b := fun {b c t} hb ht ho => by
    obtain ⟨cur, hc⟩ := tyR ho
    exact ht (ne_ty hb hc)
  have neB : ∀ {b : Nat} {c : Array Value} {t : TypeId}, w.heap[b]? = some (.cells c t (0, 0)) → t ≠ 47 → b ≠ B := fun {b c t} hb ht e => by
    subst e
    exact ht (ne_ty hb h.blk)
  have kb : ∀ (b : Nat) (c : Array Value) (t : TypeId), w.heap[b]? = some (.cells c t (0, 0)) → ¬ ob a.pv b → b ≠ B → w2.heap[b]? = w.heap[b]? := fun b c t hb h1 h2 => k2.block b (lt_of_block hb) (fun h => h.elim h1 h2)
  have f1 := h.blk.kx k (neR h.blk (by decide))
  have f2 : Arr w2 B 47 (dcell { a with pv := v', vb := vb' } { d with W := W' }) := by rw [hw2]; exact f1.set 7 v'
  have hr2 : MS 6 59 0 w2 v' W'.length (wcs W' vb') := by
    rw [hw2]
    exact MS.onb hms fun b cur hb _ => Below.heap_setCell w1 _ v' b (fun e => by
      have e : b = B := e
      subst e
      exact absurd (ne_ty hb f1) (by decide))
  have hlt : ∀ b, ob v' b → b < w2.heap.size := fun b hb => by
    obtain ⟨c, hc⟩ := hr2.ob hb
    exact lt_of_block hc
  have hS := stp_ow (O := O) k2 fun b hb _ => by
    rcases hb with hb | rfl
    · exact hw.ow b hb
    · exact h.oB
  refine ⟨hS, ⟨f2, Ow.of _ h.oB, fun b hb => hb.lt h.olt k2.size, ?_, ?_, Ow.of _ h.oN, Ow.of _ h.oF, h.ne, h.inN, h.inF, ?_, ⟨hlen, hr2, fun i x v h1 h2 => ?_, fun b hb => ?_⟩⟩⟩
  · refine h.mN.kx k2 fun e => ?_
    rcases e with e | e
    · obtain ⟨c, hc⟩ := tyR e
      exact h.mN.ne_cells hc rfl
    · exact h.mN.ne_cells h.blk e.symm
  · refine h.mF.kx k2 fun e => ?_
    rcases e with e | e
    · obtain ⟨c, hc⟩ := tyR e
      exact h.mF.ne_cells hc rfl
    · exact h.mF.ne_cells h.blk e.symm
  · have hf := h.fls.onb (w' := w2) (O' := Ow O w w2) (fun b hb => Ow.of b hb) fun b c t _ hb ht => kb b c t hb (neR hb (by rcases ht with e | e <;> rw [e] <;> decide)) (neB hb (by rcases ht with e | e <;> rw [e] <;> decide))
    exact ⟨hf.blk, hf.rn, hf.rf, hf.of, hf.on, hf.off, hf.nn, hf.ff, hf.nf⟩
  · have hx := (hok i x v h1 h2).onb (w' := w2) (O' := Ow O w w2) (fun b hb => Ow.of b hb) fun b c _ hb _ => kb b c _ hb (neR hb (by decide)) (neB hb (by decide))
    exact ⟨hx.rb, hx.ow, hx.far, hx.fs, hx.nm, hx.to_⟩
  · rcases ho b hb with h1 | h1
    · exact Ow.of _ h1
    · exact .inr ⟨h1, hlt b hb⟩
/-- A file more. -/
theorem DSt.newfile {w w1 : World} {O : Nat → Prop} {B : Nat} {a : Da} {d : Dk} (h : DSt w O B a d) (f : Nat) (hf : w.heap.size ≤ f) (k : Kept w w1) (hA : Arr w1 f 64 [.slice none 0 0, .slice none 0 0]) :
    Stp w O w1 (Ow O w w1) ∧ DSt w1 (Ow O w w1) B { a with Fs := fun g => a.Fs g ∨ g = f, rn := up a.rn f (.slice none 0 0), rf := up a.rf f (.slice none 0 0) } { d with cn := up d.cn f [], cf := up d.cf f [] } := by
  have hne : ∀ {g}, a.Fs g → g ≠ f := fun {g} hg e => by
    have := h.olt g (h.fls.of g hg)
    omega
  have h1 := h.kept k
  have hw := h1.wks
  have rn0 : ∀ {g}, a.Fs g ∨ g = f → ∀ {b}, ob (up a.rn f (.slice none 0 0) g) b → a.Fs g ∧ ob (a.rn g) b := fun {g} hg {b} hb => by
    by_cases e : g = f
    · subst e
      rw [up_same] at hb
      exact absurd hb (ob_nil b)
    · rw [up_other _ _ e] at hb
      exact ⟨hg.resolve_right e, hb⟩
  have rf0 : ∀ {g}, a.Fs g ∨ g = f → ∀ {b}, ob (up a.rf f (.slice none 0 0) g) b → a.Fs g ∧ ob (a.rf g) b := fun {g} hg {b} hb => by
    by_cases e : g = f
    · subst e
      rw [up_same] at hb
      exact absurd hb (ob_nil b)
    · rw [up_other _ _ e] at hb
      exact ⟨hg.resolve_right e, hb⟩
  refine ⟨stp_ow (k.kx fun _ => False) fun b hb _ => hb.elim, ⟨h1.blk, Ow.of _ h.oB, fun b hb => hb.lt h.olt k.below.size, h1.mN, h1.mF, Ow.of _ h.oN, Ow.of _ h.oF, h.ne, fun s g hs => ⟨.inl (h.inN s g hs).1, (h.inN s g hs).2⟩, fun s g hs => ⟨.inl (h.inF s g hs).1, (h.inF s g hs).2⟩, ⟨?_, ?_, ?_, ?_, ?_, ?_, ?_, ?_, ?_⟩, ⟨hw.len, hw.ms, fun i x v h3 h4 => ?_, fun b hb => Ow.of _ (hw.ow b hb)⟩⟩⟩
  · intro g hg
    by_cases e : g = f
    · subst e
      simp only [up_same]
      exact hA
    · simp only [up_other _ _ e]
      exact h1.fls.blk g (hg.resolve_right e)
  · intro g hg
    by_cases e : g = f
    · subst e
      simp only [up_same]
      exact Rb.nil w1
    · simp only [up_other _ _ e]
      exact h1.fls.rn g (hg.resolve_right e)
  · intro g hg
    by_cases e : g = f
    · subst e
      simp only [up_same]
      exact Rb.nil w1
    · simp only [up_other _ _ e]
      exact h1.fls.rf g (hg.resolve_right e)
  · intro g hg
    rcases hg with hg | rfl
    · exact Ow.of _ (h.fls.of g hg)
    · exact .inr ⟨hf, hA.lt⟩
  · exact fun g b hg hb => Ow.of _ (h.fls.on g b (rn0 hg hb).1 (rn0 hg hb).2)
  · exact fun g b hg hb => Ow.of _ (h.fls.off g b (rf0 hg hb).1 (rf0 hg hb).2)
  · exact fun g g' b hg hg' hb hb' => h.fls.nn g g' b (rn0 hg hb).1 (rn0 hg' hb').1 (rn0 hg hb).2 (rn0 hg' hb').2
  · exact fun g g' b hg hg' hb hb' => h.fls.ff g g' b (rf0 hg hb).1 (rf0 hg' hb').1 (rf0 hg hb).2 (rf0 hg' hb').2
  · exact fun g g' b hg hg' hb hb' => h.fls.nf g g' b (rn0 hg hb).1 (rf0 hg' hb').1 (rn0 hg hb).2 (rf0 hg' hb').2
  · have hx := hw.ok i x v h3 h4
    exact ⟨hx.rb, fun b hb => Ow.of _ (hx.ow b hb), fun b g hb hg => ⟨fun e => (hx.far b g hb (rn0 hg e).1).1 (rn0 hg e).2, fun e => (hx.far b g hb (rf0 hg e).1).2 (rf0 hg e).2⟩, .inl hx.fs, hx.nm, hx.to_⟩
end Go.Proofs.Ythaiejmajhmahab
