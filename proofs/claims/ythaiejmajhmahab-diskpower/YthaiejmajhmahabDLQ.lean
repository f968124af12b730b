/- Package disk: works forgotten: what the loop of forget keeps. -/
import Derived.Test.YthaiejmajhmahabDLP
namespace Go.Proofs.Ythaiejmajhmahab
open Go.ChangeShapes Go.WideShapes Go.ChangeAt Go.RowKit Go.Maps
set_option linter.unusedVariables false
set_option linter.unusedSimpArgs false

theorem OwnS.set {w : World} {g cap sz : Nat} {e : TypeId} {V : List Value} (h : OwnS w g cap sz e V) (j : Nat) (u : Value) (hj : j < V.length) : OwnS (w.setCell ⟨g, j, none⟩ u) g cap sz e (V.set j u) := by
  obtain ⟨cur, hg, h1, h2, h3, h4⟩ := h
  refine ⟨cur.setIfInBounds j u, heap_setCell_same w g j cur e _ hg, by rw [List.length_set]; exact h1, h2, by simpa using h3, ?_⟩
  rw [Array.toList_setIfInBounds, List.length_set, List.take_set, h4]
theorem wcs_set {vb : List Value} : ∀ {W : List Wk} (h : vb.length = W.length) (i : Nat) (y : Wk) (v : Value), i < W.length →
    ((((((wcs W vb).set (i * 6) (.int .i64 y.kind)).set (i * 6 + 1) (.string y.nm)).set (i * 6 + 2) (.string y.to_)).set (i * 6 + 3) (.int .i64 y.len)).set (i * 6 + 4) (.pointer (some ⟨y.file, 0, none⟩))).set (i * 6 + 5) v = wcs (W.set i y) (vb.set i v) := by
  induction vb with
  | nil => intro W h i y v hi; rw [← h] at hi; cases hi
  | cons u r ih =>
    intro W h i y v hi
    rcases W with _ | ⟨x, W⟩
    · cases h
    · have e : ∀ (a : Wk) (b : Value) (A : List Wk) (C : List Value), wcs (a :: A) (b :: C) = wcell a b ++ wcs A C := fun a b A C => by simp [wcs]
      rcases i with _ | i
      · rw [e, List.set_cons_zero, List.set_cons_zero, e]
        simp [wcell]
      · have := ih (W := W) (by simpa using h) i y v (by simpa using hi)
        rw [List.set_cons_succ, List.set_cons_succ, e, e, ← this]
        have s : ∀ (l : List Value) (p : Nat) (z : Value), (wcell x u ++ l).set (p + 6) z = wcell x u ++ l.set p z := fun l p z => by simp [wcell]
        rw [show (i + 1) * 6 = i * 6 + 6 by omega]
        rw [show i * 6 + 6 + 1 = i * 6 + 1 + 6 by omega, show i * 6 + 6 + 2 = i * 6 + 2 + 6 by omega, show i * 6 + 6 + 3 = i * 6 + 3 + 6 by omega, show i * 6 + 6 + 4 = i * 6 + 4 + 6 by omega, show i * 6 + 6 + 5 = i * 6 + 5 + 6 by omega]
        rw [s, s, s, s, s, s]
/-- Six cells written. -/
abbrev set6 (w : World) (g p : Nat) (a b c d e f : Value) : World := (((((w.setCell ⟨g, p, none⟩ a).setCell ⟨g, p + 1, none⟩ b).setCell ⟨g, p + 2, none⟩ c).setCell ⟨g, p + 3, none⟩ d).setCell ⟨g, p + 4, none⟩ e).setCell ⟨g, p + 5, none⟩ f
theorem kx_set6 {w : World} {X : Nat → Prop} {g p : Nat} (hg : X g) (a b c d e f : Value) : KX X w (set6 w g p a b c d e f) :=
  ((((((KX.refl X w).setCell (.inl hg) _).setCell (.inl hg) _).setCell (.inl hg) _).setCell (.inl hg) _).setCell (.inl hg) _).setCell (.inl hg) _
/-- Another work in a work's place. -/
theorem DSt.setwork {w w2 : World} {O : Nat → Prop} {B : Nat} {a : Da} {d : Dk} (h : DSt w O B a d) {g n c : Nat} (hpv : a.pv = .slice (some ⟨g, 0, none⟩) n c) (i : Nat) (hi : i < d.W.length) (y : Wk) (v : Value) (hy : WkOk w O a y v)
    (hw2 : w2 = set6 w g (i * 6) (.int .i64 y.kind) (.string y.nm) (.string y.to_) (.int .i64 y.len) (.pointer (some ⟨y.file, 0, none⟩)) v) :
    Stp w O w2 O ∧ DSt w2 O B { a with vb := a.vb.set i v } { d with W := d.W.set i y } := by
  have hw := h.wks
  have k2 : KX (fun b => b = g) w w2 := by rw [hw2]; exact kx_set6 (X := fun b => b = g) rfl _ _ _ _ _ _
  have hob : ob a.pv g := by rw [hpv]; exact ⟨_, _, rfl⟩
  obtain ⟨cur, hcur⟩ := hw.ms.ob hob
  have neG : ∀ {b : Nat} {c : Array Value} {t : TypeId}, w.heap[b]? = some (.cells c t (0, 0)) → t ≠ 59 → b ≠ g := fun {b c t} hb ht e => by
    subst e
    exact ht (ne_ty hb hcur)
  have kb : ∀ (b : Nat) (c : Array Value) (t : TypeId), w.heap[b]? = some (.cells c t (0, 0)) → t ≠ 59 → w2.heap[b]? = w.heap[b]? := fun b c t hb ht => k2.block b (lt_of_block hb) (neG hb ht)
  have hS : Stp w O w2 O := ⟨k2.mono fun b hb => by rw [hb]; exact hw.ow g hob, fun b hb => .inl hb⟩
  have hf := h.fls.onb (w' := w2) (O' := O) (fun b hb => hb) fun b c t _ hb ht => kb b c t hb (by rcases ht with e | e <;> rw [e] <;> decide)
  refine ⟨hS, ⟨h.blk.on (kb _ _ _ h.blk (by decide)), h.oB, fun b hb => Nat.lt_of_lt_of_le (h.olt b hb) k2.size, h.mN.kx k2 fun e => h.mN.ne_cells hcur e.symm, h.mF.kx k2 fun e => h.mF.ne_cells hcur e.symm, h.oN, h.oF, h.ne, h.inN, h.inF, ⟨hf.blk, hf.rn, hf.rf, hf.of, hf.on, hf.off, hf.nn, hf.ff, hf.nf⟩, ⟨by simp [hw.len], ?_, fun j x u h1 h2 => ?_, hw.ow⟩⟩⟩
  · have hms := hw.ms
    rw [hpv] at hms
    rcases hms with ⟨h0, -⟩ | ⟨g', cap, e, -, hl, hc, hO⟩
    · omega
    · simp only [Value.slice.injEq, Option.some.injEq, Addr.mk.injEq, and_true, true_and] at e
      obtain ⟨rfl, e1, rfl⟩ := e
      have hl6 : (wcs d.W a.vb).length = d.W.length * 6 := wcs_len hw.len
      have hp : i * 6 + 6 ≤ d.W.length * 6 := by omega
      have s1 := hO.set (i * 6) (.int .i64 y.kind) (by omega)
      have s2 := s1.set (i * 6 + 1) (.string y.nm) (by simp only [List.length_set]; omega)
      have s3 := s2.set (i * 6 + 2) (.string y.to_) (by simp only [List.length_set]; omega)
      have s4 := s3.set (i * 6 + 3) (.int .i64 y.len) (by simp only [List.length_set]; omega)
      have s5 := s4.set (i * 6 + 4) (.pointer (some ⟨y.file, 0, none⟩)) (by simp only [List.length_set]; omega)
      have s6 := s5.set (i * 6 + 5) v (by simp only [List.length_set]; omega)
      rw [wcs_set hw.len i y v hi] at s6
      refine .inr ⟨g, c, by rw [hpv]; simp [e1], Nat.zero_le _, ?_, by simpa using hc, by rw [hw2]; exact s6⟩
      rw [wcs_len (by simp [hw.len]), List.length_set]
  · have hb : ∀ (b : Nat) (cur : Array Value), w.heap[b]? = some (.cells cur 5 (0, 0)) → w2.heap[b]? = w.heap[b]? := fun b cur hb => kb b cur _ hb (by decide)
    by_cases e : i = j
    · subst e
      rw [List.getElem?_set_self (by omega)] at h1
      rw [List.getElem?_set_self (by rw [hw.len]; omega)] at h2
      cases h1
      cases h2
      have := hy.onb (w' := w2) (O' := O) (fun b hb => hb) fun b cur _ hc _ => hb b cur hc
      exact ⟨this.rb, this.ow, this.far, this.fs, this.nm, this.to_⟩
    · rw [List.getElem?_set_ne e] at h1 h2
      have := (hw.ok j x u h1 h2).onb (w' := w2) (O' := O) (fun b hb => hb) fun b cur _ hc _ => hb b cur hc
      exact ⟨this.rb, this.ow, this.far, this.fs, this.nm, this.to_⟩
/-- What forget has made of a disk behind i works: files that were there are as they were. -/
structure ForR (F : Nat → Prop) (i : Nat) (d d' : Dk) : Prop where
  eq : d' = { d with cn := d'.cn, cf := d'.cf, W := d'.W }
  cn : ∀ f, F f → d'.cn f = d.cn f
  cf : ∀ f, F f → d'.cf f = d.cf f
  ln : ∀ f, (d'.cn f).length ≤ (d.cn f).length ∧ (d'.cf f).length ≤ (d.cf f).length
  len : d'.W.length = d.W.length
  at_ : ∀ (j : Nat) x, d.W[j]? = some x → ∃ y, d'.W[j]? = some y ∧ (y = x ∨ (j < i ∧ ¬ HasN d.nF x.file ∧ ¬ F y.file ∧ y = { x with file := y.file, bytes := [] }))
  kp : ∀ (j : Nat) x y, d.W[j]? = some x → d'.W[j]? = some y → j < i → ¬ HasN d.nF x.file → ¬ F y.file
  un : ∀ (j : Nat), i ≤ j → d'.W[j]? = d.W[j]?
def ForI (w : World) (O : Nat → Prop) (B : Nat) (a : Da) (d : Dk) (i : Nat) (wr : World) : Prop :=
  ∃ O' a' d', Stp w O wr O' ∧ DSt wr O' B a' d' ∧ a'.pv = a.pv ∧ a'.mF = a.mF ∧ (∀ f, a.Fs f → a'.Fs f) ∧ ForR a.Fs i d d'
theorem ForI.start {w : World} {O : Nat → Prop} {B : Nat} {a : Da} {d : Dk} (hd : DSt w O B a d) : ForI w O B a d 0 w :=
  ⟨O, a, d, Stp.refl w O, hd, rfl, rfl, fun f h => h, ⟨rfl, fun f _ => rfl, fun f _ => rfl, fun f => ⟨Nat.le_refl _, Nat.le_refl _⟩, rfl, fun j x hx => ⟨x, hx, .inl rfl⟩, fun j x y _ _ h => absurd h (Nat.not_lt_zero j), fun j _ => rfl⟩⟩
theorem ForI.kept {w u u' : World} {O : Nat → Prop} {B : Nat} {a : Da} {d : Dk} {i : Nat} (h : ForI w O B a d i u) (k : Kept u u') : ForI w O B a d i u' := by
  obtain ⟨O', a', d', h1, h2, h3⟩ := h
  exact ⟨O', a', d', h1.kept k, h2.kept k, h3⟩
theorem ForI.at_ {w wr : World} {O : Nat → Prop} {B : Nat} {a : Da} {d : Dk} {i : Nat} (h : ForI w O B a d i wr) (hi : i < d.W.length) :
    ∃ x v g cap, d.W[i]? = some x ∧ (∃ ao n c, v = .slice ao n c) ∧ a.pv = .slice (some ⟨g, 0, none⟩) d.W.length cap ∧ (∀ j, j < 6 → wr.cell? ⟨g, i * 6 + j, none⟩ = (wcell x v)[j]?) ∧ wr.cell? ⟨B, 6, none⟩ = some (.map (some a.mF)) ∧ wr.cell? ⟨B, 7, none⟩ = some a.pv ∧ (∀ j, wr.frozen? ⟨g, j, none⟩ = false) ∧
      (∀ u, Kept wr u → Calls Try.prog 38 #[.map (some a.mF), .pointer (some ⟨x.file, 0, none⟩)] u fun e w' => (∃ b, e = .returned (.bool b) ∧ (b = true ↔ HasN d.nF x.file)) ∧ Kept u w') := by
  obtain ⟨O', a', d', h1, h2, h3, h4, h5, hR⟩ := h
  have hw := h2.wks
  obtain ⟨x, hx⟩ : ∃ x, d.W[i]? = some x := ⟨_, List.getElem?_eq_getElem hi⟩
  have hx' : d'.W[i]? = some x := by rw [hR.un i (Nat.le_refl i)]; exact hx
  obtain ⟨v, hv⟩ : ∃ v, a'.vb[i]? = some v := ⟨_, List.getElem?_eq_getElem (by rw [hw.len, hR.len]; exact hi)⟩
  have ho := hw.ok i x v hx' hv
  have hnF : d'.nF = d.nF := by rw [hR.eq]
  have hnf : d'.nf = d.nf := by rw [hR.eq]
  have c6 := h2.blk.cell 6 _ rfl
  have c7 := h2.blk.cell 7 _ rfl
  rw [h4] at c6
  rw [h3] at c7
  rcases hw.ms with ⟨h0, -⟩ | ⟨g, cap, hpv, -, -, hc, hO⟩
  · rw [hR.len] at h0
    omega
  · refine ⟨x, v, g, cap, hx, ho.form, by rw [← h3, hpv, hR.len], fun j hj => ?_, c6, c7, fun j => hO.free j, fun u k => ?_⟩
    · have hl : (wcell x v)[j]? = some ((wcell x v)[j]'(by show j < 6; exact hj)) := List.getElem?_eq_getElem _
      rw [hl]
      refine hO.cell _ _ ?_
      rw [wcs_at hw.len i j x v hx' hv hj]
      exact hl
    · have h2u := h2.kept k
      have := has_any a'.mF d'.nf x.file d'.nF u h2u.mF (h2u.fls.blk _ ho.fs).cb fun t g hg => (h2u.fls.blk g (h2u.inF t g hg).1).cb
      rw [hnF, h4] at this
      exact this
theorem ForI.keep {w u : World} {O : Nat → Prop} {B : Nat} {a : Da} {d : Dk} {i : Nat} (h : ForI w O B a d i u) {x : Wk} (hx : d.W[i]? = some x) (hn : HasN d.nF x.file) : ForI w O B a d (i + 1) u := by
  obtain ⟨O', a', d', h1, h2, h3, h4, h5, hR⟩ := h
  refine ⟨O', a', d', h1, h2, h3, h4, h5, ⟨hR.eq, hR.cn, hR.cf, hR.ln, hR.len, fun j y hy => ?_, fun j y z hy hz hj hny => ?_, fun j hj => hR.un j (by omega)⟩⟩
  · obtain ⟨z, hz, hh⟩ := hR.at_ j y hy
    exact ⟨z, hz, hh.imp id fun ⟨p1, p2⟩ => ⟨by omega, p2⟩⟩
  · by_cases e : j = i
    · subst e
      rw [hx] at hy
      cases hy
      exact absurd hn hny
    · exact hR.kp j y z hy hz (by omega) hny
theorem ForI.new {w u : World} {O : Nat → Prop} {B : Nat} {a : Da} {d : Dk} {i : Nat} (h : ForI w O B a d i u) {x : Wk} (hx : d.W[i]? = some x) (hn : ¬ HasN d.nF x.file) {g n c : Nat} (hpv : a.pv = .slice (some ⟨g, 0, none⟩) n c) (u2 : World)
    (hu2 : u2 = set6 (u.alloc (.cells #[.slice none 0 0, .slice none 0 0] 64)) g (i * 6) (.int .i64 x.kind) (.string x.nm) (.string x.to_) (.int .i64 x.len) (.pointer (some ⟨u.heap.size, 0, none⟩)) (.slice none 0 0)) : ForI w O B a d (i + 1) u2 := by
  obtain ⟨O', a', d', h1, h2, h3, h4, h5, hR⟩ := h
  obtain ⟨hi, -⟩ := List.getElem?_eq_some_iff.1 hx
  obtain ⟨s1, d1⟩ := h2.newfile u.heap.size (Nat.le_refl _) ((Kept.refl u).alloc #[.slice none 0 0, .slice none 0 0] 64) (arr_new u [.slice none 0 0, .slice none 0 0] _)
  have hx' : d'.W[i]? = some x := by rw [hR.un i (Nat.le_refl i)]; exact hx
  have hfresh : ¬ a'.Fs u.heap.size := fun hf => by
    have := h2.olt _ (h2.fls.of _ hf)
    omega
  obtain ⟨v, hv⟩ : ∃ v, a'.vb[i]? = some v := ⟨_, List.getElem?_eq_getElem (by rw [h2.wks.len, hR.len]; exact hi)⟩
  have ho := h2.wks.ok i x v hx' hv
  obtain ⟨s2, d2⟩ := d1.setwork (by simpa using h3.trans hpv) i (by simp only; rw [hR.len]; exact hi) { x with file := u.heap.size, bytes := [] } (.slice none 0 0) ⟨Rb.nil _, fun b hb => absurd hb (ob_nil b), fun b f hb => absurd hb (ob_nil b), .inr rfl, ho.nm, ho.to_⟩ hu2
  have hu : ∀ f, (up d'.cn u.heap.size [] f).length ≤ (d'.cn f).length ∧ (up d'.cf u.heap.size [] f).length ≤ (d'.cf f).length := fun f => by
    unfold up
    split <;> simp
  refine ⟨_, _, _, h1.trans (s1.trans s2), d2, h3, h4, fun f hf => .inl (h5 f hf), ⟨?_, fun f hf => ?_, fun f hf => ?_, fun f => ⟨Nat.le_trans (hu f).1 (hR.ln f).1, Nat.le_trans (hu f).2 (hR.ln f).2⟩, ?_, fun j y hy => ?_, fun j y z hy hz hj hny => ?_, fun j hj => ?_⟩⟩
  · simp only
    rw [hR.eq]
  · have e : f ≠ u.heap.size := fun e => hfresh (by rw [← e]; exact h5 f hf)
    simp only [up_other _ _ e]
    exact hR.cn f hf
  · have e : f ≠ u.heap.size := fun e => hfresh (by rw [← e]; exact h5 f hf)
    simp only [up_other _ _ e]
    exact hR.cf f hf
  · simp [hR.len]
  · by_cases e : i = j
    · subst e
      rw [hx] at hy
      cases hy
      exact ⟨_, List.getElem?_set_self (by rw [hR.len]; exact hi), .inr ⟨by omega, hn, fun hf => hfresh (h5 _ hf), rfl⟩⟩
    · obtain ⟨z, hz, hh⟩ := hR.at_ j y hy
      exact ⟨z, by simp only; rw [List.getElem?_set_ne e]; exact hz, hh.imp id fun ⟨p1, p2⟩ => ⟨by omega, p2⟩⟩
  · by_cases e : i = j
    · subst e
      simp only at hz
      rw [List.getElem?_set_self (by rw [hR.len]; exact hi)] at hz
      cases hz
      exact fun hf => hfresh (h5 _ hf)
    · simp only at hz
      rw [List.getElem?_set_ne e] at hz
      exact hR.kp j y z hy hz (by omega) hny
  · simp only
    rw [List.getElem?_set_ne (by omega)]
    exact hR.un j (by omega)
end Go.Proofs.Ythaiejmajhmahab
