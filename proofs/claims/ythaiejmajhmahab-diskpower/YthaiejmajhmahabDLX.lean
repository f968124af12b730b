/- Package disk: what a crash leaves. -/
import Derived.Test.YthaiejmajhmahabDLW
import Derived.Test.YthaiejmajhmahabDSF
namespace Go.Proofs.Ythaiejmajhmahab
open Go.ChangeShapes Go.WideShapes Go.ChangeAt Go.RowKit Go.Maps
set_option linter.unusedVariables false
set_option linter.unusedSimpArgs false

/-- A slice of ints. -/
abbrev Ri (w : World) (v : Value) (l : List Int) : Prop := MS 1 3 0 w v l.length (l.map fun x => .int .i64 x)
/-- The first i works, as a crash keeps of them. -/
def crN (W : List Wk) (keep : List Int) : Nat → Dk → Dk
  | 0, d => d
  | i + 1, d => match W[i]?, keep[i]? with
    | some x, some k => if 0 < k then fasD x k.toNat (crN W keep i d) else crN W keep i d
    | _, _ => crN W keep i d
theorem crN_W (W : List Wk) (keep : List Int) (d : Dk) : ∀ i, (crN W keep i d).W = d.W ∧ (crN W keep i d).cn = d.cn ∧ (crN W keep i d).nn = d.nn ∧ (crN W keep i d).nN = d.nN ∧ (crN W keep i d).rf = d.rf ∧ (crN W keep i d).rb = d.rb
  | 0 => ⟨rfl, rfl, rfl, rfl, rfl, rfl⟩
  | i + 1 => by
    have ih := crN_W W keep d i
    unfold crN
    split
    · split
      · unfold fasD
        split <;> exact ih
      · exact ih
    · exact ih
def CraI (w : World) (O : Nat → Prop) (B : Nat) (a : Da) (d : Dk) (keep : List Int) (q i : Nat) (wr : World) : Prop :=
  ∃ O' a', Stp w O wr O' ∧ DSt wr O' B a' (crN d.W keep i d) ∧ (a'.pv = a.pv ∧ a'.vb = a.vb ∧ a'.Fs = a.Fs) ∧ ((crN d.W keep i d).nf + wsum (d.W.drop i) ≤ q ∧ ∀ f, ((crN d.W keep i d).cf f).length + wsum (d.W.drop i) ≤ q)
theorem CraI.start {w : World} {O : Nat → Prop} {B : Nat} {a : Da} {d : Dk} {keep : List Int} {q : Nat} (hd : DSt w O B a d) (hq : Bd q d) : CraI w O B a d keep q 0 w :=
  ⟨O, a, Stp.refl w O, hd, ⟨rfl, rfl, rfl⟩, hq.nf, hq.cf⟩
theorem CraI.kept {w u u' : World} {O : Nat → Prop} {B : Nat} {a : Da} {d : Dk} {keep : List Int} {q i : Nat} (h : CraI w O B a d keep q i u) (k : Kept u u') : CraI w O B a d keep q i u' := by
  obtain ⟨O', a', h1, h2, h3⟩ := h
  exact ⟨O', a', h1.kept k, h2.kept k, h3⟩
theorem CraI.kx {w u : World} {O : Nat → Prop} {B : Nat} {a : Da} {d : Dk} {keep : List Int} {q i : Nat} (h : CraI w O B a d keep q i u) : KX O w u := by
  obtain ⟨O', a', h1, -⟩ := h
  exact h1.kx
theorem CraI.at_ {w wr : World} {O : Nat → Prop} {B : Nat} {a : Da} {d : Dk} {keep : List Int} {q i : Nat} (h : CraI w O B a d keep q i wr) (hi : i < d.W.length) :
    ∃ x v g cap, d.W[i]? = some x ∧ a.vb[i]? = some v ∧ (∃ ao n c, v = .slice ao n c) ∧ a.pv = .slice (some ⟨g, 0, none⟩) d.W.length cap ∧
      ∀ j, j < 6 → wr.cell? ⟨g, i * 6 + j, none⟩ = (wcell x v)[j]? := by
  obtain ⟨O', a', h1, h2, ⟨e1, e2, e3⟩, h6⟩ := h
  have hw := h2.wks
  rw [(crN_W d.W keep d i).1, e1, e2] at hw
  obtain ⟨x, hx⟩ : ∃ x, d.W[i]? = some x := ⟨_, List.getElem?_eq_getElem hi⟩
  obtain ⟨v, hv⟩ : ∃ v, a.vb[i]? = some v := ⟨_, List.getElem?_eq_getElem (by rw [hw.len]; exact hi)⟩
  have ho := hw.ok i x v hx hv
  rcases hw.ms with ⟨h0, -⟩ | ⟨g, cap, hpv, -, -, hc, hO⟩
  · omega
  · refine ⟨x, v, g, cap, hx, hv, ho.form, hpv, fun j hj => ?_⟩
    have hl : (wcell x v)[j]? = some ((wcell x v)[j]'(by show j < 6; exact hj)) := List.getElem?_eq_getElem _
    rw [hl]
    refine hO.cell _ _ ?_
    rw [wcs_at hw.len i j x v hx hv hj]
    exact hl
theorem CraI.fast {w wr u : World} {O : Nat → Prop} {B : Nat} {a : Da} {d : Dk} {keep : List Int} {q i : Nat} (h : CraI w O B a d keep q i wr) (hq8 : q < 99999999) (k : Kept wr u) {x : Wk} {v : Value} (hx : d.W[i]? = some x) (hv : a.vb[i]? = some v) (z : Int) (hz : keep[i]? = some z) (hz0 : 0 < z) :
    Calls Try.prog 29 #[.pointer (some ⟨B, 0, none⟩), wval x v, .int .i64 z] u fun e w' => e = .returned (.tuple #[]) ∧ CraI w O B a d keep q (i + 1) w' := by
  obtain ⟨O', a', h1, h2, ⟨e1, e2, e3⟩, h9, h10⟩ := h.kept k
  have ho := h2.wks.ok i x v (by rw [(crN_W d.W keep d i).1]; exact hx) (by rw [e2]; exact hv)
  have hd := wsum_drop hx
  refine (fas_any O' B a' _ x v u h2 ho z (by omega) (by omega) (by have := h10 x.file; omega)).mono ?_
  rintro e w' ⟨rfl, O2, a2, s2, d2, g1, g2, g3, g4⟩
  have hs : crN d.W keep (i + 1) d = fasD x z.toNat (crN d.W keep i d) := by
    show (match d.W[i]?, keep[i]? with | some x, some k => if 0 < k then fasD x k.toNat (crN d.W keep i d) else crN d.W keep i d | _, _ => crN d.W keep i d) = _
    rw [hx, hz]
    exact if_pos hz0
  unfold CraI
  rw [hs]
  refine ⟨rfl, O2, a2, h1.trans s2, d2, ⟨g2.trans e1, g3.trans e2, g1.trans e3⟩, ?_, fun f => ?_⟩
  · have := fasD_nf x z.toNat (crN d.W keep i d)
    omega
  · have h11 : ∀ g, ((crN d.W keep i d).cf g).length ≤ q - wsum (d.W.drop i) := fun g => by have := h10 g; omega
    have := fasD_cf x z.toNat (crN d.W keep i d) h11 f
    have := h10 f
    omega
theorem CraI.skip {w u : World} {O : Nat → Prop} {B : Nat} {a : Da} {d : Dk} {keep : List Int} {q i : Nat} (h : CraI w O B a d keep q i u) {x : Wk} (hx : d.W[i]? = some x) (hz : ∀ z, keep[i]? = some z → ¬ 0 < z) : CraI w O B a d keep q (i + 1) u := by
  have hs : crN d.W keep (i + 1) d = crN d.W keep i d := by
    show (match d.W[i]?, keep[i]? with | some x, some k => if 0 < k then fasD x k.toNat (crN d.W keep i d) else crN d.W keep i d | _, _ => crN d.W keep i d) = _
    rw [hx]
    rcases e : keep[i]? with _ | z
    · rfl
    · exact if_neg (hz z e)
  have hd := wsum_drop hx
  obtain ⟨O', a', h1, h2, h3, h9, h10⟩ := h
  unfold CraI
  rw [hs]
  exact ⟨O', a', h1, h2, h3, by omega, fun f => by have := h10 f; omega⟩
/-- Another map of names. -/
theorem DSt.nowmap {w w1 w2 : World} {O : Nat → Prop} {B : Nat} {a : Da} {d : Dk} (h : DSt w O B a d) (k : Kept w w1) (m n : Nat) (M : Nms) (hM : Mp w1 m n M) (hm : w.heap.size ≤ m) (hin : ∀ s f, M s = some f → a.Fs f ∧ s.size ≤ 32) (hw2 : w2 = w1.setCell ⟨B, 5, none⟩ (.map (some m))) :
    Stp w O w2 (Ow O w w2) ∧ DSt w2 (Ow O w w2) B { a with mN := m } { d with nN := M, nn := n } := by
  have h1 := h.kept k
  have hw := h1.wks
  have k2 : KX (fun b => b = B) w1 w2 := by rw [hw2]; exact (KX.refl (fun b => b = B) w1).setCell (.inl rfl) _
  have kb : ∀ (b : Nat) (c : Array Value) (t : TypeId), w1.heap[b]? = some (.cells c t (0, 0)) → t ≠ 47 → w2.heap[b]? = w1.heap[b]? := fun b c t hb ht => k2.block b (lt_of_block hb) (fun e => by
    subst e
    exact ht (ne_ty hb h1.blk))
  have hS : Stp w O w2 (Ow O w w2) := stp_ow (X := fun b => b = B) ((k.kx _).trans k2) fun b hb _ => by rw [hb]; exact h.oB
  have hsz : w.heap.size ≤ w2.heap.size := hS.kx.size
  have hml : m < w2.heap.size := Nat.lt_of_lt_of_le hM.lt k2.size
  have hf := h1.fls.onb (w' := w2) (O' := Ow O w w2) (fun b hb => Ow.of b hb) fun b c t _ hb ht => kb b c t hb (by rcases ht with e | e <;> rw [e] <;> decide)
  have hk := hw.onb (w' := w2) (O' := Ow O w w2) (fun b hb => Ow.of b hb) fun b c t _ hb ht => kb b c t hb (by rcases ht with e | ⟨e, -⟩ <;> rw [e] <;> decide)
  refine ⟨hS, ⟨?_, Ow.of _ h.oB, fun b hb => hb.lt h.olt hsz, hM.kx k2 fun e => hM.ne_cells h1.blk e.symm, h1.mF.kx k2 fun e => h1.mF.ne_cells h1.blk e.symm, .inr ⟨hm, hml⟩, Ow.of _ h.oF, fun e => ?_, hin, h.inF, ⟨hf.blk, hf.rn, hf.rf, hf.of, hf.on, hf.off, hf.nn, hf.ff, hf.nf⟩, ⟨hk.len, hk.ms, fun i x v h1 h2 => ?_, hk.ow⟩⟩⟩
  · rw [hw2]
    exact h1.blk.set 5 (.map (some m))
  · have := h.mF.lt
    have e : m = a.mF := e
    omega
  · have := hk.ok i x v h1 h2
    exact ⟨this.rb, this.ow, this.far, this.fs, this.nm, this.to_⟩
/-- The copying of a map of names. -/
theorem mapclone_any (b n : Nat) (M : Nms) (w : World) (hM : Mp w b n M) :
    Calls Try.prog 30 #[.map (some b)] w fun e w' => ∃ m, e = .returned (.map (some m)) ∧ Mp w' m n M ∧ w.heap.size ≤ m ∧ Kept w w' := by
  obtain ⟨D, ⟨es, clock, hb, F, hs, hD⟩, v⟩ := hM
  have h := AnyW.maps_Clone Try.cloneL b es clock w hb
  refine Calls.mono h ?_
  rintro e w' ⟨rfl, rfl⟩
  refine ⟨w.heap.size, rfl, ⟨D, ⟨es, clock, (MapKept.heap_alloc w _).1, F, hs, hD⟩, v⟩, Nat.le_refl _, ⟨(Below.refl _ w).alloc (Nat.le_refl _) _, fun x _ => frozen_on (fun i => ?_) x⟩⟩
  by_cases hi : i < w.heap.size
  · exact .inl (Below.heap_alloc _ _ i hi)
  · by_cases e2 : i = w.heap.size
    · subst e2
      refine .inr ⟨fun c t f e => ?_, fun c t f e => ?_⟩
      · rw [(MapKept.heap_alloc w _).1] at e
        cases e
      · rw [Array.getElem?_eq_none (Nat.le_refl _)] at e
        cases e
    · exact .inl (by rw [Array.getElem?_eq_none (by simp; omega), Array.getElem?_eq_none (by omega)])
end Go.Proofs.Ythaiejmajhmahab
