/- Package disk: works made fast, others left. -/
import Derived.Test.YthaiejmajhmahabDLN
namespace Go.Proofs.Ythaiejmajhmahab
open Go.ChangeShapes Go.WideShapes Go.ChangeAt Go.RowKit Go.Maps
set_option linter.unusedVariables false
set_option linter.unusedSimpArgs false

theorem fas_any (O : Nat → Prop) (B : Nat) (a : Da) (d : Dk) (x : Wk) (v : Value) (w : World) (hd : DSt w O B a d) (hx : WkOk w O a x v) (few : Int) (hf : 0 ≤ few) (hn : d.nf < 1000000000) (hb : (d.cf x.file).length + x.bytes.length < 100000000) :
    Calls Try.prog 29 #[.pointer (some ⟨B, 0, none⟩), wval x v, .int .i64 few] w fun e w' => e = .returned (.tuple #[]) ∧ ∃ O' a', Stp w O w' O' ∧ DSt w' O' B a' (fasD x few.toNat d) ∧ a'.Fs = a.Fs ∧ a'.pv = a.pv ∧ a'.vb = a.vb ∧ a'.rn = a.rn := by
  rcases e : ofN x.kind
  · exact fas_bytes O B a d x v w hd hx e few hf hb
  · exact fas_names O B a d x v w hd hx e few hn
/-- How much a list of works can add. -/
def wsum : List Wk → Nat
  | [] => 0
  | x :: r => 1 + x.bytes.length + wsum r
theorem wsum_app (l k : List Wk) : wsum (l ++ k) = wsum l + wsum k := by
  induction l with
  | nil => simp [wsum]
  | cons x r ih => simp only [List.cons_append, wsum, ih]; omega
theorem wsum_drop {l : List Wk} {i : Nat} {x : Wk} (h : l[i]? = some x) : wsum (l.drop i) = 1 + x.bytes.length + wsum (l.drop (i + 1)) := by
  obtain ⟨hi, e⟩ := List.getElem?_eq_some_iff.1 h
  rw [List.drop_eq_getElem_cons hi, e]
  rfl
theorem len_wsum (l : List Wk) : l.length ≤ wsum l := by
  induction l with
  | nil => simp [wsum]
  | cons x r ih => simp only [List.length_cons, wsum]; omega
theorem ontoL_le (x : Wk) (few : Nat) (l : List UInt8) : (ontoL x few l).length ≤ l.length + x.bytes.length := by
  unfold ontoL
  split <;> simp <;> omega
theorem up_le {r : Nat → List UInt8} {f : Nat} {v : List UInt8} {n : Nat} (h : ∀ g, (r g).length ≤ n) (hv : v.length ≤ n) (g : Nat) : (up r f v g).length ≤ n := by
  unfold up
  split
  · exact hv
  · exact h g
/-- How great a disk's parts can be, with all that its works can still add. -/
structure Bd (q : Nat) (d : Dk) : Prop where
  nn : d.nn ≤ q
  nf : d.nf + wsum d.W ≤ q
  cn : ∀ f, (d.cn f).length ≤ q
  cf : ∀ f, (d.cf f).length + wsum d.W ≤ q
  ln : ∀ x ∈ d.W, 0 ≤ x.len
theorem Bd.mono {q q' : Nat} {d : Dk} (h : Bd q d) (hq : q ≤ q') : Bd q' d := ⟨by have := h.nn; omega, by have := h.nf; omega, fun f => by have := h.cn f; omega, fun f => by have := h.cf f; omega, h.ln⟩
theorem fasD_W (x : Wk) (few : Nat) (d : Dk) : (fasD x few d).W = d.W := by unfold fasD; split <;> rfl
theorem fasD_nf (x : Wk) (few : Nat) (d : Dk) : (fasD x few d).nf ≤ d.nf + 1 := by unfold fasD; split <;> simp
theorem fasD_cf (x : Wk) (few : Nat) (d : Dk) {n : Nat} (h : ∀ g, (d.cf g).length ≤ n) (g : Nat) : ((fasD x few d).cf g).length ≤ n + x.bytes.length := by
  unfold fasD
  split
  · have := h g
    simp only
    omega
  · exact up_le (fun g => by have := h g; omega) (by have := ontoL_le x few (d.cf x.file); have := h x.file; omega) g
theorem fasD_keep (x : Wk) (few : Nat) (d : Dk) : (fasD x few d).cn = d.cn ∧ (fasD x few d).nn = d.nn := by unfold fasD; split <;> exact ⟨rfl, rfl⟩
/-- One work made fast, or left. -/
def stepD (p : Wk → Bool) (s : Dk × List Wk) (x : Wk) : Dk × List Wk := if p x then (fasD x x.len.toNat s.1, s.2) else (s.1, s.2 ++ [x])
def setD (p : Wk → Bool) (d : Dk) : Dk := { (d.W.foldl (stepD p) (d, [])).1 with W := (d.W.foldl (stepD p) (d, [])).2 }
theorem take_fold {α : Type} (f : α → Wk → α) (s : α) {l : List Wk} {i : Nat} {x : Wk} (h : l[i]? = some x) : (l.take (i + 1)).foldl f s = f ((l.take i).foldl f s) x := by
  rw [List.take_add_one, h, List.foldl_append]
  rfl
/-- The loop of settle, behind i works. -/
def SetI (w : World) (O : Nat → Prop) (B : Nat) (a : Da) (d : Dk) (p : Wk → Bool) (q i : Nat) (lv : Value) (wr : World) : Prop :=
  ∃ O' a' dd left vbl, Stp w O wr O' ∧ DSt wr O' B a' dd ∧ (d.W.take i).foldl (stepD p) (d, []) = (dd, left) ∧ (a'.pv = a.pv ∧ a'.vb = a.vb ∧ a'.Fs = a.Fs ∧ a'.rn = a.rn ∧ dd.W = d.W ∧ dd.cn = d.cn ∧ dd.nn = d.nn) ∧
    MS 6 59 0 wr lv left.length (wcs left vbl) ∧ vbl.length = left.length ∧ (∀ b, ob lv b → ¬ O' b ∧ w.heap.size ≤ b) ∧ (∀ (j : Nat) x v, left[j]? = some x → vbl[j]? = some v → ∃ k : Nat, d.W[k]? = some x ∧ a.vb[k]? = some v) ∧
    (dd.nf + wsum left + wsum (d.W.drop i) ≤ q ∧ ∀ f, (dd.cf f).length + wsum left + wsum (d.W.drop i) ≤ q)
theorem SetI.start {w : World} {O : Nat → Prop} {B : Nat} {a : Da} {d : Dk} {p : Wk → Bool} {q : Nat} (hd : DSt w O B a d) (hq : Bd q d) : SetI w O B a d p q 0 (.slice none 0 0) w :=
  ⟨O, a, d, [], [], Stp.refl w O, hd, rfl, ⟨rfl, rfl, rfl, rfl, rfl, rfl, rfl⟩, .inl ⟨rfl, rfl, rfl⟩, rfl, fun b hb => absurd hb (ob_nil b), fun j x v h => by simp at h, by simpa [wsum] using hq.nf, fun f => by simpa [wsum] using hq.cf f⟩
theorem SetI.kept {w u u' : World} {O : Nat → Prop} {B : Nat} {a : Da} {d : Dk} {p : Wk → Bool} {q i : Nat} {lv : Value} (h : SetI w O B a d p q i lv u) (k : Kept u u') : SetI w O B a d p q i lv u' := by
  obtain ⟨O', a', dd, left, vbl, h1, h2, h3, h4, h5, h6⟩ := h
  exact ⟨O', a', dd, left, vbl, h1.kept k, h2.kept k, h3, h4, h5.kept k, h6⟩
/-- The work that the loop looks at. -/
theorem SetI.at_ {w wr : World} {O : Nat → Prop} {B : Nat} {a : Da} {d : Dk} {p : Wk → Bool} {q i : Nat} {lv : Value} (h : SetI w O B a d p q i lv wr) (hi : i < d.W.length) :
    ∃ x v g cap, d.W[i]? = some x ∧ a.vb[i]? = some v ∧ (∃ ao n c, v = .slice ao n c) ∧ a.pv = .slice (some ⟨g, 0, none⟩) d.W.length cap ∧ Cb wr x.file ∧ 0 ≤ i ∧
      ∀ j, j < 6 → wr.cell? ⟨g, i * 6 + j, none⟩ = (wcell x v)[j]? := by
  obtain ⟨O', a', dd, left, vbl, h1, h2, h3, ⟨e1, e2, e3, e4, e5, -⟩, h6⟩ := h
  have hw := h2.wks
  rw [e5, e1, e2] at hw
  obtain ⟨x, hx⟩ : ∃ x, d.W[i]? = some x := ⟨_, List.getElem?_eq_getElem hi⟩
  obtain ⟨v, hv⟩ : ∃ v, a.vb[i]? = some v := ⟨_, List.getElem?_eq_getElem (by rw [hw.len]; exact hi)⟩
  have ho := hw.ok i x v hx hv
  rcases hw.ms with ⟨h0, -⟩ | ⟨g, cap, hpv, -, -, hc, hO⟩
  · omega
  · refine ⟨x, v, g, cap, hx, hv, ho.form, hpv, (h2.fls.blk _ ho.fs).cb, Nat.zero_le _, fun j hj => ?_⟩
    have hl : (wcell x v)[j]? = some ((wcell x v)[j]'(by show j < 6; exact hj)) := List.getElem?_eq_getElem _
    rw [hl]
    refine hO.cell _ _ ?_
    rw [wcs_at hw.len i j x v hx hv hj]
    exact hl
theorem SetI.fast {w wr u : World} {O : Nat → Prop} {B : Nat} {a : Da} {d : Dk} {p : Wk → Bool} {q i : Nat} {lv : Value} (h : SetI w O B a d p q i lv wr) (hq : Bd q d) (hq8 : q < 100000000) (k : Kept wr u) {x : Wk} {v : Value} (hx : d.W[i]? = some x) (hv : a.vb[i]? = some v) (hp : p x = true) :
    Calls Try.prog 29 #[.pointer (some ⟨B, 0, none⟩), wval x v, .int .i64 x.len] u fun e w' => e = .returned (.tuple #[]) ∧ SetI w O B a d p q (i + 1) lv w' := by
  obtain ⟨O', a', dd, left, vbl, h1, h2, h3, ⟨e1, e2, e3, e4, e5, e6, e7⟩, h5, h6, h7, h8, h9, h10⟩ := h.kept k
  have ho := h2.wks.ok i x v (by rw [e5]; exact hx) (by rw [e2]; exact hv)
  have hd := wsum_drop hx
  refine (fas_any O' B a' dd x v u h2 ho x.len (hq.ln x (List.mem_of_getElem? hx)) (by omega) (by have := h10 x.file; omega)).mono ?_
  rintro e w' ⟨rfl, O2, a2, s2, d2, g1, g2, g3, g4⟩
  obtain ⟨k1, k2⟩ := fasD_keep x x.len.toNat dd
  refine ⟨rfl, O2, a2, fasD x x.len.toNat dd, left, vbl, h1.trans s2, d2, ?_, ⟨g2.trans e1, g3.trans e2, g1.trans e3, g4.trans e4, (fasD_W _ _ _).trans e5, k1.trans e6, k2.trans e7⟩, ?_, h6, fun b hb => ⟨fun hc => ?_, (h7 b hb).2⟩, h8, ?_, fun f => ?_⟩
  · rw [take_fold _ _ hx, h3]
    unfold stepD
    rw [if_pos hp]
  · exact h5.onb fun b c hb ho => s2.kx.block b (lt_of_block hb) (h7 b ho).1
  · obtain ⟨c, hc2⟩ := h5.ob hb
    rcases s2.new b hc with hh | hh
    · exact (h7 b hb).1 hh
    · exact absurd (lt_of_block hc2) (by omega)
  · have := fasD_nf x x.len.toNat dd
    omega
  · have h11 : ∀ g, (dd.cf g).length ≤ q - wsum left - wsum (d.W.drop i) := fun g => by have := h10 g; omega
    have := fasD_cf x x.len.toNat dd h11 f
    have := h10 f
    omega
theorem SetI.left {w wr u : World} {O : Nat → Prop} {B : Nat} {a : Da} {d : Dk} {p : Wk → Bool} {q i : Nat} {lv : Value} (h : SetI w O B a d p q i lv wr) (hq8 : q < 99999999) (k : Kept wr u) {x : Wk} {v : Value} (hx : d.W[i]? = some x) (hv : a.vb[i]? = some v) (hf : ∃ ao n c, v = .slice ao n c) (hp : p x = false) :
    ∃ ao n c w', (∀ ty, (Builtin.append_ #[45, 45] ty #[lv, .slice (some ⟨u.heap.size, 0, none⟩) 1 1]).run Try.prog (u.alloc (.cells #[.int .i64 x.kind, .string x.nm, .string x.to_, .int .i64 x.len, .pointer (some ⟨x.file, 0, none⟩), v] 59)) = .ok (.slice ao n c) w') ∧ SetI w O B a d p q (i + 1) (.slice ao n c) w' := by
  obtain ⟨O', a', dd, left, vbl, h1, h2, h3, ⟨e1, e2, e3, e4, e5, e6, e7⟩, h5, h6, h7, h8, h9, h10⟩ := h.kept k
  have hd := wsum_drop hx
  have hll := len_wsum left
  obtain ⟨ao, c, w', p1, p2, p3, p4⟩ := push_ms u lv left vbl h6 h5 x v hf (by omega)
  have hS : Stp w O w' O' := ⟨h1.kx.plus p3 fun b hb => .inr (h7 b hb).2, h1.new⟩
  refine ⟨ao, _, c, w', p1, O', a', dd, left ++ [x], vbl ++ [v], hS, h2.kx p3 fun b hb => (h7 b hb).1, ?_, ⟨e1, e2, e3, e4, e5, e6, e7⟩, p2, by simp [h6], fun b hb => ?_, fun j y z hy hz => ?_, ?_, fun f => ?_⟩
  · rw [take_fold _ _ hx, h3]
    unfold stepD
    rw [if_neg (by rw [hp]; decide)]
  · rcases p4 b hb with hh | hh
    · exact h7 b hh
    · refine ⟨fun ho => ?_, Nat.le_trans h1.kx.size hh⟩
      have := h2.olt b ho
      omega
  · by_cases hj : j < left.length
    · rw [List.getElem?_append_left hj] at hy
      rw [List.getElem?_append_left (by omega)] at hz
      exact h8 j y z hy hz
    · rw [List.getElem?_append_right (by omega)] at hy
      rw [List.getElem?_append_right (by omega), h6] at hz
      rcases e : j - left.length with _ | m
      · rw [e] at hy hz
        cases hy
        cases hz
        exact ⟨i, hx, hv⟩
      · rw [e] at hy
        simp at hy
  · rw [wsum_app]
    simp only [wsum]
    omega
  · rw [wsum_app]
    simp only [wsum]
    have := h10 f
    omega
end Go.Proofs.Ythaiejmajhmahab
