/- What is kept of states that were read, as it lies; what is written into it, or grown, leaves the rest. -/
import Derived.Test.YtocjfdiimapojaaZZ
namespace Go.Proofs.Ytocjfdiimapojaa
open Go.ChangeShapes Go.WideShapes Go.ChangeAt Go.RowKit
set_option linter.unusedVariables false
set_option linter.unusedSimpArgs false

/-- The block that a list lies in. -/
def bkv (v : Value) (b : Nat) : Prop := ∃ n c, v = .slice (some ⟨b, 0, none⟩) n c
theorem MS.ty {sz : Nat} {e : TypeId} {H : Nat} {w : World} {v : Value} {k : Nat} {V : List Value} (h : MS sz e H w v k V) {b : Nat} (hb : bkv v b) : ∃ cur, w.heap[b]? = some (.cells cur e (0, 0)) := by
  obtain ⟨n, c, e1⟩ := hb
  rcases h with ⟨-, -, e2⟩ | ⟨g, cap, e2, -, -, -, cur, h1, -⟩
  · rw [e1] at e2; cases e2
  · rw [e1] at e2; cases e2; exact ⟨cur, h1⟩
theorem MS.onx {sz : Nat} {e : TypeId} {H : Nat} {w w' : World} {v : Value} {k : Nat} {V : List Value} {X : Nat → Prop} (h : MS sz e H w v k V) (kk : KX X w w') (hn : ∀ b, bkv v b → ¬ X b) : MS sz e H w' v k V := by
  rcases h with h | ⟨g, cap, h1, h2, h3, h4, h5⟩
  · exact .inl h
  · exact .inr ⟨g, cap, h1, h2, h3, h4, h5.on (kk.block g h5.lt (hn g ⟨_, _, h1⟩))⟩
theorem MS.uniq {sz : Nat} {e : TypeId} {H H' : Nat} {w : World} {v : Value} {k k' : Nat} {V V' : List Value} (h : MS sz e H w v k V) (h' : MS sz e H' w v k' V') : k = k' ∧ V = V' := by
  rcases h with ⟨rfl, rfl, rfl⟩ | ⟨g, cap, rfl, -, hl, -, cur, h1, -, -, -, h5⟩
  · rcases h' with ⟨rfl, rfl, -⟩ | ⟨g, cap, e1, -⟩
    · exact ⟨rfl, rfl⟩
    · cases e1
  · rcases h' with ⟨-, -, e1⟩ | ⟨g', cap', e1, -, hl', -, cur', h1', -, -, -, h5'⟩
    · cases e1
    · cases e1
      rw [h1] at h1'
      cases h1'
      refine ⟨rfl, ?_⟩
      rw [← h5, ← h5', hl, hl']
theorem ownS1 {w : World} {g c : Nat} {L : List Int} : OwnS w g c 1 3 (L.map (Value.int .i64)) ↔ Own w g c L := by
  constructor
  · rintro ⟨cur, h1, h2, h3, h4, h5⟩
    exact ⟨cur, h1, by simpa using h2, h3, by simpa using h4, by simpa using h5⟩
  · rintro ⟨cur, h1, h2, h3, h4, h5⟩
    exact ⟨cur, h1, by simpa using h2, h3, by simpa using h4, by simpa using h5⟩
theorem KE.ok.onx {x : KE} {w w' : World} {X : Nat → Prop} (h : x.ok w) (k : KX X w w') (h1 : ∀ b cur, X b → w.heap[b]? ≠ some (.cells cur 54 (0, 0))) (h2 : ∀ b cur, X b → w.heap[b]? ≠ some (.cells cur 32 (0, 0))) : x.ok w' :=
  ⟨h.p.onx k fun b hb hx => by obtain ⟨cur, e⟩ := h.p.ty hb; exact h1 b cur hx e, h.q.onx k fun b hb hx => by obtain ⟨cur, e⟩ := h.q.ty hb; exact h2 b cur hx e, h.ql, fun j l V hl hV => by
    obtain ⟨lv, h3, h4⟩ := h.l j l V hl hV
    exact ⟨lv, h3, h4.onx k fun b hb hx => by obtain ⟨cur, e⟩ := h4.ty hb; exact h1 b cur hx e⟩, h.o, h.n, h.sl⟩
def row7 (x : KE) : List Value := [.int .i64 x.s.a, .int .i64 x.s.b, .int .i64 x.s.d, x.pv, x.qv, .int .i64 x.s.lo, .int .i64 x.s.ra]
theorem rows7_get : ∀ (xs : List KE) (i : Nat) (x : KE) (c : Nat), xs[i]? = some x → c < 7 → (xs.flatMap row7)[i * 7 + c]? = (row7 x)[c]?
  | [], i, x, c, h, _ => by simp at h
  | y :: xs, 0, x, c, h, hc => by
    cases h
    rw [List.flatMap_cons, List.getElem?_append_left (by show 0 * 7 + c < 7; omega), Nat.zero_mul, Nat.zero_add]
  | y :: xs, i + 1, x, c, h, hc => by
    rw [List.flatMap_cons, List.getElem?_append_right (by show 7 ≤ _; omega), show (i + 1) * 7 + c - (row7 y).length = i * 7 + c by show (i + 1) * 7 + c - 7 = _; omega]
    exact rows7_get xs i x c (by simpa using h) hc
/-- What stays the same all along. -/
structure Env where
  K : Nat
  S1 : Nat
  C1 : Nat
  S2 : Nat
  C2 : Nat
  r0 : Value
  r1 : Value
  xs : List KE
  ys : List KE
  bv : Value
  bs : List Value
  Hm : Nat
structure Env.st (E : Env) : Prop where
  n : E.xs.length ≤ 1000 ∧ E.ys.length ≤ 1000 ∧ E.bs.length ≤ 1000000
  al : ∀ x ∈ E.xs, ∀ z ∈ E.xs ++ E.ys, ∀ u ∈ x.pv :: x.vs, ∀ v ∈ z.pv :: z.vs, u = v ∨ ∀ b, bkv u b → ¬ bkv v b
  aq : ∀ x ∈ E.xs, ∀ z ∈ E.xs ++ E.ys, x.qv = z.qv ∨ ∀ b, bkv x.qv b → ¬ bkv z.qv b
  ab : ∀ (i j : Nat) (u v : Value), E.bs[i]? = some u → E.bs[j]? = some v → i ≠ j → ∀ b, bkv u b → ¬ bkv v b
  hK : E.K < E.Hm
  hb : ∀ v ∈ E.bs, ∀ b, bkv v b → E.Hm ≤ b
  hl : ∀ x ∈ E.xs, ∀ u ∈ x.pv :: x.vs, ∀ b, bkv u b → E.Hm ≤ b
  hq : ∀ x ∈ E.xs, ∀ b, bkv x.qv b → E.Hm ≤ b
theorem Env.st.kb {E : Env} (h : E.st) : ∀ v ∈ E.bs, ¬ bkv v E.K := fun v hv hb => absurd (h.hb v hv _ hb) (by have := h.hK; omega)
theorem Env.st.kl {E : Env} (h : E.st) : ∀ x ∈ E.xs, ∀ u ∈ x.pv :: x.vs, ¬ bkv u E.K := fun x hx u hu hb => absurd (h.hl x hx u hu _ hb) (by have := h.hK; omega)
theorem Env.st.kq {E : Env} (h : E.st) : ∀ x ∈ E.xs, ¬ bkv x.qv E.K := fun x hx hb => absurd (h.hq x hx _ hb) (by have := h.hK; omega)
structure Pic (E : Env) (P : Nat → List Int → Prop) (w : World) : Prop where
  k : Bk w E.K [E.r0, E.r1, .slice (some ⟨E.S1, 0, none⟩) E.xs.length E.C1, .slice (some ⟨E.S2, 0, none⟩) E.ys.length E.C2]
  s1 : OwnS w E.S1 E.C1 7 35 (E.xs.flatMap row7)
  s2 : OwnS w E.S2 E.C2 7 35 (E.ys.flatMap row7)
  x : ∀ z ∈ E.xs ++ E.ys, z.ok w
  bl : MS 1 52 0 w E.bv E.bs.length E.bs
  b : ∀ (i : Nat) (v : Value), E.bs[i]? = some v → ∃ g n L, v = .slice (some ⟨g, 0, none⟩) n n ∧ L.length = n ∧ n ≤ 4096 ∧ P i L ∧ Own w g n L
theorem Pic.kept {E : Env} {P : Nat → List Int → Prop} {w w' : World} (h : Pic E P w) (k : Kept w w') : Pic E P w' :=
  ⟨h.k.kept k, h.s1.kept k, h.s2.kept k, fun z hz => (h.x z hz).kept k, h.bl.kept k, fun i v hv => by
    obtain ⟨g, n, L, a1, a2, a3, a4, a5⟩ := h.b i v hv
    exact ⟨g, n, L, a1, a2, a3, a4, ownS1.1 ((ownS1.2 a5).kept k)⟩⟩
theorem Pic.imp {E : Env} {P Q : Nat → List Int → Prop} {w : World} (h : Pic E P w) (hi : ∀ i L, P i L → Q i L) : Pic E Q w :=
  ⟨h.k, h.s1, h.s2, h.x, h.bl, fun i v hv => by
    obtain ⟨g, n, L, a1, a2, a3, a4, a5⟩ := h.b i v hv
    exact ⟨g, n, L, a1, a2, a3, hi i L a4, a5⟩⟩
theorem Pic.kx {E : Env} {P Q : Nat → List Int → Prop} {w w' : World} {X : Nat → Prop} (h : Pic E P w) (k : KX X w w') (hk : ¬ X E.K) (h1 : ∀ b cur, X b → w.heap[b]? ≠ some (.cells cur 35 (0, 0))) (h2 : ∀ b cur, X b → w.heap[b]? ≠ some (.cells cur 52 (0, 0))) (hx : ∀ z ∈ E.xs ++ E.ys, z.ok w') (hb : ∀ (i : Nat) (v : Value), E.bs[i]? = some v → ∃ g n L, v = .slice (some ⟨g, 0, none⟩) n n ∧ L.length = n ∧ n ≤ 4096 ∧ Q i L ∧ Own w' g n L) : Pic E Q w' :=
  ⟨h.k.kx k hk, h.s1.on (k.block _ h.s1.lt fun hx => by obtain ⟨cur, e, -⟩ := h.s1; exact h1 _ cur hx e), h.s2.on (k.block _ h.s2.lt fun hx => by obtain ⟨cur, e, -⟩ := h.s2; exact h1 _ cur hx e), hx, h.bl.onx k fun b hb hx => by obtain ⟨cur, e⟩ := h.bl.ty hb; exact h2 b cur hx e, hb⟩
/-- A list of bits is written. -/
theorem Pic.bits {E : Env} (hE : E.st) {P Q : Nat → List Int → Prop} {w w' : World} (h : Pic E P w) (i : Nat) (g n : Nat) (L L' : List Int) (hi : E.bs[i]? = some (.slice (some ⟨g, 0, none⟩) n n)) (ho : Own w g n L) (k : KX (fun b => b = g) w w') (ho' : Own w' g n L') (hl : L'.length = n) (hn : n ≤ 4096) (hQ : Q i L') (hPQ : ∀ j L, j ≠ i → P j L → Q j L) : Pic E Q w' := by
  have hty : ∀ b cur (e : TypeId), b = g → w.heap[b]? = some (.cells cur e (0, 0)) → e = 3 := fun b cur e hb he => by
    subst hb
    obtain ⟨cur2, h2, -⟩ := ho
    rw [h2] at he
    simp at he
    exact he.2.symm
  refine h.kx k (fun e => hE.kb _ (List.mem_of_getElem? hi) ⟨n, n, by rw [e]⟩) (fun b cur hb he => ?_) (fun b cur hb he => ?_) (fun z hz => (h.x z hz).onx k (fun b cur hb he => ?_) (fun b cur hb he => ?_)) (fun j v hv => ?_)
  · exact absurd (hty b cur _ hb he) (by decide)
  · exact absurd (hty b cur _ hb he) (by decide)
  · exact absurd (hty b cur _ hb he) (by decide)
  · exact absurd (hty b cur _ hb he) (by decide)
  · by_cases hji : j = i
    · subst hji
      rw [hi] at hv
      cases hv
      exact ⟨g, n, L', rfl, hl, hn, hQ, ho'⟩
    · obtain ⟨g2, n2, L2, a1, a2, a3, a4, a5⟩ := h.b j v hv
      refine ⟨g2, n2, L2, a1, a2, a3, hPQ j L2 hji a4, ownS1.1 ((ownS1.2 a5).on (k.block g2 a5.lt fun e => ?_))⟩
      exact hE.ab j i v _ hv hi hji g2 ⟨n2, n2, a1⟩ ⟨n, n, by rw [e]⟩
/-- A list of matrices is grown: it stays. -/
theorem Pic.list {E : Env} (hE : E.st) {P : Nat → List Int → Prop} {w w' : World} (h : Pic E P w) (x : KE) (hx : x ∈ E.xs) (u : Value) (hu : u ∈ x.pv :: x.vs) (n : Nat) (V : List Value) (hm : MS 4 54 0 w u n V) (k : KX (bkv u) w w') (hm' : MS 4 54 0 w' u n V) : Pic E P w' := by
  have hty : ∀ b cur (e : TypeId), bkv u b → w.heap[b]? = some (.cells cur e (0, 0)) → e = 54 := fun b cur e hb he => by
    obtain ⟨cur2, h2⟩ := hm.ty hb
    rw [h2] at he
    simp at he
    exact he.2.symm
  have hone : ∀ z ∈ E.xs ++ E.ys, ∀ v ∈ z.pv :: z.vs, ∀ n2 V2, MS 4 54 0 w v n2 V2 → MS 4 54 0 w' v n2 V2 := fun z hz v hv n2 V2 h2 => by
    rcases hE.al x hx z hz u hu v hv with rfl | ha
    · obtain ⟨rfl, rfl⟩ := hm.uniq h2
      exact hm'
    · exact h2.onx k fun b hb hb2 => ha b hb2 hb
  refine h.kx k (hE.kl x hx u hu) (fun b cur hb he => absurd (hty b cur _ hb he) (by decide)) (fun b cur hb he => absurd (hty b cur _ hb he) (by decide)) (fun z hz => ?_) (fun j v hv => ?_)
  · have hz2 := h.x z hz
    exact ⟨hone z hz _ (List.mem_cons_self ..) _ _ hz2.p, hz2.q.onx k fun b hb hx => by obtain ⟨cur, e⟩ := hz2.q.ty hb; exact absurd (hty b cur _ hx e) (by decide), hz2.ql, fun j l V hl hV => by
      obtain ⟨lv, h3, h4⟩ := hz2.l j l V hl hV
      exact ⟨lv, h3, hone z hz lv (List.mem_cons_of_mem _ (List.mem_of_getElem? h3)) _ _ h4⟩, hz2.o, hz2.n, hz2.sl⟩
  · obtain ⟨g2, n2, L2, a1, a2, a3, a4, a5⟩ := h.b j v hv
    refine ⟨g2, n2, L2, a1, a2, a3, a4, ownS1.1 ((ownS1.2 a5).on (k.block g2 a5.lt fun hb => ?_))⟩
    obtain ⟨cur, e, -⟩ := a5
    exact absurd (hty g2 cur _ hb e) (by decide)
/-- A list of lists is grown: it stays. -/
theorem Pic.lists {E : Env} (hE : E.st) {P : Nat → List Int → Prop} {w w' : World} (h : Pic E P w) (x : KE) (hx : x ∈ E.xs) (k : KX (bkv x.qv) w w') (hm' : MS 1 32 0 w' x.qv x.s.Q.length x.vs) : Pic E P w' := by
  have hm := (h.x x (List.mem_append_left _ hx)).q
  have hty : ∀ b cur (e : TypeId), bkv x.qv b → w.heap[b]? = some (.cells cur e (0, 0)) → e = 32 := fun b cur e hb he => by
    obtain ⟨cur2, h2⟩ := hm.ty hb
    rw [h2] at he
    simp at he
    exact he.2.symm
  refine h.kx k (hE.kq x hx) (fun b cur hb he => absurd (hty b cur _ hb he) (by decide)) (fun b cur hb he => absurd (hty b cur _ hb he) (by decide)) (fun z hz => ?_) (fun j v hv => ?_)
  · have hz2 := h.x z hz
    refine ⟨hz2.p.onx k fun b hb hx => by obtain ⟨cur, e⟩ := hz2.p.ty hb; exact absurd (hty b cur _ hx e) (by decide), ?_, hz2.ql, fun j l V hl hV => by
      obtain ⟨lv, h3, h4⟩ := hz2.l j l V hl hV
      exact ⟨lv, h3, h4.onx k fun b hb hx => by obtain ⟨cur, e⟩ := h4.ty hb; exact absurd (hty b cur _ hx e) (by decide)⟩, hz2.o, hz2.n, hz2.sl⟩
    rcases hE.aq x hx z hz with e1 | ha
    · have h2 := hz2.q
      rw [← e1] at h2 ⊢
      obtain ⟨e2, e3⟩ := hm.uniq h2
      rw [← e2, ← e3]
      exact hm'
    · exact hz2.q.onx k fun b hb hb2 => ha b hb2 hb
  · obtain ⟨g2, n2, L2, a1, a2, a3, a4, a5⟩ := h.b j v hv
    refine ⟨g2, n2, L2, a1, a2, a3, a4, ownS1.1 ((ownS1.2 a5).on (k.block g2 a5.lt fun hb => ?_))⟩
    obtain ⟨cur, e, -⟩ := a5
    exact absurd (hty g2 cur _ hb e) (by decide)
/-- Grown by n zero elements, and one of the new cells written, other memory made in between or not. -/
theorem zmark2 (t e : TypeId) (ht : Try.prog.underlying t = some (.slice e)) (z : Value) (sz by8 : Nat) (hinf : (Try.prog.info? e).map (fun i => (i.zero, i.size, i.bytes)) = some (some z, sz, by8)) (hz : z.cells.size = sz) (hz0 : 0 < sz) (hby : by8 ≤ 64) (h1 : ∀ u ∈ z.cells.toList, u.oneCell' = true)
    (w : World) (lv : Value) (k : Nat) (V : List Value) (hM : MS sz e 0 w lv k V) (n : Nat) (hn : 0 < n) (hn2 : n < 1000000) (hk : k < 1000000) (j : Nat) (hj : k * sz ≤ j) (hj2 : j < (k + n) * sz) :
    ∃ g cap w', (∀ ty, (Builtin.append_ #[t, 3] ty #[lv, .int .i64 (n : Int)]).run Try.prog w = .ok (.slice (some ⟨g, 0, none⟩) (k + n) cap) w') ∧ (∃ y, w'.cell? ⟨g, j, none⟩ = some y) ∧ w'.frozen? ⟨g, j, none⟩ = false ∧ g < w'.heap.size ∧ w.heap.size ≤ w'.heap.size ∧ ∀ wa x, Kept w' wa → KX (bkv lv) w (wa.setCell ⟨g, j, none⟩ x) ∧ MS sz e 0 (wa.setCell ⟨g, j, none⟩ x) lv k V := by
  obtain ⟨g, cap, w', hr, hkx, -, hg, -, hc, hf, hw⟩ := zmark t e ht z sz by8 hinf hz hz0 hby h1 w lv k V hM n hn hn2 hk
  refine ⟨g, cap, w', hr, hc j hj2, hf j, hg, hkx.size, fun wa x kk => hw _ ((kk.kx _).trans ((Grw.refl g wa).setCell j x).kx) fun cur hcur => ⟨j, x, hj, ?_⟩⟩
  exact heap_setCell_same wa g j cur e x ((kk.below.block g hg).trans hcur)
/-- Every fourth cell: the lists of bits. -/
def bslM : List Value → List Value
  | _ :: _ :: _ :: d :: r => d :: bslM r
  | _ => []
theorem bslM_get : ∀ (k : Nat) (V : List Value), V.length = k * 4 → ∀ j, j < k → ∃ v, (bslM V)[j]? = some v ∧ V[j * 4 + 3]? = some v
  | 0, V, _, j, hj => by omega
  | k + 1, V, h, j, hj => by
    match V, h with
    | a :: b :: c :: d :: r, h =>
      match j with
      | 0 => exact ⟨d, rfl, rfl⟩
      | j + 1 =>
        obtain ⟨v, h1, h2⟩ := bslM_get k r (by simp at h; omega) j (by omega)
        exact ⟨v, by simpa [bslM] using h1, by rw [show (j + 1) * 4 + 3 = (j * 4 + 3) + 4 by omega]; simpa using h2⟩
    | [], h => simp at h
    | [_], h => simp at h; omega
    | [_, _], h => simp at h; omega
    | [_, _, _], h => simp at h; omega
theorem bslM_len : ∀ (k : Nat) (V : List Value), V.length = k * 4 → (bslM V).length = k
  | 0, V, h => by
    have : V = [] := List.length_eq_zero_iff.1 (by omega)
    subst this
    rfl
  | k + 1, V, h => by
    match V, h with
    | a :: b :: c :: d :: r, h =>
      have := bslM_len k r (by simp at h; omega)
      simp [bslM, this]
    | [], h => simp at h
    | [_], h => simp at h; omega
    | [_, _], h => simp at h; omega
    | [_, _, _], h => simp at h; omega
end Go.Proofs.Ytocjfdiimapojaa
