/- Lists of matrices that are lent: the values, how they lie, what can be read of them. The laws of chapter 23: a list of matrices is lent. The laws of chapter 23: a state is lent. -/
import Derived.Test.YtphkdkenopkbbaaXA
import Derived.Test.YtphkdkenopkbbaaWM
namespace Go.Proofs.Ytphkdkenopkbbaa
open Go.ChangeShapes Go.WideShapes Go.ChangeAt Go.RowKit
set_option linter.unusedVariables false
set_option linter.unusedSimpArgs false

/-- A lent matrix's four cells. -/
abbrev mcN (m : Mat) (g C : Nat) : List Value := [.int .i64 m.r, .int .i64 m.c, .int .i64 m.n, .slice (some ⟨g, 0, none⟩) m.L.length C]
/-- The four cells of a matrix of which the rows alone are told. -/
abbrev mk4 (x : Int) : List Value := [.int .i64 x, .int .i64 0, .int .i64 0, .slice none 0 0]
def MsN (H : Nat) (w : World) : List Mat → List Value → Prop
  | [], V => V = []
  | m :: l, V => ∃ g C V', V = mcN m g C ++ V' ∧ H ≤ g ∧ Own w g C (m.L ++ [-77]) ∧ MsN H w l V'
theorem MsN.on {H : Nat} {w w' : World} : ∀ {l : List Mat} {V : List Value}, MsN H w l V → (∀ b cap L, H ≤ b → Own w b cap L → w'.heap[b]? = w.heap[b]?) → MsN H w' l V
  | [], _, h, _ => h
  | m :: l, _, ⟨g, C, V', e, hg, ho, h⟩, k => ⟨g, C, V', e, hg, by
      have kb := k g _ _ hg ho
      obtain ⟨cur, h1, r⟩ := ho
      exact ⟨cur, kb.trans h1, r⟩, MsN.on h k⟩
theorem MsN.snoc {H : Nat} {w : World} {m : Mat} {g C : Nat} (hg : H ≤ g) (ho : Own w g C (m.L ++ [-77])) : ∀ {l : List Mat} {V : List Value}, MsN H w l V → MsN H w (l ++ [m]) (V ++ mcN m g C)
  | [], _, h => by cases h; exact ⟨g, C, [], rfl, hg, ho, rfl⟩
  | x :: l, _, ⟨g', C', V', e, hg', ho', h⟩ => ⟨g', C', V' ++ mcN m g C, by rw [e, List.append_assoc], hg', ho', MsN.snoc hg ho h⟩
theorem MsN.mono {H H' : Nat} {w : World} (hH : H' ≤ H) : ∀ {l : List Mat} {V : List Value}, MsN H w l V → MsN H' w l V
  | [], _, h => h
  | m :: l, _, ⟨g, C, V', e, hg, ho, h⟩ => ⟨g, C, V', e, Nat.le_trans hH hg, ho, MsN.mono hH h⟩
theorem MsN.len {H : Nat} {w : World} : ∀ {l : List Mat} {V : List Value}, MsN H w l V → V.length = l.length * 4
  | [], _, h => by cases h; rfl
  | m :: l, _, ⟨g, C, V', e, hg, ho, h⟩ => by rw [e, List.length_append, MsN.len h]; show 4 + l.length * 4 = (l.length + 1) * 4; omega
theorem MsN.get {H : Nat} {w : World} : ∀ {l : List Mat} {V : List Value}, MsN H w l V → ∀ (i : Nat) (m : Mat), l[i]? = some m → ∃ g C, H ≤ g ∧ Own w g C (m.L ++ [-77]) ∧ V[i * 4]? = some (.int .i64 m.r) ∧ V[i * 4 + 1]? = some (.int .i64 m.c) ∧ V[i * 4 + 2]? = some (.int .i64 m.n) ∧ V[i * 4 + 3]? = some (.slice (some ⟨g, 0, none⟩) m.L.length C)
  | [], _, _, i, m, hi => by simp at hi
  | x :: l, _, ⟨g, C, V', e, hg, ho, h⟩, 0, m, hi => by
    cases hi
    subst e
    exact ⟨g, C, hg, ho, rfl, rfl, rfl, rfl⟩
  | x :: l, _, ⟨g, C, V', e, hg, ho, h⟩, i + 1, m, hi => by
    obtain ⟨g2, C2, hg2, ho2, h0, h1, h2, h3⟩ := MsN.get h i m (by simpa using hi)
    subst e
    refine ⟨g2, C2, hg2, ho2, ?_, ?_, ?_, ?_⟩
    · rw [List.getElem?_append_right (by show 4 ≤ _; omega), show (i + 1) * 4 - (mcN x g C).length = i * 4 by show (i + 1) * 4 - 4 = _; omega]; exact h0
    · rw [List.getElem?_append_right (by show 4 ≤ _; omega), show (i + 1) * 4 + 1 - (mcN x g C).length = i * 4 + 1 by show (i + 1) * 4 + 1 - 4 = _; omega]; exact h1
    · rw [List.getElem?_append_right (by show 4 ≤ _; omega), show (i + 1) * 4 + 2 - (mcN x g C).length = i * 4 + 2 by show (i + 1) * 4 + 2 - 4 = _; omega]; exact h2
    · rw [List.getElem?_append_right (by show 4 ≤ _; omega), show (i + 1) * 4 + 3 - (mcN x g C).length = i * 4 + 3 by show (i + 1) * 4 + 3 - 4 = _; omega]; exact h3
/-- Bits with a mark behind them, as the list that was lent. -/
theorem own_mark {w : World} {g C : Nat} {L : List Int} {x : Int} (h : Own w g C (L ++ [x])) : Sl w (.slice (some ⟨g, 0, none⟩) L.length C) L := by
  have := h.slTake L.length (by simp)
  rw [List.take_append_of_le_length (Nat.le_refl _), List.take_length] at this
  exact this
/-- A list while it is being lent. -/
def LmN (H : Nat) (w : World) (v : Value) (l : List Mat) : Prop := ∃ V, MS 4 52 H w v l.length V ∧ MsN H w l V
/-- A list that is lent, its mark behind it. -/
def LnV (H : Nat) (w : World) (v : Value) (l : List Mat) : Prop := ∃ G C V, v = .slice (some ⟨G, 0, none⟩) l.length C ∧ H ≤ G ∧ l.length + 1 ≤ C ∧ MsN H w l V ∧ OwnS w G C 4 52 (V ++ mk4 (-77))
theorem ln_app (H : Nat) (wr : World) (lv : Value) (l : List Mat) (h : LmN H wr lv l) (hH : H ≤ wr.heap.size) (hlen : l.length < 10000000) (vs : List Value) (hn : vs.length = 4) (h1 : ∀ u ∈ vs, u.oneCell' = true) :
    ∃ v' w', (∀ ty, (Builtin.append_ #[22, 22] ty #[lv, .slice (some ⟨wr.heap.size, 0, none⟩) 1 1]).run Try.prog (wr.alloc (.cells vs.toArray 52)) = .ok v' w') ∧ (∃ V, MS 4 52 H w' v' (l.length + 1) (V ++ vs) ∧ MsN H w' l V) ∧ KX (fun b => H ≤ b) wr w' ∧ ∀ b cap L, H ≤ b → Own wr b cap L → w'.heap[b]? = wr.heap[b]? := by
  obtain ⟨V, hM, hV⟩ := h
  obtain ⟨v', w', hr, hm, hk⟩ := app_elemx 22 52 mat_under (.agg #[.int .i64 0, .int .i64 0, .int .i64 0, .slice none 0 0]) 4 48 mat_info rfl (by decide) H wr lv l.length V hM vs hn h1 hH hlen
  have hrow : ∀ b c L, (∃ n c, lv = .slice (some ⟨b, 0, none⟩) n c) → ¬ Own wr b c L := by
    rintro b c L ⟨n, c', e⟩
    rcases hM with ⟨-, -, e2⟩ | ⟨g2, cap, e2, -, -, -, h5⟩
    · rw [e] at e2; cases e2
    · rw [e] at e2; cases e2; exact h5.not_own c L
  have hkeep : ∀ b c L, H ≤ b → Own wr b c L → w'.heap[b]? = wr.heap[b]? := fun b c L hb ho => hk.block b ho.lt fun hx => hrow b c L hx ho
  refine ⟨v', w', hr, ⟨V, hm, hV.on hkeep⟩, hk.mono ?_, hkeep⟩
  rintro b ⟨n, c, e⟩
  rcases hM with ⟨-, -, e2⟩ | ⟨g2, cap, e2, hg2, -⟩
  · rw [e] at e2; cases e2
  · rw [e] at e2; cases e2; exact hg2
/-- One more lent matrix. -/
theorem ln_push (H : Nat) (wr : World) (lv : Value) (l : List Mat) (h : LmN H wr lv l) (m : Mat) (g C : Nat) (hg : H ≤ g) (ho : Own wr g C (m.L ++ [-77])) (hH : H ≤ wr.heap.size) (hlen : l.length < 10000000) :
    ∃ v' w', (∀ ty, (Builtin.append_ #[22, 22] ty #[lv, .slice (some ⟨wr.heap.size, 0, none⟩) 1 1]).run Try.prog (wr.alloc (.cells #[.int .i64 m.r, .int .i64 m.c, .int .i64 m.n, .slice (some ⟨g, 0, none⟩) m.L.length C] 52)) = .ok v' w') ∧ LmN H w' v' (l ++ [m]) ∧ KX (fun b => H ≤ b) wr w' := by
  obtain ⟨v', w', hr, ⟨V, hm, hV⟩, hk, hkeep⟩ := ln_app H wr lv l h hH hlen (mcN m g C) rfl (fun u hu => by
    simp only [mcN, List.mem_cons, List.not_mem_nil, or_false] at hu
    rcases hu with rfl | rfl | rfl | rfl <;> rfl)
  refine ⟨v', w', hr, ⟨V ++ mcN m g C, by rw [List.length_append]; exact hm, ?_⟩, hk⟩
  have kb := hkeep g _ _ hg ho
  obtain ⟨cur, h1, r⟩ := ho
  exact hV.snoc hg ⟨cur, kb.trans h1, r⟩
/-- The mark behind the last one. -/
theorem ln_end (H : Nat) (wr : World) (lv : Value) (l : List Mat) (h : LmN H wr lv l) (hH : H ≤ wr.heap.size) (hlen : l.length < 10000000) :
    ∃ G C w', (∀ ty, (Builtin.append_ #[22, 22] ty #[lv, .slice (some ⟨wr.heap.size, 0, none⟩) 1 1]).run Try.prog (wr.alloc (.cells #[.int .i64 (-77), .int .i64 0, .int .i64 0, .slice none 0 0] 52)) = .ok (.slice (some ⟨G, 0, none⟩) (l.length + 1) C) w') ∧ l.length + 1 ≤ C ∧ LnV H w' (.slice (some ⟨G, 0, none⟩) l.length C) l ∧ KX (fun b => H ≤ b) wr w' := by
  obtain ⟨v', w', hr, ⟨V, hm, hV⟩, hk, hkeep⟩ := ln_app H wr lv l h hH hlen (mk4 (-77)) rfl (fun u hu => by
    simp only [mk4, List.mem_cons, List.not_mem_nil, or_false] at hu
    rcases hu with rfl | rfl | rfl | rfl <;> rfl)
  rcases hm with ⟨h0, -, -⟩ | ⟨G, C, rfl, hG, -, hC, hO⟩
  · omega
  · exact ⟨G, C, w', hr, hC, ⟨G, C, V, rfl, hG, hC, hV, hO⟩, hk⟩
theorem LnV.ml {H : Nat} {w : World} {v : Value} {l : List Mat} (h : LnV H w v l) : MlI w v l := by
  obtain ⟨G, C, V, rfl, hG, hC, hV, hO⟩ := h
  refine ⟨_, C, rfl, by omega, fun _ => ⟨G, 0, rfl, fun i m hi => ?_⟩⟩
  obtain ⟨b, C2, -, ho, h0, h1, h2, h3⟩ := hV.get i m hi
  have hl := hV.len
  have hil := (List.getElem?_eq_some_iff.1 hi).1
  have ap : ∀ j, j < 4 → (V ++ mk4 (-77))[i * 4 + j]? = V[i * 4 + j]? := fun j hj => List.getElem?_append_left (by omega)
  rw [Nat.zero_add]
  exact ⟨_, _, hO.cell _ _ ((ap 0 (by omega)).trans h0), hO.cell _ _ ((ap 1 (by omega)).trans h1), hO.cell _ _ ((ap 2 (by omega)).trans h2), hO.cell _ _ ((ap 3 (by omega)).trans h3), own_mark ho⟩
theorem LnV.on {H : Nat} {w w' : World} {v : Value} {l : List Mat} (h : LnV H w v l) (k : ∀ b cur e, H ≤ b → (e = 3 ∨ e = 52) → w.heap[b]? = some (.cells cur e (0, 0)) → w'.heap[b]? = w.heap[b]?) : LnV H w' v l := by
  obtain ⟨G, C, V, rfl, hG, hC, hV, hO⟩ := h
  refine ⟨G, C, V, rfl, hG, hC, hV.on fun b c L hb ho => ?_, hO.on ?_⟩
  · obtain ⟨cur, hg, -⟩ := ho
    exact k b cur 3 hb (.inl rfl) hg
  · obtain ⟨cur, hg, -⟩ := hO
    exact k G cur _ hG (.inr rfl) hg
theorem LnV.mono {H H' : Nat} {w : World} {v : Value} {l : List Mat} (h : LnV H w v l) (hH : H' ≤ H) : LnV H' w v l := by
  obtain ⟨G, C, V, e, hG, hC, hV, hO⟩ := h
  exact ⟨G, C, V, e, by omega, hC, hV.mono hH, hO⟩
theorem LnV.kx {H : Nat} {w w' : World} {v : Value} {l : List Mat} {X : Nat → Prop} (h : LnV H w v l) (k : KX X w w') (hX : ∀ b, X b → b < H) : LnV H w' v l :=
  h.on fun b cur e hb _ hg => k.block b (lt_of_block hg) fun hx => by have := hX b hx; omega
theorem LnV.form {H : Nat} {w : World} {v : Value} {l : List Mat} (h : LnV H w v l) : ∃ G C, v = .slice (some ⟨G, 0, none⟩) l.length C ∧ l.length + 1 ≤ C := by
  obtain ⟨G, C, V, rfl, hG, hC, hV, hO⟩ := h
  exact ⟨G, C, rfl, hC⟩
def SnV (H : Nat) (w : World) : List (List Mat) → List Value → Prop
  | [], V => V = []
  | l :: Q, V => ∃ v V', V = v :: V' ∧ LnV H w v l ∧ SnV H w Q V'
theorem SnV.on {H : Nat} {w w' : World} (k : ∀ b cur e, H ≤ b → (e = 3 ∨ e = 52) → w.heap[b]? = some (.cells cur e (0, 0)) → w'.heap[b]? = w.heap[b]?) : ∀ {Q : List (List Mat)} {V : List Value}, SnV H w Q V → SnV H w' Q V
  | [], _, h => h
  | l :: Q, _, ⟨v, V', e, h, h2⟩ => ⟨v, V', e, h.on k, SnV.on k h2⟩
theorem SnV.snoc {H : Nat} {w : World} {l : List Mat} {v : Value} (hl : LnV H w v l) : ∀ {Q : List (List Mat)} {V : List Value}, SnV H w Q V → SnV H w (Q ++ [l]) (V ++ [v])
  | [], _, h => by cases h; exact ⟨v, [], rfl, hl, rfl⟩
  | x :: Q, _, ⟨u, V', e, h, h2⟩ => ⟨u, V' ++ [v], by rw [e]; rfl, h, SnV.snoc hl h2⟩
theorem SnV.len {H : Nat} {w : World} : ∀ {Q : List (List Mat)} {V : List Value}, SnV H w Q V → V.length = Q.length
  | [], _, h => by cases h; rfl
  | x :: Q, _, ⟨u, V', e, h, h2⟩ => by rw [e, List.length_cons, SnV.len h2, List.length_cons]
theorem SnV.get {H : Nat} {w : World} : ∀ {Q : List (List Mat)} {V : List Value}, SnV H w Q V → ∀ (i : Nat) (l : List Mat), Q[i]? = some l → ∃ v, V[i]? = some v ∧ LnV H w v l
  | [], _, _, i, m, hi => by simp at hi
  | x :: l, _, ⟨v, V', e, h1, h⟩, 0, m, hi => by
    cases hi
    subst e
    exact ⟨v, rfl, h1⟩
  | x :: l, _, ⟨v, V', e, h1, h⟩, i + 1, m, hi => by
    obtain ⟨u, h2, h3⟩ := SnV.get h i m (by simpa using hi)
    subst e
    exact ⟨u, by simpa using h2, h3⟩
/-- A list of lists while it is being lent. -/
def QmN (H : Nat) (w : World) (v : Value) (Q : List (List Mat)) : Prop := ∃ V, MS 1 22 H w v Q.length V ∧ SnV H w Q V
/-- A list of lists that is lent; behind it a list of one. -/
def LnQ (H : Nat) (w : World) (v : Value) (Q : List (List Mat)) : Prop := ∃ G C V K, v = .slice (some ⟨G, 0, none⟩) Q.length C ∧ H ≤ G ∧ Q.length + 1 ≤ C ∧ SnV H w Q V ∧ OwnS w G C 1 22 (V ++ [.slice (some ⟨K, 0, none⟩) 1 1]) ∧ H ≤ K ∧ OwnS w K 1 4 52 (mk4 (-78))
theorem qn_app (H : Nat) (wr : World) (qv : Value) (Q : List (List Mat)) (h : QmN H wr qv Q) (lv : Value) (h1 : lv.oneCell' = true) (hH : H ≤ wr.heap.size) (hlen : Q.length < 10000000) :
    ∃ v' w', (∀ ty, (Builtin.append_ #[23, 23] ty #[qv, .slice (some ⟨wr.heap.size, 0, none⟩) 1 1]).run Try.prog (wr.alloc (.cells #[lv] 22)) = .ok v' w') ∧ (∃ V, MS 1 22 H w' v' (Q.length + 1) (V ++ [lv]) ∧ SnV H w' Q V) ∧ KX (fun b => H ≤ b) wr w' ∧ ∀ (b : Nat) (cur : Array Value) (e : TypeId), (e = 3 ∨ e = 52) → wr.heap[b]? = some (.cells cur e (0, 0)) → w'.heap[b]? = wr.heap[b]? := by
  obtain ⟨V, hM, hV⟩ := h
  obtain ⟨v', w', hr, hm, hk⟩ := app_elemx 23 22 lm_under (.slice none 0 0) 1 24 lm_info rfl (by decide) H wr qv Q.length V hM [lv] rfl (fun u hu => by
    rw [List.mem_singleton] at hu
    rw [hu]
    exact h1) hH hlen
  have hkeep : ∀ (b : Nat) (cur : Array Value) (e : TypeId), (e = 3 ∨ e = 52) → wr.heap[b]? = some (.cells cur e (0, 0)) → w'.heap[b]? = wr.heap[b]? := fun b cur e he hg => hk.block b (lt_of_block hg) fun ⟨n, c', e1⟩ => by
    rcases hM with ⟨-, -, e2⟩ | ⟨g2, cap, e2, -, -, -, cur2, hg2, -⟩
    · rw [e1] at e2; cases e2
    · rw [e1] at e2
      cases e2
      rw [hg] at hg2
      simp at hg2
      rcases he with rfl | rfl <;> simp at hg2
  refine ⟨v', w', hr, ⟨V, hm, hV.on fun b cur e _ => hkeep b cur e⟩, hk.mono ?_, hkeep⟩
  rintro b ⟨n, c, e⟩
  rcases hM with ⟨-, -, e2⟩ | ⟨g2, cap, e2, hg2, -⟩
  · rw [e] at e2; cases e2
  · rw [e] at e2; cases e2; exact hg2
/-- One more lent list. -/
theorem qn_push (H : Nat) (wr : World) (qv : Value) (Q : List (List Mat)) (h : QmN H wr qv Q) (lv : Value) (l : List Mat) (hl : LnV H wr lv l) (hH : H ≤ wr.heap.size) (hlen : Q.length < 10000000) :
    ∃ v' w', (∀ ty, (Builtin.append_ #[23, 23] ty #[qv, .slice (some ⟨wr.heap.size, 0, none⟩) 1 1]).run Try.prog (wr.alloc (.cells #[lv] 22)) = .ok v' w') ∧ QmN H w' v' (Q ++ [l]) ∧ KX (fun b => H ≤ b) wr w' ∧ ∀ v0 l0, LnV H wr v0 l0 → LnV H w' v0 l0 := by
  obtain ⟨G, C, e, -⟩ := hl.form
  obtain ⟨v', w', hr, ⟨V, hm, hV⟩, hk, hkeep⟩ := qn_app H wr qv Q h lv (by rw [e]; rfl) hH hlen
  have hon : ∀ v0 l0, LnV H wr v0 l0 → LnV H w' v0 l0 := fun v0 l0 h0 => h0.on fun b cur e _ => hkeep b cur e
  exact ⟨v', w', hr, ⟨V ++ [lv], by rw [List.length_append]; exact hm, hV.snoc (hon _ _ hl)⟩, hk, hon⟩
/-- The mark behind the last list. -/
theorem qn_end (H : Nat) (wr : World) (qv : Value) (Q : List (List Mat)) (h : QmN H wr qv Q) (hH : H ≤ wr.heap.size) (hlen : Q.length < 10000000) (K : Nat) (hK : H ≤ K) (hO : OwnS wr K 1 4 52 (mk4 (-78))) :
    ∃ G C w', (∀ ty, (Builtin.append_ #[23, 23] ty #[qv, .slice (some ⟨wr.heap.size, 0, none⟩) 1 1]).run Try.prog (wr.alloc (.cells #[.slice (some ⟨K, 0, none⟩) 1 1] 22)) = .ok (.slice (some ⟨G, 0, none⟩) (Q.length + 1) C) w') ∧ Q.length + 1 ≤ C ∧ LnQ H w' (.slice (some ⟨G, 0, none⟩) Q.length C) Q ∧ KX (fun b => H ≤ b) wr w' ∧ ∀ v0 l0, LnV H wr v0 l0 → LnV H w' v0 l0 := by
  obtain ⟨v', w', hr, ⟨V, hm, hV⟩, hk, hkeep⟩ := qn_app H wr qv Q h (.slice (some ⟨K, 0, none⟩) 1 1) rfl hH hlen
  have hon : ∀ v0 l0, LnV H wr v0 l0 → LnV H w' v0 l0 := fun v0 l0 h0 => h0.on fun b cur e _ => hkeep b cur e
  rcases hm with ⟨h0, -, -⟩ | ⟨G, C, rfl, hG, -, hC, hO2⟩
  · omega
  · refine ⟨G, C, w', hr, hC, ⟨G, C, V, K, rfl, hG, hC, hV, hO2, hK, hO.on ?_⟩, hk, hon⟩
    obtain ⟨cur, hg, -⟩ := hO
    exact hkeep K cur _ (.inr rfl) hg
theorem LnQ.ll {H : Nat} {w : World} {v : Value} {Q : List (List Mat)} (h : LnQ H w v Q) : LlI w v Q := by
  obtain ⟨G, C, V, K, rfl, hG, hC, hV, hO, -⟩ := h
  refine ⟨_, C, rfl, by omega, fun _ => ⟨G, 0, rfl, fun i l hi => ?_⟩⟩
  obtain ⟨u, h1, h2⟩ := hV.get i l hi
  have hil := (List.getElem?_eq_some_iff.1 h1).1
  rw [Nat.zero_add]
  exact ⟨u, hO.cell _ _ ((List.getElem?_append_left hil).trans h1), h2.ml⟩
theorem LnQ.on {H : Nat} {w w' : World} {v : Value} {Q : List (List Mat)} (h : LnQ H w v Q) (k : ∀ b, H ≤ b → b < w.heap.size → w'.heap[b]? = w.heap[b]?) : LnQ H w' v Q := by
  obtain ⟨G, C, V, K, rfl, hG, hC, hV, hO, hK, hO2⟩ := h
  exact ⟨G, C, V, K, rfl, hG, hC, hV.on fun b cur e hb _ hg => k b hb (lt_of_block hg), hO.on (k G hG hO.lt), hK, hO2.on (k K hK hO2.lt)⟩
theorem LnQ.kx {H : Nat} {w w' : World} {v : Value} {Q : List (List Mat)} {X : Nat → Prop} (h : LnQ H w v Q) (k : KX X w w') (hX : ∀ b, X b → b < H) : LnQ H w' v Q :=
  h.on fun b hb hl => k.block b hl fun hx => by have := hX b hx; omega
theorem SnV.mono {H H' : Nat} {w : World} (hH : H' ≤ H) : ∀ {Q : List (List Mat)} {V : List Value}, SnV H w Q V → SnV H' w Q V
  | [], _, h => h
  | l :: Q, _, ⟨v, V', e, h, h2⟩ => ⟨v, V', e, h.mono hH, SnV.mono hH h2⟩
theorem LnQ.mono {H H' : Nat} {w : World} {v : Value} {Q : List (List Mat)} (h : LnQ H w v Q) (hH : H' ≤ H) : LnQ H' w v Q := by
  obtain ⟨G, C, V, K, e, hG, hC, hV, hO, hK, hO2⟩ := h
  exact ⟨G, C, V, K, e, by omega, hC, hV.mono hH, hO, by omega, hO2⟩
theorem LnQ.form {H : Nat} {w : World} {v : Value} {l : List (List Mat)} (h : LnQ H w v l) : ∃ G C, v = .slice (some ⟨G, 0, none⟩) l.length C ∧ l.length + 1 ≤ C := by
  obtain ⟨G, C, V, K, rfl, hG, hC, -⟩ := h
  exact ⟨G, C, rfl, hC⟩
/-- A state that is lent. -/
def SnL (H : Nat) (w : World) (v : Value) (s : Sta) : Prop := ∃ pv qv, v = .agg #[.int .i64 s.a, .int .i64 s.b, .int .i64 s.d, pv, qv, .int .i64 s.lo, .int .i64 s.ra] ∧ LnV H w pv s.P ∧ LnQ H w qv s.Q
theorem SnL.st {H : Nat} {w : World} {v : Value} {s : Sta} (h : SnL H w v s) : StI w v s := by
  obtain ⟨pv, qv, e, h1, h2⟩ := h
  exact ⟨pv, qv, e, h1.ml, h2.ll⟩
end Go.Proofs.Ytphkdkenopkbbaa

namespace Go.Proofs.Ytphkdkenopkbbaa
open Go.ChangeShapes Go.WideShapes Go.ChangeAt Go.RowKit
set_option linter.unusedVariables false
set_option linter.unusedSimpArgs false

set_option maxHeartbeats 8000000 in
set_option maxRecDepth 100000 in
theorem lentList_any (v : Value) (l : List Mat) (hlen : l.length < 1000000) (hml : ∀ (i : Nat) (m : Mat), l[i]? = some m → m.L.length < 1000000) (w : World) (hL : MlI w v l) : Calls Try.prog 33 #[v] w fun e w' => ∃ lv, e = .returned lv ∧ LnV w.heap.size w' lv l ∧ Kept w w' := by
  obtain ⟨ao, cap, rfl, hlc, hr⟩ := hL
  have HR : Hid (∀ u, Kept w u → ∀ i m, l[i]? = some m → ∃ B off a cp, ao = some ⟨B, off, none⟩ ∧ MC u B (off + i * 4) a cp m) := fun u ku i m hi => by
    obtain ⟨B, off, e, h⟩ := hr (by intro e; rw [e] at hi; simp at hi)
    obtain ⟨a, cp, hm⟩ := h i m hi
    exact ⟨B, off, a, cp, e, hm.kept ku⟩
  obtain ⟨n, hn⟩ : ∃ n, l.length = n := ⟨_, rfl⟩
  obtain ⟨H, hH⟩ : ∃ H, w.heap.size = H := ⟨_, rfl⟩
  rw [hn] at hlen hlc ⊢
  have HN := hid hn
  have HML := hid hml
  have HLC := hid (show n ≤ cap ∧ n < 1000000 ∧ w.heap.size = H from ⟨hlc, hlen, hH⟩)
  rw [hH]
  clear hn hr hlc hlen hml hH
  go_enter Try.func33, Try.ntmps33
  go_wp2_with fail
  go_loopw [3, 4] (fun lv iv wr => ∃ (i : Nat) (av : Value), lv = av ∧ i ≤ n ∧ iv = .int .i64 (i : Int) ∧ Kept w wr ∧ LmN H wr av (l.take i)) (fun _ iv _ => n - (intOf iv).toNat)
  case atStart => exact ⟨0, _, rfl, Nat.zero_le _, rfl, Kept.refl w, [], .inl ⟨rfl, rfl, rfl⟩, rfl⟩
  case round =>
    obtain ⟨i, av, hlv, hi, rfl, kr, hm⟩ := hrel
    have h9 := hlv.symm
    subst h9
    clear hlv
    have HKr := hid kr
    have HLm := hid hm
    have hsz : H ≤ wr.heap.size := by have := kr.below.size; have := HLC.out.2.2; omega
    have HSz := hid hsz
    clear hm hsz
    by_cases hin : i < n
    · obtain ⟨m, hm⟩ : ∃ m, l[i]? = some m := ⟨_, List.getElem?_eq_getElem (by rw [HN.out]; exact hin)⟩
      obtain ⟨B, off, a, cp, rfl, mc⟩ := HR.out wr kr i m hm
      have hbd : (0 : Int) ≤ (i : Int) ∧ (i : Int) < (n : Int) := by omega
      have hbd2 : (i : Int) < (n : Int) := by omega
      have z2 : IntKind.i64.wrap ((i : Int) + 1) = (i : Int) + 1 := by have := HLC.out; rw [wrap_i64]; omega
      have htk : l.take (i + 1) = l.take i ++ [m] := by
        obtain ⟨h1, h2⟩ := List.getElem?_eq_some_iff.1 hm
        rw [List.take_succ_eq_append_getElem h1, h2]
      have HTk := hid htk
      have htl : (l.take i).length = i := by rw [List.length_take, HN.out]; omega
      have HTl := hid htl
      have hLe := hid (lentM_any m.r m.c m.n m.L (HML.out i m hm) a cp wr mc.sl)
      obtain ⟨c0, c1, c2, c3, sl⟩ := mc
      have HII := hid (show i < n ∧ True from ⟨hin, trivial⟩)
      clear hm sl htk htl kr HR HML
      obtain ⟨r, c, nn, L⟩ := m
      dsimp only at c0 c1 c2 c3 hLe
      go_wp2_with fail
      go_at_call 57
      refine hLe.out.mono ?_
      rintro e w5 ⟨g, C, rfl, hg, hO, k5⟩
      have hs5 := k5.below.size
      obtain ⟨v', w6, hrun, hM6, k6⟩ := ln_push H w5 _ (l.take i) (by
        obtain ⟨V, h1, h2⟩ := HLm.out
        exact ⟨V, h1.kept k5, h2.on fun b cp L hb ho => k5.below.block b ho.lt⟩) ⟨r, c, nn, L⟩ g C (by have := HSz.out; omega) hO (by have := HSz.out; omega) (by rw [HTl.out]; have := HLC.out; omega)
      dsimp only at hrun
      have HRun := hid hrun
      have HM6 := hid hM6
      have K6 := hid (kept_of_kx (HKr.out.trans k5) k6 (fun b hb => by have := HLC.out.2.2; omega))
      clear hrun hM6 k6 k5 hO hg hs5 c0 c1 c2 c3 hLe HLm
      generalize L.length = ll at *
      go_wp2_with (first | (at_builtin; refine wpList_append_run rfl _ _ _ rfl _ _ rfl rfl _ _ (HRun.out _) ?_; clear HRun))
      go_roundw
      case rel => exact ⟨i + 1, _, rfl, by omega, by go_num, K6.out, by rw [HTk.out]; exact HM6.out⟩
      case measure => simp [intOf]; omega
    · obtain rfl : i = n := by omega
      have htl : l.take i = l := List.take_of_length_le (by rw [HN.out]; exact Nat.le_refl _)
      have hm := HLm.out
      rw [htl] at hm
      obtain ⟨G, C, w6, hrun, hC, hV, k6⟩ := ln_end H wr _ l hm HSz.out (by rw [HN.out]; have := HLC.out; omega)
      rw [HN.out] at hrun hC hV
      have hc1 : i ≤ C := by omega
      have hc2 : (i : Int) ≤ (C : Int) := by omega
      have HRun := hid hrun
      have HV := hid hV
      have K6 := hid (kept_of_kx HKr.out k6 (fun b hb => by have := HLC.out.2.2; omega))
      clear hrun hV k6 hm kr htl
      go_wp2_with (first | (at_builtin; refine wpList_append_run rfl _ _ _ rfl _ _ rfl rfl _ _ (HRun.out _) ?_; clear HRun))
      go_ret
      exact ⟨_, rfl, HV.out, K6.out⟩
end Go.Proofs.Ytphkdkenopkbbaa

namespace Go.Proofs.Ytphkdkenopkbbaa
open Go.ChangeShapes Go.WideShapes Go.ChangeAt Go.RowKit
set_option linter.unusedVariables false
set_option linter.unusedSimpArgs false

theorem Kept.trdrew {a b : World} (h : Kept a b) : Kept a b.drew := h.trans (Kept.refl b).drew
set_option maxHeartbeats 16000000 in
set_option maxRecDepth 100000 in
theorem lentS_any (v : Value) (s : Sta) (hP : s.P.length < 1000000) (hQ : s.Q.length < 1000000) (hPm : ∀ (i : Nat) (m : Mat), s.P[i]? = some m → m.L.length < 1000000) (hQl : ∀ (i : Nat) (l : List Mat), s.Q[i]? = some l → l.length < 1000000 ∧ ∀ (j : Nat) (m : Mat), l[j]? = some m → m.L.length < 1000000) (w : World) (hS : StI w v s) : Calls Try.prog 16 #[v] w fun e w' => ∃ x, e = .returned x ∧ SnL w.heap.size w' x s ∧ Kept w w' := by
  obtain ⟨pv, qv, rfl, hpI, hqI⟩ := hS
  obtain ⟨pa, pc, rfl⟩ := hpI.len
  obtain ⟨qa, qc, rfl, hqc, hqr⟩ := hqI
  obtain ⟨n, hn⟩ : ∃ n, s.Q.length = n := ⟨_, rfl⟩
  have HQR : Hid (∀ u, Kept w u → ∀ i l, s.Q[i]? = some l → ∃ B off lv, qa = some ⟨B, off, none⟩ ∧ u.cell? ⟨B, off + i, none⟩ = some lv ∧ MlI u lv l ∧ B < w.heap.size) := fun u ku i l hi => by
    obtain ⟨B, off, e, h⟩ := hqr (by intro e; rw [e] at hi; simp at hi)
    obtain ⟨lv, h1, h2⟩ := h i l hi
    have hB := World.block_lt_of_cell? _ _ h1
    exact ⟨B, off, lv, e, (ku.below.cell (p := ⟨B, off + i, none⟩) hB).trans h1, h2.kept ku, hB⟩
  rw [hn] at hqc hQ ⊢
  have HN := hid hn
  obtain ⟨M, hM⟩ : ∃ M, w.heap.size = M := ⟨_, rfl⟩
  have HQl := hid hQl
  have HNum := hid (show n < 1000000 ∧ n ≤ qc from ⟨hQ, hqc⟩)
  obtain ⟨W0, hW0⟩ : ∃ W0, ((w.alloc (.cells #[.int .i64 s.a, .int .i64 s.b, .int .i64 s.d, .slice pa s.P.length pc, .slice qa n qc, .int .i64 s.lo, .int .i64 s.ra] 25)).alloc (.cells #[.int .i64 0, .int .i64 0, .int .i64 0, .slice none 0 0, .slice none 0 0, .int .i64 0, .int .i64 0] 25)).alloc (.cells #[.int .i64 s.a, .int .i64 s.b, .int .i64 s.d, .slice pa s.P.length pc, .slice qa n qc, .int .i64 s.lo, .int .i64 s.ra] 25) = W0 := ⟨_, rfl⟩
  have k0 : Kept w W0 := by rw [← hW0]; exact (((Kept.refl w).alloc _ _).alloc _ _).alloc _ _
  have hs0 : W0.heap.size = M + 3 := by rw [← hW0, ← hM]; simp
  have bs0 : Bk W0 M [.int .i64 s.a, .int .i64 s.b, .int .i64 s.d, .slice pa s.P.length pc, .slice qa n qc, .int .i64 s.lo, .int .i64 s.ra] := by rw [← hW0, ← hM]; exact (Bk.new w [.int .i64 s.a, .int .i64 s.b, .int .i64 s.d, .slice pa s.P.length pc, .slice qa n qc, .int .i64 s.lo, .int .i64 s.ra] 25).kept (((Kept.refl _).alloc _ _).alloc _ _)
  have bz0 : Bk W0 (M + 1) [.int .i64 0, .int .i64 0, .int .i64 0, .slice none 0 0, .slice none 0 0, .int .i64 0, .int .i64 0] := by
    have h := (Bk.new (w.alloc (.cells #[.int .i64 s.a, .int .i64 s.b, .int .i64 s.d, .slice pa s.P.length pc, .slice qa n qc, .int .i64 s.lo, .int .i64 s.ra] 25)) [.int .i64 0, .int .i64 0, .int .i64 0, .slice none 0 0, .slice none 0 0, .int .i64 0, .int .i64 0] 25).kept (show Kept _ (World.alloc _ (.cells #[.int .i64 s.a, .int .i64 s.b, .int .i64 s.d, .slice pa s.P.length pc, .slice qa n qc, .int .i64 s.lo, .int .i64 s.ra] 25)) from (Kept.refl _).alloc _ _)
    rw [World.size_alloc, hM, hW0] at h
    exact h
  have bx0 : Bk W0 (M + 1 + 1) [.int .i64 s.a, .int .i64 s.b, .int .i64 s.d, .slice pa s.P.length pc, .slice qa n qc, .int .i64 s.lo, .int .i64 s.ra] := by
    have h := Bk.new ((w.alloc (.cells #[.int .i64 s.a, .int .i64 s.b, .int .i64 s.d, .slice pa s.P.length pc, .slice qa n qc, .int .i64 s.lo, .int .i64 s.ra] 25)).alloc (.cells #[.int .i64 0, .int .i64 0, .int .i64 0, .slice none 0 0, .slice none 0 0, .int .i64 0, .int .i64 0] 25)) [.int .i64 s.a, .int .i64 s.b, .int .i64 s.d, .slice pa s.P.length pc, .slice qa n qc, .int .i64 s.lo, .int .i64 s.ra] 25
    rw [World.size_alloc, World.size_alloc, hM, hW0] at h
    exact h
  have HPc : Hid (Calls Try.prog 33 #[.slice pa s.P.length pc] W0 fun e w' => ∃ lv, e = .returned lv ∧ LnV (M + 3) w' lv s.P ∧ Kept W0 w') := by
    have := lentList_any _ s.P hP hPm W0 (hpI.kept k0)
    rw [hs0] at this
    exact this
  have HK0 := hid k0
  have HS0 := hid hs0
  have HMw := hid hM
  have HBS := hid bs0
  have HBZ := hid bz0
  have HBX := hid bx0
  generalize hsp : s.P.length = pl at *
  generalize hsa : s.a = sa at *
  generalize hsb : s.b = sb at *
  generalize hsd : s.d = sd at *
  generalize hlo : s.lo = lo at *
  generalize hra : s.ra = ra at *
  have HEQ := hid (show s.P.length = pl ∧ s.a = sa ∧ s.b = sb ∧ s.d = sd ∧ s.lo = lo ∧ s.ra = ra from ⟨hsp, hsa, hsb, hsd, hlo, hra⟩)
  clear hsp hsa hsb hsd hlo hra hQl hqr hpI hP hQ hPm hqc hn k0 hs0
  obtain ⟨x0, x1, x2, x3, x4, x5, x6⟩ : _ ∧ _ ∧ _ ∧ _ ∧ _ ∧ _ ∧ _ := ⟨bs0.c 0 _ rfl, bs0.c 1 _ rfl, bs0.c 2 _ rfl, bs0.c 3 _ rfl, bs0.c 4 _ rfl, bs0.c 5 _ rfl, bs0.c 6 _ rfl⟩
  clear bs0 bz0 bx0
  go_enter Try.func16, Try.ntmps16
  go_wp2_with fail
  (try rw [hW0])
  go_at_call 33
  refine HPc.out.mono ?_
  rintro e w1 ⟨pv, rfl, hpv, k1⟩
  obtain ⟨GP, CP, rfl, hCP⟩ := hpv.form
  rw [HEQ.out.1] at hpv hCP ⊢
  have bs1 := HBS.out.kept k1
  have bz1 := HBZ.out.kept k1
  have bx1 := HBX.out.kept k1
  have kw1 := HK0.out.trans k1
  have hs1 : M + 3 ≤ w1.heap.size := by have := k1.below.size; have := HS0.out; omega
  have e3 := bx1.c 3 _ rfl
  have f3 := bx1.fz 3
  have e4 := bx1.c 4 _ rfl
  have f4 := bx1.fz 4
  obtain ⟨w2, hw2⟩ : ∃ w2, (w1.setCell ⟨M + 1 + 1, 3, none⟩ (.slice (some ⟨GP, 0, none⟩) pl CP)).setCell ⟨M + 1 + 1, 4, none⟩ (.slice none 0 0) = w2 := ⟨_, rfl⟩
  have kst : KX (fun b => b = M + 1 + 1) w1 w2 := by rw [← hw2]; exact (((Grw.refl (M + 1 + 1) w1).setCell 3 _).setCell 4 _).kx
  have bs2 := hid (bs1.kx kst (by omega))
  have bz2 := hid (bz1.kx kst (by omega))
  have bx2 := hid (show Bk w2 (M + 1 + 1) [.int .i64 sa, .int .i64 sb, .int .i64 sd, .slice (some ⟨GP, 0, none⟩) pl CP, .slice none 0 0, .int .i64 lo, .int .i64 ra] by rw [← hw2]; exact (bx1.set 3 _).set 4 _)
  have hp2 := hid (hpv.kx kst (fun b hb => by omega))
  have k2 := hid (kept_of_kx kw1 kst (fun b hb => by have := HMw.out; omega))
  have s2 := hid (show M + 3 ≤ w2.heap.size by have := kst.size; omega)
  have y4 := bs1.c 4 _ rfl
  clear hpv kst kw1 k1 bs1 bz1 bx1 hs1
  clear x0 x1 x2 x3 x4 x5 x6 hM
  clear hW0
  go_wp2_with fail
  (try rw [hw2])
  clear hw2 e3 f3 e4 f4 y4
  go_loopw [4] (fun iv wr => ∃ (i : Nat) (qa' : Option Addr) (qc' : Nat), i ≤ n ∧ iv = .int .i64 (i : Int) ∧ Kept w wr ∧ Bk wr M [.int .i64 sa, .int .i64 sb, .int .i64 sd, .slice pa pl pc, .slice qa n qc, .int .i64 lo, .int .i64 ra] ∧ Bk wr (M + 1) [.int .i64 0, .int .i64 0, .int .i64 0, .slice none 0 0, .slice none 0 0, .int .i64 0, .int .i64 0] ∧ Bk wr (M + 1 + 1) [.int .i64 sa, .int .i64 sb, .int .i64 sd, .slice (some ⟨GP, 0, none⟩) pl CP, .slice qa' i qc', .int .i64 lo, .int .i64 ra] ∧ LnV (M + 3) wr (.slice (some ⟨GP, 0, none⟩) pl CP) s.P ∧ QmN (M + 3) wr (.slice qa' i qc') (s.Q.take i)) (fun iv _ => n - (intOf iv).toNat)
  case atStart => exact ⟨0, none, 0, Nat.zero_le _, rfl, k2.out, bs2.out, bz2.out, bx2.out, hp2.out, [], .inl ⟨rfl, rfl, rfl⟩, rfl⟩
  case round =>
    obtain ⟨i, qa', qc', hi, rfl, kr, bs, bz, bx, hpl, hql⟩ := hrel
    have hsz : M + 3 ≤ wr.heap.size := by have := bx.lt; omega
    have HBS2 := hid bs
    have HBZ2 := hid bz
    have HBX2 := hid bx
    have HPL := hid hpl
    have HQL := hid hql
    have HKR := hid kr
    have HSz := hid hsz
    have e4 := bs.c 4 _ rfl
    have g4 := bx.c 4 _ rfl
    clear bs bz bx hpl hql hsz
    by_cases hin : i < n
    · obtain ⟨l, hl⟩ : ∃ l, s.Q[i]? = some l := ⟨_, List.getElem?_eq_getElem (by rw [HN.out]; exact hin)⟩
      obtain ⟨B, off, lv, rfl, hc, hml, hBl⟩ := HQR.out wr kr i l hl
      have hbd : (0 : Int) ≤ (i : Int) ∧ (i : Int) < (n : Int) := by omega
      have hbd2 : (i : Int) < (n : Int) := by omega
      have z2 : IntKind.i64.wrap ((i : Int) + 1) = (i : Int) + 1 := by have := HNum.out; rw [wrap_i64]; omega
      have htk : s.Q.take (i + 1) = s.Q.take i ++ [l] := by
        obtain ⟨h1, h2⟩ := List.getElem?_eq_some_iff.1 hl
        rw [List.take_succ_eq_append_getElem h1, h2]
      have HTk := hid htk
      have HTl := hid (show (s.Q.take i).length = i by rw [List.length_take, HN.out]; omega)
      have HLe := hid (lentList_any lv l (HQl.out i l hl).1 (HQl.out i l hl).2 wr.drew (hml.kept (Kept.refl wr).drew))
      have HII := hid (show i < n ∧ B < M from ⟨hin, by have := HMw.out; omega⟩)
      clear hml hl htk kr HQR hBl
      go_wp2_with fail
      refine wp_region_late [9, 10, 11] (fun u => u.cell? ⟨M + 1 + 1, 4, none⟩ = some (.slice qa' i qc') ∧ u.cell? ⟨M, 4, none⟩ = some (.slice (some ⟨B, off, none⟩) n qc) ∧ u.cell? ⟨B, off + i, none⟩ = some lv) (by kernel_rfl) (show wr.drew.cell? _ = _ ∧ wr.drew.cell? _ = _ ∧ wr.drew.cell? _ = _ from ⟨g4, e4, hc⟩) (fun hHeld => ?_)
      refine wpAnyD_take (i := 0) (v := ?_) rfl (by kernel_rfl) (by kernel_rfl) (by kernel_rfl) (by kernel_rfl) (fun _ _ _ h => h) (Or.inl ⟨by rfl, ?hya0⟩) hHeld ?_
      case hya0 => (intro w hSw; (try dsimp only at hSw); go_simp; try (with_reducible rfl))
      (try simp only [Act.put, List.getElem_toArray, List.getElem_cons_succ, List.getElem_cons_zero, List.setIfInBounds_toArray, List.set_cons_zero, List.set_cons_succ])
      refine wpAnyD_take (i := 1) (v := ?_) rfl (by kernel_rfl) (by kernel_rfl) (by kernel_rfl) (by kernel_rfl) (fun _ _ _ h => h) (Or.inl ⟨by rfl, ?hya1⟩) hHeld ?_
      case hya1 => (intro w hSw; (try dsimp only at hSw); go_simp; try (with_reducible rfl))
      (try simp only [Act.put, List.getElem_toArray, List.getElem_cons_succ, List.getElem_cons_zero, List.setIfInBounds_toArray, List.set_cons_zero, List.set_cons_succ])
      refine wpAnyD_take (i := 2) (v := ?_) rfl (by kernel_rfl) (by kernel_rfl) (by kernel_rfl) (by kernel_rfl) (fun _ _ _ h => h) (Or.inl ⟨by rfl, ?hya2⟩) hHeld ?_
      case hya2 => (intro w hSw; (try dsimp only at hSw); go_simp; try (with_reducible rfl))
      (try simp only [Act.put, List.getElem_toArray, List.getElem_cons_succ, List.getElem_cons_zero, List.setIfInBounds_toArray, List.set_cons_zero, List.set_cons_succ])
      refine wpAnyD_take (i := 3) (v := ?_) rfl (by kernel_rfl) (by kernel_rfl) (by kernel_rfl) (by kernel_rfl) (fun _ _ _ h => h) (Or.inl ⟨by rfl, ?hya3⟩) hHeld ?_
      case hya3 => (intro w hSw; (try dsimp only at hSw); go_simp; try (with_reducible rfl))
      (try simp only [Act.put, List.getElem_toArray, List.getElem_cons_succ, List.getElem_cons_zero, List.setIfInBounds_toArray, List.set_cons_zero, List.set_cons_succ])
      refine wpAnyD_take (i := 4) (v := ?_) rfl (by kernel_rfl) (by kernel_rfl) (by kernel_rfl) (by kernel_rfl) (fun _ _ _ h => h) (Or.inl ⟨by rfl, ?hya4⟩) hHeld ?_
      case hya4 => (intro w hSw; (try dsimp only at hSw); go_simp; try (with_reducible rfl))
      (try simp only [Act.put, List.getElem_toArray, List.getElem_cons_succ, List.getElem_cons_zero, List.setIfInBounds_toArray, List.set_cons_zero, List.set_cons_succ])
      refine wpAnyD_take (i := 5) (v := ?_) rfl (by kernel_rfl) (by kernel_rfl) (by kernel_rfl) (by kernel_rfl) (fun _ _ _ h => h) (Or.inl ⟨by rfl, ?hya5⟩) hHeld ?_
      case hya5 => (intro w hSw; (try dsimp only at hSw); go_simp; try (with_reducible rfl))
      (try simp only [Act.put, List.getElem_toArray, List.getElem_cons_succ, List.getElem_cons_zero, List.setIfInBounds_toArray, List.set_cons_zero, List.set_cons_succ])
      refine wpAnyD_take (i := 6) (v := ?_) rfl (by kernel_rfl) (by kernel_rfl) (by kernel_rfl) (by kernel_rfl) (fun _ _ _ h => h) (Or.inl ⟨by rfl, ?hya6⟩) hHeld ?_
      case hya6 => (intro w hSw; (try dsimp only at hSw); go_simp; try (with_reducible rfl))
      (try simp only [Act.put, List.getElem_toArray, List.getElem_cons_succ, List.getElem_cons_zero, List.setIfInBounds_toArray, List.set_cons_zero, List.set_cons_succ])
      refine wpAnyD_step (i := 7) (by kernel_rfl) rfl (fun K hK9 => ?_)
      go_simp
      go_wp2_with fail
      refine HLe.out.mono ?_
      rintro e w5 ⟨lv5, rfl, hlv, k5⟩
      obtain ⟨G5, C5, rfl, hC5⟩ := hlv.form
      have kd5 := (Kept.refl wr).drew.trans k5
      have bs5 := HBS2.out.kept kd5
      have bz5 := HBZ2.out.kept kd5
      have bx5 := HBX2.out.kept kd5
      have hlv5 : LnV (M + 3) w5 _ l := hlv.mono (by show M + 3 ≤ wr.heap.size; exact HSz.out)
      have hpl5 := HPL.out.kx (kd5.kx fun _ => False) (fun b hb => hb.elim)
      have hql5 : QmN (M + 3) w5 (.slice qa' i qc') (s.Q.take i) := by
        obtain ⟨V, h1, h2⟩ := HQL.out
        exact ⟨V, h1.kept kd5, h2.on fun b cur e hb _ hg => kd5.below.block b (lt_of_block hg)⟩
      have hs5 : M + 3 ≤ w5.heap.size := by have := kd5.below.size; have := HSz.out; omega
      obtain ⟨v', w6, hrun, hq6, k6, kl6⟩ := qn_push (M + 3) w5 _ (s.Q.take i) hql5 _ l hlv5 hs5 (by rw [HTl.out]; have := HNum.out; omega)
      rw [← HTk.out] at hq6
      obtain ⟨qa6, qc6, rfl⟩ : ∃ qa6 qc6, v' = .slice qa6 (i + 1) qc6 := by
        obtain ⟨V, h1, -⟩ := hq6
        have h2 : (s.Q.take (i + 1)).length = i + 1 := by rw [HTk.out, List.length_append, HTl.out]; rfl
        rw [h2] at h1
        exact h1.form
      rw [HTk.out] at hq6
      have HR := hid hrun
      have bx6 := bx5.kx k6 (by omega)
      have hbx6 := hid bx6
      have hbs6 := hid (bs5.kx k6 (by omega))
      have hbz6 := hid (bz5.kx k6 (by omega))
      have e6 := bx6.c 4 _ rfl
      have f6 := bx6.fz 4
      have s5 : w5.cell? ⟨M + 1 + 1, 4, none⟩ = some (.slice qa' i qc') ∧ w5.cell? ⟨M, 4, none⟩ = some (.slice (some ⟨B, off, none⟩) n qc) ∧ w5.cell? ⟨B, off + i, none⟩ = some lv := ⟨bx5.c 4 _ rfl, bs5.c 4 _ rfl, (kd5.below.cell (p := ⟨B, off + i, none⟩) (World.block_lt_of_cell? _ _ hc)).trans hc⟩
      have hk6 := hid (kept_of_kx (HKR.out.trans kd5) k6 (fun b hb => by have := HMw.out; omega))
      have hql6 := hid hq6
      have hpl6 := hid (show LnV (M + 3) w6 _ s.P from kl6 _ _ hpl5)
      refine hK9.out _ _ s5 (fun hHeld2 => ?_)
      clear hK9 K hlv kd5 bs5 bz5 bx5 hlv5 hpl5 hql5 hs5 hrun hq6 k6 kl6 bx6 hC5 k5
      refine wpAnyD_step (i := 8) (by kernel_rfl) rfl (fun K hK9 => ?_)
      go_simp
      refine hK9.out _ _ (show (World.alloc _ _).cell? _ = _ ∧ (World.alloc _ _).cell? _ = _ ∧ (World.alloc _ _).cell? _ = _ from ⟨(World.cell?_alloc_some _ _ _ (by rw [s5.1]; rfl)).trans s5.1, (World.cell?_alloc_some _ _ _ (by rw [s5.2.1]; rfl)).trans s5.2.1, (World.cell?_alloc_some _ _ _ (by rw [s5.2.2]; rfl)).trans s5.2.2⟩) (fun hHeld3 => ?_)
      clear hK9 K
      (try simp only [Act.put, List.getElem_toArray, List.getElem_cons_succ, List.getElem_cons_zero, List.setIfInBounds_toArray, List.set_cons_zero, List.set_cons_succ])
      refine wpAnyD_late (i := 9) (by kernel_rfl) rfl rfl (fun K hK9 => ?_)
      rw [if_pos (by rfl)]
      refine oper_append_run _ _ _ rfl _ _ rfl rfl _ _ (HR.out _) ?_
      refine hK9.out _ _ ?_
      clear hK9 K
      (try simp only [Act.put, List.getElem_toArray, List.getElem_cons_succ, List.getElem_cons_zero, List.setIfInBounds_toArray, List.set_cons_zero, List.set_cons_succ])
      refine wpAnyD_late (i := 10) (by kernel_rfl) rfl rfl (fun K hK9 => ?_)
      go_simp
      refine hK9.out _ _ ?_
      clear hK9 K
      (try simp only [Act.put, List.getElem_toArray, List.getElem_cons_succ, List.getElem_cons_zero, List.setIfInBounds_toArray, List.set_cons_zero, List.set_cons_succ])
      refine wpAnyD_late (i := 11) (by kernel_rfl) rfl rfl (fun K hK9 => ?_)
      go_simp
      refine hK9.out _ _ ?_
      clear hK9 K
      (try simp only [Act.put, List.getElem_toArray, List.getElem_cons_succ, List.getElem_cons_zero, List.setIfInBounds_toArray, List.set_cons_zero, List.set_cons_succ])
      refine wpAnyD_done (by kernel_rfl) ?_ _
      (try simp only [Act.put, List.getElem_toArray, List.getElem_cons_succ, List.getElem_cons_zero, List.setIfInBounds_toArray, List.set_cons_zero, List.set_cons_succ])
      have hbs7 := hid (hbs6.out.far (p := ⟨M + 1 + 1, 4, none⟩) (by show M ≠ M + 1 + 1; omega) (.slice qa6 (i + 1) qc6))
      have hbz7 := hid (hbz6.out.far (p := ⟨M + 1 + 1, 4, none⟩) (by show M + 1 ≠ M + 1 + 1; omega) (.slice qa6 (i + 1) qc6))
      have hbx7 := hid (hbx6.out.set 4 (.slice qa6 (i + 1) qc6))
      have kst : KX (fun b => b = M + 1 + 1) w6 (w6.setCell ⟨M + 1 + 1, 4, none⟩ (.slice qa6 (i + 1) qc6)) := ((Grw.refl (M + 1 + 1) w6).setCell 4 _).kx
      have hk7 := hid (kept_of_kx hk6.out kst (fun b hb => by have := HMw.out; omega))
      have hl7 := hid (hpl6.out.kx kst (fun b hb => by omega))
      have hq7 := hid (show QmN (M + 3) (w6.setCell ⟨M + 1 + 1, 4, none⟩ (.slice qa6 (i + 1) qc6)) (.slice qa6 (i + 1) qc6) (s.Q.take (i + 1)) by
        rw [HTk.out]
        obtain ⟨V, h1, h2⟩ := hql6.out
        exact ⟨V, h1.on fun b hb hl => kst.block b hl (by omega), h2.on fun b cur e hb _ hg => kst.block b (lt_of_block hg) (by omega)⟩)
      clear kst e6 f6 s5 hHeld hHeld2 hHeld3
      go_wp2_with fail
      go_roundw
      case rel => exact ⟨i + 1, qa6, qc6, by omega, by go_num, hk7.out, hbs7.out, hbz7.out, hbx7.out, hl7.out, hq7.out⟩
      case measure => simp [intOf]; omega
    · obtain rfl : i = n := by omega
      have HTk := hid (show s.Q.take i = s.Q from List.take_of_length_le (by rw [HN.out]; exact Nat.le_refl _))
      clear HQR HQl kr
      go_wp2_with fail
      refine wp_region_late [9, 10, 11] (fun u => u.cell? ⟨M + 1 + 1, 4, none⟩ = some (.slice qa' i qc') ∧ u.cell? ⟨M, 4, none⟩ = some (.slice qa i qc)) (by kernel_rfl) (show wr.drew.cell? _ = _ ∧ wr.drew.cell? _ = _ from ⟨g4, e4⟩) (fun hHeld => ?_)
      refine wpAnyD_take (i := 0) (v := ?_) rfl (by kernel_rfl) (by kernel_rfl) (by kernel_rfl) (by kernel_rfl) (fun _ _ _ h => h) (Or.inl ⟨by rfl, ?hyb0⟩) hHeld ?_
      case hyb0 => (intro w hSw; (try dsimp only at hSw); go_simp; try (with_reducible rfl))
      (try simp only [Act.put, List.getElem_toArray, List.getElem_cons_succ, List.getElem_cons_zero, List.setIfInBounds_toArray, List.set_cons_zero, List.set_cons_succ])
      refine wpAnyD_take (i := 1) (v := ?_) rfl (by kernel_rfl) (by kernel_rfl) (by kernel_rfl) (by kernel_rfl) (fun _ _ _ h => h) (Or.inl ⟨by rfl, ?hyb1⟩) hHeld ?_
      case hyb1 => (intro w hSw; (try dsimp only at hSw); go_simp; try (with_reducible rfl))
      (try simp only [Act.put, List.getElem_toArray, List.getElem_cons_succ, List.getElem_cons_zero, List.setIfInBounds_toArray, List.set_cons_zero, List.set_cons_succ])
      refine wpAnyD_take (i := 2) (v := ?_) rfl (by kernel_rfl) (by kernel_rfl) (by kernel_rfl) (by kernel_rfl) (fun _ _ _ h => h) (Or.inl ⟨by rfl, ?hyb2⟩) hHeld ?_
      case hyb2 => (intro w hSw; (try dsimp only at hSw); go_simp; try (with_reducible rfl))
      (try simp only [Act.put, List.getElem_toArray, List.getElem_cons_succ, List.getElem_cons_zero, List.setIfInBounds_toArray, List.set_cons_zero, List.set_cons_succ])
      refine wpAnyD_take (i := 6) (v := ?_) rfl (by kernel_rfl) (by kernel_rfl) (by kernel_rfl) (by kernel_rfl) (fun _ _ _ h => h) (Or.inl ⟨by rfl, ?hyb6⟩) hHeld ?_
      case hyb6 => (intro w hSw; (try dsimp only at hSw); go_simp; try (with_reducible rfl))
      (try simp only [Act.put, List.getElem_toArray, List.getElem_cons_succ, List.getElem_cons_zero, List.setIfInBounds_toArray, List.set_cons_zero, List.set_cons_succ])
      refine wpAnyD_take (i := 7) (v := ?_) rfl (by kernel_rfl) (by kernel_rfl) (by kernel_rfl) (by kernel_rfl) (fun _ _ _ h => h) (Or.inl ⟨by rfl, ?hyb7⟩) hHeld ?_
      case hyb7 => (intro w hSw; (try dsimp only at hSw); go_simp; try (with_reducible rfl))
      (try simp only [Act.put, List.getElem_toArray, List.getElem_cons_succ, List.getElem_cons_zero, List.setIfInBounds_toArray, List.set_cons_zero, List.set_cons_succ])
      refine wpAnyD_take (i := 8) (v := ?_) rfl (by kernel_rfl) (by kernel_rfl) (by kernel_rfl) (by kernel_rfl) (fun _ _ _ h => h) (Or.inl ⟨by rfl, ?hyb8⟩) hHeld ?_
      case hyb8 => (intro w hSw; (try dsimp only at hSw); go_simp; try (with_reducible rfl))
      (try simp only [Act.put, List.getElem_toArray, List.getElem_cons_succ, List.getElem_cons_zero, List.setIfInBounds_toArray, List.set_cons_zero, List.set_cons_succ])
      have kd5 : Kept wr (wr.drew.alloc (.cells #[.int .i64 (-78), .int .i64 0, .int .i64 0, .slice none 0 0] 52)) := ((Kept.refl wr).drew).alloc _ _
      have oK : OwnS (wr.drew.alloc (.cells #[.int .i64 (-78), .int .i64 0, .int .i64 0, .slice none 0 0] 52)) wr.heap.size 1 4 52 (mk4 (-78)) := ⟨_, heap_alloc_new wr.drew _, by decide, by simp [maxLen], rfl, rfl⟩
      have bs5 := HBS2.out.kept kd5
      have bz5 := HBZ2.out.kept kd5
      have bx5 := HBX2.out.kept kd5
      have hpl5 := HPL.out.kx (kd5.kx fun _ => False) (fun b hb => hb.elim)
      have hql5 : QmN (M + 3) (wr.drew.alloc (.cells #[.int .i64 (-78), .int .i64 0, .int .i64 0, .slice none 0 0] 52)) (.slice qa' i qc') s.Q := by
        obtain ⟨V, h1, h2⟩ := HQL.out
        rw [HTk.out] at h1 h2
        exact ⟨V, h1.kept kd5, h2.on fun b cur e hb _ hg => kd5.below.block b (lt_of_block hg)⟩
      obtain ⟨G6, C6, w6, hrun, hC6, hq6, k6, kl6⟩ := qn_end (M + 3) _ _ s.Q hql5 (by have := kd5.below.size; have := HSz.out; omega) (by rw [HN.out]; have := HNum.out; omega) wr.heap.size HSz.out oK
      rw [HN.out] at hrun hC6 hq6
      rw [show (wr.drew.alloc (.cells #[.int .i64 (-78), .int .i64 0, .int .i64 0, .slice none 0 0] 52)).heap.size = wr.heap.size + 1 by rw [World.size_alloc]; rfl] at hrun
      replace hrun : ∀ ty, (Builtin.append_ #[23, 23] ty #[.slice qa' i qc', .slice (some ⟨wr.heap.size + 1, 0, none⟩) 1 1]).run Try.prog ((wr.alloc (.cells #[.int .i64 (-78), .int .i64 0, .int .i64 0, .slice none 0 0] 52)).alloc (.cells #[.slice (some ⟨wr.heap.size, 0, none⟩) 1 1] 22)).drew = .ok (.slice (some ⟨G6, 0, none⟩) (i + 1) C6) w6 := hrun
      have hc6 : i ≤ C6 := by omega
      have hc6' : (i : Int) ≤ (C6 : Int) := by omega
      have HR := hid hrun
      have bx6 := bx5.kx k6 (by omega)
      have hbx6 := hid bx6
      have hbs6 := hid (bs5.kx k6 (by omega))
      have hbz6 := hid (bz5.kx k6 (by omega))
      have e6 := bx6.c 4 _ rfl
      have f6 := bx6.fz 4
      have s5 : (wr.drew.alloc (.cells #[.int .i64 (-78), .int .i64 0, .int .i64 0, .slice none 0 0] 52)).cell? ⟨M + 1 + 1, 4, none⟩ = some (.slice qa' i qc') ∧ (wr.drew.alloc (.cells #[.int .i64 (-78), .int .i64 0, .int .i64 0, .slice none 0 0] 52)).cell? ⟨M, 4, none⟩ = some (.slice qa i qc) := ⟨bx5.c 4 _ rfl, bs5.c 4 _ rfl⟩
      have s6 : (wr.alloc (.cells #[.int .i64 (-78), .int .i64 0, .int .i64 0, .slice none 0 0] 52)).cell? ⟨M + 1 + 1, 4, none⟩ = some (.slice qa' i qc') ∧ (wr.alloc (.cells #[.int .i64 (-78), .int .i64 0, .int .i64 0, .slice none 0 0] 52)).cell? ⟨M, 4, none⟩ = some (.slice qa i qc) := s5
      have hk6 := hid (kept_of_kx (HKR.out.trans kd5) k6 (fun b hb => by have := HMw.out; omega))
      have hql6 := hid hq6
      have hpl6 := hid (show LnV (M + 3) w6 _ s.P from kl6 _ _ hpl5)
      have e7 := hbs6.out.c 4 _ rfl
      have HNa := hid (show wr.heap.size ≠ M ∧ wr.heap.size ≠ M + 1 + 1 from ⟨by have := HSz.out; omega, by have := HSz.out; omega⟩)
      clear kd5 bs5 bz5 bx5 hpl5 hql5 hrun hq6 k6 kl6 bx6 oK hC6
      refine wpAnyD_step (i := 3) (by kernel_rfl) rfl (fun K hK9 => ?_)
      go_simp
      refine hK9.out _ _ (s6) (fun hHeld2 => ?_)
      clear hK9 K
      (try simp only [Act.put, List.getElem_toArray, List.getElem_cons_succ, List.getElem_cons_zero, List.setIfInBounds_toArray, List.set_cons_zero, List.set_cons_succ])
      refine wpAnyD_step (i := 4) (by kernel_rfl) rfl (fun K hK9 => ?_)
      go_simp
      refine hK9.out _ _ (show (World.alloc _ _).cell? _ = _ ∧ (World.alloc _ _).cell? _ = _ from ⟨(World.cell?_alloc_some _ _ _ (by rw [s6.1]; rfl)).trans s6.1, (World.cell?_alloc_some _ _ _ (by rw [s6.2]; rfl)).trans s6.2⟩) (fun hHeld3 => ?_)
      clear hK9 K
      (try simp only [Act.put, List.getElem_toArray, List.getElem_cons_succ, List.getElem_cons_zero, List.setIfInBounds_toArray, List.set_cons_zero, List.set_cons_succ])
      refine wpAnyD_step (i := 5) (by kernel_rfl) rfl (fun K hK9 => ?_)
      rw [if_pos (by rfl)]
      refine oper_append_run _ _ _ rfl _ _ rfl rfl _ _ (HR.out _) ?_
      refine hK9.out _ _ (⟨e6, e7⟩) (fun hHeld4 => ?_)
      clear hK9 K
      (try simp only [Act.put, List.getElem_toArray, List.getElem_cons_succ, List.getElem_cons_zero, List.setIfInBounds_toArray, List.set_cons_zero, List.set_cons_succ])
      refine wpAnyD_late (i := 9) (by kernel_rfl) rfl rfl (fun K hK9 => ?_)
      go_simp
      refine hK9.out _ _ ?_
      clear hK9 K
      (try simp only [Act.put, List.getElem_toArray, List.getElem_cons_succ, List.getElem_cons_zero, List.setIfInBounds_toArray, List.set_cons_zero, List.set_cons_succ])
      refine wpAnyD_late (i := 10) (by kernel_rfl) rfl rfl (fun K hK9 => ?_)
      go_simp
      refine hK9.out _ _ ?_
      clear hK9 K
      (try simp only [Act.put, List.getElem_toArray, List.getElem_cons_succ, List.getElem_cons_zero, List.setIfInBounds_toArray, List.set_cons_zero, List.set_cons_succ])
      refine wpAnyD_late (i := 11) (by kernel_rfl) rfl rfl (fun K hK9 => ?_)
      go_simp
      refine hK9.out _ _ ?_
      clear hK9 K
      (try simp only [Act.put, List.getElem_toArray, List.getElem_cons_succ, List.getElem_cons_zero, List.setIfInBounds_toArray, List.set_cons_zero, List.set_cons_succ])
      refine wpAnyD_done (by kernel_rfl) ?_ _
      (try simp only [Act.put, List.getElem_toArray, List.getElem_cons_succ, List.getElem_cons_zero, List.setIfInBounds_toArray, List.set_cons_zero, List.set_cons_succ])
      have hbs7 := hid (hbs6.out.far (p := ⟨M + 1 + 1, 4, none⟩) (by show M ≠ M + 1 + 1; omega) (.slice (some ⟨G6, 0, none⟩) i C6))
      have hbx7 := hbx6.out.set 4 (.slice (some ⟨G6, 0, none⟩) i C6)
      have hbz7 := hbz6.out.far (p := ⟨M + 1 + 1, 4, none⟩) (by show M + 1 ≠ M + 1 + 1; omega) (.slice (some ⟨G6, 0, none⟩) i C6)
      have kst : KX (fun b => b = M + 1 + 1) w6 (w6.setCell ⟨M + 1 + 1, 4, none⟩ (.slice (some ⟨G6, 0, none⟩) i C6)) := ((Grw.refl (M + 1 + 1) w6).setCell 4 _).kx
      have hk7 := hid (kept_of_kx hk6.out kst (fun b hb => by have := HMw.out; omega))
      have hl7 := hid (hpl6.out.kx kst (fun b hb => by omega))
      have hq7 := hid (hql6.out.kx kst (fun b hb => by omega))
      obtain ⟨x0, x1, x2, x3, x4, x5, x6⟩ : _ ∧ _ ∧ _ ∧ _ ∧ _ ∧ _ ∧ _ := ⟨hbx7.c 0 _ rfl, hbx7.c 1 _ rfl, hbx7.c 2 _ rfl, hbx7.c 3 _ rfl, hbx7.c 4 _ rfl, hbx7.c 5 _ rfl, hbx7.c 6 _ rfl⟩
      obtain ⟨y0, y1, y2, y3, y4, y5, y6⟩ : _ ∧ _ ∧ _ ∧ _ ∧ _ ∧ _ ∧ _ := ⟨hbz7.c 0 _ rfl, hbz7.c 1 _ rfl, hbz7.c 2 _ rfl, hbz7.c 3 _ rfl, hbz7.c 4 _ rfl, hbz7.c 5 _ rfl, hbz7.c 6 _ rfl⟩
      have fz1 := hbz7.fz
      have HBz7 := hid hbz7
      clear hbx7 hbz7 e6 e7 f6 hHeld hHeld2 hHeld3 hHeld4 s5 s6
      obtain ⟨W7, hW7⟩ : ∃ W7, w6.setCell ⟨M + 1 + 1, 4, none⟩ (.slice (some ⟨G6, 0, none⟩) i C6) = W7 := ⟨_, rfl⟩
      rw [hW7] at hk7 hl7 hq7 kst x0 x1 x2 x3 x4 x5 x6 y0 y1 y2 y3 y4 y5 y6 fz1 HBz7 ⊢
      clear hW7 hbs7 hbs6 hbx6 hbz6 kst
      go_wp2_with fail
      have hkf : KX (fun b => b = M + 1) W7 (((((((W7.setCell ⟨M + 1, 0, none⟩ (.int .i64 sa)).setCell ⟨M + 1, 1, none⟩ (.int .i64 sb)).setCell ⟨M + 1, 2, none⟩ (.int .i64 sd)).setCell ⟨M + 1, 3, none⟩ (.slice (some ⟨GP, 0, none⟩) pl CP)).setCell ⟨M + 1, 4, none⟩ (.slice (some ⟨G6, 0, none⟩) i C6)).setCell ⟨M + 1, 5, none⟩ (.int .i64 lo)).setCell ⟨M + 1, 6, none⟩ (.int .i64 ra)) := ((((((((Grw.refl (M + 1) W7).setCell 0 _).setCell 1 _).setCell 2 _).setCell 3 _).setCell 4 _).setCell 5 _).setCell 6 _).kx
      have HE := HEQ.out
      refine bodyPost_ret (v := .agg #[.int .i64 sa, .int .i64 sb, .int .i64 sd, .slice (some ⟨GP, 0, none⟩) pl CP, .slice (some ⟨G6, 0, none⟩) i C6, .int .i64 lo, .int .i64 ra]) (by simp [results, Try.results16, go_sem, y0, y1, y2, y3, y4, y5, y6]) rfl ⟨_, rfl, ⟨.slice (some ⟨GP, 0, none⟩) pl CP, .slice (some ⟨G6, 0, none⟩) i C6, ?_, ?_, ?_⟩, ?_⟩
      · rw [HE.2.1, HE.2.2.1, HE.2.2.2.1, HE.2.2.2.2.1, HE.2.2.2.2.2]
      · rw [HMw.out]
        exact (hl7.out.kx hkf (fun b hb => by omega)).mono (by omega)
      · rw [HMw.out]
        exact (hq7.out.kx hkf (fun b hb => by omega)).mono (by omega)
      · exact kept_of_kx hk7.out hkf (fun b hb => by have := HMw.out; omega)
end Go.Proofs.Ytphkdkenopkbbaa
