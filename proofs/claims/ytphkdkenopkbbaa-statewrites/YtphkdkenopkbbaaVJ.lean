/- Package state: lists of lists of matrices; the mark; a block whose cells are listed. -/
import Derived.Test.YtphkdkenopkbbaaVI
namespace Go.Proofs.Ytphkdkenopkbbaa
open Go.ChangeShapes Go.WideShapes Go.ChangeAt Go.RowKit
set_option linter.unusedVariables false
set_option linter.unusedSimpArgs false

theorem lm_under : Try.prog.underlying 23 = some (.slice 22) := by kernel_rfl
theorem lm_info : (Try.prog.info? 22).map (fun i => (i.zero, i.size, i.bytes)) = some (some (.slice none 0 0), 1, 24) := by kernel_rfl
theorem LsV.on {H : Nat} {w w' : World} {v : Value} {l : List Mat} (h : LsV H w v l) (k : ∀ b cur e, H ≤ b → (e = 3 ∨ e = 52) → w.heap[b]? = some (.cells cur e (0, 0)) → w'.heap[b]? = w.heap[b]?) : LsV H w' v l := by
  obtain ⟨V, h1, h2⟩ := h
  refine ⟨V, ?_, h2.on fun b c L hb ho => ?_⟩
  · rcases h1 with h | ⟨g, cap, a1, a2, a3, a4, a5⟩
    · exact .inl h
    · refine .inr ⟨g, cap, a1, a2, a3, a4, a5.on ?_⟩
      obtain ⟨cur, hg, -⟩ := a5
      exact k g cur _ a2 (.inr rfl) hg
  · obtain ⟨cur, hg, -⟩ := ho
    exact k b cur 3 hb (.inl rfl) hg
theorem LsV.mono {H H' : Nat} {w : World} {v : Value} {l : List Mat} (h : LsV H w v l) (hH : H' ≤ H) : LsV H' w v l := by
  obtain ⟨V, h1, h2⟩ := h
  exact ⟨V, h1.mono hH, h2.mono hH⟩
def SsV (H : Nat) (w : World) : List (List Mat) → List Value → Prop
  | [], V => V = []
  | l :: Q, V => ∃ v V', V = v :: V' ∧ LsV H w v l ∧ SsV H w Q V'
theorem SsV.on {H : Nat} {w w' : World} (k : ∀ b cur e, H ≤ b → (e = 3 ∨ e = 52) → w.heap[b]? = some (.cells cur e (0, 0)) → w'.heap[b]? = w.heap[b]?) : ∀ {Q : List (List Mat)} {V : List Value}, SsV H w Q V → SsV H w' Q V
  | [], _, h => h
  | l :: Q, _, ⟨v, V', e, h, h2⟩ => ⟨v, V', e, h.on k, SsV.on k h2⟩
theorem SsV.snoc {H : Nat} {w : World} {l : List Mat} {v : Value} (hl : LsV H w v l) : ∀ {Q : List (List Mat)} {V : List Value}, SsV H w Q V → SsV H w (Q ++ [l]) (V ++ [v])
  | [], _, h => by cases h; exact ⟨v, [], rfl, hl, rfl⟩
  | x :: Q, _, ⟨u, V', e, h, h2⟩ => ⟨u, V' ++ [v], by rw [e]; rfl, h, SsV.snoc hl h2⟩
theorem SsV.mono {H H' : Nat} {w : World} (hH : H' ≤ H) : ∀ {Q : List (List Mat)} {V : List Value}, SsV H w Q V → SsV H' w Q V
  | [], _, h => h
  | l :: Q, _, ⟨v, V', e, h, h2⟩ => ⟨v, V', e, h.mono hH, SsV.mono hH h2⟩
/-- A list of lists of matrices that was read: all of it is new. -/
def LlV (H : Nat) (w : World) (v : Value) (Q : List (List Mat)) : Prop := ∃ V, MS 1 22 H w v Q.length V ∧ SsV H w Q V
theorem LlV.kx {H : Nat} {w w' : World} {v : Value} {l : List (List Mat)} {X : Nat → Prop} (h : LlV H w v l) (k : KX X w w') (hX : ∀ b, X b → b < H) : LlV H w' v l := by
  obtain ⟨V, h1, h2⟩ := h
  exact ⟨V, h1.on fun b hb hl => k.block b hl fun hx => by have := hX b hx; omega, h2.on fun b cur e hb _ hg => k.block b (lt_of_block hg) fun hx => by have := hX b hx; omega⟩
theorem LlV.mono {H H' : Nat} {w : World} {v : Value} {l : List (List Mat)} (h : LlV H w v l) (hH : H' ≤ H) : LlV H' w v l := by
  obtain ⟨V, h1, h2⟩ := h
  exact ⟨V, h1.mono hH, h2.mono hH⟩
theorem LlV.form {H : Nat} {w : World} {v : Value} {l : List (List Mat)} (h : LlV H w v l) : ∃ ao c, v = .slice ao l.length c := by
  obtain ⟨V, h1, -⟩ := h
  exact h1.form
/-- One more list. -/
theorem ll_app (H : Nat) (wr : World) (qv : Value) (Q : List (List Mat)) (h : LlV H wr qv Q) (lv : Value) (l : List Mat) (hl : LsV H wr lv l) (hH : H ≤ wr.heap.size) (hlen : Q.length < 10000000) :
    ∃ v' w', (∀ ty, (Builtin.append_ #[23, 23] ty #[qv, .slice (some ⟨wr.heap.size, 0, none⟩) 1 1]).run Try.prog (wr.alloc (.cells #[lv] 22)) = .ok v' w') ∧ LlV H w' v' (Q ++ [l]) ∧ KX (fun b => H ≤ b) wr w' ∧ ∀ v0 l0, LsV H wr v0 l0 → LsV H w' v0 l0 := by
  obtain ⟨V, h1, h2⟩ := h
  obtain ⟨ao, c, elv⟩ := hl.form
  obtain ⟨v', w', hr, hm, hk⟩ := app_elemx 23 22 lm_under (.slice none 0 0) 1 24 lm_info rfl (by decide) H wr qv Q.length V h1 [lv] rfl (fun u hu => by
    rw [List.mem_singleton] at hu
    rw [hu, elv]
    rfl) hH hlen
  have hkeep : ∀ b cur e, H ≤ b → (e = 3 ∨ e = 52) → wr.heap[b]? = some (.cells cur e (0, 0)) → w'.heap[b]? = wr.heap[b]? := fun b cur e hb he hg => hk.block b (lt_of_block hg) fun ⟨n, c', e1⟩ => by
    rcases h1 with ⟨-, -, e2⟩ | ⟨g2, cap, e2, -, -, -, cur2, hg2, -⟩
    · rw [e1] at e2; cases e2
    · rw [e1] at e2
      cases e2
      rw [hg] at hg2
      simp at hg2
      rcases he with rfl | rfl <;> simp at hg2
  refine ⟨v', w', hr, ⟨V ++ [lv], ?_, ?_⟩, hk.mono ?_, fun v0 l0 h0 => h0.on hkeep⟩
  · rw [List.length_append]; exact hm
  · exact (h2.on hkeep).snoc (hl.on hkeep)
  · rintro b ⟨n, c, e⟩
    rcases h1 with ⟨-, -, e2⟩ | ⟨g2, cap, e2, hg2, -⟩
    · rw [e] at e2; cases e2
    · rw [e] at e2; cases e2; exact hg2

/-- A block whose cells are listed. -/
structure Bk (w : World) (b : Nat) (vs : List Value) : Prop where
  c : ∀ i v, vs[i]? = some v → w.cell? ⟨b, i, none⟩ = some v
  fz : ∀ o, w.frozen? ⟨b, o, none⟩ = false
  lt : b < w.heap.size
theorem Bk.new (w : World) (vs : List Value) (t : TypeId) : Bk (w.alloc (.cells vs.toArray t)) w.heap.size vs := by
  refine ⟨fun i v h => ?_, fun o => by simp [go_sem], by simp⟩
  rw [cell_of_row _ w.heap.size i vs.toArray t (0, 0) (heap_alloc_new w _)]
  simpa using h
theorem Bk.kx {X : Nat → Prop} {w w' : World} {b : Nat} {vs : List Value} (h : Bk w b vs) (k : KX X w w') (hn : ¬ X b) : Bk w' b vs :=
  ⟨fun i v e => (World.cell?_of_block (k.block b h.lt hn)).trans (h.c i v e), fun o => (k.frozen _).trans (h.fz o), Nat.lt_of_lt_of_le h.lt k.size⟩
theorem Bk.kept {w w' : World} {b : Nat} {vs : List Value} (h : Bk w b vs) (k : Kept w w') : Bk w' b vs := h.kx (k.kx fun _ => False) id
theorem Bk.set {w : World} {b : Nat} {vs : List Value} (h : Bk w b vs) (i : Nat) (u : Value) : Bk (w.setCell ⟨b, i, none⟩ u) b (vs.set i u) := by
  refine ⟨fun j v e => ?_, fun o => (World.frozen?_setCell _ _ _ _).trans (h.fz o), by simpa using h.lt⟩
  rw [List.getElem?_set] at e
  by_cases hij : i = j
  · subst hij
    rw [if_pos rfl] at e
    by_cases hl : i < vs.length
    · rw [if_pos hl] at e
      cases e
      have hc := h.c i _ (List.getElem?_eq_getElem hl)
      simp [go_sem, hc]
    · rw [if_neg hl] at e
      cases e
  · rw [if_neg hij] at e
    exact (World.cell?_setCell_other _ _ _ _ (by intro e; cases e; exact hij rfl)).trans (h.c j v e)
theorem Bk.far {w : World} {b : Nat} {vs : List Value} (h : Bk w b vs) {p : Addr} (hp : b ≠ p.block) (u : Value) : Bk (w.setCell p u) b vs := by
  refine ⟨fun i v e => ?_, fun o => (World.frozen?_setCell _ _ _ _).trans (h.fz o), by simpa using h.lt⟩
  have := h.c i v e
  have e2 := Below.heap_setCell w p u b hp
  simp only [World.cell?, e2] at this ⊢
  exact this
def mkL : List Int := [112, 115, 116, 1]
set_option maxHeartbeats 1000000 in
theorem rst1_any (n : Int) (j : Nat) (hj : j < 4) (V : Nat) (w : World) (h : w.cell? ⟨V, 0, none⟩ = some (.int .i64 (j : Int))) : Calls Try.prog 51 #[.int .i64 n, .pointer (some ⟨V, 0, none⟩)] w fun e w' => e = .returned (.bool (n == mkL.getD j 0)) ∧ Kept w w' := by
  obtain rfl | rfl | rfl | rfl : j = 0 ∨ j = 1 ∨ j = 2 ∨ j = 3 := by omega
  all_goals
    go_enter Try.func51, Try.ntmps51
    go_wp2
    go_ret
    refine ⟨congrArg (fun x => Ending.returned (.bool (n == x))) ?_, Kept.refl _⟩
    decide +kernel
theorem pmk_drop (j : Nat) (hj : j < 4) : mkL.drop j = mkL.getD j 0 :: mkL.drop (j + 1) := by
  obtain rfl | rfl | rfl | rfl : j = 0 ∨ j = 1 ∨ j = 2 ∨ j = 3 := by omega
  all_goals rfl
end Go.Proofs.Ytphkdkenopkbbaa
