/- Lists lent with marks behind them. -/
import Derived.Test.YtcjgdfnbjbboeaaWr10
import Derived.Test.YtcjgdfnbjbboeaaWr26
import Derived.Test.YtcjgdfnbjbboeaaWr03
namespace Go.Proofs.Ytcjgdfnbjbboeaa
open Go.ChangeShapes Go.WideShapes Go.ChangeAt Go.RowKit
set_option linter.unusedVariables false
set_option linter.unusedSimpArgs false

theorem lent_two (L : List Int) (hlen : L.length < 1000000) (base w1 : World) (v1 : Value) (hv : Rw w1 v1 3 (L.map (Value.int .i64))) (hg : ∀ g cap, v1 = .slice (some ⟨g, 0, none⟩) L.length cap → base.heap.size ≤ g) (hb : Kept base w1) (b : Nat) (h0 : w1.cell? ⟨b, 0, none⟩ = some (.int .i64 (-77))) (h1 : w1.cell? ⟨b, 1, none⟩ = some (.int .i64 (-78))) :
    ∃ g cap w2, (∀ ty, (Builtin.append_ #[22, 22] ty #[v1, .slice (some ⟨b, 0, none⟩) 2 2]).run Try.prog w1 = .ok (.slice (some ⟨g, 0, none⟩) (L.length + 2) cap) w2) ∧ base.heap.size ≤ g ∧ Own w2 g cap (L ++ [-77, -78]) ∧ Kept base w2 := by
  obtain ⟨g, cap, w2, h2, h3, h4⟩ := app_gen 22 3 li_under (.int .i64 0) 8 int_info rfl (by decide) w1 v1 (L.map (Value.int .i64)) [.int .i64 (-77), .int .i64 (-78)] hv ⟨b, 0, none⟩ 2 2 rfl (fun j u hj => by
    rcases j with _ | j
    · simp at hj; subst hj; exact h0
    · rcases j with _ | j
      · simp at hj; subst hj; exact h1
      · simp at hj) (fun u hu => by
    rcases List.mem_cons.1 hu with rfl | hu
    · rfl
    · rw [List.mem_singleton.1 hu]; rfl) (by decide) (by simp; omega)
  rw [List.length_map] at h2 h4
  have hO : Own w2 g cap (L ++ [-77, -78]) := by rw [own_v]; simpa using h3
  rcases h4 with ⟨rfl, k⟩ | ⟨e, k⟩
  · exact ⟨_, cap, w2, h2, hb.below.size, hO, hb.trans k⟩
  · exact ⟨g, cap, w2, h2, hg g cap e, hO, hb.grw (hg g cap e) k⟩
theorem rw_of_app {L : List Int} {w1 : World} {v1 : Value} {base : World} (h : (L = [] ∧ v1 = .slice none 0 0) ∨ ∃ g cap, v1 = .slice (some ⟨g, 0, none⟩) L.length cap ∧ base.heap.size ≤ g ∧ Own w1 g cap L) : Rw w1 v1 3 (L.map (Value.int .i64)) ∧ (∀ g cap, v1 = .slice (some ⟨g, 0, none⟩) L.length cap → base.heap.size ≤ g) ∧ (∃ ao cc, v1 = .slice ao L.length cc) := by
  rcases h with ⟨rfl, rfl⟩ | ⟨g, cap, rfl, hg, ho⟩
  · exact ⟨.inl ⟨rfl, rfl⟩, fun g cap e => (by cases e), ⟨_, _, rfl⟩⟩
  · exact ⟨.inr ⟨g, cap, by rw [List.length_map], own_v.1 ho⟩, fun g' cap' e => by cases e; exact hg, ⟨_, _, rfl⟩⟩
theorem rw_kept {w w' : World} {v : Value} {e : TypeId} {V : List Value} (h : Rw w v e V) (k : Kept w w') : Rw w' v e V := by
  rcases h with h | ⟨g, cap, h1, h2⟩
  · exact .inl h
  · exact .inr ⟨g, cap, h1, h2.kept k⟩
/-- append to nothing, marks made, append: the marks last -/
theorem lent_A (L : List Int) (hlen : L.length < 1000000) (v : Value) (w : World) (h : Sl w v L) : ∃ v1 w1, (∀ ty, (Builtin.append_ #[22, 22] ty #[.slice none 0 0, v]).run Try.prog w = .ok v1 w1) ∧ (∃ ao cc, v1 = .slice ao L.length cc) ∧ ∃ g cap w2, (∀ ty, (Builtin.append_ #[22, 22] ty #[v1, .slice (some ⟨w1.heap.size, 0, none⟩) 2 2]).run Try.prog (w1.alloc (.cells #[.int .i64 (-77), .int .i64 (-78)] 3)) = .ok (.slice (some ⟨g, 0, none⟩) (L.length + 2) cap) w2) ∧ w.heap.size ≤ g ∧ Own w2 g cap (L ++ [-77, -78]) ∧ Kept w w2 := by
  obtain ⟨v1, w1, h1, h2, h3⟩ := app_nil L (by omega) v w h
  obtain ⟨r1, r2, r3⟩ := rw_of_app h3
  have k := (Kept.refl w1).alloc #[.int .i64 (-77), .int .i64 (-78)] 3
  have hq := Bq.new w1 [.int .i64 (-77), .int .i64 (-78)] 3
  obtain ⟨g, cap, w2, a1, a2, a3, a4⟩ := lent_two L hlen w (w1.alloc (.cells #[.int .i64 (-77), .int .i64 (-78)] 3)) v1 (rw_kept r1 k) r2 (h2.trans k) w1.heap.size (hq.c 0 _ rfl) (hq.c 1 _ rfl)
  exact ⟨v1, w1, h1, r3, g, cap, w2, a1, a2, a3, a4⟩
/-- the same, the marks made first -/
theorem lent_B (L : List Int) (hlen : L.length < 1000000) (v : Value) (w : World) (h : Sl w v L) : ∃ v1 w1, (∀ ty, (Builtin.append_ #[22, 22] ty #[.slice none 0 0, v]).run Try.prog (w.alloc (.cells #[.int .i64 (-77), .int .i64 (-78)] 3)) = .ok v1 w1) ∧ (∃ ao cc, v1 = .slice ao L.length cc) ∧ ∃ g cap w2, (∀ ty, (Builtin.append_ #[22, 22] ty #[v1, .slice (some ⟨w.heap.size, 0, none⟩) 2 2]).run Try.prog w1 = .ok (.slice (some ⟨g, 0, none⟩) (L.length + 2) cap) w2) ∧ w.heap.size ≤ g ∧ Own w2 g cap (L ++ [-77, -78]) ∧ Kept w w2 := by
  have k := (Kept.refl w).alloc #[.int .i64 (-77), .int .i64 (-78)] 3
  have hq := Bq.new w [.int .i64 (-77), .int .i64 (-78)] 3
  obtain ⟨v1, w1, h1, h2, h3⟩ := app_nil L (by omega) v _ (h.kept k)
  obtain ⟨r1, r2, r3⟩ := rw_of_app h3
  have hq1 := hq.kept h2
  obtain ⟨g, cap, w2, a1, a2, a3, a4⟩ := lent_two L hlen w w1 v1 r1 (fun g cap e => Nat.le_trans k.below.size (r2 g cap e)) (k.trans h2) w.heap.size (hq1.c 0 _ rfl) (hq1.c 1 _ rfl)
  exact ⟨v1, w1, h1, r3, g, cap, w2, a1, a2, a3, a4⟩

set_option maxHeartbeats 4000000 in
set_option maxRecDepth 100000 in
theorem lentInts_any (L : List Int) (hlen : L.length < 1000000) (ao : Option Addr) (cp : Nat) (w : World) (h : Sl w (.slice ao L.length cp) L) : Calls Try.prog 12 #[.slice ao L.length cp] w fun e w' => ∃ g cap, e = .returned (.slice (some ⟨g, 0, none⟩) L.length cap) ∧ w.heap.size ≤ g ∧ Own w' g cap (L ++ [-77, -78]) ∧ Kept w w' := by
  obtain ⟨v1, w1, h1, ⟨ao1, cc1, rfl⟩, g, cap, w2, h2, hg, ho, hk⟩ := lent_A L hlen _ w h
  have hc : L.length + 2 ≤ cap := by have := ho; obtain ⟨cur, -, h3, -⟩ := this; simpa using h3
  have H1 := hidq h1
  have H2 := hidq h2
  have HO := hidq ho
  clear h1 h2 ho h
  generalize L.length = l at *
  have g1 : l ≤ cap := by omega
  have g2 : (l : Int) ≤ (cap : Int) := by omega
  have g3 : ¬ cap = 0 := by omega
  go_enter Try.func12, Try.ntmps12
  go_wp2_with (first | (at_builtin; refine wpList_append_run rfl _ _ _ rfl _ _ rfl rfl _ _ (H1.out _) ?_) | (at_builtin; refine wpList_append_run rfl _ _ _ rfl _ _ rfl rfl _ _ (H2.out _) ?_))
  go_ret
  exact ⟨g, cap, rfl, hg, HO.out, hk⟩
end Go.Proofs.Ytcjgdfnbjbboeaa
