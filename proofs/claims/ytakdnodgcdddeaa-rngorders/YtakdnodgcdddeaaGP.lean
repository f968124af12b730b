/- Pick: package rng's. -/
import Derived.Test.YtakdnodgcdddeaaG7
import Derived.Test.YtakdnodgcdddeaaGS
namespace Go.Proofs.Ytakdnodgcdddeaa
open Go.ChangeShapes Go.WideShapes Go.ChangeAt Go.RowKit
set_option linter.unusedVariables false
set_option linter.unusedSimpArgs false

theorem Dw.below {w w' : World} {b : Nat} {s t a : Int} (h : Dw w b s t a) (k : Below w.heap.size w w') : Dw w' b s t a :=
  ⟨⟨(k.cell h.1.lt).trans h.1.1, (k.cell h.1.lt).trans h.1.2.1, (k.cell h.1.lt).trans h.1.2.2⟩, fun o => (World.frozen?_of_block (a := ⟨b, o, none⟩) (k.block b h.1.lt)).trans (h.2 o)⟩
theorem Dw.grown {w w' : World} {b g : Nat} {s t a : Int} (h : Dw w b s t a) (k : w.grownBy w' (some g)) (hne : b ≠ g) : Dw w' b s t a := by
  have hb : w'.heap[b]? = w.heap[b]? := k.block b h.1.lt (by simpa using hne)
  exact ⟨⟨(World.cell?_of_block (a := ⟨b, 0, none⟩) hb).trans h.1.1, (World.cell?_of_block (a := ⟨b, 1, none⟩) hb).trans h.1.2.1, (World.cell?_of_block (a := ⟨b, 2, none⟩) hb).trans h.1.2.2⟩, fun o => (World.frozen?_of_block (a := ⟨b, o, none⟩) hb).trans (h.2 o)⟩
theorem Own.below {w w' : World} {g cap : Nat} {L : List Int} (h : Own w g cap L) (k : Below w.heap.size w w') : Own w' g cap L := by
  have hl := h.lt
  obtain ⟨cur, hg, r⟩ := h
  exact ⟨cur, (k.block g hl).trans hg, r⟩
theorem keep3b {w X : World} {b c : Nat} {s t a : Int} (hw : Below w.heap.size w X) (hb : w.heap.size ≤ c) (hne : c ≠ b) (d : Dr X b s t a) (x y z : Value) :
    Below w.heap.size w (put3 X c x y z).drew ∧ (put3 X c x y z).drew.cell? ⟨b, 0, none⟩ = some (.int .i64 s) ∧ (put3 X c x y z).drew.cell? ⟨b, 1, none⟩ = some (.int .i64 t) ∧ (put3 X c x y z).drew.cell? ⟨b, 2, none⟩ = some (.int .i64 a) := by
  have e : ∀ o, (put3 X c x y z).cell? ⟨b, o, none⟩ = X.cell? ⟨b, o, none⟩ := fun o =>
    ((World.cell?_setCell_far _ _ _ _ hne).trans (World.cell?_setCell_far _ _ _ _ hne)).trans (World.cell?_setCell_far _ _ _ _ hne)
  exact ⟨(((hw.setCell (p := ⟨c, 0, none⟩) hb x).setCell (p := ⟨c, 1, none⟩) hb y).setCell (p := ⟨c, 2, none⟩) hb z).drew, (e 0).trans d.1, (e 1).trans d.2.1, (e 2).trans d.2.2⟩

set_option maxHeartbeats 400000 in
set_option maxRecDepth 100000 in
theorem clone_e (a : Addr) (cap : Nat) (w : World) : Calls Try.prog 40 #[.slice (some a) 0 cap] w fun e w' => (∃ g cap, e = .returned (.slice (some ⟨g, 0, none⟩) 0 cap) ∧ w.heap.size ≤ g ∧ Own w' g cap []) ∧ Kept w w' := by
  obtain ⟨i, hi, hz, hs, hby⟩ := info_parts (int_info)
  have HA : Hid (∀ ty, (Builtin.append_ #[44, 44] ty #[.slice (some ⟨w.heap.size, 0, none⟩) 0 0, .slice (some a) 0 cap]).run Try.prog (w.alloc (.cells #[] 3)) = .ok (.slice (some ⟨w.heap.size, 0, none⟩) 0 0) ((w.alloc (.cells #[] 3)).setRow w.heap.size #[])) := by
    intro ty
    have := run_append_room (P := Try.prog) (w.alloc (.cells #[] 3)) 44 ty 3 i li_under hi w.heap.size 0 0 #[] (heap_alloc_new w _) a 0 cap [] (by simp) (by simp) (by simp) (by simp) (by simp)
    simpa [hs] using this
  clear hi hz hs hby
  have hnil := eql_nil
  go_enter Try.func40, Try.ntmps40
  go_wp2_with (first | (at_builtin; refine wpList_append_run rfl _ _ _ rfl _ _ rfl rfl _ _ (HA.out _) ?_))
  go_ret
  have h1 := setRow_heap (w.alloc (.cells #[] 3)) w.heap.size #[] #[] 3 (0, 0) (heap_alloc_new w _)
  refine ⟨⟨_, _, rfl, Nat.le_refl _, ⟨_, h1, by simp, by simp [maxLen], by simp, by simp⟩⟩, ⟨⟨rfl, rfl, rfl, by simp, fun k hk => (setRow_other _ _ _ _ (by omega)).trans (Below.heap_alloc w _ k hk)⟩, fun x => ?_⟩⟩
  have h := frozen?_alloc_cells w #[] 3 x
  by_cases hx : x.block = w.heap.size
  · have h2 := heap_alloc_new w (.cells #[] 3)
    rw [← h]
    unfold World.frozen?
    rw [hx, h1, h2]
  · rw [← h]; exact World.frozen?_of_block (setRow_other _ _ _ _ hx)

theorem clone_own (L : List Int) (hlen : L.length < 100000000) (b off cap : Nat) (w : World) (hb : b < w.heap.size) (hr : Reads w b off L) : Calls Try.prog 40 #[.slice (some ⟨b, off, none⟩) L.length cap] w fun e w' => (∃ g cap, e = .returned (.slice (some ⟨g, 0, none⟩) L.length cap) ∧ w.heap.size ≤ g ∧ Own w' g cap L) ∧ Kept w w' := by
  by_cases hne : L = []
  · subst hne; exact clone_e _ cap w
  · exact clone_some L hne hlen b off cap w hb hr

set_option maxHeartbeats 4000000 in
set_option maxRecDepth 100000 in
theorem pick_ok (s t a : Int) (n k : Nat) (hk : k ≤ n) (hn : n ≤ 65536) (w : World) : Calls Try.prog 27 #[.agg #[.int .i64 s, .int .i64 t, .int .i64 a], .int .i64 n, .int .i64 k] w fun e w' => ∃ g c, e = .returned (.tuple #[.slice (some ⟨g, 0, none⟩) k c, .agg #[.int .i64 s, .int .i64 t, .int .i64 (shuf s t a n).2], .int .i64 0]) ∧ w.heap.size + 2 ≤ g ∧ Own w' g c (srt ((shuf s t a n).1.take k)) ∧ Below w.heap.size w w' := by
  have hA := (Kept.refl w).alloc #[.int .i64 s, .int .i64 t, .int .i64 a] 23
  have hB := (Kept.refl (w.alloc (.cells #[.int .i64 s, .int .i64 t, .int .i64 a] 23))).alloc #[.int .i64 0, .int .i64 0, .int .i64 0] 23
  have d1 := (dw_new w s t a 23).kept hB
  have d2 := (dw_new (w.alloc (.cells #[.int .i64 s, .int .i64 t, .int .i64 a] 23)) 0 0 0 23)
  rw [show (w.alloc (.cells #[.int .i64 s, .int .i64 t, .int .i64 a] 23)).heap.size = w.heap.size + 1 by simp] at d2
  have hW0 := hA.trans hB
  clear hA hB
  have g0 : ¬ (n : Int) < 0 := by omega
  have g1 : ¬ (k : Int) < 0 := by omega
  have g2 : ¬ (n : Int) < (k : Int) := by omega
  have g3 : ¬ n < k := by omega
  have g4 : (k : Int) ≤ (n : Int) := by omega
  have q0 : decide ((n : Int) < 0) = false := decide_eq_false g0
  have q1 : decide ((k : Int) < 0) = false := decide_eq_false g1
  have q2 : decide ((n : Int) < (k : Int)) = false := decide_eq_false g2
  have q3 : decide (n < k) = false := decide_eq_false g3
  obtain ⟨L, P, hS⟩ : ∃ L P, shuf s t a n = (L, P) := ⟨_, _, rfl⟩
  have hLl : L.length = n := by have := shuf_length s t a n; rw [hS] at this; exact this
  have HO : Hid (∀ u, Calls Try.prog 18 #[.agg #[.int .i64 s, .int .i64 t, .int .i64 a], .int .i64 n] u fun e w' => e = .returned (.tuple #[.slice (some ⟨u.heap.size + 4, 0, none⟩) n n, .agg #[.int .i64 s, .int .i64 t, .int .i64 P], .int .i64 0]) ∧ Own w' (u.heap.size + 4) n L ∧ Kept u w') := by
    intro u
    have := shuffle_ok s t a n hn u
    rw [hS] at this
    exact this
  rw [hS]
  clear hS
  have hTl : (L.take k).length = k := by rw [List.length_take, hLl]; omega
  have HL : Hid (L.length = n ∧ (L.take k).length = k) := ⟨hLl, hTl⟩
  clear hLl hTl
  go_enter Try.func27, Try.ntmps27
  go_upto_region 1 with fail
  obtain ⟨X, hX⟩ : ∃ X, X = (w.alloc (.cells #[.int .i64 s, .int .i64 t, .int .i64 a] 23)).alloc (.cells #[.int .i64 0, .int .i64 0, .int .i64 0] 23) := ⟨_, rfl⟩
  rw [← hX] at d1 d2 hW0 ⊢
  have hXs : X.heap.size = w.heap.size + 2 := by rw [hX]; simp
  clear hX
  have D1 := d1
  obtain ⟨⟨c0, c1, c2⟩, f1⟩ := D1
  go_wp2_with fail
  refine (HO.out _).mono ?_
  rintro e w1 ⟨rfl, ho, hk1⟩
  rw [hXs, show w.heap.size + 2 + 4 = w.heap.size + 6 by omega] at ho ⊢
  clear c0 c1 c2 f1
  have g1' := d1.kept hk1
  have g2' := d2.kept hk1
  have hK := hW0.trans hk1
  have G1' := g1'
  obtain ⟨⟨c0, c1, c2⟩, f1⟩ := G1'
  go_upto_region 4 with fail
  clear c0 c1 c2 f1
  have k1 := g1'.put s t P
  have k2 := g2'.far3 w.heap.size (by simp) (.int .i64 s) (.int .i64 t) (.int .i64 P)
  have k3 := hK.put3 w.heap.size (Nat.le_refl _) (.int .i64 s) (.int .i64 t) (.int .i64 P)
  have ko := Dw.own (b := 0) ho w.heap.size (by simp) (.int .i64 s) (.int .i64 t) (.int .i64 P)
  obtain ⟨Y, hY⟩ : ∃ Y, Y = put3 w1 w.heap.size (.int .i64 s) (.int .i64 t) (.int .i64 P) := ⟨_, rfl⟩
  rw [← hY] at k1 k2 k3 ko
  unfold put3 at hY
  rw [← hY]
  have kt := ko.take k (by rw [HL.out.1]; exact hk)
  have KC : Hid (Calls Try.prog 40 #[.slice (some ⟨w.heap.size + 6, 0, none⟩) k n] Y fun e w' => (∃ g cap, e = .returned (.slice (some ⟨g, 0, none⟩) k cap) ∧ Y.heap.size ≤ g ∧ Own w' g cap (L.take k)) ∧ Kept Y w') := by
    have := clone_own (L.take k) (by rw [HL.out.2]; omega) (w.heap.size + 6) 0 n Y ko.lt kt.reads
    rw [HL.out.2] at this
    exact this
  clear hY g1' g2' hK d1 d2 hW0 hk1 ho hXs ko kt
  go_wp2_with fail
  refine KC.out.mono ?_
  rintro e w2 ⟨⟨g, cap, rfl, hg, ho⟩, hk2⟩
  have hYs := k2.1.lt
  have m1 := k1.kept hk2
  have m2 := k2.kept hk2
  have m3 := k3.trans hk2
  have KS : Hid (Calls Try.prog 41 #[.slice (some ⟨g, 0, none⟩) k cap] w2 fun e w' => e = .returned (.tuple #[]) ∧ Own w' g cap (srt (L.take k)) ∧ w2.grownBy w' (some g)) := by
    have := sort_own (L.take k) (by rw [HL.out.2]; omega) g cap w2 ho
    rw [HL.out.2] at this
    exact this
  clear KC k1 k2 k3 hk2 ho
  go_wp2_with fail
  refine KS.out.mono ?_
  rintro e w3 ⟨rfl, hos, hgr⟩
  have p1 := m1.grown hgr (by omega)
  have p2 := m2.grown hgr (by omega)
  have p3 : Below w.heap.size w w3 := m3.below.grown hgr m3.below.size (fun i e => by cases e; omega)
  have HP : Hid (Own w3 g cap (srt (L.take k))) := hos
  have hg2 : w.heap.size + 2 ≤ g := by omega
  clear KS m1 m2 m3 hgr hos
  obtain ⟨⟨c0, c1, c2⟩, f1⟩ := p1
  obtain ⟨⟨c3, c4, c5⟩, f2⟩ := p2
  go_wp2_with fail
  go_region_held (fun u => Below w.heap.size w u ∧ u.cell? ⟨w.heap.size, 0, none⟩ = some (.int .i64 s) ∧ u.cell? ⟨w.heap.size, 1, none⟩ = some (.int .i64 t) ∧ u.cell? ⟨w.heap.size, 2, none⟩ = some (.int .i64 P)) (first | exact ⟨p3.drew, c0, c1, c2⟩ | assumption | exact keep3b p3 (by simp) (by simp) ⟨c0, c1, c2⟩ _ _ _) (fail)
  go_wp2
  exact bodyPost_ret (v := .tuple #[.slice (some ⟨g, 0, none⟩) k cap, .agg #[.int .i64 s, .int .i64 t, .int .i64 P], .int .i64 0]) (by simp [results, Try.results27, go_sem, *]) rfl ⟨g, cap, rfl, hg2, (Dw.own (b := 0) HP.out (w.heap.size + 1) (by omega) _ _ _).kept (Kept.refl _).drew, (keep3b p3 (by simp) (by simp) ⟨c0, c1, c2⟩ _ _ _).1⟩

end Go.Proofs.Ytakdnodgcdddeaa
