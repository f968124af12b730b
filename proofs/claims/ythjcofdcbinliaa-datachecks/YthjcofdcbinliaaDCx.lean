/- Lists lent with marks behind them. Sets lent with marks behind their lists; whether they stay as they were. Whether a lent set stays; a row cut out. -/
import Derived.Test.YthjcofdcbinliaaBK1
import Derived.Test.YthjcofdcbinliaaDC1
import Derived.Test.YthjcofdcbinliaaTD
import Derived.Test.YthjcofdcbinliaaDC3
import Derived.Test.YthjcofdcbinliaaT17
namespace Go.Proofs.Ythjcofdcbinliaa
open Go.ChangeShapes Go.WideShapes Go.ChangeAt Go.RowKit
set_option linter.unusedVariables false
set_option linter.unusedSimpArgs false

theorem lent_two (L : List Int) (hlen : L.length < 1000000) (base w1 : World) (v1 : Value) (hv : Rw w1 v1 3 (L.map (Value.int .i64))) (hg : ∀ g cap, v1 = .slice (some ⟨g, 0, none⟩) L.length cap → base.heap.size ≤ g) (hb : Kept base w1) (b : Nat) (h0 : w1.cell? ⟨b, 0, none⟩ = some (.int .i64 (-77))) (h1 : w1.cell? ⟨b, 1, none⟩ = some (.int .i64 (-78))) :
    ∃ g cap w2, (∀ ty, (Builtin.append_ #[29, 29] ty #[v1, .slice (some ⟨b, 0, none⟩) 2 2]).run Try.prog w1 = .ok (.slice (some ⟨g, 0, none⟩) (L.length + 2) cap) w2) ∧ base.heap.size ≤ g ∧ Own w2 g cap (L ++ [-77, -78]) ∧ Kept base w2 := by
  obtain ⟨g, cap, w2, h2, h3, h4⟩ := app_gen 29 3 li_under (.int .i64 0) 8 int_info rfl (by decide) w1 v1 (L.map (Value.int .i64)) [.int .i64 (-77), .int .i64 (-78)] hv ⟨b, 0, none⟩ 2 2 rfl (fun j u hj => by
    rcases j with _ | j
    · simp at hj; subst hj; exact h0
    · rcases j with _ | j
      · simp at hj; subst hj; exact h1
      · simp at hj) (fun u hu => by
    rcases List.mem_cons.1 hu with rfl | hu
    · rfl
    · rw [List.mem_singleton.1 hu]; rfl) (by decide) (by simp; omega)
  rw [List.length_map] at h2 h4
  have hO : Own w2 g cap (L ++ [-77, -78]) := by rw [own_v]; simpa using h3
  rcases h4 with ⟨rfl, k⟩ | ⟨e, k⟩
  · exact ⟨_, cap, w2, h2, hb.below.size, hO, hb.trans k⟩
  · exact ⟨g, cap, w2, h2, hg g cap e, hO, hb.grw (hg g cap e) k⟩
theorem rw_of_app {L : List Int} {w1 : World} {v1 : Value} {base : World} (h : (L = [] ∧ v1 = .slice none 0 0) ∨ ∃ g cap, v1 = .slice (some ⟨g, 0, none⟩) L.length cap ∧ base.heap.size ≤ g ∧ Own w1 g cap L) : Rw w1 v1 3 (L.map (Value.int .i64)) ∧ (∀ g cap, v1 = .slice (some ⟨g, 0, none⟩) L.length cap → base.heap.size ≤ g) ∧ (∃ ao cc, v1 = .slice ao L.length cc) := by
  rcases h with ⟨rfl, rfl⟩ | ⟨g, cap, rfl, hg, ho⟩
  · exact ⟨.inl ⟨rfl, rfl⟩, fun g cap e => (by cases e), ⟨_, _, rfl⟩⟩
  · exact ⟨.inr ⟨g, cap, by rw [List.length_map], own_v.1 ho⟩, fun g' cap' e => by cases e; exact hg, ⟨_, _, rfl⟩⟩
theorem rw_kept {w w' : World} {v : Value} {e : TypeId} {V : List Value} (h : Rw w v e V) (k : Kept w w') : Rw w' v e V := by
  rcases h with h | ⟨g, cap, h1, h2⟩
  · exact .inl h
  · exact .inr ⟨g, cap, h1, h2.kept k⟩
/-- append to nothing, marks made, append: the marks last -/
theorem lent_A (L : List Int) (hlen : L.length < 1000000) (v : Value) (w : World) (h : Sl w v L) : ∃ v1 w1, (∀ ty, (Builtin.append_ #[29, 29] ty #[.slice none 0 0, v]).run Try.prog w = .ok v1 w1) ∧ (∃ ao cc, v1 = .slice ao L.length cc) ∧ ∃ g cap w2, (∀ ty, (Builtin.append_ #[29, 29] ty #[v1, .slice (some ⟨w1.heap.size, 0, none⟩) 2 2]).run Try.prog (w1.alloc (.cells #[.int .i64 (-77), .int .i64 (-78)] 3)) = .ok (.slice (some ⟨g, 0, none⟩) (L.length + 2) cap) w2) ∧ w.heap.size ≤ g ∧ Own w2 g cap (L ++ [-77, -78]) ∧ Kept w w2 := by
  obtain ⟨v1, w1, h1, h2, h3⟩ := app_nil L (by omega) v w h
  obtain ⟨r1, r2, r3⟩ := rw_of_app h3
  have k := (Kept.refl w1).alloc #[.int .i64 (-77), .int .i64 (-78)] 3
  have hq := Bq.new w1 [.int .i64 (-77), .int .i64 (-78)] 3
  obtain ⟨g, cap, w2, a1, a2, a3, a4⟩ := lent_two L hlen w (w1.alloc (.cells #[.int .i64 (-77), .int .i64 (-78)] 3)) v1 (rw_kept r1 k) r2 (h2.trans k) w1.heap.size (hq.c 0 _ rfl) (hq.c 1 _ rfl)
  exact ⟨v1, w1, h1, r3, g, cap, w2, a1, a2, a3, a4⟩
/-- the same, the marks made first -/
theorem lent_B (L : List Int) (hlen : L.length < 1000000) (v : Value) (w : World) (h : Sl w v L) : ∃ v1 w1, (∀ ty, (Builtin.append_ #[29, 29] ty #[.slice none 0 0, v]).run Try.prog (w.alloc (.cells #[.int .i64 (-77), .int .i64 (-78)] 3)) = .ok v1 w1) ∧ (∃ ao cc, v1 = .slice ao L.length cc) ∧ ∃ g cap w2, (∀ ty, (Builtin.append_ #[29, 29] ty #[v1, .slice (some ⟨w.heap.size, 0, none⟩) 2 2]).run Try.prog w1 = .ok (.slice (some ⟨g, 0, none⟩) (L.length + 2) cap) w2) ∧ w.heap.size ≤ g ∧ Own w2 g cap (L ++ [-77, -78]) ∧ Kept w w2 := by
  have k := (Kept.refl w).alloc #[.int .i64 (-77), .int .i64 (-78)] 3
  have hq := Bq.new w [.int .i64 (-77), .int .i64 (-78)] 3
  obtain ⟨v1, w1, h1, h2, h3⟩ := app_nil L (by omega) v _ (h.kept k)
  obtain ⟨r1, r2, r3⟩ := rw_of_app h3
  have hq1 := hq.kept h2
  obtain ⟨g, cap, w2, a1, a2, a3, a4⟩ := lent_two L hlen w w1 v1 r1 (fun g cap e => Nat.le_trans k.below.size (r2 g cap e)) (k.trans h2) w.heap.size (hq1.c 0 _ rfl) (hq1.c 1 _ rfl)
  exact ⟨v1, w1, h1, r3, g, cap, w2, a1, a2, a3, a4⟩

set_option maxHeartbeats 4000000 in
set_option maxRecDepth 100000 in
theorem lentInts_any (L : List Int) (hlen : L.length < 1000000) (ao : Option Addr) (cp : Nat) (w : World) (h : Sl w (.slice ao L.length cp) L) : Calls Try.prog 25 #[.slice ao L.length cp] w fun e w' => ∃ g cap, e = .returned (.slice (some ⟨g, 0, none⟩) L.length cap) ∧ w.heap.size ≤ g ∧ Own w' g cap (L ++ [-77, -78]) ∧ Kept w w' := by
  obtain ⟨v1, w1, h1, ⟨ao1, cc1, rfl⟩, g, cap, w2, h2, hg, ho, hk⟩ := lent_A L hlen _ w h
  have hc : L.length + 2 ≤ cap := by have := ho; obtain ⟨cur, -, h3, -⟩ := this; simpa using h3
  have H1 := hidq h1
  have H2 := hidq h2
  have HO := hidq ho
  clear h1 h2 ho h
  generalize L.length = l at *
  have g1 : l ≤ cap := by omega
  have g2 : (l : Int) ≤ (cap : Int) := by omega
  have g3 : ¬ cap = 0 := by omega
  go_enter Try.func25, Try.ntmps25
  go_wp2_with (first | (at_builtin; refine wpList_append_run rfl _ _ _ rfl _ _ rfl rfl _ _ (H1.out _) ?_) | (at_builtin; refine wpList_append_run rfl _ _ _ rfl _ _ rfl rfl _ _ (H2.out _) ?_))
  go_ret
  exact ⟨g, cap, rfl, hg, HO.out, hk⟩
end Go.Proofs.Ythjcofdcbinliaa

namespace Go.Proofs.Ythjcofdcbinliaa
open Go.ChangeShapes Go.WideShapes Go.ChangeAt Go.RowKit
set_option linter.unusedVariables false
set_option linter.unusedSimpArgs false

set_option maxHeartbeats 4000000 in
set_option maxRecDepth 100000 in
theorem lent17_any (r c n : Int) (L : List Int) (hlen : L.length < 1000000) (a : Option Addr) (p : Nat) (w : World) (h : Sl w (.slice a L.length p) L) : Calls Try.prog 35 #[.agg #[.int .i64 r, .int .i64 c, .int .i64 n, .slice a L.length p]] w fun e w' => ∃ g cap, e = .returned (.agg #[.int .i64 r, .int .i64 c, .int .i64 n, .slice (some ⟨g, 0, none⟩) L.length cap]) ∧ w.heap.size ≤ g ∧ Own w' g cap (L ++ [-77, -78]) ∧ Kept w w' := by
  obtain ⟨X, hX⟩ : ∃ X, X = (w.alloc (.cells #[.int .i64 r, .int .i64 c, .int .i64 n, .slice a L.length p] 31)).alloc (.cells #[.int .i64 0, .int .i64 0, .int .i64 0, .slice none 0 0] 31) := ⟨_, rfl⟩
  have hK : Kept w X := by rw [hX]; exact ((Kept.refl w).alloc _ _).alloc _ _
  have hM : Bq X w.heap.size [.int .i64 r, .int .i64 c, .int .i64 n, .slice a L.length p] := by rw [hX]; exact (Bq.new w _ 31).kept ((Kept.refl _).alloc _ _)
  have hN : Bq X (w.heap.size + 1) [.int .i64 0, .int .i64 0, .int .i64 0, .slice none 0 0] := by
    have := Bq.new (w.alloc (.cells #[.int .i64 r, .int .i64 c, .int .i64 n, .slice a L.length p] 31)) [.int .i64 0, .int .i64 0, .int .i64 0, .slice none 0 0] 31
    rw [hX]
    simpa using this
  have hXs : X.heap.size = w.heap.size + 2 := by rw [hX]; simp
  have KL : Hid (Calls Try.prog 25 #[.slice a L.length p] X fun e w' => ∃ g cap, e = .returned (.slice (some ⟨g, 0, none⟩) L.length cap) ∧ X.heap.size ≤ g ∧ Own w' g cap (L ++ [-77, -78]) ∧ Kept X w') := lentInts_any L hlen a p X (h.kept hK)
  clear h
  go_enter Try.func35, Try.ntmps35
  go_upto_region 1 with fail
  rw [← hX]
  clear hX
  have c3 := hM.c 3 _ rfl
  go_upto_region 2 with (first | (go_at_call 25; refine KL.out.mono ?_; rintro e w1 ⟨g, cap, rfl, hg, ho, k1⟩; have hM1 := hM.kept k1; have m3 := hM1.c 3 _ rfl; have mf := hM1.fz 3))
  clear c3
  have hN1 := hN.kept k1
  have m0 := hM1.c 0 _ rfl
  have m1 := hM1.c 1 _ rfl
  have m2 := hM1.c 2 _ rfl
  obtain ⟨Y, hY⟩ : ∃ Y, Y = w1.setCell ⟨w.heap.size, 3, none⟩ (.slice (some ⟨g, 0, none⟩) L.length cap) := ⟨_, rfl⟩
  have y0 : Y.cell? ⟨w.heap.size, 0, none⟩ = some (.int .i64 r) := by rw [hY]; simp [go_sem, m0]
  have y1 : Y.cell? ⟨w.heap.size, 1, none⟩ = some (.int .i64 c) := by rw [hY]; simp [go_sem, m1]
  have y2 : Y.cell? ⟨w.heap.size, 2, none⟩ = some (.int .i64 n) := by rw [hY]; simp [go_sem, m2]
  have y3 : Y.cell? ⟨w.heap.size, 3, none⟩ = some (.slice (some ⟨g, 0, none⟩) L.length cap) := by rw [hY]; simp [go_sem, m3]
  have hYN : Bq Y (w.heap.size + 1) [.int .i64 0, .int .i64 0, .int .i64 0, .slice none 0 0] := by
    have hb : Y.heap[w.heap.size + 1]? = w1.heap[w.heap.size + 1]? := by rw [hY]; exact Below.heap_setCell _ _ _ _ (by simp)
    exact ⟨fun i v e => (World.cell?_of_block (w := w1) (a := ⟨w.heap.size + 1, i, none⟩) hb).trans (hN1.c i v e), fun o => (World.frozen?_of_block (a := ⟨w.heap.size + 1, o, none⟩) hb).trans (hN1.fz o), by rw [hY]; simpa using hN1.lt⟩
  have hKY : Kept w Y := by rw [hY]; exact (hK.trans k1).setCell (by simp) _
  have hoY : Own Y g cap (L ++ [-77, -78]) := by rw [hY]; exact ho.setOther (by show g ≠ w.heap.size; omega) _
  rw [← hY]
  clear hY m0 m1 m2 m3 mf hM1 hN1 ho k1 hM hN hK KL
  have d0 := hYN.c 0 _ rfl
  have d1 := hYN.c 1 _ rfl
  have d2 := hYN.c 2 _ rfl
  have d3 := hYN.c 3 _ rfl
  have fz := hYN.fz
  go_wp2_with fail
  have hR := res4 Y (w.heap.size + 1) _ _ _ _ ⟨d0, d1, d2, d3⟩ (.int .i64 r) (.int .i64 c) (.int .i64 n) (.slice (some ⟨g, 0, none⟩) L.length cap)
  obtain ⟨r0, r1, r2, r3⟩ := hR
  have hoZ := (((hoY.setOther (p := ⟨w.heap.size + 1, 0, none⟩) (by show g ≠ w.heap.size + 1; omega) (.int .i64 r)).setOther (p := ⟨w.heap.size + 1, 1, none⟩) (by show g ≠ w.heap.size + 1; omega) (.int .i64 c)).setOther (p := ⟨w.heap.size + 1, 2, none⟩) (by show g ≠ w.heap.size + 1; omega) (.int .i64 n)).setOther (p := ⟨w.heap.size + 1, 3, none⟩) (by show g ≠ w.heap.size + 1; omega) (.slice (some ⟨g, 0, none⟩) L.length cap)
  have hKZ := (((hKY.setCell (p := ⟨w.heap.size + 1, 0, none⟩) (by simp) (.int .i64 r)).setCell (p := ⟨w.heap.size + 1, 1, none⟩) (by simp) (.int .i64 c)).setCell (p := ⟨w.heap.size + 1, 2, none⟩) (by simp) (.int .i64 n)).setCell (p := ⟨w.heap.size + 1, 3, none⟩) (by simp) (.slice (some ⟨g, 0, none⟩) L.length cap)
  exact bodyPost_ret (v := .agg #[.int .i64 r, .int .i64 c, .int .i64 n, .slice (some ⟨g, 0, none⟩) L.length cap]) (by simp [results, Try.f35, go_sem, r0, r1, r2, r3]) rfl ⟨g, cap, rfl, by omega, hoZ, hKZ⟩

/-- eight cells stored -/
abbrev st8w (Y : World) (B : Nat) (v0 v1 v2 v3 v4 v5 v6 v7 : Value) : World := (((((((Y.setCell ⟨B, 0, none⟩ v0).setCell ⟨B, 1, none⟩ v1).setCell ⟨B, 2, none⟩ v2).setCell ⟨B, 3, none⟩ v3).setCell ⟨B, 4, none⟩ v4).setCell ⟨B, 5, none⟩ v5).setCell ⟨B, 6, none⟩ v6).setCell ⟨B, 7, none⟩ v7
theorem st8 (Y : World) (B : Nat) (vs : List Value) (hl : vs.length = 8) (h : Bq Y B vs) (v0 v1 v2 v3 v4 v5 v6 v7 : Value) : Bq (st8w Y B v0 v1 v2 v3 v4 v5 v6 v7) B [v0, v1, v2, v3, v4, v5, v6, v7] := by
  have e : ∀ i, i < 8 → ∃ v, Y.cell? ⟨B, i, none⟩ = some v := fun i hi => ⟨vs[i]'(by omega), h.c i _ (List.getElem?_eq_getElem (by omega))⟩
  obtain ⟨x0, e0⟩ := e 0 (by decide)
  obtain ⟨x1, e1⟩ := e 1 (by decide)
  obtain ⟨x2, e2⟩ := e 2 (by decide)
  obtain ⟨x3, e3⟩ := e 3 (by decide)
  obtain ⟨x4, e4⟩ := e 4 (by decide)
  obtain ⟨x5, e5⟩ := e 5 (by decide)
  obtain ⟨x6, e6⟩ := e 6 (by decide)
  obtain ⟨x7, e7⟩ := e 7 (by decide)
  refine ⟨fun i v hv => ?_, fun o => by simp [h.fz o], by simpa using h.lt⟩
  rcases i with _ | _ | _ | _ | _ | _ | _ | _ | i <;> first | (simp at hv; subst hv; simp [go_sem, e0, e1, e2, e3, e4, e5, e6, e7]) | (simp at hv)
theorem st8_kept {W Y : World} {B : Nat} (hk : Kept W Y) (hB : W.heap.size ≤ B) (v0 v1 v2 v3 v4 v5 v6 v7 : Value) : Kept W (st8w Y B v0 v1 v2 v3 v4 v5 v6 v7) := ((((((((hk.setCell (p := ⟨B, 0, none⟩) hB v0).setCell (p := ⟨B, 1, none⟩) hB v1).setCell (p := ⟨B, 2, none⟩) hB v2).setCell (p := ⟨B, 3, none⟩) hB v3).setCell (p := ⟨B, 4, none⟩) hB v4).setCell (p := ⟨B, 5, none⟩) hB v5).setCell (p := ⟨B, 6, none⟩) hB v6).setCell (p := ⟨B, 7, none⟩) hB v7)
theorem st8_own {Y : World} {B g cap : Nat} {L : List Int} (ho : Own Y g cap L) (hne : g ≠ B) (v0 v1 v2 v3 v4 v5 v6 v7 : Value) : Own (st8w Y B v0 v1 v2 v3 v4 v5 v6 v7) g cap L := ((((((((ho.setOther (p := ⟨B, 0, none⟩) hne v0).setOther (p := ⟨B, 1, none⟩) hne v1).setOther (p := ⟨B, 2, none⟩) hne v2).setOther (p := ⟨B, 3, none⟩) hne v3).setOther (p := ⟨B, 4, none⟩) hne v4).setOther (p := ⟨B, 5, none⟩) hne v5).setOther (p := ⟨B, 6, none⟩) hne v6).setOther (p := ⟨B, 7, none⟩) hne v7)

set_option maxHeartbeats 4000000 in
set_option maxRecDepth 100000 in
theorem lentSet_any (r c n : Int) (a : Option Addr) (p : Nat) (L : List Int) (r' c' n' : Int) (a' : Option Addr) (p' : Nat) (L' : List Int) (hl : L.length < 1000000) (hl' : L'.length < 1000000) (w : World) (hX : Sl w (.slice a L.length p) L) (hY : Sl w (.slice a' L'.length p') L') :
    Calls Try.prog 12 #[sv8 r c n (.slice a L.length p) r' c' n' (.slice a' L'.length p')] w fun e w' => ∃ g cap g' cap', e = .returned (sv8 r c n (.slice (some ⟨g, 0, none⟩) L.length cap) r' c' n' (.slice (some ⟨g', 0, none⟩) L'.length cap')) ∧ w.heap.size ≤ g ∧ w.heap.size ≤ g' ∧ Own w' g cap (L ++ [-77, -78]) ∧ Own w' g' cap' (L' ++ [-77, -78]) ∧ Kept w w' := by
  obtain ⟨X, hXw⟩ : ∃ X, X = (w.alloc (.cells (sl8 r c n (.slice a L.length p) r' c' n' (.slice a' L'.length p')).toArray 33)).alloc (.cells (sl8 0 0 0 (.slice none 0 0) 0 0 0 (.slice none 0 0)).toArray 33) := ⟨_, rfl⟩
  have hK : Kept w X := by rw [hXw]; exact ((Kept.refl w).alloc _ _).alloc _ _
  have hXs : X.heap.size = w.heap.size + 2 := by rw [hXw]; simp
  have hB : Bq X w.heap.size (sl8 r c n (.slice a L.length p) r' c' n' (.slice a' L'.length p')) := by rw [hXw]; exact (Bq.new w _ 33).kept ((Kept.refl _).alloc _ _)
  have hR : Bq X (w.heap.size + 1) (sl8 0 0 0 (.slice none 0 0) 0 0 0 (.slice none 0 0)) := by
    have := Bq.new (w.alloc (.cells (sl8 r c n (.slice a L.length p) r' c' n' (.slice a' L'.length p')).toArray 33)) (sl8 0 0 0 (.slice none 0 0) 0 0 0 (.slice none 0 0)) 33
    rw [hXw]; simpa using this
  have HS : Hid (∀ u, Kept X u → Kept X u ∧ u.cell? ⟨w.heap.size, 0, none⟩ = some (.int .i64 r) ∧ u.cell? ⟨w.heap.size, 1, none⟩ = some (.int .i64 c) ∧ u.cell? ⟨w.heap.size, 2, none⟩ = some (.int .i64 n) ∧ u.cell? ⟨w.heap.size, 3, none⟩ = some (.slice a L.length p) ∧ u.cell? ⟨w.heap.size, 4, none⟩ = some (.int .i64 r') ∧ u.cell? ⟨w.heap.size, 5, none⟩ = some (.int .i64 c') ∧ u.cell? ⟨w.heap.size, 6, none⟩ = some (.int .i64 n') ∧ u.cell? ⟨w.heap.size, 7, none⟩ = some (.slice a' L'.length p')) := fun u k => ⟨k, (hB.kept k).c 0 _ rfl, (hB.kept k).c 1 _ rfl, (hB.kept k).c 2 _ rfl, (hB.kept k).c 3 _ rfl, (hB.kept k).c 4 _ rfl, (hB.kept k).c 5 _ rfl, (hB.kept k).c 6 _ rfl, (hB.kept k).c 7 _ rfl⟩
  have K1 : Hid (∀ u, Kept X u → Calls Try.prog 35 #[.agg #[.int .i64 r, .int .i64 c, .int .i64 n, .slice a L.length p]] u fun e w' => ∃ g cap, e = .returned (.agg #[.int .i64 r, .int .i64 c, .int .i64 n, .slice (some ⟨g, 0, none⟩) L.length cap]) ∧ u.heap.size ≤ g ∧ Own w' g cap (L ++ [-77, -78]) ∧ Kept u w') := fun u k => lent17_any r c n L hl a p u (hX.kept (hK.trans k))
  have K2 : Hid (∀ u, Kept X u → Calls Try.prog 35 #[.agg #[.int .i64 r', .int .i64 c', .int .i64 n', .slice a' L'.length p']] u fun e w' => ∃ g cap, e = .returned (.agg #[.int .i64 r', .int .i64 c', .int .i64 n', .slice (some ⟨g, 0, none⟩) L'.length cap]) ∧ u.heap.size ≤ g ∧ Own w' g cap (L' ++ [-77, -78]) ∧ Kept u w') := fun u k => lent17_any r' c' n' L' hl' a' p' u (hY.kept (hK.trans k))
  clear hX hY
  go_enter Try.func12, Try.ntmps12
  go_upto_region 1 with fail
  rw [← hXw]
  clear hXw hB
  refine wp_region_late [7] (fun u => Kept X u ∧ u.cell? ⟨w.heap.size, 0, none⟩ = some (.int .i64 r) ∧ u.cell? ⟨w.heap.size, 1, none⟩ = some (.int .i64 c) ∧ u.cell? ⟨w.heap.size, 2, none⟩ = some (.int .i64 n) ∧ u.cell? ⟨w.heap.size, 3, none⟩ = some (.slice a L.length p) ∧ u.cell? ⟨w.heap.size, 4, none⟩ = some (.int .i64 r') ∧ u.cell? ⟨w.heap.size, 5, none⟩ = some (.int .i64 c') ∧ u.cell? ⟨w.heap.size, 6, none⟩ = some (.int .i64 n') ∧ u.cell? ⟨w.heap.size, 7, none⟩ = some (.slice a' L'.length p')) (by kernel_rfl) (HS.out _ (Kept.refl X).drew) (fun hHeld => ?_)
  refine wpAnyD_take (i := 0) (v := ?_) rfl (by kernel_rfl) (by kernel_rfl) (by kernel_rfl) (by kernel_rfl) (fun _ _ _ h => h) (Or.inl ⟨by rfl, ?hya0⟩) hHeld ?_
  case hya0 => (intro w hSw; (try dsimp only at hSw); go_simp; try (with_reducible rfl))
  (try simp only [Act.put, List.getElem_toArray, List.getElem_cons_succ, List.getElem_cons_zero, List.setIfInBounds_toArray, List.set_cons_zero, List.set_cons_succ])
  refine wpAnyD_take (i := 1) (v := ?_) rfl (by kernel_rfl) (by kernel_rfl) (by kernel_rfl) (by kernel_rfl) (fun _ _ _ h => h) (Or.inl ⟨by rfl, ?hya1⟩) hHeld ?_
  case hya1 => (intro w hSw; (try dsimp only at hSw); go_simp; try (with_reducible rfl))
  (try simp only [Act.put, List.getElem_toArray, List.getElem_cons_succ, List.getElem_cons_zero, List.setIfInBounds_toArray, List.set_cons_zero, List.set_cons_succ])
  refine wpAnyD_take (i := 3) (v := ?_) rfl (by kernel_rfl) (by kernel_rfl) (by kernel_rfl) (by kernel_rfl) (fun _ _ _ h => h) (Or.inl ⟨by rfl, ?hya3⟩) hHeld ?_
  case hya3 => (intro w hSw; (try dsimp only at hSw); go_simp; try (with_reducible rfl))
  (try simp only [Act.put, List.getElem_toArray, List.getElem_cons_succ, List.getElem_cons_zero, List.setIfInBounds_toArray, List.set_cons_zero, List.set_cons_succ])
  refine wpAnyD_take (i := 4) (v := ?_) rfl (by kernel_rfl) (by kernel_rfl) (by kernel_rfl) (by kernel_rfl) (fun _ _ _ h => h) (Or.inl ⟨by rfl, ?hya4⟩) hHeld ?_
  case hya4 => (intro w hSw; (try dsimp only at hSw); go_simp; try (with_reducible rfl))
  (try simp only [Act.put, List.getElem_toArray, List.getElem_cons_succ, List.getElem_cons_zero, List.setIfInBounds_toArray, List.set_cons_zero, List.set_cons_succ])
  refine wpAnyD_step (i := 2) (by kernel_rfl) rfl (fun K hK9 => ?_)
  go_simp
  go_wp2_with fail
  refine (K1.out _ hHeld.1).mono ?_
  rintro e u1 ⟨g, cap, rfl, hg, ho, k1⟩
  refine hK9.out _ _ (HS.out _ (hHeld.1.trans k1)) (fun hH1 => ?_)
  clear hK9 K
  (try simp only [Act.put, List.getElem_toArray, List.getElem_cons_succ, List.getElem_cons_zero, List.setIfInBounds_toArray, List.set_cons_zero, List.set_cons_succ])
  refine wpAnyD_step (i := 5) (by kernel_rfl) rfl (fun K hK9 => ?_)
  go_simp
  go_wp2_with fail
  refine (K2.out _ hH1.1).mono ?_
  rintro e u2 ⟨g', cap', rfl, hg', ho', k2⟩
  refine hK9.out _ _ (HS.out _ (hH1.1.trans k2)) (fun hH2 => ?_)
  clear hK9 K
  (try simp only [Act.put, List.getElem_toArray, List.getElem_cons_succ, List.getElem_cons_zero, List.setIfInBounds_toArray, List.set_cons_zero, List.set_cons_succ])
  refine wpAnyD_take (i := 6) (v := ?_) rfl (by kernel_rfl) (by kernel_rfl) (by kernel_rfl) (by kernel_rfl) (fun _ _ _ h => h) (Or.inl ⟨by rfl, ?hyb6⟩) hH2 ?_
  case hyb6 => (intro w hSw; (try dsimp only at hSw); go_simp; try (with_reducible rfl))
  (try simp only [Act.put, List.getElem_toArray, List.getElem_cons_succ, List.getElem_cons_zero, List.setIfInBounds_toArray, List.set_cons_zero, List.set_cons_succ])
  have hR2 := hR.kept hH2.1
  have d0 := hR2.c 0 _ rfl
  have d1 := hR2.c 1 _ rfl
  have d2 := hR2.c 2 _ rfl
  have d3 := hR2.c 3 _ rfl
  have d4 := hR2.c 4 _ rfl
  have d5 := hR2.c 5 _ rfl
  have d6 := hR2.c 6 _ rfl
  have d7 := hR2.c 7 _ rfl
  have fz := hR2.fz
  refine wpAnyD_late (i := 7) (by kernel_rfl) rfl rfl (fun K hK9 => ?_)
  go_simp
  refine hK9.out _ _ ?_
  clear hK9 K
  (try simp only [Act.put, List.getElem_toArray, List.getElem_cons_succ, List.getElem_cons_zero, List.setIfInBounds_toArray, List.set_cons_zero, List.set_cons_succ])
  refine wpAnyD_done (by kernel_rfl) ?_ _
  (try simp only [Act.put, List.getElem_toArray, List.getElem_cons_succ, List.getElem_cons_zero, List.setIfInBounds_toArray, List.set_cons_zero, List.set_cons_succ])
  go_wp2_with fail
  have hQ := st8 u2 (w.heap.size + 1) _ rfl hR2 (.int .i64 r) (.int .i64 c) (.int .i64 n) (.slice (some ⟨g, 0, none⟩) L.length cap) (.int .i64 r') (.int .i64 c') (.int .i64 n') (.slice (some ⟨g', 0, none⟩) L'.length cap')
  have s1 := hH1.1.below.size
  have s2 := hH2.1.below.size
  have s0 := hHeld.1.below.size
  have x0 := hQ.c 0 _ rfl
  have x1 := hQ.c 1 _ rfl
  have x2 := hQ.c 2 _ rfl
  have x3 := hQ.c 3 _ rfl
  have x4 := hQ.c 4 _ rfl
  have x5 := hQ.c 5 _ rfl
  have x6 := hQ.c 6 _ rfl
  have x7 := hQ.c 7 _ rfl
  exact bodyPost_ret (v := sv8 r c n (.slice (some ⟨g, 0, none⟩) L.length cap) r' c' n' (.slice (some ⟨g', 0, none⟩) L'.length cap')) (by simp [results, Try.f12, go_sem, x0, x1, x2, x3, x4, x5, x6, x7]) rfl ⟨g, cap, g', cap', rfl, by omega, by omega, st8_own (ho.kept k2) (by omega) _ _ _ _ _ _ _ _, st8_own ho' (by omega) _ _ _ _ _ _ _ _, st8_kept (hK.trans hH2.1) (by omega) _ _ _ _ _ _ _ _⟩

set_option maxHeartbeats 4000000 in
set_option maxRecDepth 100000 in
theorem staysInts_true (L : List Int) (hlen : L.length < 900000) (g cap : Nat) (a : Option Addr) (p : Nat) (w : World) (ho : Own w g cap (L ++ [-77, -78])) (h : Sl w (.slice a L.length p) L) : Calls Try.prog 28 #[.slice (some ⟨g, 0, none⟩) L.length cap, .slice a L.length p] w fun e w' => e = .returned (.bool true) ∧ Kept w w' := by
  have hd := (Kept.refl w).drew
  obtain ⟨v1, w1, h1, ⟨ao1, cc1, rfl⟩, ga, ca, wa, h2, hga, hoa, hka⟩ := lent_A L (by omega) _ w.drew (h.kept hd)
  obtain ⟨v1', w1', h1', ⟨ao1', cc1', rfl⟩, gb, cb, wb, h2', hgb, hob, hkb⟩ := lent_B L (by omega) _ w.drew (h.kept hd)
  have hc : L.length + 2 ≤ cap := by have := ho; obtain ⟨cur, -, h3, -⟩ := this; simpa using h3
  have HA1 := hidq h1
  have HA2 := hidq h2
  have HB1 := hidq h1'
  have HB2 := hidq h2'
  have l2 : (L ++ [-77, -78]).length = L.length + 2 := by simp
  have KS : Hid (∀ (u : World) (g2 c2 : Nat), Kept w u → Own u g2 c2 (L ++ [-77, -78]) → Calls Try.prog 76 #[.slice (some ⟨g, 0, none⟩) (L.length + 2) cap, .slice (some ⟨g2, 0, none⟩) (L.length + 2) c2] u fun e w' => e = .returned (.bool true) ∧ Kept u w') := fun u g2 c2 k o => by
    have s1 := (ho.kept k).sl
    have s2 := o.sl
    rw [l2] at s1 s2
    have := sameInts_any (L ++ [-77, -78]) (by rw [l2]; omega) (some ⟨g, 0, none⟩) (some ⟨g2, 0, none⟩) cap c2 u (by rw [l2]; exact s1) (by rw [l2]; exact s2)
    rw [l2] at this
    exact this
  have HKA := hidq (show Kept w wa ∧ Own wa ga ca (L ++ [-77, -78]) from ⟨hd.trans hka, hoa⟩)
  have HKB := hidq (show Kept w wb ∧ Own wb gb cb (L ++ [-77, -78]) from ⟨hd.trans hkb, hob⟩)
  clear h1 h2 h1' h2' hka hoa hkb hob ho h hd l2
  generalize L.length = l at *
  have z1 : IntKind.i64.wrap ((l : Int) + 2) = (l : Int) + 2 := by rw [wrap_i64]; omega
  have z5 : 0 ≤ (l : Int) + 2 := by omega
  have z6 : ((l : Int) + 2).toNat = l + 2 := by omega
  have z2 : (l : Int) + 2 ≤ (cap : Int) := by omega
  have z3 : ¬ cap = 0 := by omega
  have z4 : ((l : Int) == (l : Int)) = true := by simp
  go_enter Try.func28, Try.ntmps28
  go_upto_region 1 with fail
  refine wp_region_any (by kernel_rfl) ?_
  change wpAny _ _ _ _ _ _ _ (World.drew _)
  refine wpAny_take (i := 0) (v := ?_) rfl (by kernel_rfl) (by kernel_rfl) (by kernel_rfl) (fun _ _ _ h => h) (Or.inl ⟨by rfl, ?hza0⟩) ?_
  case hza0 => (intro w; go_simp; try (with_reducible rfl))
  (try simp only [Act.put, List.getElem_toArray, List.getElem_cons_succ, List.getElem_cons_zero, List.setIfInBounds_toArray, List.set_cons_zero, List.set_cons_succ])
  refine wpAny_take (i := 1) (v := ?_) rfl (by kernel_rfl) (by kernel_rfl) (by kernel_rfl) (fun _ _ _ h => h) (Or.inl ⟨by rfl, ?hza1⟩) ?_
  case hza1 => (intro w; go_simp; try (with_reducible rfl))
  (try simp only [Act.put, List.getElem_toArray, List.getElem_cons_succ, List.getElem_cons_zero, List.setIfInBounds_toArray, List.set_cons_zero, List.set_cons_succ])
  refine wpAny_take (i := 2) (v := ?_) rfl (by kernel_rfl) (by kernel_rfl) (by kernel_rfl) (fun _ _ _ h => h) (Or.inl ⟨by rfl, ?hza2⟩) ?_
  case hza2 => (intro w; go_simp; try (with_reducible rfl))
  (try simp only [Act.put, List.getElem_toArray, List.getElem_cons_succ, List.getElem_cons_zero, List.setIfInBounds_toArray, List.set_cons_zero, List.set_cons_succ])
  refine wpAny_take (i := 3) (v := ?_) rfl (by kernel_rfl) (by kernel_rfl) (by kernel_rfl) (fun _ _ _ h => h) (Or.inl ⟨by rfl, ?hza3⟩) ?_
  case hza3 => (intro w; go_simp; try (with_reducible rfl))
  (try simp only [Act.put, List.getElem_toArray, List.getElem_cons_succ, List.getElem_cons_zero, List.setIfInBounds_toArray, List.set_cons_zero, List.set_cons_succ])
  refine wpAny_take (i := 4) (v := ?_) rfl (by kernel_rfl) (by kernel_rfl) (by kernel_rfl) (fun _ _ _ h => h) (Or.inl ⟨by rfl, ?hza4⟩) ?_
  case hza4 => (intro w; go_simp; try (with_reducible rfl))
  (try simp only [Act.put, List.getElem_toArray, List.getElem_cons_succ, List.getElem_cons_zero, List.setIfInBounds_toArray, List.set_cons_zero, List.set_cons_succ])
  refine wpAny_take (i := 5) (v := ?_) rfl (by kernel_rfl) (by kernel_rfl) (by kernel_rfl) (fun _ _ _ h => h) (Or.inl ⟨by rfl, ?hza5⟩) ?_
  case hza5 => (intro w; go_simp; try (with_reducible rfl))
  (try simp only [Act.put, List.getElem_toArray, List.getElem_cons_succ, List.getElem_cons_zero, List.setIfInBounds_toArray, List.set_cons_zero, List.set_cons_succ])
  refine wpAny_take (i := 6) (v := ?_) rfl (by kernel_rfl) (by kernel_rfl) (by kernel_rfl) (fun _ _ _ h => h) (Or.inl ⟨by rfl, ?hza6⟩) ?_
  case hza6 => (intro w; go_simp; try (with_reducible rfl))
  (try simp only [Act.put, List.getElem_toArray, List.getElem_cons_succ, List.getElem_cons_zero, List.setIfInBounds_toArray, List.set_cons_zero, List.set_cons_succ])
  refine wpAny_take (i := 7) (v := ?_) rfl (by kernel_rfl) (by kernel_rfl) (by kernel_rfl) (fun _ _ _ h => h) (Or.inl ⟨by rfl, ?hza7⟩) ?_
  case hza7 => (intro w; go_simp; try (with_reducible rfl))
  (try simp only [Act.put, List.getElem_toArray, List.getElem_cons_succ, List.getElem_cons_zero, List.setIfInBounds_toArray, List.set_cons_zero, List.set_cons_succ])
  refine wpAny_take (i := 8) (v := ?_) rfl (by kernel_rfl) (by kernel_rfl) (by kernel_rfl) (fun _ _ _ h => h) (Or.inl ⟨by rfl, ?hza8⟩) ?_
  case hza8 => (intro w; go_simp; try (with_reducible rfl))
  (try simp only [Act.put, List.getElem_toArray, List.getElem_cons_succ, List.getElem_cons_zero, List.setIfInBounds_toArray, List.set_cons_zero, List.set_cons_succ])
  refine wpAny_take (i := 9) (v := ?_) rfl (by kernel_rfl) (by kernel_rfl) (by kernel_rfl) (fun _ _ _ h => h) (Or.inl ⟨by rfl, ?hza9⟩) ?_
  case hza9 => (intro w; go_simp; try (with_reducible rfl))
  (try simp only [Act.put, List.getElem_toArray, List.getElem_cons_succ, List.getElem_cons_zero, List.setIfInBounds_toArray, List.set_cons_zero, List.set_cons_succ])
  refine wpAny_take (i := 10) (v := ?_) rfl (by kernel_rfl) (by kernel_rfl) (by kernel_rfl) (fun _ _ _ h => h) (Or.inl ⟨by rfl, ?hza10⟩) ?_
  case hza10 => (intro w; go_simp; try (with_reducible rfl))
  (try simp only [Act.put, List.getElem_toArray, List.getElem_cons_succ, List.getElem_cons_zero, List.setIfInBounds_toArray, List.set_cons_zero, List.set_cons_succ])
  refine wpAny_take (i := 11) (v := ?_) rfl (by kernel_rfl) (by kernel_rfl) (by kernel_rfl) (fun _ _ _ h => h) (Or.inl ⟨by rfl, ?hza11⟩) ?_
  case hza11 => (intro w; go_simp; try (with_reducible rfl))
  (try simp only [Act.put, List.getElem_toArray, List.getElem_cons_succ, List.getElem_cons_zero, List.setIfInBounds_toArray, List.set_cons_zero, List.set_cons_succ])
  refine wpAny_ready (rs := [12, 13]) (by kernel_rfl) (by simp) ?_
  refine AllReady.cons rfl (fun K hK9 => ?_) (AllReady.cons rfl (fun K hK9 => ?_) AllReady.nil)
  · skip
    rw [if_pos (by rfl)]
    refine oper_append_run _ _ _ rfl _ _ rfl rfl _ _ (HA1.out _) ?_
    refine hK9 _ _ ?_
    clear hK9 K
    (try simp only [Act.put, List.getElem_toArray, List.getElem_cons_succ, List.getElem_cons_zero, List.setIfInBounds_toArray, List.set_cons_zero, List.set_cons_succ])
    refine wpAny_ready (rs := [13]) (by kernel_rfl) (by simp) ?_
    refine AllReady.cons rfl (fun K hK9 => ?_) AllReady.nil
    go_simp
    refine hK9 _ _ ?_
    clear hK9 K
    (try simp only [Act.put, List.getElem_toArray, List.getElem_cons_succ, List.getElem_cons_zero, List.setIfInBounds_toArray, List.set_cons_zero, List.set_cons_succ])
    refine wpAny_ready (rs := [14]) (by kernel_rfl) (by simp) ?_
    refine AllReady.cons rfl (fun K hK9 => ?_) AllReady.nil
    rw [if_pos (by rfl)]
    refine oper_append_run _ _ _ rfl _ _ rfl rfl _ _ (HA2.out _) ?_
    refine hK9 _ _ ?_
    clear hK9 K
    (try simp only [Act.put, List.getElem_toArray, List.getElem_cons_succ, List.getElem_cons_zero, List.setIfInBounds_toArray, List.set_cons_zero, List.set_cons_succ])
    refine wpAny_ready (rs := [15]) (by kernel_rfl) (by simp) ?_
    refine AllReady.cons rfl (fun K hK9 => ?_) AllReady.nil
    go_simp
    go_wp2_with fail
    refine (KS.out _ _ _ HKA.out.1 HKA.out.2).mono ?_
    rintro e w5 ⟨rfl, k5⟩
    refine hK9 _ _ ?_
    clear hK9 K
    (try simp only [Act.put, List.getElem_toArray, List.getElem_cons_succ, List.getElem_cons_zero, List.setIfInBounds_toArray, List.set_cons_zero, List.set_cons_succ])
    refine wpAny_take (i := 16) (v := ?_) rfl (by kernel_rfl) (by kernel_rfl) (by kernel_rfl) (fun _ _ _ h => h) (Or.inl ⟨by rfl, ?hzbA16⟩) ?_
    case hzbA16 => (intro w; go_simp; try (with_reducible rfl))
    (try simp only [Act.put, List.getElem_toArray, List.getElem_cons_succ, List.getElem_cons_zero, List.setIfInBounds_toArray, List.set_cons_zero, List.set_cons_succ])
    refine wpAny_take (i := 17) (v := ?_) rfl (by kernel_rfl) (by kernel_rfl) (by kernel_rfl) (fun _ _ _ h => h) (Or.inl ⟨by rfl, ?hzbA17⟩) ?_
    case hzbA17 => (intro w; go_simp; try (with_reducible rfl))
    (try simp only [Act.put, List.getElem_toArray, List.getElem_cons_succ, List.getElem_cons_zero, List.setIfInBounds_toArray, List.set_cons_zero, List.set_cons_succ])
    refine wpAny_done (by kernel_rfl) ?_ _
    (try simp only [Act.put, List.getElem_toArray, List.getElem_cons_succ, List.getElem_cons_zero, List.setIfInBounds_toArray, List.set_cons_zero, List.set_cons_succ])
    go_wp2_with fail
    go_ret
    exact ⟨rfl, HKA.out.1.trans k5⟩
  · skip
    go_simp
    refine hK9 _ _ ?_
    clear hK9 K
    (try simp only [Act.put, List.getElem_toArray, List.getElem_cons_succ, List.getElem_cons_zero, List.setIfInBounds_toArray, List.set_cons_zero, List.set_cons_succ])
    refine wpAny_ready (rs := [12]) (by kernel_rfl) (by simp) ?_
    refine AllReady.cons rfl (fun K hK9 => ?_) AllReady.nil
    rw [if_pos (by rfl)]
    refine oper_append_run _ _ _ rfl _ _ rfl rfl _ _ (HB1.out _) ?_
    refine hK9 _ _ ?_
    clear hK9 K
    (try simp only [Act.put, List.getElem_toArray, List.getElem_cons_succ, List.getElem_cons_zero, List.setIfInBounds_toArray, List.set_cons_zero, List.set_cons_succ])
    refine wpAny_ready (rs := [14]) (by kernel_rfl) (by simp) ?_
    refine AllReady.cons rfl (fun K hK9 => ?_) AllReady.nil
    rw [if_pos (by rfl)]
    refine oper_append_run _ _ _ rfl _ _ rfl rfl _ _ (HB2.out _) ?_
    refine hK9 _ _ ?_
    clear hK9 K
    (try simp only [Act.put, List.getElem_toArray, List.getElem_cons_succ, List.getElem_cons_zero, List.setIfInBounds_toArray, List.set_cons_zero, List.set_cons_succ])
    refine wpAny_ready (rs := [15]) (by kernel_rfl) (by simp) ?_
    refine AllReady.cons rfl (fun K hK9 => ?_) AllReady.nil
    go_simp
    go_wp2_with fail
    refine (KS.out _ _ _ HKB.out.1 HKB.out.2).mono ?_
    rintro e w5 ⟨rfl, k5⟩
    refine hK9 _ _ ?_
    clear hK9 K
    (try simp only [Act.put, List.getElem_toArray, List.getElem_cons_succ, List.getElem_cons_zero, List.setIfInBounds_toArray, List.set_cons_zero, List.set_cons_succ])
    refine wpAny_take (i := 16) (v := ?_) rfl (by kernel_rfl) (by kernel_rfl) (by kernel_rfl) (fun _ _ _ h => h) (Or.inl ⟨by rfl, ?hzbB16⟩) ?_
    case hzbB16 => (intro w; go_simp; try (with_reducible rfl))
    (try simp only [Act.put, List.getElem_toArray, List.getElem_cons_succ, List.getElem_cons_zero, List.setIfInBounds_toArray, List.set_cons_zero, List.set_cons_succ])
    refine wpAny_take (i := 17) (v := ?_) rfl (by kernel_rfl) (by kernel_rfl) (by kernel_rfl) (fun _ _ _ h => h) (Or.inl ⟨by rfl, ?hzbB17⟩) ?_
    case hzbB17 => (intro w; go_simp; try (with_reducible rfl))
    (try simp only [Act.put, List.getElem_toArray, List.getElem_cons_succ, List.getElem_cons_zero, List.setIfInBounds_toArray, List.set_cons_zero, List.set_cons_succ])
    refine wpAny_done (by kernel_rfl) ?_ _
    (try simp only [Act.put, List.getElem_toArray, List.getElem_cons_succ, List.getElem_cons_zero, List.setIfInBounds_toArray, List.set_cons_zero, List.set_cons_succ])
    go_wp2_with fail
    go_ret
    exact ⟨rfl, HKB.out.1.trans k5⟩

end Go.Proofs.Ythjcofdcbinliaa

namespace Go.Proofs.Ythjcofdcbinliaa
open Go.ChangeShapes Go.WideShapes Go.ChangeAt Go.RowKit
set_option linter.unusedVariables false
set_option linter.unusedSimpArgs false

set_option maxHeartbeats 4000000 in
set_option maxRecDepth 100000 in
theorem dlight_any (r c n : Int) (a : Option Addr) (l p : Nat) (r' c' n' : Int) (a' : Option Addr) (l' p' : Nat) (hl : l ≤ 4611686018427387904) (hl' : l' ≤ 4611686018427387903) (w : World) : Calls Try.prog 11 #[sv8 r c n (.slice a l p) r' c' n' (.slice a' l' p')] w fun e w' => e = .returned (.bool (decide ((l : Int) + (l' : Int) ≤ 600))) ∧ Kept w w' := by
  have z1 : IntKind.i64.wrap ((l : Int) + (l' : Int)) = (l : Int) + (l' : Int) := by rw [wrap_i64]; omega
  go_enter Try.func11, Try.ntmps11
  go_wp2
  go_ret
  exact ⟨rfl, (Kept.refl _).alloc _ _⟩

set_option maxHeartbeats 4000000 in
set_option maxRecDepth 100000 in
theorem staysSet_true (r c n : Int) (L : List Int) (hl : L.length < 900000) (g cap : Nat) (a : Option Addr) (p : Nat) (r' c' n' : Int) (L' : List Int) (hl' : L'.length < 900000) (g' cap' : Nat) (a' : Option Addr) (p' : Nat) (w : World) (ho : Own w g cap (L ++ [-77, -78])) (h : Sl w (.slice a L.length p) L) (ho' : Own w g' cap' (L' ++ [-77, -78])) (h' : Sl w (.slice a' L'.length p') L') :
    Calls Try.prog 15 #[sv8 r c n (.slice (some ⟨g, 0, none⟩) L.length cap) r' c' n' (.slice (some ⟨g', 0, none⟩) L'.length cap'), sv8 r c n (.slice a L.length p) r' c' n' (.slice a' L'.length p')] w fun e w' => e = .returned (.bool true) ∧ Kept w w' := by
  obtain ⟨X, hX⟩ : ∃ X, X = (w.alloc (.cells (sl8 r c n (.slice (some ⟨g, 0, none⟩) L.length cap) r' c' n' (.slice (some ⟨g', 0, none⟩) L'.length cap')).toArray 33)).alloc (.cells (sl8 r c n (.slice a L.length p) r' c' n' (.slice a' L'.length p')).toArray 33) := ⟨_, rfl⟩
  have hK : Kept w X := by rw [hX]; exact ((Kept.refl w).alloc _ _).alloc _ _
  have hM : Bq X w.heap.size (sl8 r c n (.slice (some ⟨g, 0, none⟩) L.length cap) r' c' n' (.slice (some ⟨g', 0, none⟩) L'.length cap')) := by rw [hX]; exact (Bq.new w _ 33).kept ((Kept.refl _).alloc _ _)
  have hN : Bq X (w.heap.size + 1) (sl8 r c n (.slice a L.length p) r' c' n' (.slice a' L'.length p')) := by
    have := Bq.new (w.alloc (.cells (sl8 r c n (.slice (some ⟨g, 0, none⟩) L.length cap) r' c' n' (.slice (some ⟨g', 0, none⟩) L'.length cap')).toArray 33)) (sl8 r c n (.slice a L.length p) r' c' n' (.slice a' L'.length p')) 33
    rw [hX]
    simpa using this
  have K1 : Hid (∀ u, Kept w u → Calls Try.prog 28 #[.slice (some ⟨g, 0, none⟩) L.length cap, .slice a L.length p] u fun e w' => e = .returned (.bool true) ∧ Kept u w') := fun u k => staysInts_true L hl g cap a p u (ho.kept k) (h.kept k)
  have K2 : Hid (∀ u, Kept w u → Calls Try.prog 28 #[.slice (some ⟨g', 0, none⟩) L'.length cap', .slice a' L'.length p'] u fun e w' => e = .returned (.bool true) ∧ Kept u w') := fun u k => staysInts_true L' hl' g' cap' a' p' u (ho'.kept k) (h'.kept k)
  clear ho h ho' h'
  generalize L.length = l at *
  generalize L'.length = l' at *
  have e1 : (r == r) = true := by simp
  have e3 : (r' == r') = true := by simp
  go_enter Try.func15, Try.ntmps15
  go_upto_region 1 with fail
  rw [← hX]
  clear hX
  have c3 := hM.c 3 _ rfl
  have c7 := hM.c 7 _ rfl
  have d3 := hN.c 3 _ rfl
  have d7 := hN.c 7 _ rfl
  go_wp2_with fail
  refine (K1.out _ hK).mono ?_
  rintro e w1 ⟨rfl, k1⟩
  have hM1 := hM.kept k1
  have hN1 := hN.kept k1
  have hK1 := hK.trans k1
  clear c3 c7 d3 d7 hM hN hK k1
  have c7 := hM1.c 7 _ rfl
  have d7 := hN1.c 7 _ rfl
  go_wp2_with fail
  refine (K2.out _ hK1).mono ?_
  rintro e w2 ⟨rfl, k2⟩
  have hM2 := hM1.kept k2
  have hN2 := hN1.kept k2
  have hK2 := hK1.trans k2
  clear c7 d7 hM1 hN1 hK1 k2
  have c0 := hM2.c 0 _ rfl
  have d0 := hN2.c 0 _ rfl
  have c4 := hM2.c 4 _ rfl
  have d4 := hN2.c 4 _ rfl
  go_wp2
  go_ret
  exact ⟨rfl, hK2⟩

theorem bpt_reads {w : World} {b off : Nat} {M : List Int} (h : Reads w b off M) (f k : Nat) (hf : f + k ≤ M.length) : Reads w b (off + f) (bpt M f k) := fun i hi => by
  rw [bpt_len M f k hf] at hi
  rw [Nat.add_assoc, h (f + i) (by omega)]
  congr 2
  unfold bpt
  rw [List.getD_eq_getElem?_getD, List.getD_eq_getElem?_getD, List.getElem?_take_of_lt hi, List.getElem?_drop]

set_option maxHeartbeats 4000000 in
set_option maxRecDepth 100000 in
theorem cut_any (R C k : Nat) (n : Int) (hk : k < R) (hC : 0 < C) (hRC : R * C ≤ 100000) (M : List Int) (hM : M.length = R * C) (b off l cap : Nat) (hl : l = R * C) (hcap : l ≤ cap) (w : World) (hb : b < w.heap.size) (hr : Reads w b off M) (hcm : cap ≤ maxLen) : Calls Try.prog 41 #[.agg #[.int .i64 R, .int .i64 C, .int .i64 n, .slice (some ⟨b, off, none⟩) l cap], .int .i64 k] w fun e w' => ∃ g cp, e = .returned (.agg #[.int .i64 1, .int .i64 C, .int .i64 n, .slice (some ⟨g, 0, none⟩) C cp]) ∧ w.heap.size ≤ g ∧ Own w' g cp (bpt M (k * C) C) ∧ Kept w w' := by
  have h1 : (k + 1) * C ≤ R * C := Nat.mul_le_mul_right _ hk
  have h2 : (k + 1) * C = k * C + C := by rw [Nat.succ_mul]
  have hbl : (bpt M (k * C) C).length = C := bpt_len M _ _ (by omega)
  have hrd := bpt_reads hr (k * C) C (by omega)
  obtain ⟨p, hp⟩ : ∃ p, k * C = p := ⟨_, rfl⟩
  have e1 : (k : Int) * (C : Int) = (p : Int) := by rw [← hp]; simp
  have e2 : ((k : Int) + 1) * (C : Int) = ((p + C : Nat) : Int) := by rw [← hp, ← h2]; simp
  have z0 : IntKind.i64.wrap ((k : Int) + 1) = (k : Int) + 1 := by
    rw [wrap_i64]
    have := Nat.le_mul_of_pos_right R hC
    omega
  have z1 : IntKind.i64.wrap ((k : Int) * (C : Int)) = (p : Int) := by rw [e1, wrap_i64]; omega
  have z2 : IntKind.i64.wrap (((k : Int) + 1) * (C : Int)) = ((p + C : Nat) : Int) := by rw [e2, wrap_i64]; omega
  rw [hp] at hrd hbl ⊢
  have g1 : p + C ≤ cap := by omega
  have g2 : ¬ C = 0 := by omega
  have g3 : p + C - p = C := by omega
  have g4 : ¬ cap = p := by omega
  have g5 : 0 ≤ (p : Int) + (C : Int) := by omega
  have g6 : (p : Int) + (C : Int) ≤ (cap : Int) := by omega
  have g7 : ((p : Int) + (C : Int)).toNat = p + C := by omega
  have g8 : p ≤ p + C := by omega
  obtain ⟨X, hX⟩ : ∃ X, X = (w.alloc (.cells #[.int .i64 R, .int .i64 C, .int .i64 n, .slice (some ⟨b, off, none⟩) l cap] 31)).alloc (.cells #[.int .i64 0, .int .i64 0, .int .i64 0, .slice none 0 0] 31) := ⟨_, rfl⟩
  have hK : Kept w X := by rw [hX]; exact ((Kept.refl w).alloc _ _).alloc _ _
  have hXs : X.heap.size = w.heap.size + 2 := by rw [hX]; simp
  have hQ : Bq X w.heap.size [.int .i64 R, .int .i64 C, .int .i64 n, .slice (some ⟨b, off, none⟩) l cap] := by rw [hX]; exact (Bq.new w _ 31).kept ((Kept.refl _).alloc _ _)
  have hN : Bq X (w.heap.size + 1) [.int .i64 0, .int .i64 0, .int .i64 0, .slice none 0 0] := by
    have := Bq.new (w.alloc (.cells #[.int .i64 R, .int .i64 C, .int .i64 n, .slice (some ⟨b, off, none⟩) l cap] 31)) [.int .i64 0, .int .i64 0, .int .i64 0, .slice none 0 0] 31
    rw [hX]
    simpa using this
  have HS : Hid (∀ u, Kept X u → Kept X u ∧ u.cell? ⟨w.heap.size, 0, none⟩ = some (.int .i64 R) ∧ u.cell? ⟨w.heap.size, 1, none⟩ = some (.int .i64 C) ∧ u.cell? ⟨w.heap.size, 2, none⟩ = some (.int .i64 n) ∧ u.cell? ⟨w.heap.size, 3, none⟩ = some (.slice (some ⟨b, off, none⟩) l cap)) := fun u k => ⟨k, (hQ.kept k).c 0 _ rfl, (hQ.kept k).c 1 _ rfl, (hQ.kept k).c 2 _ rfl, (hQ.kept k).c 3 _ rfl⟩
  have hSl : Sl X.drew (.slice (some ⟨b, off + p, none⟩) C (cap - p)) (bpt M p C) := ⟨_, _, by rw [hbl], by rw [hbl]; omega, by omega, fun _ => ⟨_, _, rfl, Nat.lt_of_lt_of_le hb hK.below.size, (hrd.kept hb (hK.trans (Kept.refl X).drew))⟩⟩
  obtain ⟨v1, w1, a1, ak, ao⟩ := app_nil (bpt M p C) (by rw [hbl]; omega) _ X.drew hSl
  obtain ⟨g, cp, rfl, hg, ho⟩ : ∃ g cp, v1 = .slice (some ⟨g, 0, none⟩) C cp ∧ X.drew.heap.size ≤ g ∧ Own w1 g cp (bpt M p C) := by
    rcases ao with ⟨e, -⟩ | ⟨g, cp, e, h3, h4⟩
    · rw [e] at hbl; simp at hbl; omega
    · rw [hbl] at e; exact ⟨g, cp, e, h3, h4⟩
  have HA := hidq a1
  have hg2 : X.heap.size ≤ g := hg
  have kk : Kept X w1 := (Kept.refl X).drew.trans ak
  clear e1 e2 h1 h2 hp hl a1 hSl hrd hr hbl hg hRC hM hcm
  go_enter Try.func41, Try.ntmps41
  go_upto_region 1 with fail
  rw [← hX]
  clear hX hQ
  refine wp_region_late [18] (fun u => Kept X u ∧ u.cell? ⟨w.heap.size, 0, none⟩ = some (.int .i64 R) ∧ u.cell? ⟨w.heap.size, 1, none⟩ = some (.int .i64 C) ∧ u.cell? ⟨w.heap.size, 2, none⟩ = some (.int .i64 n) ∧ u.cell? ⟨w.heap.size, 3, none⟩ = some (.slice (some ⟨b, off, none⟩) l cap)) (by kernel_rfl) (HS.out _ (Kept.refl X).drew) (fun hHeld => ?_)
  refine wpAnyD_take (i := 0) (v := ?_) rfl (by kernel_rfl) (by kernel_rfl) (by kernel_rfl) (by kernel_rfl) (fun _ _ _ h => h) (Or.inl ⟨by rfl, ?hya0⟩) hHeld ?_
  case hya0 => (intro w hSw; (try dsimp only at hSw); go_simp; try (with_reducible rfl))
  (try simp only [Act.put, List.getElem_toArray, List.getElem_cons_succ, List.getElem_cons_zero, List.setIfInBounds_toArray, List.set_cons_zero, List.set_cons_succ])
  refine wpAnyD_take (i := 1) (v := ?_) rfl (by kernel_rfl) (by kernel_rfl) (by kernel_rfl) (by kernel_rfl) (fun _ _ _ h => h) (Or.inl ⟨by rfl, ?hya1⟩) hHeld ?_
  case hya1 => (intro w hSw; (try dsimp only at hSw); go_simp; try (with_reducible rfl))
  (try simp only [Act.put, List.getElem_toArray, List.getElem_cons_succ, List.getElem_cons_zero, List.setIfInBounds_toArray, List.set_cons_zero, List.set_cons_succ])
  refine wpAnyD_take (i := 2) (v := ?_) rfl (by kernel_rfl) (by kernel_rfl) (by kernel_rfl) (by kernel_rfl) (fun _ _ _ h => h) (Or.inl ⟨by rfl, ?hya2⟩) hHeld ?_
  case hya2 => (intro w hSw; (try dsimp only at hSw); go_simp; try (with_reducible rfl))
  (try simp only [Act.put, List.getElem_toArray, List.getElem_cons_succ, List.getElem_cons_zero, List.setIfInBounds_toArray, List.set_cons_zero, List.set_cons_succ])
  refine wpAnyD_take (i := 3) (v := ?_) rfl (by kernel_rfl) (by kernel_rfl) (by kernel_rfl) (by kernel_rfl) (fun _ _ _ h => h) (Or.inl ⟨by rfl, ?hya3⟩) hHeld ?_
  case hya3 => (intro w hSw; (try dsimp only at hSw); go_simp; try (with_reducible rfl))
  (try simp only [Act.put, List.getElem_toArray, List.getElem_cons_succ, List.getElem_cons_zero, List.setIfInBounds_toArray, List.set_cons_zero, List.set_cons_succ])
  refine wpAnyD_take (i := 4) (v := ?_) rfl (by kernel_rfl) (by kernel_rfl) (by kernel_rfl) (by kernel_rfl) (fun _ _ _ h => h) (Or.inl ⟨by rfl, ?hya4⟩) hHeld ?_
  case hya4 => (intro w hSw; (try dsimp only at hSw); go_simp; try (with_reducible rfl))
  (try simp only [Act.put, List.getElem_toArray, List.getElem_cons_succ, List.getElem_cons_zero, List.setIfInBounds_toArray, List.set_cons_zero, List.set_cons_succ])
  refine wpAnyD_take (i := 5) (v := ?_) rfl (by kernel_rfl) (by kernel_rfl) (by kernel_rfl) (by kernel_rfl) (fun _ _ _ h => h) (Or.inl ⟨by rfl, ?hya5⟩) hHeld ?_
  case hya5 => (intro w hSw; (try dsimp only at hSw); go_simp; try (with_reducible rfl))
  (try simp only [Act.put, List.getElem_toArray, List.getElem_cons_succ, List.getElem_cons_zero, List.setIfInBounds_toArray, List.set_cons_zero, List.set_cons_succ])
  refine wpAnyD_take (i := 6) (v := ?_) rfl (by kernel_rfl) (by kernel_rfl) (by kernel_rfl) (by kernel_rfl) (fun _ _ _ h => h) (Or.inl ⟨by rfl, ?hya6⟩) hHeld ?_
  case hya6 => (intro w hSw; (try dsimp only at hSw); go_simp; try (with_reducible rfl))
  (try simp only [Act.put, List.getElem_toArray, List.getElem_cons_succ, List.getElem_cons_zero, List.setIfInBounds_toArray, List.set_cons_zero, List.set_cons_succ])
  refine wpAnyD_take (i := 7) (v := ?_) rfl (by kernel_rfl) (by kernel_rfl) (by kernel_rfl) (by kernel_rfl) (fun _ _ _ h => h) (Or.inl ⟨by rfl, ?hya7⟩) hHeld ?_
  case hya7 => (intro w hSw; (try dsimp only at hSw); go_simp; try (with_reducible rfl))
  (try simp only [Act.put, List.getElem_toArray, List.getElem_cons_succ, List.getElem_cons_zero, List.setIfInBounds_toArray, List.set_cons_zero, List.set_cons_succ])
  refine wpAnyD_take (i := 8) (v := ?_) rfl (by kernel_rfl) (by kernel_rfl) (by kernel_rfl) (by kernel_rfl) (fun _ _ _ h => h) (Or.inl ⟨by rfl, ?hya8⟩) hHeld ?_
  case hya8 => (intro w hSw; (try dsimp only at hSw); go_simp; try (with_reducible rfl))
  (try simp only [Act.put, List.getElem_toArray, List.getElem_cons_succ, List.getElem_cons_zero, List.setIfInBounds_toArray, List.set_cons_zero, List.set_cons_succ])
  refine wpAnyD_take (i := 9) (v := ?_) rfl (by kernel_rfl) (by kernel_rfl) (by kernel_rfl) (by kernel_rfl) (fun _ _ _ h => h) (Or.inl ⟨by rfl, ?hya9⟩) hHeld ?_
  case hya9 => (intro w hSw; (try dsimp only at hSw); go_simp; try (with_reducible rfl))
  (try simp only [Act.put, List.getElem_toArray, List.getElem_cons_succ, List.getElem_cons_zero, List.setIfInBounds_toArray, List.set_cons_zero, List.set_cons_succ])
  refine wpAnyD_take (i := 10) (v := ?_) rfl (by kernel_rfl) (by kernel_rfl) (by kernel_rfl) (by kernel_rfl) (fun _ _ _ h => h) (Or.inl ⟨by rfl, ?hya10⟩) hHeld ?_
  case hya10 => (intro w hSw; (try dsimp only at hSw); go_simp; try (with_reducible rfl))
  (try simp only [Act.put, List.getElem_toArray, List.getElem_cons_succ, List.getElem_cons_zero, List.setIfInBounds_toArray, List.set_cons_zero, List.set_cons_succ])
  refine wpAnyD_take (i := 11) (v := ?_) rfl (by kernel_rfl) (by kernel_rfl) (by kernel_rfl) (by kernel_rfl) (fun _ _ _ h => h) (Or.inl ⟨by rfl, ?hya11⟩) hHeld ?_
  case hya11 => (intro w hSw; (try dsimp only at hSw); go_simp; try (with_reducible rfl))
  (try simp only [Act.put, List.getElem_toArray, List.getElem_cons_succ, List.getElem_cons_zero, List.setIfInBounds_toArray, List.set_cons_zero, List.set_cons_succ])
  refine wpAnyD_take (i := 12) (v := ?_) rfl (by kernel_rfl) (by kernel_rfl) (by kernel_rfl) (by kernel_rfl) (fun _ _ _ h => h) (Or.inl ⟨by rfl, ?hya12⟩) hHeld ?_
  case hya12 => (intro w hSw; (try dsimp only at hSw); go_simp; try (with_reducible rfl))
  (try simp only [Act.put, List.getElem_toArray, List.getElem_cons_succ, List.getElem_cons_zero, List.setIfInBounds_toArray, List.set_cons_zero, List.set_cons_succ])
  refine wpAnyD_take (i := 13) (v := ?_) rfl (by kernel_rfl) (by kernel_rfl) (by kernel_rfl) (by kernel_rfl) (fun _ _ _ h => h) (Or.inl ⟨by rfl, ?hya13⟩) hHeld ?_
  case hya13 => (intro w hSw; (try dsimp only at hSw); go_simp; try (with_reducible rfl))
  (try simp only [Act.put, List.getElem_toArray, List.getElem_cons_succ, List.getElem_cons_zero, List.setIfInBounds_toArray, List.set_cons_zero, List.set_cons_succ])
  refine wpAnyD_take (i := 14) (v := ?_) rfl (by kernel_rfl) (by kernel_rfl) (by kernel_rfl) (by kernel_rfl) (fun _ _ _ h => h) (Or.inl ⟨by rfl, ?hya14⟩) hHeld ?_
  case hya14 => (intro w hSw; (try dsimp only at hSw); go_simp; try (with_reducible rfl))
  (try simp only [Act.put, List.getElem_toArray, List.getElem_cons_succ, List.getElem_cons_zero, List.setIfInBounds_toArray, List.set_cons_zero, List.set_cons_succ])
  refine wpAnyD_take (i := 15) (v := ?_) rfl (by kernel_rfl) (by kernel_rfl) (by kernel_rfl) (by kernel_rfl) (fun _ _ _ h => h) (Or.inl ⟨by rfl, ?hya15⟩) hHeld ?_
  case hya15 => (intro w hSw; (try dsimp only at hSw); go_simp; try (with_reducible rfl))
  (try simp only [Act.put, List.getElem_toArray, List.getElem_cons_succ, List.getElem_cons_zero, List.setIfInBounds_toArray, List.set_cons_zero, List.set_cons_succ])
  refine wpAnyD_step (i := 16) (by kernel_rfl) rfl (fun K hK9 => ?_)
  rw [if_pos (by rfl)]
  refine oper_append_run _ _ _ rfl _ _ rfl rfl _ _ (HA.out _) ?_
  refine hK9.out _ _ (HS.out _ kk) (fun hH1 => ?_)
  clear hK9 K
  (try simp only [Act.put, List.getElem_toArray, List.getElem_cons_succ, List.getElem_cons_zero, List.setIfInBounds_toArray, List.set_cons_zero, List.set_cons_succ])
  refine wpAnyD_take (i := 17) (v := ?_) rfl (by kernel_rfl) (by kernel_rfl) (by kernel_rfl) (by kernel_rfl) (fun _ _ _ h => h) (Or.inl ⟨by rfl, ?hyb17⟩) hH1 ?_
  case hyb17 => (intro w hSw; (try dsimp only at hSw); go_simp; try (with_reducible rfl))
  (try simp only [Act.put, List.getElem_toArray, List.getElem_cons_succ, List.getElem_cons_zero, List.setIfInBounds_toArray, List.set_cons_zero, List.set_cons_succ])
  have hR2 := hN.kept kk
  have d0 := hR2.c 0 _ rfl
  have d1 := hR2.c 1 _ rfl
  have d2 := hR2.c 2 _ rfl
  have d3 := hR2.c 3 _ rfl
  have fz := hR2.fz
  refine wpAnyD_late (i := 18) (by kernel_rfl) rfl rfl (fun K hK9 => ?_)
  go_simp
  refine hK9.out _ _ ?_
  clear hK9 K
  (try simp only [Act.put, List.getElem_toArray, List.getElem_cons_succ, List.getElem_cons_zero, List.setIfInBounds_toArray, List.set_cons_zero, List.set_cons_succ])
  refine wpAnyD_done (by kernel_rfl) ?_ _
  (try simp only [Act.put, List.getElem_toArray, List.getElem_cons_succ, List.getElem_cons_zero, List.setIfInBounds_toArray, List.set_cons_zero, List.set_cons_succ])
  go_wp2_with fail
  have hR := res4 w1 (w.heap.size + 1) _ _ _ _ ⟨d0, d1, d2, d3⟩ (.int .i64 1) (.int .i64 C) (.int .i64 n) (.slice (some ⟨g, 0, none⟩) C cp)
  obtain ⟨r0, r1, r2, r3⟩ := hR
  have hoZ := (((ho.setOther (p := ⟨w.heap.size + 1, 0, none⟩) (by show g ≠ w.heap.size + 1; omega) (.int .i64 1)).setOther (p := ⟨w.heap.size + 1, 1, none⟩) (by show g ≠ w.heap.size + 1; omega) (.int .i64 C)).setOther (p := ⟨w.heap.size + 1, 2, none⟩) (by show g ≠ w.heap.size + 1; omega) (.int .i64 n)).setOther (p := ⟨w.heap.size + 1, 3, none⟩) (by show g ≠ w.heap.size + 1; omega) (.slice (some ⟨g, 0, none⟩) C cp)
  have hKZ := ((((hK.trans kk).setCell (p := ⟨w.heap.size + 1, 0, none⟩) (by simp) (.int .i64 1)).setCell (p := ⟨w.heap.size + 1, 1, none⟩) (by simp) (.int .i64 C)).setCell (p := ⟨w.heap.size + 1, 2, none⟩) (by simp) (.int .i64 n)).setCell (p := ⟨w.heap.size + 1, 3, none⟩) (by simp) (.slice (some ⟨g, 0, none⟩) C cp)
  exact bodyPost_ret (v := .agg #[.int .i64 1, .int .i64 C, .int .i64 n, .slice (some ⟨g, 0, none⟩) C cp]) (by simp [results, Try.f41, go_sem, r0, r1, r2, r3]) rfl ⟨g, cp, rfl, by omega, hoZ, hKZ⟩

end Go.Proofs.Ythjcofdcbinliaa
