/- The walk of exact's Quot at 1 by 3. A few values: 6 by 2, 1, 3, and 1 - 3. The walk of the laws' own test of life. -/
import Derived.Test.YtbheglkpmgmkoaaDoorD17
import Derived.Test.YtbheglkpmgmkoaaDoorQ4
import Derived.Test.YtbheglkpmgmkoaaDoorQ6
import Derived.Test.YtbheglkpmgmkoaaDoorS5
import Derived.Test.YtbheglkpmgmkoaaDoorQ7
import Derived.Deep.Cut
namespace Go.Proofs.YtbheglkpmgmkoaaDoor
open Go.ChangeShapes Go.WideShapes Go.ChangeAt Go.RowKit
set_option linter.unusedVariables false
set_option linter.unusedSimpArgs false

theorem vld1 : vld ⟨false, [1], 0⟩ = true := by decide +kernel
theorem vld3 : vld ⟨false, [3], 0⟩ = true := by decide +kernel

set_option maxHeartbeats 4000000 in
set_option maxRecDepth 100000 in
theorem quot_third (a b : Option Addr) (c d : Nat) (w : World) (h1 : Sl w (.slice a 1 c) [1]) (h2 : Sl w (.slice b 1 d) [3]) (hT : Tab w) : Calls Tryd.prog 22 #[.agg #[.bool false, .slice a 1 c, .int .i64 0], .agg #[.bool false, .slice b 1 d, .int .i64 0], .int .i64 64, .int .i64 0] w fun e w' => e = .returned (.tuple #[.int .i64 4599676419421066581, .bool true, .int .i64 0]) ∧ Kept w w' := by
  have hK : Kept w (((w.alloc (.cells #[.bool false, .slice a 1 c, .int .i64 0] 24)).alloc (.cells #[.bool false, .slice b 1 d, .int .i64 0] 24)).alloc (.cells (pairC false (.slice a 1 c) 0 false (.slice b 1 d) 0) 24)) := (((Kept.refl w).alloc _ _).alloc _ _).alloc _ _
  have KR : Hid (Calls Tryd.prog 38 #[.int .i64 64, .int .i64 0, .slice (some ⟨w.heap.size + 2, 0, none⟩) 2 2] (((w.alloc (.cells #[.bool false, .slice a 1 c, .int .i64 0] 24)).alloc (.cells #[.bool false, .slice b 1 d, .int .i64 0] 24)).alloc (.cells (pairC false (.slice a 1 c) 0 false (.slice b 1 d) 0) 24)) fun e w' => e = .returned (.tuple #[round64, .int .i64 0]) ∧ Kept (((w.alloc (.cells #[.bool false, .slice a 1 c, .int .i64 0] 24)).alloc (.cells #[.bool false, .slice b 1 d, .int .i64 0] 24)).alloc (.cells (pairC false (.slice a 1 c) 0 false (.slice b 1 d) 0) 24)) w') := by
    refine roundingOf_64 _ _ (fun u k => ?_)
    have hb : w.heap.size + 2 < (((w.alloc (.cells #[.bool false, .slice a 1 c, .int .i64 0] 24)).alloc (.cells #[.bool false, .slice b 1 d, .int .i64 0] 24)).alloc (.cells (pairC false (.slice a 1 c) 0 false (.slice b 1 d) 0) 24)).heap.size := by simp
    have := allValid_2 u (w.heap.size + 2) 2 false false a b 1 c 1 d 0 0 true true (Nat.lt_of_lt_of_le hb k.below.size) ((k.below.cell (p := ⟨w.heap.size + 2, 0, none⟩) hb).trans (by simp [go_sem])) ((k.below.cell (p := ⟨w.heap.size + 2, 1, none⟩) hb).trans (by simp [go_sem])) ((k.below.cell (p := ⟨w.heap.size + 2, 2, none⟩) hb).trans (by simp [go_sem])) ((k.below.cell (p := ⟨w.heap.size + 2, 3, none⟩) hb).trans (by simp [go_sem])) ((k.below.cell (p := ⟨w.heap.size + 2, 4, none⟩) hb).trans (by simp [go_sem])) ((k.below.cell (p := ⟨w.heap.size + 2, 5, none⟩) hb).trans (by simp [go_sem])) (fun v kv => ?_) (fun v kv => ?_)
    · exact this
    · have := xvalid_any ⟨false, [1], 0⟩ (Dg.rg (Dg.cons (by decide) (by decide) Dg.nil)) (by decide) (.agg #[.bool false, .slice a 1 c, .int .i64 0]) v ⟨_, rfl, ((h1.kept hK).kept k).kept kv⟩
      rw [vld1] at this
      exact this
    · have := xvalid_any ⟨false, [3], 0⟩ (Dg.rg (Dg.cons (by decide) (by decide) Dg.nil)) (by decide) (.agg #[.bool false, .slice b 1 d, .int .i64 0]) v ⟨_, rfl, ((h2.kept hK).kept k).kept kv⟩
      rw [vld3] at this
      exact this
  have KQ : Hid (∀ u, Kept w u → Calls Tryd.prog 56 #[.agg #[.bool false, .slice a 1 c, .int .i64 0], .agg #[.bool false, .slice b 1 d, .int .i64 0]] u fun e w' => e = .returned third ∧ Kept u w') := fun u k => quotient_third a b c d u (h1.kept k) (h2.kept k)
  have HT : Hid (Tab w) := hT
  clear h1 h2 hT
  go_enter Tryd.func22, Tryd.ntmps22
  go_wp2_with fail
  refine KR.out.mono ?_
  rintro e w1 ⟨rfl, hk1⟩
  have HS : Hid (∀ u, Kept (w1.alloc (.cells #[.int .i64 64, .int .i64 53, .int .i64 (-1074), .int .i64 9218868437227405312, .func (.func 98) #[] #[]] 62)) u → u.cell? ⟨w1.heap.size, 0, none⟩ = some (.int .i64 64) ∧ u.cell? ⟨w1.heap.size, 1, none⟩ = some (.int .i64 53) ∧ u.cell? ⟨w1.heap.size, 2, none⟩ = some (.int .i64 (-1074)) ∧ u.cell? ⟨w1.heap.size, 3, none⟩ = some (.int .i64 9218868437227405312) ∧ u.cell? ⟨w1.heap.size, 4, none⟩ = some (.func (.func 98) #[] #[]) ∧ u.cell? ⟨w.heap.size, 0, none⟩ = some (.bool false) ∧ u.cell? ⟨w.heap.size, 1, none⟩ = some (.slice a 1 c) ∧ u.cell? ⟨w.heap.size, 2, none⟩ = some (.int .i64 0) ∧ u.cell? ⟨w.heap.size + 1, 0, none⟩ = some (.bool false) ∧ u.cell? ⟨w.heap.size + 1, 1, none⟩ = some (.slice b 1 d) ∧ u.cell? ⟨w.heap.size + 1, 2, none⟩ = some (.int .i64 0)) := fun u k => ⟨(laid_cell k 0).trans (by simp [go_sem]), (laid_cell k 1).trans (by simp [go_sem]), (laid_cell k 2).trans (by simp [go_sem]), (laid_cell k 3).trans (by simp [go_sem]), (laid_cell k 4).trans (by simp [go_sem]), ((hk1.trans ((Kept.refl w1).alloc _ _ |>.trans k)).below.cell (p := ⟨w.heap.size, 0, none⟩) (by simp <;> omega)).trans (by simp [go_sem]), ((hk1.trans ((Kept.refl w1).alloc _ _ |>.trans k)).below.cell (p := ⟨w.heap.size, 1, none⟩) (by simp <;> omega)).trans (by simp [go_sem]), ((hk1.trans ((Kept.refl w1).alloc _ _ |>.trans k)).below.cell (p := ⟨w.heap.size, 2, none⟩) (by simp <;> omega)).trans (by simp [go_sem]), ((hk1.trans ((Kept.refl w1).alloc _ _ |>.trans k)).below.cell (p := ⟨w.heap.size + 1, 0, none⟩) (by simp <;> omega)).trans (by simp [go_sem]), ((hk1.trans ((Kept.refl w1).alloc _ _ |>.trans k)).below.cell (p := ⟨w.heap.size + 1, 1, none⟩) (by simp <;> omega)).trans (by simp [go_sem]), ((hk1.trans ((Kept.refl w1).alloc _ _ |>.trans k)).below.cell (p := ⟨w.heap.size + 1, 2, none⟩) (by simp <;> omega)).trans (by simp [go_sem])⟩
  have hsz : w.heap.size + 3 ≤ w1.heap.size := by have := hk1.below.size; simpa using this
  have s0 := HS.out _ (Kept.refl _)
  obtain ⟨x0, x1, x2, x3, x4, x5, x6, x7, x8, x9, xx⟩ := s0
  go_wp2_with fail
  refine (signOf_any false b 1 d 0 _).mono ?_
  rintro e w2 ⟨rfl, hk2⟩
  have s1 := HS.out _ hk2
  clear x0 x1 x2 x3 x4 x5 x6 x7 x8 x9 xx
  have hkk : Kept w w2 := hK.trans (hk1.trans (((Kept.refl w1).alloc _ _).trans hk2))
  go_wp2
  refine wp_region_held_drew (S := fun u => u.cell? ⟨w1.heap.size, 0, none⟩ = some (.int .i64 64) ∧ u.cell? ⟨w1.heap.size, 1, none⟩ = some (.int .i64 53) ∧ u.cell? ⟨w1.heap.size, 2, none⟩ = some (.int .i64 (-1074)) ∧ u.cell? ⟨w1.heap.size, 3, none⟩ = some (.int .i64 9218868437227405312) ∧ u.cell? ⟨w1.heap.size, 4, none⟩ = some (.func (.func 98) #[] #[]) ∧ u.cell? ⟨w.heap.size, 0, none⟩ = some (.bool false) ∧ u.cell? ⟨w.heap.size, 1, none⟩ = some (.slice a 1 c) ∧ u.cell? ⟨w.heap.size, 2, none⟩ = some (.int .i64 0) ∧ u.cell? ⟨w.heap.size + 1, 0, none⟩ = some (.bool false) ∧ u.cell? ⟨w.heap.size + 1, 1, none⟩ = some (.slice b 1 d) ∧ u.cell? ⟨w.heap.size + 1, 2, none⟩ = some (.int .i64 0)) (by kernel_rfl) (HS.out _ hk2.drew) (fun hHeld => ?_)
  refine wpAnyH_take (i := 0) (v := ?_) rfl (by kernel_rfl) (by kernel_rfl) (by kernel_rfl) (fun _ _ _ h => h) (Or.inl ⟨by rfl, ?hya0⟩) (by assumption) ?_
  case hya0 => (intro w hSw; (try dsimp only at hSw); go_simp; try (with_reducible rfl))
  simp only [Act.put, List.getElem_toArray, List.getElem_cons_succ, List.getElem_cons_zero, List.setIfInBounds_toArray, List.set_cons_zero, List.set_cons_succ]
  refine wpAnyH_take (i := 1) (v := ?_) rfl (by kernel_rfl) (by kernel_rfl) (by kernel_rfl) (fun _ _ _ h => h) (Or.inl ⟨by rfl, ?hya1⟩) (by assumption) ?_
  case hya1 => (intro w hSw; (try dsimp only at hSw); go_simp; try (with_reducible rfl))
  simp only [Act.put, List.getElem_toArray, List.getElem_cons_succ, List.getElem_cons_zero, List.setIfInBounds_toArray, List.set_cons_zero, List.set_cons_succ]
  refine wpAnyH_take (i := 2) (v := ?_) rfl (by kernel_rfl) (by kernel_rfl) (by kernel_rfl) (fun _ _ _ h => h) (Or.inl ⟨by rfl, ?hya2⟩) (by assumption) ?_
  case hya2 => (intro w hSw; (try dsimp only at hSw); go_simp; try (with_reducible rfl))
  simp only [Act.put, List.getElem_toArray, List.getElem_cons_succ, List.getElem_cons_zero, List.setIfInBounds_toArray, List.set_cons_zero, List.set_cons_succ]
  refine wpAnyH_ready (rs := [3]) (by kernel_rfl) (by simp) ?_
  refine AllReadyH.cons rfl (fun K hK9 => ?_) AllReadyH.nil
  go_simp
  go_wp2_with (first | (go_at_call 56; refine (KQ.out _ hkk.drew).mono ?_; rintro e w3 ⟨rfl, hk3⟩))
  refine hK9.out _ _ (HS.out _ (hk2.drew.trans hk3)) (fun hHeld2 => ?_)
  clear hK9 K hHeld
  refine wpAnyH_ready (rs := [4]) (by kernel_rfl) (by simp) ?_
  refine AllReadyH.cons rfl (fun K hK9 => ?_) AllReadyH.nil
  go_simp
  go_wp2_with (first | (go_at_call 39; refine (round_third _ (HT.out.kept (hkk.drew.trans hk3))).mono ?_; rintro e w4 ⟨rfl, hk4⟩))
  refine hK9.out _ _ (HS.out _ (hk2.drew.trans (hk3.trans hk4))) (fun hHeld => ?_)
  clear hK9 K hHeld2
  refine wpAnyH_take (i := 5) (v := ?_) rfl (by kernel_rfl) (by kernel_rfl) (by kernel_rfl) (fun _ _ _ h => h) (Or.inl ⟨by rfl, ?hyb5⟩) (by assumption) ?_
  case hyb5 => (intro w hSw; (try dsimp only at hSw); go_simp; try (with_reducible rfl))
  simp only [Act.put, List.getElem_toArray, List.getElem_cons_succ, List.getElem_cons_zero, List.setIfInBounds_toArray, List.set_cons_zero, List.set_cons_succ]
  refine wpAnyH_take (i := 6) (v := ?_) rfl (by kernel_rfl) (by kernel_rfl) (by kernel_rfl) (fun _ _ _ h => h) (Or.inl ⟨by rfl, ?hyb6⟩) (by assumption) ?_
  case hyb6 => (intro w hSw; (try dsimp only at hSw); go_simp; try (with_reducible rfl))
  simp only [Act.put, List.getElem_toArray, List.getElem_cons_succ, List.getElem_cons_zero, List.setIfInBounds_toArray, List.set_cons_zero, List.set_cons_succ]
  refine wpAnyH_take (i := 7) (v := ?_) rfl (by kernel_rfl) (by kernel_rfl) (by kernel_rfl) (fun _ _ _ h => h) (Or.inl ⟨by rfl, ?hyb7⟩) (by assumption) ?_
  case hyb7 => (intro w hSw; (try dsimp only at hSw); go_simp; try (with_reducible rfl))
  simp only [Act.put, List.getElem_toArray, List.getElem_cons_succ, List.getElem_cons_zero, List.setIfInBounds_toArray, List.set_cons_zero, List.set_cons_succ]
  refine wpAnyH_take (i := 8) (v := ?_) rfl (by kernel_rfl) (by kernel_rfl) (by kernel_rfl) (fun _ _ _ h => h) (Or.inl ⟨by rfl, ?hyb8⟩) (by assumption) ?_
  case hyb8 => (intro w hSw; (try dsimp only at hSw); go_simp; try (with_reducible rfl))
  simp only [Act.put, List.getElem_toArray, List.getElem_cons_succ, List.getElem_cons_zero, List.setIfInBounds_toArray, List.set_cons_zero, List.set_cons_succ]
  refine wpAnyH_take (i := 9) (v := ?_) rfl (by kernel_rfl) (by kernel_rfl) (by kernel_rfl) (fun _ _ _ h => h) (Or.inl ⟨by rfl, ?hyb9⟩) (by assumption) ?_
  case hyb9 => (intro w hSw; (try dsimp only at hSw); go_simp; try (with_reducible rfl))
  simp only [Act.put, List.getElem_toArray, List.getElem_cons_succ, List.getElem_cons_zero, List.setIfInBounds_toArray, List.set_cons_zero, List.set_cons_succ]
  refine wpAnyH_done (by kernel_rfl) ?_ _
  clear hHeld
  go_wp2
  refine bodyPost_ret (v := .tuple #[.int .i64 4599676419421066581, .bool true, .int .i64 0]) (by simp [results, Tryd.results22, go_sem]) rfl ⟨rfl, hkk.drew.trans (hk3.trans hk4)⟩
end Go.Proofs.YtbheglkpmgmkoaaDoor

namespace Go.Proofs.YtbheglkpmgmkoaaDoor
open Go.RowKit

theorem digs_small (n : Nat) (h0 : n ≠ 0) (h : n < 1073741824) : digs n = [(n : Int)] := by
  rw [digs_pos n h0, Nat.mod_eq_of_lt h, Nat.div_eq_of_lt h, digs_zero]
theorem frm_6 : frm true (nv [6]) (-1) = some ⟨true, [3], 0⟩ := by
  have e : nv [6] = 6 := by decide
  have t : tzn 6 = 1 := by rw [tzn_even 6 (by decide) (by decide), tzn_odd _ (by decide)]
  have b : bl 6 = 3 := by decide
  have d : digs (6 / 2 ^ 1) = [3] := digs_small 3 (by decide) (by decide)
  have w : wrap64 (-1 + ((1 : Nat) : Int)) = 0 := by unfold wrap64; decide
  unfold frm
  rw [e, t, b, d, w, if_neg (by decide), if_pos (by decide)]
theorem frm_1 : frm (decide ((1 : Int) < 0)) (1 : Int).natAbs 0 = some ⟨false, [1], 0⟩ := by
  have t : tzn 1 = 0 := tzn_odd _ (by decide)
  have b : bl 1 = 1 := by decide
  have d : digs (1 / 2 ^ 0) = [1] := digs_small 1 (by decide) (by decide)
  have w : wrap64 (0 + ((0 : Nat) : Int)) = 0 := by unfold wrap64; decide
  unfold frm
  rw [show (1 : Int).natAbs = 1 from rfl, t, b, d, w, if_neg (by decide), if_pos (by decide)]
  rfl
theorem frm_3 : frm (decide ((3 : Int) < 0)) (3 : Int).natAbs 0 = some ⟨false, [3], 0⟩ := by
  have t : tzn 3 = 0 := tzn_odd _ (by decide)
  have b : bl 3 = 2 := by decide
  have d : digs (3 / 2 ^ 0) = [3] := digs_small 3 (by decide) (by decide)
  have w : wrap64 (0 + ((0 : Nat) : Int)) = 0 := by unfold wrap64; decide
  unfold frm
  rw [show (3 : Int).natAbs = 3 from rfl, t, b, d, w, if_neg (by decide), if_pos (by decide)]
  rfl
theorem addN_31 : addN ⟨true, [3], 0⟩ ⟨false, [1], 0⟩ = some ⟨true, [1], 1⟩ := by
  have e1 : nv [3] = 3 := by decide
  have e2 : nv [1] = 1 := by decide
  have b1 : bl 3 = 2 := by decide
  have b2 : bl 1 = 1 := by decide
  have t : tzn 2 = 1 := by rw [tzn_even 2 (by decide) (by decide), tzn_odd _ (by decide)]
  have b : bl 2 = 2 := by decide
  have d : digs (2 / 2 ^ 1) = [1] := digs_small 1 (by decide) (by decide)
  have w : wrap64 (min 0 0 + ((1 : Nat) : Int)) = 1 := by unfold wrap64; decide
  unfold addN tp tot frm
  dsimp only
  rw [e1, e2, b1, b2]
  have s : sg true (((3 : Nat) : Int) * 2 ^ ((0 : Int) - min 0 0).toNat) + sg false (((1 : Nat) : Int) * 2 ^ ((0 : Int) - min 0 0).toNat) = -2 := by decide
  rw [s, show (-2 : Int).natAbs = 2 from rfl, t, b, d, w, if_pos (by decide), if_neg (by decide), if_pos (by decide)]
  rfl
end Go.Proofs.YtbheglkpmgmkoaaDoor

namespace Go.Proofs.YtbheglkpmgmkoaaDoor
open Go.ChangeShapes Go.WideShapes Go.ChangeAt Go.RowKit
set_option linter.unusedVariables false
set_option linter.unusedSimpArgs false

theorem vldx : vld ⟨true, [3], 0⟩ = true := by decide +kernel
theorem own_one (w : World) (a : Int) : Own (w.alloc (.cells #[.int .i64 a] 3)) w.heap.size 1 [a] :=
  ⟨_, heap_alloc_new w _, Nat.le_refl _, by simp [maxLen], by simp, by simp⟩
theorem New.some {w0 w : World} {v : Value} {neg : Bool} {d : Int} {x : Int} (h : New w0 w v ⟨neg, [d], x⟩) : ∃ g cap, v = .agg #[.bool neg, .slice (some ⟨g, 0, none⟩) 1 cap, .int .i64 x] ∧ w0.heap.size ≤ g ∧ Own w g cap [d] := by
  rcases h with ⟨h, -⟩ | ⟨g, cap, e, hg, ho, -⟩
  · cases h
  · exact ⟨g, cap, e, hg, ho⟩

set_option maxHeartbeats 4000000 in
set_option maxRecDepth 100000 in
theorem alive_true (w : World) (hT : Tab w) : Calls Tryd.prog 8 #[] w fun e w' => e = .returned (.bool true) ∧ Kept w w' := by
  have HT : Hid (Tab w) := hT
  clear hT
  have hK0 : Kept w (w.alloc (.cells #[.int .i64 6] 3)) := (Kept.refl w).alloc _ _
  have KM : Hid (Calls Tryd.prog 26 #[.bool true, .slice (some ⟨w.heap.size, 0, none⟩) 1 1, .int .i64 (-1)] (w.alloc (.cells #[.int .i64 6] 3)) fun e w' => ∃ v, e = .returned (.tuple #[v, .int .i64 0]) ∧ New (w.alloc (.cells #[.int .i64 6] 3)) w' v ⟨true, [3], 0⟩ ∧ Kept (w.alloc (.cells #[.int .i64 6] 3)) w') := make_ok true [6] (Dg.cons (by decide) (by decide) Dg.nil) (by decide) (some ⟨w.heap.size, 0, none⟩) 1 (by simp) (-1) _ frm_6 _ (own_one w 6).sl (HT.out.kept hK0)
  go_enter Tryd.func8, Tryd.ntmps8
  go_wp2_with fail
  refine KM.out.mono ?_
  rintro e w1 ⟨v, rfl, hN, hk1⟩
  obtain ⟨g, cp, rfl, hg, ho⟩ := hN.some
  have HO : Hid (Own w1 g cp [3]) := ho
  have hk : Kept w w1 := hK0.trans hk1
  clear hN ho hg KM hK0 hk1
  have hK2 : Kept w1 (w1.alloc (.cells #[.bool true, .slice (some ⟨g, 0, none⟩) 1 cp, .int .i64 0] 24)) := (Kept.refl _).alloc _ _
  have HX2 : Hid (∀ u, Kept (w1.alloc (.cells #[.bool true, .slice (some ⟨g, 0, none⟩) 1 cp, .int .i64 0] 24)) u → Kept (w1.alloc (.cells #[.bool true, .slice (some ⟨g, 0, none⟩) 1 cp, .int .i64 0] 24)) u ∧ u.cell? ⟨w1.heap.size, 0, none⟩ = some (.bool true) ∧ u.cell? ⟨w1.heap.size, 1, none⟩ = some (.slice (some ⟨g, 0, none⟩) 1 cp) ∧ u.cell? ⟨w1.heap.size, 2, none⟩ = some (.int .i64 0)) := fun u k => ⟨k, (laid_cell k 0).trans (by simp [go_sem]), (laid_cell k 1).trans (by simp [go_sem]), (laid_cell k 2).trans (by simp [go_sem])⟩
  go_upto_region 2 with fail
  go_cut [3, 4] from 13 (fun t3 t4 wx => ∃ B g3 cp3, t3 = .pointer (some ⟨B, 0, none⟩) ∧ t4 = .int .i64 0 ∧ wx.cell? ⟨B, 0, none⟩ = some (.bool true) ∧ wx.cell? ⟨B, 1, none⟩ = some (.slice (some ⟨g3, 0, none⟩) 1 cp3) ∧ wx.cell? ⟨B, 2, none⟩ = some (.int .i64 1) ∧ B < wx.heap.size ∧ Own wx g3 cp3 [1] ∧ Kept (w1.alloc (.cells #[.bool true, .slice (some ⟨g, 0, none⟩) 1 cp, .int .i64 0] 24)) wx)
  case first =>
    refine wp_region_held_drew (S := fun u => Kept (w1.alloc (.cells #[.bool true, .slice (some ⟨g, 0, none⟩) 1 cp, .int .i64 0] 24)) u ∧ u.cell? ⟨w1.heap.size, 0, none⟩ = some (.bool true) ∧ u.cell? ⟨w1.heap.size, 1, none⟩ = some (.slice (some ⟨g, 0, none⟩) 1 cp) ∧ u.cell? ⟨w1.heap.size, 2, none⟩ = some (.int .i64 0)) (by kernel_rfl) (HX2.out _ (Kept.refl _).drew) (fun hHeld => ?_)
    refine wpAnyH_take (i := 0) (v := ?_) rfl (by kernel_rfl) (by kernel_rfl) (by kernel_rfl) (fun _ _ _ h => h) (Or.inl ⟨by rfl, ?hya0⟩) (by assumption) ?_
    case hya0 => (intro w hSw; (try dsimp only at hSw); go_simp; try (with_reducible rfl))
    simp only [Act.put, List.getElem_toArray, List.getElem_cons_succ, List.getElem_cons_zero, List.setIfInBounds_toArray, List.set_cons_zero, List.set_cons_succ]
    refine wpAnyH_ready (rs := [1, 6]) (by kernel_rfl) (by simp) ?_
    refine AllReadyH.cons rfl (fun K hK9 => ?_) (AllReadyH.cons rfl (fun K hK9 => ?_) AllReadyH.nil)
    · have hI := hHeld
      go_simp
      go_wp2_with fail
      refine (int_pos 1 (by decide) (by decide) _ frm_1 _ (HT.out.kept (hk.trans (hK2.trans hI.1)))).mono ?_
      rintro e w2 ⟨⟨v, rfl, hN2⟩, hk2⟩
      obtain ⟨g2, cp2, rfl, -, ho2⟩ := hN2.some
      refine hK9.out _ _ (HX2.out _ (hI.1.trans hk2)) (fun hHeld2 => ?_)
      clear hK9 K hN2
      refine wpAnyH_ready (rs := [2, 6]) (by kernel_rfl) (by simp) ?_
      refine AllReadyH.cons rfl (fun K hK9 => ?_) (AllReadyH.cons rfl (fun K hK9 => ?_) AllReadyH.nil)
      · have hA := hHeld2
        have oA := ho2
        go_simp
        go_wp2_with fail
        refine (add_ok _ (HT.out.kept (hk.trans (hK2.trans hA.1))) true [3] 0 (by decide) vldx (some ⟨g, 0, none⟩) cp false [1] 0 (by decide) vld1 (some ⟨g2, 0, none⟩) cp2 ((HO.out.kept (hK2.trans hA.1)).sl) oA.sl _ addN_31).mono ?_
        rintro e w3 ⟨v, rfl, hN3, hk3⟩
        obtain ⟨g3, cp3, rfl, hg3, ho3⟩ := hN3.some
        refine hK9.out _ _ (HX2.out _ (hA.1.trans hk3)) (fun hHeld3 => ?_)
        clear hK9 K hN3
        refine wpAnyH_take (i := 3) (v := ?_) rfl (by kernel_rfl) (by kernel_rfl) (by kernel_rfl) (fun _ _ _ h => h) (Or.inl ⟨by rfl, ?hyb3⟩) (by assumption) ?_
        case hyb3 => (intro w hSw; (try dsimp only at hSw); go_simp; try (with_reducible rfl))
        simp only [Act.put, List.getElem_toArray, List.getElem_cons_succ, List.getElem_cons_zero, List.setIfInBounds_toArray, List.set_cons_zero, List.set_cons_succ]
        refine wpAnyH_take (i := 4) (v := ?_) rfl (by kernel_rfl) (by kernel_rfl) (by kernel_rfl) (fun _ _ _ h => h) (Or.inl ⟨by rfl, ?hyb4⟩) (by assumption) ?_
        case hyb4 => (intro w hSw; (try dsimp only at hSw); go_simp; try (with_reducible rfl))
        simp only [Act.put, List.getElem_toArray, List.getElem_cons_succ, List.getElem_cons_zero, List.setIfInBounds_toArray, List.set_cons_zero, List.set_cons_succ]
        refine wpAnyH_take (i := 5) (v := ?_) rfl (by kernel_rfl) (by kernel_rfl) (by kernel_rfl) (fun _ _ _ h => h) (Or.inl ⟨by rfl, ?hyb5⟩) (by assumption) ?_
        case hyb5 => (intro w hSw; (try dsimp only at hSw); go_simp; try (with_reducible rfl))
        simp only [Act.put, List.getElem_toArray, List.getElem_cons_succ, List.getElem_cons_zero, List.setIfInBounds_toArray, List.set_cons_zero, List.set_cons_succ]
        refine wpAnyH_ready (rs := [6]) (by kernel_rfl) (by simp) ?_
        refine AllReadyH.cons rfl (fun K hK9 => ?_) AllReadyH.nil
        go_simp
        refine hK9.out _ _ (HX2.out _ (hHeld3.1.alloc _ _)) (fun hHeld4 => ?_)
        clear hK9 K
        have HB : (w1.alloc (.cells #[.bool true, .slice (some ⟨g, 0, none⟩) 1 cp, .int .i64 0] 24)).heap.size ≤ w3.heap.size := hHeld3.1.below.size
        have b0 : (w3.alloc nilNum).cell? ⟨w3.heap.size, 0, none⟩ = some (.bool false) := by simp [go_sem]
        have b1 : (w3.alloc nilNum).cell? ⟨w3.heap.size, 1, none⟩ = some (.slice none 0 0) := by simp [go_sem]
        have b2 : (w3.alloc nilNum).cell? ⟨w3.heap.size, 2, none⟩ = some (.int .i64 0) := by simp [go_sem]
        have hl3 := ho3.lt
        refine wpAnyH_ready (rs := [7]) (by kernel_rfl) (by simp) ?_
        refine AllReadyH.cons rfl (fun K hK9 => ?_) AllReadyH.nil
        go_simp
        have kF := hHeld3.1.alloc #[.bool true, .slice (some ⟨g3, 0, none⟩) 1 cp3, .int .i64 1] 24
        refine hK9.out _ _ (HX2.out _ kF) (fun hHeld9 => ?_)
        clear hK9 K
        refine wpAnyH_take (i := 8) (v := ?_) rfl (by kernel_rfl) (by kernel_rfl) (by kernel_rfl) (fun _ _ _ h => h) (Or.inl ⟨by rfl, ?hyc8⟩) (by assumption) ?_
        case hyc8 => (intro w hSw; (try dsimp only at hSw); go_simp; try (with_reducible rfl))
        simp only [Act.put, List.getElem_toArray, List.getElem_cons_succ, List.getElem_cons_zero, List.setIfInBounds_toArray, List.set_cons_zero, List.set_cons_succ]
        refine wpAnyH_done (by kernel_rfl) ?_ _
        (try simp only [List.getElem_toArray, List.getElem_cons_succ, List.getElem_cons_zero, List.setIfInBounds_toArray, List.set_cons_zero, List.set_cons_succ])
        go_wp2_with fail
        go_meet
        case rel => exact ⟨w3.heap.size, g3, cp3, rfl, rfl, by simp [go_sem], by simp [go_sem], by simp [go_sem], by simp, ho3.kept ((Kept.refl w3).alloc _ _), kF⟩
      · go_simp
        refine hK9.out _ _ (HX2.out _ (hHeld2.1.alloc _ _)) (fun hA => ?_)
        clear hK9 K
        have oA := ho2.kept ((Kept.refl w2).alloc #[.bool false, .slice none 0 0, .int .i64 0] 24)
        refine wpAnyH_ready (rs := [2]) (by kernel_rfl) (by simp) ?_
        refine AllReadyH.cons rfl (fun K hK9 => ?_) AllReadyH.nil
        go_simp
        go_wp2_with fail
        refine (add_ok _ (HT.out.kept (hk.trans (hK2.trans hA.1))) true [3] 0 (by decide) vldx (some ⟨g, 0, none⟩) cp false [1] 0 (by decide) vld1 (some ⟨g2, 0, none⟩) cp2 ((HO.out.kept (hK2.trans hA.1)).sl) oA.sl _ addN_31).mono ?_
        rintro e w3 ⟨v, rfl, hN3, hk3⟩
        obtain ⟨g3, cp3, rfl, hg3, ho3⟩ := hN3.some
        refine hK9.out _ _ (HX2.out _ (hA.1.trans hk3)) (fun hHeld3 => ?_)
        clear hK9 K hN3
        refine wpAnyH_take (i := 3) (v := ?_) rfl (by kernel_rfl) (by kernel_rfl) (by kernel_rfl) (fun _ _ _ h => h) (Or.inl ⟨by rfl, ?hyd3⟩) (by assumption) ?_
        case hyd3 => (intro w hSw; (try dsimp only at hSw); go_simp; try (with_reducible rfl))
        simp only [Act.put, List.getElem_toArray, List.getElem_cons_succ, List.getElem_cons_zero, List.setIfInBounds_toArray, List.set_cons_zero, List.set_cons_succ]
        refine wpAnyH_take (i := 4) (v := ?_) rfl (by kernel_rfl) (by kernel_rfl) (by kernel_rfl) (fun _ _ _ h => h) (Or.inl ⟨by rfl, ?hyd4⟩) (by assumption) ?_
        case hyd4 => (intro w hSw; (try dsimp only at hSw); go_simp; try (with_reducible rfl))
        simp only [Act.put, List.getElem_toArray, List.getElem_cons_succ, List.getElem_cons_zero, List.setIfInBounds_toArray, List.set_cons_zero, List.set_cons_succ]
        refine wpAnyH_take (i := 5) (v := ?_) rfl (by kernel_rfl) (by kernel_rfl) (by kernel_rfl) (fun _ _ _ h => h) (Or.inl ⟨by rfl, ?hyd5⟩) (by assumption) ?_
        case hyd5 => (intro w hSw; (try dsimp only at hSw); go_simp; try (with_reducible rfl))
        simp only [Act.put, List.getElem_toArray, List.getElem_cons_succ, List.getElem_cons_zero, List.setIfInBounds_toArray, List.set_cons_zero, List.set_cons_succ]
        have b0 : w3.cell? ⟨w2.heap.size, 0, none⟩ = some (.bool false) := (laid_cell hk3 0).trans (by simp [go_sem])
        have b1 : w3.cell? ⟨w2.heap.size, 1, none⟩ = some (.slice none 0 0) := (laid_cell hk3 1).trans (by simp [go_sem])
        have b2 : w3.cell? ⟨w2.heap.size, 2, none⟩ = some (.int .i64 0) := (laid_cell hk3 2).trans (by simp [go_sem])
        have bf : ∀ o, w3.frozen? ⟨w2.heap.size, o, none⟩ = false := fun o => (hk3.frozen _).trans (by simp [go_sem])
        have HB : (w1.alloc (.cells #[.bool true, .slice (some ⟨g, 0, none⟩) 1 cp, .int .i64 0] 24)).heap.size ≤ w2.heap.size := hHeld2.1.below.size
        have hl3 := ho3.lt
        have hll := hk3.below.size
        try simp only [World.size_alloc] at hll hg3
        refine wpAnyH_ready (rs := [7]) (by kernel_rfl) (by simp) ?_
        refine AllReadyH.cons rfl (fun K hK9 => ?_) AllReadyH.nil
        go_simp
        have kF := (hHeld3.1).setCell (p := ⟨w2.heap.size, 0, none⟩) HB (.bool true) |>.setCell (p := ⟨w2.heap.size, 1, none⟩) HB (.slice (some ⟨g3, 0, none⟩) 1 cp3) |>.setCell (p := ⟨w2.heap.size, 2, none⟩) HB (.int .i64 1)
        refine hK9.out _ _ (HX2.out _ kF) (fun hHeld9 => ?_)
        clear hK9 K
        refine wpAnyH_take (i := 8) (v := ?_) rfl (by kernel_rfl) (by kernel_rfl) (by kernel_rfl) (fun _ _ _ h => h) (Or.inl ⟨by rfl, ?hye8⟩) (by assumption) ?_
        case hye8 => (intro w hSw; (try dsimp only at hSw); go_simp; try (with_reducible rfl))
        simp only [Act.put, List.getElem_toArray, List.getElem_cons_succ, List.getElem_cons_zero, List.setIfInBounds_toArray, List.set_cons_zero, List.set_cons_succ]
        refine wpAnyH_done (by kernel_rfl) ?_ _
        (try simp only [List.getElem_toArray, List.getElem_cons_succ, List.getElem_cons_zero, List.setIfInBounds_toArray, List.set_cons_zero, List.set_cons_succ])
        go_wp2_with fail
        go_meet
        case rel => exact ⟨w2.heap.size, g3, cp3, rfl, rfl, by simp [go_sem, b0, b1, b2], by simp [go_sem, b0, b1, b2], by simp [go_sem, b0, b1, b2], by simp; omega, (((ho3).setOther (by simp; omega) _).setOther (by simp; omega) _).setOther (by simp; omega) _, kF⟩
    · go_simp
      refine hK9.out _ _ (HX2.out _ (hHeld.1.alloc _ _)) (fun hI => ?_)
      clear hK9 K
      refine wpAnyH_ready (rs := [1]) (by kernel_rfl) (by simp) ?_
      refine AllReadyH.cons rfl (fun K hK9 => ?_) AllReadyH.nil
      go_simp
      go_wp2_with fail
      refine (int_pos 1 (by decide) (by decide) _ frm_1 _ (HT.out.kept (hk.trans (hK2.trans hI.1)))).mono ?_
      rintro e w2 ⟨⟨v, rfl, hN2⟩, hk2⟩
      obtain ⟨g2, cp2, rfl, -, ho2⟩ := hN2.some
      refine hK9.out _ _ (HX2.out _ (hI.1.trans hk2)) (fun hHeld2 => ?_)
      clear hK9 K hN2
      refine wpAnyH_ready (rs := [2]) (by kernel_rfl) (by simp) ?_
      refine AllReadyH.cons rfl (fun K hK9 => ?_) AllReadyH.nil
      have hA := hHeld2
      have oA := ho2
      go_simp
      go_wp2_with fail
      refine (add_ok _ (HT.out.kept (hk.trans (hK2.trans hA.1))) true [3] 0 (by decide) vldx (some ⟨g, 0, none⟩) cp false [1] 0 (by decide) vld1 (some ⟨g2, 0, none⟩) cp2 ((HO.out.kept (hK2.trans hA.1)).sl) oA.sl _ addN_31).mono ?_
      rintro e w3 ⟨v, rfl, hN3, hk3⟩
      obtain ⟨g3, cp3, rfl, hg3, ho3⟩ := hN3.some
      refine hK9.out _ _ (HX2.out _ (hA.1.trans hk3)) (fun hHeld3 => ?_)
      clear hK9 K hN3
      refine wpAnyH_take (i := 3) (v := ?_) rfl (by kernel_rfl) (by kernel_rfl) (by kernel_rfl) (fun _ _ _ h => h) (Or.inl ⟨by rfl, ?hyf3⟩) (by assumption) ?_
      case hyf3 => (intro w hSw; (try dsimp only at hSw); go_simp; try (with_reducible rfl))
      simp only [Act.put, List.getElem_toArray, List.getElem_cons_succ, List.getElem_cons_zero, List.setIfInBounds_toArray, List.set_cons_zero, List.set_cons_succ]
      refine wpAnyH_take (i := 4) (v := ?_) rfl (by kernel_rfl) (by kernel_rfl) (by kernel_rfl) (fun _ _ _ h => h) (Or.inl ⟨by rfl, ?hyf4⟩) (by assumption) ?_
      case hyf4 => (intro w hSw; (try dsimp only at hSw); go_simp; try (with_reducible rfl))
      simp only [Act.put, List.getElem_toArray, List.getElem_cons_succ, List.getElem_cons_zero, List.setIfInBounds_toArray, List.set_cons_zero, List.set_cons_succ]
      refine wpAnyH_take (i := 5) (v := ?_) rfl (by kernel_rfl) (by kernel_rfl) (by kernel_rfl) (fun _ _ _ h => h) (Or.inl ⟨by rfl, ?hyf5⟩) (by assumption) ?_
      case hyf5 => (intro w hSw; (try dsimp only at hSw); go_simp; try (with_reducible rfl))
      simp only [Act.put, List.getElem_toArray, List.getElem_cons_succ, List.getElem_cons_zero, List.setIfInBounds_toArray, List.set_cons_zero, List.set_cons_succ]
      have hk23 := hk2.trans hk3
      have b0 : w3.cell? ⟨w1.heap.size + 1, 0, none⟩ = some (.bool false) := (hk23.below.cell (p := ⟨w1.heap.size + 1, 0, none⟩) (by simp)).trans (by simp [go_sem])
      have b1 : w3.cell? ⟨w1.heap.size + 1, 1, none⟩ = some (.slice none 0 0) := (hk23.below.cell (p := ⟨w1.heap.size + 1, 1, none⟩) (by simp)).trans (by simp [go_sem])
      have b2 : w3.cell? ⟨w1.heap.size + 1, 2, none⟩ = some (.int .i64 0) := (hk23.below.cell (p := ⟨w1.heap.size + 1, 2, none⟩) (by simp)).trans (by simp [go_sem])
      have bf : ∀ o, w3.frozen? ⟨w1.heap.size + 1, o, none⟩ = false := fun o => (hk23.frozen _).trans (by simp [go_sem])
      have HB : (w1.alloc (.cells #[.bool true, .slice (some ⟨g, 0, none⟩) 1 cp, .int .i64 0] 24)).heap.size ≤ w1.heap.size + 1 := by simp
      have hl3 := ho3.lt
      have hll := hk2.below.size
      have hlm := hk3.below.size
      try simp only [World.size_alloc] at hll hg3
      have hle : w1.heap.size + 2 ≤ w2.heap.size := by simpa using hll
      refine wpAnyH_ready (rs := [7]) (by kernel_rfl) (by simp) ?_
      refine AllReadyH.cons rfl (fun K hK9 => ?_) AllReadyH.nil
      go_simp
      have kF := (hHeld3.1).setCell (p := ⟨w1.heap.size + 1, 0, none⟩) HB (.bool true) |>.setCell (p := ⟨w1.heap.size + 1, 1, none⟩) HB (.slice (some ⟨g3, 0, none⟩) 1 cp3) |>.setCell (p := ⟨w1.heap.size + 1, 2, none⟩) HB (.int .i64 1)
      refine hK9.out _ _ (HX2.out _ kF) (fun hHeld9 => ?_)
      clear hK9 K
      refine wpAnyH_take (i := 8) (v := ?_) rfl (by kernel_rfl) (by kernel_rfl) (by kernel_rfl) (fun _ _ _ h => h) (Or.inl ⟨by rfl, ?hyg8⟩) (by assumption) ?_
      case hyg8 => (intro w hSw; (try dsimp only at hSw); go_simp; try (with_reducible rfl))
      simp only [Act.put, List.getElem_toArray, List.getElem_cons_succ, List.getElem_cons_zero, List.setIfInBounds_toArray, List.set_cons_zero, List.set_cons_succ]
      refine wpAnyH_done (by kernel_rfl) ?_ _
      (try simp only [List.getElem_toArray, List.getElem_cons_succ, List.getElem_cons_zero, List.setIfInBounds_toArray, List.set_cons_zero, List.set_cons_succ])
      go_wp2_with fail
      go_meet
      case rel => exact ⟨w1.heap.size + 1, g3, cp3, rfl, rfl, by simp [go_sem, b0, b1, b2], by simp [go_sem, b0, b1, b2], by simp [go_sem, b0, b1, b2], by simp; omega, (((ho3).setOther (by simp; omega) _).setOther (by simp; omega) _).setOther (by simp; omega) _, kF⟩
  case rest =>
    obtain ⟨B, g3, cp3, rfl, rfl, s0, s1, s2, hB, ho3, hkx⟩ := hcut
    have HO3 : Hid (Own wc g3 cp3 [1]) := ho3
    have hkw : Kept w wc := hk.trans (hK2.trans hkx)
    clear ho3
    go_wp2_with fail
    refine (int_pos 1 (by decide) (by decide) _ frm_1 _ (HT.out.kept hkw)).mono ?_
    rintro e v1 ⟨⟨v, rfl, hN1⟩, hv1⟩
    obtain ⟨ga, ca, rfl, -, hoa⟩ := hN1.some
    have HA : Hid (Own v1 ga ca [1]) := hoa
    clear hN1 hoa
    go_wp2_with fail
    refine (int_pos 3 (by decide) (by decide) _ frm_3 _ (HT.out.kept (hkw.trans hv1))).mono ?_
    rintro e v2 ⟨⟨v, rfl, hN2⟩, hv2⟩
    obtain ⟨gb, cb, rfl, -, hob⟩ := hN2.some
    have HB : Hid (Own v2 gb cb [3]) := hob
    clear hN2 hob
    go_wp2_with fail
    refine (quot_third (some ⟨ga, 0, none⟩) (some ⟨gb, 0, none⟩) ca cb v2 ((HA.out.kept hv2).sl) HB.out.sl (HT.out.kept (hkw.trans (hv1.trans hv2)))).mono ?_
    rintro e v3 ⟨rfl, hv3⟩
    have h13 := hv1.trans (hv2.trans hv3)
    have c0 := (h13.below.cell (p := ⟨B, 0, none⟩) hB).trans s0
    have c1 := (h13.below.cell (p := ⟨B, 1, none⟩) hB).trans s1
    have c2 := (h13.below.cell (p := ⟨B, 2, none⟩) hB).trans s2
    obtain ⟨-, d0, d1, d2⟩ := HX2.out _ (hkx.trans h13)
    have hBv : B < v3.heap.size := Nat.lt_of_lt_of_le hB h13.below.size
    have HO3' : Hid (Own v3 g3 cp3 [1]) := HO3.out.kept h13
    have HO' : Hid (Own v3 g cp [3]) := HO.out.kept (hK2.trans (hkx.trans h13))
    have hkv : Kept w v3 := hkw.trans h13
    have S0 : Hid (∀ u, Kept v3 u → u.cell? ⟨B, 0, none⟩ = some (.bool true) ∧ u.cell? ⟨B, 1, none⟩ = some (.slice (some ⟨g3, 0, none⟩) 1 cp3) ∧ u.cell? ⟨B, 2, none⟩ = some (.int .i64 1)) := fun u k => ⟨(k.below.cell (p := ⟨B, 0, none⟩) hBv).trans c0, (k.below.cell (p := ⟨B, 1, none⟩) hBv).trans c1, (k.below.cell (p := ⟨B, 2, none⟩) hBv).trans c2⟩
    clear s0 s1 s2 c0 c1 c2
    go_wp2_with fail
    refine (sameNum_true ⟨true, [3], 0⟩ (by decide) _ _ _ ⟨_, rfl, (HO'.out.kept ((Kept.refl v3).alloc _ _)).sl⟩ ⟨_, rfl, (own_one v3 3).sl⟩).mono ?_
    rintro e v4 ⟨rfl, hv4⟩
    have h34 : Kept v3 v4 := ((Kept.refl v3).alloc _ _).trans hv4
    clear d0 d1 d2
    obtain ⟨c0, c1, c2⟩ := S0.out _ h34
    go_wp2_with fail
    refine (sameNum_true ⟨true, [1], 1⟩ (by decide) _ _ _ ⟨_, rfl, (HO3'.out.kept (h34.alloc _ _)).sl⟩ ⟨_, rfl, (own_one v4 1).sl⟩).mono ?_
    rintro e v5 ⟨rfl, hv5⟩
    go_wp2
    go_ret
    exact ⟨rfl, hkv.trans ((h34.alloc _ _).trans hv5)⟩
end Go.Proofs.YtbheglkpmgmkoaaDoor
