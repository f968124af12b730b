/- The walk of exact's Quot at 1 by 3. A few values: 6 by 2, 1, 3, and 1 - 3. The walk of the laws' own test of life. -/
import Derived.Test.YtalhnaakbekboaaDoorV24
import Derived.Test.YtalhnaakbekboaaDoorV28
import Derived.Test.YtalhnaakbekboaaDoorV30
import Derived.Test.YtalhnaakbekboaaDoorV19
import Derived.Test.YtalhnaakbekboaaDoorV16
import Derived.Deep.Cut
namespace Go.Proofs.YtalhnaakbekboaaDoor
open Go.ChangeShapes Go.WideShapes Go.ChangeAt Go.RowKit
set_option linter.unusedVariables false
set_option linter.unusedSimpArgs false

theorem vld1 : vld ⟨false, [1], 0⟩ = true := by decide +kernel
theorem vld3 : vld ⟨false, [3], 0⟩ = true := by decide +kernel

set_option maxHeartbeats 4000000 in
set_option maxRecDepth 100000 in
theorem quot_third (a b : Option Addr) (c d : Nat) (w : World) (h1 : Sl w (.slice a 1 c) [1]) (h2 : Sl w (.slice b 1 d) [3]) (hT : Tab w) : Calls Tryd.prog 72 #[.agg #[.bool false, .slice a 1 c, .int .i64 0], .agg #[.bool false, .slice b 1 d, .int .i64 0], .int .i64 64, .int .i64 0] w fun e w' => e = .returned (.tuple #[.int .i64 4599676419421066581, .bool true, .int .i64 0]) ∧ Kept w w' := by
  have hK : Kept w (((w.alloc (.cells #[.bool false, .slice a 1 c, .int .i64 0] 26)).alloc (.cells #[.bool false, .slice b 1 d, .int .i64 0] 26)).alloc (.cells (pairC false (.slice a 1 c) 0 false (.slice b 1 d) 0) 26)) := (((Kept.refl w).alloc _ _).alloc _ _).alloc _ _
  have KR : Hid (Calls Tryd.prog 69 #[.int .i64 64, .int .i64 0, .slice (some ⟨w.heap.size + 2, 0, none⟩) 2 2] (((w.alloc (.cells #[.bool false, .slice a 1 c, .int .i64 0] 26)).alloc (.cells #[.bool false, .slice b 1 d, .int .i64 0] 26)).alloc (.cells (pairC false (.slice a 1 c) 0 false (.slice b 1 d) 0) 26)) fun e w' => e = .returned (.tuple #[round64, .int .i64 0]) ∧ Kept (((w.alloc (.cells #[.bool false, .slice a 1 c, .int .i64 0] 26)).alloc (.cells #[.bool false, .slice b 1 d, .int .i64 0] 26)).alloc (.cells (pairC false (.slice a 1 c) 0 false (.slice b 1 d) 0) 26)) w') := by
    refine roundingOf_64 _ _ (fun u k => ?_)
    have hb : w.heap.size + 2 < (((w.alloc (.cells #[.bool false, .slice a 1 c, .int .i64 0] 26)).alloc (.cells #[.bool false, .slice b 1 d, .int .i64 0] 26)).alloc (.cells (pairC false (.slice a 1 c) 0 false (.slice b 1 d) 0) 26)).heap.size := by simp
    have := allValid_2 u (w.heap.size + 2) 2 false false a b 1 c 1 d 0 0 true true (Nat.lt_of_lt_of_le hb k.below.size) ((k.below.cell (p := ⟨w.heap.size + 2, 0, none⟩) hb).trans (by simp [go_sem])) ((k.below.cell (p := ⟨w.heap.size + 2, 1, none⟩) hb).trans (by simp [go_sem])) ((k.below.cell (p := ⟨w.heap.size + 2, 2, none⟩) hb).trans (by simp [go_sem])) ((k.below.cell (p := ⟨w.heap.size + 2, 3, none⟩) hb).trans (by simp [go_sem])) ((k.below.cell (p := ⟨w.heap.size + 2, 4, none⟩) hb).trans (by simp [go_sem])) ((k.below.cell (p := ⟨w.heap.size + 2, 5, none⟩) hb).trans (by simp [go_sem])) (fun v kv => ?_) (fun v kv => ?_)
    · exact this
    · have := xvalid_any ⟨false, [1], 0⟩ (Dg.rg (Dg.cons (by decide) (by decide) Dg.nil)) (by decide) (.agg #[.bool false, .slice a 1 c, .int .i64 0]) v ⟨_, rfl, ((h1.kept hK).kept k).kept kv⟩
      rw [vld1] at this
      exact this
    · have := xvalid_any ⟨false, [3], 0⟩ (Dg.rg (Dg.cons (by decide) (by decide) Dg.nil)) (by decide) (.agg #[.bool false, .slice b 1 d, .int .i64 0]) v ⟨_, rfl, ((h2.kept hK).kept k).kept kv⟩
      rw [vld3] at this
      exact this
  have KQ : Hid (∀ u, Kept w u → Calls Tryd.prog 91 #[.agg #[.bool false, .slice a 1 c, .int .i64 0], .agg #[.bool false, .slice b 1 d, .int .i64 0]] u fun e w' => e = .returned third ∧ Kept u w') := fun u k => quotient_third a b c d u (h1.kept k) (h2.kept k)
  have HT : Hid (Tab w) := hT
  clear h1 h2 hT
  go_enter Tryd.func72, Tryd.ntmps72
  go_wp2_with fail
  refine KR.out.mono ?_
  rintro e w1 ⟨rfl, hk1⟩
  have HS : Hid (∀ u, Kept (w1.alloc (.cells #[.int .i64 64, .int .i64 53, .int .i64 (-1074), .int .i64 9218868437227405312, .func (.func 102) #[] #[]] 111)) u → u.cell? ⟨w1.heap.size, 0, none⟩ = some (.int .i64 64) ∧ u.cell? ⟨w1.heap.size, 1, none⟩ = some (.int .i64 53) ∧ u.cell? ⟨w1.heap.size, 2, none⟩ = some (.int .i64 (-1074)) ∧ u.cell? ⟨w1.heap.size, 3, none⟩ = some (.int .i64 9218868437227405312) ∧ u.cell? ⟨w1.heap.size, 4, none⟩ = some (.func (.func 102) #[] #[]) ∧ u.cell? ⟨w.heap.size, 0, none⟩ = some (.bool false) ∧ u.cell? ⟨w.heap.size, 1, none⟩ = some (.slice a 1 c) ∧ u.cell? ⟨w.heap.size, 2, none⟩ = some (.int .i64 0) ∧ u.cell? ⟨w.heap.size + 1, 0, none⟩ = some (.bool false) ∧ u.cell? ⟨w.heap.size + 1, 1, none⟩ = some (.slice b 1 d) ∧ u.cell? ⟨w.heap.size + 1, 2, none⟩ = some (.int .i64 0)) := fun u k => ⟨(laid_cell k 0).trans (by simp [go_sem]), (laid_cell k 1).trans (by simp [go_sem]), (laid_cell k 2).trans (by simp [go_sem]), (laid_cell k 3).trans (by simp [go_sem]), (laid_cell k 4).trans (by simp [go_sem]), ((hk1.trans ((Kept.refl w1).alloc _ _ |>.trans k)).below.cell (p := ⟨w.heap.size, 0, none⟩) (by simp <;> omega)).trans (by simp [go_sem]), ((hk1.trans ((Kept.refl w1).alloc _ _ |>.trans k)).below.cell (p := ⟨w.heap.size, 1, none⟩) (by simp <;> omega)).trans (by simp [go_sem]), ((hk1.trans ((Kept.refl w1).alloc _ _ |>.trans k)).below.cell (p := ⟨w.heap.size, 2, none⟩) (by simp <;> omega)).trans (by simp [go_sem]), ((hk1.trans ((Kept.refl w1).alloc _ _ |>.trans k)).below.cell (p := ⟨w.heap.size + 1, 0, none⟩) (by simp <;> omega)).trans (by simp [go_sem]), ((hk1.trans ((Kept.refl w1).alloc _ _ |>.trans k)).below.cell (p := ⟨w.heap.size + 1, 1, none⟩) (by simp <;> omega)).trans (by simp [go_sem]), ((hk1.trans ((Kept.refl w1).alloc _ _ |>.trans k)).below.cell (p := ⟨w.heap.size + 1, 2, none⟩) (by simp <;> omega)).trans (by simp [go_sem])⟩
  have hsz : w.heap.size + 3 ≤ w1.heap.size := by have := hk1.below.size; simpa using this
  have s0 := HS.out _ (Kept.refl _)
  obtain ⟨x0, x1, x2, x3, x4, x5, x6, x7, x8, x9, xx⟩ := s0
  go_wp2_with fail
  refine (signOf_any false b 1 d 0 _).mono ?_
  rintro e w2 ⟨rfl, hk2⟩
  have s1 := HS.out _ hk2
  clear x0 x1 x2 x3 x4 x5 x6 x7 x8 x9 xx
  have hkk : Kept w w2 := hK.trans (hk1.trans (((Kept.refl w1).alloc _ _).trans hk2))
  go_wp2
  refine wp_region_held_drew (S := fun u => u.cell? ⟨w1.heap.size, 0, none⟩ = some (.int .i64 64) ∧ u.cell? ⟨w1.heap.size, 1, none⟩ = some (.int .i64 53) ∧ u.cell? ⟨w1.heap.size, 2, none⟩ = some (.int .i64 (-1074)) ∧ u.cell? ⟨w1.heap.size, 3, none⟩ = some (.int .i64 9218868437227405312) ∧ u.cell? ⟨w1.heap.size, 4, none⟩ = some (.func (.func 102) #[] #[]) ∧ u.cell? ⟨w.heap.size, 0, none⟩ = some (.bool false) ∧ u.cell? ⟨w.heap.size, 1, none⟩ = some (.slice a 1 c) ∧ u.cell? ⟨w.heap.size, 2, none⟩ = some (.int .i64 0) ∧ u.cell? ⟨w.heap.size + 1, 0, none⟩ = some (.bool false) ∧ u.cell? ⟨w.heap.size + 1, 1, none⟩ = some (.slice b 1 d) ∧ u.cell? ⟨w.heap.size + 1, 2, none⟩ = some (.int .i64 0)) (by kernel_rfl) (HS.out _ hk2.drew) (fun hHeld => ?_)
  refine wpAnyH_take (i := 0) (v := ?_) rfl (by kernel_rfl) (by kernel_rfl) (by kernel_rfl) (fun _ _ _ h => h) (Or.inl ⟨by rfl, ?hya0⟩) (by assumption) ?_
  case hya0 => (intro w hSw; (try dsimp only at hSw); go_simp; try (with_reducible rfl))
  simp only [Act.put, List.getElem_toArray, List.getElem_cons_succ, List.getElem_cons_zero, List.setIfInBounds_toArray, List.set_cons_zero, List.set_cons_succ]
  refine wpAnyH_take (i := 1) (v := ?_) rfl (by kernel_rfl) (by kernel_rfl) (by kernel_rfl) (fun _ _ _ h => h) (Or.inl ⟨by rfl, ?hya1⟩) (by assumption) ?_
  case hya1 => (intro w hSw; (try dsimp only at hSw); go_simp; try (with_reducible rfl))
  simp only [Act.put, List.getElem_toArray, List.getElem_cons_succ, List.getElem_cons_zero, List.setIfInBounds_toArray, List.set_cons_zero, List.set_cons_succ]
  refine wpAnyH_take (i := 2) (v := ?_) rfl (by kernel_rfl) (by kernel_rfl) (by kernel_rfl) (fun _ _ _ h => h) (Or.inl ⟨by rfl, ?hya2⟩) (by assumption) ?_
  case hya2 => (intro w hSw; (try dsimp only at hSw); go_simp; try (with_reducible rfl))
  simp only [Act.put, List.getElem_toArray, List.getElem_cons_succ, List.getElem_cons_zero, List.setIfInBounds_toArray, List.set_cons_zero, List.set_cons_succ]
  refine wpAnyH_ready (rs := [3]) (by kernel_rfl) (by simp) ?_
  refine AllReadyH.cons rfl (fun K hK9 => ?_) AllReadyH.nil
  go_simp
  go_wp2_with (first | (go_at_call 91; refine (KQ.out _ hkk.drew).mono ?_; rintro e w3 ⟨rfl, hk3⟩))
  refine hK9.out _ _ (HS.out _ (hk2.drew.trans hk3)) (fun hHeld2 => ?_)
  clear hK9 K hHeld
  refine wpAnyH_ready (rs := [4]) (by kernel_rfl) (by simp) ?_
  refine AllReadyH.cons rfl (fun K hK9 => ?_) AllReadyH.nil
  go_simp
  go_wp2_with (first | (go_at_call 70; refine (round_third _ (HT.out.kept (hkk.drew.trans hk3))).mono ?_; rintro e w4 ⟨rfl, hk4⟩))
  refine hK9.out _ _ (HS.out _ (hk2.drew.trans (hk3.trans hk4))) (fun hHeld => ?_)
  clear hK9 K hHeld2
  refine wpAnyH_take (i := 5) (v := ?_) rfl (by kernel_rfl) (by kernel_rfl) (by kernel_rfl) (fun _ _ _ h => h) (Or.inl ⟨by rfl, ?hyb5⟩) (by assumption) ?_
  case hyb5 => (intro w hSw; (try dsimp only at hSw); go_simp; try (with_reducible rfl))
  simp only [Act.put, List.getElem_toArray, List.getElem_cons_succ, List.getElem_cons_zero, List.setIfInBounds_toArray, List.set_cons_zero, List.set_cons_succ]
  refine wpAnyH_take (i := 6) (v := ?_) rfl (by kernel_rfl) (by kernel_rfl) (by kernel_rfl) (fun _ _ _ h => h) (Or.inl ⟨by rfl, ?hyb6⟩) (by assumption) ?_
  case hyb6 => (intro w hSw; (try dsimp only at hSw); go_simp; try (with_reducible rfl))
  simp only [Act.put, List.getElem_toArray, List.getElem_cons_succ, List.getElem_cons_zero, List.setIfInBounds_toArray, List.set_cons_zero, List.set_cons_succ]
  refine wpAnyH_take (i := 7) (v := ?_) rfl (by kernel_rfl) (by kernel_rfl) (by kernel_rfl) (fun _ _ _ h => h) (Or.inl ⟨by rfl, ?hyb7⟩) (by assumption) ?_
  case hyb7 => (intro w hSw; (try dsimp only at hSw); go_simp; try (with_reducible rfl))
  simp only [Act.put, List.getElem_toArray, List.getElem_cons_succ, List.getElem_cons_zero, List.setIfInBounds_toArray, List.set_cons_zero, List.set_cons_succ]
  refine wpAnyH_take (i := 8) (v := ?_) rfl (by kernel_rfl) (by kernel_rfl) (by kernel_rfl) (fun _ _ _ h => h) (Or.inl ⟨by rfl, ?hyb8⟩) (by assumption) ?_
  case hyb8 => (intro w hSw; (try dsimp only at hSw); go_simp; try (with_reducible rfl))
  simp only [Act.put, List.getElem_toArray, List.getElem_cons_succ, List.getElem_cons_zero, List.setIfInBounds_toArray, List.set_cons_zero, List.set_cons_succ]
  refine wpAnyH_take (i := 9) (v := ?_) rfl (by kernel_rfl) (by kernel_rfl) (by kernel_rfl) (fun _ _ _ h => h) (Or.inl ⟨by rfl, ?hyb9⟩) (by assumption) ?_
  case hyb9 => (intro w hSw; (try dsimp only at hSw); go_simp; try (with_reducible rfl))
  simp only [Act.put, List.getElem_toArray, List.getElem_cons_succ, List.getElem_cons_zero, List.setIfInBounds_toArray, List.set_cons_zero, List.set_cons_succ]
  refine wpAnyH_done (by kernel_rfl) ?_ _
  clear hHeld
  go_wp2
  refine bodyPost_ret (v := .tuple #[.int .i64 4599676419421066581, .bool true, .int .i64 0]) (by simp [results, Tryd.results72, go_sem]) rfl ⟨rfl, hkk.drew.trans (hk3.trans hk4)⟩
end Go.Proofs.YtalhnaakbekboaaDoor

namespace Go.Proofs.YtalhnaakbekboaaDoor
open Go.RowKit

theorem digs_small (n : Nat) (h0 : n ≠ 0) (h : n < 1073741824) : digs n = [(n : Int)] := by
  rw [digs_pos n h0, Nat.mod_eq_of_lt h, Nat.div_eq_of_lt h, digs_zero]
theorem frm_6 : frm true (nv [6]) (-1) = some ⟨true, [3], 0⟩ := by
  have e : nv [6] = 6 := by decide
  have t : tzn 6 = 1 := by rw [tzn_even 6 (by decide) (by decide), tzn_odd _ (by decide)]
  have b : bl 6 = 3 := by decide
  have d : digs (6 / 2 ^ 1) = [3] := digs_small 3 (by decide) (by decide)
  have w : wrap64 (-1 + ((1 : Nat) : Int)) = 0 := by unfold wrap64; decide
  unfold frm
  rw [e, t, b, d, w, if_neg (by decide), if_pos (by decide)]
theorem frm_1 : frm (decide ((1 : Int) < 0)) (1 : Int).natAbs 0 = some ⟨false, [1], 0⟩ := by
  have t : tzn 1 = 0 := tzn_odd _ (by decide)
  have b : bl 1 = 1 := by decide
  have d : digs (1 / 2 ^ 0) = [1] := digs_small 1 (by decide) (by decide)
  have w : wrap64 (0 + ((0 : Nat) : Int)) = 0 := by unfold wrap64; decide
  unfold frm
  rw [show (1 : Int).natAbs = 1 from rfl, t, b, d, w, if_neg (by decide), if_pos (by decide)]
  rfl
theorem frm_3 : frm (decide ((3 : Int) < 0)) (3 : Int).natAbs 0 = some ⟨false, [3], 0⟩ := by
  have t : tzn 3 = 0 := tzn_odd _ (by decide)
  have b : bl 3 = 2 := by decide
  have d : digs (3 / 2 ^ 0) = [3] := digs_small 3 (by decide) (by decide)
  have w : wrap64 (0 + ((0 : Nat) : Int)) = 0 := by unfold wrap64; decide
  unfold frm
  rw [show (3 : Int).natAbs = 3 from rfl, t, b, d, w, if_neg (by decide), if_pos (by decide)]
  rfl
theorem addN_31 : addN ⟨true, [3], 0⟩ ⟨false, [1], 0⟩ = some ⟨true, [1], 1⟩ := by
  have e1 : nv [3] = 3 := by decide
  have e2 : nv [1] = 1 := by decide
  have b1 : bl 3 = 2 := by decide
  have b2 : bl 1 = 1 := by decide
  have t : tzn 2 = 1 := by rw [tzn_even 2 (by decide) (by decide), tzn_odd _ (by decide)]
  have b : bl 2 = 2 := by decide
  have d : digs (2 / 2 ^ 1) = [1] := digs_small 1 (by decide) (by decide)
  have w : wrap64 (min 0 0 + ((1 : Nat) : Int)) = 1 := by unfold wrap64; decide
  unfold addN tp tot frm
  dsimp only
  rw [e1, e2, b1, b2]
  have s : sg true (((3 : Nat) : Int) * 2 ^ ((0 : Int) - min 0 0).toNat) + sg false (((1 : Nat) : Int) * 2 ^ ((0 : Int) - min 0 0).toNat) = -2 := by decide
  rw [s, show (-2 : Int).natAbs = 2 from rfl, t, b, d, w, if_pos (by decide), if_neg (by decide), if_pos (by decide)]
  rfl
end Go.Proofs.YtalhnaakbekboaaDoor

namespace Go.Proofs.YtalhnaakbekboaaDoor
open Go.ChangeShapes Go.WideShapes Go.ChangeAt Go.RowKit
set_option linter.unusedVariables false
set_option linter.unusedSimpArgs false

theorem vldx : vld ⟨true, [3], 0⟩ = true := by decide +kernel
theorem own_one (w : World) (a : Int) : Own (w.alloc (.cells #[.int .i64 a] 3)) w.heap.size 1 [a] :=
  ⟨_, heap_alloc_new w _, Nat.le_refl _, by simp [maxLen], by simp, by simp⟩
theorem New.some {w0 w : World} {v : Value} {neg : Bool} {d : Int} {x : Int} (h : New w0 w v ⟨neg, [d], x⟩) : ∃ g cap, v = .agg #[.bool neg, .slice (some ⟨g, 0, none⟩) 1 cap, .int .i64 x] ∧ w0.heap.size ≤ g ∧ Own w g cap [d] := by
  rcases h with ⟨h, -⟩ | ⟨g, cap, e, hg, ho, -⟩
  · cases h
  · exact ⟨g, cap, e, hg, ho⟩

end Go.Proofs.YtalhnaakbekboaaDoor
