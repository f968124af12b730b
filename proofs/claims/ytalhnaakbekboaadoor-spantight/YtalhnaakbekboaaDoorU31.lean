/- The walk of exact's Quot at 1 by 3. A few values: 6 by 2, 1, 3, and 1 - 3. The walk of the laws' own test of life. The ring's laws by values; the laws' own num. The walk of the statement on the ring. -/
import Derived.Test.YtalhnaakbekboaaDoorU24
import Derived.Test.YtalhnaakbekboaaDoorU28
import Derived.Test.YtalhnaakbekboaaDoorU30
import Derived.Test.YtalhnaakbekboaaDoorU19
import Derived.Test.YtalhnaakbekboaaDoorU16
import Derived.Deep.Cut
import Derived.Test.YtalhnaakbekboaaDoorU27
import Derived.Test.YtalhnaakbekboaaDoorU20
namespace Go.Proofs.YtalhnaakbekboaaDoor
open Go.ChangeShapes Go.WideShapes Go.ChangeAt Go.RowKit
set_option linter.unusedVariables false
set_option linter.unusedSimpArgs false

theorem vld1 : vld ⟨false, [1], 0⟩ = true := by decide +kernel
theorem vld3 : vld ⟨false, [3], 0⟩ = true := by decide +kernel

set_option maxHeartbeats 4000000 in
set_option maxRecDepth 100000 in
theorem quot_third (a b : Option Addr) (c d : Nat) (w : World) (h1 : Sl w (.slice a 1 c) [1]) (h2 : Sl w (.slice b 1 d) [3]) (hT : Tab w) : Calls Tryd.prog 72 #[.agg #[.bool false, .slice a 1 c, .int .i64 0], .agg #[.bool false, .slice b 1 d, .int .i64 0], .int .i64 64, .int .i64 0] w fun e w' => e = .returned (.tuple #[.int .i64 4599676419421066581, .bool true, .int .i64 0]) ∧ Kept w w' := by
  have hK : Kept w (((w.alloc (.cells #[.bool false, .slice a 1 c, .int .i64 0] 26)).alloc (.cells #[.bool false, .slice b 1 d, .int .i64 0] 26)).alloc (.cells (pairC false (.slice a 1 c) 0 false (.slice b 1 d) 0) 26)) := (((Kept.refl w).alloc _ _).alloc _ _).alloc _ _
  have KR : Hid (Calls Tryd.prog 69 #[.int .i64 64, .int .i64 0, .slice (some ⟨w.heap.size + 2, 0, none⟩) 2 2] (((w.alloc (.cells #[.bool false, .slice a 1 c, .int .i64 0] 26)).alloc (.cells #[.bool false, .slice b 1 d, .int .i64 0] 26)).alloc (.cells (pairC false (.slice a 1 c) 0 false (.slice b 1 d) 0) 26)) fun e w' => e = .returned (.tuple #[round64, .int .i64 0]) ∧ Kept (((w.alloc (.cells #[.bool false, .slice a 1 c, .int .i64 0] 26)).alloc (.cells #[.bool false, .slice b 1 d, .int .i64 0] 26)).alloc (.cells (pairC false (.slice a 1 c) 0 false (.slice b 1 d) 0) 26)) w') := by
    refine roundingOf_64 _ _ (fun u k => ?_)
    have hb : w.heap.size + 2 < (((w.alloc (.cells #[.bool false, .slice a 1 c, .int .i64 0] 26)).alloc (.cells #[.bool false, .slice b 1 d, .int .i64 0] 26)).alloc (.cells (pairC false (.slice a 1 c) 0 false (.slice b 1 d) 0) 26)).heap.size := by simp
    have := allValid_2 u (w.heap.size + 2) 2 false false a b 1 c 1 d 0 0 true true (Nat.lt_of_lt_of_le hb k.below.size) ((k.below.cell (p := ⟨w.heap.size + 2, 0, none⟩) hb).trans (by simp [go_sem])) ((k.below.cell (p := ⟨w.heap.size + 2, 1, none⟩) hb).trans (by simp [go_sem])) ((k.below.cell (p := ⟨w.heap.size + 2, 2, none⟩) hb).trans (by simp [go_sem])) ((k.below.cell (p := ⟨w.heap.size + 2, 3, none⟩) hb).trans (by simp [go_sem])) ((k.below.cell (p := ⟨w.heap.size + 2, 4, none⟩) hb).trans (by simp [go_sem])) ((k.below.cell (p := ⟨w.heap.size + 2, 5, none⟩) hb).trans (by simp [go_sem])) (fun v kv => ?_) (fun v kv => ?_)
    · exact this
    · have := xvalid_any ⟨false, [1], 0⟩ (Dg.rg (Dg.cons (by decide) (by decide) Dg.nil)) (by decide) (.agg #[.bool false, .slice a 1 c, .int .i64 0]) v ⟨_, rfl, ((h1.kept hK).kept k).kept kv⟩
      rw [vld1] at this
      exact this
    · have := xvalid_any ⟨false, [3], 0⟩ (Dg.rg (Dg.cons (by decide) (by decide) Dg.nil)) (by decide) (.agg #[.bool false, .slice b 1 d, .int .i64 0]) v ⟨_, rfl, ((h2.kept hK).kept k).kept kv⟩
      rw [vld3] at this
      exact this
  have KQ : Hid (∀ u, Kept w u → Calls Tryd.prog 91 #[.agg #[.bool false, .slice a 1 c, .int .i64 0], .agg #[.bool false, .slice b 1 d, .int .i64 0]] u fun e w' => e = .returned third ∧ Kept u w') := fun u k => quotient_third a b c d u (h1.kept k) (h2.kept k)
  have HT : Hid (Tab w) := hT
  clear h1 h2 hT
  go_enter Tryd.func72, Tryd.ntmps72
  go_wp2_with fail
  refine KR.out.mono ?_
  rintro e w1 ⟨rfl, hk1⟩
  have HS : Hid (∀ u, Kept (w1.alloc (.cells #[.int .i64 64, .int .i64 53, .int .i64 (-1074), .int .i64 9218868437227405312, .func (.func 102) #[] #[]] 111)) u → u.cell? ⟨w1.heap.size, 0, none⟩ = some (.int .i64 64) ∧ u.cell? ⟨w1.heap.size, 1, none⟩ = some (.int .i64 53) ∧ u.cell? ⟨w1.heap.size, 2, none⟩ = some (.int .i64 (-1074)) ∧ u.cell? ⟨w1.heap.size, 3, none⟩ = some (.int .i64 9218868437227405312) ∧ u.cell? ⟨w1.heap.size, 4, none⟩ = some (.func (.func 102) #[] #[]) ∧ u.cell? ⟨w.heap.size, 0, none⟩ = some (.bool false) ∧ u.cell? ⟨w.heap.size, 1, none⟩ = some (.slice a 1 c) ∧ u.cell? ⟨w.heap.size, 2, none⟩ = some (.int .i64 0) ∧ u.cell? ⟨w.heap.size + 1, 0, none⟩ = some (.bool false) ∧ u.cell? ⟨w.heap.size + 1, 1, none⟩ = some (.slice b 1 d) ∧ u.cell? ⟨w.heap.size + 1, 2, none⟩ = some (.int .i64 0)) := fun u k => ⟨(laid_cell k 0).trans (by simp [go_sem]), (laid_cell k 1).trans (by simp [go_sem]), (laid_cell k 2).trans (by simp [go_sem]), (laid_cell k 3).trans (by simp [go_sem]), (laid_cell k 4).trans (by simp [go_sem]), ((hk1.trans ((Kept.refl w1).alloc _ _ |>.trans k)).below.cell (p := ⟨w.heap.size, 0, none⟩) (by simp <;> omega)).trans (by simp [go_sem]), ((hk1.trans ((Kept.refl w1).alloc _ _ |>.trans k)).below.cell (p := ⟨w.heap.size, 1, none⟩) (by simp <;> omega)).trans (by simp [go_sem]), ((hk1.trans ((Kept.refl w1).alloc _ _ |>.trans k)).below.cell (p := ⟨w.heap.size, 2, none⟩) (by simp <;> omega)).trans (by simp [go_sem]), ((hk1.trans ((Kept.refl w1).alloc _ _ |>.trans k)).below.cell (p := ⟨w.heap.size + 1, 0, none⟩) (by simp <;> omega)).trans (by simp [go_sem]), ((hk1.trans ((Kept.refl w1).alloc _ _ |>.trans k)).below.cell (p := ⟨w.heap.size + 1, 1, none⟩) (by simp <;> omega)).trans (by simp [go_sem]), ((hk1.trans ((Kept.refl w1).alloc _ _ |>.trans k)).below.cell (p := ⟨w.heap.size + 1, 2, none⟩) (by simp <;> omega)).trans (by simp [go_sem])⟩
  have hsz : w.heap.size + 3 ≤ w1.heap.size := by have := hk1.below.size; simpa using this
  have s0 := HS.out _ (Kept.refl _)
  obtain ⟨x0, x1, x2, x3, x4, x5, x6, x7, x8, x9, xx⟩ := s0
  go_wp2_with fail
  refine (signOf_any false b 1 d 0 _).mono ?_
  rintro e w2 ⟨rfl, hk2⟩
  have s1 := HS.out _ hk2
  clear x0 x1 x2 x3 x4 x5 x6 x7 x8 x9 xx
  have hkk : Kept w w2 := hK.trans (hk1.trans (((Kept.refl w1).alloc _ _).trans hk2))
  go_wp2
  refine wp_region_held_drew (S := fun u => u.cell? ⟨w1.heap.size, 0, none⟩ = some (.int .i64 64) ∧ u.cell? ⟨w1.heap.size, 1, none⟩ = some (.int .i64 53) ∧ u.cell? ⟨w1.heap.size, 2, none⟩ = some (.int .i64 (-1074)) ∧ u.cell? ⟨w1.heap.size, 3, none⟩ = some (.int .i64 9218868437227405312) ∧ u.cell? ⟨w1.heap.size, 4, none⟩ = some (.func (.func 102) #[] #[]) ∧ u.cell? ⟨w.heap.size, 0, none⟩ = some (.bool false) ∧ u.cell? ⟨w.heap.size, 1, none⟩ = some (.slice a 1 c) ∧ u.cell? ⟨w.heap.size, 2, none⟩ = some (.int .i64 0) ∧ u.cell? ⟨w.heap.size + 1, 0, none⟩ = some (.bool false) ∧ u.cell? ⟨w.heap.size + 1, 1, none⟩ = some (.slice b 1 d) ∧ u.cell? ⟨w.heap.size + 1, 2, none⟩ = some (.int .i64 0)) (by kernel_rfl) (HS.out _ hk2.drew) (fun hHeld => ?_)
  refine wpAnyH_take (i := 0) (v := ?_) rfl (by kernel_rfl) (by kernel_rfl) (by kernel_rfl) (fun _ _ _ h => h) (Or.inl ⟨by rfl, ?hya0⟩) (by assumption) ?_
  case hya0 => (intro w hSw; (try dsimp only at hSw); go_simp; try (with_reducible rfl))
  simp only [Act.put, List.getElem_toArray, List.getElem_cons_succ, List.getElem_cons_zero, List.setIfInBounds_toArray, List.set_cons_zero, List.set_cons_succ]
  refine wpAnyH_take (i := 1) (v := ?_) rfl (by kernel_rfl) (by kernel_rfl) (by kernel_rfl) (fun _ _ _ h => h) (Or.inl ⟨by rfl, ?hya1⟩) (by assumption) ?_
  case hya1 => (intro w hSw; (try dsimp only at hSw); go_simp; try (with_reducible rfl))
  simp only [Act.put, List.getElem_toArray, List.getElem_cons_succ, List.getElem_cons_zero, List.setIfInBounds_toArray, List.set_cons_zero, List.set_cons_succ]
  refine wpAnyH_take (i := 2) (v := ?_) rfl (by kernel_rfl) (by kernel_rfl) (by kernel_rfl) (fun _ _ _ h => h) (Or.inl ⟨by rfl, ?hya2⟩) (by assumption) ?_
  case hya2 => (intro w hSw; (try dsimp only at hSw); go_simp; try (with_reducible rfl))
  simp only [Act.put, List.getElem_toArray, List.getElem_cons_succ, List.getElem_cons_zero, List.setIfInBounds_toArray, List.set_cons_zero, List.set_cons_succ]
  refine wpAnyH_ready (rs := [3]) (by kernel_rfl) (by simp) ?_
  refine AllReadyH.cons rfl (fun K hK9 => ?_) AllReadyH.nil
  go_simp
  go_wp2_with (first | (go_at_call 91; refine (KQ.out _ hkk.drew).mono ?_; rintro e w3 ⟨rfl, hk3⟩))
  refine hK9.out _ _ (HS.out _ (hk2.drew.trans hk3)) (fun hHeld2 => ?_)
  clear hK9 K hHeld
  refine wpAnyH_ready (rs := [4]) (by kernel_rfl) (by simp) ?_
  refine AllReadyH.cons rfl (fun K hK9 => ?_) AllReadyH.nil
  go_simp
  go_wp2_with (first | (go_at_call 70; refine (round_third _ (HT.out.kept (hkk.drew.trans hk3))).mono ?_; rintro e w4 ⟨rfl, hk4⟩))
  refine hK9.out _ _ (HS.out _ (hk2.drew.trans (hk3.trans hk4))) (fun hHeld => ?_)
  clear hK9 K hHeld2
  refine wpAnyH_take (i := 5) (v := ?_) rfl (by kernel_rfl) (by kernel_rfl) (by kernel_rfl) (fun _ _ _ h => h) (Or.inl ⟨by rfl, ?hyb5⟩) (by assumption) ?_
  case hyb5 => (intro w hSw; (try dsimp only at hSw); go_simp; try (with_reducible rfl))
  simp only [Act.put, List.getElem_toArray, List.getElem_cons_succ, List.getElem_cons_zero, List.setIfInBounds_toArray, List.set_cons_zero, List.set_cons_succ]
  refine wpAnyH_take (i := 6) (v := ?_) rfl (by kernel_rfl) (by kernel_rfl) (by kernel_rfl) (fun _ _ _ h => h) (Or.inl ⟨by rfl, ?hyb6⟩) (by assumption) ?_
  case hyb6 => (intro w hSw; (try dsimp only at hSw); go_simp; try (with_reducible rfl))
  simp only [Act.put, List.getElem_toArray, List.getElem_cons_succ, List.getElem_cons_zero, List.setIfInBounds_toArray, List.set_cons_zero, List.set_cons_succ]
  refine wpAnyH_take (i := 7) (v := ?_) rfl (by kernel_rfl) (by kernel_rfl) (by kernel_rfl) (fun _ _ _ h => h) (Or.inl ⟨by rfl, ?hyb7⟩) (by assumption) ?_
  case hyb7 => (intro w hSw; (try dsimp only at hSw); go_simp; try (with_reducible rfl))
  simp only [Act.put, List.getElem_toArray, List.getElem_cons_succ, List.getElem_cons_zero, List.setIfInBounds_toArray, List.set_cons_zero, List.set_cons_succ]
  refine wpAnyH_take (i := 8) (v := ?_) rfl (by kernel_rfl) (by kernel_rfl) (by kernel_rfl) (fun _ _ _ h => h) (Or.inl ⟨by rfl, ?hyb8⟩) (by assumption) ?_
  case hyb8 => (intro w hSw; (try dsimp only at hSw); go_simp; try (with_reducible rfl))
  simp only [Act.put, List.getElem_toArray, List.getElem_cons_succ, List.getElem_cons_zero, List.setIfInBounds_toArray, List.set_cons_zero, List.set_cons_succ]
  refine wpAnyH_take (i := 9) (v := ?_) rfl (by kernel_rfl) (by kernel_rfl) (by kernel_rfl) (fun _ _ _ h => h) (Or.inl ⟨by rfl, ?hyb9⟩) (by assumption) ?_
  case hyb9 => (intro w hSw; (try dsimp only at hSw); go_simp; try (with_reducible rfl))
  simp only [Act.put, List.getElem_toArray, List.getElem_cons_succ, List.getElem_cons_zero, List.setIfInBounds_toArray, List.set_cons_zero, List.set_cons_succ]
  refine wpAnyH_done (by kernel_rfl) ?_ _
  clear hHeld
  go_wp2
  refine bodyPost_ret (v := .tuple #[.int .i64 4599676419421066581, .bool true, .int .i64 0]) (by simp [results, Tryd.results72, go_sem]) rfl ⟨rfl, hkk.drew.trans (hk3.trans hk4)⟩
end Go.Proofs.YtalhnaakbekboaaDoor

namespace Go.Proofs.YtalhnaakbekboaaDoor
open Go.RowKit

theorem digs_small (n : Nat) (h0 : n ≠ 0) (h : n < 1073741824) : digs n = [(n : Int)] := by
  rw [digs_pos n h0, Nat.mod_eq_of_lt h, Nat.div_eq_of_lt h, digs_zero]
theorem frm_6 : frm true (nv [6]) (-1) = some ⟨true, [3], 0⟩ := by
  have e : nv [6] = 6 := by decide
  have t : tzn 6 = 1 := by rw [tzn_even 6 (by decide) (by decide), tzn_odd _ (by decide)]
  have b : bl 6 = 3 := by decide
  have d : digs (6 / 2 ^ 1) = [3] := digs_small 3 (by decide) (by decide)
  have w : wrap64 (-1 + ((1 : Nat) : Int)) = 0 := by unfold wrap64; decide
  unfold frm
  rw [e, t, b, d, w, if_neg (by decide), if_pos (by decide)]
theorem frm_1 : frm (decide ((1 : Int) < 0)) (1 : Int).natAbs 0 = some ⟨false, [1], 0⟩ := by
  have t : tzn 1 = 0 := tzn_odd _ (by decide)
  have b : bl 1 = 1 := by decide
  have d : digs (1 / 2 ^ 0) = [1] := digs_small 1 (by decide) (by decide)
  have w : wrap64 (0 + ((0 : Nat) : Int)) = 0 := by unfold wrap64; decide
  unfold frm
  rw [show (1 : Int).natAbs = 1 from rfl, t, b, d, w, if_neg (by decide), if_pos (by decide)]
  rfl
theorem frm_3 : frm (decide ((3 : Int) < 0)) (3 : Int).natAbs 0 = some ⟨false, [3], 0⟩ := by
  have t : tzn 3 = 0 := tzn_odd _ (by decide)
  have b : bl 3 = 2 := by decide
  have d : digs (3 / 2 ^ 0) = [3] := digs_small 3 (by decide) (by decide)
  have w : wrap64 (0 + ((0 : Nat) : Int)) = 0 := by unfold wrap64; decide
  unfold frm
  rw [show (3 : Int).natAbs = 3 from rfl, t, b, d, w, if_neg (by decide), if_pos (by decide)]
  rfl
theorem addN_31 : addN ⟨true, [3], 0⟩ ⟨false, [1], 0⟩ = some ⟨true, [1], 1⟩ := by
  have e1 : nv [3] = 3 := by decide
  have e2 : nv [1] = 1 := by decide
  have b1 : bl 3 = 2 := by decide
  have b2 : bl 1 = 1 := by decide
  have t : tzn 2 = 1 := by rw [tzn_even 2 (by decide) (by decide), tzn_odd _ (by decide)]
  have b : bl 2 = 2 := by decide
  have d : digs (2 / 2 ^ 1) = [1] := digs_small 1 (by decide) (by decide)
  have w : wrap64 (min 0 0 + ((1 : Nat) : Int)) = 1 := by unfold wrap64; decide
  unfold addN tp tot frm
  dsimp only
  rw [e1, e2, b1, b2]
  have s : sg true (((3 : Nat) : Int) * 2 ^ ((0 : Int) - min 0 0).toNat) + sg false (((1 : Nat) : Int) * 2 ^ ((0 : Int) - min 0 0).toNat) = -2 := by decide
  rw [s, show (-2 : Int).natAbs = 2 from rfl, t, b, d, w, if_pos (by decide), if_neg (by decide), if_pos (by decide)]
  rfl
end Go.Proofs.YtalhnaakbekboaaDoor

namespace Go.Proofs.YtalhnaakbekboaaDoor
open Go.ChangeShapes Go.WideShapes Go.ChangeAt Go.RowKit
set_option linter.unusedVariables false
set_option linter.unusedSimpArgs false

theorem vldx : vld ⟨true, [3], 0⟩ = true := by decide +kernel
theorem own_one (w : World) (a : Int) : Own (w.alloc (.cells #[.int .i64 a] 3)) w.heap.size 1 [a] :=
  ⟨_, heap_alloc_new w _, Nat.le_refl _, by simp [maxLen], by simp, by simp⟩
theorem New.some {w0 w : World} {v : Value} {neg : Bool} {d : Int} {x : Int} (h : New w0 w v ⟨neg, [d], x⟩) : ∃ g cap, v = .agg #[.bool neg, .slice (some ⟨g, 0, none⟩) 1 cap, .int .i64 x] ∧ w0.heap.size ≤ g ∧ Own w g cap [d] := by
  rcases h with ⟨h, -⟩ | ⟨g, cap, e, hg, ho, -⟩
  · cases h
  · exact ⟨g, cap, e, hg, ho⟩

end Go.Proofs.YtalhnaakbekboaaDoor

namespace Go.Proofs.YtalhnaakbekboaaDoor
open Go.ChangeShapes Go.WideShapes Go.ChangeAt Go.RowKit
set_option linter.unusedVariables false
set_option linter.unusedSimpArgs false

theorem Lies.mono {s : Int} {B C : Nat} {a : Nm} (h : Lies s B a) (hBC : B ≤ C) : Lies s C a := ⟨h.ok, h.low, Nat.lt_of_lt_of_le h.lt (Nat.pow_le_pow_right (by decide) hBC)⟩
theorem vz_ng (s : Int) (a : Nm) : vz s (ng a) = -vz s a := by
  unfold vz ng
  dsimp only
  cases a.neg <;> simp [sg]
theorem sub_cfm (s : Int) (B : Nat) (hB : B ≤ 60000) (a b : Nm) (ha : Lies s B a) (hb : Lies s B b) : addZ a (ng b) = cfm (vz s a - vz s b) s := by
  by_cases hne : b.mag = []
  · obtain ⟨n2, L2, x2⟩ := b
    dsimp only at hne
    subst hne
    obtain ⟨n1, L1, x1⟩ := a
    rw [vz_nil, Int.sub_zero, vz_cfm s n1 L1 x1 ha.ok ha.low]
    unfold addZ ng
    dsimp only
    by_cases h1 : L1 = []
    · subst h1
      obtain ⟨rfl, rfl⟩ := vld_nil _ _ ha.ok
      simp
    · simp [h1]
  · have hb' : Lies s B (ng b) := ⟨vld_ng b.neg b.mag b.exp hb.ok hne, hb.low, by rw [vz_ng, Int.natAbs_neg]; exact hb.lt⟩
    rw [add_cfm s B hB a (ng b) ha hb', vz_ng, Int.sub_eq_add_neg]
theorem frm_cfm (n : Bool) (v : Nat) (y : Int) : frm n v y = cfm (sg n (v : Int)) y := by
  by_cases h : v = 0
  · subst h
    rw [show sg n ((0 : Nat) : Int) = 0 by cases n <;> rfl, cfm_zero]
    simp [frm]
  · have hsg := sg_neg n (v : Int) (by omega)
    unfold cfm
    rw [hsg.1, hsg.2, Int.toNat_natCast]
theorem num_lies (p q B : Nat) (hp : p = 600) (hq : q = 2600) (hB : B = p + q) (n : Bool) (M : List Int) (hM : Dg M) (hl : M.length ≤ 20) (y : Int) (h1 : -1300 ≤ y) (h2 : y ≤ 1300) : ∃ r, frm n (nv M) y = some r ∧ Lies (-1300) B r := by
  have hlt := nv_lt M hM
  have h6 : nv M < 2 ^ p := Nat.lt_of_lt_of_le hlt (Nat.pow_le_pow_right (by decide) (by omega))
  have hk : (sg n (nv M : Int) * 2 ^ (y + 1300).toNat).natAbs < 2 ^ B := by
    rw [Int.natAbs_mul]
    have e1 : (sg n (nv M : Int)).natAbs = nv M := by cases n <;> simp [sg]
    have e2 : ((2 : Int) ^ (y + 1300).toNat).natAbs = 2 ^ (y + 1300).toNat := by rw [Int.natAbs_pow]; rfl
    rw [e1, e2, hB, Nat.pow_add]
    have e3 : (2 : Nat) ^ (y + 1300).toNat ≤ 2 ^ q := Nat.pow_le_pow_right (by decide) (by omega)
    exact Nat.mul_lt_mul_of_lt_of_le h6 e3 (Nat.two_pow_pos _)
  obtain ⟨r, hr, hL, -⟩ := cfm_lies (-1300) B (by omega) (by decide) (by decide) _ hk
  refine ⟨r, ?_, hL⟩
  rw [frm_cfm, ← hr, cfm_shift]
  congr 1
  omega
theorem sgz_vz (s : Int) (r : Nm) (h : vld r = true) : sgz r.neg r.mag = cz (vz s r) 0 := by
  obtain ⟨n, L, x⟩ := r
  dsimp only
  by_cases e : L = []
  · subst e
    rw [vz_nil, sgz_nil]
    rfl
  · have p := vz_pos s n L x e h
    rw [vz_nat, sgz_some n L e]
    generalize nv L * 2 ^ (x - s).toNat = y at *
    cases n <;> simp [sg, cz] <;> omega
theorem cz_sub (a b : Int) : cz (a - b) 0 = cz a b := by
  unfold cz
  split <;> split <;> (try split) <;> (try split) <;> omega
theorem abs_add_lt (a b : Int) (n : Nat) (ha : a.natAbs < 2 ^ n) (hb : b.natAbs < 2 ^ n) : (a + b).natAbs < 2 ^ (n + 1) := by
  have := Int.natAbs_add_le a b
  rw [Nat.pow_succ]
  omega
theorem abs_sub_lt (a b : Int) (n : Nat) (ha : a.natAbs < 2 ^ n) (hb : b.natAbs < 2 ^ n) : (a - b).natAbs < 2 ^ (n + 1) := by
  rw [Int.sub_eq_add_neg]
  exact abs_add_lt a (-b) n ha (by rw [Int.natAbs_neg]; exact hb)
theorem abs_mul_lt (a b : Int) (n m : Nat) (ha : a.natAbs < 2 ^ n) (hb : b.natAbs < 2 ^ m) : (a * b).natAbs < 2 ^ (n + m) := by
  rw [Int.natAbs_mul, Nat.pow_add]
  exact Nat.mul_lt_mul'' ha hb
theorem pow_up (a : Int) (n m : Nat) (h : n ≤ m) (ha : a.natAbs < 2 ^ n) : a.natAbs < 2 ^ m := Nat.lt_of_lt_of_le ha (Nat.pow_le_pow_right (by decide) h)

structure RingN (B : Nat) (a b c r1 r2 r3 r4 r5 r6 r7 : Nm) : Prop where
  la : Lies (-1300) B a
  lb : Lies (-1300) B b
  lc : Lies (-1300) B c
  v1 : vld r1 = true
  v2 : vld r2 = true
  v3 : vld r3 = true
  v4 : vld r4 = true
  v5 : vld r5 = true
  v6 : vld r6 = true
  v7 : vld r7 = true
  s1 : addZ a b = some r1
  s2 : addZ b a = some r1
  s3 : addZ b c = some r2
  s4 : addZ r1 c = some r3
  s5 : addZ a r2 = some r3
  s6 : addZ r1 (ng b) = some a
  m1 : mulN a b = some r4
  m2 : mulN a c = some r5
  m3 : mulN a r2 = some r6
  s7 : addZ r4 r5 = some r6
  s8 : addZ a (ng b) = some r7
  sg : sgz r7.neg r7.mag = cz (vz (-1300) a) (vz (-1300) b)

theorem ring_is (B : Nat) (hB : B ≤ 3200) (a b c : Nm) (la : Lies (-1300) B a) (lb : Lies (-1300) B b) (lc : Lies (-1300) B c) : ∃ r1 r2 r3 r4 r5 r6 r7, RingN B a b c r1 r2 r3 r4 r5 r6 r7 := by
  have up : ∀ {x : Nm}, Lies (-1300) B x → Lies (-1300) 8000 x := fun h => h.mono (by omega)
  obtain ⟨r1, e1, l1, z1⟩ := cfm_lies (-1300) (B + 1) (by omega) (by decide) (by decide) _ (abs_add_lt _ _ _ la.lt lb.lt)
  obtain ⟨r2, e2, l2, z2⟩ := cfm_lies (-1300) (B + 1) (by omega) (by decide) (by decide) _ (abs_add_lt _ _ _ lb.lt lc.lt)
  obtain ⟨r3, e3, l3, z3⟩ := cfm_lies (-1300) (B + 1 + 1) (by omega) (by decide) (by decide) _ (abs_add_lt _ _ _ l1.lt (pow_up _ _ _ (Nat.le_succ _) lc.lt))
  obtain ⟨r4, e4, l4, z4⟩ := cfm_lies (-1300 + -1300) (B + B) (by omega) (by decide) (by decide) _ (abs_mul_lt _ _ _ _ la.lt lb.lt)
  obtain ⟨r5, e5, l5, z5⟩ := cfm_lies (-1300 + -1300) (B + B) (by omega) (by decide) (by decide) _ (abs_mul_lt _ _ _ _ la.lt lc.lt)
  obtain ⟨r6, e6, l6, z6⟩ := cfm_lies (-1300 + -1300) (B + (B + 1)) (by omega) (by decide) (by decide) _ (abs_mul_lt _ _ _ _ la.lt l2.lt)
  obtain ⟨r7, e7, l7, z7⟩ := cfm_lies (-1300) (B + 1) (by omega) (by decide) (by decide) _ (abs_sub_lt _ _ _ la.lt lb.lt)
  have u1 := l1.mono (show B + 1 ≤ 8000 by omega)
  have u2 := l2.mono (show B + 1 ≤ 8000 by omega)
  have u4 := l4.mono (show B + B ≤ 8000 by omega)
  have u5 := l5.mono (show B + B ≤ 8000 by omega)
  refine ⟨r1, r2, r3, r4, r5, r6, r7, la, lb, lc, l1.ok, l2.ok, l3.ok, l4.ok, l5.ok, l6.ok, l7.ok, ?_, ?_, ?_, ?_, ?_, ?_, ?_, ?_, ?_, ?_, ?_, ?_⟩
  · rw [add_cfm (-1300) 8000 (by decide) a b (up la) (up lb), e1]
  · rw [add_cfm (-1300) 8000 (by decide) b a (up lb) (up la), Int.add_comm, e1]
  · rw [add_cfm (-1300) 8000 (by decide) b c (up lb) (up lc), e2]
  · rw [add_cfm (-1300) 8000 (by decide) r1 c u1 (up lc), e3]
  · rw [add_cfm (-1300) 8000 (by decide) a r2 (up la) u2, z2, ← e3, z1, Int.add_assoc]
  · rw [sub_cfm (-1300) 8000 (by decide) r1 b u1 (up lb), z1, Int.add_sub_cancel]
    exact vz_cfm (-1300) a.neg a.mag a.exp la.ok la.low
  · rw [mul_cfm (-1300) 8000 (by decide) (by decide) (by decide) a b (up la) (up lb), e4]
  · rw [mul_cfm (-1300) 8000 (by decide) (by decide) (by decide) a c (up la) (up lc), e5]
  · rw [mul_cfm (-1300) 8000 (by decide) (by decide) (by decide) a r2 (up la) u2, e6]
  · rw [add_cfm (-1300 + -1300) 8000 (by decide) r4 r5 u4 u5, z4, z5, ← e6, z2, Int.mul_add]
  · rw [sub_cfm (-1300) 8000 (by decide) a b (up la) (up lb), e7]
  · rw [sgz_vz (-1300) r7 l7.ok, z7, cz_sub]

/-! ### Calls whose numbers lie somewhere -/
def Lay (u : World) (p : Nat) (ao : Option Addr) (c : Nat) (r : Nm) : Prop := ((u.cell? ⟨p, 0, none⟩ = some (.bool r.neg) ∧ u.cell? ⟨p, 1, none⟩ = some (.slice ao r.mag.length c)) ∧ u.cell? ⟨p, 2, none⟩ = some (.int .i64 r.exp)) ∧ Sl u (.slice ao r.mag.length c) r.mag
theorem lay_new {w0 w : World} {v : Value} {r : Nm} (h : New w0 w v r) : ∃ ao c, v = .agg #[.bool r.neg, .slice ao r.mag.length c, .int .i64 r.exp] ∧ Sl w (.slice ao r.mag.length c) r.mag := by
  obtain ⟨s, e, hs⟩ := h.numAt
  have hs' := hs
  obtain ⟨ao, c, e2, -⟩ := hs'
  subst e2
  exact ⟨ao, c, e, hs⟩
theorem lay_alloc {X u : World} {ao : Option Addr} {c : Nat} {r : Nm} (hs : Sl X (.slice ao r.mag.length c) r.mag) (k : Kept (X.alloc (.cells #[.bool r.neg, .slice ao r.mag.length c, .int .i64 r.exp] 26)) u) : Lay u X.heap.size ao c r :=
  ⟨⟨⟨(laid_cell k 0).trans (by simp [go_sem]), (laid_cell k 1).trans (by simp [go_sem])⟩, (laid_cell k 2).trans (by simp [go_sem])⟩, (hs.kept ((Kept.refl X).alloc _ _)).kept k⟩
theorem add_at (X : World) (hT : Tab X) (a b r : Nm) (ha : vld a = true) (hb : vld b = true) (a1 a2 : Option Addr) (c1 c2 : Nat) (h1 : Sl X (.slice a1 a.mag.length c1) a.mag) (h2 : Sl X (.slice a2 b.mag.length c2) b.mag) (hr : addZ a b = some r) : Calls Tryd.prog 8 #[.agg #[.bool a.neg, .slice a1 a.mag.length c1, .int .i64 a.exp], .agg #[.bool b.neg, .slice a2 b.mag.length c2, .int .i64 b.exp]] X fun e w' => ∃ ao c, e = .returned (.tuple #[.agg #[.bool r.neg, .slice ao r.mag.length c, .int .i64 r.exp], .int .i64 0]) ∧ Sl w' (.slice ao r.mag.length c) r.mag ∧ Kept X w' := by
  refine (addz_ok X hT a.neg a.mag a.exp ha a1 c1 b.neg b.mag b.exp hb a2 c2 h1 h2 r hr).mono ?_
  rintro e w' ⟨v, rfl, hN, hk⟩
  obtain ⟨ao, c, rfl, hs⟩ := lay_new hN
  exact ⟨ao, c, rfl, hs, hk⟩
theorem mul_at (X : World) (hT : Tab X) (a b r : Nm) (ha : vld a = true) (hb : vld b = true) (a1 a2 : Option Addr) (c1 c2 : Nat) (h1 : Sl X (.slice a1 a.mag.length c1) a.mag) (h2 : Sl X (.slice a2 b.mag.length c2) b.mag) (hr : mulN a b = some r) : Calls Tryd.prog 9 #[.agg #[.bool a.neg, .slice a1 a.mag.length c1, .int .i64 a.exp], .agg #[.bool b.neg, .slice a2 b.mag.length c2, .int .i64 b.exp]] X fun e w' => ∃ ao c, e = .returned (.tuple #[.agg #[.bool r.neg, .slice ao r.mag.length c, .int .i64 r.exp], .int .i64 0]) ∧ Sl w' (.slice ao r.mag.length c) r.mag ∧ Kept X w' := by
  refine (mulz_ok X hT a.neg a.mag a.exp ha a1 c1 b.neg b.mag b.exp hb a2 c2 h1 h2 r hr).mono ?_
  rintro e w' ⟨v, rfl, hN, hk⟩
  obtain ⟨ao, c, rfl, hs⟩ := lay_new hN
  exact ⟨ao, c, rfl, hs, hk⟩

end Go.Proofs.YtalhnaakbekboaaDoor

namespace Go.Proofs.YtalhnaakbekboaaDoor
open Go.ChangeShapes Go.WideShapes Go.ChangeAt Go.RowKit
set_option linter.unusedVariables false
set_option linter.unusedSimpArgs false

theorem valid_at (X : World) (a : Nm) (ha : vld a = true) (a1 : Option Addr) (c1 : Nat) (h1 : Sl X (.slice a1 a.mag.length c1) a.mag) : Calls Tryd.prog 79 #[.agg #[.bool a.neg, .slice a1 a.mag.length c1, .int .i64 a.exp]] X fun e w' => e = .returned (.bool true) ∧ Kept X w' := by
  have hd := vld_dg a.neg a.mag a.exp ha
  have := xvalid_any a hd.2.rg (by omega) (.agg #[.bool a.neg, .slice a1 a.mag.length c1, .int .i64 a.exp]) X ⟨_, rfl, h1⟩
  rw [ha] at this
  exact this
theorem tmod_1300 (x : Int) : -1300 ≤ x.tmod 1300 ∧ x.tmod 1300 ≤ 1300 := by
  have h1 := Int.natAbs_tmod x 1300
  have h2 : x.natAbs % (1300 : Int).natAbs < 1300 := Nat.mod_lt _ (by decide)
  omega
end Go.Proofs.YtalhnaakbekboaaDoor
