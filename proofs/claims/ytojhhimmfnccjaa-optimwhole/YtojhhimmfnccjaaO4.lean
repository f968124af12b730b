/- Package optim: the columns of a parameter without slots. -/
import Derived.Test.YtojhhimmfnccjaaO3
import Derived.Deep.CutRange
namespace Go.Proofs.Ytojhhimmfnccjaa
open Go.ChangeShapes Go.WideShapes Go.ChangeAt Go.RowKit
set_option linter.unusedVariables false
set_option linter.unusedSimpArgs false

theorem al0 (X : World) (a b c : Obj) : (((X.alloc a).alloc b).alloc c).drew.heap[X.heap.size]? = some a := by
  show ((X.heap.push a).push b |>.push c)[X.heap.size]? = some a
  rw [Array.getElem?_push, if_neg (by simp only [Array.size_push]; omega), Array.getElem?_push, if_neg (by simp only [Array.size_push]; omega), Array.getElem?_push, if_pos rfl]
theorem al1 (X : World) (a b c : Obj) : (((X.alloc a).alloc b).alloc c).drew.heap[X.heap.size + 1]? = some b := by
  show ((X.heap.push a).push b |>.push c)[X.heap.size + 1]? = some b
  rw [Array.getElem?_push, if_neg (by simp only [Array.size_push]; omega), Array.getElem?_push, if_pos (by simp only [Array.size_push])]
theorem al2 (X : World) (a b c : Obj) : (((X.alloc a).alloc b).alloc c).drew.heap[X.heap.size + 1 + 1]? = some c := by
  show ((X.heap.push a).push b |>.push c)[X.heap.size + 1 + 1]? = some c
  rw [Array.getElem?_push, if_pos (by simp only [Array.size_push])]
theorem own_at {W : World} {g l : Nat} (hl : l ≤ 4096) (h : W.heap[g]? = some (.cells (madeCells #[.int .i64 0] l) 3)) : Own W g l (List.replicate l 0) := by
  refine ⟨_, h, by simp, by simp [maxLen]; omega, by simp [size_madeCells], ?_⟩
  rw [List.length_replicate, toList_madeCells_one]
  simp [List.take_replicate]
theorem bk_at {W : World} {b : Nat} {vs : List Value} {t : TypeId} (h : W.heap[b]? = some (.cells vs.toArray t)) : Bk W b vs := by
  refine ⟨fun i v e => ?_, fun o => frozen_of_row W b o _ t h, lt_of_block h⟩
  rw [cell_of_row _ b i vs.toArray t (0, 0) h]
  simpa using e
set_option maxHeartbeats 4000000 in
set_option maxRecDepth 100000 in
theorem columnsOf_0 (r c n : Int) (s : Option Addr) (l k : Nat) (hl : l ≤ 4096) (w : World) :
    Calls Try.prog 27 #[.agg #[.int .i64 r, .int .i64 c, .int .i64 n, .slice s l k], .slice none 0 0] w fun e w' => ∃ g1 g2, e = .returned (.agg #[.slice s l k, .slice (some ⟨g1, 0, none⟩) l l, .slice (some ⟨g2, 0, none⟩) l l]) ∧ g1 ≠ g2 ∧ w.heap.size ≤ g1 ∧ w.heap.size ≤ g2 ∧ Own w' g1 l (List.replicate l 0) ∧ Own w' g2 l (List.replicate l 0) ∧ Kept w w' := by
  obtain ⟨X, hX⟩ : ∃ X, X = (w.alloc (.cells #[.int .i64 r, .int .i64 c, .int .i64 n, .slice s l k] 25)).alloc (.cells #[.slice none 0 0, .slice none 0 0, .slice none 0 0] 64) := ⟨_, rfl⟩
  obtain ⟨B0, hB0⟩ : ∃ B, B = w.heap.size := ⟨_, rfl⟩
  obtain ⟨B1, hB1⟩ : ∃ B, B = B0 + 1 := ⟨_, rfl⟩
  have hK : Kept w X := by rw [hX]; exact ((Kept.refl w).alloc _ _).alloc _ _
  have b0 : Bk X B0 [.int .i64 r, .int .i64 c, .int .i64 n, .slice s l k] := by rw [hX, hB0]; exact (Bk.new w [.int .i64 r, .int .i64 c, .int .i64 n, .slice s l k] _).alloc _ _
  have b1 : Bk X B1 [.slice none 0 0, .slice none 0 0, .slice none 0 0] := by
    rw [hX, hB1, hB0]
    have := Bk.new (w.alloc (.cells #[.int .i64 r, .int .i64 c, .int .i64 n, .slice s l k] 25)) [.slice none 0 0, .slice none 0 0, .slice none 0 0] 64
    simpa using this
  have oB : Hid (w.heap.size ≤ B1) := (show w.heap.size ≤ B1 by omega)
  have hmk : ∀ u : World, (Instr.makeSlice 22 (.int .i64 (l : Int)) (.int .i64 (l : Int))).run Try.prog u = .ok (.slice (some ⟨u.heap.size, 0, none⟩) l l) (u.alloc (.cells (madeCells #[.int .i64 0] l) 3)) := fun u => make_run _ _ (Nat.le_refl _) (by omega) u
  have HO : Hid (∀ u : World, Own (u.alloc (.cells (madeCells #[.int .i64 0] l) 3)) u.heap.size l (List.replicate l 0)) := fun u => own_made _ _ (Nat.le_refl _) (by omega) u
  go_enter Try.func27, Try.ntmps27
  go_upto_region 1 with fail
  rw [← hX, ← hB0, ← hB1]
  clear hX hB0 hB1
  have p0 := b0.c 0 _ rfl
  have p1 := b0.c 1 _ rfl
  have p2 := b0.c 2 _ rfl
  have p3 := b0.c 3 _ rfl
  have x0 := b0.lt
  go_cut [5] from 7 to 15 (fun v wx => ∃ B2 g1 g2, v = .pointer (some ⟨B2, 0, none⟩) ∧ Bk wx B2 [.slice (some ⟨g1, 0, none⟩) l l, .slice (some ⟨g2, 0, none⟩) l l] ∧ Own wx g1 l (List.replicate l 0) ∧ Own wx g2 l (List.replicate l 0) ∧ g1 ≠ g2 ∧ X.heap.size ≤ g1 ∧ X.heap.size ≤ g2 ∧ Kept X wx)
  case first =>
    go_region
    all_goals (go_wp2_with fail; go_meet)
    · exact ⟨X.heap.size + 1 + 1, X.heap.size, X.heap.size + 1, rfl, bk_at (al2 X _ _ _), own_at hl (al0 X _ _ _), own_at hl (al1 X _ _ _), by omega, by omega, by omega, ((((Kept.refl X).alloc _ _).alloc _ _).alloc _ _).drew⟩
    · exact ⟨X.heap.size + 1, X.heap.size, X.heap.size + 1 + 1, rfl, bk_at (al1 X _ _ _), own_at hl (al0 X _ _ _), own_at hl (al2 X _ _ _), by omega, by omega, by omega, ((((Kept.refl X).alloc _ _).alloc _ _).alloc _ _).drew⟩
    · exact ⟨X.heap.size + 1 + 1, X.heap.size + 1, X.heap.size, rfl, bk_at (al2 X _ _ _), own_at hl (al1 X _ _ _), own_at hl (al0 X _ _ _), by omega, by omega, by omega, ((((Kept.refl X).alloc _ _).alloc _ _).alloc _ _).drew⟩
    · exact ⟨X.heap.size + 1, X.heap.size + 1 + 1, X.heap.size, rfl, bk_at (al1 X _ _ _), own_at hl (al2 X _ _ _), own_at hl (al0 X _ _ _), by omega, by omega, by omega, ((((Kept.refl X).alloc _ _).alloc _ _).alloc _ _).drew⟩
    · exact ⟨X.heap.size, X.heap.size + 1, X.heap.size + 1 + 1, rfl, bk_at (al0 X _ _ _), own_at hl (al1 X _ _ _), own_at hl (al2 X _ _ _), by omega, by omega, by omega, ((((Kept.refl X).alloc _ _).alloc _ _).alloc _ _).drew⟩
    · exact ⟨X.heap.size, X.heap.size + 1 + 1, X.heap.size + 1, rfl, bk_at (al0 X _ _ _), own_at hl (al2 X _ _ _), own_at hl (al1 X _ _ _), by omega, by omega, by omega, ((((Kept.refl X).alloc _ _).alloc _ _).alloc _ _).drew⟩
  case rest =>
    obtain ⟨B2, g1, g2, rfl, b2, o1, o2, h12, h1, h2, kx⟩ := hcut
    have z0 := b2.c 0 _ rfl
    have z1 := b2.c 1 _ rfl
    have b0' := b0.kept kx
    clear p0 p1 p2 p3
    have p3 := b0'.c 3 _ rfl
    have b1' := b1.kept kx
    have e0 := b1'.c 0 _ rfl
    have e1 := b1'.c 1 _ rfl
    have e2 := b1'.c 2 _ rfl
    have ef := b1'.fz
    have hb1 := b1.lt
    have n1 : Hid (g1 ≠ B1 ∧ g2 ≠ B1) := (show _ ∧ _ from ⟨by omega, by omega⟩)
    have hw : Hid (w.heap.size ≤ g1 ∧ w.heap.size ≤ g2 ∧ w.heap.size ≤ B1) := (show _ ∧ _ ∧ _ from ⟨by have := hK.below.size; omega, by have := hK.below.size; omega, oB.out⟩)
    have HH : Hid (g1 ≠ g2) := h12
    clear h12 h1 h2 hb1
    go_wp2_with fail
    refine wp_loop_rounds 1 ?_
    rw [rounds_succ]
    go_wp2_with fail
    exact bodyPost_ret (v := .agg #[.slice s l k, .slice (some ⟨g1, 0, none⟩) l l, .slice (some ⟨g2, 0, none⟩) l l]) (by simp [results, Try.results27, go_sem, e0, e1, e2]) rfl ⟨g1, g2, rfl, HH.out, hw.out.1, hw.out.2.1, ((o1.setOther n1.out.1 _).setOther n1.out.1 _).setOther n1.out.1 _, ((o2.setOther n1.out.2 _).setOther n1.out.2 _).setOther n1.out.2 _, (((hK.trans kx).setCell hw.out.2.2 _).setCell hw.out.2.2 _).setCell hw.out.2.2 _⟩
end Go.Proofs.Ytojhhimmfnccjaa
