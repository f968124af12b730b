/- The walks of exact's kindOf, ways, roundingOf at width 64, to the nearest; pieces; below and take of one digit. -/
import Derived.Test.YtalhnaakbekboaaDoorU18
import Derived.Laws.EntriesVeiled
namespace Go.Proofs.YtalhnaakbekboaaDoor
open Go.ChangeShapes Go.WideShapes Go.ChangeAt Go.RowKit
set_option linter.unusedVariables false
set_option linter.unusedSimpArgs false

abbrev kind64 : Value := .agg #[.int .i64 64, .int .i64 53, .int .i64 (-1074), .int .i64 9218868437227405312]
set_option maxHeartbeats 1000000 in
set_option maxRecDepth 100000 in
theorem kindOf_64 (w : World) : Calls Tryd.prog 48 #[.int .i64 64] w fun e w' => e = .returned (.tuple #[kind64, .bool true]) ∧ Kept w w' := by
  go_enter Tryd.func48, Tryd.ntmps48
  go_wp2
  exact bodyPost_ret (v := .tuple #[kind64, .bool true]) (by simp [results, Tryd.results48, go_sem]) rfl ⟨rfl, (Kept.refl _).alloc _ _⟩

set_option maxHeartbeats 1000000 in
set_option maxRecDepth 100000 in
theorem ways_any (w : World) : Calls Tryd.prog 86 #[] w fun e w' => e = .returned (.agg #[.func (.func 102) #[] #[], .func (.func 103) #[] #[], .func (.func 104) #[] #[]]) ∧ Kept w w' := by
  go_enter Tryd.func86, Tryd.ntmps86
  go_wp2
  refine bodyPost_ret (v := .agg #[.func (.func 102) #[] #[], .func (.func 103) #[] #[], .func (.func 104) #[] #[]]) (by simp [results, Tryd.results86, go_sem]) rfl ⟨rfl, (Kept.refl _).alloc _ _⟩

set_option maxHeartbeats 1000000 in
set_option maxRecDepth 100000 in
theorem index_ways (a b c : Value) (w : World) : (Instr.index 135 (.agg #[a, b, c]) (.int .i64 0)).run Tryd.prog w = .ok (.agg #[a]) w := by
  kernel_rfl

theorem set5 (u : World) (b c o : Nat) (h : c ≠ b) (v0 v1 v2 v3 v4 : Value) : (((((u.setCell ⟨b, 0, none⟩ v0).setCell ⟨b, 1, none⟩ v1).setCell ⟨b, 2, none⟩ v2).setCell ⟨b, 3, none⟩ v3).setCell ⟨b, 4, none⟩ v4).cell? ⟨c, o, none⟩ = u.cell? ⟨c, o, none⟩ :=
  World.cell?_of_block (a := ⟨c, o, none⟩) ((Below.heap_setCell _ _ _ c h).trans ((Below.heap_setCell _ _ _ c h).trans ((Below.heap_setCell _ _ _ c h).trans ((Below.heap_setCell _ _ _ c h).trans (Below.heap_setCell _ _ _ c h)))))

abbrev round64 : Value := .agg #[.int .i64 64, .int .i64 53, .int .i64 (-1074), .int .i64 9218868437227405312, .func (.func 102) #[] #[]]
abbrev nilRound : Obj := .cells #[.int .i64 0, .int .i64 0, .int .i64 0, .int .i64 0, .nilFunc] 111

set_option maxHeartbeats 2000000 in
set_option maxRecDepth 100000 in
theorem roundingOf_64 (given : Value) (w : World) (KV : Hid (∀ w', Kept w w' → Calls Tryd.prog 54 #[given] w' fun e w'' => e = .returned (.bool true) ∧ Kept w' w'')) : Calls Tryd.prog 69 #[.int .i64 64, .int .i64 0, given] w fun e w' => e = .returned (.tuple #[round64, .int .i64 0]) ∧ Kept w w' := by
  have hK : Kept w (w.alloc nilRound) := (Kept.refl w).alloc _ _
  have hidx := index_ways (.func (.func 102) #[] #[]) (.func (.func 103) #[] #[]) (.func (.func 104) #[] #[])
  go_enter Tryd.func69, Tryd.ntmps69
  go_wp2_with (first | (go_at_call 48; refine (kindOf_64 _).mono ?_; rintro e w1 ⟨rfl, hk1⟩) | (go_at_call 54; refine (KV.out _ (hK.trans (hk1.alloc _ _))).mono ?_; rintro e w2 ⟨rfl, hk2⟩))
  have hkk := hk1.alloc #[.int .i64 64, .int .i64 53, .int .i64 (-1074), .int .i64 9218868437227405312] 81
  have hsz : w.heap.size + 1 ≤ w1.heap.size := by have := hk1.below.size; simpa using this
  have hne : ¬ w1.heap.size = w.heap.size := by omega
  have HS : Hid (∀ u, Kept (w1.alloc (.cells #[.int .i64 64, .int .i64 53, .int .i64 (-1074), .int .i64 9218868437227405312] 81)) u → u.cell? ⟨w1.heap.size, 0, none⟩ = some (.int .i64 64) ∧ u.cell? ⟨w1.heap.size, 1, none⟩ = some (.int .i64 53) ∧ u.cell? ⟨w1.heap.size, 2, none⟩ = some (.int .i64 (-1074)) ∧ u.cell? ⟨w1.heap.size, 3, none⟩ = some (.int .i64 9218868437227405312)) := fun u k => ⟨(laid_cell k 0).trans (by simp [go_sem]), (laid_cell k 1).trans (by simp [go_sem]), (laid_cell k 2).trans (by simp [go_sem]), (laid_cell k 3).trans (by simp [go_sem])⟩
  have HR : Hid (∀ u, Kept (w.alloc nilRound) u → (u.cell? ⟨w.heap.size, 0, none⟩ = some (.int .i64 0) ∧ u.cell? ⟨w.heap.size, 1, none⟩ = some (.int .i64 0) ∧ u.cell? ⟨w.heap.size, 2, none⟩ = some (.int .i64 0) ∧ u.cell? ⟨w.heap.size, 3, none⟩ = some (.int .i64 0) ∧ u.cell? ⟨w.heap.size, 4, none⟩ = some .nilFunc) ∧ ∀ o, u.frozen? ⟨w.heap.size, o, none⟩ = false) := fun u k => ⟨⟨(laid_cell k 0).trans (by simp [go_sem]), (laid_cell k 1).trans (by simp [go_sem]), (laid_cell k 2).trans (by simp [go_sem]), (laid_cell k 3).trans (by simp [go_sem]), (laid_cell k 4).trans (by simp [go_sem])⟩, fun o => (k.frozen _).trans (by simp [go_sem])⟩
  refine wp_region_held_drew (S := fun u => u.cell? ⟨w1.heap.size, 0, none⟩ = some (.int .i64 64) ∧ u.cell? ⟨w1.heap.size, 1, none⟩ = some (.int .i64 53) ∧ u.cell? ⟨w1.heap.size, 2, none⟩ = some (.int .i64 (-1074)) ∧ u.cell? ⟨w1.heap.size, 3, none⟩ = some (.int .i64 9218868437227405312)) (by kernel_rfl) (HS.out _ hk2.drew) (fun hHeld => ?_)
  refine wpAnyH_take (i := 0) (v := ?_) rfl (by kernel_rfl) (by kernel_rfl) (by kernel_rfl) (fun _ _ _ h => h) (Or.inl ⟨by rfl, ?hy0⟩) (by assumption) ?_
  case hy0 => (intro w hSw; (try dsimp only at hSw); go_simp; try (with_reducible rfl))
  try simp only [Act.put, List.setIfInBounds_toArray, List.set_cons_zero, List.set_cons_succ]
  refine wpAnyH_take (i := 2) (v := ?_) rfl (by kernel_rfl) (by kernel_rfl) (by kernel_rfl) (fun _ _ _ h => h) (Or.inl ⟨by rfl, ?hy2⟩) (by assumption) ?_
  case hy2 => (intro w hSw; (try dsimp only at hSw); go_simp; try (with_reducible rfl))
  try simp only [Act.put, List.setIfInBounds_toArray, List.set_cons_zero, List.set_cons_succ]
  refine wpAnyH_ready (rs := [1]) (by kernel_rfl) (by simp) ?_
  refine AllReadyH.cons rfl (fun K hK9 => ?_) AllReadyH.nil
  go_simp
  go_wp2_with (first | (go_at_call 86; refine (ways_any _).mono ?_; rintro e w3 ⟨rfl, hk3⟩; have e0 := HS.out _ (hk2.drew.trans hk3)))
  refine hK9.out _ _ e0 (fun hHeld2 => ?_)
  clear hK9 K hHeld
  refine wpAnyH_take (i := 3) (v := ?_) rfl (by kernel_rfl) (by kernel_rfl) (by kernel_rfl) (fun _ _ _ h => h) (Or.inl ⟨by rfl, ?hy3⟩) (by assumption) ?_
  case hy3 => (intro w hSw; (try dsimp only at hSw); go_simp; try (with_reducible rfl))
  try simp only [Act.put, List.setIfInBounds_toArray, List.set_cons_zero, List.set_cons_succ]
  refine wpAnyH_take (i := 4) (v := ?_) rfl (by kernel_rfl) (by kernel_rfl) (by kernel_rfl) (fun _ _ _ h => h) (Or.inl ⟨by rfl, ?hy4⟩) (by assumption) ?_
  case hy4 => (intro w hSw; (try dsimp only at hSw); go_simp; try (with_reducible rfl))
  try simp only [Act.put, List.setIfInBounds_toArray, List.set_cons_zero, List.set_cons_succ]
  obtain ⟨⟨r0, r1, r2, r3, r4⟩, rf⟩ := HR.out _ (hkk.trans (hk2.drew.trans hk3))
  refine wpAnyH_ready (rs := [5]) (by kernel_rfl) (by simp) ?_
  refine AllReadyH.cons rfl (fun K hK9 => ?_) AllReadyH.nil
  go_simp
  refine hK9.out _ _ ⟨(set5 _ _ _ _ hne _ _ _ _ _).trans e0.1, (set5 _ _ _ _ hne _ _ _ _ _).trans e0.2.1, (set5 _ _ _ _ hne _ _ _ _ _).trans e0.2.2.1, (set5 _ _ _ _ hne _ _ _ _ _).trans e0.2.2.2⟩ (fun hHeld3 => ?_)
  clear hK9 K hHeld2
  refine wpAnyH_take (i := 6) (v := ?_) rfl (by kernel_rfl) (by kernel_rfl) (by kernel_rfl) (fun _ _ _ h => h) (Or.inl ⟨by rfl, ?hy6⟩) (by assumption) ?_
  case hy6 => (intro w hSw; (try dsimp only at hSw); go_simp; try (with_reducible rfl))
  try simp only [Act.put, List.setIfInBounds_toArray, List.set_cons_zero, List.set_cons_succ]
  refine wpAnyH_done (by kernel_rfl) ?_ _
  clear hHeld3
  simp only [List.getElem_toArray, List.getElem_cons_succ, List.getElem_cons_zero, List.setIfInBounds_toArray, List.set_cons_zero, List.set_cons_succ]
  go_wp2
  refine bodyPost_ret (v := .tuple #[round64, .int .i64 0]) (by simp [results, Tryd.results69, go_sem, r0, r1, r2, r3, r4]) rfl ⟨rfl, ?_⟩
  exact (hK.trans (hkk.trans (hk2.drew.trans hk3))).setCell (by simp) _ |>.setCell (by simp) _ |>.setCell (by simp) _ |>.setCell (by simp) _ |>.setCell (by simp) _

end Go.Proofs.YtalhnaakbekboaaDoor
