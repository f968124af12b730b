/- Package optim: a matrix that is finite; slots of the plain rule. -/
import Derived.Test.YtojhhimmfnccjaaO1
namespace Go.Proofs.Ytojhhimmfnccjaa
open Go.ChangeShapes Go.WideShapes Go.ChangeAt Go.RowKit
set_option linter.unusedVariables false
set_option linter.unusedSimpArgs false

set_option maxHeartbeats 4000000 in
set_option maxRecDepth 100000 in
theorem shapes_nil (w : World) : Calls Try.prog 47 #[.slice none 0 0] w fun e w' => (∃ g, e = .returned (.slice (some ⟨g, 0, none⟩) 0 0)) ∧ Kept w w' := by
  go_enter Try.func47, Try.ntmps47
  have hm : (Instr.makeSlice 91 (.int .i64 0) (.int .i64 0)).run Try.prog w = .ok (.slice (some ⟨w.heap.size, 0, none⟩) 0 0) (w.alloc (.cells #[] 60)) := by kernel_rfl
  go_wp2_with fail
  refine wp_loop_rounds 1 ?_
  rw [rounds_succ]
  go_wp2_with fail
  go_ret
  exact ⟨⟨_, rfl⟩, (Kept.refl w).alloc _ _⟩
theorem equal_nil (a b : Option Addr) (w : World) : Calls Try.prog 46 #[.slice a 0 0, .slice b 0 0] w fun e w' => e = .returned (.bool true) ∧ Kept w w' := by
  go_enter Try.func46, Try.ntmps46
  go_wp2_with fail
  refine wp_loop_rounds 1 ?_
  rw [rounds_succ]
  go_wp2_with fail
  go_ret
  exact ⟨rfl, Kept.refl w⟩
theorem fresh_0 (r c n : Int) (s : Option Addr) (l k : Nat) (w : World) : Calls Try.prog 26 #[.int .i64 0, .agg #[.int .i64 r, .int .i64 c, .int .i64 n, .slice s l k]] w fun e w' => e = .returned (.slice none 0 0) ∧ Kept w w' := by
  go_enter Try.func26, Try.ntmps26
  go_wp2_with fail
  go_ret
  exact ⟨rfl, (Kept.refl w).alloc _ _⟩
set_option maxHeartbeats 4000000 in
set_option maxRecDepth 100000 in
theorem noughts_ok (R C : Nat) (n : Int) (hn : n = 64 ∨ n = 32) (h : ckS R C n = 0) (rc : Nat) (hrc : R * C = rc) (hRC : rc ≤ 4096) (s : Option Addr) (l k : Nat) (w : World) : Calls Try.prog 25 #[.agg #[.int .i64 R, .int .i64 C, .int .i64 n, .slice s l k]] w fun e w' => ∃ g, e = .returned (.agg #[.int .i64 R, .int .i64 C, .int .i64 n, .slice (some ⟨g, 0, none⟩) rc rc]) ∧ w.heap.size ≤ g ∧ Own w' g rc (List.replicate rc 0) ∧ Kept w w' := by
  obtain ⟨X, hX⟩ : ∃ X, X = (w.alloc (.cells #[.int .i64 R, .int .i64 C, .int .i64 n, .slice s l k] 25)).alloc (.cells #[.int .i64 0, .int .i64 0, .int .i64 0, .slice none 0 0] 25) := ⟨_, rfl⟩
  obtain ⟨B0, hB0⟩ : ∃ B, B = w.heap.size := ⟨_, rfl⟩
  obtain ⟨B1, hB1⟩ : ∃ B, B = B0 + 1 := ⟨_, rfl⟩
  have hK : Kept w X := by rw [hX]; exact ((Kept.refl w).alloc _ _).alloc _ _
  have b0 : Bk X B0 [.int .i64 R, .int .i64 C, .int .i64 n, .slice s l k] := by rw [hX, hB0]; exact (Bk.new w [.int .i64 R, .int .i64 C, .int .i64 n, .slice s l k] _).alloc _ _
  have b1 : Bk X B1 [.int .i64 0, .int .i64 0, .int .i64 0, .slice none 0 0] := by
    rw [hX, hB1, hB0]
    have := Bk.new (w.alloc (.cells #[.int .i64 R, .int .i64 C, .int .i64 n, .slice s l k] 25)) [.int .i64 0, .int .i64 0, .int .i64 0, .slice none 0 0] 25
    simpa using this
  have oB : Hid (w.heap.size ≤ B1 ∧ w.heap.size ≤ X.heap.size) := (show _ ∧ _ from ⟨by omega, hK.below.size⟩)
  have KZ : Hid (∀ u, Calls Try.prog 48 #[.int .i64 R, .int .i64 C, .int .i64 n] u fun e w' => ∃ g, e = .returned (.tuple #[.agg #[.int .i64 R, .int .i64 C, .int .i64 n, .slice (some ⟨g, 0, none⟩) rc rc], .int .i64 0]) ∧ u.heap.size ≤ g ∧ Own w' g rc (List.replicate rc 0) ∧ Kept u w') := fun u => zero_ok R C n hn h rc hrc hRC u
  clear h hn hrc hRC
  go_enter Try.func25, Try.ntmps25
  go_upto_region 1 with fail
  rw [← hX, ← hB0, ← hB1]
  clear hX hB0 hB1
  have c0 := b0.c 0 _ rfl
  have c1 := b0.c 1 _ rfl
  have c2 := b0.c 2 _ rfl
  go_upto_region 2 with (first | (go_at_call 48; refine (KZ.out _).mono ?_; rintro e u1 ⟨g, rfl, hg, ho, k1⟩))
  obtain ⟨Y, hY⟩ : ∃ Y, Y = u1.alloc (.cells #[.int .i64 R, .int .i64 C, .int .i64 n, .slice (some ⟨g, 0, none⟩) rc rc] 25) := ⟨_, rfl⟩
  obtain ⟨B2, hB2⟩ : ∃ B, B = u1.heap.size := ⟨_, rfl⟩
  have kY : Kept u1 Y := by rw [hY]; exact (Kept.refl u1).alloc _ _
  have b2 : Bk Y B2 [.int .i64 R, .int .i64 C, .int .i64 n, .slice (some ⟨g, 0, none⟩) rc rc] := by rw [hY, hB2]; exact Bk.new u1 [.int .i64 R, .int .i64 C, .int .i64 n, .slice (some ⟨g, 0, none⟩) rc rc] _
  rw [← hY, ← hB2]
  have hlt := b1.lt
  have hgl := ho.lt
  have n1 : Hid (g ≠ B1) := (show g ≠ B1 by omega)
  have hg2 : Hid (w.heap.size ≤ g) := (show w.heap.size ≤ g by have := oB.out.2; omega)
  have oY := ho.kept kY
  clear hY hB2 c0 c1 c2
  have bY := b1.kept (k1.trans kY)
  have e0 := bY.c 0 _ rfl
  have e1 := bY.c 1 _ rfl
  have e2 := bY.c 2 _ rfl
  have e3 := bY.c 3 _ rfl
  have ef := bY.fz
  have d0 := b2.c 0 _ rfl
  have d1 := b2.c 1 _ rfl
  have d2 := b2.c 2 _ rfl
  have d3 := b2.c 3 _ rfl
  clear hlt hgl hg
  go_wp2_with fail
  exact bodyPost_ret (v := .agg #[.int .i64 R, .int .i64 C, .int .i64 n, .slice (some ⟨g, 0, none⟩) rc rc]) (by simp [results, Try.results25, go_sem, e0, e1, e2, e3]) rfl ⟨g, rfl, hg2.out, (((oY.setOther n1.out _).setOther n1.out _).setOther n1.out _).setOther n1.out _, (((((hK.trans k1).trans kY).setCell oB.out.1 _).setCell oB.out.1 _).setCell oB.out.1 _).setCell oB.out.1 _⟩
/-- a step by the plain rule, as it is handed on -/
abbrev svL (rb r c n : Int) (l : Nat) (s : Option Addr) (k : Nat) (s' : Option Addr) (k' : Nat) : List Value := [.int .i64 0, .int .i64 0, .int .i64 0, .int .i64 0, .int .i64 0, .int .i64 0, .int .i64 0, .int .i64 rb, .int .i64 r, .int .i64 c, .int .i64 n, .slice s l k, .int .i64 r, .int .i64 c, .int .i64 n, .slice s' l k', .slice none 0 0]
set_option maxHeartbeats 4000000 in
set_option maxRecDepth 100000 in
theorem checkSlots_0 (rb r c n : Int) (s s' : Option Addr) (l k k' : Nat) (w : World) : Calls Try.prog 24 #[.agg #[.int .i64 0, .int .i64 0, .int .i64 0, .int .i64 0, .int .i64 0, .int .i64 0, .int .i64 0, .int .i64 rb, .int .i64 r, .int .i64 c, .int .i64 n, .slice s l k, .int .i64 r, .int .i64 c, .int .i64 n, .slice s' l k', .slice none 0 0]] w fun e w' => e = .returned (.int .i64 0) ∧ Kept w w' := by
  obtain ⟨X, hX⟩ : ∃ X, X = w.alloc (.cells (svL rb r c n l s k s' k').toArray 43) := ⟨_, rfl⟩
  obtain ⟨B, hB⟩ : ∃ B, B = w.heap.size := ⟨_, rfl⟩
  have hK : Kept w X := by rw [hX]; exact (Kept.refl w).alloc _ _
  have hb : Bk X B (svL rb r c n l s k s' k') := by rw [hX, hB]; exact Bk.new w _ _
  have KS : Hid (∀ u, Calls Try.prog 47 #[.slice none 0 0] u fun e w' => (∃ g, e = .returned (.slice (some ⟨g, 0, none⟩) 0 0)) ∧ Kept u w') := fun u => shapes_nil u
  have KE : Hid (∀ a b u, Calls Try.prog 46 #[.slice a 0 0, .slice b 0 0] u fun e w' => e = .returned (.bool true) ∧ Kept u w') := fun a b u => equal_nil a b u
  have KF : Hid (∀ u, Calls Try.prog 26 #[.int .i64 0, .agg #[.int .i64 r, .int .i64 c, .int .i64 n, .slice s l k]] u fun e w' => e = .returned (.slice none 0 0) ∧ Kept u w') := fun u => fresh_0 r c n s l k u
  go_enter Try.func24, Try.ntmps24
  go_upto_region 1 with fail
  rw [← hX, ← hB]
  clear hX hB
  have HS : Hid (∀ u, Kept X u → Kept X u ∧ u.cell? ⟨B, 0, none⟩ = some (.int .i64 0) ∧ u.cell? ⟨B, 8, none⟩ = some (.int .i64 r) ∧ u.cell? ⟨B, 9, none⟩ = some (.int .i64 c) ∧ u.cell? ⟨B, 10, none⟩ = some (.int .i64 n) ∧ u.cell? ⟨B, 11, none⟩ = some (.slice s l k) ∧ u.cell? ⟨B, 16, none⟩ = some (.slice none 0 0)) := fun u q => ⟨q, (hb.kept q).c 0 _ rfl, (hb.kept q).c 8 _ rfl, (hb.kept q).c 9 _ rfl, (hb.kept q).c 10 _ rfl, (hb.kept q).c 11 _ rfl, (hb.kept q).c 16 _ rfl⟩
  refine wp_region_late [] (fun u => Kept X u ∧ u.cell? ⟨B, 0, none⟩ = some (.int .i64 0) ∧ u.cell? ⟨B, 8, none⟩ = some (.int .i64 r) ∧ u.cell? ⟨B, 9, none⟩ = some (.int .i64 c) ∧ u.cell? ⟨B, 10, none⟩ = some (.int .i64 n) ∧ u.cell? ⟨B, 11, none⟩ = some (.slice s l k) ∧ u.cell? ⟨B, 16, none⟩ = some (.slice none 0 0)) (by kernel_rfl) (HS.out _ (Kept.refl X).drew) (fun hHeld => ?_)
  refine wpAnyD_take (i := 0) (v := ?_) rfl (by kernel_rfl) (by kernel_rfl) (by kernel_rfl) (by kernel_rfl) (fun _ _ _ h => h) (Or.inl ⟨by rfl, ?hya0⟩) hHeld ?_
  case hya0 => (intro w hSw; (try dsimp only at hSw); go_simp; try (with_reducible rfl))
  (try simp only [Act.put, List.getElem_toArray, List.getElem_cons_succ, List.getElem_cons_zero, List.setIfInBounds_toArray, List.set_cons_zero, List.set_cons_succ])
  refine wpAnyD_take (i := 1) (v := ?_) rfl (by kernel_rfl) (by kernel_rfl) (by kernel_rfl) (by kernel_rfl) (fun _ _ _ h => h) (Or.inl ⟨by rfl, ?hya1⟩) hHeld ?_
  case hya1 => (intro w hSw; (try dsimp only at hSw); go_simp; try (with_reducible rfl))
  (try simp only [Act.put, List.getElem_toArray, List.getElem_cons_succ, List.getElem_cons_zero, List.setIfInBounds_toArray, List.set_cons_zero, List.set_cons_succ])
  refine wpAnyD_take (i := 3) (v := ?_) rfl (by kernel_rfl) (by kernel_rfl) (by kernel_rfl) (by kernel_rfl) (fun _ _ _ h => h) (Or.inl ⟨by rfl, ?hya3⟩) hHeld ?_
  case hya3 => (intro w hSw; (try dsimp only at hSw); go_simp; try (with_reducible rfl))
  (try simp only [Act.put, List.getElem_toArray, List.getElem_cons_succ, List.getElem_cons_zero, List.setIfInBounds_toArray, List.set_cons_zero, List.set_cons_succ])
  refine wpAnyD_take (i := 4) (v := ?_) rfl (by kernel_rfl) (by kernel_rfl) (by kernel_rfl) (by kernel_rfl) (fun _ _ _ h => h) (Or.inl ⟨by rfl, ?hya4⟩) hHeld ?_
  case hya4 => (intro w hSw; (try dsimp only at hSw); go_simp; try (with_reducible rfl))
  (try simp only [Act.put, List.getElem_toArray, List.getElem_cons_succ, List.getElem_cons_zero, List.setIfInBounds_toArray, List.set_cons_zero, List.set_cons_succ])
  refine wpAnyD_take (i := 5) (v := ?_) rfl (by kernel_rfl) (by kernel_rfl) (by kernel_rfl) (by kernel_rfl) (fun _ _ _ h => h) (Or.inl ⟨by rfl, ?hya5⟩) hHeld ?_
  case hya5 => (intro w hSw; (try dsimp only at hSw); go_simp; try (with_reducible rfl))
  (try simp only [Act.put, List.getElem_toArray, List.getElem_cons_succ, List.getElem_cons_zero, List.setIfInBounds_toArray, List.set_cons_zero, List.set_cons_succ])
  refine wpAnyD_take (i := 6) (v := ?_) rfl (by kernel_rfl) (by kernel_rfl) (by kernel_rfl) (by kernel_rfl) (fun _ _ _ h => h) (Or.inl ⟨by rfl, ?hya6⟩) hHeld ?_
  case hya6 => (intro w hSw; (try dsimp only at hSw); go_simp; try (with_reducible rfl))
  (try simp only [Act.put, List.getElem_toArray, List.getElem_cons_succ, List.getElem_cons_zero, List.setIfInBounds_toArray, List.set_cons_zero, List.set_cons_succ])
  refine wpAnyD_take (i := 7) (v := ?_) rfl (by kernel_rfl) (by kernel_rfl) (by kernel_rfl) (by kernel_rfl) (fun _ _ _ h => h) (Or.inl ⟨by rfl, ?hya7⟩) hHeld ?_
  case hya7 => (intro w hSw; (try dsimp only at hSw); go_simp; try (with_reducible rfl))
  (try simp only [Act.put, List.getElem_toArray, List.getElem_cons_succ, List.getElem_cons_zero, List.setIfInBounds_toArray, List.set_cons_zero, List.set_cons_succ])
  refine wpAnyD_step (i := 2) (by kernel_rfl) rfl (fun K hK9 => ?_)
  go_simp
  go_wp2_with fail
  refine (KS.out _).mono ?_
  rintro e u1 ⟨⟨g1, rfl⟩, k1⟩
  refine hK9.out _ _ (HS.out _ (hHeld.1.trans k1)) (fun hH1 => ?_)
  clear hK9 K
  (try simp only [Act.put, List.getElem_toArray, List.getElem_cons_succ, List.getElem_cons_zero, List.setIfInBounds_toArray, List.set_cons_zero, List.set_cons_succ])
  refine wpAnyD_step (i := 8) (by kernel_rfl) rfl (fun K hK9 => ?_)
  go_simp
  go_wp2_with fail
  refine (KF.out _).mono ?_
  rintro e u2 ⟨rfl, k2⟩
  refine hK9.out _ _ (HS.out _ (hH1.1.trans k2)) (fun hH2 => ?_)
  clear hK9 K
  (try simp only [Act.put, List.getElem_toArray, List.getElem_cons_succ, List.getElem_cons_zero, List.setIfInBounds_toArray, List.set_cons_zero, List.set_cons_succ])
  refine wpAnyD_step (i := 9) (by kernel_rfl) rfl (fun K hK9 => ?_)
  go_simp
  go_wp2_with fail
  refine (KS.out _).mono ?_
  rintro e u3 ⟨⟨g3, rfl⟩, k3⟩
  refine hK9.out _ _ (HS.out _ (hH2.1.trans k3)) (fun hH3 => ?_)
  clear hK9 K
  (try simp only [Act.put, List.getElem_toArray, List.getElem_cons_succ, List.getElem_cons_zero, List.setIfInBounds_toArray, List.set_cons_zero, List.set_cons_succ])
  refine wpAnyD_step (i := 10) (by kernel_rfl) rfl (fun K hK9 => ?_)
  go_simp
  go_wp2_with fail
  refine (KE.out _ _ _).mono ?_
  rintro e u4 ⟨rfl, k4⟩
  refine hK9.out _ _ (HS.out _ (hH3.1.trans k4)) (fun hH4 => ?_)
  clear hK9 K
  (try simp only [Act.put, List.getElem_toArray, List.getElem_cons_succ, List.getElem_cons_zero, List.setIfInBounds_toArray, List.set_cons_zero, List.set_cons_succ])
  refine wpAnyD_take (i := 11) (v := ?_) rfl (by kernel_rfl) (by kernel_rfl) (by kernel_rfl) (by kernel_rfl) (fun _ _ _ h => h) (Or.inl ⟨by rfl, ?hyb11⟩) hH4 ?_
  case hyb11 => (intro w hSw; (try dsimp only at hSw); go_simp; try (with_reducible rfl))
  (try simp only [Act.put, List.getElem_toArray, List.getElem_cons_succ, List.getElem_cons_zero, List.setIfInBounds_toArray, List.set_cons_zero, List.set_cons_succ])
  refine wpAnyD_done (by kernel_rfl) ?_ _
  (try simp only [Act.put, List.getElem_toArray, List.getElem_cons_succ, List.getElem_cons_zero, List.setIfInBounds_toArray, List.set_cons_zero, List.set_cons_succ])
  have h16 := hH4.2.2.2.2.2.2
  have hk := hH4.1
  clear hHeld hH1 hH2 hH3 hH4 k1 k2 k3 k4
  go_wp2_with fail
  refine wp_loop_rounds 1 ?_
  rw [rounds_succ]
  go_wp2_with fail
  go_ret
  exact ⟨rfl, hK.trans hk⟩
end Go.Proofs.Ytojhhimmfnccjaa
