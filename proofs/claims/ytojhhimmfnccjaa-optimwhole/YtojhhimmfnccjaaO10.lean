/- Package optim: a step by the plain rule. -/
import Derived.Test.YtojhhimmfnccjaaO6
import Derived.Deep.MidRow
import Derived.Deep.WholeRow
namespace Go.Proofs.Ytojhhimmfnccjaa
open Go.ChangeShapes Go.WideShapes Go.ChangeAt Go.RowKit Ieee
set_option linter.unusedVariables false
set_option linter.unusedSimpArgs false

theorem st_row : ∃ d, Try.prog.underlying 43 = some d ∧ d.isRow = true := by
  have h : (Try.prog.underlying 43).map TypeDesc.isRow = some true := by kernel_rfl
  cases e : Try.prog.underlying 43 with
  | none => rw [e] at h; cases h
  | some d => rw [e] at h; exact ⟨d, rfl, by simpa using h⟩
theorem st_size : (Try.prog.info? 43).map (·.size) = some 17 := by kernel_rfl
theorem st17 (rb r c n : Int) (l k k' : Nat) (s s' : Option Addr) (u : World) : (Instr.storeAt 43 (.pointer (some ⟨u.heap.size, 0, none⟩)) (.agg (svL rb r c n l s k s' k').toArray)).run Try.prog (u.alloc (.cells #[.int .i64 0, .int .i64 0, .int .i64 0, .int .i64 0, .int .i64 0, .int .i64 0, .int .i64 0, .int .i64 0, .int .i64 0, .int .i64 0, .int .i64 0, .slice none 0 0, .int .i64 0, .int .i64 0, .int .i64 0, .slice none 0 0, .slice none 0 0] 43)) = .ok () (u.alloc (.cells (svL rb r c n l s k s' k').toArray 43)) :=
  run_storeAt_new u 43 _ _ st_size rfl (by simp [Value.oneCell'])
set_option maxHeartbeats 8000000 in
set_option maxRecDepth 100000 in
theorem step_64 (rb r c n : Int) (h32 : (n == 32) = false) (l k k' : Nat) (s s' : Option Addr) (LL : List Int) (w : World)
    (KC : Hid (∀ u, Kept w u → Calls Try.prog 11 #[.agg (svL rb r c n l s k s' k').toArray] u fun e w' => e = .returned (.int .i64 0) ∧ Kept u w'))
    (KL : Hid (∀ u, Kept w u → Calls Try.prog 14 #[.agg (svL rb r c n l s k s' k').toArray, .func (.func 15) #[] #[], .func (.func 10) #[] #[]] u fun e w' => ∃ g, e = .returned (.tuple #[.agg #[.int .i64 r, .int .i64 c, .int .i64 n, .slice (some ⟨g, 0, none⟩) l l], .slice none 0 0, .int .i64 0, .int .i64 0]) ∧ u.heap.size ≤ g ∧ Own w' g l LL ∧ Kept u w')) :
    Calls Try.prog 6 #[z7, .int .i64 rb, .agg #[.int .i64 r, .int .i64 c, .int .i64 n, .slice s l k], .agg #[.int .i64 r, .int .i64 c, .int .i64 n, .slice s' l k'], .slice none 0 0] w fun e w' => ∃ g, e = .returned (.tuple #[.agg #[.int .i64 r, .int .i64 c, .int .i64 n, .slice (some ⟨g, 0, none⟩) l l], .slice none 0 0, .int .i64 0, .int .i64 0]) ∧ w.heap.size ≤ g ∧ Own w' g l LL ∧ Kept w w' := by
  obtain ⟨X1, hX1⟩ : ∃ X, X = w.alloc (.cells #[.int .i64 0, .int .i64 0, .int .i64 0, .int .i64 0, .int .i64 0, .int .i64 0, .int .i64 0] 32) := ⟨_, rfl⟩
  obtain ⟨X2, hX2⟩ : ∃ X, X = X1.alloc (.cells #[.int .i64 r, .int .i64 c, .int .i64 n, .slice s l k] 25) := ⟨_, rfl⟩
  obtain ⟨X3, hX3⟩ : ∃ X, X = X2.alloc (.cells #[.int .i64 r, .int .i64 c, .int .i64 n, .slice s' l k'] 25) := ⟨_, rfl⟩
  obtain ⟨X, hX⟩ : ∃ X, X = X3.alloc (.cells #[.int .i64 0, .int .i64 0, .int .i64 0, .slice none 0 0] 25) := ⟨_, rfl⟩
  obtain ⟨B5, hB5⟩ : ∃ B, B = w.heap.size := ⟨_, rfl⟩
  obtain ⟨B7, hB7⟩ : ∃ B, B = X1.heap.size := ⟨_, rfl⟩
  obtain ⟨B8, hB8⟩ : ∃ B, B = X2.heap.size := ⟨_, rfl⟩
  obtain ⟨B10, hB10⟩ : ∃ B, B = X3.heap.size := ⟨_, rfl⟩
  have e1 : X1.heap.size = w.heap.size + 1 := by rw [hX1]; simp
  have e2 : X2.heap.size = w.heap.size + 1 + 1 := by rw [hX2, ← e1]; simp
  have e3 : X3.heap.size = w.heap.size + 1 + 1 + 1 := by rw [hX3, ← e2]; simp
  have k3 : Kept X3 X := by rw [hX]; exact (Kept.refl X3).alloc _ _
  have k2 : Kept X2 X := by refine Kept.trans ?_ k3; rw [hX3]; exact (Kept.refl X2).alloc _ _
  have k1 : Kept X1 X := by refine Kept.trans ?_ k2; rw [hX2]; exact (Kept.refl X1).alloc _ _
  have hK : Kept w X := by refine Kept.trans ?_ k1; rw [hX1]; exact (Kept.refl w).alloc _ _
  have b5 : Bk X B5 z7l := by refine Bk.kept (w := X1) ?_ k1; rw [hX1, hB5]; exact Bk.new w z7l _
  have b7 : Bk X B7 [.int .i64 r, .int .i64 c, .int .i64 n, .slice s l k] := by refine Bk.kept (w := X2) ?_ k2; rw [hX2, hB7]; exact Bk.new X1 [.int .i64 r, .int .i64 c, .int .i64 n, .slice s l k] _
  have b8 : Bk X B8 [.int .i64 r, .int .i64 c, .int .i64 n, .slice s' l k'] := by refine Bk.kept (w := X3) ?_ k3; rw [hX3, hB8]; exact Bk.new X2 [.int .i64 r, .int .i64 c, .int .i64 n, .slice s' l k'] _
  have b10 : Bk X B10 [.int .i64 0, .int .i64 0, .int .i64 0, .slice none 0 0] := by rw [hX, hB10]; exact Bk.new X3 [.int .i64 0, .int .i64 0, .int .i64 0, .slice none 0 0] _
  have o10 : Hid (w.heap.size ≤ B10) := (show w.heap.size ≤ B10 by omega)
  go_enter Try.func6, Try.ntmps6
  go_upto_region 1 with fail
  rw [← hX1, ← hX2, ← hX3, ← hX, ← e3, ← e2, ← e1, ← hB5, ← hB7, ← hB8, ← hB10]
  clear hX hX1 hX2 hX3 hB5 hB7 hB8 hB10 e1 e2 e3 k1 k2 k3
  have b5c0 := b5.c 0 _ rfl
  have b5c1 := b5.c 1 _ rfl
  have b5c2 := b5.c 2 _ rfl
  have b5c3 := b5.c 3 _ rfl
  have b5c4 := b5.c 4 _ rfl
  have b5c5 := b5.c 5 _ rfl
  have b5c6 := b5.c 6 _ rfl
  have b7c0 := b7.c 0 _ rfl
  have b7c1 := b7.c 1 _ rfl
  have b7c2 := b7.c 2 _ rfl
  have b7c3 := b7.c 3 _ rfl
  have b8c0 := b8.c 0 _ rfl
  have b8c1 := b8.c 1 _ rfl
  have b8c2 := b8.c 2 _ rfl
  have b8c3 := b8.c 3 _ rfl
  have H7 := hid b7
  have H10 := hid b10
  have HK := hid hK
  clear b5 b7 b8 b10 hK
  have hst := st17 rb r c n l k k' s s' X
  go_upto_region 2 with fail
  clear hst
  obtain ⟨Y, hY⟩ : ∃ Y, Y = X.alloc (.cells (svL rb r c n l s k s' k').toArray 43) := ⟨_, rfl⟩
  obtain ⟨B14, hB14⟩ : ∃ B, B = X.heap.size := ⟨_, rfl⟩
  have kY : Kept X Y := by rw [hY]; exact (Kept.refl X).alloc _ _
  have b14 : Bk Y B14 (svL rb r c n l s k s' k') := by rw [hY, hB14]; exact Bk.new X _ _
  rw [← hY, ← hB14]
  clear hY hB14
  have HY := hid kY
  have H14 := hid b14
  clear b5c0 b5c1 b5c2 b5c3 b5c4 b5c5 b5c6 b7c0 b7c1 b7c2 b7c3 b8c0 b8c1 b8c2 b8c3
  obtain ⟨d, hd1, hd2⟩ := st_row
  have RG : Hid (∀ u, Kept Y u → u.rangeAt B14 0 (svL rb r c n l s k s' k')) := fun u q j v e => by rw [Nat.zero_add]; exact (b14.kept q).c j v e
  clear kY b14
  refine wp_region_lit ?_
  refine wpList_load_mid rfl _ _ rfl B14 0 rfl _ d (RG.out _ (Kept.refl Y)) hd1 hd2 st_size ?_
  (try simp only [Act.put, List.getElem_toArray, List.getElem_cons_succ, List.getElem_cons_zero, List.setIfInBounds_toArray, List.set_cons_zero, List.set_cons_succ])
  go_upto_region 5 with (first | (go_at_call 11; refine (KC.out _ (HK.out.trans HY.out)).mono ?_; rintro e u1 ⟨rfl, k1⟩))
  have w2 := ((H7.out.kept HY.out).kept k1).c 2 _ rfl
  have K1 := hid k1
  clear k1
  go_upto_region 7 with fail
  refine wp_region_lit ?_
  refine wpList_load_mid rfl _ _ rfl B14 0 rfl _ d (RG.out _ K1.out) hd1 hd2 st_size ?_
  (try simp only [Act.put, List.getElem_toArray, List.getElem_cons_succ, List.getElem_cons_zero, List.setIfInBounds_toArray, List.set_cons_zero, List.set_cons_succ])
  go_wp2_with (first | (go_at_call 14; refine (KL.out _ ((HK.out.trans HY.out).trans K1.out)).mono ?_; rintro e u2 ⟨g, rfl, hg, ho, k2⟩; have b10' := ((H10.out.kept HY.out).kept K1.out).kept k2; have e0 := b10'.c 0 _ rfl; have e1 := b10'.c 1 _ rfl; have e2 := b10'.c 2 _ rfl; have e3 := b10'.c 3 _ rfl; have ef := b10'.fz))
  have hK := HK.out
  have kY := HY.out
  have k1 := K1.out
  have hlt := H10.out.lt
  have hs1 := (kY.trans k1).below.size
  have hs2 := (hK.trans (kY.trans k1)).below.size
  have n10 : g ≠ B10 := by omega
  exact bodyPost_ret (v := .tuple #[.agg #[.int .i64 r, .int .i64 c, .int .i64 n, .slice (some ⟨g, 0, none⟩) l l], .slice none 0 0, .int .i64 0, .int .i64 0]) (by simp [results, Try.results6, go_sem, e0, e1, e2, e3]) rfl ⟨g, rfl, by omega, (((ho.setOther n10 _).setOther n10 _).setOther n10 _).setOther n10 _, (((((((hK.trans kY).trans k1).trans k2).setCell o10.out _).setCell o10.out _).setCell o10.out _).setCell o10.out _)⟩
end Go.Proofs.Ytojhhimmfnccjaa
