/- Package optim: the checks of a step by the plain rule; its columns. -/
import Derived.Test.YtojhhimmfnccjaaO2
namespace Go.Proofs.Ytojhhimmfnccjaa
open Go.ChangeShapes Go.WideShapes Go.ChangeAt Go.RowKit
set_option linter.unusedVariables false
set_option linter.unusedSimpArgs false

set_option maxHeartbeats 4000000 in
set_option maxRecDepth 100000 in
theorem fits_ok (r c n : Int) (s : Option Addr) (l k : Nat) (w : World)
    (KC : Hid (∀ u, Kept w u → Calls Try.prog 45 #[.agg #[.int .i64 r, .int .i64 c, .int .i64 n, .slice s l k]] u fun e w' => e = .returned (.int .i64 0) ∧ Kept u w')) :
    Calls Try.prog 23 #[.agg #[.int .i64 r, .int .i64 c, .int .i64 n, .slice s l k], .agg #[.int .i64 r, .int .i64 c, .int .i64 n]] w fun e w' => e = .returned (.int .i64 0) ∧ Kept w w' := by
  obtain ⟨X, hX⟩ : ∃ X, X = (w.alloc (.cells #[.int .i64 r, .int .i64 c, .int .i64 n, .slice s l k] 25)).alloc (.cells #[.int .i64 r, .int .i64 c, .int .i64 n] 60) := ⟨_, rfl⟩
  obtain ⟨B0, hB0⟩ : ∃ B, B = w.heap.size := ⟨_, rfl⟩
  obtain ⟨B1, hB1⟩ : ∃ B, B = B0 + 1 := ⟨_, rfl⟩
  have hK : Kept w X := by rw [hX]; exact ((Kept.refl w).alloc _ _).alloc _ _
  have b0 : Bk X B0 [.int .i64 r, .int .i64 c, .int .i64 n, .slice s l k] := by rw [hX, hB0]; exact (Bk.new w [.int .i64 r, .int .i64 c, .int .i64 n, .slice s l k] _).alloc _ _
  have b1 : Bk X B1 [.int .i64 r, .int .i64 c, .int .i64 n] := by
    rw [hX, hB1, hB0]
    have := Bk.new (w.alloc (.cells #[.int .i64 r, .int .i64 c, .int .i64 n, .slice s l k] 25)) [.int .i64 r, .int .i64 c, .int .i64 n] 60
    simpa using this
  go_enter Try.func23, Try.ntmps23
  go_upto_region 1 with fail
  rw [← hX, ← hB0, ← hB1]
  clear hX hB0 hB1
  have p0 := b0.c 0 _ rfl
  have p1 := b0.c 1 _ rfl
  have p2 := b0.c 2 _ rfl
  have p3 := b0.c 3 _ rfl
  go_wp2_with (first | (go_at_call 45; refine (KC.out _ hK).mono ?_; rintro e u1 ⟨rfl, k1⟩; have q0 := (b0.kept k1).c 0 _ rfl; have q1 := (b0.kept k1).c 1 _ rfl; have q2 := (b0.kept k1).c 2 _ rfl; have s0 := (b1.kept k1).c 0 _ rfl; have s1 := (b1.kept k1).c 1 _ rfl; have s2 := (b1.kept k1).c 2 _ rfl))
  go_ret
  exact ⟨rfl, hK.trans k1⟩
set_option maxHeartbeats 4000000 in
set_option maxRecDepth 100000 in
theorem checkParameter_0 (r c n : Int) (s : Option Addr) (l k : Nat) (w : World)
    (KF : Hid (∀ u, Kept w u → Calls Try.prog 22 #[.agg #[.int .i64 r, .int .i64 c, .int .i64 n, .slice s l k]] u fun e w' => e = .returned (.tuple #[.int .i64 0, .int .i64 0]) ∧ Kept u w'))
    (KC : Hid (∀ u, Calls Try.prog 40 #[z7, .int .i64 n] u fun e w' => e = .returned (.int .i64 0) ∧ Kept u w')) :
    Calls Try.prog 20 #[z7, .agg #[.int .i64 r, .int .i64 c, .int .i64 n, .slice s l k]] w fun e w' => e = .returned (.int .i64 0) ∧ Kept w w' := by
  obtain ⟨X, hX⟩ : ∃ X, X = (w.alloc (.cells #[.int .i64 0, .int .i64 0, .int .i64 0, .int .i64 0, .int .i64 0, .int .i64 0, .int .i64 0] 32)).alloc (.cells #[.int .i64 r, .int .i64 c, .int .i64 n, .slice s l k] 25) := ⟨_, rfl⟩
  obtain ⟨B0, hB0⟩ : ∃ B, B = w.heap.size := ⟨_, rfl⟩
  obtain ⟨B1, hB1⟩ : ∃ B, B = B0 + 1 := ⟨_, rfl⟩
  have hK : Kept w X := by rw [hX]; exact ((Kept.refl w).alloc _ _).alloc _ _
  have b0 : Bk X B0 z7l := by rw [hX, hB0]; exact (Bk.new w z7l _).alloc _ _
  have b1 : Bk X B1 [.int .i64 r, .int .i64 c, .int .i64 n, .slice s l k] := by
    rw [hX, hB1, hB0]
    have := Bk.new (w.alloc (.cells #[.int .i64 0, .int .i64 0, .int .i64 0, .int .i64 0, .int .i64 0, .int .i64 0, .int .i64 0] 32)) [.int .i64 r, .int .i64 c, .int .i64 n, .slice s l k] 25
    simpa using this
  go_enter Try.func20, Try.ntmps20
  go_upto_region 1 with fail
  rw [← hX, ← hB0, ← hB1]
  clear hX hB0 hB1
  have p0 := b1.c 0 _ rfl
  have p1 := b1.c 1 _ rfl
  have p2 := b1.c 2 _ rfl
  have p3 := b1.c 3 _ rfl
  go_wp2_with (first | (go_at_call 22; refine (KF.out _ hK).mono ?_; rintro e u1 ⟨rfl, k1⟩; have q2 := (b1.kept k1).c 2 _ rfl; have z0 := (b0.kept k1).c 0 _ rfl; have z1 := (b0.kept k1).c 1 _ rfl; have z2 := (b0.kept k1).c 2 _ rfl; have z3 := (b0.kept k1).c 3 _ rfl; have z4 := (b0.kept k1).c 4 _ rfl; have z5 := (b0.kept k1).c 5 _ rfl; have z6 := (b0.kept k1).c 6 _ rfl) | (go_at_call 40; refine (KC.out _).mono ?_; rintro e u2 ⟨rfl, k2⟩))
  go_ret
  exact ⟨rfl, (hK.trans k1).trans k2⟩
set_option maxHeartbeats 4000000 in
set_option maxRecDepth 100000 in
theorem stepCheck_0 (rb rq r c n : Int) (s s' : Option Addr) (l k k' : Nat) (w : World)
    (KP : Hid (∀ u, Kept w u → Calls Try.prog 20 #[z7, .agg #[.int .i64 r, .int .i64 c, .int .i64 n, .slice s l k]] u fun e w' => e = .returned (.int .i64 0) ∧ Kept u w'))
    (KZ : Hid (∀ u, Calls Try.prog 21 #[.int .i64 rb, .int .i64 n] u fun e w' => e = .returned (.tuple #[.int .i64 rq, .bool true]) ∧ Kept u w'))
    (KF : Hid (∀ u, Kept w u → Calls Try.prog 22 #[.agg #[.int .i64 r, .int .i64 c, .int .i64 n, .slice s' l k']] u fun e w' => e = .returned (.tuple #[.int .i64 0, .int .i64 0]) ∧ Kept u w'))
    (KT : Hid (∀ u, Kept w u → Calls Try.prog 23 #[.agg #[.int .i64 r, .int .i64 c, .int .i64 n, .slice s' l k'], .agg #[.int .i64 r, .int .i64 c, .int .i64 n]] u fun e w' => e = .returned (.int .i64 0) ∧ Kept u w')) :
    Calls Try.prog 11 #[.agg (svL rb r c n l s k s' k').toArray] w fun e w' => e = .returned (.int .i64 0) ∧ Kept w w' := by
  obtain ⟨X, hX⟩ : ∃ X, X = w.alloc (.cells (svL rb r c n l s k s' k').toArray 43) := ⟨_, rfl⟩
  obtain ⟨B, hB⟩ : ∃ B, B = w.heap.size := ⟨_, rfl⟩
  have hK : Kept w X := by rw [hX]; exact (Kept.refl w).alloc _ _
  have hb : Bk X B (svL rb r c n l s k s' k') := by rw [hX, hB]; exact Bk.new w _ _
  have KL : Hid (∀ u, Calls Try.prog 24 #[.agg (svL rb r c n l s k s' k').toArray] u fun e w' => e = .returned (.int .i64 0) ∧ Kept u w') := fun u => checkSlots_0 rb r c n s s' l k k' u
  go_enter Try.func11, Try.ntmps11
  go_upto_region 1 with fail
  rw [← hX, ← hB]
  clear hX hB
  have hx := Kept.refl X
  have z0 := (hb.kept hx).c 0 _ rfl
  have z1 := (hb.kept hx).c 1 _ rfl
  have z2 := (hb.kept hx).c 2 _ rfl
  have z3 := (hb.kept hx).c 3 _ rfl
  have z4 := (hb.kept hx).c 4 _ rfl
  have z5 := (hb.kept hx).c 5 _ rfl
  have z6 := (hb.kept hx).c 6 _ rfl
  have z7 := (hb.kept hx).c 7 _ rfl
  have z8 := (hb.kept hx).c 8 _ rfl
  have z9 := (hb.kept hx).c 9 _ rfl
  have z10 := (hb.kept hx).c 10 _ rfl
  have z11 := (hb.kept hx).c 11 _ rfl
  have z12 := (hb.kept hx).c 12 _ rfl
  have z13 := (hb.kept hx).c 13 _ rfl
  have z14 := (hb.kept hx).c 14 _ rfl
  have z15 := (hb.kept hx).c 15 _ rfl
  have z16 := (hb.kept hx).c 16 _ rfl
  go_upto_region 4 with (first | (go_at_call 20; refine (KP.out _ (hK.trans hx)).mono ?_; rintro e u1 ⟨rfl, k1⟩; replace hx := hx.trans k1; clear k1))
  clear z0 z1 z2 z3 z4 z5 z6 z7 z8 z9 z10 z11 z12 z13 z14 z15 z16
  have z0 := (hb.kept hx).c 0 _ rfl
  have z1 := (hb.kept hx).c 1 _ rfl
  have z2 := (hb.kept hx).c 2 _ rfl
  have z3 := (hb.kept hx).c 3 _ rfl
  have z4 := (hb.kept hx).c 4 _ rfl
  have z5 := (hb.kept hx).c 5 _ rfl
  have z6 := (hb.kept hx).c 6 _ rfl
  have z7 := (hb.kept hx).c 7 _ rfl
  have z8 := (hb.kept hx).c 8 _ rfl
  have z9 := (hb.kept hx).c 9 _ rfl
  have z10 := (hb.kept hx).c 10 _ rfl
  have z11 := (hb.kept hx).c 11 _ rfl
  have z12 := (hb.kept hx).c 12 _ rfl
  have z13 := (hb.kept hx).c 13 _ rfl
  have z14 := (hb.kept hx).c 14 _ rfl
  have z15 := (hb.kept hx).c 15 _ rfl
  have z16 := (hb.kept hx).c 16 _ rfl
  go_upto_region 7 with (first | (go_at_call 21; refine (KZ.out _).mono ?_; rintro e u1 ⟨rfl, k1⟩; replace hx := hx.trans k1; clear k1))
  clear z0 z1 z2 z3 z4 z5 z6 z7 z8 z9 z10 z11 z12 z13 z14 z15 z16
  have z0 := (hb.kept hx).c 0 _ rfl
  have z1 := (hb.kept hx).c 1 _ rfl
  have z2 := (hb.kept hx).c 2 _ rfl
  have z3 := (hb.kept hx).c 3 _ rfl
  have z4 := (hb.kept hx).c 4 _ rfl
  have z5 := (hb.kept hx).c 5 _ rfl
  have z6 := (hb.kept hx).c 6 _ rfl
  have z7 := (hb.kept hx).c 7 _ rfl
  have z8 := (hb.kept hx).c 8 _ rfl
  have z9 := (hb.kept hx).c 9 _ rfl
  have z10 := (hb.kept hx).c 10 _ rfl
  have z11 := (hb.kept hx).c 11 _ rfl
  have z12 := (hb.kept hx).c 12 _ rfl
  have z13 := (hb.kept hx).c 13 _ rfl
  have z14 := (hb.kept hx).c 14 _ rfl
  have z15 := (hb.kept hx).c 15 _ rfl
  have z16 := (hb.kept hx).c 16 _ rfl
  go_upto_region 10 with (first | (go_at_call 22; refine (KF.out _ (hK.trans hx)).mono ?_; rintro e u1 ⟨rfl, k1⟩; replace hx := hx.trans k1; clear k1))
  clear z0 z1 z2 z3 z4 z5 z6 z7 z8 z9 z10 z11 z12 z13 z14 z15 z16
  have z0 := (hb.kept hx).c 0 _ rfl
  have z1 := (hb.kept hx).c 1 _ rfl
  have z2 := (hb.kept hx).c 2 _ rfl
  have z3 := (hb.kept hx).c 3 _ rfl
  have z4 := (hb.kept hx).c 4 _ rfl
  have z5 := (hb.kept hx).c 5 _ rfl
  have z6 := (hb.kept hx).c 6 _ rfl
  have z7 := (hb.kept hx).c 7 _ rfl
  have z8 := (hb.kept hx).c 8 _ rfl
  have z9 := (hb.kept hx).c 9 _ rfl
  have z10 := (hb.kept hx).c 10 _ rfl
  have z11 := (hb.kept hx).c 11 _ rfl
  have z12 := (hb.kept hx).c 12 _ rfl
  have z13 := (hb.kept hx).c 13 _ rfl
  have z14 := (hb.kept hx).c 14 _ rfl
  have z15 := (hb.kept hx).c 15 _ rfl
  have z16 := (hb.kept hx).c 16 _ rfl
  go_upto_region 13 with (first | (go_at_call 23; refine (KT.out _ (hK.trans hx)).mono ?_; rintro e u1 ⟨rfl, k1⟩; replace hx := hx.trans k1; clear k1))
  clear z0 z1 z2 z3 z4 z5 z6 z7 z8 z9 z10 z11 z12 z13 z14 z15 z16
  have z0 := (hb.kept hx).c 0 _ rfl
  have z1 := (hb.kept hx).c 1 _ rfl
  have z2 := (hb.kept hx).c 2 _ rfl
  have z3 := (hb.kept hx).c 3 _ rfl
  have z4 := (hb.kept hx).c 4 _ rfl
  have z5 := (hb.kept hx).c 5 _ rfl
  have z6 := (hb.kept hx).c 6 _ rfl
  have z7 := (hb.kept hx).c 7 _ rfl
  have z8 := (hb.kept hx).c 8 _ rfl
  have z9 := (hb.kept hx).c 9 _ rfl
  have z10 := (hb.kept hx).c 10 _ rfl
  have z11 := (hb.kept hx).c 11 _ rfl
  have z12 := (hb.kept hx).c 12 _ rfl
  have z13 := (hb.kept hx).c 13 _ rfl
  have z14 := (hb.kept hx).c 14 _ rfl
  have z15 := (hb.kept hx).c 15 _ rfl
  have z16 := (hb.kept hx).c 16 _ rfl
  go_wp2_with (first | (go_at_call 24; refine (KL.out _).mono ?_; rintro e u1 ⟨rfl, k1⟩; replace hx := hx.trans k1; clear k1))
  go_ret
  exact ⟨rfl, hK.trans hx⟩
end Go.Proofs.Ytojhhimmfnccjaa
