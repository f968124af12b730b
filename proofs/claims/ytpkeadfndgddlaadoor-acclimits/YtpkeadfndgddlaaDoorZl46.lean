/- acc's Total, Products, Sum, Dot, Merge, AddProduct where they refuse. -/
import Derived.Test.YtpkeadfndgddlaaDoorZl27
namespace Go.Proofs.YtpkeadfndgddlaaDoor
open Go.ChangeShapes Go.WideShapes Go.ChangeAt Go.RowKit
set_option linter.unusedVariables false
set_option linter.unusedSimpArgs false
set_option maxHeartbeats 16000000
set_option maxRecDepth 100000
theorem total_no (n : Int) (a1 : Option Addr) (l1 c1 : Nat) (w : World) (er : Int) (he : er ≠ 0)
  (KL : Hid (∀ q u, Kept w u → q < u.heap.size → u.cell? ⟨q, 0, none⟩ = some (.slice a1 l1 c1) → Calls Tryd.prog 20 #[.int .i64 n, .slice (some ⟨q, 0, none⟩) 1 1] u fun e w' => e = .returned (.int .i64 er) ∧ Kept u w')) :
  Calls Tryd.prog 10 #[.slice a1 l1 c1, .int .i64 n] w fun e w' => e = .returned (.tuple #[accZ, .int .i64 er]) ∧ Kept w w' := by
 have he2 : (er != 0) = true := by simpa using he
 obtain ⟨B, hB⟩ : ∃ B, B = w.alloc (.cells #[.bool false, .slice none 0 0, .int .i64 0, .bool false, .bool false, .bool false] 31) := ⟨_, rfl⟩
 have kB : Kept w B := by rw [hB]; exact (Kept.refl w).alloc _ _
 have HR : Hid (∀ u, Kept B u → _) := acc_res hB
 go_enter Tryd.func10, Tryd.ntmps10
 go_upto_region 1 with fail
 rw [← hB]
 clear hB
 go_wp2_with fail
 refine (KL.out _ _ (kB.alloc _ _) (by simp) (by simp [go_sem])).mono ?_
 rintro e w1 ⟨rfl, k1⟩
 have kB1 : Kept B w1 := ((Kept.refl B).alloc _ _).trans k1
 obtain ⟨r0, r1, r2, r3, r4, r5, r6⟩ := HR.out _ kB1
 go_wp2_with fail
 exact bodyPost_ret (v := .tuple #[accZ, .int .i64 er]) (by simp [results, Tryd.results10, go_sem, r0, r1, r2, r3, r4, r5]) rfl ⟨rfl, kept_six (kB.trans kB1) _ _ _ _ _ _⟩
theorem products_no (n : Int) (a1 a2 : Option Addr) (l1 c1 l2 c2 : Nat) (w : World) (er : Int) (he : er ≠ 0)
  (KL : Hid (∀ q u, Kept w u → q < u.heap.size → u.cell? ⟨q, 0, none⟩ = some (.slice a1 l1 c1) → u.cell? ⟨q, 1, none⟩ = some (.slice a2 l2 c2) → Calls Tryd.prog 20 #[.int .i64 n, .slice (some ⟨q, 0, none⟩) 2 2] u fun e w' => e = .returned (.int .i64 er) ∧ Kept u w')) :
  Calls Tryd.prog 12 #[.slice a1 l1 c1, .slice a2 l2 c2, .int .i64 n] w fun e w' => e = .returned (.tuple #[accZ, .int .i64 er]) ∧ Kept w w' := by
 have he2 : (er != 0) = true := by simpa using he
 obtain ⟨B, hB⟩ : ∃ B, B = w.alloc (.cells #[.bool false, .slice none 0 0, .int .i64 0, .bool false, .bool false, .bool false] 31) := ⟨_, rfl⟩
 have kB : Kept w B := by rw [hB]; exact (Kept.refl w).alloc _ _
 have HR : Hid (∀ u, Kept B u → _) := acc_res hB
 go_enter Tryd.func12, Tryd.ntmps12
 go_upto_region 1 with fail
 rw [← hB]
 clear hB
 go_wp2_with fail
 refine (KL.out _ _ (kB.alloc _ _) (by simp) (by simp [go_sem]) (by simp [go_sem])).mono ?_
 rintro e w1 ⟨rfl, k1⟩
 have kB1 : Kept B w1 := ((Kept.refl B).alloc _ _).trans k1
 obtain ⟨r0, r1, r2, r3, r4, r5, r6⟩ := HR.out _ kB1
 go_wp2_with fail
 exact bodyPost_ret (v := .tuple #[accZ, .int .i64 er]) (by simp [results, Tryd.results12, go_sem, r0, r1, r2, r3, r4, r5]) rfl ⟨rfl, kept_six (kB.trans kB1) _ _ _ _ _ _⟩
theorem asum_no (n : Int) (a1 : Option Addr) (l1 c1 : Nat) (w : World) (er : Int) (he : er ≠ 0)
  (KT : Hid (Calls Tryd.prog 10 #[.slice a1 l1 c1, .int .i64 n] w fun e w' => e = .returned (.tuple #[accZ, .int .i64 er]) ∧ Kept w w')) :
  Calls Tryd.prog 5 #[.slice a1 l1 c1, .int .i64 n] w fun e w' => e = .returned (.tuple #[.int .i64 0, .int .i64 er]) ∧ Kept w w' := by
 have he2 : (er != 0) = true := by simpa using he
 go_enter Tryd.func5, Tryd.ntmps5
 go_wp2_with fail
 refine KT.out.mono ?_
 rintro e w1 ⟨rfl, k1⟩
 go_wp2_with fail
 exact bodyPost_ret (v := .tuple #[.int .i64 0, .int .i64 er]) (by simp [results, Tryd.results5, go_sem]) rfl ⟨rfl, k1.alloc _ _⟩
theorem adot_no (n : Int) (a1 a2 : Option Addr) (l1 c1 l2 c2 : Nat) (w : World) (er : Int) (he : er ≠ 0)
  (KT : Hid (Calls Tryd.prog 12 #[.slice a1 l1 c1, .slice a2 l2 c2, .int .i64 n] w fun e w' => e = .returned (.tuple #[accZ, .int .i64 er]) ∧ Kept w w')) :
  Calls Tryd.prog 6 #[.slice a1 l1 c1, .slice a2 l2 c2, .int .i64 n] w fun e w' => e = .returned (.tuple #[.int .i64 0, .int .i64 er]) ∧ Kept w w' := by
 have he2 : (er != 0) = true := by simpa using he
 go_enter Tryd.func6, Tryd.ntmps6
 go_wp2_with fail
 refine KT.out.mono ?_
 rintro e w1 ⟨rfl, k1⟩
 go_wp2_with fail
 exact bodyPost_ret (v := .tuple #[.int .i64 0, .int .i64 er]) (by simp [results, Tryd.results6, go_sem]) rfl ⟨rfl, k1.alloc _ _⟩
theorem merge_no (n1 : Bool) (a1 : Option Addr) (l1 c1 : Nat) (x1 : Int) (p1 m1 z1 : Bool) (n2 : Bool) (a2 : Option Addr) (l2 c2 : Nat) (x2 : Int) (p2 m2 z2 : Bool) (w : World) (er : Int) (he : er ≠ 0)
  (KA : Hid (∀ u, Kept w u → Calls Tryd.prog 45 #[.agg #[.bool n1, .slice a1 l1 c1, .int .i64 x1], .agg #[.bool n2, .slice a2 l2 c2, .int .i64 x2]] u fun e w' => e = .returned (.tuple #[zeroNum, .int .i64 er]) ∧ Kept u w')) :
  Calls Tryd.prog 25 #[accV n1 (.slice a1 l1 c1) x1 p1 m1 z1, accV n2 (.slice a2 l2 c2) x2 p2 m2 z2] w fun e w' => e = .returned (.tuple #[accZ, .int .i64 er]) ∧ Kept w w' := by
 have he2 : (er != 0) = true := by simpa using he
 obtain ⟨Y, hY⟩ : ∃ X, X = (w.alloc (.cells #[.bool n1, .slice a1 l1 c1, .int .i64 x1, .bool p1, .bool m1, .bool z1] 31)).alloc (.cells #[.bool n2, .slice a2 l2 c2, .int .i64 x2, .bool p2, .bool m2, .bool z2] 31) := ⟨_, rfl⟩
 obtain ⟨X, hX⟩ : ∃ X, X = ((w.alloc (.cells #[.bool n1, .slice a1 l1 c1, .int .i64 x1, .bool p1, .bool m1, .bool z1] 31)).alloc (.cells #[.bool n2, .slice a2 l2 c2, .int .i64 x2, .bool p2, .bool m2, .bool z2] 31)).alloc (.cells #[.bool false, .slice none 0 0, .int .i64 0, .bool false, .bool false, .bool false] 31) := ⟨_, rfl⟩
 have k0 : Kept w X := by rw [hX]; exact (((Kept.refl w).alloc _ _).alloc _ _).alloc _ _
 obtain ⟨B1, hB1⟩ : ∃ B, B = w.heap.size + 1 := ⟨_, rfl⟩
 obtain ⟨B2, hB2⟩ : ∃ B, B = w.heap.size + 1 + 1 := ⟨_, rfl⟩
 have HR : Hid (∀ u, Kept X u → _) := acc_res1 (w := Y) 31 B2 (by rw [hY, hB2]; simp) (by rw [hX, hY]; exact Kept.refl _)
 have HX : Hid (B2 < X.heap.size ∧ w.heap.size ≤ B2) := ⟨by rw [hX, hB2]; simp, by omega⟩
 have HA : Hid (X.cell? ⟨w.heap.size, 0, none⟩ = some (.bool n1) ∧ X.cell? ⟨w.heap.size, 1, none⟩ = some (.slice a1 l1 c1) ∧ X.cell? ⟨w.heap.size, 2, none⟩ = some (.int .i64 x1) ∧ X.cell? ⟨B1, 0, none⟩ = some (.bool n2) ∧ X.cell? ⟨B1, 1, none⟩ = some (.slice a2 l2 c2) ∧ X.cell? ⟨B1, 2, none⟩ = some (.int .i64 x2)) := by
  rw [hX, hB1]
  refine ⟨?_, ?_, ?_, ?_, ?_, ?_⟩ <;> simp [go_sem]
 have KA2 : Hid (Calls Tryd.prog 45 #[.agg #[.bool n1, .slice a1 l1 c1, .int .i64 x1], .agg #[.bool n2, .slice a2 l2 c2, .int .i64 x2]] X fun e w' => e = .returned (.tuple #[zeroNum, .int .i64 er]) ∧ Kept X w') := KA.out X k0
 clear KA
 go_enter Tryd.func25, Tryd.ntmps25
 go_upto_region 1 with fail
 rw [← hX, ← hB2, ← hB1]
 clear hX hB1 hB2 hY
 obtain ⟨c0, c1', c2', d0, d1, d2⟩ := HA.out
 go_wp2_with fail
 refine KA2.out.mono ?_
 rintro e w1 ⟨rfl, k1⟩
 clear c0 c1' c2' d0 d1 d2 HA KA2
 obtain ⟨r0, r1, r2, r3, r4, r5, r6⟩ := HR.out _ k1
 obtain ⟨s0, s1, s2, s3, s4, s5, s6⟩ := HR.out _ (k1.alloc #[.bool false, .slice none 0 0, .int .i64 0] 29)
 have nn2 : B2 ≠ w1.heap.size := Nat.ne_of_lt (Nat.lt_of_lt_of_le HX.out.1 k1.below.size)
 go_wp2_with fail
 exact bodyPost_ret (v := .tuple #[accZ, .int .i64 er]) (by simp [results, Tryd.results25, go_sem, r0, r1, r2, r3, r4, r5, s0, s1, s2, s3, s4, s5, nn2]) rfl ⟨rfl, kept_six1 B2 HX.out.2 ((k0.trans k1).alloc _ _) _ _ _ _ _ _⟩
theorem addProduct_no (n x y : Int) (ng : Bool) (ao : Option Addr) (l cap : Nat) (xx : Int) (p m z : Bool) (w : World) (er : Int) (he : er ≠ 0)
  (KL : Hid (∀ q u, Kept w u → q < u.heap.size → u.cell? ⟨q, 0, none⟩ = some (.int .i64 x) → u.cell? ⟨q, 1, none⟩ = some (.int .i64 y) → Calls Tryd.prog 16 #[.int .i64 n, accV ng (.slice ao l cap) xx p m z, .slice (some ⟨q, 0, none⟩) 2 2] u fun e w' => e = .returned (.int .i64 er) ∧ Kept u w')) :
  Calls Tryd.prog 13 #[accV ng (.slice ao l cap) xx p m z, .int .i64 x, .int .i64 y, .int .i64 n] w fun e w' => e = .returned (.tuple #[accZ, .int .i64 er]) ∧ Kept w w' := by
 have he2 : (er != 0) = true := by simpa using he
 obtain ⟨X, hX⟩ : ∃ X, X = (w.alloc (.cells #[.bool ng, .slice ao l cap, .int .i64 xx, .bool p, .bool m, .bool z] 31)).alloc (.cells #[.bool false, .slice none 0 0, .int .i64 0, .bool false, .bool false, .bool false] 31) := ⟨_, rfl⟩
 have k0 : Kept w X := by rw [hX]; exact ((Kept.refl w).alloc _ _).alloc _ _
 obtain ⟨c0, c1, c2, c3, c4, c5⟩ := acc_cells1 ng (.slice ao l cap) xx p m z 31 w.heap.size rfl (X := X) (by rw [hX]; exact (Kept.refl _).alloc _ _) X (Kept.refl _)
 have HR : Hid (∀ u, Kept X u → _) := acc_res1 (w := w.alloc (.cells #[.bool ng, .slice ao l cap, .int .i64 xx, .bool p, .bool m, .bool z] 31)) 31 (w.heap.size + 1) (by simp) (by rw [hX]; exact Kept.refl _)
 go_enter Tryd.func13, Tryd.ntmps13
 go_upto_region 1 with fail
 rw [← hX]
 clear hX
 go_wp2_with fail
 refine (KL.out _ _ (k0.alloc _ _) (by simp) (by simp [go_sem]) (by simp [go_sem])).mono ?_
 rintro e w1 ⟨rfl, k1⟩
 have kB1 : Kept X w1 := ((Kept.refl X).alloc _ _).trans k1
 clear c0 c1 c2 c3 c4 c5
 obtain ⟨r0, r1, r2, r3, r4, r5, r6⟩ := HR.out _ kB1
 go_wp2_with fail
 exact bodyPost_ret (v := .tuple #[accZ, .int .i64 er]) (by simp [results, Tryd.results13, go_sem, r0, r1, r2, r3, r4, r5]) rfl ⟨rfl, kept_six1 (w.heap.size + 1) (by omega) (k0.trans kB1) _ _ _ _ _ _⟩
end Go.Proofs.YtpkeadfndgddlaaDoor
