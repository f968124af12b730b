/- The walk at whatever is handed in. acc's Times and AddNum, by what they ask. -/
import Derived.Test.YtoflafgbbjinpaaGreatDoorZm42
import Derived.Test.YtoflafgbbjinpaaGreatDoorZm44
import Derived.Test.YtoflafgbbjinpaaGreatDoorZm40
namespace Go.Proofs.YtoflafgbbjinpaaGreatDoor
open Go.ChangeShapes Go.WideShapes Go.ChangeAt Go.RowKit
set_option linter.unusedVariables false
set_option linter.unusedSimpArgs false
set_option maxHeartbeats 16000000
set_option maxRecDepth 100000
theorem nearest_at {W : World} (hT : Tab W) (ar : Option Addr) (len cap : Nat) (h : ∀ i, i < len → ∃ z : Int × Int × Int × Int, ItemAt W ar i z.1 z.2.1 z.2.2.1 z.2.2.2 ∧ (-9223372036854775808 ≤ z.2.1 ∧ z.2.1 ≤ 9223372036854775807) ∧ (-9223372036854775808 ≤ z.2.2.1 ∧ z.2.2.1 ≤ 9223372036854775807)) (n0 w0 : Int) :
  Calls Tryz.prog 6 #[.slice ar len cap, .int .i64 n0, .int .i64 w0] W fun e w' => e = .returned (.bool true) ∧ Kept W w' := by
 obtain ⟨fk, fx, fy, fw, hx, hy, HI⟩ := items_fun ar len h
 exact accNearest_true W hT ar len cap fk fx fy fw hx hy HI n0 w0
theorem times_zero (n b : Int) (ng : Bool) (ao : Option Addr) (l cap : Nat) (xx : Int) (p m z : Bool) (w : World)
  (KL : Hid (∀ q u, Kept w u → q < u.heap.size → u.cell? ⟨q, 0, none⟩ = some (.int .i64 b) → Calls Tryz.prog 67 #[.int .i64 n, accV ng (.slice ao l cap) xx p m z, .slice (some ⟨q, 0, none⟩) 1 1] u fun e w' => e = .returned (.int .i64 0) ∧ Kept u w'))
  (KC : Hid (∀ u, Calls Tryz.prog 26 #[.int .i64 b, .int .i64 n] u fun e w' => e = .returned (.int .i64 0) ∧ Kept u w')) :
  Calls Tryz.prog 31 #[accV ng (.slice ao l cap) xx p m z, .int .i64 b, .int .i64 n] w fun e w' => e = .returned (.tuple #[accV false (.slice none 0 0) 0 false false (p || m || z), .int .i64 0]) ∧ Kept w w' := by
 obtain ⟨X0, hX0⟩ : ∃ X, X = w.alloc (.cells #[.bool ng, .slice ao l cap, .int .i64 xx, .bool p, .bool m, .bool z] 26) := ⟨_, rfl⟩
 obtain ⟨X, hX⟩ : ∃ X, X = (w.alloc (.cells #[.bool ng, .slice ao l cap, .int .i64 xx, .bool p, .bool m, .bool z] 26)).alloc (.cells #[.bool false, .slice none 0 0, .int .i64 0, .bool false, .bool false, .bool false] 26) := ⟨_, rfl⟩
 have k0 : Kept w X := by rw [hX]; exact ((Kept.refl w).alloc _ _).alloc _ _
 have k00 : Kept X0 X := by rw [hX, hX0]; exact (Kept.refl _).alloc _ _
 obtain ⟨R, hR⟩ : ∃ R, R = w.heap.size + 1 := ⟨_, rfl⟩
 obtain ⟨B, hB⟩ : ∃ R, R = w.heap.size := ⟨_, rfl⟩
 have HXs : Hid (X.heap.size = w.heap.size + 2 ∧ R = w.heap.size + 1 ∧ B = w.heap.size) := ⟨by rw [hX]; simp, hR, hB⟩
 have HA0 : Hid (∀ u, Kept X0 u → _) := acc_cells1 ng (.slice ao l cap) xx p m z 26 B hB (X := X0) (by rw [hX0]; exact Kept.refl _)
 have HA : Hid (∀ u, Kept X u → _) := fun u k => HA0.out u (k00.trans k)
 have HR : Hid (∀ u, Kept X u → _) := acc_res1 (w := w.alloc (.cells #[.bool ng, .slice ao l cap, .int .i64 xx, .bool p, .bool m, .bool z] 26)) 26 R (by rw [hR]; simp) (by rw [hX]; exact Kept.refl _)
 clear HA0 k00
 go_enter Tryz.func31, Tryz.ntmps31
 go_upto_region 1 with fail
 rw [← hX, ← hR, ← hB]
 clear hX hX0 hR hB
 obtain ⟨c0, c1, c2, c3, c4, c5⟩ := HA.out _ (Kept.refl _)
 go_wp2_with fail
 refine (KL.out _ _ (k0.alloc _ _) (by simp) (by simp [go_sem])).mono ?_
 rintro e w1 ⟨rfl, k1⟩
 have kB1 : Kept X w1 := ((Kept.refl X).alloc _ _).trans k1
 clear k1 KL c0 c1 c2 c3 c4 c5
 go_wp2_with fail
 refine (KC.out _).mono ?_
 rintro e w2 ⟨rfl, k2⟩
 have kB2 : Kept X w2 := kB1.trans k2
 clear kB1 k2 KC
 obtain ⟨c0, c1, c2, c3, c4, c5⟩ := HA.out _ kB2
 obtain ⟨r0, r1, r2, r3, r4, r5, r6⟩ := HR.out _ kB2
 cases p <;> cases m <;> cases z
 all_goals
  go_wp2_with fail
  exact bodyPost_ret (v := .tuple #[accV false (.slice none 0 0) 0 false false _, .int .i64 0]) (by simp [results, Tryz.results31, go_sem, r0, r1, r2, r3, r4, r5]) rfl ⟨rfl, kept_six1 R (by have := HXs.out; omega) (k0.trans kB2) _ _ _ _ _ _⟩
theorem times_inf (n b : Int) (ng : Bool) (ao : Option Addr) (l cap : Nat) (xx : Int) (p m z : Bool) (w : World) (c sv mv : Int) (hc : c = 3 ∨ c = 4) (P M Z : Bool)
  (KL : Hid (∀ q u, Kept w u → q < u.heap.size → u.cell? ⟨q, 0, none⟩ = some (.int .i64 b) → Calls Tryz.prog 67 #[.int .i64 n, accV ng (.slice ao l cap) xx p m z, .slice (some ⟨q, 0, none⟩) 1 1] u fun e w' => e = .returned (.int .i64 0) ∧ Kept u w'))
  (KC : Hid (∀ u, Calls Tryz.prog 26 #[.int .i64 b, .int .i64 n] u fun e w' => e = .returned (.int .i64 c) ∧ Kept u w'))
  (KS : Hid (∀ u, Kept w u → Calls Tryz.prog 82 #[accV ng (.slice ao l cap) xx p m z, .int .i64 n] u fun e w' => e = .returned (.int .i64 sv) ∧ Kept u w'))
  (KM : Hid (∀ u, Calls Tryz.prog 81 #[.int .i64 sv, .int .i64 b, .int .i64 n] u fun e w' => e = .returned (.int .i64 mv) ∧ Kept u w'))
  (KF : Hid (∀ u, Calls Tryz.prog 80 #[.int .i64 mv, .int .i64 n] u fun e w' => e = .returned (accV false (.slice none 0 0) 0 P M Z) ∧ Kept u w')) :
  Calls Tryz.prog 31 #[accV ng (.slice ao l cap) xx p m z, .int .i64 b, .int .i64 n] w fun e w' => e = .returned (.tuple #[accV false (.slice none 0 0) 0 P M Z, .int .i64 0]) ∧ Kept w w' := by
 obtain ⟨X0, hX0⟩ : ∃ X, X = w.alloc (.cells #[.bool ng, .slice ao l cap, .int .i64 xx, .bool p, .bool m, .bool z] 26) := ⟨_, rfl⟩
 obtain ⟨X, hX⟩ : ∃ X, X = (w.alloc (.cells #[.bool ng, .slice ao l cap, .int .i64 xx, .bool p, .bool m, .bool z] 26)).alloc (.cells #[.bool false, .slice none 0 0, .int .i64 0, .bool false, .bool false, .bool false] 26) := ⟨_, rfl⟩
 have k0 : Kept w X := by rw [hX]; exact ((Kept.refl w).alloc _ _).alloc _ _
 have k00 : Kept X0 X := by rw [hX, hX0]; exact (Kept.refl _).alloc _ _
 obtain ⟨R, hR⟩ : ∃ R, R = w.heap.size + 1 := ⟨_, rfl⟩
 obtain ⟨B, hB⟩ : ∃ R, R = w.heap.size := ⟨_, rfl⟩
 have HXs : Hid (X.heap.size = w.heap.size + 2 ∧ R = w.heap.size + 1 ∧ B = w.heap.size) := ⟨by rw [hX]; simp, hR, hB⟩
 have HA0 : Hid (∀ u, Kept X0 u → _) := acc_cells1 ng (.slice ao l cap) xx p m z 26 B hB (X := X0) (by rw [hX0]; exact Kept.refl _)
 have HA : Hid (∀ u, Kept X u → _) := fun u k => HA0.out u (k00.trans k)
 have HR : Hid (∀ u, Kept X u → _) := acc_res1 (w := w.alloc (.cells #[.bool ng, .slice ao l cap, .int .i64 xx, .bool p, .bool m, .bool z] 26)) 26 R (by rw [hR]; simp) (by rw [hX]; exact Kept.refl _)
 clear HA0 k00
 go_enter Tryz.func31, Tryz.ntmps31
 go_upto_region 1 with fail
 rw [← hX, ← hR, ← hB]
 clear hX hX0 hR hB
 obtain ⟨c0, c1, c2, c3, c4, c5⟩ := HA.out _ (Kept.refl _)
 go_wp2_with fail
 refine (KL.out _ _ (k0.alloc _ _) (by simp) (by simp [go_sem])).mono ?_
 rintro e w1 ⟨rfl, k1⟩
 have kB1 : Kept X w1 := ((Kept.refl X).alloc _ _).trans k1
 clear k1 KL c0 c1 c2 c3 c4 c5
 go_wp2_with fail
 refine (KC.out _).mono ?_
 rintro e w2 ⟨rfl, k2⟩
 have kB2 : Kept X w2 := kB1.trans k2
 clear kB1 k2 KC
 obtain ⟨c0, c1, c2, c3, c4, c5⟩ := HA.out _ kB2
 rcases hc with rfl | rfl
 all_goals
  go_wp2_with fail
  refine (KS.out _ (k0.trans kB2)).mono ?_
  rintro e w3 ⟨rfl, k3⟩
  go_wp2_with fail
  refine (KM.out _).mono ?_
  rintro e w4 ⟨rfl, k4⟩
  go_wp2_with fail
  refine (KF.out _).mono ?_
  rintro e w5 ⟨rfl, k5⟩
  have kB5 : Kept X w5 := ((kB2.trans k3).trans k4).trans k5
  obtain ⟨r0, r1, r2, r3, r4, r5, r6⟩ := HR.out _ kB5
  go_wp2_with fail
  exact bodyPost_ret (v := .tuple #[accV false (.slice none 0 0) 0 P M Z, .int .i64 0]) (by simp [results, Tryz.results31, go_sem, r0, r1, r2, r3, r4, r5]) rfl ⟨rfl, kept_six1 R (by have := HXs.out; omega) (k0.trans kB5) _ _ _ _ _ _⟩
theorem new_set {u w5 : World} {v : Value} {r : Nm} (hN : New u w5 v r) (B o : Nat) (hB : B < u.heap.size) (x : Value) : New u (w5.setCell ⟨B, o, none⟩ x) v r := by
 rcases hN with h | ⟨g, cap, e, hg, ho, hne⟩
 ·exact .inl h
 ·have hgw : g ≠ B := by omega
  exact .inr ⟨g, cap, e, hg, ho.setOther (by simpa using hgw) _, hne⟩
theorem times_fin (n b : Int) (ng : Bool) (ao : Option Addr) (l cap : Nat) (xx : Int) (p m z : Bool) (w : World) (c : Int) (hc : c = 1 ∨ c = 2) (y r : Nm)
  (KL : Hid (∀ q u, Kept w u → q < u.heap.size → u.cell? ⟨q, 0, none⟩ = some (.int .i64 b) → Calls Tryz.prog 67 #[.int .i64 n, accV ng (.slice ao l cap) xx p m z, .slice (some ⟨q, 0, none⟩) 1 1] u fun e w' => e = .returned (.int .i64 0) ∧ Kept u w'))
  (KC : Hid (∀ u, Calls Tryz.prog 26 #[.int .i64 b, .int .i64 n] u fun e w' => e = .returned (.int .i64 c) ∧ Kept u w'))
  (KO : Hid (∀ u, Kept w u → Calls Tryz.prog 16 #[.int .i64 b, .int .i64 n] u fun e w' => ∃ ya yc, e = .returned (.tuple #[.agg #[.bool y.neg, .slice ya y.mag.length yc, .int .i64 y.exp], .int .i64 0]) ∧ Hid (Sl w' (.slice ya y.mag.length yc) y.mag) ∧ Kept u w'))
  (KM : Hid (∀ u ya yc, Kept w u → Sl u (.slice ya y.mag.length yc) y.mag → Calls Tryz.prog 17 #[.agg #[.bool ng, .slice ao l cap, .int .i64 xx], .agg #[.bool y.neg, .slice ya y.mag.length yc, .int .i64 y.exp]] u fun e w' => ∃ un ua ul uc ux, e = .returned (.tuple #[.agg #[.bool un, .slice ua ul uc, .int .i64 ux], .int .i64 0]) ∧ New u w' (.agg #[.bool un, .slice ua ul uc, .int .i64 ux]) r ∧ Kept u w')) :
  Calls Tryz.prog 31 #[accV ng (.slice ao l cap) xx p m z, .int .i64 b, .int .i64 n] w fun e w' => ∃ un ua ul uc ux, e = .returned (.tuple #[accV un (.slice ua ul uc) ux (bif y.neg then m else p) (bif y.neg then p else m) z, .int .i64 0]) ∧ New w w' (.agg #[.bool un, .slice ua ul uc, .int .i64 ux]) r ∧ Kept w w' := by
 have hc1 : (c == 0) = false ∧ (c == 3) = false ∧ (c == 4) = false := by rcases hc with rfl | rfl <;> decide
 obtain ⟨hc1, hc3, hc4⟩ := hc1
 obtain ⟨X0, hX0⟩ : ∃ X, X = w.alloc (.cells #[.bool ng, .slice ao l cap, .int .i64 xx, .bool p, .bool m, .bool z] 26) := ⟨_, rfl⟩
 obtain ⟨X, hX⟩ : ∃ X, X = (w.alloc (.cells #[.bool ng, .slice ao l cap, .int .i64 xx, .bool p, .bool m, .bool z] 26)).alloc (.cells #[.bool false, .slice none 0 0, .int .i64 0, .bool false, .bool false, .bool false] 26) := ⟨_, rfl⟩
 have k0 : Kept w X := by rw [hX]; exact ((Kept.refl w).alloc _ _).alloc _ _
 have k00 : Kept X0 X := by rw [hX, hX0]; exact (Kept.refl _).alloc _ _
 obtain ⟨R, hR⟩ : ∃ R, R = w.heap.size + 1 := ⟨_, rfl⟩
 obtain ⟨B, hB⟩ : ∃ R, R = w.heap.size := ⟨_, rfl⟩
 have HXs : Hid (X.heap.size = w.heap.size + 2 ∧ R = w.heap.size + 1 ∧ B = w.heap.size) := ⟨by rw [hX]; simp, hR, hB⟩
 have HA0 : Hid (∀ u, Kept X0 u → _) := acc_cells1 ng (.slice ao l cap) xx p m z 26 B hB (X := X0) (by rw [hX0]; exact Kept.refl _)
 have HA : Hid (∀ u, Kept X u → _) := fun u k => HA0.out u (k00.trans k)
 have HR : Hid (∀ u, Kept X u → _) := acc_res1 (w := w.alloc (.cells #[.bool ng, .slice ao l cap, .int .i64 xx, .bool p, .bool m, .bool z] 26)) 26 R (by rw [hR]; simp) (by rw [hX]; exact Kept.refl _)
 have HFz : Hid (∀ o, X.frozen? ⟨B, o, none⟩ = false) := fun o => by rw [hX, hB]; simp [go_sem]
 clear HA0 k00
 go_enter Tryz.func31, Tryz.ntmps31
 go_upto_region 1 with fail
 rw [← hX, ← hR, ← hB]
 clear hX hX0 hR hB
 obtain ⟨c0, c1, c2, c3, c4, c5⟩ := HA.out _ (Kept.refl _)
 go_wp2_with fail
 refine (KL.out _ _ (k0.alloc _ _) (by simp) (by simp [go_sem])).mono ?_
 rintro e w1 ⟨rfl, k1⟩
 have kB1 : Kept X w1 := ((Kept.refl X).alloc _ _).trans k1
 clear k1 KL c0 c1 c2 c3 c4 c5
 go_wp2_with fail
 refine (KC.out _).mono ?_
 rintro e w2 ⟨rfl, k2⟩
 have kB2 : Kept X w2 := kB1.trans k2
 clear kB1 k2 KC
 go_wp2_with fail
 refine (KO.out _ (k0.trans kB2)).mono ?_
 rintro e w3 ⟨ya, yc, rfl, sy, k3⟩
 obtain ⟨C, hC⟩ : ∃ B, B = w3.heap.size := ⟨_, rfl⟩
 obtain ⟨E1, hE1⟩ : ∃ D, D = w3.alloc (.cells #[.bool y.neg, .slice ya y.mag.length yc, .int .i64 y.exp] 24) := ⟨_, rfl⟩
 have kE : Kept w2 E1 := by rw [hE1]; exact k3.alloc _ _
 have kE1 : Kept X E1 := kB2.trans kE
 have hCs : Hid (X.heap.size ≤ C ∧ C < E1.heap.size) := ⟨by rw [hC]; exact (kB2.trans k3).below.size, by rw [hC, hE1]; simp⟩
 have HY : Hid (∀ u, Kept E1 u → u.cell? ⟨C, 0, none⟩ = some (.bool y.neg) ∧ u.cell? ⟨C, 1, none⟩ = some (.slice ya y.mag.length yc) ∧ u.cell? ⟨C, 2, none⟩ = some (.int .i64 y.exp)) := fun u k => by
  subst hC
  rw [hE1] at k
  refine ⟨?_, ?_, ?_⟩
  all_goals exact (k.below.cell (by simp)).trans (by simp [go_sem])
 have sy1 : Hid (Sl E1 (.slice ya y.mag.length yc) y.mag) := sy.out.kept (by rw [hE1]; exact (Kept.refl _).alloc _ _)
 go_upto_region 11 with fail
 rw [← hC, ← hE1]
 clear hC hE1 sy k3 kE kB2 KO
 obtain ⟨c0, c1, c2, c3, c4, c5⟩ := HA.out _ kE1
 obtain ⟨y0, y1, y2⟩ := HY.out _ (Kept.refl _)
 go_wp2_with fail
 refine (KM.out _ _ _ (k0.trans kE1) sy1.out).mono ?_
 rintro e w4 ⟨un, ua, ul, uc, ux, rfl, hN, k4⟩
 clear c0 c1 c2 c3 c4 c5 y0 y1 y2 sy1 KM
 obtain ⟨F, hF⟩ : ∃ B, B = w4.heap.size := ⟨_, rfl⟩
 obtain ⟨E2, hE2⟩ : ∃ D, D = w4.alloc (.cells #[.bool un, .slice ua ul uc, .int .i64 ux] 24) := ⟨_, rfl⟩
 have kE2 : Kept E1 E2 := by rw [hE2]; exact k4.alloc _ _
 have hN2 : Hid (New E1 E2 (.agg #[.bool un, .slice ua ul uc, .int .i64 ux]) r) := by rw [hE2]; exact hN.kept ((Kept.refl _).alloc _ _)
 have hFs : Hid (E1.heap.size ≤ F ∧ F < E2.heap.size) := ⟨by rw [hF]; exact k4.below.size, by rw [hF, hE2]; simp⟩
 have HF : Hid (E2.cell? ⟨F, 0, none⟩ = some (.bool un) ∧ E2.cell? ⟨F, 1, none⟩ = some (.slice ua ul uc) ∧ E2.cell? ⟨F, 2, none⟩ = some (.int .i64 ux)) := by
  rw [hE2, hF]
  refine ⟨?_, ?_, ?_⟩ <;> simp [go_sem]
 go_upto_region 12 with fail
 rw [← hF, ← hE2]
 clear hF hE2 hN k4
 obtain ⟨c0, c1, c2, c3, c4, c5⟩ := HA.out _ (kE1.trans kE2)
 obtain ⟨r0, r1, r2, r3, r4, r5, r6⟩ := HR.out _ (kE1.trans kE2)
 obtain ⟨y0, -, -⟩ := HY.out _ kE2
 obtain ⟨f0, f1, f2⟩ := HF.out
 have fzB : ∀ o, E2.frozen? ⟨B, o, none⟩ = false := fun o => ((kE1.trans kE2).frozen _).trans (HFz.out o)
 have n1 : R ≠ B := by have := HXs.out; omega
 have n2 : F ≠ B := by have := HXs.out; have := hCs.out; have := hFs.out; omega
 have n3 : F ≠ R := by have := HXs.out; have := hCs.out; have := hFs.out; omega
 have n4 : B ≠ R := Ne.symm n1
 have n5 : B ≠ F := Ne.symm n2
 have n6 : R ≠ F := Ne.symm n3
 have kw2 : Kept w E2 := k0.trans (kE1.trans kE2)
 have hRs : w.heap.size ≤ R ∧ w.heap.size ≤ B ∧ R < E1.heap.size ∧ B < E1.heap.size := by have := HXs.out; have := kE1.below.size; omega
 have kwE : Kept w E1 := k0.trans kE1
 obtain ⟨yn, hyn⟩ : ∃ b, b = y.neg := ⟨_, rfl⟩
 rw [← hyn] at y0
 have HYN : Hid (yn = y.neg) := hyn
 clear HA HR HY HF hyn
 cases yn
 ·go_wp2_with fail
  refine bodyPost_ret (v := .tuple #[accV un (.slice ua ul uc) ux p m z, .int .i64 0]) (by simp [results, Tryz.results31, go_sem, r0, r1, r2, r3, r4, r5]) rfl ⟨un, ua, ul, uc, ux, by rw [← HYN.out]; rfl, ?_, ?_⟩
  ·exact new_six1 R hRs.1 hN2.out hRs.2.2.1 _ _ _ _ _ _
  ·exact kept_six1 R hRs.1 kw2 _ _ _ _ _ _
 ·go_wp2_with fail
  refine bodyPost_ret (v := .tuple #[accV un (.slice ua ul uc) ux m p z, .int .i64 0]) (by simp [results, Tryz.results31, go_sem, r0, r1, r2, r3, r4, r5, n1, n4]) rfl ⟨un, ua, ul, uc, ux, by rw [← HYN.out]; rfl, ?_, ?_⟩
  ·exact new_six1 R hRs.1 (new_set (new_set hN2.out B 3 hRs.2.2.2 _) B 4 hRs.2.2.2 _) hRs.2.2.1 _ _ _ _ _ _
  ·exact kept_six1 R hRs.1 ((kw2.setCell (p := ⟨B, 3, none⟩) hRs.2.1 _).setCell (p := ⟨B, 4, none⟩) hRs.2.1 _) _ _ _ _ _ _
theorem addNum_ok (ng : Bool) (ao : Option Addr) (l cap : Nat) (xx : Int) (p m z : Bool) (yn : Bool) (ya : Option Addr) (yl yc : Nat) (yx : Int) (w : World) (r : Nm)
  (KM : Hid (∀ u, Kept w u → Calls Tryz.prog 29 #[accV ng (.slice ao l cap) xx p m z, accV yn (.slice ya yl yc) yx false false false] u fun e w' => ∃ un ua ul uc ux, e = .returned (.tuple #[accV un (.slice ua ul uc) ux p m z, .int .i64 0]) ∧ New u w' (.agg #[.bool un, .slice ua ul uc, .int .i64 ux]) r ∧ Kept u w')) :
  Calls Tryz.prog 30 #[accV ng (.slice ao l cap) xx p m z, .agg #[.bool yn, .slice ya yl yc, .int .i64 yx]] w fun e w' => ∃ un ua ul uc ux, e = .returned (.tuple #[accV un (.slice ua ul uc) ux p m z, .int .i64 0]) ∧ New w w' (.agg #[.bool un, .slice ua ul uc, .int .i64 ux]) r ∧ Kept w w' := by
 obtain ⟨Y, hY⟩ : ∃ X, X = (w.alloc (.cells #[.bool ng, .slice ao l cap, .int .i64 xx, .bool p, .bool m, .bool z] 26)).alloc (.cells #[.bool yn, .slice ya yl yc, .int .i64 yx] 24) := ⟨_, rfl⟩
 obtain ⟨X, hX⟩ : ∃ X, X = ((w.alloc (.cells #[.bool ng, .slice ao l cap, .int .i64 xx, .bool p, .bool m, .bool z] 26)).alloc (.cells #[.bool yn, .slice ya yl yc, .int .i64 yx] 24)).alloc (.cells #[.bool false, .slice none 0 0, .int .i64 0, .bool false, .bool false, .bool false] 26) := ⟨_, rfl⟩
 have k0 : Kept w X := by rw [hX]; exact (((Kept.refl w).alloc _ _).alloc _ _).alloc _ _
 obtain ⟨B, hB⟩ : ∃ B, B = w.heap.size := ⟨_, rfl⟩
 obtain ⟨B1, hB1⟩ : ∃ B, B = w.heap.size + 1 := ⟨_, rfl⟩
 obtain ⟨B2, hB2⟩ : ∃ B, B = w.heap.size + 1 + 1 := ⟨_, rfl⟩
 have HR : Hid (∀ u, Kept X u → _) := acc_res1 (w := Y) 26 B2 (by rw [hY, hB2]; simp) (by rw [hX, hY]; exact Kept.refl _)
 have HX : Hid (B2 < X.heap.size ∧ w.heap.size ≤ B2) := ⟨by rw [hX, hB2]; simp, by omega⟩
 have HA : Hid ((X.cell? ⟨B, 0, none⟩ = some (.bool ng) ∧ X.cell? ⟨B, 1, none⟩ = some (.slice ao l cap) ∧ X.cell? ⟨B, 2, none⟩ = some (.int .i64 xx) ∧ X.cell? ⟨B, 3, none⟩ = some (.bool p) ∧ X.cell? ⟨B, 4, none⟩ = some (.bool m) ∧ X.cell? ⟨B, 5, none⟩ = some (.bool z)) ∧ X.cell? ⟨B1, 0, none⟩ = some (.bool yn) ∧ X.cell? ⟨B1, 1, none⟩ = some (.slice ya yl yc) ∧ X.cell? ⟨B1, 2, none⟩ = some (.int .i64 yx)) := by
  rw [hX, hB1, hB]
  refine ⟨⟨?_, ?_, ?_, ?_, ?_, ?_⟩, ?_, ?_, ?_⟩ <;> simp [go_sem]
 go_enter Tryz.func30, Tryz.ntmps30
 go_upto_region 1 with fail
 rw [← hX, ← hB2, ← hB1, ← hB]
 clear hX hB1 hB2 hY hB
 obtain ⟨⟨c0, c1, c2, c3, c4, c5⟩, d0, d1, d2⟩ := HA.out
 go_wp2_with fail
 refine (KM.out _ k0).mono ?_
 rintro e w1 ⟨un, ua, ul, uc, ux, rfl, hN, k1⟩
 clear c0 c1 c2 c3 c4 c5 d0 d1 d2 HA KM
 obtain ⟨r0, r1, r2, r3, r4, r5, r6⟩ := HR.out _ k1
 go_wp2_with fail
 refine bodyPost_ret (v := .tuple #[accV un (.slice ua ul uc) ux p m z, .int .i64 0]) (by simp [results, Tryz.results30, go_sem, r0, r1, r2, r3, r4, r5]) rfl ⟨un, ua, ul, uc, ux, rfl, ?_, ?_⟩
 ·exact new_six1 B2 HX.out.2 hN HX.out.1 _ _ _ _ _ _
 ·exact kept_six1 B2 HX.out.2 (k0.trans k1) _ _ _ _ _ _
theorem fromZero_64 (w : World) : Calls Tryz.prog 32 #[.int .i64 0, .int .i64 64] w fun e w' => e = .returned (.int .i64 0) ∧ w = w' := by
 have h1 : floatOfInt .f64 0 = 0 := by decide +kernel
 have HO : Hid (∀ u, Calls Tryz.prog 84 #[.float .f64 0] u fun e w' => e = .returned (.int .i64 0) ∧ u = w') := fun u => by
  have := of64_any 0 u
  rw [show of64 0 = 0 by decide +kernel] at this
  exact this
 go_enter Tryz.func32, Tryz.ntmps32
 go_wp2_with (first | (go_at_call 84; refine (HO.out _).mono ?_; rintro e w1 ⟨rfl, rfl⟩))
 go_ret
 exact ⟨rfl, rfl⟩
theorem fromZero_32 (w : World) : Calls Tryz.prog 32 #[.int .i64 0, .int .i64 32] w fun e w' => e = .returned (.int .i64 0) ∧ w = w' := by
 have h1 : floatOfInt .f32 0 = 0 := by decide +kernel
 have HO : Hid (∀ u, Calls Tryz.prog 83 #[.float .f32 0] u fun e w' => e = .returned (.int .i64 0) ∧ u = w') := fun u => by
  have := of32_any 0 u
  rw [show of32 0 = 0 by decide +kernel] at this
  exact this
 go_enter Tryz.func32, Tryz.ntmps32
 go_wp2_with (first | (go_at_call 83; refine (HO.out _).mono ?_; rintro e w1 ⟨rfl, rfl⟩))
 go_ret
 exact ⟨rfl, rfl⟩
theorem fromLess_64 (w : World) : Calls Tryz.prog 32 #[.int .i64 (-1), .int .i64 64] w fun e w' => e = .returned (.int .i64 (-4616189618054758400)) ∧ w = w' := by
 have h1 : floatOfInt .f64 (-1) = 13830554455654793216 := by decide +kernel
 have HO : Hid (∀ u, Calls Tryz.prog 84 #[.float .f64 13830554455654793216] u fun e w' => e = .returned (.int .i64 (-4616189618054758400)) ∧ u = w') := fun u => by
  have := of64_any 13830554455654793216 u
  rw [show of64 13830554455654793216 = (-4616189618054758400) by decide +kernel] at this
  exact this
 go_enter Tryz.func32, Tryz.ntmps32
 go_wp2_with (first | (go_at_call 84; refine (HO.out _).mono ?_; rintro e w1 ⟨rfl, rfl⟩))
 go_ret
 exact ⟨rfl, rfl⟩
theorem fromLess_32 (w : World) : Calls Tryz.prog 32 #[.int .i64 (-1), .int .i64 32] w fun e w' => e = .returned (.int .i64 3212836864) ∧ w = w' := by
 have h1 : floatOfInt .f32 (-1) = 3212836864 := by decide +kernel
 have HO : Hid (∀ u, Calls Tryz.prog 83 #[.float .f32 3212836864] u fun e w' => e = .returned (.int .i64 3212836864) ∧ u = w') := fun u => by
  have := of32_any 3212836864 u
  rw [show of32 3212836864 = 3212836864 by decide +kernel] at this
  exact this
 go_enter Tryz.func32, Tryz.ntmps32
 go_wp2_with (first | (go_at_call 83; refine (HO.out _).mono ?_; rintro e w1 ⟨rfl, rfl⟩))
 go_ret
 exact ⟨rfl, rfl⟩
end Go.Proofs.YtoflafgbbjinpaaGreatDoor
