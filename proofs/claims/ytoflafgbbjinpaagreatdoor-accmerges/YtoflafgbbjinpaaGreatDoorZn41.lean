/- acc's Total, Products, Sum, Dot, Merge, AddProduct where they refuse. The laws' rounds: Round and Mean of a sum; AccRounds. bits' Mul where a factor is infinite or no number. Regions that draw their order, whose late operations write a cell that earlier ones load, where others that load what stays may come before or behind the late ones: S is asked until the first late one, T behind all. acc's flag; add where a float is infinite or no number. A sum as it is made, of any patterns: what is finite, and the flags. The values of floats, of their products, and what the document's sums come to. acc's Merge, AddProduct, Add, Of by values: sums of which the finite part is a whole number of 2^-2148. The laws' pattern; acc's Of and Neg by values; slices.Equal and Same where both are one. -/
import Derived.Test.YtoflafgbbjinpaaGreatDoorZn21
import Derived.Test.YtoflafgbbjinpaaGreatDoorZn40
import Derived.Test.YtoflafgbbjinpaaGreatDoorZn37
import Derived.Test.YtoflafgbbjinpaaGreatDoorZn13
import Derived.Test.YtoflafgbbjinpaaGreatDoorZn39
namespace Go.Proofs.YtoflafgbbjinpaaGreatDoor
open Go.ChangeShapes Go.WideShapes Go.ChangeAt Go.RowKit
set_option linter.unusedVariables false
set_option linter.unusedSimpArgs false
set_option maxHeartbeats 16000000
set_option maxRecDepth 100000
theorem merge_no (n1 : Bool) (a1 : Option Addr) (l1 c1 : Nat) (x1 : Int) (p1 m1 z1 : Bool) (n2 : Bool) (a2 : Option Addr) (l2 c2 : Nat) (x2 : Int) (p2 m2 z2 : Bool) (w : World) (er : Int) (he : er ≠ 0)
  (KA : Hid (∀ u, Kept w u → Calls Tryz.prog 18 #[.agg #[.bool n1, .slice a1 l1 c1, .int .i64 x1], .agg #[.bool n2, .slice a2 l2 c2, .int .i64 x2]] u fun e w' => e = .returned (.tuple #[zeroNum, .int .i64 er]) ∧ Kept u w')) :
  Calls Tryz.prog 29 #[accV n1 (.slice a1 l1 c1) x1 p1 m1 z1, accV n2 (.slice a2 l2 c2) x2 p2 m2 z2] w fun e w' => e = .returned (.tuple #[accZ, .int .i64 er]) ∧ Kept w w' := by
 have he2 : (er != 0) = true := by simpa using he
 obtain ⟨Y, hY⟩ : ∃ X, X = (w.alloc (.cells #[.bool n1, .slice a1 l1 c1, .int .i64 x1, .bool p1, .bool m1, .bool z1] 26)).alloc (.cells #[.bool n2, .slice a2 l2 c2, .int .i64 x2, .bool p2, .bool m2, .bool z2] 26) := ⟨_, rfl⟩
 obtain ⟨X, hX⟩ : ∃ X, X = ((w.alloc (.cells #[.bool n1, .slice a1 l1 c1, .int .i64 x1, .bool p1, .bool m1, .bool z1] 26)).alloc (.cells #[.bool n2, .slice a2 l2 c2, .int .i64 x2, .bool p2, .bool m2, .bool z2] 26)).alloc (.cells #[.bool false, .slice none 0 0, .int .i64 0, .bool false, .bool false, .bool false] 26) := ⟨_, rfl⟩
 have k0 : Kept w X := by rw [hX]; exact (((Kept.refl w).alloc _ _).alloc _ _).alloc _ _
 obtain ⟨B1, hB1⟩ : ∃ B, B = w.heap.size + 1 := ⟨_, rfl⟩
 obtain ⟨B2, hB2⟩ : ∃ B, B = w.heap.size + 1 + 1 := ⟨_, rfl⟩
 have HR : Hid (∀ u, Kept X u → _) := acc_res1 (w := Y) 26 B2 (by rw [hY, hB2]; simp) (by rw [hX, hY]; exact Kept.refl _)
 have HX : Hid (B2 < X.heap.size ∧ w.heap.size ≤ B2) := ⟨by rw [hX, hB2]; simp, by omega⟩
 have HA : Hid (X.cell? ⟨w.heap.size, 0, none⟩ = some (.bool n1) ∧ X.cell? ⟨w.heap.size, 1, none⟩ = some (.slice a1 l1 c1) ∧ X.cell? ⟨w.heap.size, 2, none⟩ = some (.int .i64 x1) ∧ X.cell? ⟨B1, 0, none⟩ = some (.bool n2) ∧ X.cell? ⟨B1, 1, none⟩ = some (.slice a2 l2 c2) ∧ X.cell? ⟨B1, 2, none⟩ = some (.int .i64 x2)) := by
  rw [hX, hB1]
  refine ⟨?_, ?_, ?_, ?_, ?_, ?_⟩ <;> simp [go_sem]
 have KA2 : Hid (Calls Tryz.prog 18 #[.agg #[.bool n1, .slice a1 l1 c1, .int .i64 x1], .agg #[.bool n2, .slice a2 l2 c2, .int .i64 x2]] X fun e w' => e = .returned (.tuple #[zeroNum, .int .i64 er]) ∧ Kept X w') := KA.out X k0
 clear KA
 go_enter Tryz.func29, Tryz.ntmps29
 go_upto_region 1 with fail
 rw [← hX, ← hB2, ← hB1]
 clear hX hB1 hB2 hY
 obtain ⟨c0, c1', c2', d0, d1, d2⟩ := HA.out
 go_wp2_with fail
 refine KA2.out.mono ?_
 rintro e w1 ⟨rfl, k1⟩
 clear c0 c1' c2' d0 d1 d2 HA KA2
 obtain ⟨r0, r1, r2, r3, r4, r5, r6⟩ := HR.out _ k1
 obtain ⟨s0, s1, s2, s3, s4, s5, s6⟩ := HR.out _ (k1.alloc #[.bool false, .slice none 0 0, .int .i64 0] 24)
 have nn2 : B2 ≠ w1.heap.size := Nat.ne_of_lt (Nat.lt_of_lt_of_le HX.out.1 k1.below.size)
 go_wp2_with fail
 exact bodyPost_ret (v := .tuple #[accZ, .int .i64 er]) (by simp [results, Tryz.results29, go_sem, r0, r1, r2, r3, r4, r5, s0, s1, s2, s3, s4, s5, nn2]) rfl ⟨rfl, kept_six1 B2 HX.out.2 ((k0.trans k1).alloc _ _) _ _ _ _ _ _⟩
end Go.Proofs.YtoflafgbbjinpaaGreatDoor
namespace Go.Proofs.YtoflafgbbjinpaaGreatDoor
open Go.ChangeShapes Go.WideShapes Go.ChangeAt Go.RowKit Ieee
set_option linter.unusedVariables false
set_option linter.unusedSimpArgs false
set_option maxHeartbeats 16000000
set_option maxRecDepth 100000
/- a float's kind, by its rung -/
/- what the model answers where a product is no number -/
end Go.Proofs.YtoflafgbbjinpaaGreatDoor
namespace Go.Proofs.YtoflafgbbjinpaaGreatDoor
open Go
set_option linter.unusedVariables false
set_option linter.unusedSimpArgs false
set_option maxHeartbeats 16000000
set_option maxRecDepth 100000
section
variable {P : Program} {ops : Array Oper} {Q : Exit → Act → World → Prop} {md : Region.Mode} {S T : World → Prop} {D : List Nat}
end
end Go.Proofs.YtoflafgbbjinpaaGreatDoor
namespace Go.Proofs.YtoflafgbbjinpaaGreatDoor
open Go.ChangeShapes Go.WideShapes Go.ChangeAt Go.RowKit
set_option linter.unusedVariables false
set_option linter.unusedSimpArgs false
set_option maxHeartbeats 16000000
set_option maxRecDepth 100000
/- what a product brings: its value, if it is finite; +Inf, -Inf, or no number, if not -/
/- a finite float in units of 2^-1074 -/
/- a product, as the document has it -/
/- a number that is S in units of 2^-2148 -/
structure DN (S : Int) (r : Nm) : Prop where
 bd : S.natAbs < 2 ^ expK
 is : cfm S (-2148) = some r
theorem DN.one {S : Int} {r t : Nm} (h : DN S r) (h' : DN S t) : r = t := by
 have := h.is.symm.trans h'.is
 cases this
 rfl
theorem DN.lies {S : Int} {r : Nm} (h : DN S r) : Lies (-2148) expK r ∧ vz (-2148) r = S := by
 obtain ⟨r', h1, h2, h3⟩ := cfm_lies (-2148) expK (by rw [expK_is]; decide) (by decide) (by decide) S h.bd
 rw [h.is] at h1
 cases h1
 exact ⟨h2, h3⟩
theorem DN.vld {S : Int} {r : Nm} (h : DN S r) : vld r = true := h.lies.1.ok
theorem DN.rg {S : Int} {r : Nm} (h : DN S r) : Rg r.mag ∧ r.mag.length ≤ 2000 := by
 obtain ⟨hl, hd⟩ := vld_dg r.neg r.mag r.exp h.vld
 exact ⟨hd.rg, hl⟩
/- an item's width, its patterns -/
theorem accNeg_ok (ng : Bool) (ao : Option Addr) (l c : Nat) (x : Int) (p m z : Bool) (w : World) (r : Nm)
  (KN : Hid (∀ u, Kept w u → Calls Tryz.prog 85 #[.agg #[.bool ng, .slice ao l c, .int .i64 x]] u fun e w' => ∃ v, e = .returned (.tuple #[v, .int .i64 0]) ∧ New u w' v r ∧ Kept u w')) :
  Calls Tryz.prog 33 #[accV ng (.slice ao l c) x p m z] w fun e w' => ∃ un ua ul uc ux, e = .returned (.tuple #[accV un (.slice ua ul uc) ux m p z, .int .i64 0]) ∧ New w w' (.agg #[.bool un, .slice ua ul uc, .int .i64 ux]) r ∧ Kept w w' := by
 obtain ⟨X0, hX0⟩ : ∃ X, X = w.alloc (.cells #[.bool ng, .slice ao l c, .int .i64 x, .bool p, .bool m, .bool z] 26) := ⟨_, rfl⟩
 obtain ⟨X, hX⟩ : ∃ X, X = (w.alloc (.cells #[.bool ng, .slice ao l c, .int .i64 x, .bool p, .bool m, .bool z] 26)).alloc (.cells #[.bool false, .slice none 0 0, .int .i64 0, .bool false, .bool false, .bool false] 26) := ⟨_, rfl⟩
 have k0 : Kept w X := by rw [hX]; exact ((Kept.refl w).alloc _ _).alloc _ _
 have k00 : Kept X0 X := by rw [hX, hX0]; exact (Kept.refl _).alloc _ _
 obtain ⟨R, hR⟩ : ∃ R, R = w.heap.size + 1 := ⟨_, rfl⟩
 have HXs : Hid (X.heap.size = w.heap.size + 2 ∧ R = w.heap.size + 1) := ⟨by rw [hX]; simp, hR⟩
 have HA : Hid (∀ u, Kept X0 u → _) := acc_cells1 ng (.slice ao l c) x p m z 26 w.heap.size rfl (X := X0) (by rw [hX0]; exact Kept.refl _)
 have HR : Hid (∀ u, Kept X u → _) := acc_res1 (w := w.alloc (.cells #[.bool ng, .slice ao l c, .int .i64 x, .bool p, .bool m, .bool z] 26)) 26 R (by rw [hR]; simp) (by rw [hX]; exact Kept.refl _)
 go_enter Tryz.func33, Tryz.ntmps33
 go_upto_region 1 with fail
 rw [← hX, ← hR]
 clear hX hX0 hR
 obtain ⟨c0, c1, c2, c3, c4, c5⟩ := HA.out _ k00
 go_wp2_with fail
 refine (KN.out _ k0).mono ?_
 rintro e w1 ⟨v, rfl, hN, k1⟩
 obtain ⟨vn, va, vl, vc, vx, rfl⟩ := hN.shape
 have HN : Hid (New X w1 (.agg #[.bool vn, .slice va vl vc, .int .i64 vx]) r) := hN
 clear c0 c1 c2 c3 c4 c5 hN
 obtain ⟨-, -, -, f3, f4, f5⟩ := HA.out _ (k00.trans k1)
 obtain ⟨-, -, -, g3, g4, g5⟩ := HA.out _ (k00.trans (k1.alloc #[.bool vn, .slice va vl vc, .int .i64 vx] 24))
 obtain ⟨r0, r1, r2, r3, r4, r5, r6⟩ := HR.out _ k1
 obtain ⟨s0, s1, s2, s3, s4, s5, s6⟩ := HR.out _ (k1.alloc #[.bool vn, .slice va vl vc, .int .i64 vx] 24)
 have nn2 : R ≠ w1.heap.size := by have := k1.below.size; have := HXs.out; omega
 have nn0 : w.heap.size ≠ w1.heap.size := by have := k1.below.size; have := HXs.out; omega
 go_wp2_with fail
 refine bodyPost_ret (v := .tuple #[accV vn (.slice va vl vc) vx m p z, .int .i64 0]) (by simp [results, Tryz.results33, go_sem, r0, r1, r2, r3, r4, r5, s0, s1, s2, s3, s4, s5, nn2]) rfl ⟨vn, va, vl, vc, vx, rfl, ?_, ?_⟩
 ·have hN2 : New X (w1.alloc (.cells #[.bool vn, .slice va vl vc, .int .i64 vx] 24)) (.agg #[.bool vn, .slice va vl vc, .int .i64 vx]) r := HN.out.kept ((Kept.refl w1).alloc _ _)
  exact new_six1 R (by have := HXs.out; omega) hN2 (by have := HXs.out; omega) _ _ _ _ _ _
 ·exact kept_six1 R (by have := HXs.out; omega) ((k0.trans k1).alloc _ _) _ _ _ _ _ _
theorem equal_true (L : List Int) (hlen : L.length < 100000000) (a b : Option Addr) (c d : Nat) (w : World) (h : Sl w (.slice a L.length c) L) (h' : Sl w (.slice b L.length d) L) : Calls Tryz.prog 86 #[.slice a L.length c, .slice b L.length d] w fun e w' => e = .returned (.bool true) ∧ Kept w w' := by
 have HX : Hid (∀ u, Kept w u → ∀ i, i < L.length → ∃ b off, a = some ⟨b, off, none⟩ ∧ u.cell? ⟨b, off + i, none⟩ = some (.int .i64 (L.getD i 0))) := fun u k i hi => sl_cell h u k i hi
 have HY : Hid (∀ u, Kept w u → ∀ i, i < L.length → ∃ b' off, b = some ⟨b', off, none⟩ ∧ u.cell? ⟨b', off + i, none⟩ = some (.int .i64 (L.getD i 0))) := fun u k i hi => sl_cell h' u k i hi
 clear h h'
 obtain ⟨N, hn⟩ : ∃ N, N = L.length := ⟨_, rfl⟩
 rw [← hn] at HX HY hlen ⊢
 clear hn
 go_enter Tryz.func86, Tryz.ntmps86
 go_wp2_with fail
 go_loopw [13] (fun i wr => ∃ k : Nat, k ≤ N ∧ i = .int .i64 k ∧ Kept w wr) (fun i _ => N - (intOf i).toNat)
 case atStart => exact ⟨0, Nat.zero_le _, rfl, Kept.refl _⟩
 case round =>
  obtain ⟨k, hk, rfl, kr⟩ := hrel
  by_cases hkn : k < N
  ·obtain ⟨bx, ox, rfl, hcx⟩ := HX.out _ kr k hkn
   obtain ⟨by', oy, rfl, hcy⟩ := HY.out _ kr k hkn
   have e0 : (L.getD k 0 != L.getD k 0) = false := by simp
   clear HX HY
   generalize L.getD k 0 = xk at *
   go_wp2_with fail
   go_quiet (fail)
   go_wp2_with fail
   go_roundw
   case rel => exact ⟨k + 1, by omega, by go_num, kr.drewN _⟩
   case measure => simp [intOf]; omega
  ·go_wp2_with fail
   go_ret
   exact ⟨rfl, kr⟩
end Go.Proofs.YtoflafgbbjinpaaGreatDoor
