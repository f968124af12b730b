/- The laws' pattern; acc's Of and Neg by values; slices.Equal and Same where both are one. -/
import Derived.Test.YtdpccifhhencgaaGreatDoorZo43
import Derived.Test.YtdpccifhhencgaaGreatDoorZo37
namespace Go.Proofs.YtdpccifhhencgaaGreatDoor
open Go.ChangeShapes Go.WideShapes Go.ChangeAt Go.RowKit
set_option linter.unusedVariables false
set_option linter.unusedSimpArgs false
set_option maxHeartbeats 16000000
set_option maxRecDepth 100000
theorem mask32 (s : Int) : bits .and .i64 s 4294967295 = s % 4294967296 := by
 rw [bits_and, BitVec.toNat_and, show (BitVec.ofInt 64 4294967295).toNat = 2 ^ 32 - 1 from rfl, Nat.and_two_pow_sub_one_eq_mod, BitVec.toNat_ofInt, wrap_i64]
 omega
theorem mask2 (s : Int) : bits .and .i64 s 3 = s % 4 := by
 rw [bits_and, BitVec.toNat_and, show (BitVec.ofInt 64 3).toNat = 2 ^ 2 - 1 from rfl, Nat.and_two_pow_sub_one_eq_mod, BitVec.toNat_ofInt, wrap_i64]
 omega
/- an item's width, its patterns -/
def wdI (w : Int) : Int := if w % 2 = 0 then 32 else 64
def ptI (b w : Int) : Int := if w % 2 = 0 then b % 4294967296 else b
theorem wdI_ok (w : Int) : wdI w = 64 ∨ wdI w = 32 := by unfold wdI; split <;> simp
theorem ptI_ok (b w : Int) (h1 : -9223372036854775808 ≤ b) (h2 : b ≤ 9223372036854775807) : -9223372036854775808 ≤ ptI b w ∧ ptI b w ≤ 9223372036854775807 ∧ val (ptI b w) (wdI w) = true := by
 unfold ptI wdI val
 by_cases h : w % 2 = 0
 ·rw [if_pos h, if_pos h]
  refine ⟨by omega, by omega, ?_⟩
  simp
  omega
 ·rw [if_neg h, if_neg h]
  exact ⟨h1, h2, by simp⟩
theorem pattern3 (b w : Int) (u : World) : Calls Tryz.prog 51 #[.int .i64 b, .int .i64 w] u fun e w' => e = .returned (.int .i64 (ptI b w)) ∧ Kept u w' := by
 have m1 := and_one w
 have m2 := mask32 b
 obtain ⟨R, hR⟩ : ∃ R, R = ptI b w := ⟨_, rfl⟩
 rw [← hR]
 unfold ptI at hR
 by_cases h : w % 2 = 0
 ·rw [if_pos h] at hR
  have e1 : (bits .and .i64 w 1 == 0) = true := by rw [m1, h]; rfl
  have e2 : bits .and .i64 b 4294967295 = R := by rw [m2, hR]
  clear m1 m2 h hR
  go_enter Tryz.func51, Tryz.ntmps51
  go_wp2_with fail
  go_ret
  exact ⟨rfl, Kept.refl _⟩
 ·rw [if_neg h] at hR
  subst hR
  have e1 : (bits .and .i64 w 1 == 0) = false := by rw [m1, beq_eq_false_iff_ne]; exact h
  clear m1 m2 h
  go_enter Tryz.func51, Tryz.ntmps51
  go_wp2_with fail
  go_ret
  exact ⟨rfl, Kept.refl _⟩
theorem accOf_ok (n x : Int) (w : World) (r : Nm) (P M Z : Bool) (f : Int)
  (KP : Hid (∀ u, Kept w u → Calls Tryz.prog 22 #[accZ, .int .i64 x, .int .i64 n] u fun e w' => ∃ un ua ul uc ux, e = .returned (.tuple #[accV un (.slice ua ul uc) ux P M Z, .int .i64 f]) ∧ New u w' (.agg #[.bool un, .slice ua ul uc, .int .i64 ux]) r ∧ Kept u w')) :
  Calls Tryz.prog 25 #[.int .i64 x, .int .i64 n] w fun e w' => ∃ un ua ul uc ux, e = .returned (.tuple #[accV un (.slice ua ul uc) ux P M Z, .int .i64 f]) ∧ New w w' (.agg #[.bool un, .slice ua ul uc, .int .i64 ux]) r ∧ Kept w w' := by
 obtain ⟨X, hX⟩ : ∃ X, X = w.alloc (.cells #[.bool false, .slice none 0 0, .int .i64 0, .bool false, .bool false, .bool false] 26) := ⟨_, rfl⟩
 have k0 : Kept w X := by rw [hX]; exact (Kept.refl w).alloc _ _
 have hXs : Hid (X.heap.size = w.heap.size + 1) := by rw [hX]; simp [Hid]
 have HR : Hid (∀ u, Kept X u → _) := acc_res hX
 go_enter Tryz.func25, Tryz.ntmps25
 go_upto_region 1 with fail
 rw [← hX]
 clear hX
 go_wp2_with fail
 refine (KP.out _ k0).mono ?_
 rintro e w5 ⟨un, ua, ul, uc, ux, rfl, hN5, k5⟩
 obtain ⟨r0, r1, r2', r3, r4, r5, r6⟩ := HR.out _ k5
 go_wp2_with fail
 refine bodyPost_ret (v := .tuple #[accV un (.slice ua ul uc) ux P M Z, .int .i64 f]) (by simp [results, Tryz.results25, go_sem, r0, r1, r2', r3, r4, r5]) rfl ⟨un, ua, ul, uc, ux, rfl, ?_, ?_⟩
 ·exact new_six hN5 (by rw [hXs.out]; omega) _ _ _ _ _ _
 ·exact kept_six (k0.trans k5) _ _ _ _ _ _
theorem accNeg_ok (ng : Bool) (ao : Option Addr) (l c : Nat) (x : Int) (p m z : Bool) (w : World) (r : Nm)
  (KN : Hid (∀ u, Kept w u → Calls Tryz.prog 82 #[.agg #[.bool ng, .slice ao l c, .int .i64 x]] u fun e w' => ∃ v, e = .returned (.tuple #[v, .int .i64 0]) ∧ New u w' v r ∧ Kept u w')) :
  Calls Tryz.prog 39 #[accV ng (.slice ao l c) x p m z] w fun e w' => ∃ un ua ul uc ux, e = .returned (.tuple #[accV un (.slice ua ul uc) ux m p z, .int .i64 0]) ∧ New w w' (.agg #[.bool un, .slice ua ul uc, .int .i64 ux]) r ∧ Kept w w' := by
 obtain ⟨X0, hX0⟩ : ∃ X, X = w.alloc (.cells #[.bool ng, .slice ao l c, .int .i64 x, .bool p, .bool m, .bool z] 26) := ⟨_, rfl⟩
 obtain ⟨X, hX⟩ : ∃ X, X = (w.alloc (.cells #[.bool ng, .slice ao l c, .int .i64 x, .bool p, .bool m, .bool z] 26)).alloc (.cells #[.bool false, .slice none 0 0, .int .i64 0, .bool false, .bool false, .bool false] 26) := ⟨_, rfl⟩
 have k0 : Kept w X := by rw [hX]; exact ((Kept.refl w).alloc _ _).alloc _ _
 have k00 : Kept X0 X := by rw [hX, hX0]; exact (Kept.refl _).alloc _ _
 obtain ⟨R, hR⟩ : ∃ R, R = w.heap.size + 1 := ⟨_, rfl⟩
 have HXs : Hid (X.heap.size = w.heap.size + 2 ∧ R = w.heap.size + 1) := ⟨by rw [hX]; simp, hR⟩
 have HA : Hid (∀ u, Kept X0 u → _) := acc_cells1 ng (.slice ao l c) x p m z 26 w.heap.size rfl (X := X0) (by rw [hX0]; exact Kept.refl _)
 have HR : Hid (∀ u, Kept X u → _) := acc_res1 (w := w.alloc (.cells #[.bool ng, .slice ao l c, .int .i64 x, .bool p, .bool m, .bool z] 26)) 26 R (by rw [hR]; simp) (by rw [hX]; exact Kept.refl _)
 go_enter Tryz.func39, Tryz.ntmps39
 go_upto_region 1 with fail
 rw [← hX, ← hR]
 clear hX hX0 hR
 obtain ⟨c0, c1, c2, c3, c4, c5⟩ := HA.out _ k00
 go_wp2_with fail
 refine (KN.out _ k0).mono ?_
 rintro e w1 ⟨v, rfl, hN, k1⟩
 obtain ⟨vn, va, vl, vc, vx, rfl⟩ := hN.shape
 have HN : Hid (New X w1 (.agg #[.bool vn, .slice va vl vc, .int .i64 vx]) r) := hN
 clear c0 c1 c2 c3 c4 c5 hN
 obtain ⟨-, -, -, f3, f4, f5⟩ := HA.out _ (k00.trans k1)
 obtain ⟨-, -, -, g3, g4, g5⟩ := HA.out _ (k00.trans (k1.alloc #[.bool vn, .slice va vl vc, .int .i64 vx] 24))
 obtain ⟨r0, r1, r2, r3, r4, r5, r6⟩ := HR.out _ k1
 obtain ⟨s0, s1, s2, s3, s4, s5, s6⟩ := HR.out _ (k1.alloc #[.bool vn, .slice va vl vc, .int .i64 vx] 24)
 have nn2 : R ≠ w1.heap.size := by have := k1.below.size; have := HXs.out; omega
 have nn0 : w.heap.size ≠ w1.heap.size := by have := k1.below.size; have := HXs.out; omega
 go_wp2_with fail
 refine bodyPost_ret (v := .tuple #[accV vn (.slice va vl vc) vx m p z, .int .i64 0]) (by simp [results, Tryz.results39, go_sem, r0, r1, r2, r3, r4, r5, s0, s1, s2, s3, s4, s5, nn2]) rfl ⟨vn, va, vl, vc, vx, rfl, ?_, ?_⟩
 ·have hN2 : New X (w1.alloc (.cells #[.bool vn, .slice va vl vc, .int .i64 vx] 24)) (.agg #[.bool vn, .slice va vl vc, .int .i64 vx]) r := HN.out.kept ((Kept.refl w1).alloc _ _)
  exact new_six1 R (by have := HXs.out; omega) hN2 (by have := HXs.out; omega) _ _ _ _ _ _
 ·exact kept_six1 R (by have := HXs.out; omega) ((k0.trans k1).alloc _ _) _ _ _ _ _ _
theorem equal_true (L : List Int) (hlen : L.length < 100000000) (a b : Option Addr) (c d : Nat) (w : World) (h : Sl w (.slice a L.length c) L) (h' : Sl w (.slice b L.length d) L) : Calls Tryz.prog 53 #[.slice a L.length c, .slice b L.length d] w fun e w' => e = .returned (.bool true) ∧ Kept w w' := by
 have HX : Hid (∀ u, Kept w u → ∀ i, i < L.length → ∃ b off, a = some ⟨b, off, none⟩ ∧ u.cell? ⟨b, off + i, none⟩ = some (.int .i64 (L.getD i 0))) := fun u k i hi => sl_cell h u k i hi
 have HY : Hid (∀ u, Kept w u → ∀ i, i < L.length → ∃ b' off, b = some ⟨b', off, none⟩ ∧ u.cell? ⟨b', off + i, none⟩ = some (.int .i64 (L.getD i 0))) := fun u k i hi => sl_cell h' u k i hi
 clear h h'
 obtain ⟨N, hn⟩ : ∃ N, N = L.length := ⟨_, rfl⟩
 rw [← hn] at HX HY hlen ⊢
 clear hn
 go_enter Tryz.func53, Tryz.ntmps53
 go_wp2_with fail
 go_loopw [13] (fun i wr => ∃ k : Nat, k ≤ N ∧ i = .int .i64 k ∧ Kept w wr) (fun i _ => N - (intOf i).toNat)
 case atStart => exact ⟨0, Nat.zero_le _, rfl, Kept.refl _⟩
 case round =>
  obtain ⟨k, hk, rfl, kr⟩ := hrel
  by_cases hkn : k < N
  ·obtain ⟨bx, ox, rfl, hcx⟩ := HX.out _ kr k hkn
   obtain ⟨by', oy, rfl, hcy⟩ := HY.out _ kr k hkn
   have e0 : (L.getD k 0 != L.getD k 0) = false := by simp
   clear HX HY
   generalize L.getD k 0 = xk at *
   go_wp2_with fail
   go_quiet (fail)
   go_wp2_with fail
   go_roundw
   case rel => exact ⟨k + 1, by omega, by go_num, kr.drewN _⟩
   case measure => simp [intOf]; omega
  ·go_wp2_with fail
   go_ret
   exact ⟨rfl, kr⟩
end Go.Proofs.YtdpccifhhencgaaGreatDoor
