/- The statements' own around, for any int; tight. -/
import Derived.Test.YtalhnaakbekboaaDoorU47
namespace Go.Proofs.YtalhnaakbekboaaDoor
open Go.ChangeShapes Go.WideShapes Go.ChangeAt Go.RowKit Ieee
set_option linter.unusedVariables false
set_option linter.unusedSimpArgs false

theorem mask32b (s : Int) : bits .and .i64 s 4294967295 = s % 4294967296 := by
  have e : (BitVec.ofInt 64 4294967295 : BitVec 64).toNat = 2 ^ 32 - 1 := by decide
  have h := ofInt_toNat s
  rw [bits_and, BitVec.toNat_and, e, Nat.and_two_pow_sub_one_eq_mod, wrap_i64]
  omega
theorem mask3 (s : Int) : bits .and .i64 s 7 = s % 8 := by
  have e : (BitVec.ofInt 64 7 : BitVec 64).toNat = 2 ^ 3 - 1 := by decide
  have h := ofInt_toNat s
  rw [bits_and, BitVec.toNat_and, e, Nat.and_two_pow_sub_one_eq_mod, wrap_i64]
  omega
theorem mask1 (s : Int) : bits .and .i64 s 1 = s % 2 := by
  have e : (BitVec.ofInt 64 1 : BitVec 64).toNat = 2 ^ 1 - 1 := by decide
  have h := ofInt_toNat s
  rw [bits_and, BitVec.toNat_and, e, Nat.and_two_pow_sub_one_eq_mod, wrap_i64]
  omega
theorem itr_rng (f : Int → Int) (hf : ∀ z, RB z → RB (f z)) (k : Nat) (y : Int) (hy : RB y) : RB (itr f k y) := by
  induction k with
  | zero => exact hy
  | succ k ih => exact hf _ ih
theorem nxt_rb (n z : Int) (h : RB z) : RB (nxt z n) := nxt_bd z n h.1 h.2
theorem ngt_rb (n z : Int) (h : RB z) : RB (ngt z n) := by
  unfold RB at *
  unfold ngt nanOf
  (repeat' split) <;> omega
theorem prv_rb (n z : Int) (h : RB z) : RB (prv z n) := ngt_rb n _ (nxt_rb n _ (ngt_rb n z h))
/-- the int as a pattern of the width -/
def mskp (b n : Int) : Int := if n = 32 then b % 4294967296 else b
theorem mskp_rb (b n : Int) (h : RB b) : RB (mskp b n) := by
  unfold RB at *
  unfold mskp
  split <;> omega
def numOf (y n : Int) : Nm := if cls y n < 3 then ofN y n else ⟨false, [], 0⟩
theorem of_both (y n : Int) (hn : n = 64 ∨ n = 32) (hy : RB y) (w : World) (hT : Tab w) : Calls Tryd.prog 22 #[.int .i64 y, .int .i64 n] w fun e w' => ∃ v, e = .returned (.tuple #[v, .int .i64 (if cls y n < 3 then 0 else 6)]) ∧ New w w' v (numOf y n) ∧ Kept w w' := by
  unfold numOf
  by_cases hc : cls y n < 3
  · rw [if_pos hc, if_pos hc]
    exact of_fin y n hy.1 hy.2 hn hc w hT
  · rw [if_neg hc, if_neg hc]
    refine (of_bits y n hy.1 hy.2 hn (by omega) w).mono ?_
    rintro e w' ⟨rfl, k⟩
    exact ⟨_, rfl, .inl ⟨rfl, rfl⟩, k⟩
theorem lar_any (n : Int) (hn : n = 64 ∨ n = 32) (b bl1 ab1 : Int) (hb : RB b) (w : World) (hT : Tab w) : Calls Tryd.prog 6 #[.int .i64 b, .int .i64 bl1, .int .i64 ab1, .int .i64 n] w fun e w' => ∃ v, e = .returned (.tuple #[sp2 (itr (prv · n) (bl1 % 8).toNat (mskp b n)) (itr (nxt · n) (ab1 % 8).toNat (mskp b n)), v, .bool (decide (cls (mskp b n) n < 3))]) ∧ New w w' v (numOf (mskp b n) n) ∧ Kept w w' := by
  have hm := mskp_rb b n hb
  have h1 : bits .and .i64 bl1 7 = ((bl1 % 8).toNat : Int) := by rw [mask3]; omega
  have h2 : bits .and .i64 ab1 7 = ((ab1 % 8).toNat : Int) := by rw [mask3]; omega
  have he : ((if cls (mskp b n) n < 3 then (0 : Int) else 6) == 0) = decide (cls (mskp b n) n < 3) := by
    by_cases hc : cls (mskp b n) n < 3 <;> simp [hc]
  have KE : Hid (∀ u, Kept w u → Calls Tryd.prog 22 #[.int .i64 (mskp b n), .int .i64 n] u fun e w' => ∃ v, e = .returned (.tuple #[v, .int .i64 (if cls (mskp b n) n < 3 then 0 else 6)]) ∧ New u w' v (numOf (mskp b n) n) ∧ Kept u w') := fun u k => of_both _ n hn hm u (hT.kept k)
  have KP : Hid (∀ u (k : Nat), k < 8 → Calls Tryd.prog 23 #[.int .i64 (itr (prv · n) k (mskp b n)), .int .i64 n] u fun e w' => e = .returned (.int .i64 (itr (prv · n) (k + 1) (mskp b n))) ∧ Kept u w') := fun u k _ => by
    have := itr_rng (prv · n) (fun z => prv_rb n z) k _ hm
    exact prev_any _ n this.1 this.2 u
  have KN : Hid (∀ u (k : Nat), k < 8 → Calls Tryd.prog 24 #[.int .i64 (itr (nxt · n) k (mskp b n)), .int .i64 n] u fun e w' => e = .returned (.int .i64 (itr (nxt · n) (k + 1) (mskp b n))) ∧ Kept u w') := fun u k _ => by
    have := itr_rng (nxt · n) (fun z => nxt_rb n z) k _ hm
    exact next_any _ n this.1 this.2 u
  rw [← he]
  rcases hn with rfl | rfl
  · have e : mskp b 64 = b := by unfold mskp; rw [if_neg (by decide)]
    rw [e] at KE KP KN ⊢
    exact laround_64 b bl1 ab1 _ _ (by omega) (by omega) h1 h2 _ _ w KE KP KN
  · have e : mskp b 32 = b % 4294967296 := by unfold mskp; rw [if_pos rfl]
    have hy := mask32b b
    rw [← e] at hy
    exact laround_32 b bl1 ab1 _ hy _ _ (by omega) (by omega) h1 h2 _ _ w KE KP KN

set_option maxHeartbeats 4000000 in
set_option maxRecDepth 100000 in
theorem tight_walk (s1 s2 n : Int) (ng : Bool) (ao : Option Addr) (l c : Nat) (ex z nx : Int) (ox : Bool) (w : World)
    (KA : Hid (∀ u, Kept w u → Calls Tryd.prog 13 #[.agg #[.bool ng, .slice ao l c, .int .i64 ex], .int .i64 n] u fun e w' => e = .returned (.tuple #[sp2 s1 s2, .int .i64 0]) ∧ Kept u w'))
    (KR : Hid (∀ u, Kept w u → Calls Tryd.prog 35 #[.agg #[.bool ng, .slice ao l c, .int .i64 ex], .int .i64 n, .int .i64 0] u fun e w' => e = .returned (.tuple #[.int .i64 z, .bool ox, .int .i64 0]) ∧ Kept u w'))
    (KP : Hid (∀ u, Calls Tryd.prog 36 #[sp2 s1 s2, .int .i64 n] u fun e w' => e = .returned (.tuple #[.bool (!ox), .int .i64 0]) ∧ Kept u w'))
    (KN : Hid (ox = true → ∀ u, Calls Tryd.prog 24 #[.int .i64 s1, .int .i64 n] u fun e w' => e = .returned (.int .i64 nx) ∧ Kept u w'))
    (KC : Hid (ox = true → ∀ u, Calls Tryd.prog 37 #[.int .i64 nx, .int .i64 n] u fun e w' => e = .returned (.int .i64 s2) ∧ Kept u w')) :
    Calls Tryd.prog 12 #[sp2 s1 s2, .agg #[.bool ng, .slice ao l c, .int .i64 ex], .int .i64 n] w fun e w' => e = .returned (.bool true) ∧ Kept w w' := by
  obtain ⟨X, hX⟩ : ∃ X, X = (w.alloc (.cells #[.int .i64 s1, .int .i64 s2] 23)).alloc (.cells #[.bool ng, .slice ao l c, .int .i64 ex] 26) := ⟨_, rfl⟩
  have hK : Kept w X := by
    rw [hX]
    exact ((Kept.refl w).alloc _ _).alloc _ _
  have hS : P2 X w.heap.size (.int .i64 s1) (.int .i64 s2) := by
    rw [hX]
    exact (P2.new w _ _ _).alloc _ _
  have hN : X.cell? ⟨w.heap.size + 1, 0, none⟩ = some (.bool ng) ∧ X.cell? ⟨w.heap.size + 1, 1, none⟩ = some (.slice ao l c) ∧ X.cell? ⟨w.heap.size + 1, 2, none⟩ = some (.int .i64 ex) := by
    rw [hX]
    exact ⟨by simp [go_sem], by simp [go_sem], by simp [go_sem]⟩
  have hs : Hid (X.heap.size = w.heap.size + 2) := by rw [hX]; simp [Hid]
  obtain ⟨H0, hH0⟩ : ∃ H, H = w.heap.size := ⟨_, rfl⟩
  obtain ⟨H1, hH1⟩ : ∃ H, H = H0 + 1 := ⟨_, rfl⟩
  rw [← hH0] at hS hN
  rw [← hH1] at hN
  have lH1 : H1 < X.heap.size := by have := hs.out; omega
  have HN : Hid (∀ u, Kept X u → u.cell? ⟨H1, 0, none⟩ = some (.bool ng) ∧ u.cell? ⟨H1, 1, none⟩ = some (.slice ao l c) ∧ u.cell? ⟨H1, 2, none⟩ = some (.int .i64 ex)) := fun u k => ⟨(k.below.cell (p := ⟨H1, 0, none⟩) lH1).trans hN.1, (k.below.cell (p := ⟨H1, 1, none⟩) lH1).trans hN.2.1, (k.below.cell (p := ⟨H1, 2, none⟩) lH1).trans hN.2.2⟩
  go_enter Tryd.func12, Tryd.ntmps12
  go_upto_region 1 with fail
  rw [← hX, ← hH0, ← hH1]
  clear hX hH0 hH1 hs hN
  obtain ⟨c0, c1, c2⟩ := HN.out _ (Kept.refl _)
  go_upto_region 2 with (first | (go_at_call 13; refine (KA.out _ hK).mono ?_; rintro e w1 ⟨rfl, k1⟩))
  clear c0 c1 c2
  have hA := P2.new w1 (.int .i64 s1) (.int .i64 s2) 23
  have kY := k1.alloc #[.int .i64 s1, .int .i64 s2] 23
  obtain ⟨Y, hY⟩ : ∃ Y, Y = w1.alloc (.cells #[.int .i64 s1, .int .i64 s2] 23) := ⟨_, rfl⟩
  obtain ⟨B, hB⟩ : ∃ B, B = w1.heap.size := ⟨_, rfl⟩
  rw [← hY] at hA kY
  rw [← hB] at hA
  rw [← hY, ← hB]
  clear hY hB k1
  obtain ⟨c0, c1, c2⟩ := HN.out _ kY
  go_upto_region 3 with (first | (go_at_call 35; refine (KR.out _ (hK.trans kY)).mono ?_; rintro e w2 ⟨rfl, k2⟩))
  clear c0 c1 c2
  obtain ⟨a0, a1, af⟩ := hS.kept (kY.trans k2)
  go_upto_region 4 with (first | (go_at_call 36; refine (KP.out _).mono ?_; rintro e w3 ⟨rfl, k3⟩))
  clear a0 a1 af
  have j3 := k2.trans k3
  have hS3 := hS.kept (kY.trans j3)
  have kw3 := (hK.trans kY).trans j3
  obtain ⟨a0, a1, af⟩ := hS3
  obtain ⟨b0, b1, bf⟩ := hA.kept j3
  have hS3 := P2.mk a0 a1 af
  have e1 : (s1 != s1) = false := by simp
  have e2 : (s2 != s2) = false := by simp
  have e3 : (s1 == s1) = true := by simp
  have e4 : (s2 == s2) = true := by simp
  clear HN KA KR KP hA hS kY k2 k3 j3
  cases ox
  · clear KN KC
    go_upto_region 6 with fail
    go_quiet (fail)
    go_wp2_with fail
    go_ret
    exact ⟨rfl, by first | exact kw3.drewN _ | exact kw3.drew | exact kw3⟩
  · have KN' := KN.out rfl
    have KC' := KC.out rfl
    clear KN KC
    have KN : Hid (∀ u, Kept w3 u → Calls Tryd.prog 24 #[.int .i64 s1, .int .i64 n] u fun e w' => e = .returned (.int .i64 nx) ∧ Kept w3 w') := fun u k => by
      refine (KN' u).mono ?_
      rintro e w' ⟨rfl, k'⟩
      exact ⟨rfl, k.trans k'⟩
    have KC : Hid (∀ u, Kept w3 u → Calls Tryd.prog 37 #[.int .i64 nx, .int .i64 n] u fun e w' => e = .returned (.int .i64 s2) ∧ Kept w3 w') := fun u k => by
      refine (KC' u).mono ?_
      rintro e w' ⟨rfl, k'⟩
      exact ⟨rfl, k.trans k'⟩
    clear KN' KC'
    have kd : Kept w3 w3.drew := (Kept.refl _).drew
    have HS : Hid (∀ u, Kept w3 u → Kept w3 u ∧ u.cell? ⟨H0, 0, none⟩ = some (.int .i64 s1) ∧ u.cell? ⟨H0, 1, none⟩ = some (.int .i64 s2)) := fun u k => ⟨k, (hS3.kept k).c0, (hS3.kept k).c1⟩
    go_upto_region 6 with fail
    go_region_held (fun u => Kept w3 u ∧ u.cell? ⟨H0, 0, none⟩ = some (.int .i64 s1) ∧ u.cell? ⟨H0, 1, none⟩ = some (.int .i64 s2)) (first | assumption | exact HS.out _ kd | exact HS.out _ (by assumption)) (first | (go_at_call 24; refine (KN.out _ (by assumption)).mono ?_; rintro e w4 ⟨rfl, k4⟩) | (go_at_call 37; refine (KC.out _ (by assumption)).mono ?_; rintro e w5 ⟨rfl, k5⟩))
    go_wp2_with fail
    go_ret
    exact ⟨rfl, kw3.trans k5⟩
end Go.Proofs.YtalhnaakbekboaaDoor
