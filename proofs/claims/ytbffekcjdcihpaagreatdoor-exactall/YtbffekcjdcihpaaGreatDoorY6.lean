/- exact's Int below 0; the document's own Whole and Make, Finite and Exact; exact's Make and Int of whatever is handed in; the walk of the laws' own 'made'. -/
import Derived.Test.YtbffekcjdcihpaaGreatDoorPah
import Derived.Test.YtbffekcjdcihpaaGreatDoorR7
import Derived.Test.YtbffekcjdcihpaaGreatDoorPai
import Derived.Test.YtbffekcjdcihpaaGreatDoorU9
import Derived.Test.YtbffekcjdcihpaaGreatDoorX5
import Derived.Test.YtbffekcjdcihpaaGreatDoorPag
namespace Go.Proofs.YtbffekcjdcihpaaGreatDoor
open Go.ChangeShapes Go.WideShapes Go.ChangeAt Go.RowKit
set_option linter.unusedVariables false
set_option linter.unusedSimpArgs false
set_option maxHeartbeats 16000000
set_option maxRecDepth 100000
theorem int_neg (n : Int) (h0 : -9223372036854775808 ≤ n) (h1 : n < 0) (r : Nm) (hf : frm (decide (n < 0)) n.natAbs 0 = some r) (w : World) (hT : Tab w) : Calls Tryz.prog 18 #[.int .i64 n] w fun e w' => (∃ v, e = .returned v ∧ New w w' v r) ∧ Kept w w' := by
 have hK : Kept w (numW w) := (Kept.refl w).alloc _ _
 obtain ⟨s, hs⟩ : ∃ s : Int, s = (n.natAbs : Int) := ⟨_, rfl⟩
 have hs1 : 0 ≤ s ∧ s ≤ 9223372036854775808 := by omega
 have hw1 : IntKind.u64.wrap n = if n < 0 then n + 18446744073709551616 else n := by rw [IntKind.wrap_u64]; split <;> omega
 have KD : Hid (Calls Tryz.prog 58 #[.int .u64 s] (numW w) fun e w' => e = .returned (.slice (some ⟨(numW w).heap.size, 0, none⟩) 3 3) ∧ w' = (numW w).alloc (.cells #[.int .i64 (s % 1073741824), .int .i64 (s / 1073741824 % 1073741824), .int .i64 (s / 1152921504606846976)] 3)) := digitsOf_any s hs1.1 (by omega) (numW w)
 have hO := own_three (numW w) (s % 1073741824) (s / 1073741824 % 1073741824) (s / 1152921504606846976)
 have hDg : Dg [s % 1073741824, s / 1073741824 % 1073741824, s / 1152921504606846976] := Dg.cons (by omega) (by omega) (Dg.cons (by omega) (by omega) (Dg.cons (by omega) (by omega) Dg.nil))
 have hnv : nv [s % 1073741824, s / 1073741824 % 1073741824, s / 1152921504606846976] = n.natAbs := by
  show (s % 1073741824).toNat + 1073741824 * ((s / 1073741824 % 1073741824).toNat + 1073741824 * ((s / 1152921504606846976).toNat + 1073741824 * 0)) = n.natAbs
  omega
 have hK2 : Kept (numW w) ((numW w).alloc (.cells #[.int .i64 (s % 1073741824), .int .i64 (s / 1073741824 % 1073741824), .int .i64 (s / 1152921504606846976)] 3)) := (Kept.refl _).alloc _ _
 have KF : Hid (Calls Tryz.prog 53 #[.bool (decide (n < 0)), .slice (some ⟨(numW w).heap.size, 0, none⟩) 3 3, .int .i64 0] ((numW w).alloc (.cells #[.int .i64 (s % 1073741824), .int .i64 (s / 1073741824 % 1073741824), .int .i64 (s / 1152921504606846976)] 3)) fun e w' => (∃ v, e = .returned v ∧ New (numW w) w' v r) ∧ Kept (numW w) w') := form_ok _ _ hDg (by simp) _ 3 0 (numW w) _ hK2 (Nat.le_refl _) hO (hT.kept (hK.trans hK2)) r (by rw [hnv]; exact hf)
 clear hO hDg hnv hf hT
 simp only [World.size_alloc] at KD KF
 rw [if_pos h1] at hw1
 have hw2 : IntKind.u64.wrap (-(n + 18446744073709551616)) = s := by rw [IntKind.wrap_u64]; omega
 rw [decide_eq_true h1] at KF
 clear hs hs1
 go_enter Tryz.func18, Tryz.ntmps18
 go_wp2_with (first | (go_at_call 58; refine KD.out.mono ?_; rintro e w1 ⟨rfl, rfl⟩) | (go_at_call 53; refine KF.out.mono ?_; rintro e w2 ⟨⟨v, rfl, hN⟩, hk1⟩; obtain ⟨vn, va, vl, vc, vx, rfl⟩ := hN.shape; obtain ⟨f0, f1, f2, f3⟩ := num_cells hk1))
 have := num_done hN hk1 (.bool vn) (.slice va vl vc) (.int .i64 vx)
 exact bodyPost_ret (v := .agg #[.bool vn, .slice va vl vc, .int .i64 vx]) (by simp [results, Tryz.results18, go_sem, f0, f1, f2]) rfl ⟨⟨_, rfl, this.1⟩, this.2⟩
theorem nrm_shift (neg : Bool) (v k : Nat) (x : Int) : nrm neg (v * 2 ^ k) x = nrm neg v (x + (k : Int)) := by
 by_cases hv : v = 0
 ·subst hv
  simp [nrm]
 ·obtain ⟨o, ho, e⟩ := tzn_spec v hv
  have hp := Nat.two_pow_pos k
  have hne : v * 2 ^ k ≠ 0 := Nat.mul_ne_zero hv (by omega)
  have ht : tzn (v * 2 ^ k) = tzn v + k := by
   have : v * 2 ^ k = o * 2 ^ (tzn v + k) := by rw [Nat.pow_add, ← Nat.mul_assoc, ← e]
   rw [this, tzn_mul o _ ho]
  have hw : wrap64 (x + ((tzn v + k : Nat) : Int)) = wrap64 (x + (k : Int) + (tzn v : Int)) := by congr 1; push_cast; omega
  have hd : v * 2 ^ k / 2 ^ (tzn v + k) = v / 2 ^ tzn v := by rw [Nat.pow_add, Nat.mul_div_mul_right _ _ hp]
  unfold nrm
  rw [if_neg hne, if_neg hv, ht, hw, hd]
theorem tzn_lt64 (v : Nat) (hv : v ≠ 0) (h : v ≤ 9223372036854775808) : tzn v ≤ 63 := by
 obtain ⟨h1, h2⟩ := bl_sub v hv
 have h3 : bl v ≤ 64 := bl_le v 64 (by omega)
 have h4 := bl_pos _ h2
 omega
/-- The sum of two whole numbers. -/
theorem pls_whole (u v : Nat) (hu : u ≤ 9223372036854775808) (hv : v ≤ 9223372036854775808) : pls (nrm false u 0) (nrm false v 0) = nrm false (u + v) 0 := by
 by_cases u0 : u = 0
 ·subst u0
  rw [Nat.zero_add]
  simp [pls, nrm]
 by_cases v0 : v = 0
 ·subst v0
  rw [Nat.add_zero]
  unfold pls
  split
  ·rename_i h
   have := nrm_rg false u 0
   rw [this.2] at h
   exfalso
   have h1 := nv_digs (u / 2 ^ tzn u)
   rw [h] at h1
   exact (bl_sub u u0).2 h1.symm
  ·simp [nrm]
 have tu := tzn_lt64 u u0 hu
 have tv := tzn_lt64 v v0 hv
 obtain ⟨bu, nu⟩ := bl_sub u u0
 obtain ⟨bv, nvv⟩ := bl_sub v v0
 obtain ⟨-, mu⟩ := tzn_div u u0
 obtain ⟨-, mv⟩ := tzn_div v v0
 have eu : nrm false u 0 = ⟨false, digs (u / 2 ^ tzn u), (tzn u : Int)⟩ := by
  rw [nrm, if_neg u0, Int.zero_add]
  congr 1
  unfold wrap64; omega
 have ev : nrm false v 0 = ⟨false, digs (v / 2 ^ tzn v), (tzn v : Int)⟩ := by
  rw [nrm, if_neg v0, Int.zero_add]
  congr 1
  unfold wrap64; omega
 rw [eu, ev]
 have d1 : digs (u / 2 ^ tzn u) ≠ [] := fun e => by
  have := nv_digs (u / 2 ^ tzn u); rw [e] at this; exact nu this.symm
 have d2 : digs (v / 2 ^ tzn v) ≠ [] := fun e => by
  have := nv_digs (v / 2 ^ tzn v); rw [e] at this; exact nvv this.symm
 unfold pls
 dsimp only
 rw [if_neg d1, if_neg d2]
 generalize tzn u = a at *
 generalize tzn v = b at *
 generalize u / 2 ^ a = q at *
 generalize v / 2 ^ b = r at *
 obtain ⟨m, hm⟩ : ∃ m : Nat, min a b = m := ⟨_, rfl⟩
 have hmi : min (a : Int) (b : Int) = (m : Int) := by omega
 rw [hmi, tot_nat false false _ _ (a : Int) (b : Int) (m : Int) (a - m) (b - m) (by omega) (by omega), nv_digs, nv_digs]
 have e : sg false ((q * 2 ^ (a - m) : Nat) : Int) + sg false ((r * 2 ^ (b - m) : Nat) : Int) = ((q * 2 ^ (a - m) + r * 2 ^ (b - m) : Nat) : Int) := by simp [sg]
 rw [e]
 have hd : decide (((q * 2 ^ (a - m) + r * 2 ^ (b - m) : Nat) : Int) < 0) = false := decide_eq_false (Int.not_lt.2 (Int.natCast_nonneg _))
 rw [hd, Int.natAbs_natCast]
 have hs : u + v = (q * 2 ^ (a - m) + r * 2 ^ (b - m)) * 2 ^ m := by
  rw [Nat.add_mul, Nat.mul_assoc, Nat.mul_assoc, ← Nat.pow_add, ← Nat.pow_add, show a - m + m = a by omega, show b - m + m = b by omega, ← mu, ← mv]
 rw [hs, nrm_shift, Int.zero_add]
theorem nrm_cn (neg : Bool) (v : Nat) (x : Int) : Cn (nrm neg v x).mag := by
 rw [(nrm_rg neg v x).2]
 exact Cn.digs _
theorem whole_pos (w : World) (v : Nat) (hv : v ≤ 9223372036854775807) : Calls Tryz.prog 19 #[.int .i64 (v : Int)] w fun e w' => (∃ r, e = .returned r ∧ RNp (Fresh w.heap.size) w' r (nrm false v 0)) ∧ Kept w w' := by
 have hK : Kept w (numW w) := (Kept.refl w).alloc _ _
 have hl : (digs v).length ≤ 3 := digs_length_le v 3 (by omega)
 have KF : Hid (Calls Tryz.prog 60 #[.int .i64 (v : Int)] (numW w) fun e w' => (∃ r, e = .returned r ∧ RLp (Fresh (numW w).heap.size) w' r (digs v)) ∧ Kept (numW w) w') := natFrom_any (numW w) v hv
 have KN : Hid (∀ u va, Kept (numW w) u → RLp (Fresh (numW w).heap.size) u va (digs v) → Calls Tryz.prog 57 #[.bool false, va, .int .i64 0] u fun e w' => (∃ r, e = .returned r ∧ RNp (Fresh (numW w).heap.size) w' r (nrm false v 0)) ∧ Kept u w') := fun u va k h => by
  have := norm_any u false (digs v) va h.rl (dg_digs v) (by omega) 0
  rw [nv_digs] at this
  refine this.mono ?_
  rintro e w' ⟨⟨r, rfl, hr⟩, kk⟩
  exact ⟨⟨r, rfl, hr.imp (fun b hb => Nat.le_trans k.below.size hb)⟩, kk⟩
 have hv0 : ¬ (v : Int) < 0 := by omega
 go_enter Tryz.func19, Tryz.ntmps19
 go_wp2_with (first | (go_at_call 60; refine KF.out.mono ?_; rintro e w1 ⟨⟨va, rfl, hva⟩, k1⟩) | (go_at_call 57; refine (KN.out _ _ k1 hva).mono ?_; rintro e w2 ⟨⟨r, rfl, hN⟩, k2⟩; obtain ⟨vn, ao, vl, vc, vx, rfl⟩ := hN.shape5; obtain ⟨f0, f1, f2, f3⟩ := num_cells (k1.trans k2)))
 have hd := (hN.done w.heap.size (fun b hb => by simp [Fresh] at hb; omega) (.bool vn) (.slice ao vl vc) (.int .i64 vx)).imp (Q := Fresh w.heap.size) (fun b hb => by simp [Fresh] at hb ⊢; omega)
 have hkk := (hK.trans (k1.trans k2)).setCell (p := ⟨w.heap.size, 0, none⟩) (Nat.le_refl _) (.bool vn) |>.setCell (p := ⟨w.heap.size, 1, none⟩) (Nat.le_refl _) (.slice ao vl vc) |>.setCell (p := ⟨w.heap.size, 2, none⟩) (Nat.le_refl _) (.int .i64 vx)
 refine bodyPost_ret (v := .agg #[.bool vn, .slice ao vl vc, .int .i64 vx]) (by simp [results, Tryz.results19, go_sem, f0, f1, f2]) rfl ⟨⟨_, rfl, hd⟩, hkk⟩
theorem whole_neg (w : World) (n : Int) (h0 : -9223372036854775808 ≤ n) (h1 : n < 0) : Calls Tryz.prog 19 #[.int .i64 n] w fun e w' => (∃ r, e = .returned r ∧ RNp (Fresh w.heap.size) w' r (nrm true n.natAbs 0)) ∧ Kept w w' := by
 have hK : Kept w (numW w) := (Kept.refl w).alloc _ _
 obtain ⟨m, hm⟩ : ∃ m : Nat, -(n + 1) = (m : Int) := ⟨(-(n + 1)).toNat, by omega⟩
 have z1 : IntKind.i64.wrap (n + 1) = n + 1 := by rw [wrap_i64]; omega
 have z2 : IntKind.i64.wrap (-(n + 1)) = (m : Int) := by rw [wrap_i64]; omega
 have hs : pls (nrm false m 0) (nrm false 1 0) = nrm false n.natAbs 0 := by
  rw [pls_whole m 1 (by omega) (by omega)]
  congr 1
  omega
 have K1 : Hid (∀ u, Kept (numW w) u → Calls Tryz.prog 19 #[.int .i64 (m : Int)] u fun e w' => (∃ r, e = .returned r ∧ RNp (Fresh (numW w).heap.size) w' r (nrm false m 0)) ∧ Kept u w') := fun u k => (whole_pos u m (by omega)).mono (by
  rintro e w' ⟨⟨r, rfl, hr⟩, kk⟩
  exact ⟨⟨r, rfl, hr.imp (fun b hb => Nat.le_trans k.below.size hb)⟩, kk⟩)
 have K2 : Hid (∀ u, Kept (numW w) u → Calls Tryz.prog 19 #[.int .i64 1] u fun e w' => (∃ r, e = .returned r ∧ RNp (Fresh (numW w).heap.size) w' r (nrm false 1 0)) ∧ Kept u w') := fun u k => (whole_pos u 1 (by omega)).mono (by
  rintro e w' ⟨⟨r, rfl, hr⟩, kk⟩
  exact ⟨⟨r, rfl, hr.imp (fun b hb => Nat.le_trans k.below.size hb)⟩, kk⟩)
 have hex : ∀ v : Nat, v ≤ 9223372036854775808 → -4000000 ≤ (nrm false v 0).exp ∧ (nrm false v 0).exp ≤ 4000000 ∧ (nrm false v 0).mag.length < 100000 := by
  intro v hv
  have hl : (digs v).length ≤ 3 := digs_length_le v 3 (by omega)
  have hr := nrm_rg false v 0
  have hl2 := digs_mono (v / 2 ^ tzn v) v (Nat.div_le_self _ _)
  rw [hr.2]
  unfold nrm
  split
  ·exact ⟨by decide, by decide, by omega⟩
  ·rename_i hv0
   have ht := tzn_lt64 v hv0 hv
   refine ⟨?_, ?_, by omega⟩ <;> (dsimp only; unfold wrap64; omega)
 have KP : Hid (∀ u va vb, Kept (numW w) u → RNp (Fresh (numW w).heap.size) u va (nrm false m 0) → RNp (Fresh (numW w).heap.size) u vb (nrm false 1 0) → Calls Tryz.prog 59 #[va, vb] u fun e w' => (∃ r, e = .returned r ∧ RNp (Fresh (numW w).heap.size) w' r (nrm false n.natAbs 0)) ∧ Kept u w') := fun u va vb k ha hb => by
  have e1 := hex m (by omega)
  have e2 := hex 1 (by omega)
  have := plus_any _ u _ _ va vb ha hb (nrm_cn _ _ _) (nrm_cn _ _ _) e1.2.2 e2.2.2 ⟨e1.1, e1.2.1⟩ ⟨e2.1, e2.2.1⟩
  rw [hs] at this
  refine this.mono ?_
  rintro e w' ⟨⟨r, rfl, hr⟩, kk⟩
  exact ⟨⟨r, rfl, hr.imp (fun b hb => hb.elim id (fun h => Nat.le_trans k.below.size h))⟩, kk⟩
 have hne : (nrm false n.natAbs 0).mag.length ≠ 0 := by
  rw [(nrm_rg false n.natAbs 0).2]
  intro e
  have h2 := nv_digs (n.natAbs / 2 ^ tzn n.natAbs)
  rw [List.length_eq_zero_iff.1 e] at h2
  exact (bl_sub n.natAbs (by omega)).2 h2.symm
 have hT : nrm true n.natAbs 0 = ⟨!(nrm false n.natAbs 0).neg, (nrm false n.natAbs 0).mag, (nrm false n.natAbs 0).exp⟩ := by
  have : n.natAbs ≠ 0 := by omega
  simp [nrm, this]
 have KT : Hid (∀ u va, Kept (numW w) u → RNp (Fresh (numW w).heap.size) u va (nrm false n.natAbs 0) → Calls Tryz.prog 30 #[va] u fun e w' => (∃ r, e = .returned r ∧ RNp (Fresh (numW w).heap.size) w' r (nrm true n.natAbs 0)) ∧ Kept u w') := fun u va k h => by
  obtain ⟨ao, c, rfl, hs2⟩ := h.shape
  refine (turned_any _ ao _ c _ u).mono ?_
  rintro e w' ⟨rfl, kk⟩
  refine ⟨⟨_, rfl, ?_⟩, kk⟩
  rw [if_neg hne, hT]
  exact ⟨_, rfl, hs2.kept kk⟩
 clear hs hex hne hT
 generalize nrm true n.natAbs 0 = RR at *
 generalize nrm false n.natAbs 0 = PP at *
 generalize nrm false m 0 = MM at *
 generalize nrm false 1 0 = NN at *
 go_enter Tryz.func19, Tryz.ntmps19
 go_wp2_with fail
 refine (K1.out _ (Kept.refl _)).mono ?_
 rintro e w1 ⟨⟨r1, rfl, h1'⟩, k1⟩
 go_wp2_with fail
 refine (K2.out _ k1).mono ?_
 rintro e w2 ⟨⟨r2, rfl, h2'⟩, k2⟩
 go_wp2_with fail
 refine (KP.out _ _ _ (k1.trans k2) (h1'.kept k2) h2').mono ?_
 rintro e w3 ⟨⟨r3, rfl, h3'⟩, k3⟩
 go_wp2_with fail
 refine (KT.out _ _ (k1.trans (k2.trans k3)) h3').mono ?_
 rintro e w4 ⟨⟨r4, rfl, hN⟩, k4⟩
 have kk := k1.trans (k2.trans (k3.trans k4))
 obtain ⟨vn, ao, vl, vc, vx, rfl⟩ := hN.shape5
 obtain ⟨f0, f1, f2, f3⟩ := num_cells kk
 have hd := (hN.done w.heap.size (fun b hb => by simp [Fresh] at hb; omega) (.bool vn) (.slice ao vl vc) (.int .i64 vx)).imp (Q := Fresh w.heap.size) (fun b hb => by simp [Fresh] at hb ⊢; omega)
 have hkk := (hK.trans kk).setCell (p := ⟨w.heap.size, 0, none⟩) (Nat.le_refl _) (.bool vn) |>.setCell (p := ⟨w.heap.size, 1, none⟩) (Nat.le_refl _) (.slice ao vl vc) |>.setCell (p := ⟨w.heap.size, 2, none⟩) (Nat.le_refl _) (.int .i64 vx)
 go_wp2
 refine bodyPost_ret (v := .agg #[.bool vn, .slice ao vl vc, .int .i64 vx]) (by simp [results, Tryz.results19, go_sem, f0, f1, f2]) rfl ⟨⟨_, rfl, hd⟩, hkk⟩
theorem RLp.sl2 {P : Nat → Prop} {w : World} {v : Value} {M : List Int} (h : RLp P w v M) : Sl w v M := by
 obtain ⟨ao, c, rfl, -, hs, -⟩ := h
 exact hs
abbrev zeroN : Nm := ⟨false, [], 0⟩
theorem zero_rnp (P : Nat → Prop) (w : World) : RNp P w zeroNum zeroN := ⟨_, rfl, RLp.nil P w⟩
theorem rmake_long (w : World) (neg : Bool) (ao : Option Addr) (n c : Nat) (x : Int) (h : 2000 < n) : Calls Tryz.prog 14 #[.bool neg, .slice ao n c, .int .i64 x] w fun e w' => e = .returned (.tuple #[zeroNum, .int .i64 7]) ∧ Kept w w' := by
 have hK : Kept w (numW w) := (Kept.refl w).alloc _ _
 have h' : (2000 : Int) < (n : Int) := by omega
 go_enter Tryz.func14, Tryz.ntmps14
 go_wp2
 refine bodyPost_ret (v := .tuple #[zeroNum, .int .i64 7]) (by simp [results, Tryz.results14, go_sem]) rfl ⟨rfl, hK⟩
theorem rmake_walk (w : World) (neg : Bool) (L : List Int) (va : Value) (ha : RL w va L) (hlen : L.length ≤ 2000) (x : Int) (r : Nm) (f : Int)
  (H7 : Hid (∀ j, j < L.length → ¬ (0 ≤ L.getD j 0 ∧ L.getD j 0 < 1073741824) → r = zeroN ∧ f = 7))
  (H0 : Hid (Dg L → nv L = 0 → r = zeroN ∧ f = 0))
  (H2 : Hid (Dg L → nv L ≠ 0 → (3145728 < x ∨ x < -3145728) → r = zeroN ∧ f = 2))
  (H3 : Hid (Dg L → nv L ≠ 0 → -3145728 ≤ x → x ≤ 3145728 → if vld (nrm neg (nv L) x) = true then r = nrm neg (nv L) x ∧ f = 0 else r = zeroN ∧ f = 2)) :
  Calls Tryz.prog 14 #[.bool neg, va, .int .i64 x] w fun e w' => (∃ v, e = .returned (.tuple #[v, .int .i64 f]) ∧ RNp (Fresh w.heap.size) w' v r) ∧ Kept w w' := by
 have hK : Kept w (numW w) := (Kept.refl w).alloc _ _
 have HRL : Hid (∀ u, Kept w u → RL u va L) := fun u k => ha.kept k
 obtain ⟨ao, c, rfl, -, hat⟩ := ha.at
 have HA : Hid (∀ i, i < L.length → ∃ b off, ao = some ⟨b, off, none⟩ ∧ (numW w).cell? ⟨b, off + i, none⟩ = some (.int .i64 (L.getD i 0))) := (hat _ hK).2
 have HD : Hid ((∀ j, j < L.length → 0 ≤ L.getD j 0 ∧ L.getD j 0 < 1073741824) → Dg L) := fun h => Dg.of_getD h
 have KL : Hid (Dg L → Calls Tryz.prog 55 #[.slice ao L.length c] (numW w) fun e w' => e = .returned (.int .i64 (lowz (nv L))) ∧ numW w = w') := fun hD => natLow_any (numW w) _ L (HRL.out _ hK) hD (by omega)
 have KN : Hid (Dg L → Calls Tryz.prog 57 #[.bool neg, .slice ao L.length c, .int .i64 x] (numW w) fun e w' => (∃ v, e = .returned v ∧ RNp (Fresh (numW w).heap.size) w' v (nrm neg (nv L) x)) ∧ Kept (numW w) w') := fun hD => norm_any (numW w) neg L _ (HRL.out _ hK) hD (by omega) x
 have HLO : Hid (lowz (nv L) < 0 ↔ nv L = 0) := by
  show lowz (nv L) < 0 ↔ nv L = 0
  unfold lowz
  split <;> omega
 have HLEN : Hid (L.length ≤ 2000) := hlen
 obtain ⟨n, hn⟩ : ∃ n, n = L.length := ⟨_, rfl⟩
 rw [← hn] at HA HD KL KN H7 hlen ⊢
 clear hat ha hn
 go_enter Tryz.func14, Tryz.ntmps14
 go_wp2
 go_loopw [8] (fun iv wr => ∃ k : Nat, k ≤ n ∧ iv = .int .i64 k ∧ (∀ j, j < k → 0 ≤ L.getD j 0 ∧ L.getD j 0 < 1073741824) ∧ numW w = wr) (fun iv _ => n - (intOf iv).toNat)
 case atStart => exact ⟨0, Nat.zero_le _, rfl, fun j hj => by omega, rfl⟩
 case round =>
  obtain ⟨k, hk, rfl, hv, rfl⟩ := hrel
  have HV : Hid (∀ j, j < k → 0 ≤ L.getD j 0 ∧ L.getD j 0 < 1073741824) := hv
  clear hv
  by_cases hkn : k < n
  ·obtain ⟨b, off, rfl, hc⟩ := HA.out k hkn
   by_cases h1 : L.getD k 0 < 0
   ·obtain ⟨rfl, rfl⟩ := H7.out k hkn (by omega)
    generalize L.getD k 0 = d at *
    go_wp2
    refine bodyPost_ret (v := .tuple #[zeroNum, .int .i64 7]) (by simp [results, Tryz.results14, go_sem]) rfl ⟨⟨_, rfl, zero_rnp _ _⟩, hK⟩
   ·by_cases h2 : 1073741824 ≤ L.getD k 0
    ·obtain ⟨rfl, rfl⟩ := H7.out k hkn (by omega)
     generalize L.getD k 0 = d at *
     go_wp2
     refine bodyPost_ret (v := .tuple #[zeroNum, .int .i64 7]) (by simp [results, Tryz.results14, go_sem]) rfl ⟨⟨_, rfl, zero_rnp _ _⟩, hK⟩
    ·have hok : 0 ≤ L.getD k 0 ∧ L.getD k 0 < 1073741824 := by omega
     have HOK : Hid (0 ≤ L.getD k 0 ∧ L.getD k 0 < 1073741824) := hok
     clear hok
     obtain ⟨d, hd⟩ : ∃ d, L.getD k 0 = d := ⟨_, rfl⟩
     rw [hd] at hc h1 h2
     clear hd
     go_wp2
     go_roundw
     case rel => exact ⟨k + 1, by omega, by go_num, fun j hj => by
      rcases Nat.lt_or_ge j k with g | g
      ·exact HV.out j g
      ·rw [show j = k by omega]
       first | exact HOK.out | assumption, by first | rfl | trivial⟩
     case measure => simp [intOf] <;> omega
  ·obtain rfl : k = n := by omega
   have hD := HD.out HV.out
   have HL1 : Hid (Calls Tryz.prog 55 #[.slice ao k c] (numW w) fun e w' => e = .returned (.int .i64 (lowz (nv L))) ∧ numW w = w') := KL.out hD
   have HN1 : Hid (Calls Tryz.prog 57 #[.bool neg, .slice ao k c, .int .i64 x] (numW w) fun e w' => (∃ v, e = .returned v ∧ RNp (Fresh (numW w).heap.size) w' v (nrm neg (nv L) x)) ∧ Kept (numW w) w') := KN.out hD
   by_cases h0 : nv L = 0
   ·obtain ⟨rfl, rfl⟩ := H0.out hD h0
    have hlow := HLO.out.2 h0
    clear H7 H0 H2 H3 HD KL KN HN1 HV HLO h0 hD HRL HA
    generalize lowz (nv L) = lw at *
    go_wp2_with (first | (go_at_call 55; refine HL1.out.mono ?_; rintro e w1 ⟨rfl, rfl⟩))
    refine bodyPost_ret (v := .tuple #[zeroNum, .int .i64 0]) (by simp [results, Tryz.results14, go_sem]) rfl ⟨⟨_, rfl, zero_rnp _ _⟩, hK⟩
   ·have hlow : ¬ lowz (nv L) < 0 := fun h => h0 (HLO.out.1 h)
    by_cases x1 : 3145728 < x
    ·obtain ⟨rfl, rfl⟩ := H2.out hD h0 (.inl x1)
     clear H7 H0 H2 H3 HD KL KN HN1 HV HLO h0 hD HRL HA
     generalize lowz (nv L) = lw at *
     go_wp2_with (first | (go_at_call 55; refine HL1.out.mono ?_; rintro e w1 ⟨rfl, rfl⟩))
     refine bodyPost_ret (v := .tuple #[zeroNum, .int .i64 2]) (by simp [results, Tryz.results14, go_sem]) rfl ⟨⟨_, rfl, zero_rnp _ _⟩, hK⟩
    ·by_cases x2 : x < -3145728
     ·obtain ⟨rfl, rfl⟩ := H2.out hD h0 (.inr x2)
      clear H7 H0 H2 H3 HD KL KN HN1 HV HLO h0 hD HRL HA
      generalize lowz (nv L) = lw at *
      go_wp2_with (first | (go_at_call 55; refine HL1.out.mono ?_; rintro e w1 ⟨rfl, rfl⟩))
      refine bodyPost_ret (v := .tuple #[zeroNum, .int .i64 2]) (by simp [results, Tryz.results14, go_sem]) rfl ⟨⟨_, rfl, zero_rnp _ _⟩, hK⟩
     ·have h3 := H3.out hD h0 (by omega) (by omega)
      have hrg := nrm_rg neg (nv L) x
      have hnl : (nrm neg (nv L) x).mag.length < 100000 := by
       rw [hrg.2]
       have g1 := digs_mono (nv L / 2 ^ tzn (nv L)) (nv L) (Nat.div_le_self _ _)
       have g2 := digs_length_le (nv L) L.length (nv_lt L hD)
       have g4 := HLEN.out
       omega
      have HAN : Hid (∀ u v, RNp (Fresh (numW w).heap.size) u v (nrm neg (nv L) x) → Calls Tryz.prog 56 #[v] u fun e w' => (∃ v', e = .returned (.tuple #[v', .int .i64 f]) ∧ RNp (Fresh (numW w).heap.size) w' v' r) ∧ Kept u w') := fun u v h => by
       obtain ⟨a1, c1, rfl, hs⟩ := h.shape
       have := answer_any (nrm neg (nv L) x) hrg.1 (by omega) a1 c1 u hs.sl2
       by_cases hv : vld (nrm neg (nv L) x) = true
       ·rw [if_pos hv] at h3
        obtain ⟨rfl, rfl⟩ := h3
        rw [hv] at this
        refine this.mono ?_
        rintro e w' ⟨rfl, k⟩
        exact ⟨⟨_, rfl, ⟨_, rfl, hs.kept k⟩⟩, k⟩
       ·rw [if_neg hv] at h3
        obtain ⟨rfl, rfl⟩ := h3
        have hv' : vld (nrm neg (nv L) x) = false := by simpa using hv
        rw [hv'] at this
        refine this.mono ?_
        rintro e w' ⟨rfl, k⟩
        exact ⟨⟨_, rfl, zero_rnp _ _⟩, k⟩
      clear H7 H0 H2 H3 HD KL KN HV HLO h0 hD HRL HA h3 hrg hnl HLEN
      generalize lowz (nv L) = lw at *
      generalize nrm neg (nv L) x = NR at *
      go_wp2_with (first | (go_at_call 55; refine HL1.out.mono ?_; rintro e w1 ⟨rfl, rfl⟩) | (go_at_call 57; refine HN1.out.mono ?_; rintro e w2 ⟨⟨v2, rfl, h2'⟩, k2⟩) | (go_at_call 56; refine (HAN.out _ _ h2').mono ?_; rintro e w3 ⟨⟨v3, rfl, hN⟩, k3⟩; obtain ⟨vn, a3, vl, vc, vx, rfl⟩ := hN.shape5; obtain ⟨f0, f1, f2, f3⟩ := num_cells (k2.trans k3)))
      have hd := (hN.done w.heap.size (fun b hb => by simp [Fresh] at hb; omega) (.bool vn) (.slice a3 vl vc) (.int .i64 vx)).imp (Q := Fresh w.heap.size) (fun b hb => by simp [Fresh] at hb ⊢; omega)
      have hkk := (hK.trans (k2.trans k3)).setCell (p := ⟨w.heap.size, 0, none⟩) (Nat.le_refl _) (.bool vn) |>.setCell (p := ⟨w.heap.size, 1, none⟩) (Nat.le_refl _) (.slice a3 vl vc) |>.setCell (p := ⟨w.heap.size, 2, none⟩) (Nat.le_refl _) (.int .i64 vx)
      refine bodyPost_ret (v := .tuple #[.agg #[.bool vn, .slice a3 vl vc, .int .i64 vx], .int .i64 f]) (by simp [results, Tryz.results14, go_sem, f0, f1, f2]) rfl ⟨⟨_, rfl, hd⟩, hkk⟩
theorem rfinite_any (b n : Int) (hb1 : -9223372036854775808 ≤ b) (hb2 : b ≤ 9223372036854775807) (w : World) : Calls Tryz.prog 21 #[.int .i64 b, .int .i64 n] w fun e w' => e = .returned (.bool (decide (cls b n < 3))) ∧ Kept w w' := by
 have KC : Hid (Calls Tryz.prog 63 #[.int .i64 b, .int .i64 n] w fun e w' => e = .returned (.int .i64 (cls b n)) ∧ Kept w w') := rclass_any b n hb1 hb2 w
 generalize cls b n = cc at *
 go_enter Tryz.func21, Tryz.ntmps21
 go_wp2_with (first | (go_at_call 63; refine KC.out.mono ?_; rintro e w1 ⟨rfl, k1⟩))
 go_ret
 exact ⟨rfl, k1⟩
theorem rexact_any (b n : Int) (hb1 : -9223372036854775808 ≤ b) (hb2 : b ≤ 9223372036854775807) (hn : n = 64 ∨ n = 32) (hc : cls b n < 3) (w : World) : Calls Tryz.prog 64 #[.int .i64 b, .int .i64 n] w fun e w' => (∃ v, e = .returned v ∧ RNp (Fresh w.heap.size) w' v (nrm (pneg b n) (pmag b n).toNat (pexp b n))) ∧ Kept w w' := by
 have hK : Kept w (numW w) := (Kept.refl w).alloc _ _
 have hf := fl_any b n hn hc
 have KP : Hid (∀ u, Calls Tryz.prog 103 #[.int .i64 b, .int .i64 n] u fun e w' => e = .returned (.tuple #[.bool (pneg b n), .int .i64 (pmag b n), .int .i64 (pexp b n), .bool true]) ∧ Kept u w') := fun u => by
  have := rparts_any b n hb1 hb2 u
  rw [fin_of b n hn hc] at this
  exact this
 have hm53 : pmag b n < 9223372036854775807 := by
  have h1 := hf.2.1
  have h2 : (2 : Int) ^ (kprec n).toNat ≤ 9007199254740992 := by rcases hn with rfl | rfl <;> decide
  omega
 obtain ⟨v, hv⟩ : ∃ v : Nat, pmag b n = (v : Int) := ⟨(pmag b n).toNat, by have := hf.1; omega⟩
 have hv2 : (pmag b n).toNat = v := by omega
 have hv9 : v ≤ 9223372036854775807 := by omega
 rw [hv] at KP
 rw [hv2]
 have KF : Hid (∀ u, Kept (numW w) u → Calls Tryz.prog 60 #[.int .i64 (v : Int)] u fun e w' => (∃ r, e = .returned r ∧ RLp (Fresh (numW w).heap.size) w' r (digs v)) ∧ Kept u w') := fun u k => (natFrom_any u v hv9).mono (by
  rintro e w' ⟨⟨r, rfl, hr⟩, kk⟩
  exact ⟨⟨r, rfl, hr.imp (fun b hb => Nat.le_trans k.below.size hb)⟩, kk⟩)
 have hl : (digs v).length ≤ 3 := digs_length_le v 3 (by omega)
 have KN : Hid (∀ u va, Kept (numW w) u → RLp (Fresh (numW w).heap.size) u va (digs v) → Calls Tryz.prog 57 #[.bool (pneg b n), va, .int .i64 (pexp b n)] u fun e w' => (∃ r, e = .returned r ∧ RNp (Fresh (numW w).heap.size) w' r (nrm (pneg b n) v (pexp b n))) ∧ Kept u w') := fun u va k h => by
  have := norm_any u (pneg b n) (digs v) va h.rl (dg_digs v) (by omega) (pexp b n)
  rw [nv_digs] at this
  refine this.mono ?_
  rintro e w' ⟨⟨r, rfl, hr⟩, kk⟩
  exact ⟨⟨r, rfl, hr.imp (fun b hb => Nat.le_trans k.below.size hb)⟩, kk⟩
 clear hf hm53 hv hv2 hl
 generalize nrm (pneg b n) v (pexp b n) = NR at *
 generalize pneg b n = pn at *
 generalize pexp b n = px at *
 go_enter Tryz.func64, Tryz.ntmps64
 go_wp2_with (first | (go_at_call 103; refine (KP.out _).mono ?_; rintro e w1 ⟨rfl, k1⟩) | (go_at_call 60; refine (KF.out _ k1).mono ?_; rintro e w2 ⟨⟨va, rfl, hva⟩, k2⟩) | (go_at_call 57; refine (KN.out _ _ (k1.trans k2) hva).mono ?_; rintro e w3 ⟨⟨r, rfl, hN⟩, k3⟩; obtain ⟨vn, ao, vl, vc, vx, rfl⟩ := hN.shape5; obtain ⟨f0, f1, f2, f3⟩ := num_cells (k1.trans (k2.trans k3))))
 have hd := (hN.done w.heap.size (fun b hb => by simp [Fresh] at hb; omega) (.bool vn) (.slice ao vl vc) (.int .i64 vx)).imp (Q := Fresh w.heap.size) (fun b hb => by simp [Fresh] at hb ⊢; omega)
 have hkk := (hK.trans (k1.trans (k2.trans k3))).setCell (p := ⟨w.heap.size, 0, none⟩) (Nat.le_refl _) (.bool vn) |>.setCell (p := ⟨w.heap.size, 1, none⟩) (Nat.le_refl _) (.slice ao vl vc) |>.setCell (p := ⟨w.heap.size, 2, none⟩) (Nat.le_refl _) (.int .i64 vx)
 refine bodyPost_ret (v := .agg #[.bool vn, .slice ao vl vc, .int .i64 vx]) (by simp [results, Tryz.results64, go_sem, f0, f1, f2]) rfl ⟨⟨_, rfl, hd⟩, hkk⟩
theorem rexact2_any (b n : Int) (hb1 : -9223372036854775808 ≤ b) (hb2 : b ≤ 9223372036854775807) (hn : n = 64 ∨ n = 32) (hc : cls b n < 3) (w : World) : Calls Tryz.prog 23 #[.int .i64 b, .int .i64 n] w fun e w' => (∃ v, e = .returned v ∧ RNp (Fresh w.heap.size) w' v (nrm (pneg b n) (pmag b n).toNat (pexp b n))) ∧ Kept w w' := by
 have hK : Kept w (numW w) := (Kept.refl w).alloc _ _
 have KE : Hid (Calls Tryz.prog 64 #[.int .i64 b, .int .i64 n] (numW w) fun e w' => (∃ v, e = .returned v ∧ RNp (Fresh (numW w).heap.size) w' v (nrm (pneg b n) (pmag b n).toNat (pexp b n))) ∧ Kept (numW w) w') := rexact_any b n hb1 hb2 hn hc (numW w)
 generalize nrm (pneg b n) (pmag b n).toNat (pexp b n) = NR at *
 go_enter Tryz.func23, Tryz.ntmps23
 go_wp2_with (first | (go_at_call 64; refine KE.out.mono ?_; rintro e w3 ⟨⟨r, rfl, hN⟩, k3⟩; obtain ⟨vn, ao, vl, vc, vx, rfl⟩ := hN.shape5; obtain ⟨f0, f1, f2, f3⟩ := num_cells k3))
 have hd := (hN.done w.heap.size (fun b hb => by simp [Fresh] at hb; omega) (.bool vn) (.slice ao vl vc) (.int .i64 vx)).imp (Q := Fresh w.heap.size) (fun b hb => by simp [Fresh] at hb ⊢; omega)
 have hkk := (hK.trans k3).setCell (p := ⟨w.heap.size, 0, none⟩) (Nat.le_refl _) (.bool vn) |>.setCell (p := ⟨w.heap.size, 1, none⟩) (Nat.le_refl _) (.slice ao vl vc) |>.setCell (p := ⟨w.heap.size, 2, none⟩) (Nat.le_refl _) (.int .i64 vx)
 refine bodyPost_ret (v := .agg #[.bool vn, .slice ao vl vc, .int .i64 vx]) (by simp [results, Tryz.results23, go_sem, f0, f1, f2]) rfl ⟨⟨_, rfl, hd⟩, hkk⟩
/-! ### Make: what both tell -/
theorem frm_far (neg : Bool) (v : Nat) (x : Int) (hv : v ≠ 0) (ht : tzn v ≤ 60000) (h1 : -9223372036854775808 ≤ x) (h2 : x ≤ 9223372036854775807) (hx : 3145728 < x ∨ x < -3145728) : frm neg v x = none := by
 unfold frm
 rw [if_neg hv, if_neg]
 rintro ⟨-, g1, g2⟩
 unfold wrap64 at g1 g2
 omega
def mkN (neg : Bool) (L : List Int) (x : Int) : Nm := if 2000 < L.length ∨ dgb L = false then zeroN else (frm neg (nv L) x).getD zeroN
def mkE (neg : Bool) (L : List Int) (x : Int) : Int := if 2000 < L.length ∨ dgb L = false then 7 else if frm neg (nv L) x = none then 2 else 0
theorem make_all (w : World) (hT : Tab w) (neg : Bool) (L : List Int) (hR : Rg L) (hlen : L.length < 100000000) (ao : Option Addr) (cap : Nat) (hcap : ao = none → cap = 0) (x : Int) (h : Sl w (.slice ao L.length cap) L) : Calls Tryz.prog 13 #[.bool neg, .slice ao L.length cap, .int .i64 x] w fun e w' => ∃ v, e = .returned (.tuple #[v, .int .i64 (mkE neg L x)]) ∧ New w w' v (mkN neg L x) ∧ Kept w w' := by
 unfold mkE mkN
 by_cases hb : 2000 < L.length ∨ dgb L = false
 ·rw [if_pos hb, if_pos hb]
  refine (make_bad neg L hR hlen hb ao cap x w h).mono ?_
  rintro e w' ⟨rfl, k⟩
  exact ⟨_, rfl, .inl ⟨rfl, rfl⟩, k⟩
 ·rw [if_neg hb, if_neg hb]
  have hD : Dg L := (dgb_iff L).1 (by cases hd : dgb L <;> simp_all)
  have hl : L.length ≤ 2000 := by omega
  cases hf : frm neg (nv L) x with
  | none =>
   rw [if_pos rfl]
   refine (make_no neg L hD hl ao cap hcap x hf w h hT).mono ?_
   rintro e w' ⟨rfl, k⟩
   exact ⟨_, rfl, .inl ⟨rfl, rfl⟩, k⟩
  | some r =>
   rw [if_neg (by simp)]
   exact make_ok neg L hD hl ao cap hcap x r hf w h hT
theorem rmake_all (w : World) (neg : Bool) (L : List Int) (hR : Rg L) (hlen : L.length < 100000000) (va : Value) (ha : RL w va L) (x : Int) (h1 : -9223372036854775808 ≤ x) (h2 : x ≤ 9223372036854775807) : Calls Tryz.prog 14 #[.bool neg, va, .int .i64 x] w fun e w' => (∃ v, e = .returned (.tuple #[v, .int .i64 (mkE neg L x)]) ∧ RNp (Fresh w.heap.size) w' v (mkN neg L x)) ∧ Kept w w' := by
 by_cases hl : 2000 < L.length
 ·obtain ⟨ao, c, rfl, -, -⟩ := ha
  have e1 : mkE neg L x = 7 := by rw [mkE, if_pos (.inl hl)]
  have e2 : mkN neg L x = zeroN := by rw [mkN, if_pos (.inl hl)]
  rw [e1, e2]
  refine (rmake_long w neg ao L.length c x hl).mono ?_
  rintro e w' ⟨rfl, k⟩
  exact ⟨⟨_, rfl, zero_rnp _ _⟩, k⟩
 ·have hlim : ∀ (hD : Dg L), ¬ (2000 < L.length ∨ dgb L = false) := fun hD h => by
   have := (dgb_iff L).2 hD
   rcases h with h | h
   ·exact hl h
   ·rw [this] at h; cases h
  refine rmake_walk w neg L va ha (by omega) x _ _ (fun j hj hbad => ?_) (fun hD h0 => ?_) (fun hD h0 hx => ?_) (fun hD h0 x1 x2 => ?_)
  ·have hd := dgb_false L j hj hbad
   exact ⟨by rw [mkN, if_pos (.inr hd)], by rw [mkE, if_pos (.inr hd)]⟩
  ·have hf : frm neg (nv L) x = some zeroN := by rw [frm, if_pos h0]
   exact ⟨by rw [mkN, if_neg (hlim hD), hf]; rfl, by rw [mkE, if_neg (hlim hD), hf]; rfl⟩
  ·have ht := tzn_le_len L hD h0
   have hf := frm_far neg (nv L) x h0 (by omega) h1 h2 hx
   exact ⟨by rw [mkN, if_neg (hlim hD), hf]; rfl, by rw [mkE, if_neg (hlim hD), hf]; rfl⟩
  ·have hf := frm_nrm neg (nv L) x
   by_cases hv : vld (nrm neg (nv L) x) = true
   ·rw [if_pos hv] at hf
    rw [if_pos hv]
    exact ⟨by rw [mkN, if_neg (hlim hD), hf]; rfl, by rw [mkE, if_neg (hlim hD), hf]; rfl⟩
   ·rw [if_neg hv] at hf
    rw [if_neg hv]
    exact ⟨by rw [mkN, if_neg (hlim hD), hf]; rfl, by rw [mkE, if_neg (hlim hD), hf]; rfl⟩
theorem int_all (w : World) (hT : Tab w) (n : Int) (h1 : -9223372036854775808 ≤ n) (h2 : n ≤ 9223372036854775807) : Calls Tryz.prog 18 #[.int .i64 n] w fun e w' => (∃ v, e = .returned v ∧ New w w' v (nrm (decide (n < 0)) n.natAbs 0)) ∧ Kept w w' := by
 have hf : frm (decide (n < 0)) n.natAbs 0 = some (nrm (decide (n < 0)) n.natAbs 0) := by
  unfold frm nrm
  by_cases h0 : n.natAbs = 0
  ·rw [if_pos h0, if_pos h0]
  ·rw [if_neg h0, if_neg h0, if_pos]
   have ht := tzn_lt64 n.natAbs h0 (by omega)
   have hb : bl n.natAbs ≤ 64 := bl_le _ 64 (by omega)
   refine ⟨by omega, ?_, ?_⟩ <;> (unfold wrap64; omega)
 by_cases hn : n < 0
 ·exact int_neg n h1 hn _ hf w hT
 ·exact int_pos n (by omega) h2 _ hf w hT
theorem whole_all (w : World) (n : Int) (h1 : -9223372036854775808 ≤ n) (h2 : n ≤ 9223372036854775807) : Calls Tryz.prog 19 #[.int .i64 n] w fun e w' => (∃ r, e = .returned r ∧ RNp (Fresh w.heap.size) w' r (nrm (decide (n < 0)) n.natAbs 0)) ∧ Kept w w' := by
 by_cases hn : n < 0
 ·rw [decide_eq_true hn]
  exact whole_neg w n h1 hn
 ·rw [decide_eq_false hn]
  have := whole_pos w n.natAbs (by omega)
  rw [show ((n.natAbs : Nat) : Int) = n by omega] at this
  exact this
theorem mkN_ok (neg : Bool) (L : List Int) (x : Int) : (mkN neg L x).mag.length < 10000000 := by
 unfold mkN
 split
 ·simp
 ·cases hf : frm neg (nv L) x with
  | none => simp
  | some r =>
   have hv := frm_nrm neg (nv L) x
   rw [hf] at hv
   by_cases h : vld (nrm neg (nv L) x) = true
   ·rw [if_pos h] at hv
    cases hv
    have := (vld_cn _ h).2.1
    show (nrm neg (nv L) x).mag.length < _
    omega
   ·rw [if_neg h] at hv
    cases hv
theorem whole_len (n : Int) (h1 : -9223372036854775808 ≤ n) (h2 : n ≤ 9223372036854775807) : (nrm (decide (n < 0)) n.natAbs 0).mag.length < 10000000 := by
 rw [(nrm_rg _ _ _).2]
 have g1 := digs_mono (n.natAbs / 2 ^ tzn n.natAbs) n.natAbs (Nat.div_le_self _ _)
 have g2 : (digs n.natAbs).length ≤ 3 := digs_length_le _ 3 (by omega)
 omega
theorem ofN_nrm (b n : Int) (hn : n = 64 ∨ n = 32) (hc : cls b n < 3) : vld (nrm (pneg b n) (pmag b n).toNat (pexp b n)) = true ∧ ofN b n = nrm (pneg b n) (pmag b n).toNat (pexp b n) := by
 have h1 := of_frm b n hn hc
 rw [frm_nrm] at h1
 by_cases h : vld (nrm (pneg b n) (pmag b n).toNat (pexp b n)) = true
 ·rw [if_pos h] at h1
  exact ⟨h, (Option.some.inj h1).symm⟩
 ·rw [if_neg h] at h1
  cases h1
theorem field_run (p : Bool) (s : Option Addr) (l c : Nat) (z : Int) (w : World) : (Instr.field 29 (.agg #[.bool p, .slice s l c, .int .i64 z]) 1).run Tryz.prog w = .ok (.slice s l c) w := by
 kernel_rfl
/-- One answer more is kept; the document's own list lies in new memory. -/
theorem add_keep (w0 u : World) (kb : Nat) (vL vW : Value) (E : List Ent) (hK : KeepAt w0 u kb vL vW E) (hE : E.length < 300) (n0 : Nat) (hn0 : ∀ b ∈ kb :: (blk vL ++ blk vW), b < n0) (l want : Value) (L : List Int) (hL : L.length < 10000000) (hl : Rw u l 3 (ints L)) (hd : ∀ b ∈ blk l, b ∉ blks kb vL vW E) (hn : ∀ b ∈ blk l, w0.heap.size ≤ b) (hw : RLp (Fresh n0) u want L) :
  Calls Tryz.prog 17 #[.pointer (some ⟨kb, 0, none⟩), l, want] u fun e w' => e = .returned (.bool true) ∧ (∃ vL' vW' E', KeepAt w0 w' kb vL' vW' E' ∧ E'.length ≤ E.length + 1) ∧ GrwS (kb :: (blk vL ++ blk vW)) u w' := by
 refine (keepAdd w0 u kb vL vW E hK hE l want L hL hl hd hn (fun t kt => (hw.grwS kt (fun b hb h => by have := hn0 b h; simp [Fresh] at hb; omega)).sl2)).mono ?_
 rintro e w' ⟨rfl, vL2, vW2, t2, g1, g2, -, -⟩
 exact ⟨rfl, ⟨vL2, vW2, _, g1, by simp⟩, g2⟩
theorem made_true (w0 w : World) (hT : Tab w0) (kb : Nat) (vL vW : Value) (E : List Ent) (hK : KeepAt w0 w kb vL vW E) (hE : E.length + 3 ≤ 300) (neg : Bool) (L : List Int) (hR : Rg L) (hlen : L.length ≤ 2100) (q : Option Addr) (d : Nat) (hq : q = none → d = 0) (hr : Sl w0 (.slice q L.length d) L) (x b n : Int) (hx1 : -9223372036854775808 ≤ x) (hx2 : x ≤ 9223372036854775807) (hb1 : -9223372036854775808 ≤ b) (hb2 : b ≤ 9223372036854775807) :
  Calls Tryz.prog 5 #[.pointer (some ⟨kb, 0, none⟩), .bool neg, .slice q L.length d, .int .i64 x, .int .i64 b, .int .i64 n] w fun e w' => e = .returned (.bool true) ∧ (∃ vL' vW' E', KeepAt w0 w' kb vL' vW' E' ∧ E'.length ≤ E.length + 3) ∧ TS w w' := by
 have HT : Hid (∀ u, Kept w0 u → Tab u) := fun u k => hT.kept k
 have HLN : Hid (∀ u, Kept w0 u → Calls Tryz.prog 12 #[.slice q L.length d] u fun e w' => (∃ g cap, e = .returned (.slice (some ⟨g, 0, none⟩) (L.length + 3) cap) ∧ u.heap.size ≤ g ∧ Own w' g cap (L ++ [-71, -72, -73])) ∧ Kept u w') := fun u k => lent_any L (by omega) q d u (hr.kept k)
 have HMK : Hid (∀ (u : World) (g cap : Nat), Kept w0 u → Own u g cap (L ++ [-71, -72, -73]) → Calls Tryz.prog 13 #[.bool neg, .slice (some ⟨g, 0, none⟩) L.length cap, .int .i64 x] u fun e w' => ∃ v, e = .returned (.tuple #[v, .int .i64 (mkE neg L x)]) ∧ New u w' v (mkN neg L x) ∧ Kept u w') := fun u g cap k ho => by
  have hs := ho.slTake L.length (by simp)
  rw [List.take_left' rfl] at hs
  exact make_all u (HT.out u k) neg L hR (by omega) _ cap (fun h => by simp at h) x hs
 have HRM : Hid (∀ u, Kept w0 u → Calls Tryz.prog 14 #[.bool neg, .slice q L.length d, .int .i64 x] u fun e w' => (∃ v, e = .returned (.tuple #[v, .int .i64 (mkE neg L x)]) ∧ RNp (Fresh u.heap.size) w' v (mkN neg L x)) ∧ Kept u w') := fun u k => rmake_all u neg L hR (by omega) _ ⟨_, _, rfl, hq, hr.kept k⟩ x hx1 hx2
 have HBK : Hid (∀ (u : World) (g cap : Nat), Kept w0 u → Own u g cap (L ++ [-71, -72, -73]) → Calls Tryz.prog 15 #[.slice (some ⟨g, 0, none⟩) (L.length + 3) cap, .slice q L.length d] u fun e w' => e = .returned (.bool true) ∧ Grw g u w') := fun u g cap k ho => back_any L (by omega) _ g cap u (hr.kept k) ho
 have HIN : Hid (∀ u, Kept w0 u → Calls Tryz.prog 18 #[.int .i64 b] u fun e w' => (∃ v, e = .returned v ∧ New u w' v (nrm (decide (b < 0)) b.natAbs 0)) ∧ Kept u w') := fun u k => int_all u (HT.out u k) b hb1 hb2
 have HWH : Hid (∀ u, Calls Tryz.prog 19 #[.int .i64 b] u fun e w' => (∃ v, e = .returned v ∧ RNp (Fresh u.heap.size) w' v (nrm (decide (b < 0)) b.natAbs 0)) ∧ Kept u w') := fun u => whole_all u b hb1 hb2
 have lM := mkN_ok neg L x
 have lW := whole_len b hb1 hb2
 have hmee : (mkE neg L x == mkE neg L x) = true := by simp
 have hcap : ∀ (u : World) (g cap : Nat), Own u g cap (L ++ [-71, -72, -73]) → L.length + 3 ≤ cap := fun u g cap ho => by obtain ⟨_, _, h1, _⟩ := ho; simpa using h1
 have HCAP : Hid (∀ (u : World) (g cap : Nat), Own u g cap (L ++ [-71, -72, -73]) → L.length + 3 ≤ cap) := hcap
 have HK0 : Hid (KeepAt w0 w kb vL vW E) := hK
 have k0 : Hid (Kept w0 w) := hK.kept
 have HLt : Hid (∀ b ∈ blks kb vL vW E, b < w.heap.size) := hK.lt
 have hw0 : w0.heap.size ≤ w.heap.size := hK.kept.below.size
 clear hK hT hr hq hR hcap
 generalize hM : L ++ [-71, -72, -73] = M at *
 clear hM
 obtain ⟨ll, hll⟩ : ∃ ll, ll = L.length := ⟨_, rfl⟩
 rw [← hll] at HLN HMK HRM HBK HCAP hlen ⊢
 clear hll
 generalize mkE neg L x = me at *
 generalize mkN neg L x = mr at *
 go_enter Tryz.func5, Tryz.ntmps5
 go_wp2_with fail
 refine (HLN.out _ k0.out).mono ?_
 rintro e w1 ⟨⟨g, cap, rfl, hg, hO⟩, k1⟩
 have hgl := hO.lt
 have hcp := HCAP.out _ _ _ hO
 have HO1 : Hid (Own w1 g cap M) := hO
 clear hO HLN
 have hll : (0 : Int) ≤ (ll : Int) := by omega
 go_wp2_with fail
 refine (HMK.out _ g cap (k0.out.trans k1) HO1.out).mono ?_
 rintro e w2 ⟨vx, rfl, hN, k2⟩
 obtain ⟨sx, tx, rfl, hRx, hBx, -⟩ := new_rw2 hN
 have hRl := hRx.lt
 go_upto_region 3 with fail
 obtain ⟨X2, hX⟩ : ∃ X, X = w2.alloc (.cells #[.bool mr.neg, .slice sx mr.mag.length tx, .int .i64 mr.exp] 29) := ⟨_, rfl⟩
 obtain ⟨px, hp⟩ : ∃ p, p = w2.heap.size := ⟨_, rfl⟩
 have kw : Kept w2 X2 := by rw [hX]; exact (Kept.refl _).alloc _ _
 have hs2 : X2.heap.size = px + 1 := by rw [hX, hp]; simp
 have hm1 : w.heap.size ≤ w1.heap.size := k1.below.size
 have hm2 : w1.heap.size ≤ px := by rw [hp]; exact k2.below.size
 have Tx : Hid (Tri X2 px (.bool mr.neg) (.slice sx mr.mag.length tx) (.int .i64 mr.exp)) := by rw [hX, hp]; exact Tri.new _ _ _ _ _
 have Bx : Hid (∀ b ∈ blk (.slice sx mr.mag.length tx), w1.heap.size ≤ b ∧ b < px) := fun b hb => ⟨hBx b hb, by rw [hp]; exact hRl b hb⟩
 have Rx : Hid (Rw X2 (.slice sx mr.mag.length tx) 3 (ints mr.mag)) := hRx.kept kw
 have kX2 : Kept w X2 := k1.trans (k2.trans kw)
 have HO2 : Hid (Own X2 g cap M) := HO1.out.kept (k2.trans kw)
 rw [← hX, ← hp]
 clear hX hp kw hN hRx hBx hRl HO1 HMK k1 k2
 go_wp2_with fail
 refine (HRM.out _ (k0.out.trans kX2)).mono ?_
 rintro e w3 ⟨⟨vw, rfl, hNw⟩, k3⟩
 obtain ⟨sw, tw, rfl, hws⟩ := hNw.shape
 go_upto_region 4 with fail
 obtain ⟨X3, hX⟩ : ∃ X, X = w3.alloc (.cells #[.bool mr.neg, .slice sw mr.mag.length tw, .int .i64 mr.exp] 29) := ⟨_, rfl⟩
 obtain ⟨pw, hp⟩ : ∃ p, p = w3.heap.size := ⟨_, rfl⟩
 have kw : Kept w3 X3 := by rw [hX]; exact (Kept.refl _).alloc _ _
 have kX : Kept X2 X3 := k3.trans kw
 have hs3 : X3.heap.size = pw + 1 := by rw [hX, hp]; simp
 have hm3 : X2.heap.size ≤ pw := by rw [hp]; exact k3.below.size
 have Tw : Hid (Tri X3 pw (.bool mr.neg) (.slice sw mr.mag.length tw) (.int .i64 mr.exp)) := by rw [hX, hp]; exact Tri.new _ _ _ _ _
 have Tx3 : Hid (Tri X3 px (.bool mr.neg) (.slice sx mr.mag.length tx) (.int .i64 mr.exp)) := Tx.out.kept kX
 have Rx3 : Hid (Rw X3 (.slice sx mr.mag.length tx) 3 (ints mr.mag)) := Rx.out.kept kX
 have HO3 : Hid (Own X3 g cap M) := HO2.out.kept kX
 have Ws : Hid (RLp (Fresh X2.heap.size) X3 (.slice sw mr.mag.length tw) mr.mag) := hws.kept kw
 have kX3 : Kept w X3 := kX2.trans kX
 rw [← hX, ← hp]
 clear hX hp kw hNw hws Tx Rx HO2 HRM k3 kX
 go_wp2_with fail
 refine (HBK.out _ g cap (k0.out.trans kX3) HO3.out).mono ?_
 rintro e X4 ⟨rfl, hG⟩
 have G4 : GrwS [g] X3 X4 := hG.toS
 have K4 : Kept w0 X4 := (k0.out.trans kX3).grwS (fun i hi => by simp at hi; omega) G4
 have hm4 : X3.heap.size ≤ X4.heap.size := G4.size
 have S4 : Hid (TS w X4) := kX3.ts.trans (G4.ts HO3.out.ts_ne)
 have Tx4 : Hid (Tri X4 px (.bool mr.neg) (.slice sx mr.mag.length tx) (.int .i64 mr.exp)) := Tx3.out.grw G4 (by simp; omega)
 have Tw4 : Hid (Tri X4 pw (.bool mr.neg) (.slice sw mr.mag.length tw) (.int .i64 mr.exp)) := Tw.out.grw G4 (by simp; omega)
 have Rx4 : Hid (Rw X4 (.slice sx mr.mag.length tx) 3 (ints mr.mag)) := Rx3.out.grwS G4 (fun b hb h => by have := Bx.out b hb; simp at h; omega)
 have Ws4 : Hid (RLp (Fresh X2.heap.size) X4 (.slice sw mr.mag.length tw) mr.mag) := Ws.out.grwS G4 (fun b hb h => by simp [Fresh] at hb; simp at h; omega)
 have HK4 : Hid (KeepAt w0 X4 kb vL vW E) := (HK0.out.keptOn kX3).grwS G4 (fun b hb h => by have := HLt.out b hb; simp at h; omega) (fun b hb => by simp at hb; omega)
 clear Tx3 Tw Rx3 Ws HO3 HBK hG G4
 obtain ⟨⟨c00, c01⟩, c02⟩ := Tx4.out.now
 obtain ⟨⟨c10, c11⟩, c12⟩ := Tw4.out.now
 have HSM : Hid (Calls Tryz.prog 16 #[.agg #[.bool mr.neg, .slice sx mr.mag.length tx, .int .i64 mr.exp], .agg #[.bool mr.neg, .slice sw mr.mag.length tw, .int .i64 mr.exp]] X4 fun e w' => e = .returned (.bool true) ∧ Kept X4 w') := sameNum_true mr (by omega) _ _ X4 ⟨_, rfl, Rx4.out.sl⟩ ⟨_, rfl, Ws4.out.sl2⟩
 have hmne : (me != me) = false := by simp
 go_wp2_with fail
 refine HSM.out.mono ?_
 rintro e X5 ⟨rfl, k5⟩
 clear c00 c01 c02 c10 c11 c12 HSM
 obtain ⟨⟨c00, c01⟩, c02⟩ := (Tx4.out.kept k5).now
 obtain ⟨⟨c10, c11⟩, c12⟩ := (Tw4.out.kept k5).now
 have HAD : Hid (Calls Tryz.prog 17 #[.pointer (some ⟨kb, 0, none⟩), .slice sx mr.mag.length tx, .slice sw mr.mag.length tw] X5 fun e w' => e = .returned (.bool true) ∧ (∃ vL' vW' E', KeepAt w0 w' kb vL' vW' E' ∧ E'.length ≤ E.length + 1) ∧ GrwS (kb :: (blk vL ++ blk vW)) X5 w') := add_keep w0 X5 kb vL vW E (HK4.out.keptOn k5) (by omega) X2.heap.size (fun b hb => by have := HLt.out b (head_blks hb); omega) _ _ mr.mag (by omega) (Rx4.out.kept k5) (fun b hb h => by have := HLt.out b h; have := Bx.out b hb; omega) (fun b hb => by have := Bx.out b hb; omega) (Ws4.out.kept k5)
 go_wp2_with fail
 refine HAD.out.mono ?_
 rintro e X6 ⟨rfl, ⟨vL6, vW6, E6, hK6, hE6⟩, hg6⟩
 have S6 : Hid (TS w X6) := (S4.out.trans k5.ts).trans ((HK4.out.keptOn k5).ts hg6)
 clear S4 hg6
 have HK6 : Hid (KeepAt w0 X6 kb vL6 vW6 E6) := hK6
 have HLt6 : Hid (∀ b ∈ blks kb vL6 vW6 E6, b < X6.heap.size) := hK6.lt
 have k6 : Hid (Kept w0 X6) := hK6.kept
 have hw6 : w0.heap.size ≤ X6.heap.size := hK6.kept.below.size
 clear c00 c01 c02 c10 c11 c12 HAD hK6 Tx4 Tw4 Rx4 Ws4 HK4 Bx HK0 HLt k5 K4 kX2 kX3 hs2 hs3 hm1 hm2 hm3 hm4 hg hgl k0
 go_wp2_with fail
 refine (HIN.out _ k6.out).mono ?_
 rintro e w7 ⟨⟨vn, rfl, hN⟩, k7⟩
 obtain ⟨sn, tn, rfl, hRn, hBn, -⟩ := new_rw2 hN
 generalize nrm (decide (b < 0)) b.natAbs 0 = nn at *
 have hRl := hRn.lt
 go_upto_region 7 with fail
 obtain ⟨X7, hX⟩ : ∃ X, X = w7.alloc (.cells #[.bool nn.neg, .slice sn nn.mag.length tn, .int .i64 nn.exp] 29) := ⟨_, rfl⟩
 obtain ⟨pn, hp⟩ : ∃ p, p = w7.heap.size := ⟨_, rfl⟩
 have kw : Kept w7 X7 := by rw [hX]; exact (Kept.refl _).alloc _ _
 have kX : Kept X6 X7 := k7.trans kw
 have hs7 : X7.heap.size = pn + 1 := by rw [hX, hp]; simp
 have hm7 : X6.heap.size ≤ pn := by rw [hp]; exact k7.below.size
 have Tn : Hid (Tri X7 pn (.bool nn.neg) (.slice sn nn.mag.length tn) (.int .i64 nn.exp)) := by rw [hX, hp]; exact Tri.new _ _ _ _ _
 have Bn : Hid (∀ b ∈ blk (.slice sn nn.mag.length tn), X6.heap.size ≤ b ∧ b < pn) := fun b hb => ⟨hBn b hb, by rw [hp]; exact hRl b hb⟩
 have Rn : Hid (Rw X7 (.slice sn nn.mag.length tn) 3 (ints nn.mag)) := hRn.kept kw
 have HK7 : Hid (KeepAt w0 X7 kb vL6 vW6 E6) := HK6.out.keptOn kX
 have S7 : Hid (∀ u u', Kept X7 u → GrwS (kb :: (blk vL6 ++ blk vW6)) u u' → TS w u') := fun u u' ku g => ((S6.out.trans kX.ts).trans ku.ts).trans ((HK6.out.keptOn (kX.trans ku)).ts g)
 clear S6
 rw [← hX, ← hp]
 clear hX hp kw hN hRn hBn hRl HIN HK6 k7
 have HS : Hid (∀ u, Kept X7 u → (u.cell? ⟨pn, 0, none⟩ = some (.bool nn.neg) ∧ u.cell? ⟨pn, 1, none⟩ = some (.slice sn nn.mag.length tn)) ∧ u.cell? ⟨pn, 2, none⟩ = some (.int .i64 nn.exp)) := fun u k => (Tn.out.kept k).now
 have HSG : Hid (∀ u u', Kept X7 u → GrwS (kb :: (blk vL6 ++ blk vW6)) u u' → (u'.cell? ⟨pn, 0, none⟩ = some (.bool nn.neg) ∧ u'.cell? ⟨pn, 1, none⟩ = some (.slice sn nn.mag.length tn)) ∧ u'.cell? ⟨pn, 2, none⟩ = some (.int .i64 nn.exp)) := fun u u' k g => ((Tn.out.kept k).grw g (fun h => by have := HLt6.out _ (head_blks h); omega)).now
 have HSM : Hid (∀ u v, Kept X7 u → RNp (Fresh X7.heap.size) u v nn → Calls Tryz.prog 16 #[.agg #[.bool nn.neg, .slice sn nn.mag.length tn, .int .i64 nn.exp], v] u fun e w' => e = .returned (.bool true) ∧ Kept u w') := fun u v k h => sameNum_true nn (by omega) _ _ u ⟨_, rfl, (Rn.out.kept k).sl⟩ h.numAt
 have HAD : Hid (∀ u a c, Kept X7 u → RLp (Fresh X7.heap.size) u (.slice a nn.mag.length c) nn.mag → Calls Tryz.prog 17 #[.pointer (some ⟨kb, 0, none⟩), .slice sn nn.mag.length tn, .slice a nn.mag.length c] u fun e w' => e = .returned (.bool true) ∧ (∃ vL' vW' E', KeepAt w0 w' kb vL' vW' E' ∧ E'.length ≤ E6.length + 1) ∧ GrwS (kb :: (blk vL6 ++ blk vW6)) u w') := fun u a c k h => add_keep w0 u kb vL6 vW6 E6 (HK7.out.keptOn k) (by omega) X7.heap.size (fun b hb => by have := HLt6.out b (head_blks hb); omega) _ _ nn.mag (by omega) (Rn.out.kept k) (fun b hb h => by have := HLt6.out b h; have := Bn.out b hb; omega) (fun b hb => by have := Bn.out b hb; omega) h
 have kd : Kept X7 X7.drew := (Kept.refl X7).drew
 have hfld := field_run
 clear Tn Rn HK7 Bn kX
 refine wp_region_held_drew (S := fun u => (u.cell? ⟨pn, 0, none⟩ = some (.bool nn.neg) ∧ u.cell? ⟨pn, 1, none⟩ = some (.slice sn nn.mag.length tn)) ∧ u.cell? ⟨pn, 2, none⟩ = some (.int .i64 nn.exp)) (by kernel_rfl) (HS.out _ kd) (fun hHeld0 => ?_)
 refine tk (i := 0) (v := ?_) rfl ?_
 simp only [Act.put, zA, zB, zC, zD, zE, zF]
 refine tk (i := 1) (v := ?_) rfl ?_
 simp only [Act.put, zA, zB, zC, zD, zE, zF]
 refine wpAnyH_ready (rs := [2]) (by kernel_rfl) (by simp) ?_
 refine AllReadyH.cons rfl (fun K hK9 => ?_) AllReadyH.nil
 go_simp
 go_wp2_with fail
 refine (HWH.out _).mono ?_
 rintro e y1 ⟨⟨v1, rfl, m1⟩, q1⟩
 have h1 := kd.trans q1
 refine hK9.out _ _ (HS.out _ h1) (fun hHeld1 => ?_)
 clear hK9 K
 refine wpAnyH_ready (rs := [3]) (by kernel_rfl) (by simp) ?_
 refine AllReadyH.cons rfl (fun K hK9 => ?_) AllReadyH.nil
 go_simp
 go_wp2_with fail
 refine (HSM.out _ _ h1 (m1.imp (fun b hb => Nat.le_trans kd.below.size hb))).mono ?_
 rintro e y2 ⟨rfl, q2⟩
 have h2 := h1.trans q2
 refine hK9.out _ _ (HS.out _ h2) (fun hHeld2 => ?_)
 clear hK9 K
 refine tk (i := 4) (v := ?_) rfl ?_
 simp only [Act.put, zA, zB, zC, zD, zE, zF]
 refine tk (i := 5) (v := ?_) rfl ?_
 simp only [Act.put, zA, zB, zC, zD, zE, zF]
 refine tk (i := 6) (v := ?_) rfl ?_
 simp only [Act.put, zA, zB, zC, zD, zE, zF]
 refine tk (i := 7) (v := ?_) rfl ?_
 simp only [Act.put, zA, zB, zC, zD, zE, zF]
 refine tk (i := 8) (v := ?_) rfl ?_
 simp only [Act.put, zA, zB, zC, zD, zE, zF]
 refine tk (i := 9) (v := ?_) rfl ?_
 simp only [Act.put, zA, zB, zC, zD, zE, zF]
 refine wpAnyH_ready (rs := [10]) (by kernel_rfl) (by simp) ?_
 refine AllReadyH.cons rfl (fun K hK9 => ?_) AllReadyH.nil
 go_simp
 go_wp2_with fail
 refine (HWH.out _).mono ?_
 rintro e y3 ⟨⟨v3, rfl, m3⟩, q3⟩
 have h3 := h2.trans q3
 obtain ⟨s3, t3, rfl, m3'⟩ := m3.shape
 refine hK9.out _ _ (HS.out _ h3) (fun hHeld3 => ?_)
 clear hK9 K
 refine tk (i := 11) (v := ?_) rfl ?_
 simp only [Act.put, zA, zB, zC, zD, zE, zF]
 refine wpAnyH_ready (rs := [12]) (by kernel_rfl) (by simp) ?_
 refine AllReadyH.cons rfl (fun K hK9 => ?_) AllReadyH.nil
 go_simp
 go_wp2_with fail
 refine (HAD.out _ _ _ h3 (m3'.imp (fun b hb => Nat.le_trans h2.below.size hb))).mono ?_
 rintro e y4 ⟨rfl, hk4, hg4⟩
 have S8 : Hid (TS w y4) := S7.out _ _ h3 hg4
 clear S7
 refine hK9.out _ _ (HSG.out _ _ h3 hg4) (fun hHeld4 => ?_)
 clear hK9 K
 refine tk (i := 13) (v := ?_) rfl ?_
 simp only [Act.put, zA, zB, zC, zD, zE, zF]
 refine tk (i := 14) (v := ?_) rfl ?_
 simp only [Act.put, zA, zB, zC, zD, zE, zF]
 refine wpAnyH_done (by kernel_rfl) ?_ _
 clear hHeld0 hHeld1 hHeld2 hHeld3 hHeld4 HS HSG HSM HAD HWH m1 m3 m3' h1 h2 h3 q1 q2 q3 kd hg4
 obtain ⟨vL8, vW8, E8, hK8, hE8⟩ := hk4
 obtain ⟨X8, hX8⟩ : ∃ X, X = y4 := ⟨_, rfl⟩
 rw [← hX8] at hK8 S8 ⊢
 clear hX8
 have HK8 : Hid (KeepAt w0 X8 kb vL8 vW8 E8) := hK8
 have HLt8 : Hid (∀ b ∈ blks kb vL8 vW8 E8, b < X8.heap.size) := hK8.lt
 have k8 : Hid (Kept w0 X8) := hK8.kept
 have hw8 : w0.heap.size ≤ X8.heap.size := hK8.kept.below.size
 clear hK8
 by_cases hnw : n = 64 ∨ n = 32
 ·by_cases hfi : cls b n < 3
  ·have hof := ofN_nrm b n hnw hfi
   have KOf : Hid (Calls Tryz.prog 20 #[.int .i64 b, .int .i64 n] X8 fun e w' => ∃ v, e = .returned (.tuple #[v, .int .i64 0]) ∧ New X8 w' v (ofN b n) ∧ Kept X8 w') := of_fin b n hb1 hb2 hnw hfi X8 (HT.out _ k8.out)
   have KFi : Hid (∀ u, Calls Tryz.prog 21 #[.int .i64 b, .int .i64 n] u fun e w' => e = .returned (.bool true) ∧ Kept u w') := fun u => by
    have := rfinite_any b n hb1 hb2 u
    rw [decide_eq_true hfi] at this
    exact this
   have KEx : Hid (∀ u, Calls Tryz.prog 23 #[.int .i64 b, .int .i64 n] u fun e w' => (∃ v, e = .returned v ∧ RNp (Fresh u.heap.size) w' v (ofN b n)) ∧ Kept u w') := fun u => by
    have := rexact2_any b n hb1 hb2 hnw hfi u
    rw [← hof.2] at this
    exact this
   have hvo : vld (ofN b n) = true := by rw [hof.2]; exact hof.1
   have hvc := vld_cn _ hvo
   have h32 : n = 32 ∨ n ≠ 32 := by omega
   generalize ofN b n = ry at *
   clear hof hfi
   go_wp2_with fail
   refine KOf.out.mono ?_
   rintro e w9 ⟨v9, rfl, hN, k9⟩
   obtain ⟨sy, ty, rfl, hRy, hBy, -⟩ := new_rw2 hN
   have hRl := hRy.lt
   go_upto_region 10 with fail
   obtain ⟨X9, hX⟩ : ∃ X, X = w9.alloc (.cells #[.bool ry.neg, .slice sy ry.mag.length ty, .int .i64 ry.exp] 29) := ⟨_, rfl⟩
   obtain ⟨py, hp⟩ : ∃ p, p = w9.heap.size := ⟨_, rfl⟩
   have kw : Kept w9 X9 := by rw [hX]; exact (Kept.refl _).alloc _ _
   have kX : Kept X8 X9 := k9.trans kw
   have hs9 : X9.heap.size = py + 1 := by rw [hX, hp]; simp
   have hm9 : X8.heap.size ≤ py := by rw [hp]; exact k9.below.size
   have Ty : Hid (Tri X9 py (.bool ry.neg) (.slice sy ry.mag.length ty) (.int .i64 ry.exp)) := by rw [hX, hp]; exact Tri.new _ _ _ _ _
   have By : Hid (∀ b ∈ blk (.slice sy ry.mag.length ty), X8.heap.size ≤ b ∧ b < py) := fun b hb => ⟨hBy b hb, by rw [hp]; exact hRl b hb⟩
   have Ry : Hid (Rw X9 (.slice sy ry.mag.length ty) 3 (ints ry.mag)) := hRy.kept kw
   have HK9 : Hid (KeepAt w0 X9 kb vL8 vW8 E8) := HK8.out.keptOn kX
   rw [← hX, ← hp]
   clear hX hp kw hN hRy hBy hRl HK8 k9 KOf
   have FR0 : Frn w0 X9 kb vL8 vW8 E8 [] E8.length X9 := Frn.start HK9.out
   have HSF : Hid (∀ D N u, Frn w0 X9 kb vL8 vW8 E8 D N u → (u.cell? ⟨py, 0, none⟩ = some (.bool ry.neg) ∧ u.cell? ⟨py, 1, none⟩ = some (.slice sy ry.mag.length ty)) ∧ u.cell? ⟨py, 2, none⟩ = some (.int .i64 ry.exp)) := fun D N u h => Ty.out.2 _ u (fun h' => by have := HLt8.out _ (head_blks h'); omega) h.grw
   have KIs : Hid (∀ u0 u v, Frn w0 X9 kb vL8 vW8 E8 [] E8.length u0 → Kept u0 u → RNp (fun c => c < w0.heap.size ∨ u0.heap.size ≤ c) u v ry → Calls Tryz.prog 22 #[.pointer (some ⟨kb, 0, none⟩), .agg #[.bool ry.neg, .slice sy ry.mag.length ty, .int .i64 ry.exp], .int .i64 0, .bool false, v] u fun e w' => e = .returned (.bool true) ∧ Frn w0 X9 kb vL8 vW8 E8 ([] ++ blk (.slice sy ry.mag.length ty)) (E8.length + 1) w') := fun u0 u v h k hv => is_at w0 X9 kb vL8 vW8 E8 _ _ u0 u h k (by omega) ry 0 sy ty Ry.out (fun b hb h => by have := HLt8.out b h; have := By.out b hb; omega) (by simp) (fun b hb => by have := By.out b hb; omega) ry v hv hvc.1.1.rg (by have := hvc.2.1; omega) (by rw [if_pos hvo]; exact ⟨rfl, rfl⟩)
   have HFN : Hid (∀ u, Frn w0 X9 kb vL8 vW8 E8 ([] ++ blk (.slice sy ry.mag.length ty)) (E8.length + 1) u → (∃ vL' vW' E', KeepAt w0 u kb vL' vW' E' ∧ E'.length ≤ E.length + 3) ∧ TS w u) := fun u h => by
    have hgr := h.grw
    obtain ⟨vL', vW', E', h1, h0, -⟩ := h
    exact ⟨⟨vL', vW', E', h1, by omega⟩, (S8.out.trans kX.ts).trans (HK9.out.ts hgr)⟩
   have HON : Hid (∀ u u', Frn w0 X9 kb vL8 vW8 E8 [] E8.length u → Kept u u' → Frn w0 X9 kb vL8 vW8 E8 [] E8.length u') := fun u u' h k => h.on k
   clear Ry By hvc hvo HK9 Ty
   rcases hnw with rfl | rfl
   ·go_wp2_with fail
    refine (KFi.out _).mono ?_
    rintro e y1 ⟨rfl, q1⟩
    have f1 := HON.out _ _ FR0 q1
    have f1d := HON.out _ _ f1 (Kept.refl y1).drew
    go_wp2_with fail
    refine wp_region_held_drew (S := fun u => (u.cell? ⟨py, 0, none⟩ = some (.bool ry.neg) ∧ u.cell? ⟨py, 1, none⟩ = some (.slice sy ry.mag.length ty)) ∧ u.cell? ⟨py, 2, none⟩ = some (.int .i64 ry.exp)) (by kernel_rfl) (HSF.out _ _ _ f1d) (fun hHeld0 => ?_)
    refine tk (i := 0) (v := ?_) rfl ?_
    simp only [Act.put, zA, zB, zC, zD, zE, zF]
    refine tk (i := 1) (v := ?_) rfl ?_
    simp only [Act.put, zA, zB, zC, zD, zE, zF]
    refine tk (i := 2) (v := ?_) rfl ?_
    simp only [Act.put, zA, zB, zC, zD, zE, zF]
    refine tk (i := 3) (v := ?_) rfl ?_
    simp only [Act.put, zA, zB, zC, zD, zE, zF]
    refine tk (i := 4) (v := ?_) rfl ?_
    simp only [Act.put, zA, zB, zC, zD, zE, zF]
    refine wpAnyH_ready (rs := [5]) (by kernel_rfl) (by simp) ?_
    refine AllReadyH.cons rfl (fun K hK9 => ?_) AllReadyH.nil
    go_simp
    go_wp2_with fail
    refine (KEx.out _).mono ?_
    rintro e y2 ⟨⟨v2, rfl, m2⟩, q2⟩
    have f2 := HON.out _ _ f1d q2
    refine hK9.out _ _ (HSF.out _ _ _ f2) (fun hHeld1 => ?_)
    clear hK9 K
    refine wpAnyH_ready (rs := [6]) (by kernel_rfl) (by simp) ?_
    refine AllReadyH.cons rfl (fun K hK9 => ?_) AllReadyH.nil
    go_simp
    go_wp2_with fail
    refine (KIs.out _ _ _ f1d q2 (m2.imp (fun b hb => Or.inr hb))).mono ?_
    rintro e y3 ⟨rfl, f3⟩
    refine hK9.out _ _ (HSF.out _ _ _ f3) (fun hHeld2 => ?_)
    clear hK9 K
    refine tk (i := 7) (v := ?_) rfl ?_
    simp only [Act.put, zA, zB, zC, zD, zE, zF]
    refine wpAnyH_done (by kernel_rfl) ?_ _
    go_wp2_with fail
    go_ret
    exact ⟨rfl, HFN.out _ f3⟩
   ·go_wp2_with fail
    refine (KFi.out _).mono ?_
    rintro e y1 ⟨rfl, q1⟩
    have f1 := HON.out _ _ FR0 q1
    have f1d := HON.out _ _ f1 (Kept.refl y1).drew
    go_wp2_with fail
    refine wp_region_held_drew (S := fun u => (u.cell? ⟨py, 0, none⟩ = some (.bool ry.neg) ∧ u.cell? ⟨py, 1, none⟩ = some (.slice sy ry.mag.length ty)) ∧ u.cell? ⟨py, 2, none⟩ = some (.int .i64 ry.exp)) (by kernel_rfl) (HSF.out _ _ _ f1d) (fun hHeld0 => ?_)
    refine tk (i := 0) (v := ?_) rfl ?_
    simp only [Act.put, zA, zB, zC, zD, zE, zF]
    refine tk (i := 1) (v := ?_) rfl ?_
    simp only [Act.put, zA, zB, zC, zD, zE, zF]
    refine tk (i := 2) (v := ?_) rfl ?_
    simp only [Act.put, zA, zB, zC, zD, zE, zF]
    refine tk (i := 3) (v := ?_) rfl ?_
    simp only [Act.put, zA, zB, zC, zD, zE, zF]
    refine tk (i := 4) (v := ?_) rfl ?_
    simp only [Act.put, zA, zB, zC, zD, zE, zF]
    refine wpAnyH_ready (rs := [5]) (by kernel_rfl) (by simp) ?_
    refine AllReadyH.cons rfl (fun K hK9 => ?_) AllReadyH.nil
    go_simp
    go_wp2_with fail
    refine (KEx.out _).mono ?_
    rintro e y2 ⟨⟨v2, rfl, m2⟩, q2⟩
    have f2 := HON.out _ _ f1d q2
    refine hK9.out _ _ (HSF.out _ _ _ f2) (fun hHeld1 => ?_)
    clear hK9 K
    refine wpAnyH_ready (rs := [6]) (by kernel_rfl) (by simp) ?_
    refine AllReadyH.cons rfl (fun K hK9 => ?_) AllReadyH.nil
    go_simp
    go_wp2_with fail
    refine (KIs.out _ _ _ f1d q2 (m2.imp (fun b hb => Or.inr hb))).mono ?_
    rintro e y3 ⟨rfl, f3⟩
    refine hK9.out _ _ (HSF.out _ _ _ f3) (fun hHeld2 => ?_)
    clear hK9 K
    refine tk (i := 7) (v := ?_) rfl ?_
    simp only [Act.put, zA, zB, zC, zD, zE, zF]
    refine wpAnyH_done (by kernel_rfl) ?_ _
    go_wp2_with fail
    go_ret
    exact ⟨rfl, HFN.out _ f3⟩
  ·have KOf : Hid (Calls Tryz.prog 20 #[.int .i64 b, .int .i64 n] X8 fun e w' => e = .returned (.tuple #[zeroNum, .int .i64 6]) ∧ Kept X8 w') := of_bits b n hb1 hb2 hnw (by omega) X8
   have KFi : Hid (∀ u, Calls Tryz.prog 21 #[.int .i64 b, .int .i64 n] u fun e w' => e = .returned (.bool false) ∧ Kept u w') := fun u => by
    have := rfinite_any b n hb1 hb2 u
    rw [decide_eq_false hfi] at this
    exact this
   clear hfi
   go_wp2_with fail
   refine KOf.out.mono ?_
   rintro e w9 ⟨rfl, k9⟩
   go_upto_region 10 with fail
   obtain ⟨X9, hX⟩ : ∃ X, X = w9.alloc (.cells #[.bool false, .slice none 0 0, .int .i64 0] 29) := ⟨_, rfl⟩
   obtain ⟨py, hp⟩ : ∃ p, p = w9.heap.size := ⟨_, rfl⟩
   have kX : Kept X8 X9 := by rw [hX]; exact k9.alloc _ _
   have Ty : Hid (Tri X9 py (.bool false) (.slice none 0 0) (.int .i64 0)) := by rw [hX, hp]; exact Tri.new _ _ _ _ _
   have HK9 : Hid (KeepAt w0 X9 kb vL8 vW8 E8) := HK8.out.keptOn kX
   have S9 : Hid (TS w X9) := S8.out.trans kX.ts
   have HSZ : Hid (∀ u, Calls Tryz.prog 16 #[zeroNum, zeroNum] u fun e w' => e = .returned (.bool true) ∧ Kept u w') := fun u => sameNum_true ⟨false, [], 0⟩ (by simp) _ _ u (zero_numAt u) (zero_numAt u)
   rw [← hX, ← hp]
   clear hX hp k9 KOf HK8
   obtain ⟨⟨c00, c01⟩, c02⟩ := Ty.out.now
   rcases hnw with rfl | rfl
   ·go_wp2_with fail
    refine (KFi.out _).mono ?_
    rintro e y1 ⟨rfl, q1⟩
    clear c00 c01 c02
    obtain ⟨⟨c00, c01⟩, c02⟩ := (Ty.out.kept q1).now
    go_wp2_with fail
    refine (HSZ.out _).mono ?_
    rintro e y2 ⟨rfl, q2⟩
    go_wp2_with fail
    go_ret
    exact ⟨rfl, ⟨vL8, vW8, E8, HK9.out.keptOn (q1.trans q2), by omega⟩, S9.out.trans (q1.trans q2).ts⟩
   ·go_wp2_with fail
    refine (KFi.out _).mono ?_
    rintro e y1 ⟨rfl, q1⟩
    clear c00 c01 c02
    obtain ⟨⟨c00, c01⟩, c02⟩ := (Ty.out.kept q1).now
    go_wp2_with fail
    refine (HSZ.out _).mono ?_
    rintro e y2 ⟨rfl, q2⟩
    go_wp2_with fail
    go_ret
    exact ⟨rfl, ⟨vL8, vW8, E8, HK9.out.keptOn (q1.trans q2), by omega⟩, S9.out.trans (q1.trans q2).ts⟩
 ·have g1 : (n == 32) = false := by simp; omega
  have g2 : (n == 64) = false := by simp; omega
  have g5 : (n != 32) = true := by simp; omega
  have g6 : (n != 64) = true := by simp; omega
  have KOf : Hid (Calls Tryz.prog 20 #[.int .i64 b, .int .i64 n] X8 fun e w' => e = .returned (.tuple #[zeroNum, .int .i64 3]) ∧ Kept X8 w') := of_width b n g1 g2 X8
  go_wp2_with fail
  refine KOf.out.mono ?_
  rintro e w9 ⟨rfl, k9⟩
  go_upto_region 10 with fail
  obtain ⟨X9, hX⟩ : ∃ X, X = w9.alloc (.cells #[.bool false, .slice none 0 0, .int .i64 0] 29) := ⟨_, rfl⟩
  obtain ⟨py, hp⟩ : ∃ p, p = w9.heap.size := ⟨_, rfl⟩
  have kX : Kept X8 X9 := by rw [hX]; exact k9.alloc _ _
  have Ty : Hid (Tri X9 py (.bool false) (.slice none 0 0) (.int .i64 0)) := by rw [hX, hp]; exact Tri.new _ _ _ _ _
  have HK9 : Hid (KeepAt w0 X9 kb vL8 vW8 E8) := HK8.out.keptOn kX
  have S9 : Hid (TS w X9) := S8.out.trans kX.ts
  have HSZ : Hid (∀ u, Calls Tryz.prog 16 #[zeroNum, zeroNum] u fun e w' => e = .returned (.bool true) ∧ Kept u w') := fun u => sameNum_true ⟨false, [], 0⟩ (by simp) _ _ u (zero_numAt u) (zero_numAt u)
  rw [← hX, ← hp]
  clear hX hp k9 KOf HK8
  obtain ⟨⟨c00, c01⟩, c02⟩ := Ty.out.now
  clear g1 g2 hnw
  go_wp2_with fail
  refine (HSZ.out _).mono ?_
  rintro e y2 ⟨rfl, q2⟩
  go_wp2_with fail
  go_ret
  exact ⟨rfl, ⟨vL8, vW8, E8, HK9.out.keptOn q2, by omega⟩, S9.out.trans q2.ts⟩
end Go.Proofs.YtbffekcjdcihpaaGreatDoor
