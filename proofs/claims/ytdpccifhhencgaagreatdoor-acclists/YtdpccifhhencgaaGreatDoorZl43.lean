/- The document's inf and negative. The document's AddOne, by values. -/
import Derived.Test.YtdpccifhhencgaaGreatDoorZl34
import Derived.Test.YtdpccifhhencgaaGreatDoorZl42
import Derived.Test.YtdpccifhhencgaaGreatDoorZl41
import Derived.Test.YtdpccifhhencgaaGreatDoorZl11
namespace Go.Proofs.YtdpccifhhencgaaGreatDoor
open Go.ChangeShapes Go.WideShapes Go.ChangeAt Go.RowKit
set_option linter.unusedVariables false
set_option linter.unusedSimpArgs false
set_option maxHeartbeats 16000000
set_option maxRecDepth 100000
theorem rinf (neg ng : Bool) (ao : Option Addr) (l c : Nat) (x : Int) (p m z : Bool) (w : World) : Calls Tryz.prog 73 #[accV ng (.slice ao l c) x p m z, .bool neg] w fun e w' => e = .returned (accV ng (.slice ao l c) x (p || !neg) (m || neg) z) ∧ Kept w w' := by
 cases neg
 ·have e : accV ng (.slice ao l c) x (p || !false) (m || false) z = accV ng (.slice ao l c) x true m z := by simp
  rw [e]
  go_enter Tryz.func73, Tryz.ntmps73
  go_wp2_with fail
  exact bodyPost_ret (v := accV ng (.slice ao l c) x true m z) (by simp [results, Tryz.results73, go_sem]) rfl ⟨rfl, ((Kept.refl w).alloc _ _).alloc _ _⟩
 ·have e : accV ng (.slice ao l c) x (p || !true) (m || true) z = accV ng (.slice ao l c) x p true z := by simp
  rw [e]
  go_enter Tryz.func73, Tryz.ntmps73
  go_wp2_with fail
  exact bodyPost_ret (v := accV ng (.slice ao l c) x p true z) (by simp [results, Tryz.results73, go_sem]) rfl ⟨rfl, ((Kept.refl w).alloc _ _).alloc _ _⟩
theorem rnegative (b n o : Int) (w : World) (K : Hid (∀ u, Calls Tryz.prog 120 #[.int .i64 b, .int .i64 0, .int .i64 n] u fun e w' => e = .returned (.int .i64 o) ∧ Kept u w')) : Calls Tryz.prog 74 #[.int .i64 b, .int .i64 n] w fun e w' => e = .returned (.bool (decide (o < 0))) ∧ Kept w w' := by
 go_enter Tryz.func74, Tryz.ntmps74
 go_wp2_with fail
 refine (K.out _).mono ?_
 rintro e w1 ⟨rfl, k1⟩
 go_wp2_with fail
 go_ret
 exact ⟨rfl, k1⟩
theorem ord_neg (b n : Int) (hn : n = 64 ∨ n = 32) (hc : cls b n ≠ 4) : decide (ord b 0 n < 0) = sgn b n := by
 have h0 : plc 0 n = 0 := by rcases hn with rfl | rfl <;> decide +kernel
 have hi : isnum b n = true := by
  rcases hn with rfl | rfl <;> simpa [isnum] using hc
 unfold ord sgn
 rw [h0]
 unfold plc cmpI
 rw [if_pos hi]
 rcases hn with rfl | rfl
 ·simp only [if_true]
  by_cases h : b < 0
  ·rw [if_pos h, if_pos (by omega), decide_eq_true h]; decide
  ·rw [if_neg h, if_neg h, decide_eq_false h]
   split <;> decide
 ·simp only [show ¬ ((32 : Int) = 64) by decide, if_false]
  have hv : 0 ≤ b := by
   unfold cls at hc
   simp only [show ¬ ((32 : Int) = 64) by decide, if_false, if_true] at hc
   by_cases hb : 0 ≤ b ∧ b < 4294967296
   ·exact hb.1
   ·rw [if_neg hb] at hc; exact absurd rfl hc
  by_cases h : 2147483648 ≤ b
  ·rw [if_pos h, if_pos (by omega), decide_eq_true h]; decide
  ·rw [if_neg h, if_neg (by omega), decide_eq_false h]
   split <;> decide
theorem rneg_any (b n : Int) (hn : n = 64 ∨ n = 32) (hc : cls b n ≠ 4) (b1 : -9223372036854775808 ≤ b) (b2 : b ≤ 9223372036854775807) (w : World) : Calls Tryz.prog 74 #[.int .i64 b, .int .i64 n] w fun e w' => e = .returned (.bool (sgn b n)) ∧ Kept w w' := by
 rw [← ord_neg b n hn hc]
 exact rnegative b n (ord b 0 n) w (fun u => rorder_any b 0 n b1 b2 (by omega) (by omega) u)
theorem one_zv (n : Int) (hn : n = 64 ∨ n = 32) : zv n (oneN n) = 2 ^ k74 := by
 rcases hn with rfl | rfl
 ·have e : (pexp (oneN 64) 64 + 1074).toNat = k74 - 52 := by decide +kernel
  have m : pmag (oneN 64) 64 = 2 ^ 52 := by decide +kernel
  have g : pneg (oneN 64) 64 = false := by decide +kernel
  unfold zv
  rw [e, m, g]
  simp only [sg, ← Int.pow_add]
  rw [show 52 + (k74 - 52) = k74 by rw [k74_is]]
  simp
 ·have e : (pexp (oneN 32) 32 + 1074).toNat = k74 - 23 := by decide +kernel
  have m : pmag (oneN 32) 32 = 2 ^ 23 := by decide +kernel
  have g : pneg (oneN 32) 32 = false := by decide +kernel
  unfold zv
  rw [e, m, g]
  simp only [sg, ← Int.pow_add]
  rw [show 23 + (k74 - 23) = k74 by rw [k74_is]]
  simp
theorem one_cls (n : Int) (hn : n = 64 ∨ n = 32) : cls (oneN n) n = 2 ∧ sgn (oneN n) n = false := by
 rcases hn with rfl | rfl <;> decide +kernel
theorem dn_of (n b : Int) (hn : n = 64 ∨ n = 32) (b1 : -9223372036854775808 ≤ b) (b2 : b ≤ 9223372036854775807) (hc : cls b n < 3) : DN (pvl n b (oneN n)) (ofN b n) := by
 obtain ⟨o1, o2, o3⟩ := oneN_ok n hn
 have ho := (one_cls n hn).1
 refine ⟨big_lt (pvl_lt n b (oneN n) hn b1 b2 o1 o2), ?_⟩
 have hb : bth n b (oneN n) = true := by simp [bth, hc, ho]
 unfold pvl
 rw [if_pos hb, pval_zv n b (oneN n) (finP_of b n b1 b2 hn hc) (finP_of (oneN n) n o1 o2 hn (by omega)), one_zv n hn, cfm_shift, show (-2148 : Int) + (k74 : Int) = -1074 by rw [k74_is]; rfl]
 exact of_zv n b hn hc (finP_of b n b1 b2 hn hc)
theorem one_fin (n b : Int) (hn : n = 64 ∨ n = 32) (hc : cls b n < 3) : fP n b (oneN n) = false ∧ fM n b (oneN n) = false ∧ fN n b (oneN n) = false := by
 have ho := (one_cls n hn).1
 have hb : bth n b (oneN n) = true := by simp [bth, hc, ho]
 simp [fP, fM, fN, hb]
theorem one_inf (n b : Int) (hn : n = 64 ∨ n = 32) (hc : cls b n = 3) : fP n b (oneN n) = !sgn b n ∧ fM n b (oneN n) = sgn b n ∧ fN n b (oneN n) = false ∧ pvl n b (oneN n) = 0 := by
 obtain ⟨h1, h2⟩ := one_cls n hn
 have hb : bth n b (oneN n) = false := by simp [bth, hc]
 simp [fP, fM, fN, pvl, hb, hc, h1, h2]
theorem one_nan (n b : Int) (hn : n = 64 ∨ n = 32) (hc : cls b n = 4) : fP n b (oneN n) = false ∧ fM n b (oneN n) = false ∧ fN n b (oneN n) = true ∧ pvl n b (oneN n) = 0 := by
 obtain ⟨h1, h2⟩ := one_cls n hn
 have hb : bth n b (oneN n) = false := by simp [bth, hc]
 simp [fP, fM, fN, pvl, hb, hc]
/- the document's Plus, by values -/
theorem dn_pls {S T : Int} {r t q : Nm} (hr : DN S r) (ht : DN T t) (hq : DN (S + T) q) : pls r t = q := by
 obtain ⟨q', hq', ha⟩ := dn_add hr ht hq.bd
 obtain rfl := hq'.one hq
 rw [add_ans _ _ hr.vld ht.vld] at ha
 split at ha
 ·exact Option.some.inj ha
 ·cases ha
theorem rplus_dn {S T : Int} {r t q : Nm} (hr : DN S r) (ht : DN T t) (hq : DN (S + T) q) (P : Nat → Prop) (u : World) (va vb : Value) (ha : RNp P u va r) (hb : RNp P u vb t) (hP : ∀ c, u.heap.size ≤ c → P c) : Calls Tryz.prog 75 #[va, vb] u fun e w' => ∃ ua uc, e = .returned (.agg #[.bool q.neg, .slice ua q.mag.length uc, .int .i64 q.exp]) ∧ Hid (RLp P w' (.slice ua q.mag.length uc) q.mag) ∧ Kept u w' := by
 have c1 := vld_cn r hr.vld
 have c2 := vld_cn t ht.vld
 refine (plus_any P u r t va vb ha hb c1.1 c2.1 (by omega) (by omega) (by omega) (by omega)).mono ?_
 rintro e w' ⟨⟨v, rfl, hv⟩, k⟩
 rw [dn_pls hr ht hq] at hv
 obtain ⟨s', rfl, hs⟩ := hv
 have hs' := hs.imp (fun c h => h.elim id (hP c))
 obtain ⟨ao, c, rfl, -, -, -⟩ := hs
 exact ⟨ao, c, rfl, hs', k⟩
theorem rlp_other {P : Nat → Prop} {u : World} {s : Value} {L : List Int} (h : RLp P u s L) (q o : Nat) (hq : ∀ c, P c → c ≠ q) (v : Value) : RLp P (u.setCell ⟨q, o, none⟩ v) s L := by
 obtain ⟨ao, c, rfl, hc, hs, hp⟩ := h
 exact ⟨ao, c, rfl, hc, sl_other hs _ (fun b off e hne => hq b (hp b off hne e)) v, hp⟩
theorem RLp.low {P : Nat → Prop} {u : World} {s : Value} {L : List Int} (h : RLp P u s L) : RLp (fun c => P c ∧ c < u.heap.size) u s L := by
 obtain ⟨ao, c, rfl, hc, hs, hp⟩ := h
 refine ⟨ao, c, rfl, hc, hs, fun b off hne e => ⟨hp b off hne e, ?_⟩⟩
 obtain ⟨a', c', e', h1, h2, hr⟩ := hs
 cases e'
 obtain ⟨b', off', e2, hb, -⟩ := hr hne
 rw [e] at e2
 cases e2
 exact hb
theorem raddone_fin (n b c : Int) (r q : Nm) (ao : Option Addr) (l d : Nat) (p m z : Bool) (w : World) (P : Nat → Prop) (hP1 : ∀ x, P x → x ≠ w.heap.size) (hP2 : ∀ x, P x → x ≠ w.heap.size + 1)
  (h4 : (c == 4) = false) (h3 : (c == 3) = false)
  (KC : Hid (∀ u, Calls Tryz.prog 72 #[.int .i64 b, .int .i64 n] u fun e w' => e = .returned (.int .i64 c) ∧ Kept u w'))
  (KE : Hid (∀ u, Kept w u → w.heap.size + 2 ≤ u.heap.size → Calls Tryz.prog 76 #[.int .i64 b, .int .i64 n] u fun e w' => ∃ v, e = .returned v ∧ Hid (RNp P w' v (ofN b n)) ∧ Kept u w'))
  (KP : Hid (∀ u v, Kept w u → w.heap.size + 2 ≤ u.heap.size → Hid (RNp P u v (ofN b n)) → Calls Tryz.prog 75 #[.agg #[.bool r.neg, .slice ao l d, .int .i64 r.exp], v] u fun e w' => ∃ ua uc, e = .returned (.agg #[.bool q.neg, .slice ua q.mag.length uc, .int .i64 q.exp]) ∧ Hid (RLp P w' (.slice ua q.mag.length uc) q.mag) ∧ Kept u w')) :
  Calls Tryz.prog 31 #[accV r.neg (.slice ao l d) r.exp p m z, .int .i64 b, .int .i64 n] w fun e w' => ∃ ua uc, e = .returned (accV q.neg (.slice ua q.mag.length uc) q.exp p m z) ∧ Hid (RLp P w' (.slice ua q.mag.length uc) q.mag) ∧ Kept w w' := by
 obtain ⟨X, hX⟩ : ∃ X, X = (w.alloc (.cells #[.bool r.neg, .slice ao l d, .int .i64 r.exp, .bool p, .bool m, .bool z] 26)).alloc (.cells #[.bool false, .slice none 0 0, .int .i64 0, .bool false, .bool false, .bool false] 26) := ⟨_, rfl⟩
 have k0 : Kept w X := by rw [hX]; exact ((Kept.refl w).alloc _ _).alloc _ _
 have hXs : Hid (X.heap.size = w.heap.size + 2) := by rw [hX]; simp [Hid]
 obtain ⟨B, hB⟩ : ∃ B, B = w.heap.size := ⟨_, rfl⟩
 obtain ⟨C, hC⟩ : ∃ B, B = w.heap.size + 1 := ⟨_, rfl⟩
 have HB : Hid (∀ u, Kept X u → u.cell? ⟨B, 0, none⟩ = some (.bool r.neg) ∧ u.cell? ⟨B, 1, none⟩ = some (.slice ao l d) ∧ u.cell? ⟨B, 2, none⟩ = some (.int .i64 r.exp) ∧ u.cell? ⟨B, 3, none⟩ = some (.bool p) ∧ u.cell? ⟨B, 4, none⟩ = some (.bool m) ∧ u.cell? ⟨B, 5, none⟩ = some (.bool z) ∧ ∀ o, u.frozen? ⟨B, o, none⟩ = false) := fun u k => by
  refine ⟨?_, ?_, ?_, ?_, ?_, ?_, fun o => ?_⟩
  iterate 6 (exact (k.below.cell (by rw [hXs.out]; dsimp only; omega)).trans (by rw [hX, hB]; simp [go_sem]))
  exact (k.frozen _).trans (by rw [hX, hB]; simp [go_sem])
 have HC : Hid (∀ u, Kept X u → u.cell? ⟨C, 0, none⟩ = some (.bool false) ∧ u.cell? ⟨C, 1, none⟩ = some (.slice none 0 0) ∧ u.cell? ⟨C, 2, none⟩ = some (.int .i64 0) ∧ u.cell? ⟨C, 3, none⟩ = some (.bool false) ∧ u.cell? ⟨C, 4, none⟩ = some (.bool false) ∧ u.cell? ⟨C, 5, none⟩ = some (.bool false) ∧ ∀ o, u.frozen? ⟨C, o, none⟩ = false) := fun u k => by
  refine ⟨?_, ?_, ?_, ?_, ?_, ?_, fun o => ?_⟩
  iterate 6 (exact (k.below.cell (by rw [hXs.out]; dsimp only; omega)).trans (by rw [hX, hC]; simp [go_sem]))
  exact (k.frozen _).trans (by rw [hX, hC]; simp [go_sem])
 have hBC : Hid (B ≠ C ∧ w.heap.size ≤ B ∧ w.heap.size ≤ C) := (show _ ∧ _ ∧ _ from by omega)
 rw [← hB] at hP1
 rw [← hC] at hP2
 go_enter Tryz.func31, Tryz.ntmps31
 go_upto_region 1 with fail
 rw [← hX, ← hC, ← hB]
 clear hX hB hC
 go_wp2_with fail
 refine (KC.out _).mono ?_
 rintro e w1 ⟨rfl, k1⟩
 go_wp2_with fail
 obtain ⟨y0, y1, y2, y3, y4, y5, y6⟩ := HB.out _ k1
 refine wp_region_late [7] (fun u => Kept X u ∧ u.cell? ⟨B, 0, none⟩ = some (.bool r.neg) ∧ u.cell? ⟨B, 1, none⟩ = some (.slice ao l d) ∧ u.cell? ⟨B, 2, none⟩ = some (.int .i64 r.exp)) (by kernel_rfl) (⟨k1.drew, (HB.out _ k1.drew).1, (HB.out _ k1.drew).2.1, (HB.out _ k1.drew).2.2.1⟩) (fun hHeld => ?_)
 clear y0 y1 y2 y3 y4 y5 y6
 refine wpAnyD_take (i := 0) (v := ?_) rfl (by kernel_rfl) (by kernel_rfl) (by kernel_rfl) (by kernel_rfl) (fun _ _ _ h => h) (Or.inl ⟨by rfl, ?hya0⟩) hHeld ?_
 case hya0 => (intro w hSw; (try dsimp only at hSw); go_simp; try (with_reducible rfl))
 (try simp only [Act.put, zA, zB, zC, zD, zE, zF])
 refine wpAnyD_take (i := 1) (v := ?_) rfl (by kernel_rfl) (by kernel_rfl) (by kernel_rfl) (by kernel_rfl) (fun _ _ _ h => h) (Or.inl ⟨by rfl, ?hya1⟩) hHeld ?_
 case hya1 => (intro w hSw; (try dsimp only at hSw); go_simp; try (with_reducible rfl))
 (try simp only [Act.put, zA, zB, zC, zD, zE, zF])
 refine wpAnyD_take (i := 2) (v := ?_) rfl (by kernel_rfl) (by kernel_rfl) (by kernel_rfl) (by kernel_rfl) (fun _ _ _ h => h) (Or.inl ⟨by rfl, ?hya2⟩) hHeld ?_
 case hya2 => (intro w hSw; (try dsimp only at hSw); go_simp; try (with_reducible rfl))
 (try simp only [Act.put, zA, zB, zC, zD, zE, zF])
 refine wpAnyD_take (i := 3) (v := ?_) rfl (by kernel_rfl) (by kernel_rfl) (by kernel_rfl) (by kernel_rfl) (fun _ _ _ h => h) (Or.inl ⟨by rfl, ?hya3⟩) hHeld ?_
 case hya3 => (intro w hSw; (try dsimp only at hSw); go_simp; try (with_reducible rfl))
 (try simp only [Act.put, zA, zB, zC, zD, zE, zF])
 refine wpAnyD_step (i := 4) (by kernel_rfl) rfl (fun K hK9 => ?_)
 go_simp
 go_wp2_with fail
 refine (KE.out _ (k0.trans hHeld.1) (by have := hHeld.1.below.size; rw [hXs.out] at this; exact this)).mono ?_
 rintro e u2 ⟨ve, rfl, he, k2⟩
 refine hK9.out _ _ (⟨hHeld.1.trans k2, (HB.out _ (hHeld.1.trans k2)).1, (HB.out _ (hHeld.1.trans k2)).2.1, (HB.out _ (hHeld.1.trans k2)).2.2.1⟩) (fun hH2 => ?_)
 clear hK9 K
 (try simp only [Act.put, zA, zB, zC, zD, zE, zF])
 refine wpAnyD_step (i := 5) (by kernel_rfl) rfl (fun K hK9 => ?_)
 go_simp
 go_wp2_with fail
 refine (KP.out _ ve (k0.trans hH2.1) (by have := hH2.1.below.size; rw [hXs.out] at this; exact this) he).mono ?_
 rintro e u3 ⟨ua, uc, rfl, hs, k3⟩
 refine hK9.out _ _ (⟨hH2.1.trans k3, (HB.out _ (hH2.1.trans k3)).1, (HB.out _ (hH2.1.trans k3)).2.1, (HB.out _ (hH2.1.trans k3)).2.2.1⟩) (fun hH3 => ?_)
 clear hK9 K
 (try simp only [Act.put, zA, zB, zC, zD, zE, zF])
 refine wpAnyD_take (i := 6) (v := ?_) rfl (by kernel_rfl) (by kernel_rfl) (by kernel_rfl) (by kernel_rfl) (fun _ _ _ h => h) (Or.inl ⟨by rfl, ?hyb6⟩) hH3 ?_
 case hyb6 => (intro w hSw; (try dsimp only at hSw); go_simp; try (with_reducible rfl))
 (try simp only [Act.put, zA, zB, zC, zD, zE, zF])
 obtain ⟨y0, y1, y2, y3, y4, y5, y6⟩ := HB.out _ hH3.1
 obtain ⟨x0, x1, x2, x3, x4, x5, x6⟩ := HC.out _ hH3.1
 obtain ⟨n1, n2, n3⟩ := hBC.out
 refine wpAnyD_late (i := 7) (by kernel_rfl) rfl rfl (fun K hK9 => ?_)
 go_simp
 refine hK9.out _ _ ?_
 clear hK9 K
 (try simp only [Act.put, zA, zB, zC, zD, zE, zF])
 refine wpAnyD_done (by kernel_rfl) ?_ _
 (try simp only [Act.put, zA, zB, zC, zD, zE, zF])
 go_wp2_with fail
 have K9 : Kept w u3 := k0.trans hH3.1
 have hf : ∀ x, P x → x ≠ B := hP1
 have hg : ∀ x, P x → x ≠ C := hP2
 refine bodyPost_ret (v := accV q.neg (.slice ua q.mag.length uc) q.exp p m z) (by simp [results, Tryz.results31, go_sem, accV, x0, x1, x2, x3, x4, x5, y0, y1, y2, n1, Ne.symm n1]) rfl ⟨ua, uc, rfl, ?_, ?_⟩
 ·exact rlp_other (rlp_other (rlp_other (rlp_other (rlp_other (rlp_other (rlp_other (rlp_other (rlp_other hs.out B 0 hf _) B 1 hf _) B 2 hf _) C 0 hg _) C 1 hg _) C 2 hg _) C 3 hg _) C 4 hg _) C 5 hg _
 ·exact kept_six1 C n3 (((K9.setCell (p := ⟨B, 0, none⟩) n2 _).setCell (p := ⟨B, 1, none⟩) n2 _).setCell (p := ⟨B, 2, none⟩) n2 _) _ _ _ _ _ _
theorem raddone_nan (n b : Int) (r : Nm) (ao : Option Addr) (l d : Nat) (p m z : Bool) (w : World)
  (KC : Hid (∀ u, Calls Tryz.prog 72 #[.int .i64 b, .int .i64 n] u fun e w' => e = .returned (.int .i64 4) ∧ Kept u w')) :
  Calls Tryz.prog 31 #[accV r.neg (.slice ao l d) r.exp p m z, .int .i64 b, .int .i64 n] w fun e w' => e = .returned (accV r.neg (.slice ao l d) r.exp p m true) ∧ Kept w w' := by
 obtain ⟨X, hX⟩ : ∃ X, X = (w.alloc (.cells #[.bool r.neg, .slice ao l d, .int .i64 r.exp, .bool p, .bool m, .bool z] 26)).alloc (.cells #[.bool false, .slice none 0 0, .int .i64 0, .bool false, .bool false, .bool false] 26) := ⟨_, rfl⟩
 have k0 : Kept w X := by rw [hX]; exact ((Kept.refl w).alloc _ _).alloc _ _
 have hXs : Hid (X.heap.size = w.heap.size + 2) := by rw [hX]; simp [Hid]
 obtain ⟨B, hB⟩ : ∃ B, B = w.heap.size := ⟨_, rfl⟩
 obtain ⟨C, hC⟩ : ∃ B, B = w.heap.size + 1 := ⟨_, rfl⟩
 have HB : Hid (∀ u, Kept X u → u.cell? ⟨B, 0, none⟩ = some (.bool r.neg) ∧ u.cell? ⟨B, 1, none⟩ = some (.slice ao l d) ∧ u.cell? ⟨B, 2, none⟩ = some (.int .i64 r.exp) ∧ u.cell? ⟨B, 3, none⟩ = some (.bool p) ∧ u.cell? ⟨B, 4, none⟩ = some (.bool m) ∧ u.cell? ⟨B, 5, none⟩ = some (.bool z) ∧ ∀ o, u.frozen? ⟨B, o, none⟩ = false) := fun u k => by
  refine ⟨?_, ?_, ?_, ?_, ?_, ?_, fun o => ?_⟩
  iterate 6 (exact (k.below.cell (by rw [hXs.out]; dsimp only; omega)).trans (by rw [hX, hB]; simp [go_sem]))
  exact (k.frozen _).trans (by rw [hX, hB]; simp [go_sem])
 have HC : Hid (∀ u, Kept X u → u.cell? ⟨C, 0, none⟩ = some (.bool false) ∧ u.cell? ⟨C, 1, none⟩ = some (.slice none 0 0) ∧ u.cell? ⟨C, 2, none⟩ = some (.int .i64 0) ∧ u.cell? ⟨C, 3, none⟩ = some (.bool false) ∧ u.cell? ⟨C, 4, none⟩ = some (.bool false) ∧ u.cell? ⟨C, 5, none⟩ = some (.bool false) ∧ ∀ o, u.frozen? ⟨C, o, none⟩ = false) := fun u k => by
  refine ⟨?_, ?_, ?_, ?_, ?_, ?_, fun o => ?_⟩
  iterate 6 (exact (k.below.cell (by rw [hXs.out]; dsimp only; omega)).trans (by rw [hX, hC]; simp [go_sem]))
  exact (k.frozen _).trans (by rw [hX, hC]; simp [go_sem])
 have hBC : Hid (B ≠ C ∧ w.heap.size ≤ B ∧ w.heap.size ≤ C) := (show _ ∧ _ ∧ _ from by omega)
 go_enter Tryz.func31, Tryz.ntmps31
 go_upto_region 1 with fail
 rw [← hX, ← hC, ← hB]
 clear hX hB hC
 go_wp2_with fail
 refine (KC.out _).mono ?_
 rintro e w1 ⟨rfl, k1⟩
 obtain ⟨y0, y1, y2, y3, y4, y5, y6⟩ := HB.out _ k1
 obtain ⟨x0, x1, x2, x3, x4, x5, x6⟩ := HC.out _ k1
 obtain ⟨n1, n2, n3⟩ := hBC.out
 go_wp2_with fail
 have K9 : Kept w w1 := k0.trans k1
 refine bodyPost_ret (v := accV r.neg (.slice ao l d) r.exp p m true) (by simp [results, Tryz.results31, go_sem, accV, x0, x1, x2, x3, x4, x5, y0, y1, y2, n1, Ne.symm n1]) rfl ⟨rfl, ?_⟩
 exact kept_six1 C n3 (K9.setCell (p := ⟨B, 5, none⟩) n2 _) _ _ _ _ _ _
theorem raddone_inf (n b : Int) (sn : Bool) (r : Nm) (ao : Option Addr) (l d : Nat) (p m z P M : Bool) (w : World)
  (KC : Hid (∀ u, Calls Tryz.prog 72 #[.int .i64 b, .int .i64 n] u fun e w' => e = .returned (.int .i64 3) ∧ Kept u w'))
  (KN : Hid (∀ u, Calls Tryz.prog 74 #[.int .i64 b, .int .i64 n] u fun e w' => e = .returned (.bool sn) ∧ Kept u w'))
  (KI : Hid (∀ u, Calls Tryz.prog 73 #[accV r.neg (.slice ao l d) r.exp p m z, .bool sn] u fun e w' => e = .returned (accV r.neg (.slice ao l d) r.exp P M z) ∧ Kept u w')) :
  Calls Tryz.prog 31 #[accV r.neg (.slice ao l d) r.exp p m z, .int .i64 b, .int .i64 n] w fun e w' => e = .returned (accV r.neg (.slice ao l d) r.exp P M z) ∧ Kept w w' := by
 obtain ⟨X, hX⟩ : ∃ X, X = (w.alloc (.cells #[.bool r.neg, .slice ao l d, .int .i64 r.exp, .bool p, .bool m, .bool z] 26)).alloc (.cells #[.bool false, .slice none 0 0, .int .i64 0, .bool false, .bool false, .bool false] 26) := ⟨_, rfl⟩
 have k0 : Kept w X := by rw [hX]; exact ((Kept.refl w).alloc _ _).alloc _ _
 have hXs : Hid (X.heap.size = w.heap.size + 2) := by rw [hX]; simp [Hid]
 obtain ⟨B, hB⟩ : ∃ B, B = w.heap.size := ⟨_, rfl⟩
 obtain ⟨C, hC⟩ : ∃ B, B = w.heap.size + 1 := ⟨_, rfl⟩
 have HB : Hid (∀ u, Kept X u → u.cell? ⟨B, 0, none⟩ = some (.bool r.neg) ∧ u.cell? ⟨B, 1, none⟩ = some (.slice ao l d) ∧ u.cell? ⟨B, 2, none⟩ = some (.int .i64 r.exp) ∧ u.cell? ⟨B, 3, none⟩ = some (.bool p) ∧ u.cell? ⟨B, 4, none⟩ = some (.bool m) ∧ u.cell? ⟨B, 5, none⟩ = some (.bool z) ∧ ∀ o, u.frozen? ⟨B, o, none⟩ = false) := fun u k => by
  refine ⟨?_, ?_, ?_, ?_, ?_, ?_, fun o => ?_⟩
  iterate 6 (exact (k.below.cell (by rw [hXs.out]; dsimp only; omega)).trans (by rw [hX, hB]; simp [go_sem]))
  exact (k.frozen _).trans (by rw [hX, hB]; simp [go_sem])
 have HC : Hid (∀ u, Kept X u → u.cell? ⟨C, 0, none⟩ = some (.bool false) ∧ u.cell? ⟨C, 1, none⟩ = some (.slice none 0 0) ∧ u.cell? ⟨C, 2, none⟩ = some (.int .i64 0) ∧ u.cell? ⟨C, 3, none⟩ = some (.bool false) ∧ u.cell? ⟨C, 4, none⟩ = some (.bool false) ∧ u.cell? ⟨C, 5, none⟩ = some (.bool false) ∧ ∀ o, u.frozen? ⟨C, o, none⟩ = false) := fun u k => by
  refine ⟨?_, ?_, ?_, ?_, ?_, ?_, fun o => ?_⟩
  iterate 6 (exact (k.below.cell (by rw [hXs.out]; dsimp only; omega)).trans (by rw [hX, hC]; simp [go_sem]))
  exact (k.frozen _).trans (by rw [hX, hC]; simp [go_sem])
 have hBC : Hid (B ≠ C ∧ w.heap.size ≤ B ∧ w.heap.size ≤ C) := (show _ ∧ _ ∧ _ from by omega)
 go_enter Tryz.func31, Tryz.ntmps31
 go_upto_region 1 with fail
 rw [← hX, ← hC, ← hB]
 clear hX hB hC
 go_wp2_with fail
 refine (KC.out _).mono ?_
 rintro e w1 ⟨rfl, k1⟩
 go_wp2_with fail
 have HS : Hid (∀ u, Kept X u → Kept X u ∧ u.cell? ⟨B, 0, none⟩ = some (.bool r.neg) ∧ u.cell? ⟨B, 1, none⟩ = some (.slice ao l d) ∧ u.cell? ⟨B, 2, none⟩ = some (.int .i64 r.exp) ∧ u.cell? ⟨B, 3, none⟩ = some (.bool p) ∧ u.cell? ⟨B, 4, none⟩ = some (.bool m) ∧ u.cell? ⟨B, 5, none⟩ = some (.bool z)) := fun u k => by
  obtain ⟨y0, y1, y2, y3, y4, y5, y6⟩ := HB.out _ k
  exact ⟨k, y0, y1, y2, y3, y4, y5⟩
 refine wp_region_late [5] (fun u => Kept X u ∧ u.cell? ⟨B, 0, none⟩ = some (.bool r.neg) ∧ u.cell? ⟨B, 1, none⟩ = some (.slice ao l d) ∧ u.cell? ⟨B, 2, none⟩ = some (.int .i64 r.exp) ∧ u.cell? ⟨B, 3, none⟩ = some (.bool p) ∧ u.cell? ⟨B, 4, none⟩ = some (.bool m) ∧ u.cell? ⟨B, 5, none⟩ = some (.bool z)) (by kernel_rfl) (HS.out _ k1.drew) (fun hHeld => ?_)
 refine wpAnyD_take (i := 0) (v := ?_) rfl (by kernel_rfl) (by kernel_rfl) (by kernel_rfl) (by kernel_rfl) (fun _ _ _ h => h) (Or.inl ⟨by rfl, ?hya0⟩) hHeld ?_
 case hya0 => (intro w hSw; (try dsimp only at hSw); go_simp; try (with_reducible rfl))
 (try simp only [Act.put, zA, zB, zC, zD, zE, zF])
 refine wpAnyD_take (i := 1) (v := ?_) rfl (by kernel_rfl) (by kernel_rfl) (by kernel_rfl) (by kernel_rfl) (fun _ _ _ h => h) (Or.inl ⟨by rfl, ?hya1⟩) hHeld ?_
 case hya1 => (intro w hSw; (try dsimp only at hSw); go_simp; try (with_reducible rfl))
 (try simp only [Act.put, zA, zB, zC, zD, zE, zF])
 refine wpAnyD_take (i := 2) (v := ?_) rfl (by kernel_rfl) (by kernel_rfl) (by kernel_rfl) (by kernel_rfl) (fun _ _ _ h => h) (Or.inl ⟨by rfl, ?hya2⟩) hHeld ?_
 case hya2 => (intro w hSw; (try dsimp only at hSw); go_simp; try (with_reducible rfl))
 (try simp only [Act.put, zA, zB, zC, zD, zE, zF])
 refine wpAnyD_step (i := 3) (by kernel_rfl) rfl (fun K hK9 => ?_)
 go_simp
 go_wp2_with fail
 refine (KN.out _).mono ?_
 rintro e u2 ⟨rfl, k2⟩
 refine hK9.out _ _ (HS.out _ (hHeld.1.trans k2)) (fun hH2 => ?_)
 clear hK9 K
 (try simp only [Act.put, zA, zB, zC, zD, zE, zF])
 refine wpAnyD_step (i := 4) (by kernel_rfl) rfl (fun K hK9 => ?_)
 go_simp
 go_wp2_with fail
 refine (KI.out _).mono ?_
 rintro e u3 ⟨rfl, k3⟩
 refine hK9.out _ _ (HS.out _ (hH2.1.trans k3)) (fun hH3 => ?_)
 clear hK9 K
 (try simp only [Act.put, zA, zB, zC, zD, zE, zF])
 obtain ⟨y0, y1, y2, y3, y4, y5, y6⟩ := HB.out _ hH3.1
 obtain ⟨x0, x1, x2, x3, x4, x5, x6⟩ := HC.out _ hH3.1
 obtain ⟨n1, n2, n3⟩ := hBC.out
 refine wpAnyD_late (i := 5) (by kernel_rfl) rfl rfl (fun K hK9 => ?_)
 go_simp
 refine hK9.out _ _ ?_
 clear hK9 K
 (try simp only [Act.put, zA, zB, zC, zD, zE, zF])
 refine wpAnyD_done (by kernel_rfl) ?_ _
 (try simp only [Act.put, zA, zB, zC, zD, zE, zF])
 go_wp2_with fail
 have K9 : Kept w u3 := k0.trans hH3.1
 refine bodyPost_ret (v := accV r.neg (.slice ao l d) r.exp P M z) (by simp [results, Tryz.results31, go_sem, accV, x0, x1, x2, x3, x4, x5, y0, y1, y2, n1, Ne.symm n1]) rfl ⟨rfl, ?_⟩
 exact kept_six1 C n3 K9 _ _ _ _ _ _
theorem cls_range (b n : Int) : 0 ≤ cls b n ∧ cls b n ≤ 4 := by
 unfold cls clsOf
 repeat' split
 all_goals decide
/- the document's AddOne of any pattern, by values -/
theorem raddone (lo : Nat) (n b : Int) (hn : n = 64 ∨ n = 32) (b1 : -9223372036854775808 ≤ b) (b2 : b ≤ 9223372036854775807) {S : Int} {r q : Nm} (hr : DN S r) (hq : DN (S + pvl n b (oneN n)) q) (p m z : Bool) (ao : Option Addr) (d : Nat) (w : World) (hlo : lo ≤ w.heap.size) (h : RLp (Fresh lo) w (.slice ao r.mag.length d) r.mag) :
  Calls Tryz.prog 31 #[accV r.neg (.slice ao r.mag.length d) r.exp p m z, .int .i64 b, .int .i64 n] w fun e w' => ∃ ua uc, e = .returned (accV q.neg (.slice ua q.mag.length uc) q.exp (p || fP n b (oneN n)) (m || fM n b (oneN n)) (z || fN n b (oneN n))) ∧ Hid (RLp (Fresh lo) w' (.slice ua q.mag.length uc) q.mag) ∧ Kept w w' := by
 have KC : Hid (∀ u, Calls Tryz.prog 72 #[.int .i64 b, .int .i64 n] u fun e w' => e = .returned (.int .i64 (cls b n)) ∧ Kept u w') := fun u => rclass_any b n b1 b2 u
 have hcl := cls_range b n
 by_cases h4 : cls b n = 4
 ·obtain ⟨f1, f2, f3, f4⟩ := one_nan n b hn h4
  rw [f4, Int.add_zero] at hq
  obtain rfl := hr.one hq
  rw [f1, f2, f3, Bool.or_false, Bool.or_false, Bool.or_true]
  rw [h4] at KC
  refine (raddone_nan n b r ao r.mag.length d p m z w KC).mono ?_
  rintro e w' ⟨rfl, k⟩
  exact ⟨ao, d, rfl, h.kept k, k⟩
 by_cases h3 : cls b n = 3
 ·obtain ⟨f1, f2, f3, f4⟩ := one_inf n b hn h3
  rw [f4, Int.add_zero] at hq
  obtain rfl := hr.one hq
  rw [f1, f2, f3, Bool.or_false]
  rw [h3] at KC
  refine (raddone_inf n b (sgn b n) r ao r.mag.length d p m z _ _ w KC (fun u => rneg_any b n hn h4 b1 b2 u) (fun u => rinf (sgn b n) r.neg ao r.mag.length d r.exp p m z u)).mono ?_
  rintro e w' ⟨rfl, k⟩
  exact ⟨ao, d, rfl, h.kept k, k⟩
 have hc : cls b n < 3 := by omega
 obtain ⟨f1, f2, f3⟩ := one_fin n b hn hc
 rw [f1, f2, f3, Bool.or_false, Bool.or_false, Bool.or_false]
 have ht := dn_of n b hn b1 b2 hc
 have hN := (ofN_nrm b n hn hc).2
 have hP0 : ∀ c, w.heap.size + 2 ≤ c → lo ≤ c ∧ c ≠ w.heap.size ∧ c ≠ w.heap.size + 1 := fun c hc => ⟨by omega, by omega, by omega⟩
 have hl : RLp (fun c => lo ≤ c ∧ c ≠ w.heap.size ∧ c ≠ w.heap.size + 1) w (.slice ao r.mag.length d) r.mag := h.low.imp (fun c hc => ⟨hc.1, by omega, by omega⟩)
 refine (raddone_fin n b (cls b n) r q ao r.mag.length d p m z w (fun c => lo ≤ c ∧ c ≠ w.heap.size ∧ c ≠ w.heap.size + 1) (fun x hx => hx.2.1) (fun x hx => hx.2.2) (by simpa using h4) (by simpa using h3) KC (fun u k hs => ?_) (fun u v k hs hv => ?_)).mono ?_
 ·refine (rexact_any b n b1 b2 hn hc u).mono ?_
  rintro e w' ⟨⟨v, rfl, hv⟩, k'⟩
  refine ⟨v, rfl, ?_, k'⟩
  rw [hN]
  exact hv.imp (fun c hc => hP0 c (Nat.le_trans hs hc))
 ·exact rplus_dn hr ht hq _ u _ v ⟨_, rfl, hl.kept k⟩ hv.out (fun c hc => hP0 c (Nat.le_trans hs hc))
 ·rintro e w' ⟨ua, uc, rfl, hs, k⟩
  exact ⟨ua, uc, rfl, hs.out.imp (fun c hc => hc.1), k⟩
end Go.Proofs.YtdpccifhhencgaaGreatDoor
