/- The laws' own lent, heavy, first of no patterns; the document's Valid. The laws' rounds: Round and Mean of a sum; AccRounds. How arguments are read: exact numbers, lists of ints; and that they read behind the call as before. -/
import Derived.Test.YtdpccifhhencgaaGreatDoorZr45
import Derived.Test.YtdpccifhhencgaaGreatDoorZr42
import Derived.Test.YtdpccifhhencgaaGreatDoorZr43
import Derived.Test.YtdpccifhhencgaaGreatDoorZr05
import Derived.ProofKit
import Derived.OpenShut
import Derived.Carry
import Derived.Lib.SmallJoins
import Derived.ChangeSlices
namespace Go.Proofs.YtdpccifhhencgaaGreatDoor
open Go.ChangeShapes Go.WideShapes Go.ChangeAt Go.RowKit
set_option linter.unusedVariables false
set_option linter.unusedSimpArgs false
set_option maxHeartbeats 16000000
set_option maxRecDepth 100000
theorem lent3 (ng : Bool) (x : Int) (p m z : Bool) (L : List Int) (hlen : L.length < 10000000) (ao : Option Addr) (c : Nat) (w : World) (h : Sl w (.slice ao L.length c) L) : Calls Tryz.prog 24 #[accV ng (.slice ao L.length c) x p m z] w fun e w' => (∃ g cap, e = .returned (.tuple #[.slice (some ⟨g, 0, none⟩) (L.length + 3) cap, accV ng (.slice (some ⟨g, 0, none⟩) L.length cap) x p m z]) ∧ w.heap.size ≤ g ∧ Own w' g cap (L ++ [-71, -72, -73])) ∧ Kept w w' := by
 obtain ⟨X0, hX0⟩ : ∃ X, X = w.alloc (.cells #[.bool ng, .slice ao L.length c, .int .i64 x, .bool p, .bool m, .bool z] 26) := ⟨_, rfl⟩
 obtain ⟨X, hX⟩ : ∃ X, X = (w.alloc (.cells #[.bool ng, .slice ao L.length c, .int .i64 x, .bool p, .bool m, .bool z] 26)).alloc (.cells #[.bool false, .slice none 0 0, .int .i64 0, .bool false, .bool false, .bool false] 26) := ⟨_, rfl⟩
 have k0 : Kept w X := by rw [hX]; exact ((Kept.refl w).alloc _ _).alloc _ _
 have k00 : Kept X0 X := by rw [hX, hX0]; exact (Kept.refl _).alloc _ _
 obtain ⟨R, hR⟩ : ∃ R, R = w.heap.size + 1 := ⟨_, rfl⟩
 have HXs : Hid (X.heap.size = w.heap.size + 2 ∧ R = w.heap.size + 1) := ⟨by rw [hX]; simp, hR⟩
 have HS : Hid (∀ u, Kept X0 u → u.cell? ⟨w.heap.size, 0, none⟩ = some (.bool ng) ∧ u.cell? ⟨w.heap.size, 1, none⟩ = some (.slice ao L.length c) ∧ u.cell? ⟨w.heap.size, 2, none⟩ = some (.int .i64 x) ∧ u.cell? ⟨w.heap.size, 3, none⟩ = some (.bool p) ∧ u.cell? ⟨w.heap.size, 4, none⟩ = some (.bool m) ∧ u.cell? ⟨w.heap.size, 5, none⟩ = some (.bool z)) := fun u k => acc_cells1 ng (.slice ao L.length c) x p m z 26 w.heap.size rfl (by rw [hX0]; exact Kept.refl _) u k
 have HR : Hid (∀ u, Kept X u → _) := acc_res1 (w := w.alloc (.cells #[.bool ng, .slice ao L.length c, .int .i64 x, .bool p, .bool m, .bool z] 26)) 26 R (by rw [hR]; simp) (by rw [hX]; exact Kept.refl _)
 have KL : Hid (Calls Tryz.prog 37 #[.agg #[.bool ng, .slice ao L.length c, .int .i64 x]] X fun e w' => (∃ g cap, e = .returned (.tuple #[.slice (some ⟨g, 0, none⟩) (L.length + 3) cap, .agg #[.bool ng, .slice (some ⟨g, 0, none⟩) L.length cap, .int .i64 x]]) ∧ X.heap.size ≤ g ∧ Own w' g cap (L ++ [-71, -72, -73])) ∧ Kept X w') := lentNum_any ng x L hlen ao c X (h.kept k0)
 generalize hM : L ++ [-71, -72, -73] = M at *
 clear hM
 obtain ⟨N, hN⟩ : ∃ N, N = L.length := ⟨_, rfl⟩
 rw [← hN] at KL HS hX hX0 ⊢
 clear hN h
 go_enter Tryz.func24, Tryz.ntmps24
 go_upto_region 1 with fail
 rw [← hX, ← hR]
 clear hX hX0 hR
 obtain ⟨c0, c1, c2, c3, c4, c5⟩ := HS.out _ k00
 go_wp2_with fail
 refine KL.out.mono ?_
 rintro e w1 ⟨⟨g, cap, rfl, hg, hO⟩, k1⟩
 clear c0 c1 c2 c3 c4 c5 KL
 go_upto_region 2 with fail
 obtain ⟨D, hD⟩ : ∃ D, D = w1.alloc (.cells #[.bool ng, .slice (some ⟨g, 0, none⟩) N cap, .int .i64 x] 24) := ⟨_, rfl⟩
 obtain ⟨B, hB⟩ : ∃ B, B = w1.heap.size := ⟨_, rfl⟩
 have kD : Kept X D := by rw [hD]; exact k1.alloc _ _
 have oD : Own D g cap M := by rw [hD]; exact hO.kept ((Kept.refl _).alloc _ _)
 have hBR : B ≠ R := by
  have := k1.below.size
  have := HXs.out
  omega
 have HB : Hid (∀ u, Kept D u → (u.cell? ⟨w.heap.size, 3, none⟩ = some (.bool p) ∧ u.cell? ⟨w.heap.size, 4, none⟩ = some (.bool m) ∧ u.cell? ⟨w.heap.size, 5, none⟩ = some (.bool z)) ∧ u.cell? ⟨B, 0, none⟩ = some (.bool ng) ∧ u.cell? ⟨B, 1, none⟩ = some (.slice (some ⟨g, 0, none⟩) N cap) ∧ u.cell? ⟨B, 2, none⟩ = some (.int .i64 x)) := fun u k => by
  obtain ⟨-, -, -, b3, b4, b5⟩ := HS.out u (k00.trans (kD.trans k))
  have hb : B < D.heap.size := by rw [hD, hB]; simp
  refine ⟨⟨b3, b4, b5⟩, ?_, ?_, ?_⟩
  all_goals exact (k.below.cell hb).trans (by rw [hD, hB]; simp [go_sem])
 rw [← hD, ← hB]
 clear hD hB hO k1
 have kd : Kept D D.drew := (Kept.refl D).drew
 obtain ⟨r0, r1, r2, r3, r4, r5, r6⟩ := HR.out _ (kD.trans kd)
 obtain ⟨t0, t1, t2, t3, t4, t5, t6⟩ := HR.out _ kD
 obtain ⟨⟨b3, b4, b5⟩, b0, b1, b2⟩ := HB.out _ kd
 obtain ⟨⟨d3, d4, d5⟩, d0, d1, d2⟩ := HB.out _ (Kept.refl D)
 have hwR : w.heap.size ≠ R := by have := HXs.out; omega
 clear HS HR
 go_region_held (fun u => (u.cell? ⟨w.heap.size, 3, none⟩ = some (.bool p) ∧ u.cell? ⟨w.heap.size, 4, none⟩ = some (.bool m) ∧ u.cell? ⟨w.heap.size, 5, none⟩ = some (.bool z)) ∧ u.cell? ⟨B, 0, none⟩ = some (.bool ng) ∧ u.cell? ⟨B, 1, none⟩ = some (.slice (some ⟨g, 0, none⟩) N cap) ∧ u.cell? ⟨B, 2, none⟩ = some (.int .i64 x)) (first | with_reducible assumption | with_reducible exact HB.out _ kd | (refine ⟨⟨?_, ?_, ?_⟩, ?_, ?_, ?_⟩ <;> simp [go_sem, b0, b1, b2, b3, b4, b5, d0, d1, d2, d3, d4, d5, hBR, hwR])) (fail)
 go_wp2_with fail
 refine bodyPost_ret (v := .tuple #[.slice (some ⟨g, 0, none⟩) (N + 3) cap, accV ng (.slice (some ⟨g, 0, none⟩) N cap) x p m z]) (by simp [results, Tryz.results24, go_sem, r0, r1, r2, r3, r4, r5, t0, t1, t2, t3, t4, t5]) rfl ⟨⟨g, cap, rfl, by have := HXs.out; omega, ?_⟩, ?_⟩
 ·have hgR : g ≠ R := by have := HXs.out; omega
  exact ((((((oD.setOther (by simpa using hgR) _).setOther (by simpa using hgR) _).setOther (by simpa using hgR) _).setOther (by simpa using hgR) _).setOther (by simpa using hgR) _).setOther (by simpa using hgR) _).kept (Kept.refl _).drew
 ·exact (kept_six1 R (by have := HXs.out; omega) (k0.trans kD) _ _ _ _ _ _).drew
def hvy (l : Nat) (x : Int) : Bool := decide (300 < l) || decide (100000 < x) || decide (x < -100000)
theorem heavy3 (ng : Bool) (ao : Option Addr) (l c : Nat) (x : Int) (p m z : Bool) (w : World) : Calls Tryz.prog 10 #[accV ng (.slice ao l c) x p m z] w fun e w' => e = .returned (.bool (hvy l x)) ∧ Kept w w' := by
 obtain ⟨X, hX⟩ : ∃ X, X = w.alloc (.cells #[.bool ng, .slice ao l c, .int .i64 x, .bool p, .bool m, .bool z] 26) := ⟨_, rfl⟩
 have hK : Kept w X := by rw [hX]; exact (Kept.refl w).alloc _ _
 obtain ⟨R, hR⟩ : ∃ R, R = hvy l x := ⟨_, rfl⟩
 rw [← hR]
 unfold hvy at hR
 obtain ⟨c0, c1, c2, c3, c4, c5⟩ := acc_cells ng (.slice ao l c) x p m z hX X (Kept.refl _)
 by_cases h1 : 300 < l
 ·rw [decide_eq_true h1, Bool.true_or, Bool.true_or] at hR
  subst hR
  have h1' : (300 : Int) < (l : Int) := by omega
  go_enter Tryz.func10, Tryz.ntmps10
  go_upto_region 1 with fail
  rw [← hX]
  clear hX
  go_wp2_with fail
  go_ret
  exact ⟨rfl, hK⟩
 ·rw [decide_eq_false h1, Bool.false_or] at hR
  have h1' : ¬ (300 : Int) < (l : Int) := by omega
  by_cases h2 : 100000 < x
  ·rw [decide_eq_true h2, Bool.true_or] at hR
   subst hR
   go_enter Tryz.func10, Tryz.ntmps10
   go_upto_region 1 with fail
   rw [← hX]
   clear hX
   go_wp2_with fail
   go_ret
   exact ⟨rfl, hK⟩
  ·rw [decide_eq_false h2, Bool.false_or] at hR
   subst hR
   go_enter Tryz.func10, Tryz.ntmps10
   go_upto_region 1 with fail
   rw [← hX]
   clear hX
   go_wp2_with fail
   go_ret
   exact ⟨rfl, hK⟩
theorem first3_nil (n : Int) (ok : Bool) (po : Option Addr) (c : Nat) (w : World) : Calls Tryz.prog 30 #[.int .i64 n, .bool ok, .slice po 0 c] w fun e w' => e = .returned (.int .i64 (FE n 0 ok)) ∧ Kept w w' := by
 obtain ⟨R, hR⟩ : ∃ R, R = FE n 0 ok := ⟨_, rfl⟩
 rw [← hR]
 by_cases hn : n = 64 ∨ n = 32
 ·rcases hn with rfl | rfl
  all_goals
   cases ok
   all_goals
    have e := hR
    subst e
    go_enter Tryz.func30, Tryz.ntmps30
    go_wp2_with fail
    try (refine wp_loop_rounds 1 ?_; rw [rounds_succ]; go_wp2_with fail)
    go_ret
    exact ⟨rfl, Kept.refl _⟩
 ·unfold FE at hR
  rw [if_neg hn] at hR
  subst hR
  have h1 : (n != 32) = true := by simp; omega
  have h2 : (n != 64) = true := by simp; omega
  go_enter Tryz.func30, Tryz.ntmps30
  go_wp2_with fail
  go_ret
  exact ⟨rfl, Kept.refl _⟩
theorem rvalid3 (ng : Bool) (ao : Option Addr) (l cap : Nat) (x : Int) (p m z v : Bool) (w : World)
  (K : Hid (∀ u, Kept w u → Calls Tryz.prog 40 #[.agg #[.bool ng, .slice ao l cap, .int .i64 x]] u fun e w' => e = .returned (.bool v) ∧ Kept u w')) :
  Calls Tryz.prog 28 #[accV ng (.slice ao l cap) x p m z] w fun e w' => e = .returned (.bool v) ∧ Kept w w' := by
 obtain ⟨X, hX⟩ : ∃ X, X = w.alloc (.cells #[.bool ng, .slice ao l cap, .int .i64 x, .bool p, .bool m, .bool z] 26) := ⟨_, rfl⟩
 have hK : Kept w X := by rw [hX]; exact (Kept.refl w).alloc _ _
 go_enter Tryz.func28, Tryz.ntmps28
 go_wp2_with fail
 rw [← hX]
 refine (K.out _ hK).mono ?_
 rintro e w1 ⟨rfl, k1⟩
 go_wp2_with fail
 go_ret
 exact ⟨rfl, hK.trans k1⟩
theorem own_sl (L : List Int) (u : World) (g cap : Nat) (ho : Own u g cap (L ++ [-71, -72, -73])) : Sl u (.slice (some ⟨g, 0, none⟩) L.length cap) L := by
 have hs := ho.slTake L.length (by simp)
 rwa [List.take_left' rfl] at hs
theorem rounds3 (n c : Int) (r1 : -9223372036854775808 ≤ c) (r2 : c ≤ 9223372036854775807) (a : Nm) (ra : Rg a.mag) (la : a.mag.length ≤ 300) (p m z : Bool) (q0 : Option Addr) (d0 : Nat) (hc0 : q0 = none → d0 = 0) (w : World) (hT : Tab w) (hr : Sl w (.slice q0 a.mag.length d0) a.mag) :
  Calls Tryz.prog 14 #[accV a.neg (.slice q0 a.mag.length d0) a.exp p m z, .int .i64 c, .int .i64 n] w fun e w' => e = .returned (.bool true) ∧ Kept w w' := by
 obtain ⟨g, hg⟩ : ∃ g, g = FE n 0 (vld a) := ⟨_, rfl⟩
 obtain ⟨f, hf⟩ : ∃ f, f = MnE g c := ⟨_, rfl⟩
 obtain ⟨q1, hP1, hN1, hD1⟩ := accRound_full n a ra (by omega) p m z g hg
 obtain ⟨q2, hP2, hN2, hD2⟩ := accMean_full n c r1 r2 a ra (by omega) p m z g f hg hf
 have HLN : Hid (∀ u, Kept w u → Calls Tryz.prog 24 #[accV a.neg (.slice q0 a.mag.length d0) a.exp p m z] u fun e w' => (∃ g cap, e = .returned (.tuple #[.slice (some ⟨g, 0, none⟩) (a.mag.length + 3) cap, accV a.neg (.slice (some ⟨g, 0, none⟩) a.mag.length cap) a.exp p m z]) ∧ u.heap.size ≤ g ∧ Own w' g cap (a.mag ++ [-71, -72, -73])) ∧ Kept u w') := fun u k => lent3 a.neg a.exp p m z a.mag (by omega) q0 d0 u (hr.kept k)
 have HRD : Hid (∀ (u : World) (b c : Nat), Kept w u → Own u b c (a.mag ++ [-71, -72, -73]) → Calls Tryz.prog 45 #[accV a.neg (.slice (some ⟨b, 0, none⟩) a.mag.length c) a.exp p m z, .int .i64 n] u fun e w' => e = .returned (.tuple #[.int .i64 q1, .int .i64 g]) ∧ Kept u w') := fun u b c k ho => hP1 _ c u (hT.kept k) (own_sl _ u b c ho)
 have HMN : Hid (∀ (u : World) (b d : Nat), Kept w u → Own u b d (a.mag ++ [-71, -72, -73]) → Calls Tryz.prog 23 #[accV a.neg (.slice (some ⟨b, 0, none⟩) a.mag.length d) a.exp p m z, .int .i64 c, .int .i64 n] u fun e w' => e = .returned (.tuple #[.int .i64 q2, .int .i64 f]) ∧ Kept u w') := fun u b d k ho => hP2 _ d u (hT.kept k) (own_sl _ u b d ho)
 have HBK : Hid (∀ (u : World) (b cap : Nat), Kept w u → Own u b cap (a.mag ++ [-71, -72, -73]) → Calls Tryz.prog 29 #[.slice (some ⟨b, 0, none⟩) (a.mag.length + 3) cap, .slice q0 a.mag.length d0] u fun e w' => e = .returned (.bool true) ∧ Grw b u w') := fun u b cap k ho => back_any a.mag (by omega) _ b cap u (hr.kept k) ho
 have KV : Hid (∀ u, Kept w u → Calls Tryz.prog 28 #[accV a.neg (.slice q0 a.mag.length d0) a.exp p m z] u fun e w' => e = .returned (.bool (vld a)) ∧ Kept u w') := fun u k => rvalid3 a.neg q0 a.mag.length d0 a.exp p m z (vld a) u (fun v k2 => rvalid2_any a ra (by omega) _ v ⟨_, rfl, hr.kept (k.trans k2)⟩)
 have KF : Hid (∀ u, Calls Tryz.prog 30 #[.int .i64 n, .bool (vld a), .slice none 0 0] u fun e w' => e = .returned (.int .i64 g) ∧ Kept u w') := fun u => by rw [hg]; exact first3_nil n (vld a) none 0 u
 have KD1 : Hid (g = 0 → ∀ u, Kept w u → Calls Tryz.prog 46 #[accV a.neg (.slice q0 a.mag.length d0) a.exp p m z, .int .i64 n] u fun e w' => e = .returned (.int .i64 q1) ∧ Kept u w') := fun h u k => hD1 h q0 d0 u hc0 (hr.kept k)
 have KD2 : Hid (f = 0 → ∀ u, Kept w u → Calls Tryz.prog 47 #[accV a.neg (.slice q0 a.mag.length d0) a.exp p m z, .int .i64 c, .int .i64 n] u fun e w' => e = .returned (.int .i64 q2) ∧ Kept u w') := fun h u k => hD2 h q0 d0 u hc0 (hr.kept k)
 have HF : Hid (f = MnE g c ∧ (g ≠ 0 → q1 = 0) ∧ (f ≠ 0 → q2 = 0)) := ⟨hf, hN1, hN2⟩
 clear hf hg hP1 hN1 hD1 hP2 hN2 hD2 hT hr ra
 generalize vld a = va at *
 generalize hM : a.mag ++ [-71, -72, -73] = M at *
 clear hM
 generalize a.mag.length = N at *
 generalize a.neg = ng at *
 generalize a.exp = x at *
 obtain ⟨X, hX⟩ : ∃ X, X = w.alloc (.cells #[.bool ng, .slice q0 N d0, .int .i64 x, .bool p, .bool m, .bool z] 26) := ⟨_, rfl⟩
 have k0 : Kept w X := by rw [hX]; exact (Kept.refl w).alloc _ _
 have HA : Hid (∀ u, Kept X u → u.cell? ⟨w.heap.size, 0, none⟩ = some (.bool ng) ∧ u.cell? ⟨w.heap.size, 1, none⟩ = some (.slice q0 N d0) ∧ u.cell? ⟨w.heap.size, 2, none⟩ = some (.int .i64 x) ∧ u.cell? ⟨w.heap.size, 3, none⟩ = some (.bool p) ∧ u.cell? ⟨w.heap.size, 4, none⟩ = some (.bool m) ∧ u.cell? ⟨w.heap.size, 5, none⟩ = some (.bool z)) := fun u k => acc_cells ng (.slice q0 N d0) x p m z hX u k
 go_enter Tryz.func14, Tryz.ntmps14
 go_upto_region 1 with fail
 rw [← hX]
 clear hX
 obtain ⟨c0, c1, c2, c3, c4, c5⟩ := HA.out _ (Kept.refl _)
 go_wp2_with fail
 refine (HLN.out _ k0).mono ?_
 rintro e w1 ⟨⟨ga, ka, rfl, hga, hOa⟩, hk1⟩
 clear c0 c1 c2 c3 c4 c5 HLN
 go_upto_region 2 with fail
 obtain ⟨Y, hY⟩ : ∃ Y, Y = w1.alloc (.cells #[.bool ng, .slice (some ⟨ga, 0, none⟩) N ka, .int .i64 x, .bool p, .bool m, .bool z] 26) := ⟨_, rfl⟩
 obtain ⟨px, hp⟩ : ∃ b, b = w1.heap.size := ⟨_, rfl⟩
 have k1 : Kept X Y := by rw [hY]; exact hk1.alloc _ _
 have hO1 : Own Y ga ka M := by rw [hY]; exact hOa.kept ((Kept.refl _).alloc _ _)
 have HX : Hid (∀ u, Kept Y u → u.cell? ⟨px, 0, none⟩ = some (.bool ng) ∧ u.cell? ⟨px, 1, none⟩ = some (.slice (some ⟨ga, 0, none⟩) N ka) ∧ u.cell? ⟨px, 2, none⟩ = some (.int .i64 x) ∧ u.cell? ⟨px, 3, none⟩ = some (.bool p) ∧ u.cell? ⟨px, 4, none⟩ = some (.bool m) ∧ u.cell? ⟨px, 5, none⟩ = some (.bool z)) := fun u k => acc_cells1 ng (.slice (some ⟨ga, 0, none⟩) N ka) x p m z 26 px hp (by rw [hY]; exact Kept.refl _) u k
 rw [← hY, ← hp]
 clear hY hp hk1 hOa
 obtain ⟨c0, c1, c2, c3, c4, c5⟩ := HX.out _ (Kept.refl _)
 go_wp2_with fail
 refine (HRD.out _ ga ka (k0.trans k1) hO1).mono ?_
 rintro e u2 ⟨rfl, k2⟩
 clear c0 c1 c2 c3 c4 c5 HRD
 obtain ⟨c0, c1, c2, c3, c4, c5⟩ := HX.out _ k2
 go_wp2_with fail
 refine (HMN.out _ ga ka (k0.trans (k1.trans k2)) (hO1.kept k2)).mono ?_
 rintro e u3 ⟨rfl, k3⟩
 replace k3 := k2.trans k3
 clear c0 c1 c2 c3 c4 c5 HMN k2 HX
 obtain ⟨c0, c1, c2, c3, c4, c5⟩ := HA.out _ (k1.trans k3)
 go_wp2_with fail
 refine (HBK.out _ ga ka (k0.trans (k1.trans k3)) (hO1.kept k3)).mono ?_
 rintro e u4 ⟨rfl, g4⟩
 have k4 : Kept X u4 := (k1.trans k3).grw hga g4
 clear c0 c1 c2 c3 c4 c5 HBK hO1 g4 k3 k1 hga
 obtain ⟨c0, c1, c2, c3, c4, c5⟩ := HA.out _ k4
 go_wp2_with fail
 refine (KV.out _ (k0.trans k4)).mono ?_
 rintro e u5 ⟨rfl, k5⟩
 replace k5 := k4.trans k5
 clear c0 c1 c2 c3 c4 c5 KV k4
 go_wp2_with fail
 refine (KF.out _).mono ?_
 rintro e u6 ⟨rfl, k6⟩
 replace k6 := k5.trans k6
 clear KF k5
 have hF := HF.out
 unfold MnE at hF
 obtain ⟨hf, hq1, hq2⟩ := hF
 obtain ⟨c0, c1, c2, c3, c4, c5⟩ := HA.out _ k6
 by_cases hg : g = 0
 ·subst hg
  rw [if_neg (by simp)] at hf
  clear hq1 HF
  have KD1' : Hid (∀ u, Kept w u → Calls Tryz.prog 46 #[accV ng (.slice q0 N d0) x p m z, .int .i64 n] u fun e w' => e = .returned (.int .i64 q1) ∧ Kept u w') := KD1.out rfl
  clear KD1
  have e1 : (q1 == q1) = true := by simp
  by_cases hc : c = 0
  ·subst hc
   rw [if_pos rfl] at hf
   subst hf
   obtain rfl := hq2 (by decide)
   clear hq2 KD2
   go_wp2_with fail
   refine (KD1'.out _ (k0.trans k6)).mono ?_
   rintro e u7 ⟨rfl, k7⟩
   go_wp2_with fail
   go_ret
   exact ⟨rfl, k0.trans (k6.trans k7)⟩
  ·rw [if_neg hc] at hf
   have hc1 : (c == 0) = false := by rw [beq_eq_false_iff_ne]; exact hc
   by_cases hc2 : c < 0
   ·rw [if_pos hc2] at hf
    subst hf
    obtain rfl := hq2 (by decide)
    clear hq2 KD2
    go_wp2_with fail
    refine (KD1'.out _ (k0.trans k6)).mono ?_
    rintro e u7 ⟨rfl, k7⟩
    go_wp2_with fail
    go_ret
    exact ⟨rfl, k0.trans (k6.trans k7)⟩
   ·rw [if_neg hc2] at hf
    subst hf
    clear hq2
    have KD2' : Hid (∀ u, Kept w u → Calls Tryz.prog 47 #[accV ng (.slice q0 N d0) x p m z, .int .i64 c, .int .i64 n] u fun e w' => e = .returned (.int .i64 q2) ∧ Kept u w') := KD2.out rfl
    clear KD2
    have e2 : (q2 == q2) = true := by simp
    go_wp2_with fail
    refine (KD1'.out _ (k0.trans k6)).mono ?_
    rintro e u7 ⟨rfl, k7⟩
    clear c0 c1 c2 c3 c4 c5
    obtain ⟨c0, c1, c2, c3, c4, c5⟩ := HA.out _ (k6.trans k7)
    go_wp2_with fail
    refine (KD2'.out _ (k0.trans (k6.trans k7))).mono ?_
    rintro e u8 ⟨rfl, k8⟩
    go_wp2_with fail
    go_ret
    exact ⟨rfl, k0.trans ((k6.trans k7).trans k8)⟩
 ·rw [if_pos hg] at hf
  subst hf
  obtain rfl := hq1 hg
  obtain rfl := hq2 hg
  have hg1 : (f == 0) = false := by rw [beq_eq_false_iff_ne]; exact hg
  have hg2 : (f == f) = true := by simp
  clear hq1 hq2 HF KD1 KD2
  go_wp2_with fail
  go_ret
  exact ⟨rfl, k0.trans k6⟩
theorem accRounds_true (w : World) (hT : Tab w) (a : Nm) (ra : Rg a.mag) (p m z : Bool) (q0 : Option Addr) (d0 : Nat) (hc0 : q0 = none → d0 = 0) (hr : Sl w (.slice q0 a.mag.length d0) a.mag) (c n : Int) (r1 : -9223372036854775808 ≤ c) (r2 : c ≤ 9223372036854775807) :
  Calls Tryz.prog 5 #[accV a.neg (.slice q0 a.mag.length d0) a.exp p m z, .int .i64 c, .int .i64 n] w fun e w' => e = .returned (.bool true) ∧ Kept w w' := by
 obtain ⟨X, hX⟩ : ∃ X, X = w.alloc (.cells #[.bool a.neg, .slice q0 a.mag.length d0, .int .i64 a.exp, .bool p, .bool m, .bool z] 26) := ⟨_, rfl⟩
 have k0 : Kept w X := by rw [hX]; exact (Kept.refl w).alloc _ _
 have HA : Hid (∀ u, Kept X u → _) := acc_cells a.neg (.slice q0 a.mag.length d0) a.exp p m z hX
 have KL : Hid (∀ u, Kept w u → Calls Tryz.prog 9 #[] u fun e w' => e = .returned (.bool true) ∧ Kept u w') := fun u k => alive3 u (hT.kept k)
 have KH : Hid (∀ u, Calls Tryz.prog 10 #[accV a.neg (.slice q0 a.mag.length d0) a.exp p m z] u fun e w' => e = .returned (.bool (hvy a.mag.length a.exp)) ∧ Kept u w') := fun u => heavy3 _ _ _ _ _ _ _ _ u
 have KR : Hid (hvy a.mag.length a.exp = false → ∀ u, Kept w u → Calls Tryz.prog 14 #[accV a.neg (.slice q0 a.mag.length d0) a.exp p m z, .int .i64 c, .int .i64 n] u fun e w' => e = .returned (.bool true) ∧ Kept u w') := fun h u k => by
  have hl : a.mag.length ≤ 300 := by
   unfold hvy at h
   simp only [Bool.or_eq_false_iff, decide_eq_false_iff_not] at h
   omega
  exact rounds3 n c r1 r2 a ra hl p m z q0 d0 hc0 u (hT.kept k) (hr.kept k)
 clear hT hr ra
 generalize hvy a.mag.length a.exp = hv at *
 generalize a.mag.length = N at *
 generalize a.neg = ng at *
 generalize a.exp = x at *
 cases hv
 ·have KR1 : Hid (∀ u, Kept w u → Calls Tryz.prog 14 #[accV ng (.slice q0 N d0) x p m z, .int .i64 c, .int .i64 n] u fun e w' => e = .returned (.bool true) ∧ Kept u w') := KR.out rfl
  clear KR
  go_enter Tryz.func5, Tryz.ntmps5
  go_upto_region 1 with fail
  rw [← hX]
  clear hX
  go_wp2_with fail
  refine (KL.out _ k0).mono ?_
  rintro e w1 ⟨rfl, k1⟩
  obtain ⟨c0, c1, c2, c3, c4, c5⟩ := HA.out _ k1
  go_wp2_with fail
  refine (KH.out _).mono ?_
  rintro e w2 ⟨rfl, k2⟩
  clear c0 c1 c2 c3 c4 c5
  obtain ⟨c0, c1, c2, c3, c4, c5⟩ := HA.out _ (k1.trans k2)
  go_wp2_with fail
  refine (KR1.out _ (k0.trans (k1.trans k2))).mono ?_
  rintro e w3 ⟨rfl, k3⟩
  go_wp2_with fail
  go_ret
  exact ⟨rfl, (k0.trans (k1.trans k2)).trans k3⟩
 ·clear KR
  go_enter Tryz.func5, Tryz.ntmps5
  go_upto_region 1 with fail
  rw [← hX]
  clear hX
  go_wp2_with fail
  refine (KL.out _ k0).mono ?_
  rintro e w1 ⟨rfl, k1⟩
  obtain ⟨c0, c1, c2, c3, c4, c5⟩ := HA.out _ k1
  go_wp2_with fail
  refine (KH.out _).mono ?_
  rintro e w2 ⟨rfl, k2⟩
  clear c0 c1 c2 c3 c4 c5
  obtain ⟨c0, c1, c2, c3, c4, c5⟩ := HA.out _ (k1.trans k2)
  go_wp2_with fail
  go_ret
  exact ⟨rfl, k0.trans (k1.trans k2)⟩
end Go.Proofs.YtdpccifhhencgaaGreatDoor
namespace Go.Proofs.YtdpccifhhencgaaGreatDoor
open Go.ChangeShapes Go.WideShapes Go.ChangeAt Go.RowKit Go.Joins
set_option linter.unusedVariables false
set_option linter.unusedSimpArgs false
set_option maxHeartbeats 16000000
set_option maxRecDepth 100000
theorem laid_out : laidOutB Tryz.prog = true := by kernel_rfl
theorem cells_num : Tryz.prog.cellsOf 24 = 3 := by kernel_rfl
theorem cells_int : Tryz.prog.cellsOf 3 = 1 := by kernel_rfl
theorem wf_rng (n : Int) (h : (Lit.int .i64 n).wf = true) : -9223372036854775808 ≤ n ∧ n ≤ 9223372036854775807 := by
 have e1 : IntKind.i64.min = -9223372036854775808 := rfl
 have e2 : IntKind.i64.max = 9223372036854775807 := rfl
 simp [Lit.wf] at h
 omega
section
variable {H : Type} {enc : TypeId × Value → H} {W : World}
theorem open_lst {fuel : Nat} {cs : List Value} {x : DataW H × List MemPlace} (h : DataW.trod enc Tryz.prog W 0 (fun _ => true) true fuel 22 cs = some x) :
  ∃ (L : List Int) (ar : Option Addr) (cr : Nat), cs = [.slice ar L.length cr] ∧ (ar = none → cr = 0) ∧ Rg L ∧ Sl W (.slice ar L.length cr) L := by
 rcases open_ints Tryz.underlying22 Tryz.underlying3 cells_int h with ⟨rfl, -⟩ | ⟨a, len, cap, zs, rfl, -, hl, hm, hz, -, hcell, hwf⟩
 ·exact ⟨[], none, 0, rfl, fun _ => rfl, fun d hd => (by cases hd), none, 0, rfl, Nat.le_refl _, by simp [maxLen], fun h => absurd rfl h⟩
 ·have hlen : (zs.take len).length = len := by
   rw [List.length_take, hz]
   simp
   omega
  refine ⟨zs.take len, some a, cap, by rw [hlen], fun h => (by cases h), fun d hd => wf_rng d (hwf d (List.mem_of_mem_take hd)), some a, cap, by rw [hlen], by rw [hlen]; exact hl, hm, fun hne => ?_⟩
  have hpos : 0 < len := by
   rcases Nat.eq_zero_or_pos len with h0 | h0
   ·subst h0; simp at hne
   ·exact h0
  have hzl : len ≤ zs.length := by rw [hz]; simp; omega
  have h0 := hcell 0 (by omega)
  have hs := World.cell?_spot h0
  have hb := World.block_lt_of_cell? W _ h0
  obtain ⟨ab, ao, asp⟩ := a
  simp [Addr.add] at hs hb
  subst hs
  refine ⟨ab, ao, rfl, hb, fun i hi => ?_⟩
  rw [hlen] at hi
  have := hcell i (by omega)
  rw [Addr.add_lit] at this
  rw [this, List.getD_eq_getElem?_getD, List.getD_eq_getElem?_getD, List.getElem?_take, if_pos hi]
theorem trodAll_stays {W' : World} {sp : Nat → Bool} : ∀ {ts : List TypeId} {vs : List Value} {ds : List (DataW H)} {p : List MemPlace}, (∀ t ∈ ts, Tryz.prog.readableRec t = true ∧ t < Tryz.prog.types.size) → DataW.TrodAll enc Tryz.prog W 0 (fun _ => true) true ts vs ds p → (∀ x ∈ p, W.sameAt W' x) → (∀ x ∈ p, sp x.block = true) → DataW.TrodAll enc Tryz.prog W' 0 sp true ts vs ds p
 | [], _, _, _, _, h, _, _ => by
  obtain ⟨rfl, rfl, rfl⟩ := trodAll_nil h
  exact trodAll_mk0
 | t :: ts, _, _, _, hr, h, hs, hp => by
  obtain ⟨v, vs1, d, ds1, a, b, rfl, rfl, rfl, h1, h2⟩ := trodAll_cons h
  obtain ⟨r1, r2⟩ := hr t (by simp)
  exact trodAll_cons_mk (WideElems.Trod_stays laid_out r1 r2 h1 (fun x hx => hs x (by simp [hx])) (fun x hx => hp x (by simp [hx]))) (trodAll_stays (fun t' ht' => hr t' (by simp [ht'])) h2 (fun x hx => hs x (by simp [hx])) (fun x hx => hp x (by simp [hx])))
end
end Go.Proofs.YtdpccifhhencgaaGreatDoor
