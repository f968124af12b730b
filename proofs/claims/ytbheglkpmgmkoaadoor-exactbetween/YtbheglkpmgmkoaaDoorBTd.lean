/- The walks of the statement on neighbours. -/
import Derived.Test.YtbheglkpmgmkoaaDoorRL1
import Derived.Test.YtbheglkpmgmkoaaDoorQ9
namespace Go.Proofs.YtbheglkpmgmkoaaDoor
open Go.ChangeShapes Go.WideShapes Go.ChangeAt Go.RowKit
set_option linter.unusedVariables false
set_option linter.unusedSimpArgs false

set_option maxHeartbeats 8000000 in
set_option maxRecDepth 100000 in
theorem btw_high_z2 (w : World) (hT : Tab w) (m1 : Nm) (q1 : Option Addr) (d1 : Nat) (hl1 : m1.mag.length ≤ 9223372036854775807) (h1 : Sl w (.slice q1 m1.mag.length d1) m1.mag) (rA : Nm) (hrA : frm m1.neg (nv (msk m1.mag (min m1.mag.length 20))) (m1.exp.tmod 1300) = some rA) (rP : Nm) (v n b1 b2 z1 z2 zx : Int) (y1 : bits .and .i64 v 1 = b1) (y2 : IntKind.i64.wrap (32 * b1) = b2) (y3 : IntKind.i64.wrap (32 + b2) = n) (hne : (z2 == z1) = false) 
    (R1 : Hid (∀ X a c, Tab X → Sl X (.slice a rA.mag.length c) rA.mag → Calls Tryd.prog 11 #[.agg #[.bool rA.neg, .slice a rA.mag.length c, .int .i64 rA.exp], .int .i64 n, .int .i64 1] X fun e w' => e = .returned (.tuple #[.int .i64 z1, .bool true, .int .i64 0]) ∧ Kept X w'))
    (R2 : Hid (∀ X a c, Tab X → Sl X (.slice a rA.mag.length c) rA.mag → Calls Tryd.prog 11 #[.agg #[.bool rA.neg, .slice a rA.mag.length c, .int .i64 rA.exp], .int .i64 n, .int .i64 2] X fun e w' => e = .returned (.tuple #[.int .i64 z2, .bool true, .int .i64 0]) ∧ Kept X w'))
    (R3 : Hid (∀ X a c, Tab X → Sl X (.slice a rA.mag.length c) rA.mag → Calls Tryd.prog 11 #[.agg #[.bool rA.neg, .slice a rA.mag.length c, .int .i64 rA.exp], .int .i64 n, .int .i64 0] X fun e w' => e = .returned (.tuple #[.int .i64 z2, .bool true, .int .i64 0]) ∧ Kept X w'))
    (O1 : Hid (∀ X a c, Tab X → Sl X (.slice a rA.mag.length c) rA.mag → Calls Tryd.prog 12 #[.agg #[.bool rA.neg, .slice a rA.mag.length c, .int .i64 rA.exp], .int .i64 z1, .int .i64 n] X fun e w' => e = .returned (.int .i64 1) ∧ Kept X w'))
    (O2 : Hid (∀ X a c, Tab X → Sl X (.slice a rA.mag.length c) rA.mag → Calls Tryd.prog 12 #[.agg #[.bool rA.neg, .slice a rA.mag.length c, .int .i64 rA.exp], .int .i64 z2, .int .i64 n] X fun e w' => e = .returned (.int .i64 (-1)) ∧ Kept X w'))
    (KX : Hid (∀ u, Calls Tryd.prog 14 #[.int .i64 z1, .int .i64 n] u fun e w' => e = .returned (.int .i64 zx) ∧ Kept u w'))
    (KC : Hid (∀ u, Calls Tryd.prog 13 #[.int .i64 zx, .int .i64 n] u fun e w' => e = .returned (.int .i64 z2) ∧ Kept u w'))
    (F1 : Hid (∀ u, Tab u → Calls Tryd.prog 15 #[.int .i64 z1, .int .i64 n] u fun e w' => ∃ ao c, e = .returned (.tuple #[.agg #[.bool rP.neg, .slice ao rP.mag.length c, .int .i64 rP.exp], .int .i64 0]) ∧ Sl w' (.slice ao rP.mag.length c) rP.mag ∧ Kept u w'))
    (F2 : Hid (∀ u, Tab u → Calls Tryd.prog 15 #[.int .i64 z2, .int .i64 n] u fun e w' => e = .returned (.tuple #[.agg #[.bool false, .slice none 0 0, .int .i64 0], .int .i64 6]) ∧ Kept u w')) :
    Calls Tryd.prog 4 #[.agg #[.bool m1.neg, .slice q1 m1.mag.length d1, .int .i64 m1.exp], .int .i64 v] w fun e w' => e = .returned (.bool true) ∧ Kept w w' := by
  have hq1 : ¬ z2 = z1 := by simpa using hne
  have hq2 : (z2 != z1) = true := by simpa using hq1
  have HT : Hid (∀ u, Kept w u → Tab u) := fun u k => hT.kept k
  have NA : Hid (frm m1.neg (nv (msk m1.mag (min m1.mag.length 20))) (m1.exp.tmod 1300) = some rA) := hrA
  have LL : Hid (m1.mag.length ≤ 9223372036854775807) := hl1
  obtain ⟨X0, hX⟩ : ∃ X, X = (w.alloc (.cells #[.bool m1.neg, .slice q1 m1.mag.length d1, .int .i64 m1.exp] 24)) := ⟨_, rfl⟩
  have k0 : Hid (Kept w X0) := by rw [hX]; exact (Kept.refl w).alloc _ _
  have Q0 : Hid (∀ u, Kept X0 u → Lay u w.heap.size q1 d1 m1) := by
    intro u k
    have kw := k0.out.trans k
    rw [hX] at k
    refine ⟨⟨⟨?_, ?_⟩, ?_⟩, h1.kept kw⟩
    · exact (k.below.cell (p := ⟨w.heap.size, 0, none⟩) (by simp <;> omega)).trans (by simp [go_sem])
    · exact (k.below.cell (p := ⟨w.heap.size, 1, none⟩) (by simp <;> omega)).trans (by simp [go_sem])
    · exact (k.below.cell (p := ⟨w.heap.size, 2, none⟩) (by simp <;> omega)).trans (by simp [go_sem])
  clear hT hrA hl1 h1
  go_enter Tryd.func4, Tryd.ntmps4
  go_upto_region 2 with fail
  rw [← hX]
  clear hX
  obtain ⟨⟨⟨c00, c01⟩, c02⟩, hs0⟩ := (Q0.out _ (Kept.refl _))
  have S0 : Hid _ := hs0
  clear hs0
  go_wp2_with fail
  refine (numc_any m1.neg m1.mag m1.exp _ _ LL.out _ (HT.out _ k0.out) S0.out _ NA.out).mono ?_
  rintro e w1 ⟨t1, g1, rfl, ⟨hs, hcap1⟩, hk⟩
  clear hcap1
  clear c00 c01 c02 S0
  go_upto_region 3 with fail
  obtain ⟨X1, hX⟩ : ∃ X, X = w1.alloc (.cells #[.bool rA.neg, .slice t1 rA.mag.length g1, .int .i64 rA.exp] 24) := ⟨_, rfl⟩
  obtain ⟨p1, hp⟩ : ∃ p, p = w1.heap.size := ⟨_, rfl⟩
  have kX : Kept X0 X1 := by rw [hX]; exact hk.alloc _ _
  have Q1 : Hid (∀ u, Kept X1 u → Lay u (p1) t1 g1 rA ∧ Lay u (w.heap.size) q1 d1 m1) := fun u k => ⟨by rw [hp]; rw [hX] at k; exact lay_alloc hs k, Q0.out u (kX.trans k)⟩
  have k1 : Hid (Kept w X1) := k0.out.trans kX
  rw [← hX, ← hp]
  clear hX hp hs hk kX Q0 k0
  obtain ⟨⟨⟨c00, c01⟩, c02⟩, hs0⟩ := (Q1.out _ (Kept.refl _)).1
  have S0 : Hid _ := hs0
  clear hs0
  go_wp2_with fail
  refine (R1.out _ _ _ (HT.out _ k1.out) S0.out).mono ?_
  rintro e X2 ⟨rfl, hk⟩
  clear c00 c01 c02 S0
  have Q2 : Hid (∀ u, Kept X2 u → Lay u (p1) t1 g1 rA ∧ Lay u (w.heap.size) q1 d1 m1) := fun u k => Q1.out u (hk.trans k)
  have k2 : Hid (Kept w X2) := k1.out.trans hk
  clear hk Q1 k1
  go_upto_region 4 with fail
  obtain ⟨⟨⟨c00, c01⟩, c02⟩, hs0⟩ := (Q2.out _ (Kept.refl _)).1
  have S0 : Hid _ := hs0
  clear hs0
  go_wp2_with fail
  refine (R2.out _ _ _ (HT.out _ k2.out) S0.out).mono ?_
  rintro e X3 ⟨rfl, hk⟩
  clear c00 c01 c02 S0
  have Q3 : Hid (∀ u, Kept X3 u → Lay u (p1) t1 g1 rA ∧ Lay u (w.heap.size) q1 d1 m1) := fun u k => Q2.out u (hk.trans k)
  have k3 : Hid (Kept w X3) := k2.out.trans hk
  clear hk Q2 k2
  go_upto_region 5 with fail
  obtain ⟨⟨⟨c00, c01⟩, c02⟩, hs0⟩ := (Q3.out _ (Kept.refl _)).1
  have S0 : Hid _ := hs0
  clear hs0
  go_wp2_with fail
  refine (R3.out _ _ _ (HT.out _ k3.out) S0.out).mono ?_
  rintro e X4 ⟨rfl, hk⟩
  clear c00 c01 c02 S0
  have Q4 : Hid (∀ u, Kept X4 u → Lay u (p1) t1 g1 rA ∧ Lay u (w.heap.size) q1 d1 m1) := fun u k => Q3.out u (hk.trans k)
  have k4 : Hid (Kept w X4) := k3.out.trans hk
  clear hk Q3 k3
  go_upto_region 6 with fail
  go_wp2_with fail
  refine (alive_true _ (HT.out _ k4.out)).mono ?_
  rintro e X5 ⟨rfl, hk⟩
  have Q5 : Hid (∀ u, Kept X5 u → Lay u (p1) t1 g1 rA ∧ Lay u (w.heap.size) q1 d1 m1) := fun u k => Q4.out u (hk.trans k)
  have k5 : Hid (Kept w X5) := k4.out.trans hk
  clear hk Q4 k4
  obtain ⟨⟨⟨c00, c01⟩, c02⟩, hs0⟩ := (Q5.out _ (Kept.refl _)).1
  have S0 : Hid _ := hs0
  clear hs0
  go_wp2_with fail
  refine (O1.out _ _ _ (HT.out _ k5.out) S0.out).mono ?_
  rintro e X6 ⟨rfl, hk⟩
  clear c00 c01 c02 S0
  have Q6 : Hid (∀ u, Kept X6 u → Lay u (p1) t1 g1 rA ∧ Lay u (w.heap.size) q1 d1 m1) := fun u k => Q5.out u (hk.trans k)
  have k6 : Hid (Kept w X6) := k5.out.trans hk
  clear hk Q5 k5
  obtain ⟨⟨⟨c00, c01⟩, c02⟩, hs0⟩ := (Q6.out _ (Kept.refl _)).1
  have S0 : Hid _ := hs0
  clear hs0
  go_wp2_with fail
  refine (O2.out _ _ _ (HT.out _ k6.out) S0.out).mono ?_
  rintro e X7 ⟨rfl, hk⟩
  clear c00 c01 c02 S0
  have Q7 : Hid (∀ u, Kept X7 u → Lay u (p1) t1 g1 rA ∧ Lay u (w.heap.size) q1 d1 m1) := fun u k => Q6.out u (hk.trans k)
  have k7 : Hid (Kept w X7) := k6.out.trans hk
  clear hk Q6 k6
  go_upto_region 10 with fail
  obtain ⟨⟨⟨c00, c01⟩, c02⟩, hs0⟩ := (Q7.out _ (Kept.refl _)).1
  have S0 : Hid _ := hs0
  clear hs0
  go_wp2_with fail
  refine (O1.out _ _ _ (HT.out _ k7.out) S0.out).mono ?_
  rintro e X8 ⟨rfl, hk⟩
  clear c00 c01 c02 S0
  have Q8 : Hid (∀ u, Kept X8 u → Lay u (p1) t1 g1 rA ∧ Lay u (w.heap.size) q1 d1 m1) := fun u k => Q7.out u (hk.trans k)
  have k8 : Hid (Kept w X8) := k7.out.trans hk
  clear hk Q7 k7
  go_wp2_with fail
  refine (KX.out _).mono ?_
  rintro e X9 ⟨rfl, hk⟩
  have Q9 : Hid (∀ u, Kept X9 u → Lay u (p1) t1 g1 rA ∧ Lay u (w.heap.size) q1 d1 m1) := fun u k => Q8.out u (hk.trans k)
  have k9 : Hid (Kept w X9) := k8.out.trans hk
  clear hk Q8 k8
  go_wp2_with fail
  refine (KC.out _).mono ?_
  rintro e X10 ⟨rfl, hk⟩
  have Q10 : Hid (∀ u, Kept X10 u → Lay u (p1) t1 g1 rA ∧ Lay u (w.heap.size) q1 d1 m1) := fun u k => Q9.out u (hk.trans k)
  have k10 : Hid (Kept w X10) := k9.out.trans hk
  clear hk Q9 k9
  go_upto_region 12 with fail
  go_wp2_with fail
  refine (F1.out _ (HT.out _ k10.out)).mono ?_
  rintro e w11 ⟨t11, g11, rfl, hs, hk⟩
  go_upto_region 13 with fail
  obtain ⟨X11, hX⟩ : ∃ X, X = w11.alloc (.cells #[.bool rP.neg, .slice t11 rP.mag.length g11, .int .i64 rP.exp] 24) := ⟨_, rfl⟩
  obtain ⟨p11, hp⟩ : ∃ p, p = w11.heap.size := ⟨_, rfl⟩
  have kX : Kept X10 X11 := by rw [hX]; exact hk.alloc _ _
  have Q11 : Hid (∀ u, Kept X11 u → Lay u (p11) t11 g11 rP ∧ Lay u (p1) t1 g1 rA ∧ Lay u (w.heap.size) q1 d1 m1) := fun u k => ⟨by rw [hp]; rw [hX] at k; exact lay_alloc hs k, Q10.out u (kX.trans k)⟩
  have k11 : Hid (Kept w X11) := k10.out.trans kX
  rw [← hX, ← hp]
  clear hX hp hs hk kX Q10 k10
  go_wp2_with fail
  refine (F2.out _ (HT.out _ k11.out)).mono ?_
  rintro e w12 ⟨rfl, hk⟩
  go_upto_region 14 with fail
  obtain ⟨X12, hX⟩ : ∃ X, X = w12.alloc (.cells #[.bool false, .slice none 0 0, .int .i64 0] 24) := ⟨_, rfl⟩
  have kX : Kept X11 X12 := by rw [hX]; exact hk.alloc _ _
  have Q12 : Hid (∀ u, Kept X12 u → Lay u (p11) t11 g11 rP ∧ Lay u (p1) t1 g1 rA ∧ Lay u (w.heap.size) q1 d1 m1) := fun u k => Q11.out u (kX.trans k)
  have k12 : Hid (Kept w X12) := k11.out.trans kX
  rw [← hX]
  clear hX hk kX Q11 k11
  go_wp2
  go_ret
  exact ⟨rfl, k12.out⟩

set_option maxHeartbeats 8000000 in
set_option maxRecDepth 100000 in
theorem btw_mid_z2_gt (w : World) (hT : Tab w) (m1 : Nm) (q1 : Option Addr) (d1 : Nat) (hl1 : m1.mag.length ≤ 9223372036854775807) (h1 : Sl w (.slice q1 m1.mag.length d1) m1.mag) (rA : Nm) (hrA : frm m1.neg (nv (msk m1.mag (min m1.mag.length 20))) (m1.exp.tmod 1300) = some rA) (rP : Nm) (rQ : Nm) (rL rH : Nm) (v n b1 b2 z1 z2 zx : Int) (y1 : bits .and .i64 v 1 = b1) (y2 : IntKind.i64.wrap (32 * b1) = b2) (y3 : IntKind.i64.wrap (32 + b2) = n) (hne : (z2 == z1) = false) 
    (R1 : Hid (∀ X a c, Tab X → Sl X (.slice a rA.mag.length c) rA.mag → Calls Tryd.prog 11 #[.agg #[.bool rA.neg, .slice a rA.mag.length c, .int .i64 rA.exp], .int .i64 n, .int .i64 1] X fun e w' => e = .returned (.tuple #[.int .i64 z1, .bool true, .int .i64 0]) ∧ Kept X w'))
    (R2 : Hid (∀ X a c, Tab X → Sl X (.slice a rA.mag.length c) rA.mag → Calls Tryd.prog 11 #[.agg #[.bool rA.neg, .slice a rA.mag.length c, .int .i64 rA.exp], .int .i64 n, .int .i64 2] X fun e w' => e = .returned (.tuple #[.int .i64 z2, .bool true, .int .i64 0]) ∧ Kept X w'))
    (R3 : Hid (∀ X a c, Tab X → Sl X (.slice a rA.mag.length c) rA.mag → Calls Tryd.prog 11 #[.agg #[.bool rA.neg, .slice a rA.mag.length c, .int .i64 rA.exp], .int .i64 n, .int .i64 0] X fun e w' => e = .returned (.tuple #[.int .i64 z2, .bool true, .int .i64 0]) ∧ Kept X w'))
    (O1 : Hid (∀ X a c, Tab X → Sl X (.slice a rA.mag.length c) rA.mag → Calls Tryd.prog 12 #[.agg #[.bool rA.neg, .slice a rA.mag.length c, .int .i64 rA.exp], .int .i64 z1, .int .i64 n] X fun e w' => e = .returned (.int .i64 1) ∧ Kept X w'))
    (O2 : Hid (∀ X a c, Tab X → Sl X (.slice a rA.mag.length c) rA.mag → Calls Tryd.prog 12 #[.agg #[.bool rA.neg, .slice a rA.mag.length c, .int .i64 rA.exp], .int .i64 z2, .int .i64 n] X fun e w' => e = .returned (.int .i64 (-1)) ∧ Kept X w'))
    (KX : Hid (∀ u, Calls Tryd.prog 14 #[.int .i64 z1, .int .i64 n] u fun e w' => e = .returned (.int .i64 zx) ∧ Kept u w'))
    (KC : Hid (∀ u, Calls Tryd.prog 13 #[.int .i64 zx, .int .i64 n] u fun e w' => e = .returned (.int .i64 z2) ∧ Kept u w'))
    (F1 : Hid (∀ u, Tab u → Calls Tryd.prog 15 #[.int .i64 z1, .int .i64 n] u fun e w' => ∃ ao c, e = .returned (.tuple #[.agg #[.bool rP.neg, .slice ao rP.mag.length c, .int .i64 rP.exp], .int .i64 0]) ∧ Sl w' (.slice ao rP.mag.length c) rP.mag ∧ Kept u w'))
    (F2 : Hid (∀ u, Tab u → Calls Tryd.prog 15 #[.int .i64 z2, .int .i64 n] u fun e w' => ∃ ao c, e = .returned (.tuple #[.agg #[.bool rQ.neg, .slice ao rQ.mag.length c, .int .i64 rQ.exp], .int .i64 0]) ∧ Sl w' (.slice ao rQ.mag.length c) rQ.mag ∧ Kept u w'))
    (S1 : Hid (∀ X a1 c1 a2 c2, Tab X → Sl X (.slice a1 rA.mag.length c1) rA.mag → Sl X (.slice a2 rP.mag.length c2) rP.mag → Calls Tryd.prog 16 #[.agg #[.bool rA.neg, .slice a1 rA.mag.length c1, .int .i64 rA.exp], .agg #[.bool rP.neg, .slice a2 rP.mag.length c2, .int .i64 rP.exp]] X fun e w' => ∃ ao c, e = .returned (.tuple #[.agg #[.bool rL.neg, .slice ao rL.mag.length c, .int .i64 rL.exp], .int .i64 0]) ∧ Sl w' (.slice ao rL.mag.length c) rL.mag ∧ Kept X w'))
    (S2 : Hid (∀ X a1 c1 a2 c2, Tab X → Sl X (.slice a1 rQ.mag.length c1) rQ.mag → Sl X (.slice a2 rA.mag.length c2) rA.mag → Calls Tryd.prog 16 #[.agg #[.bool rQ.neg, .slice a1 rQ.mag.length c1, .int .i64 rQ.exp], .agg #[.bool rA.neg, .slice a2 rA.mag.length c2, .int .i64 rA.exp]] X fun e w' => ∃ ao c, e = .returned (.tuple #[.agg #[.bool rH.neg, .slice ao rH.mag.length c, .int .i64 rH.exp], .int .i64 0]) ∧ Sl w' (.slice ao rH.mag.length c) rH.mag ∧ Kept X w'))
    (C : Hid (∀ X a1 c1 a2 c2, Sl X (.slice a1 rL.mag.length c1) rL.mag → Sl X (.slice a2 rH.mag.length c2) rH.mag → Calls Tryd.prog 17 #[.agg #[.bool rL.neg, .slice a1 rL.mag.length c1, .int .i64 rL.exp], .agg #[.bool rH.neg, .slice a2 rH.mag.length c2, .int .i64 rH.exp]] X fun e w' => e = .returned (.tuple #[.int .i64 1, .int .i64 0]) ∧ Kept X w')) :
    Calls Tryd.prog 4 #[.agg #[.bool m1.neg, .slice q1 m1.mag.length d1, .int .i64 m1.exp], .int .i64 v] w fun e w' => e = .returned (.bool true) ∧ Kept w w' := by
  have hq1 : ¬ z2 = z1 := by simpa using hne
  have hq2 : (z2 != z1) = true := by simpa using hq1
  have HT : Hid (∀ u, Kept w u → Tab u) := fun u k => hT.kept k
  have NA : Hid (frm m1.neg (nv (msk m1.mag (min m1.mag.length 20))) (m1.exp.tmod 1300) = some rA) := hrA
  have LL : Hid (m1.mag.length ≤ 9223372036854775807) := hl1
  obtain ⟨X0, hX⟩ : ∃ X, X = (w.alloc (.cells #[.bool m1.neg, .slice q1 m1.mag.length d1, .int .i64 m1.exp] 24)) := ⟨_, rfl⟩
  have k0 : Hid (Kept w X0) := by rw [hX]; exact (Kept.refl w).alloc _ _
  have Q0 : Hid (∀ u, Kept X0 u → Lay u w.heap.size q1 d1 m1) := by
    intro u k
    have kw := k0.out.trans k
    rw [hX] at k
    refine ⟨⟨⟨?_, ?_⟩, ?_⟩, h1.kept kw⟩
    · exact (k.below.cell (p := ⟨w.heap.size, 0, none⟩) (by simp <;> omega)).trans (by simp [go_sem])
    · exact (k.below.cell (p := ⟨w.heap.size, 1, none⟩) (by simp <;> omega)).trans (by simp [go_sem])
    · exact (k.below.cell (p := ⟨w.heap.size, 2, none⟩) (by simp <;> omega)).trans (by simp [go_sem])
  clear hT hrA hl1 h1
  go_enter Tryd.func4, Tryd.ntmps4
  go_upto_region 2 with fail
  rw [← hX]
  clear hX
  obtain ⟨⟨⟨c00, c01⟩, c02⟩, hs0⟩ := (Q0.out _ (Kept.refl _))
  have S0 : Hid _ := hs0
  clear hs0
  go_wp2_with fail
  refine (numc_any m1.neg m1.mag m1.exp _ _ LL.out _ (HT.out _ k0.out) S0.out _ NA.out).mono ?_
  rintro e w1 ⟨t1, g1, rfl, ⟨hs, hcap1⟩, hk⟩
  clear hcap1
  clear c00 c01 c02 S0
  go_upto_region 3 with fail
  obtain ⟨X1, hX⟩ : ∃ X, X = w1.alloc (.cells #[.bool rA.neg, .slice t1 rA.mag.length g1, .int .i64 rA.exp] 24) := ⟨_, rfl⟩
  obtain ⟨p1, hp⟩ : ∃ p, p = w1.heap.size := ⟨_, rfl⟩
  have kX : Kept X0 X1 := by rw [hX]; exact hk.alloc _ _
  have Q1 : Hid (∀ u, Kept X1 u → Lay u (p1) t1 g1 rA ∧ Lay u (w.heap.size) q1 d1 m1) := fun u k => ⟨by rw [hp]; rw [hX] at k; exact lay_alloc hs k, Q0.out u (kX.trans k)⟩
  have k1 : Hid (Kept w X1) := k0.out.trans kX
  rw [← hX, ← hp]
  clear hX hp hs hk kX Q0 k0
  obtain ⟨⟨⟨c00, c01⟩, c02⟩, hs0⟩ := (Q1.out _ (Kept.refl _)).1
  have S0 : Hid _ := hs0
  clear hs0
  go_wp2_with fail
  refine (R1.out _ _ _ (HT.out _ k1.out) S0.out).mono ?_
  rintro e X2 ⟨rfl, hk⟩
  clear c00 c01 c02 S0
  have Q2 : Hid (∀ u, Kept X2 u → Lay u (p1) t1 g1 rA ∧ Lay u (w.heap.size) q1 d1 m1) := fun u k => Q1.out u (hk.trans k)
  have k2 : Hid (Kept w X2) := k1.out.trans hk
  clear hk Q1 k1
  go_upto_region 4 with fail
  obtain ⟨⟨⟨c00, c01⟩, c02⟩, hs0⟩ := (Q2.out _ (Kept.refl _)).1
  have S0 : Hid _ := hs0
  clear hs0
  go_wp2_with fail
  refine (R2.out _ _ _ (HT.out _ k2.out) S0.out).mono ?_
  rintro e X3 ⟨rfl, hk⟩
  clear c00 c01 c02 S0
  have Q3 : Hid (∀ u, Kept X3 u → Lay u (p1) t1 g1 rA ∧ Lay u (w.heap.size) q1 d1 m1) := fun u k => Q2.out u (hk.trans k)
  have k3 : Hid (Kept w X3) := k2.out.trans hk
  clear hk Q2 k2
  go_upto_region 5 with fail
  obtain ⟨⟨⟨c00, c01⟩, c02⟩, hs0⟩ := (Q3.out _ (Kept.refl _)).1
  have S0 : Hid _ := hs0
  clear hs0
  go_wp2_with fail
  refine (R3.out _ _ _ (HT.out _ k3.out) S0.out).mono ?_
  rintro e X4 ⟨rfl, hk⟩
  clear c00 c01 c02 S0
  have Q4 : Hid (∀ u, Kept X4 u → Lay u (p1) t1 g1 rA ∧ Lay u (w.heap.size) q1 d1 m1) := fun u k => Q3.out u (hk.trans k)
  have k4 : Hid (Kept w X4) := k3.out.trans hk
  clear hk Q3 k3
  go_upto_region 6 with fail
  go_wp2_with fail
  refine (alive_true _ (HT.out _ k4.out)).mono ?_
  rintro e X5 ⟨rfl, hk⟩
  have Q5 : Hid (∀ u, Kept X5 u → Lay u (p1) t1 g1 rA ∧ Lay u (w.heap.size) q1 d1 m1) := fun u k => Q4.out u (hk.trans k)
  have k5 : Hid (Kept w X5) := k4.out.trans hk
  clear hk Q4 k4
  obtain ⟨⟨⟨c00, c01⟩, c02⟩, hs0⟩ := (Q5.out _ (Kept.refl _)).1
  have S0 : Hid _ := hs0
  clear hs0
  go_wp2_with fail
  refine (O1.out _ _ _ (HT.out _ k5.out) S0.out).mono ?_
  rintro e X6 ⟨rfl, hk⟩
  clear c00 c01 c02 S0
  have Q6 : Hid (∀ u, Kept X6 u → Lay u (p1) t1 g1 rA ∧ Lay u (w.heap.size) q1 d1 m1) := fun u k => Q5.out u (hk.trans k)
  have k6 : Hid (Kept w X6) := k5.out.trans hk
  clear hk Q5 k5
  obtain ⟨⟨⟨c00, c01⟩, c02⟩, hs0⟩ := (Q6.out _ (Kept.refl _)).1
  have S0 : Hid _ := hs0
  clear hs0
  go_wp2_with fail
  refine (O2.out _ _ _ (HT.out _ k6.out) S0.out).mono ?_
  rintro e X7 ⟨rfl, hk⟩
  clear c00 c01 c02 S0
  have Q7 : Hid (∀ u, Kept X7 u → Lay u (p1) t1 g1 rA ∧ Lay u (w.heap.size) q1 d1 m1) := fun u k => Q6.out u (hk.trans k)
  have k7 : Hid (Kept w X7) := k6.out.trans hk
  clear hk Q6 k6
  go_upto_region 10 with fail
  obtain ⟨⟨⟨c00, c01⟩, c02⟩, hs0⟩ := (Q7.out _ (Kept.refl _)).1
  have S0 : Hid _ := hs0
  clear hs0
  go_wp2_with fail
  refine (O1.out _ _ _ (HT.out _ k7.out) S0.out).mono ?_
  rintro e X8 ⟨rfl, hk⟩
  clear c00 c01 c02 S0
  have Q8 : Hid (∀ u, Kept X8 u → Lay u (p1) t1 g1 rA ∧ Lay u (w.heap.size) q1 d1 m1) := fun u k => Q7.out u (hk.trans k)
  have k8 : Hid (Kept w X8) := k7.out.trans hk
  clear hk Q7 k7
  go_wp2_with fail
  refine (KX.out _).mono ?_
  rintro e X9 ⟨rfl, hk⟩
  have Q9 : Hid (∀ u, Kept X9 u → Lay u (p1) t1 g1 rA ∧ Lay u (w.heap.size) q1 d1 m1) := fun u k => Q8.out u (hk.trans k)
  have k9 : Hid (Kept w X9) := k8.out.trans hk
  clear hk Q8 k8
  go_wp2_with fail
  refine (KC.out _).mono ?_
  rintro e X10 ⟨rfl, hk⟩
  have Q10 : Hid (∀ u, Kept X10 u → Lay u (p1) t1 g1 rA ∧ Lay u (w.heap.size) q1 d1 m1) := fun u k => Q9.out u (hk.trans k)
  have k10 : Hid (Kept w X10) := k9.out.trans hk
  clear hk Q9 k9
  go_upto_region 12 with fail
  go_wp2_with fail
  refine (F1.out _ (HT.out _ k10.out)).mono ?_
  rintro e w11 ⟨t11, g11, rfl, hs, hk⟩
  go_upto_region 13 with fail
  obtain ⟨X11, hX⟩ : ∃ X, X = w11.alloc (.cells #[.bool rP.neg, .slice t11 rP.mag.length g11, .int .i64 rP.exp] 24) := ⟨_, rfl⟩
  obtain ⟨p11, hp⟩ : ∃ p, p = w11.heap.size := ⟨_, rfl⟩
  have kX : Kept X10 X11 := by rw [hX]; exact hk.alloc _ _
  have Q11 : Hid (∀ u, Kept X11 u → Lay u (p11) t11 g11 rP ∧ Lay u (p1) t1 g1 rA ∧ Lay u (w.heap.size) q1 d1 m1) := fun u k => ⟨by rw [hp]; rw [hX] at k; exact lay_alloc hs k, Q10.out u (kX.trans k)⟩
  have k11 : Hid (Kept w X11) := k10.out.trans kX
  rw [← hX, ← hp]
  clear hX hp hs hk kX Q10 k10
  go_wp2_with fail
  refine (F2.out _ (HT.out _ k11.out)).mono ?_
  rintro e w12 ⟨t12, g12, rfl, hs, hk⟩
  go_upto_region 14 with fail
  obtain ⟨X12, hX⟩ : ∃ X, X = w12.alloc (.cells #[.bool rQ.neg, .slice t12 rQ.mag.length g12, .int .i64 rQ.exp] 24) := ⟨_, rfl⟩
  obtain ⟨p12, hp⟩ : ∃ p, p = w12.heap.size := ⟨_, rfl⟩
  have kX : Kept X11 X12 := by rw [hX]; exact hk.alloc _ _
  have Q12 : Hid (∀ u, Kept X12 u → Lay u (p12) t12 g12 rQ ∧ Lay u (p11) t11 g11 rP ∧ Lay u (p1) t1 g1 rA ∧ Lay u (w.heap.size) q1 d1 m1) := fun u k => ⟨by rw [hp]; rw [hX] at k; exact lay_alloc hs k, Q11.out u (kX.trans k)⟩
  have k12 : Hid (Kept w X12) := k11.out.trans kX
  rw [← hX, ← hp]
  clear hX hp hs hk kX Q11 k11
  go_upto_region 16 with fail
  obtain ⟨⟨⟨c00, c01⟩, c02⟩, hs0⟩ := (Q12.out _ (Kept.refl _)).2.2.1
  have S0 : Hid _ := hs0
  clear hs0
  obtain ⟨⟨⟨c10, c11⟩, c12⟩, hs1⟩ := (Q12.out _ (Kept.refl _)).2.1
  have S1' : Hid _ := hs1
  clear hs1
  go_wp2_with fail
  refine (S1.out _ _ _ _ _ (HT.out _ k12.out) S0.out S1'.out).mono ?_
  rintro e w13 ⟨t13, g13, rfl, hs, hk⟩
  clear c00 c01 c02 S0 c10 c11 c12 S1'
  go_upto_region 17 with fail
  obtain ⟨X13, hX⟩ : ∃ X, X = w13.alloc (.cells #[.bool rL.neg, .slice t13 rL.mag.length g13, .int .i64 rL.exp] 24) := ⟨_, rfl⟩
  obtain ⟨p13, hp⟩ : ∃ p, p = w13.heap.size := ⟨_, rfl⟩
  have kX : Kept X12 X13 := by rw [hX]; exact hk.alloc _ _
  have Q13 : Hid (∀ u, Kept X13 u → Lay u (p13) t13 g13 rL ∧ Lay u (p12) t12 g12 rQ ∧ Lay u (p11) t11 g11 rP ∧ Lay u (p1) t1 g1 rA ∧ Lay u (w.heap.size) q1 d1 m1) := fun u k => ⟨by rw [hp]; rw [hX] at k; exact lay_alloc hs k, Q12.out u (kX.trans k)⟩
  have k13 : Hid (Kept w X13) := k12.out.trans kX
  rw [← hX, ← hp]
  clear hX hp hs hk kX Q12 k12
  obtain ⟨⟨⟨c00, c01⟩, c02⟩, hs0⟩ := (Q13.out _ (Kept.refl _)).2.1
  have S0 : Hid _ := hs0
  clear hs0
  obtain ⟨⟨⟨c10, c11⟩, c12⟩, hs1⟩ := (Q13.out _ (Kept.refl _)).2.2.2.1
  have S1' : Hid _ := hs1
  clear hs1
  go_wp2_with fail
  refine (S2.out _ _ _ _ _ (HT.out _ k13.out) S0.out S1'.out).mono ?_
  rintro e w14 ⟨t14, g14, rfl, hs, hk⟩
  clear c00 c01 c02 S0 c10 c11 c12 S1'
  go_upto_region 18 with fail
  obtain ⟨X14, hX⟩ : ∃ X, X = w14.alloc (.cells #[.bool rH.neg, .slice t14 rH.mag.length g14, .int .i64 rH.exp] 24) := ⟨_, rfl⟩
  obtain ⟨p14, hp⟩ : ∃ p, p = w14.heap.size := ⟨_, rfl⟩
  have kX : Kept X13 X14 := by rw [hX]; exact hk.alloc _ _
  have Q14 : Hid (∀ u, Kept X14 u → Lay u (p14) t14 g14 rH ∧ Lay u (p13) t13 g13 rL ∧ Lay u (p12) t12 g12 rQ ∧ Lay u (p11) t11 g11 rP ∧ Lay u (p1) t1 g1 rA ∧ Lay u (w.heap.size) q1 d1 m1) := fun u k => ⟨by rw [hp]; rw [hX] at k; exact lay_alloc hs k, Q13.out u (kX.trans k)⟩
  have k14 : Hid (Kept w X14) := k13.out.trans kX
  rw [← hX, ← hp]
  clear hX hp hs hk kX Q13 k13
  obtain ⟨⟨⟨c00, c01⟩, c02⟩, hs0⟩ := (Q14.out _ (Kept.refl _)).2.1
  have S0 : Hid _ := hs0
  clear hs0
  obtain ⟨⟨⟨c10, c11⟩, c12⟩, hs1⟩ := (Q14.out _ (Kept.refl _)).1
  have S1' : Hid _ := hs1
  clear hs1
  go_wp2_with fail
  refine (C.out _ _ _ _ _ S0.out S1'.out).mono ?_
  rintro e X15 ⟨rfl, hk⟩
  clear c00 c01 c02 S0 c10 c11 c12 S1'
  have Q15 : Hid (∀ u, Kept X15 u → Lay u (p14) t14 g14 rH ∧ Lay u (p13) t13 g13 rL ∧ Lay u (p12) t12 g12 rQ ∧ Lay u (p11) t11 g11 rP ∧ Lay u (p1) t1 g1 rA ∧ Lay u (w.heap.size) q1 d1 m1) := fun u k => Q14.out u (hk.trans k)
  have k15 : Hid (Kept w X15) := k14.out.trans hk
  clear hk Q14 k14
  go_wp2
  go_ret
  exact ⟨rfl, k15.out⟩

end Go.Proofs.YtbheglkpmgmkoaaDoor
