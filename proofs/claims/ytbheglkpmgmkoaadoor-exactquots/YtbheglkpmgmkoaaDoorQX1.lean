/- The walks of the statement on quotients. The walks of the statement on quotients. The walks of the statement on quotients. The walks of the statement on quotients. The walks of the statement on quotients. The walks of the statement on quotients. The walks of the statement on quotients. -/
import Derived.Test.YtbheglkpmgmkoaaDoorQT7
import Derived.Test.YtbheglkpmgmkoaaDoorMR2
namespace Go.Proofs.YtbheglkpmgmkoaaDoor
open Go.ChangeShapes Go.WideShapes Go.ChangeAt Go.RowKit
set_option linter.unusedVariables false
set_option linter.unusedSimpArgs false

set_option maxHeartbeats 8000000 in
set_option maxRecDepth 100000 in
theorem quots_zero (w : World) (hT : Tab w) (m1 : Nm) (q1 : Option Addr) (d1 : Nat) (hl1 : m1.mag.length ≤ 9223372036854775807) (h1 : Sl w (.slice q1 m1.mag.length d1) m1.mag) (rA : Nm) (hrA : frm m1.neg (nv (msk m1.mag (min m1.mag.length 20))) (m1.exp.tmod 1300) = some rA) (m2 : Nm) (q2 : Option Addr) (d2 : Nat) (hl2 : m2.mag.length ≤ 9223372036854775807) (h2 : Sl w (.slice q2 m2.mag.length d2) m2.mag) (rB : Nm) (hrB : frm m2.neg (nv (msk m2.mag (min m2.mag.length 20))) (m2.exp.tmod 1300) = some rB) (v n b1 b2 : Int) (y1 : bits .and .i64 v 1 = b1) (y2 : IntKind.i64.wrap (32 * b1) = b2) (y3 : IntKind.i64.wrap (32 + b2) = n) (hbz : rB.mag.length = 0) 
    (R1 : Hid (∀ X a1 c1 a2 c2, Tab X → Sl X (.slice a1 rA.mag.length c1) rA.mag → Sl X (.slice a2 rB.mag.length c2) rB.mag → Calls Tryd.prog 22 #[.agg #[.bool rA.neg, .slice a1 rA.mag.length c1, .int .i64 rA.exp], .agg #[.bool false, .slice a2 rB.mag.length c2, .int .i64 rB.exp], .int .i64 n, .int .i64 0] X fun e w' => e = .returned (.tuple #[.int .i64 0, .bool false, .int .i64 8]) ∧ Kept X w')) :
    Calls Tryd.prog 6 #[.agg #[.bool m1.neg, .slice q1 m1.mag.length d1, .int .i64 m1.exp], .agg #[.bool m2.neg, .slice q2 m2.mag.length d2, .int .i64 m2.exp], .int .i64 v] w fun e w' => e = .returned (.bool true) ∧ Kept w w' := by
  have HT : Hid (∀ u, Kept w u → Tab u) := fun u k => hT.kept k
  have NA : Hid (frm m1.neg (nv (msk m1.mag (min m1.mag.length 20))) (m1.exp.tmod 1300) = some rA) := hrA
  have NB : Hid (frm m2.neg (nv (msk m2.mag (min m2.mag.length 20))) (m2.exp.tmod 1300) = some rB) := hrB
  have LL : Hid (m1.mag.length ≤ 9223372036854775807 ∧ m2.mag.length ≤ 9223372036854775807) := ⟨hl1, hl2⟩
  have hbi : ((rB.mag.length : Int) == 0) = true := by rw [hbz]; rfl
  have hbn : rB.mag = [] := by exact List.length_eq_zero_iff.1 hbz
  obtain ⟨X0, hX⟩ : ∃ X, X = ((w.alloc (.cells #[.bool m1.neg, .slice q1 m1.mag.length d1, .int .i64 m1.exp] 24)).alloc (.cells #[.bool m2.neg, .slice q2 m2.mag.length d2, .int .i64 m2.exp] 24)) := ⟨_, rfl⟩
  have k0 : Hid (Kept w X0) := by rw [hX]; exact ((Kept.refl w).alloc _ _).alloc _ _
  have Q0 : Hid (∀ u, Kept X0 u → Lay u (w.heap.size + 1) q2 d2 m2 ∧ Lay u w.heap.size q1 d1 m1) := by
    intro u k
    have kw := k0.out.trans k
    rw [hX] at k
    refine ⟨⟨⟨⟨?_, ?_⟩, ?_⟩, h2.kept kw⟩, ⟨⟨⟨?_, ?_⟩, ?_⟩, h1.kept kw⟩⟩
    · exact (k.below.cell (p := ⟨w.heap.size + 1, 0, none⟩) (by simp <;> omega)).trans (by simp [go_sem])
    · exact (k.below.cell (p := ⟨w.heap.size + 1, 1, none⟩) (by simp <;> omega)).trans (by simp [go_sem])
    · exact (k.below.cell (p := ⟨w.heap.size + 1, 2, none⟩) (by simp <;> omega)).trans (by simp [go_sem])
    · exact (k.below.cell (p := ⟨w.heap.size, 0, none⟩) (by simp <;> omega)).trans (by simp [go_sem])
    · exact (k.below.cell (p := ⟨w.heap.size, 1, none⟩) (by simp <;> omega)).trans (by simp [go_sem])
    · exact (k.below.cell (p := ⟨w.heap.size, 2, none⟩) (by simp <;> omega)).trans (by simp [go_sem])
  have HBZ : Hid (rB.mag = []) := hbn
  clear hbn hbz
  clear hT hrA hrB hl1 hl2 h1 h2
  go_enter Tryd.func6, Tryd.ntmps6
  go_upto_region 2 with fail
  rw [← hX]
  clear hX
  obtain ⟨⟨⟨c00, c01⟩, c02⟩, hs0⟩ := (Q0.out _ (Kept.refl _)).2
  have S0 : Hid _ := hs0
  clear hs0
  go_wp2_with fail
  refine (numc_any m1.neg m1.mag m1.exp _ _ LL.out.1 _ (HT.out _ k0.out) S0.out _ NA.out).mono ?_
  rintro e w1 ⟨t1, g1, rfl, ⟨hs, hcap1⟩, hk⟩
  clear hcap1
  clear c00 c01 c02 S0
  go_upto_region 3 with fail
  obtain ⟨X1, hX⟩ : ∃ X, X = w1.alloc (.cells #[.bool rA.neg, .slice t1 rA.mag.length g1, .int .i64 rA.exp] 24) := ⟨_, rfl⟩
  obtain ⟨p1, hp⟩ : ∃ p, p = w1.heap.size := ⟨_, rfl⟩
  have kX : Kept X0 X1 := by rw [hX]; exact hk.alloc _ _
  have Q1 : Hid (∀ u, Kept X1 u → Lay u (p1) t1 g1 rA ∧ Lay u (w.heap.size + 1) q2 d2 m2 ∧ Lay u (w.heap.size) q1 d1 m1) := fun u k => ⟨by rw [hp]; rw [hX] at k; exact lay_alloc hs k, Q0.out u (kX.trans k)⟩
  have k1 : Hid (Kept w X1) := k0.out.trans kX
  rw [← hX, ← hp]
  clear hX hp hs hk kX Q0 k0
  obtain ⟨⟨⟨c00, c01⟩, c02⟩, hs0⟩ := (Q1.out _ (Kept.refl _)).2.1
  have S0 : Hid _ := hs0
  clear hs0
  go_wp2_with fail
  refine (numc_any m2.neg m2.mag m2.exp _ _ LL.out.2 _ (HT.out _ k1.out) S0.out _ NB.out).mono ?_
  rintro e w2 ⟨t2, g2, rfl, ⟨hs, hcap2⟩, hk⟩
  clear hcap2
  clear c00 c01 c02 S0
  go_upto_region 5 with fail
  obtain ⟨X2, hX⟩ : ∃ X, X = w2.alloc (.cells #[.bool false, .slice t2 rB.mag.length g2, .int .i64 rB.exp] 24) := ⟨_, rfl⟩
  obtain ⟨p2, hp⟩ : ∃ p, p = w2.heap.size := ⟨_, rfl⟩
  have kX : Kept X1 X2 := by rw [hX]; exact hk.alloc _ _
  have Q2 : Hid (∀ u, Kept X2 u → Lay u (p2) t2 g2 ⟨false, rB.mag, rB.exp⟩ ∧ Lay u (p1) t1 g1 rA ∧ Lay u (w.heap.size + 1) q2 d2 m2 ∧ Lay u (w.heap.size) q1 d1 m1) := fun u k => ⟨by rw [hp]; rw [hX] at k; exact lay_alloc (r := ⟨false, rB.mag, rB.exp⟩) hs k, Q1.out u (kX.trans k)⟩
  have k2 : Hid (Kept w X2) := k1.out.trans kX
  rw [← hX, ← hp]
  clear hX hp hs hk kX Q1 k1
  obtain ⟨⟨⟨c00, c01⟩, c02⟩, hs0⟩ := (Q2.out _ (Kept.refl _)).1
  have S0 : Hid _ := hs0
  clear hs0
  go_upto_region 6 with fail
  clear c00 c01 c02 S0
  obtain ⟨⟨⟨c00, c01⟩, c02⟩, hs0⟩ := (Q2.out _ (Kept.refl _)).2.1
  have S0 : Hid _ := hs0
  clear hs0
  obtain ⟨⟨⟨c10, c11⟩, c12⟩, hs1⟩ := (Q2.out _ (Kept.refl _)).1
  have S1' : Hid _ := hs1
  clear hs1
  go_wp2_with fail
  refine (R1.out _ _ _ _ _ (HT.out _ k2.out) S0.out S1'.out).mono ?_
  rintro e X3 ⟨rfl, hk⟩
  clear c00 c01 c02 S0 c10 c11 c12 S1'
  have Q3 : Hid (∀ u, Kept X3 u → Lay u (p2) t2 g2 ⟨false, rB.mag, rB.exp⟩ ∧ Lay u (p1) t1 g1 rA ∧ Lay u (w.heap.size + 1) q2 d2 m2 ∧ Lay u (w.heap.size) q1 d1 m1) := fun u k => Q2.out u (hk.trans k)
  have k3 : Hid (Kept w X3) := k2.out.trans hk
  clear hk Q2 k2
  go_upto_region 7 with fail
  go_wp2_with fail
  refine (alive_true _ (HT.out _ k3.out)).mono ?_
  rintro e X4 ⟨rfl, hk⟩
  have Q4 : Hid (∀ u, Kept X4 u → Lay u (p2) t2 g2 ⟨false, rB.mag, rB.exp⟩ ∧ Lay u (p1) t1 g1 rA ∧ Lay u (w.heap.size + 1) q2 d2 m2 ∧ Lay u (w.heap.size) q1 d1 m1) := fun u k => Q3.out u (hk.trans k)
  have k4 : Hid (Kept w X4) := k3.out.trans hk
  clear hk Q3 k3
  go_wp2
  go_ret
  exact ⟨rfl, k4.out⟩

end Go.Proofs.YtbheglkpmgmkoaaDoor

namespace Go.Proofs.YtbheglkpmgmkoaaDoor
open Go.ChangeShapes Go.WideShapes Go.ChangeAt Go.RowKit
set_option linter.unusedVariables false
set_option linter.unusedSimpArgs false

set_option maxHeartbeats 8000000 in
set_option maxRecDepth 100000 in
theorem quots_ff_false (w : World) (hT : Tab w) (m1 : Nm) (q1 : Option Addr) (d1 : Nat) (hl1 : m1.mag.length ≤ 9223372036854775807) (h1 : Sl w (.slice q1 m1.mag.length d1) m1.mag) (rA : Nm) (hrA : frm m1.neg (nv (msk m1.mag (min m1.mag.length 20))) (m1.exp.tmod 1300) = some rA) (m2 : Nm) (q2 : Option Addr) (d2 : Nat) (hl2 : m2.mag.length ≤ 9223372036854775807) (h2 : Sl w (.slice q2 m2.mag.length d2) m2.mag) (rB : Nm) (hrB : frm m2.neg (nv (msk m2.mag (min m2.mag.length 20))) (m2.exp.tmod 1300) = some rB) (rP rPP : Nm) (rQ rQQ : Nm) (v n b1 b2 z1 zx : Int) (y1 : bits .and .i64 v 1 = b1) (y2 : IntKind.i64.wrap (32 * b1) = b2) (y3 : IntKind.i64.wrap (32 + b2) = n) (hbz : ¬ rB.mag.length = 0) 
    (R1 : Hid (∀ X a1 c1 a2 c2, Tab X → Sl X (.slice a1 rA.mag.length c1) rA.mag → Sl X (.slice a2 rB.mag.length c2) rB.mag → Calls Tryd.prog 22 #[.agg #[.bool rA.neg, .slice a1 rA.mag.length c1, .int .i64 rA.exp], .agg #[.bool false, .slice a2 rB.mag.length c2, .int .i64 rB.exp], .int .i64 n, .int .i64 1] X fun e w' => e = .returned (.tuple #[.int .i64 z1, .bool false, .int .i64 0]) ∧ Kept X w'))
    (KX : Hid (∀ u, Calls Tryd.prog 14 #[.int .i64 z1, .int .i64 n] u fun e w' => e = .returned (.int .i64 zx) ∧ Kept u w'))
    (F1 : Hid (∀ u, Tab u → Calls Tryd.prog 15 #[.int .i64 z1, .int .i64 n] u fun e w' => ∃ ao c, e = .returned (.tuple #[.agg #[.bool rP.neg, .slice ao rP.mag.length c, .int .i64 rP.exp], .int .i64 0]) ∧ Sl w' (.slice ao rP.mag.length c) rP.mag ∧ Kept u w'))
    (F2 : Hid (∀ u, Tab u → Calls Tryd.prog 15 #[.int .i64 zx, .int .i64 n] u fun e w' => ∃ ao c, e = .returned (.tuple #[.agg #[.bool rQ.neg, .slice ao rQ.mag.length c, .int .i64 rQ.exp], .int .i64 0]) ∧ Sl w' (.slice ao rQ.mag.length c) rQ.mag ∧ Kept u w'))
    (M1 : Hid (∀ X a1 c1 a2 c2, Tab X → Sl X (.slice a1 rP.mag.length c1) rP.mag → Sl X (.slice a2 rB.mag.length c2) rB.mag → Calls Tryd.prog 23 #[.agg #[.bool rP.neg, .slice a1 rP.mag.length c1, .int .i64 rP.exp], .agg #[.bool false, .slice a2 rB.mag.length c2, .int .i64 rB.exp]] X fun e w' => ∃ ao c, e = .returned (.tuple #[.agg #[.bool rPP.neg, .slice ao rPP.mag.length c, .int .i64 rPP.exp], .int .i64 0]) ∧ Sl w' (.slice ao rPP.mag.length c) rPP.mag ∧ Kept X w'))
    (C1 : Hid (∀ X a1 c1 a2 c2, Sl X (.slice a1 rPP.mag.length c1) rPP.mag → Sl X (.slice a2 rA.mag.length c2) rA.mag → Calls Tryd.prog 17 #[.agg #[.bool rPP.neg, .slice a1 rPP.mag.length c1, .int .i64 rPP.exp], .agg #[.bool rA.neg, .slice a2 rA.mag.length c2, .int .i64 rA.exp]] X fun e w' => e = .returned (.tuple #[.int .i64 0, .int .i64 0]) ∧ Kept X w'))
    (M2 : Hid (∀ X a1 c1 a2 c2, Tab X → Sl X (.slice a1 rQ.mag.length c1) rQ.mag → Sl X (.slice a2 rB.mag.length c2) rB.mag → Calls Tryd.prog 23 #[.agg #[.bool rQ.neg, .slice a1 rQ.mag.length c1, .int .i64 rQ.exp], .agg #[.bool false, .slice a2 rB.mag.length c2, .int .i64 rB.exp]] X fun e w' => ∃ ao c, e = .returned (.tuple #[.agg #[.bool rQQ.neg, .slice ao rQQ.mag.length c, .int .i64 rQQ.exp], .int .i64 0]) ∧ Sl w' (.slice ao rQQ.mag.length c) rQQ.mag ∧ Kept X w'))
    (C2 : Hid (∀ X a1 c1 a2 c2, Sl X (.slice a1 rQQ.mag.length c1) rQQ.mag → Sl X (.slice a2 rA.mag.length c2) rA.mag → Calls Tryd.prog 17 #[.agg #[.bool rQQ.neg, .slice a1 rQQ.mag.length c1, .int .i64 rQQ.exp], .agg #[.bool rA.neg, .slice a2 rA.mag.length c2, .int .i64 rA.exp]] X fun e w' => e = .returned (.tuple #[.int .i64 1, .int .i64 0]) ∧ Kept X w')) :
    Calls Tryd.prog 6 #[.agg #[.bool m1.neg, .slice q1 m1.mag.length d1, .int .i64 m1.exp], .agg #[.bool m2.neg, .slice q2 m2.mag.length d2, .int .i64 m2.exp], .int .i64 v] w fun e w' => e = .returned (.bool true) ∧ Kept w w' := by
  have HT : Hid (∀ u, Kept w u → Tab u) := fun u k => hT.kept k
  have NA : Hid (frm m1.neg (nv (msk m1.mag (min m1.mag.length 20))) (m1.exp.tmod 1300) = some rA) := hrA
  have NB : Hid (frm m2.neg (nv (msk m2.mag (min m2.mag.length 20))) (m2.exp.tmod 1300) = some rB) := hrB
  have LL : Hid (m1.mag.length ≤ 9223372036854775807 ∧ m2.mag.length ≤ 9223372036854775807) := ⟨hl1, hl2⟩
  have hbi : ((rB.mag.length : Int) == 0) = false := by rw [beq_eq_false_iff_ne]; omega
  have hbn : ¬ rB.mag = [] := by intro hx; rw [hx] at hbz; exact hbz rfl
  obtain ⟨X0, hX⟩ : ∃ X, X = ((w.alloc (.cells #[.bool m1.neg, .slice q1 m1.mag.length d1, .int .i64 m1.exp] 24)).alloc (.cells #[.bool m2.neg, .slice q2 m2.mag.length d2, .int .i64 m2.exp] 24)) := ⟨_, rfl⟩
  have k0 : Hid (Kept w X0) := by rw [hX]; exact ((Kept.refl w).alloc _ _).alloc _ _
  have Q0 : Hid (∀ u, Kept X0 u → Lay u (w.heap.size + 1) q2 d2 m2 ∧ Lay u w.heap.size q1 d1 m1) := by
    intro u k
    have kw := k0.out.trans k
    rw [hX] at k
    refine ⟨⟨⟨⟨?_, ?_⟩, ?_⟩, h2.kept kw⟩, ⟨⟨⟨?_, ?_⟩, ?_⟩, h1.kept kw⟩⟩
    · exact (k.below.cell (p := ⟨w.heap.size + 1, 0, none⟩) (by simp <;> omega)).trans (by simp [go_sem])
    · exact (k.below.cell (p := ⟨w.heap.size + 1, 1, none⟩) (by simp <;> omega)).trans (by simp [go_sem])
    · exact (k.below.cell (p := ⟨w.heap.size + 1, 2, none⟩) (by simp <;> omega)).trans (by simp [go_sem])
    · exact (k.below.cell (p := ⟨w.heap.size, 0, none⟩) (by simp <;> omega)).trans (by simp [go_sem])
    · exact (k.below.cell (p := ⟨w.heap.size, 1, none⟩) (by simp <;> omega)).trans (by simp [go_sem])
    · exact (k.below.cell (p := ⟨w.heap.size, 2, none⟩) (by simp <;> omega)).trans (by simp [go_sem])
  clear hT hrA hrB hl1 hl2 h1 h2
  go_enter Tryd.func6, Tryd.ntmps6
  go_upto_region 2 with fail
  rw [← hX]
  clear hX
  obtain ⟨⟨⟨c00, c01⟩, c02⟩, hs0⟩ := (Q0.out _ (Kept.refl _)).2
  have S0 : Hid _ := hs0
  clear hs0
  go_wp2_with fail
  refine (numc_any m1.neg m1.mag m1.exp _ _ LL.out.1 _ (HT.out _ k0.out) S0.out _ NA.out).mono ?_
  rintro e w1 ⟨t1, g1, rfl, ⟨hs, hcap1⟩, hk⟩
  clear hcap1
  clear c00 c01 c02 S0
  go_upto_region 3 with fail
  obtain ⟨X1, hX⟩ : ∃ X, X = w1.alloc (.cells #[.bool rA.neg, .slice t1 rA.mag.length g1, .int .i64 rA.exp] 24) := ⟨_, rfl⟩
  obtain ⟨p1, hp⟩ : ∃ p, p = w1.heap.size := ⟨_, rfl⟩
  have kX : Kept X0 X1 := by rw [hX]; exact hk.alloc _ _
  have Q1 : Hid (∀ u, Kept X1 u → Lay u (p1) t1 g1 rA ∧ Lay u (w.heap.size + 1) q2 d2 m2 ∧ Lay u (w.heap.size) q1 d1 m1) := fun u k => ⟨by rw [hp]; rw [hX] at k; exact lay_alloc hs k, Q0.out u (kX.trans k)⟩
  have k1 : Hid (Kept w X1) := k0.out.trans kX
  rw [← hX, ← hp]
  clear hX hp hs hk kX Q0 k0
  obtain ⟨⟨⟨c00, c01⟩, c02⟩, hs0⟩ := (Q1.out _ (Kept.refl _)).2.1
  have S0 : Hid _ := hs0
  clear hs0
  go_wp2_with fail
  refine (numc_any m2.neg m2.mag m2.exp _ _ LL.out.2 _ (HT.out _ k1.out) S0.out _ NB.out).mono ?_
  rintro e w2 ⟨t2, g2, rfl, ⟨hs, hcap2⟩, hk⟩
  clear hcap2
  clear c00 c01 c02 S0
  go_upto_region 5 with fail
  obtain ⟨X2, hX⟩ : ∃ X, X = w2.alloc (.cells #[.bool false, .slice t2 rB.mag.length g2, .int .i64 rB.exp] 24) := ⟨_, rfl⟩
  obtain ⟨p2, hp⟩ : ∃ p, p = w2.heap.size := ⟨_, rfl⟩
  have kX : Kept X1 X2 := by rw [hX]; exact hk.alloc _ _
  have Q2 : Hid (∀ u, Kept X2 u → Lay u (p2) t2 g2 ⟨false, rB.mag, rB.exp⟩ ∧ Lay u (p1) t1 g1 rA ∧ Lay u (w.heap.size + 1) q2 d2 m2 ∧ Lay u (w.heap.size) q1 d1 m1) := fun u k => ⟨by rw [hp]; rw [hX] at k; exact lay_alloc (r := ⟨false, rB.mag, rB.exp⟩) hs k, Q1.out u (kX.trans k)⟩
  have k2 : Hid (Kept w X2) := k1.out.trans kX
  rw [← hX, ← hp]
  clear hX hp hs hk kX Q1 k1
  obtain ⟨⟨⟨c00, c01⟩, c02⟩, hs0⟩ := (Q2.out _ (Kept.refl _)).1
  have S0 : Hid _ := hs0
  clear hs0
  go_upto_region 8 with fail
  clear c00 c01 c02 S0
  obtain ⟨⟨⟨c00, c01⟩, c02⟩, hs0⟩ := (Q2.out _ (Kept.refl _)).2.1
  have S0 : Hid _ := hs0
  clear hs0
  obtain ⟨⟨⟨c10, c11⟩, c12⟩, hs1⟩ := (Q2.out _ (Kept.refl _)).1
  have S1' : Hid _ := hs1
  clear hs1
  go_wp2_with fail
  refine (R1.out _ _ _ _ _ (HT.out _ k2.out) S0.out S1'.out).mono ?_
  rintro e X3 ⟨rfl, hk⟩
  clear c00 c01 c02 S0 c10 c11 c12 S1'
  have Q3 : Hid (∀ u, Kept X3 u → Lay u (p2) t2 g2 ⟨false, rB.mag, rB.exp⟩ ∧ Lay u (p1) t1 g1 rA ∧ Lay u (w.heap.size + 1) q2 d2 m2 ∧ Lay u (w.heap.size) q1 d1 m1) := fun u k => Q2.out u (hk.trans k)
  have k3 : Hid (Kept w X3) := k2.out.trans hk
  clear hk Q2 k2
  go_upto_region 9 with fail
  go_wp2_with fail
  refine (alive_true _ (HT.out _ k3.out)).mono ?_
  rintro e X4 ⟨rfl, hk⟩
  have Q4 : Hid (∀ u, Kept X4 u → Lay u (p2) t2 g2 ⟨false, rB.mag, rB.exp⟩ ∧ Lay u (p1) t1 g1 rA ∧ Lay u (w.heap.size + 1) q2 d2 m2 ∧ Lay u (w.heap.size) q1 d1 m1) := fun u k => Q3.out u (hk.trans k)
  have k4 : Hid (Kept w X4) := k3.out.trans hk
  clear hk Q3 k3
  go_upto_region 11 with fail
  go_wp2_with fail
  refine (F1.out _ (HT.out _ k4.out)).mono ?_
  rintro e w5 ⟨t5, g5, rfl, hs, hk⟩
  go_upto_region 12 with fail
  obtain ⟨X5, hX⟩ : ∃ X, X = w5.alloc (.cells #[.bool rP.neg, .slice t5 rP.mag.length g5, .int .i64 rP.exp] 24) := ⟨_, rfl⟩
  obtain ⟨p5, hp⟩ : ∃ p, p = w5.heap.size := ⟨_, rfl⟩
  have kX : Kept X4 X5 := by rw [hX]; exact hk.alloc _ _
  have Q5 : Hid (∀ u, Kept X5 u → Lay u (p5) t5 g5 rP ∧ Lay u (p2) t2 g2 ⟨false, rB.mag, rB.exp⟩ ∧ Lay u (p1) t1 g1 rA ∧ Lay u (w.heap.size + 1) q2 d2 m2 ∧ Lay u (w.heap.size) q1 d1 m1) := fun u k => ⟨by rw [hp]; rw [hX] at k; exact lay_alloc hs k, Q4.out u (kX.trans k)⟩
  have k5 : Hid (Kept w X5) := k4.out.trans kX
  rw [← hX, ← hp]
  clear hX hp hs hk kX Q4 k4
  go_wp2_with fail
  refine (KX.out _).mono ?_
  rintro e X6 ⟨rfl, hk⟩
  have Q6 : Hid (∀ u, Kept X6 u → Lay u (p5) t5 g5 rP ∧ Lay u (p2) t2 g2 ⟨false, rB.mag, rB.exp⟩ ∧ Lay u (p1) t1 g1 rA ∧ Lay u (w.heap.size + 1) q2 d2 m2 ∧ Lay u (w.heap.size) q1 d1 m1) := fun u k => Q5.out u (hk.trans k)
  have k6 : Hid (Kept w X6) := k5.out.trans hk
  clear hk Q5 k5
  go_wp2_with fail
  refine (F2.out _ (HT.out _ k6.out)).mono ?_
  rintro e w7 ⟨t7, g7, rfl, hs, hk⟩
  go_upto_region 13 with fail
  obtain ⟨X7, hX⟩ : ∃ X, X = w7.alloc (.cells #[.bool rQ.neg, .slice t7 rQ.mag.length g7, .int .i64 rQ.exp] 24) := ⟨_, rfl⟩
  obtain ⟨p7, hp⟩ : ∃ p, p = w7.heap.size := ⟨_, rfl⟩
  have kX : Kept X6 X7 := by rw [hX]; exact hk.alloc _ _
  have Q7 : Hid (∀ u, Kept X7 u → Lay u (p7) t7 g7 rQ ∧ Lay u (p5) t5 g5 rP ∧ Lay u (p2) t2 g2 ⟨false, rB.mag, rB.exp⟩ ∧ Lay u (p1) t1 g1 rA ∧ Lay u (w.heap.size + 1) q2 d2 m2 ∧ Lay u (w.heap.size) q1 d1 m1) := fun u k => ⟨by rw [hp]; rw [hX] at k; exact lay_alloc hs k, Q6.out u (kX.trans k)⟩
  have k7 : Hid (Kept w X7) := k6.out.trans kX
  rw [← hX, ← hp]
  clear hX hp hs hk kX Q6 k6
  go_upto_region 14 with fail
  obtain ⟨⟨⟨c00, c01⟩, c02⟩, hs0⟩ := (Q7.out _ (Kept.refl _)).2.1
  have S0 : Hid _ := hs0
  clear hs0
  obtain ⟨⟨⟨c10, c11⟩, c12⟩, hs1⟩ := (Q7.out _ (Kept.refl _)).2.2.1
  have S1' : Hid _ := hs1
  clear hs1
  go_wp2_with fail
  refine (M1.out _ _ _ _ _ (HT.out _ k7.out) S0.out S1'.out).mono ?_
  rintro e w8 ⟨t8, g8, rfl, hs, hk⟩
  clear c00 c01 c02 S0 c10 c11 c12 S1'
  go_upto_region 15 with fail
  obtain ⟨X8, hX⟩ : ∃ X, X = w8.alloc (.cells #[.bool rPP.neg, .slice t8 rPP.mag.length g8, .int .i64 rPP.exp] 24) := ⟨_, rfl⟩
  obtain ⟨p8, hp⟩ : ∃ p, p = w8.heap.size := ⟨_, rfl⟩
  have kX : Kept X7 X8 := by rw [hX]; exact hk.alloc _ _
  have Q8 : Hid (∀ u, Kept X8 u → Lay u (p8) t8 g8 rPP ∧ Lay u (p7) t7 g7 rQ ∧ Lay u (p5) t5 g5 rP ∧ Lay u (p2) t2 g2 ⟨false, rB.mag, rB.exp⟩ ∧ Lay u (p1) t1 g1 rA ∧ Lay u (w.heap.size + 1) q2 d2 m2 ∧ Lay u (w.heap.size) q1 d1 m1) := fun u k => ⟨by rw [hp]; rw [hX] at k; exact lay_alloc hs k, Q7.out u (kX.trans k)⟩
  have k8 : Hid (Kept w X8) := k7.out.trans kX
  rw [← hX, ← hp]
  clear hX hp hs hk kX Q7 k7
  obtain ⟨⟨⟨c00, c01⟩, c02⟩, hs0⟩ := (Q8.out _ (Kept.refl _)).1
  have S0 : Hid _ := hs0
  clear hs0
  obtain ⟨⟨⟨c10, c11⟩, c12⟩, hs1⟩ := (Q8.out _ (Kept.refl _)).2.2.2.2.1
  have S1' : Hid _ := hs1
  clear hs1
  go_wp2_with fail
  refine (C1.out _ _ _ _ _ S0.out S1'.out).mono ?_
  rintro e X9 ⟨rfl, hk⟩
  clear c00 c01 c02 S0 c10 c11 c12 S1'
  have Q9 : Hid (∀ u, Kept X9 u → Lay u (p8) t8 g8 rPP ∧ Lay u (p7) t7 g7 rQ ∧ Lay u (p5) t5 g5 rP ∧ Lay u (p2) t2 g2 ⟨false, rB.mag, rB.exp⟩ ∧ Lay u (p1) t1 g1 rA ∧ Lay u (w.heap.size + 1) q2 d2 m2 ∧ Lay u (w.heap.size) q1 d1 m1) := fun u k => Q8.out u (hk.trans k)
  have k9 : Hid (Kept w X9) := k8.out.trans hk
  clear hk Q8 k8
  go_upto_region 18 with fail
  go_upto_region 19 with fail
  obtain ⟨⟨⟨c00, c01⟩, c02⟩, hs0⟩ := (Q9.out _ (Kept.refl _)).2.1
  have S0 : Hid _ := hs0
  clear hs0
  obtain ⟨⟨⟨c10, c11⟩, c12⟩, hs1⟩ := (Q9.out _ (Kept.refl _)).2.2.2.1
  have S1' : Hid _ := hs1
  clear hs1
  go_wp2_with fail
  refine (M2.out _ _ _ _ _ (HT.out _ k9.out) S0.out S1'.out).mono ?_
  rintro e w10 ⟨t10, g10, rfl, hs, hk⟩
  clear c00 c01 c02 S0 c10 c11 c12 S1'
  go_upto_region 20 with fail
  obtain ⟨X10, hX⟩ : ∃ X, X = w10.alloc (.cells #[.bool rQQ.neg, .slice t10 rQQ.mag.length g10, .int .i64 rQQ.exp] 24) := ⟨_, rfl⟩
  obtain ⟨p10, hp⟩ : ∃ p, p = w10.heap.size := ⟨_, rfl⟩
  have kX : Kept X9 X10 := by rw [hX]; exact hk.alloc _ _
  have Q10 : Hid (∀ u, Kept X10 u → Lay u (p10) t10 g10 rQQ ∧ Lay u (p8) t8 g8 rPP ∧ Lay u (p7) t7 g7 rQ ∧ Lay u (p5) t5 g5 rP ∧ Lay u (p2) t2 g2 ⟨false, rB.mag, rB.exp⟩ ∧ Lay u (p1) t1 g1 rA ∧ Lay u (w.heap.size + 1) q2 d2 m2 ∧ Lay u (w.heap.size) q1 d1 m1) := fun u k => ⟨by rw [hp]; rw [hX] at k; exact lay_alloc hs k, Q9.out u (kX.trans k)⟩
  have k10 : Hid (Kept w X10) := k9.out.trans kX
  rw [← hX, ← hp]
  clear hX hp hs hk kX Q9 k9
  obtain ⟨⟨⟨c00, c01⟩, c02⟩, hs0⟩ := (Q10.out _ (Kept.refl _)).1
  have S0 : Hid _ := hs0
  clear hs0
  obtain ⟨⟨⟨c10, c11⟩, c12⟩, hs1⟩ := (Q10.out _ (Kept.refl _)).2.2.2.2.2.1
  have S1' : Hid _ := hs1
  clear hs1
  go_wp2_with fail
  refine (C2.out _ _ _ _ _ S0.out S1'.out).mono ?_
  rintro e X11 ⟨rfl, hk⟩
  clear c00 c01 c02 S0 c10 c11 c12 S1'
  have Q11 : Hid (∀ u, Kept X11 u → Lay u (p10) t10 g10 rQQ ∧ Lay u (p8) t8 g8 rPP ∧ Lay u (p7) t7 g7 rQ ∧ Lay u (p5) t5 g5 rP ∧ Lay u (p2) t2 g2 ⟨false, rB.mag, rB.exp⟩ ∧ Lay u (p1) t1 g1 rA ∧ Lay u (w.heap.size + 1) q2 d2 m2 ∧ Lay u (w.heap.size) q1 d1 m1) := fun u k => Q10.out u (hk.trans k)
  have k11 : Hid (Kept w X11) := k10.out.trans hk
  clear hk Q10 k10
  go_wp2
  go_ret
  exact ⟨rfl, k11.out⟩

end Go.Proofs.YtbheglkpmgmkoaaDoor

namespace Go.Proofs.YtbheglkpmgmkoaaDoor
open Go.ChangeShapes Go.WideShapes Go.ChangeAt Go.RowKit
set_option linter.unusedVariables false
set_option linter.unusedSimpArgs false

set_option maxHeartbeats 8000000 in
set_option maxRecDepth 100000 in
theorem quots_ff_true (w : World) (hT : Tab w) (m1 : Nm) (q1 : Option Addr) (d1 : Nat) (hl1 : m1.mag.length ≤ 9223372036854775807) (h1 : Sl w (.slice q1 m1.mag.length d1) m1.mag) (rA : Nm) (hrA : frm m1.neg (nv (msk m1.mag (min m1.mag.length 20))) (m1.exp.tmod 1300) = some rA) (m2 : Nm) (q2 : Option Addr) (d2 : Nat) (hl2 : m2.mag.length ≤ 9223372036854775807) (h2 : Sl w (.slice q2 m2.mag.length d2) m2.mag) (rB : Nm) (hrB : frm m2.neg (nv (msk m2.mag (min m2.mag.length 20))) (m2.exp.tmod 1300) = some rB) (rP rPP : Nm) (rQ rQQ : Nm) (v n b1 b2 z1 zx : Int) (y1 : bits .and .i64 v 1 = b1) (y2 : IntKind.i64.wrap (32 * b1) = b2) (y3 : IntKind.i64.wrap (32 + b2) = n) (hbz : ¬ rB.mag.length = 0) 
    (R1 : Hid (∀ X a1 c1 a2 c2, Tab X → Sl X (.slice a1 rA.mag.length c1) rA.mag → Sl X (.slice a2 rB.mag.length c2) rB.mag → Calls Tryd.prog 22 #[.agg #[.bool rA.neg, .slice a1 rA.mag.length c1, .int .i64 rA.exp], .agg #[.bool false, .slice a2 rB.mag.length c2, .int .i64 rB.exp], .int .i64 n, .int .i64 1] X fun e w' => e = .returned (.tuple #[.int .i64 z1, .bool true, .int .i64 0]) ∧ Kept X w'))
    (KX : Hid (∀ u, Calls Tryd.prog 14 #[.int .i64 z1, .int .i64 n] u fun e w' => e = .returned (.int .i64 zx) ∧ Kept u w'))
    (F1 : Hid (∀ u, Tab u → Calls Tryd.prog 15 #[.int .i64 z1, .int .i64 n] u fun e w' => ∃ ao c, e = .returned (.tuple #[.agg #[.bool rP.neg, .slice ao rP.mag.length c, .int .i64 rP.exp], .int .i64 0]) ∧ Sl w' (.slice ao rP.mag.length c) rP.mag ∧ Kept u w'))
    (F2 : Hid (∀ u, Tab u → Calls Tryd.prog 15 #[.int .i64 zx, .int .i64 n] u fun e w' => ∃ ao c, e = .returned (.tuple #[.agg #[.bool rQ.neg, .slice ao rQ.mag.length c, .int .i64 rQ.exp], .int .i64 0]) ∧ Sl w' (.slice ao rQ.mag.length c) rQ.mag ∧ Kept u w'))
    (M1 : Hid (∀ X a1 c1 a2 c2, Tab X → Sl X (.slice a1 rP.mag.length c1) rP.mag → Sl X (.slice a2 rB.mag.length c2) rB.mag → Calls Tryd.prog 23 #[.agg #[.bool rP.neg, .slice a1 rP.mag.length c1, .int .i64 rP.exp], .agg #[.bool false, .slice a2 rB.mag.length c2, .int .i64 rB.exp]] X fun e w' => ∃ ao c, e = .returned (.tuple #[.agg #[.bool rPP.neg, .slice ao rPP.mag.length c, .int .i64 rPP.exp], .int .i64 0]) ∧ Sl w' (.slice ao rPP.mag.length c) rPP.mag ∧ Kept X w'))
    (C1 : Hid (∀ X a1 c1 a2 c2, Sl X (.slice a1 rPP.mag.length c1) rPP.mag → Sl X (.slice a2 rA.mag.length c2) rA.mag → Calls Tryd.prog 17 #[.agg #[.bool rPP.neg, .slice a1 rPP.mag.length c1, .int .i64 rPP.exp], .agg #[.bool rA.neg, .slice a2 rA.mag.length c2, .int .i64 rA.exp]] X fun e w' => e = .returned (.tuple #[.int .i64 (-1), .int .i64 0]) ∧ Kept X w'))
    (M2 : Hid (∀ X a1 c1 a2 c2, Tab X → Sl X (.slice a1 rQ.mag.length c1) rQ.mag → Sl X (.slice a2 rB.mag.length c2) rB.mag → Calls Tryd.prog 23 #[.agg #[.bool rQ.neg, .slice a1 rQ.mag.length c1, .int .i64 rQ.exp], .agg #[.bool false, .slice a2 rB.mag.length c2, .int .i64 rB.exp]] X fun e w' => ∃ ao c, e = .returned (.tuple #[.agg #[.bool rQQ.neg, .slice ao rQQ.mag.length c, .int .i64 rQQ.exp], .int .i64 0]) ∧ Sl w' (.slice ao rQQ.mag.length c) rQQ.mag ∧ Kept X w'))
    (C2 : Hid (∀ X a1 c1 a2 c2, Sl X (.slice a1 rQQ.mag.length c1) rQQ.mag → Sl X (.slice a2 rA.mag.length c2) rA.mag → Calls Tryd.prog 17 #[.agg #[.bool rQQ.neg, .slice a1 rQQ.mag.length c1, .int .i64 rQQ.exp], .agg #[.bool rA.neg, .slice a2 rA.mag.length c2, .int .i64 rA.exp]] X fun e w' => e = .returned (.tuple #[.int .i64 1, .int .i64 0]) ∧ Kept X w')) :
    Calls Tryd.prog 6 #[.agg #[.bool m1.neg, .slice q1 m1.mag.length d1, .int .i64 m1.exp], .agg #[.bool m2.neg, .slice q2 m2.mag.length d2, .int .i64 m2.exp], .int .i64 v] w fun e w' => e = .returned (.bool true) ∧ Kept w w' := by
  have HT : Hid (∀ u, Kept w u → Tab u) := fun u k => hT.kept k
  have NA : Hid (frm m1.neg (nv (msk m1.mag (min m1.mag.length 20))) (m1.exp.tmod 1300) = some rA) := hrA
  have NB : Hid (frm m2.neg (nv (msk m2.mag (min m2.mag.length 20))) (m2.exp.tmod 1300) = some rB) := hrB
  have LL : Hid (m1.mag.length ≤ 9223372036854775807 ∧ m2.mag.length ≤ 9223372036854775807) := ⟨hl1, hl2⟩
  have hbi : ((rB.mag.length : Int) == 0) = false := by rw [beq_eq_false_iff_ne]; omega
  have hbn : ¬ rB.mag = [] := by intro hx; rw [hx] at hbz; exact hbz rfl
  obtain ⟨X0, hX⟩ : ∃ X, X = ((w.alloc (.cells #[.bool m1.neg, .slice q1 m1.mag.length d1, .int .i64 m1.exp] 24)).alloc (.cells #[.bool m2.neg, .slice q2 m2.mag.length d2, .int .i64 m2.exp] 24)) := ⟨_, rfl⟩
  have k0 : Hid (Kept w X0) := by rw [hX]; exact ((Kept.refl w).alloc _ _).alloc _ _
  have Q0 : Hid (∀ u, Kept X0 u → Lay u (w.heap.size + 1) q2 d2 m2 ∧ Lay u w.heap.size q1 d1 m1) := by
    intro u k
    have kw := k0.out.trans k
    rw [hX] at k
    refine ⟨⟨⟨⟨?_, ?_⟩, ?_⟩, h2.kept kw⟩, ⟨⟨⟨?_, ?_⟩, ?_⟩, h1.kept kw⟩⟩
    · exact (k.below.cell (p := ⟨w.heap.size + 1, 0, none⟩) (by simp <;> omega)).trans (by simp [go_sem])
    · exact (k.below.cell (p := ⟨w.heap.size + 1, 1, none⟩) (by simp <;> omega)).trans (by simp [go_sem])
    · exact (k.below.cell (p := ⟨w.heap.size + 1, 2, none⟩) (by simp <;> omega)).trans (by simp [go_sem])
    · exact (k.below.cell (p := ⟨w.heap.size, 0, none⟩) (by simp <;> omega)).trans (by simp [go_sem])
    · exact (k.below.cell (p := ⟨w.heap.size, 1, none⟩) (by simp <;> omega)).trans (by simp [go_sem])
    · exact (k.below.cell (p := ⟨w.heap.size, 2, none⟩) (by simp <;> omega)).trans (by simp [go_sem])
  clear hT hrA hrB hl1 hl2 h1 h2
  go_enter Tryd.func6, Tryd.ntmps6
  go_upto_region 2 with fail
  rw [← hX]
  clear hX
  obtain ⟨⟨⟨c00, c01⟩, c02⟩, hs0⟩ := (Q0.out _ (Kept.refl _)).2
  have S0 : Hid _ := hs0
  clear hs0
  go_wp2_with fail
  refine (numc_any m1.neg m1.mag m1.exp _ _ LL.out.1 _ (HT.out _ k0.out) S0.out _ NA.out).mono ?_
  rintro e w1 ⟨t1, g1, rfl, ⟨hs, hcap1⟩, hk⟩
  clear hcap1
  clear c00 c01 c02 S0
  go_upto_region 3 with fail
  obtain ⟨X1, hX⟩ : ∃ X, X = w1.alloc (.cells #[.bool rA.neg, .slice t1 rA.mag.length g1, .int .i64 rA.exp] 24) := ⟨_, rfl⟩
  obtain ⟨p1, hp⟩ : ∃ p, p = w1.heap.size := ⟨_, rfl⟩
  have kX : Kept X0 X1 := by rw [hX]; exact hk.alloc _ _
  have Q1 : Hid (∀ u, Kept X1 u → Lay u (p1) t1 g1 rA ∧ Lay u (w.heap.size + 1) q2 d2 m2 ∧ Lay u (w.heap.size) q1 d1 m1) := fun u k => ⟨by rw [hp]; rw [hX] at k; exact lay_alloc hs k, Q0.out u (kX.trans k)⟩
  have k1 : Hid (Kept w X1) := k0.out.trans kX
  rw [← hX, ← hp]
  clear hX hp hs hk kX Q0 k0
  obtain ⟨⟨⟨c00, c01⟩, c02⟩, hs0⟩ := (Q1.out _ (Kept.refl _)).2.1
  have S0 : Hid _ := hs0
  clear hs0
  go_wp2_with fail
  refine (numc_any m2.neg m2.mag m2.exp _ _ LL.out.2 _ (HT.out _ k1.out) S0.out _ NB.out).mono ?_
  rintro e w2 ⟨t2, g2, rfl, ⟨hs, hcap2⟩, hk⟩
  clear hcap2
  clear c00 c01 c02 S0
  go_upto_region 5 with fail
  obtain ⟨X2, hX⟩ : ∃ X, X = w2.alloc (.cells #[.bool false, .slice t2 rB.mag.length g2, .int .i64 rB.exp] 24) := ⟨_, rfl⟩
  obtain ⟨p2, hp⟩ : ∃ p, p = w2.heap.size := ⟨_, rfl⟩
  have kX : Kept X1 X2 := by rw [hX]; exact hk.alloc _ _
  have Q2 : Hid (∀ u, Kept X2 u → Lay u (p2) t2 g2 ⟨false, rB.mag, rB.exp⟩ ∧ Lay u (p1) t1 g1 rA ∧ Lay u (w.heap.size + 1) q2 d2 m2 ∧ Lay u (w.heap.size) q1 d1 m1) := fun u k => ⟨by rw [hp]; rw [hX] at k; exact lay_alloc (r := ⟨false, rB.mag, rB.exp⟩) hs k, Q1.out u (kX.trans k)⟩
  have k2 : Hid (Kept w X2) := k1.out.trans kX
  rw [← hX, ← hp]
  clear hX hp hs hk kX Q1 k1
  obtain ⟨⟨⟨c00, c01⟩, c02⟩, hs0⟩ := (Q2.out _ (Kept.refl _)).1
  have S0 : Hid _ := hs0
  clear hs0
  go_upto_region 8 with fail
  clear c00 c01 c02 S0
  obtain ⟨⟨⟨c00, c01⟩, c02⟩, hs0⟩ := (Q2.out _ (Kept.refl _)).2.1
  have S0 : Hid _ := hs0
  clear hs0
  obtain ⟨⟨⟨c10, c11⟩, c12⟩, hs1⟩ := (Q2.out _ (Kept.refl _)).1
  have S1' : Hid _ := hs1
  clear hs1
  go_wp2_with fail
  refine (R1.out _ _ _ _ _ (HT.out _ k2.out) S0.out S1'.out).mono ?_
  rintro e X3 ⟨rfl, hk⟩
  clear c00 c01 c02 S0 c10 c11 c12 S1'
  have Q3 : Hid (∀ u, Kept X3 u → Lay u (p2) t2 g2 ⟨false, rB.mag, rB.exp⟩ ∧ Lay u (p1) t1 g1 rA ∧ Lay u (w.heap.size + 1) q2 d2 m2 ∧ Lay u (w.heap.size) q1 d1 m1) := fun u k => Q2.out u (hk.trans k)
  have k3 : Hid (Kept w X3) := k2.out.trans hk
  clear hk Q2 k2
  go_upto_region 9 with fail
  go_wp2_with fail
  refine (alive_true _ (HT.out _ k3.out)).mono ?_
  rintro e X4 ⟨rfl, hk⟩
  have Q4 : Hid (∀ u, Kept X4 u → Lay u (p2) t2 g2 ⟨false, rB.mag, rB.exp⟩ ∧ Lay u (p1) t1 g1 rA ∧ Lay u (w.heap.size + 1) q2 d2 m2 ∧ Lay u (w.heap.size) q1 d1 m1) := fun u k => Q3.out u (hk.trans k)
  have k4 : Hid (Kept w X4) := k3.out.trans hk
  clear hk Q3 k3
  go_upto_region 11 with fail
  go_wp2_with fail
  refine (F1.out _ (HT.out _ k4.out)).mono ?_
  rintro e w5 ⟨t5, g5, rfl, hs, hk⟩
  go_upto_region 12 with fail
  obtain ⟨X5, hX⟩ : ∃ X, X = w5.alloc (.cells #[.bool rP.neg, .slice t5 rP.mag.length g5, .int .i64 rP.exp] 24) := ⟨_, rfl⟩
  obtain ⟨p5, hp⟩ : ∃ p, p = w5.heap.size := ⟨_, rfl⟩
  have kX : Kept X4 X5 := by rw [hX]; exact hk.alloc _ _
  have Q5 : Hid (∀ u, Kept X5 u → Lay u (p5) t5 g5 rP ∧ Lay u (p2) t2 g2 ⟨false, rB.mag, rB.exp⟩ ∧ Lay u (p1) t1 g1 rA ∧ Lay u (w.heap.size + 1) q2 d2 m2 ∧ Lay u (w.heap.size) q1 d1 m1) := fun u k => ⟨by rw [hp]; rw [hX] at k; exact lay_alloc hs k, Q4.out u (kX.trans k)⟩
  have k5 : Hid (Kept w X5) := k4.out.trans kX
  rw [← hX, ← hp]
  clear hX hp hs hk kX Q4 k4
  go_wp2_with fail
  refine (KX.out _).mono ?_
  rintro e X6 ⟨rfl, hk⟩
  have Q6 : Hid (∀ u, Kept X6 u → Lay u (p5) t5 g5 rP ∧ Lay u (p2) t2 g2 ⟨false, rB.mag, rB.exp⟩ ∧ Lay u (p1) t1 g1 rA ∧ Lay u (w.heap.size + 1) q2 d2 m2 ∧ Lay u (w.heap.size) q1 d1 m1) := fun u k => Q5.out u (hk.trans k)
  have k6 : Hid (Kept w X6) := k5.out.trans hk
  clear hk Q5 k5
  go_wp2_with fail
  refine (F2.out _ (HT.out _ k6.out)).mono ?_
  rintro e w7 ⟨t7, g7, rfl, hs, hk⟩
  go_upto_region 13 with fail
  obtain ⟨X7, hX⟩ : ∃ X, X = w7.alloc (.cells #[.bool rQ.neg, .slice t7 rQ.mag.length g7, .int .i64 rQ.exp] 24) := ⟨_, rfl⟩
  obtain ⟨p7, hp⟩ : ∃ p, p = w7.heap.size := ⟨_, rfl⟩
  have kX : Kept X6 X7 := by rw [hX]; exact hk.alloc _ _
  have Q7 : Hid (∀ u, Kept X7 u → Lay u (p7) t7 g7 rQ ∧ Lay u (p5) t5 g5 rP ∧ Lay u (p2) t2 g2 ⟨false, rB.mag, rB.exp⟩ ∧ Lay u (p1) t1 g1 rA ∧ Lay u (w.heap.size + 1) q2 d2 m2 ∧ Lay u (w.heap.size) q1 d1 m1) := fun u k => ⟨by rw [hp]; rw [hX] at k; exact lay_alloc hs k, Q6.out u (kX.trans k)⟩
  have k7 : Hid (Kept w X7) := k6.out.trans kX
  rw [← hX, ← hp]
  clear hX hp hs hk kX Q6 k6
  go_upto_region 14 with fail
  obtain ⟨⟨⟨c00, c01⟩, c02⟩, hs0⟩ := (Q7.out _ (Kept.refl _)).2.1
  have S0 : Hid _ := hs0
  clear hs0
  obtain ⟨⟨⟨c10, c11⟩, c12⟩, hs1⟩ := (Q7.out _ (Kept.refl _)).2.2.1
  have S1' : Hid _ := hs1
  clear hs1
  go_wp2_with fail
  refine (M1.out _ _ _ _ _ (HT.out _ k7.out) S0.out S1'.out).mono ?_
  rintro e w8 ⟨t8, g8, rfl, hs, hk⟩
  clear c00 c01 c02 S0 c10 c11 c12 S1'
  go_upto_region 15 with fail
  obtain ⟨X8, hX⟩ : ∃ X, X = w8.alloc (.cells #[.bool rPP.neg, .slice t8 rPP.mag.length g8, .int .i64 rPP.exp] 24) := ⟨_, rfl⟩
  obtain ⟨p8, hp⟩ : ∃ p, p = w8.heap.size := ⟨_, rfl⟩
  have kX : Kept X7 X8 := by rw [hX]; exact hk.alloc _ _
  have Q8 : Hid (∀ u, Kept X8 u → Lay u (p8) t8 g8 rPP ∧ Lay u (p7) t7 g7 rQ ∧ Lay u (p5) t5 g5 rP ∧ Lay u (p2) t2 g2 ⟨false, rB.mag, rB.exp⟩ ∧ Lay u (p1) t1 g1 rA ∧ Lay u (w.heap.size + 1) q2 d2 m2 ∧ Lay u (w.heap.size) q1 d1 m1) := fun u k => ⟨by rw [hp]; rw [hX] at k; exact lay_alloc hs k, Q7.out u (kX.trans k)⟩
  have k8 : Hid (Kept w X8) := k7.out.trans kX
  rw [← hX, ← hp]
  clear hX hp hs hk kX Q7 k7
  obtain ⟨⟨⟨c00, c01⟩, c02⟩, hs0⟩ := (Q8.out _ (Kept.refl _)).1
  have S0 : Hid _ := hs0
  clear hs0
  obtain ⟨⟨⟨c10, c11⟩, c12⟩, hs1⟩ := (Q8.out _ (Kept.refl _)).2.2.2.2.1
  have S1' : Hid _ := hs1
  clear hs1
  go_wp2_with fail
  refine (C1.out _ _ _ _ _ S0.out S1'.out).mono ?_
  rintro e X9 ⟨rfl, hk⟩
  clear c00 c01 c02 S0 c10 c11 c12 S1'
  have Q9 : Hid (∀ u, Kept X9 u → Lay u (p8) t8 g8 rPP ∧ Lay u (p7) t7 g7 rQ ∧ Lay u (p5) t5 g5 rP ∧ Lay u (p2) t2 g2 ⟨false, rB.mag, rB.exp⟩ ∧ Lay u (p1) t1 g1 rA ∧ Lay u (w.heap.size + 1) q2 d2 m2 ∧ Lay u (w.heap.size) q1 d1 m1) := fun u k => Q8.out u (hk.trans k)
  have k9 : Hid (Kept w X9) := k8.out.trans hk
  clear hk Q8 k8
  go_upto_region 18 with fail
  go_upto_region 19 with fail
  obtain ⟨⟨⟨c00, c01⟩, c02⟩, hs0⟩ := (Q9.out _ (Kept.refl _)).2.1
  have S0 : Hid _ := hs0
  clear hs0
  obtain ⟨⟨⟨c10, c11⟩, c12⟩, hs1⟩ := (Q9.out _ (Kept.refl _)).2.2.2.1
  have S1' : Hid _ := hs1
  clear hs1
  go_wp2_with fail
  refine (M2.out _ _ _ _ _ (HT.out _ k9.out) S0.out S1'.out).mono ?_
  rintro e w10 ⟨t10, g10, rfl, hs, hk⟩
  clear c00 c01 c02 S0 c10 c11 c12 S1'
  go_upto_region 20 with fail
  obtain ⟨X10, hX⟩ : ∃ X, X = w10.alloc (.cells #[.bool rQQ.neg, .slice t10 rQQ.mag.length g10, .int .i64 rQQ.exp] 24) := ⟨_, rfl⟩
  obtain ⟨p10, hp⟩ : ∃ p, p = w10.heap.size := ⟨_, rfl⟩
  have kX : Kept X9 X10 := by rw [hX]; exact hk.alloc _ _
  have Q10 : Hid (∀ u, Kept X10 u → Lay u (p10) t10 g10 rQQ ∧ Lay u (p8) t8 g8 rPP ∧ Lay u (p7) t7 g7 rQ ∧ Lay u (p5) t5 g5 rP ∧ Lay u (p2) t2 g2 ⟨false, rB.mag, rB.exp⟩ ∧ Lay u (p1) t1 g1 rA ∧ Lay u (w.heap.size + 1) q2 d2 m2 ∧ Lay u (w.heap.size) q1 d1 m1) := fun u k => ⟨by rw [hp]; rw [hX] at k; exact lay_alloc hs k, Q9.out u (kX.trans k)⟩
  have k10 : Hid (Kept w X10) := k9.out.trans kX
  rw [← hX, ← hp]
  clear hX hp hs hk kX Q9 k9
  obtain ⟨⟨⟨c00, c01⟩, c02⟩, hs0⟩ := (Q10.out _ (Kept.refl _)).1
  have S0 : Hid _ := hs0
  clear hs0
  obtain ⟨⟨⟨c10, c11⟩, c12⟩, hs1⟩ := (Q10.out _ (Kept.refl _)).2.2.2.2.2.1
  have S1' : Hid _ := hs1
  clear hs1
  go_wp2_with fail
  refine (C2.out _ _ _ _ _ S0.out S1'.out).mono ?_
  rintro e X11 ⟨rfl, hk⟩
  clear c00 c01 c02 S0 c10 c11 c12 S1'
  have Q11 : Hid (∀ u, Kept X11 u → Lay u (p10) t10 g10 rQQ ∧ Lay u (p8) t8 g8 rPP ∧ Lay u (p7) t7 g7 rQ ∧ Lay u (p5) t5 g5 rP ∧ Lay u (p2) t2 g2 ⟨false, rB.mag, rB.exp⟩ ∧ Lay u (p1) t1 g1 rA ∧ Lay u (w.heap.size + 1) q2 d2 m2 ∧ Lay u (w.heap.size) q1 d1 m1) := fun u k => Q10.out u (hk.trans k)
  have k11 : Hid (Kept w X11) := k10.out.trans hk
  clear hk Q10 k10
  go_wp2
  go_ret
  exact ⟨rfl, k11.out⟩

end Go.Proofs.YtbheglkpmgmkoaaDoor

namespace Go.Proofs.YtbheglkpmgmkoaaDoor
open Go.ChangeShapes Go.WideShapes Go.ChangeAt Go.RowKit
set_option linter.unusedVariables false
set_option linter.unusedSimpArgs false

set_option maxHeartbeats 8000000 in
set_option maxRecDepth 100000 in
theorem quots_fi_false (w : World) (hT : Tab w) (m1 : Nm) (q1 : Option Addr) (d1 : Nat) (hl1 : m1.mag.length ≤ 9223372036854775807) (h1 : Sl w (.slice q1 m1.mag.length d1) m1.mag) (rA : Nm) (hrA : frm m1.neg (nv (msk m1.mag (min m1.mag.length 20))) (m1.exp.tmod 1300) = some rA) (m2 : Nm) (q2 : Option Addr) (d2 : Nat) (hl2 : m2.mag.length ≤ 9223372036854775807) (h2 : Sl w (.slice q2 m2.mag.length d2) m2.mag) (rB : Nm) (hrB : frm m2.neg (nv (msk m2.mag (min m2.mag.length 20))) (m2.exp.tmod 1300) = some rB) (rP rPP : Nm) (v n b1 b2 z1 zx : Int) (y1 : bits .and .i64 v 1 = b1) (y2 : IntKind.i64.wrap (32 * b1) = b2) (y3 : IntKind.i64.wrap (32 + b2) = n) (hbz : ¬ rB.mag.length = 0) 
    (R1 : Hid (∀ X a1 c1 a2 c2, Tab X → Sl X (.slice a1 rA.mag.length c1) rA.mag → Sl X (.slice a2 rB.mag.length c2) rB.mag → Calls Tryd.prog 22 #[.agg #[.bool rA.neg, .slice a1 rA.mag.length c1, .int .i64 rA.exp], .agg #[.bool false, .slice a2 rB.mag.length c2, .int .i64 rB.exp], .int .i64 n, .int .i64 1] X fun e w' => e = .returned (.tuple #[.int .i64 z1, .bool false, .int .i64 0]) ∧ Kept X w'))
    (KX : Hid (∀ u, Calls Tryd.prog 14 #[.int .i64 z1, .int .i64 n] u fun e w' => e = .returned (.int .i64 zx) ∧ Kept u w'))
    (F1 : Hid (∀ u, Tab u → Calls Tryd.prog 15 #[.int .i64 z1, .int .i64 n] u fun e w' => ∃ ao c, e = .returned (.tuple #[.agg #[.bool rP.neg, .slice ao rP.mag.length c, .int .i64 rP.exp], .int .i64 0]) ∧ Sl w' (.slice ao rP.mag.length c) rP.mag ∧ Kept u w'))
    (F2 : Hid (∀ u, Tab u → Calls Tryd.prog 15 #[.int .i64 zx, .int .i64 n] u fun e w' => e = .returned (.tuple #[.agg #[.bool false, .slice none 0 0, .int .i64 0], .int .i64 6]) ∧ Kept u w'))
    (M1 : Hid (∀ X a1 c1 a2 c2, Tab X → Sl X (.slice a1 rP.mag.length c1) rP.mag → Sl X (.slice a2 rB.mag.length c2) rB.mag → Calls Tryd.prog 23 #[.agg #[.bool rP.neg, .slice a1 rP.mag.length c1, .int .i64 rP.exp], .agg #[.bool false, .slice a2 rB.mag.length c2, .int .i64 rB.exp]] X fun e w' => ∃ ao c, e = .returned (.tuple #[.agg #[.bool rPP.neg, .slice ao rPP.mag.length c, .int .i64 rPP.exp], .int .i64 0]) ∧ Sl w' (.slice ao rPP.mag.length c) rPP.mag ∧ Kept X w'))
    (C1 : Hid (∀ X a1 c1 a2 c2, Sl X (.slice a1 rPP.mag.length c1) rPP.mag → Sl X (.slice a2 rA.mag.length c2) rA.mag → Calls Tryd.prog 17 #[.agg #[.bool rPP.neg, .slice a1 rPP.mag.length c1, .int .i64 rPP.exp], .agg #[.bool rA.neg, .slice a2 rA.mag.length c2, .int .i64 rA.exp]] X fun e w' => e = .returned (.tuple #[.int .i64 0, .int .i64 0]) ∧ Kept X w')) :
    Calls Tryd.prog 6 #[.agg #[.bool m1.neg, .slice q1 m1.mag.length d1, .int .i64 m1.exp], .agg #[.bool m2.neg, .slice q2 m2.mag.length d2, .int .i64 m2.exp], .int .i64 v] w fun e w' => e = .returned (.bool true) ∧ Kept w w' := by
  have HT : Hid (∀ u, Kept w u → Tab u) := fun u k => hT.kept k
  have NA : Hid (frm m1.neg (nv (msk m1.mag (min m1.mag.length 20))) (m1.exp.tmod 1300) = some rA) := hrA
  have NB : Hid (frm m2.neg (nv (msk m2.mag (min m2.mag.length 20))) (m2.exp.tmod 1300) = some rB) := hrB
  have LL : Hid (m1.mag.length ≤ 9223372036854775807 ∧ m2.mag.length ≤ 9223372036854775807) := ⟨hl1, hl2⟩
  have hbi : ((rB.mag.length : Int) == 0) = false := by rw [beq_eq_false_iff_ne]; omega
  have hbn : ¬ rB.mag = [] := by intro hx; rw [hx] at hbz; exact hbz rfl
  obtain ⟨X0, hX⟩ : ∃ X, X = ((w.alloc (.cells #[.bool m1.neg, .slice q1 m1.mag.length d1, .int .i64 m1.exp] 24)).alloc (.cells #[.bool m2.neg, .slice q2 m2.mag.length d2, .int .i64 m2.exp] 24)) := ⟨_, rfl⟩
  have k0 : Hid (Kept w X0) := by rw [hX]; exact ((Kept.refl w).alloc _ _).alloc _ _
  have Q0 : Hid (∀ u, Kept X0 u → Lay u (w.heap.size + 1) q2 d2 m2 ∧ Lay u w.heap.size q1 d1 m1) := by
    intro u k
    have kw := k0.out.trans k
    rw [hX] at k
    refine ⟨⟨⟨⟨?_, ?_⟩, ?_⟩, h2.kept kw⟩, ⟨⟨⟨?_, ?_⟩, ?_⟩, h1.kept kw⟩⟩
    · exact (k.below.cell (p := ⟨w.heap.size + 1, 0, none⟩) (by simp <;> omega)).trans (by simp [go_sem])
    · exact (k.below.cell (p := ⟨w.heap.size + 1, 1, none⟩) (by simp <;> omega)).trans (by simp [go_sem])
    · exact (k.below.cell (p := ⟨w.heap.size + 1, 2, none⟩) (by simp <;> omega)).trans (by simp [go_sem])
    · exact (k.below.cell (p := ⟨w.heap.size, 0, none⟩) (by simp <;> omega)).trans (by simp [go_sem])
    · exact (k.below.cell (p := ⟨w.heap.size, 1, none⟩) (by simp <;> omega)).trans (by simp [go_sem])
    · exact (k.below.cell (p := ⟨w.heap.size, 2, none⟩) (by simp <;> omega)).trans (by simp [go_sem])
  clear hT hrA hrB hl1 hl2 h1 h2
  go_enter Tryd.func6, Tryd.ntmps6
  go_upto_region 2 with fail
  rw [← hX]
  clear hX
  obtain ⟨⟨⟨c00, c01⟩, c02⟩, hs0⟩ := (Q0.out _ (Kept.refl _)).2
  have S0 : Hid _ := hs0
  clear hs0
  go_wp2_with fail
  refine (numc_any m1.neg m1.mag m1.exp _ _ LL.out.1 _ (HT.out _ k0.out) S0.out _ NA.out).mono ?_
  rintro e w1 ⟨t1, g1, rfl, ⟨hs, hcap1⟩, hk⟩
  clear hcap1
  clear c00 c01 c02 S0
  go_upto_region 3 with fail
  obtain ⟨X1, hX⟩ : ∃ X, X = w1.alloc (.cells #[.bool rA.neg, .slice t1 rA.mag.length g1, .int .i64 rA.exp] 24) := ⟨_, rfl⟩
  obtain ⟨p1, hp⟩ : ∃ p, p = w1.heap.size := ⟨_, rfl⟩
  have kX : Kept X0 X1 := by rw [hX]; exact hk.alloc _ _
  have Q1 : Hid (∀ u, Kept X1 u → Lay u (p1) t1 g1 rA ∧ Lay u (w.heap.size + 1) q2 d2 m2 ∧ Lay u (w.heap.size) q1 d1 m1) := fun u k => ⟨by rw [hp]; rw [hX] at k; exact lay_alloc hs k, Q0.out u (kX.trans k)⟩
  have k1 : Hid (Kept w X1) := k0.out.trans kX
  rw [← hX, ← hp]
  clear hX hp hs hk kX Q0 k0
  obtain ⟨⟨⟨c00, c01⟩, c02⟩, hs0⟩ := (Q1.out _ (Kept.refl _)).2.1
  have S0 : Hid _ := hs0
  clear hs0
  go_wp2_with fail
  refine (numc_any m2.neg m2.mag m2.exp _ _ LL.out.2 _ (HT.out _ k1.out) S0.out _ NB.out).mono ?_
  rintro e w2 ⟨t2, g2, rfl, ⟨hs, hcap2⟩, hk⟩
  clear hcap2
  clear c00 c01 c02 S0
  go_upto_region 5 with fail
  obtain ⟨X2, hX⟩ : ∃ X, X = w2.alloc (.cells #[.bool false, .slice t2 rB.mag.length g2, .int .i64 rB.exp] 24) := ⟨_, rfl⟩
  obtain ⟨p2, hp⟩ : ∃ p, p = w2.heap.size := ⟨_, rfl⟩
  have kX : Kept X1 X2 := by rw [hX]; exact hk.alloc _ _
  have Q2 : Hid (∀ u, Kept X2 u → Lay u (p2) t2 g2 ⟨false, rB.mag, rB.exp⟩ ∧ Lay u (p1) t1 g1 rA ∧ Lay u (w.heap.size + 1) q2 d2 m2 ∧ Lay u (w.heap.size) q1 d1 m1) := fun u k => ⟨by rw [hp]; rw [hX] at k; exact lay_alloc (r := ⟨false, rB.mag, rB.exp⟩) hs k, Q1.out u (kX.trans k)⟩
  have k2 : Hid (Kept w X2) := k1.out.trans kX
  rw [← hX, ← hp]
  clear hX hp hs hk kX Q1 k1
  obtain ⟨⟨⟨c00, c01⟩, c02⟩, hs0⟩ := (Q2.out _ (Kept.refl _)).1
  have S0 : Hid _ := hs0
  clear hs0
  go_upto_region 8 with fail
  clear c00 c01 c02 S0
  obtain ⟨⟨⟨c00, c01⟩, c02⟩, hs0⟩ := (Q2.out _ (Kept.refl _)).2.1
  have S0 : Hid _ := hs0
  clear hs0
  obtain ⟨⟨⟨c10, c11⟩, c12⟩, hs1⟩ := (Q2.out _ (Kept.refl _)).1
  have S1' : Hid _ := hs1
  clear hs1
  go_wp2_with fail
  refine (R1.out _ _ _ _ _ (HT.out _ k2.out) S0.out S1'.out).mono ?_
  rintro e X3 ⟨rfl, hk⟩
  clear c00 c01 c02 S0 c10 c11 c12 S1'
  have Q3 : Hid (∀ u, Kept X3 u → Lay u (p2) t2 g2 ⟨false, rB.mag, rB.exp⟩ ∧ Lay u (p1) t1 g1 rA ∧ Lay u (w.heap.size + 1) q2 d2 m2 ∧ Lay u (w.heap.size) q1 d1 m1) := fun u k => Q2.out u (hk.trans k)
  have k3 : Hid (Kept w X3) := k2.out.trans hk
  clear hk Q2 k2
  go_upto_region 9 with fail
  go_wp2_with fail
  refine (alive_true _ (HT.out _ k3.out)).mono ?_
  rintro e X4 ⟨rfl, hk⟩
  have Q4 : Hid (∀ u, Kept X4 u → Lay u (p2) t2 g2 ⟨false, rB.mag, rB.exp⟩ ∧ Lay u (p1) t1 g1 rA ∧ Lay u (w.heap.size + 1) q2 d2 m2 ∧ Lay u (w.heap.size) q1 d1 m1) := fun u k => Q3.out u (hk.trans k)
  have k4 : Hid (Kept w X4) := k3.out.trans hk
  clear hk Q3 k3
  go_upto_region 11 with fail
  go_wp2_with fail
  refine (F1.out _ (HT.out _ k4.out)).mono ?_
  rintro e w5 ⟨t5, g5, rfl, hs, hk⟩
  go_upto_region 12 with fail
  obtain ⟨X5, hX⟩ : ∃ X, X = w5.alloc (.cells #[.bool rP.neg, .slice t5 rP.mag.length g5, .int .i64 rP.exp] 24) := ⟨_, rfl⟩
  obtain ⟨p5, hp⟩ : ∃ p, p = w5.heap.size := ⟨_, rfl⟩
  have kX : Kept X4 X5 := by rw [hX]; exact hk.alloc _ _
  have Q5 : Hid (∀ u, Kept X5 u → Lay u (p5) t5 g5 rP ∧ Lay u (p2) t2 g2 ⟨false, rB.mag, rB.exp⟩ ∧ Lay u (p1) t1 g1 rA ∧ Lay u (w.heap.size + 1) q2 d2 m2 ∧ Lay u (w.heap.size) q1 d1 m1) := fun u k => ⟨by rw [hp]; rw [hX] at k; exact lay_alloc hs k, Q4.out u (kX.trans k)⟩
  have k5 : Hid (Kept w X5) := k4.out.trans kX
  rw [← hX, ← hp]
  clear hX hp hs hk kX Q4 k4
  go_wp2_with fail
  refine (KX.out _).mono ?_
  rintro e X6 ⟨rfl, hk⟩
  have Q6 : Hid (∀ u, Kept X6 u → Lay u (p5) t5 g5 rP ∧ Lay u (p2) t2 g2 ⟨false, rB.mag, rB.exp⟩ ∧ Lay u (p1) t1 g1 rA ∧ Lay u (w.heap.size + 1) q2 d2 m2 ∧ Lay u (w.heap.size) q1 d1 m1) := fun u k => Q5.out u (hk.trans k)
  have k6 : Hid (Kept w X6) := k5.out.trans hk
  clear hk Q5 k5
  go_wp2_with fail
  refine (F2.out _ (HT.out _ k6.out)).mono ?_
  rintro e w7 ⟨rfl, hk⟩
  go_upto_region 13 with fail
  obtain ⟨X7, hX⟩ : ∃ X, X = w7.alloc (.cells #[.bool false, .slice none 0 0, .int .i64 0] 24) := ⟨_, rfl⟩
  have kX : Kept X6 X7 := by rw [hX]; exact hk.alloc _ _
  have Q7 : Hid (∀ u, Kept X7 u → Lay u (p5) t5 g5 rP ∧ Lay u (p2) t2 g2 ⟨false, rB.mag, rB.exp⟩ ∧ Lay u (p1) t1 g1 rA ∧ Lay u (w.heap.size + 1) q2 d2 m2 ∧ Lay u (w.heap.size) q1 d1 m1) := fun u k => Q6.out u (kX.trans k)
  have k7 : Hid (Kept w X7) := k6.out.trans kX
  rw [← hX]
  clear hX hk kX Q6 k6
  go_upto_region 14 with fail
  obtain ⟨⟨⟨c00, c01⟩, c02⟩, hs0⟩ := (Q7.out _ (Kept.refl _)).1
  have S0 : Hid _ := hs0
  clear hs0
  obtain ⟨⟨⟨c10, c11⟩, c12⟩, hs1⟩ := (Q7.out _ (Kept.refl _)).2.1
  have S1' : Hid _ := hs1
  clear hs1
  go_wp2_with fail
  refine (M1.out _ _ _ _ _ (HT.out _ k7.out) S0.out S1'.out).mono ?_
  rintro e w8 ⟨t8, g8, rfl, hs, hk⟩
  clear c00 c01 c02 S0 c10 c11 c12 S1'
  go_upto_region 15 with fail
  obtain ⟨X8, hX⟩ : ∃ X, X = w8.alloc (.cells #[.bool rPP.neg, .slice t8 rPP.mag.length g8, .int .i64 rPP.exp] 24) := ⟨_, rfl⟩
  obtain ⟨p8, hp⟩ : ∃ p, p = w8.heap.size := ⟨_, rfl⟩
  have kX : Kept X7 X8 := by rw [hX]; exact hk.alloc _ _
  have Q8 : Hid (∀ u, Kept X8 u → Lay u (p8) t8 g8 rPP ∧ Lay u (p5) t5 g5 rP ∧ Lay u (p2) t2 g2 ⟨false, rB.mag, rB.exp⟩ ∧ Lay u (p1) t1 g1 rA ∧ Lay u (w.heap.size + 1) q2 d2 m2 ∧ Lay u (w.heap.size) q1 d1 m1) := fun u k => ⟨by rw [hp]; rw [hX] at k; exact lay_alloc hs k, Q7.out u (kX.trans k)⟩
  have k8 : Hid (Kept w X8) := k7.out.trans kX
  rw [← hX, ← hp]
  clear hX hp hs hk kX Q7 k7
  obtain ⟨⟨⟨c00, c01⟩, c02⟩, hs0⟩ := (Q8.out _ (Kept.refl _)).1
  have S0 : Hid _ := hs0
  clear hs0
  obtain ⟨⟨⟨c10, c11⟩, c12⟩, hs1⟩ := (Q8.out _ (Kept.refl _)).2.2.2.1
  have S1' : Hid _ := hs1
  clear hs1
  go_wp2_with fail
  refine (C1.out _ _ _ _ _ S0.out S1'.out).mono ?_
  rintro e X9 ⟨rfl, hk⟩
  clear c00 c01 c02 S0 c10 c11 c12 S1'
  have Q9 : Hid (∀ u, Kept X9 u → Lay u (p8) t8 g8 rPP ∧ Lay u (p5) t5 g5 rP ∧ Lay u (p2) t2 g2 ⟨false, rB.mag, rB.exp⟩ ∧ Lay u (p1) t1 g1 rA ∧ Lay u (w.heap.size + 1) q2 d2 m2 ∧ Lay u (w.heap.size) q1 d1 m1) := fun u k => Q8.out u (hk.trans k)
  have k9 : Hid (Kept w X9) := k8.out.trans hk
  clear hk Q8 k8
  go_upto_region 18 with fail
  go_wp2
  go_ret
  exact ⟨rfl, k9.out⟩

end Go.Proofs.YtbheglkpmgmkoaaDoor

namespace Go.Proofs.YtbheglkpmgmkoaaDoor
open Go.ChangeShapes Go.WideShapes Go.ChangeAt Go.RowKit
set_option linter.unusedVariables false
set_option linter.unusedSimpArgs false

set_option maxHeartbeats 8000000 in
set_option maxRecDepth 100000 in
theorem quots_fi_true (w : World) (hT : Tab w) (m1 : Nm) (q1 : Option Addr) (d1 : Nat) (hl1 : m1.mag.length ≤ 9223372036854775807) (h1 : Sl w (.slice q1 m1.mag.length d1) m1.mag) (rA : Nm) (hrA : frm m1.neg (nv (msk m1.mag (min m1.mag.length 20))) (m1.exp.tmod 1300) = some rA) (m2 : Nm) (q2 : Option Addr) (d2 : Nat) (hl2 : m2.mag.length ≤ 9223372036854775807) (h2 : Sl w (.slice q2 m2.mag.length d2) m2.mag) (rB : Nm) (hrB : frm m2.neg (nv (msk m2.mag (min m2.mag.length 20))) (m2.exp.tmod 1300) = some rB) (rP rPP : Nm) (v n b1 b2 z1 zx : Int) (y1 : bits .and .i64 v 1 = b1) (y2 : IntKind.i64.wrap (32 * b1) = b2) (y3 : IntKind.i64.wrap (32 + b2) = n) (hbz : ¬ rB.mag.length = 0) 
    (R1 : Hid (∀ X a1 c1 a2 c2, Tab X → Sl X (.slice a1 rA.mag.length c1) rA.mag → Sl X (.slice a2 rB.mag.length c2) rB.mag → Calls Tryd.prog 22 #[.agg #[.bool rA.neg, .slice a1 rA.mag.length c1, .int .i64 rA.exp], .agg #[.bool false, .slice a2 rB.mag.length c2, .int .i64 rB.exp], .int .i64 n, .int .i64 1] X fun e w' => e = .returned (.tuple #[.int .i64 z1, .bool true, .int .i64 0]) ∧ Kept X w'))
    (KX : Hid (∀ u, Calls Tryd.prog 14 #[.int .i64 z1, .int .i64 n] u fun e w' => e = .returned (.int .i64 zx) ∧ Kept u w'))
    (F1 : Hid (∀ u, Tab u → Calls Tryd.prog 15 #[.int .i64 z1, .int .i64 n] u fun e w' => ∃ ao c, e = .returned (.tuple #[.agg #[.bool rP.neg, .slice ao rP.mag.length c, .int .i64 rP.exp], .int .i64 0]) ∧ Sl w' (.slice ao rP.mag.length c) rP.mag ∧ Kept u w'))
    (F2 : Hid (∀ u, Tab u → Calls Tryd.prog 15 #[.int .i64 zx, .int .i64 n] u fun e w' => e = .returned (.tuple #[.agg #[.bool false, .slice none 0 0, .int .i64 0], .int .i64 6]) ∧ Kept u w'))
    (M1 : Hid (∀ X a1 c1 a2 c2, Tab X → Sl X (.slice a1 rP.mag.length c1) rP.mag → Sl X (.slice a2 rB.mag.length c2) rB.mag → Calls Tryd.prog 23 #[.agg #[.bool rP.neg, .slice a1 rP.mag.length c1, .int .i64 rP.exp], .agg #[.bool false, .slice a2 rB.mag.length c2, .int .i64 rB.exp]] X fun e w' => ∃ ao c, e = .returned (.tuple #[.agg #[.bool rPP.neg, .slice ao rPP.mag.length c, .int .i64 rPP.exp], .int .i64 0]) ∧ Sl w' (.slice ao rPP.mag.length c) rPP.mag ∧ Kept X w'))
    (C1 : Hid (∀ X a1 c1 a2 c2, Sl X (.slice a1 rPP.mag.length c1) rPP.mag → Sl X (.slice a2 rA.mag.length c2) rA.mag → Calls Tryd.prog 17 #[.agg #[.bool rPP.neg, .slice a1 rPP.mag.length c1, .int .i64 rPP.exp], .agg #[.bool rA.neg, .slice a2 rA.mag.length c2, .int .i64 rA.exp]] X fun e w' => e = .returned (.tuple #[.int .i64 (-1), .int .i64 0]) ∧ Kept X w')) :
    Calls Tryd.prog 6 #[.agg #[.bool m1.neg, .slice q1 m1.mag.length d1, .int .i64 m1.exp], .agg #[.bool m2.neg, .slice q2 m2.mag.length d2, .int .i64 m2.exp], .int .i64 v] w fun e w' => e = .returned (.bool true) ∧ Kept w w' := by
  have HT : Hid (∀ u, Kept w u → Tab u) := fun u k => hT.kept k
  have NA : Hid (frm m1.neg (nv (msk m1.mag (min m1.mag.length 20))) (m1.exp.tmod 1300) = some rA) := hrA
  have NB : Hid (frm m2.neg (nv (msk m2.mag (min m2.mag.length 20))) (m2.exp.tmod 1300) = some rB) := hrB
  have LL : Hid (m1.mag.length ≤ 9223372036854775807 ∧ m2.mag.length ≤ 9223372036854775807) := ⟨hl1, hl2⟩
  have hbi : ((rB.mag.length : Int) == 0) = false := by rw [beq_eq_false_iff_ne]; omega
  have hbn : ¬ rB.mag = [] := by intro hx; rw [hx] at hbz; exact hbz rfl
  obtain ⟨X0, hX⟩ : ∃ X, X = ((w.alloc (.cells #[.bool m1.neg, .slice q1 m1.mag.length d1, .int .i64 m1.exp] 24)).alloc (.cells #[.bool m2.neg, .slice q2 m2.mag.length d2, .int .i64 m2.exp] 24)) := ⟨_, rfl⟩
  have k0 : Hid (Kept w X0) := by rw [hX]; exact ((Kept.refl w).alloc _ _).alloc _ _
  have Q0 : Hid (∀ u, Kept X0 u → Lay u (w.heap.size + 1) q2 d2 m2 ∧ Lay u w.heap.size q1 d1 m1) := by
    intro u k
    have kw := k0.out.trans k
    rw [hX] at k
    refine ⟨⟨⟨⟨?_, ?_⟩, ?_⟩, h2.kept kw⟩, ⟨⟨⟨?_, ?_⟩, ?_⟩, h1.kept kw⟩⟩
    · exact (k.below.cell (p := ⟨w.heap.size + 1, 0, none⟩) (by simp <;> omega)).trans (by simp [go_sem])
    · exact (k.below.cell (p := ⟨w.heap.size + 1, 1, none⟩) (by simp <;> omega)).trans (by simp [go_sem])
    · exact (k.below.cell (p := ⟨w.heap.size + 1, 2, none⟩) (by simp <;> omega)).trans (by simp [go_sem])
    · exact (k.below.cell (p := ⟨w.heap.size, 0, none⟩) (by simp <;> omega)).trans (by simp [go_sem])
    · exact (k.below.cell (p := ⟨w.heap.size, 1, none⟩) (by simp <;> omega)).trans (by simp [go_sem])
    · exact (k.below.cell (p := ⟨w.heap.size, 2, none⟩) (by simp <;> omega)).trans (by simp [go_sem])
  clear hT hrA hrB hl1 hl2 h1 h2
  go_enter Tryd.func6, Tryd.ntmps6
  go_upto_region 2 with fail
  rw [← hX]
  clear hX
  obtain ⟨⟨⟨c00, c01⟩, c02⟩, hs0⟩ := (Q0.out _ (Kept.refl _)).2
  have S0 : Hid _ := hs0
  clear hs0
  go_wp2_with fail
  refine (numc_any m1.neg m1.mag m1.exp _ _ LL.out.1 _ (HT.out _ k0.out) S0.out _ NA.out).mono ?_
  rintro e w1 ⟨t1, g1, rfl, ⟨hs, hcap1⟩, hk⟩
  clear hcap1
  clear c00 c01 c02 S0
  go_upto_region 3 with fail
  obtain ⟨X1, hX⟩ : ∃ X, X = w1.alloc (.cells #[.bool rA.neg, .slice t1 rA.mag.length g1, .int .i64 rA.exp] 24) := ⟨_, rfl⟩
  obtain ⟨p1, hp⟩ : ∃ p, p = w1.heap.size := ⟨_, rfl⟩
  have kX : Kept X0 X1 := by rw [hX]; exact hk.alloc _ _
  have Q1 : Hid (∀ u, Kept X1 u → Lay u (p1) t1 g1 rA ∧ Lay u (w.heap.size + 1) q2 d2 m2 ∧ Lay u (w.heap.size) q1 d1 m1) := fun u k => ⟨by rw [hp]; rw [hX] at k; exact lay_alloc hs k, Q0.out u (kX.trans k)⟩
  have k1 : Hid (Kept w X1) := k0.out.trans kX
  rw [← hX, ← hp]
  clear hX hp hs hk kX Q0 k0
  obtain ⟨⟨⟨c00, c01⟩, c02⟩, hs0⟩ := (Q1.out _ (Kept.refl _)).2.1
  have S0 : Hid _ := hs0
  clear hs0
  go_wp2_with fail
  refine (numc_any m2.neg m2.mag m2.exp _ _ LL.out.2 _ (HT.out _ k1.out) S0.out _ NB.out).mono ?_
  rintro e w2 ⟨t2, g2, rfl, ⟨hs, hcap2⟩, hk⟩
  clear hcap2
  clear c00 c01 c02 S0
  go_upto_region 5 with fail
  obtain ⟨X2, hX⟩ : ∃ X, X = w2.alloc (.cells #[.bool false, .slice t2 rB.mag.length g2, .int .i64 rB.exp] 24) := ⟨_, rfl⟩
  obtain ⟨p2, hp⟩ : ∃ p, p = w2.heap.size := ⟨_, rfl⟩
  have kX : Kept X1 X2 := by rw [hX]; exact hk.alloc _ _
  have Q2 : Hid (∀ u, Kept X2 u → Lay u (p2) t2 g2 ⟨false, rB.mag, rB.exp⟩ ∧ Lay u (p1) t1 g1 rA ∧ Lay u (w.heap.size + 1) q2 d2 m2 ∧ Lay u (w.heap.size) q1 d1 m1) := fun u k => ⟨by rw [hp]; rw [hX] at k; exact lay_alloc (r := ⟨false, rB.mag, rB.exp⟩) hs k, Q1.out u (kX.trans k)⟩
  have k2 : Hid (Kept w X2) := k1.out.trans kX
  rw [← hX, ← hp]
  clear hX hp hs hk kX Q1 k1
  obtain ⟨⟨⟨c00, c01⟩, c02⟩, hs0⟩ := (Q2.out _ (Kept.refl _)).1
  have S0 : Hid _ := hs0
  clear hs0
  go_upto_region 8 with fail
  clear c00 c01 c02 S0
  obtain ⟨⟨⟨c00, c01⟩, c02⟩, hs0⟩ := (Q2.out _ (Kept.refl _)).2.1
  have S0 : Hid _ := hs0
  clear hs0
  obtain ⟨⟨⟨c10, c11⟩, c12⟩, hs1⟩ := (Q2.out _ (Kept.refl _)).1
  have S1' : Hid _ := hs1
  clear hs1
  go_wp2_with fail
  refine (R1.out _ _ _ _ _ (HT.out _ k2.out) S0.out S1'.out).mono ?_
  rintro e X3 ⟨rfl, hk⟩
  clear c00 c01 c02 S0 c10 c11 c12 S1'
  have Q3 : Hid (∀ u, Kept X3 u → Lay u (p2) t2 g2 ⟨false, rB.mag, rB.exp⟩ ∧ Lay u (p1) t1 g1 rA ∧ Lay u (w.heap.size + 1) q2 d2 m2 ∧ Lay u (w.heap.size) q1 d1 m1) := fun u k => Q2.out u (hk.trans k)
  have k3 : Hid (Kept w X3) := k2.out.trans hk
  clear hk Q2 k2
  go_upto_region 9 with fail
  go_wp2_with fail
  refine (alive_true _ (HT.out _ k3.out)).mono ?_
  rintro e X4 ⟨rfl, hk⟩
  have Q4 : Hid (∀ u, Kept X4 u → Lay u (p2) t2 g2 ⟨false, rB.mag, rB.exp⟩ ∧ Lay u (p1) t1 g1 rA ∧ Lay u (w.heap.size + 1) q2 d2 m2 ∧ Lay u (w.heap.size) q1 d1 m1) := fun u k => Q3.out u (hk.trans k)
  have k4 : Hid (Kept w X4) := k3.out.trans hk
  clear hk Q3 k3
  go_upto_region 11 with fail
  go_wp2_with fail
  refine (F1.out _ (HT.out _ k4.out)).mono ?_
  rintro e w5 ⟨t5, g5, rfl, hs, hk⟩
  go_upto_region 12 with fail
  obtain ⟨X5, hX⟩ : ∃ X, X = w5.alloc (.cells #[.bool rP.neg, .slice t5 rP.mag.length g5, .int .i64 rP.exp] 24) := ⟨_, rfl⟩
  obtain ⟨p5, hp⟩ : ∃ p, p = w5.heap.size := ⟨_, rfl⟩
  have kX : Kept X4 X5 := by rw [hX]; exact hk.alloc _ _
  have Q5 : Hid (∀ u, Kept X5 u → Lay u (p5) t5 g5 rP ∧ Lay u (p2) t2 g2 ⟨false, rB.mag, rB.exp⟩ ∧ Lay u (p1) t1 g1 rA ∧ Lay u (w.heap.size + 1) q2 d2 m2 ∧ Lay u (w.heap.size) q1 d1 m1) := fun u k => ⟨by rw [hp]; rw [hX] at k; exact lay_alloc hs k, Q4.out u (kX.trans k)⟩
  have k5 : Hid (Kept w X5) := k4.out.trans kX
  rw [← hX, ← hp]
  clear hX hp hs hk kX Q4 k4
  go_wp2_with fail
  refine (KX.out _).mono ?_
  rintro e X6 ⟨rfl, hk⟩
  have Q6 : Hid (∀ u, Kept X6 u → Lay u (p5) t5 g5 rP ∧ Lay u (p2) t2 g2 ⟨false, rB.mag, rB.exp⟩ ∧ Lay u (p1) t1 g1 rA ∧ Lay u (w.heap.size + 1) q2 d2 m2 ∧ Lay u (w.heap.size) q1 d1 m1) := fun u k => Q5.out u (hk.trans k)
  have k6 : Hid (Kept w X6) := k5.out.trans hk
  clear hk Q5 k5
  go_wp2_with fail
  refine (F2.out _ (HT.out _ k6.out)).mono ?_
  rintro e w7 ⟨rfl, hk⟩
  go_upto_region 13 with fail
  obtain ⟨X7, hX⟩ : ∃ X, X = w7.alloc (.cells #[.bool false, .slice none 0 0, .int .i64 0] 24) := ⟨_, rfl⟩
  have kX : Kept X6 X7 := by rw [hX]; exact hk.alloc _ _
  have Q7 : Hid (∀ u, Kept X7 u → Lay u (p5) t5 g5 rP ∧ Lay u (p2) t2 g2 ⟨false, rB.mag, rB.exp⟩ ∧ Lay u (p1) t1 g1 rA ∧ Lay u (w.heap.size + 1) q2 d2 m2 ∧ Lay u (w.heap.size) q1 d1 m1) := fun u k => Q6.out u (kX.trans k)
  have k7 : Hid (Kept w X7) := k6.out.trans kX
  rw [← hX]
  clear hX hk kX Q6 k6
  go_upto_region 14 with fail
  obtain ⟨⟨⟨c00, c01⟩, c02⟩, hs0⟩ := (Q7.out _ (Kept.refl _)).1
  have S0 : Hid _ := hs0
  clear hs0
  obtain ⟨⟨⟨c10, c11⟩, c12⟩, hs1⟩ := (Q7.out _ (Kept.refl _)).2.1
  have S1' : Hid _ := hs1
  clear hs1
  go_wp2_with fail
  refine (M1.out _ _ _ _ _ (HT.out _ k7.out) S0.out S1'.out).mono ?_
  rintro e w8 ⟨t8, g8, rfl, hs, hk⟩
  clear c00 c01 c02 S0 c10 c11 c12 S1'
  go_upto_region 15 with fail
  obtain ⟨X8, hX⟩ : ∃ X, X = w8.alloc (.cells #[.bool rPP.neg, .slice t8 rPP.mag.length g8, .int .i64 rPP.exp] 24) := ⟨_, rfl⟩
  obtain ⟨p8, hp⟩ : ∃ p, p = w8.heap.size := ⟨_, rfl⟩
  have kX : Kept X7 X8 := by rw [hX]; exact hk.alloc _ _
  have Q8 : Hid (∀ u, Kept X8 u → Lay u (p8) t8 g8 rPP ∧ Lay u (p5) t5 g5 rP ∧ Lay u (p2) t2 g2 ⟨false, rB.mag, rB.exp⟩ ∧ Lay u (p1) t1 g1 rA ∧ Lay u (w.heap.size + 1) q2 d2 m2 ∧ Lay u (w.heap.size) q1 d1 m1) := fun u k => ⟨by rw [hp]; rw [hX] at k; exact lay_alloc hs k, Q7.out u (kX.trans k)⟩
  have k8 : Hid (Kept w X8) := k7.out.trans kX
  rw [← hX, ← hp]
  clear hX hp hs hk kX Q7 k7
  obtain ⟨⟨⟨c00, c01⟩, c02⟩, hs0⟩ := (Q8.out _ (Kept.refl _)).1
  have S0 : Hid _ := hs0
  clear hs0
  obtain ⟨⟨⟨c10, c11⟩, c12⟩, hs1⟩ := (Q8.out _ (Kept.refl _)).2.2.2.1
  have S1' : Hid _ := hs1
  clear hs1
  go_wp2_with fail
  refine (C1.out _ _ _ _ _ S0.out S1'.out).mono ?_
  rintro e X9 ⟨rfl, hk⟩
  clear c00 c01 c02 S0 c10 c11 c12 S1'
  have Q9 : Hid (∀ u, Kept X9 u → Lay u (p8) t8 g8 rPP ∧ Lay u (p5) t5 g5 rP ∧ Lay u (p2) t2 g2 ⟨false, rB.mag, rB.exp⟩ ∧ Lay u (p1) t1 g1 rA ∧ Lay u (w.heap.size + 1) q2 d2 m2 ∧ Lay u (w.heap.size) q1 d1 m1) := fun u k => Q8.out u (hk.trans k)
  have k9 : Hid (Kept w X9) := k8.out.trans hk
  clear hk Q8 k8
  go_upto_region 18 with fail
  go_wp2
  go_ret
  exact ⟨rfl, k9.out⟩

end Go.Proofs.YtbheglkpmgmkoaaDoor

namespace Go.Proofs.YtbheglkpmgmkoaaDoor
open Go.ChangeShapes Go.WideShapes Go.ChangeAt Go.RowKit
set_option linter.unusedVariables false
set_option linter.unusedSimpArgs false

set_option maxHeartbeats 8000000 in
set_option maxRecDepth 100000 in
theorem quots_if_true (w : World) (hT : Tab w) (m1 : Nm) (q1 : Option Addr) (d1 : Nat) (hl1 : m1.mag.length ≤ 9223372036854775807) (h1 : Sl w (.slice q1 m1.mag.length d1) m1.mag) (rA : Nm) (hrA : frm m1.neg (nv (msk m1.mag (min m1.mag.length 20))) (m1.exp.tmod 1300) = some rA) (m2 : Nm) (q2 : Option Addr) (d2 : Nat) (hl2 : m2.mag.length ≤ 9223372036854775807) (h2 : Sl w (.slice q2 m2.mag.length d2) m2.mag) (rB : Nm) (hrB : frm m2.neg (nv (msk m2.mag (min m2.mag.length 20))) (m2.exp.tmod 1300) = some rB) (rQ rQQ : Nm) (v n b1 b2 z1 zx : Int) (y1 : bits .and .i64 v 1 = b1) (y2 : IntKind.i64.wrap (32 * b1) = b2) (y3 : IntKind.i64.wrap (32 + b2) = n) (hbz : ¬ rB.mag.length = 0) 
    (R1 : Hid (∀ X a1 c1 a2 c2, Tab X → Sl X (.slice a1 rA.mag.length c1) rA.mag → Sl X (.slice a2 rB.mag.length c2) rB.mag → Calls Tryd.prog 22 #[.agg #[.bool rA.neg, .slice a1 rA.mag.length c1, .int .i64 rA.exp], .agg #[.bool false, .slice a2 rB.mag.length c2, .int .i64 rB.exp], .int .i64 n, .int .i64 1] X fun e w' => e = .returned (.tuple #[.int .i64 z1, .bool true, .int .i64 0]) ∧ Kept X w'))
    (KX : Hid (∀ u, Calls Tryd.prog 14 #[.int .i64 z1, .int .i64 n] u fun e w' => e = .returned (.int .i64 zx) ∧ Kept u w'))
    (F1 : Hid (∀ u, Tab u → Calls Tryd.prog 15 #[.int .i64 z1, .int .i64 n] u fun e w' => e = .returned (.tuple #[.agg #[.bool false, .slice none 0 0, .int .i64 0], .int .i64 6]) ∧ Kept u w'))
    (F2 : Hid (∀ u, Tab u → Calls Tryd.prog 15 #[.int .i64 zx, .int .i64 n] u fun e w' => ∃ ao c, e = .returned (.tuple #[.agg #[.bool rQ.neg, .slice ao rQ.mag.length c, .int .i64 rQ.exp], .int .i64 0]) ∧ Sl w' (.slice ao rQ.mag.length c) rQ.mag ∧ Kept u w'))
    (KL : Hid (∀ u, Calls Tryd.prog 21 #[.int .i64 z1, .int .i64 0, .int .i64 n] u fun e w' => e = .returned (.bool true) ∧ Kept u w'))
    (M2 : Hid (∀ X a1 c1 a2 c2, Tab X → Sl X (.slice a1 rQ.mag.length c1) rQ.mag → Sl X (.slice a2 rB.mag.length c2) rB.mag → Calls Tryd.prog 23 #[.agg #[.bool rQ.neg, .slice a1 rQ.mag.length c1, .int .i64 rQ.exp], .agg #[.bool false, .slice a2 rB.mag.length c2, .int .i64 rB.exp]] X fun e w' => ∃ ao c, e = .returned (.tuple #[.agg #[.bool rQQ.neg, .slice ao rQQ.mag.length c, .int .i64 rQQ.exp], .int .i64 0]) ∧ Sl w' (.slice ao rQQ.mag.length c) rQQ.mag ∧ Kept X w'))
    (C2 : Hid (∀ X a1 c1 a2 c2, Sl X (.slice a1 rQQ.mag.length c1) rQQ.mag → Sl X (.slice a2 rA.mag.length c2) rA.mag → Calls Tryd.prog 17 #[.agg #[.bool rQQ.neg, .slice a1 rQQ.mag.length c1, .int .i64 rQQ.exp], .agg #[.bool rA.neg, .slice a2 rA.mag.length c2, .int .i64 rA.exp]] X fun e w' => e = .returned (.tuple #[.int .i64 1, .int .i64 0]) ∧ Kept X w')) :
    Calls Tryd.prog 6 #[.agg #[.bool m1.neg, .slice q1 m1.mag.length d1, .int .i64 m1.exp], .agg #[.bool m2.neg, .slice q2 m2.mag.length d2, .int .i64 m2.exp], .int .i64 v] w fun e w' => e = .returned (.bool true) ∧ Kept w w' := by
  have HT : Hid (∀ u, Kept w u → Tab u) := fun u k => hT.kept k
  have NA : Hid (frm m1.neg (nv (msk m1.mag (min m1.mag.length 20))) (m1.exp.tmod 1300) = some rA) := hrA
  have NB : Hid (frm m2.neg (nv (msk m2.mag (min m2.mag.length 20))) (m2.exp.tmod 1300) = some rB) := hrB
  have LL : Hid (m1.mag.length ≤ 9223372036854775807 ∧ m2.mag.length ≤ 9223372036854775807) := ⟨hl1, hl2⟩
  have hbi : ((rB.mag.length : Int) == 0) = false := by rw [beq_eq_false_iff_ne]; omega
  have hbn : ¬ rB.mag = [] := by intro hx; rw [hx] at hbz; exact hbz rfl
  obtain ⟨X0, hX⟩ : ∃ X, X = ((w.alloc (.cells #[.bool m1.neg, .slice q1 m1.mag.length d1, .int .i64 m1.exp] 24)).alloc (.cells #[.bool m2.neg, .slice q2 m2.mag.length d2, .int .i64 m2.exp] 24)) := ⟨_, rfl⟩
  have k0 : Hid (Kept w X0) := by rw [hX]; exact ((Kept.refl w).alloc _ _).alloc _ _
  have Q0 : Hid (∀ u, Kept X0 u → Lay u (w.heap.size + 1) q2 d2 m2 ∧ Lay u w.heap.size q1 d1 m1) := by
    intro u k
    have kw := k0.out.trans k
    rw [hX] at k
    refine ⟨⟨⟨⟨?_, ?_⟩, ?_⟩, h2.kept kw⟩, ⟨⟨⟨?_, ?_⟩, ?_⟩, h1.kept kw⟩⟩
    · exact (k.below.cell (p := ⟨w.heap.size + 1, 0, none⟩) (by simp <;> omega)).trans (by simp [go_sem])
    · exact (k.below.cell (p := ⟨w.heap.size + 1, 1, none⟩) (by simp <;> omega)).trans (by simp [go_sem])
    · exact (k.below.cell (p := ⟨w.heap.size + 1, 2, none⟩) (by simp <;> omega)).trans (by simp [go_sem])
    · exact (k.below.cell (p := ⟨w.heap.size, 0, none⟩) (by simp <;> omega)).trans (by simp [go_sem])
    · exact (k.below.cell (p := ⟨w.heap.size, 1, none⟩) (by simp <;> omega)).trans (by simp [go_sem])
    · exact (k.below.cell (p := ⟨w.heap.size, 2, none⟩) (by simp <;> omega)).trans (by simp [go_sem])
  clear hT hrA hrB hl1 hl2 h1 h2
  go_enter Tryd.func6, Tryd.ntmps6
  go_upto_region 2 with fail
  rw [← hX]
  clear hX
  obtain ⟨⟨⟨c00, c01⟩, c02⟩, hs0⟩ := (Q0.out _ (Kept.refl _)).2
  have S0 : Hid _ := hs0
  clear hs0
  go_wp2_with fail
  refine (numc_any m1.neg m1.mag m1.exp _ _ LL.out.1 _ (HT.out _ k0.out) S0.out _ NA.out).mono ?_
  rintro e w1 ⟨t1, g1, rfl, ⟨hs, hcap1⟩, hk⟩
  clear hcap1
  clear c00 c01 c02 S0
  go_upto_region 3 with fail
  obtain ⟨X1, hX⟩ : ∃ X, X = w1.alloc (.cells #[.bool rA.neg, .slice t1 rA.mag.length g1, .int .i64 rA.exp] 24) := ⟨_, rfl⟩
  obtain ⟨p1, hp⟩ : ∃ p, p = w1.heap.size := ⟨_, rfl⟩
  have kX : Kept X0 X1 := by rw [hX]; exact hk.alloc _ _
  have Q1 : Hid (∀ u, Kept X1 u → Lay u (p1) t1 g1 rA ∧ Lay u (w.heap.size + 1) q2 d2 m2 ∧ Lay u (w.heap.size) q1 d1 m1) := fun u k => ⟨by rw [hp]; rw [hX] at k; exact lay_alloc hs k, Q0.out u (kX.trans k)⟩
  have k1 : Hid (Kept w X1) := k0.out.trans kX
  rw [← hX, ← hp]
  clear hX hp hs hk kX Q0 k0
  obtain ⟨⟨⟨c00, c01⟩, c02⟩, hs0⟩ := (Q1.out _ (Kept.refl _)).2.1
  have S0 : Hid _ := hs0
  clear hs0
  go_wp2_with fail
  refine (numc_any m2.neg m2.mag m2.exp _ _ LL.out.2 _ (HT.out _ k1.out) S0.out _ NB.out).mono ?_
  rintro e w2 ⟨t2, g2, rfl, ⟨hs, hcap2⟩, hk⟩
  clear hcap2
  clear c00 c01 c02 S0
  go_upto_region 5 with fail
  obtain ⟨X2, hX⟩ : ∃ X, X = w2.alloc (.cells #[.bool false, .slice t2 rB.mag.length g2, .int .i64 rB.exp] 24) := ⟨_, rfl⟩
  obtain ⟨p2, hp⟩ : ∃ p, p = w2.heap.size := ⟨_, rfl⟩
  have kX : Kept X1 X2 := by rw [hX]; exact hk.alloc _ _
  have Q2 : Hid (∀ u, Kept X2 u → Lay u (p2) t2 g2 ⟨false, rB.mag, rB.exp⟩ ∧ Lay u (p1) t1 g1 rA ∧ Lay u (w.heap.size + 1) q2 d2 m2 ∧ Lay u (w.heap.size) q1 d1 m1) := fun u k => ⟨by rw [hp]; rw [hX] at k; exact lay_alloc (r := ⟨false, rB.mag, rB.exp⟩) hs k, Q1.out u (kX.trans k)⟩
  have k2 : Hid (Kept w X2) := k1.out.trans kX
  rw [← hX, ← hp]
  clear hX hp hs hk kX Q1 k1
  obtain ⟨⟨⟨c00, c01⟩, c02⟩, hs0⟩ := (Q2.out _ (Kept.refl _)).1
  have S0 : Hid _ := hs0
  clear hs0
  go_upto_region 8 with fail
  clear c00 c01 c02 S0
  obtain ⟨⟨⟨c00, c01⟩, c02⟩, hs0⟩ := (Q2.out _ (Kept.refl _)).2.1
  have S0 : Hid _ := hs0
  clear hs0
  obtain ⟨⟨⟨c10, c11⟩, c12⟩, hs1⟩ := (Q2.out _ (Kept.refl _)).1
  have S1' : Hid _ := hs1
  clear hs1
  go_wp2_with fail
  refine (R1.out _ _ _ _ _ (HT.out _ k2.out) S0.out S1'.out).mono ?_
  rintro e X3 ⟨rfl, hk⟩
  clear c00 c01 c02 S0 c10 c11 c12 S1'
  have Q3 : Hid (∀ u, Kept X3 u → Lay u (p2) t2 g2 ⟨false, rB.mag, rB.exp⟩ ∧ Lay u (p1) t1 g1 rA ∧ Lay u (w.heap.size + 1) q2 d2 m2 ∧ Lay u (w.heap.size) q1 d1 m1) := fun u k => Q2.out u (hk.trans k)
  have k3 : Hid (Kept w X3) := k2.out.trans hk
  clear hk Q2 k2
  go_upto_region 9 with fail
  go_wp2_with fail
  refine (alive_true _ (HT.out _ k3.out)).mono ?_
  rintro e X4 ⟨rfl, hk⟩
  have Q4 : Hid (∀ u, Kept X4 u → Lay u (p2) t2 g2 ⟨false, rB.mag, rB.exp⟩ ∧ Lay u (p1) t1 g1 rA ∧ Lay u (w.heap.size + 1) q2 d2 m2 ∧ Lay u (w.heap.size) q1 d1 m1) := fun u k => Q3.out u (hk.trans k)
  have k4 : Hid (Kept w X4) := k3.out.trans hk
  clear hk Q3 k3
  go_upto_region 11 with fail
  go_wp2_with fail
  refine (F1.out _ (HT.out _ k4.out)).mono ?_
  rintro e w5 ⟨rfl, hk⟩
  go_upto_region 12 with fail
  obtain ⟨X5, hX⟩ : ∃ X, X = w5.alloc (.cells #[.bool false, .slice none 0 0, .int .i64 0] 24) := ⟨_, rfl⟩
  have kX : Kept X4 X5 := by rw [hX]; exact hk.alloc _ _
  have Q5 : Hid (∀ u, Kept X5 u → Lay u (p2) t2 g2 ⟨false, rB.mag, rB.exp⟩ ∧ Lay u (p1) t1 g1 rA ∧ Lay u (w.heap.size + 1) q2 d2 m2 ∧ Lay u (w.heap.size) q1 d1 m1) := fun u k => Q4.out u (kX.trans k)
  have k5 : Hid (Kept w X5) := k4.out.trans kX
  rw [← hX]
  clear hX hk kX Q4 k4
  go_wp2_with fail
  refine (KX.out _).mono ?_
  rintro e X6 ⟨rfl, hk⟩
  have Q6 : Hid (∀ u, Kept X6 u → Lay u (p2) t2 g2 ⟨false, rB.mag, rB.exp⟩ ∧ Lay u (p1) t1 g1 rA ∧ Lay u (w.heap.size + 1) q2 d2 m2 ∧ Lay u (w.heap.size) q1 d1 m1) := fun u k => Q5.out u (hk.trans k)
  have k6 : Hid (Kept w X6) := k5.out.trans hk
  clear hk Q5 k5
  go_wp2_with fail
  refine (F2.out _ (HT.out _ k6.out)).mono ?_
  rintro e w7 ⟨t7, g7, rfl, hs, hk⟩
  go_upto_region 13 with fail
  obtain ⟨X7, hX⟩ : ∃ X, X = w7.alloc (.cells #[.bool rQ.neg, .slice t7 rQ.mag.length g7, .int .i64 rQ.exp] 24) := ⟨_, rfl⟩
  obtain ⟨p7, hp⟩ : ∃ p, p = w7.heap.size := ⟨_, rfl⟩
  have kX : Kept X6 X7 := by rw [hX]; exact hk.alloc _ _
  have Q7 : Hid (∀ u, Kept X7 u → Lay u (p7) t7 g7 rQ ∧ Lay u (p2) t2 g2 ⟨false, rB.mag, rB.exp⟩ ∧ Lay u (p1) t1 g1 rA ∧ Lay u (w.heap.size + 1) q2 d2 m2 ∧ Lay u (w.heap.size) q1 d1 m1) := fun u k => ⟨by rw [hp]; rw [hX] at k; exact lay_alloc hs k, Q6.out u (kX.trans k)⟩
  have k7 : Hid (Kept w X7) := k6.out.trans kX
  rw [← hX, ← hp]
  clear hX hp hs hk kX Q6 k6
  go_upto_region 18 with fail
  go_upto_region 19 with fail
  obtain ⟨⟨⟨c00, c01⟩, c02⟩, hs0⟩ := (Q7.out _ (Kept.refl _)).1
  have S0 : Hid _ := hs0
  clear hs0
  obtain ⟨⟨⟨c10, c11⟩, c12⟩, hs1⟩ := (Q7.out _ (Kept.refl _)).2.1
  have S1' : Hid _ := hs1
  clear hs1
  go_wp2_with fail
  refine (M2.out _ _ _ _ _ (HT.out _ k7.out) S0.out S1'.out).mono ?_
  rintro e w8 ⟨t8, g8, rfl, hs, hk⟩
  clear c00 c01 c02 S0 c10 c11 c12 S1'
  go_upto_region 20 with fail
  obtain ⟨X8, hX⟩ : ∃ X, X = w8.alloc (.cells #[.bool rQQ.neg, .slice t8 rQQ.mag.length g8, .int .i64 rQQ.exp] 24) := ⟨_, rfl⟩
  obtain ⟨p8, hp⟩ : ∃ p, p = w8.heap.size := ⟨_, rfl⟩
  have kX : Kept X7 X8 := by rw [hX]; exact hk.alloc _ _
  have Q8 : Hid (∀ u, Kept X8 u → Lay u (p8) t8 g8 rQQ ∧ Lay u (p7) t7 g7 rQ ∧ Lay u (p2) t2 g2 ⟨false, rB.mag, rB.exp⟩ ∧ Lay u (p1) t1 g1 rA ∧ Lay u (w.heap.size + 1) q2 d2 m2 ∧ Lay u (w.heap.size) q1 d1 m1) := fun u k => ⟨by rw [hp]; rw [hX] at k; exact lay_alloc hs k, Q7.out u (kX.trans k)⟩
  have k8 : Hid (Kept w X8) := k7.out.trans kX
  rw [← hX, ← hp]
  clear hX hp hs hk kX Q7 k7
  obtain ⟨⟨⟨c00, c01⟩, c02⟩, hs0⟩ := (Q8.out _ (Kept.refl _)).1
  have S0 : Hid _ := hs0
  clear hs0
  obtain ⟨⟨⟨c10, c11⟩, c12⟩, hs1⟩ := (Q8.out _ (Kept.refl _)).2.2.2.1
  have S1' : Hid _ := hs1
  clear hs1
  go_wp2_with fail
  refine (C2.out _ _ _ _ _ S0.out S1'.out).mono ?_
  rintro e X9 ⟨rfl, hk⟩
  clear c00 c01 c02 S0 c10 c11 c12 S1'
  have Q9 : Hid (∀ u, Kept X9 u → Lay u (p8) t8 g8 rQQ ∧ Lay u (p7) t7 g7 rQ ∧ Lay u (p2) t2 g2 ⟨false, rB.mag, rB.exp⟩ ∧ Lay u (p1) t1 g1 rA ∧ Lay u (w.heap.size + 1) q2 d2 m2 ∧ Lay u (w.heap.size) q1 d1 m1) := fun u k => Q8.out u (hk.trans k)
  have k9 : Hid (Kept w X9) := k8.out.trans hk
  clear hk Q8 k8
  go_wp2_with fail
  refine (KL.out _).mono ?_
  rintro e X10 ⟨rfl, hk⟩
  have Q10 : Hid (∀ u, Kept X10 u → Lay u (p8) t8 g8 rQQ ∧ Lay u (p7) t7 g7 rQ ∧ Lay u (p2) t2 g2 ⟨false, rB.mag, rB.exp⟩ ∧ Lay u (p1) t1 g1 rA ∧ Lay u (w.heap.size + 1) q2 d2 m2 ∧ Lay u (w.heap.size) q1 d1 m1) := fun u k => Q9.out u (hk.trans k)
  have k10 : Hid (Kept w X10) := k9.out.trans hk
  clear hk Q9 k9
  go_wp2
  go_ret
  exact ⟨rfl, k10.out⟩

end Go.Proofs.YtbheglkpmgmkoaaDoor

namespace Go.Proofs.YtbheglkpmgmkoaaDoor
open Go.ChangeShapes Go.WideShapes Go.ChangeAt Go.RowKit
set_option linter.unusedVariables false
set_option linter.unusedSimpArgs false

set_option maxHeartbeats 8000000 in
set_option maxRecDepth 100000 in
theorem quots_if_false (w : World) (hT : Tab w) (m1 : Nm) (q1 : Option Addr) (d1 : Nat) (hl1 : m1.mag.length ≤ 9223372036854775807) (h1 : Sl w (.slice q1 m1.mag.length d1) m1.mag) (rA : Nm) (hrA : frm m1.neg (nv (msk m1.mag (min m1.mag.length 20))) (m1.exp.tmod 1300) = some rA) (m2 : Nm) (q2 : Option Addr) (d2 : Nat) (hl2 : m2.mag.length ≤ 9223372036854775807) (h2 : Sl w (.slice q2 m2.mag.length d2) m2.mag) (rB : Nm) (hrB : frm m2.neg (nv (msk m2.mag (min m2.mag.length 20))) (m2.exp.tmod 1300) = some rB) (rQ rQQ : Nm) (v n b1 b2 z1 zx : Int) (y1 : bits .and .i64 v 1 = b1) (y2 : IntKind.i64.wrap (32 * b1) = b2) (y3 : IntKind.i64.wrap (32 + b2) = n) (hbz : ¬ rB.mag.length = 0) 
    (R1 : Hid (∀ X a1 c1 a2 c2, Tab X → Sl X (.slice a1 rA.mag.length c1) rA.mag → Sl X (.slice a2 rB.mag.length c2) rB.mag → Calls Tryd.prog 22 #[.agg #[.bool rA.neg, .slice a1 rA.mag.length c1, .int .i64 rA.exp], .agg #[.bool false, .slice a2 rB.mag.length c2, .int .i64 rB.exp], .int .i64 n, .int .i64 1] X fun e w' => e = .returned (.tuple #[.int .i64 z1, .bool false, .int .i64 0]) ∧ Kept X w'))
    (KX : Hid (∀ u, Calls Tryd.prog 14 #[.int .i64 z1, .int .i64 n] u fun e w' => e = .returned (.int .i64 zx) ∧ Kept u w'))
    (F1 : Hid (∀ u, Tab u → Calls Tryd.prog 15 #[.int .i64 z1, .int .i64 n] u fun e w' => e = .returned (.tuple #[.agg #[.bool false, .slice none 0 0, .int .i64 0], .int .i64 6]) ∧ Kept u w'))
    (F2 : Hid (∀ u, Tab u → Calls Tryd.prog 15 #[.int .i64 zx, .int .i64 n] u fun e w' => ∃ ao c, e = .returned (.tuple #[.agg #[.bool rQ.neg, .slice ao rQ.mag.length c, .int .i64 rQ.exp], .int .i64 0]) ∧ Sl w' (.slice ao rQ.mag.length c) rQ.mag ∧ Kept u w'))
    (KL : Hid (∀ u, Calls Tryd.prog 21 #[.int .i64 z1, .int .i64 0, .int .i64 n] u fun e w' => e = .returned (.bool true) ∧ Kept u w'))
    (M2 : Hid (∀ X a1 c1 a2 c2, Tab X → Sl X (.slice a1 rQ.mag.length c1) rQ.mag → Sl X (.slice a2 rB.mag.length c2) rB.mag → Calls Tryd.prog 23 #[.agg #[.bool rQ.neg, .slice a1 rQ.mag.length c1, .int .i64 rQ.exp], .agg #[.bool false, .slice a2 rB.mag.length c2, .int .i64 rB.exp]] X fun e w' => ∃ ao c, e = .returned (.tuple #[.agg #[.bool rQQ.neg, .slice ao rQQ.mag.length c, .int .i64 rQQ.exp], .int .i64 0]) ∧ Sl w' (.slice ao rQQ.mag.length c) rQQ.mag ∧ Kept X w'))
    (C2 : Hid (∀ X a1 c1 a2 c2, Sl X (.slice a1 rQQ.mag.length c1) rQQ.mag → Sl X (.slice a2 rA.mag.length c2) rA.mag → Calls Tryd.prog 17 #[.agg #[.bool rQQ.neg, .slice a1 rQQ.mag.length c1, .int .i64 rQQ.exp], .agg #[.bool rA.neg, .slice a2 rA.mag.length c2, .int .i64 rA.exp]] X fun e w' => e = .returned (.tuple #[.int .i64 1, .int .i64 0]) ∧ Kept X w')) :
    Calls Tryd.prog 6 #[.agg #[.bool m1.neg, .slice q1 m1.mag.length d1, .int .i64 m1.exp], .agg #[.bool m2.neg, .slice q2 m2.mag.length d2, .int .i64 m2.exp], .int .i64 v] w fun e w' => e = .returned (.bool true) ∧ Kept w w' := by
  have HT : Hid (∀ u, Kept w u → Tab u) := fun u k => hT.kept k
  have NA : Hid (frm m1.neg (nv (msk m1.mag (min m1.mag.length 20))) (m1.exp.tmod 1300) = some rA) := hrA
  have NB : Hid (frm m2.neg (nv (msk m2.mag (min m2.mag.length 20))) (m2.exp.tmod 1300) = some rB) := hrB
  have LL : Hid (m1.mag.length ≤ 9223372036854775807 ∧ m2.mag.length ≤ 9223372036854775807) := ⟨hl1, hl2⟩
  have hbi : ((rB.mag.length : Int) == 0) = false := by rw [beq_eq_false_iff_ne]; omega
  have hbn : ¬ rB.mag = [] := by intro hx; rw [hx] at hbz; exact hbz rfl
  obtain ⟨X0, hX⟩ : ∃ X, X = ((w.alloc (.cells #[.bool m1.neg, .slice q1 m1.mag.length d1, .int .i64 m1.exp] 24)).alloc (.cells #[.bool m2.neg, .slice q2 m2.mag.length d2, .int .i64 m2.exp] 24)) := ⟨_, rfl⟩
  have k0 : Hid (Kept w X0) := by rw [hX]; exact ((Kept.refl w).alloc _ _).alloc _ _
  have Q0 : Hid (∀ u, Kept X0 u → Lay u (w.heap.size + 1) q2 d2 m2 ∧ Lay u w.heap.size q1 d1 m1) := by
    intro u k
    have kw := k0.out.trans k
    rw [hX] at k
    refine ⟨⟨⟨⟨?_, ?_⟩, ?_⟩, h2.kept kw⟩, ⟨⟨⟨?_, ?_⟩, ?_⟩, h1.kept kw⟩⟩
    · exact (k.below.cell (p := ⟨w.heap.size + 1, 0, none⟩) (by simp <;> omega)).trans (by simp [go_sem])
    · exact (k.below.cell (p := ⟨w.heap.size + 1, 1, none⟩) (by simp <;> omega)).trans (by simp [go_sem])
    · exact (k.below.cell (p := ⟨w.heap.size + 1, 2, none⟩) (by simp <;> omega)).trans (by simp [go_sem])
    · exact (k.below.cell (p := ⟨w.heap.size, 0, none⟩) (by simp <;> omega)).trans (by simp [go_sem])
    · exact (k.below.cell (p := ⟨w.heap.size, 1, none⟩) (by simp <;> omega)).trans (by simp [go_sem])
    · exact (k.below.cell (p := ⟨w.heap.size, 2, none⟩) (by simp <;> omega)).trans (by simp [go_sem])
  clear hT hrA hrB hl1 hl2 h1 h2
  go_enter Tryd.func6, Tryd.ntmps6
  go_upto_region 2 with fail
  rw [← hX]
  clear hX
  obtain ⟨⟨⟨c00, c01⟩, c02⟩, hs0⟩ := (Q0.out _ (Kept.refl _)).2
  have S0 : Hid _ := hs0
  clear hs0
  go_wp2_with fail
  refine (numc_any m1.neg m1.mag m1.exp _ _ LL.out.1 _ (HT.out _ k0.out) S0.out _ NA.out).mono ?_
  rintro e w1 ⟨t1, g1, rfl, ⟨hs, hcap1⟩, hk⟩
  clear hcap1
  clear c00 c01 c02 S0
  go_upto_region 3 with fail
  obtain ⟨X1, hX⟩ : ∃ X, X = w1.alloc (.cells #[.bool rA.neg, .slice t1 rA.mag.length g1, .int .i64 rA.exp] 24) := ⟨_, rfl⟩
  obtain ⟨p1, hp⟩ : ∃ p, p = w1.heap.size := ⟨_, rfl⟩
  have kX : Kept X0 X1 := by rw [hX]; exact hk.alloc _ _
  have Q1 : Hid (∀ u, Kept X1 u → Lay u (p1) t1 g1 rA ∧ Lay u (w.heap.size + 1) q2 d2 m2 ∧ Lay u (w.heap.size) q1 d1 m1) := fun u k => ⟨by rw [hp]; rw [hX] at k; exact lay_alloc hs k, Q0.out u (kX.trans k)⟩
  have k1 : Hid (Kept w X1) := k0.out.trans kX
  rw [← hX, ← hp]
  clear hX hp hs hk kX Q0 k0
  obtain ⟨⟨⟨c00, c01⟩, c02⟩, hs0⟩ := (Q1.out _ (Kept.refl _)).2.1
  have S0 : Hid _ := hs0
  clear hs0
  go_wp2_with fail
  refine (numc_any m2.neg m2.mag m2.exp _ _ LL.out.2 _ (HT.out _ k1.out) S0.out _ NB.out).mono ?_
  rintro e w2 ⟨t2, g2, rfl, ⟨hs, hcap2⟩, hk⟩
  clear hcap2
  clear c00 c01 c02 S0
  go_upto_region 5 with fail
  obtain ⟨X2, hX⟩ : ∃ X, X = w2.alloc (.cells #[.bool false, .slice t2 rB.mag.length g2, .int .i64 rB.exp] 24) := ⟨_, rfl⟩
  obtain ⟨p2, hp⟩ : ∃ p, p = w2.heap.size := ⟨_, rfl⟩
  have kX : Kept X1 X2 := by rw [hX]; exact hk.alloc _ _
  have Q2 : Hid (∀ u, Kept X2 u → Lay u (p2) t2 g2 ⟨false, rB.mag, rB.exp⟩ ∧ Lay u (p1) t1 g1 rA ∧ Lay u (w.heap.size + 1) q2 d2 m2 ∧ Lay u (w.heap.size) q1 d1 m1) := fun u k => ⟨by rw [hp]; rw [hX] at k; exact lay_alloc (r := ⟨false, rB.mag, rB.exp⟩) hs k, Q1.out u (kX.trans k)⟩
  have k2 : Hid (Kept w X2) := k1.out.trans kX
  rw [← hX, ← hp]
  clear hX hp hs hk kX Q1 k1
  obtain ⟨⟨⟨c00, c01⟩, c02⟩, hs0⟩ := (Q2.out _ (Kept.refl _)).1
  have S0 : Hid _ := hs0
  clear hs0
  go_upto_region 8 with fail
  clear c00 c01 c02 S0
  obtain ⟨⟨⟨c00, c01⟩, c02⟩, hs0⟩ := (Q2.out _ (Kept.refl _)).2.1
  have S0 : Hid _ := hs0
  clear hs0
  obtain ⟨⟨⟨c10, c11⟩, c12⟩, hs1⟩ := (Q2.out _ (Kept.refl _)).1
  have S1' : Hid _ := hs1
  clear hs1
  go_wp2_with fail
  refine (R1.out _ _ _ _ _ (HT.out _ k2.out) S0.out S1'.out).mono ?_
  rintro e X3 ⟨rfl, hk⟩
  clear c00 c01 c02 S0 c10 c11 c12 S1'
  have Q3 : Hid (∀ u, Kept X3 u → Lay u (p2) t2 g2 ⟨false, rB.mag, rB.exp⟩ ∧ Lay u (p1) t1 g1 rA ∧ Lay u (w.heap.size + 1) q2 d2 m2 ∧ Lay u (w.heap.size) q1 d1 m1) := fun u k => Q2.out u (hk.trans k)
  have k3 : Hid (Kept w X3) := k2.out.trans hk
  clear hk Q2 k2
  go_upto_region 9 with fail
  go_wp2_with fail
  refine (alive_true _ (HT.out _ k3.out)).mono ?_
  rintro e X4 ⟨rfl, hk⟩
  have Q4 : Hid (∀ u, Kept X4 u → Lay u (p2) t2 g2 ⟨false, rB.mag, rB.exp⟩ ∧ Lay u (p1) t1 g1 rA ∧ Lay u (w.heap.size + 1) q2 d2 m2 ∧ Lay u (w.heap.size) q1 d1 m1) := fun u k => Q3.out u (hk.trans k)
  have k4 : Hid (Kept w X4) := k3.out.trans hk
  clear hk Q3 k3
  go_upto_region 11 with fail
  go_wp2_with fail
  refine (F1.out _ (HT.out _ k4.out)).mono ?_
  rintro e w5 ⟨rfl, hk⟩
  go_upto_region 12 with fail
  obtain ⟨X5, hX⟩ : ∃ X, X = w5.alloc (.cells #[.bool false, .slice none 0 0, .int .i64 0] 24) := ⟨_, rfl⟩
  have kX : Kept X4 X5 := by rw [hX]; exact hk.alloc _ _
  have Q5 : Hid (∀ u, Kept X5 u → Lay u (p2) t2 g2 ⟨false, rB.mag, rB.exp⟩ ∧ Lay u (p1) t1 g1 rA ∧ Lay u (w.heap.size + 1) q2 d2 m2 ∧ Lay u (w.heap.size) q1 d1 m1) := fun u k => Q4.out u (kX.trans k)
  have k5 : Hid (Kept w X5) := k4.out.trans kX
  rw [← hX]
  clear hX hk kX Q4 k4
  go_wp2_with fail
  refine (KX.out _).mono ?_
  rintro e X6 ⟨rfl, hk⟩
  have Q6 : Hid (∀ u, Kept X6 u → Lay u (p2) t2 g2 ⟨false, rB.mag, rB.exp⟩ ∧ Lay u (p1) t1 g1 rA ∧ Lay u (w.heap.size + 1) q2 d2 m2 ∧ Lay u (w.heap.size) q1 d1 m1) := fun u k => Q5.out u (hk.trans k)
  have k6 : Hid (Kept w X6) := k5.out.trans hk
  clear hk Q5 k5
  go_wp2_with fail
  refine (F2.out _ (HT.out _ k6.out)).mono ?_
  rintro e w7 ⟨t7, g7, rfl, hs, hk⟩
  go_upto_region 13 with fail
  obtain ⟨X7, hX⟩ : ∃ X, X = w7.alloc (.cells #[.bool rQ.neg, .slice t7 rQ.mag.length g7, .int .i64 rQ.exp] 24) := ⟨_, rfl⟩
  obtain ⟨p7, hp⟩ : ∃ p, p = w7.heap.size := ⟨_, rfl⟩
  have kX : Kept X6 X7 := by rw [hX]; exact hk.alloc _ _
  have Q7 : Hid (∀ u, Kept X7 u → Lay u (p7) t7 g7 rQ ∧ Lay u (p2) t2 g2 ⟨false, rB.mag, rB.exp⟩ ∧ Lay u (p1) t1 g1 rA ∧ Lay u (w.heap.size + 1) q2 d2 m2 ∧ Lay u (w.heap.size) q1 d1 m1) := fun u k => ⟨by rw [hp]; rw [hX] at k; exact lay_alloc hs k, Q6.out u (kX.trans k)⟩
  have k7 : Hid (Kept w X7) := k6.out.trans kX
  rw [← hX, ← hp]
  clear hX hp hs hk kX Q6 k6
  go_upto_region 18 with fail
  go_upto_region 19 with fail
  obtain ⟨⟨⟨c00, c01⟩, c02⟩, hs0⟩ := (Q7.out _ (Kept.refl _)).1
  have S0 : Hid _ := hs0
  clear hs0
  obtain ⟨⟨⟨c10, c11⟩, c12⟩, hs1⟩ := (Q7.out _ (Kept.refl _)).2.1
  have S1' : Hid _ := hs1
  clear hs1
  go_wp2_with fail
  refine (M2.out _ _ _ _ _ (HT.out _ k7.out) S0.out S1'.out).mono ?_
  rintro e w8 ⟨t8, g8, rfl, hs, hk⟩
  clear c00 c01 c02 S0 c10 c11 c12 S1'
  go_upto_region 20 with fail
  obtain ⟨X8, hX⟩ : ∃ X, X = w8.alloc (.cells #[.bool rQQ.neg, .slice t8 rQQ.mag.length g8, .int .i64 rQQ.exp] 24) := ⟨_, rfl⟩
  obtain ⟨p8, hp⟩ : ∃ p, p = w8.heap.size := ⟨_, rfl⟩
  have kX : Kept X7 X8 := by rw [hX]; exact hk.alloc _ _
  have Q8 : Hid (∀ u, Kept X8 u → Lay u (p8) t8 g8 rQQ ∧ Lay u (p7) t7 g7 rQ ∧ Lay u (p2) t2 g2 ⟨false, rB.mag, rB.exp⟩ ∧ Lay u (p1) t1 g1 rA ∧ Lay u (w.heap.size + 1) q2 d2 m2 ∧ Lay u (w.heap.size) q1 d1 m1) := fun u k => ⟨by rw [hp]; rw [hX] at k; exact lay_alloc hs k, Q7.out u (kX.trans k)⟩
  have k8 : Hid (Kept w X8) := k7.out.trans kX
  rw [← hX, ← hp]
  clear hX hp hs hk kX Q7 k7
  obtain ⟨⟨⟨c00, c01⟩, c02⟩, hs0⟩ := (Q8.out _ (Kept.refl _)).1
  have S0 : Hid _ := hs0
  clear hs0
  obtain ⟨⟨⟨c10, c11⟩, c12⟩, hs1⟩ := (Q8.out _ (Kept.refl _)).2.2.2.1
  have S1' : Hid _ := hs1
  clear hs1
  go_wp2_with fail
  refine (C2.out _ _ _ _ _ S0.out S1'.out).mono ?_
  rintro e X9 ⟨rfl, hk⟩
  clear c00 c01 c02 S0 c10 c11 c12 S1'
  have Q9 : Hid (∀ u, Kept X9 u → Lay u (p8) t8 g8 rQQ ∧ Lay u (p7) t7 g7 rQ ∧ Lay u (p2) t2 g2 ⟨false, rB.mag, rB.exp⟩ ∧ Lay u (p1) t1 g1 rA ∧ Lay u (w.heap.size + 1) q2 d2 m2 ∧ Lay u (w.heap.size) q1 d1 m1) := fun u k => Q8.out u (hk.trans k)
  have k9 : Hid (Kept w X9) := k8.out.trans hk
  clear hk Q8 k8
  go_wp2_with fail
  refine (KL.out _).mono ?_
  rintro e X10 ⟨rfl, hk⟩
  have Q10 : Hid (∀ u, Kept X10 u → Lay u (p8) t8 g8 rQQ ∧ Lay u (p7) t7 g7 rQ ∧ Lay u (p2) t2 g2 ⟨false, rB.mag, rB.exp⟩ ∧ Lay u (p1) t1 g1 rA ∧ Lay u (w.heap.size + 1) q2 d2 m2 ∧ Lay u (w.heap.size) q1 d1 m1) := fun u k => Q9.out u (hk.trans k)
  have k10 : Hid (Kept w X10) := k9.out.trans hk
  clear hk Q9 k9
  go_wp2
  go_ret
  exact ⟨rfl, k10.out⟩

end Go.Proofs.YtbheglkpmgmkoaaDoor
