/- The walk of the statement on the ring. -/
import Derived.Test.YtkmengfmiamdaaaDoorS10
import Derived.Test.YtkmengfmiamdaaaDoorQ9
namespace Go.Proofs.YtkmengfmiamdaaaDoor
open Go.ChangeShapes Go.WideShapes Go.ChangeAt Go.RowKit
set_option linter.unusedVariables false
set_option linter.unusedSimpArgs false

theorem cmp_at (s : Int) (X : World) (a b : Nm) (ha : vld a = true) (hb : vld b = true) (ga : a.mag ≠ [] → s ≤ a.exp) (gb : b.mag ≠ [] → s ≤ b.exp) (a1 a2 : Option Addr) (c1 c2 : Nat) (h1 : Sl X (.slice a1 a.mag.length c1) a.mag) (h2 : Sl X (.slice a2 b.mag.length c2) b.mag) (G : Int) (hG : cz (vz s a) (vz s b) = G) : Calls Tryd.prog 15 #[.agg #[.bool a.neg, .slice a1 a.mag.length c1, .int .i64 a.exp], .agg #[.bool b.neg, .slice a2 b.mag.length c2, .int .i64 b.exp]] X fun e w' => e = .returned (.tuple #[.int .i64 G, .int .i64 0]) ∧ Kept X w' := by
  have := cmp_any s X a.neg a.mag a.exp ha a1 c1 b.neg b.mag b.exp hb a2 c2 ga gb h1 h2
  rw [hG] at this
  exact this
theorem sign_at (X : World) (a : Nm) (ha : vld a = true) (a1 : Option Addr) (c1 : Nat) (h1 : Sl X (.slice a1 a.mag.length c1) a.mag) (G : Int) (hG : sgz a.neg a.mag = G) : Calls Tryd.prog 16 #[.agg #[.bool a.neg, .slice a1 a.mag.length c1, .int .i64 a.exp]] X fun e w' => e = .returned (.tuple #[.int .i64 G, .int .i64 0]) ∧ Kept X w' := by
  have hd := vld_dg a.neg a.mag a.exp ha
  have := sign_ok a.neg a.mag hd.2.rg (by omega) a1 c1 a.exp ha X h1
  rw [← hG]
  exact this
theorem valid_at (X : World) (a : Nm) (ha : vld a = true) (a1 : Option Addr) (c1 : Nat) (h1 : Sl X (.slice a1 a.mag.length c1) a.mag) : Calls Tryd.prog 18 #[.agg #[.bool a.neg, .slice a1 a.mag.length c1, .int .i64 a.exp]] X fun e w' => e = .returned (.bool true) ∧ Kept X w' := by
  have hd := vld_dg a.neg a.mag a.exp ha
  have := xvalid_any a hd.2.rg (by omega) (.agg #[.bool a.neg, .slice a1 a.mag.length c1, .int .i64 a.exp]) X ⟨_, rfl, h1⟩
  rw [ha] at this
  exact this
theorem same_at (X : World) (a : Nm) (ha : vld a = true) (a1 a2 : Option Addr) (c1 c2 : Nat) (h1 : Sl X (.slice a1 a.mag.length c1) a.mag) (h2 : Sl X (.slice a2 a.mag.length c2) a.mag) : Calls Tryd.prog 17 #[.agg #[.bool a.neg, .slice a1 a.mag.length c1, .int .i64 a.exp], .agg #[.bool a.neg, .slice a2 a.mag.length c2, .int .i64 a.exp]] X fun e w' => e = .returned (.bool true) ∧ Kept X w' := by
  have hd := vld_dg a.neg a.mag a.exp ha
  exact sameNum_true a (by omega) _ _ X ⟨_, rfl, h1⟩ ⟨_, rfl, h2⟩

set_option maxHeartbeats 8000000 in
set_option maxRecDepth 100000 in
theorem ring_true (B : Nat) (w : World) (hT : Tab w) (m1 : Nm) (q1 : Option Addr) (d1 : Nat) (hl1 : m1.mag.length ≤ 9223372036854775807) (h1 : Sl w (.slice q1 m1.mag.length d1) m1.mag) (rA : Nm) (hrA : frm m1.neg (nv (msk m1.mag (min m1.mag.length 20))) (m1.exp.tmod 1300) = some rA) (m2 : Nm) (q2 : Option Addr) (d2 : Nat) (hl2 : m2.mag.length ≤ 9223372036854775807) (h2 : Sl w (.slice q2 m2.mag.length d2) m2.mag) (rB : Nm) (hrB : frm m2.neg (nv (msk m2.mag (min m2.mag.length 20))) (m2.exp.tmod 1300) = some rB) (m3 : Nm) (q3 : Option Addr) (d3 : Nat) (hl3 : m3.mag.length ≤ 9223372036854775807) (h3 : Sl w (.slice q3 m3.mag.length d3) m3.mag) (rC : Nm) (hrC : frm m3.neg (nv (msk m3.mag (min m3.mag.length 20))) (m3.exp.tmod 1300) = some rC) (r1 r2 r3 r4 r5 r6 r7 : Nm) (RN : RingN B rA rB rC r1 r2 r3 r4 r5 r6 r7) : Calls Tryd.prog 5 #[.agg #[.bool m1.neg, .slice q1 m1.mag.length d1, .int .i64 m1.exp], .agg #[.bool m2.neg, .slice q2 m2.mag.length d2, .int .i64 m2.exp], .agg #[.bool m3.neg, .slice q3 m3.mag.length d3, .int .i64 m3.exp]] w fun e w' => e = .returned (.bool true) ∧ Kept w w' := by
  have HT : Hid (∀ u, Kept w u → Tab u) := fun u k => hT.kept k
  have HR : Hid (RingN B rA rB rC r1 r2 r3 r4 r5 r6 r7) := RN
  obtain ⟨G, hG⟩ : ∃ G, cz (vz (-1300) rA) (vz (-1300) rB) = G := ⟨_, rfl⟩
  have HG : Hid (cz (vz (-1300) rA) (vz (-1300) rB) = G) := hG
  have HG2 : Hid (sgz r7.neg r7.mag = G) := RN.sg.trans hG
  have NA : Hid (frm m1.neg (nv (msk m1.mag (min m1.mag.length 20))) (m1.exp.tmod 1300) = some rA) := hrA
  have NB : Hid (frm m2.neg (nv (msk m2.mag (min m2.mag.length 20))) (m2.exp.tmod 1300) = some rB) := hrB
  have NC : Hid (frm m3.neg (nv (msk m3.mag (min m3.mag.length 20))) (m3.exp.tmod 1300) = some rC) := hrC
  have LL : Hid (m1.mag.length ≤ 9223372036854775807 ∧ m2.mag.length ≤ 9223372036854775807 ∧ m3.mag.length ≤ 9223372036854775807) := ⟨hl1, hl2, hl3⟩
  obtain ⟨X0, hX⟩ : ∃ X, X = (((w.alloc (.cells #[.bool m1.neg, .slice q1 m1.mag.length d1, .int .i64 m1.exp] 31)).alloc (.cells #[.bool m2.neg, .slice q2 m2.mag.length d2, .int .i64 m2.exp] 31)).alloc (.cells #[.bool m3.neg, .slice q3 m3.mag.length d3, .int .i64 m3.exp] 31)) := ⟨_, rfl⟩
  have k0 : Hid (Kept w X0) := by rw [hX]; exact (((Kept.refl w).alloc _ _).alloc _ _).alloc _ _
  have Q0 : Hid (∀ u, Kept X0 u → Lay u (w.heap.size + 2) q3 d3 m3 ∧ Lay u (w.heap.size + 1) q2 d2 m2 ∧ Lay u w.heap.size q1 d1 m1) := by
    intro u k
    have kw := k0.out.trans k
    rw [hX] at k
    refine ⟨⟨⟨⟨?_, ?_⟩, ?_⟩, h3.kept kw⟩, ⟨⟨⟨?_, ?_⟩, ?_⟩, h2.kept kw⟩, ⟨⟨⟨?_, ?_⟩, ?_⟩, h1.kept kw⟩⟩
    · exact (k.below.cell (p := ⟨w.heap.size + 2, 0, none⟩) (by simp <;> omega)).trans (by simp [go_sem])
    · exact (k.below.cell (p := ⟨w.heap.size + 2, 1, none⟩) (by simp <;> omega)).trans (by simp [go_sem])
    · exact (k.below.cell (p := ⟨w.heap.size + 2, 2, none⟩) (by simp <;> omega)).trans (by simp [go_sem])
    · exact (k.below.cell (p := ⟨w.heap.size + 1, 0, none⟩) (by simp <;> omega)).trans (by simp [go_sem])
    · exact (k.below.cell (p := ⟨w.heap.size + 1, 1, none⟩) (by simp <;> omega)).trans (by simp [go_sem])
    · exact (k.below.cell (p := ⟨w.heap.size + 1, 2, none⟩) (by simp <;> omega)).trans (by simp [go_sem])
    · exact (k.below.cell (p := ⟨w.heap.size, 0, none⟩) (by simp <;> omega)).trans (by simp [go_sem])
    · exact (k.below.cell (p := ⟨w.heap.size, 1, none⟩) (by simp <;> omega)).trans (by simp [go_sem])
    · exact (k.below.cell (p := ⟨w.heap.size, 2, none⟩) (by simp <;> omega)).trans (by simp [go_sem])
  clear hT RN hG hrA hrB hrC hl1 hl2 hl3 h1 h2 h3
  go_enter Tryd.func5, Tryd.ntmps5
  go_upto_region 1 with fail
  rw [← hX]
  clear hX
  obtain ⟨⟨⟨c00, c01⟩, c02⟩, hs0⟩ := (Q0.out _ (Kept.refl _)).2.2
  have S0 : Hid _ := hs0
  clear hs0
  go_wp2_with fail
  refine (num_any m1.neg m1.mag m1.exp _ _ LL.out.1 _ (HT.out _ k0.out) S0.out _ NA.out).mono ?_
  rintro e w1 ⟨t1, g1, rfl, hs, hk⟩
  clear c00 c01 c02 S0
  go_upto_region 2 with fail
  obtain ⟨X1, hX⟩ : ∃ X, X = w1.alloc (.cells #[.bool rA.neg, .slice t1 rA.mag.length g1, .int .i64 rA.exp] 31) := ⟨_, rfl⟩
  obtain ⟨p1, hp⟩ : ∃ p, p = w1.heap.size := ⟨_, rfl⟩
  have kX : Kept X0 X1 := by rw [hX]; exact hk.alloc _ _
  have Q1 : Hid (∀ u, Kept X1 u → Lay u (p1) t1 g1 rA ∧ Lay u (w.heap.size + 2) q3 d3 m3 ∧ Lay u (w.heap.size + 1) q2 d2 m2 ∧ Lay u (w.heap.size) q1 d1 m1) := fun u k => ⟨by rw [hp]; rw [hX] at k; exact lay_alloc hs k, Q0.out u (kX.trans k)⟩
  have k1 : Hid (Kept w X1) := k0.out.trans kX
  rw [← hX, ← hp]
  clear hX hp hs hk kX Q0 k0
  obtain ⟨⟨⟨c00, c01⟩, c02⟩, hs0⟩ := (Q1.out _ (Kept.refl _)).2.2.1
  have S0 : Hid _ := hs0
  clear hs0
  go_wp2_with fail
  refine (num_any m2.neg m2.mag m2.exp _ _ LL.out.2.1 _ (HT.out _ k1.out) S0.out _ NB.out).mono ?_
  rintro e w2 ⟨t2, g2, rfl, hs, hk⟩
  clear c00 c01 c02 S0
  go_upto_region 3 with fail
  obtain ⟨X2, hX⟩ : ∃ X, X = w2.alloc (.cells #[.bool rB.neg, .slice t2 rB.mag.length g2, .int .i64 rB.exp] 31) := ⟨_, rfl⟩
  obtain ⟨p2, hp⟩ : ∃ p, p = w2.heap.size := ⟨_, rfl⟩
  have kX : Kept X1 X2 := by rw [hX]; exact hk.alloc _ _
  have Q2 : Hid (∀ u, Kept X2 u → Lay u (p2) t2 g2 rB ∧ Lay u (p1) t1 g1 rA ∧ Lay u (w.heap.size + 2) q3 d3 m3 ∧ Lay u (w.heap.size + 1) q2 d2 m2 ∧ Lay u (w.heap.size) q1 d1 m1) := fun u k => ⟨by rw [hp]; rw [hX] at k; exact lay_alloc hs k, Q1.out u (kX.trans k)⟩
  have k2 : Hid (Kept w X2) := k1.out.trans kX
  rw [← hX, ← hp]
  clear hX hp hs hk kX Q1 k1
  obtain ⟨⟨⟨c00, c01⟩, c02⟩, hs0⟩ := (Q2.out _ (Kept.refl _)).2.2.1
  have S0 : Hid _ := hs0
  clear hs0
  go_wp2_with fail
  refine (num_any m3.neg m3.mag m3.exp _ _ LL.out.2.2 _ (HT.out _ k2.out) S0.out _ NC.out).mono ?_
  rintro e w3 ⟨t3, g3, rfl, hs, hk⟩
  clear c00 c01 c02 S0
  go_upto_region 4 with fail
  obtain ⟨X3, hX⟩ : ∃ X, X = w3.alloc (.cells #[.bool rC.neg, .slice t3 rC.mag.length g3, .int .i64 rC.exp] 31) := ⟨_, rfl⟩
  obtain ⟨p3, hp⟩ : ∃ p, p = w3.heap.size := ⟨_, rfl⟩
  have kX : Kept X2 X3 := by rw [hX]; exact hk.alloc _ _
  have Q3 : Hid (∀ u, Kept X3 u → Lay u (p3) t3 g3 rC ∧ Lay u (p2) t2 g2 rB ∧ Lay u (p1) t1 g1 rA ∧ Lay u (w.heap.size + 2) q3 d3 m3 ∧ Lay u (w.heap.size + 1) q2 d2 m2 ∧ Lay u (w.heap.size) q1 d1 m1) := fun u k => ⟨by rw [hp]; rw [hX] at k; exact lay_alloc hs k, Q2.out u (kX.trans k)⟩
  have k3 : Hid (Kept w X3) := k2.out.trans kX
  rw [← hX, ← hp]
  clear hX hp hs hk kX Q2 k2
  obtain ⟨⟨⟨c00, c01⟩, c02⟩, hs0⟩ := (Q3.out _ (Kept.refl _)).2.2.1
  have S0 : Hid _ := hs0
  clear hs0
  obtain ⟨⟨⟨c10, c11⟩, c12⟩, hs1⟩ := (Q3.out _ (Kept.refl _)).2.1
  have S1 : Hid _ := hs1
  clear hs1
  go_wp2_with fail
  refine (add_at _ (HT.out _ k3.out) rA rB r1 HR.out.la.ok HR.out.lb.ok _ _ _ _ S0.out S1.out HR.out.s1).mono ?_
  rintro e w4 ⟨t4, g4, rfl, hs, hk⟩
  clear c00 c01 c02 S0 c10 c11 c12 S1
  go_upto_region 5 with fail
  obtain ⟨X4, hX⟩ : ∃ X, X = w4.alloc (.cells #[.bool r1.neg, .slice t4 r1.mag.length g4, .int .i64 r1.exp] 31) := ⟨_, rfl⟩
  obtain ⟨p4, hp⟩ : ∃ p, p = w4.heap.size := ⟨_, rfl⟩
  have kX : Kept X3 X4 := by rw [hX]; exact hk.alloc _ _
  have Q4 : Hid (∀ u, Kept X4 u → Lay u (p4) t4 g4 r1 ∧ Lay u (p3) t3 g3 rC ∧ Lay u (p2) t2 g2 rB ∧ Lay u (p1) t1 g1 rA ∧ Lay u (w.heap.size + 2) q3 d3 m3 ∧ Lay u (w.heap.size + 1) q2 d2 m2 ∧ Lay u (w.heap.size) q1 d1 m1) := fun u k => ⟨by rw [hp]; rw [hX] at k; exact lay_alloc hs k, Q3.out u (kX.trans k)⟩
  have k4 : Hid (Kept w X4) := k3.out.trans kX
  rw [← hX, ← hp]
  clear hX hp hs hk kX Q3 k3
  obtain ⟨⟨⟨c00, c01⟩, c02⟩, hs0⟩ := (Q4.out _ (Kept.refl _)).2.2.1
  have S0 : Hid _ := hs0
  clear hs0
  obtain ⟨⟨⟨c10, c11⟩, c12⟩, hs1⟩ := (Q4.out _ (Kept.refl _)).2.2.2.1
  have S1 : Hid _ := hs1
  clear hs1
  go_wp2_with fail
  refine (add_at _ (HT.out _ k4.out) rB rA r1 HR.out.lb.ok HR.out.la.ok _ _ _ _ S0.out S1.out HR.out.s2).mono ?_
  rintro e w5 ⟨t5, g5, rfl, hs, hk⟩
  clear c00 c01 c02 S0 c10 c11 c12 S1
  go_upto_region 6 with fail
  obtain ⟨X5, hX⟩ : ∃ X, X = w5.alloc (.cells #[.bool r1.neg, .slice t5 r1.mag.length g5, .int .i64 r1.exp] 31) := ⟨_, rfl⟩
  obtain ⟨p5, hp⟩ : ∃ p, p = w5.heap.size := ⟨_, rfl⟩
  have kX : Kept X4 X5 := by rw [hX]; exact hk.alloc _ _
  have Q5 : Hid (∀ u, Kept X5 u → Lay u (p5) t5 g5 r1 ∧ Lay u (p4) t4 g4 r1 ∧ Lay u (p3) t3 g3 rC ∧ Lay u (p2) t2 g2 rB ∧ Lay u (p1) t1 g1 rA ∧ Lay u (w.heap.size + 2) q3 d3 m3 ∧ Lay u (w.heap.size + 1) q2 d2 m2 ∧ Lay u (w.heap.size) q1 d1 m1) := fun u k => ⟨by rw [hp]; rw [hX] at k; exact lay_alloc hs k, Q4.out u (kX.trans k)⟩
  have k5 : Hid (Kept w X5) := k4.out.trans kX
  rw [← hX, ← hp]
  clear hX hp hs hk kX Q4 k4
  obtain ⟨⟨⟨c00, c01⟩, c02⟩, hs0⟩ := (Q5.out _ (Kept.refl _)).2.2.2.1
  have S0 : Hid _ := hs0
  clear hs0
  obtain ⟨⟨⟨c10, c11⟩, c12⟩, hs1⟩ := (Q5.out _ (Kept.refl _)).2.2.1
  have S1 : Hid _ := hs1
  clear hs1
  go_wp2_with fail
  refine (add_at _ (HT.out _ k5.out) rB rC r2 HR.out.lb.ok HR.out.lc.ok _ _ _ _ S0.out S1.out HR.out.s3).mono ?_
  rintro e w6 ⟨t6, g6, rfl, hs, hk⟩
  clear c00 c01 c02 S0 c10 c11 c12 S1
  go_upto_region 7 with fail
  obtain ⟨X6, hX⟩ : ∃ X, X = w6.alloc (.cells #[.bool r2.neg, .slice t6 r2.mag.length g6, .int .i64 r2.exp] 31) := ⟨_, rfl⟩
  obtain ⟨p6, hp⟩ : ∃ p, p = w6.heap.size := ⟨_, rfl⟩
  have kX : Kept X5 X6 := by rw [hX]; exact hk.alloc _ _
  have Q6 : Hid (∀ u, Kept X6 u → Lay u (p6) t6 g6 r2 ∧ Lay u (p5) t5 g5 r1 ∧ Lay u (p4) t4 g4 r1 ∧ Lay u (p3) t3 g3 rC ∧ Lay u (p2) t2 g2 rB ∧ Lay u (p1) t1 g1 rA ∧ Lay u (w.heap.size + 2) q3 d3 m3 ∧ Lay u (w.heap.size + 1) q2 d2 m2 ∧ Lay u (w.heap.size) q1 d1 m1) := fun u k => ⟨by rw [hp]; rw [hX] at k; exact lay_alloc hs k, Q5.out u (kX.trans k)⟩
  have k6 : Hid (Kept w X6) := k5.out.trans kX
  rw [← hX, ← hp]
  clear hX hp hs hk kX Q5 k5
  obtain ⟨⟨⟨c00, c01⟩, c02⟩, hs0⟩ := (Q6.out _ (Kept.refl _)).2.2.1
  have S0 : Hid _ := hs0
  clear hs0
  obtain ⟨⟨⟨c10, c11⟩, c12⟩, hs1⟩ := (Q6.out _ (Kept.refl _)).2.2.2.1
  have S1 : Hid _ := hs1
  clear hs1
  go_wp2_with fail
  refine (add_at _ (HT.out _ k6.out) r1 rC r3 HR.out.v1 HR.out.lc.ok _ _ _ _ S0.out S1.out HR.out.s4).mono ?_
  rintro e w7 ⟨t7, g7, rfl, hs, hk⟩
  clear c00 c01 c02 S0 c10 c11 c12 S1
  go_upto_region 8 with fail
  obtain ⟨X7, hX⟩ : ∃ X, X = w7.alloc (.cells #[.bool r3.neg, .slice t7 r3.mag.length g7, .int .i64 r3.exp] 31) := ⟨_, rfl⟩
  obtain ⟨p7, hp⟩ : ∃ p, p = w7.heap.size := ⟨_, rfl⟩
  have kX : Kept X6 X7 := by rw [hX]; exact hk.alloc _ _
  have Q7 : Hid (∀ u, Kept X7 u → Lay u (p7) t7 g7 r3 ∧ Lay u (p6) t6 g6 r2 ∧ Lay u (p5) t5 g5 r1 ∧ Lay u (p4) t4 g4 r1 ∧ Lay u (p3) t3 g3 rC ∧ Lay u (p2) t2 g2 rB ∧ Lay u (p1) t1 g1 rA ∧ Lay u (w.heap.size + 2) q3 d3 m3 ∧ Lay u (w.heap.size + 1) q2 d2 m2 ∧ Lay u (w.heap.size) q1 d1 m1) := fun u k => ⟨by rw [hp]; rw [hX] at k; exact lay_alloc hs k, Q6.out u (kX.trans k)⟩
  have k7 : Hid (Kept w X7) := k6.out.trans kX
  rw [← hX, ← hp]
  clear hX hp hs hk kX Q6 k6
  obtain ⟨⟨⟨c00, c01⟩, c02⟩, hs0⟩ := (Q7.out _ (Kept.refl _)).2.2.2.2.2.2.1
  have S0 : Hid _ := hs0
  clear hs0
  obtain ⟨⟨⟨c10, c11⟩, c12⟩, hs1⟩ := (Q7.out _ (Kept.refl _)).2.1
  have S1 : Hid _ := hs1
  clear hs1
  go_wp2_with fail
  refine (add_at _ (HT.out _ k7.out) rA r2 r3 HR.out.la.ok HR.out.v2 _ _ _ _ S0.out S1.out HR.out.s5).mono ?_
  rintro e w8 ⟨t8, g8, rfl, hs, hk⟩
  clear c00 c01 c02 S0 c10 c11 c12 S1
  go_upto_region 9 with fail
  obtain ⟨X8, hX⟩ : ∃ X, X = w8.alloc (.cells #[.bool r3.neg, .slice t8 r3.mag.length g8, .int .i64 r3.exp] 31) := ⟨_, rfl⟩
  obtain ⟨p8, hp⟩ : ∃ p, p = w8.heap.size := ⟨_, rfl⟩
  have kX : Kept X7 X8 := by rw [hX]; exact hk.alloc _ _
  have Q8 : Hid (∀ u, Kept X8 u → Lay u (p8) t8 g8 r3 ∧ Lay u (p7) t7 g7 r3 ∧ Lay u (p6) t6 g6 r2 ∧ Lay u (p5) t5 g5 r1 ∧ Lay u (p4) t4 g4 r1 ∧ Lay u (p3) t3 g3 rC ∧ Lay u (p2) t2 g2 rB ∧ Lay u (p1) t1 g1 rA ∧ Lay u (w.heap.size + 2) q3 d3 m3 ∧ Lay u (w.heap.size + 1) q2 d2 m2 ∧ Lay u (w.heap.size) q1 d1 m1) := fun u k => ⟨by rw [hp]; rw [hX] at k; exact lay_alloc hs k, Q7.out u (kX.trans k)⟩
  have k8 : Hid (Kept w X8) := k7.out.trans kX
  rw [← hX, ← hp]
  clear hX hp hs hk kX Q7 k7
  obtain ⟨⟨⟨c00, c01⟩, c02⟩, hs0⟩ := (Q8.out _ (Kept.refl _)).2.2.2.2.1
  have S0 : Hid _ := hs0
  clear hs0
  obtain ⟨⟨⟨c10, c11⟩, c12⟩, hs1⟩ := (Q8.out _ (Kept.refl _)).2.2.2.2.2.2.1
  have S1 : Hid _ := hs1
  clear hs1
  go_wp2_with fail
  refine (sub_at _ (HT.out _ k8.out) r1 rB rA HR.out.v1 HR.out.lb.ok _ _ _ _ S0.out S1.out HR.out.s6).mono ?_
  rintro e w9 ⟨t9, g9, rfl, hs, hk⟩
  clear c00 c01 c02 S0 c10 c11 c12 S1
  go_upto_region 10 with fail
  obtain ⟨X9, hX⟩ : ∃ X, X = w9.alloc (.cells #[.bool rA.neg, .slice t9 rA.mag.length g9, .int .i64 rA.exp] 31) := ⟨_, rfl⟩
  obtain ⟨p9, hp⟩ : ∃ p, p = w9.heap.size := ⟨_, rfl⟩
  have kX : Kept X8 X9 := by rw [hX]; exact hk.alloc _ _
  have Q9 : Hid (∀ u, Kept X9 u → Lay u (p9) t9 g9 rA ∧ Lay u (p8) t8 g8 r3 ∧ Lay u (p7) t7 g7 r3 ∧ Lay u (p6) t6 g6 r2 ∧ Lay u (p5) t5 g5 r1 ∧ Lay u (p4) t4 g4 r1 ∧ Lay u (p3) t3 g3 rC ∧ Lay u (p2) t2 g2 rB ∧ Lay u (p1) t1 g1 rA ∧ Lay u (w.heap.size + 2) q3 d3 m3 ∧ Lay u (w.heap.size + 1) q2 d2 m2 ∧ Lay u (w.heap.size) q1 d1 m1) := fun u k => ⟨by rw [hp]; rw [hX] at k; exact lay_alloc hs k, Q8.out u (kX.trans k)⟩
  have k9 : Hid (Kept w X9) := k8.out.trans kX
  rw [← hX, ← hp]
  clear hX hp hs hk kX Q8 k8
  obtain ⟨⟨⟨c00, c01⟩, c02⟩, hs0⟩ := (Q9.out _ (Kept.refl _)).2.2.2.2.2.2.2.2.1
  have S0 : Hid _ := hs0
  clear hs0
  obtain ⟨⟨⟨c10, c11⟩, c12⟩, hs1⟩ := (Q9.out _ (Kept.refl _)).2.2.2.2.2.2.2.1
  have S1 : Hid _ := hs1
  clear hs1
  go_wp2_with fail
  refine (mul_at _ (HT.out _ k9.out) rA rB r4 HR.out.la.ok HR.out.lb.ok _ _ _ _ S0.out S1.out HR.out.m1).mono ?_
  rintro e w10 ⟨t10, g10, rfl, hs, hk⟩
  clear c00 c01 c02 S0 c10 c11 c12 S1
  go_upto_region 11 with fail
  obtain ⟨X10, hX⟩ : ∃ X, X = w10.alloc (.cells #[.bool r4.neg, .slice t10 r4.mag.length g10, .int .i64 r4.exp] 31) := ⟨_, rfl⟩
  obtain ⟨p10, hp⟩ : ∃ p, p = w10.heap.size := ⟨_, rfl⟩
  have kX : Kept X9 X10 := by rw [hX]; exact hk.alloc _ _
  have Q10 : Hid (∀ u, Kept X10 u → Lay u (p10) t10 g10 r4 ∧ Lay u (p9) t9 g9 rA ∧ Lay u (p8) t8 g8 r3 ∧ Lay u (p7) t7 g7 r3 ∧ Lay u (p6) t6 g6 r2 ∧ Lay u (p5) t5 g5 r1 ∧ Lay u (p4) t4 g4 r1 ∧ Lay u (p3) t3 g3 rC ∧ Lay u (p2) t2 g2 rB ∧ Lay u (p1) t1 g1 rA ∧ Lay u (w.heap.size + 2) q3 d3 m3 ∧ Lay u (w.heap.size + 1) q2 d2 m2 ∧ Lay u (w.heap.size) q1 d1 m1) := fun u k => ⟨by rw [hp]; rw [hX] at k; exact lay_alloc hs k, Q9.out u (kX.trans k)⟩
  have k10 : Hid (Kept w X10) := k9.out.trans kX
  rw [← hX, ← hp]
  clear hX hp hs hk kX Q9 k9
  obtain ⟨⟨⟨c00, c01⟩, c02⟩, hs0⟩ := (Q10.out _ (Kept.refl _)).2.2.2.2.2.2.2.2.2.1
  have S0 : Hid _ := hs0
  clear hs0
  obtain ⟨⟨⟨c10, c11⟩, c12⟩, hs1⟩ := (Q10.out _ (Kept.refl _)).2.2.2.2.2.2.2.1
  have S1 : Hid _ := hs1
  clear hs1
  go_wp2_with fail
  refine (mul_at _ (HT.out _ k10.out) rA rC r5 HR.out.la.ok HR.out.lc.ok _ _ _ _ S0.out S1.out HR.out.m2).mono ?_
  rintro e w11 ⟨t11, g11, rfl, hs, hk⟩
  clear c00 c01 c02 S0 c10 c11 c12 S1
  go_upto_region 12 with fail
  obtain ⟨X11, hX⟩ : ∃ X, X = w11.alloc (.cells #[.bool r5.neg, .slice t11 r5.mag.length g11, .int .i64 r5.exp] 31) := ⟨_, rfl⟩
  obtain ⟨p11, hp⟩ : ∃ p, p = w11.heap.size := ⟨_, rfl⟩
  have kX : Kept X10 X11 := by rw [hX]; exact hk.alloc _ _
  have Q11 : Hid (∀ u, Kept X11 u → Lay u (p11) t11 g11 r5 ∧ Lay u (p10) t10 g10 r4 ∧ Lay u (p9) t9 g9 rA ∧ Lay u (p8) t8 g8 r3 ∧ Lay u (p7) t7 g7 r3 ∧ Lay u (p6) t6 g6 r2 ∧ Lay u (p5) t5 g5 r1 ∧ Lay u (p4) t4 g4 r1 ∧ Lay u (p3) t3 g3 rC ∧ Lay u (p2) t2 g2 rB ∧ Lay u (p1) t1 g1 rA ∧ Lay u (w.heap.size + 2) q3 d3 m3 ∧ Lay u (w.heap.size + 1) q2 d2 m2 ∧ Lay u (w.heap.size) q1 d1 m1) := fun u k => ⟨by rw [hp]; rw [hX] at k; exact lay_alloc hs k, Q10.out u (kX.trans k)⟩
  have k11 : Hid (Kept w X11) := k10.out.trans kX
  rw [← hX, ← hp]
  clear hX hp hs hk kX Q10 k10
  obtain ⟨⟨⟨c00, c01⟩, c02⟩, hs0⟩ := (Q11.out _ (Kept.refl _)).2.2.2.2.2.2.2.2.2.2.1
  have S0 : Hid _ := hs0
  clear hs0
  obtain ⟨⟨⟨c10, c11⟩, c12⟩, hs1⟩ := (Q11.out _ (Kept.refl _)).2.2.2.2.2.1
  have S1 : Hid _ := hs1
  clear hs1
  go_wp2_with fail
  refine (mul_at _ (HT.out _ k11.out) rA r2 r6 HR.out.la.ok HR.out.v2 _ _ _ _ S0.out S1.out HR.out.m3).mono ?_
  rintro e w12 ⟨t12, g12, rfl, hs, hk⟩
  clear c00 c01 c02 S0 c10 c11 c12 S1
  go_upto_region 13 with fail
  obtain ⟨X12, hX⟩ : ∃ X, X = w12.alloc (.cells #[.bool r6.neg, .slice t12 r6.mag.length g12, .int .i64 r6.exp] 31) := ⟨_, rfl⟩
  obtain ⟨p12, hp⟩ : ∃ p, p = w12.heap.size := ⟨_, rfl⟩
  have kX : Kept X11 X12 := by rw [hX]; exact hk.alloc _ _
  have Q12 : Hid (∀ u, Kept X12 u → Lay u (p12) t12 g12 r6 ∧ Lay u (p11) t11 g11 r5 ∧ Lay u (p10) t10 g10 r4 ∧ Lay u (p9) t9 g9 rA ∧ Lay u (p8) t8 g8 r3 ∧ Lay u (p7) t7 g7 r3 ∧ Lay u (p6) t6 g6 r2 ∧ Lay u (p5) t5 g5 r1 ∧ Lay u (p4) t4 g4 r1 ∧ Lay u (p3) t3 g3 rC ∧ Lay u (p2) t2 g2 rB ∧ Lay u (p1) t1 g1 rA ∧ Lay u (w.heap.size + 2) q3 d3 m3 ∧ Lay u (w.heap.size + 1) q2 d2 m2 ∧ Lay u (w.heap.size) q1 d1 m1) := fun u k => ⟨by rw [hp]; rw [hX] at k; exact lay_alloc hs k, Q11.out u (kX.trans k)⟩
  have k12 : Hid (Kept w X12) := k11.out.trans kX
  rw [← hX, ← hp]
  clear hX hp hs hk kX Q11 k11
  obtain ⟨⟨⟨c00, c01⟩, c02⟩, hs0⟩ := (Q12.out _ (Kept.refl _)).2.2.1
  have S0 : Hid _ := hs0
  clear hs0
  obtain ⟨⟨⟨c10, c11⟩, c12⟩, hs1⟩ := (Q12.out _ (Kept.refl _)).2.1
  have S1 : Hid _ := hs1
  clear hs1
  go_wp2_with fail
  refine (add_at _ (HT.out _ k12.out) r4 r5 r6 HR.out.v4 HR.out.v5 _ _ _ _ S0.out S1.out HR.out.s7).mono ?_
  rintro e w13 ⟨t13, g13, rfl, hs, hk⟩
  clear c00 c01 c02 S0 c10 c11 c12 S1
  go_upto_region 14 with fail
  obtain ⟨X13, hX⟩ : ∃ X, X = w13.alloc (.cells #[.bool r6.neg, .slice t13 r6.mag.length g13, .int .i64 r6.exp] 31) := ⟨_, rfl⟩
  obtain ⟨p13, hp⟩ : ∃ p, p = w13.heap.size := ⟨_, rfl⟩
  have kX : Kept X12 X13 := by rw [hX]; exact hk.alloc _ _
  have Q13 : Hid (∀ u, Kept X13 u → Lay u (p13) t13 g13 r6 ∧ Lay u (p12) t12 g12 r6 ∧ Lay u (p11) t11 g11 r5 ∧ Lay u (p10) t10 g10 r4 ∧ Lay u (p9) t9 g9 rA ∧ Lay u (p8) t8 g8 r3 ∧ Lay u (p7) t7 g7 r3 ∧ Lay u (p6) t6 g6 r2 ∧ Lay u (p5) t5 g5 r1 ∧ Lay u (p4) t4 g4 r1 ∧ Lay u (p3) t3 g3 rC ∧ Lay u (p2) t2 g2 rB ∧ Lay u (p1) t1 g1 rA ∧ Lay u (w.heap.size + 2) q3 d3 m3 ∧ Lay u (w.heap.size + 1) q2 d2 m2 ∧ Lay u (w.heap.size) q1 d1 m1) := fun u k => ⟨by rw [hp]; rw [hX] at k; exact lay_alloc hs k, Q12.out u (kX.trans k)⟩
  have k13 : Hid (Kept w X13) := k12.out.trans kX
  rw [← hX, ← hp]
  clear hX hp hs hk kX Q12 k12
  obtain ⟨⟨⟨c00, c01⟩, c02⟩, hs0⟩ := (Q13.out _ (Kept.refl _)).2.2.2.2.2.2.2.2.2.2.2.2.1
  have S0 : Hid _ := hs0
  clear hs0
  obtain ⟨⟨⟨c10, c11⟩, c12⟩, hs1⟩ := (Q13.out _ (Kept.refl _)).2.2.2.2.2.2.2.2.2.2.2.1
  have S1 : Hid _ := hs1
  clear hs1
  go_wp2_with fail
  refine (cmp_at (-1300) _ rA rB HR.out.la.ok HR.out.lb.ok HR.out.la.low HR.out.lb.low _ _ _ _ S0.out S1.out G HG.out).mono ?_
  rintro e X14 ⟨rfl, hk⟩
  clear c00 c01 c02 S0 c10 c11 c12 S1
  have Q14 : Hid (∀ u, Kept X14 u → Lay u (p13) t13 g13 r6 ∧ Lay u (p12) t12 g12 r6 ∧ Lay u (p11) t11 g11 r5 ∧ Lay u (p10) t10 g10 r4 ∧ Lay u (p9) t9 g9 rA ∧ Lay u (p8) t8 g8 r3 ∧ Lay u (p7) t7 g7 r3 ∧ Lay u (p6) t6 g6 r2 ∧ Lay u (p5) t5 g5 r1 ∧ Lay u (p4) t4 g4 r1 ∧ Lay u (p3) t3 g3 rC ∧ Lay u (p2) t2 g2 rB ∧ Lay u (p1) t1 g1 rA ∧ Lay u (w.heap.size + 2) q3 d3 m3 ∧ Lay u (w.heap.size + 1) q2 d2 m2 ∧ Lay u (w.heap.size) q1 d1 m1) := fun u k => Q13.out u (hk.trans k)
  have k14 : Hid (Kept w X14) := k13.out.trans hk
  clear hk Q13 k13
  go_upto_region 15 with fail
  obtain ⟨⟨⟨c00, c01⟩, c02⟩, hs0⟩ := (Q14.out _ (Kept.refl _)).2.2.2.2.2.2.2.2.2.2.2.2.1
  have S0 : Hid _ := hs0
  clear hs0
  obtain ⟨⟨⟨c10, c11⟩, c12⟩, hs1⟩ := (Q14.out _ (Kept.refl _)).2.2.2.2.2.2.2.2.2.2.2.1
  have S1 : Hid _ := hs1
  clear hs1
  go_wp2_with fail
  refine (sub_at _ (HT.out _ k14.out) rA rB r7 HR.out.la.ok HR.out.lb.ok _ _ _ _ S0.out S1.out HR.out.s8).mono ?_
  rintro e w15 ⟨t15, g15, rfl, hs, hk⟩
  clear c00 c01 c02 S0 c10 c11 c12 S1
  go_upto_region 16 with fail
  obtain ⟨X15, hX⟩ : ∃ X, X = w15.alloc (.cells #[.bool r7.neg, .slice t15 r7.mag.length g15, .int .i64 r7.exp] 31) := ⟨_, rfl⟩
  obtain ⟨p15, hp⟩ : ∃ p, p = w15.heap.size := ⟨_, rfl⟩
  have kX : Kept X14 X15 := by rw [hX]; exact hk.alloc _ _
  have Q15 : Hid (∀ u, Kept X15 u → Lay u (p15) t15 g15 r7 ∧ Lay u (p13) t13 g13 r6 ∧ Lay u (p12) t12 g12 r6 ∧ Lay u (p11) t11 g11 r5 ∧ Lay u (p10) t10 g10 r4 ∧ Lay u (p9) t9 g9 rA ∧ Lay u (p8) t8 g8 r3 ∧ Lay u (p7) t7 g7 r3 ∧ Lay u (p6) t6 g6 r2 ∧ Lay u (p5) t5 g5 r1 ∧ Lay u (p4) t4 g4 r1 ∧ Lay u (p3) t3 g3 rC ∧ Lay u (p2) t2 g2 rB ∧ Lay u (p1) t1 g1 rA ∧ Lay u (w.heap.size + 2) q3 d3 m3 ∧ Lay u (w.heap.size + 1) q2 d2 m2 ∧ Lay u (w.heap.size) q1 d1 m1) := fun u k => ⟨by rw [hp]; rw [hX] at k; exact lay_alloc hs k, Q14.out u (kX.trans k)⟩
  have k15 : Hid (Kept w X15) := k14.out.trans kX
  rw [← hX, ← hp]
  clear hX hp hs hk kX Q14 k14
  obtain ⟨⟨⟨c00, c01⟩, c02⟩, hs0⟩ := (Q15.out _ (Kept.refl _)).1
  have S0 : Hid _ := hs0
  clear hs0
  go_wp2_with fail
  refine (sign_at _ r7 HR.out.v7 _ _ S0.out G HG2.out).mono ?_
  rintro e X16 ⟨rfl, hk⟩
  clear c00 c01 c02 S0
  have Q16 : Hid (∀ u, Kept X16 u → Lay u (p15) t15 g15 r7 ∧ Lay u (p13) t13 g13 r6 ∧ Lay u (p12) t12 g12 r6 ∧ Lay u (p11) t11 g11 r5 ∧ Lay u (p10) t10 g10 r4 ∧ Lay u (p9) t9 g9 rA ∧ Lay u (p8) t8 g8 r3 ∧ Lay u (p7) t7 g7 r3 ∧ Lay u (p6) t6 g6 r2 ∧ Lay u (p5) t5 g5 r1 ∧ Lay u (p4) t4 g4 r1 ∧ Lay u (p3) t3 g3 rC ∧ Lay u (p2) t2 g2 rB ∧ Lay u (p1) t1 g1 rA ∧ Lay u (w.heap.size + 2) q3 d3 m3 ∧ Lay u (w.heap.size + 1) q2 d2 m2 ∧ Lay u (w.heap.size) q1 d1 m1) := fun u k => Q15.out u (hk.trans k)
  have k16 : Hid (Kept w X16) := k15.out.trans hk
  clear hk Q15 k15
  go_upto_region 17 with fail
  go_wp2_with fail
  refine (alive_true _ (HT.out _ k16.out)).mono ?_
  rintro e Y0 ⟨rfl, y0⟩
  obtain ⟨⟨⟨c00, c01⟩, c02⟩, hs0⟩ := (Q16.out _ (y0)).2.2.2.2.2.2.2.2.2.2.1
  have S0 : Hid _ := hs0
  clear hs0
  obtain ⟨⟨⟨c10, c11⟩, c12⟩, hs1⟩ := (Q16.out _ (y0)).2.2.2.2.2.2.2.2.2.1
  have S1 : Hid _ := hs1
  clear hs1
  go_wp2_with fail
  refine (same_at _ r1 HR.out.v1 _ _ _ _ S0.out S1.out).mono ?_
  rintro e Y1 ⟨rfl, hk⟩
  have y1 := y0.trans hk
  clear c00 c01 c02 S0 c10 c11 c12 S1
  clear hk y0
  obtain ⟨⟨⟨c00, c01⟩, c02⟩, hs0⟩ := (Q16.out _ (y1)).2.2.2.2.2.2.2.1
  have S0 : Hid _ := hs0
  clear hs0
  obtain ⟨⟨⟨c10, c11⟩, c12⟩, hs1⟩ := (Q16.out _ (y1)).2.2.2.2.2.2.1
  have S1 : Hid _ := hs1
  clear hs1
  go_wp2_with fail
  refine (same_at _ r3 HR.out.v3 _ _ _ _ S0.out S1.out).mono ?_
  rintro e Y2 ⟨rfl, hk⟩
  have y2 := y1.trans hk
  clear c00 c01 c02 S0 c10 c11 c12 S1
  clear hk y1
  obtain ⟨⟨⟨c00, c01⟩, c02⟩, hs0⟩ := (Q16.out _ (y2)).2.2.2.2.2.1
  have S0 : Hid _ := hs0
  clear hs0
  obtain ⟨⟨⟨c10, c11⟩, c12⟩, hs1⟩ := (Q16.out _ (y2)).2.2.2.2.2.2.2.2.2.2.2.2.2.1
  have S1 : Hid _ := hs1
  clear hs1
  go_wp2_with fail
  refine (same_at _ rA HR.out.la.ok _ _ _ _ S0.out S1.out).mono ?_
  rintro e Y3 ⟨rfl, hk⟩
  have y3 := y2.trans hk
  clear c00 c01 c02 S0 c10 c11 c12 S1
  clear hk y2
  obtain ⟨⟨⟨c00, c01⟩, c02⟩, hs0⟩ := (Q16.out _ (y3)).2.2.1
  have S0 : Hid _ := hs0
  clear hs0
  obtain ⟨⟨⟨c10, c11⟩, c12⟩, hs1⟩ := (Q16.out _ (y3)).2.1
  have S1 : Hid _ := hs1
  clear hs1
  go_wp2_with fail
  refine (same_at _ r6 HR.out.v6 _ _ _ _ S0.out S1.out).mono ?_
  rintro e Y4 ⟨rfl, hk⟩
  have y4 := y3.trans hk
  clear c00 c01 c02 S0 c10 c11 c12 S1
  clear hk y3
  obtain ⟨⟨⟨c00, c01⟩, c02⟩, hs0⟩ := (Q16.out _ (y4)).2.2.2.2.2.2.2.2.2.2.1
  have S0 : Hid _ := hs0
  clear hs0
  go_wp2_with fail
  refine (valid_at _ r1 HR.out.v1 _ _ S0.out).mono ?_
  rintro e Y5 ⟨rfl, hk⟩
  have y5 := y4.trans hk
  clear c00 c01 c02 S0
  clear hk y4
  obtain ⟨⟨⟨c00, c01⟩, c02⟩, hs0⟩ := (Q16.out _ (y5)).2.2.2.2.1
  have S0 : Hid _ := hs0
  clear hs0
  go_wp2_with fail
  refine (valid_at _ r4 HR.out.v4 _ _ S0.out).mono ?_
  rintro e Y6 ⟨rfl, hk⟩
  have y6 := y5.trans hk
  clear c00 c01 c02 S0
  clear hk y5
  go_wp2
  go_ret
  exact ⟨rfl, k16.out.trans y6⟩

theorem tmod_1300 (x : Int) : -1300 ≤ x.tmod 1300 ∧ x.tmod 1300 ≤ 1300 := by
  have h1 := Int.natAbs_tmod x 1300
  have h2 : x.natAbs % (1300 : Int).natAbs < 1300 := Nat.mod_lt _ (by decide)
  omega
theorem exactRing_true (w : World) (hT : Tab w) (n1 : Bool) (L1 : List Int) (x1 : Int) (a1 : Option Addr) (c1 : Nat) (h1 : Sl w (.slice a1 L1.length c1) L1) (n2 : Bool) (L2 : List Int) (x2 : Int) (a2 : Option Addr) (c2 : Nat) (h2 : Sl w (.slice a2 L2.length c2) L2) (n3 : Bool) (L3 : List Int) (x3 : Int) (a3 : Option Addr) (c3 : Nat) (h3 : Sl w (.slice a3 L3.length c3) L3) :
    Calls Tryd.prog 5 #[.agg #[.bool n1, .slice a1 L1.length c1, .int .i64 x1], .agg #[.bool n2, .slice a2 L2.length c2, .int .i64 x2], .agg #[.bool n3, .slice a3 L3.length c3, .int .i64 x3]] w fun e w' => e = .returned (.bool true) ∧ Kept w w' := by
  have hlen : ∀ (L : List Int) (a : Option Addr) (c : Nat), Sl w (.slice a L.length c) L → L.length ≤ 9223372036854775807 := by
    intro L a c h
    obtain ⟨_, _, e, h1, h2, _⟩ := h
    injection e
    unfold maxLen at h2
    omega
  have hget : ∀ (n : Bool) (L : List Int) (x : Int), ∃ r, frm n (nv (msk L (min L.length 20))) (x.tmod 1300) = some r ∧ Lies (-1300) 3200 r := by
    intro n L x
    have hy := tmod_1300 x
    exact num_lies 600 2600 3200 rfl rfl rfl n _ (msk_dg L _) (by rw [msk_length L _ (Nat.min_le_left _ _)]; exact Nat.min_le_right _ _) _ hy.1 hy.2
  obtain ⟨rA, eA, lA⟩ := hget n1 L1 x1
  obtain ⟨rB, eB, lB⟩ := hget n2 L2 x2
  obtain ⟨rC, eC, lC⟩ := hget n3 L3 x3
  obtain ⟨r1, r2, r3, r4, r5, r6, r7, hR⟩ := ring_is 3200 (by decide) rA rB rC lA lB lC
  exact ring_true 3200 w hT ⟨n1, L1, x1⟩ a1 c1 (hlen _ _ _ h1) h1 rA eA ⟨n2, L2, x2⟩ a2 c2 (hlen _ _ _ h2) h2 rB eB ⟨n3, L3, x3⟩ a3 c3 (hlen _ _ _ h3) h3 rC eC r1 r2 r3 r4 r5 r6 r7 hR
end Go.Proofs.YtkmengfmiamdaaaDoor
