/- The walk of the statement on mirrors. The statement on mirrors. -/
import Derived.Test.YtbheglkpmgmkoaaDoorRL1
import Derived.Test.YtbheglkpmgmkoaaDoorQ9
namespace Go.Proofs.YtbheglkpmgmkoaaDoor
open Go.ChangeShapes Go.WideShapes Go.ChangeAt Go.RowKit
set_option linter.unusedVariables false
set_option linter.unusedSimpArgs false

theorem ngz_at (n k : Int) (hn : n = 64 ∨ n = 32) (h1 : -(ifn n : Int) ≤ k) (h2 : k ≤ (ifn n : Int)) (X : World) : Calls Tryd.prog 20 #[.int .i64 (pz n k), .int .i64 n] X fun e w' => e = .returned (.int .i64 (ngt (pz n k) n)) ∧ Kept X w' := by
  obtain ⟨p1, p2⟩ := pz_range n k hn h1 h2
  exact neg_any (pz n k) n p1 p2 X
theorem samez_at (n k j : Int) (hn : n = 64 ∨ n = 32) (h1 : -(ifn n : Int) ≤ k) (h2 : k ≤ (ifn n : Int)) (hj : j = -k) (X : World) : Calls Tryd.prog 19 #[.int .i64 (ngt (pz n k) n), .int .i64 (pz n j), .int .i64 n] X fun e w' => e = .returned (.bool true) ∧ Kept X w' := by
  obtain ⟨p1, p2⟩ := pz_range n j hn (by omega) (by omega)
  obtain ⟨g1, g2, g3, g4⟩ := pz_ngt n k hn h1 h2
  have := same_any (ngt (pz n k) n) (pz n j) n g3 g4 p1 p2 X
  unfold sam at this
  rw [g1, g2, pz_num n j hn (by omega) (by omega), pz_key n j hn (by omega) (by omega), decide_eq_true hj.symm] at this
  exact this
theorem lessz_at (n k j : Int) (hn : n = 64 ∨ n = 32) (h1 : -(ifn n : Int) ≤ k) (h2 : k ≤ (ifn n : Int)) (h3 : -(ifn n : Int) ≤ j) (h4 : j ≤ (ifn n : Int)) (X : World) : Calls Tryd.prog 21 #[.int .i64 (pz n k), .int .i64 (pz n j), .int .i64 n] X fun e w' => e = .returned (.bool (decide (k < j))) ∧ Kept X w' := by
  obtain ⟨p1, p2⟩ := pz_range n k hn h1 h2
  obtain ⟨q1, q2⟩ := pz_range n j hn h3 h4
  have := less_any (pz n k) (pz n j) n p1 p2 q1 q2 X
  unfold lss at this
  rw [pz_num n k hn h1 h2, pz_num n j hn h3 h4, pz_key n k hn h1 h2, pz_key n j hn h3 h4] at this
  exact this

set_option maxHeartbeats 8000000 in
set_option maxRecDepth 100000 in
theorem mir_lt (w : World) (hT : Tab w) (m1 : Nm) (q1 : Option Addr) (d1 : Nat) (hl1 : m1.mag.length ≤ 9223372036854775807) (h1 : Sl w (.slice q1 m1.mag.length d1) m1.mag) (rA : Nm) (hrA : frm m1.neg (nv (msk m1.mag (min m1.mag.length 20))) (m1.exp.tmod 1300) = some rA) (m2 : Nm) (q2 : Option Addr) (d2 : Nat) (hl2 : m2.mag.length ≤ 9223372036854775807) (h2 : Sl w (.slice q2 m2.mag.length d2) m2.mag) (rB : Nm) (hrB : frm m2.neg (nv (msk m2.mag (min m2.mag.length 20))) (m2.exp.tmod 1300) = some rB) (la : Lies (-1300) 3200 rA) (lb : Lies (-1300) 3200 rB) (v wy n way b1 b2 b3 b4 : Int) (way2 : Int) (y1 : bits .and .i64 v 1 = b1) (y2 : IntKind.i64.wrap (32 * b1) = b2) (y3 : IntKind.i64.wrap (32 + b2) = n) (y4 : bits .and .i64 wy 65535 = b3) (y5 : b3.tmod 3 = way) (y6 : IntKind.i64.wrap (3 - way) = b4) (y7 : b4.tmod 3 = way2) (hn0 : n = 64 ∨ n = 32) (hw0 : way = 0 ∨ way = 1 ∨ way = 2) (hw20 : way2 = 0 ∨ way2 = 1 ∨ way2 = 2) (k1 k2 k3 z1 z2 z3 : Int) (e1 : rzN n way rA = z1) (e2 : rzN n way2 (ngv rA) = z2) (e3 : rzN n way rB = z3) (o1 o2 o3 : Bool) (f1 : oxN n way rA = o1) (f2 : oxN n way2 (ngv rA) = o1) (f3 : oxN n way rB = o3) (hG0 : cz (vz (-1300) rA) (vz (-1300) rB) = -1)
    (KN : Hid (∀ u, Calls Tryd.prog 20 #[.int .i64 z1, .int .i64 n] u fun e w' => e = .returned (.int .i64 k1) ∧ Kept u w'))
    (KS : Hid (∀ u, Calls Tryd.prog 19 #[.int .i64 k1, .int .i64 z2, .int .i64 n] u fun e w' => e = .returned (.bool true) ∧ Kept u w'))
    (KL1 : Hid (∀ u, Calls Tryd.prog 21 #[.int .i64 z3, .int .i64 z1, .int .i64 n] u fun e w' => e = .returned (.bool false) ∧ Kept u w'))
    :
    Calls Tryd.prog 5 #[.agg #[.bool m1.neg, .slice q1 m1.mag.length d1, .int .i64 m1.exp], .agg #[.bool m2.neg, .slice q2 m2.mag.length d2, .int .i64 m2.exp], .int .i64 v, .int .i64 wy] w fun e w' => e = .returned (.bool true) ∧ Kept w w' := by
  have HT : Hid (∀ u, Kept w u → Tab u) := fun u k => hT.kept k
  have LA : Hid (Lies (-1300) 3200 rA) := la
  have LB : Hid (Lies (-1300) 3200 rB) := lb
  have hn : Hid (n = 64 ∨ n = 32) := hn0
  have hw : Hid (way = 0 ∨ way = 1 ∨ way = 2) := hw0
  have hw2 : Hid (way2 = 0 ∨ way2 = 1 ∨ way2 = 2) := hw20
  have HG : Hid (cz (vz (-1300) rA) (vz (-1300) rB) = -1) := hG0
  have NA : Hid (frm m1.neg (nv (msk m1.mag (min m1.mag.length 20))) (m1.exp.tmod 1300) = some rA) := hrA
  have NB : Hid (frm m2.neg (nv (msk m2.mag (min m2.mag.length 20))) (m2.exp.tmod 1300) = some rB) := hrB
  have LL : Hid (m1.mag.length ≤ 9223372036854775807 ∧ m2.mag.length ≤ 9223372036854775807) := ⟨hl1, hl2⟩
  have VN : Hid (vld (ngv rA) = true) := (ngv_frm rA la.ok).2
  have R1 : Hid (∀ X a c, Tab X → Sl X (.slice a rA.mag.length c) rA.mag → Calls Tryd.prog 11 #[.agg #[.bool rA.neg, .slice a rA.mag.length c, .int .i64 rA.exp], .int .i64 n, .int .i64 way] X fun e w' => e = .returned (.tuple #[.int .i64 z1, .bool o1, .int .i64 0]) ∧ Kept X w') := fun X a c hT hS => by rw [← e1, ← f1]; exact roundz n way hn0 hw0 rA la.ok a c X hT hS
  have R2 : Hid (∀ X a c, Tab X → Sl X (.slice a (ngv rA).mag.length c) (ngv rA).mag → Calls Tryd.prog 11 #[.agg #[.bool (ngv rA).neg, .slice a (ngv rA).mag.length c, .int .i64 (ngv rA).exp], .int .i64 n, .int .i64 way2] X fun e w' => e = .returned (.tuple #[.int .i64 z2, .bool o1, .int .i64 0]) ∧ Kept X w') := fun X a c hT hS => by rw [← e2, ← f2]; exact roundz n way2 hn0 hw20 (ngv rA) VN.out a c X hT hS
  have R3 : Hid (∀ X a c, Tab X → Sl X (.slice a rB.mag.length c) rB.mag → Calls Tryd.prog 11 #[.agg #[.bool rB.neg, .slice a rB.mag.length c, .int .i64 rB.exp], .int .i64 n, .int .i64 way] X fun e w' => e = .returned (.tuple #[.int .i64 z3, .bool o3, .int .i64 0]) ∧ Kept X w') := fun X a c hT hS => by rw [← e3, ← f3]; exact roundz n way hn0 hw0 rB lb.ok a c X hT hS
  have R0 : Hid (∀ X a c, Tab X → Sl X (.slice a rA.mag.length c) rA.mag → (a = none → c = 0) → Calls Tryd.prog 18 #[.agg #[.bool rA.neg, .slice a rA.mag.length c, .int .i64 rA.exp]] X fun e w' => ∃ ao c, e = .returned (.tuple #[.agg #[.bool (ngv rA).neg, .slice ao (ngv rA).mag.length c, .int .i64 (ngv rA).exp], .int .i64 0]) ∧ Sl w' (.slice ao (ngv rA).mag.length c) (ngv rA).mag ∧ Kept X w') := fun X a c hT hS hc => neg_at X hT rA la.ok a c hS hc
  obtain ⟨rN, hrN⟩ : ∃ rN, ngv rA = rN := ⟨_, rfl⟩
  rw [hrN] at R2 R0 VN
  obtain ⟨X0, hX⟩ : ∃ X, X = ((w.alloc (.cells #[.bool m1.neg, .slice q1 m1.mag.length d1, .int .i64 m1.exp] 24)).alloc (.cells #[.bool m2.neg, .slice q2 m2.mag.length d2, .int .i64 m2.exp] 24)) := ⟨_, rfl⟩
  have k0 : Hid (Kept w X0) := by rw [hX]; exact ((Kept.refl w).alloc _ _).alloc _ _
  have Q0 : Hid (∀ u, Kept X0 u → Lay u (w.heap.size + 1) q2 d2 m2 ∧ Lay u w.heap.size q1 d1 m1) := by
    intro u k
    have kw := k0.out.trans k
    rw [hX] at k
    refine ⟨⟨⟨⟨?_, ?_⟩, ?_⟩, h2.kept kw⟩, ⟨⟨⟨?_, ?_⟩, ?_⟩, h1.kept kw⟩⟩
    · exact (k.below.cell (p := ⟨w.heap.size + 1, 0, none⟩) (by simp <;> omega)).trans (by simp [go_sem])
    · exact (k.below.cell (p := ⟨w.heap.size + 1, 1, none⟩) (by simp <;> omega)).trans (by simp [go_sem])
    · exact (k.below.cell (p := ⟨w.heap.size + 1, 2, none⟩) (by simp <;> omega)).trans (by simp [go_sem])
    · exact (k.below.cell (p := ⟨w.heap.size, 0, none⟩) (by simp <;> omega)).trans (by simp [go_sem])
    · exact (k.below.cell (p := ⟨w.heap.size, 1, none⟩) (by simp <;> omega)).trans (by simp [go_sem])
    · exact (k.below.cell (p := ⟨w.heap.size, 2, none⟩) (by simp <;> omega)).trans (by simp [go_sem])
  clear hT hG0 hrA hrB hl1 hl2 h1 h2 la lb hn0 hw0 hw20 e1 e2 e3 f1 f2 f3 hrN
  go_enter Tryd.func5, Tryd.ntmps5
  go_upto_region 3 with fail
  rw [← hX]
  clear hX
  obtain ⟨⟨⟨c00, c01⟩, c02⟩, hs0⟩ := (Q0.out _ (Kept.refl _)).2
  have S0 : Hid _ := hs0
  clear hs0
  go_wp2_with fail
  refine (numc_any m1.neg m1.mag m1.exp _ _ LL.out.1 _ (HT.out _ k0.out) S0.out _ NA.out).mono ?_
  rintro e w1 ⟨t1, g1, rfl, ⟨hs, hcap1⟩, hk⟩
  have HC1 : Hid (t1 = none → g1 = 0) := hcap1
  clear hcap1
  clear c00 c01 c02 S0
  go_upto_region 4 with fail
  obtain ⟨X1, hX⟩ : ∃ X, X = w1.alloc (.cells #[.bool rA.neg, .slice t1 rA.mag.length g1, .int .i64 rA.exp] 24) := ⟨_, rfl⟩
  obtain ⟨p1, hp⟩ : ∃ p, p = w1.heap.size := ⟨_, rfl⟩
  have kX : Kept X0 X1 := by rw [hX]; exact hk.alloc _ _
  have Q1 : Hid (∀ u, Kept X1 u → Lay u (p1) t1 g1 rA ∧ Lay u (w.heap.size + 1) q2 d2 m2 ∧ Lay u (w.heap.size) q1 d1 m1) := fun u k => ⟨by rw [hp]; rw [hX] at k; exact lay_alloc hs k, Q0.out u (kX.trans k)⟩
  have k1 : Hid (Kept w X1) := k0.out.trans kX
  rw [← hX, ← hp]
  clear hX hp hs hk kX Q0 k0
  obtain ⟨⟨⟨c00, c01⟩, c02⟩, hs0⟩ := (Q1.out _ (Kept.refl _)).2.1
  have S0 : Hid _ := hs0
  clear hs0
  go_wp2_with fail
  refine (numc_any m2.neg m2.mag m2.exp _ _ LL.out.2 _ (HT.out _ k1.out) S0.out _ NB.out).mono ?_
  rintro e w2 ⟨t2, g2, rfl, ⟨hs, hcap2⟩, hk⟩
  have HC2 : Hid (t2 = none → g2 = 0) := hcap2
  clear hcap2
  clear c00 c01 c02 S0
  go_upto_region 5 with fail
  obtain ⟨X2, hX⟩ : ∃ X, X = w2.alloc (.cells #[.bool rB.neg, .slice t2 rB.mag.length g2, .int .i64 rB.exp] 24) := ⟨_, rfl⟩
  obtain ⟨p2, hp⟩ : ∃ p, p = w2.heap.size := ⟨_, rfl⟩
  have kX : Kept X1 X2 := by rw [hX]; exact hk.alloc _ _
  have Q2 : Hid (∀ u, Kept X2 u → Lay u (p2) t2 g2 rB ∧ Lay u (p1) t1 g1 rA ∧ Lay u (w.heap.size + 1) q2 d2 m2 ∧ Lay u (w.heap.size) q1 d1 m1) := fun u k => ⟨by rw [hp]; rw [hX] at k; exact lay_alloc hs k, Q1.out u (kX.trans k)⟩
  have k2 : Hid (Kept w X2) := k1.out.trans kX
  rw [← hX, ← hp]
  clear hX hp hs hk kX Q1 k1
  obtain ⟨⟨⟨c00, c01⟩, c02⟩, hs0⟩ := (Q2.out _ (Kept.refl _)).2.1
  have S0 : Hid _ := hs0
  clear hs0
  go_wp2_with fail
  refine (R0.out _ _ _ (HT.out _ k2.out) S0.out HC1.out).mono ?_
  rintro e w3 ⟨t3, g3, rfl, hs, hk⟩
  clear c00 c01 c02 S0
  go_upto_region 6 with fail
  obtain ⟨X3, hX⟩ : ∃ X, X = w3.alloc (.cells #[.bool rN.neg, .slice t3 rN.mag.length g3, .int .i64 rN.exp] 24) := ⟨_, rfl⟩
  obtain ⟨p3, hp⟩ : ∃ p, p = w3.heap.size := ⟨_, rfl⟩
  have kX : Kept X2 X3 := by rw [hX]; exact hk.alloc _ _
  have Q3 : Hid (∀ u, Kept X3 u → Lay u (p3) t3 g3 rN ∧ Lay u (p2) t2 g2 rB ∧ Lay u (p1) t1 g1 rA ∧ Lay u (w.heap.size + 1) q2 d2 m2 ∧ Lay u (w.heap.size) q1 d1 m1) := fun u k => ⟨by rw [hp]; rw [hX] at k; exact lay_alloc hs k, Q2.out u (kX.trans k)⟩
  have k3 : Hid (Kept w X3) := k2.out.trans kX
  rw [← hX, ← hp]
  clear hX hp hs hk kX Q2 k2
  obtain ⟨⟨⟨c00, c01⟩, c02⟩, hs0⟩ := (Q3.out _ (Kept.refl _)).2.2.1
  have S0 : Hid _ := hs0
  clear hs0
  go_wp2_with fail
  refine (R1.out _ _ _ (HT.out _ k3.out) S0.out).mono ?_
  rintro e X4 ⟨rfl, hk⟩
  clear c00 c01 c02 S0
  have Q4 : Hid (∀ u, Kept X4 u → Lay u (p3) t3 g3 rN ∧ Lay u (p2) t2 g2 rB ∧ Lay u (p1) t1 g1 rA ∧ Lay u (w.heap.size + 1) q2 d2 m2 ∧ Lay u (w.heap.size) q1 d1 m1) := fun u k => Q3.out u (hk.trans k)
  have k4 : Hid (Kept w X4) := k3.out.trans hk
  clear hk Q3 k3
  go_upto_region 7 with fail
  obtain ⟨⟨⟨c00, c01⟩, c02⟩, hs0⟩ := (Q4.out _ (Kept.refl _)).1
  have S0 : Hid _ := hs0
  clear hs0
  go_wp2_with fail
  refine (R2.out _ _ _ (HT.out _ k4.out) S0.out).mono ?_
  rintro e X5 ⟨rfl, hk⟩
  clear c00 c01 c02 S0
  have Q5 : Hid (∀ u, Kept X5 u → Lay u (p3) t3 g3 rN ∧ Lay u (p2) t2 g2 rB ∧ Lay u (p1) t1 g1 rA ∧ Lay u (w.heap.size + 1) q2 d2 m2 ∧ Lay u (w.heap.size) q1 d1 m1) := fun u k => Q4.out u (hk.trans k)
  have k5 : Hid (Kept w X5) := k4.out.trans hk
  clear hk Q4 k4
  go_upto_region 8 with fail
  obtain ⟨⟨⟨c00, c01⟩, c02⟩, hs0⟩ := (Q5.out _ (Kept.refl _)).2.1
  have S0 : Hid _ := hs0
  clear hs0
  go_wp2_with fail
  refine (R3.out _ _ _ (HT.out _ k5.out) S0.out).mono ?_
  rintro e X6 ⟨rfl, hk⟩
  clear c00 c01 c02 S0
  have Q6 : Hid (∀ u, Kept X6 u → Lay u (p3) t3 g3 rN ∧ Lay u (p2) t2 g2 rB ∧ Lay u (p1) t1 g1 rA ∧ Lay u (w.heap.size + 1) q2 d2 m2 ∧ Lay u (w.heap.size) q1 d1 m1) := fun u k => Q5.out u (hk.trans k)
  have k6 : Hid (Kept w X6) := k5.out.trans hk
  clear hk Q5 k5
  go_upto_region 9 with fail
  obtain ⟨⟨⟨c00, c01⟩, c02⟩, hs0⟩ := (Q6.out _ (Kept.refl _)).2.2.1
  have S0 : Hid _ := hs0
  clear hs0
  obtain ⟨⟨⟨c10, c11⟩, c12⟩, hs1⟩ := (Q6.out _ (Kept.refl _)).2.1
  have S1 : Hid _ := hs1
  clear hs1
  go_wp2_with fail
  refine (cmp_at (-1300) _ rA rB LA.out.ok LB.out.ok LA.out.low LB.out.low _ _ _ _ S0.out S1.out (-1) HG.out).mono ?_
  rintro e X7 ⟨rfl, hk⟩
  clear c00 c01 c02 S0 c10 c11 c12 S1
  have Q7 : Hid (∀ u, Kept X7 u → Lay u (p3) t3 g3 rN ∧ Lay u (p2) t2 g2 rB ∧ Lay u (p1) t1 g1 rA ∧ Lay u (w.heap.size + 1) q2 d2 m2 ∧ Lay u (w.heap.size) q1 d1 m1) := fun u k => Q6.out u (hk.trans k)
  have k7 : Hid (Kept w X7) := k6.out.trans hk
  clear hk Q6 k6
  go_upto_region 10 with fail
  go_wp2_with fail
  refine (alive_true _ (HT.out _ k7.out)).mono ?_
  rintro e Y0 ⟨rfl, y0⟩
  go_wp2_with fail
  refine (KN.out _).mono ?_
  rintro e Y1 ⟨rfl, y1'⟩
  go_wp2_with fail
  refine (KS.out _).mono ?_
  rintro e Y2 ⟨rfl, y2'⟩
  go_wp2_with fail
  refine (KL1.out _).mono ?_
  rintro e Y3 ⟨rfl, y3'⟩
  go_wp2
  go_ret
  exact ⟨rfl, k7.out.trans ((y0.trans (y1'.trans y2')).trans y3')⟩

set_option maxHeartbeats 8000000 in
set_option maxRecDepth 100000 in
theorem mir_eq (w : World) (hT : Tab w) (m1 : Nm) (q1 : Option Addr) (d1 : Nat) (hl1 : m1.mag.length ≤ 9223372036854775807) (h1 : Sl w (.slice q1 m1.mag.length d1) m1.mag) (rA : Nm) (hrA : frm m1.neg (nv (msk m1.mag (min m1.mag.length 20))) (m1.exp.tmod 1300) = some rA) (m2 : Nm) (q2 : Option Addr) (d2 : Nat) (hl2 : m2.mag.length ≤ 9223372036854775807) (h2 : Sl w (.slice q2 m2.mag.length d2) m2.mag) (rB : Nm) (hrB : frm m2.neg (nv (msk m2.mag (min m2.mag.length 20))) (m2.exp.tmod 1300) = some rB) (la : Lies (-1300) 3200 rA) (lb : Lies (-1300) 3200 rB) (v wy n way b1 b2 b3 b4 : Int) (way2 : Int) (y1 : bits .and .i64 v 1 = b1) (y2 : IntKind.i64.wrap (32 * b1) = b2) (y3 : IntKind.i64.wrap (32 + b2) = n) (y4 : bits .and .i64 wy 65535 = b3) (y5 : b3.tmod 3 = way) (y6 : IntKind.i64.wrap (3 - way) = b4) (y7 : b4.tmod 3 = way2) (hn0 : n = 64 ∨ n = 32) (hw0 : way = 0 ∨ way = 1 ∨ way = 2) (hw20 : way2 = 0 ∨ way2 = 1 ∨ way2 = 2) (k1 k2 k3 z1 z2 z3 : Int) (e1 : rzN n way rA = z1) (e2 : rzN n way2 (ngv rA) = z2) (e3 : rzN n way rB = z3) (o1 o2 o3 : Bool) (f1 : oxN n way rA = o1) (f2 : oxN n way2 (ngv rA) = o1) (f3 : oxN n way rB = o3) (hG0 : cz (vz (-1300) rA) (vz (-1300) rB) = 0)
    (KN : Hid (∀ u, Calls Tryd.prog 20 #[.int .i64 z1, .int .i64 n] u fun e w' => e = .returned (.int .i64 k1) ∧ Kept u w'))
    (KS : Hid (∀ u, Calls Tryd.prog 19 #[.int .i64 k1, .int .i64 z2, .int .i64 n] u fun e w' => e = .returned (.bool true) ∧ Kept u w'))
    (KL1 : Hid (∀ u, Calls Tryd.prog 21 #[.int .i64 z3, .int .i64 z1, .int .i64 n] u fun e w' => e = .returned (.bool false) ∧ Kept u w'))
    (KL2 : Hid (∀ u, Calls Tryd.prog 21 #[.int .i64 z1, .int .i64 z3, .int .i64 n] u fun e w' => e = .returned (.bool false) ∧ Kept u w'))
    :
    Calls Tryd.prog 5 #[.agg #[.bool m1.neg, .slice q1 m1.mag.length d1, .int .i64 m1.exp], .agg #[.bool m2.neg, .slice q2 m2.mag.length d2, .int .i64 m2.exp], .int .i64 v, .int .i64 wy] w fun e w' => e = .returned (.bool true) ∧ Kept w w' := by
  have HT : Hid (∀ u, Kept w u → Tab u) := fun u k => hT.kept k
  have LA : Hid (Lies (-1300) 3200 rA) := la
  have LB : Hid (Lies (-1300) 3200 rB) := lb
  have hn : Hid (n = 64 ∨ n = 32) := hn0
  have hw : Hid (way = 0 ∨ way = 1 ∨ way = 2) := hw0
  have hw2 : Hid (way2 = 0 ∨ way2 = 1 ∨ way2 = 2) := hw20
  have HG : Hid (cz (vz (-1300) rA) (vz (-1300) rB) = 0) := hG0
  have NA : Hid (frm m1.neg (nv (msk m1.mag (min m1.mag.length 20))) (m1.exp.tmod 1300) = some rA) := hrA
  have NB : Hid (frm m2.neg (nv (msk m2.mag (min m2.mag.length 20))) (m2.exp.tmod 1300) = some rB) := hrB
  have LL : Hid (m1.mag.length ≤ 9223372036854775807 ∧ m2.mag.length ≤ 9223372036854775807) := ⟨hl1, hl2⟩
  have VN : Hid (vld (ngv rA) = true) := (ngv_frm rA la.ok).2
  have R1 : Hid (∀ X a c, Tab X → Sl X (.slice a rA.mag.length c) rA.mag → Calls Tryd.prog 11 #[.agg #[.bool rA.neg, .slice a rA.mag.length c, .int .i64 rA.exp], .int .i64 n, .int .i64 way] X fun e w' => e = .returned (.tuple #[.int .i64 z1, .bool o1, .int .i64 0]) ∧ Kept X w') := fun X a c hT hS => by rw [← e1, ← f1]; exact roundz n way hn0 hw0 rA la.ok a c X hT hS
  have R2 : Hid (∀ X a c, Tab X → Sl X (.slice a (ngv rA).mag.length c) (ngv rA).mag → Calls Tryd.prog 11 #[.agg #[.bool (ngv rA).neg, .slice a (ngv rA).mag.length c, .int .i64 (ngv rA).exp], .int .i64 n, .int .i64 way2] X fun e w' => e = .returned (.tuple #[.int .i64 z2, .bool o1, .int .i64 0]) ∧ Kept X w') := fun X a c hT hS => by rw [← e2, ← f2]; exact roundz n way2 hn0 hw20 (ngv rA) VN.out a c X hT hS
  have R3 : Hid (∀ X a c, Tab X → Sl X (.slice a rB.mag.length c) rB.mag → Calls Tryd.prog 11 #[.agg #[.bool rB.neg, .slice a rB.mag.length c, .int .i64 rB.exp], .int .i64 n, .int .i64 way] X fun e w' => e = .returned (.tuple #[.int .i64 z3, .bool o3, .int .i64 0]) ∧ Kept X w') := fun X a c hT hS => by rw [← e3, ← f3]; exact roundz n way hn0 hw0 rB lb.ok a c X hT hS
  have R0 : Hid (∀ X a c, Tab X → Sl X (.slice a rA.mag.length c) rA.mag → (a = none → c = 0) → Calls Tryd.prog 18 #[.agg #[.bool rA.neg, .slice a rA.mag.length c, .int .i64 rA.exp]] X fun e w' => ∃ ao c, e = .returned (.tuple #[.agg #[.bool (ngv rA).neg, .slice ao (ngv rA).mag.length c, .int .i64 (ngv rA).exp], .int .i64 0]) ∧ Sl w' (.slice ao (ngv rA).mag.length c) (ngv rA).mag ∧ Kept X w') := fun X a c hT hS hc => neg_at X hT rA la.ok a c hS hc
  obtain ⟨rN, hrN⟩ : ∃ rN, ngv rA = rN := ⟨_, rfl⟩
  rw [hrN] at R2 R0 VN
  obtain ⟨X0, hX⟩ : ∃ X, X = ((w.alloc (.cells #[.bool m1.neg, .slice q1 m1.mag.length d1, .int .i64 m1.exp] 24)).alloc (.cells #[.bool m2.neg, .slice q2 m2.mag.length d2, .int .i64 m2.exp] 24)) := ⟨_, rfl⟩
  have k0 : Hid (Kept w X0) := by rw [hX]; exact ((Kept.refl w).alloc _ _).alloc _ _
  have Q0 : Hid (∀ u, Kept X0 u → Lay u (w.heap.size + 1) q2 d2 m2 ∧ Lay u w.heap.size q1 d1 m1) := by
    intro u k
    have kw := k0.out.trans k
    rw [hX] at k
    refine ⟨⟨⟨⟨?_, ?_⟩, ?_⟩, h2.kept kw⟩, ⟨⟨⟨?_, ?_⟩, ?_⟩, h1.kept kw⟩⟩
    · exact (k.below.cell (p := ⟨w.heap.size + 1, 0, none⟩) (by simp <;> omega)).trans (by simp [go_sem])
    · exact (k.below.cell (p := ⟨w.heap.size + 1, 1, none⟩) (by simp <;> omega)).trans (by simp [go_sem])
    · exact (k.below.cell (p := ⟨w.heap.size + 1, 2, none⟩) (by simp <;> omega)).trans (by simp [go_sem])
    · exact (k.below.cell (p := ⟨w.heap.size, 0, none⟩) (by simp <;> omega)).trans (by simp [go_sem])
    · exact (k.below.cell (p := ⟨w.heap.size, 1, none⟩) (by simp <;> omega)).trans (by simp [go_sem])
    · exact (k.below.cell (p := ⟨w.heap.size, 2, none⟩) (by simp <;> omega)).trans (by simp [go_sem])
  clear hT hG0 hrA hrB hl1 hl2 h1 h2 la lb hn0 hw0 hw20 e1 e2 e3 f1 f2 f3 hrN
  go_enter Tryd.func5, Tryd.ntmps5
  go_upto_region 3 with fail
  rw [← hX]
  clear hX
  obtain ⟨⟨⟨c00, c01⟩, c02⟩, hs0⟩ := (Q0.out _ (Kept.refl _)).2
  have S0 : Hid _ := hs0
  clear hs0
  go_wp2_with fail
  refine (numc_any m1.neg m1.mag m1.exp _ _ LL.out.1 _ (HT.out _ k0.out) S0.out _ NA.out).mono ?_
  rintro e w1 ⟨t1, g1, rfl, ⟨hs, hcap1⟩, hk⟩
  have HC1 : Hid (t1 = none → g1 = 0) := hcap1
  clear hcap1
  clear c00 c01 c02 S0
  go_upto_region 4 with fail
  obtain ⟨X1, hX⟩ : ∃ X, X = w1.alloc (.cells #[.bool rA.neg, .slice t1 rA.mag.length g1, .int .i64 rA.exp] 24) := ⟨_, rfl⟩
  obtain ⟨p1, hp⟩ : ∃ p, p = w1.heap.size := ⟨_, rfl⟩
  have kX : Kept X0 X1 := by rw [hX]; exact hk.alloc _ _
  have Q1 : Hid (∀ u, Kept X1 u → Lay u (p1) t1 g1 rA ∧ Lay u (w.heap.size + 1) q2 d2 m2 ∧ Lay u (w.heap.size) q1 d1 m1) := fun u k => ⟨by rw [hp]; rw [hX] at k; exact lay_alloc hs k, Q0.out u (kX.trans k)⟩
  have k1 : Hid (Kept w X1) := k0.out.trans kX
  rw [← hX, ← hp]
  clear hX hp hs hk kX Q0 k0
  obtain ⟨⟨⟨c00, c01⟩, c02⟩, hs0⟩ := (Q1.out _ (Kept.refl _)).2.1
  have S0 : Hid _ := hs0
  clear hs0
  go_wp2_with fail
  refine (numc_any m2.neg m2.mag m2.exp _ _ LL.out.2 _ (HT.out _ k1.out) S0.out _ NB.out).mono ?_
  rintro e w2 ⟨t2, g2, rfl, ⟨hs, hcap2⟩, hk⟩
  have HC2 : Hid (t2 = none → g2 = 0) := hcap2
  clear hcap2
  clear c00 c01 c02 S0
  go_upto_region 5 with fail
  obtain ⟨X2, hX⟩ : ∃ X, X = w2.alloc (.cells #[.bool rB.neg, .slice t2 rB.mag.length g2, .int .i64 rB.exp] 24) := ⟨_, rfl⟩
  obtain ⟨p2, hp⟩ : ∃ p, p = w2.heap.size := ⟨_, rfl⟩
  have kX : Kept X1 X2 := by rw [hX]; exact hk.alloc _ _
  have Q2 : Hid (∀ u, Kept X2 u → Lay u (p2) t2 g2 rB ∧ Lay u (p1) t1 g1 rA ∧ Lay u (w.heap.size + 1) q2 d2 m2 ∧ Lay u (w.heap.size) q1 d1 m1) := fun u k => ⟨by rw [hp]; rw [hX] at k; exact lay_alloc hs k, Q1.out u (kX.trans k)⟩
  have k2 : Hid (Kept w X2) := k1.out.trans kX
  rw [← hX, ← hp]
  clear hX hp hs hk kX Q1 k1
  obtain ⟨⟨⟨c00, c01⟩, c02⟩, hs0⟩ := (Q2.out _ (Kept.refl _)).2.1
  have S0 : Hid _ := hs0
  clear hs0
  go_wp2_with fail
  refine (R0.out _ _ _ (HT.out _ k2.out) S0.out HC1.out).mono ?_
  rintro e w3 ⟨t3, g3, rfl, hs, hk⟩
  clear c00 c01 c02 S0
  go_upto_region 6 with fail
  obtain ⟨X3, hX⟩ : ∃ X, X = w3.alloc (.cells #[.bool rN.neg, .slice t3 rN.mag.length g3, .int .i64 rN.exp] 24) := ⟨_, rfl⟩
  obtain ⟨p3, hp⟩ : ∃ p, p = w3.heap.size := ⟨_, rfl⟩
  have kX : Kept X2 X3 := by rw [hX]; exact hk.alloc _ _
  have Q3 : Hid (∀ u, Kept X3 u → Lay u (p3) t3 g3 rN ∧ Lay u (p2) t2 g2 rB ∧ Lay u (p1) t1 g1 rA ∧ Lay u (w.heap.size + 1) q2 d2 m2 ∧ Lay u (w.heap.size) q1 d1 m1) := fun u k => ⟨by rw [hp]; rw [hX] at k; exact lay_alloc hs k, Q2.out u (kX.trans k)⟩
  have k3 : Hid (Kept w X3) := k2.out.trans kX
  rw [← hX, ← hp]
  clear hX hp hs hk kX Q2 k2
  obtain ⟨⟨⟨c00, c01⟩, c02⟩, hs0⟩ := (Q3.out _ (Kept.refl _)).2.2.1
  have S0 : Hid _ := hs0
  clear hs0
  go_wp2_with fail
  refine (R1.out _ _ _ (HT.out _ k3.out) S0.out).mono ?_
  rintro e X4 ⟨rfl, hk⟩
  clear c00 c01 c02 S0
  have Q4 : Hid (∀ u, Kept X4 u → Lay u (p3) t3 g3 rN ∧ Lay u (p2) t2 g2 rB ∧ Lay u (p1) t1 g1 rA ∧ Lay u (w.heap.size + 1) q2 d2 m2 ∧ Lay u (w.heap.size) q1 d1 m1) := fun u k => Q3.out u (hk.trans k)
  have k4 : Hid (Kept w X4) := k3.out.trans hk
  clear hk Q3 k3
  go_upto_region 7 with fail
  obtain ⟨⟨⟨c00, c01⟩, c02⟩, hs0⟩ := (Q4.out _ (Kept.refl _)).1
  have S0 : Hid _ := hs0
  clear hs0
  go_wp2_with fail
  refine (R2.out _ _ _ (HT.out _ k4.out) S0.out).mono ?_
  rintro e X5 ⟨rfl, hk⟩
  clear c00 c01 c02 S0
  have Q5 : Hid (∀ u, Kept X5 u → Lay u (p3) t3 g3 rN ∧ Lay u (p2) t2 g2 rB ∧ Lay u (p1) t1 g1 rA ∧ Lay u (w.heap.size + 1) q2 d2 m2 ∧ Lay u (w.heap.size) q1 d1 m1) := fun u k => Q4.out u (hk.trans k)
  have k5 : Hid (Kept w X5) := k4.out.trans hk
  clear hk Q4 k4
  go_upto_region 8 with fail
  obtain ⟨⟨⟨c00, c01⟩, c02⟩, hs0⟩ := (Q5.out _ (Kept.refl _)).2.1
  have S0 : Hid _ := hs0
  clear hs0
  go_wp2_with fail
  refine (R3.out _ _ _ (HT.out _ k5.out) S0.out).mono ?_
  rintro e X6 ⟨rfl, hk⟩
  clear c00 c01 c02 S0
  have Q6 : Hid (∀ u, Kept X6 u → Lay u (p3) t3 g3 rN ∧ Lay u (p2) t2 g2 rB ∧ Lay u (p1) t1 g1 rA ∧ Lay u (w.heap.size + 1) q2 d2 m2 ∧ Lay u (w.heap.size) q1 d1 m1) := fun u k => Q5.out u (hk.trans k)
  have k6 : Hid (Kept w X6) := k5.out.trans hk
  clear hk Q5 k5
  go_upto_region 9 with fail
  obtain ⟨⟨⟨c00, c01⟩, c02⟩, hs0⟩ := (Q6.out _ (Kept.refl _)).2.2.1
  have S0 : Hid _ := hs0
  clear hs0
  obtain ⟨⟨⟨c10, c11⟩, c12⟩, hs1⟩ := (Q6.out _ (Kept.refl _)).2.1
  have S1 : Hid _ := hs1
  clear hs1
  go_wp2_with fail
  refine (cmp_at (-1300) _ rA rB LA.out.ok LB.out.ok LA.out.low LB.out.low _ _ _ _ S0.out S1.out (0) HG.out).mono ?_
  rintro e X7 ⟨rfl, hk⟩
  clear c00 c01 c02 S0 c10 c11 c12 S1
  have Q7 : Hid (∀ u, Kept X7 u → Lay u (p3) t3 g3 rN ∧ Lay u (p2) t2 g2 rB ∧ Lay u (p1) t1 g1 rA ∧ Lay u (w.heap.size + 1) q2 d2 m2 ∧ Lay u (w.heap.size) q1 d1 m1) := fun u k => Q6.out u (hk.trans k)
  have k7 : Hid (Kept w X7) := k6.out.trans hk
  clear hk Q6 k6
  go_upto_region 10 with fail
  go_wp2_with fail
  refine (alive_true _ (HT.out _ k7.out)).mono ?_
  rintro e Y0 ⟨rfl, y0⟩
  go_wp2_with fail
  refine (KN.out _).mono ?_
  rintro e Y1 ⟨rfl, y1'⟩
  go_wp2_with fail
  refine (KS.out _).mono ?_
  rintro e Y2 ⟨rfl, y2'⟩
  go_wp2_with fail
  refine (KL1.out _).mono ?_
  rintro e Y3 ⟨rfl, y3'⟩
  go_wp2_with fail
  refine (KL2.out _).mono ?_
  rintro e Y4 ⟨rfl, y4'⟩
  go_wp2
  go_ret
  exact ⟨rfl, k7.out.trans (((y0.trans (y1'.trans y2')).trans y3').trans y4')⟩

set_option maxHeartbeats 8000000 in
set_option maxRecDepth 100000 in
theorem mir_gt (w : World) (hT : Tab w) (m1 : Nm) (q1 : Option Addr) (d1 : Nat) (hl1 : m1.mag.length ≤ 9223372036854775807) (h1 : Sl w (.slice q1 m1.mag.length d1) m1.mag) (rA : Nm) (hrA : frm m1.neg (nv (msk m1.mag (min m1.mag.length 20))) (m1.exp.tmod 1300) = some rA) (m2 : Nm) (q2 : Option Addr) (d2 : Nat) (hl2 : m2.mag.length ≤ 9223372036854775807) (h2 : Sl w (.slice q2 m2.mag.length d2) m2.mag) (rB : Nm) (hrB : frm m2.neg (nv (msk m2.mag (min m2.mag.length 20))) (m2.exp.tmod 1300) = some rB) (la : Lies (-1300) 3200 rA) (lb : Lies (-1300) 3200 rB) (v wy n way b1 b2 b3 b4 : Int) (way2 : Int) (y1 : bits .and .i64 v 1 = b1) (y2 : IntKind.i64.wrap (32 * b1) = b2) (y3 : IntKind.i64.wrap (32 + b2) = n) (y4 : bits .and .i64 wy 65535 = b3) (y5 : b3.tmod 3 = way) (y6 : IntKind.i64.wrap (3 - way) = b4) (y7 : b4.tmod 3 = way2) (hn0 : n = 64 ∨ n = 32) (hw0 : way = 0 ∨ way = 1 ∨ way = 2) (hw20 : way2 = 0 ∨ way2 = 1 ∨ way2 = 2) (k1 k2 k3 z1 z2 z3 : Int) (e1 : rzN n way rA = z1) (e2 : rzN n way2 (ngv rA) = z2) (e3 : rzN n way rB = z3) (o1 o2 o3 : Bool) (f1 : oxN n way rA = o1) (f2 : oxN n way2 (ngv rA) = o1) (f3 : oxN n way rB = o3) (hG0 : cz (vz (-1300) rA) (vz (-1300) rB) = 1)
    (KN : Hid (∀ u, Calls Tryd.prog 20 #[.int .i64 z1, .int .i64 n] u fun e w' => e = .returned (.int .i64 k1) ∧ Kept u w'))
    (KS : Hid (∀ u, Calls Tryd.prog 19 #[.int .i64 k1, .int .i64 z2, .int .i64 n] u fun e w' => e = .returned (.bool true) ∧ Kept u w'))
    (KL2 : Hid (∀ u, Calls Tryd.prog 21 #[.int .i64 z1, .int .i64 z3, .int .i64 n] u fun e w' => e = .returned (.bool false) ∧ Kept u w'))
    :
    Calls Tryd.prog 5 #[.agg #[.bool m1.neg, .slice q1 m1.mag.length d1, .int .i64 m1.exp], .agg #[.bool m2.neg, .slice q2 m2.mag.length d2, .int .i64 m2.exp], .int .i64 v, .int .i64 wy] w fun e w' => e = .returned (.bool true) ∧ Kept w w' := by
  have HT : Hid (∀ u, Kept w u → Tab u) := fun u k => hT.kept k
  have LA : Hid (Lies (-1300) 3200 rA) := la
  have LB : Hid (Lies (-1300) 3200 rB) := lb
  have hn : Hid (n = 64 ∨ n = 32) := hn0
  have hw : Hid (way = 0 ∨ way = 1 ∨ way = 2) := hw0
  have hw2 : Hid (way2 = 0 ∨ way2 = 1 ∨ way2 = 2) := hw20
  have HG : Hid (cz (vz (-1300) rA) (vz (-1300) rB) = 1) := hG0
  have NA : Hid (frm m1.neg (nv (msk m1.mag (min m1.mag.length 20))) (m1.exp.tmod 1300) = some rA) := hrA
  have NB : Hid (frm m2.neg (nv (msk m2.mag (min m2.mag.length 20))) (m2.exp.tmod 1300) = some rB) := hrB
  have LL : Hid (m1.mag.length ≤ 9223372036854775807 ∧ m2.mag.length ≤ 9223372036854775807) := ⟨hl1, hl2⟩
  have VN : Hid (vld (ngv rA) = true) := (ngv_frm rA la.ok).2
  have R1 : Hid (∀ X a c, Tab X → Sl X (.slice a rA.mag.length c) rA.mag → Calls Tryd.prog 11 #[.agg #[.bool rA.neg, .slice a rA.mag.length c, .int .i64 rA.exp], .int .i64 n, .int .i64 way] X fun e w' => e = .returned (.tuple #[.int .i64 z1, .bool o1, .int .i64 0]) ∧ Kept X w') := fun X a c hT hS => by rw [← e1, ← f1]; exact roundz n way hn0 hw0 rA la.ok a c X hT hS
  have R2 : Hid (∀ X a c, Tab X → Sl X (.slice a (ngv rA).mag.length c) (ngv rA).mag → Calls Tryd.prog 11 #[.agg #[.bool (ngv rA).neg, .slice a (ngv rA).mag.length c, .int .i64 (ngv rA).exp], .int .i64 n, .int .i64 way2] X fun e w' => e = .returned (.tuple #[.int .i64 z2, .bool o1, .int .i64 0]) ∧ Kept X w') := fun X a c hT hS => by rw [← e2, ← f2]; exact roundz n way2 hn0 hw20 (ngv rA) VN.out a c X hT hS
  have R3 : Hid (∀ X a c, Tab X → Sl X (.slice a rB.mag.length c) rB.mag → Calls Tryd.prog 11 #[.agg #[.bool rB.neg, .slice a rB.mag.length c, .int .i64 rB.exp], .int .i64 n, .int .i64 way] X fun e w' => e = .returned (.tuple #[.int .i64 z3, .bool o3, .int .i64 0]) ∧ Kept X w') := fun X a c hT hS => by rw [← e3, ← f3]; exact roundz n way hn0 hw0 rB lb.ok a c X hT hS
  have R0 : Hid (∀ X a c, Tab X → Sl X (.slice a rA.mag.length c) rA.mag → (a = none → c = 0) → Calls Tryd.prog 18 #[.agg #[.bool rA.neg, .slice a rA.mag.length c, .int .i64 rA.exp]] X fun e w' => ∃ ao c, e = .returned (.tuple #[.agg #[.bool (ngv rA).neg, .slice ao (ngv rA).mag.length c, .int .i64 (ngv rA).exp], .int .i64 0]) ∧ Sl w' (.slice ao (ngv rA).mag.length c) (ngv rA).mag ∧ Kept X w') := fun X a c hT hS hc => neg_at X hT rA la.ok a c hS hc
  obtain ⟨rN, hrN⟩ : ∃ rN, ngv rA = rN := ⟨_, rfl⟩
  rw [hrN] at R2 R0 VN
  obtain ⟨X0, hX⟩ : ∃ X, X = ((w.alloc (.cells #[.bool m1.neg, .slice q1 m1.mag.length d1, .int .i64 m1.exp] 24)).alloc (.cells #[.bool m2.neg, .slice q2 m2.mag.length d2, .int .i64 m2.exp] 24)) := ⟨_, rfl⟩
  have k0 : Hid (Kept w X0) := by rw [hX]; exact ((Kept.refl w).alloc _ _).alloc _ _
  have Q0 : Hid (∀ u, Kept X0 u → Lay u (w.heap.size + 1) q2 d2 m2 ∧ Lay u w.heap.size q1 d1 m1) := by
    intro u k
    have kw := k0.out.trans k
    rw [hX] at k
    refine ⟨⟨⟨⟨?_, ?_⟩, ?_⟩, h2.kept kw⟩, ⟨⟨⟨?_, ?_⟩, ?_⟩, h1.kept kw⟩⟩
    · exact (k.below.cell (p := ⟨w.heap.size + 1, 0, none⟩) (by simp <;> omega)).trans (by simp [go_sem])
    · exact (k.below.cell (p := ⟨w.heap.size + 1, 1, none⟩) (by simp <;> omega)).trans (by simp [go_sem])
    · exact (k.below.cell (p := ⟨w.heap.size + 1, 2, none⟩) (by simp <;> omega)).trans (by simp [go_sem])
    · exact (k.below.cell (p := ⟨w.heap.size, 0, none⟩) (by simp <;> omega)).trans (by simp [go_sem])
    · exact (k.below.cell (p := ⟨w.heap.size, 1, none⟩) (by simp <;> omega)).trans (by simp [go_sem])
    · exact (k.below.cell (p := ⟨w.heap.size, 2, none⟩) (by simp <;> omega)).trans (by simp [go_sem])
  clear hT hG0 hrA hrB hl1 hl2 h1 h2 la lb hn0 hw0 hw20 e1 e2 e3 f1 f2 f3 hrN
  go_enter Tryd.func5, Tryd.ntmps5
  go_upto_region 3 with fail
  rw [← hX]
  clear hX
  obtain ⟨⟨⟨c00, c01⟩, c02⟩, hs0⟩ := (Q0.out _ (Kept.refl _)).2
  have S0 : Hid _ := hs0
  clear hs0
  go_wp2_with fail
  refine (numc_any m1.neg m1.mag m1.exp _ _ LL.out.1 _ (HT.out _ k0.out) S0.out _ NA.out).mono ?_
  rintro e w1 ⟨t1, g1, rfl, ⟨hs, hcap1⟩, hk⟩
  have HC1 : Hid (t1 = none → g1 = 0) := hcap1
  clear hcap1
  clear c00 c01 c02 S0
  go_upto_region 4 with fail
  obtain ⟨X1, hX⟩ : ∃ X, X = w1.alloc (.cells #[.bool rA.neg, .slice t1 rA.mag.length g1, .int .i64 rA.exp] 24) := ⟨_, rfl⟩
  obtain ⟨p1, hp⟩ : ∃ p, p = w1.heap.size := ⟨_, rfl⟩
  have kX : Kept X0 X1 := by rw [hX]; exact hk.alloc _ _
  have Q1 : Hid (∀ u, Kept X1 u → Lay u (p1) t1 g1 rA ∧ Lay u (w.heap.size + 1) q2 d2 m2 ∧ Lay u (w.heap.size) q1 d1 m1) := fun u k => ⟨by rw [hp]; rw [hX] at k; exact lay_alloc hs k, Q0.out u (kX.trans k)⟩
  have k1 : Hid (Kept w X1) := k0.out.trans kX
  rw [← hX, ← hp]
  clear hX hp hs hk kX Q0 k0
  obtain ⟨⟨⟨c00, c01⟩, c02⟩, hs0⟩ := (Q1.out _ (Kept.refl _)).2.1
  have S0 : Hid _ := hs0
  clear hs0
  go_wp2_with fail
  refine (numc_any m2.neg m2.mag m2.exp _ _ LL.out.2 _ (HT.out _ k1.out) S0.out _ NB.out).mono ?_
  rintro e w2 ⟨t2, g2, rfl, ⟨hs, hcap2⟩, hk⟩
  have HC2 : Hid (t2 = none → g2 = 0) := hcap2
  clear hcap2
  clear c00 c01 c02 S0
  go_upto_region 5 with fail
  obtain ⟨X2, hX⟩ : ∃ X, X = w2.alloc (.cells #[.bool rB.neg, .slice t2 rB.mag.length g2, .int .i64 rB.exp] 24) := ⟨_, rfl⟩
  obtain ⟨p2, hp⟩ : ∃ p, p = w2.heap.size := ⟨_, rfl⟩
  have kX : Kept X1 X2 := by rw [hX]; exact hk.alloc _ _
  have Q2 : Hid (∀ u, Kept X2 u → Lay u (p2) t2 g2 rB ∧ Lay u (p1) t1 g1 rA ∧ Lay u (w.heap.size + 1) q2 d2 m2 ∧ Lay u (w.heap.size) q1 d1 m1) := fun u k => ⟨by rw [hp]; rw [hX] at k; exact lay_alloc hs k, Q1.out u (kX.trans k)⟩
  have k2 : Hid (Kept w X2) := k1.out.trans kX
  rw [← hX, ← hp]
  clear hX hp hs hk kX Q1 k1
  obtain ⟨⟨⟨c00, c01⟩, c02⟩, hs0⟩ := (Q2.out _ (Kept.refl _)).2.1
  have S0 : Hid _ := hs0
  clear hs0
  go_wp2_with fail
  refine (R0.out _ _ _ (HT.out _ k2.out) S0.out HC1.out).mono ?_
  rintro e w3 ⟨t3, g3, rfl, hs, hk⟩
  clear c00 c01 c02 S0
  go_upto_region 6 with fail
  obtain ⟨X3, hX⟩ : ∃ X, X = w3.alloc (.cells #[.bool rN.neg, .slice t3 rN.mag.length g3, .int .i64 rN.exp] 24) := ⟨_, rfl⟩
  obtain ⟨p3, hp⟩ : ∃ p, p = w3.heap.size := ⟨_, rfl⟩
  have kX : Kept X2 X3 := by rw [hX]; exact hk.alloc _ _
  have Q3 : Hid (∀ u, Kept X3 u → Lay u (p3) t3 g3 rN ∧ Lay u (p2) t2 g2 rB ∧ Lay u (p1) t1 g1 rA ∧ Lay u (w.heap.size + 1) q2 d2 m2 ∧ Lay u (w.heap.size) q1 d1 m1) := fun u k => ⟨by rw [hp]; rw [hX] at k; exact lay_alloc hs k, Q2.out u (kX.trans k)⟩
  have k3 : Hid (Kept w X3) := k2.out.trans kX
  rw [← hX, ← hp]
  clear hX hp hs hk kX Q2 k2
  obtain ⟨⟨⟨c00, c01⟩, c02⟩, hs0⟩ := (Q3.out _ (Kept.refl _)).2.2.1
  have S0 : Hid _ := hs0
  clear hs0
  go_wp2_with fail
  refine (R1.out _ _ _ (HT.out _ k3.out) S0.out).mono ?_
  rintro e X4 ⟨rfl, hk⟩
  clear c00 c01 c02 S0
  have Q4 : Hid (∀ u, Kept X4 u → Lay u (p3) t3 g3 rN ∧ Lay u (p2) t2 g2 rB ∧ Lay u (p1) t1 g1 rA ∧ Lay u (w.heap.size + 1) q2 d2 m2 ∧ Lay u (w.heap.size) q1 d1 m1) := fun u k => Q3.out u (hk.trans k)
  have k4 : Hid (Kept w X4) := k3.out.trans hk
  clear hk Q3 k3
  go_upto_region 7 with fail
  obtain ⟨⟨⟨c00, c01⟩, c02⟩, hs0⟩ := (Q4.out _ (Kept.refl _)).1
  have S0 : Hid _ := hs0
  clear hs0
  go_wp2_with fail
  refine (R2.out _ _ _ (HT.out _ k4.out) S0.out).mono ?_
  rintro e X5 ⟨rfl, hk⟩
  clear c00 c01 c02 S0
  have Q5 : Hid (∀ u, Kept X5 u → Lay u (p3) t3 g3 rN ∧ Lay u (p2) t2 g2 rB ∧ Lay u (p1) t1 g1 rA ∧ Lay u (w.heap.size + 1) q2 d2 m2 ∧ Lay u (w.heap.size) q1 d1 m1) := fun u k => Q4.out u (hk.trans k)
  have k5 : Hid (Kept w X5) := k4.out.trans hk
  clear hk Q4 k4
  go_upto_region 8 with fail
  obtain ⟨⟨⟨c00, c01⟩, c02⟩, hs0⟩ := (Q5.out _ (Kept.refl _)).2.1
  have S0 : Hid _ := hs0
  clear hs0
  go_wp2_with fail
  refine (R3.out _ _ _ (HT.out _ k5.out) S0.out).mono ?_
  rintro e X6 ⟨rfl, hk⟩
  clear c00 c01 c02 S0
  have Q6 : Hid (∀ u, Kept X6 u → Lay u (p3) t3 g3 rN ∧ Lay u (p2) t2 g2 rB ∧ Lay u (p1) t1 g1 rA ∧ Lay u (w.heap.size + 1) q2 d2 m2 ∧ Lay u (w.heap.size) q1 d1 m1) := fun u k => Q5.out u (hk.trans k)
  have k6 : Hid (Kept w X6) := k5.out.trans hk
  clear hk Q5 k5
  go_upto_region 9 with fail
  obtain ⟨⟨⟨c00, c01⟩, c02⟩, hs0⟩ := (Q6.out _ (Kept.refl _)).2.2.1
  have S0 : Hid _ := hs0
  clear hs0
  obtain ⟨⟨⟨c10, c11⟩, c12⟩, hs1⟩ := (Q6.out _ (Kept.refl _)).2.1
  have S1 : Hid _ := hs1
  clear hs1
  go_wp2_with fail
  refine (cmp_at (-1300) _ rA rB LA.out.ok LB.out.ok LA.out.low LB.out.low _ _ _ _ S0.out S1.out (1) HG.out).mono ?_
  rintro e X7 ⟨rfl, hk⟩
  clear c00 c01 c02 S0 c10 c11 c12 S1
  have Q7 : Hid (∀ u, Kept X7 u → Lay u (p3) t3 g3 rN ∧ Lay u (p2) t2 g2 rB ∧ Lay u (p1) t1 g1 rA ∧ Lay u (w.heap.size + 1) q2 d2 m2 ∧ Lay u (w.heap.size) q1 d1 m1) := fun u k => Q6.out u (hk.trans k)
  have k7 : Hid (Kept w X7) := k6.out.trans hk
  clear hk Q6 k6
  go_upto_region 10 with fail
  go_wp2_with fail
  refine (alive_true _ (HT.out _ k7.out)).mono ?_
  rintro e Y0 ⟨rfl, y0⟩
  go_wp2_with fail
  refine (KN.out _).mono ?_
  rintro e Y1 ⟨rfl, y1'⟩
  go_wp2_with fail
  refine (KS.out _).mono ?_
  rintro e Y2 ⟨rfl, y2'⟩
  go_wp2_with fail
  refine (KL2.out _).mono ?_
  rintro e Y4 ⟨rfl, y4'⟩
  go_wp2
  go_ret
  exact ⟨rfl, k7.out.trans ((y0.trans (y1'.trans y2')).trans y4')⟩

end Go.Proofs.YtbheglkpmgmkoaaDoor

namespace Go.Proofs.YtbheglkpmgmkoaaDoor
open Go.ChangeShapes Go.WideShapes Go.ChangeAt Go.RowKit
set_option linter.unusedVariables false
set_option linter.unusedSimpArgs false

theorem mask_16 (s : Int) : bits .and .i64 s 65535 = s % 65536 := by
  rw [bits_and, BitVec.toNat_and, show (BitVec.ofInt 64 65535).toNat = 2 ^ 16 - 1 by decide, Nat.and_two_pow_sub_one_eq_mod, show (2 : Nat) ^ 16 = 65536 by decide]
  have h1 := ofInt_toNat s
  rw [wrap_i64]
  omega
theorem width_of (v : Int) : ∃ b1 b2 n, bits .and .i64 v 1 = b1 ∧ IntKind.i64.wrap (32 * b1) = b2 ∧ IntKind.i64.wrap (32 + b2) = n ∧ (n = 64 ∨ n = 32) := by
  refine ⟨v % 2, 32 * (v % 2), 32 + 32 * (v % 2), and_one v, ?_, ?_, ?_⟩
  · rw [wrap_i64]; omega
  · rw [wrap_i64]; omega
  · omega
theorem way_of (wy : Int) : ∃ b3 b4 way way2, bits .and .i64 wy 65535 = b3 ∧ b3.tmod 3 = way ∧ IntKind.i64.wrap (3 - way) = b4 ∧ b4.tmod 3 = way2 ∧ (way = 0 ∨ way = 1 ∨ way = 2) ∧ way2 = mir way := by
  have h0 : 0 ≤ wy % 65536 := by omega
  have h3 : (wy % 65536).tmod 3 = wy % 65536 % 3 := Int.tmod_eq_emod_of_nonneg h0
  refine ⟨wy % 65536, 3 - wy % 65536 % 3, wy % 65536 % 3, (3 - wy % 65536 % 3) % 3, mask_16 wy, h3, ?_, ?_, ?_, ?_⟩
  · rw [wrap_i64]; omega
  · exact Int.tmod_eq_emod_of_nonneg (by omega)
  · omega
  · unfold mir
    split <;> omega
theorem sl_len {w : World} {L : List Int} {a : Option Addr} {c : Nat} (h : Sl w (.slice a L.length c) L) : L.length ≤ 9223372036854775807 := by
  obtain ⟨_, _, e, h1, h2, _⟩ := h
  injection e
  unfold maxLen at h2
  omega
theorem num_got (n : Bool) (L : List Int) (x : Int) : ∃ r, frm n (nv (msk L (min L.length 20))) (x.tmod 1300) = some r ∧ Lies (-1300) 3200 r := by
  have hy := tmod_1300 x
  exact num_lies 600 2600 3200 rfl rfl rfl n _ (msk_dg L _) (by rw [msk_length L _ (Nat.min_le_left _ _)]; exact Nat.min_le_right _ _) _ hy.1 hy.2
theorem exactMirrors_true (w : World) (hT : Tab w) (n1 : Bool) (L1 : List Int) (x1 : Int) (a1 : Option Addr) (c1 : Nat) (h1 : Sl w (.slice a1 L1.length c1) L1) (n2 : Bool) (L2 : List Int) (x2 : Int) (a2 : Option Addr) (c2 : Nat) (h2 : Sl w (.slice a2 L2.length c2) L2) (v wy : Int) :
    Calls Tryd.prog 5 #[.agg #[.bool n1, .slice a1 L1.length c1, .int .i64 x1], .agg #[.bool n2, .slice a2 L2.length c2, .int .i64 x2], .int .i64 v, .int .i64 wy] w fun e w' => e = .returned (.bool true) ∧ Kept w w' := by
  obtain ⟨rA, eA, lA⟩ := num_got n1 L1 x1
  obtain ⟨rB, eB, lB⟩ := num_got n2 L2 x2
  obtain ⟨b1, b2, n, y1, y2, y3, hn⟩ := width_of v
  obtain ⟨b3, b4, way, way2, y4, y5, y6, y7, hw, hw2⟩ := way_of wy
  have hwm : way2 = 0 ∨ way2 = 1 ∨ way2 = 2 := by
    rw [hw2]; unfold mir; split <;> omega
  have hl : (-1300 : Int) < kleast n := by rcases hn with rfl | rfl <;> decide
  obtain ⟨m1, m2⟩ := kyN_mir n way hw rA lA.ok
  rw [← hw2] at m1 m2
  obtain ⟨kr1, kr2⟩ := kyN_range n way rA
  obtain ⟨kr3, kr4⟩ := kyN_range n way rB
  have KN : Hid (∀ u, Calls Tryd.prog 20 #[.int .i64 (rzN n way rA), .int .i64 n] u fun e w' => e = .returned (.int .i64 (ngt (rzN n way rA) n)) ∧ Kept u w') := fun u => ngz_at n (kyN n way rA) hn kr1 kr2 u
  have KS : Hid (∀ u, Calls Tryd.prog 19 #[.int .i64 (ngt (rzN n way rA) n), .int .i64 (rzN n way2 (ngv rA)), .int .i64 n] u fun e w' => e = .returned (.bool true) ∧ Kept u w') := fun u => samez_at n (kyN n way rA) (kyN n way2 (ngv rA)) hn kr1 kr2 m1 u
  have KL1 : kyN n way rA ≤ kyN n way rB → Hid (∀ u, Calls Tryd.prog 21 #[.int .i64 (rzN n way rB), .int .i64 (rzN n way rA), .int .i64 n] u fun e w' => e = .returned (.bool false) ∧ Kept u w') := fun hk u => by
    have := lessz_at n (kyN n way rB) (kyN n way rA) hn kr3 kr4 kr1 kr2 u
    rw [decide_eq_false (by omega)] at this
    exact this
  have KL2 : kyN n way rB ≤ kyN n way rA → Hid (∀ u, Calls Tryd.prog 21 #[.int .i64 (rzN n way rA), .int .i64 (rzN n way rB), .int .i64 n] u fun e w' => e = .returned (.bool false) ∧ Kept u w') := fun hk u => by
    have := lessz_at n (kyN n way rA) (kyN n way rB) hn kr1 kr2 kr3 kr4 u
    rw [decide_eq_false (by omega)] at this
    exact this
  have mono1 : vz (-1300) rA ≤ vz (-1300) rB → kyN n way rA ≤ kyN n way rB := kyN_mono n way hn (-1300) hl rA rB lA.ok lB.ok lA.low lB.low
  have mono2 : vz (-1300) rB ≤ vz (-1300) rA → kyN n way rB ≤ kyN n way rA := kyN_mono n way hn (-1300) hl rB rA lB.ok lA.ok lB.low lA.low
  rcases Int.lt_trichotomy (vz (-1300) rA) (vz (-1300) rB) with h | h | h
  · exact mir_lt w hT ⟨n1, L1, x1⟩ a1 c1 (sl_len h1) h1 rA eA ⟨n2, L2, x2⟩ a2 c2 (sl_len h2) h2 rB eB lA lB v wy n way b1 b2 b3 b4 way2 y1 y2 y3 y4 y5 y6 y7 hn hw hwm _ 0 0 _ _ _ rfl rfl rfl _ false _ rfl m2 rfl (cz_lt h) KN KS (KL1 (mono1 (by omega)))
  · exact mir_eq w hT ⟨n1, L1, x1⟩ a1 c1 (sl_len h1) h1 rA eA ⟨n2, L2, x2⟩ a2 c2 (sl_len h2) h2 rB eB lA lB v wy n way b1 b2 b3 b4 way2 y1 y2 y3 y4 y5 y6 y7 hn hw hwm _ 0 0 _ _ _ rfl rfl rfl _ false _ rfl m2 rfl (cz_eq h) KN KS (KL1 (mono1 (by omega))) (KL2 (mono2 (by omega)))
  · exact mir_gt w hT ⟨n1, L1, x1⟩ a1 c1 (sl_len h1) h1 rA eA ⟨n2, L2, x2⟩ a2 c2 (sl_len h2) h2 rB eB lA lB v wy n way b1 b2 b3 b4 way2 y1 y2 y3 y4 y5 y6 y7 hn hw hwm _ 0 0 _ _ _ rfl rfl rfl _ false _ rfl m2 rfl (cz_gt h) KN KS (KL2 (mono2 (by omega)))
end Go.Proofs.YtbheglkpmgmkoaaDoor
