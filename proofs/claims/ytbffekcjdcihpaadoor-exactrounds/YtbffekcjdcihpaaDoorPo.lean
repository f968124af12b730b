/- The laws' rounds: Round, Quot, Root of two numbers, every width, every way. ExactRounds is true. How arguments are read: exact numbers, lists of ints; and that they read behind the call as before. -/
import Derived.Test.YtbffekcjdcihpaaDoorPn
import Derived.Test.YtbffekcjdcihpaaDoorK11
import Derived.Test.YtbffekcjdcihpaaDoorPf
import Derived.Test.YtbffekcjdcihpaaDoorPa
import Derived.ProofKit
import Derived.OpenShut
import Derived.Carry
import Derived.Lib.SmallJoins
import Derived.ChangeSlices
namespace Go.Proofs.YtbffekcjdcihpaaDoor
open Go.ChangeShapes Go.WideShapes Go.ChangeAt Go.RowKit
set_option linter.unusedVariables false
set_option linter.unusedSimpArgs false

theorem fe_a (n way : Int) (x y : Bool) (h : FE n way x ≠ 0) : FE n way (x && y) ≠ 0 := by
  intro g
  obtain ⟨hn, hw, hv⟩ := fe_ok g
  obtain ⟨ha, hb⟩ := (Bool.and_eq_true_iff).1 hv
  apply h
  unfold FE
  rw [if_pos hn, if_neg (by omega), if_pos ha]
theorem laid3 {w X u : World} (B : Nat) (v0 v1 v2 : Value) (t : TypeId) (hB : B = w.heap.size) (hX : Kept (w.alloc (.cells #[v0, v1, v2] t)) X) (k : Kept X u) : u.cell? ⟨B, 0, none⟩ = some v0 ∧ u.cell? ⟨B, 1, none⟩ = some v1 ∧ u.cell? ⟨B, 2, none⟩ = some v2 := by
  subst hB
  have kk := hX.trans k
  have hb : w.heap.size < (w.alloc (.cells #[v0, v1, v2] t)).heap.size := by simp
  exact ⟨(kk.below.cell (p := ⟨w.heap.size, 0, none⟩) hb).trans (by simp [go_sem]), (kk.below.cell (p := ⟨w.heap.size, 1, none⟩) hb).trans (by simp [go_sem]), (kk.below.cell (p := ⟨w.heap.size, 2, none⟩) hb).trans (by simp [go_sem])⟩

set_option maxHeartbeats 1000000 in
set_option maxRecDepth 100000 in
theorem rounds_true (n way : Int) (a b : Nm) (ra : Rg a.mag) (rb : Rg b.mag) (la : a.mag.length ≤ 300) (lb : b.mag.length ≤ 300) (q1 q2 : Option Addr) (d1 d2 : Nat) (hc1 : q1 = none → d1 = 0) (hc2 : q2 = none → d2 = 0) (w : World) (hT : Tab w) (hr1 : Sl w (.slice q1 a.mag.length d1) a.mag) (hr2 : Sl w (.slice q2 b.mag.length d2) b.mag) :
    Calls Tryd.prog 5 #[.agg #[.bool a.neg, .slice q1 a.mag.length d1, .int .i64 a.exp], .agg #[.bool b.neg, .slice q2 b.mag.length d2, .int .i64 b.exp], .int .i64 n, .int .i64 way] w fun e w' => e = .returned (.bool true) ∧ Kept w w' := by
  obtain ⟨f1, hf1⟩ : ∃ f, f = FE n way (vld a) := ⟨_, rfl⟩
  obtain ⟨f0, hf0⟩ : ∃ f, f = FE n way (vld a && vld b) := ⟨_, rfl⟩
  obtain ⟨f2, hf2⟩ : ∃ f, f = QE n way a b := ⟨_, rfl⟩
  obtain ⟨f3, hf3⟩ : ∃ f, f = RE n way a := ⟨_, rfl⟩
  obtain ⟨rq, ro, hRp, hRn, hRd⟩ := round_full n way a ra (by omega) f1 hf1
  obtain ⟨qq, qo, hQp, hQn, hQd⟩ := quot_full n way a b ra rb (by omega) (by omega) f2 hf2
  obtain ⟨tq, tz, hTp, hTn, hTd⟩ := root_full n way a ra (by omega) f3 hf3
  have h10 : Hid (f1 ≠ 0 → f0 ≠ 0) := fun h => by rw [hf0]; exact fe_a n way _ _ (by rw [← hf1]; exact h)
  have hf2' : Hid (f2 = if f0 = 0 ∧ b.mag.length = 0 then 8 else f0) := by rw [hf2, hf0]; rfl
  have hf3' : Hid (f3 = if f1 = 0 ∧ a.neg = true then 9 else f1) := by rw [hf3, hf1]; rfl
  have HT : ∀ u, Kept w u → Tab u := fun u k => hT.kept k
  have HSl : ∀ (L : List Int) (u : World) (g cap : Nat), Own u g cap (L ++ [-71, -72, -73]) → Sl u (.slice (some ⟨g, 0, none⟩) L.length cap) L := fun L u g cap ho => by
    have hs := ho.slTake L.length (by simp)
    rwa [List.take_left' rfl] at hs
  have HRD : Hid (∀ (u : World) (g c : Nat), Kept w u → Own u g c (a.mag ++ [-71, -72, -73]) → Calls Tryd.prog 12 #[.agg #[.bool a.neg, .slice (some ⟨g, 0, none⟩) a.mag.length c, .int .i64 a.exp], .int .i64 n, .int .i64 way] u fun e w' => e = .returned (.tuple #[.int .i64 rq, .bool ro, .int .i64 f1]) ∧ Kept u w') := fun u g c k ho => hRp _ c u (HT u k) (HSl _ u g c ho)
  have HQT : Hid (∀ (u : World) (g c g' c' : Nat), Kept w u → Own u g c (a.mag ++ [-71, -72, -73]) → Own u g' c' (b.mag ++ [-71, -72, -73]) → Calls Tryd.prog 9 #[.agg #[.bool a.neg, .slice (some ⟨g, 0, none⟩) a.mag.length c, .int .i64 a.exp], .agg #[.bool b.neg, .slice (some ⟨g', 0, none⟩) b.mag.length c', .int .i64 b.exp], .int .i64 n, .int .i64 way] u fun e w' => e = .returned (.tuple #[.int .i64 qq, .bool qo, .int .i64 f2]) ∧ Kept u w') := fun u g c g' c' k ho ho' => hQp _ _ c c' u (HT u k) (HSl _ u g c ho) (HSl _ u g' c' ho')
  have HRT : Hid (∀ (u : World) (g c : Nat), Kept w u → Own u g c (a.mag ++ [-71, -72, -73]) → Calls Tryd.prog 13 #[.agg #[.bool a.neg, .slice (some ⟨g, 0, none⟩) a.mag.length c, .int .i64 a.exp], .int .i64 n, .int .i64 way] u fun e w' => e = .returned (.tuple #[.int .i64 tq, .bool tz, .int .i64 f3]) ∧ Kept u w') := fun u g c k ho => hTp _ c u (HT u k) (HSl _ u g c ho)
  have HLN1 : Hid (∀ u, Kept w u → Calls Tryd.prog 11 #[.agg #[.bool a.neg, .slice q1 a.mag.length d1, .int .i64 a.exp]] u fun e w' => (∃ g cap, e = .returned (.tuple #[.slice (some ⟨g, 0, none⟩) (a.mag.length + 3) cap, .agg #[.bool a.neg, .slice (some ⟨g, 0, none⟩) a.mag.length cap, .int .i64 a.exp]]) ∧ u.heap.size ≤ g ∧ Own w' g cap (a.mag ++ [-71, -72, -73])) ∧ Kept u w') := fun u k => lentNum_any a.neg a.exp a.mag (by omega) q1 d1 u (hr1.kept k)
  have HLN2 : Hid (∀ u, Kept w u → Calls Tryd.prog 11 #[.agg #[.bool b.neg, .slice q2 b.mag.length d2, .int .i64 b.exp]] u fun e w' => (∃ g cap, e = .returned (.tuple #[.slice (some ⟨g, 0, none⟩) (b.mag.length + 3) cap, .agg #[.bool b.neg, .slice (some ⟨g, 0, none⟩) b.mag.length cap, .int .i64 b.exp]]) ∧ u.heap.size ≤ g ∧ Own w' g cap (b.mag ++ [-71, -72, -73])) ∧ Kept u w') := fun u k => lentNum_any b.neg b.exp b.mag (by omega) q2 d2 u (hr2.kept k)
  have HBK1 : Hid (∀ (u : World) (g cap : Nat), Kept w u → Own u g cap (a.mag ++ [-71, -72, -73]) → Calls Tryd.prog 14 #[.slice (some ⟨g, 0, none⟩) (a.mag.length + 3) cap, .slice q1 a.mag.length d1] u fun e w' => e = .returned (.bool true) ∧ Grw g u w') := fun u g cap k ho => back_any a.mag (by omega) _ g cap u (hr1.kept k) ho
  have HBK2 : Hid (∀ (u : World) (g cap : Nat), Kept w u → Own u g cap (b.mag ++ [-71, -72, -73]) → Calls Tryd.prog 14 #[.slice (some ⟨g, 0, none⟩) (b.mag.length + 3) cap, .slice q2 b.mag.length d2] u fun e w' => e = .returned (.bool true) ∧ Grw g u w') := fun u g cap k ho => back_any b.mag (by omega) _ g cap u (hr2.kept k) ho
  have KV1 : Hid (∀ u, Kept w u → Calls Tryd.prog 15 #[.agg #[.bool a.neg, .slice q1 a.mag.length d1, .int .i64 a.exp]] u fun e w' => e = .returned (.bool (vld a)) ∧ Kept u w') := fun u k => rvalid2_any a ra (by omega) _ u ⟨_, rfl, hr1.kept k⟩
  have KV2 : Hid (∀ u, Kept w u → Calls Tryd.prog 15 #[.agg #[.bool b.neg, .slice q2 b.mag.length d2, .int .i64 b.exp]] u fun e w' => e = .returned (.bool (vld b)) ∧ Kept u w') := fun u k => rvalid2_any b rb (by omega) _ u ⟨_, rfl, hr2.kept k⟩
  have KF1 : Hid (∀ u, Calls Tryd.prog 16 #[.int .i64 n, .int .i64 way, .bool (vld a)] u fun e w' => e = .returned (.int .i64 f1) ∧ Kept u w') := fun u => by rw [hf1]; exact rfirst_any n way _ u
  have KF0 : Hid (∀ u, Calls Tryd.prog 16 #[.int .i64 n, .int .i64 way, .bool (vld a && vld b)] u fun e w' => e = .returned (.int .i64 f0) ∧ Kept u w') := fun u => by rw [hf0]; exact rfirst_any n way _ u
  have KD1 : Hid (f1 = 0 → ∀ u, Kept w u → Calls Tryd.prog 17 #[.agg #[.bool a.neg, .slice q1 a.mag.length d1, .int .i64 a.exp], .int .i64 n, .int .i64 way] u fun e w' => e = .returned (.tuple #[.int .i64 rq, .bool ro]) ∧ Kept u w') := fun h u k => hRd h q1 d1 u hc1 (hr1.kept k)
  have KD2 : Hid (f2 = 0 → ∀ u, Kept w u → Calls Tryd.prog 19 #[.agg #[.bool a.neg, .slice q1 a.mag.length d1, .int .i64 a.exp], .agg #[.bool b.neg, .slice q2 b.mag.length d2, .int .i64 b.exp], .int .i64 n, .int .i64 way] u fun e w' => e = .returned (.tuple #[.int .i64 qq, .bool qo]) ∧ Kept u w') := fun h u k => hQd h q1 q2 d1 d2 u hc1 hc2 (hr1.kept k) (hr2.kept k)
  have KD3 : Hid (f3 = 0 → ∀ u, Kept w u → Calls Tryd.prog 20 #[.agg #[.bool a.neg, .slice q1 a.mag.length d1, .int .i64 a.exp], .int .i64 n, .int .i64 way] u fun e w' => e = .returned (.tuple #[.int .i64 tq, .bool tz]) ∧ Kept u w') := fun h u k => hTd h q1 d1 u hc1 (hr1.kept k)
  have KT1 : Hid (∀ u x (y : Bool), (f1 = 0 → x = rq ∧ y = ro) → Calls Tryd.prog 18 #[.int .i64 rq, .bool ro, .int .i64 f1, .int .i64 f1, .int .i64 x, .bool y] u fun e w' => e = .returned (.bool true) ∧ Kept u w') := fun u x y h => told_true rq ro f1 x y hRn h u
  have KT2 : Hid (∀ u x (y : Bool), (f2 = 0 → x = qq ∧ y = qo) → Calls Tryd.prog 18 #[.int .i64 qq, .bool qo, .int .i64 f2, .int .i64 f2, .int .i64 x, .bool y] u fun e w' => e = .returned (.bool true) ∧ Kept u w') := fun u x y h => told_true qq qo f2 x y hQn h u
  have KT3 : Hid (∀ u x (y : Bool), (f3 = 0 → x = tq ∧ y = tz) → Calls Tryd.prog 18 #[.int .i64 tq, .bool tz, .int .i64 f3, .int .i64 f3, .int .i64 x, .bool y] u fun e w' => e = .returned (.bool true) ∧ Kept u w') := fun u x y h => told_true tq tz f3 x y hTn h u
  clear hf0 hf1 hf2 hf3 hRp hRn hRd hQp hQn hQd hTp hTn hTd HT HSl hT hr1 hr2 hc1 hc2 ra rb
  obtain ⟨X0, hX⟩ : ∃ X, X = ((w.alloc (.cells #[.bool a.neg, .slice q1 a.mag.length d1, .int .i64 a.exp] 24)).alloc (.cells #[.bool b.neg, .slice q2 b.mag.length d2, .int .i64 b.exp] 24)) := ⟨_, rfl⟩
  have k0 : Kept w X0 := by rw [hX]; exact ((Kept.refl w).alloc _ _).alloc _ _
  have HA : Hid (∀ u, Kept X0 u → u.cell? ⟨w.heap.size, 0, none⟩ = some (.bool a.neg) ∧ u.cell? ⟨w.heap.size, 1, none⟩ = some (.slice q1 a.mag.length d1) ∧ u.cell? ⟨w.heap.size, 2, none⟩ = some (.int .i64 a.exp)) := fun u k => laid3 w.heap.size _ _ _ 24 rfl (by rw [hX]; exact (Kept.refl _).alloc _ _) k
  have HB : Hid (∀ u, Kept X0 u → u.cell? ⟨w.heap.size + 1, 0, none⟩ = some (.bool b.neg) ∧ u.cell? ⟨w.heap.size + 1, 1, none⟩ = some (.slice q2 b.mag.length d2) ∧ u.cell? ⟨w.heap.size + 1, 2, none⟩ = some (.int .i64 b.exp)) := fun u k => laid3 (w := w.alloc (.cells #[.bool a.neg, .slice q1 a.mag.length d1, .int .i64 a.exp] 24)) (w.heap.size + 1) _ _ _ 24 (by simp) (by rw [hX]; exact Kept.refl _) k
  go_enter Tryd.func5, Tryd.ntmps5
  go_upto_region 1 with fail
  rw [← hX]
  clear hX
  obtain ⟨c0, c1, c2⟩ := HA.out _ (Kept.refl _)
  go_wp2_with fail
  refine (HLN1.out _ k0).mono ?_
  rintro e w1 ⟨⟨ga, ka, rfl, hga, hOa⟩, hk1⟩
  clear c0 c1 c2 HLN1
  go_upto_region 2 with fail
  obtain ⟨X1, hX⟩ : ∃ X, X = w1.alloc (.cells #[.bool a.neg, .slice (some ⟨ga, 0, none⟩) a.mag.length ka, .int .i64 a.exp] 24) := ⟨_, rfl⟩
  obtain ⟨px, hp⟩ : ∃ p, p = w1.heap.size := ⟨_, rfl⟩
  have k1 : Kept X0 X1 := by rw [hX]; exact hk1.alloc _ _
  have hO1 : Own X1 ga ka (a.mag ++ [-71, -72, -73]) := by rw [hX]; exact hOa.kept ((Kept.refl _).alloc _ _)
  have HX : Hid (∀ u, Kept X1 u → u.cell? ⟨px, 0, none⟩ = some (.bool a.neg) ∧ u.cell? ⟨px, 1, none⟩ = some (.slice (some ⟨ga, 0, none⟩) a.mag.length ka) ∧ u.cell? ⟨px, 2, none⟩ = some (.int .i64 a.exp)) := fun u k => laid3 px _ _ _ 24 hp (by rw [hX]; exact Kept.refl _) k
  have hgl : ga < X1.heap.size := hO1.lt
  rw [← hX, ← hp]
  clear hX hp hk1 hOa
  obtain ⟨c0, c1, c2⟩ := HB.out _ k1
  go_wp2_with fail
  refine (HLN2.out _ (k0.trans k1)).mono ?_
  rintro e w2 ⟨⟨gb, kb, rfl, hgb, hOb⟩, hk2⟩
  clear c0 c1 c2 HLN2
  go_upto_region 3 with fail
  obtain ⟨X2, hX⟩ : ∃ X, X = w2.alloc (.cells #[.bool b.neg, .slice (some ⟨gb, 0, none⟩) b.mag.length kb, .int .i64 b.exp] 24) := ⟨_, rfl⟩
  obtain ⟨py, hp⟩ : ∃ p, p = w2.heap.size := ⟨_, rfl⟩
  have k2 : Kept X1 X2 := by rw [hX]; exact hk2.alloc _ _
  have hO2 : Own X2 gb kb (b.mag ++ [-71, -72, -73]) := by rw [hX]; exact hOb.kept ((Kept.refl _).alloc _ _)
  have HY : Hid (∀ u, Kept X2 u → u.cell? ⟨py, 0, none⟩ = some (.bool b.neg) ∧ u.cell? ⟨py, 1, none⟩ = some (.slice (some ⟨gb, 0, none⟩) b.mag.length kb) ∧ u.cell? ⟨py, 2, none⟩ = some (.int .i64 b.exp)) := fun u k => laid3 py _ _ _ 24 hp (by rw [hX]; exact Kept.refl _) k
  rw [← hX, ← hp]
  clear hX hp hk2 hOb
  have hne : gb ≠ ga := by omega
  have hgb' : X0.heap.size ≤ gb := Nat.le_trans k1.below.size hgb
  have kw2 : Kept w X2 := k0.trans (k1.trans k2)
  obtain ⟨c0, c1, c2⟩ := HX.out _ k2
  go_wp2_with fail
  refine (HRD.out _ ga ka kw2 (hO1.kept k2)).mono ?_
  rintro e u3 ⟨rfl, k3⟩
  clear c0 c1 c2 HRD
  obtain ⟨c0, c1, c2⟩ := HX.out _ (k2.trans k3)
  obtain ⟨c3, c4, c5⟩ := HY.out _ k3
  go_wp2_with fail
  refine (HQT.out _ ga ka gb kb (kw2.trans k3) (hO1.kept (k2.trans k3)) (hO2.kept k3)).mono ?_
  rintro e u4 ⟨rfl, k4⟩
  clear c0 c1 c2 c3 c4 c5 HQT HY
  replace k3 := k3.trans k4
  clear k4
  obtain ⟨c0, c1, c2⟩ := HX.out _ (k2.trans k3)
  go_wp2_with fail
  refine (HRT.out _ ga ka (kw2.trans k3) (hO1.kept (k2.trans k3))).mono ?_
  rintro e u5 ⟨rfl, k5⟩
  clear c0 c1 c2 HRT HX
  replace k3 := k3.trans k5
  clear k5
  obtain ⟨c0, c1, c2⟩ := HA.out _ (k1.trans (k2.trans k3))
  obtain ⟨c3, c4, c5⟩ := HB.out _ (k1.trans (k2.trans k3))
  go_wp2_with fail
  refine (HBK1.out _ ga ka (kw2.trans k3) (hO1.kept (k2.trans k3))).mono ?_
  rintro e u6 ⟨rfl, g6⟩
  have k6 : Kept X0 u6 := (k1.trans (k2.trans k3)).grw hga g6
  have hO6 : Own u6 gb kb (b.mag ++ [-71, -72, -73]) := (hO2.kept k3).grw g6 hne
  clear c0 c1 c2 c3 c4 c5 HBK1
  obtain ⟨c3, c4, c5⟩ := HB.out _ k6
  go_wp2_with fail
  refine (HBK2.out _ gb kb (k0.trans k6) hO6).mono ?_
  rintro e u7 ⟨rfl, g7⟩
  have k7 : Kept X0 u7 := k6.grw hgb' g7
  clear c3 c4 c5 HBK2 k6 g6 g7 hO6 hO1 hO2 k3 kw2 hne hga hgb hgb' hgl k2 k1
  obtain ⟨c0, c1, c2⟩ := HA.out _ k7
  go_wp2_with fail
  refine (KV1.out _ (k0.trans k7)).mono ?_
  rintro e u8 ⟨rfl, k8⟩
  replace k8 := k7.trans k8
  clear c0 c1 c2 KV1 k7
  go_wp2_with fail
  refine (KF1.out _).mono ?_
  rintro e u9 ⟨rfl, k9⟩
  replace k9 := k8.trans k9
  clear KF1 k8
  go_upto_region 10 with fail
  go_cut [22, 24] from 75 (fun v0 v wx => v = .int .i64 f0 ∧ Kept X0 wx)
  case first =>
    obtain ⟨c3, c4, c5⟩ := HB.out _ k9
    cases hva : vld a with
    | false =>
      rw [hva] at KF0
      simp only [Bool.false_and] at KF0
      go_wp2_with fail
      refine (KF0.out _).mono ?_
      rintro e u10 ⟨rfl, k10⟩
      go_wp2_with fail
      go_meet
      case rel => exact ⟨rfl, k9.trans k10⟩
    | true =>
      rw [hva] at KF0
      simp only [Bool.true_and] at KF0
      go_wp2_with fail
      refine (KV2.out _ (k0.trans k9)).mono ?_
      rintro e u10 ⟨rfl, k10⟩
      clear c3 c4 c5
      go_wp2_with fail
      refine (KF0.out _).mono ?_
      rintro e u11 ⟨rfl, k11⟩
      go_wp2_with fail
      go_meet
      case rel => exact ⟨rfl, k9.trans (k10.trans k11)⟩
  case rest =>
  obtain ⟨hbv, hk⟩ := hcut
  obtain ⟨X3, hX3⟩ : ∃ X, X = wc := ⟨_, rfl⟩
  rw [← hX3] at hk ⊢
  clear hX3 k9 KV2 KF0
  subst hbv
  have hl0 : ((b.mag.length : Int) == 0) = decide (b.mag.length = 0) := by
    by_cases h : b.mag.length = 0
    · rw [h]; rfl
    · rw [decide_eq_false h]; simpa using h
  have HL0 : Hid (((b.mag.length : Int) == 0) = decide (b.mag.length = 0)) := hl0
  clear hl0
  generalize a.neg = ng at *
  by_cases h1 : f1 = 0
  · subst h1
    by_cases h0 : f0 = 0
    · subst h0
      by_cases hbz : b.mag.length = 0
      · have e2 := hf2'.out
        rw [if_pos ⟨rfl, hbz⟩] at e2
        subst e2
        have e5 := HL0.out
        rw [decide_eq_true hbz] at e5
        cases ng with
        | true =>
          have e3 := hf3'.out
          rw [if_pos ⟨rfl, rfl⟩] at e3
          subst e3
          obtain ⟨c0, c1, c2⟩ := HA.out _ hk
          obtain ⟨c3, c4, c5⟩ := HB.out _ hk
          go_wp2_with fail
          refine (KD1.out (by trivial) _ (k0.trans hk)).mono ?_
          rintro e v9 ⟨rfl, kv⟩
          replace hk := hk.trans kv
          clear c0 c1 c2 c3 c4 c5 kv
          obtain ⟨c0, c1, c2⟩ := HA.out _ hk
          obtain ⟨c3, c4, c5⟩ := HB.out _ hk
          go_wp2_with fail
          refine (KT1.out _ _ _ (fun _ => ⟨rfl, rfl⟩)).mono ?_
          rintro e v9 ⟨rfl, kv⟩
          replace hk := hk.trans kv
          clear c0 c1 c2 c3 c4 c5 kv
          obtain ⟨c0, c1, c2⟩ := HA.out _ hk
          obtain ⟨c3, c4, c5⟩ := HB.out _ hk
          go_wp2_with fail
          refine (KT2.out _ _ _ (fun h => absurd h (by first | assumption | decide))).mono ?_
          rintro e v9 ⟨rfl, kv⟩
          replace hk := hk.trans kv
          clear c0 c1 c2 c3 c4 c5 kv
          obtain ⟨c0, c1, c2⟩ := HA.out _ hk
          obtain ⟨c3, c4, c5⟩ := HB.out _ hk
          go_wp2_with fail
          refine (KT3.out _ _ _ (fun h => absurd h (by first | assumption | decide))).mono ?_
          rintro e v9 ⟨rfl, kv⟩
          replace hk := hk.trans kv
          clear c0 c1 c2 c3 c4 c5 kv
          obtain ⟨c0, c1, c2⟩ := HA.out _ hk
          obtain ⟨c3, c4, c5⟩ := HB.out _ hk
          go_wp2_with fail
          go_ret
          exact ⟨rfl, k0.trans hk⟩
        | false =>
          have e3 := hf3'.out
          rw [if_neg (fun g => absurd g.2 (by decide))] at e3
          subst e3
          obtain ⟨c0, c1, c2⟩ := HA.out _ hk
          obtain ⟨c3, c4, c5⟩ := HB.out _ hk
          go_wp2_with fail
          refine (KD1.out (by trivial) _ (k0.trans hk)).mono ?_
          rintro e v9 ⟨rfl, kv⟩
          replace hk := hk.trans kv
          clear c0 c1 c2 c3 c4 c5 kv
          obtain ⟨c0, c1, c2⟩ := HA.out _ hk
          obtain ⟨c3, c4, c5⟩ := HB.out _ hk
          go_wp2_with fail
          refine (KT1.out _ _ _ (fun _ => ⟨rfl, rfl⟩)).mono ?_
          rintro e v9 ⟨rfl, kv⟩
          replace hk := hk.trans kv
          clear c0 c1 c2 c3 c4 c5 kv
          obtain ⟨c0, c1, c2⟩ := HA.out _ hk
          obtain ⟨c3, c4, c5⟩ := HB.out _ hk
          go_wp2_with fail
          refine (KT2.out _ _ _ (fun h => absurd h (by first | assumption | decide))).mono ?_
          rintro e v9 ⟨rfl, kv⟩
          replace hk := hk.trans kv
          clear c0 c1 c2 c3 c4 c5 kv
          obtain ⟨c0, c1, c2⟩ := HA.out _ hk
          obtain ⟨c3, c4, c5⟩ := HB.out _ hk
          go_wp2_with fail
          refine (KD3.out (by trivial) _ (k0.trans hk)).mono ?_
          rintro e v9 ⟨rfl, kv⟩
          replace hk := hk.trans kv
          clear c0 c1 c2 c3 c4 c5 kv
          obtain ⟨c0, c1, c2⟩ := HA.out _ hk
          obtain ⟨c3, c4, c5⟩ := HB.out _ hk
          go_wp2_with fail
          refine (KT3.out _ _ _ (fun _ => ⟨rfl, rfl⟩)).mono ?_
          rintro e v9 ⟨rfl, kv⟩
          replace hk := hk.trans kv
          clear c0 c1 c2 c3 c4 c5 kv
          obtain ⟨c0, c1, c2⟩ := HA.out _ hk
          obtain ⟨c3, c4, c5⟩ := HB.out _ hk
          go_wp2_with fail
          go_ret
          exact ⟨rfl, k0.trans hk⟩
      · have e2 := hf2'.out
        rw [if_neg (fun g => hbz g.2)] at e2
        subst e2
        have e5 := HL0.out
        rw [decide_eq_false hbz] at e5
        cases ng with
        | true =>
          have e3 := hf3'.out
          rw [if_pos ⟨rfl, rfl⟩] at e3
          subst e3
          obtain ⟨c0, c1, c2⟩ := HA.out _ hk
          obtain ⟨c3, c4, c5⟩ := HB.out _ hk
          go_wp2_with fail
          refine (KD1.out (by trivial) _ (k0.trans hk)).mono ?_
          rintro e v9 ⟨rfl, kv⟩
          replace hk := hk.trans kv
          clear c0 c1 c2 c3 c4 c5 kv
          obtain ⟨c0, c1, c2⟩ := HA.out _ hk
          obtain ⟨c3, c4, c5⟩ := HB.out _ hk
          go_wp2_with fail
          refine (KT1.out _ _ _ (fun _ => ⟨rfl, rfl⟩)).mono ?_
          rintro e v9 ⟨rfl, kv⟩
          replace hk := hk.trans kv
          clear c0 c1 c2 c3 c4 c5 kv
          obtain ⟨c0, c1, c2⟩ := HA.out _ hk
          obtain ⟨c3, c4, c5⟩ := HB.out _ hk
          go_wp2_with fail
          refine (KD2.out (by trivial) _ (k0.trans hk)).mono ?_
          rintro e v9 ⟨rfl, kv⟩
          replace hk := hk.trans kv
          clear c0 c1 c2 c3 c4 c5 kv
          obtain ⟨c0, c1, c2⟩ := HA.out _ hk
          obtain ⟨c3, c4, c5⟩ := HB.out _ hk
          go_wp2_with fail
          refine (KT2.out _ _ _ (fun _ => ⟨rfl, rfl⟩)).mono ?_
          rintro e v9 ⟨rfl, kv⟩
          replace hk := hk.trans kv
          clear c0 c1 c2 c3 c4 c5 kv
          obtain ⟨c0, c1, c2⟩ := HA.out _ hk
          obtain ⟨c3, c4, c5⟩ := HB.out _ hk
          go_wp2_with fail
          refine (KT3.out _ _ _ (fun h => absurd h (by first | assumption | decide))).mono ?_
          rintro e v9 ⟨rfl, kv⟩
          replace hk := hk.trans kv
          clear c0 c1 c2 c3 c4 c5 kv
          obtain ⟨c0, c1, c2⟩ := HA.out _ hk
          obtain ⟨c3, c4, c5⟩ := HB.out _ hk
          go_wp2_with fail
          go_ret
          exact ⟨rfl, k0.trans hk⟩
        | false =>
          have e3 := hf3'.out
          rw [if_neg (fun g => absurd g.2 (by decide))] at e3
          subst e3
          obtain ⟨c0, c1, c2⟩ := HA.out _ hk
          obtain ⟨c3, c4, c5⟩ := HB.out _ hk
          go_wp2_with fail
          refine (KD1.out (by trivial) _ (k0.trans hk)).mono ?_
          rintro e v9 ⟨rfl, kv⟩
          replace hk := hk.trans kv
          clear c0 c1 c2 c3 c4 c5 kv
          obtain ⟨c0, c1, c2⟩ := HA.out _ hk
          obtain ⟨c3, c4, c5⟩ := HB.out _ hk
          go_wp2_with fail
          refine (KT1.out _ _ _ (fun _ => ⟨rfl, rfl⟩)).mono ?_
          rintro e v9 ⟨rfl, kv⟩
          replace hk := hk.trans kv
          clear c0 c1 c2 c3 c4 c5 kv
          obtain ⟨c0, c1, c2⟩ := HA.out _ hk
          obtain ⟨c3, c4, c5⟩ := HB.out _ hk
          go_wp2_with fail
          refine (KD2.out (by trivial) _ (k0.trans hk)).mono ?_
          rintro e v9 ⟨rfl, kv⟩
          replace hk := hk.trans kv
          clear c0 c1 c2 c3 c4 c5 kv
          obtain ⟨c0, c1, c2⟩ := HA.out _ hk
          obtain ⟨c3, c4, c5⟩ := HB.out _ hk
          go_wp2_with fail
          refine (KT2.out _ _ _ (fun _ => ⟨rfl, rfl⟩)).mono ?_
          rintro e v9 ⟨rfl, kv⟩
          replace hk := hk.trans kv
          clear c0 c1 c2 c3 c4 c5 kv
          obtain ⟨c0, c1, c2⟩ := HA.out _ hk
          obtain ⟨c3, c4, c5⟩ := HB.out _ hk
          go_wp2_with fail
          refine (KD3.out (by trivial) _ (k0.trans hk)).mono ?_
          rintro e v9 ⟨rfl, kv⟩
          replace hk := hk.trans kv
          clear c0 c1 c2 c3 c4 c5 kv
          obtain ⟨c0, c1, c2⟩ := HA.out _ hk
          obtain ⟨c3, c4, c5⟩ := HB.out _ hk
          go_wp2_with fail
          refine (KT3.out _ _ _ (fun _ => ⟨rfl, rfl⟩)).mono ?_
          rintro e v9 ⟨rfl, kv⟩
          replace hk := hk.trans kv
          clear c0 c1 c2 c3 c4 c5 kv
          obtain ⟨c0, c1, c2⟩ := HA.out _ hk
          obtain ⟨c3, c4, c5⟩ := HB.out _ hk
          go_wp2_with fail
          go_ret
          exact ⟨rfl, k0.trans hk⟩
    · have e2 := hf2'.out
      rw [if_neg (fun g => h0 g.1)] at e2
      subst e2
      have e4 : (f2 == 0) = false := by simpa using h0
      cases ng with
      | true =>
        have e3 := hf3'.out
        rw [if_pos ⟨rfl, rfl⟩] at e3
        subst e3
        obtain ⟨c0, c1, c2⟩ := HA.out _ hk
        obtain ⟨c3, c4, c5⟩ := HB.out _ hk
        go_wp2_with fail
        refine (KD1.out (by trivial) _ (k0.trans hk)).mono ?_
        rintro e v9 ⟨rfl, kv⟩
        replace hk := hk.trans kv
        clear c0 c1 c2 c3 c4 c5 kv
        obtain ⟨c0, c1, c2⟩ := HA.out _ hk
        obtain ⟨c3, c4, c5⟩ := HB.out _ hk
        go_wp2_with fail
        refine (KT1.out _ _ _ (fun _ => ⟨rfl, rfl⟩)).mono ?_
        rintro e v9 ⟨rfl, kv⟩
        replace hk := hk.trans kv
        clear c0 c1 c2 c3 c4 c5 kv
        obtain ⟨c0, c1, c2⟩ := HA.out _ hk
        obtain ⟨c3, c4, c5⟩ := HB.out _ hk
        go_wp2_with fail
        refine (KT2.out _ _ _ (fun h => absurd h (by first | assumption | decide))).mono ?_
        rintro e v9 ⟨rfl, kv⟩
        replace hk := hk.trans kv
        clear c0 c1 c2 c3 c4 c5 kv
        obtain ⟨c0, c1, c2⟩ := HA.out _ hk
        obtain ⟨c3, c4, c5⟩ := HB.out _ hk
        go_wp2_with fail
        refine (KT3.out _ _ _ (fun h => absurd h (by first | assumption | decide))).mono ?_
        rintro e v9 ⟨rfl, kv⟩
        replace hk := hk.trans kv
        clear c0 c1 c2 c3 c4 c5 kv
        obtain ⟨c0, c1, c2⟩ := HA.out _ hk
        obtain ⟨c3, c4, c5⟩ := HB.out _ hk
        go_wp2_with fail
        go_ret
        exact ⟨rfl, k0.trans hk⟩
      | false =>
        have e3 := hf3'.out
        rw [if_neg (fun g => absurd g.2 (by decide))] at e3
        subst e3
        obtain ⟨c0, c1, c2⟩ := HA.out _ hk
        obtain ⟨c3, c4, c5⟩ := HB.out _ hk
        go_wp2_with fail
        refine (KD1.out (by trivial) _ (k0.trans hk)).mono ?_
        rintro e v9 ⟨rfl, kv⟩
        replace hk := hk.trans kv
        clear c0 c1 c2 c3 c4 c5 kv
        obtain ⟨c0, c1, c2⟩ := HA.out _ hk
        obtain ⟨c3, c4, c5⟩ := HB.out _ hk
        go_wp2_with fail
        refine (KT1.out _ _ _ (fun _ => ⟨rfl, rfl⟩)).mono ?_
        rintro e v9 ⟨rfl, kv⟩
        replace hk := hk.trans kv
        clear c0 c1 c2 c3 c4 c5 kv
        obtain ⟨c0, c1, c2⟩ := HA.out _ hk
        obtain ⟨c3, c4, c5⟩ := HB.out _ hk
        go_wp2_with fail
        refine (KT2.out _ _ _ (fun h => absurd h (by first | assumption | decide))).mono ?_
        rintro e v9 ⟨rfl, kv⟩
        replace hk := hk.trans kv
        clear c0 c1 c2 c3 c4 c5 kv
        obtain ⟨c0, c1, c2⟩ := HA.out _ hk
        obtain ⟨c3, c4, c5⟩ := HB.out _ hk
        go_wp2_with fail
        refine (KD3.out (by trivial) _ (k0.trans hk)).mono ?_
        rintro e v9 ⟨rfl, kv⟩
        replace hk := hk.trans kv
        clear c0 c1 c2 c3 c4 c5 kv
        obtain ⟨c0, c1, c2⟩ := HA.out _ hk
        obtain ⟨c3, c4, c5⟩ := HB.out _ hk
        go_wp2_with fail
        refine (KT3.out _ _ _ (fun _ => ⟨rfl, rfl⟩)).mono ?_
        rintro e v9 ⟨rfl, kv⟩
        replace hk := hk.trans kv
        clear c0 c1 c2 c3 c4 c5 kv
        obtain ⟨c0, c1, c2⟩ := HA.out _ hk
        obtain ⟨c3, c4, c5⟩ := HB.out _ hk
        go_wp2_with fail
        go_ret
        exact ⟨rfl, k0.trans hk⟩
  · have h0 := h10.out h1
    have e2 := hf2'.out
    rw [if_neg (fun g => h0 g.1)] at e2
    subst e2
    have e3 := hf3'.out
    rw [if_neg (fun g => h1 g.1)] at e3
    subst e3
    have e4 : (f2 == 0) = false := by simpa using h0
    have e5 : (f3 == 0) = false := by simpa using h1
    obtain ⟨c0, c1, c2⟩ := HA.out _ hk
    obtain ⟨c3, c4, c5⟩ := HB.out _ hk
    go_wp2_with fail
    refine (KT1.out _ _ _ (fun h => absurd h (by first | assumption | decide))).mono ?_
    rintro e v9 ⟨rfl, kv⟩
    replace hk := hk.trans kv
    clear c0 c1 c2 c3 c4 c5 kv
    obtain ⟨c0, c1, c2⟩ := HA.out _ hk
    obtain ⟨c3, c4, c5⟩ := HB.out _ hk
    go_wp2_with fail
    refine (KT2.out _ _ _ (fun h => absurd h (by first | assumption | decide))).mono ?_
    rintro e v9 ⟨rfl, kv⟩
    replace hk := hk.trans kv
    clear c0 c1 c2 c3 c4 c5 kv
    obtain ⟨c0, c1, c2⟩ := HA.out _ hk
    obtain ⟨c3, c4, c5⟩ := HB.out _ hk
    go_wp2_with fail
    refine (KT3.out _ _ _ (fun h => absurd h (by first | assumption | decide))).mono ?_
    rintro e v9 ⟨rfl, kv⟩
    replace hk := hk.trans kv
    clear c0 c1 c2 c3 c4 c5 kv
    obtain ⟨c0, c1, c2⟩ := HA.out _ hk
    obtain ⟨c3, c4, c5⟩ := HB.out _ hk
    go_wp2_with fail
    go_ret
    exact ⟨rfl, k0.trans hk⟩
end Go.Proofs.YtbffekcjdcihpaaDoor

namespace Go.Proofs.YtbffekcjdcihpaaDoor
open Go.ChangeShapes Go.WideShapes Go.ChangeAt Go.RowKit
set_option linter.unusedVariables false
set_option linter.unusedSimpArgs false

set_option maxHeartbeats 1000000 in
set_option maxRecDepth 100000 in
theorem rounds_law (n way : Int) (a b : Nm) (ra : Rg a.mag) (rb : Rg b.mag) (q1 q2 : Option Addr) (d1 d2 : Nat) (hc1 : q1 = none → d1 = 0) (hc2 : q2 = none → d2 = 0) (w : World) (hT : Tab w) (hr1 : Sl w (.slice q1 a.mag.length d1) a.mag) (hr2 : Sl w (.slice q2 b.mag.length d2) b.mag) :
    Calls Tryd.prog 3 #[.agg #[.bool a.neg, .slice q1 a.mag.length d1, .int .i64 a.exp], .agg #[.bool b.neg, .slice q2 b.mag.length d2, .int .i64 b.exp], .int .i64 n, .int .i64 way] w fun e w' => e = .returned (.bool true) ∧ Kept w w' := by
  have KA : Hid (∀ u, Kept w u → Calls Tryd.prog 4 #[] u fun e w' => e = .returned (.bool true) ∧ Kept u w') := fun u k => alive_true u (hT.kept k)
  have KR1 : Hid (a.mag.length ≤ 300 → b.mag.length ≤ 300 → ∀ u, Kept w u → Calls Tryd.prog 5 #[.agg #[.bool a.neg, .slice q1 a.mag.length d1, .int .i64 a.exp], .agg #[.bool b.neg, .slice q2 b.mag.length d2, .int .i64 b.exp], .int .i64 n, .int .i64 way] u fun e w' => e = .returned (.bool true) ∧ Kept u w') := fun la lb u k => rounds_true n way a b ra rb la lb q1 q2 d1 d2 hc1 hc2 u (hT.kept k) (hr1.kept k) (hr2.kept k)
  have KR2 : Hid (a.mag.length ≤ 300 → b.mag.length ≤ 300 → ∀ u, Kept w u → Calls Tryd.prog 5 #[.agg #[.bool b.neg, .slice q2 b.mag.length d2, .int .i64 b.exp], .agg #[.bool a.neg, .slice q1 a.mag.length d1, .int .i64 a.exp], .int .i64 n, .int .i64 way] u fun e w' => e = .returned (.bool true) ∧ Kept u w') := fun la lb u k => rounds_true n way b a rb ra lb la q2 q1 d2 d1 hc2 hc1 u (hT.kept k) (hr2.kept k) (hr1.kept k)
  clear ra rb hr1 hr2 hc1 hc2 hT
  obtain ⟨X0, hX⟩ : ∃ X, X = ((w.alloc (.cells #[.bool a.neg, .slice q1 a.mag.length d1, .int .i64 a.exp] 24)).alloc (.cells #[.bool b.neg, .slice q2 b.mag.length d2, .int .i64 b.exp] 24)) := ⟨_, rfl⟩
  have k0 : Kept w X0 := by rw [hX]; exact ((Kept.refl w).alloc _ _).alloc _ _
  have HA : Hid (∀ u, Kept X0 u → u.cell? ⟨w.heap.size, 0, none⟩ = some (.bool a.neg) ∧ u.cell? ⟨w.heap.size, 1, none⟩ = some (.slice q1 a.mag.length d1) ∧ u.cell? ⟨w.heap.size, 2, none⟩ = some (.int .i64 a.exp)) := fun u k => laid3 w.heap.size _ _ _ 24 rfl (by rw [hX]; exact (Kept.refl _).alloc _ _) k
  have HB : Hid (∀ u, Kept X0 u → u.cell? ⟨w.heap.size + 1, 0, none⟩ = some (.bool b.neg) ∧ u.cell? ⟨w.heap.size + 1, 1, none⟩ = some (.slice q2 b.mag.length d2) ∧ u.cell? ⟨w.heap.size + 1, 2, none⟩ = some (.int .i64 b.exp)) := fun u k => laid3 (w := w.alloc (.cells #[.bool a.neg, .slice q1 a.mag.length d1, .int .i64 a.exp] 24)) (w.heap.size + 1) _ _ _ 24 (by simp) (by rw [hX]; exact Kept.refl _) k
  obtain ⟨c0, c1, c2⟩ := HA.out _ (Kept.refl _)
  obtain ⟨c3, c4, c5⟩ := HB.out _ (Kept.refl _)
  by_cases h1 : 300 < a.mag.length
  · have e1 : decide (300 < a.mag.length) = true := decide_eq_true h1
    have e2 : decide ((300 : Int) < (a.mag.length : Int)) = true := decide_eq_true (by omega)
    clear h1
    go_enter Tryd.func3, Tryd.ntmps3
    go_upto_region 1 with fail
    rw [← hX]
    clear hX
    go_wp2_with fail
    refine (KA.out _ k0).mono ?_
    rintro e u1 ⟨rfl, k1⟩
    go_wp2_with fail
    go_ret
    exact ⟨rfl, k0.trans k1⟩
  · have e1 : decide (300 < a.mag.length) = false := decide_eq_false h1
    have e2 : decide ((300 : Int) < (a.mag.length : Int)) = false := decide_eq_false (by omega)
    by_cases h2 : 300 < b.mag.length
    · have e3 : decide (300 < b.mag.length) = true := decide_eq_true h2
      have e4 : decide ((300 : Int) < (b.mag.length : Int)) = true := decide_eq_true (by omega)
      clear h1 h2
      go_enter Tryd.func3, Tryd.ntmps3
      go_upto_region 1 with fail
      rw [← hX]
      clear hX
      go_wp2_with fail
      refine (KA.out _ k0).mono ?_
      rintro e u1 ⟨rfl, k1⟩
      go_wp2_with fail
      go_ret
      exact ⟨rfl, k0.trans k1⟩
    · have e3 : decide (300 < b.mag.length) = false := decide_eq_false h2
      have e4 : decide ((300 : Int) < (b.mag.length : Int)) = false := decide_eq_false (by omega)
      have K1 : Hid (∀ u, Kept w u → Calls Tryd.prog 5 #[.agg #[.bool a.neg, .slice q1 a.mag.length d1, .int .i64 a.exp], .agg #[.bool b.neg, .slice q2 b.mag.length d2, .int .i64 b.exp], .int .i64 n, .int .i64 way] u fun e w' => e = .returned (.bool true) ∧ Kept u w') := KR1.out (by omega) (by omega)
      have K2 : Hid (∀ u, Kept w u → Calls Tryd.prog 5 #[.agg #[.bool b.neg, .slice q2 b.mag.length d2, .int .i64 b.exp], .agg #[.bool a.neg, .slice q1 a.mag.length d1, .int .i64 a.exp], .int .i64 n, .int .i64 way] u fun e w' => e = .returned (.bool true) ∧ Kept u w') := KR2.out (by omega) (by omega)
      clear h1 h2 KR1 KR2
      go_enter Tryd.func3, Tryd.ntmps3
      go_upto_region 1 with fail
      rw [← hX]
      clear hX
      go_wp2_with fail
      refine (KA.out _ k0).mono ?_
      rintro e u1 ⟨rfl, k1⟩
      clear c0 c1 c2 c3 c4 c5
      obtain ⟨c0, c1, c2⟩ := HA.out _ k1
      obtain ⟨c3, c4, c5⟩ := HB.out _ k1
      go_wp2_with fail
      refine (K1.out _ (k0.trans k1)).mono ?_
      rintro e u2 ⟨rfl, k2⟩
      clear c0 c1 c2 c3 c4 c5
      replace k2 := k1.trans k2
      obtain ⟨c0, c1, c2⟩ := HA.out _ k2
      obtain ⟨c3, c4, c5⟩ := HB.out _ k2
      go_wp2_with fail
      refine (K2.out _ (k0.trans k2)).mono ?_
      rintro e u3 ⟨rfl, k3⟩
      go_wp2_with fail
      go_ret
      exact ⟨rfl, k0.trans (k2.trans k3)⟩
theorem exactRounds_true (w : World) (hT : Tab w) (n1 : Bool) (L1 : List Int) (x1 : Int) (a1 : Option Addr) (c1 : Nat) (hc1 : a1 = none → c1 = 0) (r1 : Rg L1) (h1 : Sl w (.slice a1 L1.length c1) L1) (n2 : Bool) (L2 : List Int) (x2 : Int) (a2 : Option Addr) (c2 : Nat) (hc2 : a2 = none → c2 = 0) (r2 : Rg L2) (h2 : Sl w (.slice a2 L2.length c2) L2) (n way : Int) :
    Calls Tryd.prog 3 #[.agg #[.bool n1, .slice a1 L1.length c1, .int .i64 x1], .agg #[.bool n2, .slice a2 L2.length c2, .int .i64 x2], .int .i64 n, .int .i64 way] w fun e w' => e = .returned (.bool true) ∧ Kept w w' :=
  rounds_law n way ⟨n1, L1, x1⟩ ⟨n2, L2, x2⟩ r1 r2 a1 a2 c1 c2 hc1 hc2 w hT h1 h2
end Go.Proofs.YtbffekcjdcihpaaDoor

namespace Go.Proofs.YtbffekcjdcihpaaDoor
open Go.ChangeShapes Go.WideShapes Go.ChangeAt Go.RowKit Go.Joins
set_option linter.unusedVariables false

theorem laid_out : laidOutB Tryd.prog = true := by kernel_rfl
theorem cells_num : Tryd.prog.cellsOf 24 = 3 := by kernel_rfl
theorem cells_int : Tryd.prog.cellsOf 3 = 1 := by kernel_rfl
theorem wf_rng (n : Int) (h : (Lit.int .i64 n).wf = true) : -9223372036854775808 ≤ n ∧ n ≤ 9223372036854775807 := by
  have e1 : IntKind.i64.min = -9223372036854775808 := rfl
  have e2 : IntKind.i64.max = 9223372036854775807 := rfl
  simp [Lit.wf] at h
  omega

section
variable {H : Type} {enc : TypeId × Value → H} {W : World}

theorem open_lst {fuel : Nat} {cs : List Value} {x : DataW H × List MemPlace} (h : DataW.trod enc Tryd.prog W 0 (fun _ => true) true fuel 22 cs = some x) :
    ∃ (L : List Int) (ar : Option Addr) (cr : Nat), cs = [.slice ar L.length cr] ∧ (ar = none → cr = 0) ∧ Rg L ∧ Sl W (.slice ar L.length cr) L := by
  rcases open_ints Tryd.underlying22 Tryd.underlying3 cells_int h with ⟨rfl, -⟩ | ⟨a, len, cap, zs, rfl, -, hl, hm, hz, -, hcell, hwf⟩
  · exact ⟨[], none, 0, rfl, fun _ => rfl, fun d hd => (by cases hd), none, 0, rfl, Nat.le_refl _, by simp [maxLen], fun h => absurd rfl h⟩
  · have hlen : (zs.take len).length = len := by
      rw [List.length_take, hz]
      simp
      omega
    refine ⟨zs.take len, some a, cap, by rw [hlen], fun h => (by cases h), fun d hd => wf_rng d (hwf d (List.mem_of_mem_take hd)), some a, cap, by rw [hlen], by rw [hlen]; exact hl, hm, fun hne => ?_⟩
    have hpos : 0 < len := by
      rcases Nat.eq_zero_or_pos len with h0 | h0
      · subst h0; simp at hne
      · exact h0
    have hzl : len ≤ zs.length := by rw [hz]; simp; omega
    have h0 := hcell 0 (by omega)
    have hs := World.cell?_spot h0
    have hb := World.block_lt_of_cell? W _ h0
    obtain ⟨ab, ao, asp⟩ := a
    simp [Addr.add] at hs hb
    subst hs
    refine ⟨ab, ao, rfl, hb, fun i hi => ?_⟩
    rw [hlen] at hi
    have := hcell i (by omega)
    rw [Addr.add_lit] at this
    rw [this, List.getD_eq_getElem?_getD, List.getD_eq_getElem?_getD, List.getElem?_take, if_pos hi]

set_option maxRecDepth 100000 in
theorem open_num {b0 : Nat} {v : Value} {d : DataW H} {p : List MemPlace} (hv : Value.okWide Tryd.prog W .any b0 24 v) (h : DataW.Trod enc Tryd.prog W 0 (fun _ => true) true 24 v d p) :
    ∃ (ng : Bool) (L : List Int) (x : Int) (ar : Option Addr) (cr : Nat), v = .agg #[.bool ng, .slice ar L.length cr, .int .i64 x] ∧ (ar = none → cr = 0) ∧ Rg L ∧ Sl W (.slice ar L.length cr) L ∧ (Lit.int .i64 x).wf = true := by
  obtain ⟨v0, v1, v2, y0, y1, y2, n, rfl, -, -, h0, h1, h2⟩ := open_agg3 Tryd.underlying24 (by kernel_rfl) cells_num hv h
  obtain ⟨ng, e0, -⟩ := DataW.trod_bool Tryd.underlying4 h0
  obtain ⟨L, ar, cr, e1, hc, hR, hS⟩ := open_lst h1
  obtain ⟨x, e2, -, wx⟩ := DataW.trod_int Tryd.underlying3 h2
  simp only [List.cons.injEq, and_true] at e0 e1 e2
  subst e0 e1 e2
  exact ⟨ng, L, x, ar, cr, rfl, hc, hR, hS, wx⟩

theorem trodAll_stays {W' : World} {sp : Nat → Bool} : ∀ {ts : List TypeId} {vs : List Value} {ds : List (DataW H)} {p : List MemPlace}, (∀ t ∈ ts, Tryd.prog.readableRec t = true ∧ t < Tryd.prog.types.size) → DataW.TrodAll enc Tryd.prog W 0 (fun _ => true) true ts vs ds p → (∀ x ∈ p, W.sameAt W' x) → (∀ x ∈ p, sp x.block = true) → DataW.TrodAll enc Tryd.prog W' 0 sp true ts vs ds p
  | [], _, _, _, _, h, _, _ => by
    obtain ⟨rfl, rfl, rfl⟩ := trodAll_nil h
    exact trodAll_mk0
  | t :: ts, _, _, _, hr, h, hs, hp => by
    obtain ⟨v, vs1, d, ds1, a, b, rfl, rfl, rfl, h1, h2⟩ := trodAll_cons h
    obtain ⟨r1, r2⟩ := hr t (by simp)
    exact trodAll_cons_mk (WideElems.Trod_stays laid_out r1 r2 h1 (fun x hx => hs x (by simp [hx])) (fun x hx => hp x (by simp [hx]))) (trodAll_stays (fun t' ht' => hr t' (by simp [ht'])) h2 (fun x hx => hs x (by simp [hx])) (fun x hx => hp x (by simp [hx])))
end
end Go.Proofs.YtbffekcjdcihpaaDoor
