/- The laws' rounds: Round, Quot, Root of two numbers, every width, every way. -/
import Derived.Test.YtbffekcjdcihpaaGreatDoorPau
import Derived.Test.YtbffekcjdcihpaaGreatDoorPae
import Derived.Test.YtbffekcjdcihpaaGreatDoorPag
import Derived.Test.YtbffekcjdcihpaaGreatDoorQ9
namespace Go.Proofs.YtbffekcjdcihpaaGreatDoor
open Go.ChangeShapes Go.WideShapes Go.ChangeAt Go.RowKit
set_option linter.unusedVariables false
set_option linter.unusedSimpArgs false
set_option maxHeartbeats 16000000
set_option maxRecDepth 100000
theorem fe_a (n way : Int) (x y : Bool) (h : FE n way x ≠ 0) : FE n way (x && y) ≠ 0 := by
 intro g
 obtain ⟨hn, hw, hv⟩ := fe_ok g
 obtain ⟨ha, hb⟩ := (Bool.and_eq_true_iff).1 hv
 apply h
 unfold FE
 rw [if_pos hn, if_neg (by omega), if_pos ha]
theorem laid3c {w X u : World} (B : Nat) (v0 v1 v2 : Value) (t : TypeId) (hB : B = w.heap.size) (hX : Kept (w.alloc (.cells #[v0, v1, v2] t)) X) (k : Kept X u) : u.cell? ⟨B, 0, none⟩ = some v0 ∧ u.cell? ⟨B, 1, none⟩ = some v1 ∧ u.cell? ⟨B, 2, none⟩ = some v2 := by
 subst hB
 have kk := hX.trans k
 have hb : w.heap.size < (w.alloc (.cells #[v0, v1, v2] t)).heap.size := by simp
 exact ⟨(kk.below.cell (p := ⟨w.heap.size, 0, none⟩) hb).trans (by simp [go_sem]), (kk.below.cell (p := ⟨w.heap.size, 1, none⟩) hb).trans (by simp [go_sem]), (kk.below.cell (p := ⟨w.heap.size, 2, none⟩) hb).trans (by simp [go_sem])⟩
theorem rounds_true (n way : Int) (a b : Nm) (ra : Rg a.mag) (rb : Rg b.mag) (la : a.mag.length ≤ 300) (lb : b.mag.length ≤ 300) (q1 q2 : Option Addr) (d1 d2 : Nat) (hc1 : q1 = none → d1 = 0) (hc2 : q2 = none → d2 = 0) (w : World) (hT : Tab w) (hr1 : Sl w (.slice q1 a.mag.length d1) a.mag) (hr2 : Sl w (.slice q2 b.mag.length d2) b.mag) :
  Calls Tryz.prog 8 #[.agg #[.bool a.neg, .slice q1 a.mag.length d1, .int .i64 a.exp], .agg #[.bool b.neg, .slice q2 b.mag.length d2, .int .i64 b.exp], .int .i64 n, .int .i64 way] w fun e w' => e = .returned (.bool true) ∧ Kept w w' := by
 obtain ⟨f1, hf1⟩ : ∃ f, f = FE n way (vld a) := ⟨_, rfl⟩
 obtain ⟨f0, hf0⟩ : ∃ f, f = FE n way (vld a && vld b) := ⟨_, rfl⟩
 obtain ⟨f2, hf2⟩ : ∃ f, f = QE n way a b := ⟨_, rfl⟩
 obtain ⟨f3, hf3⟩ : ∃ f, f = RE n way a := ⟨_, rfl⟩
 obtain ⟨rq, ro, hRp, hRn, hRd⟩ := round_full n way a ra (by omega) f1 hf1
 obtain ⟨qq, qo, hQp, hQn, hQd⟩ := quot_full n way a b ra rb (by omega) (by omega) f2 hf2
 obtain ⟨tq, tz, hTp, hTn, hTd⟩ := root_full n way a ra (by omega) f3 hf3
 have h10 : Hid (f1 ≠ 0 → f0 ≠ 0) := fun h => by rw [hf0]; exact fe_a n way _ _ (by rw [← hf1]; exact h)
 have hf2' : Hid (f2 = if f0 = 0 ∧ b.mag.length = 0 then 8 else f0) := by rw [hf2, hf0]; rfl
 have hf3' : Hid (f3 = if f1 = 0 ∧ a.neg = true then 9 else f1) := by rw [hf3, hf1]; rfl
 have HT : ∀ u, Kept w u → Tab u := fun u k => hT.kept k
 have HSl : ∀ (L : List Int) (u : World) (g cap : Nat), Own u g cap (L ++ [-71, -72, -73]) → Sl u (.slice (some ⟨g, 0, none⟩) L.length cap) L := fun L u g cap ho => by
  have hs := ho.slTake L.length (by simp)
  rwa [List.take_left' rfl] at hs
 have HRD : Hid (∀ (u : World) (g c : Nat), Kept w u → Own u g c (a.mag ++ [-71, -72, -73]) → Calls Tryz.prog 40 #[.agg #[.bool a.neg, .slice (some ⟨g, 0, none⟩) a.mag.length c, .int .i64 a.exp], .int .i64 n, .int .i64 way] u fun e w' => e = .returned (.tuple #[.int .i64 rq, .bool ro, .int .i64 f1]) ∧ Kept u w') := fun u g c k ho => hRp _ c u (HT u k) (HSl _ u g c ho)
 have HQT : Hid (∀ (u : World) (g c g' c' : Nat), Kept w u → Own u g c (a.mag ++ [-71, -72, -73]) → Own u g' c' (b.mag ++ [-71, -72, -73]) → Calls Tryz.prog 41 #[.agg #[.bool a.neg, .slice (some ⟨g, 0, none⟩) a.mag.length c, .int .i64 a.exp], .agg #[.bool b.neg, .slice (some ⟨g', 0, none⟩) b.mag.length c', .int .i64 b.exp], .int .i64 n, .int .i64 way] u fun e w' => e = .returned (.tuple #[.int .i64 qq, .bool qo, .int .i64 f2]) ∧ Kept u w') := fun u g c g' c' k ho ho' => hQp _ _ c c' u (HT u k) (HSl _ u g c ho) (HSl _ u g' c' ho')
 have HRT : Hid (∀ (u : World) (g c : Nat), Kept w u → Own u g c (a.mag ++ [-71, -72, -73]) → Calls Tryz.prog 42 #[.agg #[.bool a.neg, .slice (some ⟨g, 0, none⟩) a.mag.length c, .int .i64 a.exp], .int .i64 n, .int .i64 way] u fun e w' => e = .returned (.tuple #[.int .i64 tq, .bool tz, .int .i64 f3]) ∧ Kept u w') := fun u g c k ho => hTp _ c u (HT u k) (HSl _ u g c ho)
 have HLN1 : Hid (∀ u, Kept w u → Calls Tryz.prog 24 #[.agg #[.bool a.neg, .slice q1 a.mag.length d1, .int .i64 a.exp]] u fun e w' => (∃ g cap, e = .returned (.tuple #[.slice (some ⟨g, 0, none⟩) (a.mag.length + 3) cap, .agg #[.bool a.neg, .slice (some ⟨g, 0, none⟩) a.mag.length cap, .int .i64 a.exp]]) ∧ u.heap.size ≤ g ∧ Own w' g cap (a.mag ++ [-71, -72, -73])) ∧ Kept u w') := fun u k => lentNum_any a.neg a.exp a.mag (by omega) q1 d1 u (hr1.kept k)
 have HLN2 : Hid (∀ u, Kept w u → Calls Tryz.prog 24 #[.agg #[.bool b.neg, .slice q2 b.mag.length d2, .int .i64 b.exp]] u fun e w' => (∃ g cap, e = .returned (.tuple #[.slice (some ⟨g, 0, none⟩) (b.mag.length + 3) cap, .agg #[.bool b.neg, .slice (some ⟨g, 0, none⟩) b.mag.length cap, .int .i64 b.exp]]) ∧ u.heap.size ≤ g ∧ Own w' g cap (b.mag ++ [-71, -72, -73])) ∧ Kept u w') := fun u k => lentNum_any b.neg b.exp b.mag (by omega) q2 d2 u (hr2.kept k)
 have HBK1 : Hid (∀ (u : World) (g cap : Nat), Kept w u → Own u g cap (a.mag ++ [-71, -72, -73]) → Calls Tryz.prog 15 #[.slice (some ⟨g, 0, none⟩) (a.mag.length + 3) cap, .slice q1 a.mag.length d1] u fun e w' => e = .returned (.bool true) ∧ Grw g u w') := fun u g cap k ho => back_any a.mag (by omega) _ g cap u (hr1.kept k) ho
 have HBK2 : Hid (∀ (u : World) (g cap : Nat), Kept w u → Own u g cap (b.mag ++ [-71, -72, -73]) → Calls Tryz.prog 15 #[.slice (some ⟨g, 0, none⟩) (b.mag.length + 3) cap, .slice q2 b.mag.length d2] u fun e w' => e = .returned (.bool true) ∧ Grw g u w') := fun u g cap k ho => back_any b.mag (by omega) _ g cap u (hr2.kept k) ho
 have KV1 : Hid (∀ u, Kept w u → Calls Tryz.prog 11 #[.agg #[.bool a.neg, .slice q1 a.mag.length d1, .int .i64 a.exp]] u fun e w' => e = .returned (.bool (vld a)) ∧ Kept u w') := fun u k => rvalid2_any a ra (by omega) _ u ⟨_, rfl, hr1.kept k⟩
 have KV2 : Hid (∀ u, Kept w u → Calls Tryz.prog 11 #[.agg #[.bool b.neg, .slice q2 b.mag.length d2, .int .i64 b.exp]] u fun e w' => e = .returned (.bool (vld b)) ∧ Kept u w') := fun u k => rvalid2_any b rb (by omega) _ u ⟨_, rfl, hr2.kept k⟩
 have KF1 : Hid (∀ u, Calls Tryz.prog 43 #[.int .i64 n, .int .i64 way, .bool (vld a)] u fun e w' => e = .returned (.int .i64 f1) ∧ Kept u w') := fun u => by rw [hf1]; exact rfirst_any n way _ u
 have KF0 : Hid (∀ u, Calls Tryz.prog 43 #[.int .i64 n, .int .i64 way, .bool (vld a && vld b)] u fun e w' => e = .returned (.int .i64 f0) ∧ Kept u w') := fun u => by rw [hf0]; exact rfirst_any n way _ u
 have KD1 : Hid (f1 = 0 → ∀ u, Kept w u → Calls Tryz.prog 44 #[.agg #[.bool a.neg, .slice q1 a.mag.length d1, .int .i64 a.exp], .int .i64 n, .int .i64 way] u fun e w' => e = .returned (.tuple #[.int .i64 rq, .bool ro]) ∧ Kept u w') := fun h u k => hRd h q1 d1 u hc1 (hr1.kept k)
 have KD2 : Hid (f2 = 0 → ∀ u, Kept w u → Calls Tryz.prog 46 #[.agg #[.bool a.neg, .slice q1 a.mag.length d1, .int .i64 a.exp], .agg #[.bool b.neg, .slice q2 b.mag.length d2, .int .i64 b.exp], .int .i64 n, .int .i64 way] u fun e w' => e = .returned (.tuple #[.int .i64 qq, .bool qo]) ∧ Kept u w') := fun h u k => hQd h q1 q2 d1 d2 u hc1 hc2 (hr1.kept k) (hr2.kept k)
 have KD3 : Hid (f3 = 0 → ∀ u, Kept w u → Calls Tryz.prog 47 #[.agg #[.bool a.neg, .slice q1 a.mag.length d1, .int .i64 a.exp], .int .i64 n, .int .i64 way] u fun e w' => e = .returned (.tuple #[.int .i64 tq, .bool tz]) ∧ Kept u w') := fun h u k => hTd h q1 d1 u hc1 (hr1.kept k)
 have KT1 : Hid (∀ u x (y : Bool), (f1 = 0 → x = rq ∧ y = ro) → Calls Tryz.prog 45 #[.int .i64 rq, .bool ro, .int .i64 f1, .int .i64 f1, .int .i64 x, .bool y] u fun e w' => e = .returned (.bool true) ∧ Kept u w') := fun u x y h => told_true rq ro f1 x y hRn h u
 have KT2 : Hid (∀ u x (y : Bool), (f2 = 0 → x = qq ∧ y = qo) → Calls Tryz.prog 45 #[.int .i64 qq, .bool qo, .int .i64 f2, .int .i64 f2, .int .i64 x, .bool y] u fun e w' => e = .returned (.bool true) ∧ Kept u w') := fun u x y h => told_true qq qo f2 x y hQn h u
 have KT3 : Hid (∀ u x (y : Bool), (f3 = 0 → x = tq ∧ y = tz) → Calls Tryz.prog 45 #[.int .i64 tq, .bool tz, .int .i64 f3, .int .i64 f3, .int .i64 x, .bool y] u fun e w' => e = .returned (.bool true) ∧ Kept u w') := fun u x y h => told_true tq tz f3 x y hTn h u
 clear hf0 hf1 hf2 hf3 hRp hRn hRd hQp hQn hQd hTp hTn hTd HT HSl hT hr1 hr2 hc1 hc2 ra rb
 obtain ⟨X0, hX⟩ : ∃ X, X = ((w.alloc (.cells #[.bool a.neg, .slice q1 a.mag.length d1, .int .i64 a.exp] 29)).alloc (.cells #[.bool b.neg, .slice q2 b.mag.length d2, .int .i64 b.exp] 29)) := ⟨_, rfl⟩
 have k0 : Kept w X0 := by rw [hX]; exact ((Kept.refl w).alloc _ _).alloc _ _
 have HA : Hid (∀ u, Kept X0 u → u.cell? ⟨w.heap.size, 0, none⟩ = some (.bool a.neg) ∧ u.cell? ⟨w.heap.size, 1, none⟩ = some (.slice q1 a.mag.length d1) ∧ u.cell? ⟨w.heap.size, 2, none⟩ = some (.int .i64 a.exp)) := fun u k => laid3c w.heap.size _ _ _ 29 rfl (by rw [hX]; exact (Kept.refl _).alloc _ _) k
 have HB : Hid (∀ u, Kept X0 u → u.cell? ⟨w.heap.size + 1, 0, none⟩ = some (.bool b.neg) ∧ u.cell? ⟨w.heap.size + 1, 1, none⟩ = some (.slice q2 b.mag.length d2) ∧ u.cell? ⟨w.heap.size + 1, 2, none⟩ = some (.int .i64 b.exp)) := fun u k => laid3c (w := w.alloc (.cells #[.bool a.neg, .slice q1 a.mag.length d1, .int .i64 a.exp] 29)) (w.heap.size + 1) _ _ _ 29 (by simp) (by rw [hX]; exact Kept.refl _) k
 go_enter Tryz.func8, Tryz.ntmps8
 go_upto_region 1 with fail
 rw [← hX]
 clear hX
 obtain ⟨c0, c1, c2⟩ := HA.out _ (Kept.refl _)
 go_wp2_with fail
 refine (HLN1.out _ k0).mono ?_
 rintro e w1 ⟨⟨ga, ka, rfl, hga, hOa⟩, hk1⟩
 clear c0 c1 c2 HLN1
 go_upto_region 2 with fail
 obtain ⟨X1, hX⟩ : ∃ X, X = w1.alloc (.cells #[.bool a.neg, .slice (some ⟨ga, 0, none⟩) a.mag.length ka, .int .i64 a.exp] 29) := ⟨_, rfl⟩
 obtain ⟨px, hp⟩ : ∃ p, p = w1.heap.size := ⟨_, rfl⟩
 have k1 : Kept X0 X1 := by rw [hX]; exact hk1.alloc _ _
 have hO1 : Own X1 ga ka (a.mag ++ [-71, -72, -73]) := by rw [hX]; exact hOa.kept ((Kept.refl _).alloc _ _)
 have HX : Hid (∀ u, Kept X1 u → u.cell? ⟨px, 0, none⟩ = some (.bool a.neg) ∧ u.cell? ⟨px, 1, none⟩ = some (.slice (some ⟨ga, 0, none⟩) a.mag.length ka) ∧ u.cell? ⟨px, 2, none⟩ = some (.int .i64 a.exp)) := fun u k => laid3c px _ _ _ 29 hp (by rw [hX]; exact Kept.refl _) k
 have hgl : ga < X1.heap.size := hO1.lt
 rw [← hX, ← hp]
 clear hX hp hk1 hOa
 obtain ⟨c0, c1, c2⟩ := HB.out _ k1
 go_wp2_with fail
 refine (HLN2.out _ (k0.trans k1)).mono ?_
 rintro e w2 ⟨⟨gb, kb, rfl, hgb, hOb⟩, hk2⟩
 clear c0 c1 c2 HLN2
 go_upto_region 3 with fail
 obtain ⟨X2, hX⟩ : ∃ X, X = w2.alloc (.cells #[.bool b.neg, .slice (some ⟨gb, 0, none⟩) b.mag.length kb, .int .i64 b.exp] 29) := ⟨_, rfl⟩
 obtain ⟨py, hp⟩ : ∃ p, p = w2.heap.size := ⟨_, rfl⟩
 have k2 : Kept X1 X2 := by rw [hX]; exact hk2.alloc _ _
 have hO2 : Own X2 gb kb (b.mag ++ [-71, -72, -73]) := by rw [hX]; exact hOb.kept ((Kept.refl _).alloc _ _)
 have HY : Hid (∀ u, Kept X2 u → u.cell? ⟨py, 0, none⟩ = some (.bool b.neg) ∧ u.cell? ⟨py, 1, none⟩ = some (.slice (some ⟨gb, 0, none⟩) b.mag.length kb) ∧ u.cell? ⟨py, 2, none⟩ = some (.int .i64 b.exp)) := fun u k => laid3c py _ _ _ 29 hp (by rw [hX]; exact Kept.refl _) k
 rw [← hX, ← hp]
 clear hX hp hk2 hOb
 have hne : gb ≠ ga := by omega
 have hgb' : X0.heap.size ≤ gb := Nat.le_trans k1.below.size hgb
 have kw2 : Kept w X2 := k0.trans (k1.trans k2)
 obtain ⟨c0, c1, c2⟩ := HX.out _ k2
 go_wp2_with fail
 refine (HRD.out _ ga ka kw2 (hO1.kept k2)).mono ?_
 rintro e u3 ⟨rfl, k3⟩
 clear c0 c1 c2 HRD
 obtain ⟨c0, c1, c2⟩ := HX.out _ (k2.trans k3)
 obtain ⟨c3, c4, c5⟩ := HY.out _ k3
 go_wp2_with fail
 refine (HQT.out _ ga ka gb kb (kw2.trans k3) (hO1.kept (k2.trans k3)) (hO2.kept k3)).mono ?_
 rintro e u4 ⟨rfl, k4⟩
 clear c0 c1 c2 c3 c4 c5 HQT HY
 replace k3 := k3.trans k4
 clear k4
 obtain ⟨c0, c1, c2⟩ := HX.out _ (k2.trans k3)
 go_wp2_with fail
 refine (HRT.out _ ga ka (kw2.trans k3) (hO1.kept (k2.trans k3))).mono ?_
 rintro e u5 ⟨rfl, k5⟩
 clear c0 c1 c2 HRT HX
 replace k3 := k3.trans k5
 clear k5
 obtain ⟨c0, c1, c2⟩ := HA.out _ (k1.trans (k2.trans k3))
 obtain ⟨c3, c4, c5⟩ := HB.out _ (k1.trans (k2.trans k3))
 go_wp2_with fail
 refine (HBK1.out _ ga ka (kw2.trans k3) (hO1.kept (k2.trans k3))).mono ?_
 rintro e u6 ⟨rfl, g6⟩
 have k6 : Kept X0 u6 := (k1.trans (k2.trans k3)).grw hga g6
 have hO6 : Own u6 gb kb (b.mag ++ [-71, -72, -73]) := (hO2.kept k3).grw g6 hne
 clear c0 c1 c2 c3 c4 c5 HBK1
 obtain ⟨c3, c4, c5⟩ := HB.out _ k6
 go_wp2_with fail
 refine (HBK2.out _ gb kb (k0.trans k6) hO6).mono ?_
 rintro e u7 ⟨rfl, g7⟩
 have k7 : Kept X0 u7 := k6.grw hgb' g7
 clear c3 c4 c5 HBK2 k6 g6 g7 hO6 hO1 hO2 k3 kw2 hne hga hgb hgb' hgl k2 k1
 obtain ⟨c0, c1, c2⟩ := HA.out _ k7
 go_wp2_with fail
 refine (KV1.out _ (k0.trans k7)).mono ?_
 rintro e u8 ⟨rfl, k8⟩
 replace k8 := k7.trans k8
 clear c0 c1 c2 KV1 k7
 go_wp2_with fail
 refine (KF1.out _).mono ?_
 rintro e u9 ⟨rfl, k9⟩
 replace k9 := k8.trans k9
 clear KF1 k8
 go_upto_region 10 with fail
 go_cut [22, 24] from 75 (fun v0 v wx => v = .int .i64 f0 ∧ Kept X0 wx)
 case first =>
  obtain ⟨c3, c4, c5⟩ := HB.out _ k9
  cases hva : vld a with
  | false =>
   rw [hva] at KF0
   simp only [Bool.false_and] at KF0
   go_wp2_with fail
   refine (KF0.out _).mono ?_
   rintro e u10 ⟨rfl, k10⟩
   go_wp2_with fail
   go_meet
   case rel => exact ⟨rfl, k9.trans k10⟩
  | true =>
   rw [hva] at KF0
   simp only [Bool.true_and] at KF0
   go_wp2_with fail
   refine (KV2.out _ (k0.trans k9)).mono ?_
   rintro e u10 ⟨rfl, k10⟩
   clear c3 c4 c5
   go_wp2_with fail
   refine (KF0.out _).mono ?_
   rintro e u11 ⟨rfl, k11⟩
   go_wp2_with fail
   go_meet
   case rel => exact ⟨rfl, k9.trans (k10.trans k11)⟩
 case rest =>
 obtain ⟨hbv, hk⟩ := hcut
 obtain ⟨X3, hX3⟩ : ∃ X, X = wc := ⟨_, rfl⟩
 rw [← hX3] at hk ⊢
 clear hX3 k9 KV2 KF0
 subst hbv
 have hl0 : ((b.mag.length : Int) == 0) = decide (b.mag.length = 0) := by
  by_cases h : b.mag.length = 0
  ·rw [h]; rfl
  ·rw [decide_eq_false h]; simpa using h
 have HL0 : Hid (((b.mag.length : Int) == 0) = decide (b.mag.length = 0)) := hl0
 clear hl0
 generalize a.neg = ng at *
 by_cases h1 : f1 = 0
 ·subst h1
  by_cases h0 : f0 = 0
  ·subst h0
   by_cases hbz : b.mag.length = 0
   ·have e2 := hf2'.out
    rw [if_pos ⟨rfl, hbz⟩] at e2
    subst e2
    have e5 := HL0.out
    rw [decide_eq_true hbz] at e5
    cases ng with
    | true =>
     have e3 := hf3'.out
     rw [if_pos ⟨rfl, rfl⟩] at e3
     subst e3
     obtain ⟨c0, c1, c2⟩ := HA.out _ hk
     obtain ⟨c3, c4, c5⟩ := HB.out _ hk
     go_wp2_with fail
     refine (KD1.out (by trivial) _ (k0.trans hk)).mono ?_
     rintro e v9 ⟨rfl, kv⟩
     replace hk := hk.trans kv
     clear c0 c1 c2 c3 c4 c5 kv
     obtain ⟨c0, c1, c2⟩ := HA.out _ hk
     obtain ⟨c3, c4, c5⟩ := HB.out _ hk
     go_wp2_with fail
     refine (KT1.out _ _ _ (fun _ => ⟨rfl, rfl⟩)).mono ?_
     rintro e v9 ⟨rfl, kv⟩
     replace hk := hk.trans kv
     clear c0 c1 c2 c3 c4 c5 kv
     obtain ⟨c0, c1, c2⟩ := HA.out _ hk
     obtain ⟨c3, c4, c5⟩ := HB.out _ hk
     go_wp2_with fail
     refine (KT2.out _ _ _ (fun h => absurd h (by first | assumption | decide))).mono ?_
     rintro e v9 ⟨rfl, kv⟩
     replace hk := hk.trans kv
     clear c0 c1 c2 c3 c4 c5 kv
     obtain ⟨c0, c1, c2⟩ := HA.out _ hk
     obtain ⟨c3, c4, c5⟩ := HB.out _ hk
     go_wp2_with fail
     refine (KT3.out _ _ _ (fun h => absurd h (by first | assumption | decide))).mono ?_
     rintro e v9 ⟨rfl, kv⟩
     replace hk := hk.trans kv
     clear c0 c1 c2 c3 c4 c5 kv
     obtain ⟨c0, c1, c2⟩ := HA.out _ hk
     obtain ⟨c3, c4, c5⟩ := HB.out _ hk
     go_wp2_with fail
     go_ret
     exact ⟨rfl, k0.trans hk⟩
    | false =>
     have e3 := hf3'.out
     rw [if_neg (fun g => absurd g.2 (by decide))] at e3
     subst e3
     obtain ⟨c0, c1, c2⟩ := HA.out _ hk
     obtain ⟨c3, c4, c5⟩ := HB.out _ hk
     go_wp2_with fail
     refine (KD1.out (by trivial) _ (k0.trans hk)).mono ?_
     rintro e v9 ⟨rfl, kv⟩
     replace hk := hk.trans kv
     clear c0 c1 c2 c3 c4 c5 kv
     obtain ⟨c0, c1, c2⟩ := HA.out _ hk
     obtain ⟨c3, c4, c5⟩ := HB.out _ hk
     go_wp2_with fail
     refine (KT1.out _ _ _ (fun _ => ⟨rfl, rfl⟩)).mono ?_
     rintro e v9 ⟨rfl, kv⟩
     replace hk := hk.trans kv
     clear c0 c1 c2 c3 c4 c5 kv
     obtain ⟨c0, c1, c2⟩ := HA.out _ hk
     obtain ⟨c3, c4, c5⟩ := HB.out _ hk
     go_wp2_with fail
     refine (KT2.out _ _ _ (fun h => absurd h (by first | assumption | decide))).mono ?_
     rintro e v9 ⟨rfl, kv⟩
     replace hk := hk.trans kv
     clear c0 c1 c2 c3 c4 c5 kv
     obtain ⟨c0, c1, c2⟩ := HA.out _ hk
     obtain ⟨c3, c4, c5⟩ := HB.out _ hk
     go_wp2_with fail
     refine (KD3.out (by trivial) _ (k0.trans hk)).mono ?_
     rintro e v9 ⟨rfl, kv⟩
     replace hk := hk.trans kv
     clear c0 c1 c2 c3 c4 c5 kv
     obtain ⟨c0, c1, c2⟩ := HA.out _ hk
     obtain ⟨c3, c4, c5⟩ := HB.out _ hk
     go_wp2_with fail
     refine (KT3.out _ _ _ (fun _ => ⟨rfl, rfl⟩)).mono ?_
     rintro e v9 ⟨rfl, kv⟩
     replace hk := hk.trans kv
     clear c0 c1 c2 c3 c4 c5 kv
     obtain ⟨c0, c1, c2⟩ := HA.out _ hk
     obtain ⟨c3, c4, c5⟩ := HB.out _ hk
     go_wp2_with fail
     go_ret
     exact ⟨rfl, k0.trans hk⟩
   ·have e2 := hf2'.out
    rw [if_neg (fun g => hbz g.2)] at e2
    subst e2
    have e5 := HL0.out
    rw [decide_eq_false hbz] at e5
    cases ng with
    | true =>
     have e3 := hf3'.out
     rw [if_pos ⟨rfl, rfl⟩] at e3
     subst e3
     obtain ⟨c0, c1, c2⟩ := HA.out _ hk
     obtain ⟨c3, c4, c5⟩ := HB.out _ hk
     go_wp2_with fail
     refine (KD1.out (by trivial) _ (k0.trans hk)).mono ?_
     rintro e v9 ⟨rfl, kv⟩
     replace hk := hk.trans kv
     clear c0 c1 c2 c3 c4 c5 kv
     obtain ⟨c0, c1, c2⟩ := HA.out _ hk
     obtain ⟨c3, c4, c5⟩ := HB.out _ hk
     go_wp2_with fail
     refine (KT1.out _ _ _ (fun _ => ⟨rfl, rfl⟩)).mono ?_
     rintro e v9 ⟨rfl, kv⟩
     replace hk := hk.trans kv
     clear c0 c1 c2 c3 c4 c5 kv
     obtain ⟨c0, c1, c2⟩ := HA.out _ hk
     obtain ⟨c3, c4, c5⟩ := HB.out _ hk
     go_wp2_with fail
     refine (KD2.out (by trivial) _ (k0.trans hk)).mono ?_
     rintro e v9 ⟨rfl, kv⟩
     replace hk := hk.trans kv
     clear c0 c1 c2 c3 c4 c5 kv
     obtain ⟨c0, c1, c2⟩ := HA.out _ hk
     obtain ⟨c3, c4, c5⟩ := HB.out _ hk
     go_wp2_with fail
     refine (KT2.out _ _ _ (fun _ => ⟨rfl, rfl⟩)).mono ?_
     rintro e v9 ⟨rfl, kv⟩
     replace hk := hk.trans kv
     clear c0 c1 c2 c3 c4 c5 kv
     obtain ⟨c0, c1, c2⟩ := HA.out _ hk
     obtain ⟨c3, c4, c5⟩ := HB.out _ hk
     go_wp2_with fail
     refine (KT3.out _ _ _ (fun h => absurd h (by first | assumption | decide))).mono ?_
     rintro e v9 ⟨rfl, kv⟩
     replace hk := hk.trans kv
     clear c0 c1 c2 c3 c4 c5 kv
     obtain ⟨c0, c1, c2⟩ := HA.out _ hk
     obtain ⟨c3, c4, c5⟩ := HB.out _ hk
     go_wp2_with fail
     go_ret
     exact ⟨rfl, k0.trans hk⟩
    | false =>
     have e3 := hf3'.out
     rw [if_neg (fun g => absurd g.2 (by decide))] at e3
     subst e3
     obtain ⟨c0, c1, c2⟩ := HA.out _ hk
     obtain ⟨c3, c4, c5⟩ := HB.out _ hk
     go_wp2_with fail
     refine (KD1.out (by trivial) _ (k0.trans hk)).mono ?_
     rintro e v9 ⟨rfl, kv⟩
     replace hk := hk.trans kv
     clear c0 c1 c2 c3 c4 c5 kv
     obtain ⟨c0, c1, c2⟩ := HA.out _ hk
     obtain ⟨c3, c4, c5⟩ := HB.out _ hk
     go_wp2_with fail
     refine (KT1.out _ _ _ (fun _ => ⟨rfl, rfl⟩)).mono ?_
     rintro e v9 ⟨rfl, kv⟩
     replace hk := hk.trans kv
     clear c0 c1 c2 c3 c4 c5 kv
     obtain ⟨c0, c1, c2⟩ := HA.out _ hk
     obtain ⟨c3, c4, c5⟩ := HB.out _ hk
     go_wp2_with fail
     refine (KD2.out (by trivial) _ (k0.trans hk)).mono ?_
     rintro e v9 ⟨rfl, kv⟩
     replace hk := hk.trans kv
     clear c0 c1 c2 c3 c4 c5 kv
     obtain ⟨c0, c1, c2⟩ := HA.out _ hk
     obtain ⟨c3, c4, c5⟩ := HB.out _ hk
     go_wp2_with fail
     refine (KT2.out _ _ _ (fun _ => ⟨rfl, rfl⟩)).mono ?_
     rintro e v9 ⟨rfl, kv⟩
     replace hk := hk.trans kv
     clear c0 c1 c2 c3 c4 c5 kv
     obtain ⟨c0, c1, c2⟩ := HA.out _ hk
     obtain ⟨c3, c4, c5⟩ := HB.out _ hk
     go_wp2_with fail
     refine (KD3.out (by trivial) _ (k0.trans hk)).mono ?_
     rintro e v9 ⟨rfl, kv⟩
     replace hk := hk.trans kv
     clear c0 c1 c2 c3 c4 c5 kv
     obtain ⟨c0, c1, c2⟩ := HA.out _ hk
     obtain ⟨c3, c4, c5⟩ := HB.out _ hk
     go_wp2_with fail
     refine (KT3.out _ _ _ (fun _ => ⟨rfl, rfl⟩)).mono ?_
     rintro e v9 ⟨rfl, kv⟩
     replace hk := hk.trans kv
     clear c0 c1 c2 c3 c4 c5 kv
     obtain ⟨c0, c1, c2⟩ := HA.out _ hk
     obtain ⟨c3, c4, c5⟩ := HB.out _ hk
     go_wp2_with fail
     go_ret
     exact ⟨rfl, k0.trans hk⟩
  ·have e2 := hf2'.out
   rw [if_neg (fun g => h0 g.1)] at e2
   subst e2
   have e4 : (f2 == 0) = false := by simpa using h0
   cases ng with
   | true =>
    have e3 := hf3'.out
    rw [if_pos ⟨rfl, rfl⟩] at e3
    subst e3
    obtain ⟨c0, c1, c2⟩ := HA.out _ hk
    obtain ⟨c3, c4, c5⟩ := HB.out _ hk
    go_wp2_with fail
    refine (KD1.out (by trivial) _ (k0.trans hk)).mono ?_
    rintro e v9 ⟨rfl, kv⟩
    replace hk := hk.trans kv
    clear c0 c1 c2 c3 c4 c5 kv
    obtain ⟨c0, c1, c2⟩ := HA.out _ hk
    obtain ⟨c3, c4, c5⟩ := HB.out _ hk
    go_wp2_with fail
    refine (KT1.out _ _ _ (fun _ => ⟨rfl, rfl⟩)).mono ?_
    rintro e v9 ⟨rfl, kv⟩
    replace hk := hk.trans kv
    clear c0 c1 c2 c3 c4 c5 kv
    obtain ⟨c0, c1, c2⟩ := HA.out _ hk
    obtain ⟨c3, c4, c5⟩ := HB.out _ hk
    go_wp2_with fail
    refine (KT2.out _ _ _ (fun h => absurd h (by first | assumption | decide))).mono ?_
    rintro e v9 ⟨rfl, kv⟩
    replace hk := hk.trans kv
    clear c0 c1 c2 c3 c4 c5 kv
    obtain ⟨c0, c1, c2⟩ := HA.out _ hk
    obtain ⟨c3, c4, c5⟩ := HB.out _ hk
    go_wp2_with fail
    refine (KT3.out _ _ _ (fun h => absurd h (by first | assumption | decide))).mono ?_
    rintro e v9 ⟨rfl, kv⟩
    replace hk := hk.trans kv
    clear c0 c1 c2 c3 c4 c5 kv
    obtain ⟨c0, c1, c2⟩ := HA.out _ hk
    obtain ⟨c3, c4, c5⟩ := HB.out _ hk
    go_wp2_with fail
    go_ret
    exact ⟨rfl, k0.trans hk⟩
   | false =>
    have e3 := hf3'.out
    rw [if_neg (fun g => absurd g.2 (by decide))] at e3
    subst e3
    obtain ⟨c0, c1, c2⟩ := HA.out _ hk
    obtain ⟨c3, c4, c5⟩ := HB.out _ hk
    go_wp2_with fail
    refine (KD1.out (by trivial) _ (k0.trans hk)).mono ?_
    rintro e v9 ⟨rfl, kv⟩
    replace hk := hk.trans kv
    clear c0 c1 c2 c3 c4 c5 kv
    obtain ⟨c0, c1, c2⟩ := HA.out _ hk
    obtain ⟨c3, c4, c5⟩ := HB.out _ hk
    go_wp2_with fail
    refine (KT1.out _ _ _ (fun _ => ⟨rfl, rfl⟩)).mono ?_
    rintro e v9 ⟨rfl, kv⟩
    replace hk := hk.trans kv
    clear c0 c1 c2 c3 c4 c5 kv
    obtain ⟨c0, c1, c2⟩ := HA.out _ hk
    obtain ⟨c3, c4, c5⟩ := HB.out _ hk
    go_wp2_with fail
    refine (KT2.out _ _ _ (fun h => absurd h (by first | assumption | decide))).mono ?_
    rintro e v9 ⟨rfl, kv⟩
    replace hk := hk.trans kv
    clear c0 c1 c2 c3 c4 c5 kv
    obtain ⟨c0, c1, c2⟩ := HA.out _ hk
    obtain ⟨c3, c4, c5⟩ := HB.out _ hk
    go_wp2_with fail
    refine (KD3.out (by trivial) _ (k0.trans hk)).mono ?_
    rintro e v9 ⟨rfl, kv⟩
    replace hk := hk.trans kv
    clear c0 c1 c2 c3 c4 c5 kv
    obtain ⟨c0, c1, c2⟩ := HA.out _ hk
    obtain ⟨c3, c4, c5⟩ := HB.out _ hk
    go_wp2_with fail
    refine (KT3.out _ _ _ (fun _ => ⟨rfl, rfl⟩)).mono ?_
    rintro e v9 ⟨rfl, kv⟩
    replace hk := hk.trans kv
    clear c0 c1 c2 c3 c4 c5 kv
    obtain ⟨c0, c1, c2⟩ := HA.out _ hk
    obtain ⟨c3, c4, c5⟩ := HB.out _ hk
    go_wp2_with fail
    go_ret
    exact ⟨rfl, k0.trans hk⟩
 ·have h0 := h10.out h1
  have e2 := hf2'.out
  rw [if_neg (fun g => h0 g.1)] at e2
  subst e2
  have e3 := hf3'.out
  rw [if_neg (fun g => h1 g.1)] at e3
  subst e3
  have e4 : (f2 == 0) = false := by simpa using h0
  have e5 : (f3 == 0) = false := by simpa using h1
  obtain ⟨c0, c1, c2⟩ := HA.out _ hk
  obtain ⟨c3, c4, c5⟩ := HB.out _ hk
  go_wp2_with fail
  refine (KT1.out _ _ _ (fun h => absurd h (by first | assumption | decide))).mono ?_
  rintro e v9 ⟨rfl, kv⟩
  replace hk := hk.trans kv
  clear c0 c1 c2 c3 c4 c5 kv
  obtain ⟨c0, c1, c2⟩ := HA.out _ hk
  obtain ⟨c3, c4, c5⟩ := HB.out _ hk
  go_wp2_with fail
  refine (KT2.out _ _ _ (fun h => absurd h (by first | assumption | decide))).mono ?_
  rintro e v9 ⟨rfl, kv⟩
  replace hk := hk.trans kv
  clear c0 c1 c2 c3 c4 c5 kv
  obtain ⟨c0, c1, c2⟩ := HA.out _ hk
  obtain ⟨c3, c4, c5⟩ := HB.out _ hk
  go_wp2_with fail
  refine (KT3.out _ _ _ (fun h => absurd h (by first | assumption | decide))).mono ?_
  rintro e v9 ⟨rfl, kv⟩
  replace hk := hk.trans kv
  clear c0 c1 c2 c3 c4 c5 kv
  obtain ⟨c0, c1, c2⟩ := HA.out _ hk
  obtain ⟨c3, c4, c5⟩ := HB.out _ hk
  go_wp2_with fail
  go_ret
  exact ⟨rfl, k0.trans hk⟩
end Go.Proofs.YtbffekcjdcihpaaGreatDoor
