/- The walk of SpanHolds. -/
import Derived.Test.YtdhimkpfnhoagaaGreatDoorWh35
namespace Go.Proofs.YtdhimkpfnhoagaaGreatDoor
open Go.ChangeShapes Go.WideShapes Go.ChangeAt Go.RowKit Ieee
set_option linter.unusedVariables false
set_option linter.unusedSimpArgs false

set_option maxHeartbeats 8000000 in
set_option maxRecDepth 100000 in
theorem holdA_64 (a b bw av w0 s2 l1 h1 l2 h2 : Int) (hw0 : bits .and .i64 w0 1 = 1) (hs2v : bw / 8 = s2) (ok1 ok2 : Bool) (R1 R2 : Nm) (hok : (ok1 && ok2) = false) (w : World)
    (KL : Hid (∀ u q x y l h ok R, (q = a ∧ x = bw ∧ y = av ∧ l = l1 ∧ h = h1 ∧ ok = ok1 ∧ R = R1 ∨ q = b ∧ x = av ∧ y = s2 ∧ l = l2 ∧ h = h2 ∧ ok = ok2 ∧ R = R2) → Kept w u → Calls Tryz.prog 12 #[.int .i64 q, .int .i64 x, .int .i64 y, .int .i64 64] u fun e w' => ∃ v, e = .returned (.tuple #[sp2 l h, v, .bool ok]) ∧ New u w' v R ∧ Kept u w'))
    (KA : Hid (∀ u, Kept w u → Calls Tryz.prog 8 #[] u fun e w' => e = .returned (.bool true) ∧ Kept u w')) :
    Calls Tryz.prog 7 #[.int .i64 a, .int .i64 b, .int .i64 bw, .int .i64 av, .int .i64 w0] w fun e w' => e = .returned (.bool true) ∧ Kept w w' := by
  go_enter Tryz.func7, Tryz.ntmps7
  go_upto_region 3 with (first | (go_at_call 12; refine (KL.out _ _ _ _ _ _ _ _ (.inl ⟨rfl, rfl, rfl, rfl, rfl, rfl, rfl⟩) (Kept.refl _)).mono ?_; rintro e w1 ⟨v, rfl, hN1, k1⟩; obtain ⟨vn, va, vl, vc, vx, rfl⟩ := hN1.shape; have HC1 : Hid (va = none → vc = 0) := new_cap hN1; obtain ⟨rfl, rfl, rfl, hs1⟩ := new_parts hN1))
  have HS1 : Hid (Sl w1 (.slice va R1.mag.length vc) R1.mag) := hs1
  clear hs1 hN1
  have hP1 := (P2.new w1 (.int .i64 l1) (.int .i64 h1) 23).alloc #[.bool R1.neg, .slice va R1.mag.length vc, .int .i64 R1.exp] 26
  have hQ1 : P3 ((w1.alloc (.cells #[.int .i64 l1, .int .i64 h1] 23)).alloc (.cells #[.bool R1.neg, .slice va R1.mag.length vc, .int .i64 R1.exp] 26)) (w1.heap.size + 1) (.bool R1.neg) (.slice va R1.mag.length vc) (.int .i64 R1.exp) := by
    have := P3.new (w1.alloc (.cells #[.int .i64 l1, .int .i64 h1] 23)) (.bool R1.neg) (.slice va R1.mag.length vc) (.int .i64 R1.exp) 26
    simpa using this
  have kY1 : Kept w1 ((w1.alloc (.cells #[.int .i64 l1, .int .i64 h1] 23)).alloc (.cells #[.bool R1.neg, .slice va R1.mag.length vc, .int .i64 R1.exp] 26)) := ((Kept.refl w1).alloc _ _).alloc _ _
  obtain ⟨Y1, hY1⟩ : ∃ Y, Y = (w1.alloc (.cells #[.int .i64 l1, .int .i64 h1] 23)).alloc (.cells #[.bool R1.neg, .slice va R1.mag.length vc, .int .i64 R1.exp] 26) := ⟨_, rfl⟩
  obtain ⟨B1, hB1⟩ : ∃ B, B = w1.heap.size := ⟨_, rfl⟩
  obtain ⟨B2, hB2⟩ : ∃ B, B = B1 + 1 := ⟨_, rfl⟩
  rw [← hY1] at hP1 hQ1 kY1
  rw [← hB1] at hP1 hQ1
  rw [← hB2] at hQ1
  rw [← hY1, ← hB1, ← hB2]
  have kw1 := k1.trans kY1
  have HS1' : Hid (Sl Y1 (.slice va R1.mag.length vc) R1.mag) := HS1.out.kept kY1
  clear hY1 hB1 hB2 k1 kY1 HS1
  go_upto_region 4 with (first | (go_at_call 12; refine (KL.out _ _ _ _ _ _ _ _ (.inr ⟨rfl, rfl, by first | rfl | assumption, rfl, rfl, rfl, rfl⟩) kw1).mono ?_; rintro e w2 ⟨v, rfl, hN2, k2⟩; obtain ⟨vn, vb, vl, vd, vx, rfl⟩ := hN2.shape; obtain ⟨rfl, rfl, rfl, hs2⟩ := new_parts hN2))
  clear KL
  have HS2 : Hid (Sl w2 (.slice vb R2.mag.length vd) R2.mag) := hs2
  clear hs2 hN2
  have hP2 := (P2.new w2 (.int .i64 l2) (.int .i64 h2) 23).alloc #[.bool R2.neg, .slice vb R2.mag.length vd, .int .i64 R2.exp] 26
  have hQ2 : P3 ((w2.alloc (.cells #[.int .i64 l2, .int .i64 h2] 23)).alloc (.cells #[.bool R2.neg, .slice vb R2.mag.length vd, .int .i64 R2.exp] 26)) (w2.heap.size + 1) (.bool R2.neg) (.slice vb R2.mag.length vd) (.int .i64 R2.exp) := by
    have := P3.new (w2.alloc (.cells #[.int .i64 l2, .int .i64 h2] 23)) (.bool R2.neg) (.slice vb R2.mag.length vd) (.int .i64 R2.exp) 26
    simpa using this
  have kY2 : Kept w2 ((w2.alloc (.cells #[.int .i64 l2, .int .i64 h2] 23)).alloc (.cells #[.bool R2.neg, .slice vb R2.mag.length vd, .int .i64 R2.exp] 26)) := ((Kept.refl w2).alloc _ _).alloc _ _
  obtain ⟨Y2, hY2⟩ : ∃ Y, Y = (w2.alloc (.cells #[.int .i64 l2, .int .i64 h2] 23)).alloc (.cells #[.bool R2.neg, .slice vb R2.mag.length vd, .int .i64 R2.exp] 26) := ⟨_, rfl⟩
  obtain ⟨B3, hB3⟩ : ∃ B, B = w2.heap.size := ⟨_, rfl⟩
  obtain ⟨B4, hB4⟩ : ∃ B, B = B3 + 1 := ⟨_, rfl⟩
  rw [← hY2] at hP2 hQ2 kY2
  rw [← hB3] at hP2 hQ2
  rw [← hB4] at hQ2
  rw [← hY2, ← hB3, ← hB4]
  have k12 := k2.trans kY2
  have kw2 := kw1.trans k12
  have hP1 := hP1.kept k12
  have hQ1 := hQ1.kept k12
  have HS1 : Hid (Sl Y2 (.slice va R1.mag.length vc) R1.mag) := HS1'.out.kept k12
  have HS2' : Hid (Sl Y2 (.slice vb R2.mag.length vd) R2.mag) := HS2.out.kept kY2
  clear hY2 hB3 hB4 k2 kY2 HS2 HS1' k12 kw1 hw0 hs2v
  cases ok1
  · go_wp2_with (first | (go_at_call 8; refine (KA.out _ kw2).mono ?_; rintro e w3 ⟨rfl, k3⟩; have kw2 := kw2.trans k3))
    go_ret
    exact ⟨rfl, kw2⟩
  · have ho : ok2 = false := by simpa using hok
    subst ho
    go_wp2_with (first | (go_at_call 8; refine (KA.out _ kw2).mono ?_; rintro e w3 ⟨rfl, k3⟩; have kw2 := kw2.trans k3))
    go_ret
    exact ⟨rfl, kw2⟩
set_option maxHeartbeats 8000000 in
set_option maxRecDepth 100000 in
theorem holdC_64 (a b bw av w0 s2 l1 h1 l2 h2 : Int) (hw0 : bits .and .i64 w0 1 = 1) (hs2v : bw / 8 = s2) (ok1 ok2 : Bool) (R1 R2 : Nm) (hok1 : ok1 = true) (hok2 : ok2 = true) (P Q R V : Nm) (c1 c2 d1 d2 m1 m2 g1 g2 j1 j2 u1 u2 z1 z2 lo hi er3 er4 : Int) (o3 o4 : Bool) (w : World)
    (KL : Hid (∀ u q x y l h ok R, (q = a ∧ x = bw ∧ y = av ∧ l = l1 ∧ h = h1 ∧ ok = ok1 ∧ R = R1 ∨ q = b ∧ x = av ∧ y = s2 ∧ l = l2 ∧ h = h2 ∧ ok = ok2 ∧ R = R2) → Kept w u → Calls Tryz.prog 12 #[.int .i64 q, .int .i64 x, .int .i64 y, .int .i64 64] u fun e w' => ∃ v, e = .returned (.tuple #[sp2 l h, v, .bool ok]) ∧ New u w' v R ∧ Kept u w'))
    (KA : Hid (∀ u, Kept w u → Calls Tryz.prog 8 #[] u fun e w' => e = .returned (.bool true) ∧ Kept u w'))
    (KP : Hid (∀ u a1 d1 a2 d2, Kept w u → Sl u (.slice a1 R1.mag.length d1) R1.mag → Sl u (.slice a2 R2.mag.length d2) R2.mag → Calls Tryz.prog 13 #[.agg #[.bool R1.neg, .slice a1 R1.mag.length d1, .int .i64 R1.exp], .agg #[.bool R2.neg, .slice a2 R2.mag.length d2, .int .i64 R2.exp]] u fun e w' => ∃ v, e = .returned (.tuple #[v, .int .i64 0]) ∧ New u w' v P ∧ Kept u w'))
    (KQ : Hid (∀ u a1 d1 a2 d2, Kept w u → Sl u (.slice a1 R1.mag.length d1) R1.mag → Sl u (.slice a2 R2.mag.length d2) R2.mag → Calls Tryz.prog 14 #[.agg #[.bool R1.neg, .slice a1 R1.mag.length d1, .int .i64 R1.exp], .agg #[.bool R2.neg, .slice a2 R2.mag.length d2, .int .i64 R2.exp]] u fun e w' => ∃ v, e = .returned (.tuple #[v, .int .i64 0]) ∧ New u w' v Q ∧ Kept u w'))
    (KR : Hid (∀ u a1 d1 a2 d2, Kept w u → Sl u (.slice a1 R1.mag.length d1) R1.mag → Sl u (.slice a2 R2.mag.length d2) R2.mag → Calls Tryz.prog 15 #[.agg #[.bool R1.neg, .slice a1 R1.mag.length d1, .int .i64 R1.exp], .agg #[.bool R2.neg, .slice a2 R2.mag.length d2, .int .i64 R2.exp]] u fun e w' => ∃ v, e = .returned (.tuple #[v, .int .i64 0]) ∧ New u w' v R ∧ Kept u w'))
    (KN : Hid (∀ u a1 d1, Kept w u → Sl u (.slice a1 R1.mag.length d1) R1.mag → (a1 = none → d1 = 0) → Calls Tryz.prog 16 #[.agg #[.bool R1.neg, .slice a1 R1.mag.length d1, .int .i64 R1.exp]] u fun e w' => ∃ v, e = .returned (.tuple #[v, .int .i64 0]) ∧ New u w' v V ∧ Kept u w'))
    (KD : Hid (∀ u, Kept w u → Calls Tryz.prog 17 #[sp2 l1 h1, sp2 l2 h2, .int .i64 64] u fun e w' => e = .returned (.tuple #[sp2 c1 c2, .int .i64 0]) ∧ Kept u w'))
    (KS : Hid (∀ u, Kept w u → Calls Tryz.prog 18 #[sp2 l1 h1, sp2 l2 h2, .int .i64 64] u fun e w' => e = .returned (.tuple #[sp2 d1 d2, .int .i64 0]) ∧ Kept u w'))
    (KM : Hid (∀ u, Kept w u → Calls Tryz.prog 19 #[sp2 l1 h1, sp2 l2 h2, .int .i64 64] u fun e w' => e = .returned (.tuple #[sp2 m1 m2, .int .i64 0]) ∧ Kept u w'))
    (KG : Hid (∀ u, Kept w u → Calls Tryz.prog 20 #[sp2 l1 h1, .int .i64 64] u fun e w' => e = .returned (.tuple #[sp2 g1 g2, .int .i64 0]) ∧ Kept u w'))
    (KJ : Hid (∀ u, Kept w u → Calls Tryz.prog 21 #[sp2 l1 h1, sp2 l2 h2, .int .i64 64] u fun e w' => e = .returned (.tuple #[sp2 j1 j2, .int .i64 0]) ∧ Kept u w'))
    (KU : Hid (∀ (u v : World) (B : Nat), Kept w u → B = v.heap.size → Kept (v.alloc (.cells #[.int .i64 l1, .int .i64 h1, .int .i64 l2, .int .i64 h2, .int .i64 g1, .int .i64 g2] 23)) u → Calls Tryz.prog 22 #[.slice (some ⟨B, 0, none⟩) 3 3, .int .i64 64] u fun e w' => e = .returned (.tuple #[sp2 u1 u2, .int .i64 0]) ∧ Kept u w'))
    (KH : Hid (∀ u o1 o2 T a9 d9, (o1 = l1 ∧ o2 = h1 ∧ T = R1 ∨ o1 = c1 ∧ o2 = c2 ∧ T = P ∨ o1 = d1 ∧ o2 = d2 ∧ T = Q ∨ o1 = m1 ∧ o2 = m2 ∧ T = R ∨ o1 = g1 ∧ o2 = g2 ∧ T = V ∨ o1 = j1 ∧ o2 = j2 ∧ T = R1 ∨ o1 = j1 ∧ o2 = j2 ∧ T = R2 ∨ o1 = u1 ∧ o2 = u2 ∧ T = R2) → Kept w u → Sl u (.slice a9 T.mag.length d9) T.mag → Calls Tryz.prog 23 #[sp2 o1 o2, .int .i64 0, .agg #[.bool T.neg, .slice a9 T.mag.length d9, .int .i64 T.exp], .int .i64 64] u fun e w' => e = .returned (.bool true) ∧ Kept u w'))
    (KV : Hid (∀ u, Kept w u → Calls Tryz.prog 24 #[sp2 l1 h1, sp2 l2 h2, .int .i64 64] u fun e w' => e = .returned (.tuple #[sp2 z1 z2, .int .i64 8]) ∧ Kept u w'))
    (KZ : Hid (∀ u, Kept w u → Calls Tryz.prog 25 #[sp2 l2 h2, .agg #[.bool false, .slice none 0 0, .int .i64 0], .int .i64 64] u fun e w' => e = .returned (.tuple #[.bool true, .int .i64 0]) ∧ Kept u w')) :
    Calls Tryz.prog 7 #[.int .i64 a, .int .i64 b, .int .i64 bw, .int .i64 av, .int .i64 w0] w fun e w' => e = .returned (.bool true) ∧ Kept w w' := by
  go_enter Tryz.func7, Tryz.ntmps7
  go_upto_region 3 with (first | (go_at_call 12; refine (KL.out _ _ _ _ _ _ _ _ (.inl ⟨rfl, rfl, rfl, rfl, rfl, rfl, rfl⟩) (Kept.refl _)).mono ?_; rintro e w1 ⟨v, rfl, hN1, k1⟩; obtain ⟨vn, va, vl, vc, vx, rfl⟩ := hN1.shape; have HC1 : Hid (va = none → vc = 0) := new_cap hN1; obtain ⟨rfl, rfl, rfl, hs1⟩ := new_parts hN1))
  have HS1 : Hid (Sl w1 (.slice va R1.mag.length vc) R1.mag) := hs1
  clear hs1 hN1
  have hP1 := (P2.new w1 (.int .i64 l1) (.int .i64 h1) 23).alloc #[.bool R1.neg, .slice va R1.mag.length vc, .int .i64 R1.exp] 26
  have hQ1 : P3 ((w1.alloc (.cells #[.int .i64 l1, .int .i64 h1] 23)).alloc (.cells #[.bool R1.neg, .slice va R1.mag.length vc, .int .i64 R1.exp] 26)) (w1.heap.size + 1) (.bool R1.neg) (.slice va R1.mag.length vc) (.int .i64 R1.exp) := by
    have := P3.new (w1.alloc (.cells #[.int .i64 l1, .int .i64 h1] 23)) (.bool R1.neg) (.slice va R1.mag.length vc) (.int .i64 R1.exp) 26
    simpa using this
  have kY1 : Kept w1 ((w1.alloc (.cells #[.int .i64 l1, .int .i64 h1] 23)).alloc (.cells #[.bool R1.neg, .slice va R1.mag.length vc, .int .i64 R1.exp] 26)) := ((Kept.refl w1).alloc _ _).alloc _ _
  obtain ⟨Y1, hY1⟩ : ∃ Y, Y = (w1.alloc (.cells #[.int .i64 l1, .int .i64 h1] 23)).alloc (.cells #[.bool R1.neg, .slice va R1.mag.length vc, .int .i64 R1.exp] 26) := ⟨_, rfl⟩
  obtain ⟨B1, hB1⟩ : ∃ B, B = w1.heap.size := ⟨_, rfl⟩
  obtain ⟨B2, hB2⟩ : ∃ B, B = B1 + 1 := ⟨_, rfl⟩
  rw [← hY1] at hP1 hQ1 kY1
  rw [← hB1] at hP1 hQ1
  rw [← hB2] at hQ1
  rw [← hY1, ← hB1, ← hB2]
  have kw1 := k1.trans kY1
  have HS1' : Hid (Sl Y1 (.slice va R1.mag.length vc) R1.mag) := HS1.out.kept kY1
  clear hY1 hB1 hB2 k1 kY1 HS1
  go_upto_region 4 with (first | (go_at_call 12; refine (KL.out _ _ _ _ _ _ _ _ (.inr ⟨rfl, rfl, by first | rfl | assumption, rfl, rfl, rfl, rfl⟩) kw1).mono ?_; rintro e w2 ⟨v, rfl, hN2, k2⟩; obtain ⟨vn, vb, vl, vd, vx, rfl⟩ := hN2.shape; obtain ⟨rfl, rfl, rfl, hs2⟩ := new_parts hN2))
  clear KL
  have HS2 : Hid (Sl w2 (.slice vb R2.mag.length vd) R2.mag) := hs2
  clear hs2 hN2
  have hP2 := (P2.new w2 (.int .i64 l2) (.int .i64 h2) 23).alloc #[.bool R2.neg, .slice vb R2.mag.length vd, .int .i64 R2.exp] 26
  have hQ2 : P3 ((w2.alloc (.cells #[.int .i64 l2, .int .i64 h2] 23)).alloc (.cells #[.bool R2.neg, .slice vb R2.mag.length vd, .int .i64 R2.exp] 26)) (w2.heap.size + 1) (.bool R2.neg) (.slice vb R2.mag.length vd) (.int .i64 R2.exp) := by
    have := P3.new (w2.alloc (.cells #[.int .i64 l2, .int .i64 h2] 23)) (.bool R2.neg) (.slice vb R2.mag.length vd) (.int .i64 R2.exp) 26
    simpa using this
  have kY2 : Kept w2 ((w2.alloc (.cells #[.int .i64 l2, .int .i64 h2] 23)).alloc (.cells #[.bool R2.neg, .slice vb R2.mag.length vd, .int .i64 R2.exp] 26)) := ((Kept.refl w2).alloc _ _).alloc _ _
  obtain ⟨Y2, hY2⟩ : ∃ Y, Y = (w2.alloc (.cells #[.int .i64 l2, .int .i64 h2] 23)).alloc (.cells #[.bool R2.neg, .slice vb R2.mag.length vd, .int .i64 R2.exp] 26) := ⟨_, rfl⟩
  obtain ⟨B3, hB3⟩ : ∃ B, B = w2.heap.size := ⟨_, rfl⟩
  obtain ⟨B4, hB4⟩ : ∃ B, B = B3 + 1 := ⟨_, rfl⟩
  rw [← hY2] at hP2 hQ2 kY2
  rw [← hB3] at hP2 hQ2
  rw [← hB4] at hQ2
  rw [← hY2, ← hB3, ← hB4]
  have k12 := k2.trans kY2
  have kw2 := kw1.trans k12
  have hP1 := hP1.kept k12
  have hQ1 := hQ1.kept k12
  have HS1 : Hid (Sl Y2 (.slice va R1.mag.length vc) R1.mag) := HS1'.out.kept k12
  have HS2' : Hid (Sl Y2 (.slice vb R2.mag.length vd) R2.mag) := HS2.out.kept kY2
  clear hY2 hB3 hB4 k2 kY2 HS2 HS1' k12 kw1 hw0 hs2v
  subst hok1 hok2
  go_upto_region 6 with (first | (go_at_call 8; refine (KA.out _ kw2).mono ?_; rintro e w3 ⟨rfl, k3⟩))
  have hP1 := hP1.kept k3
  have hQ1 := hQ1.kept k3
  have hP2 := hP2.kept k3
  have hQ2 := hQ2.kept k3
  have kw := kw2.trans k3
  have HS1 : Hid (Sl w3 (.slice va R1.mag.length vc) R1.mag) := HS1.out.kept k3
  have HS2 : Hid (Sl w3 (.slice vb R2.mag.length vd) R2.mag) := HS2'.out.kept k3
  clear HS2' k3 kw2 KA
  obtain ⟨a0, a1, a2⟩ := hQ1
  have hQ1 := P3.mk a0 a1 a2
  obtain ⟨b0, b1, b2⟩ := hQ2
  have hQ2 := P3.mk b0 b1 b2
  go_upto_region 7 with (first | (go_at_call 13; refine (KP.out _ _ _ _ _ kw HS1.out HS2.out).mono ?_; rintro e wp ⟨v, rfl, hN, kp⟩; obtain ⟨vn, vp, vl, cp, vx, rfl⟩ := hN.shape; obtain ⟨rfl, rfl, rfl, hs⟩ := new_parts hN))
  clear a0 a1 a2 b0 b1 b2 KP hN
  have kp' := kp.alloc #[.bool P.neg, .slice vp P.mag.length cp, .int .i64 P.exp] 26
  have hNp := P3.new wp (.bool P.neg) (.slice vp P.mag.length cp) (.int .i64 P.exp) 26
  have HTp : Hid (Sl (wp.alloc (.cells #[.bool P.neg, .slice vp P.mag.length cp, .int .i64 P.exp] 26)) (.slice vp P.mag.length cp) P.mag) := hs.kept ((Kept.refl _).alloc _ _)
  obtain ⟨Yp, hYp⟩ : ∃ Y, Y = wp.alloc (.cells #[.bool P.neg, .slice vp P.mag.length cp, .int .i64 P.exp] 26) := ⟨_, rfl⟩
  obtain ⟨Bp, hBp⟩ : ∃ B, B = wp.heap.size := ⟨_, rfl⟩
  rw [← hYp] at kp' hNp HTp
  rw [← hBp] at hNp
  rw [← hYp, ← hBp]
  have hP1 := hP1.kept kp'
  have hP2 := hP2.kept kp'
  have hQ1 := hQ1.kept kp'
  have hQ2 := hQ2.kept kp'
  have HS1 : Hid (Sl Yp (.slice va R1.mag.length vc) R1.mag) := HS1.out.kept kp'
  have HS2 : Hid (Sl Yp (.slice vb R2.mag.length vd) R2.mag) := HS2.out.kept kp'
  have kw := kw.trans kp'
  clear hYp hBp kp kp' hs
  obtain ⟨a0, a1, a2⟩ := hQ1
  have hQ1 := P3.mk a0 a1 a2
  obtain ⟨b0, b1, b2⟩ := hQ2
  have hQ2 := P3.mk b0 b1 b2
  go_upto_region 8 with (first | (go_at_call 14; refine (KQ.out _ _ _ _ _ kw HS1.out HS2.out).mono ?_; rintro e wq ⟨v, rfl, hN, kq⟩; obtain ⟨vn, vq, vl, cq, vx, rfl⟩ := hN.shape; obtain ⟨rfl, rfl, rfl, hs⟩ := new_parts hN))
  clear a0 a1 a2 b0 b1 b2 KQ hN
  have kq' := kq.alloc #[.bool Q.neg, .slice vq Q.mag.length cq, .int .i64 Q.exp] 26
  have hNq := P3.new wq (.bool Q.neg) (.slice vq Q.mag.length cq) (.int .i64 Q.exp) 26
  have HTq : Hid (Sl (wq.alloc (.cells #[.bool Q.neg, .slice vq Q.mag.length cq, .int .i64 Q.exp] 26)) (.slice vq Q.mag.length cq) Q.mag) := hs.kept ((Kept.refl _).alloc _ _)
  obtain ⟨Yq, hYq⟩ : ∃ Y, Y = wq.alloc (.cells #[.bool Q.neg, .slice vq Q.mag.length cq, .int .i64 Q.exp] 26) := ⟨_, rfl⟩
  obtain ⟨Bq, hBq⟩ : ∃ B, B = wq.heap.size := ⟨_, rfl⟩
  rw [← hYq] at kq' hNq HTq
  rw [← hBq] at hNq
  rw [← hYq, ← hBq]
  have hP1 := hP1.kept kq'
  have hP2 := hP2.kept kq'
  have hQ1 := hQ1.kept kq'
  have hQ2 := hQ2.kept kq'
  have hNp := hNp.kept kq'
  have HS1 : Hid (Sl Yq (.slice va R1.mag.length vc) R1.mag) := HS1.out.kept kq'
  have HS2 : Hid (Sl Yq (.slice vb R2.mag.length vd) R2.mag) := HS2.out.kept kq'
  have HTp : Hid (Sl Yq (.slice vp P.mag.length cp) P.mag) := HTp.out.kept kq'
  have kw := kw.trans kq'
  clear hYq hBq kq kq' hs
  obtain ⟨a0, a1, a2⟩ := hQ1
  have hQ1 := P3.mk a0 a1 a2
  obtain ⟨b0, b1, b2⟩ := hQ2
  have hQ2 := P3.mk b0 b1 b2
  go_upto_region 9 with (first | (go_at_call 15; refine (KR.out _ _ _ _ _ kw HS1.out HS2.out).mono ?_; rintro e wr ⟨v, rfl, hN, kr⟩; obtain ⟨vn, vr, vl, cr, vx, rfl⟩ := hN.shape; obtain ⟨rfl, rfl, rfl, hs⟩ := new_parts hN))
  clear a0 a1 a2 b0 b1 b2 KR hN
  have kr' := kr.alloc #[.bool R.neg, .slice vr R.mag.length cr, .int .i64 R.exp] 26
  have hNr := P3.new wr (.bool R.neg) (.slice vr R.mag.length cr) (.int .i64 R.exp) 26
  have HTr : Hid (Sl (wr.alloc (.cells #[.bool R.neg, .slice vr R.mag.length cr, .int .i64 R.exp] 26)) (.slice vr R.mag.length cr) R.mag) := hs.kept ((Kept.refl _).alloc _ _)
  obtain ⟨Yr, hYr⟩ : ∃ Y, Y = wr.alloc (.cells #[.bool R.neg, .slice vr R.mag.length cr, .int .i64 R.exp] 26) := ⟨_, rfl⟩
  obtain ⟨Br, hBr⟩ : ∃ B, B = wr.heap.size := ⟨_, rfl⟩
  rw [← hYr] at kr' hNr HTr
  rw [← hBr] at hNr
  rw [← hYr, ← hBr]
  have hP1 := hP1.kept kr'
  have hP2 := hP2.kept kr'
  have hQ1 := hQ1.kept kr'
  have hQ2 := hQ2.kept kr'
  have hNp := hNp.kept kr'
  have hNq := hNq.kept kr'
  have HS1 : Hid (Sl Yr (.slice va R1.mag.length vc) R1.mag) := HS1.out.kept kr'
  have HS2 : Hid (Sl Yr (.slice vb R2.mag.length vd) R2.mag) := HS2.out.kept kr'
  have HTp : Hid (Sl Yr (.slice vp P.mag.length cp) P.mag) := HTp.out.kept kr'
  have HTq : Hid (Sl Yr (.slice vq Q.mag.length cq) Q.mag) := HTq.out.kept kr'
  have kw := kw.trans kr'
  clear hYr hBr kr kr' hs
  obtain ⟨a0, a1, a2⟩ := hQ1
  have hQ1 := P3.mk a0 a1 a2
  go_upto_region 10 with (first | (go_at_call 16; refine (KN.out _ _ _ kw HS1.out HC1.out).mono ?_; rintro e wn ⟨v, rfl, hN, kn⟩; obtain ⟨vn, vv, vl, cv, vx, rfl⟩ := hN.shape; obtain ⟨rfl, rfl, rfl, hs⟩ := new_parts hN))
  clear a0 a1 a2 KN hN
  have kn' := kn.alloc #[.bool V.neg, .slice vv V.mag.length cv, .int .i64 V.exp] 26
  have hNn := P3.new wn (.bool V.neg) (.slice vv V.mag.length cv) (.int .i64 V.exp) 26
  have HTn : Hid (Sl (wn.alloc (.cells #[.bool V.neg, .slice vv V.mag.length cv, .int .i64 V.exp] 26)) (.slice vv V.mag.length cv) V.mag) := hs.kept ((Kept.refl _).alloc _ _)
  obtain ⟨Yn, hYn⟩ : ∃ Y, Y = wn.alloc (.cells #[.bool V.neg, .slice vv V.mag.length cv, .int .i64 V.exp] 26) := ⟨_, rfl⟩
  obtain ⟨Bn, hBn⟩ : ∃ B, B = wn.heap.size := ⟨_, rfl⟩
  rw [← hYn] at kn' hNn HTn
  rw [← hBn] at hNn
  rw [← hYn, ← hBn]
  have hP1 := hP1.kept kn'
  have hP2 := hP2.kept kn'
  have hQ1 := hQ1.kept kn'
  have hQ2 := hQ2.kept kn'
  have hNp := hNp.kept kn'
  have hNq := hNq.kept kn'
  have hNr := hNr.kept kn'
  have HS1 : Hid (Sl Yn (.slice va R1.mag.length vc) R1.mag) := HS1.out.kept kn'
  have HS2 : Hid (Sl Yn (.slice vb R2.mag.length vd) R2.mag) := HS2.out.kept kn'
  have HTp : Hid (Sl Yn (.slice vp P.mag.length cp) P.mag) := HTp.out.kept kn'
  have HTq : Hid (Sl Yn (.slice vq Q.mag.length cq) Q.mag) := HTq.out.kept kn'
  have HTr : Hid (Sl Yn (.slice vr R.mag.length cr) R.mag) := HTr.out.kept kn'
  have kw := kw.trans kn'
  clear hYn hBn kn kn' hs
  obtain ⟨a0, a1, af⟩ := hP1
  have hP1 := P2.mk a0 a1 af
  obtain ⟨b0, b1, bf⟩ := hP2
  have hP2 := P2.mk b0 b1 bf
  go_upto_region 11 with (first | (go_at_call 17; refine (KD.out _ kw).mono ?_; rintro e wc ⟨rfl, kc⟩))
  clear a0 a1 af b0 b1 bf KD
  have kc' := kc.alloc #[.int .i64 c1, .int .i64 c2] 23
  have hSc := P2.new wc (.int .i64 c1) (.int .i64 c2) 23
  obtain ⟨Yc, hYc⟩ : ∃ Y, Y = wc.alloc (.cells #[.int .i64 c1, .int .i64 c2] 23) := ⟨_, rfl⟩
  obtain ⟨Bc, hBc⟩ : ∃ B, B = wc.heap.size := ⟨_, rfl⟩
  rw [← hYc] at kc' hSc
  rw [← hBc] at hSc
  rw [← hYc, ← hBc]
  have hP1 := hP1.kept kc'
  have hP2 := hP2.kept kc'
  have hQ1 := hQ1.kept kc'
  have hQ2 := hQ2.kept kc'
  have hNp := hNp.kept kc'
  have hNq := hNq.kept kc'
  have hNr := hNr.kept kc'
  have hNn := hNn.kept kc'
  have HS1 : Hid (Sl Yc (.slice va R1.mag.length vc) R1.mag) := HS1.out.kept kc'
  have HS2 : Hid (Sl Yc (.slice vb R2.mag.length vd) R2.mag) := HS2.out.kept kc'
  have HTp : Hid (Sl Yc (.slice vp P.mag.length cp) P.mag) := HTp.out.kept kc'
  have HTq : Hid (Sl Yc (.slice vq Q.mag.length cq) Q.mag) := HTq.out.kept kc'
  have HTr : Hid (Sl Yc (.slice vr R.mag.length cr) R.mag) := HTr.out.kept kc'
  have HTn : Hid (Sl Yc (.slice vv V.mag.length cv) V.mag) := HTn.out.kept kc'
  have kw := kw.trans kc'
  clear hYc hBc kc kc'
  obtain ⟨a0, a1, af⟩ := hP1
  have hP1 := P2.mk a0 a1 af
  obtain ⟨b0, b1, bf⟩ := hP2
  have hP2 := P2.mk b0 b1 bf
  go_upto_region 12 with (first | (go_at_call 18; refine (KS.out _ kw).mono ?_; rintro e wd ⟨rfl, kd⟩))
  clear a0 a1 af b0 b1 bf KS
  have kd' := kd.alloc #[.int .i64 d1, .int .i64 d2] 23
  have hSd := P2.new wd (.int .i64 d1) (.int .i64 d2) 23
  obtain ⟨Yd, hYd⟩ : ∃ Y, Y = wd.alloc (.cells #[.int .i64 d1, .int .i64 d2] 23) := ⟨_, rfl⟩
  obtain ⟨Bd, hBd⟩ : ∃ B, B = wd.heap.size := ⟨_, rfl⟩
  rw [← hYd] at kd' hSd
  rw [← hBd] at hSd
  rw [← hYd, ← hBd]
  have hP1 := hP1.kept kd'
  have hP2 := hP2.kept kd'
  have hQ1 := hQ1.kept kd'
  have hQ2 := hQ2.kept kd'
  have hNp := hNp.kept kd'
  have hNq := hNq.kept kd'
  have hNr := hNr.kept kd'
  have hNn := hNn.kept kd'
  have hSc := hSc.kept kd'
  have HS1 : Hid (Sl Yd (.slice va R1.mag.length vc) R1.mag) := HS1.out.kept kd'
  have HS2 : Hid (Sl Yd (.slice vb R2.mag.length vd) R2.mag) := HS2.out.kept kd'
  have HTp : Hid (Sl Yd (.slice vp P.mag.length cp) P.mag) := HTp.out.kept kd'
  have HTq : Hid (Sl Yd (.slice vq Q.mag.length cq) Q.mag) := HTq.out.kept kd'
  have HTr : Hid (Sl Yd (.slice vr R.mag.length cr) R.mag) := HTr.out.kept kd'
  have HTn : Hid (Sl Yd (.slice vv V.mag.length cv) V.mag) := HTn.out.kept kd'
  have kw := kw.trans kd'
  clear hYd hBd kd kd'
  obtain ⟨a0, a1, af⟩ := hP1
  have hP1 := P2.mk a0 a1 af
  obtain ⟨b0, b1, bf⟩ := hP2
  have hP2 := P2.mk b0 b1 bf
  go_upto_region 13 with (first | (go_at_call 19; refine (KM.out _ kw).mono ?_; rintro e wm ⟨rfl, km⟩))
  clear a0 a1 af b0 b1 bf KM
  have km' := km.alloc #[.int .i64 m1, .int .i64 m2] 23
  have hSm := P2.new wm (.int .i64 m1) (.int .i64 m2) 23
  obtain ⟨Ym, hYm⟩ : ∃ Y, Y = wm.alloc (.cells #[.int .i64 m1, .int .i64 m2] 23) := ⟨_, rfl⟩
  obtain ⟨Bm, hBm⟩ : ∃ B, B = wm.heap.size := ⟨_, rfl⟩
  rw [← hYm] at km' hSm
  rw [← hBm] at hSm
  rw [← hYm, ← hBm]
  have hP1 := hP1.kept km'
  have hP2 := hP2.kept km'
  have hQ1 := hQ1.kept km'
  have hQ2 := hQ2.kept km'
  have hNp := hNp.kept km'
  have hNq := hNq.kept km'
  have hNr := hNr.kept km'
  have hNn := hNn.kept km'
  have hSc := hSc.kept km'
  have hSd := hSd.kept km'
  have HS1 : Hid (Sl Ym (.slice va R1.mag.length vc) R1.mag) := HS1.out.kept km'
  have HS2 : Hid (Sl Ym (.slice vb R2.mag.length vd) R2.mag) := HS2.out.kept km'
  have HTp : Hid (Sl Ym (.slice vp P.mag.length cp) P.mag) := HTp.out.kept km'
  have HTq : Hid (Sl Ym (.slice vq Q.mag.length cq) Q.mag) := HTq.out.kept km'
  have HTr : Hid (Sl Ym (.slice vr R.mag.length cr) R.mag) := HTr.out.kept km'
  have HTn : Hid (Sl Ym (.slice vv V.mag.length cv) V.mag) := HTn.out.kept km'
  have kw := kw.trans km'
  clear hYm hBm km km'
  obtain ⟨a0, a1, af⟩ := hP1
  have hP1 := P2.mk a0 a1 af
  go_upto_region 14 with (first | (go_at_call 20; refine (KG.out _ kw).mono ?_; rintro e wg ⟨rfl, kg⟩))
  clear a0 a1 af KG
  have kg' := kg.alloc #[.int .i64 g1, .int .i64 g2] 23
  have hSg := P2.new wg (.int .i64 g1) (.int .i64 g2) 23
  obtain ⟨Yg, hYg⟩ : ∃ Y, Y = wg.alloc (.cells #[.int .i64 g1, .int .i64 g2] 23) := ⟨_, rfl⟩
  obtain ⟨Bg, hBg⟩ : ∃ B, B = wg.heap.size := ⟨_, rfl⟩
  rw [← hYg] at kg' hSg
  rw [← hBg] at hSg
  rw [← hYg, ← hBg]
  have hP1 := hP1.kept kg'
  have hP2 := hP2.kept kg'
  have hQ1 := hQ1.kept kg'
  have hQ2 := hQ2.kept kg'
  have hNp := hNp.kept kg'
  have hNq := hNq.kept kg'
  have hNr := hNr.kept kg'
  have hNn := hNn.kept kg'
  have hSc := hSc.kept kg'
  have hSd := hSd.kept kg'
  have hSm := hSm.kept kg'
  have HS1 : Hid (Sl Yg (.slice va R1.mag.length vc) R1.mag) := HS1.out.kept kg'
  have HS2 : Hid (Sl Yg (.slice vb R2.mag.length vd) R2.mag) := HS2.out.kept kg'
  have HTp : Hid (Sl Yg (.slice vp P.mag.length cp) P.mag) := HTp.out.kept kg'
  have HTq : Hid (Sl Yg (.slice vq Q.mag.length cq) Q.mag) := HTq.out.kept kg'
  have HTr : Hid (Sl Yg (.slice vr R.mag.length cr) R.mag) := HTr.out.kept kg'
  have HTn : Hid (Sl Yg (.slice vv V.mag.length cv) V.mag) := HTn.out.kept kg'
  have kw := kw.trans kg'
  clear hYg hBg kg kg'
  obtain ⟨a0, a1, af⟩ := hP1
  have hP1 := P2.mk a0 a1 af
  obtain ⟨b0, b1, bf⟩ := hP2
  have hP2 := P2.mk b0 b1 bf
  go_upto_region 15 with (first | (go_at_call 21; refine (KJ.out _ kw).mono ?_; rintro e wj ⟨rfl, kj⟩))
  clear a0 a1 af b0 b1 bf KJ
  have kj' := kj.alloc #[.int .i64 j1, .int .i64 j2] 23
  have hSj := P2.new wj (.int .i64 j1) (.int .i64 j2) 23
  obtain ⟨Yj, hYj⟩ : ∃ Y, Y = wj.alloc (.cells #[.int .i64 j1, .int .i64 j2] 23) := ⟨_, rfl⟩
  obtain ⟨Bj, hBj⟩ : ∃ B, B = wj.heap.size := ⟨_, rfl⟩
  rw [← hYj] at kj' hSj
  rw [← hBj] at hSj
  rw [← hYj, ← hBj]
  have hP1 := hP1.kept kj'
  have hP2 := hP2.kept kj'
  have hQ1 := hQ1.kept kj'
  have hQ2 := hQ2.kept kj'
  have hNp := hNp.kept kj'
  have hNq := hNq.kept kj'
  have hNr := hNr.kept kj'
  have hNn := hNn.kept kj'
  have hSc := hSc.kept kj'
  have hSd := hSd.kept kj'
  have hSm := hSm.kept kj'
  have hSg := hSg.kept kj'
  have HS1 : Hid (Sl Yj (.slice va R1.mag.length vc) R1.mag) := HS1.out.kept kj'
  have HS2 : Hid (Sl Yj (.slice vb R2.mag.length vd) R2.mag) := HS2.out.kept kj'
  have HTp : Hid (Sl Yj (.slice vp P.mag.length cp) P.mag) := HTp.out.kept kj'
  have HTq : Hid (Sl Yj (.slice vq Q.mag.length cq) Q.mag) := HTq.out.kept kj'
  have HTr : Hid (Sl Yj (.slice vr R.mag.length cr) R.mag) := HTr.out.kept kj'
  have HTn : Hid (Sl Yj (.slice vv V.mag.length cv) V.mag) := HTn.out.kept kj'
  have kw := kw.trans kj'
  clear hYj hBj kj kj'
  obtain ⟨a0, a1, af⟩ := hP1
  have hP1 := P2.mk a0 a1 af
  obtain ⟨b0, b1, bf⟩ := hP2
  have hP2 := P2.mk b0 b1 bf
  obtain ⟨c0, c1, cf⟩ := hSg
  have hSg := P2.mk c0 c1 cf
  go_upto_region 16 with (first | (go_at_call 22; refine (KU.out _ _ _ (kw.alloc _ _) rfl (Kept.refl _)).mono ?_; rintro e wu ⟨rfl, ku⟩))
  clear a0 a1 af b0 b1 bf c0 c1 cf KU
  have ku' := (((Kept.refl Yj).alloc _ _).trans ku).alloc #[.int .i64 u1, .int .i64 u2] 23
  have hSu := P2.new wu (.int .i64 u1) (.int .i64 u2) 23
  obtain ⟨Yu, hYu⟩ : ∃ Y, Y = wu.alloc (.cells #[.int .i64 u1, .int .i64 u2] 23) := ⟨_, rfl⟩
  obtain ⟨Bu, hBu⟩ : ∃ B, B = wu.heap.size := ⟨_, rfl⟩
  rw [← hYu] at ku' hSu
  rw [← hBu] at hSu
  rw [← hYu, ← hBu]
  have hP1 := hP1.kept ku'
  have hP2 := hP2.kept ku'
  have hQ1 := hQ1.kept ku'
  have hQ2 := hQ2.kept ku'
  have hNp := hNp.kept ku'
  have hNq := hNq.kept ku'
  have hNr := hNr.kept ku'
  have hNn := hNn.kept ku'
  have hSc := hSc.kept ku'
  have hSd := hSd.kept ku'
  have hSm := hSm.kept ku'
  have hSg := hSg.kept ku'
  have hSj := hSj.kept ku'
  have HS1 : Hid (Sl Yu (.slice va R1.mag.length vc) R1.mag) := HS1.out.kept ku'
  have HS2 : Hid (Sl Yu (.slice vb R2.mag.length vd) R2.mag) := HS2.out.kept ku'
  have HTp : Hid (Sl Yu (.slice vp P.mag.length cp) P.mag) := HTp.out.kept ku'
  have HTq : Hid (Sl Yu (.slice vq Q.mag.length cq) Q.mag) := HTq.out.kept ku'
  have HTr : Hid (Sl Yu (.slice vr R.mag.length cr) R.mag) := HTr.out.kept ku'
  have HTn : Hid (Sl Yu (.slice vv V.mag.length cv) V.mag) := HTn.out.kept ku'
  have kw := kw.trans ku'
  clear hYu hBu ku ku'
  obtain ⟨a0, a1, af⟩ := hP1
  have hP1 := P2.mk a0 a1 af
  obtain ⟨b0, b1, b2⟩ := hQ1
  have hQ1 := P3.mk b0 b1 b2
  go_wp2_with fail
  refine (KH.out _ _ _ _ _ _ (.inl ⟨rfl, rfl, rfl⟩) kw HS1.out).mono ?_
  rintro e wh0 ⟨rfl, kh0'⟩
  clear a0 a1 af b0 b1 b2
  have hP1 := hP1.kept kh0'
  have hP2 := hP2.kept kh0'
  have hQ1 := hQ1.kept kh0'
  have hQ2 := hQ2.kept kh0'
  have hNp := hNp.kept kh0'
  have hNq := hNq.kept kh0'
  have hNr := hNr.kept kh0'
  have hNn := hNn.kept kh0'
  have hSc := hSc.kept kh0'
  have hSd := hSd.kept kh0'
  have hSm := hSm.kept kh0'
  have hSg := hSg.kept kh0'
  have hSj := hSj.kept kh0'
  have hSu := hSu.kept kh0'
  have HS1 : Hid (Sl wh0 (.slice va R1.mag.length vc) R1.mag) := HS1.out.kept kh0'
  have HS2 : Hid (Sl wh0 (.slice vb R2.mag.length vd) R2.mag) := HS2.out.kept kh0'
  have HTp : Hid (Sl wh0 (.slice vp P.mag.length cp) P.mag) := HTp.out.kept kh0'
  have HTq : Hid (Sl wh0 (.slice vq Q.mag.length cq) Q.mag) := HTq.out.kept kh0'
  have HTr : Hid (Sl wh0 (.slice vr R.mag.length cr) R.mag) := HTr.out.kept kh0'
  have HTn : Hid (Sl wh0 (.slice vv V.mag.length cv) V.mag) := HTn.out.kept kh0'
  have kw := kw.trans kh0'
  clear kh0'
  obtain ⟨a0, a1, af⟩ := hSc
  have hSc := P2.mk a0 a1 af
  obtain ⟨b0, b1, b2⟩ := hNp
  have hNp := P3.mk b0 b1 b2
  go_wp2_with fail
  refine (KH.out _ _ _ _ _ _ (.inr (.inl ⟨rfl, rfl, rfl⟩)) kw HTp.out).mono ?_
  rintro e wh1 ⟨rfl, kh1'⟩
  clear a0 a1 af b0 b1 b2
  have hP1 := hP1.kept kh1'
  have hP2 := hP2.kept kh1'
  have hQ1 := hQ1.kept kh1'
  have hQ2 := hQ2.kept kh1'
  have hNp := hNp.kept kh1'
  have hNq := hNq.kept kh1'
  have hNr := hNr.kept kh1'
  have hNn := hNn.kept kh1'
  have hSc := hSc.kept kh1'
  have hSd := hSd.kept kh1'
  have hSm := hSm.kept kh1'
  have hSg := hSg.kept kh1'
  have hSj := hSj.kept kh1'
  have hSu := hSu.kept kh1'
  have HS1 : Hid (Sl wh1 (.slice va R1.mag.length vc) R1.mag) := HS1.out.kept kh1'
  have HS2 : Hid (Sl wh1 (.slice vb R2.mag.length vd) R2.mag) := HS2.out.kept kh1'
  have HTp : Hid (Sl wh1 (.slice vp P.mag.length cp) P.mag) := HTp.out.kept kh1'
  have HTq : Hid (Sl wh1 (.slice vq Q.mag.length cq) Q.mag) := HTq.out.kept kh1'
  have HTr : Hid (Sl wh1 (.slice vr R.mag.length cr) R.mag) := HTr.out.kept kh1'
  have HTn : Hid (Sl wh1 (.slice vv V.mag.length cv) V.mag) := HTn.out.kept kh1'
  have kw := kw.trans kh1'
  clear kh1'
  obtain ⟨a0, a1, af⟩ := hSd
  have hSd := P2.mk a0 a1 af
  obtain ⟨b0, b1, b2⟩ := hNq
  have hNq := P3.mk b0 b1 b2
  go_wp2_with fail
  refine (KH.out _ _ _ _ _ _ (.inr (.inr (.inl ⟨rfl, rfl, rfl⟩))) kw HTq.out).mono ?_
  rintro e wh2 ⟨rfl, kh2'⟩
  clear a0 a1 af b0 b1 b2
  have hP1 := hP1.kept kh2'
  have hP2 := hP2.kept kh2'
  have hQ1 := hQ1.kept kh2'
  have hQ2 := hQ2.kept kh2'
  have hNp := hNp.kept kh2'
  have hNq := hNq.kept kh2'
  have hNr := hNr.kept kh2'
  have hNn := hNn.kept kh2'
  have hSc := hSc.kept kh2'
  have hSd := hSd.kept kh2'
  have hSm := hSm.kept kh2'
  have hSg := hSg.kept kh2'
  have hSj := hSj.kept kh2'
  have hSu := hSu.kept kh2'
  have HS1 : Hid (Sl wh2 (.slice va R1.mag.length vc) R1.mag) := HS1.out.kept kh2'
  have HS2 : Hid (Sl wh2 (.slice vb R2.mag.length vd) R2.mag) := HS2.out.kept kh2'
  have HTp : Hid (Sl wh2 (.slice vp P.mag.length cp) P.mag) := HTp.out.kept kh2'
  have HTq : Hid (Sl wh2 (.slice vq Q.mag.length cq) Q.mag) := HTq.out.kept kh2'
  have HTr : Hid (Sl wh2 (.slice vr R.mag.length cr) R.mag) := HTr.out.kept kh2'
  have HTn : Hid (Sl wh2 (.slice vv V.mag.length cv) V.mag) := HTn.out.kept kh2'
  have kw := kw.trans kh2'
  clear kh2'
  obtain ⟨a0, a1, af⟩ := hSm
  have hSm := P2.mk a0 a1 af
  obtain ⟨b0, b1, b2⟩ := hNr
  have hNr := P3.mk b0 b1 b2
  go_wp2_with fail
  refine (KH.out _ _ _ _ _ _ (.inr (.inr (.inr (.inl ⟨rfl, rfl, rfl⟩)))) kw HTr.out).mono ?_
  rintro e wh3 ⟨rfl, kh3'⟩
  clear a0 a1 af b0 b1 b2
  have hP1 := hP1.kept kh3'
  have hP2 := hP2.kept kh3'
  have hQ1 := hQ1.kept kh3'
  have hQ2 := hQ2.kept kh3'
  have hNp := hNp.kept kh3'
  have hNq := hNq.kept kh3'
  have hNr := hNr.kept kh3'
  have hNn := hNn.kept kh3'
  have hSc := hSc.kept kh3'
  have hSd := hSd.kept kh3'
  have hSm := hSm.kept kh3'
  have hSg := hSg.kept kh3'
  have hSj := hSj.kept kh3'
  have hSu := hSu.kept kh3'
  have HS1 : Hid (Sl wh3 (.slice va R1.mag.length vc) R1.mag) := HS1.out.kept kh3'
  have HS2 : Hid (Sl wh3 (.slice vb R2.mag.length vd) R2.mag) := HS2.out.kept kh3'
  have HTp : Hid (Sl wh3 (.slice vp P.mag.length cp) P.mag) := HTp.out.kept kh3'
  have HTq : Hid (Sl wh3 (.slice vq Q.mag.length cq) Q.mag) := HTq.out.kept kh3'
  have HTr : Hid (Sl wh3 (.slice vr R.mag.length cr) R.mag) := HTr.out.kept kh3'
  have HTn : Hid (Sl wh3 (.slice vv V.mag.length cv) V.mag) := HTn.out.kept kh3'
  have kw := kw.trans kh3'
  clear kh3'
  obtain ⟨a0, a1, af⟩ := hSg
  have hSg := P2.mk a0 a1 af
  obtain ⟨b0, b1, b2⟩ := hNn
  have hNn := P3.mk b0 b1 b2
  go_wp2_with fail
  refine (KH.out _ _ _ _ _ _ (.inr (.inr (.inr (.inr (.inl ⟨rfl, rfl, rfl⟩))))) kw HTn.out).mono ?_
  rintro e wh4 ⟨rfl, kh4'⟩
  clear a0 a1 af b0 b1 b2
  have hP1 := hP1.kept kh4'
  have hP2 := hP2.kept kh4'
  have hQ1 := hQ1.kept kh4'
  have hQ2 := hQ2.kept kh4'
  have hNp := hNp.kept kh4'
  have hNq := hNq.kept kh4'
  have hNr := hNr.kept kh4'
  have hNn := hNn.kept kh4'
  have hSc := hSc.kept kh4'
  have hSd := hSd.kept kh4'
  have hSm := hSm.kept kh4'
  have hSg := hSg.kept kh4'
  have hSj := hSj.kept kh4'
  have hSu := hSu.kept kh4'
  have HS1 : Hid (Sl wh4 (.slice va R1.mag.length vc) R1.mag) := HS1.out.kept kh4'
  have HS2 : Hid (Sl wh4 (.slice vb R2.mag.length vd) R2.mag) := HS2.out.kept kh4'
  have HTp : Hid (Sl wh4 (.slice vp P.mag.length cp) P.mag) := HTp.out.kept kh4'
  have HTq : Hid (Sl wh4 (.slice vq Q.mag.length cq) Q.mag) := HTq.out.kept kh4'
  have HTr : Hid (Sl wh4 (.slice vr R.mag.length cr) R.mag) := HTr.out.kept kh4'
  have HTn : Hid (Sl wh4 (.slice vv V.mag.length cv) V.mag) := HTn.out.kept kh4'
  have kw := kw.trans kh4'
  clear kh4'
  obtain ⟨a0, a1, af⟩ := hSj
  have hSj := P2.mk a0 a1 af
  obtain ⟨b0, b1, b2⟩ := hQ1
  have hQ1 := P3.mk b0 b1 b2
  go_wp2_with fail
  refine (KH.out _ _ _ _ _ _ (.inr (.inr (.inr (.inr (.inr (.inl ⟨rfl, rfl, rfl⟩)))))) kw HS1.out).mono ?_
  rintro e wh5 ⟨rfl, kh5'⟩
  clear a0 a1 af b0 b1 b2
  have hP1 := hP1.kept kh5'
  have hP2 := hP2.kept kh5'
  have hQ1 := hQ1.kept kh5'
  have hQ2 := hQ2.kept kh5'
  have hNp := hNp.kept kh5'
  have hNq := hNq.kept kh5'
  have hNr := hNr.kept kh5'
  have hNn := hNn.kept kh5'
  have hSc := hSc.kept kh5'
  have hSd := hSd.kept kh5'
  have hSm := hSm.kept kh5'
  have hSg := hSg.kept kh5'
  have hSj := hSj.kept kh5'
  have hSu := hSu.kept kh5'
  have HS1 : Hid (Sl wh5 (.slice va R1.mag.length vc) R1.mag) := HS1.out.kept kh5'
  have HS2 : Hid (Sl wh5 (.slice vb R2.mag.length vd) R2.mag) := HS2.out.kept kh5'
  have HTp : Hid (Sl wh5 (.slice vp P.mag.length cp) P.mag) := HTp.out.kept kh5'
  have HTq : Hid (Sl wh5 (.slice vq Q.mag.length cq) Q.mag) := HTq.out.kept kh5'
  have HTr : Hid (Sl wh5 (.slice vr R.mag.length cr) R.mag) := HTr.out.kept kh5'
  have HTn : Hid (Sl wh5 (.slice vv V.mag.length cv) V.mag) := HTn.out.kept kh5'
  have kw := kw.trans kh5'
  clear kh5'
  obtain ⟨a0, a1, af⟩ := hSj
  have hSj := P2.mk a0 a1 af
  obtain ⟨b0, b1, b2⟩ := hQ2
  have hQ2 := P3.mk b0 b1 b2
  go_wp2_with fail
  refine (KH.out _ _ _ _ _ _ (.inr (.inr (.inr (.inr (.inr (.inr (.inl ⟨rfl, rfl, rfl⟩))))))) kw HS2.out).mono ?_
  rintro e wh6 ⟨rfl, kh6'⟩
  clear a0 a1 af b0 b1 b2
  have hP1 := hP1.kept kh6'
  have hP2 := hP2.kept kh6'
  have hQ1 := hQ1.kept kh6'
  have hQ2 := hQ2.kept kh6'
  have hNp := hNp.kept kh6'
  have hNq := hNq.kept kh6'
  have hNr := hNr.kept kh6'
  have hNn := hNn.kept kh6'
  have hSc := hSc.kept kh6'
  have hSd := hSd.kept kh6'
  have hSm := hSm.kept kh6'
  have hSg := hSg.kept kh6'
  have hSj := hSj.kept kh6'
  have hSu := hSu.kept kh6'
  have HS1 : Hid (Sl wh6 (.slice va R1.mag.length vc) R1.mag) := HS1.out.kept kh6'
  have HS2 : Hid (Sl wh6 (.slice vb R2.mag.length vd) R2.mag) := HS2.out.kept kh6'
  have HTp : Hid (Sl wh6 (.slice vp P.mag.length cp) P.mag) := HTp.out.kept kh6'
  have HTq : Hid (Sl wh6 (.slice vq Q.mag.length cq) Q.mag) := HTq.out.kept kh6'
  have HTr : Hid (Sl wh6 (.slice vr R.mag.length cr) R.mag) := HTr.out.kept kh6'
  have HTn : Hid (Sl wh6 (.slice vv V.mag.length cv) V.mag) := HTn.out.kept kh6'
  have kw := kw.trans kh6'
  clear kh6'
  obtain ⟨a0, a1, af⟩ := hSu
  have hSu := P2.mk a0 a1 af
  obtain ⟨b0, b1, b2⟩ := hQ2
  have hQ2 := P3.mk b0 b1 b2
  go_wp2_with fail
  refine (KH.out _ _ _ _ _ _ (.inr (.inr (.inr (.inr (.inr (.inr (.inr (⟨rfl, rfl, rfl⟩)))))))) kw HS2.out).mono ?_
  rintro e wh7 ⟨rfl, kh7'⟩
  clear a0 a1 af b0 b1 b2
  have hP1 := hP1.kept kh7'
  have hP2 := hP2.kept kh7'
  have hQ1 := hQ1.kept kh7'
  have hQ2 := hQ2.kept kh7'
  have hNp := hNp.kept kh7'
  have hNq := hNq.kept kh7'
  have hNr := hNr.kept kh7'
  have hNn := hNn.kept kh7'
  have hSc := hSc.kept kh7'
  have hSd := hSd.kept kh7'
  have hSm := hSm.kept kh7'
  have hSg := hSg.kept kh7'
  have hSj := hSj.kept kh7'
  have hSu := hSu.kept kh7'
  have HS1 : Hid (Sl wh7 (.slice va R1.mag.length vc) R1.mag) := HS1.out.kept kh7'
  have HS2 : Hid (Sl wh7 (.slice vb R2.mag.length vd) R2.mag) := HS2.out.kept kh7'
  have HTp : Hid (Sl wh7 (.slice vp P.mag.length cp) P.mag) := HTp.out.kept kh7'
  have HTq : Hid (Sl wh7 (.slice vq Q.mag.length cq) Q.mag) := HTq.out.kept kh7'
  have HTr : Hid (Sl wh7 (.slice vr R.mag.length cr) R.mag) := HTr.out.kept kh7'
  have HTn : Hid (Sl wh7 (.slice vv V.mag.length cv) V.mag) := HTn.out.kept kh7'
  have kw := kw.trans kh7'
  clear kh7'
  clear KH
  obtain ⟨a0, a1, af⟩ := hP1
  have hP1 := P2.mk a0 a1 af
  obtain ⟨b0, b1, bf⟩ := hP2
  have hP2 := P2.mk b0 b1 bf
  go_upto_region 19 with (first | (go_at_call 24; refine (KV.out _ kw).mono ?_; rintro e wz ⟨rfl, kz⟩))
  clear a0 a1 af b0 b1 bf KV
  have kz' := kz.alloc #[.int .i64 z1, .int .i64 z2] 23
  have hSz := P2.new wz (.int .i64 z1) (.int .i64 z2) 23
  obtain ⟨Yz, hYz⟩ : ∃ Y, Y = wz.alloc (.cells #[.int .i64 z1, .int .i64 z2] 23) := ⟨_, rfl⟩
  obtain ⟨Bz, hBz⟩ : ∃ B, B = wz.heap.size := ⟨_, rfl⟩
  rw [← hYz] at kz' hSz
  rw [← hBz] at hSz
  rw [← hYz, ← hBz]
  have hP1 := hP1.kept kz'
  have hP2 := hP2.kept kz'
  have hQ1 := hQ1.kept kz'
  have hQ2 := hQ2.kept kz'
  have HS1 : Hid (Sl Yz (.slice va R1.mag.length vc) R1.mag) := HS1.out.kept kz'
  have HS2 : Hid (Sl Yz (.slice vb R2.mag.length vd) R2.mag) := HS2.out.kept kz'
  have kw := kw.trans kz'
  clear hYz hBz kz kz'
  obtain ⟨b0, b1, bf⟩ := hP2
  have hP2 := P2.mk b0 b1 bf
  go_wp2_with (first | (go_at_call 25; refine (KZ.out _ kw).mono ?_; rintro e wy ⟨rfl, ky⟩))
  go_ret
  exact ⟨rfl, kw.trans ky⟩
set_option maxHeartbeats 8000000 in
set_option maxRecDepth 100000 in
theorem holdB_64 (a b bw av w0 s2 l1 h1 l2 h2 : Int) (hw0 : bits .and .i64 w0 1 = 1) (hs2v : bw / 8 = s2) (ok1 ok2 : Bool) (R1 R2 : Nm) (hok1 : ok1 = true) (hok2 : ok2 = true) (P Q R V : Nm) (c1 c2 d1 d2 m1 m2 g1 g2 j1 j2 u1 u2 z1 z2 lo hi er3 er4 : Int) (o3 o4 : Bool) (w : World)
    (KL : Hid (∀ u q x y l h ok R, (q = a ∧ x = bw ∧ y = av ∧ l = l1 ∧ h = h1 ∧ ok = ok1 ∧ R = R1 ∨ q = b ∧ x = av ∧ y = s2 ∧ l = l2 ∧ h = h2 ∧ ok = ok2 ∧ R = R2) → Kept w u → Calls Tryz.prog 12 #[.int .i64 q, .int .i64 x, .int .i64 y, .int .i64 64] u fun e w' => ∃ v, e = .returned (.tuple #[sp2 l h, v, .bool ok]) ∧ New u w' v R ∧ Kept u w'))
    (KA : Hid (∀ u, Kept w u → Calls Tryz.prog 8 #[] u fun e w' => e = .returned (.bool true) ∧ Kept u w'))
    (KP : Hid (∀ u a1 d1 a2 d2, Kept w u → Sl u (.slice a1 R1.mag.length d1) R1.mag → Sl u (.slice a2 R2.mag.length d2) R2.mag → Calls Tryz.prog 13 #[.agg #[.bool R1.neg, .slice a1 R1.mag.length d1, .int .i64 R1.exp], .agg #[.bool R2.neg, .slice a2 R2.mag.length d2, .int .i64 R2.exp]] u fun e w' => ∃ v, e = .returned (.tuple #[v, .int .i64 0]) ∧ New u w' v P ∧ Kept u w'))
    (KQ : Hid (∀ u a1 d1 a2 d2, Kept w u → Sl u (.slice a1 R1.mag.length d1) R1.mag → Sl u (.slice a2 R2.mag.length d2) R2.mag → Calls Tryz.prog 14 #[.agg #[.bool R1.neg, .slice a1 R1.mag.length d1, .int .i64 R1.exp], .agg #[.bool R2.neg, .slice a2 R2.mag.length d2, .int .i64 R2.exp]] u fun e w' => ∃ v, e = .returned (.tuple #[v, .int .i64 0]) ∧ New u w' v Q ∧ Kept u w'))
    (KR : Hid (∀ u a1 d1 a2 d2, Kept w u → Sl u (.slice a1 R1.mag.length d1) R1.mag → Sl u (.slice a2 R2.mag.length d2) R2.mag → Calls Tryz.prog 15 #[.agg #[.bool R1.neg, .slice a1 R1.mag.length d1, .int .i64 R1.exp], .agg #[.bool R2.neg, .slice a2 R2.mag.length d2, .int .i64 R2.exp]] u fun e w' => ∃ v, e = .returned (.tuple #[v, .int .i64 0]) ∧ New u w' v R ∧ Kept u w'))
    (KN : Hid (∀ u a1 d1, Kept w u → Sl u (.slice a1 R1.mag.length d1) R1.mag → (a1 = none → d1 = 0) → Calls Tryz.prog 16 #[.agg #[.bool R1.neg, .slice a1 R1.mag.length d1, .int .i64 R1.exp]] u fun e w' => ∃ v, e = .returned (.tuple #[v, .int .i64 0]) ∧ New u w' v V ∧ Kept u w'))
    (KD : Hid (∀ u, Kept w u → Calls Tryz.prog 17 #[sp2 l1 h1, sp2 l2 h2, .int .i64 64] u fun e w' => e = .returned (.tuple #[sp2 c1 c2, .int .i64 0]) ∧ Kept u w'))
    (KS : Hid (∀ u, Kept w u → Calls Tryz.prog 18 #[sp2 l1 h1, sp2 l2 h2, .int .i64 64] u fun e w' => e = .returned (.tuple #[sp2 d1 d2, .int .i64 0]) ∧ Kept u w'))
    (KM : Hid (∀ u, Kept w u → Calls Tryz.prog 19 #[sp2 l1 h1, sp2 l2 h2, .int .i64 64] u fun e w' => e = .returned (.tuple #[sp2 m1 m2, .int .i64 0]) ∧ Kept u w'))
    (KG : Hid (∀ u, Kept w u → Calls Tryz.prog 20 #[sp2 l1 h1, .int .i64 64] u fun e w' => e = .returned (.tuple #[sp2 g1 g2, .int .i64 0]) ∧ Kept u w'))
    (KJ : Hid (∀ u, Kept w u → Calls Tryz.prog 21 #[sp2 l1 h1, sp2 l2 h2, .int .i64 64] u fun e w' => e = .returned (.tuple #[sp2 j1 j2, .int .i64 0]) ∧ Kept u w'))
    (KU : Hid (∀ (u v : World) (B : Nat), Kept w u → B = v.heap.size → Kept (v.alloc (.cells #[.int .i64 l1, .int .i64 h1, .int .i64 l2, .int .i64 h2, .int .i64 g1, .int .i64 g2] 23)) u → Calls Tryz.prog 22 #[.slice (some ⟨B, 0, none⟩) 3 3, .int .i64 64] u fun e w' => e = .returned (.tuple #[sp2 u1 u2, .int .i64 0]) ∧ Kept u w'))
    (KH : Hid (∀ u o1 o2 T a9 d9, (o1 = l1 ∧ o2 = h1 ∧ T = R1 ∨ o1 = c1 ∧ o2 = c2 ∧ T = P ∨ o1 = d1 ∧ o2 = d2 ∧ T = Q ∨ o1 = m1 ∧ o2 = m2 ∧ T = R ∨ o1 = g1 ∧ o2 = g2 ∧ T = V ∨ o1 = j1 ∧ o2 = j2 ∧ T = R1 ∨ o1 = j1 ∧ o2 = j2 ∧ T = R2 ∨ o1 = u1 ∧ o2 = u2 ∧ T = R2) → Kept w u → Sl u (.slice a9 T.mag.length d9) T.mag → Calls Tryz.prog 23 #[sp2 o1 o2, .int .i64 0, .agg #[.bool T.neg, .slice a9 T.mag.length d9, .int .i64 T.exp], .int .i64 64] u fun e w' => e = .returned (.bool true) ∧ Kept u w'))
    (KV : Hid (∀ u, Kept w u → Calls Tryz.prog 24 #[sp2 l1 h1, sp2 l2 h2, .int .i64 64] u fun e w' => e = .returned (.tuple #[sp2 z1 z2, .int .i64 0]) ∧ Kept u w'))
    (KZ : Hid (∀ u, Kept w u → Calls Tryz.prog 25 #[sp2 l2 h2, .agg #[.bool false, .slice none 0 0, .int .i64 0], .int .i64 64] u fun e w' => e = .returned (.tuple #[.bool false, .int .i64 0]) ∧ Kept u w'))
    (KW : Hid (∀ u, Calls Tryz.prog 26 #[sp2 z1 z2, .int .i64 64] u fun e w' => e = .returned (.bool true) ∧ Kept u w'))
    (KT : Hid (∀ u a1 d1 a2 d2 way z o er, (way = 1 ∧ z = lo ∧ o = o3 ∧ er = er3 ∨ way = 2 ∧ z = hi ∧ o = o4 ∧ er = er4) → Kept w u → Sl u (.slice a1 R1.mag.length d1) R1.mag → Sl u (.slice a2 R2.mag.length d2) R2.mag → Calls Tryz.prog 27 #[.agg #[.bool R1.neg, .slice a1 R1.mag.length d1, .int .i64 R1.exp], .agg #[.bool R2.neg, .slice a2 R2.mag.length d2, .int .i64 R2.exp], .int .i64 64, .int .i64 way] u fun e w' => e = .returned (.tuple #[.int .i64 z, .bool o, .int .i64 er]) ∧ Kept u w'))
    (KB : Hid (∀ u x y, (x = lo ∧ y = z1 ∨ x = z2 ∧ y = hi) → Calls Tryz.prog 28 #[.int .i64 x, .int .i64 y, .int .i64 64] u fun e w' => e = .returned (.bool false) ∧ Kept u w')) :
    Calls Tryz.prog 7 #[.int .i64 a, .int .i64 b, .int .i64 bw, .int .i64 av, .int .i64 w0] w fun e w' => e = .returned (.bool true) ∧ Kept w w' := by
  go_enter Tryz.func7, Tryz.ntmps7
  go_upto_region 3 with (first | (go_at_call 12; refine (KL.out _ _ _ _ _ _ _ _ (.inl ⟨rfl, rfl, rfl, rfl, rfl, rfl, rfl⟩) (Kept.refl _)).mono ?_; rintro e w1 ⟨v, rfl, hN1, k1⟩; obtain ⟨vn, va, vl, vc, vx, rfl⟩ := hN1.shape; have HC1 : Hid (va = none → vc = 0) := new_cap hN1; obtain ⟨rfl, rfl, rfl, hs1⟩ := new_parts hN1))
  have HS1 : Hid (Sl w1 (.slice va R1.mag.length vc) R1.mag) := hs1
  clear hs1 hN1
  have hP1 := (P2.new w1 (.int .i64 l1) (.int .i64 h1) 23).alloc #[.bool R1.neg, .slice va R1.mag.length vc, .int .i64 R1.exp] 26
  have hQ1 : P3 ((w1.alloc (.cells #[.int .i64 l1, .int .i64 h1] 23)).alloc (.cells #[.bool R1.neg, .slice va R1.mag.length vc, .int .i64 R1.exp] 26)) (w1.heap.size + 1) (.bool R1.neg) (.slice va R1.mag.length vc) (.int .i64 R1.exp) := by
    have := P3.new (w1.alloc (.cells #[.int .i64 l1, .int .i64 h1] 23)) (.bool R1.neg) (.slice va R1.mag.length vc) (.int .i64 R1.exp) 26
    simpa using this
  have kY1 : Kept w1 ((w1.alloc (.cells #[.int .i64 l1, .int .i64 h1] 23)).alloc (.cells #[.bool R1.neg, .slice va R1.mag.length vc, .int .i64 R1.exp] 26)) := ((Kept.refl w1).alloc _ _).alloc _ _
  obtain ⟨Y1, hY1⟩ : ∃ Y, Y = (w1.alloc (.cells #[.int .i64 l1, .int .i64 h1] 23)).alloc (.cells #[.bool R1.neg, .slice va R1.mag.length vc, .int .i64 R1.exp] 26) := ⟨_, rfl⟩
  obtain ⟨B1, hB1⟩ : ∃ B, B = w1.heap.size := ⟨_, rfl⟩
  obtain ⟨B2, hB2⟩ : ∃ B, B = B1 + 1 := ⟨_, rfl⟩
  rw [← hY1] at hP1 hQ1 kY1
  rw [← hB1] at hP1 hQ1
  rw [← hB2] at hQ1
  rw [← hY1, ← hB1, ← hB2]
  have kw1 := k1.trans kY1
  have HS1' : Hid (Sl Y1 (.slice va R1.mag.length vc) R1.mag) := HS1.out.kept kY1
  clear hY1 hB1 hB2 k1 kY1 HS1
  go_upto_region 4 with (first | (go_at_call 12; refine (KL.out _ _ _ _ _ _ _ _ (.inr ⟨rfl, rfl, by first | rfl | assumption, rfl, rfl, rfl, rfl⟩) kw1).mono ?_; rintro e w2 ⟨v, rfl, hN2, k2⟩; obtain ⟨vn, vb, vl, vd, vx, rfl⟩ := hN2.shape; obtain ⟨rfl, rfl, rfl, hs2⟩ := new_parts hN2))
  clear KL
  have HS2 : Hid (Sl w2 (.slice vb R2.mag.length vd) R2.mag) := hs2
  clear hs2 hN2
  have hP2 := (P2.new w2 (.int .i64 l2) (.int .i64 h2) 23).alloc #[.bool R2.neg, .slice vb R2.mag.length vd, .int .i64 R2.exp] 26
  have hQ2 : P3 ((w2.alloc (.cells #[.int .i64 l2, .int .i64 h2] 23)).alloc (.cells #[.bool R2.neg, .slice vb R2.mag.length vd, .int .i64 R2.exp] 26)) (w2.heap.size + 1) (.bool R2.neg) (.slice vb R2.mag.length vd) (.int .i64 R2.exp) := by
    have := P3.new (w2.alloc (.cells #[.int .i64 l2, .int .i64 h2] 23)) (.bool R2.neg) (.slice vb R2.mag.length vd) (.int .i64 R2.exp) 26
    simpa using this
  have kY2 : Kept w2 ((w2.alloc (.cells #[.int .i64 l2, .int .i64 h2] 23)).alloc (.cells #[.bool R2.neg, .slice vb R2.mag.length vd, .int .i64 R2.exp] 26)) := ((Kept.refl w2).alloc _ _).alloc _ _
  obtain ⟨Y2, hY2⟩ : ∃ Y, Y = (w2.alloc (.cells #[.int .i64 l2, .int .i64 h2] 23)).alloc (.cells #[.bool R2.neg, .slice vb R2.mag.length vd, .int .i64 R2.exp] 26) := ⟨_, rfl⟩
  obtain ⟨B3, hB3⟩ : ∃ B, B = w2.heap.size := ⟨_, rfl⟩
  obtain ⟨B4, hB4⟩ : ∃ B, B = B3 + 1 := ⟨_, rfl⟩
  rw [← hY2] at hP2 hQ2 kY2
  rw [← hB3] at hP2 hQ2
  rw [← hB4] at hQ2
  rw [← hY2, ← hB3, ← hB4]
  have k12 := k2.trans kY2
  have kw2 := kw1.trans k12
  have hP1 := hP1.kept k12
  have hQ1 := hQ1.kept k12
  have HS1 : Hid (Sl Y2 (.slice va R1.mag.length vc) R1.mag) := HS1'.out.kept k12
  have HS2' : Hid (Sl Y2 (.slice vb R2.mag.length vd) R2.mag) := HS2.out.kept kY2
  clear hY2 hB3 hB4 k2 kY2 HS2 HS1' k12 kw1 hw0 hs2v
  subst hok1 hok2
  go_upto_region 6 with (first | (go_at_call 8; refine (KA.out _ kw2).mono ?_; rintro e w3 ⟨rfl, k3⟩))
  have hP1 := hP1.kept k3
  have hQ1 := hQ1.kept k3
  have hP2 := hP2.kept k3
  have hQ2 := hQ2.kept k3
  have kw := kw2.trans k3
  have HS1 : Hid (Sl w3 (.slice va R1.mag.length vc) R1.mag) := HS1.out.kept k3
  have HS2 : Hid (Sl w3 (.slice vb R2.mag.length vd) R2.mag) := HS2'.out.kept k3
  clear HS2' k3 kw2 KA
  obtain ⟨a0, a1, a2⟩ := hQ1
  have hQ1 := P3.mk a0 a1 a2
  obtain ⟨b0, b1, b2⟩ := hQ2
  have hQ2 := P3.mk b0 b1 b2
  go_upto_region 7 with (first | (go_at_call 13; refine (KP.out _ _ _ _ _ kw HS1.out HS2.out).mono ?_; rintro e wp ⟨v, rfl, hN, kp⟩; obtain ⟨vn, vp, vl, cp, vx, rfl⟩ := hN.shape; obtain ⟨rfl, rfl, rfl, hs⟩ := new_parts hN))
  clear a0 a1 a2 b0 b1 b2 KP hN
  have kp' := kp.alloc #[.bool P.neg, .slice vp P.mag.length cp, .int .i64 P.exp] 26
  have hNp := P3.new wp (.bool P.neg) (.slice vp P.mag.length cp) (.int .i64 P.exp) 26
  have HTp : Hid (Sl (wp.alloc (.cells #[.bool P.neg, .slice vp P.mag.length cp, .int .i64 P.exp] 26)) (.slice vp P.mag.length cp) P.mag) := hs.kept ((Kept.refl _).alloc _ _)
  obtain ⟨Yp, hYp⟩ : ∃ Y, Y = wp.alloc (.cells #[.bool P.neg, .slice vp P.mag.length cp, .int .i64 P.exp] 26) := ⟨_, rfl⟩
  obtain ⟨Bp, hBp⟩ : ∃ B, B = wp.heap.size := ⟨_, rfl⟩
  rw [← hYp] at kp' hNp HTp
  rw [← hBp] at hNp
  rw [← hYp, ← hBp]
  have hP1 := hP1.kept kp'
  have hP2 := hP2.kept kp'
  have hQ1 := hQ1.kept kp'
  have hQ2 := hQ2.kept kp'
  have HS1 : Hid (Sl Yp (.slice va R1.mag.length vc) R1.mag) := HS1.out.kept kp'
  have HS2 : Hid (Sl Yp (.slice vb R2.mag.length vd) R2.mag) := HS2.out.kept kp'
  have kw := kw.trans kp'
  clear hYp hBp kp kp' hs
  obtain ⟨a0, a1, a2⟩ := hQ1
  have hQ1 := P3.mk a0 a1 a2
  obtain ⟨b0, b1, b2⟩ := hQ2
  have hQ2 := P3.mk b0 b1 b2
  go_upto_region 8 with (first | (go_at_call 14; refine (KQ.out _ _ _ _ _ kw HS1.out HS2.out).mono ?_; rintro e wq ⟨v, rfl, hN, kq⟩; obtain ⟨vn, vq, vl, cq, vx, rfl⟩ := hN.shape; obtain ⟨rfl, rfl, rfl, hs⟩ := new_parts hN))
  clear a0 a1 a2 b0 b1 b2 KQ hN
  have kq' := kq.alloc #[.bool Q.neg, .slice vq Q.mag.length cq, .int .i64 Q.exp] 26
  have hNq := P3.new wq (.bool Q.neg) (.slice vq Q.mag.length cq) (.int .i64 Q.exp) 26
  have HTq : Hid (Sl (wq.alloc (.cells #[.bool Q.neg, .slice vq Q.mag.length cq, .int .i64 Q.exp] 26)) (.slice vq Q.mag.length cq) Q.mag) := hs.kept ((Kept.refl _).alloc _ _)
  obtain ⟨Yq, hYq⟩ : ∃ Y, Y = wq.alloc (.cells #[.bool Q.neg, .slice vq Q.mag.length cq, .int .i64 Q.exp] 26) := ⟨_, rfl⟩
  obtain ⟨Bq, hBq⟩ : ∃ B, B = wq.heap.size := ⟨_, rfl⟩
  rw [← hYq] at kq' hNq HTq
  rw [← hBq] at hNq
  rw [← hYq, ← hBq]
  have hP1 := hP1.kept kq'
  have hP2 := hP2.kept kq'
  have hQ1 := hQ1.kept kq'
  have hQ2 := hQ2.kept kq'
  have hNp := hNp.kept kq'
  have HS1 : Hid (Sl Yq (.slice va R1.mag.length vc) R1.mag) := HS1.out.kept kq'
  have HS2 : Hid (Sl Yq (.slice vb R2.mag.length vd) R2.mag) := HS2.out.kept kq'
  have HTp : Hid (Sl Yq (.slice vp P.mag.length cp) P.mag) := HTp.out.kept kq'
  have kw := kw.trans kq'
  clear hYq hBq kq kq' hs
  obtain ⟨a0, a1, a2⟩ := hQ1
  have hQ1 := P3.mk a0 a1 a2
  obtain ⟨b0, b1, b2⟩ := hQ2
  have hQ2 := P3.mk b0 b1 b2
  go_upto_region 9 with (first | (go_at_call 15; refine (KR.out _ _ _ _ _ kw HS1.out HS2.out).mono ?_; rintro e wr ⟨v, rfl, hN, kr⟩; obtain ⟨vn, vr, vl, cr, vx, rfl⟩ := hN.shape; obtain ⟨rfl, rfl, rfl, hs⟩ := new_parts hN))
  clear a0 a1 a2 b0 b1 b2 KR hN
  have kr' := kr.alloc #[.bool R.neg, .slice vr R.mag.length cr, .int .i64 R.exp] 26
  have hNr := P3.new wr (.bool R.neg) (.slice vr R.mag.length cr) (.int .i64 R.exp) 26
  have HTr : Hid (Sl (wr.alloc (.cells #[.bool R.neg, .slice vr R.mag.length cr, .int .i64 R.exp] 26)) (.slice vr R.mag.length cr) R.mag) := hs.kept ((Kept.refl _).alloc _ _)
  obtain ⟨Yr, hYr⟩ : ∃ Y, Y = wr.alloc (.cells #[.bool R.neg, .slice vr R.mag.length cr, .int .i64 R.exp] 26) := ⟨_, rfl⟩
  obtain ⟨Br, hBr⟩ : ∃ B, B = wr.heap.size := ⟨_, rfl⟩
  rw [← hYr] at kr' hNr HTr
  rw [← hBr] at hNr
  rw [← hYr, ← hBr]
  have hP1 := hP1.kept kr'
  have hP2 := hP2.kept kr'
  have hQ1 := hQ1.kept kr'
  have hQ2 := hQ2.kept kr'
  have hNp := hNp.kept kr'
  have hNq := hNq.kept kr'
  have HS1 : Hid (Sl Yr (.slice va R1.mag.length vc) R1.mag) := HS1.out.kept kr'
  have HS2 : Hid (Sl Yr (.slice vb R2.mag.length vd) R2.mag) := HS2.out.kept kr'
  have HTp : Hid (Sl Yr (.slice vp P.mag.length cp) P.mag) := HTp.out.kept kr'
  have HTq : Hid (Sl Yr (.slice vq Q.mag.length cq) Q.mag) := HTq.out.kept kr'
  have kw := kw.trans kr'
  clear hYr hBr kr kr' hs
  obtain ⟨a0, a1, a2⟩ := hQ1
  have hQ1 := P3.mk a0 a1 a2
  go_upto_region 10 with (first | (go_at_call 16; refine (KN.out _ _ _ kw HS1.out HC1.out).mono ?_; rintro e wn ⟨v, rfl, hN, kn⟩; obtain ⟨vn, vv, vl, cv, vx, rfl⟩ := hN.shape; obtain ⟨rfl, rfl, rfl, hs⟩ := new_parts hN))
  clear a0 a1 a2 KN hN
  have kn' := kn.alloc #[.bool V.neg, .slice vv V.mag.length cv, .int .i64 V.exp] 26
  have hNn := P3.new wn (.bool V.neg) (.slice vv V.mag.length cv) (.int .i64 V.exp) 26
  have HTn : Hid (Sl (wn.alloc (.cells #[.bool V.neg, .slice vv V.mag.length cv, .int .i64 V.exp] 26)) (.slice vv V.mag.length cv) V.mag) := hs.kept ((Kept.refl _).alloc _ _)
  obtain ⟨Yn, hYn⟩ : ∃ Y, Y = wn.alloc (.cells #[.bool V.neg, .slice vv V.mag.length cv, .int .i64 V.exp] 26) := ⟨_, rfl⟩
  obtain ⟨Bn, hBn⟩ : ∃ B, B = wn.heap.size := ⟨_, rfl⟩
  rw [← hYn] at kn' hNn HTn
  rw [← hBn] at hNn
  rw [← hYn, ← hBn]
  have hP1 := hP1.kept kn'
  have hP2 := hP2.kept kn'
  have hQ1 := hQ1.kept kn'
  have hQ2 := hQ2.kept kn'
  have hNp := hNp.kept kn'
  have hNq := hNq.kept kn'
  have hNr := hNr.kept kn'
  have HS1 : Hid (Sl Yn (.slice va R1.mag.length vc) R1.mag) := HS1.out.kept kn'
  have HS2 : Hid (Sl Yn (.slice vb R2.mag.length vd) R2.mag) := HS2.out.kept kn'
  have HTp : Hid (Sl Yn (.slice vp P.mag.length cp) P.mag) := HTp.out.kept kn'
  have HTq : Hid (Sl Yn (.slice vq Q.mag.length cq) Q.mag) := HTq.out.kept kn'
  have HTr : Hid (Sl Yn (.slice vr R.mag.length cr) R.mag) := HTr.out.kept kn'
  have kw := kw.trans kn'
  clear hYn hBn kn kn' hs
  obtain ⟨a0, a1, af⟩ := hP1
  have hP1 := P2.mk a0 a1 af
  obtain ⟨b0, b1, bf⟩ := hP2
  have hP2 := P2.mk b0 b1 bf
  go_upto_region 11 with (first | (go_at_call 17; refine (KD.out _ kw).mono ?_; rintro e wc ⟨rfl, kc⟩))
  clear a0 a1 af b0 b1 bf KD
  have kc' := kc.alloc #[.int .i64 c1, .int .i64 c2] 23
  have hSc := P2.new wc (.int .i64 c1) (.int .i64 c2) 23
  obtain ⟨Yc, hYc⟩ : ∃ Y, Y = wc.alloc (.cells #[.int .i64 c1, .int .i64 c2] 23) := ⟨_, rfl⟩
  obtain ⟨Bc, hBc⟩ : ∃ B, B = wc.heap.size := ⟨_, rfl⟩
  rw [← hYc] at kc' hSc
  rw [← hBc] at hSc
  rw [← hYc, ← hBc]
  have hP1 := hP1.kept kc'
  have hP2 := hP2.kept kc'
  have hQ1 := hQ1.kept kc'
  have hQ2 := hQ2.kept kc'
  have hNp := hNp.kept kc'
  have hNq := hNq.kept kc'
  have hNr := hNr.kept kc'
  have hNn := hNn.kept kc'
  have HS1 : Hid (Sl Yc (.slice va R1.mag.length vc) R1.mag) := HS1.out.kept kc'
  have HS2 : Hid (Sl Yc (.slice vb R2.mag.length vd) R2.mag) := HS2.out.kept kc'
  have HTp : Hid (Sl Yc (.slice vp P.mag.length cp) P.mag) := HTp.out.kept kc'
  have HTq : Hid (Sl Yc (.slice vq Q.mag.length cq) Q.mag) := HTq.out.kept kc'
  have HTr : Hid (Sl Yc (.slice vr R.mag.length cr) R.mag) := HTr.out.kept kc'
  have HTn : Hid (Sl Yc (.slice vv V.mag.length cv) V.mag) := HTn.out.kept kc'
  have kw := kw.trans kc'
  clear hYc hBc kc kc'
  obtain ⟨a0, a1, af⟩ := hP1
  have hP1 := P2.mk a0 a1 af
  obtain ⟨b0, b1, bf⟩ := hP2
  have hP2 := P2.mk b0 b1 bf
  go_upto_region 12 with (first | (go_at_call 18; refine (KS.out _ kw).mono ?_; rintro e wd ⟨rfl, kd⟩))
  clear a0 a1 af b0 b1 bf KS
  have kd' := kd.alloc #[.int .i64 d1, .int .i64 d2] 23
  have hSd := P2.new wd (.int .i64 d1) (.int .i64 d2) 23
  obtain ⟨Yd, hYd⟩ : ∃ Y, Y = wd.alloc (.cells #[.int .i64 d1, .int .i64 d2] 23) := ⟨_, rfl⟩
  obtain ⟨Bd, hBd⟩ : ∃ B, B = wd.heap.size := ⟨_, rfl⟩
  rw [← hYd] at kd' hSd
  rw [← hBd] at hSd
  rw [← hYd, ← hBd]
  have hP1 := hP1.kept kd'
  have hP2 := hP2.kept kd'
  have hQ1 := hQ1.kept kd'
  have hQ2 := hQ2.kept kd'
  have hNp := hNp.kept kd'
  have hNq := hNq.kept kd'
  have hNr := hNr.kept kd'
  have hNn := hNn.kept kd'
  have hSc := hSc.kept kd'
  have HS1 : Hid (Sl Yd (.slice va R1.mag.length vc) R1.mag) := HS1.out.kept kd'
  have HS2 : Hid (Sl Yd (.slice vb R2.mag.length vd) R2.mag) := HS2.out.kept kd'
  have HTp : Hid (Sl Yd (.slice vp P.mag.length cp) P.mag) := HTp.out.kept kd'
  have HTq : Hid (Sl Yd (.slice vq Q.mag.length cq) Q.mag) := HTq.out.kept kd'
  have HTr : Hid (Sl Yd (.slice vr R.mag.length cr) R.mag) := HTr.out.kept kd'
  have HTn : Hid (Sl Yd (.slice vv V.mag.length cv) V.mag) := HTn.out.kept kd'
  have kw := kw.trans kd'
  clear hYd hBd kd kd'
  obtain ⟨a0, a1, af⟩ := hP1
  have hP1 := P2.mk a0 a1 af
  obtain ⟨b0, b1, bf⟩ := hP2
  have hP2 := P2.mk b0 b1 bf
  go_upto_region 13 with (first | (go_at_call 19; refine (KM.out _ kw).mono ?_; rintro e wm ⟨rfl, km⟩))
  clear a0 a1 af b0 b1 bf KM
  have km' := km.alloc #[.int .i64 m1, .int .i64 m2] 23
  have hSm := P2.new wm (.int .i64 m1) (.int .i64 m2) 23
  obtain ⟨Ym, hYm⟩ : ∃ Y, Y = wm.alloc (.cells #[.int .i64 m1, .int .i64 m2] 23) := ⟨_, rfl⟩
  obtain ⟨Bm, hBm⟩ : ∃ B, B = wm.heap.size := ⟨_, rfl⟩
  rw [← hYm] at km' hSm
  rw [← hBm] at hSm
  rw [← hYm, ← hBm]
  have hP1 := hP1.kept km'
  have hP2 := hP2.kept km'
  have hQ1 := hQ1.kept km'
  have hQ2 := hQ2.kept km'
  have hNp := hNp.kept km'
  have hNq := hNq.kept km'
  have hNr := hNr.kept km'
  have hNn := hNn.kept km'
  have hSc := hSc.kept km'
  have hSd := hSd.kept km'
  have HS1 : Hid (Sl Ym (.slice va R1.mag.length vc) R1.mag) := HS1.out.kept km'
  have HS2 : Hid (Sl Ym (.slice vb R2.mag.length vd) R2.mag) := HS2.out.kept km'
  have HTp : Hid (Sl Ym (.slice vp P.mag.length cp) P.mag) := HTp.out.kept km'
  have HTq : Hid (Sl Ym (.slice vq Q.mag.length cq) Q.mag) := HTq.out.kept km'
  have HTr : Hid (Sl Ym (.slice vr R.mag.length cr) R.mag) := HTr.out.kept km'
  have HTn : Hid (Sl Ym (.slice vv V.mag.length cv) V.mag) := HTn.out.kept km'
  have kw := kw.trans km'
  clear hYm hBm km km'
  obtain ⟨a0, a1, af⟩ := hP1
  have hP1 := P2.mk a0 a1 af
  go_upto_region 14 with (first | (go_at_call 20; refine (KG.out _ kw).mono ?_; rintro e wg ⟨rfl, kg⟩))
  clear a0 a1 af KG
  have kg' := kg.alloc #[.int .i64 g1, .int .i64 g2] 23
  have hSg := P2.new wg (.int .i64 g1) (.int .i64 g2) 23
  obtain ⟨Yg, hYg⟩ : ∃ Y, Y = wg.alloc (.cells #[.int .i64 g1, .int .i64 g2] 23) := ⟨_, rfl⟩
  obtain ⟨Bg, hBg⟩ : ∃ B, B = wg.heap.size := ⟨_, rfl⟩
  rw [← hYg] at kg' hSg
  rw [← hBg] at hSg
  rw [← hYg, ← hBg]
  have hP1 := hP1.kept kg'
  have hP2 := hP2.kept kg'
  have hQ1 := hQ1.kept kg'
  have hQ2 := hQ2.kept kg'
  have hNp := hNp.kept kg'
  have hNq := hNq.kept kg'
  have hNr := hNr.kept kg'
  have hNn := hNn.kept kg'
  have hSc := hSc.kept kg'
  have hSd := hSd.kept kg'
  have hSm := hSm.kept kg'
  have HS1 : Hid (Sl Yg (.slice va R1.mag.length vc) R1.mag) := HS1.out.kept kg'
  have HS2 : Hid (Sl Yg (.slice vb R2.mag.length vd) R2.mag) := HS2.out.kept kg'
  have HTp : Hid (Sl Yg (.slice vp P.mag.length cp) P.mag) := HTp.out.kept kg'
  have HTq : Hid (Sl Yg (.slice vq Q.mag.length cq) Q.mag) := HTq.out.kept kg'
  have HTr : Hid (Sl Yg (.slice vr R.mag.length cr) R.mag) := HTr.out.kept kg'
  have HTn : Hid (Sl Yg (.slice vv V.mag.length cv) V.mag) := HTn.out.kept kg'
  have kw := kw.trans kg'
  clear hYg hBg kg kg'
  obtain ⟨a0, a1, af⟩ := hP1
  have hP1 := P2.mk a0 a1 af
  obtain ⟨b0, b1, bf⟩ := hP2
  have hP2 := P2.mk b0 b1 bf
  go_upto_region 15 with (first | (go_at_call 21; refine (KJ.out _ kw).mono ?_; rintro e wj ⟨rfl, kj⟩))
  clear a0 a1 af b0 b1 bf KJ
  have kj' := kj.alloc #[.int .i64 j1, .int .i64 j2] 23
  have hSj := P2.new wj (.int .i64 j1) (.int .i64 j2) 23
  obtain ⟨Yj, hYj⟩ : ∃ Y, Y = wj.alloc (.cells #[.int .i64 j1, .int .i64 j2] 23) := ⟨_, rfl⟩
  obtain ⟨Bj, hBj⟩ : ∃ B, B = wj.heap.size := ⟨_, rfl⟩
  rw [← hYj] at kj' hSj
  rw [← hBj] at hSj
  rw [← hYj, ← hBj]
  have hP1 := hP1.kept kj'
  have hP2 := hP2.kept kj'
  have hQ1 := hQ1.kept kj'
  have hQ2 := hQ2.kept kj'
  have hNp := hNp.kept kj'
  have hNq := hNq.kept kj'
  have hNr := hNr.kept kj'
  have hNn := hNn.kept kj'
  have hSc := hSc.kept kj'
  have hSd := hSd.kept kj'
  have hSm := hSm.kept kj'
  have hSg := hSg.kept kj'
  have HS1 : Hid (Sl Yj (.slice va R1.mag.length vc) R1.mag) := HS1.out.kept kj'
  have HS2 : Hid (Sl Yj (.slice vb R2.mag.length vd) R2.mag) := HS2.out.kept kj'
  have HTp : Hid (Sl Yj (.slice vp P.mag.length cp) P.mag) := HTp.out.kept kj'
  have HTq : Hid (Sl Yj (.slice vq Q.mag.length cq) Q.mag) := HTq.out.kept kj'
  have HTr : Hid (Sl Yj (.slice vr R.mag.length cr) R.mag) := HTr.out.kept kj'
  have HTn : Hid (Sl Yj (.slice vv V.mag.length cv) V.mag) := HTn.out.kept kj'
  have kw := kw.trans kj'
  clear hYj hBj kj kj'
  obtain ⟨a0, a1, af⟩ := hP1
  have hP1 := P2.mk a0 a1 af
  obtain ⟨b0, b1, bf⟩ := hP2
  have hP2 := P2.mk b0 b1 bf
  obtain ⟨c0, c1, cf⟩ := hSg
  have hSg := P2.mk c0 c1 cf
  go_upto_region 16 with (first | (go_at_call 22; refine (KU.out _ _ _ (kw.alloc _ _) rfl (Kept.refl _)).mono ?_; rintro e wu ⟨rfl, ku⟩))
  clear a0 a1 af b0 b1 bf c0 c1 cf KU
  have ku' := (((Kept.refl Yj).alloc _ _).trans ku).alloc #[.int .i64 u1, .int .i64 u2] 23
  have hSu := P2.new wu (.int .i64 u1) (.int .i64 u2) 23
  obtain ⟨Yu, hYu⟩ : ∃ Y, Y = wu.alloc (.cells #[.int .i64 u1, .int .i64 u2] 23) := ⟨_, rfl⟩
  obtain ⟨Bu, hBu⟩ : ∃ B, B = wu.heap.size := ⟨_, rfl⟩
  rw [← hYu] at ku' hSu
  rw [← hBu] at hSu
  rw [← hYu, ← hBu]
  have hP1 := hP1.kept ku'
  have hP2 := hP2.kept ku'
  have hQ1 := hQ1.kept ku'
  have hQ2 := hQ2.kept ku'
  have hNp := hNp.kept ku'
  have hNq := hNq.kept ku'
  have hNr := hNr.kept ku'
  have hNn := hNn.kept ku'
  have hSc := hSc.kept ku'
  have hSd := hSd.kept ku'
  have hSm := hSm.kept ku'
  have hSg := hSg.kept ku'
  have hSj := hSj.kept ku'
  have HS1 : Hid (Sl Yu (.slice va R1.mag.length vc) R1.mag) := HS1.out.kept ku'
  have HS2 : Hid (Sl Yu (.slice vb R2.mag.length vd) R2.mag) := HS2.out.kept ku'
  have HTp : Hid (Sl Yu (.slice vp P.mag.length cp) P.mag) := HTp.out.kept ku'
  have HTq : Hid (Sl Yu (.slice vq Q.mag.length cq) Q.mag) := HTq.out.kept ku'
  have HTr : Hid (Sl Yu (.slice vr R.mag.length cr) R.mag) := HTr.out.kept ku'
  have HTn : Hid (Sl Yu (.slice vv V.mag.length cv) V.mag) := HTn.out.kept ku'
  have kw := kw.trans ku'
  clear hYu hBu ku ku'
  obtain ⟨a0, a1, af⟩ := hP1
  have hP1 := P2.mk a0 a1 af
  obtain ⟨b0, b1, b2⟩ := hQ1
  have hQ1 := P3.mk b0 b1 b2
  go_wp2_with fail
  refine (KH.out _ _ _ _ _ _ (.inl ⟨rfl, rfl, rfl⟩) kw HS1.out).mono ?_
  rintro e wh0 ⟨rfl, kh0'⟩
  clear a0 a1 af b0 b1 b2
  have hP1 := hP1.kept kh0'
  have hP2 := hP2.kept kh0'
  have hQ1 := hQ1.kept kh0'
  have hQ2 := hQ2.kept kh0'
  have hNp := hNp.kept kh0'
  have hNq := hNq.kept kh0'
  have hNr := hNr.kept kh0'
  have hNn := hNn.kept kh0'
  have hSc := hSc.kept kh0'
  have hSd := hSd.kept kh0'
  have hSm := hSm.kept kh0'
  have hSg := hSg.kept kh0'
  have hSj := hSj.kept kh0'
  have hSu := hSu.kept kh0'
  have HS1 : Hid (Sl wh0 (.slice va R1.mag.length vc) R1.mag) := HS1.out.kept kh0'
  have HS2 : Hid (Sl wh0 (.slice vb R2.mag.length vd) R2.mag) := HS2.out.kept kh0'
  have HTp : Hid (Sl wh0 (.slice vp P.mag.length cp) P.mag) := HTp.out.kept kh0'
  have HTq : Hid (Sl wh0 (.slice vq Q.mag.length cq) Q.mag) := HTq.out.kept kh0'
  have HTr : Hid (Sl wh0 (.slice vr R.mag.length cr) R.mag) := HTr.out.kept kh0'
  have HTn : Hid (Sl wh0 (.slice vv V.mag.length cv) V.mag) := HTn.out.kept kh0'
  have kw := kw.trans kh0'
  clear kh0'
  obtain ⟨a0, a1, af⟩ := hSc
  have hSc := P2.mk a0 a1 af
  obtain ⟨b0, b1, b2⟩ := hNp
  have hNp := P3.mk b0 b1 b2
  go_wp2_with fail
  refine (KH.out _ _ _ _ _ _ (.inr (.inl ⟨rfl, rfl, rfl⟩)) kw HTp.out).mono ?_
  rintro e wh1 ⟨rfl, kh1'⟩
  clear a0 a1 af b0 b1 b2
  have hP1 := hP1.kept kh1'
  have hP2 := hP2.kept kh1'
  have hQ1 := hQ1.kept kh1'
  have hQ2 := hQ2.kept kh1'
  have hNp := hNp.kept kh1'
  have hNq := hNq.kept kh1'
  have hNr := hNr.kept kh1'
  have hNn := hNn.kept kh1'
  have hSc := hSc.kept kh1'
  have hSd := hSd.kept kh1'
  have hSm := hSm.kept kh1'
  have hSg := hSg.kept kh1'
  have hSj := hSj.kept kh1'
  have hSu := hSu.kept kh1'
  have HS1 : Hid (Sl wh1 (.slice va R1.mag.length vc) R1.mag) := HS1.out.kept kh1'
  have HS2 : Hid (Sl wh1 (.slice vb R2.mag.length vd) R2.mag) := HS2.out.kept kh1'
  have HTp : Hid (Sl wh1 (.slice vp P.mag.length cp) P.mag) := HTp.out.kept kh1'
  have HTq : Hid (Sl wh1 (.slice vq Q.mag.length cq) Q.mag) := HTq.out.kept kh1'
  have HTr : Hid (Sl wh1 (.slice vr R.mag.length cr) R.mag) := HTr.out.kept kh1'
  have HTn : Hid (Sl wh1 (.slice vv V.mag.length cv) V.mag) := HTn.out.kept kh1'
  have kw := kw.trans kh1'
  clear kh1'
  obtain ⟨a0, a1, af⟩ := hSd
  have hSd := P2.mk a0 a1 af
  obtain ⟨b0, b1, b2⟩ := hNq
  have hNq := P3.mk b0 b1 b2
  go_wp2_with fail
  refine (KH.out _ _ _ _ _ _ (.inr (.inr (.inl ⟨rfl, rfl, rfl⟩))) kw HTq.out).mono ?_
  rintro e wh2 ⟨rfl, kh2'⟩
  clear a0 a1 af b0 b1 b2
  have hP1 := hP1.kept kh2'
  have hP2 := hP2.kept kh2'
  have hQ1 := hQ1.kept kh2'
  have hQ2 := hQ2.kept kh2'
  have hNp := hNp.kept kh2'
  have hNq := hNq.kept kh2'
  have hNr := hNr.kept kh2'
  have hNn := hNn.kept kh2'
  have hSc := hSc.kept kh2'
  have hSd := hSd.kept kh2'
  have hSm := hSm.kept kh2'
  have hSg := hSg.kept kh2'
  have hSj := hSj.kept kh2'
  have hSu := hSu.kept kh2'
  have HS1 : Hid (Sl wh2 (.slice va R1.mag.length vc) R1.mag) := HS1.out.kept kh2'
  have HS2 : Hid (Sl wh2 (.slice vb R2.mag.length vd) R2.mag) := HS2.out.kept kh2'
  have HTp : Hid (Sl wh2 (.slice vp P.mag.length cp) P.mag) := HTp.out.kept kh2'
  have HTq : Hid (Sl wh2 (.slice vq Q.mag.length cq) Q.mag) := HTq.out.kept kh2'
  have HTr : Hid (Sl wh2 (.slice vr R.mag.length cr) R.mag) := HTr.out.kept kh2'
  have HTn : Hid (Sl wh2 (.slice vv V.mag.length cv) V.mag) := HTn.out.kept kh2'
  have kw := kw.trans kh2'
  clear kh2'
  obtain ⟨a0, a1, af⟩ := hSm
  have hSm := P2.mk a0 a1 af
  obtain ⟨b0, b1, b2⟩ := hNr
  have hNr := P3.mk b0 b1 b2
  go_wp2_with fail
  refine (KH.out _ _ _ _ _ _ (.inr (.inr (.inr (.inl ⟨rfl, rfl, rfl⟩)))) kw HTr.out).mono ?_
  rintro e wh3 ⟨rfl, kh3'⟩
  clear a0 a1 af b0 b1 b2
  have hP1 := hP1.kept kh3'
  have hP2 := hP2.kept kh3'
  have hQ1 := hQ1.kept kh3'
  have hQ2 := hQ2.kept kh3'
  have hNp := hNp.kept kh3'
  have hNq := hNq.kept kh3'
  have hNr := hNr.kept kh3'
  have hNn := hNn.kept kh3'
  have hSc := hSc.kept kh3'
  have hSd := hSd.kept kh3'
  have hSm := hSm.kept kh3'
  have hSg := hSg.kept kh3'
  have hSj := hSj.kept kh3'
  have hSu := hSu.kept kh3'
  have HS1 : Hid (Sl wh3 (.slice va R1.mag.length vc) R1.mag) := HS1.out.kept kh3'
  have HS2 : Hid (Sl wh3 (.slice vb R2.mag.length vd) R2.mag) := HS2.out.kept kh3'
  have HTp : Hid (Sl wh3 (.slice vp P.mag.length cp) P.mag) := HTp.out.kept kh3'
  have HTq : Hid (Sl wh3 (.slice vq Q.mag.length cq) Q.mag) := HTq.out.kept kh3'
  have HTr : Hid (Sl wh3 (.slice vr R.mag.length cr) R.mag) := HTr.out.kept kh3'
  have HTn : Hid (Sl wh3 (.slice vv V.mag.length cv) V.mag) := HTn.out.kept kh3'
  have kw := kw.trans kh3'
  clear kh3'
  obtain ⟨a0, a1, af⟩ := hSg
  have hSg := P2.mk a0 a1 af
  obtain ⟨b0, b1, b2⟩ := hNn
  have hNn := P3.mk b0 b1 b2
  go_wp2_with fail
  refine (KH.out _ _ _ _ _ _ (.inr (.inr (.inr (.inr (.inl ⟨rfl, rfl, rfl⟩))))) kw HTn.out).mono ?_
  rintro e wh4 ⟨rfl, kh4'⟩
  clear a0 a1 af b0 b1 b2
  have hP1 := hP1.kept kh4'
  have hP2 := hP2.kept kh4'
  have hQ1 := hQ1.kept kh4'
  have hQ2 := hQ2.kept kh4'
  have hNp := hNp.kept kh4'
  have hNq := hNq.kept kh4'
  have hNr := hNr.kept kh4'
  have hNn := hNn.kept kh4'
  have hSc := hSc.kept kh4'
  have hSd := hSd.kept kh4'
  have hSm := hSm.kept kh4'
  have hSg := hSg.kept kh4'
  have hSj := hSj.kept kh4'
  have hSu := hSu.kept kh4'
  have HS1 : Hid (Sl wh4 (.slice va R1.mag.length vc) R1.mag) := HS1.out.kept kh4'
  have HS2 : Hid (Sl wh4 (.slice vb R2.mag.length vd) R2.mag) := HS2.out.kept kh4'
  have HTp : Hid (Sl wh4 (.slice vp P.mag.length cp) P.mag) := HTp.out.kept kh4'
  have HTq : Hid (Sl wh4 (.slice vq Q.mag.length cq) Q.mag) := HTq.out.kept kh4'
  have HTr : Hid (Sl wh4 (.slice vr R.mag.length cr) R.mag) := HTr.out.kept kh4'
  have HTn : Hid (Sl wh4 (.slice vv V.mag.length cv) V.mag) := HTn.out.kept kh4'
  have kw := kw.trans kh4'
  clear kh4'
  obtain ⟨a0, a1, af⟩ := hSj
  have hSj := P2.mk a0 a1 af
  obtain ⟨b0, b1, b2⟩ := hQ1
  have hQ1 := P3.mk b0 b1 b2
  go_wp2_with fail
  refine (KH.out _ _ _ _ _ _ (.inr (.inr (.inr (.inr (.inr (.inl ⟨rfl, rfl, rfl⟩)))))) kw HS1.out).mono ?_
  rintro e wh5 ⟨rfl, kh5'⟩
  clear a0 a1 af b0 b1 b2
  have hP1 := hP1.kept kh5'
  have hP2 := hP2.kept kh5'
  have hQ1 := hQ1.kept kh5'
  have hQ2 := hQ2.kept kh5'
  have hNp := hNp.kept kh5'
  have hNq := hNq.kept kh5'
  have hNr := hNr.kept kh5'
  have hNn := hNn.kept kh5'
  have hSc := hSc.kept kh5'
  have hSd := hSd.kept kh5'
  have hSm := hSm.kept kh5'
  have hSg := hSg.kept kh5'
  have hSj := hSj.kept kh5'
  have hSu := hSu.kept kh5'
  have HS1 : Hid (Sl wh5 (.slice va R1.mag.length vc) R1.mag) := HS1.out.kept kh5'
  have HS2 : Hid (Sl wh5 (.slice vb R2.mag.length vd) R2.mag) := HS2.out.kept kh5'
  have HTp : Hid (Sl wh5 (.slice vp P.mag.length cp) P.mag) := HTp.out.kept kh5'
  have HTq : Hid (Sl wh5 (.slice vq Q.mag.length cq) Q.mag) := HTq.out.kept kh5'
  have HTr : Hid (Sl wh5 (.slice vr R.mag.length cr) R.mag) := HTr.out.kept kh5'
  have HTn : Hid (Sl wh5 (.slice vv V.mag.length cv) V.mag) := HTn.out.kept kh5'
  have kw := kw.trans kh5'
  clear kh5'
  obtain ⟨a0, a1, af⟩ := hSj
  have hSj := P2.mk a0 a1 af
  obtain ⟨b0, b1, b2⟩ := hQ2
  have hQ2 := P3.mk b0 b1 b2
  go_wp2_with fail
  refine (KH.out _ _ _ _ _ _ (.inr (.inr (.inr (.inr (.inr (.inr (.inl ⟨rfl, rfl, rfl⟩))))))) kw HS2.out).mono ?_
  rintro e wh6 ⟨rfl, kh6'⟩
  clear a0 a1 af b0 b1 b2
  have hP1 := hP1.kept kh6'
  have hP2 := hP2.kept kh6'
  have hQ1 := hQ1.kept kh6'
  have hQ2 := hQ2.kept kh6'
  have hNp := hNp.kept kh6'
  have hNq := hNq.kept kh6'
  have hNr := hNr.kept kh6'
  have hNn := hNn.kept kh6'
  have hSc := hSc.kept kh6'
  have hSd := hSd.kept kh6'
  have hSm := hSm.kept kh6'
  have hSg := hSg.kept kh6'
  have hSj := hSj.kept kh6'
  have hSu := hSu.kept kh6'
  have HS1 : Hid (Sl wh6 (.slice va R1.mag.length vc) R1.mag) := HS1.out.kept kh6'
  have HS2 : Hid (Sl wh6 (.slice vb R2.mag.length vd) R2.mag) := HS2.out.kept kh6'
  have HTp : Hid (Sl wh6 (.slice vp P.mag.length cp) P.mag) := HTp.out.kept kh6'
  have HTq : Hid (Sl wh6 (.slice vq Q.mag.length cq) Q.mag) := HTq.out.kept kh6'
  have HTr : Hid (Sl wh6 (.slice vr R.mag.length cr) R.mag) := HTr.out.kept kh6'
  have HTn : Hid (Sl wh6 (.slice vv V.mag.length cv) V.mag) := HTn.out.kept kh6'
  have kw := kw.trans kh6'
  clear kh6'
  obtain ⟨a0, a1, af⟩ := hSu
  have hSu := P2.mk a0 a1 af
  obtain ⟨b0, b1, b2⟩ := hQ2
  have hQ2 := P3.mk b0 b1 b2
  go_wp2_with fail
  refine (KH.out _ _ _ _ _ _ (.inr (.inr (.inr (.inr (.inr (.inr (.inr (⟨rfl, rfl, rfl⟩)))))))) kw HS2.out).mono ?_
  rintro e wh7 ⟨rfl, kh7'⟩
  clear a0 a1 af b0 b1 b2
  have hP1 := hP1.kept kh7'
  have hP2 := hP2.kept kh7'
  have hQ1 := hQ1.kept kh7'
  have hQ2 := hQ2.kept kh7'
  have hNp := hNp.kept kh7'
  have hNq := hNq.kept kh7'
  have hNr := hNr.kept kh7'
  have hNn := hNn.kept kh7'
  have hSc := hSc.kept kh7'
  have hSd := hSd.kept kh7'
  have hSm := hSm.kept kh7'
  have hSg := hSg.kept kh7'
  have hSj := hSj.kept kh7'
  have hSu := hSu.kept kh7'
  have HS1 : Hid (Sl wh7 (.slice va R1.mag.length vc) R1.mag) := HS1.out.kept kh7'
  have HS2 : Hid (Sl wh7 (.slice vb R2.mag.length vd) R2.mag) := HS2.out.kept kh7'
  have HTp : Hid (Sl wh7 (.slice vp P.mag.length cp) P.mag) := HTp.out.kept kh7'
  have HTq : Hid (Sl wh7 (.slice vq Q.mag.length cq) Q.mag) := HTq.out.kept kh7'
  have HTr : Hid (Sl wh7 (.slice vr R.mag.length cr) R.mag) := HTr.out.kept kh7'
  have HTn : Hid (Sl wh7 (.slice vv V.mag.length cv) V.mag) := HTn.out.kept kh7'
  have kw := kw.trans kh7'
  clear kh7'
  clear KH
  obtain ⟨a0, a1, af⟩ := hP1
  have hP1 := P2.mk a0 a1 af
  obtain ⟨b0, b1, bf⟩ := hP2
  have hP2 := P2.mk b0 b1 bf
  go_upto_region 19 with (first | (go_at_call 24; refine (KV.out _ kw).mono ?_; rintro e wz ⟨rfl, kz⟩))
  clear a0 a1 af b0 b1 bf KV
  have kz' := kz.alloc #[.int .i64 z1, .int .i64 z2] 23
  have hSz := P2.new wz (.int .i64 z1) (.int .i64 z2) 23
  obtain ⟨Yz, hYz⟩ : ∃ Y, Y = wz.alloc (.cells #[.int .i64 z1, .int .i64 z2] 23) := ⟨_, rfl⟩
  obtain ⟨Bz, hBz⟩ : ∃ B, B = wz.heap.size := ⟨_, rfl⟩
  rw [← hYz] at kz' hSz
  rw [← hBz] at hSz
  rw [← hYz, ← hBz]
  have hP1 := hP1.kept kz'
  have hP2 := hP2.kept kz'
  have hQ1 := hQ1.kept kz'
  have hQ2 := hQ2.kept kz'
  have HS1 : Hid (Sl Yz (.slice va R1.mag.length vc) R1.mag) := HS1.out.kept kz'
  have HS2 : Hid (Sl Yz (.slice vb R2.mag.length vd) R2.mag) := HS2.out.kept kz'
  have kw := kw.trans kz'
  clear hYz hBz kz kz'
  obtain ⟨b0, b1, bf⟩ := hP2
  have hP2 := P2.mk b0 b1 bf
  go_upto_region 22 with (first | (go_at_call 25; refine (KZ.out _ kw).mono ?_; rintro e wy ⟨rfl, ky'⟩))
  clear b0 b1 bf KZ
  have hP1 := hP1.kept ky'
  have hP2 := hP2.kept ky'
  have hQ1 := hQ1.kept ky'
  have hQ2 := hQ2.kept ky'
  have hSz := hSz.kept ky'
  have HS1 : Hid (Sl wy (.slice va R1.mag.length vc) R1.mag) := HS1.out.kept ky'
  have HS2 : Hid (Sl wy (.slice vb R2.mag.length vd) R2.mag) := HS2.out.kept ky'
  have kw := kw.trans ky'
  clear ky'
  obtain ⟨a0, a1, af⟩ := hSz
  have hSz := P2.mk a0 a1 af
  go_upto_region 24 with (first | (go_at_call 26; refine (KW.out _).mono ?_; rintro e wv ⟨rfl, kv'⟩))
  clear a0 a1 af KW
  have hP1 := hP1.kept kv'
  have hP2 := hP2.kept kv'
  have hQ1 := hQ1.kept kv'
  have hQ2 := hQ2.kept kv'
  have hSz := hSz.kept kv'
  have HS1 : Hid (Sl wv (.slice va R1.mag.length vc) R1.mag) := HS1.out.kept kv'
  have HS2 : Hid (Sl wv (.slice vb R2.mag.length vd) R2.mag) := HS2.out.kept kv'
  have kw := kw.trans kv'
  clear kv'
  obtain ⟨a0, a1, a2⟩ := hQ1
  have hQ1 := P3.mk a0 a1 a2
  obtain ⟨b0, b1, b2⟩ := hQ2
  have hQ2 := P3.mk b0 b1 b2
  go_upto_region 25 with (first | (go_at_call 27; refine (KT.out _ _ _ _ _ _ _ _ _ (.inl ⟨rfl, rfl, rfl, rfl⟩) kw HS1.out HS2.out).mono ?_; rintro e ws ⟨rfl, ks'⟩))
  clear a0 a1 a2 b0 b1 b2
  have hP1 := hP1.kept ks'
  have hP2 := hP2.kept ks'
  have hQ1 := hQ1.kept ks'
  have hQ2 := hQ2.kept ks'
  have hSz := hSz.kept ks'
  have HS1 : Hid (Sl ws (.slice va R1.mag.length vc) R1.mag) := HS1.out.kept ks'
  have HS2 : Hid (Sl ws (.slice vb R2.mag.length vd) R2.mag) := HS2.out.kept ks'
  have kw := kw.trans ks'
  clear ks'
  obtain ⟨a0, a1, a2⟩ := hQ1
  have hQ1 := P3.mk a0 a1 a2
  obtain ⟨b0, b1, b2⟩ := hQ2
  have hQ2 := P3.mk b0 b1 b2
  go_upto_region 26 with (first | (go_at_call 27; refine (KT.out _ _ _ _ _ _ _ _ _ (.inr ⟨rfl, rfl, rfl, rfl⟩) kw HS1.out HS2.out).mono ?_; rintro e wt ⟨rfl, kt'⟩))
  clear a0 a1 a2 b0 b1 b2
  have hP1 := hP1.kept kt'
  have hP2 := hP2.kept kt'
  have hQ1 := hQ1.kept kt'
  have hQ2 := hQ2.kept kt'
  have hSz := hSz.kept kt'
  have HS1 : Hid (Sl wt (.slice va R1.mag.length vc) R1.mag) := HS1.out.kept kt'
  have HS2 : Hid (Sl wt (.slice vb R2.mag.length vd) R2.mag) := HS2.out.kept kt'
  have kw := kw.trans kt'
  clear kt'
  obtain ⟨a0, a1, af⟩ := hSz
  have hSz := P2.mk a0 a1 af
  go_wp2_with fail
  refine (KB.out _ _ _ (.inl ⟨rfl, rfl⟩)).mono ?_
  rintro e wx ⟨rfl, kx⟩
  clear a0 a1 af
  obtain ⟨a0, a1, af⟩ := hSz.kept kx
  go_wp2_with fail
  refine (KB.out _ _ _ (.inr ⟨rfl, rfl⟩)).mono ?_
  rintro e wo ⟨rfl, ko⟩
  go_wp2_with fail
  go_ret
  exact ⟨rfl, (kw.trans kx).trans ko⟩
end Go.Proofs.YtdhimkpfnhoagaaGreatDoor
