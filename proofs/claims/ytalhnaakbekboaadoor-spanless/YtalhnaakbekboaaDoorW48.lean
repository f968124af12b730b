/- The walk of SpanLess. -/
import Derived.Test.YtalhnaakbekboaaDoorW45
namespace Go.Proofs.YtalhnaakbekboaaDoor
open Go.ChangeShapes Go.WideShapes Go.ChangeAt Go.RowKit Ieee
set_option linter.unusedVariables false
set_option linter.unusedSimpArgs false

set_option maxHeartbeats 8000000 in
set_option maxRecDepth 100000 in
theorem lessA_64 (a b bw av w0 s1 s2 l1 h1 l2 h2 : Int) (hw0 : bits .and .i64 w0 1 = 1) (hs1v : av / 8 = s1) (hs2v : bw / 8 = s2) (ok1 ok2 : Bool) (R1 R2 : Nm) (hok : (ok1 && ok2) = false) (w : World)
    (KL : Hid (∀ u q x y l h ok R, (q = a ∧ x = bw ∧ y = av ∧ l = l1 ∧ h = h1 ∧ ok = ok1 ∧ R = R1 ∨ q = b ∧ x = s1 ∧ y = s2 ∧ l = l2 ∧ h = h2 ∧ ok = ok2 ∧ R = R2) → Kept w u → Calls Tryd.prog 6 #[.int .i64 q, .int .i64 x, .int .i64 y, .int .i64 64] u fun e w' => ∃ v, e = .returned (.tuple #[sp2 l h, v, .bool ok]) ∧ New u w' v R ∧ Kept u w'))
    (KA : Hid (∀ u, Kept w u → Calls Tryd.prog 7 #[] u fun e w' => e = .returned (.bool true) ∧ Kept u w')) :
    Calls Tryd.prog 4 #[.int .i64 a, .int .i64 b, .int .i64 bw, .int .i64 av, .int .i64 w0] w fun e w' => e = .returned (.bool true) ∧ Kept w w' := by
  go_enter Tryd.func4, Tryd.ntmps4
  go_upto_region 3 with (first | (go_at_call 6; refine (KL.out _ _ _ _ _ _ _ _ (.inl ⟨rfl, rfl, rfl, rfl, rfl, rfl, rfl⟩) (Kept.refl _)).mono ?_; rintro e w1 ⟨v, rfl, hN1, k1⟩; obtain ⟨vn, va, vl, vc, vx, rfl⟩ := hN1.shape; obtain ⟨rfl, rfl, rfl, hs1⟩ := new_parts hN1))
  have HS1 : Hid (Sl w1 (.slice va R1.mag.length vc) R1.mag) := hs1
  clear hs1 hN1
  have hP1 := (P2.new w1 (.int .i64 l1) (.int .i64 h1) 23).alloc #[.bool R1.neg, .slice va R1.mag.length vc, .int .i64 R1.exp] 26
  have hQ1 : P3 ((w1.alloc (.cells #[.int .i64 l1, .int .i64 h1] 23)).alloc (.cells #[.bool R1.neg, .slice va R1.mag.length vc, .int .i64 R1.exp] 26)) (w1.heap.size + 1) (.bool R1.neg) (.slice va R1.mag.length vc) (.int .i64 R1.exp) := by
    have := P3.new (w1.alloc (.cells #[.int .i64 l1, .int .i64 h1] 23)) (.bool R1.neg) (.slice va R1.mag.length vc) (.int .i64 R1.exp) 26
    simpa using this
  have kY1 : Kept w1 ((w1.alloc (.cells #[.int .i64 l1, .int .i64 h1] 23)).alloc (.cells #[.bool R1.neg, .slice va R1.mag.length vc, .int .i64 R1.exp] 26)) := ((Kept.refl w1).alloc _ _).alloc _ _
  obtain ⟨Y1, hY1⟩ : ∃ Y, Y = (w1.alloc (.cells #[.int .i64 l1, .int .i64 h1] 23)).alloc (.cells #[.bool R1.neg, .slice va R1.mag.length vc, .int .i64 R1.exp] 26) := ⟨_, rfl⟩
  obtain ⟨B1, hB1⟩ : ∃ B, B = w1.heap.size := ⟨_, rfl⟩
  obtain ⟨B2, hB2⟩ : ∃ B, B = B1 + 1 := ⟨_, rfl⟩
  rw [← hY1] at hP1 hQ1 kY1
  rw [← hB1] at hP1 hQ1
  rw [← hB2] at hQ1
  rw [← hY1, ← hB1, ← hB2]
  have kw1 := k1.trans kY1
  have HS1' : Hid (Sl Y1 (.slice va R1.mag.length vc) R1.mag) := HS1.out.kept kY1
  clear hY1 hB1 hB2 k1 kY1 HS1
  go_upto_region 4 with (first | (go_at_call 6; refine (KL.out _ _ _ _ _ _ _ _ (.inr ⟨rfl, by first | rfl | assumption, by first | rfl | assumption, rfl, rfl, rfl, rfl⟩) kw1).mono ?_; rintro e w2 ⟨v, rfl, hN2, k2⟩; obtain ⟨vn, vb, vl, vd, vx, rfl⟩ := hN2.shape; obtain ⟨rfl, rfl, rfl, hs2⟩ := new_parts hN2))
  clear KL
  have HS2 : Hid (Sl w2 (.slice vb R2.mag.length vd) R2.mag) := hs2
  clear hs2 hN2
  have hP2 := (P2.new w2 (.int .i64 l2) (.int .i64 h2) 23).alloc #[.bool R2.neg, .slice vb R2.mag.length vd, .int .i64 R2.exp] 26
  have hQ2 : P3 ((w2.alloc (.cells #[.int .i64 l2, .int .i64 h2] 23)).alloc (.cells #[.bool R2.neg, .slice vb R2.mag.length vd, .int .i64 R2.exp] 26)) (w2.heap.size + 1) (.bool R2.neg) (.slice vb R2.mag.length vd) (.int .i64 R2.exp) := by
    have := P3.new (w2.alloc (.cells #[.int .i64 l2, .int .i64 h2] 23)) (.bool R2.neg) (.slice vb R2.mag.length vd) (.int .i64 R2.exp) 26
    simpa using this
  have kY2 : Kept w2 ((w2.alloc (.cells #[.int .i64 l2, .int .i64 h2] 23)).alloc (.cells #[.bool R2.neg, .slice vb R2.mag.length vd, .int .i64 R2.exp] 26)) := ((Kept.refl w2).alloc _ _).alloc _ _
  obtain ⟨Y2, hY2⟩ : ∃ Y, Y = (w2.alloc (.cells #[.int .i64 l2, .int .i64 h2] 23)).alloc (.cells #[.bool R2.neg, .slice vb R2.mag.length vd, .int .i64 R2.exp] 26) := ⟨_, rfl⟩
  obtain ⟨B3, hB3⟩ : ∃ B, B = w2.heap.size := ⟨_, rfl⟩
  obtain ⟨B4, hB4⟩ : ∃ B, B = B3 + 1 := ⟨_, rfl⟩
  rw [← hY2] at hP2 hQ2 kY2
  rw [← hB3] at hP2 hQ2
  rw [← hB4] at hQ2
  rw [← hY2, ← hB3, ← hB4]
  have k12 := k2.trans kY2
  have kw2 := kw1.trans k12
  have hP1 := hP1.kept k12
  have hQ1 := hQ1.kept k12
  have HS1 : Hid (Sl Y2 (.slice va R1.mag.length vc) R1.mag) := HS1'.out.kept k12
  have HS2' : Hid (Sl Y2 (.slice vb R2.mag.length vd) R2.mag) := HS2.out.kept kY2
  clear hY2 hB3 hB4 k2 kY2 HS2 HS1' k12 kw1 hw0 hs1v hs2v
  cases ok1
  · go_wp2_with (first | (go_at_call 7; refine (KA.out _ kw2).mono ?_; rintro e w3 ⟨rfl, k3⟩; have kw2 := kw2.trans k3))
    go_ret
    exact ⟨rfl, kw2⟩
  · have ho : ok2 = false := by simpa using hok
    subst ho
    go_wp2_with (first | (go_at_call 7; refine (KA.out _ kw2).mono ?_; rintro e w3 ⟨rfl, k3⟩; have kw2 := kw2.trans k3))
    go_ret
    exact ⟨rfl, kw2⟩
set_option maxHeartbeats 8000000 in
set_option maxRecDepth 100000 in
theorem lessA_32 (a b bw av w0 s1 s2 l1 h1 l2 h2 : Int) (hw0 : bits .and .i64 w0 1 = 0) (hs1v : av / 8 = s1) (hs2v : bw / 8 = s2) (ok1 ok2 : Bool) (R1 R2 : Nm) (hok : (ok1 && ok2) = false) (w : World)
    (KL : Hid (∀ u q x y l h ok R, (q = a ∧ x = bw ∧ y = av ∧ l = l1 ∧ h = h1 ∧ ok = ok1 ∧ R = R1 ∨ q = b ∧ x = s1 ∧ y = s2 ∧ l = l2 ∧ h = h2 ∧ ok = ok2 ∧ R = R2) → Kept w u → Calls Tryd.prog 6 #[.int .i64 q, .int .i64 x, .int .i64 y, .int .i64 32] u fun e w' => ∃ v, e = .returned (.tuple #[sp2 l h, v, .bool ok]) ∧ New u w' v R ∧ Kept u w'))
    (KA : Hid (∀ u, Kept w u → Calls Tryd.prog 7 #[] u fun e w' => e = .returned (.bool true) ∧ Kept u w')) :
    Calls Tryd.prog 4 #[.int .i64 a, .int .i64 b, .int .i64 bw, .int .i64 av, .int .i64 w0] w fun e w' => e = .returned (.bool true) ∧ Kept w w' := by
  go_enter Tryd.func4, Tryd.ntmps4
  go_upto_region 3 with (first | (go_at_call 6; refine (KL.out _ _ _ _ _ _ _ _ (.inl ⟨rfl, rfl, rfl, rfl, rfl, rfl, rfl⟩) (Kept.refl _)).mono ?_; rintro e w1 ⟨v, rfl, hN1, k1⟩; obtain ⟨vn, va, vl, vc, vx, rfl⟩ := hN1.shape; obtain ⟨rfl, rfl, rfl, hs1⟩ := new_parts hN1))
  have HS1 : Hid (Sl w1 (.slice va R1.mag.length vc) R1.mag) := hs1
  clear hs1 hN1
  have hP1 := (P2.new w1 (.int .i64 l1) (.int .i64 h1) 23).alloc #[.bool R1.neg, .slice va R1.mag.length vc, .int .i64 R1.exp] 26
  have hQ1 : P3 ((w1.alloc (.cells #[.int .i64 l1, .int .i64 h1] 23)).alloc (.cells #[.bool R1.neg, .slice va R1.mag.length vc, .int .i64 R1.exp] 26)) (w1.heap.size + 1) (.bool R1.neg) (.slice va R1.mag.length vc) (.int .i64 R1.exp) := by
    have := P3.new (w1.alloc (.cells #[.int .i64 l1, .int .i64 h1] 23)) (.bool R1.neg) (.slice va R1.mag.length vc) (.int .i64 R1.exp) 26
    simpa using this
  have kY1 : Kept w1 ((w1.alloc (.cells #[.int .i64 l1, .int .i64 h1] 23)).alloc (.cells #[.bool R1.neg, .slice va R1.mag.length vc, .int .i64 R1.exp] 26)) := ((Kept.refl w1).alloc _ _).alloc _ _
  obtain ⟨Y1, hY1⟩ : ∃ Y, Y = (w1.alloc (.cells #[.int .i64 l1, .int .i64 h1] 23)).alloc (.cells #[.bool R1.neg, .slice va R1.mag.length vc, .int .i64 R1.exp] 26) := ⟨_, rfl⟩
  obtain ⟨B1, hB1⟩ : ∃ B, B = w1.heap.size := ⟨_, rfl⟩
  obtain ⟨B2, hB2⟩ : ∃ B, B = B1 + 1 := ⟨_, rfl⟩
  rw [← hY1] at hP1 hQ1 kY1
  rw [← hB1] at hP1 hQ1
  rw [← hB2] at hQ1
  rw [← hY1, ← hB1, ← hB2]
  have kw1 := k1.trans kY1
  have HS1' : Hid (Sl Y1 (.slice va R1.mag.length vc) R1.mag) := HS1.out.kept kY1
  clear hY1 hB1 hB2 k1 kY1 HS1
  go_upto_region 4 with (first | (go_at_call 6; refine (KL.out _ _ _ _ _ _ _ _ (.inr ⟨rfl, by first | rfl | assumption, by first | rfl | assumption, rfl, rfl, rfl, rfl⟩) kw1).mono ?_; rintro e w2 ⟨v, rfl, hN2, k2⟩; obtain ⟨vn, vb, vl, vd, vx, rfl⟩ := hN2.shape; obtain ⟨rfl, rfl, rfl, hs2⟩ := new_parts hN2))
  clear KL
  have HS2 : Hid (Sl w2 (.slice vb R2.mag.length vd) R2.mag) := hs2
  clear hs2 hN2
  have hP2 := (P2.new w2 (.int .i64 l2) (.int .i64 h2) 23).alloc #[.bool R2.neg, .slice vb R2.mag.length vd, .int .i64 R2.exp] 26
  have hQ2 : P3 ((w2.alloc (.cells #[.int .i64 l2, .int .i64 h2] 23)).alloc (.cells #[.bool R2.neg, .slice vb R2.mag.length vd, .int .i64 R2.exp] 26)) (w2.heap.size + 1) (.bool R2.neg) (.slice vb R2.mag.length vd) (.int .i64 R2.exp) := by
    have := P3.new (w2.alloc (.cells #[.int .i64 l2, .int .i64 h2] 23)) (.bool R2.neg) (.slice vb R2.mag.length vd) (.int .i64 R2.exp) 26
    simpa using this
  have kY2 : Kept w2 ((w2.alloc (.cells #[.int .i64 l2, .int .i64 h2] 23)).alloc (.cells #[.bool R2.neg, .slice vb R2.mag.length vd, .int .i64 R2.exp] 26)) := ((Kept.refl w2).alloc _ _).alloc _ _
  obtain ⟨Y2, hY2⟩ : ∃ Y, Y = (w2.alloc (.cells #[.int .i64 l2, .int .i64 h2] 23)).alloc (.cells #[.bool R2.neg, .slice vb R2.mag.length vd, .int .i64 R2.exp] 26) := ⟨_, rfl⟩
  obtain ⟨B3, hB3⟩ : ∃ B, B = w2.heap.size := ⟨_, rfl⟩
  obtain ⟨B4, hB4⟩ : ∃ B, B = B3 + 1 := ⟨_, rfl⟩
  rw [← hY2] at hP2 hQ2 kY2
  rw [← hB3] at hP2 hQ2
  rw [← hB4] at hQ2
  rw [← hY2, ← hB3, ← hB4]
  have k12 := k2.trans kY2
  have kw2 := kw1.trans k12
  have hP1 := hP1.kept k12
  have hQ1 := hQ1.kept k12
  have HS1 : Hid (Sl Y2 (.slice va R1.mag.length vc) R1.mag) := HS1'.out.kept k12
  have HS2' : Hid (Sl Y2 (.slice vb R2.mag.length vd) R2.mag) := HS2.out.kept kY2
  clear hY2 hB3 hB4 k2 kY2 HS2 HS1' k12 kw1 hw0 hs1v hs2v
  cases ok1
  · go_wp2_with (first | (go_at_call 7; refine (KA.out _ kw2).mono ?_; rintro e w3 ⟨rfl, k3⟩; have kw2 := kw2.trans k3))
    go_ret
    exact ⟨rfl, kw2⟩
  · have ho : ok2 = false := by simpa using hok
    subst ho
    go_wp2_with (first | (go_at_call 7; refine (KA.out _ kw2).mono ?_; rintro e w3 ⟨rfl, k3⟩; have kw2 := kw2.trans k3))
    go_ret
    exact ⟨rfl, kw2⟩
set_option maxHeartbeats 8000000 in
set_option maxRecDepth 100000 in
theorem lessB_64 (a b bw av w0 s1 s2 l1 h1 l2 h2 : Int) (hw0 : bits .and .i64 w0 1 = 1) (hs1v : av / 8 = s1) (hs2v : bw / 8 = s2) (ok1 ok2 : Bool) (R1 R2 : Nm) (hok1 : ok1 = true) (hok2 : ok2 = true) (p1 p2 q1 q2 c1 c2 d1 d2 m1 m2 n1 n2 u1 u2 v1 v2 e2 : Int) (w : World)
    (KL : Hid (∀ u q x y l h ok R, (q = a ∧ x = bw ∧ y = av ∧ l = l1 ∧ h = h1 ∧ ok = ok1 ∧ R = R1 ∨ q = b ∧ x = s1 ∧ y = s2 ∧ l = l2 ∧ h = h2 ∧ ok = ok2 ∧ R = R2) → Kept w u → Calls Tryd.prog 6 #[.int .i64 q, .int .i64 x, .int .i64 y, .int .i64 64] u fun e w' => ∃ v, e = .returned (.tuple #[sp2 l h, v, .bool ok]) ∧ New u w' v R ∧ Kept u w'))
    (KA : Hid (∀ u, Kept w u → Calls Tryd.prog 7 #[] u fun e w' => e = .returned (.bool true) ∧ Kept u w'))
    (KS : Hid (∀ u Q a1 d1 o1 o2, (Q = R1 ∧ o1 = p1 ∧ o2 = p2 ∨ Q = R2 ∧ o1 = q1 ∧ o2 = q2) → Kept w u → Sl u (.slice a1 Q.mag.length d1) Q.mag → Calls Tryd.prog 13 #[.agg #[.bool Q.neg, .slice a1 Q.mag.length d1, .int .i64 Q.exp], .int .i64 64] u fun e w' => e = .returned (.tuple #[sp2 o1 o2, .int .i64 0]) ∧ Kept u w'))
    (KD : Hid (∀ u i1 i2 i3 i4 o1 o2, (i1 = l1 ∧ i2 = h1 ∧ i3 = l2 ∧ i4 = h2 ∧ o1 = c1 ∧ o2 = c2 ∨ i1 = p1 ∧ i2 = p2 ∧ i3 = q1 ∧ i4 = q2 ∧ o1 = d1 ∧ o2 = d2) → Kept w u → Calls Tryd.prog 10 #[sp2 i1 i2, sp2 i3 i4, .int .i64 64] u fun e w' => e = .returned (.tuple #[sp2 o1 o2, .int .i64 0]) ∧ Kept u w'))
    (KM : Hid (∀ u i1 i2 i3 i4 o1 o2, (i1 = l1 ∧ i2 = h1 ∧ i3 = l2 ∧ i4 = h2 ∧ o1 = m1 ∧ o2 = m2 ∨ i1 = p1 ∧ i2 = p2 ∧ i3 = q1 ∧ i4 = q2 ∧ o1 = n1 ∧ o2 = n2) → Kept w u → Calls Tryd.prog 11 #[sp2 i1 i2, sp2 i3 i4, .int .i64 64] u fun e w' => e = .returned (.tuple #[sp2 o1 o2, .int .i64 0]) ∧ Kept u w'))
    (KV : Hid (∀ u i1 i2 i3 i4 o1 o2 er, (i1 = l1 ∧ i2 = h1 ∧ i3 = l2 ∧ i4 = h2 ∧ o1 = u1 ∧ o2 = u2 ∧ er = 0 ∨ i1 = p1 ∧ i2 = p2 ∧ i3 = q1 ∧ i4 = q2 ∧ o1 = v1 ∧ o2 = v2 ∧ er = 0) → Kept w u → Calls Tryd.prog 14 #[sp2 i1 i2, sp2 i3 i4, .int .i64 64] u fun e w' => e = .returned (.tuple #[sp2 o1 o2, .int .i64 er]) ∧ Kept u w'))
    (KW : Hid (∀ u o1 o2 o3 o4, (o1 = d1 ∧ o2 = d2 ∧ o3 = c1 ∧ o4 = c2 ∨ o1 = n1 ∧ o2 = n2 ∧ o3 = m1 ∧ o4 = m2 ∨ o1 = v1 ∧ o2 = v2 ∧ o3 = u1 ∧ o4 = u2) → Calls Tryd.prog 15 #[sp2 o1 o2, sp2 o3 o4, .int .i64 64] u fun e w' => e = .returned (.bool true) ∧ Kept u w')) :
    Calls Tryd.prog 4 #[.int .i64 a, .int .i64 b, .int .i64 bw, .int .i64 av, .int .i64 w0] w fun e w' => e = .returned (.bool true) ∧ Kept w w' := by
  go_enter Tryd.func4, Tryd.ntmps4
  go_upto_region 3 with (first | (go_at_call 6; refine (KL.out _ _ _ _ _ _ _ _ (.inl ⟨rfl, rfl, rfl, rfl, rfl, rfl, rfl⟩) (Kept.refl _)).mono ?_; rintro e w1 ⟨v, rfl, hN1, k1⟩; obtain ⟨vn, va, vl, vc, vx, rfl⟩ := hN1.shape; obtain ⟨rfl, rfl, rfl, hs1⟩ := new_parts hN1))
  have HS1 : Hid (Sl w1 (.slice va R1.mag.length vc) R1.mag) := hs1
  clear hs1 hN1
  have hP1 := (P2.new w1 (.int .i64 l1) (.int .i64 h1) 23).alloc #[.bool R1.neg, .slice va R1.mag.length vc, .int .i64 R1.exp] 26
  have hQ1 : P3 ((w1.alloc (.cells #[.int .i64 l1, .int .i64 h1] 23)).alloc (.cells #[.bool R1.neg, .slice va R1.mag.length vc, .int .i64 R1.exp] 26)) (w1.heap.size + 1) (.bool R1.neg) (.slice va R1.mag.length vc) (.int .i64 R1.exp) := by
    have := P3.new (w1.alloc (.cells #[.int .i64 l1, .int .i64 h1] 23)) (.bool R1.neg) (.slice va R1.mag.length vc) (.int .i64 R1.exp) 26
    simpa using this
  have kY1 : Kept w1 ((w1.alloc (.cells #[.int .i64 l1, .int .i64 h1] 23)).alloc (.cells #[.bool R1.neg, .slice va R1.mag.length vc, .int .i64 R1.exp] 26)) := ((Kept.refl w1).alloc _ _).alloc _ _
  obtain ⟨Y1, hY1⟩ : ∃ Y, Y = (w1.alloc (.cells #[.int .i64 l1, .int .i64 h1] 23)).alloc (.cells #[.bool R1.neg, .slice va R1.mag.length vc, .int .i64 R1.exp] 26) := ⟨_, rfl⟩
  obtain ⟨B1, hB1⟩ : ∃ B, B = w1.heap.size := ⟨_, rfl⟩
  obtain ⟨B2, hB2⟩ : ∃ B, B = B1 + 1 := ⟨_, rfl⟩
  rw [← hY1] at hP1 hQ1 kY1
  rw [← hB1] at hP1 hQ1
  rw [← hB2] at hQ1
  rw [← hY1, ← hB1, ← hB2]
  have kw1 := k1.trans kY1
  have HS1' : Hid (Sl Y1 (.slice va R1.mag.length vc) R1.mag) := HS1.out.kept kY1
  clear hY1 hB1 hB2 k1 kY1 HS1
  go_upto_region 4 with (first | (go_at_call 6; refine (KL.out _ _ _ _ _ _ _ _ (.inr ⟨rfl, by first | rfl | assumption, by first | rfl | assumption, rfl, rfl, rfl, rfl⟩) kw1).mono ?_; rintro e w2 ⟨v, rfl, hN2, k2⟩; obtain ⟨vn, vb, vl, vd, vx, rfl⟩ := hN2.shape; obtain ⟨rfl, rfl, rfl, hs2⟩ := new_parts hN2))
  clear KL
  have HS2 : Hid (Sl w2 (.slice vb R2.mag.length vd) R2.mag) := hs2
  clear hs2 hN2
  have hP2 := (P2.new w2 (.int .i64 l2) (.int .i64 h2) 23).alloc #[.bool R2.neg, .slice vb R2.mag.length vd, .int .i64 R2.exp] 26
  have hQ2 : P3 ((w2.alloc (.cells #[.int .i64 l2, .int .i64 h2] 23)).alloc (.cells #[.bool R2.neg, .slice vb R2.mag.length vd, .int .i64 R2.exp] 26)) (w2.heap.size + 1) (.bool R2.neg) (.slice vb R2.mag.length vd) (.int .i64 R2.exp) := by
    have := P3.new (w2.alloc (.cells #[.int .i64 l2, .int .i64 h2] 23)) (.bool R2.neg) (.slice vb R2.mag.length vd) (.int .i64 R2.exp) 26
    simpa using this
  have kY2 : Kept w2 ((w2.alloc (.cells #[.int .i64 l2, .int .i64 h2] 23)).alloc (.cells #[.bool R2.neg, .slice vb R2.mag.length vd, .int .i64 R2.exp] 26)) := ((Kept.refl w2).alloc _ _).alloc _ _
  obtain ⟨Y2, hY2⟩ : ∃ Y, Y = (w2.alloc (.cells #[.int .i64 l2, .int .i64 h2] 23)).alloc (.cells #[.bool R2.neg, .slice vb R2.mag.length vd, .int .i64 R2.exp] 26) := ⟨_, rfl⟩
  obtain ⟨B3, hB3⟩ : ∃ B, B = w2.heap.size := ⟨_, rfl⟩
  obtain ⟨B4, hB4⟩ : ∃ B, B = B3 + 1 := ⟨_, rfl⟩
  rw [← hY2] at hP2 hQ2 kY2
  rw [← hB3] at hP2 hQ2
  rw [← hB4] at hQ2
  rw [← hY2, ← hB3, ← hB4]
  have k12 := k2.trans kY2
  have kw2 := kw1.trans k12
  have hP1 := hP1.kept k12
  have hQ1 := hQ1.kept k12
  have HS1 : Hid (Sl Y2 (.slice va R1.mag.length vc) R1.mag) := HS1'.out.kept k12
  have HS2' : Hid (Sl Y2 (.slice vb R2.mag.length vd) R2.mag) := HS2.out.kept kY2
  clear hY2 hB3 hB4 k2 kY2 HS2 HS1' k12 kw1 hw0 hs1v hs2v
  subst hok1 hok2
  go_upto_region 6 with (first | (go_at_call 7; refine (KA.out _ kw2).mono ?_; rintro e w3 ⟨rfl, k3⟩))
  have hP1 := hP1.kept k3
  have hQ1 := hQ1.kept k3
  have hP2 := hP2.kept k3
  have hQ2 := hQ2.kept k3
  have kw := kw2.trans k3
  have HS1 : Hid (Sl w3 (.slice va R1.mag.length vc) R1.mag) := HS1.out.kept k3
  have HS2 : Hid (Sl w3 (.slice vb R2.mag.length vd) R2.mag) := HS2'.out.kept k3
  clear HS2' k3 kw2 KA
  obtain ⟨a0, a1, a2⟩ := hQ1
  go_upto_region 7 with (first | (go_at_call 13; refine (KS.out _ _ _ _ _ _ (.inl ⟨rfl, rfl, rfl⟩) kw HS1.out).mono ?_; rintro e wp ⟨rfl, kp⟩))
  clear a0 a1 a2 HS1
  have kp' := kp.alloc #[.int .i64 p1, .int .i64 p2] 23
  have hSp := P2.new wp (.int .i64 p1) (.int .i64 p2) 23
  obtain ⟨Yp, hYp⟩ : ∃ Y, Y = wp.alloc (.cells #[.int .i64 p1, .int .i64 p2] 23) := ⟨_, rfl⟩
  obtain ⟨Bp, hBp⟩ : ∃ B, B = wp.heap.size := ⟨_, rfl⟩
  rw [← hYp] at kp' hSp
  rw [← hBp] at hSp
  rw [← hYp, ← hBp]
  have hP1 := hP1.kept kp'
  have hP2 := hP2.kept kp'
  have hQ2 := hQ2.kept kp'
  have HS2 : Hid (Sl Yp (.slice vb R2.mag.length vd) R2.mag) := HS2.out.kept kp'
  have kw := kw.trans kp'
  clear hYp hBp kp kp'
  obtain ⟨a0, a1, a2⟩ := hQ2
  go_upto_region 8 with (first | (go_at_call 13; refine (KS.out _ _ _ _ _ _ (.inr ⟨rfl, rfl, rfl⟩) kw HS2.out).mono ?_; rintro e wq ⟨rfl, kq⟩))
  clear a0 a1 a2 HS2 KS
  have kq' := kq.alloc #[.int .i64 q1, .int .i64 q2] 23
  have hSq := P2.new wq (.int .i64 q1) (.int .i64 q2) 23
  obtain ⟨Yq, hYq⟩ : ∃ Y, Y = wq.alloc (.cells #[.int .i64 q1, .int .i64 q2] 23) := ⟨_, rfl⟩
  obtain ⟨Bq, hBq⟩ : ∃ B, B = wq.heap.size := ⟨_, rfl⟩
  rw [← hYq] at kq' hSq
  rw [← hBq] at hSq
  rw [← hYq, ← hBq]
  have hP1 := hP1.kept kq'
  have hP2 := hP2.kept kq'
  have hSp := hSp.kept kq'
  have kw := kw.trans kq'
  clear hYq hBq kq kq'
  obtain ⟨a0, a1, af⟩ := hP1
  obtain ⟨b0, b1, bf⟩ := hP2
  have hP1 := P2.mk a0 a1 af
  have hP2 := P2.mk b0 b1 bf
  go_upto_region 9 with (first | (go_at_call 10; refine (KD.out _ _ _ _ _ _ _ (.inl ⟨rfl, rfl, rfl, rfl, rfl, rfl⟩) kw).mono ?_; rintro e wc ⟨rfl, kc⟩))
  clear a0 a1 af b0 b1 bf
  have kc' := kc.alloc #[.int .i64 c1, .int .i64 c2] 23
  have hSc := P2.new wc (.int .i64 c1) (.int .i64 c2) 23
  obtain ⟨Yc, hYc⟩ : ∃ Y, Y = wc.alloc (.cells #[.int .i64 c1, .int .i64 c2] 23) := ⟨_, rfl⟩
  obtain ⟨Bc, hBc⟩ : ∃ B, B = wc.heap.size := ⟨_, rfl⟩
  rw [← hYc] at kc' hSc
  rw [← hBc] at hSc
  rw [← hYc, ← hBc]
  have hP1 := hP1.kept kc'
  have hP2 := hP2.kept kc'
  have hSp := hSp.kept kc'
  have hSq := hSq.kept kc'
  have kw := kw.trans kc'
  clear hYc hBc kc kc'
  obtain ⟨a0, a1, af⟩ := hSp
  obtain ⟨b0, b1, bf⟩ := hSq
  have hSp := P2.mk a0 a1 af
  have hSq := P2.mk b0 b1 bf
  go_upto_region 10 with (first | (go_at_call 10; refine (KD.out _ _ _ _ _ _ _ (.inr ⟨rfl, rfl, rfl, rfl, rfl, rfl⟩) kw).mono ?_; rintro e wd ⟨rfl, kd⟩))
  clear a0 a1 af b0 b1 bf KD
  have kd' := kd.alloc #[.int .i64 d1, .int .i64 d2] 23
  have hSd := P2.new wd (.int .i64 d1) (.int .i64 d2) 23
  obtain ⟨Yd, hYd⟩ : ∃ Y, Y = wd.alloc (.cells #[.int .i64 d1, .int .i64 d2] 23) := ⟨_, rfl⟩
  obtain ⟨Bd, hBd⟩ : ∃ B, B = wd.heap.size := ⟨_, rfl⟩
  rw [← hYd] at kd' hSd
  rw [← hBd] at hSd
  rw [← hYd, ← hBd]
  have hP1 := hP1.kept kd'
  have hP2 := hP2.kept kd'
  have hSp := hSp.kept kd'
  have hSq := hSq.kept kd'
  have hSc := hSc.kept kd'
  have kw := kw.trans kd'
  clear hYd hBd kd kd'
  obtain ⟨a0, a1, af⟩ := hP1
  obtain ⟨b0, b1, bf⟩ := hP2
  have hP1 := P2.mk a0 a1 af
  have hP2 := P2.mk b0 b1 bf
  go_upto_region 11 with (first | (go_at_call 11; refine (KM.out _ _ _ _ _ _ _ (.inl ⟨rfl, rfl, rfl, rfl, rfl, rfl⟩) kw).mono ?_; rintro e wm ⟨rfl, km⟩))
  clear a0 a1 af b0 b1 bf
  have km' := km.alloc #[.int .i64 m1, .int .i64 m2] 23
  have hSm := P2.new wm (.int .i64 m1) (.int .i64 m2) 23
  obtain ⟨Ym, hYm⟩ : ∃ Y, Y = wm.alloc (.cells #[.int .i64 m1, .int .i64 m2] 23) := ⟨_, rfl⟩
  obtain ⟨Bm, hBm⟩ : ∃ B, B = wm.heap.size := ⟨_, rfl⟩
  rw [← hYm] at km' hSm
  rw [← hBm] at hSm
  rw [← hYm, ← hBm]
  have hP1 := hP1.kept km'
  have hP2 := hP2.kept km'
  have hSp := hSp.kept km'
  have hSq := hSq.kept km'
  have hSc := hSc.kept km'
  have hSd := hSd.kept km'
  have kw := kw.trans km'
  clear hYm hBm km km'
  obtain ⟨a0, a1, af⟩ := hSp
  obtain ⟨b0, b1, bf⟩ := hSq
  have hSp := P2.mk a0 a1 af
  have hSq := P2.mk b0 b1 bf
  go_upto_region 12 with (first | (go_at_call 11; refine (KM.out _ _ _ _ _ _ _ (.inr ⟨rfl, rfl, rfl, rfl, rfl, rfl⟩) kw).mono ?_; rintro e wn ⟨rfl, kn⟩))
  clear a0 a1 af b0 b1 bf KM
  have kn' := kn.alloc #[.int .i64 n1, .int .i64 n2] 23
  have hSn := P2.new wn (.int .i64 n1) (.int .i64 n2) 23
  obtain ⟨Yn, hYn⟩ : ∃ Y, Y = wn.alloc (.cells #[.int .i64 n1, .int .i64 n2] 23) := ⟨_, rfl⟩
  obtain ⟨Bn, hBn⟩ : ∃ B, B = wn.heap.size := ⟨_, rfl⟩
  rw [← hYn] at kn' hSn
  rw [← hBn] at hSn
  rw [← hYn, ← hBn]
  have hP1 := hP1.kept kn'
  have hP2 := hP2.kept kn'
  have hSp := hSp.kept kn'
  have hSq := hSq.kept kn'
  have hSc := hSc.kept kn'
  have hSd := hSd.kept kn'
  have hSm := hSm.kept kn'
  have kw := kw.trans kn'
  clear hYn hBn kn kn'
  obtain ⟨a0, a1, af⟩ := hP1
  obtain ⟨b0, b1, bf⟩ := hP2
  go_upto_region 13 with (first | (go_at_call 14; refine (KV.out _ _ _ _ _ _ _ _ (.inl ⟨rfl, rfl, rfl, rfl, rfl, rfl, rfl⟩) kw).mono ?_; rintro e wu ⟨rfl, ku⟩))
  clear a0 a1 af b0 b1 bf
  have ku' := ku.alloc #[.int .i64 u1, .int .i64 u2] 23
  have hSu := P2.new wu (.int .i64 u1) (.int .i64 u2) 23
  obtain ⟨Yu, hYu⟩ : ∃ Y, Y = wu.alloc (.cells #[.int .i64 u1, .int .i64 u2] 23) := ⟨_, rfl⟩
  obtain ⟨Bu, hBu⟩ : ∃ B, B = wu.heap.size := ⟨_, rfl⟩
  rw [← hYu] at ku' hSu
  rw [← hBu] at hSu
  rw [← hYu, ← hBu]
  have hSp := hSp.kept ku'
  have hSq := hSq.kept ku'
  have hSc := hSc.kept ku'
  have hSd := hSd.kept ku'
  have hSm := hSm.kept ku'
  have hSn := hSn.kept ku'
  have kw := kw.trans ku'
  clear hYu hBu ku ku'
  obtain ⟨a0, a1, af⟩ := hSp
  obtain ⟨b0, b1, bf⟩ := hSq
  go_upto_region 14 with (first | (go_at_call 14; refine (KV.out _ _ _ _ _ _ _ _ (.inr ⟨rfl, rfl, rfl, rfl, rfl, rfl, rfl⟩) kw).mono ?_; rintro e wv ⟨rfl, kv⟩))
  clear a0 a1 af b0 b1 bf KV
  have kv' := kv.alloc #[.int .i64 v1, .int .i64 v2] 23
  have hSv := P2.new wv (.int .i64 v1) (.int .i64 v2) 23
  obtain ⟨Yv, hYv⟩ : ∃ Y, Y = wv.alloc (.cells #[.int .i64 v1, .int .i64 v2] 23) := ⟨_, rfl⟩
  obtain ⟨Bv, hBv⟩ : ∃ B, B = wv.heap.size := ⟨_, rfl⟩
  rw [← hYv] at kv' hSv
  rw [← hBv] at hSv
  rw [← hYv, ← hBv]
  have hSc := hSc.kept kv'
  have hSd := hSd.kept kv'
  have hSm := hSm.kept kv'
  have hSn := hSn.kept kv'
  have hSu := hSu.kept kv'
  have kw := kw.trans kv'
  clear hYv hBv kv kv'
  obtain ⟨a0, a1, af⟩ := hSd
  obtain ⟨b0, b1, bf⟩ := hSc
  go_wp2_with fail
  refine (KW.out _ _ _ _ _ (.inl ⟨rfl, rfl, rfl, rfl⟩)).mono ?_
  rintro e wA ⟨rfl, kA⟩
  clear a0 a1 af b0 b1 bf
  obtain ⟨a0, a1, af⟩ := hSn.kept kA
  obtain ⟨b0, b1, bf⟩ := hSm.kept kA
  go_wp2_with fail
  refine (KW.out _ _ _ _ _ (.inr (.inl ⟨rfl, rfl, rfl, rfl⟩))).mono ?_
  rintro e wB ⟨rfl, kB⟩
  clear a0 a1 af b0 b1 bf
  obtain ⟨a0, a1, af⟩ := hSv.kept (kA.trans kB)
  obtain ⟨b0, b1, bf⟩ := hSu.kept (kA.trans kB)
  go_wp2_with fail
  refine (KW.out _ _ _ _ _ (.inr (.inr ⟨rfl, rfl, rfl, rfl⟩))).mono ?_
  rintro e wC ⟨rfl, kC⟩
  go_wp2_with fail
  go_ret
  exact ⟨rfl, ((kw.trans kA).trans kB).trans kC⟩
set_option maxHeartbeats 8000000 in
set_option maxRecDepth 100000 in
theorem lessB_32 (a b bw av w0 s1 s2 l1 h1 l2 h2 : Int) (hw0 : bits .and .i64 w0 1 = 0) (hs1v : av / 8 = s1) (hs2v : bw / 8 = s2) (ok1 ok2 : Bool) (R1 R2 : Nm) (hok1 : ok1 = true) (hok2 : ok2 = true) (p1 p2 q1 q2 c1 c2 d1 d2 m1 m2 n1 n2 u1 u2 v1 v2 e2 : Int) (w : World)
    (KL : Hid (∀ u q x y l h ok R, (q = a ∧ x = bw ∧ y = av ∧ l = l1 ∧ h = h1 ∧ ok = ok1 ∧ R = R1 ∨ q = b ∧ x = s1 ∧ y = s2 ∧ l = l2 ∧ h = h2 ∧ ok = ok2 ∧ R = R2) → Kept w u → Calls Tryd.prog 6 #[.int .i64 q, .int .i64 x, .int .i64 y, .int .i64 32] u fun e w' => ∃ v, e = .returned (.tuple #[sp2 l h, v, .bool ok]) ∧ New u w' v R ∧ Kept u w'))
    (KA : Hid (∀ u, Kept w u → Calls Tryd.prog 7 #[] u fun e w' => e = .returned (.bool true) ∧ Kept u w'))
    (KS : Hid (∀ u Q a1 d1 o1 o2, (Q = R1 ∧ o1 = p1 ∧ o2 = p2 ∨ Q = R2 ∧ o1 = q1 ∧ o2 = q2) → Kept w u → Sl u (.slice a1 Q.mag.length d1) Q.mag → Calls Tryd.prog 13 #[.agg #[.bool Q.neg, .slice a1 Q.mag.length d1, .int .i64 Q.exp], .int .i64 32] u fun e w' => e = .returned (.tuple #[sp2 o1 o2, .int .i64 0]) ∧ Kept u w'))
    (KD : Hid (∀ u i1 i2 i3 i4 o1 o2, (i1 = l1 ∧ i2 = h1 ∧ i3 = l2 ∧ i4 = h2 ∧ o1 = c1 ∧ o2 = c2 ∨ i1 = p1 ∧ i2 = p2 ∧ i3 = q1 ∧ i4 = q2 ∧ o1 = d1 ∧ o2 = d2) → Kept w u → Calls Tryd.prog 10 #[sp2 i1 i2, sp2 i3 i4, .int .i64 32] u fun e w' => e = .returned (.tuple #[sp2 o1 o2, .int .i64 0]) ∧ Kept u w'))
    (KM : Hid (∀ u i1 i2 i3 i4 o1 o2, (i1 = l1 ∧ i2 = h1 ∧ i3 = l2 ∧ i4 = h2 ∧ o1 = m1 ∧ o2 = m2 ∨ i1 = p1 ∧ i2 = p2 ∧ i3 = q1 ∧ i4 = q2 ∧ o1 = n1 ∧ o2 = n2) → Kept w u → Calls Tryd.prog 11 #[sp2 i1 i2, sp2 i3 i4, .int .i64 32] u fun e w' => e = .returned (.tuple #[sp2 o1 o2, .int .i64 0]) ∧ Kept u w'))
    (KV : Hid (∀ u i1 i2 i3 i4 o1 o2 er, (i1 = l1 ∧ i2 = h1 ∧ i3 = l2 ∧ i4 = h2 ∧ o1 = u1 ∧ o2 = u2 ∧ er = 0 ∨ i1 = p1 ∧ i2 = p2 ∧ i3 = q1 ∧ i4 = q2 ∧ o1 = v1 ∧ o2 = v2 ∧ er = 0) → Kept w u → Calls Tryd.prog 14 #[sp2 i1 i2, sp2 i3 i4, .int .i64 32] u fun e w' => e = .returned (.tuple #[sp2 o1 o2, .int .i64 er]) ∧ Kept u w'))
    (KW : Hid (∀ u o1 o2 o3 o4, (o1 = d1 ∧ o2 = d2 ∧ o3 = c1 ∧ o4 = c2 ∨ o1 = n1 ∧ o2 = n2 ∧ o3 = m1 ∧ o4 = m2 ∨ o1 = v1 ∧ o2 = v2 ∧ o3 = u1 ∧ o4 = u2) → Calls Tryd.prog 15 #[sp2 o1 o2, sp2 o3 o4, .int .i64 32] u fun e w' => e = .returned (.bool true) ∧ Kept u w')) :
    Calls Tryd.prog 4 #[.int .i64 a, .int .i64 b, .int .i64 bw, .int .i64 av, .int .i64 w0] w fun e w' => e = .returned (.bool true) ∧ Kept w w' := by
  go_enter Tryd.func4, Tryd.ntmps4
  go_upto_region 3 with (first | (go_at_call 6; refine (KL.out _ _ _ _ _ _ _ _ (.inl ⟨rfl, rfl, rfl, rfl, rfl, rfl, rfl⟩) (Kept.refl _)).mono ?_; rintro e w1 ⟨v, rfl, hN1, k1⟩; obtain ⟨vn, va, vl, vc, vx, rfl⟩ := hN1.shape; obtain ⟨rfl, rfl, rfl, hs1⟩ := new_parts hN1))
  have HS1 : Hid (Sl w1 (.slice va R1.mag.length vc) R1.mag) := hs1
  clear hs1 hN1
  have hP1 := (P2.new w1 (.int .i64 l1) (.int .i64 h1) 23).alloc #[.bool R1.neg, .slice va R1.mag.length vc, .int .i64 R1.exp] 26
  have hQ1 : P3 ((w1.alloc (.cells #[.int .i64 l1, .int .i64 h1] 23)).alloc (.cells #[.bool R1.neg, .slice va R1.mag.length vc, .int .i64 R1.exp] 26)) (w1.heap.size + 1) (.bool R1.neg) (.slice va R1.mag.length vc) (.int .i64 R1.exp) := by
    have := P3.new (w1.alloc (.cells #[.int .i64 l1, .int .i64 h1] 23)) (.bool R1.neg) (.slice va R1.mag.length vc) (.int .i64 R1.exp) 26
    simpa using this
  have kY1 : Kept w1 ((w1.alloc (.cells #[.int .i64 l1, .int .i64 h1] 23)).alloc (.cells #[.bool R1.neg, .slice va R1.mag.length vc, .int .i64 R1.exp] 26)) := ((Kept.refl w1).alloc _ _).alloc _ _
  obtain ⟨Y1, hY1⟩ : ∃ Y, Y = (w1.alloc (.cells #[.int .i64 l1, .int .i64 h1] 23)).alloc (.cells #[.bool R1.neg, .slice va R1.mag.length vc, .int .i64 R1.exp] 26) := ⟨_, rfl⟩
  obtain ⟨B1, hB1⟩ : ∃ B, B = w1.heap.size := ⟨_, rfl⟩
  obtain ⟨B2, hB2⟩ : ∃ B, B = B1 + 1 := ⟨_, rfl⟩
  rw [← hY1] at hP1 hQ1 kY1
  rw [← hB1] at hP1 hQ1
  rw [← hB2] at hQ1
  rw [← hY1, ← hB1, ← hB2]
  have kw1 := k1.trans kY1
  have HS1' : Hid (Sl Y1 (.slice va R1.mag.length vc) R1.mag) := HS1.out.kept kY1
  clear hY1 hB1 hB2 k1 kY1 HS1
  go_upto_region 4 with (first | (go_at_call 6; refine (KL.out _ _ _ _ _ _ _ _ (.inr ⟨rfl, by first | rfl | assumption, by first | rfl | assumption, rfl, rfl, rfl, rfl⟩) kw1).mono ?_; rintro e w2 ⟨v, rfl, hN2, k2⟩; obtain ⟨vn, vb, vl, vd, vx, rfl⟩ := hN2.shape; obtain ⟨rfl, rfl, rfl, hs2⟩ := new_parts hN2))
  clear KL
  have HS2 : Hid (Sl w2 (.slice vb R2.mag.length vd) R2.mag) := hs2
  clear hs2 hN2
  have hP2 := (P2.new w2 (.int .i64 l2) (.int .i64 h2) 23).alloc #[.bool R2.neg, .slice vb R2.mag.length vd, .int .i64 R2.exp] 26
  have hQ2 : P3 ((w2.alloc (.cells #[.int .i64 l2, .int .i64 h2] 23)).alloc (.cells #[.bool R2.neg, .slice vb R2.mag.length vd, .int .i64 R2.exp] 26)) (w2.heap.size + 1) (.bool R2.neg) (.slice vb R2.mag.length vd) (.int .i64 R2.exp) := by
    have := P3.new (w2.alloc (.cells #[.int .i64 l2, .int .i64 h2] 23)) (.bool R2.neg) (.slice vb R2.mag.length vd) (.int .i64 R2.exp) 26
    simpa using this
  have kY2 : Kept w2 ((w2.alloc (.cells #[.int .i64 l2, .int .i64 h2] 23)).alloc (.cells #[.bool R2.neg, .slice vb R2.mag.length vd, .int .i64 R2.exp] 26)) := ((Kept.refl w2).alloc _ _).alloc _ _
  obtain ⟨Y2, hY2⟩ : ∃ Y, Y = (w2.alloc (.cells #[.int .i64 l2, .int .i64 h2] 23)).alloc (.cells #[.bool R2.neg, .slice vb R2.mag.length vd, .int .i64 R2.exp] 26) := ⟨_, rfl⟩
  obtain ⟨B3, hB3⟩ : ∃ B, B = w2.heap.size := ⟨_, rfl⟩
  obtain ⟨B4, hB4⟩ : ∃ B, B = B3 + 1 := ⟨_, rfl⟩
  rw [← hY2] at hP2 hQ2 kY2
  rw [← hB3] at hP2 hQ2
  rw [← hB4] at hQ2
  rw [← hY2, ← hB3, ← hB4]
  have k12 := k2.trans kY2
  have kw2 := kw1.trans k12
  have hP1 := hP1.kept k12
  have hQ1 := hQ1.kept k12
  have HS1 : Hid (Sl Y2 (.slice va R1.mag.length vc) R1.mag) := HS1'.out.kept k12
  have HS2' : Hid (Sl Y2 (.slice vb R2.mag.length vd) R2.mag) := HS2.out.kept kY2
  clear hY2 hB3 hB4 k2 kY2 HS2 HS1' k12 kw1 hw0 hs1v hs2v
  subst hok1 hok2
  go_upto_region 6 with (first | (go_at_call 7; refine (KA.out _ kw2).mono ?_; rintro e w3 ⟨rfl, k3⟩))
  have hP1 := hP1.kept k3
  have hQ1 := hQ1.kept k3
  have hP2 := hP2.kept k3
  have hQ2 := hQ2.kept k3
  have kw := kw2.trans k3
  have HS1 : Hid (Sl w3 (.slice va R1.mag.length vc) R1.mag) := HS1.out.kept k3
  have HS2 : Hid (Sl w3 (.slice vb R2.mag.length vd) R2.mag) := HS2'.out.kept k3
  clear HS2' k3 kw2 KA
  obtain ⟨a0, a1, a2⟩ := hQ1
  go_upto_region 7 with (first | (go_at_call 13; refine (KS.out _ _ _ _ _ _ (.inl ⟨rfl, rfl, rfl⟩) kw HS1.out).mono ?_; rintro e wp ⟨rfl, kp⟩))
  clear a0 a1 a2 HS1
  have kp' := kp.alloc #[.int .i64 p1, .int .i64 p2] 23
  have hSp := P2.new wp (.int .i64 p1) (.int .i64 p2) 23
  obtain ⟨Yp, hYp⟩ : ∃ Y, Y = wp.alloc (.cells #[.int .i64 p1, .int .i64 p2] 23) := ⟨_, rfl⟩
  obtain ⟨Bp, hBp⟩ : ∃ B, B = wp.heap.size := ⟨_, rfl⟩
  rw [← hYp] at kp' hSp
  rw [← hBp] at hSp
  rw [← hYp, ← hBp]
  have hP1 := hP1.kept kp'
  have hP2 := hP2.kept kp'
  have hQ2 := hQ2.kept kp'
  have HS2 : Hid (Sl Yp (.slice vb R2.mag.length vd) R2.mag) := HS2.out.kept kp'
  have kw := kw.trans kp'
  clear hYp hBp kp kp'
  obtain ⟨a0, a1, a2⟩ := hQ2
  go_upto_region 8 with (first | (go_at_call 13; refine (KS.out _ _ _ _ _ _ (.inr ⟨rfl, rfl, rfl⟩) kw HS2.out).mono ?_; rintro e wq ⟨rfl, kq⟩))
  clear a0 a1 a2 HS2 KS
  have kq' := kq.alloc #[.int .i64 q1, .int .i64 q2] 23
  have hSq := P2.new wq (.int .i64 q1) (.int .i64 q2) 23
  obtain ⟨Yq, hYq⟩ : ∃ Y, Y = wq.alloc (.cells #[.int .i64 q1, .int .i64 q2] 23) := ⟨_, rfl⟩
  obtain ⟨Bq, hBq⟩ : ∃ B, B = wq.heap.size := ⟨_, rfl⟩
  rw [← hYq] at kq' hSq
  rw [← hBq] at hSq
  rw [← hYq, ← hBq]
  have hP1 := hP1.kept kq'
  have hP2 := hP2.kept kq'
  have hSp := hSp.kept kq'
  have kw := kw.trans kq'
  clear hYq hBq kq kq'
  obtain ⟨a0, a1, af⟩ := hP1
  obtain ⟨b0, b1, bf⟩ := hP2
  have hP1 := P2.mk a0 a1 af
  have hP2 := P2.mk b0 b1 bf
  go_upto_region 9 with (first | (go_at_call 10; refine (KD.out _ _ _ _ _ _ _ (.inl ⟨rfl, rfl, rfl, rfl, rfl, rfl⟩) kw).mono ?_; rintro e wc ⟨rfl, kc⟩))
  clear a0 a1 af b0 b1 bf
  have kc' := kc.alloc #[.int .i64 c1, .int .i64 c2] 23
  have hSc := P2.new wc (.int .i64 c1) (.int .i64 c2) 23
  obtain ⟨Yc, hYc⟩ : ∃ Y, Y = wc.alloc (.cells #[.int .i64 c1, .int .i64 c2] 23) := ⟨_, rfl⟩
  obtain ⟨Bc, hBc⟩ : ∃ B, B = wc.heap.size := ⟨_, rfl⟩
  rw [← hYc] at kc' hSc
  rw [← hBc] at hSc
  rw [← hYc, ← hBc]
  have hP1 := hP1.kept kc'
  have hP2 := hP2.kept kc'
  have hSp := hSp.kept kc'
  have hSq := hSq.kept kc'
  have kw := kw.trans kc'
  clear hYc hBc kc kc'
  obtain ⟨a0, a1, af⟩ := hSp
  obtain ⟨b0, b1, bf⟩ := hSq
  have hSp := P2.mk a0 a1 af
  have hSq := P2.mk b0 b1 bf
  go_upto_region 10 with (first | (go_at_call 10; refine (KD.out _ _ _ _ _ _ _ (.inr ⟨rfl, rfl, rfl, rfl, rfl, rfl⟩) kw).mono ?_; rintro e wd ⟨rfl, kd⟩))
  clear a0 a1 af b0 b1 bf KD
  have kd' := kd.alloc #[.int .i64 d1, .int .i64 d2] 23
  have hSd := P2.new wd (.int .i64 d1) (.int .i64 d2) 23
  obtain ⟨Yd, hYd⟩ : ∃ Y, Y = wd.alloc (.cells #[.int .i64 d1, .int .i64 d2] 23) := ⟨_, rfl⟩
  obtain ⟨Bd, hBd⟩ : ∃ B, B = wd.heap.size := ⟨_, rfl⟩
  rw [← hYd] at kd' hSd
  rw [← hBd] at hSd
  rw [← hYd, ← hBd]
  have hP1 := hP1.kept kd'
  have hP2 := hP2.kept kd'
  have hSp := hSp.kept kd'
  have hSq := hSq.kept kd'
  have hSc := hSc.kept kd'
  have kw := kw.trans kd'
  clear hYd hBd kd kd'
  obtain ⟨a0, a1, af⟩ := hP1
  obtain ⟨b0, b1, bf⟩ := hP2
  have hP1 := P2.mk a0 a1 af
  have hP2 := P2.mk b0 b1 bf
  go_upto_region 11 with (first | (go_at_call 11; refine (KM.out _ _ _ _ _ _ _ (.inl ⟨rfl, rfl, rfl, rfl, rfl, rfl⟩) kw).mono ?_; rintro e wm ⟨rfl, km⟩))
  clear a0 a1 af b0 b1 bf
  have km' := km.alloc #[.int .i64 m1, .int .i64 m2] 23
  have hSm := P2.new wm (.int .i64 m1) (.int .i64 m2) 23
  obtain ⟨Ym, hYm⟩ : ∃ Y, Y = wm.alloc (.cells #[.int .i64 m1, .int .i64 m2] 23) := ⟨_, rfl⟩
  obtain ⟨Bm, hBm⟩ : ∃ B, B = wm.heap.size := ⟨_, rfl⟩
  rw [← hYm] at km' hSm
  rw [← hBm] at hSm
  rw [← hYm, ← hBm]
  have hP1 := hP1.kept km'
  have hP2 := hP2.kept km'
  have hSp := hSp.kept km'
  have hSq := hSq.kept km'
  have hSc := hSc.kept km'
  have hSd := hSd.kept km'
  have kw := kw.trans km'
  clear hYm hBm km km'
  obtain ⟨a0, a1, af⟩ := hSp
  obtain ⟨b0, b1, bf⟩ := hSq
  have hSp := P2.mk a0 a1 af
  have hSq := P2.mk b0 b1 bf
  go_upto_region 12 with (first | (go_at_call 11; refine (KM.out _ _ _ _ _ _ _ (.inr ⟨rfl, rfl, rfl, rfl, rfl, rfl⟩) kw).mono ?_; rintro e wn ⟨rfl, kn⟩))
  clear a0 a1 af b0 b1 bf KM
  have kn' := kn.alloc #[.int .i64 n1, .int .i64 n2] 23
  have hSn := P2.new wn (.int .i64 n1) (.int .i64 n2) 23
  obtain ⟨Yn, hYn⟩ : ∃ Y, Y = wn.alloc (.cells #[.int .i64 n1, .int .i64 n2] 23) := ⟨_, rfl⟩
  obtain ⟨Bn, hBn⟩ : ∃ B, B = wn.heap.size := ⟨_, rfl⟩
  rw [← hYn] at kn' hSn
  rw [← hBn] at hSn
  rw [← hYn, ← hBn]
  have hP1 := hP1.kept kn'
  have hP2 := hP2.kept kn'
  have hSp := hSp.kept kn'
  have hSq := hSq.kept kn'
  have hSc := hSc.kept kn'
  have hSd := hSd.kept kn'
  have hSm := hSm.kept kn'
  have kw := kw.trans kn'
  clear hYn hBn kn kn'
  obtain ⟨a0, a1, af⟩ := hP1
  obtain ⟨b0, b1, bf⟩ := hP2
  go_upto_region 13 with (first | (go_at_call 14; refine (KV.out _ _ _ _ _ _ _ _ (.inl ⟨rfl, rfl, rfl, rfl, rfl, rfl, rfl⟩) kw).mono ?_; rintro e wu ⟨rfl, ku⟩))
  clear a0 a1 af b0 b1 bf
  have ku' := ku.alloc #[.int .i64 u1, .int .i64 u2] 23
  have hSu := P2.new wu (.int .i64 u1) (.int .i64 u2) 23
  obtain ⟨Yu, hYu⟩ : ∃ Y, Y = wu.alloc (.cells #[.int .i64 u1, .int .i64 u2] 23) := ⟨_, rfl⟩
  obtain ⟨Bu, hBu⟩ : ∃ B, B = wu.heap.size := ⟨_, rfl⟩
  rw [← hYu] at ku' hSu
  rw [← hBu] at hSu
  rw [← hYu, ← hBu]
  have hSp := hSp.kept ku'
  have hSq := hSq.kept ku'
  have hSc := hSc.kept ku'
  have hSd := hSd.kept ku'
  have hSm := hSm.kept ku'
  have hSn := hSn.kept ku'
  have kw := kw.trans ku'
  clear hYu hBu ku ku'
  obtain ⟨a0, a1, af⟩ := hSp
  obtain ⟨b0, b1, bf⟩ := hSq
  go_upto_region 14 with (first | (go_at_call 14; refine (KV.out _ _ _ _ _ _ _ _ (.inr ⟨rfl, rfl, rfl, rfl, rfl, rfl, rfl⟩) kw).mono ?_; rintro e wv ⟨rfl, kv⟩))
  clear a0 a1 af b0 b1 bf KV
  have kv' := kv.alloc #[.int .i64 v1, .int .i64 v2] 23
  have hSv := P2.new wv (.int .i64 v1) (.int .i64 v2) 23
  obtain ⟨Yv, hYv⟩ : ∃ Y, Y = wv.alloc (.cells #[.int .i64 v1, .int .i64 v2] 23) := ⟨_, rfl⟩
  obtain ⟨Bv, hBv⟩ : ∃ B, B = wv.heap.size := ⟨_, rfl⟩
  rw [← hYv] at kv' hSv
  rw [← hBv] at hSv
  rw [← hYv, ← hBv]
  have hSc := hSc.kept kv'
  have hSd := hSd.kept kv'
  have hSm := hSm.kept kv'
  have hSn := hSn.kept kv'
  have hSu := hSu.kept kv'
  have kw := kw.trans kv'
  clear hYv hBv kv kv'
  obtain ⟨a0, a1, af⟩ := hSd
  obtain ⟨b0, b1, bf⟩ := hSc
  go_wp2_with fail
  refine (KW.out _ _ _ _ _ (.inl ⟨rfl, rfl, rfl, rfl⟩)).mono ?_
  rintro e wA ⟨rfl, kA⟩
  clear a0 a1 af b0 b1 bf
  obtain ⟨a0, a1, af⟩ := hSn.kept kA
  obtain ⟨b0, b1, bf⟩ := hSm.kept kA
  go_wp2_with fail
  refine (KW.out _ _ _ _ _ (.inr (.inl ⟨rfl, rfl, rfl, rfl⟩))).mono ?_
  rintro e wB ⟨rfl, kB⟩
  clear a0 a1 af b0 b1 bf
  obtain ⟨a0, a1, af⟩ := hSv.kept (kA.trans kB)
  obtain ⟨b0, b1, bf⟩ := hSu.kept (kA.trans kB)
  go_wp2_with fail
  refine (KW.out _ _ _ _ _ (.inr (.inr ⟨rfl, rfl, rfl, rfl⟩))).mono ?_
  rintro e wC ⟨rfl, kC⟩
  go_wp2_with fail
  go_ret
  exact ⟨rfl, ((kw.trans kA).trans kB).trans kC⟩
set_option maxHeartbeats 8000000 in
set_option maxRecDepth 100000 in
theorem lessC_64 (a b bw av w0 s1 s2 l1 h1 l2 h2 : Int) (hw0 : bits .and .i64 w0 1 = 1) (hs1v : av / 8 = s1) (hs2v : bw / 8 = s2) (ok1 ok2 : Bool) (R1 R2 : Nm) (hok1 : ok1 = true) (hok2 : ok2 = true) (p1 p2 q1 q2 c1 c2 d1 d2 m1 m2 n1 n2 u1 u2 v1 v2 e2 : Int) (w : World)
    (KL : Hid (∀ u q x y l h ok R, (q = a ∧ x = bw ∧ y = av ∧ l = l1 ∧ h = h1 ∧ ok = ok1 ∧ R = R1 ∨ q = b ∧ x = s1 ∧ y = s2 ∧ l = l2 ∧ h = h2 ∧ ok = ok2 ∧ R = R2) → Kept w u → Calls Tryd.prog 6 #[.int .i64 q, .int .i64 x, .int .i64 y, .int .i64 64] u fun e w' => ∃ v, e = .returned (.tuple #[sp2 l h, v, .bool ok]) ∧ New u w' v R ∧ Kept u w'))
    (KA : Hid (∀ u, Kept w u → Calls Tryd.prog 7 #[] u fun e w' => e = .returned (.bool true) ∧ Kept u w'))
    (KS : Hid (∀ u Q a1 d1 o1 o2, (Q = R1 ∧ o1 = p1 ∧ o2 = p2 ∨ Q = R2 ∧ o1 = q1 ∧ o2 = q2) → Kept w u → Sl u (.slice a1 Q.mag.length d1) Q.mag → Calls Tryd.prog 13 #[.agg #[.bool Q.neg, .slice a1 Q.mag.length d1, .int .i64 Q.exp], .int .i64 64] u fun e w' => e = .returned (.tuple #[sp2 o1 o2, .int .i64 0]) ∧ Kept u w'))
    (KD : Hid (∀ u i1 i2 i3 i4 o1 o2, (i1 = l1 ∧ i2 = h1 ∧ i3 = l2 ∧ i4 = h2 ∧ o1 = c1 ∧ o2 = c2 ∨ i1 = p1 ∧ i2 = p2 ∧ i3 = q1 ∧ i4 = q2 ∧ o1 = d1 ∧ o2 = d2) → Kept w u → Calls Tryd.prog 10 #[sp2 i1 i2, sp2 i3 i4, .int .i64 64] u fun e w' => e = .returned (.tuple #[sp2 o1 o2, .int .i64 0]) ∧ Kept u w'))
    (KM : Hid (∀ u i1 i2 i3 i4 o1 o2, (i1 = l1 ∧ i2 = h1 ∧ i3 = l2 ∧ i4 = h2 ∧ o1 = m1 ∧ o2 = m2 ∨ i1 = p1 ∧ i2 = p2 ∧ i3 = q1 ∧ i4 = q2 ∧ o1 = n1 ∧ o2 = n2) → Kept w u → Calls Tryd.prog 11 #[sp2 i1 i2, sp2 i3 i4, .int .i64 64] u fun e w' => e = .returned (.tuple #[sp2 o1 o2, .int .i64 0]) ∧ Kept u w'))
    (KV : Hid (∀ u i1 i2 i3 i4 o1 o2 er, (i1 = l1 ∧ i2 = h1 ∧ i3 = l2 ∧ i4 = h2 ∧ o1 = u1 ∧ o2 = u2 ∧ er = 8 ∨ i1 = p1 ∧ i2 = p2 ∧ i3 = q1 ∧ i4 = q2 ∧ o1 = v1 ∧ o2 = v2 ∧ er = e2) → Kept w u → Calls Tryd.prog 14 #[sp2 i1 i2, sp2 i3 i4, .int .i64 64] u fun e w' => e = .returned (.tuple #[sp2 o1 o2, .int .i64 er]) ∧ Kept u w'))
    (KW : Hid (∀ u o1 o2 o3 o4, (o1 = d1 ∧ o2 = d2 ∧ o3 = c1 ∧ o4 = c2 ∨ o1 = n1 ∧ o2 = n2 ∧ o3 = m1 ∧ o4 = m2) → Calls Tryd.prog 15 #[sp2 o1 o2, sp2 o3 o4, .int .i64 64] u fun e w' => e = .returned (.bool true) ∧ Kept u w')) :
    Calls Tryd.prog 4 #[.int .i64 a, .int .i64 b, .int .i64 bw, .int .i64 av, .int .i64 w0] w fun e w' => e = .returned (.bool true) ∧ Kept w w' := by
  go_enter Tryd.func4, Tryd.ntmps4
  go_upto_region 3 with (first | (go_at_call 6; refine (KL.out _ _ _ _ _ _ _ _ (.inl ⟨rfl, rfl, rfl, rfl, rfl, rfl, rfl⟩) (Kept.refl _)).mono ?_; rintro e w1 ⟨v, rfl, hN1, k1⟩; obtain ⟨vn, va, vl, vc, vx, rfl⟩ := hN1.shape; obtain ⟨rfl, rfl, rfl, hs1⟩ := new_parts hN1))
  have HS1 : Hid (Sl w1 (.slice va R1.mag.length vc) R1.mag) := hs1
  clear hs1 hN1
  have hP1 := (P2.new w1 (.int .i64 l1) (.int .i64 h1) 23).alloc #[.bool R1.neg, .slice va R1.mag.length vc, .int .i64 R1.exp] 26
  have hQ1 : P3 ((w1.alloc (.cells #[.int .i64 l1, .int .i64 h1] 23)).alloc (.cells #[.bool R1.neg, .slice va R1.mag.length vc, .int .i64 R1.exp] 26)) (w1.heap.size + 1) (.bool R1.neg) (.slice va R1.mag.length vc) (.int .i64 R1.exp) := by
    have := P3.new (w1.alloc (.cells #[.int .i64 l1, .int .i64 h1] 23)) (.bool R1.neg) (.slice va R1.mag.length vc) (.int .i64 R1.exp) 26
    simpa using this
  have kY1 : Kept w1 ((w1.alloc (.cells #[.int .i64 l1, .int .i64 h1] 23)).alloc (.cells #[.bool R1.neg, .slice va R1.mag.length vc, .int .i64 R1.exp] 26)) := ((Kept.refl w1).alloc _ _).alloc _ _
  obtain ⟨Y1, hY1⟩ : ∃ Y, Y = (w1.alloc (.cells #[.int .i64 l1, .int .i64 h1] 23)).alloc (.cells #[.bool R1.neg, .slice va R1.mag.length vc, .int .i64 R1.exp] 26) := ⟨_, rfl⟩
  obtain ⟨B1, hB1⟩ : ∃ B, B = w1.heap.size := ⟨_, rfl⟩
  obtain ⟨B2, hB2⟩ : ∃ B, B = B1 + 1 := ⟨_, rfl⟩
  rw [← hY1] at hP1 hQ1 kY1
  rw [← hB1] at hP1 hQ1
  rw [← hB2] at hQ1
  rw [← hY1, ← hB1, ← hB2]
  have kw1 := k1.trans kY1
  have HS1' : Hid (Sl Y1 (.slice va R1.mag.length vc) R1.mag) := HS1.out.kept kY1
  clear hY1 hB1 hB2 k1 kY1 HS1
  go_upto_region 4 with (first | (go_at_call 6; refine (KL.out _ _ _ _ _ _ _ _ (.inr ⟨rfl, by first | rfl | assumption, by first | rfl | assumption, rfl, rfl, rfl, rfl⟩) kw1).mono ?_; rintro e w2 ⟨v, rfl, hN2, k2⟩; obtain ⟨vn, vb, vl, vd, vx, rfl⟩ := hN2.shape; obtain ⟨rfl, rfl, rfl, hs2⟩ := new_parts hN2))
  clear KL
  have HS2 : Hid (Sl w2 (.slice vb R2.mag.length vd) R2.mag) := hs2
  clear hs2 hN2
  have hP2 := (P2.new w2 (.int .i64 l2) (.int .i64 h2) 23).alloc #[.bool R2.neg, .slice vb R2.mag.length vd, .int .i64 R2.exp] 26
  have hQ2 : P3 ((w2.alloc (.cells #[.int .i64 l2, .int .i64 h2] 23)).alloc (.cells #[.bool R2.neg, .slice vb R2.mag.length vd, .int .i64 R2.exp] 26)) (w2.heap.size + 1) (.bool R2.neg) (.slice vb R2.mag.length vd) (.int .i64 R2.exp) := by
    have := P3.new (w2.alloc (.cells #[.int .i64 l2, .int .i64 h2] 23)) (.bool R2.neg) (.slice vb R2.mag.length vd) (.int .i64 R2.exp) 26
    simpa using this
  have kY2 : Kept w2 ((w2.alloc (.cells #[.int .i64 l2, .int .i64 h2] 23)).alloc (.cells #[.bool R2.neg, .slice vb R2.mag.length vd, .int .i64 R2.exp] 26)) := ((Kept.refl w2).alloc _ _).alloc _ _
  obtain ⟨Y2, hY2⟩ : ∃ Y, Y = (w2.alloc (.cells #[.int .i64 l2, .int .i64 h2] 23)).alloc (.cells #[.bool R2.neg, .slice vb R2.mag.length vd, .int .i64 R2.exp] 26) := ⟨_, rfl⟩
  obtain ⟨B3, hB3⟩ : ∃ B, B = w2.heap.size := ⟨_, rfl⟩
  obtain ⟨B4, hB4⟩ : ∃ B, B = B3 + 1 := ⟨_, rfl⟩
  rw [← hY2] at hP2 hQ2 kY2
  rw [← hB3] at hP2 hQ2
  rw [← hB4] at hQ2
  rw [← hY2, ← hB3, ← hB4]
  have k12 := k2.trans kY2
  have kw2 := kw1.trans k12
  have hP1 := hP1.kept k12
  have hQ1 := hQ1.kept k12
  have HS1 : Hid (Sl Y2 (.slice va R1.mag.length vc) R1.mag) := HS1'.out.kept k12
  have HS2' : Hid (Sl Y2 (.slice vb R2.mag.length vd) R2.mag) := HS2.out.kept kY2
  clear hY2 hB3 hB4 k2 kY2 HS2 HS1' k12 kw1 hw0 hs1v hs2v
  subst hok1 hok2
  go_upto_region 6 with (first | (go_at_call 7; refine (KA.out _ kw2).mono ?_; rintro e w3 ⟨rfl, k3⟩))
  have hP1 := hP1.kept k3
  have hQ1 := hQ1.kept k3
  have hP2 := hP2.kept k3
  have hQ2 := hQ2.kept k3
  have kw := kw2.trans k3
  have HS1 : Hid (Sl w3 (.slice va R1.mag.length vc) R1.mag) := HS1.out.kept k3
  have HS2 : Hid (Sl w3 (.slice vb R2.mag.length vd) R2.mag) := HS2'.out.kept k3
  clear HS2' k3 kw2 KA
  obtain ⟨a0, a1, a2⟩ := hQ1
  go_upto_region 7 with (first | (go_at_call 13; refine (KS.out _ _ _ _ _ _ (.inl ⟨rfl, rfl, rfl⟩) kw HS1.out).mono ?_; rintro e wp ⟨rfl, kp⟩))
  clear a0 a1 a2 HS1
  have kp' := kp.alloc #[.int .i64 p1, .int .i64 p2] 23
  have hSp := P2.new wp (.int .i64 p1) (.int .i64 p2) 23
  obtain ⟨Yp, hYp⟩ : ∃ Y, Y = wp.alloc (.cells #[.int .i64 p1, .int .i64 p2] 23) := ⟨_, rfl⟩
  obtain ⟨Bp, hBp⟩ : ∃ B, B = wp.heap.size := ⟨_, rfl⟩
  rw [← hYp] at kp' hSp
  rw [← hBp] at hSp
  rw [← hYp, ← hBp]
  have hP1 := hP1.kept kp'
  have hP2 := hP2.kept kp'
  have hQ2 := hQ2.kept kp'
  have HS2 : Hid (Sl Yp (.slice vb R2.mag.length vd) R2.mag) := HS2.out.kept kp'
  have kw := kw.trans kp'
  clear hYp hBp kp kp'
  obtain ⟨a0, a1, a2⟩ := hQ2
  go_upto_region 8 with (first | (go_at_call 13; refine (KS.out _ _ _ _ _ _ (.inr ⟨rfl, rfl, rfl⟩) kw HS2.out).mono ?_; rintro e wq ⟨rfl, kq⟩))
  clear a0 a1 a2 HS2 KS
  have kq' := kq.alloc #[.int .i64 q1, .int .i64 q2] 23
  have hSq := P2.new wq (.int .i64 q1) (.int .i64 q2) 23
  obtain ⟨Yq, hYq⟩ : ∃ Y, Y = wq.alloc (.cells #[.int .i64 q1, .int .i64 q2] 23) := ⟨_, rfl⟩
  obtain ⟨Bq, hBq⟩ : ∃ B, B = wq.heap.size := ⟨_, rfl⟩
  rw [← hYq] at kq' hSq
  rw [← hBq] at hSq
  rw [← hYq, ← hBq]
  have hP1 := hP1.kept kq'
  have hP2 := hP2.kept kq'
  have hSp := hSp.kept kq'
  have kw := kw.trans kq'
  clear hYq hBq kq kq'
  obtain ⟨a0, a1, af⟩ := hP1
  obtain ⟨b0, b1, bf⟩ := hP2
  have hP1 := P2.mk a0 a1 af
  have hP2 := P2.mk b0 b1 bf
  go_upto_region 9 with (first | (go_at_call 10; refine (KD.out _ _ _ _ _ _ _ (.inl ⟨rfl, rfl, rfl, rfl, rfl, rfl⟩) kw).mono ?_; rintro e wc ⟨rfl, kc⟩))
  clear a0 a1 af b0 b1 bf
  have kc' := kc.alloc #[.int .i64 c1, .int .i64 c2] 23
  have hSc := P2.new wc (.int .i64 c1) (.int .i64 c2) 23
  obtain ⟨Yc, hYc⟩ : ∃ Y, Y = wc.alloc (.cells #[.int .i64 c1, .int .i64 c2] 23) := ⟨_, rfl⟩
  obtain ⟨Bc, hBc⟩ : ∃ B, B = wc.heap.size := ⟨_, rfl⟩
  rw [← hYc] at kc' hSc
  rw [← hBc] at hSc
  rw [← hYc, ← hBc]
  have hP1 := hP1.kept kc'
  have hP2 := hP2.kept kc'
  have hSp := hSp.kept kc'
  have hSq := hSq.kept kc'
  have kw := kw.trans kc'
  clear hYc hBc kc kc'
  obtain ⟨a0, a1, af⟩ := hSp
  obtain ⟨b0, b1, bf⟩ := hSq
  have hSp := P2.mk a0 a1 af
  have hSq := P2.mk b0 b1 bf
  go_upto_region 10 with (first | (go_at_call 10; refine (KD.out _ _ _ _ _ _ _ (.inr ⟨rfl, rfl, rfl, rfl, rfl, rfl⟩) kw).mono ?_; rintro e wd ⟨rfl, kd⟩))
  clear a0 a1 af b0 b1 bf KD
  have kd' := kd.alloc #[.int .i64 d1, .int .i64 d2] 23
  have hSd := P2.new wd (.int .i64 d1) (.int .i64 d2) 23
  obtain ⟨Yd, hYd⟩ : ∃ Y, Y = wd.alloc (.cells #[.int .i64 d1, .int .i64 d2] 23) := ⟨_, rfl⟩
  obtain ⟨Bd, hBd⟩ : ∃ B, B = wd.heap.size := ⟨_, rfl⟩
  rw [← hYd] at kd' hSd
  rw [← hBd] at hSd
  rw [← hYd, ← hBd]
  have hP1 := hP1.kept kd'
  have hP2 := hP2.kept kd'
  have hSp := hSp.kept kd'
  have hSq := hSq.kept kd'
  have hSc := hSc.kept kd'
  have kw := kw.trans kd'
  clear hYd hBd kd kd'
  obtain ⟨a0, a1, af⟩ := hP1
  obtain ⟨b0, b1, bf⟩ := hP2
  have hP1 := P2.mk a0 a1 af
  have hP2 := P2.mk b0 b1 bf
  go_upto_region 11 with (first | (go_at_call 11; refine (KM.out _ _ _ _ _ _ _ (.inl ⟨rfl, rfl, rfl, rfl, rfl, rfl⟩) kw).mono ?_; rintro e wm ⟨rfl, km⟩))
  clear a0 a1 af b0 b1 bf
  have km' := km.alloc #[.int .i64 m1, .int .i64 m2] 23
  have hSm := P2.new wm (.int .i64 m1) (.int .i64 m2) 23
  obtain ⟨Ym, hYm⟩ : ∃ Y, Y = wm.alloc (.cells #[.int .i64 m1, .int .i64 m2] 23) := ⟨_, rfl⟩
  obtain ⟨Bm, hBm⟩ : ∃ B, B = wm.heap.size := ⟨_, rfl⟩
  rw [← hYm] at km' hSm
  rw [← hBm] at hSm
  rw [← hYm, ← hBm]
  have hP1 := hP1.kept km'
  have hP2 := hP2.kept km'
  have hSp := hSp.kept km'
  have hSq := hSq.kept km'
  have hSc := hSc.kept km'
  have hSd := hSd.kept km'
  have kw := kw.trans km'
  clear hYm hBm km km'
  obtain ⟨a0, a1, af⟩ := hSp
  obtain ⟨b0, b1, bf⟩ := hSq
  have hSp := P2.mk a0 a1 af
  have hSq := P2.mk b0 b1 bf
  go_upto_region 12 with (first | (go_at_call 11; refine (KM.out _ _ _ _ _ _ _ (.inr ⟨rfl, rfl, rfl, rfl, rfl, rfl⟩) kw).mono ?_; rintro e wn ⟨rfl, kn⟩))
  clear a0 a1 af b0 b1 bf KM
  have kn' := kn.alloc #[.int .i64 n1, .int .i64 n2] 23
  have hSn := P2.new wn (.int .i64 n1) (.int .i64 n2) 23
  obtain ⟨Yn, hYn⟩ : ∃ Y, Y = wn.alloc (.cells #[.int .i64 n1, .int .i64 n2] 23) := ⟨_, rfl⟩
  obtain ⟨Bn, hBn⟩ : ∃ B, B = wn.heap.size := ⟨_, rfl⟩
  rw [← hYn] at kn' hSn
  rw [← hBn] at hSn
  rw [← hYn, ← hBn]
  have hP1 := hP1.kept kn'
  have hP2 := hP2.kept kn'
  have hSp := hSp.kept kn'
  have hSq := hSq.kept kn'
  have hSc := hSc.kept kn'
  have hSd := hSd.kept kn'
  have hSm := hSm.kept kn'
  have kw := kw.trans kn'
  clear hYn hBn kn kn'
  obtain ⟨a0, a1, af⟩ := hP1
  obtain ⟨b0, b1, bf⟩ := hP2
  go_upto_region 13 with (first | (go_at_call 14; refine (KV.out _ _ _ _ _ _ _ _ (.inl ⟨rfl, rfl, rfl, rfl, rfl, rfl, rfl⟩) kw).mono ?_; rintro e wu ⟨rfl, ku⟩))
  clear a0 a1 af b0 b1 bf
  have ku' := ku.alloc #[.int .i64 u1, .int .i64 u2] 23
  have hSu := P2.new wu (.int .i64 u1) (.int .i64 u2) 23
  obtain ⟨Yu, hYu⟩ : ∃ Y, Y = wu.alloc (.cells #[.int .i64 u1, .int .i64 u2] 23) := ⟨_, rfl⟩
  obtain ⟨Bu, hBu⟩ : ∃ B, B = wu.heap.size := ⟨_, rfl⟩
  rw [← hYu] at ku' hSu
  rw [← hBu] at hSu
  rw [← hYu, ← hBu]
  have hSp := hSp.kept ku'
  have hSq := hSq.kept ku'
  have hSc := hSc.kept ku'
  have hSd := hSd.kept ku'
  have hSm := hSm.kept ku'
  have hSn := hSn.kept ku'
  have kw := kw.trans ku'
  clear hYu hBu ku ku'
  obtain ⟨a0, a1, af⟩ := hSp
  obtain ⟨b0, b1, bf⟩ := hSq
  go_upto_region 14 with (first | (go_at_call 14; refine (KV.out _ _ _ _ _ _ _ _ (.inr ⟨rfl, rfl, rfl, rfl, rfl, rfl, rfl⟩) kw).mono ?_; rintro e wv ⟨rfl, kv⟩))
  clear a0 a1 af b0 b1 bf KV
  have kv' := kv.alloc #[.int .i64 v1, .int .i64 v2] 23
  have hSv := P2.new wv (.int .i64 v1) (.int .i64 v2) 23
  obtain ⟨Yv, hYv⟩ : ∃ Y, Y = wv.alloc (.cells #[.int .i64 v1, .int .i64 v2] 23) := ⟨_, rfl⟩
  obtain ⟨Bv, hBv⟩ : ∃ B, B = wv.heap.size := ⟨_, rfl⟩
  rw [← hYv] at kv' hSv
  rw [← hBv] at hSv
  rw [← hYv, ← hBv]
  have hSc := hSc.kept kv'
  have hSd := hSd.kept kv'
  have hSm := hSm.kept kv'
  have hSn := hSn.kept kv'
  have hSu := hSu.kept kv'
  have kw := kw.trans kv'
  clear hYv hBv kv kv'
  obtain ⟨a0, a1, af⟩ := hSd
  obtain ⟨b0, b1, bf⟩ := hSc
  go_wp2_with fail
  refine (KW.out _ _ _ _ _ (.inl ⟨rfl, rfl, rfl, rfl⟩)).mono ?_
  rintro e wA ⟨rfl, kA⟩
  clear a0 a1 af b0 b1 bf
  obtain ⟨a0, a1, af⟩ := hSn.kept kA
  obtain ⟨b0, b1, bf⟩ := hSm.kept kA
  go_wp2_with fail
  refine (KW.out _ _ _ _ _ (.inr ⟨rfl, rfl, rfl, rfl⟩)).mono ?_
  rintro e wB ⟨rfl, kB⟩
  go_wp2_with fail
  go_ret
  exact ⟨rfl, (kw.trans kA).trans kB⟩
set_option maxHeartbeats 8000000 in
set_option maxRecDepth 100000 in
theorem lessC_32 (a b bw av w0 s1 s2 l1 h1 l2 h2 : Int) (hw0 : bits .and .i64 w0 1 = 0) (hs1v : av / 8 = s1) (hs2v : bw / 8 = s2) (ok1 ok2 : Bool) (R1 R2 : Nm) (hok1 : ok1 = true) (hok2 : ok2 = true) (p1 p2 q1 q2 c1 c2 d1 d2 m1 m2 n1 n2 u1 u2 v1 v2 e2 : Int) (w : World)
    (KL : Hid (∀ u q x y l h ok R, (q = a ∧ x = bw ∧ y = av ∧ l = l1 ∧ h = h1 ∧ ok = ok1 ∧ R = R1 ∨ q = b ∧ x = s1 ∧ y = s2 ∧ l = l2 ∧ h = h2 ∧ ok = ok2 ∧ R = R2) → Kept w u → Calls Tryd.prog 6 #[.int .i64 q, .int .i64 x, .int .i64 y, .int .i64 32] u fun e w' => ∃ v, e = .returned (.tuple #[sp2 l h, v, .bool ok]) ∧ New u w' v R ∧ Kept u w'))
    (KA : Hid (∀ u, Kept w u → Calls Tryd.prog 7 #[] u fun e w' => e = .returned (.bool true) ∧ Kept u w'))
    (KS : Hid (∀ u Q a1 d1 o1 o2, (Q = R1 ∧ o1 = p1 ∧ o2 = p2 ∨ Q = R2 ∧ o1 = q1 ∧ o2 = q2) → Kept w u → Sl u (.slice a1 Q.mag.length d1) Q.mag → Calls Tryd.prog 13 #[.agg #[.bool Q.neg, .slice a1 Q.mag.length d1, .int .i64 Q.exp], .int .i64 32] u fun e w' => e = .returned (.tuple #[sp2 o1 o2, .int .i64 0]) ∧ Kept u w'))
    (KD : Hid (∀ u i1 i2 i3 i4 o1 o2, (i1 = l1 ∧ i2 = h1 ∧ i3 = l2 ∧ i4 = h2 ∧ o1 = c1 ∧ o2 = c2 ∨ i1 = p1 ∧ i2 = p2 ∧ i3 = q1 ∧ i4 = q2 ∧ o1 = d1 ∧ o2 = d2) → Kept w u → Calls Tryd.prog 10 #[sp2 i1 i2, sp2 i3 i4, .int .i64 32] u fun e w' => e = .returned (.tuple #[sp2 o1 o2, .int .i64 0]) ∧ Kept u w'))
    (KM : Hid (∀ u i1 i2 i3 i4 o1 o2, (i1 = l1 ∧ i2 = h1 ∧ i3 = l2 ∧ i4 = h2 ∧ o1 = m1 ∧ o2 = m2 ∨ i1 = p1 ∧ i2 = p2 ∧ i3 = q1 ∧ i4 = q2 ∧ o1 = n1 ∧ o2 = n2) → Kept w u → Calls Tryd.prog 11 #[sp2 i1 i2, sp2 i3 i4, .int .i64 32] u fun e w' => e = .returned (.tuple #[sp2 o1 o2, .int .i64 0]) ∧ Kept u w'))
    (KV : Hid (∀ u i1 i2 i3 i4 o1 o2 er, (i1 = l1 ∧ i2 = h1 ∧ i3 = l2 ∧ i4 = h2 ∧ o1 = u1 ∧ o2 = u2 ∧ er = 8 ∨ i1 = p1 ∧ i2 = p2 ∧ i3 = q1 ∧ i4 = q2 ∧ o1 = v1 ∧ o2 = v2 ∧ er = e2) → Kept w u → Calls Tryd.prog 14 #[sp2 i1 i2, sp2 i3 i4, .int .i64 32] u fun e w' => e = .returned (.tuple #[sp2 o1 o2, .int .i64 er]) ∧ Kept u w'))
    (KW : Hid (∀ u o1 o2 o3 o4, (o1 = d1 ∧ o2 = d2 ∧ o3 = c1 ∧ o4 = c2 ∨ o1 = n1 ∧ o2 = n2 ∧ o3 = m1 ∧ o4 = m2) → Calls Tryd.prog 15 #[sp2 o1 o2, sp2 o3 o4, .int .i64 32] u fun e w' => e = .returned (.bool true) ∧ Kept u w')) :
    Calls Tryd.prog 4 #[.int .i64 a, .int .i64 b, .int .i64 bw, .int .i64 av, .int .i64 w0] w fun e w' => e = .returned (.bool true) ∧ Kept w w' := by
  go_enter Tryd.func4, Tryd.ntmps4
  go_upto_region 3 with (first | (go_at_call 6; refine (KL.out _ _ _ _ _ _ _ _ (.inl ⟨rfl, rfl, rfl, rfl, rfl, rfl, rfl⟩) (Kept.refl _)).mono ?_; rintro e w1 ⟨v, rfl, hN1, k1⟩; obtain ⟨vn, va, vl, vc, vx, rfl⟩ := hN1.shape; obtain ⟨rfl, rfl, rfl, hs1⟩ := new_parts hN1))
  have HS1 : Hid (Sl w1 (.slice va R1.mag.length vc) R1.mag) := hs1
  clear hs1 hN1
  have hP1 := (P2.new w1 (.int .i64 l1) (.int .i64 h1) 23).alloc #[.bool R1.neg, .slice va R1.mag.length vc, .int .i64 R1.exp] 26
  have hQ1 : P3 ((w1.alloc (.cells #[.int .i64 l1, .int .i64 h1] 23)).alloc (.cells #[.bool R1.neg, .slice va R1.mag.length vc, .int .i64 R1.exp] 26)) (w1.heap.size + 1) (.bool R1.neg) (.slice va R1.mag.length vc) (.int .i64 R1.exp) := by
    have := P3.new (w1.alloc (.cells #[.int .i64 l1, .int .i64 h1] 23)) (.bool R1.neg) (.slice va R1.mag.length vc) (.int .i64 R1.exp) 26
    simpa using this
  have kY1 : Kept w1 ((w1.alloc (.cells #[.int .i64 l1, .int .i64 h1] 23)).alloc (.cells #[.bool R1.neg, .slice va R1.mag.length vc, .int .i64 R1.exp] 26)) := ((Kept.refl w1).alloc _ _).alloc _ _
  obtain ⟨Y1, hY1⟩ : ∃ Y, Y = (w1.alloc (.cells #[.int .i64 l1, .int .i64 h1] 23)).alloc (.cells #[.bool R1.neg, .slice va R1.mag.length vc, .int .i64 R1.exp] 26) := ⟨_, rfl⟩
  obtain ⟨B1, hB1⟩ : ∃ B, B = w1.heap.size := ⟨_, rfl⟩
  obtain ⟨B2, hB2⟩ : ∃ B, B = B1 + 1 := ⟨_, rfl⟩
  rw [← hY1] at hP1 hQ1 kY1
  rw [← hB1] at hP1 hQ1
  rw [← hB2] at hQ1
  rw [← hY1, ← hB1, ← hB2]
  have kw1 := k1.trans kY1
  have HS1' : Hid (Sl Y1 (.slice va R1.mag.length vc) R1.mag) := HS1.out.kept kY1
  clear hY1 hB1 hB2 k1 kY1 HS1
  go_upto_region 4 with (first | (go_at_call 6; refine (KL.out _ _ _ _ _ _ _ _ (.inr ⟨rfl, by first | rfl | assumption, by first | rfl | assumption, rfl, rfl, rfl, rfl⟩) kw1).mono ?_; rintro e w2 ⟨v, rfl, hN2, k2⟩; obtain ⟨vn, vb, vl, vd, vx, rfl⟩ := hN2.shape; obtain ⟨rfl, rfl, rfl, hs2⟩ := new_parts hN2))
  clear KL
  have HS2 : Hid (Sl w2 (.slice vb R2.mag.length vd) R2.mag) := hs2
  clear hs2 hN2
  have hP2 := (P2.new w2 (.int .i64 l2) (.int .i64 h2) 23).alloc #[.bool R2.neg, .slice vb R2.mag.length vd, .int .i64 R2.exp] 26
  have hQ2 : P3 ((w2.alloc (.cells #[.int .i64 l2, .int .i64 h2] 23)).alloc (.cells #[.bool R2.neg, .slice vb R2.mag.length vd, .int .i64 R2.exp] 26)) (w2.heap.size + 1) (.bool R2.neg) (.slice vb R2.mag.length vd) (.int .i64 R2.exp) := by
    have := P3.new (w2.alloc (.cells #[.int .i64 l2, .int .i64 h2] 23)) (.bool R2.neg) (.slice vb R2.mag.length vd) (.int .i64 R2.exp) 26
    simpa using this
  have kY2 : Kept w2 ((w2.alloc (.cells #[.int .i64 l2, .int .i64 h2] 23)).alloc (.cells #[.bool R2.neg, .slice vb R2.mag.length vd, .int .i64 R2.exp] 26)) := ((Kept.refl w2).alloc _ _).alloc _ _
  obtain ⟨Y2, hY2⟩ : ∃ Y, Y = (w2.alloc (.cells #[.int .i64 l2, .int .i64 h2] 23)).alloc (.cells #[.bool R2.neg, .slice vb R2.mag.length vd, .int .i64 R2.exp] 26) := ⟨_, rfl⟩
  obtain ⟨B3, hB3⟩ : ∃ B, B = w2.heap.size := ⟨_, rfl⟩
  obtain ⟨B4, hB4⟩ : ∃ B, B = B3 + 1 := ⟨_, rfl⟩
  rw [← hY2] at hP2 hQ2 kY2
  rw [← hB3] at hP2 hQ2
  rw [← hB4] at hQ2
  rw [← hY2, ← hB3, ← hB4]
  have k12 := k2.trans kY2
  have kw2 := kw1.trans k12
  have hP1 := hP1.kept k12
  have hQ1 := hQ1.kept k12
  have HS1 : Hid (Sl Y2 (.slice va R1.mag.length vc) R1.mag) := HS1'.out.kept k12
  have HS2' : Hid (Sl Y2 (.slice vb R2.mag.length vd) R2.mag) := HS2.out.kept kY2
  clear hY2 hB3 hB4 k2 kY2 HS2 HS1' k12 kw1 hw0 hs1v hs2v
  subst hok1 hok2
  go_upto_region 6 with (first | (go_at_call 7; refine (KA.out _ kw2).mono ?_; rintro e w3 ⟨rfl, k3⟩))
  have hP1 := hP1.kept k3
  have hQ1 := hQ1.kept k3
  have hP2 := hP2.kept k3
  have hQ2 := hQ2.kept k3
  have kw := kw2.trans k3
  have HS1 : Hid (Sl w3 (.slice va R1.mag.length vc) R1.mag) := HS1.out.kept k3
  have HS2 : Hid (Sl w3 (.slice vb R2.mag.length vd) R2.mag) := HS2'.out.kept k3
  clear HS2' k3 kw2 KA
  obtain ⟨a0, a1, a2⟩ := hQ1
  go_upto_region 7 with (first | (go_at_call 13; refine (KS.out _ _ _ _ _ _ (.inl ⟨rfl, rfl, rfl⟩) kw HS1.out).mono ?_; rintro e wp ⟨rfl, kp⟩))
  clear a0 a1 a2 HS1
  have kp' := kp.alloc #[.int .i64 p1, .int .i64 p2] 23
  have hSp := P2.new wp (.int .i64 p1) (.int .i64 p2) 23
  obtain ⟨Yp, hYp⟩ : ∃ Y, Y = wp.alloc (.cells #[.int .i64 p1, .int .i64 p2] 23) := ⟨_, rfl⟩
  obtain ⟨Bp, hBp⟩ : ∃ B, B = wp.heap.size := ⟨_, rfl⟩
  rw [← hYp] at kp' hSp
  rw [← hBp] at hSp
  rw [← hYp, ← hBp]
  have hP1 := hP1.kept kp'
  have hP2 := hP2.kept kp'
  have hQ2 := hQ2.kept kp'
  have HS2 : Hid (Sl Yp (.slice vb R2.mag.length vd) R2.mag) := HS2.out.kept kp'
  have kw := kw.trans kp'
  clear hYp hBp kp kp'
  obtain ⟨a0, a1, a2⟩ := hQ2
  go_upto_region 8 with (first | (go_at_call 13; refine (KS.out _ _ _ _ _ _ (.inr ⟨rfl, rfl, rfl⟩) kw HS2.out).mono ?_; rintro e wq ⟨rfl, kq⟩))
  clear a0 a1 a2 HS2 KS
  have kq' := kq.alloc #[.int .i64 q1, .int .i64 q2] 23
  have hSq := P2.new wq (.int .i64 q1) (.int .i64 q2) 23
  obtain ⟨Yq, hYq⟩ : ∃ Y, Y = wq.alloc (.cells #[.int .i64 q1, .int .i64 q2] 23) := ⟨_, rfl⟩
  obtain ⟨Bq, hBq⟩ : ∃ B, B = wq.heap.size := ⟨_, rfl⟩
  rw [← hYq] at kq' hSq
  rw [← hBq] at hSq
  rw [← hYq, ← hBq]
  have hP1 := hP1.kept kq'
  have hP2 := hP2.kept kq'
  have hSp := hSp.kept kq'
  have kw := kw.trans kq'
  clear hYq hBq kq kq'
  obtain ⟨a0, a1, af⟩ := hP1
  obtain ⟨b0, b1, bf⟩ := hP2
  have hP1 := P2.mk a0 a1 af
  have hP2 := P2.mk b0 b1 bf
  go_upto_region 9 with (first | (go_at_call 10; refine (KD.out _ _ _ _ _ _ _ (.inl ⟨rfl, rfl, rfl, rfl, rfl, rfl⟩) kw).mono ?_; rintro e wc ⟨rfl, kc⟩))
  clear a0 a1 af b0 b1 bf
  have kc' := kc.alloc #[.int .i64 c1, .int .i64 c2] 23
  have hSc := P2.new wc (.int .i64 c1) (.int .i64 c2) 23
  obtain ⟨Yc, hYc⟩ : ∃ Y, Y = wc.alloc (.cells #[.int .i64 c1, .int .i64 c2] 23) := ⟨_, rfl⟩
  obtain ⟨Bc, hBc⟩ : ∃ B, B = wc.heap.size := ⟨_, rfl⟩
  rw [← hYc] at kc' hSc
  rw [← hBc] at hSc
  rw [← hYc, ← hBc]
  have hP1 := hP1.kept kc'
  have hP2 := hP2.kept kc'
  have hSp := hSp.kept kc'
  have hSq := hSq.kept kc'
  have kw := kw.trans kc'
  clear hYc hBc kc kc'
  obtain ⟨a0, a1, af⟩ := hSp
  obtain ⟨b0, b1, bf⟩ := hSq
  have hSp := P2.mk a0 a1 af
  have hSq := P2.mk b0 b1 bf
  go_upto_region 10 with (first | (go_at_call 10; refine (KD.out _ _ _ _ _ _ _ (.inr ⟨rfl, rfl, rfl, rfl, rfl, rfl⟩) kw).mono ?_; rintro e wd ⟨rfl, kd⟩))
  clear a0 a1 af b0 b1 bf KD
  have kd' := kd.alloc #[.int .i64 d1, .int .i64 d2] 23
  have hSd := P2.new wd (.int .i64 d1) (.int .i64 d2) 23
  obtain ⟨Yd, hYd⟩ : ∃ Y, Y = wd.alloc (.cells #[.int .i64 d1, .int .i64 d2] 23) := ⟨_, rfl⟩
  obtain ⟨Bd, hBd⟩ : ∃ B, B = wd.heap.size := ⟨_, rfl⟩
  rw [← hYd] at kd' hSd
  rw [← hBd] at hSd
  rw [← hYd, ← hBd]
  have hP1 := hP1.kept kd'
  have hP2 := hP2.kept kd'
  have hSp := hSp.kept kd'
  have hSq := hSq.kept kd'
  have hSc := hSc.kept kd'
  have kw := kw.trans kd'
  clear hYd hBd kd kd'
  obtain ⟨a0, a1, af⟩ := hP1
  obtain ⟨b0, b1, bf⟩ := hP2
  have hP1 := P2.mk a0 a1 af
  have hP2 := P2.mk b0 b1 bf
  go_upto_region 11 with (first | (go_at_call 11; refine (KM.out _ _ _ _ _ _ _ (.inl ⟨rfl, rfl, rfl, rfl, rfl, rfl⟩) kw).mono ?_; rintro e wm ⟨rfl, km⟩))
  clear a0 a1 af b0 b1 bf
  have km' := km.alloc #[.int .i64 m1, .int .i64 m2] 23
  have hSm := P2.new wm (.int .i64 m1) (.int .i64 m2) 23
  obtain ⟨Ym, hYm⟩ : ∃ Y, Y = wm.alloc (.cells #[.int .i64 m1, .int .i64 m2] 23) := ⟨_, rfl⟩
  obtain ⟨Bm, hBm⟩ : ∃ B, B = wm.heap.size := ⟨_, rfl⟩
  rw [← hYm] at km' hSm
  rw [← hBm] at hSm
  rw [← hYm, ← hBm]
  have hP1 := hP1.kept km'
  have hP2 := hP2.kept km'
  have hSp := hSp.kept km'
  have hSq := hSq.kept km'
  have hSc := hSc.kept km'
  have hSd := hSd.kept km'
  have kw := kw.trans km'
  clear hYm hBm km km'
  obtain ⟨a0, a1, af⟩ := hSp
  obtain ⟨b0, b1, bf⟩ := hSq
  have hSp := P2.mk a0 a1 af
  have hSq := P2.mk b0 b1 bf
  go_upto_region 12 with (first | (go_at_call 11; refine (KM.out _ _ _ _ _ _ _ (.inr ⟨rfl, rfl, rfl, rfl, rfl, rfl⟩) kw).mono ?_; rintro e wn ⟨rfl, kn⟩))
  clear a0 a1 af b0 b1 bf KM
  have kn' := kn.alloc #[.int .i64 n1, .int .i64 n2] 23
  have hSn := P2.new wn (.int .i64 n1) (.int .i64 n2) 23
  obtain ⟨Yn, hYn⟩ : ∃ Y, Y = wn.alloc (.cells #[.int .i64 n1, .int .i64 n2] 23) := ⟨_, rfl⟩
  obtain ⟨Bn, hBn⟩ : ∃ B, B = wn.heap.size := ⟨_, rfl⟩
  rw [← hYn] at kn' hSn
  rw [← hBn] at hSn
  rw [← hYn, ← hBn]
  have hP1 := hP1.kept kn'
  have hP2 := hP2.kept kn'
  have hSp := hSp.kept kn'
  have hSq := hSq.kept kn'
  have hSc := hSc.kept kn'
  have hSd := hSd.kept kn'
  have hSm := hSm.kept kn'
  have kw := kw.trans kn'
  clear hYn hBn kn kn'
  obtain ⟨a0, a1, af⟩ := hP1
  obtain ⟨b0, b1, bf⟩ := hP2
  go_upto_region 13 with (first | (go_at_call 14; refine (KV.out _ _ _ _ _ _ _ _ (.inl ⟨rfl, rfl, rfl, rfl, rfl, rfl, rfl⟩) kw).mono ?_; rintro e wu ⟨rfl, ku⟩))
  clear a0 a1 af b0 b1 bf
  have ku' := ku.alloc #[.int .i64 u1, .int .i64 u2] 23
  have hSu := P2.new wu (.int .i64 u1) (.int .i64 u2) 23
  obtain ⟨Yu, hYu⟩ : ∃ Y, Y = wu.alloc (.cells #[.int .i64 u1, .int .i64 u2] 23) := ⟨_, rfl⟩
  obtain ⟨Bu, hBu⟩ : ∃ B, B = wu.heap.size := ⟨_, rfl⟩
  rw [← hYu] at ku' hSu
  rw [← hBu] at hSu
  rw [← hYu, ← hBu]
  have hSp := hSp.kept ku'
  have hSq := hSq.kept ku'
  have hSc := hSc.kept ku'
  have hSd := hSd.kept ku'
  have hSm := hSm.kept ku'
  have hSn := hSn.kept ku'
  have kw := kw.trans ku'
  clear hYu hBu ku ku'
  obtain ⟨a0, a1, af⟩ := hSp
  obtain ⟨b0, b1, bf⟩ := hSq
  go_upto_region 14 with (first | (go_at_call 14; refine (KV.out _ _ _ _ _ _ _ _ (.inr ⟨rfl, rfl, rfl, rfl, rfl, rfl, rfl⟩) kw).mono ?_; rintro e wv ⟨rfl, kv⟩))
  clear a0 a1 af b0 b1 bf KV
  have kv' := kv.alloc #[.int .i64 v1, .int .i64 v2] 23
  have hSv := P2.new wv (.int .i64 v1) (.int .i64 v2) 23
  obtain ⟨Yv, hYv⟩ : ∃ Y, Y = wv.alloc (.cells #[.int .i64 v1, .int .i64 v2] 23) := ⟨_, rfl⟩
  obtain ⟨Bv, hBv⟩ : ∃ B, B = wv.heap.size := ⟨_, rfl⟩
  rw [← hYv] at kv' hSv
  rw [← hBv] at hSv
  rw [← hYv, ← hBv]
  have hSc := hSc.kept kv'
  have hSd := hSd.kept kv'
  have hSm := hSm.kept kv'
  have hSn := hSn.kept kv'
  have hSu := hSu.kept kv'
  have kw := kw.trans kv'
  clear hYv hBv kv kv'
  obtain ⟨a0, a1, af⟩ := hSd
  obtain ⟨b0, b1, bf⟩ := hSc
  go_wp2_with fail
  refine (KW.out _ _ _ _ _ (.inl ⟨rfl, rfl, rfl, rfl⟩)).mono ?_
  rintro e wA ⟨rfl, kA⟩
  clear a0 a1 af b0 b1 bf
  obtain ⟨a0, a1, af⟩ := hSn.kept kA
  obtain ⟨b0, b1, bf⟩ := hSm.kept kA
  go_wp2_with fail
  refine (KW.out _ _ _ _ _ (.inr ⟨rfl, rfl, rfl, rfl⟩)).mono ?_
  rintro e wB ⟨rfl, kB⟩
  go_wp2_with fail
  go_ret
  exact ⟨rfl, (kw.trans kA).trans kB⟩
end Go.Proofs.YtalhnaakbekboaaDoor
