/- The walk of SpanTight. -/
import Derived.Test.YtalhnaakbekboaaDoorU48
namespace Go.Proofs.YtalhnaakbekboaaDoor
open Go.ChangeShapes Go.WideShapes Go.ChangeAt Go.RowKit Ieee
set_option linter.unusedVariables false
set_option linter.unusedSimpArgs false

/-- three cells of a block -/
structure P3 (w : World) (b : Nat) (u v x : Value) : Prop where
  c0 : w.cell? ⟨b, 0, none⟩ = some u
  c1 : w.cell? ⟨b, 1, none⟩ = some v
  c2 : w.cell? ⟨b, 2, none⟩ = some x
theorem P3.new (w : World) (u v x : Value) (t : TypeId) : P3 (w.alloc (.cells #[u, v, x] t)) w.heap.size u v x := ⟨by simp [go_sem], by simp [go_sem], by simp [go_sem]⟩
theorem P3.lt {w : World} {b : Nat} {u v x : Value} (h : P3 w b u v x) : b < w.heap.size := by
  have := h.c0
  by_cases hb : b < w.heap.size
  · exact hb
  · have hg : w.heap[b]? = none := by simp at hb ⊢; omega
    simp [World.cell?, hg] at this
theorem P3.kept {w w' : World} {b : Nat} {u v x : Value} (h : P3 w b u v x) (k : Kept w w') : P3 w' b u v x :=
  ⟨(k.below.cell (p := ⟨b, 0, none⟩) h.lt).trans h.c0, (k.below.cell (p := ⟨b, 1, none⟩) h.lt).trans h.c1, (k.below.cell (p := ⟨b, 2, none⟩) h.lt).trans h.c2⟩
theorem P3.alloc {w : World} {b : Nat} {u v x : Value} (h : P3 w b u v x) (c : Array Value) (t : TypeId) : P3 (w.alloc (.cells c t)) b u v x := h.kept ((Kept.refl w).alloc c t)

set_option maxHeartbeats 4000000 in
set_option maxRecDepth 100000 in
theorem tightA_64 (a b w0 y1 y2 : Int) (hw0 : bits .and .i64 w0 1 = 1) (ok1 ok2 : Bool) (R1 R2 : Nm) (hok : (ok1 && ok2) = false) (w : World)
    (KL : Hid (∀ u q y ok R, (q = a ∧ y = y1 ∧ ok = ok1 ∧ R = R1 ∨ q = b ∧ y = y2 ∧ ok = ok2 ∧ R = R2) → Kept w u → Calls Tryd.prog 6 #[.int .i64 q, .int .i64 0, .int .i64 0, .int .i64 64] u fun e w' => ∃ v, e = .returned (.tuple #[sp2 y y, v, .bool ok]) ∧ New u w' v R ∧ Kept u w'))
    (KA : Hid (∀ u, Kept w u → Calls Tryd.prog 7 #[] u fun e w' => e = .returned (.bool true) ∧ Kept u w')) :
    Calls Tryd.prog 3 #[.int .i64 a, .int .i64 b, .int .i64 w0] w fun e w' => e = .returned (.bool true) ∧ Kept w w' := by
  go_enter Tryd.func3, Tryd.ntmps3
  go_upto_region 3 with (first | (go_at_call 6; refine (KL.out _ _ _ _ _ (.inl ⟨rfl, rfl, rfl, rfl⟩) (Kept.refl _)).mono ?_; rintro e w1 ⟨v, rfl, hN1, k1⟩; obtain ⟨vn, va, vl, vc, vx, rfl⟩ := hN1.shape; obtain ⟨rfl, rfl, rfl, hs1⟩ := new_parts hN1))
  have HS1 : Hid (Sl w1 (.slice va R1.mag.length vc) R1.mag) := hs1
  clear hs1 hN1
  have hP1 := (P2.new w1 (.int .i64 y1) (.int .i64 y1) 23).alloc #[.bool R1.neg, .slice va R1.mag.length vc, .int .i64 R1.exp] 26
  have hQ1 : P3 ((w1.alloc (.cells #[.int .i64 y1, .int .i64 y1] 23)).alloc (.cells #[.bool R1.neg, .slice va R1.mag.length vc, .int .i64 R1.exp] 26)) (w1.heap.size + 1) (.bool R1.neg) (.slice va R1.mag.length vc) (.int .i64 R1.exp) := by
    have := P3.new (w1.alloc (.cells #[.int .i64 y1, .int .i64 y1] 23)) (.bool R1.neg) (.slice va R1.mag.length vc) (.int .i64 R1.exp) 26
    simpa using this
  have kY1 : Kept w1 ((w1.alloc (.cells #[.int .i64 y1, .int .i64 y1] 23)).alloc (.cells #[.bool R1.neg, .slice va R1.mag.length vc, .int .i64 R1.exp] 26)) := ((Kept.refl w1).alloc _ _).alloc _ _
  obtain ⟨Y1, hY1⟩ : ∃ Y, Y = (w1.alloc (.cells #[.int .i64 y1, .int .i64 y1] 23)).alloc (.cells #[.bool R1.neg, .slice va R1.mag.length vc, .int .i64 R1.exp] 26) := ⟨_, rfl⟩
  obtain ⟨B1, hB1⟩ : ∃ B, B = w1.heap.size := ⟨_, rfl⟩
  obtain ⟨B2, hB2⟩ : ∃ B, B = B1 + 1 := ⟨_, rfl⟩
  rw [← hY1] at hP1 hQ1 kY1
  rw [← hB1] at hP1 hQ1
  rw [← hB2] at hQ1
  rw [← hY1, ← hB1, ← hB2]
  have kw1 := k1.trans kY1
  have HS1' : Hid (Sl Y1 (.slice va R1.mag.length vc) R1.mag) := HS1.out.kept kY1
  clear hY1 hB1 hB2 k1 kY1 HS1
  go_upto_region 4 with (first | (go_at_call 6; refine (KL.out _ _ _ _ _ (.inr ⟨rfl, rfl, rfl, rfl⟩) kw1).mono ?_; rintro e w2 ⟨v, rfl, hN2, k2⟩; obtain ⟨vn, vb, vl, vd, vx, rfl⟩ := hN2.shape; obtain ⟨rfl, rfl, rfl, hs2⟩ := new_parts hN2))
  have HS2 : Hid (Sl w2 (.slice vb R2.mag.length vd) R2.mag) := hs2
  clear hs2 hN2 KL
  have hP2 := (P2.new w2 (.int .i64 y2) (.int .i64 y2) 23).alloc #[.bool R2.neg, .slice vb R2.mag.length vd, .int .i64 R2.exp] 26
  have hQ2 : P3 ((w2.alloc (.cells #[.int .i64 y2, .int .i64 y2] 23)).alloc (.cells #[.bool R2.neg, .slice vb R2.mag.length vd, .int .i64 R2.exp] 26)) (w2.heap.size + 1) (.bool R2.neg) (.slice vb R2.mag.length vd) (.int .i64 R2.exp) := by
    have := P3.new (w2.alloc (.cells #[.int .i64 y2, .int .i64 y2] 23)) (.bool R2.neg) (.slice vb R2.mag.length vd) (.int .i64 R2.exp) 26
    simpa using this
  have kY2 : Kept w2 ((w2.alloc (.cells #[.int .i64 y2, .int .i64 y2] 23)).alloc (.cells #[.bool R2.neg, .slice vb R2.mag.length vd, .int .i64 R2.exp] 26)) := ((Kept.refl w2).alloc _ _).alloc _ _
  obtain ⟨Y2, hY2⟩ : ∃ Y, Y = (w2.alloc (.cells #[.int .i64 y2, .int .i64 y2] 23)).alloc (.cells #[.bool R2.neg, .slice vb R2.mag.length vd, .int .i64 R2.exp] 26) := ⟨_, rfl⟩
  obtain ⟨B3, hB3⟩ : ∃ B, B = w2.heap.size := ⟨_, rfl⟩
  obtain ⟨B4, hB4⟩ : ∃ B, B = B3 + 1 := ⟨_, rfl⟩
  rw [← hY2] at hP2 hQ2 kY2
  rw [← hB3] at hP2 hQ2
  rw [← hB4] at hQ2
  rw [← hY2, ← hB3, ← hB4]
  have k12 := k2.trans kY2
  have kw2 := kw1.trans k12
  have hP1 := hP1.kept k12
  have hQ1 := hQ1.kept k12
  have HS1 : Hid (Sl Y2 (.slice va R1.mag.length vc) R1.mag) := HS1'.out.kept k12
  have HS2' : Hid (Sl Y2 (.slice vb R2.mag.length vd) R2.mag) := HS2.out.kept kY2
  clear hY2 hB3 hB4 k2 kY2 HS2 HS1' k12 kw1 hw0
  cases ok1
  · go_wp2_with (first | (go_at_call 7; refine (KA.out _ kw2).mono ?_; rintro e w3 ⟨rfl, k3⟩; have kw2 := kw2.trans k3))
    go_ret
    exact ⟨rfl, kw2⟩
  · have ho : ok2 = false := by simpa using hok
    subst ho
    go_wp2_with (first | (go_at_call 7; refine (KA.out _ kw2).mono ?_; rintro e w3 ⟨rfl, k3⟩; have kw2 := kw2.trans k3))
    go_ret
    exact ⟨rfl, kw2⟩
set_option maxHeartbeats 4000000 in
set_option maxRecDepth 100000 in
theorem tightA_32 (a b w0 y1 y2 : Int) (hw0 : bits .and .i64 w0 1 = 0) (ok1 ok2 : Bool) (R1 R2 : Nm) (hok : (ok1 && ok2) = false) (w : World)
    (KL : Hid (∀ u q y ok R, (q = a ∧ y = y1 ∧ ok = ok1 ∧ R = R1 ∨ q = b ∧ y = y2 ∧ ok = ok2 ∧ R = R2) → Kept w u → Calls Tryd.prog 6 #[.int .i64 q, .int .i64 0, .int .i64 0, .int .i64 32] u fun e w' => ∃ v, e = .returned (.tuple #[sp2 y y, v, .bool ok]) ∧ New u w' v R ∧ Kept u w'))
    (KA : Hid (∀ u, Kept w u → Calls Tryd.prog 7 #[] u fun e w' => e = .returned (.bool true) ∧ Kept u w')) :
    Calls Tryd.prog 3 #[.int .i64 a, .int .i64 b, .int .i64 w0] w fun e w' => e = .returned (.bool true) ∧ Kept w w' := by
  go_enter Tryd.func3, Tryd.ntmps3
  go_upto_region 3 with (first | (go_at_call 6; refine (KL.out _ _ _ _ _ (.inl ⟨rfl, rfl, rfl, rfl⟩) (Kept.refl _)).mono ?_; rintro e w1 ⟨v, rfl, hN1, k1⟩; obtain ⟨vn, va, vl, vc, vx, rfl⟩ := hN1.shape; obtain ⟨rfl, rfl, rfl, hs1⟩ := new_parts hN1))
  have HS1 : Hid (Sl w1 (.slice va R1.mag.length vc) R1.mag) := hs1
  clear hs1 hN1
  have hP1 := (P2.new w1 (.int .i64 y1) (.int .i64 y1) 23).alloc #[.bool R1.neg, .slice va R1.mag.length vc, .int .i64 R1.exp] 26
  have hQ1 : P3 ((w1.alloc (.cells #[.int .i64 y1, .int .i64 y1] 23)).alloc (.cells #[.bool R1.neg, .slice va R1.mag.length vc, .int .i64 R1.exp] 26)) (w1.heap.size + 1) (.bool R1.neg) (.slice va R1.mag.length vc) (.int .i64 R1.exp) := by
    have := P3.new (w1.alloc (.cells #[.int .i64 y1, .int .i64 y1] 23)) (.bool R1.neg) (.slice va R1.mag.length vc) (.int .i64 R1.exp) 26
    simpa using this
  have kY1 : Kept w1 ((w1.alloc (.cells #[.int .i64 y1, .int .i64 y1] 23)).alloc (.cells #[.bool R1.neg, .slice va R1.mag.length vc, .int .i64 R1.exp] 26)) := ((Kept.refl w1).alloc _ _).alloc _ _
  obtain ⟨Y1, hY1⟩ : ∃ Y, Y = (w1.alloc (.cells #[.int .i64 y1, .int .i64 y1] 23)).alloc (.cells #[.bool R1.neg, .slice va R1.mag.length vc, .int .i64 R1.exp] 26) := ⟨_, rfl⟩
  obtain ⟨B1, hB1⟩ : ∃ B, B = w1.heap.size := ⟨_, rfl⟩
  obtain ⟨B2, hB2⟩ : ∃ B, B = B1 + 1 := ⟨_, rfl⟩
  rw [← hY1] at hP1 hQ1 kY1
  rw [← hB1] at hP1 hQ1
  rw [← hB2] at hQ1
  rw [← hY1, ← hB1, ← hB2]
  have kw1 := k1.trans kY1
  have HS1' : Hid (Sl Y1 (.slice va R1.mag.length vc) R1.mag) := HS1.out.kept kY1
  clear hY1 hB1 hB2 k1 kY1 HS1
  go_upto_region 4 with (first | (go_at_call 6; refine (KL.out _ _ _ _ _ (.inr ⟨rfl, rfl, rfl, rfl⟩) kw1).mono ?_; rintro e w2 ⟨v, rfl, hN2, k2⟩; obtain ⟨vn, vb, vl, vd, vx, rfl⟩ := hN2.shape; obtain ⟨rfl, rfl, rfl, hs2⟩ := new_parts hN2))
  have HS2 : Hid (Sl w2 (.slice vb R2.mag.length vd) R2.mag) := hs2
  clear hs2 hN2 KL
  have hP2 := (P2.new w2 (.int .i64 y2) (.int .i64 y2) 23).alloc #[.bool R2.neg, .slice vb R2.mag.length vd, .int .i64 R2.exp] 26
  have hQ2 : P3 ((w2.alloc (.cells #[.int .i64 y2, .int .i64 y2] 23)).alloc (.cells #[.bool R2.neg, .slice vb R2.mag.length vd, .int .i64 R2.exp] 26)) (w2.heap.size + 1) (.bool R2.neg) (.slice vb R2.mag.length vd) (.int .i64 R2.exp) := by
    have := P3.new (w2.alloc (.cells #[.int .i64 y2, .int .i64 y2] 23)) (.bool R2.neg) (.slice vb R2.mag.length vd) (.int .i64 R2.exp) 26
    simpa using this
  have kY2 : Kept w2 ((w2.alloc (.cells #[.int .i64 y2, .int .i64 y2] 23)).alloc (.cells #[.bool R2.neg, .slice vb R2.mag.length vd, .int .i64 R2.exp] 26)) := ((Kept.refl w2).alloc _ _).alloc _ _
  obtain ⟨Y2, hY2⟩ : ∃ Y, Y = (w2.alloc (.cells #[.int .i64 y2, .int .i64 y2] 23)).alloc (.cells #[.bool R2.neg, .slice vb R2.mag.length vd, .int .i64 R2.exp] 26) := ⟨_, rfl⟩
  obtain ⟨B3, hB3⟩ : ∃ B, B = w2.heap.size := ⟨_, rfl⟩
  obtain ⟨B4, hB4⟩ : ∃ B, B = B3 + 1 := ⟨_, rfl⟩
  rw [← hY2] at hP2 hQ2 kY2
  rw [← hB3] at hP2 hQ2
  rw [← hB4] at hQ2
  rw [← hY2, ← hB3, ← hB4]
  have k12 := k2.trans kY2
  have kw2 := kw1.trans k12
  have hP1 := hP1.kept k12
  have hQ1 := hQ1.kept k12
  have HS1 : Hid (Sl Y2 (.slice va R1.mag.length vc) R1.mag) := HS1'.out.kept k12
  have HS2' : Hid (Sl Y2 (.slice vb R2.mag.length vd) R2.mag) := HS2.out.kept kY2
  clear hY2 hB3 hB4 k2 kY2 HS2 HS1' k12 kw1 hw0
  cases ok1
  · go_wp2_with (first | (go_at_call 7; refine (KA.out _ kw2).mono ?_; rintro e w3 ⟨rfl, k3⟩; have kw2 := kw2.trans k3))
    go_ret
    exact ⟨rfl, kw2⟩
  · have ho : ok2 = false := by simpa using hok
    subst ho
    go_wp2_with (first | (go_at_call 7; refine (KA.out _ kw2).mono ?_; rintro e w3 ⟨rfl, k3⟩; have kw2 := kw2.trans k3))
    go_ret
    exact ⟨rfl, kw2⟩
set_option maxHeartbeats 4000000 in
set_option maxRecDepth 100000 in
theorem tightB_64 (a b w0 y1 y2 : Int) (hw0 : bits .and .i64 w0 1 = 1) (ok1 ok2 : Bool) (R1 R2 : Nm) (hok1 : ok1 = true) (hok2 : ok2 = true) (P R : Nm) (c1 c2 m1 m2 : Int) (w : World)
    (KL : Hid (∀ u q y ok R, (q = a ∧ y = y1 ∧ ok = ok1 ∧ R = R1 ∨ q = b ∧ y = y2 ∧ ok = ok2 ∧ R = R2) → Kept w u → Calls Tryd.prog 6 #[.int .i64 q, .int .i64 0, .int .i64 0, .int .i64 64] u fun e w' => ∃ v, e = .returned (.tuple #[sp2 y y, v, .bool ok]) ∧ New u w' v R ∧ Kept u w'))
    (KA : Hid (∀ u, Kept w u → Calls Tryd.prog 7 #[] u fun e w' => e = .returned (.bool true) ∧ Kept u w'))
    (KD : Hid (∀ u a1 d1 a2 d2, Kept w u → Sl u (.slice a1 R1.mag.length d1) R1.mag → Sl u (.slice a2 R2.mag.length d2) R2.mag → Calls Tryd.prog 8 #[.agg #[.bool R1.neg, .slice a1 R1.mag.length d1, .int .i64 R1.exp], .agg #[.bool R2.neg, .slice a2 R2.mag.length d2, .int .i64 R2.exp]] u fun e w' => ∃ v, e = .returned (.tuple #[v, .int .i64 0]) ∧ New u w' v P ∧ Kept u w'))
    (KM : Hid (∀ u a1 d1 a2 d2, Kept w u → Sl u (.slice a1 R1.mag.length d1) R1.mag → Sl u (.slice a2 R2.mag.length d2) R2.mag → Calls Tryd.prog 9 #[.agg #[.bool R1.neg, .slice a1 R1.mag.length d1, .int .i64 R1.exp], .agg #[.bool R2.neg, .slice a2 R2.mag.length d2, .int .i64 R2.exp]] u fun e w' => ∃ v, e = .returned (.tuple #[v, .int .i64 0]) ∧ New u w' v R ∧ Kept u w'))
    (KS : Hid (∀ u, Kept w u → Calls Tryd.prog 10 #[sp2 y1 y1, sp2 y2 y2, .int .i64 64] u fun e w' => e = .returned (.tuple #[sp2 c1 c2, .int .i64 0]) ∧ Kept u w'))
    (KX : Hid (∀ u, Kept w u → Calls Tryd.prog 11 #[sp2 y1 y1, sp2 y2 y2, .int .i64 64] u fun e w' => e = .returned (.tuple #[sp2 m1 m2, .int .i64 0]) ∧ Kept u w'))
    (KT : Hid (∀ u q1 q2 Q a1 d1, (q1 = c1 ∧ q2 = c2 ∧ Q = P ∨ q1 = m1 ∧ q2 = m2 ∧ Q = R) → Kept w u → Sl u (.slice a1 Q.mag.length d1) Q.mag → Calls Tryd.prog 12 #[sp2 q1 q2, .agg #[.bool Q.neg, .slice a1 Q.mag.length d1, .int .i64 Q.exp], .int .i64 64] u fun e w' => e = .returned (.bool true) ∧ Kept u w')) :
    Calls Tryd.prog 3 #[.int .i64 a, .int .i64 b, .int .i64 w0] w fun e w' => e = .returned (.bool true) ∧ Kept w w' := by
  go_enter Tryd.func3, Tryd.ntmps3
  go_upto_region 3 with (first | (go_at_call 6; refine (KL.out _ _ _ _ _ (.inl ⟨rfl, rfl, rfl, rfl⟩) (Kept.refl _)).mono ?_; rintro e w1 ⟨v, rfl, hN1, k1⟩; obtain ⟨vn, va, vl, vc, vx, rfl⟩ := hN1.shape; obtain ⟨rfl, rfl, rfl, hs1⟩ := new_parts hN1))
  have HS1 : Hid (Sl w1 (.slice va R1.mag.length vc) R1.mag) := hs1
  clear hs1 hN1
  have hP1 := (P2.new w1 (.int .i64 y1) (.int .i64 y1) 23).alloc #[.bool R1.neg, .slice va R1.mag.length vc, .int .i64 R1.exp] 26
  have hQ1 : P3 ((w1.alloc (.cells #[.int .i64 y1, .int .i64 y1] 23)).alloc (.cells #[.bool R1.neg, .slice va R1.mag.length vc, .int .i64 R1.exp] 26)) (w1.heap.size + 1) (.bool R1.neg) (.slice va R1.mag.length vc) (.int .i64 R1.exp) := by
    have := P3.new (w1.alloc (.cells #[.int .i64 y1, .int .i64 y1] 23)) (.bool R1.neg) (.slice va R1.mag.length vc) (.int .i64 R1.exp) 26
    simpa using this
  have kY1 : Kept w1 ((w1.alloc (.cells #[.int .i64 y1, .int .i64 y1] 23)).alloc (.cells #[.bool R1.neg, .slice va R1.mag.length vc, .int .i64 R1.exp] 26)) := ((Kept.refl w1).alloc _ _).alloc _ _
  obtain ⟨Y1, hY1⟩ : ∃ Y, Y = (w1.alloc (.cells #[.int .i64 y1, .int .i64 y1] 23)).alloc (.cells #[.bool R1.neg, .slice va R1.mag.length vc, .int .i64 R1.exp] 26) := ⟨_, rfl⟩
  obtain ⟨B1, hB1⟩ : ∃ B, B = w1.heap.size := ⟨_, rfl⟩
  obtain ⟨B2, hB2⟩ : ∃ B, B = B1 + 1 := ⟨_, rfl⟩
  rw [← hY1] at hP1 hQ1 kY1
  rw [← hB1] at hP1 hQ1
  rw [← hB2] at hQ1
  rw [← hY1, ← hB1, ← hB2]
  have kw1 := k1.trans kY1
  have HS1' : Hid (Sl Y1 (.slice va R1.mag.length vc) R1.mag) := HS1.out.kept kY1
  clear hY1 hB1 hB2 k1 kY1 HS1
  go_upto_region 4 with (first | (go_at_call 6; refine (KL.out _ _ _ _ _ (.inr ⟨rfl, rfl, rfl, rfl⟩) kw1).mono ?_; rintro e w2 ⟨v, rfl, hN2, k2⟩; obtain ⟨vn, vb, vl, vd, vx, rfl⟩ := hN2.shape; obtain ⟨rfl, rfl, rfl, hs2⟩ := new_parts hN2))
  have HS2 : Hid (Sl w2 (.slice vb R2.mag.length vd) R2.mag) := hs2
  clear hs2 hN2 KL
  have hP2 := (P2.new w2 (.int .i64 y2) (.int .i64 y2) 23).alloc #[.bool R2.neg, .slice vb R2.mag.length vd, .int .i64 R2.exp] 26
  have hQ2 : P3 ((w2.alloc (.cells #[.int .i64 y2, .int .i64 y2] 23)).alloc (.cells #[.bool R2.neg, .slice vb R2.mag.length vd, .int .i64 R2.exp] 26)) (w2.heap.size + 1) (.bool R2.neg) (.slice vb R2.mag.length vd) (.int .i64 R2.exp) := by
    have := P3.new (w2.alloc (.cells #[.int .i64 y2, .int .i64 y2] 23)) (.bool R2.neg) (.slice vb R2.mag.length vd) (.int .i64 R2.exp) 26
    simpa using this
  have kY2 : Kept w2 ((w2.alloc (.cells #[.int .i64 y2, .int .i64 y2] 23)).alloc (.cells #[.bool R2.neg, .slice vb R2.mag.length vd, .int .i64 R2.exp] 26)) := ((Kept.refl w2).alloc _ _).alloc _ _
  obtain ⟨Y2, hY2⟩ : ∃ Y, Y = (w2.alloc (.cells #[.int .i64 y2, .int .i64 y2] 23)).alloc (.cells #[.bool R2.neg, .slice vb R2.mag.length vd, .int .i64 R2.exp] 26) := ⟨_, rfl⟩
  obtain ⟨B3, hB3⟩ : ∃ B, B = w2.heap.size := ⟨_, rfl⟩
  obtain ⟨B4, hB4⟩ : ∃ B, B = B3 + 1 := ⟨_, rfl⟩
  rw [← hY2] at hP2 hQ2 kY2
  rw [← hB3] at hP2 hQ2
  rw [← hB4] at hQ2
  rw [← hY2, ← hB3, ← hB4]
  have k12 := k2.trans kY2
  have kw2 := kw1.trans k12
  have hP1 := hP1.kept k12
  have hQ1 := hQ1.kept k12
  have HS1 : Hid (Sl Y2 (.slice va R1.mag.length vc) R1.mag) := HS1'.out.kept k12
  have HS2' : Hid (Sl Y2 (.slice vb R2.mag.length vd) R2.mag) := HS2.out.kept kY2
  clear hY2 hB3 hB4 k2 kY2 HS2 HS1' k12 kw1 hw0
  subst hok1 hok2
  go_upto_region 6 with (first | (go_at_call 7; refine (KA.out _ kw2).mono ?_; rintro e w3 ⟨rfl, k3⟩))
  have hP1 := hP1.kept k3
  have hQ1 := hQ1.kept k3
  have hP2 := hP2.kept k3
  have hQ2 := hQ2.kept k3
  have kw3 := kw2.trans k3
  have HS1 : Hid (Sl w3 (.slice va R1.mag.length vc) R1.mag) := HS1.out.kept k3
  have HS2 : Hid (Sl w3 (.slice vb R2.mag.length vd) R2.mag) := HS2'.out.kept k3
  clear HS2' k3 kw2 KA
  obtain ⟨a0, a1, a2⟩ := hQ1
  obtain ⟨b0, b1, b2⟩ := hQ2
  have hQ1 := P3.mk a0 a1 a2
  have hQ2 := P3.mk b0 b1 b2
  go_upto_region 7 with (first | (go_at_call 8; refine (KD.out _ _ _ _ _ kw3 HS1.out HS2.out).mono ?_; rintro e w4 ⟨v, rfl, hN, k4⟩; obtain ⟨vn, vp, vl, ve, vx, rfl⟩ := hN.shape; obtain ⟨rfl, rfl, rfl, hs⟩ := new_parts hN))
  clear a0 a1 a2 b0 b1 b2 KD hN
  have k4' := k4.alloc #[.bool P.neg, .slice vp P.mag.length ve, .int .i64 P.exp] 26
  have hQP := P3.new w4 (.bool P.neg) (.slice vp P.mag.length ve) (.int .i64 P.exp) 26
  have HSP : Hid (Sl (w4.alloc (.cells #[.bool P.neg, .slice vp P.mag.length ve, .int .i64 P.exp] 26)) (.slice vp P.mag.length ve) P.mag) := hs.kept ((Kept.refl _).alloc _ _)
  obtain ⟨Y4, hY4⟩ : ∃ Y, Y = w4.alloc (.cells #[.bool P.neg, .slice vp P.mag.length ve, .int .i64 P.exp] 26) := ⟨_, rfl⟩
  obtain ⟨B5, hB5⟩ : ∃ B, B = w4.heap.size := ⟨_, rfl⟩
  rw [← hY4] at k4' hQP HSP
  rw [← hB5] at hQP
  rw [← hY4, ← hB5]
  have hP1 := hP1.kept k4'
  have hQ1 := hQ1.kept k4'
  have hP2 := hP2.kept k4'
  have hQ2 := hQ2.kept k4'
  have kw4 := kw3.trans k4'
  have HS1 : Hid (Sl Y4 (.slice va R1.mag.length vc) R1.mag) := HS1.out.kept k4'
  have HS2 : Hid (Sl Y4 (.slice vb R2.mag.length vd) R2.mag) := HS2.out.kept k4'
  clear hY4 hB5 k4 k4' kw3 hs
  obtain ⟨a0, a1, a2⟩ := hQ1
  obtain ⟨b0, b1, b2⟩ := hQ2
  go_upto_region 8 with (first | (go_at_call 9; refine (KM.out _ _ _ _ _ kw4 HS1.out HS2.out).mono ?_; rintro e w5 ⟨v, rfl, hN, k5⟩; obtain ⟨vn, vr, vl, vf, vx, rfl⟩ := hN.shape; obtain ⟨rfl, rfl, rfl, hs⟩ := new_parts hN))
  clear a0 a1 a2 b0 b1 b2 KM hN HS1 HS2
  have k5' := k5.alloc #[.bool R.neg, .slice vr R.mag.length vf, .int .i64 R.exp] 26
  have hQR := P3.new w5 (.bool R.neg) (.slice vr R.mag.length vf) (.int .i64 R.exp) 26
  have HSR : Hid (Sl (w5.alloc (.cells #[.bool R.neg, .slice vr R.mag.length vf, .int .i64 R.exp] 26)) (.slice vr R.mag.length vf) R.mag) := hs.kept ((Kept.refl _).alloc _ _)
  obtain ⟨Y5, hY5⟩ : ∃ Y, Y = w5.alloc (.cells #[.bool R.neg, .slice vr R.mag.length vf, .int .i64 R.exp] 26) := ⟨_, rfl⟩
  obtain ⟨B6, hB6⟩ : ∃ B, B = w5.heap.size := ⟨_, rfl⟩
  rw [← hY5] at k5' hQR HSR
  rw [← hB6] at hQR
  rw [← hY5, ← hB6]
  have hP1 := hP1.kept k5'
  have hP2 := hP2.kept k5'
  have hQP := hQP.kept k5'
  have kw5 := kw4.trans k5'
  have HSP : Hid (Sl Y5 (.slice vp P.mag.length ve) P.mag) := HSP.out.kept k5'
  clear hY5 hB6 k5 k5' kw4 hs
  obtain ⟨a0, a1, af⟩ := hP1
  obtain ⟨b0, b1, bf⟩ := hP2
  have hP1 := P2.mk a0 a1 af
  have hP2 := P2.mk b0 b1 bf
  go_upto_region 9 with (first | (go_at_call 10; refine (KS.out _ kw5).mono ?_; rintro e w6 ⟨rfl, k6⟩))
  clear a0 a1 af b0 b1 bf KS
  have k6' := k6.alloc #[.int .i64 c1, .int .i64 c2] 23
  have hC := P2.new w6 (.int .i64 c1) (.int .i64 c2) 23
  obtain ⟨Y6, hY6⟩ : ∃ Y, Y = w6.alloc (.cells #[.int .i64 c1, .int .i64 c2] 23) := ⟨_, rfl⟩
  obtain ⟨B7, hB7⟩ : ∃ B, B = w6.heap.size := ⟨_, rfl⟩
  rw [← hY6] at k6' hC
  rw [← hB7] at hC
  rw [← hY6, ← hB7]
  have hP1 := hP1.kept k6'
  have hP2 := hP2.kept k6'
  have hQP := hQP.kept k6'
  have hQR := hQR.kept k6'
  have kw6 := kw5.trans k6'
  have HSP : Hid (Sl Y6 (.slice vp P.mag.length ve) P.mag) := HSP.out.kept k6'
  have HSR : Hid (Sl Y6 (.slice vr R.mag.length vf) R.mag) := HSR.out.kept k6'
  clear hY6 hB7 k6 k6' kw5
  obtain ⟨a0, a1, af⟩ := hP1
  obtain ⟨b0, b1, bf⟩ := hP2
  go_upto_region 10 with (first | (go_at_call 11; refine (KX.out _ kw6).mono ?_; rintro e w7 ⟨rfl, k7⟩))
  clear a0 a1 af b0 b1 bf KX
  have k7' := k7.alloc #[.int .i64 m1, .int .i64 m2] 23
  have hM := P2.new w7 (.int .i64 m1) (.int .i64 m2) 23
  obtain ⟨Y7, hY7⟩ : ∃ Y, Y = w7.alloc (.cells #[.int .i64 m1, .int .i64 m2] 23) := ⟨_, rfl⟩
  obtain ⟨B8, hB8⟩ : ∃ B, B = w7.heap.size := ⟨_, rfl⟩
  rw [← hY7] at k7' hM
  rw [← hB8] at hM
  rw [← hY7, ← hB8]
  have hC := hC.kept k7'
  have hQP := hQP.kept k7'
  have hQR := hQR.kept k7'
  have kw7 := kw6.trans k7'
  have HSP : Hid (Sl Y7 (.slice vp P.mag.length ve) P.mag) := HSP.out.kept k7'
  have HSR : Hid (Sl Y7 (.slice vr R.mag.length vf) R.mag) := HSR.out.kept k7'
  clear hY7 hB8 k7 k7' kw6
  obtain ⟨a0, a1, af⟩ := hC
  obtain ⟨b0, b1, b2⟩ := hQP
  go_wp2_with fail
  refine (KT.out _ _ _ _ _ _ (.inl ⟨rfl, rfl, rfl⟩) kw7 HSP.out).mono ?_
  rintro e w8 ⟨rfl, k8⟩
  clear a0 a1 af b0 b1 b2
  obtain ⟨a0, a1, af⟩ := hM.kept k8
  obtain ⟨b0, b1, b2⟩ := hQR.kept k8
  have HSR : Hid (Sl w8 (.slice vr R.mag.length vf) R.mag) := HSR.out.kept k8
  go_wp2_with fail
  refine (KT.out _ _ _ _ _ _ (.inr ⟨rfl, rfl, rfl⟩) (kw7.trans k8) HSR.out).mono ?_
  rintro e w9 ⟨rfl, k9⟩
  go_wp2_with fail
  go_ret
  exact ⟨rfl, (kw7.trans k8).trans k9⟩
set_option maxHeartbeats 4000000 in
set_option maxRecDepth 100000 in
theorem tightB_32 (a b w0 y1 y2 : Int) (hw0 : bits .and .i64 w0 1 = 0) (ok1 ok2 : Bool) (R1 R2 : Nm) (hok1 : ok1 = true) (hok2 : ok2 = true) (P R : Nm) (c1 c2 m1 m2 : Int) (w : World)
    (KL : Hid (∀ u q y ok R, (q = a ∧ y = y1 ∧ ok = ok1 ∧ R = R1 ∨ q = b ∧ y = y2 ∧ ok = ok2 ∧ R = R2) → Kept w u → Calls Tryd.prog 6 #[.int .i64 q, .int .i64 0, .int .i64 0, .int .i64 32] u fun e w' => ∃ v, e = .returned (.tuple #[sp2 y y, v, .bool ok]) ∧ New u w' v R ∧ Kept u w'))
    (KA : Hid (∀ u, Kept w u → Calls Tryd.prog 7 #[] u fun e w' => e = .returned (.bool true) ∧ Kept u w'))
    (KD : Hid (∀ u a1 d1 a2 d2, Kept w u → Sl u (.slice a1 R1.mag.length d1) R1.mag → Sl u (.slice a2 R2.mag.length d2) R2.mag → Calls Tryd.prog 8 #[.agg #[.bool R1.neg, .slice a1 R1.mag.length d1, .int .i64 R1.exp], .agg #[.bool R2.neg, .slice a2 R2.mag.length d2, .int .i64 R2.exp]] u fun e w' => ∃ v, e = .returned (.tuple #[v, .int .i64 0]) ∧ New u w' v P ∧ Kept u w'))
    (KM : Hid (∀ u a1 d1 a2 d2, Kept w u → Sl u (.slice a1 R1.mag.length d1) R1.mag → Sl u (.slice a2 R2.mag.length d2) R2.mag → Calls Tryd.prog 9 #[.agg #[.bool R1.neg, .slice a1 R1.mag.length d1, .int .i64 R1.exp], .agg #[.bool R2.neg, .slice a2 R2.mag.length d2, .int .i64 R2.exp]] u fun e w' => ∃ v, e = .returned (.tuple #[v, .int .i64 0]) ∧ New u w' v R ∧ Kept u w'))
    (KS : Hid (∀ u, Kept w u → Calls Tryd.prog 10 #[sp2 y1 y1, sp2 y2 y2, .int .i64 32] u fun e w' => e = .returned (.tuple #[sp2 c1 c2, .int .i64 0]) ∧ Kept u w'))
    (KX : Hid (∀ u, Kept w u → Calls Tryd.prog 11 #[sp2 y1 y1, sp2 y2 y2, .int .i64 32] u fun e w' => e = .returned (.tuple #[sp2 m1 m2, .int .i64 0]) ∧ Kept u w'))
    (KT : Hid (∀ u q1 q2 Q a1 d1, (q1 = c1 ∧ q2 = c2 ∧ Q = P ∨ q1 = m1 ∧ q2 = m2 ∧ Q = R) → Kept w u → Sl u (.slice a1 Q.mag.length d1) Q.mag → Calls Tryd.prog 12 #[sp2 q1 q2, .agg #[.bool Q.neg, .slice a1 Q.mag.length d1, .int .i64 Q.exp], .int .i64 32] u fun e w' => e = .returned (.bool true) ∧ Kept u w')) :
    Calls Tryd.prog 3 #[.int .i64 a, .int .i64 b, .int .i64 w0] w fun e w' => e = .returned (.bool true) ∧ Kept w w' := by
  go_enter Tryd.func3, Tryd.ntmps3
  go_upto_region 3 with (first | (go_at_call 6; refine (KL.out _ _ _ _ _ (.inl ⟨rfl, rfl, rfl, rfl⟩) (Kept.refl _)).mono ?_; rintro e w1 ⟨v, rfl, hN1, k1⟩; obtain ⟨vn, va, vl, vc, vx, rfl⟩ := hN1.shape; obtain ⟨rfl, rfl, rfl, hs1⟩ := new_parts hN1))
  have HS1 : Hid (Sl w1 (.slice va R1.mag.length vc) R1.mag) := hs1
  clear hs1 hN1
  have hP1 := (P2.new w1 (.int .i64 y1) (.int .i64 y1) 23).alloc #[.bool R1.neg, .slice va R1.mag.length vc, .int .i64 R1.exp] 26
  have hQ1 : P3 ((w1.alloc (.cells #[.int .i64 y1, .int .i64 y1] 23)).alloc (.cells #[.bool R1.neg, .slice va R1.mag.length vc, .int .i64 R1.exp] 26)) (w1.heap.size + 1) (.bool R1.neg) (.slice va R1.mag.length vc) (.int .i64 R1.exp) := by
    have := P3.new (w1.alloc (.cells #[.int .i64 y1, .int .i64 y1] 23)) (.bool R1.neg) (.slice va R1.mag.length vc) (.int .i64 R1.exp) 26
    simpa using this
  have kY1 : Kept w1 ((w1.alloc (.cells #[.int .i64 y1, .int .i64 y1] 23)).alloc (.cells #[.bool R1.neg, .slice va R1.mag.length vc, .int .i64 R1.exp] 26)) := ((Kept.refl w1).alloc _ _).alloc _ _
  obtain ⟨Y1, hY1⟩ : ∃ Y, Y = (w1.alloc (.cells #[.int .i64 y1, .int .i64 y1] 23)).alloc (.cells #[.bool R1.neg, .slice va R1.mag.length vc, .int .i64 R1.exp] 26) := ⟨_, rfl⟩
  obtain ⟨B1, hB1⟩ : ∃ B, B = w1.heap.size := ⟨_, rfl⟩
  obtain ⟨B2, hB2⟩ : ∃ B, B = B1 + 1 := ⟨_, rfl⟩
  rw [← hY1] at hP1 hQ1 kY1
  rw [← hB1] at hP1 hQ1
  rw [← hB2] at hQ1
  rw [← hY1, ← hB1, ← hB2]
  have kw1 := k1.trans kY1
  have HS1' : Hid (Sl Y1 (.slice va R1.mag.length vc) R1.mag) := HS1.out.kept kY1
  clear hY1 hB1 hB2 k1 kY1 HS1
  go_upto_region 4 with (first | (go_at_call 6; refine (KL.out _ _ _ _ _ (.inr ⟨rfl, rfl, rfl, rfl⟩) kw1).mono ?_; rintro e w2 ⟨v, rfl, hN2, k2⟩; obtain ⟨vn, vb, vl, vd, vx, rfl⟩ := hN2.shape; obtain ⟨rfl, rfl, rfl, hs2⟩ := new_parts hN2))
  have HS2 : Hid (Sl w2 (.slice vb R2.mag.length vd) R2.mag) := hs2
  clear hs2 hN2 KL
  have hP2 := (P2.new w2 (.int .i64 y2) (.int .i64 y2) 23).alloc #[.bool R2.neg, .slice vb R2.mag.length vd, .int .i64 R2.exp] 26
  have hQ2 : P3 ((w2.alloc (.cells #[.int .i64 y2, .int .i64 y2] 23)).alloc (.cells #[.bool R2.neg, .slice vb R2.mag.length vd, .int .i64 R2.exp] 26)) (w2.heap.size + 1) (.bool R2.neg) (.slice vb R2.mag.length vd) (.int .i64 R2.exp) := by
    have := P3.new (w2.alloc (.cells #[.int .i64 y2, .int .i64 y2] 23)) (.bool R2.neg) (.slice vb R2.mag.length vd) (.int .i64 R2.exp) 26
    simpa using this
  have kY2 : Kept w2 ((w2.alloc (.cells #[.int .i64 y2, .int .i64 y2] 23)).alloc (.cells #[.bool R2.neg, .slice vb R2.mag.length vd, .int .i64 R2.exp] 26)) := ((Kept.refl w2).alloc _ _).alloc _ _
  obtain ⟨Y2, hY2⟩ : ∃ Y, Y = (w2.alloc (.cells #[.int .i64 y2, .int .i64 y2] 23)).alloc (.cells #[.bool R2.neg, .slice vb R2.mag.length vd, .int .i64 R2.exp] 26) := ⟨_, rfl⟩
  obtain ⟨B3, hB3⟩ : ∃ B, B = w2.heap.size := ⟨_, rfl⟩
  obtain ⟨B4, hB4⟩ : ∃ B, B = B3 + 1 := ⟨_, rfl⟩
  rw [← hY2] at hP2 hQ2 kY2
  rw [← hB3] at hP2 hQ2
  rw [← hB4] at hQ2
  rw [← hY2, ← hB3, ← hB4]
  have k12 := k2.trans kY2
  have kw2 := kw1.trans k12
  have hP1 := hP1.kept k12
  have hQ1 := hQ1.kept k12
  have HS1 : Hid (Sl Y2 (.slice va R1.mag.length vc) R1.mag) := HS1'.out.kept k12
  have HS2' : Hid (Sl Y2 (.slice vb R2.mag.length vd) R2.mag) := HS2.out.kept kY2
  clear hY2 hB3 hB4 k2 kY2 HS2 HS1' k12 kw1 hw0
  subst hok1 hok2
  go_upto_region 6 with (first | (go_at_call 7; refine (KA.out _ kw2).mono ?_; rintro e w3 ⟨rfl, k3⟩))
  have hP1 := hP1.kept k3
  have hQ1 := hQ1.kept k3
  have hP2 := hP2.kept k3
  have hQ2 := hQ2.kept k3
  have kw3 := kw2.trans k3
  have HS1 : Hid (Sl w3 (.slice va R1.mag.length vc) R1.mag) := HS1.out.kept k3
  have HS2 : Hid (Sl w3 (.slice vb R2.mag.length vd) R2.mag) := HS2'.out.kept k3
  clear HS2' k3 kw2 KA
  obtain ⟨a0, a1, a2⟩ := hQ1
  obtain ⟨b0, b1, b2⟩ := hQ2
  have hQ1 := P3.mk a0 a1 a2
  have hQ2 := P3.mk b0 b1 b2
  go_upto_region 7 with (first | (go_at_call 8; refine (KD.out _ _ _ _ _ kw3 HS1.out HS2.out).mono ?_; rintro e w4 ⟨v, rfl, hN, k4⟩; obtain ⟨vn, vp, vl, ve, vx, rfl⟩ := hN.shape; obtain ⟨rfl, rfl, rfl, hs⟩ := new_parts hN))
  clear a0 a1 a2 b0 b1 b2 KD hN
  have k4' := k4.alloc #[.bool P.neg, .slice vp P.mag.length ve, .int .i64 P.exp] 26
  have hQP := P3.new w4 (.bool P.neg) (.slice vp P.mag.length ve) (.int .i64 P.exp) 26
  have HSP : Hid (Sl (w4.alloc (.cells #[.bool P.neg, .slice vp P.mag.length ve, .int .i64 P.exp] 26)) (.slice vp P.mag.length ve) P.mag) := hs.kept ((Kept.refl _).alloc _ _)
  obtain ⟨Y4, hY4⟩ : ∃ Y, Y = w4.alloc (.cells #[.bool P.neg, .slice vp P.mag.length ve, .int .i64 P.exp] 26) := ⟨_, rfl⟩
  obtain ⟨B5, hB5⟩ : ∃ B, B = w4.heap.size := ⟨_, rfl⟩
  rw [← hY4] at k4' hQP HSP
  rw [← hB5] at hQP
  rw [← hY4, ← hB5]
  have hP1 := hP1.kept k4'
  have hQ1 := hQ1.kept k4'
  have hP2 := hP2.kept k4'
  have hQ2 := hQ2.kept k4'
  have kw4 := kw3.trans k4'
  have HS1 : Hid (Sl Y4 (.slice va R1.mag.length vc) R1.mag) := HS1.out.kept k4'
  have HS2 : Hid (Sl Y4 (.slice vb R2.mag.length vd) R2.mag) := HS2.out.kept k4'
  clear hY4 hB5 k4 k4' kw3 hs
  obtain ⟨a0, a1, a2⟩ := hQ1
  obtain ⟨b0, b1, b2⟩ := hQ2
  go_upto_region 8 with (first | (go_at_call 9; refine (KM.out _ _ _ _ _ kw4 HS1.out HS2.out).mono ?_; rintro e w5 ⟨v, rfl, hN, k5⟩; obtain ⟨vn, vr, vl, vf, vx, rfl⟩ := hN.shape; obtain ⟨rfl, rfl, rfl, hs⟩ := new_parts hN))
  clear a0 a1 a2 b0 b1 b2 KM hN HS1 HS2
  have k5' := k5.alloc #[.bool R.neg, .slice vr R.mag.length vf, .int .i64 R.exp] 26
  have hQR := P3.new w5 (.bool R.neg) (.slice vr R.mag.length vf) (.int .i64 R.exp) 26
  have HSR : Hid (Sl (w5.alloc (.cells #[.bool R.neg, .slice vr R.mag.length vf, .int .i64 R.exp] 26)) (.slice vr R.mag.length vf) R.mag) := hs.kept ((Kept.refl _).alloc _ _)
  obtain ⟨Y5, hY5⟩ : ∃ Y, Y = w5.alloc (.cells #[.bool R.neg, .slice vr R.mag.length vf, .int .i64 R.exp] 26) := ⟨_, rfl⟩
  obtain ⟨B6, hB6⟩ : ∃ B, B = w5.heap.size := ⟨_, rfl⟩
  rw [← hY5] at k5' hQR HSR
  rw [← hB6] at hQR
  rw [← hY5, ← hB6]
  have hP1 := hP1.kept k5'
  have hP2 := hP2.kept k5'
  have hQP := hQP.kept k5'
  have kw5 := kw4.trans k5'
  have HSP : Hid (Sl Y5 (.slice vp P.mag.length ve) P.mag) := HSP.out.kept k5'
  clear hY5 hB6 k5 k5' kw4 hs
  obtain ⟨a0, a1, af⟩ := hP1
  obtain ⟨b0, b1, bf⟩ := hP2
  have hP1 := P2.mk a0 a1 af
  have hP2 := P2.mk b0 b1 bf
  go_upto_region 9 with (first | (go_at_call 10; refine (KS.out _ kw5).mono ?_; rintro e w6 ⟨rfl, k6⟩))
  clear a0 a1 af b0 b1 bf KS
  have k6' := k6.alloc #[.int .i64 c1, .int .i64 c2] 23
  have hC := P2.new w6 (.int .i64 c1) (.int .i64 c2) 23
  obtain ⟨Y6, hY6⟩ : ∃ Y, Y = w6.alloc (.cells #[.int .i64 c1, .int .i64 c2] 23) := ⟨_, rfl⟩
  obtain ⟨B7, hB7⟩ : ∃ B, B = w6.heap.size := ⟨_, rfl⟩
  rw [← hY6] at k6' hC
  rw [← hB7] at hC
  rw [← hY6, ← hB7]
  have hP1 := hP1.kept k6'
  have hP2 := hP2.kept k6'
  have hQP := hQP.kept k6'
  have hQR := hQR.kept k6'
  have kw6 := kw5.trans k6'
  have HSP : Hid (Sl Y6 (.slice vp P.mag.length ve) P.mag) := HSP.out.kept k6'
  have HSR : Hid (Sl Y6 (.slice vr R.mag.length vf) R.mag) := HSR.out.kept k6'
  clear hY6 hB7 k6 k6' kw5
  obtain ⟨a0, a1, af⟩ := hP1
  obtain ⟨b0, b1, bf⟩ := hP2
  go_upto_region 10 with (first | (go_at_call 11; refine (KX.out _ kw6).mono ?_; rintro e w7 ⟨rfl, k7⟩))
  clear a0 a1 af b0 b1 bf KX
  have k7' := k7.alloc #[.int .i64 m1, .int .i64 m2] 23
  have hM := P2.new w7 (.int .i64 m1) (.int .i64 m2) 23
  obtain ⟨Y7, hY7⟩ : ∃ Y, Y = w7.alloc (.cells #[.int .i64 m1, .int .i64 m2] 23) := ⟨_, rfl⟩
  obtain ⟨B8, hB8⟩ : ∃ B, B = w7.heap.size := ⟨_, rfl⟩
  rw [← hY7] at k7' hM
  rw [← hB8] at hM
  rw [← hY7, ← hB8]
  have hC := hC.kept k7'
  have hQP := hQP.kept k7'
  have hQR := hQR.kept k7'
  have kw7 := kw6.trans k7'
  have HSP : Hid (Sl Y7 (.slice vp P.mag.length ve) P.mag) := HSP.out.kept k7'
  have HSR : Hid (Sl Y7 (.slice vr R.mag.length vf) R.mag) := HSR.out.kept k7'
  clear hY7 hB8 k7 k7' kw6
  obtain ⟨a0, a1, af⟩ := hC
  obtain ⟨b0, b1, b2⟩ := hQP
  go_wp2_with fail
  refine (KT.out _ _ _ _ _ _ (.inl ⟨rfl, rfl, rfl⟩) kw7 HSP.out).mono ?_
  rintro e w8 ⟨rfl, k8⟩
  clear a0 a1 af b0 b1 b2
  obtain ⟨a0, a1, af⟩ := hM.kept k8
  obtain ⟨b0, b1, b2⟩ := hQR.kept k8
  have HSR : Hid (Sl w8 (.slice vr R.mag.length vf) R.mag) := HSR.out.kept k8
  go_wp2_with fail
  refine (KT.out _ _ _ _ _ _ (.inr ⟨rfl, rfl, rfl⟩) (kw7.trans k8) HSR.out).mono ?_
  rintro e w9 ⟨rfl, k9⟩
  go_wp2_with fail
  go_ret
  exact ⟨rfl, (kw7.trans k8).trans k9⟩
end Go.Proofs.YtalhnaakbekboaaDoor
