/- The walk of SpanMeets. -/
import Derived.Test.YtalhnaakbekboaaDoorV48
namespace Go.Proofs.YtalhnaakbekboaaDoor
open Go.ChangeShapes Go.WideShapes Go.ChangeAt Go.RowKit Ieee
set_option linter.unusedVariables false
set_option linter.unusedSimpArgs false

set_option maxHeartbeats 4000000 in
set_option maxRecDepth 100000 in
theorem meets_A (s1 s2 t1 t2 x n m1 m2 f : Int) (okb v1 v2 : Bool) (hv : (v1 && v2) = false) (hf : (f != 0) = true) (hok : okb = false) (w : World)
    (KM : Hid (∀ u, Calls Tryd.prog 16 #[sp2 s1 s2, sp2 t1 t2, .int .i64 n] u fun e w' => e = .returned (.tuple #[sp2 m1 m2, .bool okb, .int .i64 f]) ∧ Kept u w'))
    (KA : Hid (∀ u, Kept w u → Calls Tryd.prog 7 #[] u fun e w' => e = .returned (.bool true) ∧ Kept u w'))
    (KV : Hid (∀ u a b v, (a = s1 ∧ b = s2 ∧ v = v1 ∨ a = t1 ∧ b = t2 ∧ v = v2) → Calls Tryd.prog 17 #[sp2 a b, .int .i64 n] u fun e w' => e = .returned (.bool v) ∧ Kept u w')) :
    Calls Tryd.prog 5 #[sp2 s1 s2, sp2 t1 t2, .int .i64 x, .int .i64 n] w fun e w' => e = .returned (.bool true) ∧ Kept w w' := by
  subst hok
  obtain ⟨X, hX⟩ : ∃ X, X = (w.alloc (.cells #[.int .i64 s1, .int .i64 s2] 23)).alloc (.cells #[.int .i64 t1, .int .i64 t2] 23) := ⟨_, rfl⟩
  have hS : P2 X w.heap.size (.int .i64 s1) (.int .i64 s2) := by
    rw [hX]
    exact (P2.new w _ _ _).alloc _ _
  have hT' : P2 X (w.heap.size + 1) (.int .i64 t1) (.int .i64 t2) := by
    rw [hX]
    have := P2.new (w.alloc (.cells #[.int .i64 s1, .int .i64 s2] 23)) (.int .i64 t1) (.int .i64 t2) 23
    simpa using this
  have hK : Kept w X := by
    rw [hX]
    exact ((Kept.refl w).alloc _ _).alloc _ _
  obtain ⟨H0, hH0⟩ : ∃ H, H = w.heap.size := ⟨_, rfl⟩
  obtain ⟨H1, hH1⟩ : ∃ H, H = H0 + 1 := ⟨_, rfl⟩
  rw [← hH0] at hS hT'
  rw [← hH1] at hT'
  go_enter Tryd.func5, Tryd.ntmps5
  go_upto_region 1 with fail
  rw [← hX, ← hH0, ← hH1]
  clear hX hH0 hH1
  obtain ⟨a0, a1, af⟩ := hS
  obtain ⟨b0, b1, bf⟩ := hT'
  go_upto_region 2 with (first | (go_at_call 16; refine (KM.out _).mono ?_; rintro e w1 ⟨rfl, k1⟩))
  have hS1 := ((P2.mk a0 a1 af).kept k1).alloc #[.int .i64 m1, .int .i64 m2] 23
  have hT1 := ((P2.mk b0 b1 bf).kept k1).alloc #[.int .i64 m1, .int .i64 m2] 23
  have hM1 := P2.new w1 (.int .i64 m1) (.int .i64 m2) 23
  have kY := (hK.trans k1).alloc #[.int .i64 m1, .int .i64 m2] 23
  obtain ⟨Y, hY⟩ : ∃ Y, Y = w1.alloc (.cells #[.int .i64 m1, .int .i64 m2] 23) := ⟨_, rfl⟩
  obtain ⟨HM, hHM⟩ : ∃ H, H = w1.heap.size := ⟨_, rfl⟩
  rw [← hY] at hS1 hT1 hM1 kY
  rw [← hHM] at hM1
  rw [← hY, ← hHM]
  clear hY hHM a0 a1 af b0 b1 bf k1 hK KM
  cases v1
  · have kz : Kept Y Y := Kept.refl Y
    go_wp2_with (first | (go_at_call 7; refine (KA.out _ (kY.trans kz)).mono ?_; rintro e w2 ⟨rfl, k2⟩; have kz := kz.trans k2; obtain ⟨a0, a1, af⟩ := hS1.kept kz) | (go_at_call 17; refine (KV.out _ _ _ _ (.inl ⟨rfl, rfl, rfl⟩)).mono ?_; rintro e w3 ⟨rfl, k3⟩; have kz := kz.trans k3))
    go_ret
    exact ⟨rfl, kY.trans kz⟩
  · have hv2 : v2 = false := by simpa using hv
    subst hv2
    have kz : Kept Y Y := Kept.refl Y
    go_wp2_with (first | (go_at_call 7; refine (KA.out _ (kY.trans kz)).mono ?_; rintro e w2 ⟨rfl, k2⟩; have kz := kz.trans k2; obtain ⟨a0, a1, af⟩ := hS1.kept kz) | (go_at_call 17; refine (KV.out _ _ _ _ (by first | exact .inl ⟨rfl, rfl, rfl⟩ | exact .inr ⟨rfl, rfl, rfl⟩)).mono ?_; rintro e w3 ⟨rfl, k3⟩; have kz := kz.trans k3; obtain ⟨b0, b1, bf⟩ := hT1.kept kz))
    go_ret
    exact ⟨rfl, kY.trans kz⟩
set_option maxHeartbeats 4000000 in
set_option maxRecDepth 100000 in
theorem meets_B1_64 (s1 s2 t1 t2 x m1 m2 c : Int) (okb : Bool) (hc : 2 < c) (w : World)
    (KM : Hid (∀ u, Calls Tryd.prog 16 #[sp2 s1 s2, sp2 t1 t2, .int .i64 64] u fun e w' => e = .returned (.tuple #[sp2 m1 m2, .bool okb, .int .i64 0]) ∧ Kept u w'))
    (KA : Hid (∀ u, Kept w u → Calls Tryd.prog 7 #[] u fun e w' => e = .returned (.bool true) ∧ Kept u w'))
    (KV : Hid (∀ u a b v, (a = s1 ∧ b = s2 ∧ v = true ∨ a = t1 ∧ b = t2 ∧ v = true) → Calls Tryd.prog 17 #[sp2 a b, .int .i64 64] u fun e w' => e = .returned (.bool v) ∧ Kept u w'))
    (KC : Hid (∀ u, Calls Tryd.prog 18 #[.int .i64 x, .int .i64 64] u fun e w' => e = .returned (.int .i64 c) ∧ Kept u w')) :
    Calls Tryd.prog 5 #[sp2 s1 s2, sp2 t1 t2, .int .i64 x, .int .i64 64] w fun e w' => e = .returned (.bool true) ∧ Kept w w' := by
  obtain ⟨X, hX⟩ : ∃ X, X = (w.alloc (.cells #[.int .i64 s1, .int .i64 s2] 23)).alloc (.cells #[.int .i64 t1, .int .i64 t2] 23) := ⟨_, rfl⟩
  have hS : P2 X w.heap.size (.int .i64 s1) (.int .i64 s2) := by
    rw [hX]
    exact (P2.new w _ _ _).alloc _ _
  have hT' : P2 X (w.heap.size + 1) (.int .i64 t1) (.int .i64 t2) := by
    rw [hX]
    have := P2.new (w.alloc (.cells #[.int .i64 s1, .int .i64 s2] 23)) (.int .i64 t1) (.int .i64 t2) 23
    simpa using this
  have hK : Kept w X := by
    rw [hX]
    exact ((Kept.refl w).alloc _ _).alloc _ _
  obtain ⟨H0, hH0⟩ : ∃ H, H = w.heap.size := ⟨_, rfl⟩
  obtain ⟨H1, hH1⟩ : ∃ H, H = H0 + 1 := ⟨_, rfl⟩
  rw [← hH0] at hS hT'
  rw [← hH1] at hT'
  go_enter Tryd.func5, Tryd.ntmps5
  go_upto_region 1 with fail
  rw [← hX, ← hH0, ← hH1]
  clear hX hH0 hH1
  obtain ⟨a0, a1, af⟩ := hS
  obtain ⟨b0, b1, bf⟩ := hT'
  go_upto_region 2 with (first | (go_at_call 16; refine (KM.out _).mono ?_; rintro e w1 ⟨rfl, k1⟩))
  have hS1 := ((P2.mk a0 a1 af).kept k1).alloc #[.int .i64 m1, .int .i64 m2] 23
  have hT1 := ((P2.mk b0 b1 bf).kept k1).alloc #[.int .i64 m1, .int .i64 m2] 23
  have hM1 := P2.new w1 (.int .i64 m1) (.int .i64 m2) 23
  have kY := (hK.trans k1).alloc #[.int .i64 m1, .int .i64 m2] 23
  obtain ⟨Y, hY⟩ : ∃ Y, Y = w1.alloc (.cells #[.int .i64 m1, .int .i64 m2] 23) := ⟨_, rfl⟩
  obtain ⟨HM, hHM⟩ : ∃ H, H = w1.heap.size := ⟨_, rfl⟩
  rw [← hY] at hS1 hT1 hM1 kY
  rw [← hHM] at hM1
  rw [← hY, ← hHM]
  clear hY hHM a0 a1 af b0 b1 bf k1 hK KM
  have kz : Kept Y Y := Kept.refl Y
  go_wp2_with (first | (go_at_call 7; refine (KA.out _ (kY.trans kz)).mono ?_; rintro e w2 ⟨rfl, k2⟩; have kz := kz.trans k2; obtain ⟨a0, a1, af⟩ := hS1.kept kz) | (go_at_call 17; refine (KV.out _ _ _ _ (by first | exact .inl ⟨rfl, rfl, rfl⟩ | exact .inr ⟨rfl, rfl, rfl⟩)).mono ?_; rintro e w3 ⟨rfl, k3⟩; have kz := kz.trans k3; obtain ⟨b0, b1, bf⟩ := hT1.kept kz) | (go_at_call 18; refine (KC.out _).mono ?_; rintro e w4 ⟨rfl, k4⟩; have kz := kz.trans k4))
  go_ret
  exact ⟨rfl, kY.trans kz⟩
set_option maxHeartbeats 8000000 in
set_option maxRecDepth 100000 in
theorem meets_B2_64 (s1 s2 t1 t2 x m1 m2 j1 j2 c : Int) (okb one two three inn l1 l2 : Bool) (hc : ¬ 2 < c) (h3 : (one || two) = true → three = true) (hno : okb = false → (one && two) = false ∧ (l1 || l2) = true) (hyes : okb = true → inn = (one && two)) (w : World)
    (KM : Hid (∀ u, Calls Tryd.prog 16 #[sp2 s1 s2, sp2 t1 t2, .int .i64 64] u fun e w' => e = .returned (.tuple #[sp2 m1 m2, .bool okb, .int .i64 0]) ∧ Kept u w'))
    (KA : Hid (∀ u, Kept w u → Calls Tryd.prog 7 #[] u fun e w' => e = .returned (.bool true) ∧ Kept u w'))
    (KV : Hid (∀ u a b v, (a = s1 ∧ b = s2 ∧ v = true ∨ a = t1 ∧ b = t2 ∧ v = true) → Calls Tryd.prog 17 #[sp2 a b, .int .i64 64] u fun e w' => e = .returned (.bool v) ∧ Kept u w'))
    (KC : Hid (∀ u, Calls Tryd.prog 18 #[.int .i64 x, .int .i64 64] u fun e w' => e = .returned (.int .i64 c) ∧ Kept u w'))
    (KH : Hid (∀ u a b r, (a = s1 ∧ b = s2 ∧ r = one ∨ a = t1 ∧ b = t2 ∧ r = two ∨ a = j1 ∧ b = j2 ∧ r = three ∨ a = m1 ∧ b = m2 ∧ r = inn) → Calls Tryd.prog 19 #[sp2 a b, .int .i64 x, .int .i64 64] u fun e w' => e = .returned (.tuple #[.bool r, .int .i64 0]) ∧ Kept u w'))
    (KJ : Hid (∀ u, Calls Tryd.prog 20 #[sp2 s1 s2, sp2 t1 t2, .int .i64 64] u fun e w' => e = .returned (.tuple #[sp2 j1 j2, .int .i64 0]) ∧ Kept u w'))
    (KL : Hid (∀ u a b r, (a = s2 ∧ b = t1 ∧ r = l1 ∨ a = t2 ∧ b = s1 ∧ r = l2) → Calls Tryd.prog 21 #[.int .i64 a, .int .i64 b, .int .i64 64] u fun e w' => e = .returned (.bool r) ∧ Kept u w')) :
    Calls Tryd.prog 5 #[sp2 s1 s2, sp2 t1 t2, .int .i64 x, .int .i64 64] w fun e w' => e = .returned (.bool true) ∧ Kept w w' := by
  have H3 : Hid ((one || two) = true → three = true) := h3
  have HN : Hid (okb = false → (one && two) = false ∧ (l1 || l2) = true) := hno
  have HY : Hid (okb = true → inn = (one && two)) := hyes
  clear h3 hno hyes
  obtain ⟨X, hX⟩ : ∃ X, X = (w.alloc (.cells #[.int .i64 s1, .int .i64 s2] 23)).alloc (.cells #[.int .i64 t1, .int .i64 t2] 23) := ⟨_, rfl⟩
  have hS : P2 X w.heap.size (.int .i64 s1) (.int .i64 s2) := by
    rw [hX]
    exact (P2.new w _ _ _).alloc _ _
  have hT' : P2 X (w.heap.size + 1) (.int .i64 t1) (.int .i64 t2) := by
    rw [hX]
    have := P2.new (w.alloc (.cells #[.int .i64 s1, .int .i64 s2] 23)) (.int .i64 t1) (.int .i64 t2) 23
    simpa using this
  have hK : Kept w X := by
    rw [hX]
    exact ((Kept.refl w).alloc _ _).alloc _ _
  obtain ⟨H0, hH0⟩ : ∃ H, H = w.heap.size := ⟨_, rfl⟩
  obtain ⟨H1, hH1⟩ : ∃ H, H = H0 + 1 := ⟨_, rfl⟩
  rw [← hH0] at hS hT'
  rw [← hH1] at hT'
  go_enter Tryd.func5, Tryd.ntmps5
  go_upto_region 1 with fail
  rw [← hX, ← hH0, ← hH1]
  clear hX hH0 hH1
  obtain ⟨a0, a1, af⟩ := hS
  obtain ⟨b0, b1, bf⟩ := hT'
  go_upto_region 2 with (first | (go_at_call 16; refine (KM.out _).mono ?_; rintro e w1 ⟨rfl, k1⟩))
  have hS1 := ((P2.mk a0 a1 af).kept k1).alloc #[.int .i64 m1, .int .i64 m2] 23
  have hT1 := ((P2.mk b0 b1 bf).kept k1).alloc #[.int .i64 m1, .int .i64 m2] 23
  have hM1 := P2.new w1 (.int .i64 m1) (.int .i64 m2) 23
  have kY := (hK.trans k1).alloc #[.int .i64 m1, .int .i64 m2] 23
  obtain ⟨Y, hY⟩ : ∃ Y, Y = w1.alloc (.cells #[.int .i64 m1, .int .i64 m2] 23) := ⟨_, rfl⟩
  obtain ⟨HM, hHM⟩ : ∃ H, H = w1.heap.size := ⟨_, rfl⟩
  rw [← hY] at hS1 hT1 hM1 kY
  rw [← hHM] at hM1
  rw [← hY, ← hHM]
  clear hY hHM a0 a1 af b0 b1 bf k1 hK KM
  have kz : Kept Y Y := Kept.refl Y
  go_upto_region 8 with (first | (go_at_call 7; refine (KA.out _ (kY.trans kz)).mono ?_; rintro e w2 ⟨rfl, k2⟩; have kz := kz.trans k2; obtain ⟨a0, a1, af⟩ := hS1.kept kz) | (go_at_call 17; refine (KV.out _ _ _ _ (by first | exact .inl ⟨rfl, rfl, rfl⟩ | exact .inr ⟨rfl, rfl, rfl⟩)).mono ?_; rintro e w3 ⟨rfl, k3⟩; have kz := kz.trans k3; obtain ⟨b0, b1, bf⟩ := hT1.kept kz) | (go_at_call 18; refine (KC.out _).mono ?_; rintro e w4 ⟨rfl, k4⟩; have kz := kz.trans k4))
  clear a0 a1 af b0 b1 bf
  obtain ⟨a0, a1, af⟩ := hS1.kept kz
  go_upto_region 9 with (first | (go_at_call 19; refine (KH.out _ _ _ _ (.inl ⟨rfl, rfl, rfl⟩)).mono ?_; rintro e w5 ⟨rfl, k5⟩; have kz := kz.trans k5))
  clear a0 a1 af
  obtain ⟨b0, b1, bf⟩ := hT1.kept kz
  go_upto_region 10 with (first | (go_at_call 19; refine (KH.out _ _ _ _ (.inr (.inl ⟨rfl, rfl, rfl⟩))).mono ?_; rintro e w6 ⟨rfl, k6⟩; have kz := kz.trans k6))
  clear b0 b1 bf
  obtain ⟨a0, a1, af⟩ := hS1.kept kz
  obtain ⟨b0, b1, bf⟩ := hT1.kept kz
  go_upto_region 11 with (first | (go_at_call 20; refine (KJ.out _).mono ?_; rintro e w7 ⟨rfl, k7⟩; have kz := kz.trans k7))
  clear a0 a1 af b0 b1 bf
  have hJ := P2.new w7 (.int .i64 j1) (.int .i64 j2) 23
  have kzj := kz.alloc #[.int .i64 j1, .int .i64 j2] 23
  obtain ⟨Z, hZ⟩ : ∃ Z, Z = w7.alloc (.cells #[.int .i64 j1, .int .i64 j2] 23) := ⟨_, rfl⟩
  obtain ⟨HJ, hHJ⟩ : ∃ H, H = w7.heap.size := ⟨_, rfl⟩
  rw [← hZ] at hJ kzj
  rw [← hHJ] at hJ
  rw [← hZ, ← hHJ]
  clear hZ hHJ kz
  have kz := kzj
  clear kzj
  obtain ⟨g0, g1, gf⟩ := hJ
  go_upto_region 12 with (first | (go_at_call 19; refine (KH.out _ _ _ _ (.inr (.inr (.inl ⟨rfl, rfl, rfl⟩)))).mono ?_; rintro e w8 ⟨rfl, k8⟩; have kz := kz.trans k8))
  clear g0 g1 gf
  have hS2 := hS1.kept kz
  have hT2 := hT1.kept kz
  have hM2 := hM1.kept kz
  have kw8 := kY.trans kz
  clear hS1 hT1 hM1 kz kY KA KV KC KJ
  obtain ⟨a0, a1, af⟩ := hS2
  obtain ⟨b0, b1, bf⟩ := hT2
  obtain ⟨g0, g1, gf⟩ := hM2
  have hS2 := P2.mk a0 a1 af
  have hT2 := P2.mk b0 b1 bf
  cases okb
  · obtain ⟨hn1, hn2⟩ := HN.out rfl
    clear HN HY
    cases one
    · cases two
      · clear H3 hn1
        cases l1
        · have : l2 = true := by simpa using hn2
          subst this
          clear hn2
          go_wp2_with (first | (go_at_call 21; refine (KL.out _ _ _ _ (by first | exact .inl ⟨rfl, rfl, rfl⟩ | exact .inr ⟨rfl, rfl, rfl⟩)).mono ?_; rintro e w9 ⟨rfl, k9⟩; have kw8 := kw8.trans k9; have hS2 := hS2.kept k9; have hT2 := hT2.kept k9; obtain ⟨a0, a1, af⟩ := hS2; obtain ⟨b0, b1, bf⟩ := hT2; have hS2 := P2.mk a0 a1 af; have hT2 := P2.mk b0 b1 bf))
          go_ret
          exact ⟨rfl, kw8⟩
        · clear hn2
          go_wp2_with (first | (go_at_call 21; refine (KL.out _ _ _ _ (.inl ⟨rfl, rfl, rfl⟩)).mono ?_; rintro e w9 ⟨rfl, k9⟩; have kw8 := kw8.trans k9))
          go_ret
          exact ⟨rfl, kw8⟩
      · have h3 : three = true := H3.out rfl
        subst h3
        clear H3 hn1
        cases l1
        · have : l2 = true := by simpa using hn2
          subst this
          clear hn2
          go_wp2_with (first | (go_at_call 21; refine (KL.out _ _ _ _ (by first | exact .inl ⟨rfl, rfl, rfl⟩ | exact .inr ⟨rfl, rfl, rfl⟩)).mono ?_; rintro e w9 ⟨rfl, k9⟩; have kw8 := kw8.trans k9; have hS2 := hS2.kept k9; have hT2 := hT2.kept k9; obtain ⟨a0, a1, af⟩ := hS2; obtain ⟨b0, b1, bf⟩ := hT2; have hS2 := P2.mk a0 a1 af; have hT2 := P2.mk b0 b1 bf))
          go_ret
          exact ⟨rfl, kw8⟩
        · clear hn2
          go_wp2_with (first | (go_at_call 21; refine (KL.out _ _ _ _ (.inl ⟨rfl, rfl, rfl⟩)).mono ?_; rintro e w9 ⟨rfl, k9⟩; have kw8 := kw8.trans k9))
          go_ret
          exact ⟨rfl, kw8⟩
    · have h2 : two = false := by simpa using hn1
      subst h2
      have h3 : three = true := H3.out rfl
      subst h3
      clear H3 hn1
      cases l1
      · have : l2 = true := by simpa using hn2
        subst this
        clear hn2
        go_wp2_with (first | (go_at_call 21; refine (KL.out _ _ _ _ (by first | exact .inl ⟨rfl, rfl, rfl⟩ | exact .inr ⟨rfl, rfl, rfl⟩)).mono ?_; rintro e w9 ⟨rfl, k9⟩; have kw8 := kw8.trans k9; have hS2 := hS2.kept k9; have hT2 := hT2.kept k9; obtain ⟨a0, a1, af⟩ := hS2; obtain ⟨b0, b1, bf⟩ := hT2; have hS2 := P2.mk a0 a1 af; have hT2 := P2.mk b0 b1 bf))
        go_ret
        exact ⟨rfl, kw8⟩
      · clear hn2
        go_wp2_with (first | (go_at_call 21; refine (KL.out _ _ _ _ (.inl ⟨rfl, rfl, rfl⟩)).mono ?_; rintro e w9 ⟨rfl, k9⟩; have kw8 := kw8.trans k9))
        go_ret
        exact ⟨rfl, kw8⟩
  · have hin := HY.out rfl
    subst hin
    clear HN HY
    have h3 : (one || two) = true → three = true := H3.out
    clear H3
    cases one
    · cases two
      · clear h3
        go_wp2_with (first | (go_at_call 19; refine (KH.out _ _ _ _ (.inr (.inr (.inr ⟨rfl, rfl, rfl⟩)))).mono ?_; rintro e w9 ⟨rfl, k9⟩; have kw8 := kw8.trans k9))
        go_ret
        exact ⟨rfl, kw8⟩
      · have h3' : three = true := h3 rfl
        subst h3'
        clear h3
        go_wp2_with (first | (go_at_call 19; refine (KH.out _ _ _ _ (.inr (.inr (.inr ⟨rfl, rfl, rfl⟩)))).mono ?_; rintro e w9 ⟨rfl, k9⟩; have kw8 := kw8.trans k9))
        go_ret
        exact ⟨rfl, kw8⟩
    · have h3' : three = true := h3 rfl
      subst h3'
      clear h3
      cases two
      · go_wp2_with (first | (go_at_call 19; refine (KH.out _ _ _ _ (.inr (.inr (.inr ⟨rfl, rfl, rfl⟩)))).mono ?_; rintro e w9 ⟨rfl, k9⟩; have kw8 := kw8.trans k9))
        go_ret
        exact ⟨rfl, kw8⟩
      · go_wp2_with (first | (go_at_call 19; refine (KH.out _ _ _ _ (.inr (.inr (.inr ⟨rfl, rfl, rfl⟩)))).mono ?_; rintro e w9 ⟨rfl, k9⟩; have kw8 := kw8.trans k9))
        go_ret
        exact ⟨rfl, kw8⟩
set_option maxHeartbeats 4000000 in
set_option maxRecDepth 100000 in
theorem meets_B1_32 (s1 s2 t1 t2 x m1 m2 c : Int) (xm : Int) (hx : bits .and .i64 x 4294967295 = xm) (okb : Bool) (hc : 2 < c) (w : World)
    (KM : Hid (∀ u, Calls Tryd.prog 16 #[sp2 s1 s2, sp2 t1 t2, .int .i64 32] u fun e w' => e = .returned (.tuple #[sp2 m1 m2, .bool okb, .int .i64 0]) ∧ Kept u w'))
    (KA : Hid (∀ u, Kept w u → Calls Tryd.prog 7 #[] u fun e w' => e = .returned (.bool true) ∧ Kept u w'))
    (KV : Hid (∀ u a b v, (a = s1 ∧ b = s2 ∧ v = true ∨ a = t1 ∧ b = t2 ∧ v = true) → Calls Tryd.prog 17 #[sp2 a b, .int .i64 32] u fun e w' => e = .returned (.bool v) ∧ Kept u w'))
    (KC : Hid (∀ u, Calls Tryd.prog 18 #[.int .i64 xm, .int .i64 32] u fun e w' => e = .returned (.int .i64 c) ∧ Kept u w')) :
    Calls Tryd.prog 5 #[sp2 s1 s2, sp2 t1 t2, .int .i64 x, .int .i64 32] w fun e w' => e = .returned (.bool true) ∧ Kept w w' := by
  obtain ⟨X, hX⟩ : ∃ X, X = (w.alloc (.cells #[.int .i64 s1, .int .i64 s2] 23)).alloc (.cells #[.int .i64 t1, .int .i64 t2] 23) := ⟨_, rfl⟩
  have hS : P2 X w.heap.size (.int .i64 s1) (.int .i64 s2) := by
    rw [hX]
    exact (P2.new w _ _ _).alloc _ _
  have hT' : P2 X (w.heap.size + 1) (.int .i64 t1) (.int .i64 t2) := by
    rw [hX]
    have := P2.new (w.alloc (.cells #[.int .i64 s1, .int .i64 s2] 23)) (.int .i64 t1) (.int .i64 t2) 23
    simpa using this
  have hK : Kept w X := by
    rw [hX]
    exact ((Kept.refl w).alloc _ _).alloc _ _
  obtain ⟨H0, hH0⟩ : ∃ H, H = w.heap.size := ⟨_, rfl⟩
  obtain ⟨H1, hH1⟩ : ∃ H, H = H0 + 1 := ⟨_, rfl⟩
  rw [← hH0] at hS hT'
  rw [← hH1] at hT'
  go_enter Tryd.func5, Tryd.ntmps5
  go_upto_region 1 with fail
  rw [← hX, ← hH0, ← hH1]
  clear hX hH0 hH1
  obtain ⟨a0, a1, af⟩ := hS
  obtain ⟨b0, b1, bf⟩ := hT'
  go_upto_region 2 with (first | (go_at_call 16; refine (KM.out _).mono ?_; rintro e w1 ⟨rfl, k1⟩))
  have hS1 := ((P2.mk a0 a1 af).kept k1).alloc #[.int .i64 m1, .int .i64 m2] 23
  have hT1 := ((P2.mk b0 b1 bf).kept k1).alloc #[.int .i64 m1, .int .i64 m2] 23
  have hM1 := P2.new w1 (.int .i64 m1) (.int .i64 m2) 23
  have kY := (hK.trans k1).alloc #[.int .i64 m1, .int .i64 m2] 23
  obtain ⟨Y, hY⟩ : ∃ Y, Y = w1.alloc (.cells #[.int .i64 m1, .int .i64 m2] 23) := ⟨_, rfl⟩
  obtain ⟨HM, hHM⟩ : ∃ H, H = w1.heap.size := ⟨_, rfl⟩
  rw [← hY] at hS1 hT1 hM1 kY
  rw [← hHM] at hM1
  rw [← hY, ← hHM]
  clear hY hHM a0 a1 af b0 b1 bf k1 hK KM
  have kz : Kept Y Y := Kept.refl Y
  go_wp2_with (first | (go_at_call 7; refine (KA.out _ (kY.trans kz)).mono ?_; rintro e w2 ⟨rfl, k2⟩; have kz := kz.trans k2; obtain ⟨a0, a1, af⟩ := hS1.kept kz) | (go_at_call 17; refine (KV.out _ _ _ _ (by first | exact .inl ⟨rfl, rfl, rfl⟩ | exact .inr ⟨rfl, rfl, rfl⟩)).mono ?_; rintro e w3 ⟨rfl, k3⟩; have kz := kz.trans k3; obtain ⟨b0, b1, bf⟩ := hT1.kept kz) | (go_at_call 18; refine (KC.out _).mono ?_; rintro e w4 ⟨rfl, k4⟩; have kz := kz.trans k4))
  go_ret
  exact ⟨rfl, kY.trans kz⟩
set_option maxHeartbeats 8000000 in
set_option maxRecDepth 100000 in
theorem meets_B2_32 (s1 s2 t1 t2 x m1 m2 j1 j2 c : Int) (xm : Int) (hx : bits .and .i64 x 4294967295 = xm) (okb one two three inn l1 l2 : Bool) (hc : ¬ 2 < c) (h3 : (one || two) = true → three = true) (hno : okb = false → (one && two) = false ∧ (l1 || l2) = true) (hyes : okb = true → inn = (one && two)) (w : World)
    (KM : Hid (∀ u, Calls Tryd.prog 16 #[sp2 s1 s2, sp2 t1 t2, .int .i64 32] u fun e w' => e = .returned (.tuple #[sp2 m1 m2, .bool okb, .int .i64 0]) ∧ Kept u w'))
    (KA : Hid (∀ u, Kept w u → Calls Tryd.prog 7 #[] u fun e w' => e = .returned (.bool true) ∧ Kept u w'))
    (KV : Hid (∀ u a b v, (a = s1 ∧ b = s2 ∧ v = true ∨ a = t1 ∧ b = t2 ∧ v = true) → Calls Tryd.prog 17 #[sp2 a b, .int .i64 32] u fun e w' => e = .returned (.bool v) ∧ Kept u w'))
    (KC : Hid (∀ u, Calls Tryd.prog 18 #[.int .i64 xm, .int .i64 32] u fun e w' => e = .returned (.int .i64 c) ∧ Kept u w'))
    (KH : Hid (∀ u a b r, (a = s1 ∧ b = s2 ∧ r = one ∨ a = t1 ∧ b = t2 ∧ r = two ∨ a = j1 ∧ b = j2 ∧ r = three ∨ a = m1 ∧ b = m2 ∧ r = inn) → Calls Tryd.prog 19 #[sp2 a b, .int .i64 xm, .int .i64 32] u fun e w' => e = .returned (.tuple #[.bool r, .int .i64 0]) ∧ Kept u w'))
    (KJ : Hid (∀ u, Calls Tryd.prog 20 #[sp2 s1 s2, sp2 t1 t2, .int .i64 32] u fun e w' => e = .returned (.tuple #[sp2 j1 j2, .int .i64 0]) ∧ Kept u w'))
    (KL : Hid (∀ u a b r, (a = s2 ∧ b = t1 ∧ r = l1 ∨ a = t2 ∧ b = s1 ∧ r = l2) → Calls Tryd.prog 21 #[.int .i64 a, .int .i64 b, .int .i64 32] u fun e w' => e = .returned (.bool r) ∧ Kept u w')) :
    Calls Tryd.prog 5 #[sp2 s1 s2, sp2 t1 t2, .int .i64 x, .int .i64 32] w fun e w' => e = .returned (.bool true) ∧ Kept w w' := by
  have H3 : Hid ((one || two) = true → three = true) := h3
  have HN : Hid (okb = false → (one && two) = false ∧ (l1 || l2) = true) := hno
  have HY : Hid (okb = true → inn = (one && two)) := hyes
  clear h3 hno hyes
  obtain ⟨X, hX⟩ : ∃ X, X = (w.alloc (.cells #[.int .i64 s1, .int .i64 s2] 23)).alloc (.cells #[.int .i64 t1, .int .i64 t2] 23) := ⟨_, rfl⟩
  have hS : P2 X w.heap.size (.int .i64 s1) (.int .i64 s2) := by
    rw [hX]
    exact (P2.new w _ _ _).alloc _ _
  have hT' : P2 X (w.heap.size + 1) (.int .i64 t1) (.int .i64 t2) := by
    rw [hX]
    have := P2.new (w.alloc (.cells #[.int .i64 s1, .int .i64 s2] 23)) (.int .i64 t1) (.int .i64 t2) 23
    simpa using this
  have hK : Kept w X := by
    rw [hX]
    exact ((Kept.refl w).alloc _ _).alloc _ _
  obtain ⟨H0, hH0⟩ : ∃ H, H = w.heap.size := ⟨_, rfl⟩
  obtain ⟨H1, hH1⟩ : ∃ H, H = H0 + 1 := ⟨_, rfl⟩
  rw [← hH0] at hS hT'
  rw [← hH1] at hT'
  go_enter Tryd.func5, Tryd.ntmps5
  go_upto_region 1 with fail
  rw [← hX, ← hH0, ← hH1]
  clear hX hH0 hH1
  obtain ⟨a0, a1, af⟩ := hS
  obtain ⟨b0, b1, bf⟩ := hT'
  go_upto_region 2 with (first | (go_at_call 16; refine (KM.out _).mono ?_; rintro e w1 ⟨rfl, k1⟩))
  have hS1 := ((P2.mk a0 a1 af).kept k1).alloc #[.int .i64 m1, .int .i64 m2] 23
  have hT1 := ((P2.mk b0 b1 bf).kept k1).alloc #[.int .i64 m1, .int .i64 m2] 23
  have hM1 := P2.new w1 (.int .i64 m1) (.int .i64 m2) 23
  have kY := (hK.trans k1).alloc #[.int .i64 m1, .int .i64 m2] 23
  obtain ⟨Y, hY⟩ : ∃ Y, Y = w1.alloc (.cells #[.int .i64 m1, .int .i64 m2] 23) := ⟨_, rfl⟩
  obtain ⟨HM, hHM⟩ : ∃ H, H = w1.heap.size := ⟨_, rfl⟩
  rw [← hY] at hS1 hT1 hM1 kY
  rw [← hHM] at hM1
  rw [← hY, ← hHM]
  clear hY hHM a0 a1 af b0 b1 bf k1 hK KM
  have kz : Kept Y Y := Kept.refl Y
  go_upto_region 8 with (first | (go_at_call 7; refine (KA.out _ (kY.trans kz)).mono ?_; rintro e w2 ⟨rfl, k2⟩; have kz := kz.trans k2; obtain ⟨a0, a1, af⟩ := hS1.kept kz) | (go_at_call 17; refine (KV.out _ _ _ _ (by first | exact .inl ⟨rfl, rfl, rfl⟩ | exact .inr ⟨rfl, rfl, rfl⟩)).mono ?_; rintro e w3 ⟨rfl, k3⟩; have kz := kz.trans k3; obtain ⟨b0, b1, bf⟩ := hT1.kept kz) | (go_at_call 18; refine (KC.out _).mono ?_; rintro e w4 ⟨rfl, k4⟩; have kz := kz.trans k4))
  clear a0 a1 af b0 b1 bf
  obtain ⟨a0, a1, af⟩ := hS1.kept kz
  go_upto_region 9 with (first | (go_at_call 19; refine (KH.out _ _ _ _ (.inl ⟨rfl, rfl, rfl⟩)).mono ?_; rintro e w5 ⟨rfl, k5⟩; have kz := kz.trans k5))
  clear a0 a1 af
  obtain ⟨b0, b1, bf⟩ := hT1.kept kz
  go_upto_region 10 with (first | (go_at_call 19; refine (KH.out _ _ _ _ (.inr (.inl ⟨rfl, rfl, rfl⟩))).mono ?_; rintro e w6 ⟨rfl, k6⟩; have kz := kz.trans k6))
  clear b0 b1 bf
  obtain ⟨a0, a1, af⟩ := hS1.kept kz
  obtain ⟨b0, b1, bf⟩ := hT1.kept kz
  go_upto_region 11 with (first | (go_at_call 20; refine (KJ.out _).mono ?_; rintro e w7 ⟨rfl, k7⟩; have kz := kz.trans k7))
  clear a0 a1 af b0 b1 bf
  have hJ := P2.new w7 (.int .i64 j1) (.int .i64 j2) 23
  have kzj := kz.alloc #[.int .i64 j1, .int .i64 j2] 23
  obtain ⟨Z, hZ⟩ : ∃ Z, Z = w7.alloc (.cells #[.int .i64 j1, .int .i64 j2] 23) := ⟨_, rfl⟩
  obtain ⟨HJ, hHJ⟩ : ∃ H, H = w7.heap.size := ⟨_, rfl⟩
  rw [← hZ] at hJ kzj
  rw [← hHJ] at hJ
  rw [← hZ, ← hHJ]
  clear hZ hHJ kz
  have kz := kzj
  clear kzj
  obtain ⟨g0, g1, gf⟩ := hJ
  go_upto_region 12 with (first | (go_at_call 19; refine (KH.out _ _ _ _ (.inr (.inr (.inl ⟨rfl, rfl, rfl⟩)))).mono ?_; rintro e w8 ⟨rfl, k8⟩; have kz := kz.trans k8))
  clear g0 g1 gf
  have hS2 := hS1.kept kz
  have hT2 := hT1.kept kz
  have hM2 := hM1.kept kz
  have kw8 := kY.trans kz
  clear hS1 hT1 hM1 kz kY KA KV KC KJ
  obtain ⟨a0, a1, af⟩ := hS2
  obtain ⟨b0, b1, bf⟩ := hT2
  obtain ⟨g0, g1, gf⟩ := hM2
  have hS2 := P2.mk a0 a1 af
  have hT2 := P2.mk b0 b1 bf
  cases okb
  · obtain ⟨hn1, hn2⟩ := HN.out rfl
    clear HN HY
    cases one
    · cases two
      · clear H3 hn1
        cases l1
        · have : l2 = true := by simpa using hn2
          subst this
          clear hn2
          go_wp2_with (first | (go_at_call 21; refine (KL.out _ _ _ _ (by first | exact .inl ⟨rfl, rfl, rfl⟩ | exact .inr ⟨rfl, rfl, rfl⟩)).mono ?_; rintro e w9 ⟨rfl, k9⟩; have kw8 := kw8.trans k9; have hS2 := hS2.kept k9; have hT2 := hT2.kept k9; obtain ⟨a0, a1, af⟩ := hS2; obtain ⟨b0, b1, bf⟩ := hT2; have hS2 := P2.mk a0 a1 af; have hT2 := P2.mk b0 b1 bf))
          go_ret
          exact ⟨rfl, kw8⟩
        · clear hn2
          go_wp2_with (first | (go_at_call 21; refine (KL.out _ _ _ _ (.inl ⟨rfl, rfl, rfl⟩)).mono ?_; rintro e w9 ⟨rfl, k9⟩; have kw8 := kw8.trans k9))
          go_ret
          exact ⟨rfl, kw8⟩
      · have h3 : three = true := H3.out rfl
        subst h3
        clear H3 hn1
        cases l1
        · have : l2 = true := by simpa using hn2
          subst this
          clear hn2
          go_wp2_with (first | (go_at_call 21; refine (KL.out _ _ _ _ (by first | exact .inl ⟨rfl, rfl, rfl⟩ | exact .inr ⟨rfl, rfl, rfl⟩)).mono ?_; rintro e w9 ⟨rfl, k9⟩; have kw8 := kw8.trans k9; have hS2 := hS2.kept k9; have hT2 := hT2.kept k9; obtain ⟨a0, a1, af⟩ := hS2; obtain ⟨b0, b1, bf⟩ := hT2; have hS2 := P2.mk a0 a1 af; have hT2 := P2.mk b0 b1 bf))
          go_ret
          exact ⟨rfl, kw8⟩
        · clear hn2
          go_wp2_with (first | (go_at_call 21; refine (KL.out _ _ _ _ (.inl ⟨rfl, rfl, rfl⟩)).mono ?_; rintro e w9 ⟨rfl, k9⟩; have kw8 := kw8.trans k9))
          go_ret
          exact ⟨rfl, kw8⟩
    · have h2 : two = false := by simpa using hn1
      subst h2
      have h3 : three = true := H3.out rfl
      subst h3
      clear H3 hn1
      cases l1
      · have : l2 = true := by simpa using hn2
        subst this
        clear hn2
        go_wp2_with (first | (go_at_call 21; refine (KL.out _ _ _ _ (by first | exact .inl ⟨rfl, rfl, rfl⟩ | exact .inr ⟨rfl, rfl, rfl⟩)).mono ?_; rintro e w9 ⟨rfl, k9⟩; have kw8 := kw8.trans k9; have hS2 := hS2.kept k9; have hT2 := hT2.kept k9; obtain ⟨a0, a1, af⟩ := hS2; obtain ⟨b0, b1, bf⟩ := hT2; have hS2 := P2.mk a0 a1 af; have hT2 := P2.mk b0 b1 bf))
        go_ret
        exact ⟨rfl, kw8⟩
      · clear hn2
        go_wp2_with (first | (go_at_call 21; refine (KL.out _ _ _ _ (.inl ⟨rfl, rfl, rfl⟩)).mono ?_; rintro e w9 ⟨rfl, k9⟩; have kw8 := kw8.trans k9))
        go_ret
        exact ⟨rfl, kw8⟩
  · have hin := HY.out rfl
    subst hin
    clear HN HY
    have h3 : (one || two) = true → three = true := H3.out
    clear H3
    cases one
    · cases two
      · clear h3
        go_wp2_with (first | (go_at_call 19; refine (KH.out _ _ _ _ (.inr (.inr (.inr ⟨rfl, rfl, rfl⟩)))).mono ?_; rintro e w9 ⟨rfl, k9⟩; have kw8 := kw8.trans k9))
        go_ret
        exact ⟨rfl, kw8⟩
      · have h3' : three = true := h3 rfl
        subst h3'
        clear h3
        go_wp2_with (first | (go_at_call 19; refine (KH.out _ _ _ _ (.inr (.inr (.inr ⟨rfl, rfl, rfl⟩)))).mono ?_; rintro e w9 ⟨rfl, k9⟩; have kw8 := kw8.trans k9))
        go_ret
        exact ⟨rfl, kw8⟩
    · have h3' : three = true := h3 rfl
      subst h3'
      clear h3
      cases two
      · go_wp2_with (first | (go_at_call 19; refine (KH.out _ _ _ _ (.inr (.inr (.inr ⟨rfl, rfl, rfl⟩)))).mono ?_; rintro e w9 ⟨rfl, k9⟩; have kw8 := kw8.trans k9))
        go_ret
        exact ⟨rfl, kw8⟩
      · go_wp2_with (first | (go_at_call 19; refine (KH.out _ _ _ _ (.inr (.inr (.inr ⟨rfl, rfl, rfl⟩)))).mono ?_; rintro e w9 ⟨rfl, k9⟩; have kw8 := kw8.trans k9))
        go_ret
        exact ⟨rfl, kw8⟩
end Go.Proofs.YtalhnaakbekboaaDoor
