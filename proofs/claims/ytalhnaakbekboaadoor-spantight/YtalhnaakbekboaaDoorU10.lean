/- Package span: Meet, Join, Holds. Package span: Join, Holds. -/
import Derived.Test.YtalhnaakbekboaaDoorU09
namespace Go.Proofs.YtalhnaakbekboaaDoor
open Go.ChangeShapes Go.WideShapes Go.ChangeAt Go.RowKit Ieee
set_option linter.unusedVariables false
set_option linter.unusedSimpArgs false

/-- the first error of two intervals -/
def btE (a1 b1 a2 b2 n : Int) : Int := if opE a1 b1 n = 0 then opE a2 b2 n else opE a1 b1 n
theorem btE_zero (a1 b1 a2 b2 n : Int) : btE a1 b1 a2 b2 n = 0 ↔ vsp a1 b1 n = true ∧ vsp a2 b2 n = true := by
  unfold btE
  rw [← opE_zero, ← opE_zero]
  split
  · rename_i h; simp [h]
  · rename_i h; simp [h]
/-- the ends as both tells them -/
structure Bt (a1 b1 a2 b2 n : Int) (x1 y1 x2 y2 : Nat) (q : Int) : Prop where
  err : q = btE a1 b1 a2 b2 n
  ok : q = 0 → Fl n x1 (keyOf a1 n) ∧ Fl n y1 (keyOf b1 n) ∧ Fl n x2 (keyOf a2 n) ∧ Fl n y2 (keyOf b2 n)
  no : q ≠ 0 → x1 = 0 ∧ y1 = 0 ∧ x2 = 0 ∧ y2 = 0
theorem vsp_num (a b n : Int) (h : vsp a b n = true) : isnum a n = true ∧ isnum b n = true ∧ keyOf a n ≤ keyOf b n ∧ keyOf a n ≠ (ifn n : Int) ∧ keyOf b n ≠ -(ifn n : Int) := by
  unfold vsp at h
  simp only [Bool.and_eq_true, decide_eq_true_eq] at h
  exact ⟨h.1.1.1.1, h.1.1.1.2, h.1.1.2, h.1.2, h.2⟩
theorem both_any (a1 b1 a2 b2 n : Int) (r1 : RB a1) (r2 : RB b1) (r3 : RB a2) (r4 : RB b2) : ∃ x1 y1 x2 y2 q, Bt a1 b1 a2 b2 n x1 y1 x2 y2 q ∧ ∀ w, Calls Tryd.prog 30 #[sp2 a1 b1, sp2 a2 b2, .int .i64 n] w fun e w' => e = .returned (.tuple #[fv2 x1 y1, fv2 x2 y2, .int .i64 q]) ∧ Kept w w' := by
  obtain ⟨x1, y1, f1, g1, -⟩ := opV_form a1 b1 n
  obtain ⟨x2, y2, f2, g2, -⟩ := opV_form a2 b2 n
  have KO : Hid (∀ u a b x y q, (a = a1 ∧ b = b1 ∧ x = x1 ∧ y = y1 ∧ q = opE a1 b1 n ∨ a = a2 ∧ b = b2 ∧ x = x2 ∧ y = y2 ∧ q = opE a2 b2 n) → Calls Tryd.prog 42 #[sp2 a b, .int .i64 n] u fun e w' => e = .returned (.tuple #[fv2 x y, .int .i64 q]) ∧ Kept u w') := fun u a b x y q h => by
    rcases h with ⟨rfl, rfl, rfl, rfl, rfl⟩ | ⟨rfl, rfl, rfl, rfl, rfl⟩
    · rw [← f1]; exact opened_any _ _ n r1 r2 u
    · rw [← f2]; exact opened_any _ _ n r3 r4 u
  by_cases h : opE a1 b1 n = 0 ∧ opE a2 b2 n = 0
  · have hv1 := (opE_zero _ _ _).1 h.1
    have hv2 := (opE_zero _ _ _).1 h.2
    obtain ⟨i1, i2, -⟩ := vsp_num _ _ _ hv1
    obtain ⟨i3, i4, -⟩ := vsp_num _ _ _ hv2
    refine ⟨x1, y1, x2, y2, 0, ⟨((btE_zero _ _ _ _ _).2 ⟨hv1, hv2⟩).symm, fun _ => ?_, fun h => absurd rfl h⟩, fun w => ?_⟩
    · rw [(g1 hv1).1, (g1 hv1).2, (g2 hv2).1, (g2 hv2).2]
      exact ⟨Fl.flv i1 r1.1 r1.2, Fl.flv i2 r2.1 r2.2, Fl.flv i3 r3.1 r3.2, Fl.flv i4 r4.1 r4.2⟩
    · have := both_walk a1 b1 a2 b2 n x1 y1 x2 y2 _ _ w KO
      rw [if_pos h] at this
      exact this
  · refine ⟨0, 0, 0, 0, btE a1 b1 a2 b2 n, ⟨rfl, fun g => ?_, fun _ => ⟨rfl, rfl, rfl, rfl⟩⟩, fun w => ?_⟩
    · have := (btE_zero _ _ _ _ _).1 g
      exact absurd ⟨(opE_zero _ _ _).2 this.1, (opE_zero _ _ _).2 this.2⟩ h
    · have := both_walk a1 b1 a2 b2 n x1 y1 x2 y2 _ _ w KO
      rw [if_neg h] at this
      exact this
theorem Bt.fl {a1 b1 a2 b2 n : Int} {x1 y1 x2 y2 : Nat} {q : Int} (h : Bt a1 b1 a2 b2 n x1 y1 x2 y2 q) : ∃ (m : Int) (k1 j1 k2 j2 : Int), Fl m x1 k1 ∧ Fl m y1 j1 ∧ Fl m x2 k2 ∧ Fl m y2 j2 ∧ (q = 0 → m = n ∧ k1 = keyOf a1 n ∧ j1 = keyOf b1 n ∧ k2 = keyOf a2 n ∧ j2 = keyOf b2 n) := by
  by_cases hq : q = 0
  · obtain ⟨f1, f2, f3, f4⟩ := h.ok hq
    exact ⟨n, _, _, _, _, f1, f2, f3, f4, fun _ => ⟨rfl, rfl, rfl, rfl, rfl⟩⟩
  · obtain ⟨rfl, rfl, rfl, rfl⟩ := h.no hq
    have z := Fl.zero 64 (.inl rfl)
    exact ⟨64, 0, 0, 0, 0, z, z, z, z, fun g => absurd g hq⟩

abbrev zsp : Value := sp2 0 0
set_option maxHeartbeats 2000000 in
set_option maxRecDepth 100000 in
theorem meet_walk (a1 b1 a2 b2 n : Int) (x1 y1 x2 y2 z1 z2 : Nat) (q p1 p2 : Int) (t : Bool) (w : World)
    (KB : Hid (∀ u, Calls Tryd.prog 30 #[sp2 a1 b1, sp2 a2 b2, .int .i64 n] u fun e w' => e = .returned (.tuple #[fv2 x1 y1, fv2 x2 y2, .int .i64 q]) ∧ Kept u w'))
    (r1 : ∀ (ts : Array TypeId) (t : TypeId) (w : World), (Builtin.max_ ts t #[.float .f64 x1, .float .f64 x2]).run Tryd.prog w = .ok (.float .f64 z1) w)
    (r2 : ∀ (ts : Array TypeId) (t : TypeId) (w : World), (Builtin.min_ ts t #[.float .f64 y1, .float .f64 y2]).run Tryd.prog w = .ok (.float .f64 z2) w)
    (ht : (FloatKind.f64.format.order z1 z2 == some .gt) = t)
    (KT : Hid (q = 0 → t = false → ∀ u, Calls Tryd.prog 31 #[fv2 z1 z2, .int .i64 n, .int .i64 0] u fun e w' => e = .returned (.tuple #[sp2 p1 p2, .int .i64 0]) ∧ Kept u w')) :
    Calls Tryd.prog 16 #[sp2 a1 b1, sp2 a2 b2, .int .i64 n] w fun e w' => e = .returned (if q = 0 ∧ t = false then .tuple #[sp2 p1 p2, .bool true, .int .i64 0] else .tuple #[zsp, .bool false, .int .i64 q]) ∧ Kept w w' := by
  obtain ⟨X, hX⟩ : ∃ X, X = ((w.alloc (.cells #[.int .i64 a1, .int .i64 b1] 23)).alloc (.cells #[.int .i64 a2, .int .i64 b2] 23)).alloc (.cells #[.int .i64 0, .int .i64 0] 23) := ⟨_, rfl⟩
  have hP1 : P2 X w.heap.size (.int .i64 a1) (.int .i64 b1) := by
    rw [hX]
    exact ((P2.new w _ _ _).alloc _ _).alloc _ _
  have hP2 : P2 X (w.heap.size + 1) (.int .i64 a2) (.int .i64 b2) := by
    rw [hX]
    have := (P2.new (w.alloc (.cells #[.int .i64 a1, .int .i64 b1] 23)) (.int .i64 a2) (.int .i64 b2) 23).alloc #[.int .i64 0, .int .i64 0] 23
    simpa using this
  have hQ : P2 X (w.heap.size + 1 + 1) (.int .i64 0) (.int .i64 0) := by
    rw [hX]
    have := P2.new ((w.alloc (.cells #[.int .i64 a1, .int .i64 b1] 23)).alloc (.cells #[.int .i64 a2, .int .i64 b2] 23)) (.int .i64 0) (.int .i64 0) 23
    simpa using this
  have hK : Kept w X := by
    rw [hX]
    exact (((Kept.refl w).alloc _ _).alloc _ _).alloc _ _
  have hs : Hid (X.heap.size = w.heap.size + 3) := by rw [hX]; simp [Hid]
  obtain ⟨H1, hH1⟩ : ∃ H, H = w.heap.size + 1 := ⟨_, rfl⟩
  obtain ⟨H2, hH2⟩ : ∃ H, H = H1 + 1 := ⟨_, rfl⟩
  rw [← hH1] at hP2 hQ
  rw [← hH2] at hQ
  have o2 : w.heap.size ≤ H2 := by omega
  have hSF := sto_f
  go_enter Tryd.func16, Tryd.ntmps16
  go_upto_region 1 with fail
  rw [← hX, ← hH1, ← hH2]
  clear hX hH1 hH2 hs
  obtain ⟨p10, p11, p1f⟩ := hP1
  obtain ⟨p20, p21, p2f⟩ := hP2
  go_upto_region 2 with (first | (go_at_call 30; refine (KB.out _).mono ?_; rintro e w1 ⟨rfl, k1⟩))
  have hQ1 := hQ.kept k1
  have kw1 := hK.trans k1
  clear p10 p11 p1f p20 p21 p2f KB hK hQ k1
  go_upto_region 3 with fail
  obtain ⟨Y, hY⟩ : ∃ Y, Y = ((w1.alloc (.cells #[.float .f64 x1, .float .f64 y1] 55)).alloc (.cells #[.float .f64 x2, .float .f64 y2] 55)).alloc (.cells #[.float .f64 z1, .float .f64 z2] 55) := ⟨_, rfl⟩
  have hC : P2 Y (w1.heap.size + 1 + 1) (.float .f64 z1) (.float .f64 z2) := by
    rw [hY]
    have := P2.new ((w1.alloc (.cells #[.float .f64 x1, .float .f64 y1] 55)).alloc (.cells #[.float .f64 x2, .float .f64 y2] 55)) (.float .f64 z1) (.float .f64 z2) 55
    simpa using this
  have kY : Kept w1 Y := by
    rw [hY]
    exact (((Kept.refl w1).alloc _ _).alloc _ _).alloc _ _
  have hQY := hQ1.kept kY
  have kwY := kw1.trans kY
  obtain ⟨B3, hB3⟩ : ∃ B, B = w1.heap.size + 1 + 1 := ⟨_, rfl⟩
  rw [← hB3] at hC
  rw [← hY, ← hB3]
  clear hY hB3 kw1 kY hQ1
  obtain ⟨b0, b1', bf⟩ := hC
  by_cases hq : q = 0
  · subst hq
    cases t
    · have KT' : Hid (∀ u, Calls Tryd.prog 31 #[fv2 z1 z2, .int .i64 n, .int .i64 0] u fun e w' => e = .returned (.tuple #[sp2 p1 p2, .int .i64 0]) ∧ Kept u w') := KT.out rfl rfl
      clear KT
      go_upto_region 6 with (first | (go_at_call 31; refine (KT'.out _).mono ?_; rintro e w2 ⟨rfl, k2⟩))
      have hz := ((hQY.kept k2).alloc #[.int .i64 p1, .int .i64 p2] 23).put (.int .i64 p1) (.int .i64 p2)
      have hl := (hQY.kept k2).lt
      obtain ⟨c0, c1, cf⟩ := hQY.kept k2
      obtain ⟨d0, d1, df⟩ := hz
      clear hQY
      go_wp2_with fail
      refine bodyPost_ret (v := .tuple #[sp2 p1 p2, .bool true, .int .i64 0]) ?_ rfl ⟨by simp, ?_⟩
      · simp [results, Tryd.results16, go_sem, *]
      · (repeat' first | exact kwY.trans k2 | refine Kept.setCell ?_ ?_ _ | refine Kept.alloc ?_ _ _ | exact o2)
    · have hz := hQY.put (.int .i64 0) (.int .i64 0)
      obtain ⟨c0, c1, cf⟩ := hQY
      obtain ⟨d0, d1, df⟩ := hz
      clear KT
      go_wp2_with fail
      refine bodyPost_ret (v := .tuple #[zsp, .bool false, .int .i64 0]) ?_ rfl ⟨by simp, ?_⟩
      · simp [results, Tryd.results16, go_sem, *]
      · (repeat' first | exact kwY | refine Kept.setCell ?_ ?_ _ | exact o2)
  · have hqb : (q != 0) = true := by simpa using hq
    have hz := hQY.put (.int .i64 0) (.int .i64 0)
    obtain ⟨c0, c1, cf⟩ := hQY
    obtain ⟨d0, d1, df⟩ := hz
    clear KT
    go_wp2_with fail
    refine bodyPost_ret (v := .tuple #[zsp, .bool false, .int .i64 q]) ?_ rfl ⟨by simp [hq], ?_⟩
    · simp [results, Tryd.results16, go_sem, *]
    · (repeat' first | exact kwY | refine Kept.setCell ?_ ?_ _ | exact o2)
theorem meet_any (a1 b1 a2 b2 n : Int) (s1 : RB a1) (s2 : RB b1) (s3 : RB a2) (s4 : RB b2) (w : World) : Calls Tryd.prog 16 #[sp2 a1 b1, sp2 a2 b2, .int .i64 n] w fun e w' => e = .returned (if btE a1 b1 a2 b2 n = 0 ∧ max (keyOf a1 n) (keyOf a2 n) ≤ min (keyOf b1 n) (keyOf b2 n) then .tuple #[sp2 (pz n (max (keyOf a1 n) (keyOf a2 n))) (pz n (min (keyOf b1 n) (keyOf b2 n))), .bool true, .int .i64 0] else .tuple #[zsp, .bool false, .int .i64 (btE a1 b1 a2 b2 n)]) ∧ Kept w w' := by
  obtain ⟨x1, y1, x2, y2, q, hB, KB⟩ := both_any a1 b1 a2 b2 n s1 s2 s3 s4
  obtain ⟨m, k1, j1, k2, j2, f1, f2, f3, f4, hE⟩ := hB.fl
  obtain ⟨z1, g1, r1⟩ := run_max_lt (P := Tryd.prog) m x1 x2 k1 k2 f1 f3
  obtain ⟨z2, g2, r2⟩ := run_min_lt (P := Tryd.prog) m y1 y2 j1 j2 f2 f4
  have ho := g1.ord g2
  refine (meet_walk a1 b1 a2 b2 n x1 y1 x2 y2 z1 z2 q (pz n (max k1 k2)) (pz n (min j1 j2)) (decide (min j1 j2 < max k1 k2)) w KB r1 r2 (by rw [ho, cmp_is_gt]) (fun hq _ u => ?_)).mono ?_
  · obtain ⟨rfl, -⟩ := hE hq
    exact told_ok5 g1 g2 u
  · rintro e w' ⟨rfl, k⟩
    refine ⟨?_, k⟩
    have he := hB.err
    by_cases hq : q = 0
    · obtain ⟨-, rfl, rfl, rfl, rfl⟩ := hE hq
      rw [← he]
      subst hq
      by_cases hc : max (keyOf a1 n) (keyOf a2 n) ≤ min (keyOf b1 n) (keyOf b2 n)
      · rw [if_pos ⟨rfl, by rw [decide_eq_false_iff_not]; omega⟩, if_pos ⟨rfl, hc⟩]
      · rw [if_neg (fun h => by have := h.2; rw [decide_eq_false_iff_not] at this; omega), if_neg (fun h => hc h.2)]
    · rw [if_neg (fun h => hq h.1), if_neg (fun h => hq (he.trans h.1)), he]
end Go.Proofs.YtalhnaakbekboaaDoor

namespace Go.Proofs.YtalhnaakbekboaaDoor
open Go.ChangeShapes Go.WideShapes Go.ChangeAt Go.RowKit Ieee
set_option linter.unusedVariables false
set_option linter.unusedSimpArgs false

set_option maxHeartbeats 2000000 in
set_option maxRecDepth 100000 in
theorem join_walk (a1 b1 a2 b2 n : Int) (x1 y1 x2 y2 : Nat) (q p1 p2 : Int) (J : Nat → Nat → Prop) (w : World)
    (KB : Hid (∀ u, Calls Tryd.prog 30 #[sp2 a1 b1, sp2 a2 b2, .int .i64 n] u fun e w' => e = .returned (.tuple #[fv2 x1 y1, fv2 x2 y2, .int .i64 q]) ∧ Kept u w'))
    (KJ : Hid (∀ (u v : World) (B : Nat), B = v.heap.size → Kept (v.alloc (.cells #[.float .f64 x2, .float .f64 y2] 55)) u → Calls Tryd.prog 46 #[fv2 x1 y1, .slice (some ⟨B, 0, none⟩) 1 1] u fun e w' => ∃ x y, e = .returned (fv2 x y) ∧ J x y ∧ Kept u w'))
    (KT : Hid (∀ u x y, J x y → Calls Tryd.prog 31 #[fv2 x y, .int .i64 n, .int .i64 q] u fun e w' => e = .returned (.tuple #[sp2 p1 p2, .int .i64 q]) ∧ Kept u w')) :
    Calls Tryd.prog 20 #[sp2 a1 b1, sp2 a2 b2, .int .i64 n] w fun e w' => e = .returned (.tuple #[sp2 p1 p2, .int .i64 q]) ∧ Kept w w' := by
  obtain ⟨X, hX⟩ : ∃ X, X = ((w.alloc (.cells #[.int .i64 a1, .int .i64 b1] 23)).alloc (.cells #[.int .i64 a2, .int .i64 b2] 23)).alloc (.cells #[.int .i64 0, .int .i64 0] 23) := ⟨_, rfl⟩
  have hP1 : P2 X w.heap.size (.int .i64 a1) (.int .i64 b1) := by
    rw [hX]
    exact ((P2.new w _ _ _).alloc _ _).alloc _ _
  have hP2 : P2 X (w.heap.size + 1) (.int .i64 a2) (.int .i64 b2) := by
    rw [hX]
    have := (P2.new (w.alloc (.cells #[.int .i64 a1, .int .i64 b1] 23)) (.int .i64 a2) (.int .i64 b2) 23).alloc #[.int .i64 0, .int .i64 0] 23
    simpa using this
  have hQ : P2 X (w.heap.size + 1 + 1) (.int .i64 0) (.int .i64 0) := by
    rw [hX]
    have := P2.new ((w.alloc (.cells #[.int .i64 a1, .int .i64 b1] 23)).alloc (.cells #[.int .i64 a2, .int .i64 b2] 23)) (.int .i64 0) (.int .i64 0) 23
    simpa using this
  have hK : Kept w X := by
    rw [hX]
    exact (((Kept.refl w).alloc _ _).alloc _ _).alloc _ _
  obtain ⟨H1, hH1⟩ : ∃ H, H = w.heap.size + 1 := ⟨_, rfl⟩
  obtain ⟨H2, hH2⟩ : ∃ H, H = H1 + 1 := ⟨_, rfl⟩
  rw [← hH1] at hP2 hQ
  rw [← hH2] at hQ
  have o2 : w.heap.size ≤ H2 := by omega
  have hSF := sto_f
  go_enter Tryd.func20, Tryd.ntmps20
  go_upto_region 1 with fail
  rw [← hX, ← hH1, ← hH2]
  clear hX hH1 hH2
  obtain ⟨p10, p11, p1f⟩ := hP1
  obtain ⟨p20, p21, p2f⟩ := hP2
  go_upto_region 2 with (first | (go_at_call 30; refine (KB.out _).mono ?_; rintro e w1 ⟨rfl, k1⟩))
  have hQ1 := hQ.kept k1
  have kw1 := hK.trans k1
  clear p10 p11 p1f p20 p21 p2f KB hK hQ k1
  obtain ⟨Y, hY⟩ : ∃ Y, Y = (w1.alloc (.cells #[.float .f64 x1, .float .f64 y1] 55)).alloc (.cells #[.float .f64 x2, .float .f64 y2] 55) := ⟨_, rfl⟩
  have hC1 : P2 Y w1.heap.size (.float .f64 x1) (.float .f64 y1) := by
    rw [hY]
    exact (P2.new w1 _ _ _).alloc _ _
  have hC2 : P2 Y (w1.heap.size + 1) (.float .f64 x2) (.float .f64 y2) := by
    rw [hY]
    have := P2.new (w1.alloc (.cells #[.float .f64 x1, .float .f64 y1] 55)) (.float .f64 x2) (.float .f64 y2) 55
    simpa using this
  have kY : Kept w1 Y := by
    rw [hY]
    exact ((Kept.refl w1).alloc _ _).alloc _ _
  have hQY := hQ1.kept kY
  have kwY := kw1.trans kY
  rw [← hY]
  clear hY kw1 kY hQ1
  obtain ⟨b0, b1', bf⟩ := hC1
  obtain ⟨c0, c1, cf⟩ := hC2
  go_wp2_with (first | (go_at_call 46; refine (KJ.out _ _ _ rfl (Kept.refl _)).mono ?_; rintro e w2 ⟨x, y, rfl, hJ, k2⟩) | (go_at_call 31; refine (KT.out _ _ _ hJ).mono ?_; rintro e w3 ⟨rfl, k3⟩; have k4 := ((Kept.refl Y).alloc _ _).trans (k2.trans k3); have hz := (hQY.kept k4).put (.int .i64 p1) (.int .i64 p2); obtain ⟨d0, d1, df⟩ := hQY.kept k4; obtain ⟨e0, e1, ef⟩ := hz))
  refine bodyPost_ret (v := .tuple #[sp2 p1 p2, .int .i64 q]) ?_ rfl ⟨rfl, ?_⟩
  · simp [results, Tryd.results20, go_sem, *]
  · (repeat' first | exact kwY.trans k4 | refine Kept.setCell ?_ ?_ _ | exact o2)
theorem join5_any (a1 b1 a2 b2 n : Int) (s1 : RB a1) (s2 : RB b1) (s3 : RB a2) (s4 : RB b2) (w : World) : Calls Tryd.prog 20 #[sp2 a1 b1, sp2 a2 b2, .int .i64 n] w fun e w' => e = .returned (if btE a1 b1 a2 b2 n = 0 then .tuple #[sp2 (pz n (min (keyOf a1 n) (keyOf a2 n))) (pz n (max (keyOf b1 n) (keyOf b2 n))), .int .i64 0] else .tuple #[zsp, .int .i64 (btE a1 b1 a2 b2 n)]) ∧ Kept w w' := by
  obtain ⟨x1, y1, x2, y2, q, hB, KB⟩ := both_any a1 b1 a2 b2 n s1 s2 s3 s4
  obtain ⟨m, k1, j1, k2, j2, f1, f2, f3, f4, hE⟩ := hB.fl
  have KJ : Hid (∀ (u v : World) (B : Nat), B = v.heap.size → Kept (v.alloc (.cells #[.float .f64 x2, .float .f64 y2] 55)) u → Calls Tryd.prog 46 #[fv2 x1 y1, .slice (some ⟨B, 0, none⟩) 1 1] u fun e w' => ∃ x y, e = .returned (fv2 x y) ∧ (Fl m x (min k1 k2) ∧ Fl m y (max j1 j2)) ∧ Kept u w') := fun u v B hB k => by
    subst hB
    refine (joined_any m x1 y1 k1 j1 f1 f2 1 (by decide) (fun _ => x2) (fun _ => y2) (fun _ => k2) (fun _ => j2) (fun _ _ => ⟨f3, f4⟩) _ _ u (ivs_one k)).mono ?_
    rintro e w' ⟨x, y, rfl, h1, h2, k'⟩
    exact ⟨x, y, rfl, ⟨h1, h2⟩, k'⟩
  have he := hB.err
  by_cases hq : q = 0
  · subst hq
    obtain ⟨rfl, rfl, rfl, rfl, rfl⟩ := hE rfl
    rw [← he, if_pos rfl]
    exact join_walk a1 b1 a2 b2 _ x1 y1 x2 y2 0 _ _ _ w KB KJ (fun u x y h => told_ok5 h.1 h.2 u)
  · rw [← he, if_neg hq]
    exact join_walk a1 b1 a2 b2 _ x1 y1 x2 y2 q 0 0 _ w KB KJ (fun u x y h => told_err5 x y n q (by simpa using hq) u)

set_option maxHeartbeats 2000000 in
set_option maxRecDepth 100000 in
theorem holds5_walk (lo hi b n : Int) (x y f : Nat) (q r : Int) (hr06 : q = 0 → r = 0 ∨ r = 6) (t : Bool) (w : World)
    (KO : Hid (∀ u, Calls Tryd.prog 42 #[sp2 lo hi, .int .i64 n] u fun e w' => e = .returned (.tuple #[fv2 x y, .int .i64 q]) ∧ Kept u w'))
    (KN : Hid (∀ u, Calls Tryd.prog 45 #[.int .i64 b, .int .i64 n] u fun e w' => e = .returned (.tuple #[.float .f64 f, .int .i64 r]) ∧ Kept u w'))
    (KP : Hid (∀ u, Calls Tryd.prog 40 #[.float .f64 f] u fun e w' => e = .returned (fv2 f f) ∧ Kept u w'))
    (KH : Hid (q = 0 → r = 0 → ∀ u, Calls Tryd.prog 39 #[fv2 x y, fv2 f f] u fun e w' => e = .returned (.bool t) ∧ Kept u w')) :
    Calls Tryd.prog 19 #[sp2 lo hi, .int .i64 b, .int .i64 n] w fun e w' => e = .returned (.tuple #[.bool (decide (q = 0) && decide (r = 0) && t), .int .i64 (if q = 0 then r else q)]) ∧ Kept w w' := by
  have hSF := sto_f
  by_cases hq : q = 0
  · have hr := hr06 hq
    have KH2 := KH.out hq
    clear hr06 KH
    subst hq
    rw [if_pos rfl]
    have KH : Hid (r = 0 → ∀ u, Calls Tryd.prog 39 #[fv2 x y, fv2 f f] u fun e w' => e = .returned (.bool t) ∧ Kept u w') := KH2
    clear KH2
    have HR : Hid (r = 0 ∨ r = 6) := hr
    clear hr
    go_enter Tryd.func19, Tryd.ntmps19
    go_upto_region 5 with (first | (go_at_call 42; refine (KO.out _).mono ?_; rintro e w1 ⟨rfl, k1⟩) | (go_at_call 45; refine (KN.out _).mono ?_; rintro e w2 ⟨rfl, k2⟩))
    have kw : Kept w w2 := ((((Kept.refl w).alloc _ _).trans k1).alloc _ _).trans k2
    have hC := P2.newk k2
    have hd0 : Kept w2 w2.drew := (Kept.refl _).drew
    obtain ⟨B, hB⟩ : ∃ B, B = w1.heap.size := ⟨_, rfl⟩
    rw [← hB] at hC ⊢
    clear hB k1 KO KN
    have HS : Hid (∀ u, Kept w2 u → Kept w2 u ∧ u.cell? ⟨B, 0, none⟩ = some (.float .f64 x) ∧ u.cell? ⟨B, 1, none⟩ = some (.float .f64 y)) := fun u k => ⟨k, (hC.kept k).c0, (hC.kept k).c1⟩
    have KP' : Hid (∀ u, Kept w2 u → Calls Tryd.prog 40 #[.float .f64 f] u fun e w' => e = .returned (fv2 f f) ∧ Kept w2 w') := fun u k => by
      refine (KP.out u).mono ?_
      rintro e w' ⟨rfl, k'⟩
      exact ⟨rfl, k.trans k'⟩
    rcases HR.out with rfl | rfl
    · have KH' : Hid (∀ u, Kept w2 u → Calls Tryd.prog 39 #[fv2 x y, fv2 f f] u fun e w' => e = .returned (.bool t) ∧ Kept w2 w') := fun u k => by
        refine (KH.out (by trivial) u).mono ?_
        rintro e w' ⟨rfl, k'⟩
        exact ⟨rfl, k.trans k'⟩
      clear KH KP
      go_region_held (fun u => Kept w2 u ∧ u.cell? ⟨B, 0, none⟩ = some (.float .f64 x) ∧ u.cell? ⟨B, 1, none⟩ = some (.float .f64 y)) (first | assumption | exact HS.out _ hd0 | exact HS.out _ (by assumption)) (first | (go_at_call 40; refine (KP'.out _ (by assumption)).mono ?_; rintro e w3 ⟨rfl, k3⟩) | (go_at_call 39; refine (KH'.out _ (by assumption)).mono ?_; rintro e w4 ⟨rfl, k4⟩))
      go_wp2_with fail
      exact bodyPost_ret (v := .tuple #[.bool t, .int .i64 0]) (by simp [results, Tryd.results19, go_sem]) rfl ⟨by simp, kw.trans k4⟩
    · clear KH KP
      go_quiet (fail)
      go_wp2_with fail
      exact bodyPost_ret (v := .tuple #[.bool false, .int .i64 6]) (by simp [results, Tryd.results19, go_sem]) rfl ⟨by simp, by first | exact kw.trans hd0 | exact kw.drewN _ | exact kw⟩
  · have hqb : (q != 0) = true := by simpa using hq
    rw [if_neg hq, decide_eq_false hq]
    go_enter Tryd.func19, Tryd.ntmps19
    go_wp2_with (first | (go_at_call 42; refine (KO.out _).mono ?_; rintro e w1 ⟨rfl, k1⟩))
    exact bodyPost_ret (v := .tuple #[.bool false, .int .i64 q]) (by simp [results, Tryd.results19, go_sem]) rfl ⟨rfl, (((Kept.refl w).alloc _ _).trans k1).alloc _ _⟩
theorem holds5_any (lo hi b n : Int) (s1 : RB lo) (s2 : RB hi) (s3 : RB b) (w : World) : Calls Tryd.prog 19 #[sp2 lo hi, .int .i64 b, .int .i64 n] w fun e w' => e = .returned (.tuple #[.bool (vsp lo hi n && fin b n && decide (keyOf lo n ≤ keyOf b n ∧ keyOf b n ≤ keyOf hi n)), .int .i64 (if opE lo hi n = 0 then nmE b n else opE lo hi n)]) ∧ Kept w w' := by
  obtain ⟨x, y, hf, g1, -⟩ := opV_form lo hi n
  have KO : Hid (∀ u, Calls Tryd.prog 42 #[sp2 lo hi, .int .i64 n] u fun e w' => e = .returned (.tuple #[fv2 x y, .int .i64 (opE lo hi n)]) ∧ Kept u w') := fun u => by
    rw [← hf]
    exact opened_any lo hi n s1 s2 u
  refine (holds5_walk lo hi b n x y (nmF b n) (opE lo hi n) (nmE b n) (fun hq => by
    obtain ⟨i1, -⟩ := vsp_num _ _ _ ((opE_zero _ _ _).1 hq)
    unfold nmE
    rw [if_pos (isnum_wid _ _ i1)]
    split <;> simp) (decide (keyOf lo n ≤ keyOf b n ∧ keyOf b n ≤ keyOf hi n)) w KO (fun u => number_any b n s3 u) (fun u => point_any _ u) (fun hq hr u => ?_)).mono ?_
  · have hv := (opE_zero _ _ _).1 hq
    obtain ⟨i1, i2, -⟩ := vsp_num _ _ _ hv
    have hn := isnum_wid _ _ i1
    have hfin : fin b n = true := by
      unfold nmE at hr
      rw [if_pos hn] at hr
      split at hr
      · assumption
      · cases hr
    have hib : isnum b n = true := by
      unfold fin at hfin
      unfold isnum
      rw [decide_eq_true_eq] at hfin ⊢
      exact ⟨hn, by omega⟩
    have e : nmF b n = flv b n := by unfold nmF; rw [if_pos hfin]
    rw [e, (g1 hv).1, (g1 hv).2]
    have f := Fl.flv hib s3.1 s3.2
    exact holds_any n _ _ _ _ _ _ _ _ (Fl.flv i1 s1.1 s1.2) (Fl.flv i2 s2.1 s2.2) f f u
  · rintro e w' ⟨rfl, k⟩
    refine ⟨?_, k⟩
    have e1 : decide (opE lo hi n = 0) = vsp lo hi n := by
      rw [Bool.eq_iff_iff, decide_eq_true_eq]
      exact opE_zero _ _ _
    have e2 : vsp lo hi n = true → decide (nmE b n = 0) = fin b n := fun hv => by
      obtain ⟨i1, -⟩ := vsp_num _ _ _ hv
      unfold nmE
      rw [if_pos (isnum_wid _ _ i1)]
      cases fin b n <;> simp
    rw [e1]
    by_cases hv : vsp lo hi n = true
    · rw [e2 hv]
    · have : vsp lo hi n = false := by simpa using hv
      rw [this]
      simp
end Go.Proofs.YtalhnaakbekboaaDoor
