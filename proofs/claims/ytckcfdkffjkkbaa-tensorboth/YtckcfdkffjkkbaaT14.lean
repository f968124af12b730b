/- The document's Both at every input; the walk of TensorBoth. -/
import Derived.Test.YtckcfdkffjkkbaaT9a
import Derived.Test.YtckcfdkffjkkbaaT9b
import Derived.Test.YtckcfdkffjkkbaaT6
namespace Go.Proofs.Ytckcfdkffjkkbaa
open Go.ChangeShapes Go.WideShapes Go.ChangeAt Go.RowKit
set_option linter.unusedVariables false
set_option linter.unusedSimpArgs false

set_option maxHeartbeats 4000000 in
set_option maxRecDepth 100000 in
theorem rboth_any (ra ca na rb cb nb : Int) (w : World) : Calls Try.prog 28 #[.agg #[.int .i64 ra, .int .i64 ca, .int .i64 na], .agg #[.int .i64 rb, .int .i64 cb, .int .i64 nb]] w fun e w' => e = .returned (.tuple #[bthV ra ca na rb cb nb, .int .i64 (bthE ra ca na rb cb nb)]) ∧ Kept w w' := by
  obtain ⟨hA, hB, hR, hF, hK, hs⟩ := b2_facts w ra ca na rb cb nb
  have KV : Hid (∀ u, Calls Try.prog 53 #[.int .i64 na] u fun e w' => e = .returned (.bool (decide (na = 64 ∨ na = 32))) ∧ u = w') := fun u => width_any na u
  by_cases h3 : ¬ (na = 64 ∨ na = 32) ∨ na ≠ nb
  · have hE : bthE ra ca na rb cb nb = 3 := by unfold bthE; rw [if_pos h3]
    have hV : bthV ra ca na rb cb nb = zeroShape := by unfold bthV; rw [if_neg (by rw [hE]; decide)]
    rw [hE, hV]
    obtain ⟨X, hX⟩ : ∃ X, X = b2W w ra ca na rb cb nb := ⟨_, rfl⟩
    rw [← hX] at hA hB hR hF hK hs
    have P0 := M3.put X _ _ _ _ hR (.int .i64 0) (.int .i64 0) (.int .i64 0)
    have hK0 := (hK.setCell (p := ⟨w.heap.size + 2, 0, none⟩) (by simp) (.int .i64 0)).setCell (p := ⟨w.heap.size + 2, 1, none⟩) (by simp) (.int .i64 0) |>.setCell (p := ⟨w.heap.size + 2, 2, none⟩) (by simp) (.int .i64 0)
    unfold b2W at hX
    by_cases h31 : na = 64 ∨ na = 32
    · have h32 : (na != nb) = true := by simp; omega
      have KV' : Hid (∀ u, Calls Try.prog 53 #[.int .i64 na] u fun e w' => e = .returned (.bool true) ∧ u = w') := fun u => by have := KV.out u; rw [decide_eq_true h31] at this; exact this
      clear KV h3 hE hV h31
      go_enter Try.func28, Try.ntmps28
      go_upto_region 1 with fail
      rw [← hX]
      clear hX
      obtain ⟨a0, a1, a2⟩ := hA
      obtain ⟨b0, b1, b2⟩ := hB
      obtain ⟨r0, r1, r2⟩ := hR
      obtain ⟨p0, p1, p2⟩ := P0
      go_wp2_with (first | (go_at_call 53; refine (KV'.out _).mono ?_; rintro e w1 ⟨rfl, rfl⟩))
      exact bodyPost_ret (v := .tuple #[zeroShape, .int .i64 3]) (by simp [results, Try.results28, go_sem, *]) rfl ⟨rfl, hK0⟩
    · have KV' : Hid (∀ u, Calls Try.prog 53 #[.int .i64 na] u fun e w' => e = .returned (.bool false) ∧ u = w') := fun u => by have := KV.out u; rw [decide_eq_false h31] at this; exact this
      clear KV h3 hE hV h31
      go_enter Try.func28, Try.ntmps28
      go_upto_region 1 with fail
      rw [← hX]
      clear hX
      obtain ⟨a0, a1, a2⟩ := hA
      obtain ⟨b0, b1, b2⟩ := hB
      obtain ⟨r0, r1, r2⟩ := hR
      obtain ⟨p0, p1, p2⟩ := P0
      go_wp2_with (first | (go_at_call 53; refine (KV'.out _).mono ?_; rintro e w1 ⟨rfl, rfl⟩))
      exact bodyPost_ret (v := .tuple #[zeroShape, .int .i64 3]) (by simp [results, Try.results28, go_sem, *]) rfl ⟨rfl, hK0⟩
  · have h31 : na = 64 ∨ na = 32 := by omega
    have h32 : na = nb := by omega
    subst h32
    have KV' : Hid (∀ u, Calls Try.prog 53 #[.int .i64 na] u fun e w' => e = .returned (.bool true) ∧ u = w') := fun u => by have := KV.out u; rw [decide_eq_true h31] at this; exact this
    by_cases h4 : shr ra rb ∧ shr ca cb
    · have hE : bthE ra ca na rb cb na = ckR (max ra rb) (max ca cb) := by unfold bthE; rw [if_neg h3, if_neg (fun k => k h4)]
      obtain ⟨x1, x2, x3⟩ := h4.1
      obtain ⟨y1, y2, y3⟩ := h4.2
      refine rboth_ok ra ca na rb cb (max ra rb) (max ca cb) (bthE ra ca na rb cb na) (bthV ra ca na rb cb na) w (by omega) (by omega) (by omega) (by omega) ?_ ?_ KV' (fun u => greater_any ra rb u) (fun u => greater_any ca cb u) (fun u => ?_) rfl
      · simp only [bne_iff_ne, bne_eq_false_iff_eq, ne_eq]
        omega
      · simp only [bne_iff_ne, bne_eq_false_iff_eq, ne_eq]
        omega
      · have := sized_any (max ra rb) (max ca cb) na u
        rw [bth_sized ra ca na rb cb h31 h4, ← hE] at this
        exact this
    · have hE : bthE ra ca na rb cb na = 4 := by unfold bthE; rw [if_neg h3, if_pos h4]
      have hV : bthV ra ca na rb cb na = zeroShape := by unfold bthV; rw [if_neg (by rw [hE]; decide)]
      rw [hE, hV]
      refine rboth_bad ra ca na rb cb w ?_ KV'
      simp only [bne_iff_ne, bne_eq_false_iff_eq, ne_eq]
      unfold shr at h4
      omega

abbrev lbW (w : World) (ra ca na rb cb nb : Int) : World := (w.alloc (.cells #[.int .i64 ra, .int .i64 ca, .int .i64 na] 44)).alloc (.cells #[.int .i64 rb, .int .i64 cb, .int .i64 nb] 44)

set_option maxHeartbeats 4000000 in
set_option maxRecDepth 100000 in
theorem tensorBoth_true (ra ca na rb cb nb : Int) (w : World) : Calls Try.prog 6 #[.agg #[.int .i64 ra, .int .i64 ca, .int .i64 na], .agg #[.int .i64 rb, .int .i64 cb, .int .i64 nb]] w fun e w' => e = .returned (.bool true) ∧ Below w.heap.size w w' := by
  have KA : Hid (∀ u, Calls Try.prog 9 #[] u fun e w' => e = .returned (.bool true) ∧ Bl u w') := fun u => alive_true u
  obtain ⟨V, hV, x, y, z, hV3⟩ : ∃ V, bthV ra ca na rb cb nb = V ∧ ∃ x y z, V = .agg #[.int .i64 x, .int .i64 y, .int .i64 z] := by
    refine ⟨_, rfl, ?_⟩
    unfold bthV
    split
    · exact ⟨_, _, _, rfl⟩
    · exact ⟨_, _, _, rfl⟩
  subst hV3
  have KB : Hid (∀ u, Calls Try.prog 27 #[.agg #[.int .i64 ra, .int .i64 ca, .int .i64 na], .agg #[.int .i64 rb, .int .i64 cb, .int .i64 nb]] u fun e w' => e = .returned (.tuple #[.agg #[.int .i64 x, .int .i64 y, .int .i64 z], .int .i64 (bthE ra ca na rb cb nb)]) ∧ Kept u w') := fun u => by have := both_any ra ca na rb cb nb u; rw [hV] at this; exact this
  have KR : Hid (∀ u, Calls Try.prog 28 #[.agg #[.int .i64 ra, .int .i64 ca, .int .i64 na], .agg #[.int .i64 rb, .int .i64 cb, .int .i64 nb]] u fun e w' => e = .returned (.tuple #[.agg #[.int .i64 x, .int .i64 y, .int .i64 z], .int .i64 (bthE ra ca na rb cb nb)]) ∧ Kept u w') := fun u => by have := rboth_any ra ca na rb cb nb u; rw [hV] at this; exact this
  have KN : Hid (∀ u, Calls Try.prog 16 #[.int .i64 (bthE ra ca na rb cb nb)] u fun e w' => e = .returned (.int .i64 (bthE ra ca na rb cb nb)) ∧ u = w') := fun u => num_any _ u
  generalize bthE ra ca na rb cb nb = q at *
  obtain ⟨X, hX⟩ : ∃ X, X = lbW w ra ca na rb cb nb := ⟨_, rfl⟩
  have hK : Kept w X := by rw [hX]; exact ((Kept.refl w).alloc _ _).alloc _ _
  have hA : M3 X w.heap.size (.int .i64 ra) (.int .i64 ca) (.int .i64 na) := by rw [hX]; exact ⟨by simp [go_sem], by simp [go_sem], by simp [go_sem]⟩
  have hB : M3 X (w.heap.size + 1) (.int .i64 rb) (.int .i64 cb) (.int .i64 nb) := by rw [hX]; exact ⟨by simp [go_sem], by simp [go_sem], by simp [go_sem]⟩
  unfold lbW at hX
  have e1 : (x == x) = true := by simp
  have e2 : (y == y) = true := by simp
  have e3 : (z == z) = true := by simp
  have e4 : (q == q) = true := by simp
  clear hV
  go_enter Try.func6, Try.ntmps6
  go_upto_region 1 with fail
  rw [← hX]
  clear hX
  go_upto_region 2 with (first | (go_at_call 9; refine (KA.out _).mono ?_; rintro e w1 ⟨rfl, k1⟩))
  have hA1 := hA.bl k1
  have hB1 := hB.bl k1
  have hA1' := hA1
  have hB1' := hB1
  obtain ⟨a0, a1, a2⟩ := hA1'
  obtain ⟨b0, b1, b2⟩ := hB1'
  go_upto_region 3 with (first | (go_at_call 27; refine (KB.out _).mono ?_; rintro e w2 ⟨rfl, k2⟩))
  clear a0 a1 a2 b0 b1 b2
  obtain ⟨Y, hY⟩ : ∃ Y, Y = w2.alloc (.cells #[.int .i64 x, .int .i64 y, .int .i64 z] 44) := ⟨_, rfl⟩
  have hKY : Kept w1 Y := by rw [hY]; exact k2.alloc _ _
  have hC : M3 Y w2.heap.size (.int .i64 x) (.int .i64 y) (.int .i64 z) := by rw [hY]; exact M3.new _ _ _ _ _
  rw [← hY]
  clear hY
  obtain ⟨a0, a1, a2⟩ := hA1.bl hKY.bl
  obtain ⟨b0, b1, b2⟩ := hB1.bl hKY.bl
  go_upto_region 4 with (first | (go_at_call 28; refine (KR.out _).mono ?_; rintro e w3 ⟨rfl, k3⟩))
  have hC3 := hC.bl (k3.bl.alloc (.cells #[.int .i64 x, .int .i64 y, .int .i64 z] 44))
  have hD := M3.new w3 (.int .i64 x) (.int .i64 y) (.int .i64 z) 44
  have hZ : Bl w (w3.alloc (.cells #[.int .i64 x, .int .i64 y, .int .i64 z] 44)) := (hK.bl.trans (k1.trans (hKY.bl.trans k3.bl))).alloc _
  clear a0 a1 a2 b0 b1 b2
  generalize w3.alloc (.cells #[.int .i64 x, .int .i64 y, .int .i64 z] 44) = Z at *
  obtain ⟨c0, c1, c2⟩ := hC3
  obtain ⟨d0, d1, d2⟩ := hD
  go_wp2_with (first | (go_at_call 16; refine (KN.out _).mono ?_; rintro e w5 ⟨rfl, rfl⟩))
  go_ret
  exact ⟨rfl, hZ.below⟩
end Go.Proofs.Ytckcfdkffjkkbaa
