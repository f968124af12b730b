/- The document's Both: shapes that fit. -/
import Derived.Test.YtckcfdkffjkkbaaT9
import Derived.Deep.CutRange
namespace Go.Proofs.Ytckcfdkffjkkbaa
open Go.ChangeShapes Go.WideShapes Go.ChangeAt Go.RowKit
set_option linter.unusedVariables false
set_option linter.unusedSimpArgs false

set_option maxHeartbeats 20000000 in
set_option maxRecDepth 100000 in
theorem rboth_ok (ra ca na rb cb mr mc q : Int) (V : Value) (w : World) (i1 : ¬ ra < 1) (i2 : ¬ ca < 1) (i3 : ¬ rb < 1) (i4 : ¬ cb < 1)
    (X3 : ((ra != rb) = false) ∨ ((ra != rb) = true ∧ (ra != 1) = false) ∨ ((ra != rb) = true ∧ (ra != 1) = true ∧ (rb != 1) = false))
    (Y3 : ((ca != cb) = false) ∨ ((ca != cb) = true ∧ (ca != 1) = false) ∨ ((ca != cb) = true ∧ (ca != 1) = true ∧ (cb != 1) = false))
    (KV' : Hid (∀ u, Calls Try.prog 53 #[.int .i64 na] u fun e w' => e = .returned (.bool true) ∧ u = w'))
    (KG1 : Hid (∀ u, Calls Try.prog 61 #[.int .i64 ra, .int .i64 rb] u fun e w' => e = .returned (.int .i64 mr) ∧ u = w'))
    (KG2 : Hid (∀ u, Calls Try.prog 61 #[.int .i64 ca, .int .i64 cb] u fun e w' => e = .returned (.int .i64 mc) ∧ u = w'))
    (KZ : Hid (∀ u, Calls Try.prog 20 #[.int .i64 mr, .int .i64 mc, .int .i64 na] u fun e w' => e = .returned (.int .i64 q) ∧ u = w'))
    (HV : Hid (V = if q = 0 then .agg #[.int .i64 mr, .int .i64 mc, .int .i64 na] else zeroShape)) :
    Calls Try.prog 28 #[.agg #[.int .i64 ra, .int .i64 ca, .int .i64 na], .agg #[.int .i64 rb, .int .i64 cb, .int .i64 na]] w fun e w' => e = .returned (.tuple #[V, .int .i64 q]) ∧ Kept w w' := by
  obtain ⟨hA, hB, hR, hF, hK, hs⟩ := b2_facts w ra ca na rb cb na
  obtain ⟨X, hX⟩ : ∃ X, X = b2W w ra ca na rb cb na := ⟨_, rfl⟩
  rw [← hX] at hA hB hR hF hK hs
  unfold b2W at hX
  have g32 : (na != na) = false := by simp
  have HX3 : Hid _ := X3
  have HY3 : Hid _ := Y3
  clear X3 Y3
  go_enter Try.func28, Try.ntmps28
  go_upto_region 1 with fail
  rw [← hX]
  clear hX
  have hA' := hA
  have hB' := hB
  obtain ⟨a0, a1, a2⟩ := hA'
  obtain ⟨b0, b1, b2⟩ := hB'
  go_upto_region 4 with (first | (go_at_call 53; refine (KV'.out _).mono ?_; rintro e w1 ⟨rfl, rfl⟩))
  go_cut [73] from 22 to 73 (fun t wx => t = .bool false ∧ wx = X)
  case first =>
    rcases HX3.out with e1 | ⟨e1, e2⟩ | ⟨e1, e2, e3⟩
    all_goals rcases HY3.out with d1 | ⟨d1, d2⟩ | ⟨d1, d2, d3⟩
    all_goals
      clear HX3 HY3
      go_wp2_with fail
      go_meet
      exact ⟨by first | rfl | simp [i1, i2, i3, i4], rfl⟩
  case rest =>
    obtain ⟨rfl, hwc⟩ := hcut
    obtain rfl : X = wc := hwc.symm
    clear HX3 HY3 i1 i2 i3 i4 g32
    go_upto_region 6 with fail
    go_cut [7] from 75 to 87 (fun t wx => t = .pointer (some ⟨w.heap.size + 3, 0, none⟩) ∧ wx = X.drew.alloc (.cells #[.int .i64 mr, .int .i64 mc, .int .i64 na] 44))
    case first =>
      go_region_held (fun u => (u.cell? ⟨w.heap.size, 0, none⟩ = some (.int .i64 ra) ∧ u.cell? ⟨w.heap.size, 1, none⟩ = some (.int .i64 ca) ∧ u.cell? ⟨w.heap.size, 2, none⟩ = some (.int .i64 na)) ∧ u.cell? ⟨w.heap.size + 1, 0, none⟩ = some (.int .i64 rb) ∧ u.cell? ⟨w.heap.size + 1, 1, none⟩ = some (.int .i64 cb)) (first | exact ⟨⟨a0, a1, a2⟩, b0, b1⟩ | assumption | go_keep) (first | (go_at_call_of 61 (Value.int IntKind.i64 ra); refine (KG1.out _).mono ?_; rintro e w3 ⟨rfl, rfl⟩) | (go_at_call_of 61 (Value.int IntKind.i64 ca); refine (KG2.out _).mono ?_; rintro e w3 ⟨rfl, rfl⟩))
      all_goals
        go_wp2_with fail
        go_meet
        exact ⟨rfl, rfl⟩
    case rest =>
      obtain ⟨rfl, hwz⟩ := hcut
      obtain ⟨Z, hZ⟩ : ∃ Z, Z = X.drew.alloc (.cells #[.int .i64 mr, .int .i64 mc, .int .i64 na] 44) := ⟨_, rfl⟩
      rw [← hZ] at hwz
      obtain rfl := hwz
      have hKZ : Kept X wc := by rw [hZ]; exact (Kept.refl X).drew.alloc _ _
      have hSZ : M3 wc (w.heap.size + 3) (.int .i64 mr) (.int .i64 mc) (.int .i64 na) := by
        have := M3.new X.drew (.int .i64 mr) (.int .i64 mc) (.int .i64 na) 44
        rw [show X.drew.heap.size = w.heap.size + 3 from hs] at this
        rw [hZ]
        exact this
      have hRZ := hR.bl hKZ.bl
      have hFZ : ∀ o, wc.frozen? ⟨w.heap.size + 2, o, none⟩ = false := fun o => (hKZ.frozen _).trans (hF o)
      have hKw := hK.trans hKZ
      clear hZ hKZ a0 a1 a2 b0 b1 b2 hA hB KG1 KG2 KV'
      obtain ⟨s0, s1, s2⟩ := hSZ
      by_cases hq : q = 0
      · have hV := HV.out
        rw [if_pos hq] at hV
        subst hq hV
        obtain ⟨p0, p1, p2⟩ := M3.put wc _ _ _ _ hRZ (.int .i64 mr) (.int .i64 mc) (.int .i64 na)
        obtain ⟨r0, r1, r2⟩ := hRZ
        go_wp2_with (first | (go_at_call 20; refine (KZ.out _).mono ?_; rintro e w5 ⟨rfl, rfl⟩))
        exact bodyPost_ret (v := .tuple #[.agg #[.int .i64 mr, .int .i64 mc, .int .i64 na], .int .i64 0]) (by simp [results, Try.results28, go_sem, *]) rfl ⟨rfl, hKw.setCell (by simp; omega) _ |>.setCell (by simp; omega) _ |>.setCell (by simp; omega) _⟩
      · have hV := HV.out
        rw [if_neg hq] at hV
        subst hV
        have hqb : (q != 0) = true := by simpa using hq
        obtain ⟨p0, p1, p2⟩ := M3.put wc _ _ _ _ hRZ (.int .i64 0) (.int .i64 0) (.int .i64 0)
        obtain ⟨r0, r1, r2⟩ := hRZ
        go_wp2_with (first | (go_at_call 20; refine (KZ.out _).mono ?_; rintro e w5 ⟨rfl, rfl⟩))
        exact bodyPost_ret (v := .tuple #[zeroShape, .int .i64 q]) (by simp [results, Try.results28, go_sem, *]) rfl ⟨rfl, hKw.setCell (by simp; omega) _ |>.setCell (by simp; omega) _ |>.setCell (by simp; omega) _⟩
end Go.Proofs.Ytckcfdkffjkkbaa
