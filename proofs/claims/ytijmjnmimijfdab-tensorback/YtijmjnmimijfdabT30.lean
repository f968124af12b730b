/- Stretch of package tensor: what stretches, the shape that comes out; where it refuses. -/
import Derived.Test.YtijmjnmimijfdabTE
import Derived.Test.YtijmjnmimijfdabT8
namespace Go.Proofs.Ytijmjnmimijfdab
open Go.ChangeShapes Go.WideShapes Go.ChangeAt Go.RowKit
set_option linter.unusedVariables false
set_option linter.unusedSimpArgs false

abbrev stq (f t : Int) : Prop := t = f ∨ (f = 1 ∧ 1 ≤ t)

set_option maxHeartbeats 1000000 in
theorem stretches_any (f t : Int) (w : World) : Calls Try.prog 68 #[.int .i64 f, .int .i64 t] w fun e w' => e = .returned (.bool (decide (stq f t))) ∧ w = w' := by
  by_cases h1 : t = f
  · have hs : decide (stq f t) = true := decide_eq_true (.inl h1)
    rw [hs]
    have h1' : (t == f) = true := by simpa using h1
    clear hs h1
    go_enter Try.func68, Try.ntmps68
    go_wp2
    go_ret
    exact ⟨rfl, rfl⟩
  · have h1' : (t == f) = false := by simpa using h1
    by_cases h2 : f = 1
    · subst h2
      by_cases h3 : 1 ≤ t
      · have hs : decide (stq 1 t) = true := decide_eq_true (.inr ⟨rfl, h3⟩)
        rw [hs]
        clear hs h1
        go_enter Try.func68, Try.ntmps68
        go_wp2
        go_ret
        exact ⟨rfl, rfl⟩
      · have hs : decide (stq 1 t) = false := decide_eq_false (by omega)
        rw [hs]
        clear hs h1
        go_enter Try.func68, Try.ntmps68
        go_wp2
        go_ret
        exact ⟨rfl, rfl⟩
    · have h2' : (f == 1) = false := by simpa using h2
      have hs : decide (stq f t) = false := decide_eq_false (by omega)
      rw [hs]
      clear hs h1
      go_enter Try.func68, Try.ntmps68
      go_wp2
      go_ret
      exact ⟨rfl, rfl⟩

/-- The error of a stretch. -/
def strE (r c rs cs : Int) : Int := if ¬ (stq r rs ∧ stq c cs) then 4 else ckR rs cs

set_option maxHeartbeats 2000000 in
set_option maxRecDepth 100000 in
theorem stretched_any (r c n rs cs : Int) (hc : 1 ≤ c) (w : World) : Calls Try.prog 50 #[.agg #[.int .i64 r, .int .i64 c, .int .i64 n], .int .i64 rs, .int .i64 cs] w fun e w' => e = .returned (.tuple #[if strE r c rs cs = 0 then .agg #[.int .i64 rs, .int .i64 cs, .int .i64 n] else zeroShape, .int .i64 (strE r c rs cs)]) ∧ Kept w w' := by
  obtain ⟨X, hX⟩ : ∃ X, X = (w.alloc (.cells #[.int .i64 r, .int .i64 c, .int .i64 n] 50)).alloc (.cells #[.int .i64 0, .int .i64 0, .int .i64 0] 50) := ⟨_, rfl⟩
  have hK : Kept w X := by rw [hX]; exact ((Kept.refl w).alloc _ _).alloc _ _
  have hA : M3 X w.heap.size (.int .i64 r) (.int .i64 c) (.int .i64 n) := by rw [hX]; exact ⟨by simp [go_sem], by simp [go_sem], by simp [go_sem]⟩
  have hR : M3 X (w.heap.size + 1) (.int .i64 0) (.int .i64 0) (.int .i64 0) := by rw [hX]; exact ⟨by simp [go_sem], by simp [go_sem], by simp [go_sem]⟩
  have hF : ∀ o, X.frozen? ⟨w.heap.size + 1, o, none⟩ = false := fun o => by rw [hX]; simp [go_sem]
  have KS1 : Hid (∀ u, Calls Try.prog 68 #[.int .i64 r, .int .i64 rs] u fun e w' => e = .returned (.bool (decide (stq r rs))) ∧ u = w') := fun u => stretches_any r rs u
  have KS2 : Hid (∀ u, Calls Try.prog 68 #[.int .i64 c, .int .i64 cs] u fun e w' => e = .returned (.bool (decide (stq c cs))) ∧ u = w') := fun u => stretches_any c cs u
  have P0 := M3.put X _ _ _ _ hR (.int .i64 0) (.int .i64 0) (.int .i64 0)
  have hK0 := (hK.setCell (p := ⟨w.heap.size + 1, 0, none⟩) (by simp) (.int .i64 0)).setCell (p := ⟨w.heap.size + 1, 1, none⟩) (by simp) (.int .i64 0) |>.setCell (p := ⟨w.heap.size + 1, 2, none⟩) (by simp) (.int .i64 0)
  by_cases h4 : stq r rs ∧ stq c cs
  · have hE : strE r c rs cs = ckR rs cs := by unfold strE; rw [if_neg (fun k => k h4)]
    have KS1' : Hid (∀ u, Calls Try.prog 68 #[.int .i64 r, .int .i64 rs] u fun e w' => e = .returned (.bool true) ∧ u = w') := fun u => by have := KS1.out u; rw [decide_eq_true h4.1] at this; exact this
    have KS2' : Hid (∀ u, Calls Try.prog 68 #[.int .i64 c, .int .i64 cs] u fun e w' => e = .returned (.bool true) ∧ u = w') := fun u => by have := KS2.out u; rw [decide_eq_true h4.2] at this; exact this
    obtain ⟨V, hV, x, y, z, hV3⟩ : ∃ V, (if strE r c rs cs = 0 then (.agg #[.int .i64 rs, .int .i64 cs, .int .i64 n] : Value) else zeroShape) = V ∧ ∃ x y z, V = .agg #[.int .i64 x, .int .i64 y, .int .i64 z] := by
      refine ⟨_, rfl, ?_⟩
      split
      · exact ⟨_, _, _, rfl⟩
      · exact ⟨_, _, _, rfl⟩
    have KR : Hid (∀ u, Calls Try.prog 67 #[.agg #[.int .i64 rs, .int .i64 cs, .int .i64 n]] u fun e w' => e = .returned (.tuple #[.agg #[.int .i64 x, .int .i64 y, .int .i64 z], .int .i64 (strE r c rs cs)]) ∧ Kept u w') := fun u => by
      have := roomy_any rs cs n (by have := h4.2; omega) u
      rw [← hE] at this
      rw [hV, hV3] at this
      exact this
    rw [hV, hV3]
    generalize strE r c rs cs = q at *
    clear hE hV KS1 KS2 h4 P0 hK0
    go_enter Try.func50, Try.ntmps50
    go_upto_region 1 with fail
    rw [← hX]
    clear hX
    obtain ⟨a0, a1, a2⟩ := hA
    go_wp2_with (first | (go_at_call 68; refine (KS1'.out _).mono ?_; clear KS1'; rintro e w1 ⟨rfl, rfl⟩) | (go_at_call 68; refine (KS2'.out _).mono ?_; rintro e w1 ⟨rfl, rfl⟩) | (go_at_call 67; refine (KR.out _).mono ?_; rintro e w2 ⟨rfl, k2⟩; have hr1 := hR.bl k2.bl; have f1 : ∀ o, w2.frozen? ⟨w.heap.size + 1, o, none⟩ = false := fun o => (k2.frozen _).trans (hF o); obtain ⟨p0, p1, p2⟩ := M3.put w2 _ _ _ _ hr1 (.int .i64 x) (.int .i64 y) (.int .i64 z); obtain ⟨r0, r1, r2⟩ := hr1))
    exact bodyPost_ret (v := .tuple #[.agg #[.int .i64 x, .int .i64 y, .int .i64 z], .int .i64 q]) (by simp [results, Try.results50, go_sem, *]) rfl ⟨rfl, (hK.trans k2).setCell (by simp) _ |>.setCell (by simp) _ |>.setCell (by simp) _⟩
  · have hE : strE r c rs cs = 4 := by unfold strE; rw [if_pos h4]
    rw [hE, if_neg (by decide)]
    by_cases h41 : stq r rs
    · have h42 : ¬ stq c cs := fun k => h4 ⟨h41, k⟩
      have KS1' : Hid (∀ u, Calls Try.prog 68 #[.int .i64 r, .int .i64 rs] u fun e w' => e = .returned (.bool true) ∧ u = w') := fun u => by have := KS1.out u; rw [decide_eq_true h41] at this; exact this
      have KS2' : Hid (∀ u, Calls Try.prog 68 #[.int .i64 c, .int .i64 cs] u fun e w' => e = .returned (.bool false) ∧ u = w') := fun u => by have := KS2.out u; rw [decide_eq_false h42] at this; exact this
      clear hE KS1 KS2 h4 h41 h42
      go_enter Try.func50, Try.ntmps50
      go_upto_region 1 with fail
      rw [← hX]
      clear hX
      obtain ⟨a0, a1, a2⟩ := hA
      obtain ⟨r0, r1, r2⟩ := hR
      obtain ⟨p0, p1, p2⟩ := P0
      go_wp2_with (first | (go_at_call 68; refine (KS1'.out _).mono ?_; clear KS1'; rintro e w1 ⟨rfl, rfl⟩) | (go_at_call 68; refine (KS2'.out _).mono ?_; rintro e w1 ⟨rfl, rfl⟩))
      exact bodyPost_ret (v := .tuple #[zeroShape, .int .i64 4]) (by simp [results, Try.results50, go_sem, *]) rfl ⟨rfl, hK0⟩
    · have KS1' : Hid (∀ u, Calls Try.prog 68 #[.int .i64 r, .int .i64 rs] u fun e w' => e = .returned (.bool false) ∧ u = w') := fun u => by have := KS1.out u; rw [decide_eq_false h41] at this; exact this
      clear hE KS1 KS2 h4 h41
      go_enter Try.func50, Try.ntmps50
      go_upto_region 1 with fail
      rw [← hX]
      clear hX
      obtain ⟨a0, a1, a2⟩ := hA
      obtain ⟨r0, r1, r2⟩ := hR
      obtain ⟨p0, p1, p2⟩ := P0
      go_wp2_with (first | (go_at_call 68; refine (KS1'.out _).mono ?_; rintro e w1 ⟨rfl, rfl⟩))
      exact bodyPost_ret (v := .tuple #[zeroShape, .int .i64 4]) (by simp [results, Try.results50, go_sem, *]) rfl ⟨rfl, hK0⟩
end Go.Proofs.Ytijmjnmimijfdab
