/- Shapes: package tensor's share, roomy, Both; the document's Both. -/
import Derived.Test.YtijmjnmimijfdabT7
namespace Go.Proofs.Ytijmjnmimijfdab
open Go.ChangeShapes Go.WideShapes Go.ChangeAt Go.RowKit
set_option linter.unusedVariables false
set_option linter.unusedSimpArgs false

abbrev shr (x y : Int) : Prop := 1 ≤ x ∧ 1 ≤ y ∧ (x = y ∨ x = 1 ∨ y = 1)

/-- The shape to which two stretch, and the error. -/
def bthE (ra ca na rb cb nb : Int) : Int := if ¬ (na = 64 ∨ na = 32) ∨ na ≠ nb then 3 else if ¬ (shr ra rb ∧ shr ca cb) then 4 else ckR (max ra rb) (max ca cb)
def bthV (ra ca na rb cb nb : Int) : Value := if bthE ra ca na rb cb nb = 0 then .agg #[.int .i64 (max ra rb), .int .i64 (max ca cb), .int .i64 na] else zeroShape

set_option maxHeartbeats 1000000 in
theorem roomy_any (r c n : Int) (hc : 1 ≤ c) (w : World) : Calls Try.prog 67 #[.agg #[.int .i64 r, .int .i64 c, .int .i64 n]] w fun e w' => e = .returned (.tuple #[if ckR r c = 0 then .agg #[.int .i64 r, .int .i64 c, .int .i64 n] else zeroShape, .int .i64 (ckR r c)]) ∧ Kept w w' := by
  have KR : Hid (∀ u, Calls Try.prog 66 #[.agg #[.int .i64 r, .int .i64 c, .int .i64 n]] u fun e w' => e = .returned (.int .i64 (ckR r c)) ∧ Kept u w') := fun u => checkRoom_any r c n hc u
  have hm := (M3.new w (.int .i64 r) (.int .i64 c) (.int .i64 n) 50).bl ((Bl.refl _).alloc (.cells #[.int .i64 0, .int .i64 0, .int .i64 0] 50))
  have hr := M3.new (w.alloc (.cells #[.int .i64 r, .int .i64 c, .int .i64 n] 50)) (.int .i64 0) (.int .i64 0) (.int .i64 0) 50
  have hf : ∀ o, ((w.alloc (.cells #[.int .i64 r, .int .i64 c, .int .i64 n] 50)).alloc (.cells #[.int .i64 0, .int .i64 0, .int .i64 0] 50)).frozen? ⟨w.heap.size + 1, o, none⟩ = false := fun o => by simp [go_sem]
  have hK := ((Kept.refl w).alloc #[.int .i64 r, .int .i64 c, .int .i64 n] 50).alloc #[.int .i64 0, .int .i64 0, .int .i64 0] 50
  rw [World.size_alloc] at hr
  generalize ckR r c = q at *
  by_cases h0 : q = 0
  · subst h0
    rw [if_pos rfl]
    go_enter Try.func67, Try.ntmps67
    go_wp2_with (first | (go_at_call 66; refine (KR.out _).mono ?_; rintro e w1 ⟨rfl, k1⟩; obtain ⟨a0, a1, a2⟩ := hm.bl k1.bl; have hr1 := hr.bl k1.bl; have f1 : ∀ o, w1.frozen? ⟨w.heap.size + 1, o, none⟩ = false := fun o => (k1.frozen _).trans (hf o); obtain ⟨p0, p1, p2⟩ := M3.put w1 _ _ _ _ hr1 (.int .i64 r) (.int .i64 c) (.int .i64 n); obtain ⟨b0, b1, b2⟩ := hr1))
    exact bodyPost_ret (v := .tuple #[.agg #[.int .i64 r, .int .i64 c, .int .i64 n], .int .i64 0]) (by simp [results, Try.results67, go_sem, *]) rfl ⟨rfl, (hK.trans k1).setCell (by simp) _ |>.setCell (by simp) _ |>.setCell (by simp) _⟩
  · rw [if_neg h0]
    have hq : (q != 0) = true := by simpa using h0
    go_enter Try.func67, Try.ntmps67
    go_wp2_with (first | (go_at_call 66; refine (KR.out _).mono ?_; rintro e w1 ⟨rfl, k1⟩; obtain ⟨a0, a1, a2⟩ := hm.bl k1.bl; have hr1 := hr.bl k1.bl; have f1 : ∀ o, w1.frozen? ⟨w.heap.size + 1, o, none⟩ = false := fun o => (k1.frozen _).trans (hf o); obtain ⟨p0, p1, p2⟩ := M3.put w1 _ _ _ _ hr1 (.int .i64 0) (.int .i64 0) (.int .i64 0); obtain ⟨b0, b1, b2⟩ := hr1))
    exact bodyPost_ret (v := .tuple #[zeroShape, .int .i64 q]) (by simp [results, Try.results67, go_sem, *]) rfl ⟨rfl, (hK.trans k1).setCell (by simp) _ |>.setCell (by simp) _ |>.setCell (by simp) _⟩

abbrev b2W (w : World) (ra ca na rb cb nb : Int) : World := ((w.alloc (.cells #[.int .i64 ra, .int .i64 ca, .int .i64 na] 50)).alloc (.cells #[.int .i64 rb, .int .i64 cb, .int .i64 nb] 50)).alloc (.cells #[.int .i64 0, .int .i64 0, .int .i64 0] 50)
theorem b2_facts (w : World) (ra ca na rb cb nb : Int) : M3 (b2W w ra ca na rb cb nb) w.heap.size (.int .i64 ra) (.int .i64 ca) (.int .i64 na) ∧ M3 (b2W w ra ca na rb cb nb) (w.heap.size + 1) (.int .i64 rb) (.int .i64 cb) (.int .i64 nb) ∧ M3 (b2W w ra ca na rb cb nb) (w.heap.size + 2) (.int .i64 0) (.int .i64 0) (.int .i64 0) ∧ (∀ o, (b2W w ra ca na rb cb nb).frozen? ⟨w.heap.size + 2, o, none⟩ = false) ∧ Kept w (b2W w ra ca na rb cb nb) ∧ (b2W w ra ca na rb cb nb).heap.size = w.heap.size + 3 := by
  refine ⟨⟨by simp [go_sem], by simp [go_sem], by simp [go_sem]⟩, ⟨by simp [go_sem], by simp [go_sem], by simp [go_sem]⟩, ⟨by simp [go_sem], by simp [go_sem], by simp [go_sem]⟩, fun o => by simp [go_sem], (((Kept.refl w).alloc _ _).alloc _ _).alloc _ _, by simp⟩

end Go.Proofs.Ytijmjnmimijfdab
