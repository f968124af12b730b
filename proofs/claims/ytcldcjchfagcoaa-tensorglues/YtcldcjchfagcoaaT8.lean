/- Shapes: package tensor's share, roomy, Both; the document's Both. -/
import Derived.Test.YtcldcjchfagcoaaT7
namespace Go.Proofs.Ytcldcjchfagcoaa
open Go.ChangeShapes Go.WideShapes Go.ChangeAt Go.RowKit
set_option linter.unusedVariables false
set_option linter.unusedSimpArgs false

abbrev shr (x y : Int) : Prop := 1 ≤ x ∧ 1 ≤ y ∧ (x = y ∨ x = 1 ∨ y = 1)

set_option maxHeartbeats 1000000 in
theorem share_any (x y : Int) (w : World) : Calls Try.prog 59 #[.int .i64 x, .int .i64 y] w fun e w' => e = .returned (.bool (decide (shr x y))) ∧ w = w' := by
  obtain ⟨m, hm⟩ : ∃ m, min x y = m := ⟨_, rfl⟩
  obtain ⟨M, hM⟩ : ∃ M, max x y = M := ⟨_, rfl⟩
  by_cases h1 : m = 1
  · have hs : decide (shr x y) = true := decide_eq_true (by omega)
    rw [hs]
    have h1' : (m == 1) = true := by simpa using h1
    clear hs h1
    go_enter Try.func59, Try.ntmps59
    go_wp2
    go_ret
    exact ⟨rfl, rfl⟩
  · have h1' : (m == 1) = false := by simpa using h1
    by_cases h2 : 1 < m
    · by_cases h3 : m = M
      · have hs : decide (shr x y) = true := decide_eq_true (by omega)
        rw [hs]
        have h3' : (m == M) = true := by simpa using h3
        clear hs h1 h3
        go_enter Try.func59, Try.ntmps59
        go_wp2
        go_ret
        exact ⟨rfl, rfl⟩
      · have hs : decide (shr x y) = false := decide_eq_false (by omega)
        rw [hs]
        have h3' : (m == M) = false := by simpa using h3
        clear hs h1 h3
        go_enter Try.func59, Try.ntmps59
        go_wp2
        go_ret
        exact ⟨rfl, rfl⟩
    · have hs : decide (shr x y) = false := decide_eq_false (by omega)
      rw [hs]
      clear hs h1
      go_enter Try.func59, Try.ntmps59
      go_wp2
      go_ret
      exact ⟨rfl, rfl⟩

/-- The shape to which two stretch, and the error. -/
def bthE (ra ca na rb cb nb : Int) : Int := if ¬ (na = 64 ∨ na = 32) ∨ na ≠ nb then 3 else if ¬ (shr ra rb ∧ shr ca cb) then 4 else ckR (max ra rb) (max ca cb)
def bthV (ra ca na rb cb nb : Int) : Value := if bthE ra ca na rb cb nb = 0 then .agg #[.int .i64 (max ra rb), .int .i64 (max ca cb), .int .i64 na] else zeroShape

set_option maxHeartbeats 1000000 in
theorem roomy_any (r c n : Int) (hc : 1 ≤ c) (w : World) : Calls Try.prog 60 #[.agg #[.int .i64 r, .int .i64 c, .int .i64 n]] w fun e w' => e = .returned (.tuple #[if ckR r c = 0 then .agg #[.int .i64 r, .int .i64 c, .int .i64 n] else zeroShape, .int .i64 (ckR r c)]) ∧ Kept w w' := by
  have KR : Hid (∀ u, Calls Try.prog 71 #[.agg #[.int .i64 r, .int .i64 c, .int .i64 n]] u fun e w' => e = .returned (.int .i64 (ckR r c)) ∧ Kept u w') := fun u => checkRoom_any r c n hc u
  have hm := (M3.new w (.int .i64 r) (.int .i64 c) (.int .i64 n) 44).bl ((Bl.refl _).alloc (.cells #[.int .i64 0, .int .i64 0, .int .i64 0] 44))
  have hr := M3.new (w.alloc (.cells #[.int .i64 r, .int .i64 c, .int .i64 n] 44)) (.int .i64 0) (.int .i64 0) (.int .i64 0) 44
  have hf : ∀ o, ((w.alloc (.cells #[.int .i64 r, .int .i64 c, .int .i64 n] 44)).alloc (.cells #[.int .i64 0, .int .i64 0, .int .i64 0] 44)).frozen? ⟨w.heap.size + 1, o, none⟩ = false := fun o => by simp [go_sem]
  have hK := ((Kept.refl w).alloc #[.int .i64 r, .int .i64 c, .int .i64 n] 44).alloc #[.int .i64 0, .int .i64 0, .int .i64 0] 44
  rw [World.size_alloc] at hr
  generalize ckR r c = q at *
  by_cases h0 : q = 0
  · subst h0
    rw [if_pos rfl]
    go_enter Try.func60, Try.ntmps60
    go_wp2_with (first | (go_at_call 71; refine (KR.out _).mono ?_; rintro e w1 ⟨rfl, k1⟩; obtain ⟨a0, a1, a2⟩ := hm.bl k1.bl; have hr1 := hr.bl k1.bl; have f1 : ∀ o, w1.frozen? ⟨w.heap.size + 1, o, none⟩ = false := fun o => (k1.frozen _).trans (hf o); obtain ⟨p0, p1, p2⟩ := M3.put w1 _ _ _ _ hr1 (.int .i64 r) (.int .i64 c) (.int .i64 n); obtain ⟨b0, b1, b2⟩ := hr1))
    exact bodyPost_ret (v := .tuple #[.agg #[.int .i64 r, .int .i64 c, .int .i64 n], .int .i64 0]) (by simp [results, Try.results60, go_sem, *]) rfl ⟨rfl, (hK.trans k1).setCell (by simp) _ |>.setCell (by simp) _ |>.setCell (by simp) _⟩
  · rw [if_neg h0]
    have hq : (q != 0) = true := by simpa using h0
    go_enter Try.func60, Try.ntmps60
    go_wp2_with (first | (go_at_call 71; refine (KR.out _).mono ?_; rintro e w1 ⟨rfl, k1⟩; obtain ⟨a0, a1, a2⟩ := hm.bl k1.bl; have hr1 := hr.bl k1.bl; have f1 : ∀ o, w1.frozen? ⟨w.heap.size + 1, o, none⟩ = false := fun o => (k1.frozen _).trans (hf o); obtain ⟨p0, p1, p2⟩ := M3.put w1 _ _ _ _ hr1 (.int .i64 0) (.int .i64 0) (.int .i64 0); obtain ⟨b0, b1, b2⟩ := hr1))
    exact bodyPost_ret (v := .tuple #[zeroShape, .int .i64 q]) (by simp [results, Try.results60, go_sem, *]) rfl ⟨rfl, (hK.trans k1).setCell (by simp) _ |>.setCell (by simp) _ |>.setCell (by simp) _⟩

abbrev b2W (w : World) (ra ca na rb cb nb : Int) : World := ((w.alloc (.cells #[.int .i64 ra, .int .i64 ca, .int .i64 na] 44)).alloc (.cells #[.int .i64 rb, .int .i64 cb, .int .i64 nb] 44)).alloc (.cells #[.int .i64 0, .int .i64 0, .int .i64 0] 44)
theorem b2_facts (w : World) (ra ca na rb cb nb : Int) : M3 (b2W w ra ca na rb cb nb) w.heap.size (.int .i64 ra) (.int .i64 ca) (.int .i64 na) ∧ M3 (b2W w ra ca na rb cb nb) (w.heap.size + 1) (.int .i64 rb) (.int .i64 cb) (.int .i64 nb) ∧ M3 (b2W w ra ca na rb cb nb) (w.heap.size + 2) (.int .i64 0) (.int .i64 0) (.int .i64 0) ∧ (∀ o, (b2W w ra ca na rb cb nb).frozen? ⟨w.heap.size + 2, o, none⟩ = false) ∧ Kept w (b2W w ra ca na rb cb nb) ∧ (b2W w ra ca na rb cb nb).heap.size = w.heap.size + 3 := by
  refine ⟨⟨by simp [go_sem], by simp [go_sem], by simp [go_sem]⟩, ⟨by simp [go_sem], by simp [go_sem], by simp [go_sem]⟩, ⟨by simp [go_sem], by simp [go_sem], by simp [go_sem]⟩, fun o => by simp [go_sem], (((Kept.refl w).alloc _ _).alloc _ _).alloc _ _, by simp⟩

set_option maxHeartbeats 2000000 in
set_option maxRecDepth 100000 in
theorem both_any (ra ca na rb cb nb : Int) (w : World) : Calls Try.prog 27 #[.agg #[.int .i64 ra, .int .i64 ca, .int .i64 na], .agg #[.int .i64 rb, .int .i64 cb, .int .i64 nb]] w fun e w' => e = .returned (.tuple #[bthV ra ca na rb cb nb, .int .i64 (bthE ra ca na rb cb nb)]) ∧ Kept w w' := by
  obtain ⟨hA, hB, hR, hF, hK, hs⟩ := b2_facts w ra ca na rb cb nb
  have KS1 : Hid (∀ u, Calls Try.prog 59 #[.int .i64 ra, .int .i64 rb] u fun e w' => e = .returned (.bool (decide (shr ra rb))) ∧ u = w') := fun u => share_any ra rb u
  have KS2 : Hid (∀ u, Calls Try.prog 59 #[.int .i64 ca, .int .i64 cb] u fun e w' => e = .returned (.bool (decide (shr ca cb))) ∧ u = w') := fun u => share_any ca cb u
  have KV : Hid (∀ u, Calls Try.prog 46 #[.int .i64 0, .int .i64 na] u fun e w' => e = .returned (.bool (decide (na = 64 ∨ na = 32))) ∧ u = w') := fun u => by have := valid_any 0 na u; rw [val_0] at this; exact this
  obtain ⟨X, hX⟩ : ∃ X, X = b2W w ra ca na rb cb nb := ⟨_, rfl⟩
  rw [← hX] at hA hB hR hF hK hs
  have P0 := M3.put X _ _ _ _ hR (.int .i64 0) (.int .i64 0) (.int .i64 0)
  have hK0 := (hK.setCell (p := ⟨w.heap.size + 2, 0, none⟩) (by simp) (.int .i64 0)).setCell (p := ⟨w.heap.size + 2, 1, none⟩) (by simp) (.int .i64 0) |>.setCell (p := ⟨w.heap.size + 2, 2, none⟩) (by simp) (.int .i64 0)
  unfold b2W at hX
  by_cases h3 : ¬ (na = 64 ∨ na = 32) ∨ na ≠ nb
  · have hE : bthE ra ca na rb cb nb = 3 := by unfold bthE; rw [if_pos h3]
    have hV : bthV ra ca na rb cb nb = zeroShape := by unfold bthV; rw [if_neg (by rw [hE]; decide)]
    rw [hE, hV]
    by_cases h31 : na = 64 ∨ na = 32
    · have h32 : (na != nb) = true := by simp; omega
      have KV' : Hid (∀ u, Calls Try.prog 46 #[.int .i64 0, .int .i64 na] u fun e w' => e = .returned (.bool true) ∧ u = w') := fun u => by have := KV.out u; rw [decide_eq_true h31] at this; exact this
      clear KV h3 hE hV h31 KS1 KS2
      go_enter Try.func27, Try.ntmps27
      go_upto_region 1 with fail
      rw [← hX]
      clear hX
      obtain ⟨a0, a1, a2⟩ := hA
      obtain ⟨b0, b1, b2⟩ := hB
      obtain ⟨r0, r1, r2⟩ := hR
      obtain ⟨p0, p1, p2⟩ := P0
      go_wp2_with (first | (go_at_call 46; refine (KV'.out _).mono ?_; rintro e w1 ⟨rfl, rfl⟩))
      exact bodyPost_ret (v := .tuple #[zeroShape, .int .i64 3]) (by simp [results, Try.results27, go_sem, *]) rfl ⟨rfl, hK0⟩
    · have KV' : Hid (∀ u, Calls Try.prog 46 #[.int .i64 0, .int .i64 na] u fun e w' => e = .returned (.bool false) ∧ u = w') := fun u => by have := KV.out u; rw [decide_eq_false h31] at this; exact this
      clear KV h3 hE hV h31 KS1 KS2
      go_enter Try.func27, Try.ntmps27
      go_upto_region 1 with fail
      rw [← hX]
      clear hX
      obtain ⟨a0, a1, a2⟩ := hA
      obtain ⟨b0, b1, b2⟩ := hB
      obtain ⟨r0, r1, r2⟩ := hR
      obtain ⟨p0, p1, p2⟩ := P0
      go_wp2_with (first | (go_at_call 46; refine (KV'.out _).mono ?_; rintro e w1 ⟨rfl, rfl⟩))
      exact bodyPost_ret (v := .tuple #[zeroShape, .int .i64 3]) (by simp [results, Try.results27, go_sem, *]) rfl ⟨rfl, hK0⟩
  · have h31 : na = 64 ∨ na = 32 := by omega
    have h32 : na = nb := by omega
    subst h32
    have KV' : Hid (∀ u, Calls Try.prog 46 #[.int .i64 0, .int .i64 na] u fun e w' => e = .returned (.bool true) ∧ u = w') := fun u => by have := KV.out u; rw [decide_eq_true h31] at this; exact this
    by_cases h4 : shr ra rb ∧ shr ca cb
    · have hE : bthE ra ca na rb cb na = ckR (max ra rb) (max ca cb) := by unfold bthE; rw [if_neg h3, if_neg (fun k => k h4)]
      have KS1' : Hid (∀ u, Calls Try.prog 59 #[.int .i64 ra, .int .i64 rb] u fun e w' => e = .returned (.bool true) ∧ u = w') := fun u => by have := KS1.out u; rw [decide_eq_true h4.1] at this; exact this
      have KS2' : Hid (∀ u, Calls Try.prog 59 #[.int .i64 ca, .int .i64 cb] u fun e w' => e = .returned (.bool true) ∧ u = w') := fun u => by have := KS2.out u; rw [decide_eq_true h4.2] at this; exact this
      obtain ⟨V, hV, x, y, z, hV3⟩ : ∃ V, bthV ra ca na rb cb na = V ∧ ∃ x y z, V = .agg #[.int .i64 x, .int .i64 y, .int .i64 z] := by
        refine ⟨_, rfl, ?_⟩
        unfold bthV
        split
        · exact ⟨_, _, _, rfl⟩
        · exact ⟨_, _, _, rfl⟩
      have KR : Hid (∀ u, Calls Try.prog 60 #[.agg #[.int .i64 (max ra rb), .int .i64 (max ca cb), .int .i64 na]] u fun e w' => e = .returned (.tuple #[.agg #[.int .i64 x, .int .i64 y, .int .i64 z], .int .i64 (bthE ra ca na rb cb na)]) ∧ Kept u w') := fun u => by
        have := roomy_any (max ra rb) (max ca cb) na (by have := h4.2.1; omega) u
        rw [← hE] at this
        unfold bthV at hV
        rw [hV, hV3] at this
        exact this
      rw [hV, hV3]
      generalize bthE ra ca na rb cb na = q at *
      clear KV h3 hE hV h31 KS1 KS2 h4 P0 hK0
      go_enter Try.func27, Try.ntmps27
      go_upto_region 1 with fail
      rw [← hX]
      clear hX
      obtain ⟨a0, a1, a2⟩ := hA
      obtain ⟨b0, b1, b2⟩ := hB
      go_wp2_with (first | (go_at_call 46; refine (KV'.out _).mono ?_; rintro e w1 ⟨rfl, rfl⟩) | (go_at_call 59; refine (KS1'.out _).mono ?_; clear KS1'; rintro e w1 ⟨rfl, rfl⟩) | (go_at_call 59; refine (KS2'.out _).mono ?_; rintro e w1 ⟨rfl, rfl⟩) | (go_at_call 60; refine (KR.out _).mono ?_; rintro e w2 ⟨rfl, k2⟩; have hr1 := hR.bl k2.bl; have f1 : ∀ o, w2.frozen? ⟨w.heap.size + 2, o, none⟩ = false := fun o => (k2.frozen _).trans (hF o); obtain ⟨p0, p1, p2⟩ := M3.put w2 _ _ _ _ hr1 (.int .i64 x) (.int .i64 y) (.int .i64 z); obtain ⟨r0, r1, r2⟩ := hr1))
      exact bodyPost_ret (v := .tuple #[.agg #[.int .i64 x, .int .i64 y, .int .i64 z], .int .i64 q]) (by simp [results, Try.results27, go_sem, *]) rfl ⟨rfl, (hK.trans k2).setCell (by simp; omega) _ |>.setCell (by simp; omega) _ |>.setCell (by simp; omega) _⟩
    · have hE : bthE ra ca na rb cb na = 4 := by unfold bthE; rw [if_neg h3, if_pos h4]
      have hV : bthV ra ca na rb cb na = zeroShape := by unfold bthV; rw [if_neg (by rw [hE]; decide)]
      rw [hE, hV]
      by_cases h41 : shr ra rb
      · have h42 : ¬ shr ca cb := fun k => h4 ⟨h41, k⟩
        have KS1' : Hid (∀ u, Calls Try.prog 59 #[.int .i64 ra, .int .i64 rb] u fun e w' => e = .returned (.bool true) ∧ u = w') := fun u => by have := KS1.out u; rw [decide_eq_true h41] at this; exact this
        have KS2' : Hid (∀ u, Calls Try.prog 59 #[.int .i64 ca, .int .i64 cb] u fun e w' => e = .returned (.bool false) ∧ u = w') := fun u => by have := KS2.out u; rw [decide_eq_false h42] at this; exact this
        clear KV h3 hE hV h31 KS1 KS2 h4 h41 h42
        go_enter Try.func27, Try.ntmps27
        go_upto_region 1 with fail
        rw [← hX]
        clear hX
        obtain ⟨a0, a1, a2⟩ := hA
        obtain ⟨b0, b1, b2⟩ := hB
        obtain ⟨r0, r1, r2⟩ := hR
        obtain ⟨p0, p1, p2⟩ := P0
        go_wp2_with (first | (go_at_call 46; refine (KV'.out _).mono ?_; rintro e w1 ⟨rfl, rfl⟩) | (go_at_call 59; refine (KS1'.out _).mono ?_; clear KS1'; rintro e w1 ⟨rfl, rfl⟩) | (go_at_call 59; refine (KS2'.out _).mono ?_; rintro e w1 ⟨rfl, rfl⟩))
        exact bodyPost_ret (v := .tuple #[zeroShape, .int .i64 4]) (by simp [results, Try.results27, go_sem, *]) rfl ⟨rfl, hK0⟩
      · have KS1' : Hid (∀ u, Calls Try.prog 59 #[.int .i64 ra, .int .i64 rb] u fun e w' => e = .returned (.bool false) ∧ u = w') := fun u => by have := KS1.out u; rw [decide_eq_false h41] at this; exact this
        clear KV h3 hE hV h31 KS1 KS2 h4 h41
        go_enter Try.func27, Try.ntmps27
        go_upto_region 1 with fail
        rw [← hX]
        clear hX
        obtain ⟨a0, a1, a2⟩ := hA
        obtain ⟨b0, b1, b2⟩ := hB
        obtain ⟨r0, r1, r2⟩ := hR
        obtain ⟨p0, p1, p2⟩ := P0
        go_wp2_with (first | (go_at_call 46; refine (KV'.out _).mono ?_; rintro e w1 ⟨rfl, rfl⟩) | (go_at_call 59; refine (KS1'.out _).mono ?_; rintro e w1 ⟨rfl, rfl⟩))
        exact bodyPost_ret (v := .tuple #[zeroShape, .int .i64 4]) (by simp [results, Try.results27, go_sem, *]) rfl ⟨rfl, hK0⟩
end Go.Proofs.Ytcldcjchfagcoaa
