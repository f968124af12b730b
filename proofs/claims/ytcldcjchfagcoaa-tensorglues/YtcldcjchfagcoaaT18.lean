/- At of package tensor; the laws' Lent and Stays. -/
import Derived.Test.YtcldcjchfagcoaaT2
import Derived.Test.YtcldcjchfagcoaaT3
namespace Go.Proofs.Ytcldcjchfagcoaa
open Go.ChangeShapes Go.WideShapes Go.ChangeAt Go.RowKit
set_option linter.unusedVariables false
set_option linter.unusedSimpArgs false

set_option maxHeartbeats 4000000 in
set_option maxRecDepth 100000 in
theorem stays_true (r c n : Int) (L : List Int) (hlen : L.length ≤ 100000) (g cap1 : Nat) (o2 : Option Addr) (c2 : Nat) (w : World) (h1 : Own w g cap1 (L ++ [-71])) (h2 : Sl w (.slice o2 L.length c2) L) : Calls Try.prog 14 #[.agg #[.int .i64 r, .int .i64 c, .int .i64 n, .slice (some ⟨g, 0, none⟩) L.length cap1], .agg #[.int .i64 r, .int .i64 c, .int .i64 n, .slice o2 L.length c2]] w fun e w' => e = .returned (.bool true) ∧ Kept w w' := by
  obtain ⟨X, hX⟩ : ∃ X, X = (w.alloc (.cells #[.int .i64 r, .int .i64 c, .int .i64 n, .slice (some ⟨g, 0, none⟩) L.length cap1] 24)).alloc (.cells #[.int .i64 r, .int .i64 c, .int .i64 n, .slice o2 L.length c2] 24) := ⟨_, rfl⟩
  have hK : Kept w X := by rw [hX]; exact ((Kept.refl w).alloc _ _).alloc _ _
  have hM1 : M4 X w.heap.size (.int .i64 r) (.int .i64 c) (.int .i64 n) (.slice (some ⟨g, 0, none⟩) L.length cap1) := by rw [hX]; exact ⟨by simp [go_sem], by simp [go_sem], by simp [go_sem], by simp [go_sem]⟩
  have hM2 : M4 X (w.heap.size + 1) (.int .i64 r) (.int .i64 c) (.int .i64 n) (.slice o2 L.length c2) := by rw [hX]; exact ⟨by simp [go_sem], by simp [go_sem], by simp [go_sem], by simp [go_sem]⟩
  have HR1 : Hid (∀ u, Kept X u → ∀ i, i < L.length → u.cell? ⟨g, i, none⟩ = some (.int .i64 (L.getD i 0))) := fun u k i hi => by
    have := (h1.kept (hK.trans k)).cell i (by simp; omega)
    rw [this]
    congr 2
    simp [List.getD_eq_getElem?_getD, List.getElem?_append_left hi]
  have hlast : X.cell? ⟨g, L.length, none⟩ = some (.int .i64 (-71)) := by
    have := (h1.kept hK).cell L.length (by simp)
    rw [this]
    congr 2
    simp [List.getD_eq_getElem?_getD]
  have hcap : L.length + 1 ≤ cap1 ∧ cap1 ≤ maxLen := by
    obtain ⟨cur, -, a, b, -⟩ := h1
    simp at a
    exact ⟨by omega, b⟩
  have HR2 : Hid (∀ u, Kept X u → ∀ i, i < L.length → ∃ b off, o2 = some ⟨b, off, none⟩ ∧ u.cell? ⟨b, off + i, none⟩ = some (.int .i64 (L.getD i 0))) := fun u k i hi => by
    obtain ⟨ao, cap, e, -, -, hr⟩ := h2
    cases e
    obtain ⟨b, off, e2, hb, hr⟩ := hr (by intro h; subst h; simp at hi)
    exact ⟨b, off, e2, hr.kept hb (hK.trans k) i hi⟩
  clear h1 h2
  have HL : Hid (∀ i : Nat, ∀ d : Int, (d != d) = false) := fun i d => by simp
  generalize hLl : L.length = l at *
  have q0 : (r != r) = false := by simp
  have q1 : (c != c) = false := by simp
  have q2 : (n != n) = false := by simp
  have q3 : ((l : Int) != (l : Int)) = false := by simp
  have q4 : IntKind.i64.wrap ((l : Int) + 1) = (l : Int) + 1 := by rw [wrap_i64]; omega
  have g1 : l + 1 ≤ cap1 := hcap.1
  go_enter Try.func14, Try.ntmps14
  go_upto_region 1 with fail
  rw [← hX]
  clear hX
  have hM1' := hM1
  have hM2' := hM2
  obtain ⟨a0, a1, a2, a3⟩ := hM1'
  obtain ⟨b0, b1, b2, b3⟩ := hM2'
  go_quiet (fail)
  go_wp2_with fail
  go_loopw [5] (fun iv wr => ∃ k : Nat, k ≤ l ∧ iv = .int .i64 k ∧ Kept X wr) (fun iv _ => l - (intOf iv).toNat)
  case atStart => exact ⟨0, Nat.zero_le _, rfl, (Kept.refl _).drewN _⟩
  case round =>
    clear a0 a1 a2 a3 b0 b1 b2 b3 hlast
    obtain ⟨k, hk, rfl, kk⟩ := hrel
    obtain ⟨a0, a1, a2, a3⟩ := hM1.bl kk.bl
    obtain ⟨b0, b1, b2, b3⟩ := hM2.bl kk.bl
    by_cases hkl : k < l
    · have e1 := HR1.out _ kk k hkl
      obtain ⟨x2, y2, rfl, e2⟩ := HR2.out _ kk k hkl
      have z1 : IntKind.i64.wrap ((k : Int) + 1) = (k : Int) + 1 := by rw [wrap_i64]; omega
      have z2 := HL.out k (L.getD k 0)
      generalize L.getD k 0 = d at *
      go_wp2_with fail
      go_quiet (fail)
      go_wp2_with fail
      go_roundw
      case rel => exact ⟨k + 1, by omega, by go_num, kk.drewN _⟩
      case measure => simp [intOf]; omega
    · obtain rfl : k = l := by omega
      go_wp2_with fail
      refine bodyPost_ret (results_tmp rfl _ _ _) rfl ?_
      exact ⟨rfl, hK.trans kk⟩
end Go.Proofs.Ytcldcjchfagcoaa
