/- Zero of package tensor and of the document; the laws' Exact. -/
import Derived.Test.YtcldcjchfagcoaaT6
import Derived.Test.YtcldcjchfagcoaaT7
namespace Go.Proofs.Ytcldcjchfagcoaa
open Go.ChangeShapes Go.WideShapes Go.ChangeAt Go.RowKit
set_option linter.unusedVariables false
set_option linter.unusedSimpArgs false

theorem cln_zero (n : Int) : cln 0 n = 0 := by
  unfold cln
  rw [if_neg]
  unfold cls clsOf
  (repeat' split) <;> omega
theorem Grw.kept {a b c : World} {g : Nat} (h : Kept a b) (hg : a.heap.size ≤ g) (k : Grw g b c) : Kept a c := h.grw hg k

abbrev exW (w : World) (r c n : Int) (s1 s2 : Value) : World := (w.alloc (.cells #[.int .i64 r, .int .i64 c, .int .i64 n, s1] 24)).alloc (.cells #[.int .i64 r, .int .i64 c, .int .i64 n, s2] 24)

set_option maxHeartbeats 2000000 in
set_option maxRecDepth 100000 in
theorem exact_true (r c n : Int) (L : List Int) (hlen : L.length ≤ 100000) (o1 o2 : Option Addr) (c1 c2 : Nat) (w : World) (h1 : Sl w (.slice o1 L.length c1) L) (h2 : Sl w (.slice o2 L.length c2) L) : Calls Try.prog 21 #[.agg #[.int .i64 r, .int .i64 c, .int .i64 n, .slice o1 L.length c1], .agg #[.int .i64 r, .int .i64 c, .int .i64 n, .slice o2 L.length c2]] w fun e w' => e = .returned (.bool true) ∧ Kept w w' := by
  obtain ⟨X, hX⟩ : ∃ X, X = exW w r c n (.slice o1 L.length c1) (.slice o2 L.length c2) := ⟨_, rfl⟩
  have hK : Kept w X := by rw [hX]; exact ((Kept.refl w).alloc _ _).alloc _ _
  have hM1 : M4 X w.heap.size (.int .i64 r) (.int .i64 c) (.int .i64 n) (.slice o1 L.length c1) := by rw [hX]; exact ⟨by simp [go_sem], by simp [go_sem], by simp [go_sem], by simp [go_sem]⟩
  have hM2 : M4 X (w.heap.size + 1) (.int .i64 r) (.int .i64 c) (.int .i64 n) (.slice o2 L.length c2) := by rw [hX]; exact ⟨by simp [go_sem], by simp [go_sem], by simp [go_sem], by simp [go_sem]⟩
  have HR1 : Hid (∀ u, Kept X u → ∀ i, i < L.length → ∃ b off, o1 = some ⟨b, off, none⟩ ∧ u.cell? ⟨b, off + i, none⟩ = some (.int .i64 (L.getD i 0))) := fun u k i hi => by
    obtain ⟨ao, cap, e, -, -, hr⟩ := h1
    cases e
    obtain ⟨b, off, e2, hb, hr⟩ := hr (by intro h; subst h; simp at hi)
    exact ⟨b, off, e2, hr.kept hb (hK.trans k) i hi⟩
  have HR2 : Hid (∀ u, Kept X u → ∀ i, i < L.length → ∃ b off, o2 = some ⟨b, off, none⟩ ∧ u.cell? ⟨b, off + i, none⟩ = some (.int .i64 (L.getD i 0))) := fun u k i hi => by
    obtain ⟨ao, cap, e, -, -, hr⟩ := h2
    cases e
    obtain ⟨b, off, e2, hb, hr⟩ := hr (by intro h; subst h; simp at hi)
    exact ⟨b, off, e2, hr.kept hb (hK.trans k) i hi⟩
  unfold exW at hX
  clear h1 h2
  have HL : Hid (∀ i : Nat, ∀ d : Int, (d != d) = false) := fun i d => by simp
  generalize hLl : L.length = l at *
  have q0 : (r != r) = false := by simp
  have q1 : (c != c) = false := by simp
  have q2 : (n != n) = false := by simp
  have q3 : ((l : Int) != (l : Int)) = false := by simp
  go_enter Try.func21, Try.ntmps21
  go_upto_region 1 with fail
  rw [← hX]
  clear hX
  have hM1' := hM1
  have hM2' := hM2
  obtain ⟨a0, a1, a2, a3⟩ := hM1'
  obtain ⟨b0, b1, b2, b3⟩ := hM2'
  go_wp2_with fail
  go_loopw [5] (fun iv wr => ∃ k : Nat, k ≤ l ∧ iv = .int .i64 k ∧ Kept X wr) (fun iv _ => l - (intOf iv).toNat)
  case atStart => exact ⟨0, Nat.zero_le _, rfl, Kept.refl _⟩
  case round =>
    clear a0 a1 a2 a3 b0 b1 b2 b3
    obtain ⟨k, hk, rfl, kk⟩ := hrel
    obtain ⟨a0, a1, a2, a3⟩ := hM1.bl kk.bl
    obtain ⟨b0, b1, b2, b3⟩ := hM2.bl kk.bl
    by_cases hkl : k < l
    · obtain ⟨x1, y1, rfl, e1⟩ := HR1.out _ kk k hkl
      obtain ⟨x2, y2, rfl, e2⟩ := HR2.out _ kk k hkl
      have z1 : IntKind.i64.wrap ((k : Int) + 1) = (k : Int) + 1 := by rw [wrap_i64]; omega
      have z2 := HL.out k (L.getD k 0)
      generalize L.getD k 0 = d at *
      go_wp2_with fail
      go_quiet (fail)
      go_wp2_with fail
      go_roundw
      case rel => exact ⟨k + 1, by omega, by go_num, kk.drewN _⟩
      case measure => simp [intOf]; omega
    · obtain rfl : k = l := by omega
      go_wp2_with fail
      refine bodyPost_ret (results_tmp rfl _ _ _) rfl ?_
      exact ⟨rfl, hK.trans kk⟩
end Go.Proofs.Ytcldcjchfagcoaa
