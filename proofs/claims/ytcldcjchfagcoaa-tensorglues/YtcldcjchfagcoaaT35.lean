/- The laws' spoil. -/
import Derived.Test.YtcldcjchfagcoaaTE
namespace Go.Proofs.Ytcldcjchfagcoaa
open Go.ChangeShapes Go.WideShapes Go.ChangeAt Go.RowKit
set_option linter.unusedVariables false
set_option linter.unusedSimpArgs false

set_option maxHeartbeats 1000000 in
theorem spoil_any (r c n : Int) (L : List Int) (hlen : L.length ≤ 100000) (g cap : Nat) (w : World) (ho : Own w g cap L) : Calls Try.prog 26 #[.agg #[.int .i64 r, .int .i64 c, .int .i64 n, .slice (some ⟨g, 0, none⟩) L.length cap]] w fun e w' => (∃ v, e = .returned v) ∧ Grw g w w' := by
  obtain ⟨X, hX⟩ : ∃ X, X = w.alloc (.cells #[.int .i64 r, .int .i64 c, .int .i64 n, .slice (some ⟨g, 0, none⟩) L.length cap] 24) := ⟨_, rfl⟩
  have hK : Kept w X := by rw [hX]; exact (Kept.refl w).alloc _ _
  have hM : M4 X w.heap.size (.int .i64 r) (.int .i64 c) (.int .i64 n) (.slice (some ⟨g, 0, none⟩) L.length cap) := by rw [hX]; exact M4.new _ _ _ _ _ _
  have hg := ho.lt
  have hoX := ho.kept hK
  clear ho
  generalize hl : L.length = l at *
  go_enter Try.func26, Try.ntmps26
  go_upto_region 1 with fail
  rw [← hX]
  clear hX
  go_wp2_with fail
  go_loopw [2] (fun iv wr => ∃ k : Nat, k ≤ l ∧ iv = .int .i64 k ∧ M4 wr w.heap.size (.int .i64 r) (.int .i64 c) (.int .i64 n) (.slice (some ⟨g, 0, none⟩) l cap) ∧ Grw g w wr ∧ ∃ L', L'.length = l ∧ Own wr g cap L') (fun iv _ => l - (intOf iv).toNat)
  case atStart => exact ⟨0, Nat.zero_le _, rfl, hM, hK.toGrw g, L, hl, hoX⟩
  case round =>
    obtain ⟨k, hk, rfl, hM4, hG, L', hL', hO⟩ := hrel
    have hM4' := hM4
    obtain ⟨m0, m1, m2, m3⟩ := hM4'
    by_cases hkl : k < l
    · have q0 := hO.cell k (by omega)
      have q1 := hO.free k
      have hO2 := hO.set k (-1)
      have HO2 : Hid _ := hO2
      have HL2 : Hid ((L'.set k (-1)).length = l) := by show (L'.set k (-1)).length = l; simp [hL']
      have HM2 : Hid (M4 (wr.setCell ⟨g, k, none⟩ (.int .i64 (-1))) w.heap.size (.int .i64 r) (.int .i64 c) (.int .i64 n) (.slice (some ⟨g, 0, none⟩) l cap)) := hM4.setOther (by simp; omega) _
      have z1 : IntKind.i64.wrap ((k : Int) + 1) = (k : Int) + 1 := by rw [wrap_i64]; omega
      generalize L'.getD k 0 = d at *
      clear hO2 hO
      go_wp2_with fail
      go_roundw
      case rel => exact ⟨k + 1, by omega, by go_num, HM2.out, hG.setCell _ _, _, HL2.out, HO2.out⟩
      case measure => simp [intOf]; omega
    · obtain rfl : k = l := by omega
      go_wp2_with fail
      go_end0
      exact ⟨⟨_, rfl⟩, hG⟩
end Go.Proofs.Ytcldcjchfagcoaa
