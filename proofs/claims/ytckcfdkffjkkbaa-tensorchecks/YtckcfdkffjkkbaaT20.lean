/- At of package tensor. -/
import Derived.Test.YtckcfdkffjkkbaaT2
import Derived.Test.YtckcfdkffjkkbaaT3
namespace Go.Proofs.Ytckcfdkffjkkbaa
open Go.ChangeShapes Go.WideShapes Go.ChangeAt Go.RowKit
set_option linter.unusedVariables false
set_option linter.unusedSimpArgs false

set_option maxHeartbeats 4000000 in
set_option maxRecDepth 100000 in
theorem at_ok (R C i j : Nat) (n : Int) (hn : n = 64 ∨ n = 32) (hi : i < R) (hj : j < C) (L : List Int) (hL : L.length = R * C) (hRC : R * C ≤ 4096) (hRg : Rgl L) (hck : ckM R C n L = 0) (b off cap : Nat) (hcap : R * C ≤ cap) (w : World) (hb : b < w.heap.size) (hrd : Reads w b off L) (hS : Sl w (.slice (some ⟨b, off, none⟩) L.length cap) L) : Calls Try.prog 13 #[.agg #[.int .i64 R, .int .i64 C, .int .i64 n, .slice (some ⟨b, off, none⟩) (R * C) cap], .int .i64 i, .int .i64 j] w fun e w' => e = .returned (.tuple #[.int .i64 (cln (L.getD (i * C + j) 0) n), .int .i64 0]) ∧ Kept w w' := by
  obtain ⟨X, hX⟩ : ∃ X, X = w.alloc (.cells #[.int .i64 R, .int .i64 C, .int .i64 n, .slice (some ⟨b, off, none⟩) (R * C) cap] 24) := ⟨_, rfl⟩
  have hK : Kept w X := by rw [hX]; exact (Kept.refl w).alloc _ _
  have hM : M4 X w.heap.size (.int .i64 R) (.int .i64 C) (.int .i64 n) (.slice (some ⟨b, off, none⟩) (R * C) cap) := by rw [hX]; exact M4.new _ _ _ _ _ _
  have hlt : i * C + j < L.length := by
    rw [hL]
    calc i * C + j < i * C + C := by omega
      _ = (i + 1) * C := by rw [Nat.succ_mul]
      _ ≤ R * C := Nat.mul_le_mul_right _ hi
  have KC : Hid (Calls Try.prog 11 #[.agg #[.int .i64 R, .int .i64 C, .int .i64 n, .slice (some ⟨b, off, none⟩) (R * C) cap]] X fun e w' => e = .returned (.int .i64 0) ∧ Kept X w') := by
    have := check_any R C n (some ⟨b, off, none⟩) cap L X (hS.kept hK)
    rw [hck, hL] at this
    exact this
  have KR : Hid (∀ u, Kept X u → Calls Try.prog 49 #[.agg #[.int .i64 R, .int .i64 C, .int .i64 n, .slice (some ⟨b, off, none⟩) (R * C) cap], .int .i64 i] u fun e w' => e = .returned (.slice (some ⟨b, off + i * C, none⟩) C C) ∧ Kept X w') := fun u k => by
    refine (rowOf_any R C i n hi (by omega) (by omega) b off _ cap rfl hcap u).mono ?_
    rintro e w' ⟨rfl, k'⟩
    exact ⟨rfl, k.trans k'⟩
  have KT : Hid (∀ u, Kept X u → Calls Try.prog 48 #[.int .i64 (L.getD (i * C + j) 0), .int .i64 n] u fun e w' => e = .returned (.int .i64 (cln (L.getD (i * C + j) 0) n)) ∧ Kept X w') := fun u k => by
    refine (told_any _ n hn (hRg _ hlt).1 (hRg _ hlt).2 u).mono ?_
    rintro e w' ⟨rfl, k'⟩
    exact ⟨rfl, k.trans k'⟩
  have HS : Hid (∀ u, Kept X u → Kept X u ∧ (u.cell? ⟨w.heap.size, 0, none⟩ = some (.int .i64 R) ∧ u.cell? ⟨w.heap.size, 1, none⟩ = some (.int .i64 C) ∧ u.cell? ⟨w.heap.size, 2, none⟩ = some (.int .i64 n) ∧ u.cell? ⟨w.heap.size, 3, none⟩ = some (.slice (some ⟨b, off, none⟩) (R * C) cap)) ∧ u.cell? ⟨b, off + i * C + j, none⟩ = some (.int .i64 (L.getD (i * C + j) 0))) := fun u k => by
    obtain ⟨m0, m1, m2, m3⟩ := hM.bl k.bl
    refine ⟨k, ⟨m0, m1, m2, m3⟩, ?_⟩
    have := (hrd.kept hb (hK.trans k)) _ hlt
    rwa [← Nat.add_assoc] at this
  generalize cln (L.getD (i * C + j) 0) n = d2 at *
  generalize L.getD (i * C + j) 0 = d at *
  generalize off + i * C = oc at *
  generalize hrc : R * C = rc at *
  have g0 : ¬ min (i : Int) (j : Int) < 0 := by omega
  have g1 : ¬ (R : Int) ≤ (i : Int) := by omega
  have g2 : ¬ (C : Int) ≤ (j : Int) := by omega
  clear hS hrd hck hRg hL hlt hrc
  go_enter Try.func13, Try.ntmps13
  go_upto_region 1 with fail
  rw [← hX]
  clear hX
  have hM' := hM
  obtain ⟨m0, m1, m2, m3⟩ := hM'
  go_upto_region 6 with (first | (go_at_call 11; refine (KC.out).mono ?_; rintro e w1 ⟨rfl, k1⟩; clear m0 m1 m2 m3; obtain ⟨m0, m1, m2, m3⟩ := hM.bl k1.bl))
  have kd := k1.drew
  clear m0 m1 m2 m3
  go_region_held (fun u => Kept X u ∧ (u.cell? ⟨w.heap.size, 0, none⟩ = some (.int .i64 R) ∧ u.cell? ⟨w.heap.size, 1, none⟩ = some (.int .i64 C) ∧ u.cell? ⟨w.heap.size, 2, none⟩ = some (.int .i64 n) ∧ u.cell? ⟨w.heap.size, 3, none⟩ = some (.slice (some ⟨b, off, none⟩) rc cap)) ∧ u.cell? ⟨b, oc + j, none⟩ = some (.int .i64 d)) (first | assumption | exact HS.out _ kd | exact HS.out _ (by assumption)) (first | (go_at_call 49; refine (KR.out _ (by first | exact kd | assumption)).mono ?_; rintro e w3 ⟨rfl, k3⟩) | (go_at_call 48; refine (KT.out _ (by assumption)).mono ?_; rintro e w4 ⟨rfl, k4⟩))
  all_goals go_wp2_with fail
  all_goals exact bodyPost_ret (v := .tuple #[.int .i64 d2, .int .i64 0]) (by simp [results, Try.results13, go_sem]) rfl ⟨rfl, hK.trans k4⟩
end Go.Proofs.Ytckcfdkffjkkbaa
