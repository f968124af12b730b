/- The document's Stop. -/
import Derived.Test.YtcjgdfnbjbboeaaWr25
namespace Go.Proofs.Ytcjgdfnbjbboeaa
open Go.ChangeShapes Go.WideShapes Go.ChangeAt Go.RowKit
set_option linter.unusedVariables false
set_option linter.unusedSimpArgs false

set_option maxHeartbeats 4000000 in
set_option maxRecDepth 100000 in
theorem stop_ok (r c n : Int) (b off cap : Nat) (L : List Int) (hRg : Rgl L) (hlen : L.length ≤ 4096) (w : World) (hb : b < w.heap.size) (hrd : Reads w b off L) : Calls Try.prog 69 #[.agg #[.int .i64 r, .int .i64 c, .int .i64 n, .slice (some ⟨b, off, none⟩) L.length cap]] w fun e w' => e = .returned (.tuple #[.int .i64 (stp n L 0).1, .int .i64 (stp n L 0).2]) ∧ Kept w w' := by
  obtain ⟨X, hX⟩ : ∃ X, X = w.alloc (.cells #[.int .i64 r, .int .i64 c, .int .i64 n, .slice (some ⟨b, off, none⟩) L.length cap] 24) := ⟨_, rfl⟩
  have hK : Kept w X := by rw [hX]; exact (Kept.refl w).alloc _ _
  have hM : M4 X w.heap.size (.int .i64 r) (.int .i64 c) (.int .i64 n) (.slice (some ⟨b, off, none⟩) L.length cap) := by rw [hX]; exact M4.new _ _ _ _ _ _
  have HR : Hid (∀ u, Kept X u → ∀ i, i < L.length → u.cell? ⟨b, off + i, none⟩ = some (.int .i64 (L.getD i 0))) := fun u k i hi => (hrd.kept hb (hK.trans k)) i hi
  have KF : Hid (∀ i, i < L.length → ∀ u, Kept X u → Calls Try.prog 94 #[.int .i64 (L.getD i 0), .int .i64 n] u fun e w' => e = .returned (.bool (decide (cls (L.getD i 0) n < 3))) ∧ Kept X w') := fun i hi u k => by
    refine (rfinite_any _ n (hRg i hi).1 (hRg i hi).2 u).mono ?_
    rintro e w' ⟨rfl, k'⟩
    exact ⟨rfl, k.trans k'⟩
  have KN : Hid (∀ i, i < L.length → ∀ u, Kept X u → Calls Try.prog 95 #[.int .i64 (L.getD i 0), .int .i64 n] u fun e w' => e = .returned (.bool (cls (L.getD i 0) n == 4)) ∧ Kept X w') := fun i hi u k => by
    refine (rnan_any _ n (hRg i hi).1 (hRg i hi).2 u).mono ?_
    rintro e w' ⟨rfl, k'⟩
    exact ⟨rfl, k.trans k'⟩
  have HN : Hid (∀ k, k < L.length → cls (L.getD k 0) n = 4 → stp n (L.drop k) k = ((k : Int), 30)) := fun k hk h => stp_nan n L k hk h
  have HI : Hid (∀ k, k < L.length → cls (L.getD k 0) n = 3 → stp n (L.drop k) k = ((k : Int), 31)) := fun k hk h => stp_inf n L k hk h
  have HF : Hid (∀ k, k < L.length → cls (L.getD k 0) n < 3 → stp n (L.drop k) k = stp n (L.drop (k + 1)) (k + 1)) := fun k hk h => stp_fin n L k hk h
  have HE : Hid (stp n (L.drop L.length) L.length = (0, 0)) := stp_end n L
  have HC4 : Hid (∀ k, cls (L.getD k 0) n ≤ 4) := fun k => cls_le _ n
  obtain ⟨P, hP⟩ : ∃ P, stp n L 0 = P := ⟨_, rfl⟩
  have H0 : Hid (stp n (L.drop 0) 0 = P) := hP
  rw [hP]
  clear hrd hP hRg
  generalize hl : L.length = l at *
  clear hl
  have HS : Hid (∀ u, Kept X u → ∀ k, k < l → Kept X u ∧ u.cell? ⟨w.heap.size, 2, none⟩ = some (.int .i64 n) ∧ u.cell? ⟨w.heap.size, 3, none⟩ = some (.slice (some ⟨b, off, none⟩) l cap) ∧ u.cell? ⟨b, off + k, none⟩ = some (.int .i64 (L.getD k 0))) := fun u ku k hk => ⟨ku, (hM.bl ku.bl).c2, (hM.bl ku.bl).c3, HR.out u ku k hk⟩
  go_enter Try.func69, Try.ntmps69
  go_upto_region 1 with fail
  rw [← hX]
  clear hX
  go_wp2_with fail
  go_loopw [4] (fun iv wr => ∃ k : Nat, k ≤ l ∧ iv = .int .i64 k ∧ Hid (stp n (L.drop k) k = P) ∧ Kept X wr) (fun iv _ => l - (intOf iv).toNat)
  case atStart => exact ⟨0, Nat.zero_le _, rfl, H0, Kept.refl _⟩
  case round =>
    clear H0
    obtain ⟨k, hk, rfl, hst, kk⟩ := hrel
    have m3 := (hM.bl kk.bl).c3
    by_cases hkl : k < l
    · have KF2 := KF.out k hkl
      have KN2 := KN.out k hkl
      have HSk : Hid (∀ u, Kept X u → Kept X u ∧ u.cell? ⟨w.heap.size, 2, none⟩ = some (.int .i64 n) ∧ u.cell? ⟨w.heap.size, 3, none⟩ = some (.slice (some ⟨b, off, none⟩) l cap) ∧ u.cell? ⟨b, off + k, none⟩ = some (.int .i64 (L.getD k 0))) := fun u ku => HS.out u ku k hkl
      have h4 := HC4.out k
      have z1 : IntKind.i64.wrap ((k : Int) + 1) = (k : Int) + 1 := by rw [wrap_i64]; omega
      have kd := kk.drew
      by_cases hc3 : cls (L.getD k 0) n < 3
      · have hPk : Hid (stp n (L.drop (k + 1)) (k + 1) = P) := (HF.out k hkl hc3).symm.trans hst.out
        have KF3 : Hid (∀ u, Kept X u → Calls Try.prog 94 #[.int .i64 (L.getD k 0), .int .i64 n] u fun e w' => e = .returned (.bool true) ∧ Kept X w') := fun u ku => by have := KF2 u ku; rw [decide_eq_true hc3] at this; exact this
        generalize L.getD k 0 = d at *
        clear hc3 h4 hst HN HI HF HE HC4 KF KN KF2 KN2 HR HS
        go_upto_region 4 with fail
        go_region_held (fun u => Kept X u ∧ u.cell? ⟨w.heap.size, 2, none⟩ = some (.int .i64 n) ∧ u.cell? ⟨w.heap.size, 3, none⟩ = some (.slice (some ⟨b, off, none⟩) l cap) ∧ u.cell? ⟨b, off + k, none⟩ = some (.int .i64 d)) (first | assumption | exact HSk.out _ kd | exact HSk.out _ (by assumption)) (first | (go_at_call 94; refine (KF3.out _ (by first | exact kd | assumption)).mono ?_; rintro e w3 ⟨rfl, k3⟩))
        go_wp2_with fail
        go_roundw
        case rel => exact ⟨k + 1, by omega, by go_num, hPk, k3⟩
        case measure => simp [intOf]; omega
      · have KF3 : Hid (∀ u, Kept X u → Calls Try.prog 94 #[.int .i64 (L.getD k 0), .int .i64 n] u fun e w' => e = .returned (.bool false) ∧ Kept X w') := fun u ku => by have := KF2 u ku; rw [decide_eq_false hc3] at this; exact this
        rcases (show cls (L.getD k 0) n = 4 ∨ cls (L.getD k 0) n = 3 by omega) with hc | hc
        · have hPk : Hid (P = ((k : Int), 30)) := hst.out.symm.trans (HN.out k hkl hc)
          have KN3 : Hid (∀ u, Kept X u → Calls Try.prog 95 #[.int .i64 (L.getD k 0), .int .i64 n] u fun e w' => e = .returned (.bool true) ∧ Kept X w') := fun u ku => by have := KN2 u ku; rw [hc] at this; exact this
          generalize L.getD k 0 = d at *
          clear hc3 hc h4 hst HN HI HF HE HC4 KF KN KF2 KN2 HR HS
          go_upto_region 4 with fail
          go_region_held (fun u => Kept X u ∧ u.cell? ⟨w.heap.size, 2, none⟩ = some (.int .i64 n) ∧ u.cell? ⟨w.heap.size, 3, none⟩ = some (.slice (some ⟨b, off, none⟩) l cap) ∧ u.cell? ⟨b, off + k, none⟩ = some (.int .i64 d)) (first | assumption | exact HSk.out _ kd | exact HSk.out _ (by assumption)) (first | (go_at_call 94; refine (KF3.out _ (by first | exact kd | assumption)).mono ?_; rintro e w3 ⟨rfl, k3⟩))
          have kd3 := k3.drew
          go_upto_region 6 with fail
          go_region_held (fun u => Kept X u ∧ u.cell? ⟨w.heap.size, 2, none⟩ = some (.int .i64 n) ∧ u.cell? ⟨w.heap.size, 3, none⟩ = some (.slice (some ⟨b, off, none⟩) l cap) ∧ u.cell? ⟨b, off + k, none⟩ = some (.int .i64 d)) (first | assumption | exact HSk.out _ kd3 | exact HSk.out _ (by assumption)) (first | (go_at_call 95; refine (KN3.out _ (by first | exact kd3 | assumption)).mono ?_; rintro e w4 ⟨rfl, k4⟩))
          go_wp2_with fail
          exact bodyPost_ret (v := .tuple #[.int .i64 k, .int .i64 30]) (by simp [results, Try.results69, go_sem]) rfl ⟨by rw [hPk.out], hK.trans k4⟩
        · have hPk : Hid (P = ((k : Int), 31)) := hst.out.symm.trans (HI.out k hkl hc)
          have KN3 : Hid (∀ u, Kept X u → Calls Try.prog 95 #[.int .i64 (L.getD k 0), .int .i64 n] u fun e w' => e = .returned (.bool false) ∧ Kept X w') := fun u ku => by have := KN2 u ku; rw [hc] at this; exact this
          generalize L.getD k 0 = d at *
          clear hc3 hc h4 hst HN HI HF HE HC4 KF KN KF2 KN2 HR HS
          go_upto_region 4 with fail
          go_region_held (fun u => Kept X u ∧ u.cell? ⟨w.heap.size, 2, none⟩ = some (.int .i64 n) ∧ u.cell? ⟨w.heap.size, 3, none⟩ = some (.slice (some ⟨b, off, none⟩) l cap) ∧ u.cell? ⟨b, off + k, none⟩ = some (.int .i64 d)) (first | assumption | exact HSk.out _ kd | exact HSk.out _ (by assumption)) (first | (go_at_call 94; refine (KF3.out _ (by first | exact kd | assumption)).mono ?_; rintro e w3 ⟨rfl, k3⟩))
          have kd3 := k3.drew
          go_upto_region 6 with fail
          go_region_held (fun u => Kept X u ∧ u.cell? ⟨w.heap.size, 2, none⟩ = some (.int .i64 n) ∧ u.cell? ⟨w.heap.size, 3, none⟩ = some (.slice (some ⟨b, off, none⟩) l cap) ∧ u.cell? ⟨b, off + k, none⟩ = some (.int .i64 d)) (first | assumption | exact HSk.out _ kd3 | exact HSk.out _ (by assumption)) (first | (go_at_call 95; refine (KN3.out _ (by first | exact kd3 | assumption)).mono ?_; rintro e w4 ⟨rfl, k4⟩))
          go_wp2_with fail
          exact bodyPost_ret (v := .tuple #[.int .i64 k, .int .i64 31]) (by simp [results, Try.results69, go_sem]) rfl ⟨by rw [hPk.out], hK.trans k4⟩
    · obtain rfl : k = l := by omega
      have hPk : Hid (P = (0, 0)) := hst.out.symm.trans HE.out
      clear hst HN HI HF HE HC4 KF KN HR HS
      go_wp2_with fail
      exact bodyPost_ret (v := .tuple #[.int .i64 0, .int .i64 0]) (by simp [results, Try.results69, go_sem]) rfl ⟨by rw [hPk.out], hK.trans kk⟩
end Go.Proofs.Ytcjgdfnbjbboeaa
