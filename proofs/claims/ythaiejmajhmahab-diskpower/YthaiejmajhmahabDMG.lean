/- DiskPower: the walk. -/
import Derived.Test.YthaiejmajhmahabDMF
namespace Go.Proofs.Ythaiejmajhmahab
open Go.ChangeShapes Go.WideShapes Go.ChangeAt Go.RowKit Go.Maps
set_option linter.unusedVariables false
set_option linter.unusedSimpArgs false

set_option maxHeartbeats 2000000 in
set_option maxRecDepth 100000 in
theorem diskPower_true (a : Int) (w : World) :
    Calls Try.prog 3 #[.int .i64 a] w fun e w' => e = .returned (.bool true) ∧ Kept w w' := by
  have HNEW := hid (on1_new 4 100 w (by decide) (by decide) (by decide) (by decide))
  have kc := fun (w : World) (C : Array Value) (n c : Nat) => Lib.run_convert_bytes_const (P := Try.prog) w 27 5 C n c bsl_u u8_u
  obtain ⟨n, hn, hab⟩ := and31 a
  have HN := hid hn
  clear hn
  go_enter Try.func3, Try.ntmps3
  go_wp2_with (first
    | (go_at_call 7; refine (p1 (n := n) H2.out).mono ?_; rintro e u3 ⟨rfl, h3⟩; have H3 := hid h3; clear h3)
    | (go_at_call 6; refine (p0 H1.out _).mono ?_; rintro e u2 ⟨rfl, h2⟩; have H2 := hid h2; clear h2)
    | (go_at_call 5; refine HNEW.out.mono ?_; rintro e u1 ⟨B, rfl, h1⟩; have H1 := hid h1; clear h1))
  go_loopw [5, 6] (fun dv iv wr => ∃ i : Nat, dv = .int .i64 ((min i n : Nat) : Int) ∧ iv = .int .i64 (i : Int) ∧ i ≤ 40 ∧ Hid (On1 w B (3 + 4 * i) (Pw n i) wr)) (fun _ iv _ => 40 - (intOf iv).toNat)
  case atStart => exact ⟨0, by simp, rfl, by decide, H3⟩
  case round =>
    obtain ⟨i, rfl, rfl, hi, hI⟩ := hrel
    by_cases hi4 : i < 40
    · have hcas : (i + 1 < n ∧ E n i = 0 ∧ decide (i + 1 < n) = true ∧ min (i + 1) n = min i n + 1) ∨ (i + 1 = n ∧ E n i = 0 ∧ decide (i + 1 < n) = false ∧ min (i + 1) n = min i n + 1) ∨ (¬ i < n ∧ E n i = 63 ∧ decide (i + 1 < n) = false ∧ min (i + 1) n = min i n) := by
        unfold E
        by_cases h1 : i + 1 < n
        · exact .inl ⟨h1, if_pos (by omega), decide_eq_true h1, by omega⟩
        · by_cases h2 : i + 1 = n
          · exact .inr (.inl ⟨h2, if_pos (by omega), decide_eq_false h1, by omega⟩)
          · exact .inr (.inr ⟨by omega, if_neg (by omega), decide_eq_false h1, by omega⟩)
      obtain ⟨m, hm⟩ : ∃ m : Nat, min i n = m := ⟨_, rfl⟩
      rw [hm] at hcas
      rw [hm]
      have HM := hid (show m ≤ 31 by have := HN.out; omega)
      clear hm
      rcases hcas with ⟨hc, hE, hO, hmm⟩ | ⟨hc, hE, hO, hmm⟩ | ⟨hc, hE, hO, hmm⟩
      all_goals
        have HE := hid hE
        have HO := hid hO
        have HMM := hid hmm
        clear hE hO hmm
        go_wp2_with (first
          | (go_at_call 13; refine (pO H5.out).mono ?_; rintro e u6 ⟨he, rfl⟩; rw [HO.out] at he; subst he)
          | (go_at_call 12; refine (pS HN.out (by omega) H4.out).mono ?_; rintro e u5 ⟨he, h5⟩; rw [HE.out] at he; subst he; have H5 := hid h5; clear h5)
          | (go_at_call 11; refine (pN' HN.out (by omega) H4.out).mono ?_; rintro e u5 ⟨he, h5⟩; rw [HE.out] at he; subst he; have H5 := hid h5; clear h5)
          | (go_at_call 10; refine (pF HN.out (by omega) H4.out).mono ?_; rintro e u5 ⟨he, h5⟩; rw [HE.out] at he; subst he; have H5 := hid h5; clear h5)
          | (go_at_call 9; refine (pA HN.out (by omega) H4.out _).mono ?_; rintro e u5 ⟨he, h5⟩; rw [HE.out] at he; subst he; have H5 := hid h5; clear h5)
          | (go_at_call 8; refine (pM (by omega) hI.out).mono ?_; rintro e u4 ⟨⟨E0, rfl⟩, h4⟩; have H4 := hid h4; clear h4))
      all_goals first
        | (refine ⟨⟨i + 1, ?_, by go_num, by omega, hid (H5.out.imp (by omega) fun _ h => h)⟩, by simp only [intOf]; omega⟩
           first
             | (rw [HMM.out]; done)
             | (rw [HMM.out, show wrap64 ((m : Int) + 1) = ((m + 1 : Nat) : Int) by unfold wrap64; have := HM.out; omega]))
        | (exfalso; rename_i h; simp at h; omega)
    · obtain rfl : i = 40 := by omega
      have hmin : min 40 n = n := by have := HN.out; omega
      rw [hmin]
      have h40 : ¬ 40 < n := by have := HN.out; omega
      have H40 := hid h40
      clear hmin h40
      go_wp2_with (first
        | (go_at_call 12; refine (lS (by decide) H9.out).mono ?_; rintro e u12 ⟨rfl, h12⟩; have H12 := hid h12; clear h12)
        | (go_at_call 13; refine (lO H9.out).mono ?_; rintro e u11 ⟨rfl, rfl⟩)
        | (go_at_call 16; refine (alive_any _).mono ?_; rintro e u9 ⟨rfl, h9⟩; have H9 := hid (H8.out.kept h9); clear h9)
        | (go_at_call 15; refine (pC (by decide) H7.out).mono ?_; rintro e u8 ⟨rfl, h8⟩; have H8 := hid h8; clear h8)
        | (go_at_call 7; refine (pZ H40.out H6.out).mono ?_; rintro e u7 ⟨rfl, h7⟩; have H7 := hid h7; clear h7)
        | (go_at_call 14; refine (pD (by decide) H40.out hI.out).mono ?_; rintro e u6 ⟨rfl, h6⟩; have H6 := hid h6; clear h6))
      go_ret
      exact ⟨rfl, H12.out⟩
end Go.Proofs.Ythaiejmajhmahab
