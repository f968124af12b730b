/- DiskNames: the walk. -/
import Derived.Test.YthaiejmajhmahabDMD
namespace Go.Proofs.Ythaiejmajhmahab
open Go.ChangeShapes Go.WideShapes Go.ChangeAt Go.RowKit Go.Maps
set_option linter.unusedVariables false
set_option linter.unusedSimpArgs false

set_option maxHeartbeats 2000000 in
set_option maxRecDepth 100000 in
theorem diskNames_true (s : ByteArray) (hsz : s.size ≤ maxLen) (w : World) :
    Calls Try.prog 4 #[.string s] w fun e w' => e = .returned (.bool true) ∧ Kept w w' := by
  have HNEW := hid (on1_new 3 100 w (by decide) (by decide) (by decide) (by decide))
  have HSZ := hid hsz
  clear hsz
  go_enter Try.func4, Try.ntmps4
  go_wp2_with fail
  all_goals go_loopw [3, 4] (fun ov iv wr => ∃ (b : Bool) (i : Nat), ov = .bool b ∧ iv = .int .i64 (i : Int) ∧ i ≤ s.size ∧ wr = w ∧ Hid (b = true ↔ (1 ≤ s.size ∧ s.size ≤ 32 ∧ Chrs s i))) (fun _ iv _ => s.size - (intOf iv).toNat)
  case atStart => exact ⟨_, 0, rfl, rfl, Nat.zero_le _, rfl, hid (by rw [decide_eq_true_iff]; refine ⟨fun h => ⟨by omega, by omega, ?_⟩, fun h => by omega⟩; intro j hj hlt; omega)⟩
  case atStart => exact ⟨_, 0, rfl, rfl, Nat.zero_le _, rfl, hid ⟨(fun h => by cases h), fun h => by omega⟩⟩
  all_goals
    obtain ⟨b, i, rfl, rfl, hi, rfl, hb⟩ := hrel
    by_cases hp : i < s.size
    · have hw : wrap64 ((i : Int) + 1) = (i : Int) + 1 := by
        have := HSZ.out
        unfold maxLen at this
        unfold wrap64
        omega
      have HW := hid hw
      clear hw
      obtain ⟨x, hx⟩ : ∃ x : Int, ((s[i]'hp).toNat : Int) = x := ⟨_, rfl⟩
      have hix : ∀ u : World, (Instr.index 9 (.string s) (.int .i64 (i : Int))).run Try.prog u = .ok (.int .u8 x) u := fun u => by
        rw [run_index_string u 9 s .i64 i str_u, dif_pos ⟨by omega, by omega⟩]
        simp [← hx]
      have HX := hid hx
      have HP := hid hp
      clear hx hi
      have hc : chr x ∨ ¬ chr x := Decidable.em _
      rcases hc with hc | hc
      · have HC := hid hc
        unfold chr at hc
        rcases hc with ⟨c1, c2⟩ | ⟨c1, c2⟩ | c1 | c1 | c1
        all_goals
          go_wp2_with fail
          all_goals
            try simp only [HW.out]
            refine ⟨⟨b, i + 1, rfl, by go_num, HP.out, trivial, hid ⟨fun h => ?_, fun h => ?_⟩⟩, ?_⟩
            · obtain ⟨h1, h2, h3⟩ := hb.out.1 h
              refine ⟨h1, h2, ?_⟩
              intro j hj hlt
              by_cases e : j = i
              · subst e
                rw [HX.out]
                exact HC.out
              · exact h3 j hj (by omega)
            · obtain ⟨h1, h2, h3⟩ := h
              exact hb.out.2 ⟨h1, h2, fun j hj hlt => h3 j hj (by omega)⟩
            · have := HP.out
              simp only [intOf]
              omega
      · have HC := hid hc
        unfold chr at hc
        obtain ⟨c1, c2, c3, c4, c5⟩ : (97 ≤ x → 122 < x) ∧ (48 ≤ x → 57 < x) ∧ ¬ x = 45 ∧ ¬ x = 46 ∧ ¬ x = 95 := by omega
        clear hc
        go_wp2_with fail
        all_goals first
          | (exfalso; omega)
          | (refine ⟨⟨false, i + 1, rfl, ?_, HP.out, trivial, hid ⟨fun h => ?_, fun h => ?_⟩⟩, ?_⟩
             · try simp only [HW.out]
               go_num
             · cases h
             · have := h.2.2 i HP.out (Nat.lt_succ_self i)
               rw [HX.out] at this
               exact absurd this HC.out
             · have := HP.out
               try simp only [HW.out]
               simp only [intOf]
               omega)
          | (exfalso; rename_i h; simp at h; omega)
    · obtain rfl : i = s.size := by omega
      have hok : okN s = b := by
        have := hb.out
        rcases b
        · have h2 : ¬ okN s = true := fun h => by
            have := this.2 ((okN_iff s).1 h)
            cases this
          simpa using h2
        · exact (okN_iff s).2 (this.1 rfl)
      clear hi hb
      rcases b
      · have HOK := hid hok
        clear hok
        go_wp2_with (first
          | (go_at_call 16; refine (alive_any _).mono ?_; rintro e u14 ⟨rfl, h14⟩; have H14 := hid h14; clear h14)
          | (go_at_call 11; refine (bR (s := noneN) (t := s) (.inr HOK.out) (by decide) H12.out).mono ?_; rintro e u13 ⟨rfl, h13⟩; have H13 := hid h13; clear h13)
          | (go_at_call 6; refine (bW (s := s) HOK.out (by decide) H11.out).mono ?_; rintro e u12 ⟨rfl, h12⟩; have H12 := hid h12; clear h12)
          | (go_at_call 7; refine (bZ H10.out 0).mono ?_; rintro e u11 ⟨⟨E, rfl⟩, h11⟩; have H11 := hid h11; clear h11)
          | (go_at_call 8; refine (bM (s := s) HOK.out (by decide) H9.out).mono ?_; rintro e u10 ⟨rfl, h10⟩; have H10 := hid h10; clear h10)
          | (go_at_call 11; refine (bR (s := noneN) (t := s) (.inr HOK.out) (by decide) H8.out).mono ?_; rintro e u9 ⟨rfl, h9⟩; have H9 := hid h9; clear h9)
          | (go_at_call 11; refine (bR (s := qN) (t := s) (.inr HOK.out) (by decide) H7.out).mono ?_; rintro e u8 ⟨rfl, h8⟩; have H8 := hid h8; clear h8)
          | (go_at_call 11; refine (bR (s := s) (t := pN) (.inl HOK.out) (by decide) H6.out).mono ?_; rintro e u7 ⟨rfl, h7⟩; have H7 := hid h7; clear h7)
          | (go_at_call 10; refine (bF (s := s) HOK.out (by decide) H5.out).mono ?_; rintro e u6 ⟨rfl, h6⟩; have H6 := hid h6; clear h6)
          | (go_at_call 9; refine (bA (s := s) HOK.out (by decide) H4.out).mono ?_; rintro e u5 ⟨rfl, h5⟩; have H5 := hid h5; clear h5)
          | (go_at_call 14; refine (bD (s := s) HOK.out (by decide) H3.out).mono ?_; rintro e u4 ⟨rfl, h4⟩; have H4 := hid h4; clear h4)
          | (go_at_call 6; refine (bW (s := s) HOK.out (by decide) H2.out).mono ?_; rintro e u3 ⟨rfl, h3⟩; have H3 := hid h3; clear h3)
          | (go_at_call 6; refine (nQ H1.out).mono ?_; rintro e u2 ⟨rfl, h2⟩; have H2 := hid h2; clear h2)
          | (go_at_call 5; refine HNEW.out.mono ?_; rintro e u1 ⟨B, rfl, h1⟩; have H1 := hid h1; clear h1))
        go_ret
        exact ⟨rfl, H13.out.k.trans H14.out⟩
      · have HOK := hid hok
        clear hok
        go_wp2_with (first
          | (go_at_call 16; refine (alive_any _).mono ?_; rintro e u7 ⟨rfl, h7⟩; have H7 := hid h7; clear h7)
          | (go_at_call 8; refine (nM (s := s) HOK.out (by decide) H5.out).mono ?_; rintro e u6 ⟨rfl, h6⟩; have H6 := hid h6; clear h6)
          | (go_at_call 11; refine (nR (s := pN) (t := s) okN_p HOK.out (by decide) H4.out).mono ?_; rintro e u5 ⟨rfl, h5⟩; have H5 := hid h5; clear h5)
          | (go_at_call 11; refine (nR (s := s) (t := pN) HOK.out okN_p (by decide) H3.out).mono ?_; rintro e u4 ⟨rfl, h4⟩; have H4 := hid h4; clear h4)
          | (go_at_call 6; refine (nW (s := s) HOK.out H2.out).mono ?_; rintro e u3 ⟨rfl, h3⟩; have H3 := hid h3; clear h3)
          | (go_at_call 6; refine (nQ H1.out).mono ?_; rintro e u2 ⟨rfl, h2⟩; have H2 := hid h2; clear h2)
          | (go_at_call 5; refine HNEW.out.mono ?_; rintro e u1 ⟨B, rfl, h1⟩; have H1 := hid h1; clear h1))
        go_ret
        exact ⟨rfl, H6.out.trans H7.out⟩
end Go.Proofs.Ythaiejmajhmahab
