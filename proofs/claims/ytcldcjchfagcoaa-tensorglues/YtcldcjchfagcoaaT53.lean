/- The document's Form and Window; where Form, Cut, Window refuse. -/
import Derived.Test.YtcldcjchfagcoaaT51
import Derived.Test.YtcldcjchfagcoaaT47
namespace Go.Proofs.Ytcldcjchfagcoaa
open Go.ChangeShapes Go.WideShapes Go.ChangeAt Go.RowKit
set_option linter.unusedVariables false
set_option linter.unusedSimpArgs false

abbrev zeroMove : Value := .agg #[.int .i64 0, .int .i64 0, .int .i64 0, .slice none 0 0]

set_option maxHeartbeats 1000000 in
set_option maxRecDepth 100000 in
theorem rform_no (r c n rs cs : Int) (hn : n = 64 ∨ n = 32) (hr : 1 ≤ r) (hc : 1 ≤ c) (hrc : r * c ≤ 4096) (h : ckS rs cs n ≠ 0 ∨ rs * cs ≠ r * c) (w : World) : Calls Try.prog 36 #[.agg #[.int .i64 r, .int .i64 c, .int .i64 n], .int .i64 rs, .int .i64 cs] w fun e w' => e = .returned (.tuple #[zeroMove, .int .i64 4]) ∧ Kept w w' := by
  have hlm2 := le_of_mul hr hc
  have z2 : IntKind.i64.wrap (r * c) = r * c := by rw [wrap_i64]; omega
  rcases (show rs < 1 ∨ (¬ rs < 1 ∧ cs < 1) ∨ (¬ rs < 1 ∧ ¬ cs < 1 ∧ 4096 < rs) ∨ (¬ rs < 1 ∧ ¬ cs < 1 ∧ ¬ 4096 < rs ∧ 4096 < cs) ∨ (¬ rs < 1 ∧ ¬ cs < 1 ∧ ¬ 4096 < rs ∧ ¬ 4096 < cs) by omega) with g1 | ⟨g1, g2⟩ | ⟨g1, g2, g3⟩ | ⟨g1, g2, g3, g4⟩ | ⟨g1, g2, g3, g4⟩
  all_goals first
    | (have z3 : (rs * cs != r * c) = true := by
        have : rs * cs ≠ r * c := by
          rcases h with h | h
          · intro he
            exact h (ckS_one hn (by omega) (by omega) (by omega))
          · exact h
        simpa using this
       have z1 : IntKind.i64.wrap (rs * cs) = rs * cs := by
        have h1 : rs * cs ≤ 4096 * 4096 := Int.mul_le_mul (by omega) (by omega) (by omega) (by omega)
        have h2 := le_of_mul (show 1 ≤ rs by omega) (show 1 ≤ cs by omega)
        rw [wrap_i64]
        omega
       clear h hn hr hc hrc hlm2
       go_enter Try.func36, Try.ntmps36
       go_wp2_with fail
       exact bodyPost_ret (v := .tuple #[zeroMove, .int .i64 4]) (by simp [results, Try.results36, go_sem]) rfl ⟨rfl, ((Kept.refl w).alloc _ _).alloc _ _⟩)
    | (clear h hn hr hc hrc hlm2
       go_enter Try.func36, Try.ntmps36
       go_wp2_with fail
       exact bodyPost_ret (v := .tuple #[zeroMove, .int .i64 4]) (by simp [results, Try.results36, go_sem]) rfl ⟨rfl, ((Kept.refl w).alloc _ _).alloc _ _⟩)

set_option maxHeartbeats 1000000 in
set_option maxRecDepth 100000 in
theorem rcut_no (r c n r0 r1 c0 c1 : Int) (h : r0 < 0 ∨ r < r1 ∨ r1 ≤ r0 ∨ c0 < 0 ∨ c < c1 ∨ c1 ≤ c0) (w : World) : Calls Try.prog 37 #[.agg #[.int .i64 r, .int .i64 c, .int .i64 n], .int .i64 r0, .int .i64 r1, .int .i64 c0, .int .i64 c1] w fun e w' => e = .returned (.tuple #[zeroMove, .int .i64 5]) ∧ Kept w w' := by
  rcases (show r0 < 0 ∨ (¬ r0 < 0 ∧ r < r1) ∨ (¬ r0 < 0 ∧ ¬ r < r1 ∧ r1 ≤ r0) ∨ (¬ r0 < 0 ∧ ¬ r < r1 ∧ ¬ r1 ≤ r0 ∧ c0 < 0) ∨ (¬ r0 < 0 ∧ ¬ r < r1 ∧ ¬ r1 ≤ r0 ∧ ¬ c0 < 0 ∧ c < c1) ∨ (¬ r0 < 0 ∧ ¬ r < r1 ∧ ¬ r1 ≤ r0 ∧ ¬ c0 < 0 ∧ ¬ c < c1 ∧ c1 ≤ c0) by omega) with g1 | ⟨g1, g2⟩ | ⟨g1, g2, g3⟩ | ⟨g1, g2, g3, g4⟩ | ⟨g1, g2, g3, g4, g5⟩ | ⟨g1, g2, g3, g4, g5, g6⟩
  all_goals
    clear h
    go_enter Try.func37, Try.ntmps37
    go_wp2_with fail
    exact bodyPost_ret (v := .tuple #[zeroMove, .int .i64 5]) (by simp [results, Try.results37, go_sem]) rfl ⟨rfl, ((Kept.refl w).alloc _ _).alloc _ _⟩

theorem ckS_ckR {r c n : Int} (hn : n = 64 ∨ n = 32) (hr : 1 ≤ r) (hc : 1 ≤ c) : ckS r c n = ckR r c := by
  unfold ckS
  rw [if_neg (fun k => k hn), if_neg (by omega)]

set_option maxHeartbeats 1000000 in
set_option maxRecDepth 100000 in
theorem rwindow_no (r c n f t : Int) (hn : n = 64 ∨ n = 32) (hr : 1 ≤ r) (hc1 : 1 ≤ c) (hc : c ≤ 4096) (h : wnE r c f t ≠ 0) (w : World) : Calls Try.prog 38 #[.agg #[.int .i64 r, .int .i64 c, .int .i64 n], .int .i64 f, .int .i64 t] w fun e w' => e = .returned (.tuple #[zeroMove, .int .i64 (wnE r c f t)]) ∧ Kept w w' := by
  by_cases h1 : 1 < r
  · have hE : wnE r c f t = 4 := by unfold wnE; rw [if_pos h1]
    rw [hE]
    have g1 : (r != 1) = true := by simp; omega
    clear hE h h1 hr
    go_enter Try.func38, Try.ntmps38
    go_wp2_with fail
    exact bodyPost_ret (v := .tuple #[zeroMove, .int .i64 4]) (by simp [results, Try.results38, go_sem]) rfl ⟨rfl, ((Kept.refl w).alloc _ _).alloc _ _⟩
  · obtain rfl : r = 1 := by omega
    by_cases h2 : min f t < 1
    · have hE : wnE 1 c f t = 1 := by unfold wnE; rw [if_neg h1, if_pos h2]
      rw [hE]
      rcases (show f < 1 ∨ (¬ f < 1 ∧ t < 1) by omega) with g1 | ⟨g1, g2⟩
      all_goals
        clear hE h h1 h2
        go_enter Try.func38, Try.ntmps38
        go_wp2_with fail
        exact bodyPost_ret (v := .tuple #[zeroMove, .int .i64 1]) (by simp [results, Try.results38, go_sem]) rfl ⟨rfl, ((Kept.refl w).alloc _ _).alloc _ _⟩
    · have g1 : ¬ f < 1 := by omega
      have g2 : ¬ t < 1 := by omega
      by_cases h3 : c < f
      · have hE : wnE 1 c f t = 4 := by unfold wnE; rw [if_neg h1, if_neg h2, if_pos h3]
        rw [hE]
        clear hE h h1 h2
        go_enter Try.func38, Try.ntmps38
        go_wp2_with fail
        exact bodyPost_ret (v := .tuple #[zeroMove, .int .i64 4]) (by simp [results, Try.results38, go_sem]) rfl ⟨rfl, ((Kept.refl w).alloc _ _).alloc _ _⟩
      · have hE : wnE 1 c f t = ckR (wnr c f t) f := by unfold wnE; rw [if_neg h1, if_neg h2, if_neg h3]
        have ht0 : ¬ t = 0 := by omega
        have x1 : IntKind.i64.wrap (c - f) = c - f := by rw [wrap_i64]; omega
        have hq : 0 ≤ Int.tdiv (c - f) t ∧ Int.tdiv (c - f) t ≤ 4096 := ⟨Int.tdiv_nonneg (by omega) (by omega), by
          rw [Int.tdiv_eq_ediv_of_nonneg (by omega)]
          exact Int.le_trans (Int.ediv_le_self _ (by omega)) (by omega)⟩
        have x2 : IntKind.i64.wrap (Int.tdiv (c - f) t) = Int.tdiv (c - f) t := by rw [wrap_i64]; omega
        have x3 : IntKind.i64.wrap (Int.tdiv (c - f) t + 1) = wnr c f t := by unfold wnr; rw [wrap_i64]; omega
        have KS : Hid (∀ u, Calls Try.prog 20 #[.int .i64 (wnr c f t), .int .i64 f, .int .i64 n] u fun e w' => e = .returned (.int .i64 (wnE 1 c f t)) ∧ u = w') := fun u => by
          have := sized_any (wnr c f t) f n u
          rw [ckS_ckR hn (by unfold wnr; omega) (by omega), ← hE] at this
          exact this
        generalize wnE 1 c f t = q at *
        have hqb : (q != 0) = true := by simpa using h
        generalize wnr c f t = rw_ at *
        generalize hdv : Int.tdiv (c - f) t = dv at *
        clear hE h hq h1 h2 hn
        go_enter Try.func38, Try.ntmps38
        go_wp2_with (first | (go_at_call 20; refine (KS.out _).mono ?_; rintro e w1 ⟨rfl, rfl⟩))
        exact bodyPost_ret (v := .tuple #[zeroMove, .int .i64 q]) (by simp [results, Try.results38, go_sem]) rfl ⟨rfl, ((Kept.refl w).alloc _ _).alloc _ _⟩

end Go.Proofs.Ytcldcjchfagcoaa
