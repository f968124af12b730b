/- How a matrix is read. Finite and At of package tensor where they refuse. -/
import Derived.Test.YtckcfdkffjkkbaaT3
namespace Go.Proofs.Ytckcfdkffjkkbaa
open Go.ChangeShapes Go.WideShapes Go.ChangeAt Go.RowKit
set_option linter.unusedVariables false
set_option linter.unusedSimpArgs false

set_option maxHeartbeats 2000000 in
set_option maxRecDepth 100000 in
theorem finite_no (r c n : Int) (ao : Option Addr) (cap : Nat) (L : List Int) (h : ckM r c n L ≠ 0) (w : World) (hS : Sl w (.slice ao L.length cap) L) : Calls Try.prog 12 #[.agg #[.int .i64 r, .int .i64 c, .int .i64 n, .slice ao L.length cap]] w fun e w' => e = .returned (.tuple #[.int .i64 0, .int .i64 (ckM r c n L)]) ∧ Kept w w' := by
  have hK := (Kept.refl w).alloc #[.int .i64 r, .int .i64 c, .int .i64 n, .slice ao L.length cap] 24
  have KC : Hid (Calls Try.prog 11 #[.agg #[.int .i64 r, .int .i64 c, .int .i64 n, .slice ao L.length cap]] (w.alloc (.cells #[.int .i64 r, .int .i64 c, .int .i64 n, .slice ao L.length cap] 24)) fun e w' => e = .returned (.int .i64 (ckM r c n L)) ∧ Kept (w.alloc (.cells #[.int .i64 r, .int .i64 c, .int .i64 n, .slice ao L.length cap] 24)) w') := check_any r c n ao cap L _ (hS.kept hK)
  generalize ckM r c n L = q at *
  have hq : (q != 0) = true := by simpa using h
  clear hS
  generalize L.length = l at *
  go_enter Try.func12, Try.ntmps12
  go_wp2_with (first | (go_at_call 11; refine (KC.out).mono ?_; rintro e w1 ⟨rfl, k1⟩))
  exact bodyPost_ret (v := .tuple #[.int .i64 0, .int .i64 q]) (by simp [results, Try.results12, go_sem]) rfl ⟨rfl, hK.trans k1⟩

set_option maxHeartbeats 2000000 in
set_option maxRecDepth 100000 in
theorem at_no (r c n i j : Int) (ao : Option Addr) (cap : Nat) (L : List Int) (h : ckM r c n L ≠ 0) (w : World) (hS : Sl w (.slice ao L.length cap) L) : Calls Try.prog 13 #[.agg #[.int .i64 r, .int .i64 c, .int .i64 n, .slice ao L.length cap], .int .i64 i, .int .i64 j] w fun e w' => e = .returned (.tuple #[.int .i64 0, .int .i64 (ckM r c n L)]) ∧ Kept w w' := by
  have hK := (Kept.refl w).alloc #[.int .i64 r, .int .i64 c, .int .i64 n, .slice ao L.length cap] 24
  have KC : Hid (Calls Try.prog 11 #[.agg #[.int .i64 r, .int .i64 c, .int .i64 n, .slice ao L.length cap]] (w.alloc (.cells #[.int .i64 r, .int .i64 c, .int .i64 n, .slice ao L.length cap] 24)) fun e w' => e = .returned (.int .i64 (ckM r c n L)) ∧ Kept (w.alloc (.cells #[.int .i64 r, .int .i64 c, .int .i64 n, .slice ao L.length cap] 24)) w') := check_any r c n ao cap L _ (hS.kept hK)
  generalize ckM r c n L = q at *
  have hq : (q != 0) = true := by simpa using h
  clear hS
  generalize L.length = l at *
  go_enter Try.func13, Try.ntmps13
  go_wp2_with (first | (go_at_call 11; refine (KC.out).mono ?_; rintro e w1 ⟨rfl, k1⟩))
  exact bodyPost_ret (v := .tuple #[.int .i64 0, .int .i64 q]) (by simp [results, Try.results13, go_sem]) rfl ⟨rfl, hK.trans k1⟩

set_option maxHeartbeats 2000000 in
set_option maxRecDepth 100000 in
theorem at_out (r c n i j : Int) (ao : Option Addr) (cap : Nat) (L : List Int) (h : ckM r c n L = 0) (ho : i < 0 ∨ j < 0 ∨ r ≤ i ∨ c ≤ j) (w : World) (hS : Sl w (.slice ao L.length cap) L) : Calls Try.prog 13 #[.agg #[.int .i64 r, .int .i64 c, .int .i64 n, .slice ao L.length cap], .int .i64 i, .int .i64 j] w fun e w' => e = .returned (.tuple #[.int .i64 0, .int .i64 5]) ∧ Kept w w' := by
  have hK := (Kept.refl w).alloc #[.int .i64 r, .int .i64 c, .int .i64 n, .slice ao L.length cap] 24
  have hM := M4.new w (.int .i64 r) (.int .i64 c) (.int .i64 n) (.slice ao L.length cap) 24
  have KC : Hid (Calls Try.prog 11 #[.agg #[.int .i64 r, .int .i64 c, .int .i64 n, .slice ao L.length cap]] (w.alloc (.cells #[.int .i64 r, .int .i64 c, .int .i64 n, .slice ao L.length cap] 24)) fun e w' => e = .returned (.int .i64 0) ∧ Kept (w.alloc (.cells #[.int .i64 r, .int .i64 c, .int .i64 n, .slice ao L.length cap] 24)) w') := by
    have := check_any r c n ao cap L _ (hS.kept hK)
    rw [h] at this
    exact this
  clear hS h
  generalize L.length = l at *
  rcases (show min i j < 0 ∨ (¬ min i j < 0 ∧ r ≤ i) ∨ (¬ min i j < 0 ∧ ¬ r ≤ i ∧ c ≤ j) by omega) with g1 | ⟨g1, g2⟩ | ⟨g1, g2, g3⟩
  all_goals
    clear ho
    go_enter Try.func13, Try.ntmps13
    go_wp2_with (first | (go_at_call 11; refine (KC.out).mono ?_; rintro e w1 ⟨rfl, k1⟩; obtain ⟨m0, m1, m2, m3⟩ := hM.bl k1.bl))
    exact bodyPost_ret (v := .tuple #[.int .i64 0, .int .i64 5]) (by simp [results, Try.results13, go_sem]) rfl ⟨rfl, hK.trans k1⟩
end Go.Proofs.Ytckcfdkffjkkbaa
