/- How a matrix is read. Finite and At of package tensor where they refuse. -/
import Derived.Test.YthjcofdcbinliaaT3
namespace Go.Proofs.Ythjcofdcbinliaa
open Go.ChangeShapes Go.WideShapes Go.ChangeAt Go.RowKit
set_option linter.unusedVariables false
set_option linter.unusedSimpArgs false

set_option maxHeartbeats 2000000 in
set_option maxRecDepth 100000 in
theorem finite_no (r c n : Int) (ao : Option Addr) (cap : Nat) (L : List Int) (h : ckM r c n L ≠ 0) (w : World) (hS : Sl w (.slice ao L.length cap) L) : Calls Try.prog 82 #[.agg #[.int .i64 r, .int .i64 c, .int .i64 n, .slice ao L.length cap]] w fun e w' => e = .returned (.tuple #[.int .i64 0, .int .i64 (ckM r c n L)]) ∧ Kept w w' := by
  have hK := (Kept.refl w).alloc #[.int .i64 r, .int .i64 c, .int .i64 n, .slice ao L.length cap] 31
  have KC : Hid (Calls Try.prog 79 #[.agg #[.int .i64 r, .int .i64 c, .int .i64 n, .slice ao L.length cap]] (w.alloc (.cells #[.int .i64 r, .int .i64 c, .int .i64 n, .slice ao L.length cap] 31)) fun e w' => e = .returned (.int .i64 (ckM r c n L)) ∧ Kept (w.alloc (.cells #[.int .i64 r, .int .i64 c, .int .i64 n, .slice ao L.length cap] 31)) w') := check_any r c n ao cap L _ (hS.kept hK)
  generalize ckM r c n L = q at *
  have hq : (q != 0) = true := by simpa using h
  clear hS
  generalize L.length = l at *
  go_enter Try.func82, Try.ntmps82
  go_wp2_with (first | (go_at_call 79; refine (KC.out).mono ?_; rintro e w1 ⟨rfl, k1⟩))
  exact bodyPost_ret (v := .tuple #[.int .i64 0, .int .i64 q]) (by simp [results, Try.results82, go_sem]) rfl ⟨rfl, hK.trans k1⟩

end Go.Proofs.Ythjcofdcbinliaa
