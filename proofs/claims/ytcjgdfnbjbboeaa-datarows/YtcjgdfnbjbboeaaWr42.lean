/- Pick of package data. -/
import Derived.Test.YtcjgdfnbjbboeaaWr38
import Derived.Test.YtcjgdfnbjbboeaaWr41
namespace Go.Proofs.Ytcjgdfnbjbboeaa
open Go.ChangeShapes Go.WideShapes Go.ChangeAt Go.RowKit
set_option linter.unusedVariables false
set_option linter.unusedSimpArgs false

theorem st8_below {W Y : World} {B : Nat} (hk : Below W.heap.size W Y) (hB : W.heap.size ≤ B) (v0 v1 v2 v3 v4 v5 v6 v7 : Value) : Below W.heap.size W (st8w Y B v0 v1 v2 v3 v4 v5 v6 v7) := ((((((((hk.setCell (p := ⟨B, 0, none⟩) hB v0).setCell (p := ⟨B, 1, none⟩) hB v1).setCell (p := ⟨B, 2, none⟩) hB v2).setCell (p := ⟨B, 3, none⟩) hB v3).setCell (p := ⟨B, 4, none⟩) hB v4).setCell (p := ⟨B, 5, none⟩) hB v5).setCell (p := ⟨B, 6, none⟩) hB v6).setCell (p := ⟨B, 7, none⟩) hB v7)

set_option maxHeartbeats 8000000 in
set_option maxRecDepth 100000 in
/-- Check's error -/
theorem pick_e (r c n : Int) (a : Option Addr) (p : Nat) (L : List Int) (r' c' n' : Int) (a' : Option Addr) (p' : Nat) (L' : List Int) (J : Value) (w : World) (x q : Int) (hq : q ≠ 0) (KC : Hid (∀ u, Kept w u → Calls Try.prog 30 #[sv8 r c n (.slice a L.length p) r' c' n' (.slice a' L'.length p')] u fun e w' => e = .returned (.tuple #[.int .i64 x, .int .i64 q]) ∧ Below u.heap.size u w')) :
    Calls Try.prog 13 #[sv8 r c n (.slice a L.length p) r' c' n' (.slice a' L'.length p'), J] w fun e w' => e = .returned (.tuple #[sv8 0 0 0 (.slice none 0 0) 0 0 0 (.slice none 0 0), .int .i64 q]) ∧ Below w.heap.size w w' := by
  obtain ⟨X, hXw⟩ : ∃ X, X = (w.alloc (.cells (sl8 r c n (.slice a L.length p) r' c' n' (.slice a' L'.length p')).toArray 26)).alloc (.cells (sl8 0 0 0 (.slice none 0 0) 0 0 0 (.slice none 0 0)).toArray 26) := ⟨_, rfl⟩
  have hK : Kept w X := by rw [hXw]; exact ((Kept.refl w).alloc _ _).alloc _ _
  have hXs : X.heap.size = w.heap.size + 2 := by rw [hXw]; simp
  have hB : Bq X w.heap.size (sl8 r c n (.slice a L.length p) r' c' n' (.slice a' L'.length p')) := by rw [hXw]; exact (Bq.new w _ 26).kept ((Kept.refl _).alloc _ _)
  have hR : Bq X (w.heap.size + 1) (sl8 0 0 0 (.slice none 0 0) 0 0 0 (.slice none 0 0)) := by
    have := Bq.new (w.alloc (.cells (sl8 r c n (.slice a L.length p) r' c' n' (.slice a' L'.length p')).toArray 26)) (sl8 0 0 0 (.slice none 0 0) 0 0 0 (.slice none 0 0)) 26
    rw [hXw]; simpa using this
  have hq2 : (q == 0) = false := by simpa using hq
  go_enter Try.func13, Try.ntmps13
  go_upto_region 1 with fail
  rw [← hXw]
  clear hXw
  have c0 := hB.c 0 _ rfl
  have c1 := hB.c 1 _ rfl
  have c2 := hB.c 2 _ rfl
  have c3 := hB.c 3 _ rfl
  have c4 := hB.c 4 _ rfl
  have c5 := hB.c 5 _ rfl
  have c6 := hB.c 6 _ rfl
  have c7 := hB.c 7 _ rfl
  go_upto_region 2 with (first | (go_at_call 30; refine (KC.out _ hK).mono ?_; rintro e w1 ⟨rfl, b1⟩))
  clear c0 c1 c2 c3 c4 c5 c6 c7
  have hR1 := bq_below hR b1
  have hb1 : Below w.heap.size w w1 := hK.below.trans (b1.mono hK.below.size)
  have d0 := hR1.c 0 _ rfl
  have d1 := hR1.c 1 _ rfl
  have d2 := hR1.c 2 _ rfl
  have d3 := hR1.c 3 _ rfl
  have d4 := hR1.c 4 _ rfl
  have d5 := hR1.c 5 _ rfl
  have d6 := hR1.c 6 _ rfl
  have d7 := hR1.c 7 _ rfl
  have fz := hR1.fz
  go_wp2_with fail
  have hQ := st8 w1 (w.heap.size + 1) _ rfl hR1 (.int .i64 0) (.int .i64 0) (.int .i64 0) (.slice none 0 0) (.int .i64 0) (.int .i64 0) (.int .i64 0) (.slice none 0 0)
  have x0 := hQ.c 0 _ rfl
  have x1 := hQ.c 1 _ rfl
  have x2 := hQ.c 2 _ rfl
  have x3 := hQ.c 3 _ rfl
  have x4 := hQ.c 4 _ rfl
  have x5 := hQ.c 5 _ rfl
  have x6 := hQ.c 6 _ rfl
  have x7 := hQ.c 7 _ rfl
  exact bodyPost_ret (v := .tuple #[sv8 0 0 0 (.slice none 0 0) 0 0 0 (.slice none 0 0), .int .i64 q]) (by simp [results, Try.f13, go_sem, x0, x1, x2, x3, x4, x5, x6, x7]) rfl ⟨rfl, st8_below hb1 (by omega) _ _ _ _ _ _ _ _⟩

end Go.Proofs.Ytcjgdfnbjbboeaa
