/- RngOrders. -/
import Derived.Test.YtakdnodgcdddeaaGO2
namespace Go.Proofs.Ytakdnodgcdddeaa
open Go.ChangeShapes Go.WideShapes Go.ChangeAt Go.RowKit
set_option linter.unusedVariables false
set_option linter.unusedSimpArgs false

theorem orders_true (w0 w : World) (kb : Nat) (vL vW : Value) (E : List Ent) (hK : KeepAt w0 w kb vL vW E) (hE : E.length + 2 ≤ 300) (s t a n m : Int) : Calls Try.prog 12 #[.pointer (some ⟨kb, 0, none⟩), .agg #[.int .i64 s, .int .i64 t, .int .i64 a], .int .i64 n, .int .i64 m] w fun e w' => e = .returned (.bool true) ∧ ∃ vL' vW' E', KeepAt w0 w' kb vL' vW' E' ∧ E'.length ≤ E.length + 2 := by
  by_cases h0 : n < 0
  · by_cases hm : m < 0
    · exact orders_neg_a w0 w kb vL vW E hK s t a n m h0 hm
    · exact orders_neg_b w0 w kb vL vW E hK s t a n m h0 hm
  · by_cases h1 : 65536 < n
    · by_cases hm : m < 0
      · exact orders_long_a w0 w kb vL vW E hK s t a n m h1 hm
      · by_cases hm2 : n < m
        · exact orders_long_b w0 w kb vL vW E hK s t a n m h1 hm hm2
        · exact orders_long_c w0 w kb vL vW E hK s t a n m h1 hm hm2
    · obtain ⟨N, rfl⟩ : ∃ N : Nat, n = (N : Int) := ⟨n.toNat, by omega⟩
      by_cases hm : m < 0
      · exact orders_bad_a w0 w kb vL vW E hK hE s t a N m (by omega) hm
      · by_cases hm2 : (N : Int) < m
        · exact orders_bad_b w0 w kb vL vW E hK hE s t a N m (by omega) hm hm2
        · obtain ⟨M, rfl⟩ : ∃ M : Nat, m = (M : Int) := ⟨m.toNat, by omega⟩
          exact orders_ok w0 w kb vL vW E hK hE s t a N M (by omega) (by omega)

theorem keep_new (w0 w : World) (h : Bel w0 w) : KeepAt w0 (w.alloc (.cells #[.slice none 0 0, .slice none 0 0] 29)) w.heap.size (.slice none 0 0) (.slice none 0 0) [] := by
  refine ⟨h.trans ((Kept.refl w).alloc _ _), heap_alloc_new w _, .inl ⟨rfl, rfl⟩, .inl ⟨rfl, rfl⟩, fun x hx => (by cases hx), ?_, fun b hb => ?_⟩
  · simp [blks, blk]
  · have : b = w.heap.size := by simpa [blks, blk] using hb
    rw [this]; exact h.below.size

set_option maxHeartbeats 2000000 in
set_option maxRecDepth 100000 in
theorem rngOrders_true (s t a n m : Int) (w : World) : Calls Try.prog 5 #[.agg #[.int .i64 s, .int .i64 t, .int .i64 a], .int .i64 n, .int .i64 m] w fun e w' => e = .returned (.bool true) ∧ Below w.heap.size w w' := by
  have d0 := dr_new w s t a 23
  have k0 := (Kept.refl w).alloc #[.int .i64 s, .int .i64 t, .int .i64 a] 23
  have kn := keep_new w (w.alloc (.cells #[.int .i64 s, .int .i64 t, .int .i64 a] 23)) ⟨k0.below⟩
  have kA := (Kept.refl (w.alloc (.cells #[.int .i64 s, .int .i64 t, .int .i64 a] 23))).alloc #[.slice none 0 0, .slice none 0 0] 29
  rw [show (w.alloc (.cells #[.int .i64 s, .int .i64 t, .int .i64 a] 23)).heap.size = w.heap.size + 1 by simp] at kn
  have d1 := d0.kept kA
  go_enter Try.func5, Try.ntmps5
  go_upto_region 2 with fail
  obtain ⟨X, hX⟩ : ∃ X, X = (w.alloc (.cells #[.int .i64 s, .int .i64 t, .int .i64 a] 23)).alloc (.cells #[.slice none 0 0, .slice none 0 0] 29) := ⟨_, rfl⟩
  rw [← hX] at kn d1 ⊢
  clear hX kA k0 d0
  have HK : Hid (KeepAt w X (w.heap.size + 1) (.slice none 0 0) (.slice none 0 0) []) := kn
  clear kn
  go_wp2_with fail
  refine (galive_true _).mono ?_
  rintro e w1 ⟨rfl, hk1⟩
  obtain ⟨c0, c1, c2⟩ := d1.kept hk1
  go_wp2_with fail
  refine (orders_true w w1 (w.heap.size + 1) _ _ [] (HK.out.keptOn hk1) (by decide) s t a n m).mono ?_
  rintro e w2 ⟨rfl, vL, vW, E, kp, hE⟩
  clear c0 c1 c2
  go_wp2_with fail
  refine (apart_true w w2 (w.heap.size + 1) vL vW E kp (by simp at hE; omega)).mono ?_
  rintro e w3 ⟨rfl, hb⟩
  go_wp2
  go_ret
  exact ⟨rfl, hb.below⟩

end Go.Proofs.Ytakdnodgcdddeaa
