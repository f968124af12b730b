/- The laws of chapter 23: the sample. -/
import Derived.Test.YtphkdkenopkbbaaVZ
namespace Go.Proofs.Ytphkdkenopkbbaa
open Go.ChangeShapes Go.WideShapes Go.ChangeAt Go.RowKit
set_option linter.unusedVariables false
set_option linter.unusedSimpArgs false

abbrev smA : Mat := ⟨1, 2, 64, [4607182418800017408, -9223372036854775808]⟩
abbrev smB : Mat := ⟨1, 1, 32, [1065353216]⟩
def smp : Sta := ⟨7, 2, 1, [smA, smB], [[smA], []], 5, -9⟩
theorem sl_new (w : World) (L : List Int) (g : Nat) (hne : L ≠ []) (hl : L.length ≤ 100) (h : ∀ i, i < L.length → w.cell? ⟨g, i, none⟩ = some (.int .i64 (L.getD i 0))) : Sl w (.slice (some ⟨g, 0, none⟩) L.length L.length) L := by
  refine ⟨_, _, rfl, Nat.le_refl _, by simp [maxLen]; omega, fun _ => ⟨g, 0, rfl, ?_, fun i hi => by rw [Nat.zero_add]; exact h i hi⟩⟩
  have h0 : 0 < L.length := by
    cases L with
    | nil => exact absurd rfl hne
    | cons a l => simp
  exact World.block_lt_of_cell? _ _ (h 0 h0)
set_option maxHeartbeats 4000000 in
set_option maxRecDepth 100000 in
theorem sample_any (w : World) : Calls Try.prog 12 #[] w fun e w' => ∃ v, e = .returned v ∧ StI w' v smp ∧ Kept w w' := by
  go_enter Try.func12, Try.ntmps12
  go_wp2
  have hb : ∀ (u : World) (vs : List Value) (t : TypeId) (n : Nat), u.heap.size = n → Bk (u.alloc (.cells vs.toArray t)) n vs := fun u vs t n e => by rw [← e]; exact Bk.new u vs t
  refine bodyPost_ret (v := .agg #[.int .i64 7, .int .i64 2, .int .i64 1, .slice (some ⟨w.heap.size + 1 + 1 + 1 + 1 + 1, 0, none⟩) 2 2, .slice (some ⟨w.heap.size + 1 + 1 + 1 + 1 + 1 + 1 + 1, 0, none⟩) 2 2, .int .i64 5, .int .i64 (-9)]) (by simp [results, Try.results12, go_sem]) rfl ?_
  obtain ⟨X, hX⟩ : ∃ X, ((((((((w.alloc (.cells #[.int .i64 7, .int .i64 2, .int .i64 1, .slice (some ⟨w.heap.size + 1 + 1 + 1 + 1 + 1, 0, none⟩) 2 2, .slice (some ⟨w.heap.size + 1 + 1 + 1 + 1 + 1 + 1 + 1, 0, none⟩) 2 2, .int .i64 5, .int .i64 (-9)] 25)).alloc (.cells #[.int .i64 4607182418800017408, .int .i64 (-9223372036854775808)] 3)).alloc (.cells #[.int .i64 1, .int .i64 2, .int .i64 64, .slice (some ⟨w.heap.size + 1, 0, none⟩) 2 2] 52)).alloc (.cells #[.int .i64 1065353216] 3)).alloc (.cells #[.int .i64 1, .int .i64 1, .int .i64 32, .slice (some ⟨w.heap.size + 1 + 1 + 1, 0, none⟩) 1 1] 52)).alloc (.cells #[.int .i64 1, .int .i64 2, .int .i64 64, .slice (some ⟨w.heap.size + 1, 0, none⟩) 2 2, .int .i64 1, .int .i64 1, .int .i64 32, .slice (some ⟨w.heap.size + 1 + 1 + 1, 0, none⟩) 1 1] 52)).alloc (.cells #[.int .i64 1, .int .i64 2, .int .i64 64, .slice (some ⟨w.heap.size + 1, 0, none⟩) 2 2] 52)).alloc (.cells #[.slice (some ⟨w.heap.size + 1 + 1 + 1 + 1 + 1 + 1, 0, none⟩) 1 1, .slice none 0 0] 22)) = X := ⟨_, rfl⟩
  have q1 : Bk X (w.heap.size + 1) [.int .i64 4607182418800017408, .int .i64 (-9223372036854775808)] := by rw [← hX]; exact (hb (w.alloc (.cells #[.int .i64 7, .int .i64 2, .int .i64 1, .slice (some ⟨w.heap.size + 1 + 1 + 1 + 1 + 1, 0, none⟩) 2 2, .slice (some ⟨w.heap.size + 1 + 1 + 1 + 1 + 1 + 1 + 1, 0, none⟩) 2 2, .int .i64 5, .int .i64 (-9)] 25)) [.int .i64 4607182418800017408, .int .i64 (-9223372036854775808)] 3 (w.heap.size + 1) (by simp)).kept (((((((Kept.refl _).alloc _ _).alloc _ _).alloc _ _).alloc _ _).alloc _ _).alloc _ _)
  have q3 : Bk X (w.heap.size + 1 + 1 + 1) [.int .i64 1065353216] := by rw [← hX]; exact (hb (((w.alloc (.cells #[.int .i64 7, .int .i64 2, .int .i64 1, .slice (some ⟨w.heap.size + 1 + 1 + 1 + 1 + 1, 0, none⟩) 2 2, .slice (some ⟨w.heap.size + 1 + 1 + 1 + 1 + 1 + 1 + 1, 0, none⟩) 2 2, .int .i64 5, .int .i64 (-9)] 25)).alloc (.cells #[.int .i64 4607182418800017408, .int .i64 (-9223372036854775808)] 3)).alloc (.cells #[.int .i64 1, .int .i64 2, .int .i64 64, .slice (some ⟨w.heap.size + 1, 0, none⟩) 2 2] 52)) [.int .i64 1065353216] 3 (w.heap.size + 1 + 1 + 1) (by simp)).kept (((((Kept.refl _).alloc _ _).alloc _ _).alloc _ _).alloc _ _)
  have q5 : Bk X (w.heap.size + 1 + 1 + 1 + 1 + 1) [.int .i64 1, .int .i64 2, .int .i64 64, .slice (some ⟨w.heap.size + 1, 0, none⟩) 2 2, .int .i64 1, .int .i64 1, .int .i64 32, .slice (some ⟨w.heap.size + 1 + 1 + 1, 0, none⟩) 1 1] := by rw [← hX]; exact (hb (((((w.alloc (.cells #[.int .i64 7, .int .i64 2, .int .i64 1, .slice (some ⟨w.heap.size + 1 + 1 + 1 + 1 + 1, 0, none⟩) 2 2, .slice (some ⟨w.heap.size + 1 + 1 + 1 + 1 + 1 + 1 + 1, 0, none⟩) 2 2, .int .i64 5, .int .i64 (-9)] 25)).alloc (.cells #[.int .i64 4607182418800017408, .int .i64 (-9223372036854775808)] 3)).alloc (.cells #[.int .i64 1, .int .i64 2, .int .i64 64, .slice (some ⟨w.heap.size + 1, 0, none⟩) 2 2] 52)).alloc (.cells #[.int .i64 1065353216] 3)).alloc (.cells #[.int .i64 1, .int .i64 1, .int .i64 32, .slice (some ⟨w.heap.size + 1 + 1 + 1, 0, none⟩) 1 1] 52)) [.int .i64 1, .int .i64 2, .int .i64 64, .slice (some ⟨w.heap.size + 1, 0, none⟩) 2 2, .int .i64 1, .int .i64 1, .int .i64 32, .slice (some ⟨w.heap.size + 1 + 1 + 1, 0, none⟩) 1 1] 52 (w.heap.size + 1 + 1 + 1 + 1 + 1) (by simp)).kept (((Kept.refl _).alloc _ _).alloc _ _)
  have q6 : Bk X (w.heap.size + 1 + 1 + 1 + 1 + 1 + 1) [.int .i64 1, .int .i64 2, .int .i64 64, .slice (some ⟨w.heap.size + 1, 0, none⟩) 2 2] := by rw [← hX]; exact (hb ((((((w.alloc (.cells #[.int .i64 7, .int .i64 2, .int .i64 1, .slice (some ⟨w.heap.size + 1 + 1 + 1 + 1 + 1, 0, none⟩) 2 2, .slice (some ⟨w.heap.size + 1 + 1 + 1 + 1 + 1 + 1 + 1, 0, none⟩) 2 2, .int .i64 5, .int .i64 (-9)] 25)).alloc (.cells #[.int .i64 4607182418800017408, .int .i64 (-9223372036854775808)] 3)).alloc (.cells #[.int .i64 1, .int .i64 2, .int .i64 64, .slice (some ⟨w.heap.size + 1, 0, none⟩) 2 2] 52)).alloc (.cells #[.int .i64 1065353216] 3)).alloc (.cells #[.int .i64 1, .int .i64 1, .int .i64 32, .slice (some ⟨w.heap.size + 1 + 1 + 1, 0, none⟩) 1 1] 52)).alloc (.cells #[.int .i64 1, .int .i64 2, .int .i64 64, .slice (some ⟨w.heap.size + 1, 0, none⟩) 2 2, .int .i64 1, .int .i64 1, .int .i64 32, .slice (some ⟨w.heap.size + 1 + 1 + 1, 0, none⟩) 1 1] 52)) [.int .i64 1, .int .i64 2, .int .i64 64, .slice (some ⟨w.heap.size + 1, 0, none⟩) 2 2] 52 (w.heap.size + 1 + 1 + 1 + 1 + 1 + 1) (by simp)).kept ((Kept.refl _).alloc _ _)
  have q7 : Bk X (w.heap.size + 1 + 1 + 1 + 1 + 1 + 1 + 1) [.slice (some ⟨w.heap.size + 1 + 1 + 1 + 1 + 1 + 1, 0, none⟩) 1 1, .slice none 0 0] := by rw [← hX]; exact (hb (((((((w.alloc (.cells #[.int .i64 7, .int .i64 2, .int .i64 1, .slice (some ⟨w.heap.size + 1 + 1 + 1 + 1 + 1, 0, none⟩) 2 2, .slice (some ⟨w.heap.size + 1 + 1 + 1 + 1 + 1 + 1 + 1, 0, none⟩) 2 2, .int .i64 5, .int .i64 (-9)] 25)).alloc (.cells #[.int .i64 4607182418800017408, .int .i64 (-9223372036854775808)] 3)).alloc (.cells #[.int .i64 1, .int .i64 2, .int .i64 64, .slice (some ⟨w.heap.size + 1, 0, none⟩) 2 2] 52)).alloc (.cells #[.int .i64 1065353216] 3)).alloc (.cells #[.int .i64 1, .int .i64 1, .int .i64 32, .slice (some ⟨w.heap.size + 1 + 1 + 1, 0, none⟩) 1 1] 52)).alloc (.cells #[.int .i64 1, .int .i64 2, .int .i64 64, .slice (some ⟨w.heap.size + 1, 0, none⟩) 2 2, .int .i64 1, .int .i64 1, .int .i64 32, .slice (some ⟨w.heap.size + 1 + 1 + 1, 0, none⟩) 1 1] 52)).alloc (.cells #[.int .i64 1, .int .i64 2, .int .i64 64, .slice (some ⟨w.heap.size + 1, 0, none⟩) 2 2] 52)) [.slice (some ⟨w.heap.size + 1 + 1 + 1 + 1 + 1 + 1, 0, none⟩) 1 1, .slice none 0 0] 22 (w.heap.size + 1 + 1 + 1 + 1 + 1 + 1 + 1) (by simp)).kept (Kept.refl _)
  have kX : Kept w X := by rw [← hX]; exact (((((((((Kept.refl w).alloc _ _).alloc _ _).alloc _ _).alloc _ _).alloc _ _).alloc _ _).alloc _ _).alloc _ _)
  rw [hX]
  clear hX
  have sA : Sl X (.slice (some ⟨w.heap.size + 1, 0, none⟩) 2 2) smA.L := sl_new X [4607182418800017408, -9223372036854775808] (w.heap.size + 1) (by simp) (by decide) (fun i hi => by
    have h2 : i < 2 := hi
    obtain rfl | rfl : i = 0 ∨ i = 1 := by omega
    all_goals exact q1.c _ _ rfl)
  have sB : Sl X (.slice (some ⟨w.heap.size + 1 + 1 + 1, 0, none⟩) 1 1) smB.L := sl_new X [1065353216] (w.heap.size + 1 + 1 + 1) (by simp) (by decide) (fun i hi => by
    have h2 : i < 1 := hi
    obtain rfl : i = 0 := by omega
    exact q3.c _ _ rfl)
  have mA5 : MC X (w.heap.size + 1 + 1 + 1 + 1 + 1) (0 + 0 * 4) (some ⟨w.heap.size + 1, 0, none⟩) 2 smA := ⟨q5.c 0 _ rfl, q5.c 1 _ rfl, q5.c 2 _ rfl, q5.c 3 _ rfl, sA⟩
  have nn5 : MC X (w.heap.size + 1 + 1 + 1 + 1 + 1) (0 + 1 * 4) (some ⟨w.heap.size + 1 + 1 + 1, 0, none⟩) 1 smB := ⟨q5.c 4 _ rfl, q5.c 5 _ rfl, q5.c 6 _ rfl, q5.c 7 _ rfl, sB⟩
  have mA6 : MC X (w.heap.size + 1 + 1 + 1 + 1 + 1 + 1) (0 + 0 * 4) (some ⟨w.heap.size + 1, 0, none⟩) 2 smA := ⟨q6.c 0 _ rfl, q6.c 1 _ rfl, q6.c 2 _ rfl, q6.c 3 _ rfl, sA⟩
  have lP : MlI X (.slice (some ⟨w.heap.size + 1 + 1 + 1 + 1 + 1, 0, none⟩) 2 2) smp.P := ⟨_, 2, rfl, by decide, fun _ => ⟨_, 0, rfl, fun i m hi => by
    have h2 : i < 2 := (List.getElem?_eq_some_iff.1 hi).1
    obtain rfl | rfl : i = 0 ∨ i = 1 := by omega
    · cases hi; exact ⟨_, _, mA5⟩
    · cases hi; exact ⟨_, _, nn5⟩⟩⟩
  have l1 : MlI X (.slice (some ⟨w.heap.size + 1 + 1 + 1 + 1 + 1 + 1, 0, none⟩) 1 1) [smA] := ⟨_, 1, rfl, by decide, fun _ => ⟨_, 0, rfl, fun i m hi => by
    have h2 : i < 1 := (List.getElem?_eq_some_iff.1 hi).1
    obtain rfl : i = 0 := by omega
    cases hi; exact ⟨_, _, mA6⟩⟩⟩
  have l2 : MlI X (.slice none 0 0) [] := ⟨_, 0, rfl, by decide, fun h => absurd rfl h⟩
  have lQ : LlI X (.slice (some ⟨w.heap.size + 1 + 1 + 1 + 1 + 1 + 1 + 1, 0, none⟩) 2 2) smp.Q := ⟨_, 2, rfl, by decide, fun _ => ⟨_, 0, rfl, fun i l hi => by
    have h2 : i < 2 := (List.getElem?_eq_some_iff.1 hi).1
    obtain rfl | rfl : i = 0 ∨ i = 1 := by omega
    · cases hi; exact ⟨_, q7.c 0 _ rfl, l1⟩
    · cases hi; exact ⟨_, q7.c 1 _ rfl, l2⟩⟩⟩
  exact ⟨_, rfl, ⟨_, _, rfl, lP, lQ⟩, kX⟩

theorem smp_frm : Frm smp := by
  have hA : matOk smA := ⟨by decide, fun i hi => by
    have h2 : i < 2 := hi
    obtain rfl | rfl : i = 0 ∨ i = 1 := by omega
    all_goals decide⟩
  have hB : matOk smB := ⟨by decide, fun i hi => by
    have h2 : i < 1 := hi
    obtain rfl : i = 0 := by omega
    decide⟩
  refine ⟨by decide, by decide, by decide, by decide, by decide, fun i m hi => ?_, fun i l hi => ?_⟩
  · have h2 : i < 2 := (List.getElem?_eq_some_iff.1 hi).1
    obtain rfl | rfl : i = 0 ∨ i = 1 := by omega
    · cases hi; exact hA
    · cases hi; exact hB
  · have h2 : i < 2 := (List.getElem?_eq_some_iff.1 hi).1
    obtain rfl | rfl : i = 0 ∨ i = 1 := by omega
    · cases hi
      refine ⟨by decide, fun i m hi => ?_⟩
      have h2 : i < 1 := (List.getElem?_eq_some_iff.1 hi).1
      obtain rfl : i = 0 := by omega
      cases hi; exact hA
    · cases hi
      exact ⟨by decide, fun i m hi => by simp at hi⟩
theorem smp_rg : SRg smp := by
  have hA : MRg smA := fun x hx => by simp at hx; omega
  have hB : MRg smB := fun x hx => by simp at hx; omega
  refine ⟨by decide, by decide, fun m hm => ?_, fun l hl m hm => ?_⟩
  · simp only [smp, List.mem_cons, List.not_mem_nil, or_false] at hm
    rcases hm with rfl | rfl <;> assumption
  · simp only [smp, List.mem_cons, List.not_mem_nil, or_false] at hl
    rcases hl with rfl | rfl
    · simp only [List.mem_cons, List.not_mem_nil, or_false] at hm; subst hm; exact hA
    · cases hm
theorem smp_len : (enc smp).length = 105 := by
  have h := enc_len smp_frm
  have h2 : szS smp = 105 := by decide
  omega
end Go.Proofs.Ytphkdkenopkbbaa
