/- orders: Shuffle and Pick of package rng against the document's own; what is answered is kept. -/
import Derived.Test.YtakdnodgcdddeaaGR
import Derived.Test.YtakdnodgcdddeaaK7b
import Derived.Test.YtakdnodgcdddeaaG9
import Derived.Laws.StructEq
namespace Go.Proofs.Ytakdnodgcdddeaa
open Go.ChangeShapes Go.WideShapes Go.ChangeAt Go.RowKit
set_option linter.unusedVariables false
set_option linter.unusedSimpArgs false

theorem Rw.below {w w' : World} {v : Value} {e : TypeId} {V : List Value} (h : Rw w v e V) (k : Below w.heap.size w w') : Rw w' v e V := by
  rcases h with h | ⟨g, cap, rfl, ho⟩
  · exact .inl h
  · have hl := ho.lt
    obtain ⟨cur, hg, r⟩ := ho
    exact .inr ⟨g, cap, rfl, ⟨cur, (k.block g hl).trans hg, r⟩⟩
theorem KeepAt.below {w0 w w' : World} {kb : Nat} {vL vW : Value} {E : List Ent} (h : KeepAt w0 w kb vL vW E) (k : Below w.heap.size w w') : KeepAt w0 w' kb vL vW E :=
  ⟨⟨h.kept.below.trans (k.mono h.kept.below.size)⟩, (k.block kb (lt_of_block h.cells)).trans h.cells, h.rows.below k, h.was.below k, fun x hx => ⟨(h.each x hx).1.below k, (h.each x hx).2.1.below k, (h.each x hx).2.2⟩, h.apart, h.new⟩
theorem Dw.grwS {S : List Nat} {w w' : World} {b : Nat} {s t a : Int} (h : Dw w b s t a) (k : GrwS S w w') (hne : b ∉ S) : Dw w' b s t a := by
  have hb : w'.heap[b]? = w.heap[b]? := k.block b h.1.lt hne
  exact ⟨⟨(World.cell?_of_block (a := ⟨b, 0, none⟩) hb).trans h.1.1, (World.cell?_of_block (a := ⟨b, 1, none⟩) hb).trans h.1.2.1, (World.cell?_of_block (a := ⟨b, 2, none⟩) hb).trans h.1.2.2⟩, fun o => (World.frozen?_of_block (a := ⟨b, o, none⟩) hb).trans (h.2 o)⟩
theorem Own.grwS {S : List Nat} {w w' : World} {g cap : Nat} {L : List Int} (h : Own w g cap L) (k : GrwS S w w') (hne : g ∉ S) : Own w' g cap L := own_v.2 ((own_v.1 h).grwS k hne)
theorem MR.slS {H : Nat} {S : List Nat} {w w' : World} {v : Value} {M : List Int} (h : MR H w v M) (k : GrwS S w w') (hS : ∀ b ∈ S, b < H) : Sl w' v M := by
  rcases h with ⟨rfl, rfl⟩ | ⟨g, cap, rfl, hg, ho⟩
  · exact ⟨none, 0, rfl, Nat.le_refl _, by simp [maxLen], fun h => absurd rfl h⟩
  · exact (ho.grwS k (fun hm => by have := hS g hm; omega)).sl
theorem Own.rw {w : World} {g cap : Nat} {L : List Int} (h : Own w g cap L) (n : Nat) (hn : L.length = n) : Rw w (.slice (some ⟨g, 0, none⟩) n cap) 3 (ints L) :=
  .inr ⟨g, cap, by rw [List.length_map, hn], own_v.1 h⟩
theorem in_blks {kb : Nat} {vL vW : Value} {E : List Ent} {b : Nat} (h : b ∈ kb :: (blk vL ++ blk vW)) : b ∈ blks kb vL vW E := by
  unfold blks
  simp only [List.mem_cons, List.mem_append] at h ⊢
  rcases h with h | h | h
  · exact .inl h
  · exact .inr (.inl (.inl h))
  · exact .inr (.inl (.inr h))

/-- What lies beside what is kept stays; what is kept comes to lie where it lay, or in new blocks. -/
def Stay (w w' : World) (kb : Nat) (vL vW vL' vW' : Value) : Prop := (∀ b, b < w.heap.size → b ∉ kb :: (blk vL ++ blk vW) → w'.heap[b]? = w.heap[b]?) ∧ (∀ b ∈ kb :: (blk vL' ++ blk vW'), b ∈ kb :: (blk vL ++ blk vW) ∨ w.heap.size ≤ b) ∧ w.heap.size ≤ w'.heap.size
theorem stay_kept {w w' : World} {kb : Nat} {vL vW : Value} (k : Kept w w') : Stay w w' kb vL vW vL vW := ⟨fun b hb _ => k.below.block b hb, fun b hb => .inl hb, k.below.size⟩
theorem Stay.trans {w w1 w2 : World} {kb : Nat} {vL vW vL1 vW1 vL2 vW2 : Value} (h : Stay w w1 kb vL vW vL1 vW1) (k : Stay w1 w2 kb vL1 vW1 vL2 vW2) : Stay w w2 kb vL vW vL2 vW2 := by
  refine ⟨fun b hb hn => ?_, fun b hb => ?_, Nat.le_trans h.2.2 k.2.2⟩
  · refine (k.1 b (Nat.lt_of_lt_of_le hb h.2.2) (fun hm => ?_)).trans (h.1 b hb hn)
    rcases h.2.1 b hm with h1 | h1
    · exact hn h1
    · omega
  · rcases k.2.1 b hb with h1 | h1
    · exact h.2.1 b h1
    · exact .inr (Nat.le_trans h.2.2 h1)

set_option maxHeartbeats 4000000 in
set_option maxRecDepth 100000 in
theorem orders_neg_a (w0 w : World) (kb : Nat) (vL vW : Value) (E : List Ent) (hK : KeepAt w0 w kb vL vW E) (s t a n m : Int) (hn : n < 0) (hm : m < 0) : Calls Try.prog 12 #[.pointer (some ⟨kb, 0, none⟩), .agg #[.int .i64 s, .int .i64 t, .int .i64 a], .int .i64 n, .int .i64 m] w fun e w' => e = .returned (.bool true) ∧ ∃ vL' vW' E', KeepAt w0 w' kb vL' vW' E' ∧ E'.length ≤ E.length + 2 ∧ Stay w w' kb vL vW vL' vW' := by
  have H1 : Hid (∀ u, Calls Try.prog 18 #[.agg #[.int .i64 s, .int .i64 t, .int .i64 a], .int .i64 n] u fun e w' => e = .returned (.tuple #[.slice none 0 0, .agg #[.int .i64 0, .int .i64 0, .int .i64 0], .int .i64 1]) ∧ Kept u w') := fun u => shuffle_neg s t a n hn u
  have H2 : Hid (∀ u, Calls Try.prog 27 #[.agg #[.int .i64 s, .int .i64 t, .int .i64 a], .int .i64 n, .int .i64 m] u fun e w' => e = .returned (.tuple #[.slice none 0 0, .agg #[.int .i64 0, .int .i64 0, .int .i64 0], .int .i64 1]) ∧ Kept u w') := fun u => pick_arg s t a n m (.inl hn) u
  have HKP : Hid (KeepAt w0 w kb vL vW E) := hK
  clear hK
  go_enter Try.func12, Try.ntmps12
  go_upto_region 1 with fail
  have f0 := dw_new w s t a 23
  have kk : Kept w (w.alloc (.cells #[.int .i64 s, .int .i64 t, .int .i64 a] 23)) := (Kept.refl w).alloc #[.int .i64 s, .int .i64 t, .int .i64 a] 23
  obtain ⟨X0, hX⟩ : ∃ X, X = w.alloc (.cells #[.int .i64 s, .int .i64 t, .int .i64 a] 23) := ⟨_, rfl⟩
  have hX0s : X0.heap.size = w.heap.size + 1 := by rw [hX]; simp
  rw [← hX] at f0 kk ⊢
  clear hX
  have D0 := f0
  obtain ⟨⟨c0, c1, c2⟩, fz⟩ := D0
  go_wp2_with fail
  refine (H1.out _).mono ?_
  rintro e w1 ⟨rfl, hk⟩
  clear c0 c1 c2 fz
  go_upto_region 2 with fail
  have kA := (Kept.refl w1).alloc #[.int .i64 0, .int .i64 0, .int .i64 0] 23
  have f1 := (f0.kept hk).kept kA
  have k1 := (kk.trans hk).trans kA
  have e1 := dw_new w1 0 0 0 23
  obtain ⟨C1, hC⟩ : ∃ C, C = w1.heap.size := ⟨_, rfl⟩
  obtain ⟨X1, hX⟩ : ∃ X, X = w1.alloc (.cells #[.int .i64 0, .int .i64 0, .int .i64 0] 23) := ⟨_, rfl⟩
  rw [← hC] at e1 ⊢
  rw [← hX] at f1 k1 e1 ⊢
  clear hX hC hk kA f0 kk
  have D0 := f1
  obtain ⟨⟨c0, c1, c2⟩, fz⟩ := D0
  go_wp2_with fail
  refine (H2.out _).mono ?_
  rintro e w2 ⟨rfl, hk⟩
  clear c0 c1 c2 fz
  go_upto_region 3 with fail
  have kA := (Kept.refl w2).alloc #[.int .i64 0, .int .i64 0, .int .i64 0] 23
  have e2 := (e1.kept hk).kept kA
  have k2 := (k1.trans hk).trans kA
  have g2 := dw_new w2 0 0 0 23
  obtain ⟨C2, hC⟩ : ∃ C, C = w2.heap.size := ⟨_, rfl⟩
  obtain ⟨X2, hX⟩ : ∃ X, X = w2.alloc (.cells #[.int .i64 0, .int .i64 0, .int .i64 0] 23) := ⟨_, rfl⟩
  rw [← hC] at g2 ⊢
  rw [← hX] at e2 k2 g2 ⊢
  clear hX hC hk kA f1 k1 e1
  obtain ⟨⟨c0, c1, c2⟩, fz⟩ := e2
  obtain ⟨⟨c3, c4, c5⟩, fy⟩ := g2
  go_wp2
  go_ret
  exact ⟨rfl, vL, vW, E, HKP.out.keptOn k2, by omega, stay_kept k2⟩

set_option maxHeartbeats 4000000 in
set_option maxRecDepth 100000 in
theorem orders_neg_b (w0 w : World) (kb : Nat) (vL vW : Value) (E : List Ent) (hK : KeepAt w0 w kb vL vW E) (s t a n m : Int) (hn : n < 0) (hm : ¬ m < 0) : Calls Try.prog 12 #[.pointer (some ⟨kb, 0, none⟩), .agg #[.int .i64 s, .int .i64 t, .int .i64 a], .int .i64 n, .int .i64 m] w fun e w' => e = .returned (.bool true) ∧ ∃ vL' vW' E', KeepAt w0 w' kb vL' vW' E' ∧ E'.length ≤ E.length + 2 ∧ Stay w w' kb vL vW vL' vW' := by
  have q1 : n < m := by omega
  have q2 : decide (m < 0) = false := decide_eq_false hm
  have H1 : Hid (∀ u, Calls Try.prog 18 #[.agg #[.int .i64 s, .int .i64 t, .int .i64 a], .int .i64 n] u fun e w' => e = .returned (.tuple #[.slice none 0 0, .agg #[.int .i64 0, .int .i64 0, .int .i64 0], .int .i64 1]) ∧ Kept u w') := fun u => shuffle_neg s t a n hn u
  have H2 : Hid (∀ u, Calls Try.prog 27 #[.agg #[.int .i64 s, .int .i64 t, .int .i64 a], .int .i64 n, .int .i64 m] u fun e w' => e = .returned (.tuple #[.slice none 0 0, .agg #[.int .i64 0, .int .i64 0, .int .i64 0], .int .i64 1]) ∧ Kept u w') := fun u => pick_arg s t a n m (.inl hn) u
  have HKP : Hid (KeepAt w0 w kb vL vW E) := hK
  clear hK
  go_enter Try.func12, Try.ntmps12
  go_upto_region 1 with fail
  have f0 := dw_new w s t a 23
  have kk : Kept w (w.alloc (.cells #[.int .i64 s, .int .i64 t, .int .i64 a] 23)) := (Kept.refl w).alloc #[.int .i64 s, .int .i64 t, .int .i64 a] 23
  obtain ⟨X0, hX⟩ : ∃ X, X = w.alloc (.cells #[.int .i64 s, .int .i64 t, .int .i64 a] 23) := ⟨_, rfl⟩
  have hX0s : X0.heap.size = w.heap.size + 1 := by rw [hX]; simp
  rw [← hX] at f0 kk ⊢
  clear hX
  have D0 := f0
  obtain ⟨⟨c0, c1, c2⟩, fz⟩ := D0
  go_wp2_with fail
  refine (H1.out _).mono ?_
  rintro e w1 ⟨rfl, hk⟩
  clear c0 c1 c2 fz
  go_upto_region 2 with fail
  have kA := (Kept.refl w1).alloc #[.int .i64 0, .int .i64 0, .int .i64 0] 23
  have f1 := (f0.kept hk).kept kA
  have k1 := (kk.trans hk).trans kA
  have e1 := dw_new w1 0 0 0 23
  obtain ⟨C1, hC⟩ : ∃ C, C = w1.heap.size := ⟨_, rfl⟩
  obtain ⟨X1, hX⟩ : ∃ X, X = w1.alloc (.cells #[.int .i64 0, .int .i64 0, .int .i64 0] 23) := ⟨_, rfl⟩
  rw [← hC] at e1 ⊢
  rw [← hX] at f1 k1 e1 ⊢
  clear hX hC hk kA f0 kk
  have D0 := f1
  obtain ⟨⟨c0, c1, c2⟩, fz⟩ := D0
  go_wp2_with fail
  refine (H2.out _).mono ?_
  rintro e w2 ⟨rfl, hk⟩
  clear c0 c1 c2 fz
  go_upto_region 3 with fail
  have kA := (Kept.refl w2).alloc #[.int .i64 0, .int .i64 0, .int .i64 0] 23
  have e2 := (e1.kept hk).kept kA
  have k2 := (k1.trans hk).trans kA
  have g2 := dw_new w2 0 0 0 23
  obtain ⟨C2, hC⟩ : ∃ C, C = w2.heap.size := ⟨_, rfl⟩
  obtain ⟨X2, hX⟩ : ∃ X, X = w2.alloc (.cells #[.int .i64 0, .int .i64 0, .int .i64 0] 23) := ⟨_, rfl⟩
  rw [← hC] at g2 ⊢
  rw [← hX] at e2 k2 g2 ⊢
  clear hX hC hk kA f1 k1 e1
  obtain ⟨⟨c0, c1, c2⟩, fz⟩ := e2
  obtain ⟨⟨c3, c4, c5⟩, fy⟩ := g2
  go_wp2
  go_ret
  exact ⟨rfl, vL, vW, E, HKP.out.keptOn k2, by omega, stay_kept k2⟩

set_option maxHeartbeats 4000000 in
set_option maxRecDepth 100000 in
theorem orders_long_a (w0 w : World) (kb : Nat) (vL vW : Value) (E : List Ent) (hK : KeepAt w0 w kb vL vW E) (s t a n m : Int) (hn : 65536 < n) (hm : m < 0) : Calls Try.prog 12 #[.pointer (some ⟨kb, 0, none⟩), .agg #[.int .i64 s, .int .i64 t, .int .i64 a], .int .i64 n, .int .i64 m] w fun e w' => e = .returned (.bool true) ∧ ∃ vL' vW' E', KeepAt w0 w' kb vL' vW' E' ∧ E'.length ≤ E.length + 2 ∧ Stay w w' kb vL vW vL' vW' := by
  have q3 : ¬ n < 0 := by omega
  have H1 : Hid (∀ u, Calls Try.prog 18 #[.agg #[.int .i64 s, .int .i64 t, .int .i64 a], .int .i64 n] u fun e w' => e = .returned (.tuple #[.slice none 0 0, .agg #[.int .i64 0, .int .i64 0, .int .i64 0], .int .i64 2]) ∧ Kept u w') := fun u => shuffle_long s t a n hn u
  have H2 : Hid (∀ u, Calls Try.prog 27 #[.agg #[.int .i64 s, .int .i64 t, .int .i64 a], .int .i64 n, .int .i64 m] u fun e w' => e = .returned (.tuple #[.slice none 0 0, .agg #[.int .i64 0, .int .i64 0, .int .i64 0], .int .i64 1]) ∧ Kept u w') := fun u => pick_arg s t a n m (.inr (.inl hm)) u
  have HKP : Hid (KeepAt w0 w kb vL vW E) := hK
  clear hK
  go_enter Try.func12, Try.ntmps12
  go_upto_region 1 with fail
  have f0 := dw_new w s t a 23
  have kk : Kept w (w.alloc (.cells #[.int .i64 s, .int .i64 t, .int .i64 a] 23)) := (Kept.refl w).alloc #[.int .i64 s, .int .i64 t, .int .i64 a] 23
  obtain ⟨X0, hX⟩ : ∃ X, X = w.alloc (.cells #[.int .i64 s, .int .i64 t, .int .i64 a] 23) := ⟨_, rfl⟩
  have hX0s : X0.heap.size = w.heap.size + 1 := by rw [hX]; simp
  rw [← hX] at f0 kk ⊢
  clear hX
  have D0 := f0
  obtain ⟨⟨c0, c1, c2⟩, fz⟩ := D0
  go_wp2_with fail
  refine (H1.out _).mono ?_
  rintro e w1 ⟨rfl, hk⟩
  clear c0 c1 c2 fz
  go_upto_region 2 with fail
  have kA := (Kept.refl w1).alloc #[.int .i64 0, .int .i64 0, .int .i64 0] 23
  have f1 := (f0.kept hk).kept kA
  have k1 := (kk.trans hk).trans kA
  have e1 := dw_new w1 0 0 0 23
  obtain ⟨C1, hC⟩ : ∃ C, C = w1.heap.size := ⟨_, rfl⟩
  obtain ⟨X1, hX⟩ : ∃ X, X = w1.alloc (.cells #[.int .i64 0, .int .i64 0, .int .i64 0] 23) := ⟨_, rfl⟩
  rw [← hC] at e1 ⊢
  rw [← hX] at f1 k1 e1 ⊢
  clear hX hC hk kA f0 kk
  have D0 := f1
  obtain ⟨⟨c0, c1, c2⟩, fz⟩ := D0
  go_wp2_with fail
  refine (H2.out _).mono ?_
  rintro e w2 ⟨rfl, hk⟩
  clear c0 c1 c2 fz
  go_upto_region 3 with fail
  have kA := (Kept.refl w2).alloc #[.int .i64 0, .int .i64 0, .int .i64 0] 23
  have e2 := (e1.kept hk).kept kA
  have k2 := (k1.trans hk).trans kA
  have g2 := dw_new w2 0 0 0 23
  obtain ⟨C2, hC⟩ : ∃ C, C = w2.heap.size := ⟨_, rfl⟩
  obtain ⟨X2, hX⟩ : ∃ X, X = w2.alloc (.cells #[.int .i64 0, .int .i64 0, .int .i64 0] 23) := ⟨_, rfl⟩
  rw [← hC] at g2 ⊢
  rw [← hX] at e2 k2 g2 ⊢
  clear hX hC hk kA f1 k1 e1
  obtain ⟨⟨c0, c1, c2⟩, fz⟩ := e2
  obtain ⟨⟨c3, c4, c5⟩, fy⟩ := g2
  go_wp2
  go_ret
  exact ⟨rfl, vL, vW, E, HKP.out.keptOn k2, by omega, stay_kept k2⟩

set_option maxHeartbeats 4000000 in
set_option maxRecDepth 100000 in
theorem orders_long_b (w0 w : World) (kb : Nat) (vL vW : Value) (E : List Ent) (hK : KeepAt w0 w kb vL vW E) (s t a n m : Int) (hn : 65536 < n) (hm : ¬ m < 0) (hm2 : n < m) : Calls Try.prog 12 #[.pointer (some ⟨kb, 0, none⟩), .agg #[.int .i64 s, .int .i64 t, .int .i64 a], .int .i64 n, .int .i64 m] w fun e w' => e = .returned (.bool true) ∧ ∃ vL' vW' E', KeepAt w0 w' kb vL' vW' E' ∧ E'.length ≤ E.length + 2 ∧ Stay w w' kb vL vW vL' vW' := by
  have q3 : ¬ n < 0 := by omega
  have q2 : decide (m < 0) = false := decide_eq_false hm
  have H1 : Hid (∀ u, Calls Try.prog 18 #[.agg #[.int .i64 s, .int .i64 t, .int .i64 a], .int .i64 n] u fun e w' => e = .returned (.tuple #[.slice none 0 0, .agg #[.int .i64 0, .int .i64 0, .int .i64 0], .int .i64 2]) ∧ Kept u w') := fun u => shuffle_long s t a n hn u
  have H2 : Hid (∀ u, Calls Try.prog 27 #[.agg #[.int .i64 s, .int .i64 t, .int .i64 a], .int .i64 n, .int .i64 m] u fun e w' => e = .returned (.tuple #[.slice none 0 0, .agg #[.int .i64 0, .int .i64 0, .int .i64 0], .int .i64 1]) ∧ Kept u w') := fun u => pick_arg s t a n m (.inr (.inr hm2)) u
  have HKP : Hid (KeepAt w0 w kb vL vW E) := hK
  clear hK
  go_enter Try.func12, Try.ntmps12
  go_upto_region 1 with fail
  have f0 := dw_new w s t a 23
  have kk : Kept w (w.alloc (.cells #[.int .i64 s, .int .i64 t, .int .i64 a] 23)) := (Kept.refl w).alloc #[.int .i64 s, .int .i64 t, .int .i64 a] 23
  obtain ⟨X0, hX⟩ : ∃ X, X = w.alloc (.cells #[.int .i64 s, .int .i64 t, .int .i64 a] 23) := ⟨_, rfl⟩
  have hX0s : X0.heap.size = w.heap.size + 1 := by rw [hX]; simp
  rw [← hX] at f0 kk ⊢
  clear hX
  have D0 := f0
  obtain ⟨⟨c0, c1, c2⟩, fz⟩ := D0
  go_wp2_with fail
  refine (H1.out _).mono ?_
  rintro e w1 ⟨rfl, hk⟩
  clear c0 c1 c2 fz
  go_upto_region 2 with fail
  have kA := (Kept.refl w1).alloc #[.int .i64 0, .int .i64 0, .int .i64 0] 23
  have f1 := (f0.kept hk).kept kA
  have k1 := (kk.trans hk).trans kA
  have e1 := dw_new w1 0 0 0 23
  obtain ⟨C1, hC⟩ : ∃ C, C = w1.heap.size := ⟨_, rfl⟩
  obtain ⟨X1, hX⟩ : ∃ X, X = w1.alloc (.cells #[.int .i64 0, .int .i64 0, .int .i64 0] 23) := ⟨_, rfl⟩
  rw [← hC] at e1 ⊢
  rw [← hX] at f1 k1 e1 ⊢
  clear hX hC hk kA f0 kk
  have D0 := f1
  obtain ⟨⟨c0, c1, c2⟩, fz⟩ := D0
  go_wp2_with fail
  refine (H2.out _).mono ?_
  rintro e w2 ⟨rfl, hk⟩
  clear c0 c1 c2 fz
  go_upto_region 3 with fail
  have kA := (Kept.refl w2).alloc #[.int .i64 0, .int .i64 0, .int .i64 0] 23
  have e2 := (e1.kept hk).kept kA
  have k2 := (k1.trans hk).trans kA
  have g2 := dw_new w2 0 0 0 23
  obtain ⟨C2, hC⟩ : ∃ C, C = w2.heap.size := ⟨_, rfl⟩
  obtain ⟨X2, hX⟩ : ∃ X, X = w2.alloc (.cells #[.int .i64 0, .int .i64 0, .int .i64 0] 23) := ⟨_, rfl⟩
  rw [← hC] at g2 ⊢
  rw [← hX] at e2 k2 g2 ⊢
  clear hX hC hk kA f1 k1 e1
  obtain ⟨⟨c0, c1, c2⟩, fz⟩ := e2
  obtain ⟨⟨c3, c4, c5⟩, fy⟩ := g2
  go_wp2
  go_ret
  exact ⟨rfl, vL, vW, E, HKP.out.keptOn k2, by omega, stay_kept k2⟩

set_option maxHeartbeats 4000000 in
set_option maxRecDepth 100000 in
theorem orders_long_c (w0 w : World) (kb : Nat) (vL vW : Value) (E : List Ent) (hK : KeepAt w0 w kb vL vW E) (s t a n m : Int) (hn : 65536 < n) (hm : ¬ m < 0) (hm2 : ¬ n < m) : Calls Try.prog 12 #[.pointer (some ⟨kb, 0, none⟩), .agg #[.int .i64 s, .int .i64 t, .int .i64 a], .int .i64 n, .int .i64 m] w fun e w' => e = .returned (.bool true) ∧ ∃ vL' vW' E', KeepAt w0 w' kb vL' vW' E' ∧ E'.length ≤ E.length + 2 ∧ Stay w w' kb vL vW vL' vW' := by
  have q3 : ¬ n < 0 := by omega
  have q2 : decide (m < 0) = false := decide_eq_false hm
  have q4 : decide (n < m) = false := decide_eq_false hm2
  have H1 : Hid (∀ u, Calls Try.prog 18 #[.agg #[.int .i64 s, .int .i64 t, .int .i64 a], .int .i64 n] u fun e w' => e = .returned (.tuple #[.slice none 0 0, .agg #[.int .i64 0, .int .i64 0, .int .i64 0], .int .i64 2]) ∧ Kept u w') := fun u => shuffle_long s t a n hn u
  have H2 : Hid (∀ u, Calls Try.prog 27 #[.agg #[.int .i64 s, .int .i64 t, .int .i64 a], .int .i64 n, .int .i64 m] u fun e w' => e = .returned (.tuple #[.slice none 0 0, .agg #[.int .i64 0, .int .i64 0, .int .i64 0], .int .i64 2]) ∧ Kept u w') := fun u => pick_long s t a n m hn (by omega) (by omega) u
  have HKP : Hid (KeepAt w0 w kb vL vW E) := hK
  clear hK
  go_enter Try.func12, Try.ntmps12
  go_upto_region 1 with fail
  have f0 := dw_new w s t a 23
  have kk : Kept w (w.alloc (.cells #[.int .i64 s, .int .i64 t, .int .i64 a] 23)) := (Kept.refl w).alloc #[.int .i64 s, .int .i64 t, .int .i64 a] 23
  obtain ⟨X0, hX⟩ : ∃ X, X = w.alloc (.cells #[.int .i64 s, .int .i64 t, .int .i64 a] 23) := ⟨_, rfl⟩
  have hX0s : X0.heap.size = w.heap.size + 1 := by rw [hX]; simp
  rw [← hX] at f0 kk ⊢
  clear hX
  have D0 := f0
  obtain ⟨⟨c0, c1, c2⟩, fz⟩ := D0
  go_wp2_with fail
  refine (H1.out _).mono ?_
  rintro e w1 ⟨rfl, hk⟩
  clear c0 c1 c2 fz
  go_upto_region 2 with fail
  have kA := (Kept.refl w1).alloc #[.int .i64 0, .int .i64 0, .int .i64 0] 23
  have f1 := (f0.kept hk).kept kA
  have k1 := (kk.trans hk).trans kA
  have e1 := dw_new w1 0 0 0 23
  obtain ⟨C1, hC⟩ : ∃ C, C = w1.heap.size := ⟨_, rfl⟩
  obtain ⟨X1, hX⟩ : ∃ X, X = w1.alloc (.cells #[.int .i64 0, .int .i64 0, .int .i64 0] 23) := ⟨_, rfl⟩
  rw [← hC] at e1 ⊢
  rw [← hX] at f1 k1 e1 ⊢
  clear hX hC hk kA f0 kk
  have D0 := f1
  obtain ⟨⟨c0, c1, c2⟩, fz⟩ := D0
  go_wp2_with fail
  refine (H2.out _).mono ?_
  rintro e w2 ⟨rfl, hk⟩
  clear c0 c1 c2 fz
  go_upto_region 3 with fail
  have kA := (Kept.refl w2).alloc #[.int .i64 0, .int .i64 0, .int .i64 0] 23
  have e2 := (e1.kept hk).kept kA
  have k2 := (k1.trans hk).trans kA
  have g2 := dw_new w2 0 0 0 23
  obtain ⟨C2, hC⟩ : ∃ C, C = w2.heap.size := ⟨_, rfl⟩
  obtain ⟨X2, hX⟩ : ∃ X, X = w2.alloc (.cells #[.int .i64 0, .int .i64 0, .int .i64 0] 23) := ⟨_, rfl⟩
  rw [← hC] at g2 ⊢
  rw [← hX] at e2 k2 g2 ⊢
  clear hX hC hk kA f1 k1 e1
  obtain ⟨⟨c0, c1, c2⟩, fz⟩ := e2
  obtain ⟨⟨c3, c4, c5⟩, fy⟩ := g2
  go_wp2
  go_ret
  exact ⟨rfl, vL, vW, E, HKP.out.keptOn k2, by omega, stay_kept k2⟩

end Go.Proofs.Ytakdnodgcdddeaa
