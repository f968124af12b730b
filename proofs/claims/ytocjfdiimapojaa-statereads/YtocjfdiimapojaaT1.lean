/- The world behind a call that ranges over a function: what lay lies as it lay (Bl). The small functions of package tensor: shapeOf, turned, checkRoom, checkShape, matrix, rowOf, bare. -/
import Derived.Test.YtocjfdiimapojaaT0
namespace Go.Proofs.Ytocjfdiimapojaa
open Go.ChangeShapes Go.WideShapes Go.ChangeAt Go.RowKit
set_option linter.unusedVariables false
set_option linter.unusedSimpArgs false

structure Bl (w w' : World) : Prop where
  below : Below w.heap.size w w'
theorem Bl.refl (w : World) : Bl w w := ⟨Below.refl _ _⟩
theorem Bl.trans {a b c : World} (h : Bl a b) (k : Bl b c) : Bl a c := ⟨h.below.trans (k.below.mono h.below.size)⟩
theorem Kept.bl {a b : World} (h : Kept a b) : Bl a b := ⟨h.below⟩
theorem Bl.alloc {a b : World} (h : Bl a b) (o : Obj) : Bl a (b.alloc o) := ⟨h.below.alloc h.below.size _⟩
theorem Bl.setCell {a b : World} (h : Bl a b) {p : Addr} (hp : a.heap.size ≤ p.block) (u : Value) : Bl a (b.setCell p u) := ⟨h.below.setCell hp u⟩
theorem Bl.drew {a b : World} (h : Bl a b) : Bl a b.drew := ⟨h.below.drew⟩
theorem Bl.drewN {a b : World} (h : Bl a b) (n : Nat) : Bl a (b.drewN n) := ⟨below_drewN h.below n⟩
theorem Bl.size {a b : World} (h : Bl a b) : a.heap.size ≤ b.heap.size := h.below.size
theorem Bl.grw {a b c : World} {g : Nat} (h : Bl a b) (hg : a.heap.size ≤ g) (k : Grw g b c) : Bl a c :=
  ⟨h.below.grown k.grown h.below.size (fun i e => by cases e; exact hg)⟩
theorem Bl.cell {a b : World} (h : Bl a b) (B o : Nat) (hB : B < a.heap.size) : b.cell? ⟨B, o, none⟩ = a.cell? ⟨B, o, none⟩ := h.below.cell (p := ⟨B, o, none⟩) hB
theorem Bl.frozen {a b : World} (h : Bl a b) (B o : Nat) (hB : B < a.heap.size) : b.frozen? ⟨B, o, none⟩ = a.frozen? ⟨B, o, none⟩ := h.below.frozen (p := ⟨B, o, none⟩) hB
theorem Reads.bl {w w' : World} {b off : Nat} {L : List Int} (h : Reads w b off L) (hb : b < w.heap.size) (k : Bl w w') : Reads w' b off L :=
  fun i hi => (k.cell b (off + i) hb).trans (h i hi)
theorem Sl.bl {w w' : World} {v : Value} {L : List Int} (h : Sl w v L) (k : Bl w w') : Sl w' v L := by
  obtain ⟨ao, cap, e, hc, hm, hr⟩ := h
  refine ⟨ao, cap, e, hc, hm, fun hne => ?_⟩
  obtain ⟨b, off, e2, hb, hr⟩ := hr hne
  exact ⟨b, off, e2, Nat.lt_of_lt_of_le hb k.size, hr.bl hb k⟩
theorem Own.bl {w w' : World} {g cap : Nat} {L : List Int} (h : Own w g cap L) (k : Bl w w') : Own w' g cap L := by
  have hl := h.lt
  obtain ⟨cur, hg, r⟩ := h
  exact ⟨cur, (k.below.block g hl).trans hg, r⟩
theorem MR.bl {H : Nat} {w w' : World} {v : Value} {M : List Int} (h : MR H w v M) (k : Bl w w') : MR H w' v M := by
  rcases h with h | ⟨g, cap, e, hg, ho⟩
  · exact .inl h
  · exact .inr ⟨g, cap, e, hg, ho.bl k⟩

/-- A matrix in four cells. -/
structure M4 (w : World) (B : Nat) (r c n s : Value) : Prop where
  c0 : w.cell? ⟨B, 0, none⟩ = some r
  c1 : w.cell? ⟨B, 1, none⟩ = some c
  c2 : w.cell? ⟨B, 2, none⟩ = some n
  c3 : w.cell? ⟨B, 3, none⟩ = some s
theorem M4.lt {w : World} {B : Nat} {r c n s : Value} (h : M4 w B r c n s) : B < w.heap.size := by
  by_cases hb : B < w.heap.size
  · exact hb
  · have := h.c0
    simp [World.cell?, Array.getElem?_eq_none (Nat.le_of_not_lt hb)] at this
theorem M4.bl {w w' : World} {B : Nat} {r c n s : Value} (h : M4 w B r c n s) (k : Bl w w') : M4 w' B r c n s :=
  ⟨(k.cell B 0 h.lt).trans h.c0, (k.cell B 1 h.lt).trans h.c1, (k.cell B 2 h.lt).trans h.c2, (k.cell B 3 h.lt).trans h.c3⟩
theorem M4.new (w : World) (r c n s : Value) (t : TypeId) : M4 (w.alloc (.cells #[r, c, n, s] t)) w.heap.size r c n s :=
  ⟨by simp [go_sem], by simp [go_sem], by simp [go_sem], by simp [go_sem]⟩

abbrev zeroMat : Value := .agg #[.int .i64 0, .int .i64 0, .int .i64 0, .slice none 0 0]
abbrev zeroShape : Value := .agg #[.int .i64 0, .int .i64 0, .int .i64 0]

set_option maxHeartbeats 400000 in
theorem shapeOf_any (r c n : Int) (s : Value) (w : World) : Calls Try.prog 68 #[.agg #[.int .i64 r, .int .i64 c, .int .i64 n, s]] w fun e w' => e = .returned (.agg #[.int .i64 r, .int .i64 c, .int .i64 n]) ∧ Kept w w' := by
  go_enter Try.func68, Try.ntmps68
  go_wp2
  exact bodyPost_ret (v := .agg #[.int .i64 r, .int .i64 c, .int .i64 n]) (by simp [results, Try.results68, go_sem]) rfl ⟨rfl, ((Kept.refl w).alloc _ _).alloc _ _⟩

/-- The error of rows, columns, width. -/
def ckR (r c : Int) : Int := if Int.tdiv 4096 c < r then 2 else 0
def ckS (r c n : Int) : Int := if ¬ (n = 64 ∨ n = 32) then 3 else if min r c < 1 then 4 else ckR r c
theorem val_0 (n : Int) : val 0 n = decide (n = 64 ∨ n = 32) := by unfold val; simp

set_option maxHeartbeats 1000000 in
theorem checkRoom_any (r c n : Int) (hc : 1 ≤ c) (w : World) : Calls Try.prog 80 #[.agg #[.int .i64 r, .int .i64 c, .int .i64 n]] w fun e w' => e = .returned (.int .i64 (ckR r c)) ∧ Kept w w' := by
  have h0 : ¬ c = 0 := by omega
  have hq : 0 ≤ Int.tdiv 4096 c ∧ Int.tdiv 4096 c ≤ 4096 := ⟨Int.tdiv_nonneg (by omega) (by omega), by
    rw [Int.tdiv_eq_ediv_of_nonneg (by omega)]
    exact Int.ediv_le_self _ (by omega)⟩
  have hw : IntKind.i64.wrap (Int.tdiv 4096 c) = Int.tdiv 4096 c := by rw [wrap_i64]; omega
  go_enter Try.func80, Try.ntmps80
  go_wp2
  go_region
  all_goals go_wp2
  all_goals
    go_ret
    refine ⟨ret_int ?_, by first | exact ((Kept.refl w).alloc _ _).drew | exact (Kept.refl w).alloc _ _⟩
    unfold ckR
    generalize Int.tdiv 4096 c = q at *
    (repeat' split) <;> omega

set_option maxHeartbeats 1000000 in
theorem checkShape_any (r c n : Int) (w : World) : Calls Try.prog 67 #[.agg #[.int .i64 r, .int .i64 c, .int .i64 n]] w fun e w' => e = .returned (.int .i64 (ckS r c n)) ∧ Kept w w' := by
  by_cases hn : n = 64 ∨ n = 32
  · have KV : Hid (∀ u, Calls Try.prog 69 #[.int .i64 0, .int .i64 n] u fun e w' => e = .returned (.bool true) ∧ u = w') := fun u => by
      have := valid_any 0 n u
      rw [val_0, decide_eq_true hn] at this
      exact this
    by_cases hm : min r c < 1
    · have hk : ckS r c n = 4 := by unfold ckS; rw [if_neg (fun h => h hn), if_pos hm]
      rw [hk]
      clear hk hn
      go_enter Try.func67, Try.ntmps67
      go_wp2_with (first | (go_at_call 69; refine (KV.out _).mono ?_; rintro e w1 ⟨rfl, rfl⟩))
      go_ret
      exact ⟨rfl, (Kept.refl w).alloc _ _⟩
    · have hk : ckS r c n = ckR r c := by unfold ckS; rw [if_neg (fun h => h hn), if_neg hm]
      rw [hk]
      have KR : Hid (∀ u, Calls Try.prog 80 #[.agg #[.int .i64 r, .int .i64 c, .int .i64 n]] u fun e w' => e = .returned (.int .i64 (ckR r c)) ∧ Kept u w') := fun u => checkRoom_any r c n (by omega) u
      generalize ckR r c = q at *
      clear hk hn
      go_enter Try.func67, Try.ntmps67
      go_wp2_with (first | (go_at_call 69; refine (KV.out _).mono ?_; rintro e w1 ⟨rfl, rfl⟩) | (go_at_call 80; refine (KR.out _).mono ?_; rintro e w2 ⟨rfl, k2⟩))
      go_ret
      exact ⟨rfl, ((Kept.refl w).alloc _ _).trans k2⟩
  · have KV : Hid (∀ u, Calls Try.prog 69 #[.int .i64 0, .int .i64 n] u fun e w' => e = .returned (.bool false) ∧ u = w') := fun u => by
      have := valid_any 0 n u
      rw [val_0, decide_eq_false hn] at this
      exact this
    have hk : ckS r c n = 3 := by unfold ckS; rw [if_pos hn]
    rw [hk]
    clear hk hn
    go_enter Try.func67, Try.ntmps67
    go_wp2_with (first | (go_at_call 69; refine (KV.out _).mono ?_; rintro e w1 ⟨rfl, rfl⟩))
    go_ret
    exact ⟨rfl, (Kept.refl w).alloc _ _⟩

theorem ckS_ok {r c n : Int} (h : ckS r c n = 0) : (n = 64 ∨ n = 32) ∧ 1 ≤ r ∧ 1 ≤ c ∧ r * c ≤ 4096 := by
  unfold ckS ckR at h
  split at h
  · omega
  · rename_i hn
    split at h
    · omega
    · rename_i hm
      split at h
      · omega
      · rename_i hq
        refine ⟨by omega, by omega, by omega, ?_⟩
        rw [Int.tdiv_eq_ediv_of_nonneg (by omega)] at hq
        have h1 : r ≤ 4096 / c := by omega
        exact (Int.le_ediv_iff_mul_le (by omega)).1 h1
theorem ckS_one {r c n : Int} (hn : n = 64 ∨ n = 32) (hr : 1 ≤ r) (hc : 1 ≤ c) (h : r * c ≤ 4096) : ckS r c n = 0 := by
  unfold ckS ckR
  rw [if_neg (fun h => h hn), if_neg (by omega), if_neg]
  rw [Int.tdiv_eq_ediv_of_nonneg (by omega)]
  have := (Int.le_ediv_iff_mul_le (by omega : 0 < c)).2 h
  omega
theorem le_of_mul {r c : Int} (hr : 1 ≤ r) (hc : 1 ≤ c) : r ≤ r * c ∧ c ≤ r * c := by
  constructor
  · have := Int.mul_le_mul_of_nonneg_left hc (by omega : 0 ≤ r)
    omega
  · have := Int.mul_le_mul_of_nonneg_right hr (by omega : 0 ≤ c)
    omega
end Go.Proofs.Ytocjfdiimapojaa
