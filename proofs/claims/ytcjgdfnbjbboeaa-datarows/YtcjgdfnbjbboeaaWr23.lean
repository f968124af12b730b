/- Shapes: the document's Width, Sized, greater, Both; package tensor's share, roomy, Both. The walk of TensorBoth. -/
import Derived.Test.YtcjgdfnbjbboeaaWr21
namespace Go.Proofs.Ytcjgdfnbjbboeaa
open Go.ChangeShapes Go.WideShapes Go.ChangeAt Go.RowKit
set_option linter.unusedVariables false
set_option linter.unusedSimpArgs false

structure M3 (w : World) (B : Nat) (r c n : Value) : Prop where
  c0 : w.cell? ⟨B, 0, none⟩ = some r
  c1 : w.cell? ⟨B, 1, none⟩ = some c
  c2 : w.cell? ⟨B, 2, none⟩ = some n
theorem M3.lt {w : World} {B : Nat} {r c n : Value} (h : M3 w B r c n) : B < w.heap.size := by
  by_cases hb : B < w.heap.size
  · exact hb
  · have := h.c0
    simp [World.cell?, Array.getElem?_eq_none (Nat.le_of_not_lt hb)] at this
theorem M3.bl {w w' : World} {B : Nat} {r c n : Value} (h : M3 w B r c n) (k : Bl w w') : M3 w' B r c n :=
  ⟨(k.cell B 0 h.lt).trans h.c0, (k.cell B 1 h.lt).trans h.c1, (k.cell B 2 h.lt).trans h.c2⟩
theorem M3.new (w : World) (r c n : Value) (t : TypeId) : M3 (w.alloc (.cells #[r, c, n] t)) w.heap.size r c n :=
  ⟨by simp [go_sem], by simp [go_sem], by simp [go_sem]⟩
theorem M3.put (w : World) (B : Nat) (a b c : Value) (h : M3 w B a b c) (x y z : Value) : M3 (((w.setCell ⟨B, 0, none⟩ x).setCell ⟨B, 1, none⟩ y).setCell ⟨B, 2, none⟩ z) B x y z := by
  obtain ⟨c0, c1, c2⟩ := h
  exact ⟨by simp [go_sem, *], by simp [go_sem, *], by simp [go_sem, *]⟩

set_option maxHeartbeats 400000 in
theorem width_any (n : Int) (w : World) : Calls Try.prog 112 #[.int .i64 n] w fun e w' => e = .returned (.bool (decide (n = 64 ∨ n = 32))) ∧ w = w' := by
  go_enter Try.func112, Try.ntmps112
  go_wp2
  all_goals
    go_ret
    refine ⟨ret_bool ?_, rfl⟩
    rw [Bool.eq_iff_iff]
    simp_all <;> omega

theorem sz_4 {r c n : Int} (hn : n = 64 ∨ n = 32) (h : r < 1 ∨ c < 1) : ckS r c n = 4 := by
  unfold ckS
  rw [if_neg (fun k => k hn), if_pos (by omega)]
theorem sz_2 {r c n : Int} (hn : n = 64 ∨ n = 32) (hr : 1 ≤ r) (hc : 1 ≤ c) (h : 4096 < r * c) : ckS r c n = 2 := by
  unfold ckS ckR
  rw [if_neg (fun k => k hn), if_neg (by omega), if_pos]
  rw [Int.tdiv_eq_ediv_of_nonneg (by omega)]
  have := mt (Int.le_ediv_iff_mul_le (by omega : 0 < c)).1 (show ¬ r * c ≤ 4096 by omega)
  omega

set_option maxHeartbeats 1000000 in
theorem sized_any (r c n : Int) (w : World) : Calls Try.prog 93 #[.int .i64 r, .int .i64 c, .int .i64 n] w fun e w' => e = .returned (.int .i64 (ckS r c n)) ∧ w = w' := by
  have KW : Hid (∀ u, Calls Try.prog 112 #[.int .i64 n] u fun e w' => e = .returned (.bool (decide (n = 64 ∨ n = 32))) ∧ u = w') := fun u => width_any n u
  by_cases hn : n = 64 ∨ n = 32
  · have KW' : Hid (∀ u, Calls Try.prog 112 #[.int .i64 n] u fun e w' => e = .returned (.bool true) ∧ u = w') := fun u => by have := KW.out u; rw [decide_eq_true hn] at this; exact this
    clear KW
    by_cases hb : r < 1 ∨ c < 1
    · rw [sz_4 hn hb]
      clear hn
      rcases (show r < 1 ∨ (1 ≤ r ∧ c < 1) by omega) with h1 | ⟨h1, h2⟩
      all_goals
        clear hb
        go_enter Try.func93, Try.ntmps93
        go_wp2_with (first | (go_at_call 112; refine (KW'.out _).mono ?_; rintro e w1 ⟨rfl, rfl⟩))
        go_ret
        exact ⟨rfl, rfl⟩
    · have hr : 1 ≤ r := by omega
      have hc : 1 ≤ c := by omega
      have hlm := le_of_mul hr hc
      have g1 : ¬ r < 1 := by omega
      have g2 : ¬ c < 1 := by omega
      by_cases hp : 4096 < r * c
      · rw [sz_2 hn hr hc hp]
        rcases (show 4096 < r ∨ (r ≤ 4096 ∧ 4096 < c) ∨ (r ≤ 4096 ∧ c ≤ 4096) by omega) with h1 | ⟨h1, h2⟩ | ⟨h1, h2⟩
        · clear hn hb hlm hp
          go_enter Try.func93, Try.ntmps93
          go_wp2_with (first | (go_at_call 112; refine (KW'.out _).mono ?_; rintro e w1 ⟨rfl, rfl⟩))
          go_ret
          exact ⟨rfl, rfl⟩
        · have h1' : ¬ 4096 < r := by omega
          clear hn hb hlm hp
          go_enter Try.func93, Try.ntmps93
          go_wp2_with (first | (go_at_call 112; refine (KW'.out _).mono ?_; rintro e w1 ⟨rfl, rfl⟩))
          go_ret
          exact ⟨rfl, rfl⟩
        · have h1' : ¬ 4096 < r := by omega
          have h2' : ¬ 4096 < c := by omega
          have hw : IntKind.i64.wrap (r * c) = r * c := by
            have : r * c ≤ 4096 * 4096 := Int.mul_le_mul h1 h2 (by omega) (by omega)
            rw [wrap_i64]
            omega
          clear hn hb hlm
          go_enter Try.func93, Try.ntmps93
          go_wp2_with (first | (go_at_call 112; refine (KW'.out _).mono ?_; rintro e w1 ⟨rfl, rfl⟩))
          go_ret
          exact ⟨rfl, rfl⟩
      · rw [ckS_one hn hr hc (by omega)]
        have h1' : ¬ 4096 < r := by omega
        have h2' : ¬ 4096 < c := by omega
        have hw : IntKind.i64.wrap (r * c) = r * c := by
          rw [wrap_i64]
          omega
        clear hn hb hlm
        go_enter Try.func93, Try.ntmps93
        go_wp2_with (first | (go_at_call 112; refine (KW'.out _).mono ?_; rintro e w1 ⟨rfl, rfl⟩))
        go_ret
        exact ⟨rfl, rfl⟩
  · have KW' : Hid (∀ u, Calls Try.prog 112 #[.int .i64 n] u fun e w' => e = .returned (.bool false) ∧ u = w') := fun u => by have := KW.out u; rw [decide_eq_false hn] at this; exact this
    clear KW
    have : ckS r c n = 3 := by unfold ckS; rw [if_pos hn]
    rw [this]
    clear this hn
    go_enter Try.func93, Try.ntmps93
    go_wp2_with (first | (go_at_call 112; refine (KW'.out _).mono ?_; rintro e w1 ⟨rfl, rfl⟩))
    go_ret
    exact ⟨rfl, rfl⟩
end Go.Proofs.Ytcjgdfnbjbboeaa
