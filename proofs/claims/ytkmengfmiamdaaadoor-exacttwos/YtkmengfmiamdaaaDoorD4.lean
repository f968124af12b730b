/- The walks of exact's allValid, fit, digitsOf, trailing. -/
import Derived.Test.YtkmengfmiamdaaaDoorD3
import Derived.Test.YtkmengfmiamdaaaDoorJoinB
namespace Go.Proofs.YtkmengfmiamdaaaDoor
open Go.ChangeShapes Go.WideShapes Go.ChangeAt Go.RowKit
set_option linter.unusedVariables false

def gaveUp : List PanicEntry := [{ v := .iface 9 (.string { data := #[97, 32, 110, 117, 109, 98, 101, 114, 32, 116, 111, 111, 32, 108, 111, 110, 103] }), recovered := false }]

set_option maxHeartbeats 400000 in
theorem fit_yes (l x : Int) (h1 : l ≤ 60000) (h2 : -1048576 ≤ x) (h3 : x ≤ 1048576) (w : World) : Calls Tryd.prog 75 #[.int .i64 l, .int .i64 x] w fun e w' => e = .returned (.tuple #[]) ∧ w = w' := by
  go_enter Tryd.func75, Tryd.ntmps75
  go_wp2
  go_end0
  exact ⟨rfl, rfl⟩

set_option maxHeartbeats 400000 in
theorem fit_no (l x : Int) (h : 60000 < l ∨ x < -1048576 ∨ 1048576 < x) (w : World) : Calls Tryd.prog 75 #[.int .i64 l, .int .i64 x] w fun e w' => e = .panicked gaveUp ∧ w = w' := by
  rcases (show 60000 < l ∨ (l ≤ 60000 ∧ x < -1048576) ∨ (l ≤ 60000 ∧ -1048576 ≤ x ∧ 1048576 < x) by omega) with h | ⟨h1, h⟩ | ⟨h1, h2, h⟩
  all_goals
    go_enter Tryd.func75, Tryd.ntmps75
    go_wp2
    exact ⟨rfl, rfl, rfl⟩

set_option maxHeartbeats 400000 in
theorem allValid_0 (w : World) : Calls Tryd.prog 45 #[.slice none 0 0] w fun e w' => e = .returned (.bool true) ∧ Kept w w' := by
  go_enter Tryd.func45, Tryd.ntmps45
  go_wp2
  refine wp_loop_rounds 1 ?_
  rw [rounds_succ]
  go_wp2
  go_ret
  exact ⟨rfl, Kept.refl _⟩

set_option maxHeartbeats 1000000 in
theorem allValid_1 (w : World) (b cap : Nat) (n1 : Bool) (a1 : Option Addr) (l1 p1 : Nat) (e1 : Int) (g1 : Bool) (hb : b < w.heap.size)
    (c0 : w.cell? ⟨b, 0, none⟩ = some (.bool n1)) (c1 : w.cell? ⟨b, 1, none⟩ = some (.slice a1 l1 p1)) (c2 : w.cell? ⟨b, 2, none⟩ = some (.int .i64 e1))
    (K1 : Hid (∀ w', Kept w w' → Calls Tryd.prog 18 #[.agg #[.bool n1, .slice a1 l1 p1, .int .i64 e1]] w' fun e w'' => e = .returned (.bool g1) ∧ Kept w' w'')) :
    Calls Tryd.prog 45 #[.slice (some ⟨b, 0, none⟩) 1 cap] w fun e w' => e = .returned (.bool g1) ∧ Kept w w' := by
  have hK := (Kept.refl w).alloc #[.bool n1, .slice a1 l1 p1, .int .i64 e1] 31
  cases g1
  · go_enter Tryd.func45, Tryd.ntmps45
    go_wp2
    refine wp_loop_rounds 2 ?_
    rw [rounds_succ]
    go_wp2_with (first | (go_at_call 18; refine (K1.out _ (by first | exact hK | assumption)).mono ?_; rintro e w1 ⟨rfl, hk1⟩))
    go_ret
    exact ⟨rfl, hK.trans hk1⟩
  · go_enter Tryd.func45, Tryd.ntmps45
    go_wp2
    refine wp_loop_rounds 2 ?_
    rw [rounds_succ]
    go_wp2_with (first | (go_at_call 18; refine (K1.out _ (by first | exact hK | assumption)).mono ?_; rintro e w1 ⟨rfl, hk1⟩))
    rw [rounds_succ]
    go_wp2
    go_ret
    exact ⟨rfl, hK.trans hk1⟩

set_option maxHeartbeats 2000000 in
theorem allValid_2 (w : World) (b cap : Nat) (n1 n2 : Bool) (a1 a2 : Option Addr) (l1 p1 l2 p2 : Nat) (e1 e2 : Int) (g1 g2 : Bool) (hb : b < w.heap.size)
    (c0 : w.cell? ⟨b, 0, none⟩ = some (.bool n1)) (c1 : w.cell? ⟨b, 1, none⟩ = some (.slice a1 l1 p1)) (c2 : w.cell? ⟨b, 2, none⟩ = some (.int .i64 e1))
    (c3 : w.cell? ⟨b, 3, none⟩ = some (.bool n2)) (c4 : w.cell? ⟨b, 4, none⟩ = some (.slice a2 l2 p2)) (c5 : w.cell? ⟨b, 5, none⟩ = some (.int .i64 e2))
    (K1 : Hid (∀ w', Kept w w' → Calls Tryd.prog 18 #[.agg #[.bool n1, .slice a1 l1 p1, .int .i64 e1]] w' fun e w'' => e = .returned (.bool g1) ∧ Kept w' w''))
    (K2 : Hid (∀ w', Kept w w' → Calls Tryd.prog 18 #[.agg #[.bool n2, .slice a2 l2 p2, .int .i64 e2]] w' fun e w'' => e = .returned (.bool g2) ∧ Kept w' w'')) :
    Calls Tryd.prog 45 #[.slice (some ⟨b, 0, none⟩) 2 cap] w fun e w' => e = .returned (.bool (g1 && g2)) ∧ Kept w w' := by
  have hK := (Kept.refl w).alloc #[.bool n1, .slice a1 l1 p1, .int .i64 e1] 31
  have C3 : Hid (∀ w', Kept w w' → w'.cell? ⟨b, 3, none⟩ = some (.bool n2)) := fun w' k => (k.below.cell (p := ⟨b, 3, none⟩) hb).trans c3
  have C4 : Hid (∀ w', Kept w w' → w'.cell? ⟨b, 4, none⟩ = some (.slice a2 l2 p2)) := fun w' k => (k.below.cell (p := ⟨b, 4, none⟩) hb).trans c4
  have C5 : Hid (∀ w', Kept w w' → w'.cell? ⟨b, 5, none⟩ = some (.int .i64 e2)) := fun w' k => (k.below.cell (p := ⟨b, 5, none⟩) hb).trans c5
  clear c3 c4 c5
  cases g1
  · rw [Bool.false_and]
    go_enter Tryd.func45, Tryd.ntmps45
    go_wp2
    refine wp_loop_rounds 3 ?_
    rw [rounds_succ]
    go_wp2_with (first | (go_at_call 18; refine (K1.out _ (by first | exact hK | assumption)).mono ?_; rintro e w1 ⟨rfl, hk1⟩))
    go_ret
    exact ⟨rfl, hK.trans hk1⟩
  · rw [Bool.true_and]
    cases g2
    · go_enter Tryd.func45, Tryd.ntmps45
      go_wp2
      refine wp_loop_rounds 3 ?_
      rw [rounds_succ]
      go_wp2_with (first | (go_at_call 18; refine (K1.out _ (by first | exact hK | assumption)).mono ?_; rintro e w1 ⟨rfl, hk1⟩))
      have hk2 := hK.trans hk1
      have d3 := C3.out _ hk2
      have d4 := C4.out _ hk2
      have d5 := C5.out _ hk2
      have hk3 := hk2.alloc #[.bool n2, .slice a2 l2 p2, .int .i64 e2] 31
      clear hk1 hk2 c0 c1 c2 hK
      rw [rounds_succ]
      go_wp2_with (first | (go_at_call 18; refine (K2.out _ (by first | exact hk3 | assumption)).mono ?_; rintro e w1 ⟨rfl, hk4⟩))
      go_ret
      exact ⟨rfl, hk3.trans hk4⟩
    · go_enter Tryd.func45, Tryd.ntmps45
      go_wp2
      refine wp_loop_rounds 3 ?_
      rw [rounds_succ]
      go_wp2_with (first | (go_at_call 18; refine (K1.out _ (by first | exact hK | assumption)).mono ?_; rintro e w1 ⟨rfl, hk1⟩))
      have hk2 := hK.trans hk1
      have d3 := C3.out _ hk2
      have d4 := C4.out _ hk2
      have d5 := C5.out _ hk2
      have hk3 := hk2.alloc #[.bool n2, .slice a2 l2 p2, .int .i64 e2] 31
      clear hk1 hk2 c0 c1 c2 hK
      rw [rounds_succ]
      go_wp2_with (first | (go_at_call 18; refine (K2.out _ (by first | exact hk3 | assumption)).mono ?_; rintro e w1 ⟨rfl, hk4⟩))
      rw [rounds_succ]
      go_wp2
      go_ret
      exact ⟨rfl, hk3.trans hk4⟩

theorem u64_mask30 (n : Int) (h0 : 0 ≤ n) (h1 : n ≤ 18446744073709551615) : bits .and .u64 n 1073741823 = n % 1073741824 := by
  rw [u64_and n 1073741823 h0 (by omega) (by omega) (by omega), show (1073741823 : Int).toNat = 2 ^ 30 - 1 by rfl, Nat.and_two_pow_sub_one_eq_mod]
  omega

set_option maxHeartbeats 400000 in
theorem digitsOf_any (n : Int) (h0 : 0 ≤ n) (h1 : n ≤ 18446744073709551615) (w : World) : Calls Tryd.prog 53 #[.int .u64 n] w fun e w' => e = .returned (.slice (some ⟨w.heap.size, 0, none⟩) 3 3) ∧ w' = w.alloc (.cells #[.int .i64 (n % 1073741824), .int .i64 (n / 1073741824 % 1073741824), .int .i64 (n / 1152921504606846976)] 3) := by
  have e1 := u64_mask30 n h0 h1
  have e2 := u64_mask30 (n / 1073741824) (by omega) (by omega)
  have e3 : wrap64 (n % 1073741824) = n % 1073741824 := by unfold wrap64; omega
  have e4 : wrap64 (n / 1073741824 % 1073741824) = n / 1073741824 % 1073741824 := by unfold wrap64; omega
  go_enter Tryd.func53, Tryd.ntmps53
  go_wp2
  go_ret
  exact ⟨rfl, rfl⟩

/-! ### The noughts below the lowest bit -/
theorem tzn_digit (L : List Int) (h : Dg L) (i : Nat) (hz : ∀ j, j < i → L.getD j 0 = 0) (hi : L.getD i 0 ≠ 0) : tzn (nv L) = 30 * i + Lib.ctz 64 (L.getD i 0).toNat := by
  induction i generalizing L with
  | zero =>
    have hd := h.getD 0
    obtain ⟨a1, a2, a3, a4⟩ := odd_part (L.getD 0 0).toNat (by omega) (by omega)
    have h1 := nv_getD L h 0
    rw [Nat.mul_zero, Nat.pow_zero, Nat.div_one] at h1
    generalize Lib.ctz 64 (L.getD 0 0).toNat = k at *
    generalize (L.getD 0 0).toNat / 2 ^ k = o at *
    generalize (L.getD 0 0).toNat = d at *
    have hk30 : k < 30 := by
      by_cases hk : k < 30
      · exact hk
      · have : 2 ^ 30 ≤ 2 ^ k := Nat.pow_le_pow_right (by decide) (by omega)
        have : 1 * 2 ^ 30 ≤ o * 2 ^ k := Nat.mul_le_mul (by omega) this
        omega
    have e : nv L = (o + 2 ^ (30 - k) * (nv L / 1073741824)) * 2 ^ k := by
      rw [Nat.add_mul, ← a2, Nat.mul_right_comm, ← Nat.pow_add, show 30 - k + k = 30 by omega]
      omega
    rw [e, tzn_mul]
    · omega
    · obtain ⟨m, hm⟩ : ∃ m, 30 - k = m + 1 := ⟨30 - k - 1, by omega⟩
      rw [hm, Nat.pow_succ, Nat.mul_right_comm, Nat.add_mul_mod_self_right]
      exact a3
  | succ i ih =>
    cases L with
    | nil => simp at hi
    | cons d L =>
      have h0 := hz 0 (by omega)
      simp at h0
      subst h0
      have := ih L h.tail (fun j hj => by have := hz (j + 1) (by omega); simpa using this) (by simpa using hi)
      have hne : nv L ≠ 0 := fun h0 => by
        have := (nv_zero L h.tail).1 h0 i
        simp at hi
        simp at this
        exact hi this
      obtain ⟨o, ho, e⟩ := tzn_spec _ hne
      rw [show nv (0 :: L) = o * 2 ^ (30 + tzn (nv L)) by
        rw [nv, Nat.pow_add, ← Nat.mul_assoc, Nat.mul_comm o, Nat.mul_assoc, ← e]; simp, tzn_mul _ _ ho, this]
      simp
      omega

set_option maxHeartbeats 1000000 in
theorem trailing_some (L : List Int) (hL : Dg L) (hlen : L.length < 100000000) (m : Nat) (hm : m < L.length) (hz : ∀ j, j < m → L.getD j 0 = 0) (hne : L.getD m 0 ≠ 0) (b off cap : Nat) (w : World) (hr : Reads w b off L) (hT : Tab w) : Calls Tryd.prog 79 #[.slice (some ⟨b, off, none⟩) L.length cap] w fun e w' => e = .returned (.int .i64 ((tzn (nv L) : Nat) : Int)) ∧ w = w' := by
  rw [tzn_digit L hL m hz hne]
  have hd := hL.getD m
  have hcm := hr m hm
  obtain ⟨d, hdd⟩ : ∃ d, d = L.getD m 0 := ⟨_, rfl⟩
  rw [← hdd] at hd hne hcm ⊢
  have K : Hid (Calls Tryd.prog 101 #[.int .u64 d] w fun e w' => e = .returned (.int .i64 ((Lib.ctz 64 d.toNat : Nat) : Int)) ∧ w = w') := kz_any d (by omega) (by omega) w hT
  have hk64 : Lib.ctz 64 d.toNat < 64 := (odd_part d.toNat (by omega) (by omega)).1
  generalize Lib.ctz 64 d.toNat = c at *
  have HZ : Hid (∀ j, j < m → w.cell? ⟨b, off + j, none⟩ = some (.int .i64 0)) := fun j hj => by have := hr j (by omega); rw [hz j hj] at this; exact this
  generalize L.length = n at *
  clear hr hz hdd hL hT
  have e1 : IntKind.u64.wrap d = d := by rw [IntKind.wrap_u64]; omega
  go_enter Tryd.func79, Tryd.ntmps79
  go_wp2
  go_loop [3] (fun i => ∃ k : Nat, k ≤ m ∧ i = .int .i64 k) (fun i => n - (intOf i).toNat)
  case atStart => exact ⟨0, Nat.zero_le _, rfl⟩
  case round =>
    obtain ⟨k, hk, rfl⟩ := hrel
    by_cases hkm : k < m
    · have hc := HZ.out k hkm
      go_wp2
      go_round
      case rel => exact ⟨k + 1, by omega, by go_num⟩
      case measure => simp [intOf]; omega
    · obtain rfl : k = m := by omega
      have hne2 : (d == 0) = false := by simp [hne]
      go_wp2_with (first | (go_at_call 101; refine K.out.mono ?_; rintro e w1 ⟨rfl, rfl⟩))
      rw [show ((30 * k + c : Nat) : Int) = (k : Int) * 30 + (c : Int) by omega]
      go_ret
      exact ⟨rfl, rfl⟩
end Go.Proofs.YtkmengfmiamdaaaDoor
