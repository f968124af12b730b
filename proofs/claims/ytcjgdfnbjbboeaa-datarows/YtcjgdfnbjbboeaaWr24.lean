/- The document's NaN, Finite, Clean, Check; Finite of package tensor. -/
import Derived.Test.YtcjgdfnbjbboeaaWr22
import Derived.Test.YtcjgdfnbjbboeaaWr23
namespace Go.Proofs.Ytcjgdfnbjbboeaa
open Go.ChangeShapes Go.WideShapes Go.ChangeAt Go.RowKit
set_option linter.unusedVariables false
set_option linter.unusedSimpArgs false

set_option maxHeartbeats 400000 in
theorem rnan_any (b n : Int) (hb1 : -9223372036854775808 ≤ b) (hb2 : b ≤ 9223372036854775807) (w : World) : Calls Try.prog 95 #[.int .i64 b, .int .i64 n] w fun e w' => e = .returned (.bool (cls b n == 4)) ∧ Kept w w' := by
  have KC : Hid (∀ u, Calls Try.prog 113 #[.int .i64 b, .int .i64 n] u fun e w' => e = .returned (.int .i64 (cls b n)) ∧ Kept u w') := fun u => rclass_any b n hb1 hb2 u
  generalize cls b n = q at *
  go_enter Try.func95, Try.ntmps95
  go_wp2_with (first | (go_at_call 113; refine (KC.out _).mono ?_; rintro e w1 ⟨rfl, k1⟩))
  go_ret
  exact ⟨rfl, k1⟩

theorem ckM_val {r c n : Int} {L : List Int} (h0 : ckS r c n = 0) (hl : (L.length : Int) = r * c) : ((∀ i, i < L.length → val (L.getD i 0) n = true) → ckM r c n L = 0) ∧ ∀ i, i < L.length → val (L.getD i 0) n = false → ckM r c n L = 6 := by
  have hq : ckM r c n L = if (L.all fun b => val b n) = true then 0 else 6 := by unfold ckM; rw [if_neg (fun k => k h0), if_neg (fun k => k hl)]
  constructor
  · intro h
    rw [hq, if_pos]
    rw [List.all_eq_true]
    intro x hx
    obtain ⟨i, hi, rfl⟩ := List.getElem_of_mem hx
    have := h i hi
    rwa [List.getD_eq_getElem?_getD, List.getElem?_eq_getElem hi] at this
  · intro i hi h
    rw [hq, if_neg]
    intro ha
    have := List.all_eq_true.1 ha _ (List.getElem_mem hi)
    rw [List.getD_eq_getElem?_getD, List.getElem?_eq_getElem hi] at h
    simp at h
    rw [h] at this
    cases this

set_option maxHeartbeats 2000000 in
set_option maxRecDepth 100000 in
theorem rcheck_any (r c n : Int) (ao : Option Addr) (cap : Nat) (L : List Int) (w : World) (hS : Sl w (.slice ao L.length cap) L) : Calls Try.prog 68 #[.agg #[.int .i64 r, .int .i64 c, .int .i64 n, .slice ao L.length cap]] w fun e w' => e = .returned (.int .i64 (ckM r c n L)) ∧ Kept w w' := by
  have KC : Hid (∀ u, Calls Try.prog 93 #[.int .i64 r, .int .i64 c, .int .i64 n] u fun e w' => e = .returned (.int .i64 (ckS r c n)) ∧ u = w') := fun u => sized_any r c n u
  have hK := (Kept.refl w).alloc #[.int .i64 r, .int .i64 c, .int .i64 n, .slice ao L.length cap] 24
  by_cases h0 : ckS r c n = 0
  · have KC' : Hid (∀ u, Calls Try.prog 93 #[.int .i64 r, .int .i64 c, .int .i64 n] u fun e w' => e = .returned (.int .i64 0) ∧ u = w') := fun u => by have := KC.out u; rw [h0] at this; exact this
    obtain ⟨hn, hr1, hc1, hrc⟩ := ckS_ok h0
    have hlm := le_of_mul hr1 hc1
    by_cases hl : (L.length : Int) = r * c
    · have hne : L ≠ [] := by intro h; subst h; simp at hl; omega
      obtain ⟨ao', cap', e, hcp, hmx, hrd⟩ := hS
      cases e
      obtain ⟨b, off, rfl, hb, hrd⟩ := hrd hne
      have hM := M4.new w (.int .i64 r) (.int .i64 c) (.int .i64 n) (.slice (some ⟨b, off, none⟩) L.length cap) 24
      have HR : Hid (∀ u, Kept w u → ∀ i, i < L.length → u.cell? ⟨b, off + i, none⟩ = some (.int .i64 (L.getD i 0))) := fun u k i hi => (hrd.kept hb k) i hi
      obtain ⟨hA, hB⟩ := ckM_val h0 hl
      have HA : Hid _ := hA
      have HB : Hid _ := hB
      have hw : IntKind.i64.wrap (r * c) = (L.length : Int) := by rw [← hl, wrap_i64]; omega
      have hlen : L.length ≤ 4096 := by omega
      have hq3 : ((L.length : Int) != (L.length : Int)) = false := by simp
      clear h0 hl hr1 hc1 hrc hlm KC hrd hcp hmx hA hB hne
      generalize ckM r c n L = q at *
      generalize hLl : L.length = l at *
      clear hLl
      rcases hn with rfl | rfl
      · go_enter Try.func68, Try.ntmps68
        go_wp2_with (first | (go_at_call 93; refine (KC'.out _).mono ?_; rintro e w2 ⟨rfl, rfl⟩))
        have hq0 : q = 0 := HA.out (fun i hi => by simp [val])
        refine wp_loop_rounds 1 ?_
        rw [rounds_succ]
        go_wp2_with fail
        all_goals
          refine bodyPost_ret (results_tmp rfl _ _ _) rfl ?_
          exact ⟨by first | rfl | (rw [hq0]; rfl), hK⟩
      · obtain ⟨X, hX⟩ : ∃ X, X = w.alloc (.cells #[.int .i64 r, .int .i64 c, .int .i64 32, .slice (some ⟨b, off, none⟩) l cap] 24) := ⟨_, rfl⟩
        rw [← hX] at hM hK
        go_enter Try.func68, Try.ntmps68
        go_upto_region 1 with fail
        rw [← hX]
        clear hX
        obtain ⟨c0, c1, c2, c3⟩ := hM
        go_wp2_with (first | (go_at_call 93; refine (KC'.out _).mono ?_; rintro e w2 ⟨rfl, rfl⟩))
        have HK : Hid (Kept w X) := hK
        go_loop [4] (fun iv => ∃ k : Nat, k ≤ l ∧ iv = .int .i64 k ∧ Hid (∀ i, i < k → val (L.getD i 0) 32 = true)) (fun iv => l - (intOf iv).toNat)
        case atStart => exact ⟨0, Nat.zero_le _, rfl, fun i hi => absurd hi (Nat.not_lt_zero _)⟩
        case round =>
          obtain ⟨k, hk, rfl, hall⟩ := hrel
          by_cases hkl : k < l
          · have q0 := HR.out X HK.out k hkl
            have z1 : IntKind.i64.wrap ((k : Int) + 1) = (k : Int) + 1 := by rw [wrap_i64]; omega
            by_cases hv : 0 ≤ L.getD k 0 ∧ L.getD k 0 < 4294967296
            · have HA4 : Hid (∀ i, i < k + 1 → val (L.getD i 0) 32 = true) := fun i hi => by
                rcases Nat.lt_or_ge i k with h2 | h2
                · exact hall.out i h2
                · obtain rfl : i = k := by omega
                  unfold val
                  exact decide_eq_true (.inr ⟨rfl, hv.1, hv.2⟩)
              have v1 : ¬ L.getD k 0 < 0 := by omega
              have v2 : ¬ 4294967295 < L.getD k 0 := by omega
              generalize L.getD k 0 = d at *
              clear HA HB hall hv
              go_wp2_with fail
              go_round
              case rel => exact ⟨k + 1, by omega, by go_num, HA4⟩
              case measure => simp [intOf]; omega
            · have hq6 : q = 6 := HB.out k hkl (by unfold val; exact decide_eq_false (by omega))
              rcases (show L.getD k 0 < 0 ∨ (¬ L.getD k 0 < 0 ∧ 4294967295 < L.getD k 0) by omega) with v1 | ⟨v1, v2⟩
              all_goals
                generalize L.getD k 0 = d at *
                clear HA HB hall hv
                go_wp2_with fail
                refine bodyPost_ret (results_tmp rfl _ _ _) rfl ?_
                exact ⟨by first | rfl | (rw [hq6]; rfl), HK.out⟩
          · obtain rfl : k = l := by omega
            have hq0 := HA.out hall.out
            clear HA HB hall
            go_wp2_with fail
            refine bodyPost_ret (results_tmp rfl _ _ _) rfl ?_
            exact ⟨by first | rfl | (rw [hq0]; rfl), HK.out⟩
    · rw [ckM_len h0 hl]
      have hw : IntKind.i64.wrap (r * c) = r * c := by rw [wrap_i64]; omega
      have hb : ((L.length : Int) != r * c) = true := by simpa using hl
      generalize L.length = l at *
      clear h0 hn hr1 hc1 hrc hlm KC hS hl
      go_enter Try.func68, Try.ntmps68
      go_wp2_with (first | (go_at_call 93; refine (KC'.out _).mono ?_; rintro e w2 ⟨rfl, rfl⟩))
      go_ret
      exact ⟨rfl, hK⟩
  · rw [ckM_shape h0]
    generalize ckS r c n = q at *
    have hq : (q != 0) = true := by simpa using h0
    clear hS
    go_enter Try.func68, Try.ntmps68
    go_wp2_with (first | (go_at_call 93; refine (KC.out _).mono ?_; rintro e w2 ⟨rfl, rfl⟩))
    go_ret
    exact ⟨rfl, hK⟩
end Go.Proofs.Ytcjgdfnbjbboeaa
