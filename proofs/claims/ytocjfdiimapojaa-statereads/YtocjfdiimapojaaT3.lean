/- Check of package tensor. -/
import Derived.Test.YtocjfdiimapojaaT1
namespace Go.Proofs.Ytocjfdiimapojaa
open Go.ChangeShapes Go.WideShapes Go.ChangeAt Go.RowKit
set_option linter.unusedVariables false
set_option linter.unusedSimpArgs false

/-- The error of a matrix. -/
def ckM (r c n : Int) (L : List Int) : Int := if ckS r c n ≠ 0 then ckS r c n else if (L.length : Int) ≠ r * c then 4 else if (L.all fun b => val b n) = true then 0 else 6
theorem ckM_shape {r c n : Int} {L : List Int} (h : ckS r c n ≠ 0) : ckM r c n L = ckS r c n := by unfold ckM; rw [if_pos h]
theorem ckM_len {r c n : Int} {L : List Int} (h : ckS r c n = 0) (hl : (L.length : Int) ≠ r * c) : ckM r c n L = 4 := by unfold ckM; rw [if_neg (fun k => k h), if_pos hl]
theorem ckM_ok {r c n : Int} {L : List Int} (h : ckM r c n L = 0) : ckS r c n = 0 ∧ (L.length : Int) = r * c ∧ ∀ i, i < L.length → val (L.getD i 0) n = true := by
  unfold ckM at h
  split at h
  · exact absurd h (by assumption)
  · rename_i h1
    split at h
    · omega
    · rename_i h2
      split at h
      · rename_i h3
        refine ⟨by omega, by omega, fun i hi => ?_⟩
        rw [List.getD_eq_getElem?_getD, List.getElem?_eq_getElem hi]
        exact List.all_eq_true.1 h3 _ (List.getElem_mem hi)
      · omega

set_option maxHeartbeats 2000000 in
set_option maxRecDepth 100000 in
theorem check_any (r c n : Int) (ao : Option Addr) (cap : Nat) (L : List Int) (w : World) (hS : Sl w (.slice ao L.length cap) L) : Calls Try.prog 61 #[.agg #[.int .i64 r, .int .i64 c, .int .i64 n, .slice ao L.length cap]] w fun e w' => e = .returned (.int .i64 (ckM r c n L)) ∧ Kept w w' := by
  have KS : Hid (∀ u, Calls Try.prog 68 #[.agg #[.int .i64 r, .int .i64 c, .int .i64 n, .slice ao L.length cap]] u fun e w' => e = .returned (.agg #[.int .i64 r, .int .i64 c, .int .i64 n]) ∧ Kept u w') := fun u => shapeOf_any r c n _ u
  have KC : Hid (∀ u, Calls Try.prog 67 #[.agg #[.int .i64 r, .int .i64 c, .int .i64 n]] u fun e w' => e = .returned (.int .i64 (ckS r c n)) ∧ Kept u w') := fun u => checkShape_any r c n u
  have hM := M4.new w (.int .i64 r) (.int .i64 c) (.int .i64 n) (.slice ao L.length cap) 54
  have hK := (Kept.refl w).alloc #[.int .i64 r, .int .i64 c, .int .i64 n, .slice ao L.length cap] 54
  by_cases h0 : ckS r c n = 0
  · by_cases hl : (L.length : Int) = r * c
    · obtain ⟨hn, hr1, hc1, hrc⟩ := ckS_ok h0
      have hlm := le_of_mul hr1 hc1
      have hne : L ≠ [] := by intro h; subst h; simp at hl; omega
      obtain ⟨ao', cap', e, hcp, hmx, hrd⟩ := hS
      cases e
      obtain ⟨b, off, rfl, hb, hrd⟩ := hrd hne
      have HR : Hid (∀ u, Kept w u → ∀ i, i < L.length → u.cell? ⟨b, off + i, none⟩ = some (.int .i64 (L.getD i 0))) := fun u k i hi => (hrd.kept hb k) i hi
      have hq : ckM r c n L = if (L.all fun b => val b n) = true then 0 else 6 := by unfold ckM; rw [if_neg (fun k => k h0), if_neg (fun k => k hl)]
      have HA : Hid ((∀ i, i < L.length → val (L.getD i 0) n = true) → ckM r c n L = 0) := fun h => by
        rw [hq, if_pos]
        rw [List.all_eq_true]
        intro x hx
        obtain ⟨i, hi, rfl⟩ := List.getElem_of_mem hx
        have := h i hi
        rwa [List.getD_eq_getElem?_getD, List.getElem?_eq_getElem hi] at this
      have HB : Hid (∀ i, i < L.length → val (L.getD i 0) n = false → ckM r c n L = 6) := fun i hi h => by
        rw [hq, if_neg]
        intro ha
        have := List.all_eq_true.1 ha _ (List.getElem_mem hi)
        rw [List.getD_eq_getElem?_getD, List.getElem?_eq_getElem hi] at h
        simp at h
        rw [h] at this
        cases this
      have KV : Hid (∀ u i, Calls Try.prog 69 #[.int .i64 (L.getD i 0), .int .i64 n] u fun e w' => e = .returned (.bool (val (L.getD i 0) n)) ∧ u = w') := fun u i => valid_any _ n u
      have hw : IntKind.i64.wrap (r * c) = (L.length : Int) := by rw [← hl, wrap_i64]; omega
      have KC' : Hid (∀ u, Calls Try.prog 67 #[.agg #[.int .i64 r, .int .i64 c, .int .i64 n]] u fun e w' => e = .returned (.int .i64 0) ∧ Kept u w') := fun u => by have := KC.out u; rw [h0] at this; exact this
      have hlen : L.length ≤ 4096 := by omega
      clear h0 hl hn hr1 hc1 hrc hlm hq KC hrd hcp hmx
      generalize ckM r c n L = q at *
      generalize hLl : L.length = l at *
      clear hLl
      go_enter Try.func61, Try.ntmps61
      go_wp2_with (first | (go_at_call 68; refine (KS.out _).mono ?_; rintro e w1 ⟨rfl, k1⟩) | (go_at_call 67; refine (KC'.out _).mono ?_; rintro e w2 ⟨rfl, k2⟩; obtain ⟨c0, c1, c2, c3⟩ := hM.bl (k1.trans k2).bl))
      have HK : Hid (Kept w w2) := hK.trans (k1.trans k2)
      go_loop [24] (fun iv => ∃ k : Nat, k ≤ l ∧ iv = .int .i64 k ∧ Hid (∀ i, i < k → val (L.getD i 0) n = true)) (fun iv => l - (intOf iv).toNat)
      case atStart => exact ⟨0, Nat.zero_le _, rfl, fun i hi => absurd hi (Nat.not_lt_zero _)⟩
      case round =>
        obtain ⟨k, hk, rfl, hall⟩ := hrel
        by_cases hkl : k < l
        · have q0 := HR.out w2 HK.out k hkl
          have KV2 : ∀ u, Calls Try.prog 69 #[.int .i64 (L.getD k 0), .int .i64 n] u fun e w' => e = .returned (.bool (val (L.getD k 0) n)) ∧ u = w' := fun u => KV.out u k
          have HB2 : Hid (val (L.getD k 0) n = false → q = 6) := HB.out k hkl
          have HA2 : Hid (val (L.getD k 0) n = true → ∀ i, i < k + 1 → val (L.getD i 0) n = true) := fun h i hi => by
            rcases Nat.lt_or_ge i k with h2 | h2
            · exact hall.out i h2
            · obtain rfl : i = k := by omega
              exact h
          have z1 : IntKind.i64.wrap ((k : Int) + 1) = (k : Int) + 1 := by rw [wrap_i64]; omega
          cases hv : val (L.getD k 0) n
          · rw [hv] at KV2 HB2 HA2
            have KV3 : Hid _ := KV2
            have hq6 := HB2.out rfl
            generalize L.getD k 0 = d at *
            clear HA HB KV hall HA2 HB2 KV2
            go_wp2_with (first | (go_at_call 69; refine (KV3.out _).mono ?_; rintro e w3 ⟨rfl, rfl⟩))
            refine bodyPost_ret (results_tmp rfl _ _ _) rfl ?_
            exact ⟨by first | rfl | (rw [hq6]; rfl), HK.out⟩
          · rw [hv] at KV2 HA2
            have KV3 : Hid _ := KV2
            have HA3 := HA2.out rfl
            have HA4 : Hid (∀ i, i < k + 1 → val (L.getD i 0) n = true) := HA3
            clear HA3
            generalize L.getD k 0 = d at *
            clear HA HB KV hall HA2 HB2 KV2
            go_wp2_with (first | (go_at_call 69; refine (KV3.out _).mono ?_; rintro e w3 ⟨rfl, rfl⟩))
            go_round
            case rel => exact ⟨k + 1, by omega, by go_num, HA4⟩
            case measure => simp [intOf]; omega
        · obtain rfl : k = l := by omega
          have hq0 := HA.out hall.out
          clear HA HB KV hall
          go_wp2
          refine bodyPost_ret (results_tmp rfl _ _ _) rfl ?_
          exact ⟨by first | rfl | (rw [hq0]; rfl), HK.out⟩
    · rw [ckM_len h0 hl]
      obtain ⟨hn, hr1, hc1, hrc⟩ := ckS_ok h0
      have hlm := le_of_mul hr1 hc1
      have hw : IntKind.i64.wrap (r * c) = r * c := by rw [wrap_i64]; omega
      have KC' : Hid (∀ u, Calls Try.prog 67 #[.agg #[.int .i64 r, .int .i64 c, .int .i64 n]] u fun e w' => e = .returned (.int .i64 0) ∧ Kept u w') := fun u => by have := KC.out u; rw [h0] at this; exact this
      have hb : ((L.length : Int) != r * c) = true := by simpa using hl
      generalize L.length = l at *
      clear h0 hn hr1 hc1 hrc hlm KC hS hl
      go_enter Try.func61, Try.ntmps61
      go_wp2_with (first | (go_at_call 68; refine (KS.out _).mono ?_; rintro e w1 ⟨rfl, k1⟩) | (go_at_call 67; refine (KC'.out _).mono ?_; rintro e w2 ⟨rfl, k2⟩; obtain ⟨c0, c1, c2, c3⟩ := hM.bl (k1.trans k2).bl))
      go_ret
      exact ⟨rfl, hK.trans (k1.trans k2)⟩
  · rw [ckM_shape h0]
    generalize ckS r c n = q at *
    have hq : (q != 0) = true := by simpa using h0
    clear hS
    go_enter Try.func61, Try.ntmps61
    go_wp2_with (first | (go_at_call 68; refine (KS.out _).mono ?_; rintro e w1 ⟨rfl, k1⟩) | (go_at_call 67; refine (KC.out _).mono ?_; rintro e w2 ⟨rfl, k2⟩))
    go_ret
    exact ⟨rfl, hK.trans (k1.trans k2)⟩
end Go.Proofs.Ytocjfdiimapojaa
