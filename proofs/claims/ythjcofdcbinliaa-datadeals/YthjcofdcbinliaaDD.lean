/- DataDeals. -/
import Derived.Test.YthjcofdcbinliaaDS1
namespace Go.Proofs.Ythjcofdcbinliaa
open Go.ChangeShapes Go.WideShapes Go.ChangeAt Go.RowKit
set_option linter.unusedVariables false
set_option linter.unusedSimpArgs false

set_option maxHeartbeats 8000000 in
set_option maxRecDepth 100000 in
theorem dataDeals_true (n0 p0 : Int) (w : World) : Calls Try.prog 3 #[.int .i64 n0, .int .i64 p0] w fun e w' => e = .returned (.bool true) ∧ Kept w w' := by
  have HA : Hid (∀ u, Calls Try.prog 9 #[] u fun e w' => e = .returned (.bool true) ∧ Kept u w') := fun u => dalive_true u
  by_cases hall : 0 ≤ n0 ∧ n0 ≤ 4096 ∧ 1 ≤ p0 ∧ p0 ≤ 16
  · obtain ⟨n, rfl⟩ : ∃ n : Nat, n0 = n := ⟨n0.toNat, by omega⟩
    obtain ⟨p, rfl⟩ : ∃ p : Nat, p0 = p := ⟨p0.toNat, by omega⟩
    have hn : n ≤ 4096 := by omega
    have hp0 : 0 < p := by omega
    have hp : p ≤ 16 := by omega
    clear hall
    have g0 : ¬ (n : Int) < 0 := by omega
    have g1 : ¬ (4096 : Int) < (n : Int) := by omega
    have g2 : ¬ (p : Int) < 1 := by omega
    have g3 : ¬ (16 : Int) < (p : Int) := by omega
    have v0 : decide ((n : Int) < 0) = false := decide_eq_false g0
    have v1 : decide ((4096 : Int) < (n : Int)) = false := decide_eq_false g1
    have v2 : decide ((p : Int) < 1) = false := decide_eq_false g2
    have v3 : decide ((16 : Int) < (p : Int)) = false := decide_eq_false g3
    have v4 : decide (4096 < n) = false := decide_eq_false (by omega)
    have v5 : decide (16 < p) = false := decide_eq_false (by omega)
    have hp1 : ¬ (p : Int) = 0 := by omega
    have HS : Hid (∀ u : World, Calls Try.prog 10 #[.int .i64 n, .int .i64 p] u fun e w' => ∃ V, e = .returned (.tuple #[.slice (some ⟨u.heap.size, 0, none⟩) p p, .int .i64 0]) ∧ Pt n p p V ∧ OwnV w' u.heap.size (p * 2) 27 (V.map (Value.int .i64)) ∧ Kept u w') := fun u => shards_ok n p hn hp0 hp u
    obtain ⟨q, hq⟩ : ∃ q : Nat, n / p = q := ⟨_, rfl⟩
    obtain ⟨r, hr⟩ : ∃ r : Nat, n % p = r := ⟨_, rfl⟩
    have zq : (n : Int).tdiv (p : Int) = (q : Int) := by rw [Int.tdiv_eq_ediv_of_nonneg (Int.natCast_nonneg _), ← hq]; rfl
    have hq4 : q ≤ 4096 := by have := Nat.div_le_self n p; omega
    have HF : Hid (∀ i, fr n p (i + 1) = fr n p i + q + (if i < r then 1 else 0)) := fun i => by rw [fr_succ, hq, hr]
    have HL : Hid (∀ i, i ≤ p → fr n p i ≤ n) := fun i hi => fr_le n p i hp0 hi
    have HZ : Hid (fr n p 0 = 0 ∧ fr n p p = n) := ⟨fr_zero n p, fr_end n p hp0⟩
    clear hq hr
    obtain ⟨p', hp'⟩ : ∃ p' : Nat, p = p' + 1 := ⟨p - 1, by omega⟩
    have zp : IntKind.i64.wrap ((p : Int) - 1) = (p' : Int) := by rw [wrap_i64]; omega
    have hpp : (p' : Int) < (p : Int) := by omega
    have hpp2 : p' < p := by omega
    have HP : Hid (p = p' + 1) := hp'
    clear hp'
    have hqq : IntKind.i64.wrap ((q : Int) + 1) = (q : Int) + 1 := by rw [wrap_i64]; omega
    have hqw : IntKind.i64.wrap (q : Int) = (q : Int) := by rw [wrap_i64]; omega
    go_enter Try.func3, Try.ntmps3
    go_wp2_with fail
    refine (HA.out _).mono ?_
    rintro e w1 ⟨rfl, hk1⟩
    go_wp2_with fail
    refine (HS.out _).mono ?_
    rintro e w2 ⟨V, rfl, hPt, hO, hk2⟩
    have hK := hk1.trans hk2
    clear hk1 hk2
    obtain ⟨g, hg⟩ : ∃ g, g = w1.heap.size := ⟨_, rfl⟩
    rw [← hg] at hO ⊢
    clear hg
    have hl := hPt.len
    have e0 := (hPt.at' 0 (by omega)).1
    have e1 := (hPt.at' p' (by omega)).2
    rw [HZ.out.1] at e0
    rw [← HP.out, HZ.out.2] at e1
    have q0 := ownv_int hO (0 * 2) (by omega)
    have q1 := ownv_int hO (p' * 2 + 1) (by omega)
    rw [e0] at q0
    rw [e1] at q1
    rw [show 0 * 2 = 0 from rfl, show ((0 : Nat) : Int) = 0 from rfl] at q0
    have HO : Hid (Pt n p p V ∧ OwnV w2 g (p * 2) 27 (V.map (Value.int .i64)) ∧ Kept w w2) := ⟨hPt, hO, hK⟩
    clear hPt hO hK e0 e1 hl
    go_upto_region 6 with fail
    clear q0 q1
    go_wp2_with fail
    go_loopw [7] (fun iv wr => ∃ (i : Nat), i ≤ p ∧ iv = .int .i64 i ∧ Kept w2 wr) (fun iv _ => p - (intOf iv).toNat)
    case atStart => exact ⟨0, Nat.zero_le _, rfl, Kept.refl _⟩
    case round =>
      obtain ⟨i, hip, rfl, hKr⟩ := hrel
      by_cases hi : i < p
      · obtain ⟨hPt, hO, hK⟩ := HO.out
        have hl := hPt.len
        obtain ⟨e0, e1⟩ := hPt.at' i hi
        have q0 := ownv_int (hO.kept hKr) (i * 2) (by omega)
        have q1 := ownv_int (hO.kept hKr) (i * 2 + 1) (by omega)
        rw [e0] at q0
        rw [e1] at q1
        have hf := HF.out i
        have hle := HL.out i (by omega)
        have hle2 := HL.out (i + 1) (by omega)
        have hprev : ∀ i', i = i' + 1 → ∃ c : Nat, wr.cell? ⟨g, i' * 2, none⟩ = some (.int .i64 c) ∧ wr.cell? ⟨g, i' * 2 + 1, none⟩ = some (.int .i64 (fr n p i)) ∧ fr n p (i + 1) - fr n p i ≤ fr n p i - c ∧ c ≤ fr n p i := fun i' e => by
          subst e
          have a0 := ownv_int (hO.kept hKr) (i' * 2) (by omega)
          have a1 := ownv_int (hO.kept hKr) (i' * 2 + 1) (by omega)
          obtain ⟨f0, f1⟩ := hPt.at' i' (by omega)
          rw [f0] at a0
          rw [f1] at a1
          have hf' := HF.out i'
          refine ⟨fr n p i', a0, a1, ?_, by omega⟩
          rw [hf, hf']
          split <;> split <;> omega
        obtain ⟨a, ha⟩ : ∃ a, fr n p i = a := ⟨_, rfl⟩
        obtain ⟨b, hb⟩ : ∃ b, fr n p (i + 1) = b := ⟨_, rfl⟩
        rw [ha] at q0 hf hle hprev
        rw [hb] at q1 hf hle2 hprev
        clear e0 e1 ha hb hl hPt hO hK
        obtain ⟨s, hs, hs1, hs2⟩ : ∃ s : Nat, b = a + s ∧ q ≤ s ∧ s ≤ q + 1 := ⟨b - a, by rw [hf]; split <;> omega, by rw [hf]; split <;> omega, by rw [hf]; split <;> omega⟩
        have zs : IntKind.i64.wrap ((b : Int) - (a : Int)) = (s : Int) := by rw [wrap_i64]; omega
        have c1 : ¬ (s : Int) < (q : Int) := by omega
        have c2 : ¬ (q : Int) + 1 < (s : Int) := by omega
        have u1 : decide ((s : Int) < (q : Int)) = false := decide_eq_false c1
        have u2 : decide ((q : Int) + 1 < (s : Int)) = false := decide_eq_false c2
        have u3 : decide (s < q) = false := decide_eq_false (by omega)
        have b4 : (i : Int) < (p : Int) := by omega
        have z1 : IntKind.i64.wrap ((i : Int) + 1) = (i : Int) + 1 := by rw [wrap_i64]; omega
        have hprev' : ∀ i', i = i' + 1 → ∃ (c t : Nat), wr.cell? ⟨g, i' * 2, none⟩ = some (.int .i64 c) ∧ wr.cell? ⟨g, i' * 2 + 1, none⟩ = some (.int .i64 a) ∧ IntKind.i64.wrap ((a : Int) - (c : Int)) = (t : Int) ∧ s ≤ t := fun i' e => by
          obtain ⟨c, h1, h2, h3, h4⟩ := hprev i' e
          exact ⟨c, a - c, h1, h2, by rw [wrap_i64]; omega, by omega⟩
        clear hf hprev hs hs1 hs2 hle hle2
        rcases i with _ | i'
        · clear hprev'
          rw [show ((0 : Nat) : Int) = 0 from rfl] at *
          rw [show 0 * 2 = 0 from rfl] at *
          go_upto_region 9 with fail
          go_quiet (fail)
          go_upto_region 10 with fail
          go_quiet (fail)
          go_wp2_with fail
          go_roundw
          case rel => exact ⟨1, by omega, by go_num, hKr.drewN _⟩
          case measure => simp [intOf]; omega
        · obtain ⟨c, t, q2, q3, zt, hst⟩ := hprev' i' rfl
          clear hprev'
          rw [show ((i' + 1 : Nat) : Int) = (i' : Int) + 1 by omega] at *
          have z2 : IntKind.i64.wrap ((i' : Int) + 1 - 1) = (i' : Int) := by rw [wrap_i64]; omega
          have b8 : 0 < (i' : Int) + 1 := by omega
          have b9 : ¬ (t : Int) < (s : Int) := by omega
          have b10 : (i' : Int) < (p : Int) := by omega
          have b11 : 0 ≤ (i' : Int) + 1 := by omega
          have u5 : decide (0 < (i' : Int) + 1) = true := decide_eq_true b8
          have u6 : decide ((t : Int) < (s : Int)) = false := decide_eq_false b9
          have u7 : decide (t < s) = false := decide_eq_false (by omega)
          have u8 : ((a : Int) != (a : Int)) = false := by simp
          go_upto_region 9 with fail
          go_quiet (fail)
          go_upto_region 10 with fail
          go_quiet (fail)
          go_wp2_with fail
          go_roundw
          case rel => exact ⟨i' + 1 + 1, by omega, by go_num, hKr.drewN _⟩
          case measure => simp [intOf]; omega
      · obtain rfl : i = p := by omega
        go_wp2
        go_ret
        exact ⟨rfl, HO.out.2.2.trans hKr⟩
  · go_enter Try.func3, Try.ntmps3
    go_wp2_with fail
    refine (HA.out _).mono ?_
    rintro e w1 ⟨rfl, hk1⟩
    by_cases h1 : n0 < 0
    · clear hall
      go_wp2_with fail
      refine (HA.out _).mono ?_
      rintro e w2 ⟨rfl, hk2⟩
      go_wp2
      go_ret
      exact ⟨rfl, hk1.trans hk2⟩
    · by_cases h2 : 4096 < n0
      · clear hall
        go_wp2_with fail
        refine (HA.out _).mono ?_
        rintro e w2 ⟨rfl, hk2⟩
        go_wp2
        go_ret
        exact ⟨rfl, hk1.trans hk2⟩
      · by_cases h3 : p0 < 1
        · clear hall
          go_wp2_with fail
          refine (HA.out _).mono ?_
          rintro e w2 ⟨rfl, hk2⟩
          go_wp2
          go_ret
          exact ⟨rfl, hk1.trans hk2⟩
        · have h4 : 16 < p0 := by omega
          clear hall
          go_wp2_with fail
          refine (HA.out _).mono ?_
          rintro e w2 ⟨rfl, hk2⟩
          go_wp2
          go_ret
          exact ⟨rfl, hk1.trans hk2⟩

end Go.Proofs.Ythjcofdcbinliaa
