/- The laws of chapter 23: bulk, within. -/
import Derived.Test.YtfbcdbfalopkeaaWA
namespace Go.Proofs.Ytfbcdbfalopkeaa
open Go.ChangeShapes Go.WideShapes Go.ChangeAt Go.RowKit
set_option linter.unusedVariables false
set_option linter.unusedSimpArgs false

set_option maxHeartbeats 8000000 in
set_option maxRecDepth 100000 in
theorem bulk_any (v : Value) (s : Sta) (hpn : s.P.length ≤ 9223372036854775807) (hqn : s.Q.length ≤ 9223372036854775807) (hln : ∀ l ∈ s.Q, l.length ≤ 9223372036854775807) (w : World) (hS : StI w v s) :
    Calls Try.prog 8 #[v] w fun e w' => (∃ x, e = .returned (.int .i64 x)) ∧ Kept w w' := by
  obtain ⟨pv, qv, rfl, ⟨pa, pc, rfl, hpc, hpr⟩, ⟨qa, qc, rfl, hqc, hqr⟩⟩ := hS
  have HP : Hid (∀ (i : Nat) (m : Mat), s.P[i]? = some m → ∃ B off a cp, pa = some ⟨B, off, none⟩ ∧ ∀ u, Kept w u → u.cell? ⟨B, off + i * 4 + 3, none⟩ = some (.slice a m.L.length cp)) := fun i m hi => by
    obtain ⟨B, off, e, h⟩ := hpr (by intro e; rw [e] at hi; simp at hi)
    obtain ⟨a, cp, hm⟩ := h i m hi
    exact ⟨B, off, a, cp, e, fun u ku => (hm.kept ku).c3⟩
  have HQ : Hid (∀ (i : Nat) (l : List Mat), s.Q[i]? = some l → ∃ B off la lc, qa = some ⟨B, off, none⟩ ∧ l.length ≤ lc ∧ (∀ u, Kept w u → u.cell? ⟨B, off + i, none⟩ = some (.slice la l.length lc)) ∧ ∀ (k : Nat) (m : Mat), l[k]? = some m → ∃ B2 off2 a cp, la = some ⟨B2, off2, none⟩ ∧ ∀ u, Kept w u → u.cell? ⟨B2, off2 + k * 4 + 3, none⟩ = some (.slice a m.L.length cp)) := fun i l hi => by
    obtain ⟨B, off, e, h⟩ := hqr (by intro e; rw [e] at hi; simp at hi)
    obtain ⟨lv, h1, la, lc, rfl, hlc, hr⟩ := h i l hi
    refine ⟨B, off, la, lc, e, hlc, fun u ku => (ku.below.cell (p := ⟨B, off + i, none⟩) (World.block_lt_of_cell? _ _ h1)).trans h1, fun k m hk => ?_⟩
    obtain ⟨B2, off2, e2, h2⟩ := hr (by intro e; rw [e] at hk; simp at hk)
    obtain ⟨a, cp, hm⟩ := h2 k m hk
    exact ⟨B2, off2, a, cp, e2, fun u ku => (hm.kept ku).c3⟩
  have HLN := hid (show ∀ (i : Nat) (l : List Mat), s.Q[i]? = some l → l.length ≤ 9223372036854775807 from fun i l hi => hln l (List.mem_of_getElem? hi))
  clear hpr hqr hln
  obtain ⟨sa, sb, sd, P, Q, lo, ra⟩ := s
  dsimp only at *
  obtain ⟨pl, hpl⟩ : ∃ pl, P.length = pl := ⟨_, rfl⟩
  obtain ⟨n, hn⟩ : ∃ n, Q.length = n := ⟨_, rfl⟩
  rw [hpl] at hpn hpc ⊢
  rw [hn] at hqn hqc ⊢
  have HPl := hid hpl
  have HNn := hid hn
  have HB := hid (show pl ≤ 9223372036854775807 ∧ n ≤ 9223372036854775807 ∧ pl ≤ pc ∧ n ≤ qc from ⟨hpn, hqn, hpc, hqc⟩)
  clear hpl hn hpn hqn hpc hqc
  obtain ⟨M, hM⟩ : ∃ M, w.heap.size = M := ⟨_, rfl⟩
  obtain ⟨W0, hW0⟩ : ∃ W0, w.alloc (.cells #[.int .i64 sa, .int .i64 sb, .int .i64 sd, .slice pa pl pc, .slice qa n qc, .int .i64 lo, .int .i64 ra] 25) = W0 := ⟨_, rfl⟩
  have k0 : Kept w W0 := by rw [← hW0]; exact (Kept.refl w).alloc _ _
  have b0 : Bk W0 M [.int .i64 sa, .int .i64 sb, .int .i64 sd, .slice pa pl pc, .slice qa n qc, .int .i64 lo, .int .i64 ra] := by rw [← hW0, ← hM]; exact Bk.new w _ _
  have x3 := b0.c 3 _ rfl
  have x4 := b0.c 4 _ rfl
  have HK0 := hid k0
  have HBk := hid (show ∀ u, Kept W0 u → Bk u M [.int .i64 sa, .int .i64 sb, .int .i64 sd, .slice pa pl pc, .slice qa n qc, .int .i64 lo, .int .i64 ra] from fun u ku => b0.kept ku)
  clear k0 b0
  go_enter Try.func8, Try.ntmps8
  go_wp2_with fail
  clear hM hW0
  go_loopw [3, 4] (fun sv iv wr => ∃ (i : Nat) (x : Int), i ≤ pl ∧ sv = .int .i64 x ∧ iv = .int .i64 (i : Int) ∧ Kept W0 wr) (fun _ iv _ => pl - (intOf iv).toNat)
  case atStart => exact ⟨0, _, Nat.zero_le _, rfl, rfl, Kept.refl _⟩
  case round =>
    clear x3 x4
    obtain ⟨i, x, hi, rfl, rfl, kr⟩ := hrel
    have x3 := (HBk.out _ kr).c 3 _ rfl
    have x4 := (HBk.out _ kr).c 4 _ rfl
    have KR := hid kr
    by_cases hin : i < pl ∧ x ≤ 40000
    · obtain ⟨hin, hx⟩ := hin
      obtain ⟨m, hm⟩ : ∃ m, P[i]? = some m := ⟨_, List.getElem?_eq_getElem (by rw [HPl.out]; exact hin)⟩
      obtain ⟨B, off, a, cp, rfl, hc⟩ := HP.out i m hm
      have c3 := hc _ (HK0.out.trans kr)
      have hbd : (0 : Int) ≤ (i : Int) ∧ (i : Int) < (pl : Int) := by omega
      have hbd2 : decide ((i : Int) < (pl : Int)) = true := decide_eq_true (by omega)
      have hxd : decide (x ≤ 40000) = true := decide_eq_true hx
      have z2 : IntKind.i64.wrap ((i : Int) + 1) = (i : Int) + 1 := by have := HB.out; rw [wrap_i64]; omega
      have hi2 := hid hin
      clear hc hm HP HQ hi hin hx kr
      go_wp2_with fail
      go_roundw
      case rel => exact ⟨i + 1, _, by have := hi2.out; omega, rfl, by go_num, KR.out⟩
      case measure => have := hi2.out; simp [intOf]; omega
    · have hdd : ((decide ((i : Int) < (pl : Int)) = false ∧ decide (i < pl) = false) ∧ ¬ i < pl) ∨ ((decide ((i : Int) < (pl : Int)) = true ∧ decide (i < pl) = true ∧ i < pl) ∧ decide (x ≤ 40000) = false ∧ ¬ x ≤ 40000) := by
        by_cases h1 : i < pl
        · exact .inr ⟨⟨decide_eq_true (by omega), decide_eq_true h1, h1⟩, decide_eq_false (fun h => hin ⟨h1, h⟩), fun h => hin ⟨h1, h⟩⟩
        · exact .inl ⟨⟨decide_eq_false (by omega), decide_eq_false h1⟩, h1⟩
      clear hin hi HP kr
      rcases hdd with ⟨⟨hd1, hd3⟩, hd4⟩ | ⟨⟨hd1, hd3, hd4⟩, hd2, hd5⟩
      all_goals
        go_wp2_with fail
        go_loopw [3, 5] (fun sv iv wr => ∃ (i : Nat) (x : Int), i ≤ n ∧ sv = .int .i64 x ∧ iv = .int .i64 (i : Int) ∧ Kept W0 wr) (fun _ iv _ => n - (intOf iv).toNat)
        case atStart => exact ⟨0, _, Nat.zero_le _, rfl, rfl, KR.out⟩
        case round =>
          clear hd1 hd3 hd4 x3 x4 KR
          try clear hd2 hd5
          obtain ⟨i, x, hi, rfl, rfl, kr⟩ := hrel
          have x3 := (HBk.out _ kr).c 3 _ rfl
          have x4 := (HBk.out _ kr).c 4 _ rfl
          have KR := hid kr
          by_cases hin : i < n ∧ x ≤ 40000
          · obtain ⟨hin, hx⟩ := hin
            obtain ⟨l, hl⟩ : ∃ l, Q[i]? = some l := ⟨_, List.getElem?_eq_getElem (by rw [HNn.out]; exact hin)⟩
            obtain ⟨B, off, la, lc, rfl, hlc, hc, hin3⟩ := HQ.out i l hl
            have c3 := hc _ (HK0.out.trans kr)
            have hbd : (0 : Int) ≤ (i : Int) ∧ (i : Int) < (n : Int) := by omega
            have hbd2 : decide ((i : Int) < (n : Int)) = true := decide_eq_true (by omega)
            have hxd : decide (x ≤ 40000) = true := decide_eq_true hx
            have z2 : IntKind.i64.wrap ((i : Int) + 1) = (i : Int) + 1 := by have := HB.out; rw [wrap_i64]; omega
            have HLl := hid (HLN.out i l hl)
            obtain ⟨q, hq⟩ : ∃ q, l.length = q := ⟨_, rfl⟩
            rw [hq] at c3 HLl hlc
            have HL := hid hq
            have HL3 := hid hin3
            have hi2 := hid hin
            have HC3 := hid hc
            clear hc hl HQ hi hin hx hq hin3 hlc kr
            go_wp2_with fail
            go_loopw [3, 6] (fun sv iv wr => ∃ (k : Nat) (x : Int), k ≤ q ∧ sv = .int .i64 x ∧ iv = .int .i64 (k : Int) ∧ Kept W0 wr) (fun _ iv _ => q - (intOf iv).toNat)
            case atStart => exact ⟨0, _, Nat.zero_le _, rfl, rfl, KR.out⟩
            case round =>
              clear hxd x3 x4 c3 KR
              obtain ⟨k, y, hk, rfl, rfl, kr⟩ := hrel
              have x3 := (HBk.out _ kr).c 3 _ rfl
              have x4 := (HBk.out _ kr).c 4 _ rfl
              have c3 := HC3.out _ (HK0.out.trans kr)
              rw [HL.out] at c3
              have KR := hid kr
              by_cases hkn : k < q ∧ y ≤ 40000
              · obtain ⟨hkn, hy⟩ := hkn
                obtain ⟨m, hm⟩ : ∃ m, l[k]? = some m := ⟨_, List.getElem?_eq_getElem (by rw [HL.out]; exact hkn)⟩
                obtain ⟨B2, off2, a, cp, rfl, hc⟩ := HL3.out k m hm
                have c4 := hc _ (HK0.out.trans kr)
                have hbd3 : (0 : Int) ≤ (k : Int) ∧ (k : Int) < (q : Int) := by omega
                have hbd4 : decide ((k : Int) < (q : Int)) = true := decide_eq_true (by omega)
                have hyd : decide (y ≤ 40000) = true := decide_eq_true hy
                have z4 : IntKind.i64.wrap ((k : Int) + 1) = (k : Int) + 1 := by have := HLl.out; rw [wrap_i64]; omega
                have hk2 := hid hkn
                clear hc hm HL3 hk hkn hy kr
                go_wp2_with fail
                go_roundw
                case rel => exact ⟨k + 1, _, by have := hk2.out; omega, rfl, by go_num, KR.out⟩
                case measure => have := hk2.out; simp [intOf]; omega
              · have hdd : ((decide ((k : Int) < (q : Int)) = false ∧ decide (k < q) = false) ∧ ¬ k < q) ∨ ((decide ((k : Int) < (q : Int)) = true ∧ decide (k < q) = true ∧ k < q) ∧ decide (y ≤ 40000) = false ∧ ¬ y ≤ 40000) := by
                  by_cases h1 : k < q
                  · exact .inr ⟨⟨decide_eq_true (by omega), decide_eq_true h1, h1⟩, decide_eq_false (fun h => hkn ⟨h1, h⟩), fun h => hkn ⟨h1, h⟩⟩
                  · exact .inl ⟨⟨decide_eq_false (by omega), decide_eq_false h1⟩, h1⟩
                clear hkn hk kr
                rcases hdd with ⟨⟨hd1, hd3⟩, hd4⟩ | ⟨⟨hd1, hd3, hd4⟩, hd2, hd5⟩
                all_goals
                  go_wp2_with fail
                  go_roundw
                  case rel => exact ⟨i + 1, _, by have := hi2.out; omega, rfl, by go_num, KR.out⟩
                  case measure => have := hi2.out; simp [intOf]; omega
          · have hdd : ((decide ((i : Int) < (n : Int)) = false ∧ decide (i < n) = false) ∧ ¬ i < n) ∨ ((decide ((i : Int) < (n : Int)) = true ∧ decide (i < n) = true ∧ i < n) ∧ decide (x ≤ 40000) = false ∧ ¬ x ≤ 40000) := by
              by_cases h1 : i < n
              · exact .inr ⟨⟨decide_eq_true (by omega), decide_eq_true h1, h1⟩, decide_eq_false (fun h => hin ⟨h1, h⟩), fun h => hin ⟨h1, h⟩⟩
              · exact .inl ⟨⟨decide_eq_false (by omega), decide_eq_false h1⟩, h1⟩
            clear hin hi kr
            rcases hdd with ⟨⟨hd1, hd3⟩, hd4⟩ | ⟨⟨hd1, hd3, hd4⟩, hd2, hd5⟩
            all_goals
              go_wp2_with fail
              go_ret
              exact ⟨⟨_, rfl⟩, HK0.out.trans KR.out⟩
end Go.Proofs.Ytfbcdbfalopkeaa
