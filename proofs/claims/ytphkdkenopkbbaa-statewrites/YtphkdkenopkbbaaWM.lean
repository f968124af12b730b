/- The laws of chapter 23: bulk, within. States and their bytes: what is read is written again as it was. StateBack: there and back. StateBack: the law. Bytes that are copied; within; bytes that are cut off, bytes with one more. -/
import Derived.Test.YtphkdkenopkbbaaWA
import Derived.Test.YtphkdkenopkbbaaVZ
import Derived.Test.YtphkdkenopkbbaaVK
import Derived.Test.YtphkdkenopkbbaaWC
import Derived.Laws.IdiomStrings
namespace Go.Proofs.Ytphkdkenopkbbaa
open Go.ChangeShapes Go.WideShapes Go.ChangeAt Go.RowKit
set_option linter.unusedVariables false
set_option linter.unusedSimpArgs false

set_option maxHeartbeats 8000000 in
set_option maxRecDepth 100000 in
theorem bulk_any (v : Value) (s : Sta) (hpn : s.P.length ≤ 9223372036854775807) (hqn : s.Q.length ≤ 9223372036854775807) (hln : ∀ l ∈ s.Q, l.length ≤ 9223372036854775807) (w : World) (hS : StI w v s) :
    Calls Try.prog 7 #[v] w fun e w' => (∃ x, e = .returned (.int .i64 x)) ∧ Kept w w' := by
  obtain ⟨pv, qv, rfl, ⟨pa, pc, rfl, hpc, hpr⟩, ⟨qa, qc, rfl, hqc, hqr⟩⟩ := hS
  have HP : Hid (∀ (i : Nat) (m : Mat), s.P[i]? = some m → ∃ B off a cp, pa = some ⟨B, off, none⟩ ∧ ∀ u, Kept w u → u.cell? ⟨B, off + i * 4 + 3, none⟩ = some (.slice a m.L.length cp)) := fun i m hi => by
    obtain ⟨B, off, e, h⟩ := hpr (by intro e; rw [e] at hi; simp at hi)
    obtain ⟨a, cp, hm⟩ := h i m hi
    exact ⟨B, off, a, cp, e, fun u ku => (hm.kept ku).c3⟩
  have HQ : Hid (∀ (i : Nat) (l : List Mat), s.Q[i]? = some l → ∃ B off la lc, qa = some ⟨B, off, none⟩ ∧ l.length ≤ lc ∧ (∀ u, Kept w u → u.cell? ⟨B, off + i, none⟩ = some (.slice la l.length lc)) ∧ ∀ (k : Nat) (m : Mat), l[k]? = some m → ∃ B2 off2 a cp, la = some ⟨B2, off2, none⟩ ∧ ∀ u, Kept w u → u.cell? ⟨B2, off2 + k * 4 + 3, none⟩ = some (.slice a m.L.length cp)) := fun i l hi => by
    obtain ⟨B, off, e, h⟩ := hqr (by intro e; rw [e] at hi; simp at hi)
    obtain ⟨lv, h1, la, lc, rfl, hlc, hr⟩ := h i l hi
    refine ⟨B, off, la, lc, e, hlc, fun u ku => (ku.below.cell (p := ⟨B, off + i, none⟩) (World.block_lt_of_cell? _ _ h1)).trans h1, fun k m hk => ?_⟩
    obtain ⟨B2, off2, e2, h2⟩ := hr (by intro e; rw [e] at hk; simp at hk)
    obtain ⟨a, cp, hm⟩ := h2 k m hk
    exact ⟨B2, off2, a, cp, e2, fun u ku => (hm.kept ku).c3⟩
  have HLN := hid (show ∀ (i : Nat) (l : List Mat), s.Q[i]? = some l → l.length ≤ 9223372036854775807 from fun i l hi => hln l (List.mem_of_getElem? hi))
  clear hpr hqr hln
  obtain ⟨sa, sb, sd, P, Q, lo, ra⟩ := s
  dsimp only at *
  obtain ⟨pl, hpl⟩ : ∃ pl, P.length = pl := ⟨_, rfl⟩
  obtain ⟨n, hn⟩ : ∃ n, Q.length = n := ⟨_, rfl⟩
  rw [hpl] at hpn hpc ⊢
  rw [hn] at hqn hqc ⊢
  have HPl := hid hpl
  have HNn := hid hn
  have HB := hid (show pl ≤ 9223372036854775807 ∧ n ≤ 9223372036854775807 ∧ pl ≤ pc ∧ n ≤ qc from ⟨hpn, hqn, hpc, hqc⟩)
  clear hpl hn hpn hqn hpc hqc
  obtain ⟨M, hM⟩ : ∃ M, w.heap.size = M := ⟨_, rfl⟩
  obtain ⟨W0, hW0⟩ : ∃ W0, w.alloc (.cells #[.int .i64 sa, .int .i64 sb, .int .i64 sd, .slice pa pl pc, .slice qa n qc, .int .i64 lo, .int .i64 ra] 25) = W0 := ⟨_, rfl⟩
  have k0 : Kept w W0 := by rw [← hW0]; exact (Kept.refl w).alloc _ _
  have b0 : Bk W0 M [.int .i64 sa, .int .i64 sb, .int .i64 sd, .slice pa pl pc, .slice qa n qc, .int .i64 lo, .int .i64 ra] := by rw [← hW0, ← hM]; exact Bk.new w _ _
  have x3 := b0.c 3 _ rfl
  have x4 := b0.c 4 _ rfl
  have HK0 := hid k0
  have HBk := hid (show ∀ u, Kept W0 u → Bk u M [.int .i64 sa, .int .i64 sb, .int .i64 sd, .slice pa pl pc, .slice qa n qc, .int .i64 lo, .int .i64 ra] from fun u ku => b0.kept ku)
  clear k0 b0
  go_enter Try.func7, Try.ntmps7
  go_wp2_with fail
  clear hM hW0
  go_loopw [3, 4] (fun sv iv wr => ∃ (i : Nat) (x : Int), i ≤ pl ∧ sv = .int .i64 x ∧ iv = .int .i64 (i : Int) ∧ Kept W0 wr) (fun _ iv _ => pl - (intOf iv).toNat)
  case atStart => exact ⟨0, _, Nat.zero_le _, rfl, rfl, Kept.refl _⟩
  case round =>
    clear x3 x4
    obtain ⟨i, x, hi, rfl, rfl, kr⟩ := hrel
    have x3 := (HBk.out _ kr).c 3 _ rfl
    have x4 := (HBk.out _ kr).c 4 _ rfl
    have KR := hid kr
    by_cases hin : i < pl ∧ x ≤ 40000
    · obtain ⟨hin, hx⟩ := hin
      obtain ⟨m, hm⟩ : ∃ m, P[i]? = some m := ⟨_, List.getElem?_eq_getElem (by rw [HPl.out]; exact hin)⟩
      obtain ⟨B, off, a, cp, rfl, hc⟩ := HP.out i m hm
      have c3 := hc _ (HK0.out.trans kr)
      have hbd : (0 : Int) ≤ (i : Int) ∧ (i : Int) < (pl : Int) := by omega
      have hbd2 : decide ((i : Int) < (pl : Int)) = true := decide_eq_true (by omega)
      have hxd : decide (x ≤ 40000) = true := decide_eq_true hx
      have z2 : IntKind.i64.wrap ((i : Int) + 1) = (i : Int) + 1 := by have := HB.out; rw [wrap_i64]; omega
      have hi2 := hid hin
      clear hc hm HP HQ hi hin hx kr
      go_wp2_with fail
      go_roundw
      case rel => exact ⟨i + 1, _, by have := hi2.out; omega, rfl, by go_num, KR.out⟩
      case measure => have := hi2.out; simp [intOf]; omega
    · have hdd : ((decide ((i : Int) < (pl : Int)) = false ∧ decide (i < pl) = false) ∧ ¬ i < pl) ∨ ((decide ((i : Int) < (pl : Int)) = true ∧ decide (i < pl) = true ∧ i < pl) ∧ decide (x ≤ 40000) = false ∧ ¬ x ≤ 40000) := by
        by_cases h1 : i < pl
        · exact .inr ⟨⟨decide_eq_true (by omega), decide_eq_true h1, h1⟩, decide_eq_false (fun h => hin ⟨h1, h⟩), fun h => hin ⟨h1, h⟩⟩
        · exact .inl ⟨⟨decide_eq_false (by omega), decide_eq_false h1⟩, h1⟩
      clear hin hi HP kr
      rcases hdd with ⟨⟨hd1, hd3⟩, hd4⟩ | ⟨⟨hd1, hd3, hd4⟩, hd2, hd5⟩
      all_goals
        go_wp2_with fail
        go_loopw [3, 5] (fun sv iv wr => ∃ (i : Nat) (x : Int), i ≤ n ∧ sv = .int .i64 x ∧ iv = .int .i64 (i : Int) ∧ Kept W0 wr) (fun _ iv _ => n - (intOf iv).toNat)
        case atStart => exact ⟨0, _, Nat.zero_le _, rfl, rfl, KR.out⟩
        case round =>
          clear hd1 hd3 hd4 x3 x4 KR
          try clear hd2 hd5
          obtain ⟨i, x, hi, rfl, rfl, kr⟩ := hrel
          have x3 := (HBk.out _ kr).c 3 _ rfl
          have x4 := (HBk.out _ kr).c 4 _ rfl
          have KR := hid kr
          by_cases hin : i < n ∧ x ≤ 40000
          · obtain ⟨hin, hx⟩ := hin
            obtain ⟨l, hl⟩ : ∃ l, Q[i]? = some l := ⟨_, List.getElem?_eq_getElem (by rw [HNn.out]; exact hin)⟩
            obtain ⟨B, off, la, lc, rfl, hlc, hc, hin3⟩ := HQ.out i l hl
            have c3 := hc _ (HK0.out.trans kr)
            have hbd : (0 : Int) ≤ (i : Int) ∧ (i : Int) < (n : Int) := by omega
            have hbd2 : decide ((i : Int) < (n : Int)) = true := decide_eq_true (by omega)
            have hxd : decide (x ≤ 40000) = true := decide_eq_true hx
            have z2 : IntKind.i64.wrap ((i : Int) + 1) = (i : Int) + 1 := by have := HB.out; rw [wrap_i64]; omega
            have HLl := hid (HLN.out i l hl)
            obtain ⟨q, hq⟩ : ∃ q, l.length = q := ⟨_, rfl⟩
            rw [hq] at c3 HLl hlc
            have HL := hid hq
            have HL3 := hid hin3
            have hi2 := hid hin
            have HC3 := hid hc
            clear hc hl HQ hi hin hx hq hin3 hlc kr
            go_wp2_with fail
            go_loopw [3, 6] (fun sv iv wr => ∃ (k : Nat) (x : Int), k ≤ q ∧ sv = .int .i64 x ∧ iv = .int .i64 (k : Int) ∧ Kept W0 wr) (fun _ iv _ => q - (intOf iv).toNat)
            case atStart => exact ⟨0, _, Nat.zero_le _, rfl, rfl, KR.out⟩
            case round =>
              clear hxd x3 x4 c3 KR
              obtain ⟨k, y, hk, rfl, rfl, kr⟩ := hrel
              have x3 := (HBk.out _ kr).c 3 _ rfl
              have x4 := (HBk.out _ kr).c 4 _ rfl
              have c3 := HC3.out _ (HK0.out.trans kr)
              rw [HL.out] at c3
              have KR := hid kr
              by_cases hkn : k < q ∧ y ≤ 40000
              · obtain ⟨hkn, hy⟩ := hkn
                obtain ⟨m, hm⟩ : ∃ m, l[k]? = some m := ⟨_, List.getElem?_eq_getElem (by rw [HL.out]; exact hkn)⟩
                obtain ⟨B2, off2, a, cp, rfl, hc⟩ := HL3.out k m hm
                have c4 := hc _ (HK0.out.trans kr)
                have hbd3 : (0 : Int) ≤ (k : Int) ∧ (k : Int) < (q : Int) := by omega
                have hbd4 : decide ((k : Int) < (q : Int)) = true := decide_eq_true (by omega)
                have hyd : decide (y ≤ 40000) = true := decide_eq_true hy
                have z4 : IntKind.i64.wrap ((k : Int) + 1) = (k : Int) + 1 := by have := HLl.out; rw [wrap_i64]; omega
                have hk2 := hid hkn
                clear hc hm HL3 hk hkn hy kr
                go_wp2_with fail
                go_roundw
                case rel => exact ⟨k + 1, _, by have := hk2.out; omega, rfl, by go_num, KR.out⟩
                case measure => have := hk2.out; simp [intOf]; omega
              · have hdd : ((decide ((k : Int) < (q : Int)) = false ∧ decide (k < q) = false) ∧ ¬ k < q) ∨ ((decide ((k : Int) < (q : Int)) = true ∧ decide (k < q) = true ∧ k < q) ∧ decide (y ≤ 40000) = false ∧ ¬ y ≤ 40000) := by
                  by_cases h1 : k < q
                  · exact .inr ⟨⟨decide_eq_true (by omega), decide_eq_true h1, h1⟩, decide_eq_false (fun h => hkn ⟨h1, h⟩), fun h => hkn ⟨h1, h⟩⟩
                  · exact .inl ⟨⟨decide_eq_false (by omega), decide_eq_false h1⟩, h1⟩
                clear hkn hk kr
                rcases hdd with ⟨⟨hd1, hd3⟩, hd4⟩ | ⟨⟨hd1, hd3, hd4⟩, hd2, hd5⟩
                all_goals
                  go_wp2_with fail
                  go_roundw
                  case rel => exact ⟨i + 1, _, by have := hi2.out; omega, rfl, by go_num, KR.out⟩
                  case measure => have := hi2.out; simp [intOf]; omega
          · have hdd : ((decide ((i : Int) < (n : Int)) = false ∧ decide (i < n) = false) ∧ ¬ i < n) ∨ ((decide ((i : Int) < (n : Int)) = true ∧ decide (i < n) = true ∧ i < n) ∧ decide (x ≤ 40000) = false ∧ ¬ x ≤ 40000) := by
              by_cases h1 : i < n
              · exact .inr ⟨⟨decide_eq_true (by omega), decide_eq_true h1, h1⟩, decide_eq_false (fun h => hin ⟨h1, h⟩), fun h => hin ⟨h1, h⟩⟩
              · exact .inl ⟨⟨decide_eq_false (by omega), decide_eq_false h1⟩, h1⟩
            clear hin hi kr
            rcases hdd with ⟨⟨hd1, hd3⟩, hd4⟩ | ⟨⟨hd1, hd3, hd4⟩, hd2, hd5⟩
            all_goals
              go_wp2_with fail
              go_ret
              exact ⟨⟨_, rfl⟩, HK0.out.trans KR.out⟩
end Go.Proofs.Ytphkdkenopkbbaa

namespace Go.Proofs.Ytphkdkenopkbbaa
open Go.ChangeShapes Go.WideShapes Go.ChangeAt Go.RowKit
set_option linter.unusedVariables false
set_option linter.unusedSimpArgs false

theorem shift_same (x p t : Int) (hp : 0 < p) : (x + p * 256 * t) / p % 256 = x / p % 256 := by
  rw [show x + p * 256 * t = x + p * (256 * t) by rw [Int.mul_assoc], Int.add_mul_ediv_left _ _ (by omega)]
  omega
theorem pow_split (j k : Nat) (h : j < k) : (2 : Int) ^ (8 * k) = 2 ^ (8 * j) * 256 * 2 ^ (8 * (k - j - 1)) := by
  rw [← pow_step, ← Int.pow_add]
  congr 1
  omega
theorem un_get (B : List Int) (i : Nat) (hB : Byt B) : ∀ k j, j < k → un k B i / 2 ^ (8 * j) % 256 = B.getD (i + j) 0
  | 0, j, h => by omega
  | k + 1, j, h => by
    have hb := hB.at (i + k)
    have hr := un_rng k B i hB
    rw [pow_256] at hr
    show (un k B i + B.getD (i + k) 0 * (256 : Int) ^ k) / 2 ^ (8 * j) % 256 = _
    rw [pow_256]
    by_cases hj : j < k
    · rw [pow_split j k hj, show un k B i + B.getD (i + k) 0 * (2 ^ (8 * j) * 256 * 2 ^ (8 * (k - j - 1))) = un k B i + 2 ^ (8 * j) * 256 * (B.getD (i + k) 0 * 2 ^ (8 * (k - j - 1))) by rw [Int.mul_left_comm], shift_same _ _ _ (pow_pos8 j)]
      exact un_get B i hB k j hj
    · obtain rfl : j = k := by omega
      rw [Int.add_mul_ediv_right _ _ (by have := pow_pos8 j; omega), Int.ediv_eq_zero_of_lt hr.1 hr.2]
      omega
theorem le_numv (B : List Int) (i k : Nat) (hk : k ≤ 8) (hB : Byt B) (hl : i + k ≤ B.length) : le k (numv k B i) = (B.drop i).take k := by
  have hn : ∃ c : Int, numv k B i = un k B i + c * 18446744073709551616 := by
    unfold numv
    rw [wrap_i64]
    refine ⟨(numv k B i - un k B i) / 18446744073709551616, ?_⟩
    unfold numv
    rw [wrap_i64]
    omega
  obtain ⟨c, hc⟩ := hn
  have hL : ((B.drop i).take k).length = k := by rw [List.length_take, List.length_drop]; omega
  refine List.ext_getElem (by rw [le_len, hL]) fun j h1 h2 => ?_
  rw [le_len] at h1
  have e1 := le_get k (numv k B i) j h1
  rw [List.getD_eq_getElem?_getD, List.getElem?_eq_getElem (by rw [le_len]; exact h1)] at e1
  simp only [Option.getD_some] at e1
  have e64 : (18446744073709551616 : Int) = 2 ^ (8 * j) * 256 * 2 ^ (8 * (8 - j - 1)) := by
    rw [← pow_split j 8 (by omega)]; rfl
  rw [e1, hc, e64, show un k B i + c * (2 ^ (8 * j) * 256 * 2 ^ (8 * (8 - j - 1))) = un k B i + 2 ^ (8 * j) * 256 * (c * 2 ^ (8 * (8 - j - 1))) by rw [Int.mul_left_comm], shift_same _ _ _ (pow_pos8 j), un_get B i hB k j h1]
  rw [List.getElem_take, List.getElem_drop, List.getD_eq_getElem?_getD, List.getElem?_eq_getElem (by omega)]
  rfl
theorem pnum_dec {k : Nat} {g : Int → Bool} {B : List Int} {i q : Nat} {n : Int} (hk : k ≤ 8) (hB : Byt B) (h : pnum k g B i = .ok n q) : q ≤ B.length ∧ B.take q = B.take i ++ le k n ∧ g n = true ∧ n = numv k B i := by
  unfold pnum at h
  split at h
  · rename_i h1
    split at h
    · rename_i h2
      cases h
      exact ⟨h1, by rw [le_numv B i k hk hB h1, List.take_add], h2, rfl⟩
    · cases h
  · cases h
theorem andTo_inv {α β : Type} {x : Res α} {f : α → Nat → Res β} {b : β} {q : Nat} (h : x.andTo f = .ok b q) : ∃ a q1, x = .ok a q1 ∧ f a q1 = .ok b q := by
  cases x with
  | no e p => cases h
  | ok a q1 => exact ⟨a, q1, rfl, h⟩
def flatE {α : Type} (e : α → List Int) : List α → List Int
  | [] => []
  | a :: l => e a ++ flatE e l
theorem flat_bits (k : Nat) : ∀ L : List Int, flatE (le k) L = wbits k L
  | [] => rfl
  | a :: L => congrArg (le k a ++ ·) (flat_bits k L)
theorem flat_wls : ∀ l : List Mat, flatE wm l = wls l
  | [] => rfl
  | a :: l => congrArg (wm a ++ ·) (flat_wls l)
theorem flat_wqs : ∀ Q : List (List Mat), flatE (fun l => le 1 l.length ++ wls l) Q = wqs Q
  | [] => rfl
  | a :: l => congrArg (le 1 a.length ++ wls a ++ ·) (flat_wqs l)
theorem prep_dec {α : Type} {p : Ps α} {B : List Int} {e : α → List Int} {F : α → Prop} (hp : ∀ i a q, p B i = .ok a q → i ≤ B.length → q ≤ B.length ∧ B.take q = B.take i ++ e a ∧ F a) :
    ∀ N i l q, i ≤ B.length → prep N p B i = .ok l q → q ≤ B.length ∧ B.take q = B.take i ++ flatE e l ∧ l.length = N ∧ ∀ a ∈ l, F a
  | 0, i, l, q, hi, h => by
    cases h
    exact ⟨hi, by simp [flatE], rfl, fun a ha => by cases ha⟩
  | N + 1, i, l, q, hi, h => by
    obtain ⟨a, q1, h1, h2⟩ := andTo_inv h
    obtain ⟨l2, q2, h3, h4⟩ := andTo_inv h2
    obtain ⟨e1, e2, e3⟩ := hp i a q1 h1 hi
    obtain ⟨e4, e5, e6, e7⟩ := prep_dec hp N q1 l2 q2 e1 h3
    cases h4
    refine ⟨e4, by rw [e5, e2, List.append_assoc]; rfl, by simp [e6], fun b hb => ?_⟩
    rcases List.mem_cons.1 hb with rfl | hb
    · exact e3
    · exact e7 b hb
theorem ckM_all {r c n : Int} {L : List Int} (h0 : ckS r c n = 0) (hl : (L.length : Int) = r * c) : ckM r c n L = 0 ↔ ∀ i, i < L.length → val (L.getD i 0) n = true := by
  refine ⟨fun h => (ckM_ok h).2.2, fun h => ?_⟩
  unfold ckM
  rw [if_neg (fun k => k h0), if_neg (fun k => k hl), if_pos]
  rw [List.all_eq_true]
  intro x hx
  obtain ⟨i, hi, rfl⟩ := List.getElem_of_mem hx
  have := h i hi
  rwa [List.getD_eq_getElem?_getD, List.getElem?_eq_getElem hi] at this
theorem pmat_dec {B : List Int} (hB : Byt B) (i : Nat) (m : Mat) (q : Nat) (h : pmat B i = .ok m q) (hi : i ≤ B.length) : q ≤ B.length ∧ B.take q = B.take i ++ wm m ∧ matOk m := by
  obtain ⟨n, q1, h1, h⟩ := andTo_inv h
  obtain ⟨r, q2, h2, h⟩ := andTo_inv h
  obtain ⟨c, q3, h3, h⟩ := andTo_inv h
  obtain ⟨L, q4, h4, h⟩ := andTo_inv h
  cases h
  obtain ⟨a1, b1, c1, d1⟩ := pnum_dec (by decide) hB h1
  obtain ⟨a2, b2, c2, d2⟩ := pnum_dec (by decide) hB h2
  obtain ⟨a3, b3, c3, d3⟩ := pnum_dec (by decide) hB h3
  have hv := numv_val n c1 B hB
  rw [beq_iff_eq] at c3
  obtain ⟨s1, s2, s3, s4⟩ := ckS_ok c3
  have hpel : ∀ j a q, pel n B j = .ok a q → j ≤ B.length → q ≤ B.length ∧ B.take q = B.take j ++ le (Int.tdiv n 8).toNat a ∧ (fin a n = true ∧ val a n = true) := fun j a q hj _ => by
    obtain ⟨a4, b4, c4, d4⟩ := pnum_dec (hv j).2.2 hB hj
    exact ⟨a4, b4, c4, by rw [d4]; exact (hv j).1⟩
  obtain ⟨a5, b5, c5, d5⟩ := prep_dec hpel _ _ _ _ a3 h4
  refine ⟨a5, ?_, ?_, ?_⟩
  · rw [b5, b3, b2, b1, flat_bits]
    unfold wm
    simp only [List.append_assoc]
  · show ckM r c n L = 0
    have hll : (L.length : Int) = r * c := by rw [c5]; exact Int.toNat_of_nonneg (Int.mul_nonneg (by omega) (by omega))
    refine (ckM_all c3 hll).2 fun j hj => ?_
    have := (d5 (L.getD j 0) (by rw [List.getD_eq_getElem?_getD, List.getElem?_eq_getElem hj]; exact List.getElem_mem hj)).2
    exact this
  · intro j hj
    exact (d5 (L.getD j 0) (by rw [List.getD_eq_getElem?_getD, List.getElem?_eq_getElem hj]; exact List.getElem_mem hj)).1
theorem pmats_dec {B : List Int} (hB : Byt B) {k : Nat} {mo : Int} (hk1 : 1 ≤ k) (hk : k ≤ 2) (i : Nat) (l : List Mat) (q : Nat) (h : pmats k mo B i = .ok l q) (hi : i ≤ B.length) : q ≤ B.length ∧ B.take q = B.take i ++ (le k l.length ++ wls l) ∧ ((l.length : Int) ≤ mo ∧ Oks l) := by
  obtain ⟨n, q1, h1, h⟩ := andTo_inv h
  obtain ⟨a1, b1, c1, d1⟩ := pnum_dec (by omega) hB h1
  obtain ⟨a2, b2, c2, d2⟩ := prep_dec (pmat_dec hB) _ _ _ _ a1 h
  rw [decide_eq_true_eq] at c1
  have hn0 : 0 ≤ n := by
    rw [d1]
    have h := un_rng k B i hB
    have e2 : (256 : Int) ^ k ≤ 256 ^ 2 := by
      have h9 := Int.ofNat_le.2 (Nat.pow_le_pow_right (n := 256) (by decide) hk)
      rw [Int.natCast_pow, Int.natCast_pow] at h9
      exact h9
    have e3 : (256 : Int) ^ 2 = 65536 := by decide
    unfold numv
    rw [wrap_i64]
    omega
  have hl : (l.length : Int) = n := by rw [c2]; omega
  refine ⟨a2, ?_, by omega, fun j m hm => d2 m (List.mem_of_getElem? hm)⟩
  rw [b2, b1, hl, flat_wls, List.append_assoc]
theorem pmk_dec {B : List Int} (hB : Byt B) : ∀ (l : List Int) (i : Nat) (q : Nat), (∀ x ∈ l, 0 ≤ x ∧ x < 256) → i ≤ B.length → pmk l B i = .ok () q → q ≤ B.length ∧ B.take q = B.take i ++ l
  | [], i, q, _, hi, h => by cases h; exact ⟨hi, by simp⟩
  | x :: l, i, q, hx, hi, h => by
    obtain ⟨n, q1, h1, h⟩ := andTo_inv h
    obtain ⟨a1, b1, c1, d1⟩ := pnum_dec (by decide) hB h1
    obtain ⟨a2, b2⟩ := pmk_dec hB l q1 q (fun y hy => hx y (List.mem_cons_of_mem _ hy)) a1 h
    have e : n = x := by simpa using c1
    have hxx := hx x (List.mem_cons_self ..)
    have h2 : le 1 x = [x] := by show [] ++ [x / 2 ^ 0 % 256] = [x]; rw [Int.pow_zero, Int.ediv_one, Int.emod_eq_of_lt hxx.1 hxx.2]; rfl
    exact ⟨a2, by rw [b2, b1, e, h2, List.append_assoc]; rfl⟩
theorem read_dec {B : List Int} (hB : Byt B) {s : Sta} {q : Nat} (h : rread B = .ok s q) : Frm s ∧ enc s = B := by
  unfold rread at h
  split at h
  · rw [pall_nest] at h
    obtain ⟨u, q0, h0, h⟩ := andTo_inv h
    obtain ⟨a, q1, h1, h⟩ := andTo_inv h
    obtain ⟨b, q2, h2, h⟩ := andTo_inv h
    obtain ⟨d, q3, h3, h⟩ := andTo_inv h
    obtain ⟨lo, q4, h4, h⟩ := andTo_inv h
    obtain ⟨ra, q5, h5, h⟩ := andTo_inv h
    obtain ⟨P, q6, h6, h⟩ := andTo_inv h
    obtain ⟨n, q7, h7, h⟩ := andTo_inv h
    obtain ⟨Q, q8, h8, h⟩ := andTo_inv h
    obtain ⟨u2, q9, h9, h⟩ := andTo_inv h
    cases h
    obtain ⟨a0, b0⟩ := pmk_dec hB mkL 0 q0 (by decide) (Nat.zero_le _) h0
    obtain ⟨a1, b1, c1, -⟩ := pnum_dec (by decide) hB h1
    obtain ⟨a2, b2, c2, -⟩ := pnum_dec (by decide) hB h2
    obtain ⟨a3, b3, c3, -⟩ := pnum_dec (by decide) hB h3
    obtain ⟨a4, b4, -, -⟩ := pnum_dec (by decide) hB h4
    obtain ⟨a5, b5, -, -⟩ := pnum_dec (by decide) hB h5
    obtain ⟨a6, b6, c6, d6⟩ := pmats_dec hB (by decide) (by decide) _ _ _ h6 a5
    obtain ⟨a7, b7, c7, d7⟩ := pnum_dec (by decide) hB h7
    obtain ⟨a8, b8, c8, d8⟩ := prep_dec (pmats_dec hB (by decide) (by decide)) _ _ _ _ a7 h8
    rw [decide_eq_true_eq] at c7
    have hn0 : 0 ≤ n := by rw [d7]; exact (numv_small B hB q6).1
    have hl : (Q.length : Int) = n := by rw [c8]; omega
    have hbody : B.take q8 = wbody ⟨a, b, d, P, Q, lo, ra⟩ := by
      rw [b8, b7, b6, b5, b4, b3, b2, b1, b0, flat_wqs, ← hl]
      unfold wbody wbits wbits wbits wbits wbits wbits
      simp only [List.take_zero, List.nil_append, List.append_nil, List.append_assoc]
    have hF : Frm ⟨a, b, d, P, Q, lo, ra⟩ := ⟨c1, c2, c3, by show P.length ≤ 64; omega, by show Q.length ≤ 64; omega, d6, fun j l hj => by
      have := d8 l (List.mem_of_getElem? hj)
      exact ⟨by omega, this.2⟩⟩
    refine ⟨hF, ?_⟩
    obtain ⟨t, q10, h10, h11⟩ := andTo_inv h9
    obtain ⟨a10, b10, -, -⟩ := pnum_dec (by decide) hB h10
    split at h11
    · rename_i ht
      split at h11
      · rename_i hq
        have e : B.take q10 = B := List.take_of_length_le (by omega)
        rw [← e, b10, hbody, ht, hbody]
        rfl
      · cases h11
    · cases h11
  · cases h
end Go.Proofs.Ytphkdkenopkbbaa

namespace Go.Proofs.Ytphkdkenopkbbaa
open Go.ChangeShapes Go.WideShapes Go.ChangeAt Go.RowKit
set_option linter.unusedVariables false
set_option linter.unusedSimpArgs false

theorem str_run (B : List Int) (hB : Byt B) (b off cap : Nat) (w : World) (hr : BR w b off B) : (convert 35 9 (.slice (some ⟨b, off, none⟩) B.length cap)).run Try.prog w = .ok (.string ⟨(B.map fun n => UInt8.ofNat n.toNat).toArray⟩) w := by
  have := run_convert_bytes_back (P := Try.prog) w 35 9 5 ⟨b, off, none⟩ cap (B.map fun n => UInt8.ofNat n.toNat) lb_under (by kernel_rfl) str_under (fun j hj => by
    rw [List.length_map] at hj
    have h1 := hr j hj
    have h2 := hB.at j
    rw [Addr.add_lit, h1]
    rw [List.getElem_map]
    rw [List.getD_eq_getElem?_getD, List.getElem?_eq_getElem hj] at h2 ⊢
    simp only [Option.getD_some] at h2 ⊢
    generalize B[j] = x at *
    obtain ⟨X, rfl⟩ := Int.eq_ofNat_of_zero_le h2.1
    have h3 : (UInt8.ofNat (Int.toNat (X : Int))).toNat = X := by
      rw [UInt8.toNat_ofNat', Int.toNat_natCast]
      exact Nat.mod_eq_of_lt (by omega)
    rw [h3])
  rw [List.length_map] at this
  exact this
theorem pnum_no {k : Nat} {g : Int → Bool} {B : List Int} {i : Nat} {e p : Int} (h : pnum k g B i = .no e p) : e ≠ 0 := by
  unfold pnum at h
  split at h
  · split at h
    · cases h
    · cases h; decide
  · cases h; decide
theorem andTo_no_inv {α β : Type} {x : Res α} {f : α → Nat → Res β} {e p : Int} (h : x.andTo f = .no e p) : x = .no e p ∨ ∃ a q, x = .ok a q ∧ f a q = .no e p := by
  cases x with
  | no e2 p2 => cases h; exact .inl rfl
  | ok a q => exact .inr ⟨a, q, rfl, h⟩
theorem prep_no {α : Type} {p : Ps α} {B : List Int} (hp : ∀ i e q, p B i = .no e q → e ≠ 0) : ∀ N i e q, prep N p B i = .no e q → e ≠ 0
  | 0, i, e, q, h => by cases h
  | N + 1, i, e, q, h => by
    rcases andTo_no_inv h with h | ⟨a, q1, -, h⟩
    · exact hp _ _ _ h
    · rcases andTo_no_inv h with h | ⟨l, q2, -, h⟩
      · exact prep_no hp N _ _ _ h
      · cases h
theorem pmat_no {B : List Int} (i : Nat) (e q : Int) (h : pmat B i = .no e q) : e ≠ 0 := by
  rcases andTo_no_inv h with h | ⟨a, q1, -, h⟩
  · exact pnum_no h
  rcases andTo_no_inv h with h | ⟨a, q1, -, h⟩
  · exact pnum_no h
  rcases andTo_no_inv h with h | ⟨a, q1, -, h⟩
  · exact pnum_no h
  rcases andTo_no_inv h with h | ⟨a, q1, -, h⟩
  · exact prep_no (fun i e q h => pnum_no h) _ _ _ _ h
  · cases h
theorem pmats_no {B : List Int} {k : Nat} {mo : Int} (i : Nat) (e q : Int) (h : pmats k mo B i = .no e q) : e ≠ 0 := by
  rcases andTo_no_inv h with h | ⟨a, q1, -, h⟩
  · exact pnum_no h
  · exact prep_no pmat_no _ _ _ _ h
theorem pmk_no {B : List Int} : ∀ (l : List Int) (i : Nat) (e q : Int), pmk l B i = .no e q → e ≠ 0
  | [], i, e, q, h => by cases h
  | x :: l, i, e, q, h => by
    rcases andTo_no_inv h with h | ⟨a, q1, -, h⟩
    · exact pnum_no h
    · exact pmk_no l _ _ _ h
theorem read_no {B : List Int} {e p : Int} (h : rread B = .no e p) : e ≠ 0 := by
  unfold rread at h
  split at h
  · rw [pall_nest] at h
    rcases andTo_no_inv h with h | ⟨a, q1, -, h⟩
    · exact pmk_no _ _ _ _ h
    rcases andTo_no_inv h with h | ⟨a, q1, -, h⟩
    · exact pnum_no h
    rcases andTo_no_inv h with h | ⟨a, q1, -, h⟩
    · exact pnum_no h
    rcases andTo_no_inv h with h | ⟨a, q1, -, h⟩
    · exact pnum_no h
    rcases andTo_no_inv h with h | ⟨a, q1, -, h⟩
    · exact pnum_no h
    rcases andTo_no_inv h with h | ⟨a, q1, -, h⟩
    · exact pnum_no h
    rcases andTo_no_inv h with h | ⟨a, q1, -, h⟩
    · exact pmats_no _ _ _ h
    rcases andTo_no_inv h with h | ⟨a, q1, -, h⟩
    · exact pnum_no h
    rcases andTo_no_inv h with h | ⟨a, q1, -, h⟩
    · exact prep_no pmats_no _ _ _ _ h
    rcases andTo_no_inv h with h | ⟨a, q1, -, h⟩
    · rcases andTo_no_inv h with h | ⟨t, q2, -, h⟩
      · exact pnum_no h
      · split at h
        · split at h
          · cases h
          · cases h; decide
        · cases h; decide
    · cases h
  · cases h; decide
def sta0 : Sta := ⟨0, 0, 0, [], [], 0, 0⟩
theorem zst_st (w : World) : StI w zst sta0 := ⟨_, _, rfl, ⟨none, 0, rfl, Nat.le_refl _, fun h => absurd rfl h⟩, ⟨none, 0, rfl, Nat.le_refl _, fun h => absurd rfl h⟩⟩
end Go.Proofs.Ytphkdkenopkbbaa

namespace Go.Proofs.Ytphkdkenopkbbaa
open Go.ChangeShapes Go.WideShapes Go.ChangeAt Go.RowKit
set_option linter.unusedVariables false
set_option linter.unusedSimpArgs false

/-- A state value, cell by cell. -/
theorem StI.form {w : World} {v : Value} {s : Sta} (h : StI w v s) : ∃ pa pc qa qc, v = .agg #[.int .i64 s.a, .int .i64 s.b, .int .i64 s.d, .slice pa s.P.length pc, .slice qa s.Q.length qc, .int .i64 s.lo, .int .i64 s.ra] := by
  obtain ⟨pv, qv, rfl, ⟨pa, pc, rfl, -, -⟩, ⟨qa, qc, rfl, -, -⟩⟩ := h
  exact ⟨pa, pc, qa, qc, rfl⟩
/-- The lists of a state are no longer than lists may be. -/
structure SLen (s : Sta) : Prop where
  p : s.P.length ≤ 9223372036854775807
  q : s.Q.length ≤ 9223372036854775807
  l : ∀ l ∈ s.Q, l.length ≤ 9223372036854775807
theorem Frm.slen {s : Sta} (h : Frm s) : SLen s := ⟨by have := h.pl; omega, by have := h.ql; omega, fun l hl => by
  obtain ⟨i, hi, rfl⟩ := List.getElem_of_mem hl
  have := (h.q i _ (List.getElem?_eq_getElem hi)).1
  omega⟩
def SB (B : List Int) : ByteArray := ⟨(B.map fun n => UInt8.ofNat n.toNat).toArray⟩

end Go.Proofs.Ytphkdkenopkbbaa

namespace Go.Proofs.Ytphkdkenopkbbaa
open Go.ChangeShapes Go.WideShapes Go.ChangeAt Go.RowKit
set_option linter.unusedVariables false
set_option linter.unusedSimpArgs false

/-- Bytes that were copied: new ones. -/
def BN (H : Nat) (w : World) (v : Value) (L : List Int) : Prop := (L = [] ∧ v = .slice none 0 0) ∨ ∃ g C, v = .slice (some ⟨g, 0, none⟩) L.length C ∧ H ≤ g ∧ OwnV w g C 5 (L.map (Value.int .u8))
theorem BN.rd {H : Nat} {w : World} {v : Value} {L : List Int} (h : BN H w v L) : ∃ ao c, v = .slice ao L.length c ∧ L.length ≤ c ∧ (L ≠ [] → ∃ b off, ao = some ⟨b, off, none⟩ ∧ b < w.heap.size ∧ BR w b off L) := by
  rcases h with ⟨rfl, rfl⟩ | ⟨g, C, rfl, -, ho⟩
  · exact ⟨none, 0, rfl, Nat.le_refl _, fun h => absurd rfl h⟩
  · have hc : L.length ≤ C := by
      obtain ⟨cur, -, h2, -⟩ := ho
      simpa using h2
    exact ⟨_, C, rfl, hc, own_br ho⟩
theorem bapp_nil (L : List Int) (hlen : L.length < 100000000) (ao : Option Addr) (cap : Nat) (w : World) (hr : L ≠ [] → ∃ b off, ao = some ⟨b, off, none⟩ ∧ b < w.heap.size ∧ BR w b off L) :
    ∃ v' w', (∀ ty, (Builtin.append_ #[35, 35] ty #[.slice none 0 0, .slice ao L.length cap]).run Try.prog w = .ok v' w') ∧ Kept w w' ∧ BN w.heap.size w' v' L := by
  by_cases hne : L = []
  · subst hne
    obtain ⟨i, hi, hz2, hs, hb⟩ := info_parts lb_info
    refine ⟨_, w, fun ty => run_append_nothing w 35 35 ty 5 i lb_under hi none 0 0 (by omega) _ ?_, Kept.refl w, .inl ⟨rfl, rfl⟩⟩
    cases ao with
    | none => exact Src.ofNil w lb_under cap
    | some a => exact Src.ofSlice w lb_under a 0 cap [] (by simp) (fun j u hu => by simp at hu) (fun u hu => by cases hu)
  · obtain ⟨b, off, rfl, hb, hr⟩ := hr hne
    have hpos := List.length_pos_iff.2 hne
    obtain ⟨g, C, w', hrun, hO, hk⟩ := app_gen 35 5 lb_under (.int .u8 0) 1 lb_info (by simp [Value.cells]) (by omega) w (.slice none 0 0) [] (L.map (Value.int .u8)) (.inl ⟨rfl, rfl⟩) ⟨b, off, none⟩ L.length cap (by simp) (fun j u hj => by
      rw [List.getElem?_map] at hj
      by_cases hjl : j < L.length
      · rw [List.getElem?_eq_getElem hjl] at hj
        cases hj
        have := hr j hjl
        rw [List.getD_eq_getElem?_getD, List.getElem?_eq_getElem hjl] at this
        rw [Addr.add_lit]
        simpa using this
      · rw [List.getElem?_eq_none (by omega)] at hj
        cases hj) (fun u hu => by obtain ⟨x, -, rfl⟩ := List.mem_map.1 hu; rfl) hpos (by simpa using hlen)
    rcases hk with ⟨rfl, hK⟩ | ⟨e, -⟩
    · refine ⟨_, w', fun ty => by simpa using hrun ty, hK, .inr ⟨_, C, rfl, Nat.le_refl _, by simpa using hO⟩⟩
    · cases e
theorem app_elemy (t e : TypeId) (ht : Try.prog.underlying t = some (.slice e)) (z : Value) (sz by8 : Nat) (hinf : (Try.prog.info? e).map (fun i => (i.zero, i.size, i.bytes)) = some (some z, sz, by8)) (hz : z.cells.size = sz) (hby : by8 ≤ 64)
    (H : Nat) (wr : World) (lv : Value) (k : Nat) (V : List Value) (hM : MS sz e H wr lv k V) (news : List Value) (hn : news.length = sz) (h1 : ∀ u ∈ news, u.oneCell' = true) (hH : H ≤ wr.heap.size) (hlen : k < 100000000) :
    ∃ v' w', (∀ ty, (Builtin.append_ #[t, t] ty #[lv, .slice (some ⟨wr.heap.size, 0, none⟩) 1 1]).run Try.prog (wr.alloc (.cells news.toArray e)) = .ok v' w') ∧ MS sz e H w' v' (k + 1) (V ++ news) ∧ KX (fun b => ∃ n c, lv = .slice (some ⟨b, 0, none⟩) n c) wr w' := by
  obtain ⟨i, hi, hz2, hs, hb⟩ := info_parts hinf
  have hK : Kept wr (wr.alloc (.cells news.toArray e)) := (Kept.refl _).alloc _ _
  have hVl := hM.len
  obtain ⟨w, hw⟩ : ∃ w, w = wr.alloc (.cells news.toArray e) := ⟨_, rfl⟩
  have hws : w.heap.size = wr.heap.size + 1 := by rw [hw]; simp
  have hcell : ∀ j u, news[j]? = some u → w.cell? ((⟨wr.heap.size, 0, none⟩ : Addr).add j) = some u := fun j u hj => by
    rw [hw, Addr.add_lit, Nat.zero_add]
    rw [cell_of_row (wr.alloc (.cells news.toArray e)) wr.heap.size j news.toArray e (0, 0) (heap_alloc_new wr _)]
    simpa using hj
  have hS : Src Try.prog i.size t (.slice (some ⟨wr.heap.size, 0, none⟩) 1 1) 1 news w := Src.ofSlice w ht ⟨wr.heap.size, 0, none⟩ 1 1 news (by rw [hs, hn]; simp) hcell h1
  rw [← hw] at hK ⊢
  have hnl : (V ++ news).length = (k + 1) * sz := by rw [List.length_append, hVl, hn, Nat.succ_mul]
  rcases hM with ⟨rfl, rfl, rfl⟩ | ⟨g, cap, rfl, hg, -, hkc, hO⟩
  · obtain ⟨C, hC⟩ : ∃ C, grownCap w (0 + 1) 0 e = C := ⟨_, rfl⟩
    have hC1 : 0 + 1 ≤ C := by rw [← hC]; exact grownCap_ge _ _ _ _
    have hC2 : C ≤ maxLen := by rw [← hC]; exact grownCap_le_maxLen _ _ _ _ (by simp [maxLen])
    have hN := ownS_new w.drew e z sz hz news 1 C (by rw [hn]; simp) (by omega) hC2
    have hKN : Kept w (w.drew.alloc (.cells (news.toArray ++ Builtin.zeroCells z.cells (C - 1)) e)) := (Kept.refl w).drew.alloc _ _
    refine ⟨_, _, fun ty => ?_, .inr ⟨w.heap.size, C, rfl, by omega, by simpa using hnl, by omega, by simpa using hN⟩, (hK.trans hKN).kx _⟩
    have := run_append_grow_src w t t ty e i z ht hi hz2 none 0 0 [] (by simpa using run_firstCells_none (P := Try.prog) w.drew i.size 0 0 0) (.slice (some ⟨wr.heap.size, 0, none⟩) 1 1) 1 news hS (by omega) (by omega) (growslice_fits (by omega) (by rw [hb]; omega))
    rw [hC] at this
    rw [this]
    simp
  · have hO' := hO.kept hK
    by_cases hr : k + 1 ≤ cap
    · have hroom : V.length + news.length ≤ cap * sz := by
        rw [hVl, hn, ← Nat.succ_mul]
        exact Nat.mul_le_mul_right _ hr
      have hG := (Grw.refl g w).setCells news V.length
      refine ⟨_, w.setCells g V.length news, fun ty => ?_, .inr ⟨g, cap, rfl, hg, hnl, hr, hO'.pushes news hroom⟩, (hK.kx _).trans ((hG.kx).mono fun b hb => by subst hb; exact ⟨_, _, rfl⟩)⟩
      · have := run_append_room_src w t t ty e i ht hi g 0 k cap (.slice (some ⟨wr.heap.size, 0, none⟩) 1 1) 1 news hS hr (fun j hj => hO'.some _ (by rw [hs, ← hVl]; omega)) (fun j hj => hO'.free _)
        rw [this, hs, hVl]
        simp
    · obtain ⟨C, hC⟩ : ∃ C, grownCap w (k + 1) cap e = C := ⟨_, rfl⟩
      have hC1 : k + 1 ≤ C := by rw [← hC]; exact grownCap_ge _ _ _ _
      have hC2 : C ≤ maxLen := by rw [← hC]; exact grownCap_le_maxLen _ _ _ _ (by simp [maxLen]; omega)
      have hN := ownS_new w.drew e z sz hz (V ++ news) (k + 1) C hnl hC1 hC2
      have hKN : Kept w (w.drew.alloc (.cells ((V ++ news).toArray ++ Builtin.zeroCells z.cells (C - (k + 1))) e)) := (Kept.refl w).drew.alloc _ _
      refine ⟨_, _, fun ty => ?_, .inr ⟨w.heap.size, C, rfl, by omega, hnl, hC1, by simpa using hN⟩, (hK.trans hKN).kx _⟩
      have hcl : cap < k + 1 := by omega
      have := run_append_grow_src w t t ty e i z ht hi hz2 (some ⟨g, 0, none⟩) k cap V (run_firstCells_some (P := Try.prog) w.drew i.size k ⟨g, 0, none⟩ k cap V (by rw [hs]; exact hVl) (fun j u hu => by rw [Addr.add_lit, Nat.zero_add]; exact hO'.cell j u hu)) (.slice (some ⟨wr.heap.size, 0, none⟩) 1 1) 1 news hS hcl (by omega) (growslice_fits hcl (by rw [hb]; exact Nat.le_trans (Nat.mul_le_mul_left _ hby) (by omega)))
      rw [hC] at this
      rw [this]
/-- One byte more behind bytes that were copied. -/
theorem bapp_one (H : Nat) (w : World) (v : Value) (L : List Int) (h : BN H w v L) (hH : H ≤ w.heap.size) (hlen : L.length < 100000000) (x : Int) :
    ∃ v' w', (∀ ty, (Builtin.append_ #[35, 35] ty #[v, .slice (some ⟨w.heap.size, 0, none⟩) 1 1]).run Try.prog (w.alloc (.cells #[.int .u8 x] 5)) = .ok v' w') ∧ BN H w' v' (L ++ [x]) ∧ KX (fun b => H ≤ b) w w' := by
  have hM : MS 1 5 H w v L.length (L.map (Value.int .u8)) := by
    rcases h with ⟨rfl, rfl⟩ | ⟨g, C, rfl, hg, cur, h1, h2, h3, h4, h5⟩
    · exact .inl ⟨rfl, rfl, rfl⟩
    · have h2' : L.length ≤ C := by simpa using h2
      exact .inr ⟨g, C, rfl, hg, by simp, h2', cur, h1, by simpa using h2', h3, by simpa using h4, h5⟩
  obtain ⟨v', w', hr, hm, hk⟩ := app_elemy 35 5 lb_under (.int .u8 0) 1 1 lb_info rfl (by decide) H w v L.length _ hM [.int .u8 x] rfl (fun u hu => by rw [List.mem_singleton] at hu; rw [hu]; rfl) hH hlen
  refine ⟨v', w', hr, ?_, hk.mono ?_⟩
  · rcases hm with ⟨h0, -, -⟩ | ⟨g, C, rfl, hg, h3, h4, cur, h5, h6, h7, h8, h9⟩
    · omega
    · refine .inr ⟨g, C, by simp, hg, cur, h5, ?_, h7, by simpa using h8, ?_⟩
      · simp; omega
      · rw [List.map_append]; exact h9
  · rintro b ⟨n, c, e⟩
    rcases h with ⟨-, e2⟩ | ⟨g, C, e2, hg, -⟩
    · rw [e] at e2; cases e2
    · rw [e] at e2; cases e2; exact hg

end Go.Proofs.Ytphkdkenopkbbaa
