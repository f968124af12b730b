/- The document's Check: a matrix in form. The document's Check. The document's bytes: a matrix; the sum. The document's Write. -/
import Derived.Test.YtphkdkenopkbbaaWM
import Derived.Test.YtphkdkenopkbbaaYG
namespace Go.Proofs.Ytphkdkenopkbbaa
open Go.ChangeShapes Go.WideShapes Go.ChangeAt Go.RowKit
set_option linter.unusedVariables false
set_option linter.unusedSimpArgs false

set_option maxHeartbeats 400000 in
theorem rfinite_any (b n : Int) (hb1 : -9223372036854775808 ≤ b) (hb2 : b ≤ 9223372036854775807) (w : World) : Calls Try.prog 61 #[.int .i64 b, .int .i64 n] w fun e w' => e = .returned (.bool (decide (cls b n < 3))) ∧ Kept w w' := by
  have KC : Hid (∀ u, Calls Try.prog 67 #[.int .i64 b, .int .i64 n] u fun e w' => e = .returned (.int .i64 (cls b n)) ∧ Kept u w') := fun u => rclass_any b n hb1 hb2 u
  generalize cls b n = q at *
  go_enter Try.func61, Try.ntmps61
  go_wp2_with (first | (go_at_call 67; refine (KC.out _).mono ?_; rintro e w1 ⟨rfl, k1⟩))
  go_ret
  exact ⟨rfl, k1⟩
theorem mul_small {r c : Int} (hr : 1 ≤ r) (hc : 1 ≤ c) (h : r * c ≤ 4096) : r ≤ 4096 ∧ c ≤ 4096 := by
  have h1 : r * 1 ≤ r * c := Int.mul_le_mul_of_nonneg_left hc (by omega)
  have h2 : 1 * c ≤ r * c := Int.mul_le_mul_of_nonneg_right hr (by omega)
  omega
theorem matOk_iff (m : Mat) : matOk m ↔ (m.n = 64 ∨ m.n = 32) ∧ 1 ≤ m.r ∧ 1 ≤ m.c ∧ m.r * m.c ≤ 4096 ∧ (m.L.length : Int) = m.r * m.c ∧ ∀ i, i < m.L.length → cls (m.L.getD i 0) m.n < 3 := by
  constructor
  · rintro ⟨h1, h2⟩
    obtain ⟨h3, h4, h5⟩ := ckM_ok h1
    obtain ⟨h6, h7, h8, h9⟩ := ckS_ok h3
    refine ⟨h6, h7, h8, h9, h4, fun i hi => ?_⟩
    have := h2 i hi
    rw [fin_val _ _ h6] at this
    exact of_decide_eq_true this
  · rintro ⟨h1, h2, h3, h4, h5, h6⟩
    obtain ⟨h7, h8⟩ := mul_small h2 h3 h4
    have hS : ckS m.r m.c m.n = 0 := by
      unfold ckS
      rw [if_neg (fun h => h h1), if_neg (by omega)]
      unfold ckR
      rw [if_neg]
      rw [Int.tdiv_eq_ediv_of_nonneg (by decide)]
      have := Int.le_ediv_of_mul_le (show 0 < m.c by omega) h4
      omega
    refine ⟨?_, fun i hi => by rw [fin_val _ _ h1]; exact decide_eq_true (h6 i hi)⟩
    unfold ckM
    rw [if_neg (fun h => h hS), if_neg (fun h => h h5), if_pos]
    rw [List.all_eq_true]
    intro x hx
    obtain ⟨i, hi, rfl⟩ := List.getElem_of_mem hx
    have h9 := h6 i hi
    rw [List.getD_eq_getElem?_getD, List.getElem?_eq_getElem hi] at h9
    have h10 : cls m.L[i] m.n < 3 := h9
    unfold val
    rcases h1 with e | e
    · simp [e]
    · rw [e] at h10
      have := cls_valid m.L[i] (by omega)
      simp [e]
      omega
def RBo (p : Prop) (e : Ending) : Prop := (p ∧ e = .returned (.bool true)) ∨ (¬ p ∧ e = .returned (.bool false))

set_option maxHeartbeats 8000000 in
set_option maxRecDepth 100000 in
theorem rmat_any (r c n : Int) (L : List Int) (a : Option Addr) (cp : Nat) (hlen : L.length ≤ 9223372036854775806) (hrg : MRg ⟨r, c, n, L⟩) (w : World) (hs : Sl w (.slice a L.length cp) L) : Calls Try.prog 59 #[.agg #[.int .i64 r, .int .i64 c, .int .i64 n, .slice a L.length cp]] w fun e w' => RBo (matOk ⟨r, c, n, L⟩) e ∧ Kept w w' := by
  obtain ⟨M, hM⟩ : ∃ M, w.heap.size = M := ⟨_, rfl⟩
  obtain ⟨N, hN⟩ : ∃ N, L.length = N := ⟨_, rfl⟩
  rw [hN] at hs hlen ⊢
  obtain ⟨W0, hW0⟩ : ∃ W0, w.alloc (.cells #[.int .i64 r, .int .i64 c, .int .i64 n, .slice a N cp] 52) = W0 := ⟨_, rfl⟩
  have k0 : Kept w W0 := by rw [← hW0]; exact (Kept.refl w).alloc _ _
  have b0 : Bk W0 M [.int .i64 r, .int .i64 c, .int .i64 n, .slice a N cp] := by rw [← hW0, ← hM]; exact Bk.new w _ _
  have HMO := hid (matOk_iff ⟨r, c, n, L⟩)
  have HN := hid hN
  have HK0 := hid k0
  have HB := hid (show ∀ u, Kept W0 u → u.cell? ⟨M, 0, none⟩ = some (.int .i64 r) ∧ u.cell? ⟨M, 1, none⟩ = some (.int .i64 c) ∧ u.cell? ⟨M, 2, none⟩ = some (.int .i64 n) ∧ u.cell? ⟨M, 3, none⟩ = some (.slice a N cp) from fun u ku => ⟨(b0.kept ku).c 0 _ rfl, (b0.kept ku).c 1 _ rfl, (b0.kept ku).c 2 _ rfl, (b0.kept ku).c 3 _ rfl⟩)
  have HSl := hid (hs.kept k0)
  have HRg := hid hrg
  obtain ⟨c0, c1, c2, c3⟩ := HB.out W0 (Kept.refl _)
  clear b0 k0 hs hrg
  by_cases hn : n = 64 ∨ n = 32
  case neg =>
    have n1 : ¬ n = 32 := fun e => hn (.inr e)
    have n2 : ¬ n = 64 := fun e => hn (.inl e)
    have d1 : (n == 32) = false := by simpa using n1
    have d2 : (n == 64) = false := by simpa using n2
    have HNo := hid (show ¬ matOk ⟨r, c, n, L⟩ from fun h => hn (HMO.out.1 h).1)
    clear hn
    go_enter Try.func59, Try.ntmps59
    go_wp2_with fail
    go_ret
    exact ⟨.inr ⟨HNo.out, rfl⟩, HK0.out⟩
  have HNn := hid hn
  obtain ⟨t1, ht1⟩ : ∃ t1 : Bool, (n != 32) = t1 := ⟨_, rfl⟩
  have dn : (n != 32 && n != 64) = false := by rcases hn with e | e <;> simp [e]
  clear hn
  by_cases hr : r < 1
  · have d1 : decide (r < 1) = true := decide_eq_true hr
    have HNo := hid (show ¬ matOk ⟨r, c, n, L⟩ from fun h => by have := (HMO.out.1 h).2.1; dsimp only at this; omega)
    rcases HNn.out with e | e
    all_goals
      subst e
      clear dn ht1
      go_enter Try.func59, Try.ntmps59
      go_wp2_with fail
      go_ret
      exact ⟨.inr ⟨HNo.out, rfl⟩, HK0.out⟩
  have e1 : decide (r < 1) = false := decide_eq_false hr
  by_cases hc : c < 1
  · have d1 : decide (c < 1) = true := decide_eq_true hc
    have HNo := hid (show ¬ matOk ⟨r, c, n, L⟩ from fun h => by have := (HMO.out.1 h).2.2.1; dsimp only at this; omega)
    rcases HNn.out with e | e
    all_goals
      subst e
      clear dn ht1
      go_enter Try.func59, Try.ntmps59
      go_wp2_with fail
      go_ret
      exact ⟨.inr ⟨HNo.out, rfl⟩, HK0.out⟩
  have e2 : decide (c < 1) = false := decide_eq_false hc
  by_cases hr2 : 4096 < r
  · have d1 : decide (4096 < r) = true := decide_eq_true hr2
    have HNo := hid (show ¬ matOk ⟨r, c, n, L⟩ from fun h => by have h9 := HMO.out.1 h; have := mul_small h9.2.1 h9.2.2.1 h9.2.2.2.1; dsimp only at this; omega)
    rcases HNn.out with e | e
    all_goals
      subst e
      clear dn ht1
      go_enter Try.func59, Try.ntmps59
      go_wp2_with fail
      go_ret
      exact ⟨.inr ⟨HNo.out, rfl⟩, HK0.out⟩
  have e3 : decide (4096 < r) = false := decide_eq_false hr2
  by_cases hc2 : 4096 < c
  · have d1 : decide (4096 < c) = true := decide_eq_true hc2
    have HNo := hid (show ¬ matOk ⟨r, c, n, L⟩ from fun h => by have h9 := HMO.out.1 h; have := mul_small h9.2.1 h9.2.2.1 h9.2.2.2.1; dsimp only at this; omega)
    rcases HNn.out with e | e
    all_goals
      subst e
      clear dn ht1
      go_enter Try.func59, Try.ntmps59
      go_wp2_with fail
      go_ret
      exact ⟨.inr ⟨HNo.out, rfl⟩, HK0.out⟩
  have e4 : decide (4096 < c) = false := decide_eq_false hc2
  obtain ⟨q, hq⟩ : ∃ q, r * c = q := ⟨_, rfl⟩
  have hq1 : 0 ≤ q ∧ q ≤ 16777216 := by
    rw [← hq]
    refine ⟨Int.mul_nonneg (by omega) (by omega), ?_⟩
    have h1 : r * c ≤ r * 4096 := Int.mul_le_mul_of_nonneg_left (by omega) (by omega)
    omega
  have zq : IntKind.i64.wrap q = q := by rw [wrap_i64]; omega
  by_cases hq2 : 4096 < q
  · have d1 : decide (4096 < q) = true := decide_eq_true hq2
    have HNo := hid (show ¬ matOk ⟨r, c, n, L⟩ from fun h => by have h9 := (HMO.out.1 h).2.2.2.1; dsimp only at h9; omega)
    rcases HNn.out with e | e
    all_goals
      subst e
      clear dn ht1
      go_enter Try.func59, Try.ntmps59
      go_wp2_with fail
      go_ret
      exact ⟨.inr ⟨HNo.out, rfl⟩, HK0.out⟩
  have e5 : decide (4096 < q) = false := decide_eq_false hq2
  by_cases hl : (N : Int) = q
  case neg =>
    have d1 : ((N : Int) == q) = false := by simpa using hl
    have d2 : ((N : Int) != q) = true := by simpa using hl
    have HNo := hid (show ¬ matOk ⟨r, c, n, L⟩ from fun h => by have h9 := (HMO.out.1 h).2.2.2.2.1; dsimp only at h9; omega)
    rcases HNn.out with e | e
    all_goals
      subst e
      clear dn ht1
      go_enter Try.func59, Try.ntmps59
      go_wp2_with fail
      go_ret
      exact ⟨.inr ⟨HNo.out, rfl⟩, HK0.out⟩
  have d1 : ((N : Int) == q) = true := by simpa using hl
  have d2 : ((N : Int) != q) = false := by simpa using hl
  have HMk : Hid ((∀ i, i < N → cls (L.getD i 0) n < 3) → matOk ⟨r, c, n, L⟩) := fun h => HMO.out.2 ⟨HNn.out, by dsimp only; omega, by dsimp only; omega, by dsimp only; omega, by dsimp only; rw [HN.out, hq]; exact hl, by dsimp only; rw [HN.out]; exact h⟩
  have HMn : Hid (∀ i, i < N → ¬ cls (L.getD i 0) n < 3 → ¬ matOk ⟨r, c, n, L⟩) := fun i hi h k => h ((HMO.out.1 k).2.2.2.2.2 i (by dsimp only; have := HN.out; omega))
  have HFi : Hid (∀ i u, i < N → Calls Try.prog 61 #[.int .i64 (L.getD i 0), .int .i64 n] u fun e w' => e = .returned (.bool (decide (cls (L.getD i 0) n < 3))) ∧ Kept u w') := fun i u hi => by
    have hm : L.getD i 0 ∈ L := by
      rw [List.getD_eq_getElem?_getD, List.getElem?_eq_getElem (by have := HN.out; omega)]
      exact List.getElem_mem _
    exact rfinite_any _ n (HRg.out _ hm).1 (HRg.out _ hm).2 u
  have HRd : Hid (∀ u i, Kept W0 u → i < N → ∃ b off, a = some ⟨b, off, none⟩ ∧ u.cell? ⟨b, off + i, none⟩ = some (.int .i64 (L.getD i 0))) := fun u i ku hi => by
    obtain ⟨ao', cap', e, -, -, hr⟩ := HSl.out.kept ku
    cases e
    obtain ⟨b, off, e2, -, hrd⟩ := hr (by intro e; rw [e] at hi; simp at hi)
    exact ⟨b, off, e2, hrd i (by have := HN.out; omega)⟩
  have HNb := hid (show N ≤ 4096 by omega)
  clear hlen HSl HRg HMO hl hr hc hr2 hc2 hq2 hq1 hN
  rcases HNn.out with e | e
  · skip
    subst e
    clear dn ht1
    go_enter Try.func59, Try.ntmps59
    go_wp2_with fail
    go_loopw [3] (fun iv wr => ∃ i : Nat, i ≤ N ∧ iv = .int .i64 (i : Int) ∧ Kept W0 wr ∧ ∀ x, x < i → cls (L.getD x 0) 64 < 3) (fun iv _ => N - (intOf iv).toNat)
    case atStart => exact ⟨0, Nat.zero_le _, rfl, Kept.refl _, fun x hx => by omega⟩
    case round =>
      clear c0 c1 c2 c3
      obtain ⟨i, hi, rfl, kr, hal⟩ := hrel
      have HAl := hid hal
      have HKr := hid kr
      obtain ⟨c0, c1, c2, c3⟩ := HB.out wr kr
      clear hal
      by_cases hin : i < N
      · obtain ⟨b, off, rfl, e0⟩ := HRd.out wr i kr hin
        have hbd : (0 : Int) ≤ (i : Int) ∧ (i : Int) < (N : Int) := by omega
        have hbd2 : (i : Int) < (N : Int) := by omega
        have z9 : IntKind.i64.wrap ((i : Int) + 1) = (i : Int) + 1 := by have := HNb.out; rw [wrap_i64]; omega
        have HFc := hid (HFi.out i wr.drew hin)
        have HII := hid (show i < N ∧ True from ⟨hin, trivial⟩)
        have HAs := hid (show cls (L.getD i 0) 64 < 3 → ∀ x, x < i + 1 → cls (L.getD x 0) 64 < 3 from fun h x hx => (Nat.lt_succ_iff_lt_or_eq.1 hx).elim (fun h => HAl.out x h) (fun e => by rw [e]; exact h))
        have HNoI := hid (HMn.out i hin)
        clear kr HFi HMn HRd
        generalize L.getD i 0 = bi at *
        obtain ⟨t, ht⟩ : ∃ t, decide (cls bi 64 < 3) = t := ⟨_, rfl⟩
        rw [ht] at HFc
        have HT := hid ht
        clear ht
        go_wp2_with fail
        refine wp_region_late [8] (fun u => u.cell? ⟨M, 3, none⟩ = some (.slice (some ⟨b, off, none⟩) N cp) ∧ u.cell? ⟨b, off + i, none⟩ = some (.int .i64 bi) ∧ u.cell? ⟨M, 2, none⟩ = some (.int .i64 64)) (by kernel_rfl) (show wr.drew.cell? _ = _ ∧ wr.drew.cell? _ = _ ∧ wr.drew.cell? _ = _ from ⟨c3, e0, c2⟩) (fun hHeld => ?_)
        refine wpAnyD_take (i := 0) (v := ?_) rfl (by kernel_rfl) (by kernel_rfl) (by kernel_rfl) (by kernel_rfl) (fun _ _ _ h => h) (Or.inl ⟨by rfl, ?hya0⟩) hHeld ?_
        case hya0 => (intro w hSw; (try dsimp only at hSw); go_simp; try (with_reducible rfl))
        (try simp only [Act.put, List.getElem_toArray, List.getElem_cons_succ, List.getElem_cons_zero, List.setIfInBounds_toArray, List.set_cons_zero, List.set_cons_succ])
        refine wpAnyD_take (i := 1) (v := ?_) rfl (by kernel_rfl) (by kernel_rfl) (by kernel_rfl) (by kernel_rfl) (fun _ _ _ h => h) (Or.inl ⟨by rfl, ?hya1⟩) hHeld ?_
        case hya1 => (intro w hSw; (try dsimp only at hSw); go_simp; try (with_reducible rfl))
        (try simp only [Act.put, List.getElem_toArray, List.getElem_cons_succ, List.getElem_cons_zero, List.setIfInBounds_toArray, List.set_cons_zero, List.set_cons_succ])
        refine wpAnyD_take (i := 2) (v := ?_) rfl (by kernel_rfl) (by kernel_rfl) (by kernel_rfl) (by kernel_rfl) (fun _ _ _ h => h) (Or.inl ⟨by rfl, ?hya2⟩) hHeld ?_
        case hya2 => (intro w hSw; (try dsimp only at hSw); go_simp; try (with_reducible rfl))
        (try simp only [Act.put, List.getElem_toArray, List.getElem_cons_succ, List.getElem_cons_zero, List.setIfInBounds_toArray, List.set_cons_zero, List.set_cons_succ])
        refine wpAnyD_take (i := 3) (v := ?_) rfl (by kernel_rfl) (by kernel_rfl) (by kernel_rfl) (by kernel_rfl) (fun _ _ _ h => h) (Or.inl ⟨by rfl, ?hya3⟩) hHeld ?_
        case hya3 => (intro w hSw; (try dsimp only at hSw); go_simp; try (with_reducible rfl))
        (try simp only [Act.put, List.getElem_toArray, List.getElem_cons_succ, List.getElem_cons_zero, List.setIfInBounds_toArray, List.set_cons_zero, List.set_cons_succ])
        refine wpAnyD_take (i := 4) (v := ?_) rfl (by kernel_rfl) (by kernel_rfl) (by kernel_rfl) (by kernel_rfl) (fun _ _ _ h => h) (Or.inl ⟨by rfl, ?hya4⟩) hHeld ?_
        case hya4 => (intro w hSw; (try dsimp only at hSw); go_simp; try (with_reducible rfl))
        (try simp only [Act.put, List.getElem_toArray, List.getElem_cons_succ, List.getElem_cons_zero, List.setIfInBounds_toArray, List.set_cons_zero, List.set_cons_succ])
        refine wpAnyD_take (i := 5) (v := ?_) rfl (by kernel_rfl) (by kernel_rfl) (by kernel_rfl) (by kernel_rfl) (fun _ _ _ h => h) (Or.inl ⟨by rfl, ?hya5⟩) hHeld ?_
        case hya5 => (intro w hSw; (try dsimp only at hSw); go_simp; try (with_reducible rfl))
        (try simp only [Act.put, List.getElem_toArray, List.getElem_cons_succ, List.getElem_cons_zero, List.setIfInBounds_toArray, List.set_cons_zero, List.set_cons_succ])
        refine wpAnyD_take (i := 6) (v := ?_) rfl (by kernel_rfl) (by kernel_rfl) (by kernel_rfl) (by kernel_rfl) (fun _ _ _ h => h) (Or.inl ⟨by rfl, ?hya6⟩) hHeld ?_
        case hya6 => (intro w hSw; (try dsimp only at hSw); go_simp; try (with_reducible rfl))
        (try simp only [Act.put, List.getElem_toArray, List.getElem_cons_succ, List.getElem_cons_zero, List.setIfInBounds_toArray, List.set_cons_zero, List.set_cons_succ])
        refine wpAnyD_step (i := 7) (by kernel_rfl) rfl (fun K hK9 => ?_)
        go_simp
        go_wp2_with fail
        refine HFc.out.mono ?_
        rintro e w5 ⟨rfl, k5⟩
        have kd5 := hid ((Kept.refl wr).drew.trans k5)
        have s5 : w5.cell? ⟨M, 3, none⟩ = some (.slice (some ⟨b, off, none⟩) N cp) ∧ w5.cell? ⟨b, off + i, none⟩ = some (.int .i64 bi) ∧ w5.cell? ⟨M, 2, none⟩ = some (.int .i64 64) := ⟨(kd5.out.below.cell (p := ⟨M, 3, none⟩) (World.block_lt_of_cell? _ _ c3)).trans c3, (kd5.out.below.cell (p := ⟨b, off + i, none⟩) (World.block_lt_of_cell? _ _ e0)).trans e0, (kd5.out.below.cell (p := ⟨M, 2, none⟩) (World.block_lt_of_cell? _ _ c2)).trans c2⟩
        refine hK9.out _ _ s5 (fun hHeld2 => ?_)
        clear hK9 K k5
        (try simp only [Act.put, List.getElem_toArray, List.getElem_cons_succ, List.getElem_cons_zero, List.setIfInBounds_toArray, List.set_cons_zero, List.set_cons_succ])
        refine wpAnyD_late (i := 8) (by kernel_rfl) rfl rfl (fun K hK9 => ?_)
        go_simp
        refine hK9.out _ _ ?_
        clear hK9 K
        (try simp only [Act.put, List.getElem_toArray, List.getElem_cons_succ, List.getElem_cons_zero, List.setIfInBounds_toArray, List.set_cons_zero, List.set_cons_succ])
        refine wpAnyD_done (by kernel_rfl) ?_ _
        (try simp only [Act.put, List.getElem_toArray, List.getElem_cons_succ, List.getElem_cons_zero, List.setIfInBounds_toArray, List.set_cons_zero, List.set_cons_succ])
        clear hHeld hHeld2 s5 c0 c1 c2 c3 e0
        cases t with
        | true =>
          have hc3 := of_decide_eq_true HT.out
          go_wp2_with fail
          go_roundw
          case rel => exact ⟨i + 1, by omega, by go_num, HKr.out.trans kd5.out, HAs.out hc3⟩
          case measure => simp [intOf]; omega
        | false =>
          have hc3 := of_decide_eq_false HT.out
          go_wp2_with fail
          go_ret
          exact ⟨.inr ⟨HNoI.out hc3, rfl⟩, HK0.out.trans (HKr.out.trans kd5.out)⟩
      · obtain rfl : i = N := by omega
        go_wp2_with fail
        go_ret
        exact ⟨.inl ⟨HMk.out HAl.out, rfl⟩, HK0.out.trans HKr.out⟩
  · skip
    subst e
    clear dn ht1
    go_enter Try.func59, Try.ntmps59
    go_wp2_with fail
    go_loopw [3] (fun iv wr => ∃ i : Nat, i ≤ N ∧ iv = .int .i64 (i : Int) ∧ Kept W0 wr ∧ ∀ x, x < i → cls (L.getD x 0) 32 < 3) (fun iv _ => N - (intOf iv).toNat)
    case atStart => exact ⟨0, Nat.zero_le _, rfl, Kept.refl _, fun x hx => by omega⟩
    case round =>
      clear c0 c1 c2 c3
      obtain ⟨i, hi, rfl, kr, hal⟩ := hrel
      have HAl := hid hal
      have HKr := hid kr
      obtain ⟨c0, c1, c2, c3⟩ := HB.out wr kr
      clear hal
      by_cases hin : i < N
      · obtain ⟨b, off, rfl, e0⟩ := HRd.out wr i kr hin
        have hbd : (0 : Int) ≤ (i : Int) ∧ (i : Int) < (N : Int) := by omega
        have hbd2 : (i : Int) < (N : Int) := by omega
        have z9 : IntKind.i64.wrap ((i : Int) + 1) = (i : Int) + 1 := by have := HNb.out; rw [wrap_i64]; omega
        have HFc := hid (HFi.out i wr.drew hin)
        have HII := hid (show i < N ∧ True from ⟨hin, trivial⟩)
        have HAs := hid (show cls (L.getD i 0) 32 < 3 → ∀ x, x < i + 1 → cls (L.getD x 0) 32 < 3 from fun h x hx => (Nat.lt_succ_iff_lt_or_eq.1 hx).elim (fun h => HAl.out x h) (fun e => by rw [e]; exact h))
        have HNoI := hid (HMn.out i hin)
        clear kr HFi HMn HRd
        generalize L.getD i 0 = bi at *
        obtain ⟨t, ht⟩ : ∃ t, decide (cls bi 32 < 3) = t := ⟨_, rfl⟩
        rw [ht] at HFc
        have HT := hid ht
        clear ht
        go_wp2_with fail
        refine wp_region_late [8] (fun u => u.cell? ⟨M, 3, none⟩ = some (.slice (some ⟨b, off, none⟩) N cp) ∧ u.cell? ⟨b, off + i, none⟩ = some (.int .i64 bi) ∧ u.cell? ⟨M, 2, none⟩ = some (.int .i64 32)) (by kernel_rfl) (show wr.drew.cell? _ = _ ∧ wr.drew.cell? _ = _ ∧ wr.drew.cell? _ = _ from ⟨c3, e0, c2⟩) (fun hHeld => ?_)
        refine wpAnyD_take (i := 0) (v := ?_) rfl (by kernel_rfl) (by kernel_rfl) (by kernel_rfl) (by kernel_rfl) (fun _ _ _ h => h) (Or.inl ⟨by rfl, ?hya0⟩) hHeld ?_
        case hya0 => (intro w hSw; (try dsimp only at hSw); go_simp; try (with_reducible rfl))
        (try simp only [Act.put, List.getElem_toArray, List.getElem_cons_succ, List.getElem_cons_zero, List.setIfInBounds_toArray, List.set_cons_zero, List.set_cons_succ])
        refine wpAnyD_take (i := 1) (v := ?_) rfl (by kernel_rfl) (by kernel_rfl) (by kernel_rfl) (by kernel_rfl) (fun _ _ _ h => h) (Or.inl ⟨by rfl, ?hya1⟩) hHeld ?_
        case hya1 => (intro w hSw; (try dsimp only at hSw); go_simp; try (with_reducible rfl))
        (try simp only [Act.put, List.getElem_toArray, List.getElem_cons_succ, List.getElem_cons_zero, List.setIfInBounds_toArray, List.set_cons_zero, List.set_cons_succ])
        refine wpAnyD_take (i := 2) (v := ?_) rfl (by kernel_rfl) (by kernel_rfl) (by kernel_rfl) (by kernel_rfl) (fun _ _ _ h => h) (Or.inl ⟨by rfl, ?hya2⟩) hHeld ?_
        case hya2 => (intro w hSw; (try dsimp only at hSw); go_simp; try (with_reducible rfl))
        (try simp only [Act.put, List.getElem_toArray, List.getElem_cons_succ, List.getElem_cons_zero, List.setIfInBounds_toArray, List.set_cons_zero, List.set_cons_succ])
        refine wpAnyD_take (i := 3) (v := ?_) rfl (by kernel_rfl) (by kernel_rfl) (by kernel_rfl) (by kernel_rfl) (fun _ _ _ h => h) (Or.inl ⟨by rfl, ?hya3⟩) hHeld ?_
        case hya3 => (intro w hSw; (try dsimp only at hSw); go_simp; try (with_reducible rfl))
        (try simp only [Act.put, List.getElem_toArray, List.getElem_cons_succ, List.getElem_cons_zero, List.setIfInBounds_toArray, List.set_cons_zero, List.set_cons_succ])
        refine wpAnyD_take (i := 4) (v := ?_) rfl (by kernel_rfl) (by kernel_rfl) (by kernel_rfl) (by kernel_rfl) (fun _ _ _ h => h) (Or.inl ⟨by rfl, ?hya4⟩) hHeld ?_
        case hya4 => (intro w hSw; (try dsimp only at hSw); go_simp; try (with_reducible rfl))
        (try simp only [Act.put, List.getElem_toArray, List.getElem_cons_succ, List.getElem_cons_zero, List.setIfInBounds_toArray, List.set_cons_zero, List.set_cons_succ])
        refine wpAnyD_take (i := 5) (v := ?_) rfl (by kernel_rfl) (by kernel_rfl) (by kernel_rfl) (by kernel_rfl) (fun _ _ _ h => h) (Or.inl ⟨by rfl, ?hya5⟩) hHeld ?_
        case hya5 => (intro w hSw; (try dsimp only at hSw); go_simp; try (with_reducible rfl))
        (try simp only [Act.put, List.getElem_toArray, List.getElem_cons_succ, List.getElem_cons_zero, List.setIfInBounds_toArray, List.set_cons_zero, List.set_cons_succ])
        refine wpAnyD_take (i := 6) (v := ?_) rfl (by kernel_rfl) (by kernel_rfl) (by kernel_rfl) (by kernel_rfl) (fun _ _ _ h => h) (Or.inl ⟨by rfl, ?hya6⟩) hHeld ?_
        case hya6 => (intro w hSw; (try dsimp only at hSw); go_simp; try (with_reducible rfl))
        (try simp only [Act.put, List.getElem_toArray, List.getElem_cons_succ, List.getElem_cons_zero, List.setIfInBounds_toArray, List.set_cons_zero, List.set_cons_succ])
        refine wpAnyD_step (i := 7) (by kernel_rfl) rfl (fun K hK9 => ?_)
        go_simp
        go_wp2_with fail
        refine HFc.out.mono ?_
        rintro e w5 ⟨rfl, k5⟩
        have kd5 := hid ((Kept.refl wr).drew.trans k5)
        have s5 : w5.cell? ⟨M, 3, none⟩ = some (.slice (some ⟨b, off, none⟩) N cp) ∧ w5.cell? ⟨b, off + i, none⟩ = some (.int .i64 bi) ∧ w5.cell? ⟨M, 2, none⟩ = some (.int .i64 32) := ⟨(kd5.out.below.cell (p := ⟨M, 3, none⟩) (World.block_lt_of_cell? _ _ c3)).trans c3, (kd5.out.below.cell (p := ⟨b, off + i, none⟩) (World.block_lt_of_cell? _ _ e0)).trans e0, (kd5.out.below.cell (p := ⟨M, 2, none⟩) (World.block_lt_of_cell? _ _ c2)).trans c2⟩
        refine hK9.out _ _ s5 (fun hHeld2 => ?_)
        clear hK9 K k5
        (try simp only [Act.put, List.getElem_toArray, List.getElem_cons_succ, List.getElem_cons_zero, List.setIfInBounds_toArray, List.set_cons_zero, List.set_cons_succ])
        refine wpAnyD_late (i := 8) (by kernel_rfl) rfl rfl (fun K hK9 => ?_)
        go_simp
        refine hK9.out _ _ ?_
        clear hK9 K
        (try simp only [Act.put, List.getElem_toArray, List.getElem_cons_succ, List.getElem_cons_zero, List.setIfInBounds_toArray, List.set_cons_zero, List.set_cons_succ])
        refine wpAnyD_done (by kernel_rfl) ?_ _
        (try simp only [Act.put, List.getElem_toArray, List.getElem_cons_succ, List.getElem_cons_zero, List.setIfInBounds_toArray, List.set_cons_zero, List.set_cons_succ])
        clear hHeld hHeld2 s5 c0 c1 c2 c3 e0
        cases t with
        | true =>
          have hc3 := of_decide_eq_true HT.out
          go_wp2_with fail
          go_roundw
          case rel => exact ⟨i + 1, by omega, by go_num, HKr.out.trans kd5.out, HAs.out hc3⟩
          case measure => simp [intOf]; omega
        | false =>
          have hc3 := of_decide_eq_false HT.out
          go_wp2_with fail
          go_ret
          exact ⟨.inr ⟨HNoI.out hc3, rfl⟩, HK0.out.trans (HKr.out.trans kd5.out)⟩
      · obtain rfl : i = N := by omega
        go_wp2_with fail
        go_ret
        exact ⟨.inl ⟨HMk.out HAl.out, rfl⟩, HK0.out.trans HKr.out⟩
end Go.Proofs.Ytphkdkenopkbbaa

namespace Go.Proofs.Ytphkdkenopkbbaa
open Go.ChangeShapes Go.WideShapes Go.ChangeAt Go.RowKit
set_option linter.unusedVariables false
set_option linter.unusedSimpArgs false

set_option maxHeartbeats 1000000 in
theorem rplace_any (n : Int) (w : World) : Calls Try.prog 58 #[.int .i64 n] w fun e w' => e = .returned (.bool (stepB n)) ∧ Kept w w' := by
  by_cases h1 : 0 ≤ n
  · have d1 : decide (0 ≤ n) = true := decide_eq_true h1
    by_cases h2 : n ≤ 1099511627776
    · have d2 : decide (n ≤ 1099511627776) = true := decide_eq_true h2
      have hb : stepB n = true := decide_eq_true ⟨h1, h2⟩
      rw [hb]
      go_enter Try.func58, Try.ntmps58
      go_wp2
      go_ret
      exact ⟨rfl, Kept.refl _⟩
    · have d2 : decide (n ≤ 1099511627776) = false := decide_eq_false h2
      have hb : stepB n = false := decide_eq_false (fun h => h2 h.2)
      rw [hb]
      go_enter Try.func58, Try.ntmps58
      go_wp2
      go_ret
      exact ⟨rfl, Kept.refl _⟩
  · have d1 : decide (0 ≤ n) = false := decide_eq_false h1
    have hb : stepB n = false := decide_eq_false (fun h => h1 h.1)
    rw [hb]
    go_enter Try.func58, Try.ntmps58
    go_wp2
    go_ret
    exact ⟨rfl, Kept.refl _⟩
theorem matOk.len {m : Mat} (h : matOk m) : (m.n = 64 ∨ m.n = 32) ∧ m.L.length ≤ 4096 := by
  obtain ⟨h1, h2, h3, h4, h5, -⟩ := (matOk_iff m).1 h
  exact ⟨h1, by omega⟩
set_option maxHeartbeats 1000000 in
theorem rsize_any (r c n : Int) (L : List Int) (a : Option Addr) (cp : Nat) (hok : matOk ⟨r, c, n, L⟩) (w : World) : Calls Try.prog 60 #[.agg #[.int .i64 r, .int .i64 c, .int .i64 n, .slice a L.length cp]] w fun e w' => e = .returned (.int .i64 (szM ⟨r, c, n, L⟩)) ∧ Kept w w' := by
  obtain ⟨h1, h2⟩ := hok.len
  dsimp only at h1 h2
  have hz : szM ⟨r, c, n, L⟩ = 5 + Int.tdiv ((L.length : Int) * n) 8 := rfl
  rw [hz]
  have hw : IntKind.i64.wrap ((L.length : Int) * n) = (L.length : Int) * n := by rcases h1 with rfl | rfl <;> (rw [wrap_i64]; omega)
  have hq : 0 ≤ Int.tdiv ((L.length : Int) * n) 8 ∧ Int.tdiv ((L.length : Int) * n) 8 ≤ 100000 := by
    rcases h1 with rfl | rfl
    all_goals
      rw [Int.tdiv_eq_ediv_of_nonneg (by omega)]
      omega
  have hw2 : IntKind.i64.wrap (5 + Int.tdiv ((L.length : Int) * n) 8) = 5 + Int.tdiv ((L.length : Int) * n) 8 := by rw [wrap_i64]; omega
  have hw3 : IntKind.i64.wrap (Int.tdiv ((L.length : Int) * n) 8) = Int.tdiv ((L.length : Int) * n) 8 := by rw [wrap_i64]; omega
  go_enter Try.func60, Try.ntmps60
  go_wp2
  go_ret
  exact ⟨rfl, (Kept.refl _).alloc _ _⟩
def CkR (p : Prop) (e : Ending) : Prop := (p ∧ e = .returned (.int .i64 0)) ∨ (¬ p ∧ e = .returned (.int .i64 43))
theorem szq_take_le {Q : List (List Mat)} (h : Qks Q) (n : Nat) (hn : n ≤ 64) : 0 ≤ szq (Q.take n) ∧ szq (Q.take n) ≤ 160001 * 64 := by
  have h1 := szq_rng (h.take n)
  have h2 : (Q.take n).length ≤ 64 := by rw [List.length_take]; omega
  omega
theorem Oks.takeM {l : List Mat} {n : Nat} (h : ∀ (x : Nat) (m : Mat), l[x]? = some m → x < n → matOk m) : Oks (l.take n) := fun i m hi => by
  rw [List.getElem?_take] at hi
  split at hi
  · exact h i m hi (by assumption)
  · cases hi

set_option maxHeartbeats 16000000 in
set_option maxRecDepth 100000 in
theorem rcheck_any (v : Value) (s : Sta) (hpn : s.P.length ≤ 9223372036854775807) (hqn : s.Q.length ≤ 9223372036854775807) (hln : ∀ l ∈ s.Q, l.length ≤ 9223372036854775807) (hbn : (∀ m ∈ s.P, m.L.length ≤ 9223372036854775806) ∧ ∀ l ∈ s.Q, ∀ m ∈ l, m.L.length ≤ 9223372036854775806) (hrg : SRg s) (w : World) (hS : StI w v s) :
    Calls Try.prog 34 #[v] w fun e w' => CkR (Frm s) e ∧ Kept w w' := by
  obtain ⟨pv, qv, rfl, ⟨pa, pc, rfl, hpc, hpr⟩, ⟨qa, qc, rfl, hqc, hqr⟩⟩ := hS
  have HP : Hid (∀ (i : Nat) (m : Mat), s.P[i]? = some m → ∃ B off a cp, pa = some ⟨B, off, none⟩ ∧ ∀ u, Kept w u → MC u B (off + i * 4) a cp m) := fun i m hi => by
    obtain ⟨B, off, e, h⟩ := hpr (by intro e; rw [e] at hi; simp at hi)
    obtain ⟨a, cp, hm⟩ := h i m hi
    exact ⟨B, off, a, cp, e, fun u ku => hm.kept ku⟩
  have HQ : Hid (∀ (i : Nat) (l : List Mat), s.Q[i]? = some l → ∃ B off la lc, qa = some ⟨B, off, none⟩ ∧ l.length ≤ lc ∧ (∀ u, Kept w u → u.cell? ⟨B, off + i, none⟩ = some (.slice la l.length lc)) ∧ ∀ (k : Nat) (m : Mat), l[k]? = some m → ∃ B2 off2 a cp, la = some ⟨B2, off2, none⟩ ∧ ∀ u, Kept w u → MC u B2 (off2 + k * 4) a cp m) := fun i l hi => by
    obtain ⟨B, off, e, h⟩ := hqr (by intro e; rw [e] at hi; simp at hi)
    obtain ⟨lv, h1, la, lc, rfl, hlc, hr⟩ := h i l hi
    refine ⟨B, off, la, lc, e, hlc, fun u ku => (ku.below.cell (p := ⟨B, off + i, none⟩) (World.block_lt_of_cell? _ _ h1)).trans h1, fun k m hk => ?_⟩
    obtain ⟨B2, off2, e2, h2⟩ := hr (by intro e; rw [e] at hk; simp at hk)
    obtain ⟨a, cp, hm⟩ := h2 k m hk
    exact ⟨B2, off2, a, cp, e2, fun u ku => hm.kept ku⟩
  have HMt : Hid (∀ (m : Mat) (a : Option Addr) (cp B o : Nat) (u : World), (m ∈ s.P ∨ ∃ l ∈ s.Q, m ∈ l) → MC u B o a cp m → Calls Try.prog 59 #[.agg #[.int .i64 m.r, .int .i64 m.c, .int .i64 m.n, .slice a m.L.length cp]] u fun e w' => RBo (matOk m) e ∧ Kept u w') := fun m a cp B o u hm mc => by
    have h1 : m.L.length ≤ 9223372036854775806 := by
      rcases hm with hm | ⟨l, hl, hm⟩
      · exact hbn.1 m hm
      · exact hbn.2 l hl m hm
    have h2 : MRg m := by
      rcases hm with hm | ⟨l, hl, hm⟩
      · exact hrg.p m hm
      · exact hrg.q l hl m hm
    exact rmat_any m.r m.c m.n m.L a cp h1 h2 u mc.sl
  have HSz : Hid (∀ (m : Mat) (a : Option Addr) (cp : Nat) (u : World), matOk m → Calls Try.prog 60 #[.agg #[.int .i64 m.r, .int .i64 m.c, .int .i64 m.n, .slice a m.L.length cp]] u fun e w' => e = .returned (.int .i64 (szM m)) ∧ Kept u w') := fun m a cp u h => rsize_any m.r m.c m.n m.L a cp h u
  have HLN := hid (show ∀ (i : Nat) (l : List Mat), s.Q[i]? = some l → l.length ≤ 9223372036854775807 from fun i l hi => hln l (List.mem_of_getElem? hi))
  have HPlc := hid (show ∀ (n : Int) (u : World), Calls Try.prog 58 #[.int .i64 n] u fun e w' => e = .returned (.bool (stepB n)) ∧ Kept u w' from rplace_any)
  have HFr : Hid (stepB s.a = true → stepB s.b = true → stepB s.d = true → s.P.length ≤ 64 → s.Q.length ≤ 64 → Oks s.P → Qks s.Q → Frm s) := fun a b d pl ql p q => ⟨a, b, d, pl, ql, p, q⟩
  have HFn := hid (show Frm s → stepB s.a = true ∧ stepB s.b = true ∧ stepB s.d = true ∧ s.P.length ≤ 64 ∧ s.Q.length ≤ 64 ∧ Oks s.P ∧ Qks s.Q from fun h => ⟨h.a, h.b, h.d, h.pl, h.ql, h.p, h.q⟩)
  clear hpr hqr hln hbn hrg
  obtain ⟨pl, hpl⟩ : ∃ pl, s.P.length = pl := ⟨_, rfl⟩
  obtain ⟨n, hn⟩ : ∃ n, s.Q.length = n := ⟨_, rfl⟩
  rw [hpl] at hpn hpc HFr HFn ⊢
  rw [hn] at hqn hqc HFr HFn ⊢
  have HPl := hid hpl
  have HNn := hid hn
  have HB := hid (show pl ≤ 9223372036854775807 ∧ n ≤ 9223372036854775807 ∧ pl ≤ pc ∧ n ≤ qc from ⟨hpn, hqn, hpc, hqc⟩)
  clear hpl hn hpn hqn hpc hqc
  generalize hsa : s.a = sa at *
  generalize hsb : s.b = sb at *
  generalize hsd : s.d = sd at *
  generalize hlo : s.lo = lo at *
  generalize hra : s.ra = ra at *
  clear hsa hsb hsd hlo hra
  obtain ⟨ba, hba⟩ : ∃ b, stepB sa = b := ⟨_, rfl⟩
  obtain ⟨bb, hbb⟩ : ∃ b, stepB sb = b := ⟨_, rfl⟩
  obtain ⟨bd, hbd⟩ : ∃ b, stepB sd = b := ⟨_, rfl⟩
  rw [hba, hbb, hbd] at HFr HFn
  have HPa := hid (hba ▸ HPlc.out sa)
  have HPb := hid (hbb ▸ HPlc.out sb)
  have HPd := hid (hbd ▸ HPlc.out sd)
  clear hba hbb hbd HPlc
  obtain ⟨M, hM⟩ : ∃ M, w.heap.size = M := ⟨_, rfl⟩
  obtain ⟨W0, hW0⟩ : ∃ W0, w.alloc (.cells #[.int .i64 sa, .int .i64 sb, .int .i64 sd, .slice pa pl pc, .slice qa n qc, .int .i64 lo, .int .i64 ra] 25) = W0 := ⟨_, rfl⟩
  have k0 : Kept w W0 := by rw [← hW0]; exact (Kept.refl w).alloc _ _
  have b0 : Bk W0 M [.int .i64 sa, .int .i64 sb, .int .i64 sd, .slice pa pl pc, .slice qa n qc, .int .i64 lo, .int .i64 ra] := by rw [← hW0, ← hM]; exact Bk.new w _ _
  have HK0 := hid k0
  have HBk := hid (show ∀ u, Kept W0 u → u.cell? ⟨M, 0, none⟩ = some (.int .i64 sa) ∧ u.cell? ⟨M, 1, none⟩ = some (.int .i64 sb) ∧ u.cell? ⟨M, 2, none⟩ = some (.int .i64 sd) ∧ u.cell? ⟨M, 3, none⟩ = some (.slice pa pl pc) ∧ u.cell? ⟨M, 4, none⟩ = some (.slice qa n qc) from fun u ku => ⟨(b0.kept ku).c 0 _ rfl, (b0.kept ku).c 1 _ rfl, (b0.kept ku).c 2 _ rfl, (b0.kept ku).c 3 _ rfl, (b0.kept ku).c 4 _ rfl⟩)
  clear k0 b0
  obtain ⟨x0, x1, x2, x3, x4⟩ := HBk.out W0 (Kept.refl _)
  go_enter Try.func34, Try.ntmps34
  go_wp2_with fail
  go_at_call 58
  refine (HPa.out W0).mono ?_
  rintro e w1 ⟨rfl, k1⟩
  have K1 := hid k1
  clear k1 hM hW0 x0 x1 x2 x3 x4
  obtain ⟨x0, x1, x2, x3, x4⟩ := HBk.out w1 K1.out
  cases ba with
  | false =>
    have HNo := hid (show ¬ Frm s from fun h => by have := (HFn.out h).1; cases this)
    go_wp2_with fail
    go_ret
    exact ⟨.inr ⟨HNo.out, rfl⟩, HK0.out.trans K1.out⟩
  | true =>
  go_wp2_with fail
  go_at_call 58
  refine (HPb.out w1).mono ?_
  rintro e w2 ⟨rfl, k2⟩
  have K2 := hid (K1.out.trans k2)
  clear k2 K1 x0 x1 x2 x3 x4
  obtain ⟨x0, x1, x2, x3, x4⟩ := HBk.out w2 K2.out
  cases bb with
  | false =>
    have HNo := hid (show ¬ Frm s from fun h => by have := (HFn.out h).2.1; cases this)
    go_wp2_with fail
    go_ret
    exact ⟨.inr ⟨HNo.out, rfl⟩, HK0.out.trans K2.out⟩
  | true =>
  go_wp2_with fail
  go_at_call 58
  refine (HPd.out w2).mono ?_
  rintro e w3 ⟨rfl, k3⟩
  have K3 := hid (K2.out.trans k3)
  clear k3 K2 x0 x1 x2 x3 x4
  obtain ⟨x0, x1, x2, x3, x4⟩ := HBk.out w3 K3.out
  cases bd with
  | false =>
    have HNo := hid (show ¬ Frm s from fun h => by have := (HFn.out h).2.2.1; cases this)
    go_wp2_with fail
    go_ret
    exact ⟨.inr ⟨HNo.out, rfl⟩, HK0.out.trans K3.out⟩
  | true =>
  by_cases hp : 64 < pl
  · have d1 : decide (64 < (pl : Int)) = true := decide_eq_true (by omega)
    have d2 : decide (64 < pl) = true := decide_eq_true hp
    have HNo := hid (show ¬ Frm s from fun h => by have := (HFn.out h).2.2.2.1; omega)
    go_wp2_with fail
    go_ret
    exact ⟨.inr ⟨HNo.out, rfl⟩, HK0.out.trans K3.out⟩
  by_cases hq : 64 < n
  · have d0 : decide (64 < (pl : Int)) = false := decide_eq_false (by omega)
    have d00 : decide (64 < pl) = false := decide_eq_false hp
    have d1 : decide (64 < (n : Int)) = true := decide_eq_true (by omega)
    have d2 : decide (64 < n) = true := decide_eq_true hq
    have HNo := hid (show ¬ Frm s from fun h => by have := (HFn.out h).2.2.2.2.1; omega)
    go_wp2_with fail
    go_ret
    exact ⟨.inr ⟨HNo.out, rfl⟩, HK0.out.trans K3.out⟩
  have d0 : decide (64 < (pl : Int)) = false := decide_eq_false (by omega)
  have d00 : decide (64 < pl) = false := decide_eq_false hp
  have d1 : decide (64 < (n : Int)) = false := decide_eq_false (by omega)
  have d2 : decide (64 < n) = false := decide_eq_false hq
  have HF64 := hid (show pl ≤ 64 ∧ n ≤ 64 by omega)
  clear hp hq
  go_wp2_with fail
  go_loopw [3, 4] (fun sv iv wr => ∃ i : Nat, i ≤ pl ∧ sv = .int .i64 (52 + szl (s.P.take i)) ∧ iv = .int .i64 (i : Int) ∧ Kept W0 wr ∧ ∀ (x : Nat) (m : Mat), s.P[x]? = some m → x < i → matOk m) (fun _ iv _ => pl - (intOf iv).toNat)
  case atStart => exact ⟨0, Nat.zero_le _, rfl, rfl, K3.out, fun x m _ h => by omega⟩
  case round =>
    clear x0 x1 x2 x3 x4 K3
    obtain ⟨i, hi, rfl, rfl, kr, hok⟩ := hrel
    have HOk := hid hok
    obtain ⟨x0, x1, x2, x3, x4⟩ := HBk.out wr kr
    have KR := hid kr
    have hz := szl_rng (Oks.takeM hok)
    have hz2 : (s.P.take i).length ≤ 64 := by rw [List.length_take]; have := HF64.out; omega
    have HZ := hid (show 0 ≤ szl (s.P.take i) ∧ szl (s.P.take i) ≤ 2560000 by omega)
    have HI := hid hi
    clear hok kr hz hz2
    by_cases hin : i < pl
    · obtain ⟨m, hm⟩ : ∃ m, s.P[i]? = some m := ⟨_, List.getElem?_eq_getElem (by rw [HPl.out]; exact hin)⟩
      obtain ⟨B, off, a, cp, rfl, hc⟩ := HP.out i m hm
      have mc := hc _ (HK0.out.trans KR.out)
      have HMc := hid (HMt.out m a cp _ _ wr (.inl (List.mem_of_getElem? hm)) mc)
      have HSc := hid (HSz.out m a cp)
      have HStp := hid (szl_step i m hm)
      have HGet := hid (show ∀ (x : Nat) (m2 : Mat), matOk m → s.P[x]? = some m2 → x < i + 1 → matOk m2 from fun x m2 h h2 h3 => by
        by_cases hx : x < i
        · exact HOk.out x m2 h2 hx
        · obtain rfl : x = i := by omega
          rw [hm] at h2; cases h2; exact h)
      have HNoM := hid (show ¬ matOk m → ¬ Frm s from fun h f => h ((HFn.out f).2.2.2.2.2.1 i m hm))
      have HC := hid hc
      obtain ⟨c0, c1, c2, c3, -⟩ := mc
      have hb1 : (0 : Int) ≤ (i : Int) ∧ (i : Int) < (pl : Int) := by omega
      have hb2 : (i : Int) < (pl : Int) := by omega
      have z2 : IntKind.i64.wrap ((i : Int) + 1) = (i : Int) + 1 := by have := HF64.out; rw [wrap_i64]; omega
      have HII := hid hin
      obtain ⟨r, c, nn, L⟩ := m
      dsimp only at c0 c1 c2 c3 HMc HSc
      clear hc hm HP HQ hin hi HMt HSz
      obtain ⟨ll, hLl⟩ : ∃ ll, L.length = ll := ⟨_, rfl⟩
      rw [hLl] at c3 HMc HSc
      go_wp2_with fail
      go_at_call 59
      refine HMc.out.mono ?_
      rintro e w5 ⟨hrb, k5⟩
      have K5 := hid (KR.out.trans k5)
      have mc5 := HC.out w5 (HK0.out.trans K5.out)
      clear x0 x1 x2 x3 x4 c0 c1 c2 c3
      obtain ⟨x0, x1, x2, x3, x4⟩ := HBk.out w5 K5.out
      rcases (show _ ∨ _ from hrb) with ⟨hmo, rfl⟩ | ⟨hmo, rfl⟩
      · have HMo := hid hmo
        obtain ⟨t, ht⟩ : ∃ t, szM ⟨r, c, nn, L⟩ = t := ⟨_, rfl⟩
        have HSd := hid (HSc.out w5 hmo)
        rw [ht] at HSd HStp
        have ht2 := szM_rng hmo
        rw [ht] at ht2
        have HT := hid (show 5 ≤ t ∧ t ≤ 40000 from ⟨ht2.1, ht2.2.1⟩)
        obtain ⟨c0, c1, c2, c3, -⟩ := mc5
        dsimp only at c0 c1 c2 c3 HSd
        have zt : IntKind.i64.wrap (52 + szl (s.P.take i) + t) = 52 + szl (s.P.take i) + t := by have := HZ.out; have := HT.out; rw [wrap_i64]; omega
        rw [hLl] at c3
        generalize hgz : szl (s.P.take i) = z at *
        clear hmo hrb k5 ht ht2 HSc
        go_wp2_with fail
        go_at_call 60
        refine HSd.out.mono ?_
        rintro e w6 ⟨rfl, k6⟩
        have K6 := hid (K5.out.trans k6)
        go_wp2_with fail
        go_roundw
        case rel => exact ⟨i + 1, by have := HII.out; omega, by rw [HStp.out, ← Int.add_assoc], by go_num, K6.out, fun x m2 h2 h3 => HGet.out x m2 HMo.out h2 h3⟩
        case measure => have := HII.out; simp [intOf]; omega
      · have HNo := hid (HNoM.out hmo)
        clear hmo hrb mc5 k5
        go_wp2_with fail
        go_ret
        exact ⟨.inr ⟨HNo.out, rfl⟩, HK0.out.trans K5.out⟩
    · obtain rfl : i = pl := by omega
      have htk : s.P.take i = s.P := List.take_of_length_le (by rw [HPl.out]; exact Nat.le_refl _)
      have HOP : Hid (Oks s.P) := fun x m h => HOk.out x m h (by have := (List.getElem?_eq_some_iff.1 h).1; rw [HPl.out] at this; exact this)
      rw [htk] at HZ ⊢
      clear hin hi HP htk
      go_wp2_with fail
      go_loopw [3, 6] (fun sv iv wr => ∃ j : Nat, j ≤ n ∧ sv = .int .i64 (52 + szl s.P + szq (s.Q.take j)) ∧ iv = .int .i64 (j : Int) ∧ Kept W0 wr ∧ Qks (s.Q.take j)) (fun _ iv _ => n - (intOf iv).toNat)
      case atStart => exact ⟨0, Nat.zero_le _, by simp [szq], rfl, KR.out, fun x m h => by simp at h⟩
      case round =>
        clear x0 x1 x2 x3 x4 KR HOk HI
        obtain ⟨j, hj, rfl, rfl, kr, hok⟩ := hrel
        have HOk := hid hok
        obtain ⟨x0, x1, x2, x3, x4⟩ := HBk.out _ kr
        have KR := hid kr
        have hz := szq_rng hok
        have hz2 : (s.Q.take j).length ≤ 64 := by rw [List.length_take]; have := HF64.out; omega
        have HY := hid (show 0 ≤ szq (s.Q.take j) ∧ szq (s.Q.take j) ≤ 10240064 by omega)
        clear hok kr hz hz2
        by_cases hjn : j < n
        · obtain ⟨l, hl⟩ : ∃ l, s.Q[j]? = some l := ⟨_, List.getElem?_eq_getElem (by rw [HNn.out]; exact hjn)⟩
          obtain ⟨B, off, la, lc, rfl, hlc, hc, hin3⟩ := HQ.out j l hl
          have c3 := hc _ (HK0.out.trans KR.out)
          have hb1 : (0 : Int) ≤ (j : Int) ∧ (j : Int) < (n : Int) := by omega
          have hb2 : (j : Int) < (n : Int) := by omega
          have z2 : IntKind.i64.wrap ((j : Int) + 1) = (j : Int) + 1 := by have := HF64.out; rw [wrap_i64]; omega
          have HLl := hid (HLN.out j l hl)
          have HMem : Hid (∀ m ∈ l, ∃ l ∈ s.Q, m ∈ l) := fun m hm => ⟨l, List.mem_of_getElem? hl, hm⟩
          have HNoL := hid (show 4 < l.length → ¬ Frm s from fun h f => by have := ((HFn.out f).2.2.2.2.2.2 j l hl).1; omega)
          have HNoM := hid (show ∀ (k : Nat) (m : Mat), l[k]? = some m → ¬ matOk m → ¬ Frm s from fun k m hk h f => h (((HFn.out f).2.2.2.2.2.2 j l hl).2 k m hk))
          have HStp := hid (szq_step j l hl)
          have HGet := hid (show l.length ≤ 4 → Oks l → Qks (s.Q.take (j + 1)) from fun h1 h2 x l2 hx => by
            rw [List.getElem?_take] at hx
            split at hx
            · by_cases hxj : x < j
              · exact HOk.out x l2 (by rw [List.getElem?_take, if_pos hxj]; exact hx)
              · obtain rfl : x = j := by omega
                rw [hl] at hx; cases hx; exact ⟨h1, h2⟩
            · cases hx)
          obtain ⟨q, hq⟩ : ∃ q, l.length = q := ⟨_, rfl⟩
          rw [hq] at c3 HLl hlc
          have HL := hid hq
          have HL3 := hid hin3
          have HJ := hid hjn
          have HC3 := hid hc
          clear hc hl HQ hjn hj hq hin3 hlc HOk
          generalize hgy : szq (s.Q.take j) = y at *
          clear hgy
          by_cases hq4 : 4 < q
          · have d3 : decide (4 < (q : Int)) = true := decide_eq_true (by omega)
            have d4 : decide (4 < q) = true := decide_eq_true hq4
            have HNo := hid (HNoL.out (by rw [HL.out]; exact hq4))
            go_wp2_with fail
            go_ret
            exact ⟨.inr ⟨HNo.out, rfl⟩, HK0.out.trans KR.out⟩
          have d3 : decide (4 < (q : Int)) = false := decide_eq_false (by omega)
          have d4 : decide (4 < q) = false := decide_eq_false hq4
          have HQ4 := hid hq4
          have zy : IntKind.i64.wrap (52 + szl s.P + y + 1) = 52 + szl s.P + y + 1 := by have := HZ.out; have := HY.out; rw [wrap_i64]; omega
          clear hq4
          generalize hgp : szl s.P = zp at *
          go_wp2_with fail
          go_loopw [3, 7] (fun sv iv wr => ∃ k : Nat, k ≤ q ∧ sv = .int .i64 (52 + zp + y + 1 + szl (l.take k)) ∧ iv = .int .i64 (k : Int) ∧ Kept W0 wr ∧ ∀ (x : Nat) (m : Mat), l[x]? = some m → x < k → matOk m) (fun _ iv _ => q - (intOf iv).toNat)
          case atStart => exact ⟨0, Nat.zero_le _, by simp [szl], rfl, KR.out, fun x m _ h => by omega⟩
          case round =>
            clear x0 x1 x2 x3 x4 c3 KR d3 d4
            obtain ⟨k, hk, rfl, rfl, kr, hok⟩ := hrel
            have HOk := hid hok
            obtain ⟨x0, x1, x2, x3, x4⟩ := HBk.out _ kr
            have c3 := HC3.out _ (HK0.out.trans kr)
            rw [HL.out] at c3
            have KR := hid kr
            have hz := szl_rng (Oks.takeM hok)
            have hz2 : (l.take k).length ≤ 4 := by rw [List.length_take]; have := HQ4.out; have := HL.out; omega
            have HX := hid (show 0 ≤ szl (l.take k) ∧ szl (l.take k) ≤ 160000 by omega)
            clear hok kr hz hz2
            by_cases hkn : k < q
            · obtain ⟨m, hm⟩ : ∃ m, l[k]? = some m := ⟨_, List.getElem?_eq_getElem (by rw [HL.out]; exact hkn)⟩
              obtain ⟨B2, off2, a, cp, rfl, hc⟩ := HL3.out k m hm
              have mc := hc _ (HK0.out.trans KR.out)
              have HMc := hid (HMt.out m a cp _ _ _ (.inr (HMem.out m (List.mem_of_getElem? hm))) mc)
              have HSc := hid (HSz.out m a cp)
              have HStp2 := hid (szl_step k m hm)
              have HGet2 := hid (show ∀ (x : Nat) (m2 : Mat), matOk m → l[x]? = some m2 → x < k + 1 → matOk m2 from fun x m2 h h2 h3 => by
                by_cases hx : x < k
                · exact HOk.out x m2 h2 hx
                · obtain rfl : x = k := by omega
                  rw [hm] at h2; cases h2; exact h)
              have HNoM2 := hid (HNoM.out k m hm)
              have HC := hid hc
              obtain ⟨e0, e1, e2, e3, -⟩ := mc
              have hb3 : (0 : Int) ≤ (k : Int) ∧ (k : Int) < (q : Int) := by omega
              have hb4 : (k : Int) < (q : Int) := by omega
              have z4 : IntKind.i64.wrap ((k : Int) + 1) = (k : Int) + 1 := by have := HQ4.out; rw [wrap_i64]; omega
              have HII := hid hkn
              obtain ⟨r, c, nn, L⟩ := m
              dsimp only at e0 e1 e2 e3 HMc HSc
              obtain ⟨ll, hLl⟩ : ∃ ll, L.length = ll := ⟨_, rfl⟩
              rw [hLl] at e3 HMc HSc
              clear hc hm HL3 hkn hk HMt HSz HNoM
              go_wp2_with fail
              go_at_call 59
              refine HMc.out.mono ?_
              rintro e w5 ⟨hrb, k5⟩
              have K5 := hid (KR.out.trans k5)
              have mc5 := HC.out w5 (HK0.out.trans K5.out)
              clear x0 x1 x2 x3 x4 e0 e1 e2 e3 c3
              obtain ⟨x0, x1, x2, x3, x4⟩ := HBk.out w5 K5.out
              have c3 := HC3.out _ (HK0.out.trans K5.out)
              rw [HL.out] at c3
              rcases (show _ ∨ _ from hrb) with ⟨hmo, rfl⟩ | ⟨hmo, rfl⟩
              · have HMo := hid hmo
                obtain ⟨t, ht⟩ : ∃ t, szM ⟨r, c, nn, L⟩ = t := ⟨_, rfl⟩
                have HSd := hid (HSc.out w5 hmo)
                rw [ht] at HSd HStp2
                have ht2 := szM_rng hmo
                rw [ht] at ht2
                have HT := hid (show 5 ≤ t ∧ t ≤ 40000 from ⟨ht2.1, ht2.2.1⟩)
                obtain ⟨e0, e1, e2, e3, -⟩ := mc5
                dsimp only at e0 e1 e2 e3 HSd
                have zt : IntKind.i64.wrap (52 + zp + y + 1 + szl (l.take k) + t) = 52 + zp + y + 1 + szl (l.take k) + t := by have := HZ.out; have := HT.out; have := HX.out; have := HY.out; rw [wrap_i64]; omega
                rw [hLl] at e3
                generalize hgz : szl (l.take k) = z at *
                clear hmo hrb k5 ht ht2 HSc
                go_wp2_with fail
                go_at_call 60
                refine HSd.out.mono ?_
                rintro e w6 ⟨rfl, k6⟩
                have K6 := hid (K5.out.trans k6)
                go_wp2_with fail
                go_roundw
                case rel => exact ⟨k + 1, by have := HII.out; omega, by rw [HStp2.out, ← Int.add_assoc], by go_num, K6.out, fun x m2 h2 h3 => HGet2.out x m2 HMo.out h2 h3⟩
                case measure => have := HII.out; simp [intOf]; omega
              · have HNo := hid (HNoM2.out hmo)
                clear hmo hrb mc5 k5
                go_wp2_with fail
                go_ret
                exact ⟨.inr ⟨HNo.out, rfl⟩, HK0.out.trans K5.out⟩
            · obtain rfl : k = q := by omega
              have htk : l.take k = l := List.take_of_length_le (by rw [HL.out]; exact Nat.le_refl _)
              have HOl : Hid (Oks l) := fun x m h => HOk.out x m h (by have := (List.getElem?_eq_some_iff.1 h).1; rw [HL.out] at this; exact this)
              rw [htk]
              clear hkn hk htk
              go_wp2_with fail
              go_roundw
              case rel => exact ⟨j + 1, by have := HJ.out; omega, by rw [HStp.out]; congr 1; omega, by go_num, KR.out, HGet.out (by have := HQ4.out; have := HL.out; omega) HOl.out⟩
              case measure => have := HJ.out; simp [intOf]; omega
        · obtain rfl : j = n := by omega
          have htk : s.Q.take j = s.Q := List.take_of_length_le (by rw [HNn.out]; exact Nat.le_refl _)
          have hoq := HOk.out
          rw [htk] at hoq HY ⊢
          have HFrm := hid (HFr.out (by first | rfl | trivial) (by first | rfl | trivial) (by first | rfl | trivial) HF64.out.1 HF64.out.2 HOP.out hoq)
          have d5 : decide (16777216 < 52 + szl s.P + szq s.Q) = false := decide_eq_false (by have := HZ.out; have := HY.out; omega)
          clear hjn hj HQ htk hoq HOk
          generalize szl s.P = zp at *
          generalize szq s.Q = zq at *
          go_wp2_with fail
          go_ret
          exact ⟨.inl ⟨HFrm.out, rfl⟩, HK0.out.trans KR.out⟩
end Go.Proofs.Ytphkdkenopkbbaa

namespace Go.Proofs.Ytphkdkenopkbbaa
open Go.ChangeShapes Go.WideShapes Go.ChangeAt Go.RowKit
set_option linter.unusedVariables false
set_option linter.unusedSimpArgs false

theorem blk_slice {g n c b : Nat} (h : blk (.slice (some ⟨g, 0, none⟩) n c) b) : b = g := by
  obtain ⟨n2, c2, e⟩ := h
  cases e
  rfl
theorem BN.kept {H : Nat} {w w' : World} {v : Value} {L : List Int} (h : BN H w v L) (k : Kept w w') : BN H w' v L := h.kx (k.kx fun _ => False) (fun b hb => hb.elim)

set_option maxHeartbeats 8000000 in
set_option maxRecDepth 100000 in
theorem putm_any (r c n : Int) (L : List Int) (a : Option Addr) (cp : Nat) (hok : matOk ⟨r, c, n, L⟩) (v : Value) (V : List Int) (W w : World) (hW : Kept W w) (hs : Sl W (.slice a L.length cp) L) (hB : BN 0 w v V) (hnb : ∀ b, blk v b → W.heap.size ≤ b) (hlen : V.length ≤ 99000000) :
    Calls Try.prog 36 #[v, .agg #[.int .i64 r, .int .i64 c, .int .i64 n, .slice a L.length cp]] w fun e w' => ∃ v', e = .returned v' ∧ BN 0 w' v' (V ++ wm ⟨r, c, n, L⟩) ∧ PP w w' v v' := by
  obtain ⟨M, hM⟩ : ∃ M, w.heap.size = M := ⟨_, rfl⟩
  obtain ⟨N, hN⟩ : ∃ N, L.length = N := ⟨_, rfl⟩
  have hokl := hok.len
  dsimp only at hokl
  rw [hN] at hs hokl ⊢
  obtain ⟨W0, hW0⟩ : ∃ W0, w.alloc (.cells #[.int .i64 r, .int .i64 c, .int .i64 n, .slice a N cp] 52) = W0 := ⟨_, rfl⟩
  have k0 : Kept w W0 := by rw [← hW0]; exact (Kept.refl w).alloc _ _
  have b0 : Bk W0 M [.int .i64 r, .int .i64 c, .int .i64 n, .slice a N cp] := by rw [← hW0, ← hM]; exact Bk.new w _ _
  have HN := hid hN
  have HK0 := hid k0
  have HWk := hid (hW.trans k0)
  have HB0 := hid (hB.kept k0)
  have hvb : ¬ blk v M := fun h => by have := hB.blk h; omega
  have HVb := hid hvb
  have HM := hid hM
  -- what stays behind a Put
  have HBk : Hid (∀ u v', PP W0 u v v' → u.cell? ⟨M, 0, none⟩ = some (.int .i64 r) ∧ u.cell? ⟨M, 1, none⟩ = some (.int .i64 c) ∧ u.cell? ⟨M, 2, none⟩ = some (.int .i64 n) ∧ u.cell? ⟨M, 3, none⟩ = some (.slice a N cp)) := fun u v' p => by
    have b := b0.kx p.kx hvb
    exact ⟨b.c 0 _ rfl, b.c 1 _ rfl, b.c 2 _ rfl, b.c 3 _ rfl⟩
  have HRd : Hid (∀ u v' i, PP W0 u v v' → i < N → ∃ b off, a = some ⟨b, off, none⟩ ∧ u.cell? ⟨b, off + i, none⟩ = some (.int .i64 (L.getD i 0)) ∧ b < W.heap.size) := fun u v' i p hi => by
    obtain ⟨ao', cap', e, -, -, hr⟩ := hs
    have ku : Kept W u := p.kept (hW.trans k0) hnb
    injection e with e1 e2 e3
    subst e1 e3
    obtain ⟨b, off, e2, hbl, hrd⟩ := hr (by intro e; rw [e] at hN; simp at hN; omega)
    exact ⟨b, off, e2, (ku.below.cell (p := ⟨b, off + i, none⟩) hbl).trans (hrd i (by omega)), hbl⟩
  have HNb : Hid (∀ u v', PP W0 u v v' → ∀ b, b < W.heap.size → ¬ blk v' b) := fun u v' p b hb h => by
    rcases p.nb b h with h1 | h1
    · have := hnb b h1; omega
    · have := (hW.trans k0).below.size; omega
  have HPut := hid (show ∀ (v : Value) (L : List Int) (n : Int) (k : Nat) (w : World), k ≤ 8 → L.length < 99990000 → BN 0 w v L → Calls Try.prog 35 #[v, .int .i64 n, .int .i64 (k : Int)] w fun e w' => ∃ v', e = .returned v' ∧ BN 0 w' v' (L ++ le k n) ∧ PP w w' v v' from fun v L n k w hk hl hb => put_any v L n k hk hl w hb)
  have HLn := hid (show V.length ≤ 99000000 ∧ N ≤ 4096 ∧ (n = 64 ∨ n = 32) from ⟨hlen, hokl.2, hokl.1⟩)
  obtain ⟨c0, c1, c2, c3⟩ := HBk.out W0 v (PP.refl _ _)
  have P1 := hid (HPut.out v V n 1 W0.drew (by decide) (by omega) (HB0.out.kept (Kept.refl W0).drew))
  clear hs hok hokl b0 k0 hW hB hnb hlen hvb hN
  go_enter Try.func36, Try.ntmps36
  go_wp2_with fail
  refine wp_region_late [10] (fun u => u.cell? ⟨M, 0, none⟩ = some (.int .i64 r) ∧ u.cell? ⟨M, 1, none⟩ = some (.int .i64 c) ∧ u.cell? ⟨M, 2, none⟩ = some (.int .i64 n)) (by kernel_rfl) (show W0.drew.cell? _ = _ ∧ W0.drew.cell? _ = _ ∧ W0.drew.cell? _ = _ from ⟨c0, c1, c2⟩) (fun hHeld => ?_)
  refine wpAnyD_take (i := 0) (v := ?_) rfl (by kernel_rfl) (by kernel_rfl) (by kernel_rfl) (by kernel_rfl) (fun _ _ _ h => h) (Or.inl ⟨by rfl, ?hya0⟩) hHeld ?_
  case hya0 => (intro w hSw; (try dsimp only at hSw); go_simp; try (with_reducible rfl))
  (try simp only [Act.put, List.getElem_toArray, List.getElem_cons_succ, List.getElem_cons_zero, List.setIfInBounds_toArray, List.set_cons_zero, List.set_cons_succ])
  refine wpAnyD_take (i := 1) (v := ?_) rfl (by kernel_rfl) (by kernel_rfl) (by kernel_rfl) (by kernel_rfl) (fun _ _ _ h => h) (Or.inl ⟨by rfl, ?hya1⟩) hHeld ?_
  case hya1 => (intro w hSw; (try dsimp only at hSw); go_simp; try (with_reducible rfl))
  (try simp only [Act.put, List.getElem_toArray, List.getElem_cons_succ, List.getElem_cons_zero, List.setIfInBounds_toArray, List.set_cons_zero, List.set_cons_succ])
  refine wpAnyD_take (i := 2) (v := ?_) rfl (by kernel_rfl) (by kernel_rfl) (by kernel_rfl) (by kernel_rfl) (fun _ _ _ h => h) (Or.inl ⟨by rfl, ?hya2⟩) hHeld ?_
  case hya2 => (intro w hSw; (try dsimp only at hSw); go_simp; try (with_reducible rfl))
  (try simp only [Act.put, List.getElem_toArray, List.getElem_cons_succ, List.getElem_cons_zero, List.setIfInBounds_toArray, List.set_cons_zero, List.set_cons_succ])
  refine wpAnyD_take (i := 4) (v := ?_) rfl (by kernel_rfl) (by kernel_rfl) (by kernel_rfl) (by kernel_rfl) (fun _ _ _ h => h) (Or.inl ⟨by rfl, ?hya4⟩) hHeld ?_
  case hya4 => (intro w hSw; (try dsimp only at hSw); go_simp; try (with_reducible rfl))
  (try simp only [Act.put, List.getElem_toArray, List.getElem_cons_succ, List.getElem_cons_zero, List.setIfInBounds_toArray, List.set_cons_zero, List.set_cons_succ])
  refine wpAnyD_take (i := 5) (v := ?_) rfl (by kernel_rfl) (by kernel_rfl) (by kernel_rfl) (by kernel_rfl) (fun _ _ _ h => h) (Or.inl ⟨by rfl, ?hya5⟩) hHeld ?_
  case hya5 => (intro w hSw; (try dsimp only at hSw); go_simp; try (with_reducible rfl))
  (try simp only [Act.put, List.getElem_toArray, List.getElem_cons_succ, List.getElem_cons_zero, List.setIfInBounds_toArray, List.set_cons_zero, List.set_cons_succ])
  refine wpAnyD_take (i := 7) (v := ?_) rfl (by kernel_rfl) (by kernel_rfl) (by kernel_rfl) (by kernel_rfl) (fun _ _ _ h => h) (Or.inl ⟨by rfl, ?hya7⟩) hHeld ?_
  case hya7 => (intro w hSw; (try dsimp only at hSw); go_simp; try (with_reducible rfl))
  (try simp only [Act.put, List.getElem_toArray, List.getElem_cons_succ, List.getElem_cons_zero, List.setIfInBounds_toArray, List.set_cons_zero, List.set_cons_succ])
  refine wpAnyD_take (i := 8) (v := ?_) rfl (by kernel_rfl) (by kernel_rfl) (by kernel_rfl) (by kernel_rfl) (fun _ _ _ h => h) (Or.inl ⟨by rfl, ?hya8⟩) hHeld ?_
  case hya8 => (intro w hSw; (try dsimp only at hSw); go_simp; try (with_reducible rfl))
  (try simp only [Act.put, List.getElem_toArray, List.getElem_cons_succ, List.getElem_cons_zero, List.setIfInBounds_toArray, List.set_cons_zero, List.set_cons_succ])
  refine wpAnyD_step (i := 3) (by kernel_rfl) rfl (fun K hK9 => ?_)
  go_simp
  go_wp2_with fail
  refine (P1.out).mono ?_
  rintro e w1 ⟨v1, rfl, bn1, pq1⟩
  have pp1 : PP W0 w1 v v1 := ((Kept.refl W0).drew.pp _).trans pq1
  have s1 : w1.cell? ⟨M, 0, none⟩ = some (.int .i64 r) ∧ w1.cell? ⟨M, 1, none⟩ = some (.int .i64 c) ∧ w1.cell? ⟨M, 2, none⟩ = some (.int .i64 n) := ⟨(HBk.out _ _ pp1).1, (HBk.out _ _ pp1).2.1, (HBk.out _ _ pp1).2.2.1⟩
  refine hK9.out _ _ s1 (fun hHeld2 => ?_)
  clear hK9 K
  (try simp only [Act.put, List.getElem_toArray, List.getElem_cons_succ, List.getElem_cons_zero, List.setIfInBounds_toArray, List.set_cons_zero, List.set_cons_succ])
  refine wpAnyD_step (i := 6) (by kernel_rfl) rfl (fun K hK9 => ?_)
  go_simp
  go_wp2_with fail
  refine (HPut.out v1 _ r 2 w1 (by decide) (by rw [List.length_append, le_len]; have := HLn.out.1; omega) bn1).mono ?_
  rintro e w2 ⟨v2, rfl, bn2, pq2⟩
  have pp2 : PP W0 w2 v v2 := pp1.trans pq2
  have s2 : w2.cell? ⟨M, 0, none⟩ = some (.int .i64 r) ∧ w2.cell? ⟨M, 1, none⟩ = some (.int .i64 c) ∧ w2.cell? ⟨M, 2, none⟩ = some (.int .i64 n) := ⟨(HBk.out _ _ pp2).1, (HBk.out _ _ pp2).2.1, (HBk.out _ _ pp2).2.2.1⟩
  refine hK9.out _ _ s2 (fun hHeld3 => ?_)
  clear hK9 K
  (try simp only [Act.put, List.getElem_toArray, List.getElem_cons_succ, List.getElem_cons_zero, List.setIfInBounds_toArray, List.set_cons_zero, List.set_cons_succ])
  refine wpAnyD_step (i := 9) (by kernel_rfl) rfl (fun K hK9 => ?_)
  go_simp
  go_wp2_with fail
  refine (HPut.out v2 _ c 2 w2 (by decide) (by rw [List.length_append, List.length_append, le_len, le_len]; have := HLn.out.1; omega) bn2).mono ?_
  rintro e w3 ⟨v3, rfl, bn3, pq3⟩
  have pp3 : PP W0 w3 v v3 := pp2.trans pq3
  have s3 : w3.cell? ⟨M, 0, none⟩ = some (.int .i64 r) ∧ w3.cell? ⟨M, 1, none⟩ = some (.int .i64 c) ∧ w3.cell? ⟨M, 2, none⟩ = some (.int .i64 n) := ⟨(HBk.out _ _ pp3).1, (HBk.out _ _ pp3).2.1, (HBk.out _ _ pp3).2.2.1⟩
  refine hK9.out _ _ s3 (fun hHeld4 => ?_)
  clear hK9 K
  (try simp only [Act.put, List.getElem_toArray, List.getElem_cons_succ, List.getElem_cons_zero, List.setIfInBounds_toArray, List.set_cons_zero, List.set_cons_succ])
  refine wpAnyD_late (i := 10) (by kernel_rfl) rfl rfl (fun K hK9 => ?_)
  go_simp
  refine hK9.out _ _ ?_
  clear hK9 K
  (try simp only [Act.put, List.getElem_toArray, List.getElem_cons_succ, List.getElem_cons_zero, List.setIfInBounds_toArray, List.set_cons_zero, List.set_cons_succ])
  refine wpAnyD_done (by kernel_rfl) ?_ _
  (try simp only [Act.put, List.getElem_toArray, List.getElem_cons_succ, List.getElem_cons_zero, List.setIfInBounds_toArray, List.set_cons_zero, List.set_cons_succ])
  have HB3 := hid bn3
  have HP3 := hid pp3
  have hq : ∃ kk : Nat, (kk = 8 ∨ kk = 4) ∧ Int.tdiv n 8 = (kk : Int) ∧ (Int.tdiv n 8).toNat = kk := by
    rcases HLn.out.2.2 with rfl | rfl
    · exact ⟨8, .inl rfl, rfl, rfl⟩
    · exact ⟨4, .inr rfl, rfl, rfl⟩
  obtain ⟨kk, hkk, hq1, hq2⟩ := hq
  have HKK := hid hkk
  have HQ2 := hid hq2
  have zk : IntKind.i64.wrap (kk : Int) = (kk : Int) := by rw [wrap_i64]; omega
  obtain ⟨V3, hV3⟩ : ∃ V3, V ++ le 1 n ++ le 2 r ++ le 2 c = V3 := ⟨_, rfl⟩
  rw [hV3] at HB3
  have hV3l : V3.length = V.length + 5 := by rw [← hV3]; simp [le_len]
  have HV3 := hid (show V3.length ≤ 99000005 by have := HLn.out.1; omega)
  have HV3e := hid hV3
  clear bn3 pp3 s1 s2 s3 hHeld hHeld2 hHeld3 hHeld4 c0 c1 c2 c3 hkk hq2 hV3 hV3l hM hW0
  go_wp2_with fail
  go_loopw [0, 5] (fun lv iv wr => ∃ (i : Nat) (av : Value), lv = av ∧ i ≤ N ∧ iv = .int .i64 (i : Int) ∧ BN 0 wr av (V3 ++ wbits kk (L.take i)) ∧ PP W0 wr v av) (fun _ iv _ => N - (intOf iv).toNat)
  case atStart => exact ⟨0, _, rfl, Nat.zero_le _, rfl, by rw [List.take_zero, show wbits kk [] = [] from rfl, List.append_nil]; exact HB3.out, HP3.out⟩
  case round =>
    obtain ⟨i, av, hlv, hi, rfl, hb, hp⟩ := hrel
    have h9 := hlv.symm
    subst h9
    clear hlv
    have HBi := hid hb
    have HPi := hid hp
    obtain ⟨c0, c1, c2, c3⟩ := HBk.out wr av hp
    by_cases hin : i < N
    · obtain ⟨b, off, rfl, e0, hbW⟩ := HRd.out wr av i hp hin
      have hbd : (0 : Int) ≤ (i : Int) ∧ (i : Int) < (N : Int) := by omega
      have hbd2 : (i : Int) < (N : Int) := by omega
      have z9 : IntKind.i64.wrap ((i : Int) + 1) = (i : Int) + 1 := by have := HLn.out; rw [wrap_i64]; omega
      have HStp := hid (wbits_step kk L i (by rw [HN.out]; exact hin))
      have HII := hid (show i < N ∧ b < W.heap.size from ⟨hin, hbW⟩)
      have HLt := hid (show (V3 ++ wbits kk (L.take i)).length < 99990000 by
        rw [List.length_append, wbits_len, List.length_take]
        have h1 := HV3.out
        have h2 := HLn.out
        have h3 : kk * min i L.length ≤ 8 * 4096 := Nat.mul_le_mul (by rcases HKK.out with h | h <;> omega) (by have := HN.out; omega)
        omega)
      have HPc := hid (HPut.out av _ (L.getD i 0) kk wr.drew (by rcases HKK.out with h | h <;> omega) HLt.out (HBi.out.kept (Kept.refl wr).drew))
      have HRu := hid (HRd.out)
      clear hb hp HRd
      generalize L.getD i 0 = bi at *
      go_wp2_with fail
      refine wp_region_late [10] (fun u => u.cell? ⟨M, 3, none⟩ = some (.slice (some ⟨b, off, none⟩) N cp) ∧ u.cell? ⟨b, off + i, none⟩ = some (.int .i64 bi) ∧ u.cell? ⟨M, 2, none⟩ = some (.int .i64 n)) (by kernel_rfl) (show wr.drew.cell? _ = _ ∧ wr.drew.cell? _ = _ ∧ wr.drew.cell? _ = _ from ⟨c3, e0, c2⟩) (fun hHeld => ?_)
      refine wpAnyD_take (i := 0) (v := ?_) rfl (by kernel_rfl) (by kernel_rfl) (by kernel_rfl) (by kernel_rfl) (fun _ _ _ h => h) (Or.inl ⟨by rfl, ?hyb0⟩) hHeld ?_
      case hyb0 => (intro w hSw; (try dsimp only at hSw); go_simp; try (with_reducible rfl))
      (try simp only [Act.put, List.getElem_toArray, List.getElem_cons_succ, List.getElem_cons_zero, List.setIfInBounds_toArray, List.set_cons_zero, List.set_cons_succ])
      refine wpAnyD_take (i := 1) (v := ?_) rfl (by kernel_rfl) (by kernel_rfl) (by kernel_rfl) (by kernel_rfl) (fun _ _ _ h => h) (Or.inl ⟨by rfl, ?hyb1⟩) hHeld ?_
      case hyb1 => (intro w hSw; (try dsimp only at hSw); go_simp; try (with_reducible rfl))
      (try simp only [Act.put, List.getElem_toArray, List.getElem_cons_succ, List.getElem_cons_zero, List.setIfInBounds_toArray, List.set_cons_zero, List.set_cons_succ])
      refine wpAnyD_take (i := 2) (v := ?_) rfl (by kernel_rfl) (by kernel_rfl) (by kernel_rfl) (by kernel_rfl) (fun _ _ _ h => h) (Or.inl ⟨by rfl, ?hyb2⟩) hHeld ?_
      case hyb2 => (intro w hSw; (try dsimp only at hSw); go_simp; try (with_reducible rfl))
      (try simp only [Act.put, List.getElem_toArray, List.getElem_cons_succ, List.getElem_cons_zero, List.setIfInBounds_toArray, List.set_cons_zero, List.set_cons_succ])
      refine wpAnyD_take (i := 3) (v := ?_) rfl (by kernel_rfl) (by kernel_rfl) (by kernel_rfl) (by kernel_rfl) (fun _ _ _ h => h) (Or.inl ⟨by rfl, ?hyb3⟩) hHeld ?_
      case hyb3 => (intro w hSw; (try dsimp only at hSw); go_simp; try (with_reducible rfl))
      (try simp only [Act.put, List.getElem_toArray, List.getElem_cons_succ, List.getElem_cons_zero, List.setIfInBounds_toArray, List.set_cons_zero, List.set_cons_succ])
      refine wpAnyD_take (i := 4) (v := ?_) rfl (by kernel_rfl) (by kernel_rfl) (by kernel_rfl) (by kernel_rfl) (fun _ _ _ h => h) (Or.inl ⟨by rfl, ?hyb4⟩) hHeld ?_
      case hyb4 => (intro w hSw; (try dsimp only at hSw); go_simp; try (with_reducible rfl))
      (try simp only [Act.put, List.getElem_toArray, List.getElem_cons_succ, List.getElem_cons_zero, List.setIfInBounds_toArray, List.set_cons_zero, List.set_cons_succ])
      refine wpAnyD_take (i := 5) (v := ?_) rfl (by kernel_rfl) (by kernel_rfl) (by kernel_rfl) (by kernel_rfl) (fun _ _ _ h => h) (Or.inl ⟨by rfl, ?hyb5⟩) hHeld ?_
      case hyb5 => (intro w hSw; (try dsimp only at hSw); go_simp; try (with_reducible rfl))
      (try simp only [Act.put, List.getElem_toArray, List.getElem_cons_succ, List.getElem_cons_zero, List.setIfInBounds_toArray, List.set_cons_zero, List.set_cons_succ])
      refine wpAnyD_take (i := 6) (v := ?_) rfl (by kernel_rfl) (by kernel_rfl) (by kernel_rfl) (by kernel_rfl) (fun _ _ _ h => h) (Or.inl ⟨by rfl, ?hyb6⟩) hHeld ?_
      case hyb6 => (intro w hSw; (try dsimp only at hSw); go_simp; try (with_reducible rfl))
      (try simp only [Act.put, List.getElem_toArray, List.getElem_cons_succ, List.getElem_cons_zero, List.setIfInBounds_toArray, List.set_cons_zero, List.set_cons_succ])
      refine wpAnyD_take (i := 7) (v := ?_) rfl (by kernel_rfl) (by kernel_rfl) (by kernel_rfl) (by kernel_rfl) (fun _ _ _ h => h) (Or.inl ⟨by rfl, ?hyb7⟩) hHeld ?_
      case hyb7 => (intro w hSw; (try dsimp only at hSw); go_simp; try (with_reducible rfl))
      (try simp only [Act.put, List.getElem_toArray, List.getElem_cons_succ, List.getElem_cons_zero, List.setIfInBounds_toArray, List.set_cons_zero, List.set_cons_succ])
      refine wpAnyD_take (i := 8) (v := ?_) rfl (by kernel_rfl) (by kernel_rfl) (by kernel_rfl) (by kernel_rfl) (fun _ _ _ h => h) (Or.inl ⟨by rfl, ?hyb8⟩) hHeld ?_
      case hyb8 => (intro w hSw; (try dsimp only at hSw); go_simp; try (with_reducible rfl))
      (try simp only [Act.put, List.getElem_toArray, List.getElem_cons_succ, List.getElem_cons_zero, List.setIfInBounds_toArray, List.set_cons_zero, List.set_cons_succ])
      refine wpAnyD_step (i := 9) (by kernel_rfl) rfl (fun K hK9 => ?_)
      go_simp
      go_wp2_with fail
      refine HPc.out.mono ?_
      rintro e w5 ⟨v5, rfl, bn5, pp5⟩
      have pp6 := HPi.out.trans (((Kept.refl wr).drew.pp _).trans pp5)
      have s5 : w5.cell? ⟨M, 3, none⟩ = some (.slice (some ⟨b, off, none⟩) N cp) ∧ w5.cell? ⟨b, off + i, none⟩ = some (.int .i64 bi) ∧ w5.cell? ⟨M, 2, none⟩ = some (.int .i64 n) := ⟨(HBk.out _ _ pp6).2.2.2, (World.cell?_of_block (pp5.kx.block b (World.block_lt_of_cell? _ _ e0) (HNb.out wr _ HPi.out b HII.out.2))).trans e0, (HBk.out _ _ pp6).2.2.1⟩
      refine hK9.out _ _ s5 (fun hHeld2 => ?_)
      clear hK9 K pp6
      (try simp only [Act.put, List.getElem_toArray, List.getElem_cons_succ, List.getElem_cons_zero, List.setIfInBounds_toArray, List.set_cons_zero, List.set_cons_succ])
      refine wpAnyD_late (i := 10) (by kernel_rfl) rfl rfl (fun K hK9 => ?_)
      go_simp
      refine hK9.out _ _ ?_
      clear hK9 K
      (try simp only [Act.put, List.getElem_toArray, List.getElem_cons_succ, List.getElem_cons_zero, List.setIfInBounds_toArray, List.set_cons_zero, List.set_cons_succ])
      refine wpAnyD_done (by kernel_rfl) ?_ _
      (try simp only [Act.put, List.getElem_toArray, List.getElem_cons_succ, List.getElem_cons_zero, List.setIfInBounds_toArray, List.set_cons_zero, List.set_cons_succ])
      have HB6 := hid (show BN 0 w5 v5 (V3 ++ wbits kk (L.take (i + 1))) by rw [HStp.out, ← List.append_assoc]; exact bn5)
      have HP6 := hid (HPi.out.trans (((Kept.refl wr).drew.pp _).trans pp5))
      clear bn5 pp5 s5 hHeld hHeld2 c0 c1 c2 c3 e0
      go_wp2_with fail
      go_roundw
      case rel => exact ⟨i + 1, v5, rfl, by omega, by go_num, HB6.out, HP6.out⟩
      case measure => simp [intOf]; omega
    · obtain rfl : i = N := by omega
      have hfin : V3 ++ wbits kk (L.take i) = V ++ wm ⟨r, c, n, L⟩ := by
        rw [List.take_of_length_le (by rw [HN.out]; exact Nat.le_refl _), ← HV3e.out]
        show _ = V ++ (le 1 n ++ le 2 r ++ le 2 c ++ wbits (Int.tdiv n 8).toNat L)
        rw [HQ2.out]
        simp only [List.append_assoc]
      have HFin := hid hfin
      clear hfin hb hp
      go_wp2_with fail
      go_ret
      exact ⟨_, rfl, by rw [← HFin.out]; exact HBi.out, (HK0.out.pp _).trans HPi.out⟩

set_option maxHeartbeats 2000000 in
set_option maxRecDepth 100000 in
theorem rsum_any (v : Value) (B : List Int) (hB : Byt B) (hlen : B.length ≤ 100000000) (w : World) (hS : ∃ ao cap, v = .slice ao B.length cap ∧ (B ≠ [] → ∃ b off, ao = some ⟨b, off, none⟩ ∧ b < w.heap.size ∧ BR w b off B)) :
    Calls Try.prog 23 #[v] w fun e w' => e = .returned (.int .i64 (sumB B)) ∧ Kept w w' := by
  obtain ⟨ao, cap, rfl, hS⟩ := hS
  obtain ⟨f, hf⟩ : ∃ f : Nat → Int, ∀ i, sz 0 (B.take i) % 4294967296 = f i := ⟨_, fun _ => rfl⟩
  obtain ⟨h, hh⟩ : ∃ h : Nat → Int, ∀ i, B.getD i 0 = h i := ⟨_, fun _ => rfl⟩
  have h0 : f 0 = 0 := by rw [← hf]; rfl
  have hN : sumB B = f B.length := by rw [← hf, List.take_length]; rfl
  have HS : Hid (∀ i, i < B.length → ∃ b off, ao = some ⟨b, off, none⟩ ∧ ∀ u, Kept w u → u.cell? ⟨b, off + i, none⟩ = some (.int .u8 (h i))) := fun i hi => by
    obtain ⟨b, off, e, hb, hr⟩ := hS (by intro hx; subst hx; simp at hi)
    exact ⟨b, off, e, fun u k => by rw [← hh]; exact (k.below.cell (p := ⟨b, off + i, none⟩) hb).trans (hr i hi)⟩
  have HH : Hid (∀ i, 0 ≤ h i ∧ h i < 256) := fun i => by rw [← hh]; exact hB.at i
  have HF : Hid (∀ i, i < B.length → (f i + h i * ((i : Int) + 1)) % 4294967296 = f (i + 1)) := fun i hi => by
    rw [← hf (i + 1), sz_step B i hi, ← hf i, hh, Int.mul_comm]
    generalize ((i : Int) + 1) * h i = x
    omega
  have HG : Hid (∀ i, 0 ≤ f i ∧ f i < 4294967296) := fun i => by rw [← hf]; omega
  rw [hN]
  obtain ⟨m, hm⟩ : ∃ m, B.length = m := ⟨_, rfl⟩
  rw [hm] at HS HF hlen ⊢
  clear hS hf hh hm hN hB
  go_enter Try.func23, Try.ntmps23
  go_wp2_with fail
  go_loopw [3, 4] (fun sv iv wr => ∃ i : Nat, i ≤ m ∧ sv = .int .i64 (f i) ∧ iv = .int .i64 (i : Int) ∧ Kept w wr) (fun _ iv _ => m - (intOf iv).toNat)
  case atStart => exact ⟨0, Nat.zero_le _, by rw [h0], rfl, Kept.refl w⟩
  case round =>
    obtain ⟨i, hi, rfl, rfl, kr⟩ := hrel
    by_cases him : i < m
    · obtain ⟨b, off, rfl, hc⟩ := HS.out i him
      have c0 := hc wr kr
      have hbd : (0 : Int) ≤ (i : Int) ∧ (i : Int) < (m : Int) := by omega
      have hbd2 : (i : Int) < (m : Int) := by omega
      have z2 : IntKind.i64.wrap ((i : Int) + 1) = (i : Int) + 1 := by rw [wrap_i64]; omega
      have hF := hid (HF.out i him)
      have hh1 := HH.out i
      have hg1 := HG.out i
      generalize h i = y at *
      generalize hfi : f i = x at *
      have hm1 : 0 ≤ y * ((i : Int) + 1) ∧ y * ((i : Int) + 1) ≤ 256 * 100000001 := ⟨Int.mul_nonneg hh1.1 (by omega), by
        have h1 : y * ((i : Int) + 1) ≤ 256 * ((i : Int) + 1) := Int.mul_le_mul_of_nonneg_right (by omega) (by omega)
        have h2 : (256 : Int) * ((i : Int) + 1) ≤ 256 * 100000001 := Int.mul_le_mul_of_nonneg_left (by omega) (by omega)
        omega⟩
      have zy : IntKind.i64.wrap y = y := by rw [wrap_i64]; omega
      have z3 : IntKind.i64.wrap (y * ((i : Int) + 1)) = y * ((i : Int) + 1) := by rw [wrap_i64]; omega
      have z4 : IntKind.i64.wrap (x + y * ((i : Int) + 1)) = x + y * ((i : Int) + 1) := by rw [wrap_i64]; omega
      have z5 : Int.tmod (x + y * ((i : Int) + 1)) 4294967296 = f (i + 1) := by rw [Int.tmod_eq_emod_of_nonneg (by omega)]; exact hF.out
      clear hc HS HF hm1 hh1 hg1 hfi
      go_wp2_with fail
      go_roundw
      case rel => exact ⟨i + 1, by omega, rfl, by go_num, kr⟩
      case measure => simp [intOf]; omega
    · obtain rfl : i = m := by omega
      go_wp2_with fail
      go_ret
      exact ⟨rfl, kr⟩
end Go.Proofs.Ytphkdkenopkbbaa

namespace Go.Proofs.Ytphkdkenopkbbaa
open Go.ChangeShapes Go.WideShapes Go.ChangeAt Go.RowKit
set_option linter.unusedVariables false
set_option linter.unusedSimpArgs false

theorem wqs_room {Q : List (List Mat)} (i : Nat) (l : List Mat) (h : Q[i]? = some l) : (wqs (Q.take i)).length + 1 + (wls l).length ≤ (wqs Q).length := by
  have h1 := wqs_step i l h
  have h2 : wqs Q = wqs (Q.take (i + 1)) ++ wqs (Q.drop (i + 1)) := by rw [← wqs_app, List.take_append_drop]
  rw [h2, h1]
  simp only [List.length_append, le_len]
  omega
theorem enc_room (s : Sta) : (enc s).length = 52 + (wls s.P).length + (wqs s.Q).length := by
  unfold enc wbody
  simp only [List.length_append, le_len, wbits_len, mkL, List.length_cons, List.length_nil]
  omega
def RWr (H : Nat) (s : Sta) (e : Ending) (w' : World) : Prop := (Frm s ∧ ∃ v', e = .returned (.tuple #[v', .int .i64 0]) ∧ BN 0 w' v' (enc s) ∧ ∀ b, blk v' b → H ≤ b) ∨ (¬ Frm s ∧ e = .returned (.tuple #[.slice none 0 0, .int .i64 43]))

set_option maxHeartbeats 16000000 in
set_option maxRecDepth 100000 in
theorem rwrite_any (v : Value) (s : Sta) (hpn : s.P.length ≤ 9223372036854775807) (hqn : s.Q.length ≤ 9223372036854775807) (hln : ∀ l ∈ s.Q, l.length ≤ 9223372036854775807) (hbn : (∀ m ∈ s.P, m.L.length ≤ 9223372036854775806) ∧ ∀ l ∈ s.Q, ∀ m ∈ l, m.L.length ≤ 9223372036854775806) (hrg : SRg s) (hT : Frm s → (enc s).length ≤ 90000000) (w : World) (hS : StI w v s) :
    Calls Try.prog 17 #[v] w fun e w' => RWr w.heap.size s e w' ∧ Kept w w' := by
  have HCk := hid (show ∀ u, Kept w u → Calls Try.prog 34 #[v] u fun e w' => CkR (Frm s) e ∧ Kept u w' from fun u ku => rcheck_any v s hpn hqn hln hbn hrg u (hS.kept ku))
  obtain ⟨pv, qv, rfl, ⟨pa, pc, rfl, hpc, hpr⟩, ⟨qa, qc, rfl, hqc, hqr⟩⟩ := hS
  have HP : Hid (∀ (i : Nat) (m : Mat), s.P[i]? = some m → ∃ B off a cp, pa = some ⟨B, off, none⟩ ∧ ∀ u, Kept w u → MC u B (off + i * 4) a cp m) := fun i m hi => by
    obtain ⟨B, off, e, h⟩ := hpr (by intro e; rw [e] at hi; simp at hi)
    obtain ⟨a, cp, hm⟩ := h i m hi
    exact ⟨B, off, a, cp, e, fun u ku => hm.kept ku⟩
  have HQ : Hid (∀ (i : Nat) (l : List Mat), s.Q[i]? = some l → ∃ B off la lc, qa = some ⟨B, off, none⟩ ∧ l.length ≤ lc ∧ (∀ u, Kept w u → u.cell? ⟨B, off + i, none⟩ = some (.slice la l.length lc)) ∧ ∀ (k : Nat) (m : Mat), l[k]? = some m → ∃ B2 off2 a cp, la = some ⟨B2, off2, none⟩ ∧ ∀ u, Kept w u → MC u B2 (off2 + k * 4) a cp m) := fun i l hi => by
    obtain ⟨B, off, e, h⟩ := hqr (by intro e; rw [e] at hi; simp at hi)
    obtain ⟨lv, h1, la, lc, rfl, hlc, hr⟩ := h i l hi
    refine ⟨B, off, la, lc, e, hlc, fun u ku => (ku.below.cell (p := ⟨B, off + i, none⟩) (World.block_lt_of_cell? _ _ h1)).trans h1, fun k m hk => ?_⟩
    obtain ⟨B2, off2, e2, h2⟩ := hr (by intro e; rw [e] at hk; simp at hk)
    obtain ⟨a, cp, hm⟩ := h2 k m hk
    exact ⟨B2, off2, a, cp, e2, fun u ku => hm.kept ku⟩
  clear hpr hqr hln hbn hrg
  have HS := hid (show (enc s).length = 52 + (wls s.P).length + (wqs s.Q).length from enc_room s)
  have hEnc : (enc s = mkL ++ le 8 s.a ++ le 8 s.b ++ le 8 s.d ++ le 8 s.lo ++ le 8 s.ra ++ le 2 s.P.length ++ wls s.P ++ le 2 s.Q.length ++ wqs s.Q ++ le 4 (sumB (wbody s)) ∧ wbody s = mkL ++ le 8 s.a ++ le 8 s.b ++ le 8 s.d ++ le 8 s.lo ++ le 8 s.ra ++ le 2 s.P.length ++ wls s.P ++ le 2 s.Q.length ++ wqs s.Q) := by
    unfold enc wbody
    simp only [wbits, List.append_assoc, List.append_nil, and_self]
  have HEnc := hid hEnc
  clear hEnc
  have HBy := hid (byt_body s)
  obtain ⟨pl, hpl⟩ : ∃ pl, s.P.length = pl := ⟨_, rfl⟩
  obtain ⟨n, hn⟩ : ∃ n, s.Q.length = n := ⟨_, rfl⟩
  have HFq := hid (show Frm s → pl ≤ 64 ∧ n ≤ 64 ∧ Oks s.P ∧ Qks s.Q from fun h => ⟨by rw [← hpl]; exact h.pl, by rw [← hn]; exact h.ql, h.p, h.q⟩)
  rw [hpl] at hpn hpc HCk HEnc ⊢
  rw [hn] at hqn hqc HCk HEnc ⊢
  have HPl := hid hpl
  have HNn := hid hn
  have HB := hid (show pl ≤ 9223372036854775807 ∧ n ≤ 9223372036854775807 ∧ pl ≤ pc ∧ n ≤ qc from ⟨hpn, hqn, hpc, hqc⟩)
  have HT := hid hT
  clear hpl hn hpn hqn hpc hqc hT
  generalize hsa : s.a = sa at *
  generalize hsb : s.b = sb at *
  generalize hsd : s.d = sd at *
  generalize hlo : s.lo = lo at *
  generalize hra : s.ra = ra at *
  clear hsa hsb hsd hlo hra
  have HPut := hid (show ∀ (v : Value) (L : List Int) (n : Int) (k : Nat) (w : World), k ≤ 8 → L.length < 99990000 → BN 0 w v L → Calls Try.prog 35 #[v, .int .i64 n, .int .i64 (k : Int)] w fun e w' => ∃ v', e = .returned v' ∧ BN 0 w' v' (L ++ le k n) ∧ PP w w' v v' from fun v L n k w hk hl hb => put_any v L n k hk hl w hb)
  obtain ⟨M, hM⟩ : ∃ M, w.heap.size = M := ⟨_, rfl⟩
  obtain ⟨W0, hW0⟩ : ∃ W0, w.alloc (.cells #[.int .i64 sa, .int .i64 sb, .int .i64 sd, .slice pa pl pc, .slice qa n qc, .int .i64 lo, .int .i64 ra] 25) = W0 := ⟨_, rfl⟩
  have k0 : Kept w W0 := by rw [← hW0]; exact (Kept.refl w).alloc _ _
  have b0 : Bk W0 M [.int .i64 sa, .int .i64 sb, .int .i64 sd, .slice pa pl pc, .slice qa n qc, .int .i64 lo, .int .i64 ra] := by rw [← hW0, ← hM]; exact Bk.new w _ _
  have HK0 := hid k0
  have HM := hid hM
  have hs0 := hid (show W0.heap.size = M + 1 by rw [← hW0, World.size_alloc, hM])
  have HBk0 := hid b0
  obtain ⟨x0, x1, x2, x3, x4, x5, x6⟩ : _ ∧ _ ∧ _ ∧ _ ∧ _ ∧ _ ∧ _ := ⟨b0.c 0 _ rfl, b0.c 1 _ rfl, b0.c 2 _ rfl, b0.c 3 _ rfl, b0.c 4 _ rfl, b0.c 5 _ rfl, b0.c 6 _ rfl⟩
  clear k0 b0
  go_enter Try.func17, Try.ntmps17
  go_wp2_with fail
  go_at_call 34
  refine (HCk.out W0 HK0.out).mono ?_
  rintro e w1 ⟨hck, k1⟩
  have K1 := hid k1
  have KW1 := hid (HK0.out.trans k1)
  clear x0 x1 x2 x3 x4 x5 x6 hM hW0 k1
  rcases (show _ ∨ _ from hck).symm with ⟨hF, rfl⟩ | ⟨hF, rfl⟩
  · have HNo := hid hF
    clear hF hck
    go_wp2_with fail
    refine bodyPost_ret (v := .tuple #[.slice none 0 0, .int .i64 43]) (by simp [results, Try.results17, go_sem]) rfl ?_
    exact ⟨.inr ⟨HNo.out, rfl⟩, KW1.out⟩
  have HFr := hid hF
  obtain ⟨f1, f2, f3, f4⟩ := HFq.out hF
  have HF64 := hid (show pl ≤ 64 ∧ n ≤ 64 from ⟨f1, f2⟩)
  have HOP := hid f3
  have HOQ := hid f4
  have hlen := HT.out hF
  rw [HS.out] at hlen
  have HLen := hid hlen
  obtain ⟨G, hG⟩ : ∃ G, w1.heap.size = G := ⟨_, rfl⟩
  obtain ⟨W1, hW1⟩ : ∃ W1, w1.alloc (.cells #[.int .u8 112, .int .u8 115, .int .u8 116, .int .u8 1] 5) = W1 := ⟨_, rfl⟩
  have kw1 : Kept w1 W1 := by rw [← hW1]; exact (Kept.refl w1).alloc _ _
  have KW := hid (KW1.out.trans kw1)
  have hGM : M < G := by have := (HBk0.out.kept K1.out).lt; omega
  have HGM := hid hGM
  have bn0 : BN 0 W1 (.slice (some ⟨G, 0, none⟩) 4 4) mkL := by
    refine .inr ⟨G, 4, rfl, Nat.zero_le _, ?_⟩
    rw [← hW1, ← hG]
    exact ⟨_, heap_alloc_new w1 _, by decide, by decide, rfl, rfl⟩
  have BN0 := hid bn0
  have HBk : Hid (∀ u v', PP W1 u (.slice (some ⟨G, 0, none⟩) 4 4) v' → u.cell? ⟨M, 0, none⟩ = some (.int .i64 sa) ∧ u.cell? ⟨M, 1, none⟩ = some (.int .i64 sb) ∧ u.cell? ⟨M, 2, none⟩ = some (.int .i64 sd) ∧ u.cell? ⟨M, 3, none⟩ = some (.slice pa pl pc) ∧ u.cell? ⟨M, 4, none⟩ = some (.slice qa n qc) ∧ u.cell? ⟨M, 5, none⟩ = some (.int .i64 lo) ∧ u.cell? ⟨M, 6, none⟩ = some (.int .i64 ra)) := fun u v' p => by
    have b := ((HBk0.out.kept K1.out).kept kw1).kx p.kx (fun h => by have := blk_slice h; omega)
    exact ⟨b.c 0 _ rfl, b.c 1 _ rfl, b.c 2 _ rfl, b.c 3 _ rfl, b.c 4 _ rfl, b.c 5 _ rfl, b.c 6 _ rfl⟩
  have HKw : Hid (∀ u v', PP W1 u (.slice (some ⟨G, 0, none⟩) 4 4) v' → Kept w u) := fun u v' p => p.kept KW.out (fun b hb => by have := blk_slice hb; have := HM.out; omega)
  have HNb : Hid (∀ u v', PP W1 u (.slice (some ⟨G, 0, none⟩) 4 4) v' → ∀ b, blk v' b → w.heap.size ≤ b) := fun u v' p b hb => by
    rcases p.nb b hb with h | h
    · have := blk_slice h; have := HM.out; omega
    · have := KW.out.below.size; omega
  clear hck hF f1 f2 f3 f4 hlen kw1 hGM bn0
  obtain ⟨x0, x1, x2, x3, x4, x5, x6⟩ := HBk.out W1 _ (PP.refl _ _)
  go_wp2_with fail
  (try rw [hW1])
  clear hW1 hG
  refine wp_region_late [16] (fun u => u.cell? ⟨M, 0, none⟩ = some (.int .i64 sa) ∧ u.cell? ⟨M, 1, none⟩ = some (.int .i64 sb) ∧ u.cell? ⟨M, 2, none⟩ = some (.int .i64 sd) ∧ u.cell? ⟨M, 5, none⟩ = some (.int .i64 lo) ∧ u.cell? ⟨M, 6, none⟩ = some (.int .i64 ra)) (by kernel_rfl) (show W1.drew.cell? ⟨M, 0, none⟩ = some (.int .i64 sa) ∧ W1.drew.cell? ⟨M, 1, none⟩ = some (.int .i64 sb) ∧ W1.drew.cell? ⟨M, 2, none⟩ = some (.int .i64 sd) ∧ W1.drew.cell? ⟨M, 5, none⟩ = some (.int .i64 lo) ∧ W1.drew.cell? ⟨M, 6, none⟩ = some (.int .i64 ra) from ⟨x0, x1, x2, x5, x6⟩) (fun hHeld => ?_)
  refine wpAnyD_take (i := 0) (v := ?_) rfl (by kernel_rfl) (by kernel_rfl) (by kernel_rfl) (by kernel_rfl) (fun _ _ _ h => h) (Or.inl ⟨by rfl, ?hya0⟩) hHeld ?_
  case hya0 => (intro w hSw; (try dsimp only at hSw); go_simp; try (with_reducible rfl))
  (try simp only [Act.put, List.getElem_toArray, List.getElem_cons_succ, List.getElem_cons_zero, List.setIfInBounds_toArray, List.set_cons_zero, List.set_cons_succ])
  refine wpAnyD_take (i := 1) (v := ?_) rfl (by kernel_rfl) (by kernel_rfl) (by kernel_rfl) (by kernel_rfl) (fun _ _ _ h => h) (Or.inl ⟨by rfl, ?hya1⟩) hHeld ?_
  case hya1 => (intro w hSw; (try dsimp only at hSw); go_simp; try (with_reducible rfl))
  (try simp only [Act.put, List.getElem_toArray, List.getElem_cons_succ, List.getElem_cons_zero, List.setIfInBounds_toArray, List.set_cons_zero, List.set_cons_succ])
  refine wpAnyD_take (i := 2) (v := ?_) rfl (by kernel_rfl) (by kernel_rfl) (by kernel_rfl) (by kernel_rfl) (fun _ _ _ h => h) (Or.inl ⟨by rfl, ?hya2⟩) hHeld ?_
  case hya2 => (intro w hSw; (try dsimp only at hSw); go_simp; try (with_reducible rfl))
  (try simp only [Act.put, List.getElem_toArray, List.getElem_cons_succ, List.getElem_cons_zero, List.setIfInBounds_toArray, List.set_cons_zero, List.set_cons_succ])
  refine wpAnyD_take (i := 4) (v := ?_) rfl (by kernel_rfl) (by kernel_rfl) (by kernel_rfl) (by kernel_rfl) (fun _ _ _ h => h) (Or.inl ⟨by rfl, ?hya4⟩) hHeld ?_
  case hya4 => (intro w hSw; (try dsimp only at hSw); go_simp; try (with_reducible rfl))
  (try simp only [Act.put, List.getElem_toArray, List.getElem_cons_succ, List.getElem_cons_zero, List.setIfInBounds_toArray, List.set_cons_zero, List.set_cons_succ])
  refine wpAnyD_take (i := 5) (v := ?_) rfl (by kernel_rfl) (by kernel_rfl) (by kernel_rfl) (by kernel_rfl) (fun _ _ _ h => h) (Or.inl ⟨by rfl, ?hya5⟩) hHeld ?_
  case hya5 => (intro w hSw; (try dsimp only at hSw); go_simp; try (with_reducible rfl))
  (try simp only [Act.put, List.getElem_toArray, List.getElem_cons_succ, List.getElem_cons_zero, List.setIfInBounds_toArray, List.set_cons_zero, List.set_cons_succ])
  refine wpAnyD_take (i := 7) (v := ?_) rfl (by kernel_rfl) (by kernel_rfl) (by kernel_rfl) (by kernel_rfl) (fun _ _ _ h => h) (Or.inl ⟨by rfl, ?hya7⟩) hHeld ?_
  case hya7 => (intro w hSw; (try dsimp only at hSw); go_simp; try (with_reducible rfl))
  (try simp only [Act.put, List.getElem_toArray, List.getElem_cons_succ, List.getElem_cons_zero, List.setIfInBounds_toArray, List.set_cons_zero, List.set_cons_succ])
  refine wpAnyD_take (i := 8) (v := ?_) rfl (by kernel_rfl) (by kernel_rfl) (by kernel_rfl) (by kernel_rfl) (fun _ _ _ h => h) (Or.inl ⟨by rfl, ?hya8⟩) hHeld ?_
  case hya8 => (intro w hSw; (try dsimp only at hSw); go_simp; try (with_reducible rfl))
  (try simp only [Act.put, List.getElem_toArray, List.getElem_cons_succ, List.getElem_cons_zero, List.setIfInBounds_toArray, List.set_cons_zero, List.set_cons_succ])
  refine wpAnyD_take (i := 10) (v := ?_) rfl (by kernel_rfl) (by kernel_rfl) (by kernel_rfl) (by kernel_rfl) (fun _ _ _ h => h) (Or.inl ⟨by rfl, ?hya10⟩) hHeld ?_
  case hya10 => (intro w hSw; (try dsimp only at hSw); go_simp; try (with_reducible rfl))
  (try simp only [Act.put, List.getElem_toArray, List.getElem_cons_succ, List.getElem_cons_zero, List.setIfInBounds_toArray, List.set_cons_zero, List.set_cons_succ])
  refine wpAnyD_take (i := 11) (v := ?_) rfl (by kernel_rfl) (by kernel_rfl) (by kernel_rfl) (by kernel_rfl) (fun _ _ _ h => h) (Or.inl ⟨by rfl, ?hya11⟩) hHeld ?_
  case hya11 => (intro w hSw; (try dsimp only at hSw); go_simp; try (with_reducible rfl))
  (try simp only [Act.put, List.getElem_toArray, List.getElem_cons_succ, List.getElem_cons_zero, List.setIfInBounds_toArray, List.set_cons_zero, List.set_cons_succ])
  refine wpAnyD_take (i := 13) (v := ?_) rfl (by kernel_rfl) (by kernel_rfl) (by kernel_rfl) (by kernel_rfl) (fun _ _ _ h => h) (Or.inl ⟨by rfl, ?hya13⟩) hHeld ?_
  case hya13 => (intro w hSw; (try dsimp only at hSw); go_simp; try (with_reducible rfl))
  (try simp only [Act.put, List.getElem_toArray, List.getElem_cons_succ, List.getElem_cons_zero, List.setIfInBounds_toArray, List.set_cons_zero, List.set_cons_succ])
  refine wpAnyD_take (i := 14) (v := ?_) rfl (by kernel_rfl) (by kernel_rfl) (by kernel_rfl) (by kernel_rfl) (fun _ _ _ h => h) (Or.inl ⟨by rfl, ?hya14⟩) hHeld ?_
  case hya14 => (intro w hSw; (try dsimp only at hSw); go_simp; try (with_reducible rfl))
  (try simp only [Act.put, List.getElem_toArray, List.getElem_cons_succ, List.getElem_cons_zero, List.setIfInBounds_toArray, List.set_cons_zero, List.set_cons_succ])
  refine wpAnyD_step (i := 3) (by kernel_rfl) rfl (fun K hK9 => ?_)
  go_simp
  go_wp2_with fail
  refine (HPut.out _ mkL sa 8 W1.drew (by decide) (by decide) (BN0.out.kept (Kept.refl W1).drew)).mono ?_
  rintro e z1 ⟨v1, rfl, bn1, pq1⟩
  have pp1 : PP W1 z1 (.slice (some ⟨G, 0, none⟩) 4 4) v1 := ((Kept.refl W1).drew.pp _).trans pq1
  have s1 : z1.cell? ⟨M, 0, none⟩ = some (.int .i64 sa) ∧ z1.cell? ⟨M, 1, none⟩ = some (.int .i64 sb) ∧ z1.cell? ⟨M, 2, none⟩ = some (.int .i64 sd) ∧ z1.cell? ⟨M, 5, none⟩ = some (.int .i64 lo) ∧ z1.cell? ⟨M, 6, none⟩ = some (.int .i64 ra) := ⟨(HBk.out _ _ pp1).1, (HBk.out _ _ pp1).2.1, (HBk.out _ _ pp1).2.2.1, (HBk.out _ _ pp1).2.2.2.2.2.1, (HBk.out _ _ pp1).2.2.2.2.2.2⟩
  refine hK9.out _ _ s1 (fun hHeld2 => ?_)
  clear hK9 K
  (try simp only [Act.put, List.getElem_toArray, List.getElem_cons_succ, List.getElem_cons_zero, List.setIfInBounds_toArray, List.set_cons_zero, List.set_cons_succ])
  refine wpAnyD_step (i := 6) (by kernel_rfl) rfl (fun K hK9 => ?_)
  go_simp
  go_wp2_with fail
  refine (HPut.out v1 _ sb 8 z1 (by decide) (by simp [le_len, mkL]) bn1).mono ?_
  rintro e z2 ⟨v2, rfl, bn2, pq2⟩
  have pp2 : PP W1 z2 (.slice (some ⟨G, 0, none⟩) 4 4) v2 := pp1.trans pq2
  have s2 : z2.cell? ⟨M, 0, none⟩ = some (.int .i64 sa) ∧ z2.cell? ⟨M, 1, none⟩ = some (.int .i64 sb) ∧ z2.cell? ⟨M, 2, none⟩ = some (.int .i64 sd) ∧ z2.cell? ⟨M, 5, none⟩ = some (.int .i64 lo) ∧ z2.cell? ⟨M, 6, none⟩ = some (.int .i64 ra) := ⟨(HBk.out _ _ pp2).1, (HBk.out _ _ pp2).2.1, (HBk.out _ _ pp2).2.2.1, (HBk.out _ _ pp2).2.2.2.2.2.1, (HBk.out _ _ pp2).2.2.2.2.2.2⟩
  refine hK9.out _ _ s2 (fun hHeld3 => ?_)
  clear hK9 K
  (try simp only [Act.put, List.getElem_toArray, List.getElem_cons_succ, List.getElem_cons_zero, List.setIfInBounds_toArray, List.set_cons_zero, List.set_cons_succ])
  refine wpAnyD_step (i := 9) (by kernel_rfl) rfl (fun K hK9 => ?_)
  go_simp
  go_wp2_with fail
  refine (HPut.out v2 _ sd 8 z2 (by decide) (by simp [le_len, mkL]) bn2).mono ?_
  rintro e z3 ⟨v3, rfl, bn3, pq3⟩
  have pp3 : PP W1 z3 (.slice (some ⟨G, 0, none⟩) 4 4) v3 := pp2.trans pq3
  have s3 : z3.cell? ⟨M, 0, none⟩ = some (.int .i64 sa) ∧ z3.cell? ⟨M, 1, none⟩ = some (.int .i64 sb) ∧ z3.cell? ⟨M, 2, none⟩ = some (.int .i64 sd) ∧ z3.cell? ⟨M, 5, none⟩ = some (.int .i64 lo) ∧ z3.cell? ⟨M, 6, none⟩ = some (.int .i64 ra) := ⟨(HBk.out _ _ pp3).1, (HBk.out _ _ pp3).2.1, (HBk.out _ _ pp3).2.2.1, (HBk.out _ _ pp3).2.2.2.2.2.1, (HBk.out _ _ pp3).2.2.2.2.2.2⟩
  refine hK9.out _ _ s3 (fun hHeld4 => ?_)
  clear hK9 K
  (try simp only [Act.put, List.getElem_toArray, List.getElem_cons_succ, List.getElem_cons_zero, List.setIfInBounds_toArray, List.set_cons_zero, List.set_cons_succ])
  refine wpAnyD_step (i := 12) (by kernel_rfl) rfl (fun K hK9 => ?_)
  go_simp
  go_wp2_with fail
  refine (HPut.out v3 _ lo 8 z3 (by decide) (by simp [le_len, mkL]) bn3).mono ?_
  rintro e z4 ⟨v4, rfl, bn4, pq4⟩
  have pp4 : PP W1 z4 (.slice (some ⟨G, 0, none⟩) 4 4) v4 := pp3.trans pq4
  have s4 : z4.cell? ⟨M, 0, none⟩ = some (.int .i64 sa) ∧ z4.cell? ⟨M, 1, none⟩ = some (.int .i64 sb) ∧ z4.cell? ⟨M, 2, none⟩ = some (.int .i64 sd) ∧ z4.cell? ⟨M, 5, none⟩ = some (.int .i64 lo) ∧ z4.cell? ⟨M, 6, none⟩ = some (.int .i64 ra) := ⟨(HBk.out _ _ pp4).1, (HBk.out _ _ pp4).2.1, (HBk.out _ _ pp4).2.2.1, (HBk.out _ _ pp4).2.2.2.2.2.1, (HBk.out _ _ pp4).2.2.2.2.2.2⟩
  refine hK9.out _ _ s4 (fun hHeld5 => ?_)
  clear hK9 K
  (try simp only [Act.put, List.getElem_toArray, List.getElem_cons_succ, List.getElem_cons_zero, List.setIfInBounds_toArray, List.set_cons_zero, List.set_cons_succ])
  refine wpAnyD_step (i := 15) (by kernel_rfl) rfl (fun K hK9 => ?_)
  go_simp
  go_wp2_with fail
  refine (HPut.out v4 _ ra 8 z4 (by decide) (by simp [le_len, mkL]) bn4).mono ?_
  rintro e z5 ⟨v5, rfl, bn5, pq5⟩
  have pp5 : PP W1 z5 (.slice (some ⟨G, 0, none⟩) 4 4) v5 := pp4.trans pq5
  have s5 : z5.cell? ⟨M, 0, none⟩ = some (.int .i64 sa) ∧ z5.cell? ⟨M, 1, none⟩ = some (.int .i64 sb) ∧ z5.cell? ⟨M, 2, none⟩ = some (.int .i64 sd) ∧ z5.cell? ⟨M, 5, none⟩ = some (.int .i64 lo) ∧ z5.cell? ⟨M, 6, none⟩ = some (.int .i64 ra) := ⟨(HBk.out _ _ pp5).1, (HBk.out _ _ pp5).2.1, (HBk.out _ _ pp5).2.2.1, (HBk.out _ _ pp5).2.2.2.2.2.1, (HBk.out _ _ pp5).2.2.2.2.2.2⟩
  refine hK9.out _ _ s5 (fun hHeld6 => ?_)
  clear hK9 K
  (try simp only [Act.put, List.getElem_toArray, List.getElem_cons_succ, List.getElem_cons_zero, List.setIfInBounds_toArray, List.set_cons_zero, List.set_cons_succ])
  refine wpAnyD_late (i := 16) (by kernel_rfl) rfl rfl (fun K hK9 => ?_)
  go_simp
  refine hK9.out _ _ ?_
  clear hK9 K
  (try simp only [Act.put, List.getElem_toArray, List.getElem_cons_succ, List.getElem_cons_zero, List.setIfInBounds_toArray, List.set_cons_zero, List.set_cons_succ])
  refine wpAnyD_done (by kernel_rfl) ?_ _
  (try simp only [Act.put, List.getElem_toArray, List.getElem_cons_succ, List.getElem_cons_zero, List.setIfInBounds_toArray, List.set_cons_zero, List.set_cons_succ])
  have HP5 := hid pp5
  obtain ⟨V5, hV5⟩ : ∃ V5, mkL ++ le 8 sa ++ le 8 sb ++ le 8 sd ++ le 8 lo ++ le 8 ra = V5 := ⟨_, rfl⟩
  rw [hV5] at bn5
  have hV5l : V5.length = 44 := by rw [← hV5]; simp [le_len, mkL]
  have HB5 := hid bn5
  have HV5 := hid hV5
  have HV5l := hid hV5l
  have HPut6 := hid (HPut.out v5 V5 (pl : Int) 2 z5 (by decide) (by omega) bn5)
  obtain ⟨y0, y1, y2, x3, x4, y5, y6⟩ := HBk.out z5 _ pp5
  clear s1 s2 s3 s4 s5 bn1 bn2 bn3 bn4 bn5 pp1 pp2 pp3 pp4 pp5 pq1 pq2 pq3 pq4 pq5 hHeld hHeld2 hHeld3 hHeld4 hHeld5 hHeld6 x0 x1 x2 x5 x6 hV5l hV5 y0 y1 y2 y5 y6
  go_wp2_with fail
  go_at_call 35
  refine HPut6.out.mono ?_
  rintro e w6 ⟨v6, rfl, bn6, pq6⟩
  have pp6 := HP5.out.trans pq6
  have HP6 := hid pp6
  have HB6 := hid bn6
  clear x3 x4
  obtain ⟨y0, y1, y2, x3, x4, y5, y6⟩ := HBk.out w6 _ pp6
  clear y0 y1 y2 y5 y6 pp6 pq6 bn6 HPut6
  go_wp2_with fail
  go_loopw [5, 6] (fun lv iv wr => ∃ (i : Nat) (av : Value), lv = av ∧ i ≤ pl ∧ iv = .int .i64 (i : Int) ∧ BN 0 wr av (V5 ++ le 2 (pl : Int) ++ wls (s.P.take i)) ∧ PP W1 wr (.slice (some ⟨G, 0, none⟩) 4 4) av) (fun _ iv _ => pl - (intOf iv).toNat)
  case atStart => exact ⟨0, _, rfl, Nat.zero_le _, rfl, by rw [List.take_zero, show wls [] = [] from rfl, List.append_nil]; exact HB6.out, HP6.out⟩
  case round =>
    clear x3 x4
    obtain ⟨i, av, hlv, hi, rfl, hb, hp⟩ := hrel
    have h9 := hlv.symm
    subst h9
    clear hlv
    have HBi := hid hb
    have HPi := hid hp
    have HI := hid hi
    obtain ⟨y0, y1, y2, x3, x4, y5, y6⟩ := HBk.out _ _ hp
    clear y0 y1 y2 y5 y6 hb
    by_cases hin : i < pl
    · obtain ⟨m, hm⟩ : ∃ m, s.P[i]? = some m := ⟨_, List.getElem?_eq_getElem (by rw [HPl.out]; exact hin)⟩
      obtain ⟨B, off, a, cp, rfl, hc⟩ := HP.out i m hm
      have mc := hc _ (HKw.out _ _ hp)
      have hsl := (hc w (Kept.refl w)).sl
      have hro := wls_room i m hm
      have HStp := hid (wls_step i m hm)
      have HPm := hid (putm_any m.r m.c m.n m.L a cp (HOP.out i m hm) av _ w wr (HKw.out _ _ hp) hsl HBi.out (HNb.out _ _ hp) (by
        simp only [List.length_append, le_len]
        have := HLen.out; have := HV5l.out; omega))
      obtain ⟨c0, c1, c2, c3, -⟩ := mc
      have hb1 : (0 : Int) ≤ (i : Int) ∧ (i : Int) < (pl : Int) := by omega
      have hb2 : (i : Int) < (pl : Int) := by omega
      have z2 : IntKind.i64.wrap ((i : Int) + 1) = (i : Int) + 1 := by have := HF64.out; rw [wrap_i64]; omega
      have HII := hid hin
      obtain ⟨r, c, nn, L⟩ := m
      dsimp only at c0 c1 c2 c3 HPm
      obtain ⟨ll, hLl⟩ : ∃ ll, L.length = ll := ⟨_, rfl⟩
      rw [hLl] at c3 HPm
      clear hc hm HP HQ hin hi hsl hro hp
      go_wp2_with fail
      go_at_call 36
      refine HPm.out.mono ?_
      rintro e w7 ⟨v7, rfl, bn7, pp7⟩
      have HB7 := hid (show BN 0 w7 v7 (V5 ++ le 2 (pl : Int) ++ wls (s.P.take (i + 1))) by rw [HStp.out, ← List.append_assoc]; exact bn7)
      have HP7 := hid (HPi.out.trans pp7)
      clear bn7 pp7 x3 x4 c0 c1 c2 c3
      go_wp2_with fail
      go_roundw
      case rel => exact ⟨i + 1, _, rfl, by have := HII.out; omega, by go_num, HB7.out, HP7.out⟩
      case measure => have := HII.out; simp [intOf]; omega
    · obtain rfl : i = pl := by omega
      have htk : s.P.take i = s.P := List.take_of_length_le (by rw [HPl.out]; exact Nat.le_refl _)
      obtain ⟨V8, hV8⟩ : ∃ V8, V5 ++ le 2 (i : Int) ++ wls s.P = V8 := ⟨_, rfl⟩
      have hb8 := HBi.out
      rw [htk, hV8] at hb8
      have hV8l : V8.length = 46 + (wls s.P).length := by rw [← hV8]; simp only [List.length_append, le_len]; have := HV5l.out; omega
      have HPut8 := hid (HPut.out _ V8 (n : Int) 2 wr (by decide) (by have := HLen.out; omega) hb8)
      have HV8 := hid hV8
      have HV8l := hid hV8l
      clear hin hi HP htk hb8 hV8 hV8l hp HBi
      go_wp2_with fail
      go_at_call 35
      refine HPut8.out.mono ?_
      rintro e w8 ⟨v8, rfl, bn8, pq8⟩
      have pp8 := HPi.out.trans pq8
      have HP8 := hid pp8
      have HB8 := hid bn8
      clear x3 x4
      obtain ⟨y0, y1, y2, x3, x4, y5, y6⟩ := HBk.out w8 _ pp8
      clear y0 y1 y2 y5 y6 pp8 pq8 bn8 HPut8 HPi
      go_wp2_with fail
      go_loopw [5, 7] (fun lv iv wr => ∃ (j : Nat) (av : Value), lv = av ∧ j ≤ n ∧ iv = .int .i64 (j : Int) ∧ BN 0 wr av (V8 ++ le 2 (n : Int) ++ wqs (s.Q.take j)) ∧ PP W1 wr (.slice (some ⟨G, 0, none⟩) 4 4) av) (fun _ iv _ => n - (intOf iv).toNat)
      case atStart => exact ⟨0, _, rfl, Nat.zero_le _, rfl, by rw [List.take_zero, show wqs [] = [] from rfl, List.append_nil]; exact HB8.out, HP8.out⟩
      case round =>
        clear x3 x4
        obtain ⟨j, av, hlv, hj, rfl, hb, hp⟩ := hrel
        have h9 := hlv.symm
        subst h9
        clear hlv
        have HBj := hid hb
        have HPj := hid hp
        obtain ⟨y0, y1, y2, x3, x4, y5, y6⟩ := HBk.out _ _ hp
        clear y0 y1 y2 y5 y6 hb
        by_cases hjn : j < n
        · obtain ⟨l, hl⟩ : ∃ l, s.Q[j]? = some l := ⟨_, List.getElem?_eq_getElem (by rw [HNn.out]; exact hjn)⟩
          obtain ⟨B, off, la, lc, rfl, hlc, hc, hin3⟩ := HQ.out j l hl
          have c3 := hc _ (HKw.out _ _ hp)
          have hb1 : (0 : Int) ≤ (j : Int) ∧ (j : Int) < (n : Int) := by omega
          have hb2 : (j : Int) < (n : Int) := by omega
          have z2 : IntKind.i64.wrap ((j : Int) + 1) = (j : Int) + 1 := by have := HF64.out; rw [wrap_i64]; omega
          have HL4 := hid (HOQ.out j l hl).1
          have HOl := hid (HOQ.out j l hl).2
          have HStp := hid (wqs_step j l hl)
          have HRo := hid (wqs_room j l hl)
          obtain ⟨q, hq⟩ : ∃ q, l.length = q := ⟨_, rfl⟩
          rw [hq] at c3 HL4 hlc HStp
          have HL := hid hq
          have HL3 := hid hin3
          have HJ := hid hjn
          have HC3 := hid hc
          obtain ⟨V9, hV9⟩ : ∃ V9, V8 ++ le 2 (n : Int) ++ wqs (s.Q.take j) = V9 := ⟨_, rfl⟩
          have hb9 := HBj.out
          rw [hV9] at hb9
          have hV9l : V9.length + (wls l).length ≤ 90000000 := by rw [← hV9]; simp only [List.length_append, le_len]; have := HLen.out; have := HV8l.out; have := HRo.out; omega
          have HPut9 := hid (HPut.out _ V9 (q : Int) 1 wr (by decide) (by omega) hb9)
          have HV9 := hid hV9
          have HV9l := hid hV9l
          clear hc hl HQ hjn hj hq hin3 hlc hb9 hV9 hV9l hp HBj
          go_wp2_with fail
          go_at_call 35
          refine HPut9.out.mono ?_
          rintro e w9 ⟨v9, rfl, bn9, pq9⟩
          have pp9 := HPj.out.trans pq9
          have HP9 := hid pp9
          have HB9 := hid bn9
          clear x3 x4 c3
          obtain ⟨y0, y1, y2, x3, x4, y5, y6⟩ := HBk.out w9 _ pp9
          have c3 := HC3.out _ (HKw.out _ _ pp9)
          rw [HL.out] at c3
          clear y0 y1 y2 y5 y6 pp9 pq9 bn9 HPut9 HPj
          go_wp2_with fail
          go_loopw [5, 8] (fun lv iv wr => ∃ (k : Nat) (av : Value), lv = av ∧ k ≤ q ∧ iv = .int .i64 (k : Int) ∧ BN 0 wr av (V9 ++ le 1 (q : Int) ++ wls (l.take k)) ∧ PP W1 wr (.slice (some ⟨G, 0, none⟩) 4 4) av) (fun _ iv _ => q - (intOf iv).toNat)
          case atStart => exact ⟨0, _, rfl, Nat.zero_le _, rfl, by rw [List.take_zero, show wls [] = [] from rfl, List.append_nil]; exact HB9.out, HP9.out⟩
          case round =>
            clear x3 x4 c3
            obtain ⟨k, av, hlv, hk, rfl, hb, hp⟩ := hrel
            have h9 := hlv.symm
            subst h9
            clear hlv
            have HBk9 := hid hb
            have HPk := hid hp
            obtain ⟨y0, y1, y2, x3, x4, y5, y6⟩ := HBk.out _ _ hp
            have c3 := HC3.out _ (HKw.out _ _ hp)
            rw [HL.out] at c3
            clear y0 y1 y2 y5 y6 hb
            by_cases hkn : k < q
            · obtain ⟨m, hm⟩ : ∃ m, l[k]? = some m := ⟨_, List.getElem?_eq_getElem (by rw [HL.out]; exact hkn)⟩
              obtain ⟨B2, off2, a, cp, rfl, hc⟩ := HL3.out k m hm
              have mc := hc _ (HKw.out _ _ hp)
              have hsl := (hc w (Kept.refl w)).sl
              have hro := wls_room k m hm
              have HStp2 := hid (wls_step k m hm)
              have HPm := hid (putm_any m.r m.c m.n m.L a cp (HOl.out k m hm) av _ w _ (HKw.out _ _ hp) hsl HBk9.out (HNb.out _ _ hp) (by
                simp only [List.length_append, le_len]
                have := HV9l.out; omega))
              obtain ⟨e0, e1, e2, e3, -⟩ := mc
              have hb3 : (0 : Int) ≤ (k : Int) ∧ (k : Int) < (q : Int) := by omega
              have hb4 : (k : Int) < (q : Int) := by omega
              have z4 : IntKind.i64.wrap ((k : Int) + 1) = (k : Int) + 1 := by have := HL4.out; rw [wrap_i64]; omega
              have HII := hid hkn
              obtain ⟨r, c, nn, L⟩ := m
              dsimp only at e0 e1 e2 e3 HPm
              obtain ⟨ll, hLl⟩ : ∃ ll, L.length = ll := ⟨_, rfl⟩
              rw [hLl] at e3 HPm
              clear hc hm HL3 hkn hk hsl hro hp
              go_wp2_with fail
              go_at_call 36
              refine HPm.out.mono ?_
              rintro e w7 ⟨v7, rfl, bn7, pp7⟩
              have HB7 := hid (show BN 0 w7 v7 (V9 ++ le 1 (q : Int) ++ wls (l.take (k + 1))) by rw [HStp2.out, ← List.append_assoc]; exact bn7)
              have HP7 := hid (HPk.out.trans pp7)
              clear bn7 pp7 x3 x4 c3 e0 e1 e2 e3
              go_wp2_with fail
              go_roundw
              case rel => exact ⟨k + 1, _, rfl, by have := HII.out; omega, by go_num, HB7.out, HP7.out⟩
              case measure => have := HII.out; simp [intOf]; omega
            · obtain rfl : k = q := by omega
              have htk : l.take k = l := List.take_of_length_le (by rw [HL.out]; exact Nat.le_refl _)
              have HB10 := hid (show BN 0 _ av (V8 ++ le 2 (n : Int) ++ wqs (s.Q.take (j + 1))) by
                have h := HBk9.out
                rw [htk] at h
                rw [HStp.out, ← List.append_assoc, ← List.append_assoc, HV9.out]
                exact h)
              clear hkn hk htk hp
              go_wp2_with fail
              go_roundw
              case rel => exact ⟨j + 1, _, rfl, by have := HJ.out; omega, by go_num, HB10.out, HPk.out⟩
              case measure => have := HJ.out; simp [intOf]; omega
        · obtain rfl : j = n := by omega
          have htk : s.Q.take j = s.Q := List.take_of_length_le (by rw [HNn.out]; exact Nat.le_refl _)
          have hbw : BN 0 wr av (wbody s) := by
            have h := HBj.out
            rw [htk] at h
            rw [HEnc.out.2, HV5.out, HV8.out]
            exact h
          have hbl : (wbody s).length ≤ 90000000 := by
            have := HLen.out
            have h2 := enc_room s
            have h3 : (enc s).length = (wbody s).length + 4 := by unfold enc; rw [List.length_append, le_len]
            omega
          have HBw := hid hbw
          have HSm := hid (rsum_any av (wbody s) HBy.out (by omega) wr (by
            obtain ⟨ao, c, e, h1, h2⟩ := hbw.rd
            exact ⟨ao, c, e, h2⟩))
          have HPutF := hid (fun u (ku : Kept wr u) => HPut.out av (wbody s) (sumB (wbody s)) 4 u (by decide) (by omega) (hbw.kept ku))
          have HKf := hid (HKw.out _ _ hp)
          clear hjn hj HQ htk hbw hbl hp
          generalize sumB (wbody s) = sm at *
          go_wp2_with fail
          go_at_call 23
          refine HSm.out.mono ?_
          rintro e w10 ⟨rfl, k10⟩
          have K10 := hid k10
          clear k10 x3 x4
          go_wp2_with fail
          go_at_call 35
          refine (HPutF.out w10 K10.out).mono ?_
          rintro e w11 ⟨v11, rfl, bn11, pp11⟩
          have HB11 := hid bn11
          have HP11 := hid pp11
          clear bn11 pp11
          go_wp2_with fail
          refine bodyPost_ret (v := .tuple #[v11, .int .i64 0]) (by simp [results, Try.results17, go_sem]) rfl ?_
          refine ⟨.inl ⟨HFr.out, v11, rfl, ?_, HNb.out _ _ ((HPj.out.trans (K10.out.pp _)).trans HP11.out)⟩, HKw.out _ _ ((HPj.out.trans (K10.out.pp _)).trans HP11.out)⟩
          have h := HB11.out
          rw [HEnc.out.2] at h
          rw [HEnc.out.1]
          exact h
end Go.Proofs.Ytphkdkenopkbbaa
