/- The laws of chapter 23: two states that are one. -/
import Derived.Test.YtphkdkenopkbbaaVX
namespace Go.Proofs.Ytphkdkenopkbbaa
open Go.ChangeShapes Go.WideShapes Go.ChangeAt Go.RowKit
set_option linter.unusedVariables false
set_option linter.unusedSimpArgs false

set_option maxHeartbeats 4000000 in
set_option maxRecDepth 100000 in
theorem sameMatrix_true (r c n : Int) (L : List Int) (hlen : L.length ≤ 9223372036854775807) (a1 a2 : Option Addr) (p1 p2 : Nat) (w : World) (h1 : Sl w (.slice a1 L.length p1) L) (h2 : Sl w (.slice a2 L.length p2) L) :
    Calls Try.prog 56 #[.agg #[.int .i64 r, .int .i64 c, .int .i64 n, .slice a1 L.length p1], .agg #[.int .i64 r, .int .i64 c, .int .i64 n, .slice a2 L.length p2]] w fun e w' => e = .returned (.bool true) ∧ Kept w w' := by
  obtain ⟨f, hf⟩ : ∃ f : Nat → Int, ∀ i, L.getD i 0 = f i := ⟨_, fun _ => rfl⟩
  have HRd : Hid (∀ (a : Option Addr) (p : Nat), Sl w (.slice a L.length p) L → ∀ j, j < L.length → ∃ b off, a = some ⟨b, off, none⟩ ∧ ∀ u, Kept w u → u.cell? ⟨b, off + j, none⟩ = some (.int .i64 (f j))) := fun a p hs j hj => by
    obtain ⟨ao', cap', e, -, -, hr⟩ := hs
    cases e
    obtain ⟨b, off, e2, hb, hrd⟩ := hr (by intro e; rw [e] at hj; simp at hj)
    exact ⟨b, off, e2, fun u ku => by rw [← hf]; exact (ku.below.cell (p := ⟨b, off + j, none⟩) hb).trans (hrd j hj)⟩
  have HR1 := hid (HRd.out a1 p1 h1)
  have HR2 := hid (HRd.out a2 p2 h2)
  obtain ⟨N, hN⟩ : ∃ N, L.length = N := ⟨_, rfl⟩
  rw [hN] at HR1 HR2 hlen ⊢
  have HN := hid hlen
  clear h1 h2 hf hN hlen HRd
  obtain ⟨M, hM⟩ : ∃ M, w.heap.size = M := ⟨_, rfl⟩
  obtain ⟨W0, hW0⟩ : ∃ W0, (w.alloc (.cells #[.int .i64 r, .int .i64 c, .int .i64 n, .slice a1 N p1] 52)).alloc (.cells #[.int .i64 r, .int .i64 c, .int .i64 n, .slice a2 N p2] 52) = W0 := ⟨_, rfl⟩
  have k0 : Kept w W0 := by rw [← hW0]; exact ((Kept.refl w).alloc _ _).alloc _ _
  have b1 : Bk W0 M [.int .i64 r, .int .i64 c, .int .i64 n, .slice a1 N p1] := by rw [← hW0, ← hM]; exact (Bk.new w [.int .i64 r, .int .i64 c, .int .i64 n, .slice a1 N p1] 52).kept ((Kept.refl _).alloc _ _)
  have b2 : Bk W0 (M + 1) [.int .i64 r, .int .i64 c, .int .i64 n, .slice a2 N p2] := by
    have := Bk.new (w.alloc (.cells #[.int .i64 r, .int .i64 c, .int .i64 n, .slice a1 N p1] 52)) [.int .i64 r, .int .i64 c, .int .i64 n, .slice a2 N p2] 52
    rw [show (w.alloc (.cells #[.int .i64 r, .int .i64 c, .int .i64 n, .slice a1 N p1] 52)).heap.size = M + 1 by rw [← hM]; simp] at this
    rw [← hW0]
    exact this
  have HB1 := hid (show ∀ u, Kept W0 u → Bk u M [.int .i64 r, .int .i64 c, .int .i64 n, .slice a1 N p1] from fun u ku => b1.kept ku)
  have HB2 := hid (show ∀ u, Kept W0 u → Bk u (M + 1) [.int .i64 r, .int .i64 c, .int .i64 n, .slice a2 N p2] from fun u ku => b2.kept ku)
  have x0 := b1.c 0 _ rfl
  have x1 := b1.c 1 _ rfl
  have x2 := b1.c 2 _ rfl
  have x3 := b1.c 3 _ rfl
  have y0 := b2.c 0 _ rfl
  have y1 := b2.c 1 _ rfl
  have y2 := b2.c 2 _ rfl
  have y3 := b2.c 3 _ rfl
  have HK0 := hid k0
  clear k0 b1 b2
  go_enter Try.func56, Try.ntmps56
  go_wp2_with fail
  go_loopw [5] (fun jv wr => ∃ j : Nat, j ≤ N ∧ jv = .int .i64 (j : Int) ∧ Kept W0 wr) (fun jv _ => N - (intOf jv).toNat)
  case atStart => exact ⟨0, Nat.zero_le _, rfl, Kept.refl _⟩
  case round =>
    clear x0 x1 x2 x3 y0 y1 y2 y3 hW0 hM
    obtain ⟨j, hj, rfl, kr⟩ := hrel
    have x3 := (HB1.out wr kr).c 3 _ rfl
    have y3 := (HB2.out wr kr).c 3 _ rfl
    by_cases hjn : j < N
    · obtain ⟨b1, o1, rfl, hc1⟩ := HR1.out j hjn
      obtain ⟨b2, o2, rfl, hc2⟩ := HR2.out j hjn
      have c1 := hc1 wr (HK0.out.trans kr)
      have c2 := hc2 wr (HK0.out.trans kr)
      have hb1 : (0 : Int) ≤ (j : Int) ∧ (j : Int) < (N : Int) := by omega
      have hb2 : (j : Int) < (N : Int) := by omega
      have z3 : IntKind.i64.wrap ((j : Int) + 1) = (j : Int) + 1 := by have := HN.out; rw [wrap_i64]; omega
      have hkr := hid kr
      have hj2 := hid hjn
      clear hc1 hc2 kr hj hjn HR1 HR2
      generalize f j = fj at *
      go_wp2_with fail
      refine wp_region_held_drew (S := fun u => u.cell? ⟨M, 3, none⟩ = some (.slice (some ⟨b1, o1, none⟩) N p1) ∧ u.cell? ⟨M + 1, 3, none⟩ = some (.slice (some ⟨b2, o2, none⟩) N p2) ∧ u.cell? ⟨b1, o1 + j, none⟩ = some (.int .i64 fj) ∧ u.cell? ⟨b2, o2 + j, none⟩ = some (.int .i64 fj)) (by kernel_rfl) (⟨x3, y3, c1, c2⟩) (fun hHeld => ?_)
      refine wpAnyH_take (i := 0) (v := ?_) rfl (by kernel_rfl) (by kernel_rfl) (by kernel_rfl) (fun _ _ _ h => h) (Or.inl ⟨by rfl, ?hya0⟩) (by assumption) ?_
      case hya0 => (intro w hSw; (try dsimp only at hSw); go_simp; try (with_reducible rfl))
      simp only [Act.put, List.getElem_toArray, List.getElem_cons_succ, List.getElem_cons_zero, List.setIfInBounds_toArray, List.set_cons_zero, List.set_cons_succ]
      refine wpAnyH_take (i := 1) (v := ?_) rfl (by kernel_rfl) (by kernel_rfl) (by kernel_rfl) (fun _ _ _ h => h) (Or.inl ⟨by rfl, ?hya1⟩) (by assumption) ?_
      case hya1 => (intro w hSw; (try dsimp only at hSw); go_simp; try (with_reducible rfl))
      simp only [Act.put, List.getElem_toArray, List.getElem_cons_succ, List.getElem_cons_zero, List.setIfInBounds_toArray, List.set_cons_zero, List.set_cons_succ]
      refine wpAnyH_take (i := 2) (v := ?_) rfl (by kernel_rfl) (by kernel_rfl) (by kernel_rfl) (fun _ _ _ h => h) (Or.inl ⟨by rfl, ?hya2⟩) (by assumption) ?_
      case hya2 => (intro w hSw; (try dsimp only at hSw); go_simp; try (with_reducible rfl))
      simp only [Act.put, List.getElem_toArray, List.getElem_cons_succ, List.getElem_cons_zero, List.setIfInBounds_toArray, List.set_cons_zero, List.set_cons_succ]
      refine wpAnyH_take (i := 3) (v := ?_) rfl (by kernel_rfl) (by kernel_rfl) (by kernel_rfl) (fun _ _ _ h => h) (Or.inl ⟨by rfl, ?hya3⟩) (by assumption) ?_
      case hya3 => (intro w hSw; (try dsimp only at hSw); go_simp; try (with_reducible rfl))
      simp only [Act.put, List.getElem_toArray, List.getElem_cons_succ, List.getElem_cons_zero, List.setIfInBounds_toArray, List.set_cons_zero, List.set_cons_succ]
      refine wpAnyH_take (i := 4) (v := ?_) rfl (by kernel_rfl) (by kernel_rfl) (by kernel_rfl) (fun _ _ _ h => h) (Or.inl ⟨by rfl, ?hya4⟩) (by assumption) ?_
      case hya4 => (intro w hSw; (try dsimp only at hSw); go_simp; try (with_reducible rfl))
      simp only [Act.put, List.getElem_toArray, List.getElem_cons_succ, List.getElem_cons_zero, List.setIfInBounds_toArray, List.set_cons_zero, List.set_cons_succ]
      refine wpAnyH_take (i := 5) (v := ?_) rfl (by kernel_rfl) (by kernel_rfl) (by kernel_rfl) (fun _ _ _ h => h) (Or.inl ⟨by rfl, ?hya5⟩) (by assumption) ?_
      case hya5 => (intro w hSw; (try dsimp only at hSw); go_simp; try (with_reducible rfl))
      simp only [Act.put, List.getElem_toArray, List.getElem_cons_succ, List.getElem_cons_zero, List.setIfInBounds_toArray, List.set_cons_zero, List.set_cons_succ]
      refine wpAnyH_take (i := 6) (v := ?_) rfl (by kernel_rfl) (by kernel_rfl) (by kernel_rfl) (fun _ _ _ h => h) (Or.inl ⟨by rfl, ?hya6⟩) (by assumption) ?_
      case hya6 => (intro w hSw; (try dsimp only at hSw); go_simp; try (with_reducible rfl))
      simp only [Act.put, List.getElem_toArray, List.getElem_cons_succ, List.getElem_cons_zero, List.setIfInBounds_toArray, List.set_cons_zero, List.set_cons_succ]
      refine wpAnyH_take (i := 7) (v := ?_) rfl (by kernel_rfl) (by kernel_rfl) (by kernel_rfl) (fun _ _ _ h => h) (Or.inl ⟨by rfl, ?hya7⟩) (by assumption) ?_
      case hya7 => (intro w hSw; (try dsimp only at hSw); go_simp; try (with_reducible rfl))
      simp only [Act.put, List.getElem_toArray, List.getElem_cons_succ, List.getElem_cons_zero, List.setIfInBounds_toArray, List.set_cons_zero, List.set_cons_succ]
      refine wpAnyH_take (i := 8) (v := ?_) rfl (by kernel_rfl) (by kernel_rfl) (by kernel_rfl) (fun _ _ _ h => h) (Or.inl ⟨by rfl, ?hya8⟩) (by assumption) ?_
      case hya8 => (intro w hSw; (try dsimp only at hSw); go_simp; try (with_reducible rfl))
      simp only [Act.put, List.getElem_toArray, List.getElem_cons_succ, List.getElem_cons_zero, List.setIfInBounds_toArray, List.set_cons_zero, List.set_cons_succ]
      refine wpAnyH_take (i := 9) (v := ?_) rfl (by kernel_rfl) (by kernel_rfl) (by kernel_rfl) (fun _ _ _ h => h) (Or.inl ⟨by rfl, ?hya9⟩) (by assumption) ?_
      case hya9 => (intro w hSw; (try dsimp only at hSw); go_simp; try (with_reducible rfl))
      simp only [Act.put, List.getElem_toArray, List.getElem_cons_succ, List.getElem_cons_zero, List.setIfInBounds_toArray, List.set_cons_zero, List.set_cons_succ]
      refine wpAnyH_take (i := 10) (v := ?_) rfl (by kernel_rfl) (by kernel_rfl) (by kernel_rfl) (fun _ _ _ h => h) (Or.inl ⟨by rfl, ?hya10⟩) (by assumption) ?_
      case hya10 => (intro w hSw; (try dsimp only at hSw); go_simp; try (with_reducible rfl))
      simp only [Act.put, List.getElem_toArray, List.getElem_cons_succ, List.getElem_cons_zero, List.setIfInBounds_toArray, List.set_cons_zero, List.set_cons_succ]
      refine wpAnyH_done (by kernel_rfl) ?_ _
      go_wp2_with fail
      go_roundw
      case rel => exact ⟨j + 1, by have := hj2.out; omega, by go_num, hkr.out.drew⟩
      case measure => have := hj2.out; simp [intOf]; omega
    · obtain rfl : j = N := by omega
      have hge : ¬ ((j : Int) < (j : Int)) := by omega
      have hkr := hid kr
      clear kr
      go_wp2_with fail
      go_ret
      exact ⟨rfl, HK0.out.trans hkr.out⟩

set_option maxHeartbeats 4000000 in
set_option maxRecDepth 100000 in
theorem sameList_true (l : List Mat) (v1 v2 : Value) (hlen : l.length ≤ 9223372036854775807) (w : World) (h1 : MlI w v1 l) (h2 : MlI w v2 l) :
    Calls Try.prog 31 #[v1, v2] w fun e w' => e = .returned (.bool true) ∧ Kept w w' := by
  obtain ⟨a1, p1, rfl, hq1, hr1⟩ := h1
  obtain ⟨a2, p2, rfl, hq2, hr2⟩ := h2
  have HR : Hid (∀ (i : Nat) (m : Mat), l[i]? = some m → ∃ B1 o1 b1 c1 B2 o2 b2 c2, a1 = some ⟨B1, o1, none⟩ ∧ a2 = some ⟨B2, o2, none⟩ ∧ ∀ u, Kept w u → MC u B1 (o1 + i * 4) b1 c1 m ∧ MC u B2 (o2 + i * 4) b2 c2 m) := fun i m hi => by
    have hne : l ≠ [] := by intro e; rw [e] at hi; simp at hi
    obtain ⟨B1, o1, e1, h1⟩ := hr1 hne
    obtain ⟨B2, o2, e2, h2⟩ := hr2 hne
    obtain ⟨b1, c1, m1⟩ := h1 i m hi
    obtain ⟨b2, c2, m2⟩ := h2 i m hi
    exact ⟨B1, o1, b1, c1, B2, o2, b2, c2, e1, e2, fun u ku => ⟨m1.kept ku, m2.kept ku⟩⟩
  obtain ⟨N, hN⟩ : ∃ N, l.length = N := ⟨_, rfl⟩
  rw [hN] at hq1 hq2 hlen ⊢
  have HN := hid hN
  have HQ := hid (show N ≤ p1 ∧ N ≤ p2 ∧ N ≤ 9223372036854775807 from ⟨hq1, hq2, hlen⟩)
  clear hr1 hr2 hN hq1 hq2 hlen
  go_enter Try.func31, Try.ntmps31
  go_wp2_with fail
  go_loopw [5] (fun jv wr => ∃ j : Nat, j ≤ N ∧ jv = .int .i64 (j : Int) ∧ Kept w wr) (fun jv _ => N - (intOf jv).toNat)
  case atStart => exact ⟨0, Nat.zero_le _, rfl, Kept.refl _⟩
  case round =>
    obtain ⟨j, hj, rfl, kr⟩ := hrel
    by_cases hjn : j < N
    · obtain ⟨m, hm⟩ : ∃ m, l[j]? = some m := ⟨_, List.getElem?_eq_getElem (by rw [HN.out]; exact hjn)⟩
      obtain ⟨B1, o1, b1, c1, B2, o2, b2, c2, rfl, rfl, hmc⟩ := HR.out j m hm
      obtain ⟨⟨x0, x1, x2, x3, s1⟩, ⟨y0, y1, y2, y3, s2⟩⟩ := hmc wr kr
      have hb1 : (0 : Int) ≤ (j : Int) ∧ (j : Int) < (N : Int) := by omega
      have hb2 : (j : Int) < (N : Int) := by omega
      have z3 : IntKind.i64.wrap ((j : Int) + 1) = (j : Int) + 1 := by have := HQ.out; rw [wrap_i64]; omega
      obtain ⟨r, c, nn, L⟩ := m
      dsimp only at x0 x1 x2 x3 y0 y1 y2 y3 s1 s2
      have hLl : L.length ≤ 9223372036854775807 := by
        obtain ⟨_, _, e, h1, h2, -⟩ := s1
        cases e
        have : maxLen ≤ 9223372036854775807 := by simp [maxLen]
        omega
      have K := hid (sameMatrix_true r c nn L hLl b1 b2 c1 c2 wr.drew (s1.kept (Kept.refl wr).drew) (s2.kept (Kept.refl wr).drew))
      have hkr := hid kr
      have hj2 := hid hjn
      obtain ⟨q, hq⟩ : ∃ q, L.length = q := ⟨_, rfl⟩
      rw [hq] at x3 y3 K
      clear hmc kr hj hjn HR hm s1 s2 hLl hq
      go_wp2_with fail
      refine wp_region_held_drew (S := fun u => u.cell? ⟨B1, o1 + j * 4, none⟩ = some (.int .i64 r) ∧ u.cell? ⟨B1, o1 + j * 4 + 1, none⟩ = some (.int .i64 c) ∧ u.cell? ⟨B1, o1 + j * 4 + 2, none⟩ = some (.int .i64 nn) ∧ u.cell? ⟨B1, o1 + j * 4 + 3, none⟩ = some (.slice b1 q c1) ∧ u.cell? ⟨B2, o2 + j * 4, none⟩ = some (.int .i64 r) ∧ u.cell? ⟨B2, o2 + j * 4 + 1, none⟩ = some (.int .i64 c) ∧ u.cell? ⟨B2, o2 + j * 4 + 2, none⟩ = some (.int .i64 nn) ∧ u.cell? ⟨B2, o2 + j * 4 + 3, none⟩ = some (.slice b2 q c2)) (by kernel_rfl) (⟨x0, x1, x2, x3, y0, y1, y2, y3⟩) (fun hHeld => ?_)
      refine wpAnyH_take (i := 0) (v := ?_) rfl (by kernel_rfl) (by kernel_rfl) (by kernel_rfl) (fun _ _ _ h => h) (Or.inl ⟨by rfl, ?hya0⟩) (by assumption) ?_
      case hya0 => (intro w hSw; (try dsimp only at hSw); go_simp; try (with_reducible rfl))
      simp only [Act.put, List.getElem_toArray, List.getElem_cons_succ, List.getElem_cons_zero, List.setIfInBounds_toArray, List.set_cons_zero, List.set_cons_succ]
      refine wpAnyH_take (i := 1) (v := ?_) rfl (by kernel_rfl) (by kernel_rfl) (by kernel_rfl) (fun _ _ _ h => h) (Or.inl ⟨by rfl, ?hya1⟩) (by assumption) ?_
      case hya1 => (intro w hSw; (try dsimp only at hSw); go_simp; try (with_reducible rfl))
      simp only [Act.put, List.getElem_toArray, List.getElem_cons_succ, List.getElem_cons_zero, List.setIfInBounds_toArray, List.set_cons_zero, List.set_cons_succ]
      refine wpAnyH_take (i := 2) (v := ?_) rfl (by kernel_rfl) (by kernel_rfl) (by kernel_rfl) (fun _ _ _ h => h) (Or.inl ⟨by rfl, ?hya2⟩) (by assumption) ?_
      case hya2 => (intro w hSw; (try dsimp only at hSw); go_simp; try (with_reducible rfl))
      simp only [Act.put, List.getElem_toArray, List.getElem_cons_succ, List.getElem_cons_zero, List.setIfInBounds_toArray, List.set_cons_zero, List.set_cons_succ]
      refine wpAnyH_take (i := 3) (v := ?_) rfl (by kernel_rfl) (by kernel_rfl) (by kernel_rfl) (fun _ _ _ h => h) (Or.inl ⟨by rfl, ?hya3⟩) (by assumption) ?_
      case hya3 => (intro w hSw; (try dsimp only at hSw); go_simp; try (with_reducible rfl))
      simp only [Act.put, List.getElem_toArray, List.getElem_cons_succ, List.getElem_cons_zero, List.setIfInBounds_toArray, List.set_cons_zero, List.set_cons_succ]
      refine wpAnyH_take (i := 4) (v := ?_) rfl (by kernel_rfl) (by kernel_rfl) (by kernel_rfl) (fun _ _ _ h => h) (Or.inl ⟨by rfl, ?hya4⟩) (by assumption) ?_
      case hya4 => (intro w hSw; (try dsimp only at hSw); go_simp; try (with_reducible rfl))
      simp only [Act.put, List.getElem_toArray, List.getElem_cons_succ, List.getElem_cons_zero, List.setIfInBounds_toArray, List.set_cons_zero, List.set_cons_succ]
      refine wpAnyH_take (i := 5) (v := ?_) rfl (by kernel_rfl) (by kernel_rfl) (by kernel_rfl) (fun _ _ _ h => h) (Or.inl ⟨by rfl, ?hya5⟩) (by assumption) ?_
      case hya5 => (intro w hSw; (try dsimp only at hSw); go_simp; try (with_reducible rfl))
      simp only [Act.put, List.getElem_toArray, List.getElem_cons_succ, List.getElem_cons_zero, List.setIfInBounds_toArray, List.set_cons_zero, List.set_cons_succ]
      refine wpAnyH_take (i := 6) (v := ?_) rfl (by kernel_rfl) (by kernel_rfl) (by kernel_rfl) (fun _ _ _ h => h) (Or.inl ⟨by rfl, ?hya6⟩) (by assumption) ?_
      case hya6 => (intro w hSw; (try dsimp only at hSw); go_simp; try (with_reducible rfl))
      simp only [Act.put, List.getElem_toArray, List.getElem_cons_succ, List.getElem_cons_zero, List.setIfInBounds_toArray, List.set_cons_zero, List.set_cons_succ]
      refine wpAnyH_take (i := 7) (v := ?_) rfl (by kernel_rfl) (by kernel_rfl) (by kernel_rfl) (fun _ _ _ h => h) (Or.inl ⟨by rfl, ?hya7⟩) (by assumption) ?_
      case hya7 => (intro w hSw; (try dsimp only at hSw); go_simp; try (with_reducible rfl))
      simp only [Act.put, List.getElem_toArray, List.getElem_cons_succ, List.getElem_cons_zero, List.setIfInBounds_toArray, List.set_cons_zero, List.set_cons_succ]
      refine wpAnyH_ready (rs := [8]) (by kernel_rfl) (by simp) ?_
      refine AllReadyH.cons rfl (fun K9 hK9 => ?_) AllReadyH.nil
      go_simp
      go_wp2_with fail
      refine K.out.mono ?_
      rintro e u1 ⟨rfl, k1⟩
      have kk : Kept wr u1 := ((Kept.refl wr).drew).trans k1
      refine hK9.out _ _ ⟨(kk.below.cell (p := ⟨B1, o1 + j * 4, none⟩) (World.block_lt_of_cell? _ _ x0)).trans x0, (kk.below.cell (p := ⟨B1, o1 + j * 4 + 1, none⟩) (World.block_lt_of_cell? _ _ x1)).trans x1, (kk.below.cell (p := ⟨B1, o1 + j * 4 + 2, none⟩) (World.block_lt_of_cell? _ _ x2)).trans x2, (kk.below.cell (p := ⟨B1, o1 + j * 4 + 3, none⟩) (World.block_lt_of_cell? _ _ x3)).trans x3, (kk.below.cell (p := ⟨B2, o2 + j * 4, none⟩) (World.block_lt_of_cell? _ _ y0)).trans y0, (kk.below.cell (p := ⟨B2, o2 + j * 4 + 1, none⟩) (World.block_lt_of_cell? _ _ y1)).trans y1, (kk.below.cell (p := ⟨B2, o2 + j * 4 + 2, none⟩) (World.block_lt_of_cell? _ _ y2)).trans y2, (kk.below.cell (p := ⟨B2, o2 + j * 4 + 3, none⟩) (World.block_lt_of_cell? _ _ y3)).trans y3⟩ (fun hHeld1 => ?_)
      clear hK9 K9
      refine wpAnyH_take (i := 9) (v := ?_) rfl (by kernel_rfl) (by kernel_rfl) (by kernel_rfl) (fun _ _ _ h => h) (Or.inl ⟨by rfl, ?hyb9⟩) (by assumption) ?_
      case hyb9 => (intro w hSw; (try dsimp only at hSw); go_simp; try (with_reducible rfl))
      simp only [Act.put, List.getElem_toArray, List.getElem_cons_succ, List.getElem_cons_zero, List.setIfInBounds_toArray, List.set_cons_zero, List.set_cons_succ]
      refine wpAnyH_done (by kernel_rfl) ?_ _
      have kk2 := hid kk
      clear hHeld hHeld1 kk k1 x0 x1 x2 x3 y0 y1 y2 y3
      go_wp2_with fail
      go_roundw
      case rel => exact ⟨j + 1, by have := hj2.out; omega, by go_num, hkr.out.trans kk2.out⟩
      case measure => have := hj2.out; simp [intOf]; omega
    · obtain rfl : j = N := by omega
      have hge : ¬ ((j : Int) < (j : Int)) := by omega
      go_wp2_with fail
      go_ret
      exact ⟨rfl, kr⟩
end Go.Proofs.Ytphkdkenopkbbaa
