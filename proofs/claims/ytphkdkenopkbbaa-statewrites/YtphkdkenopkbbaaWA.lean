/- The laws of chapter 23: same; within; bulk. -/
import Derived.Test.YtphkdkenopkbbaaVY
import Derived.Test.YtphkdkenopkbbaaVZ
namespace Go.Proofs.Ytphkdkenopkbbaa
open Go.ChangeShapes Go.WideShapes Go.ChangeAt Go.RowKit
set_option linter.unusedVariables false
set_option linter.unusedSimpArgs false

theorem MlI.len {w : World} {v : Value} {l : List Mat} (h : MlI w v l) : ∃ ao c, v = .slice ao l.length c := by
  obtain ⟨ao, c, e, -⟩ := h
  exact ⟨ao, c, e⟩
set_option maxHeartbeats 8000000 in
set_option maxRecDepth 100000 in
theorem same_true (s : Sta) (v1 v2 : Value) (hpn : s.P.length ≤ 9223372036854775807) (hqn : s.Q.length ≤ 9223372036854775807) (hln : ∀ l ∈ s.Q, l.length ≤ 9223372036854775807) (w : World) (h1 : StI w v1 s) (h2 : StI w v2 s) :
    Calls Try.prog 14 #[v1, v2] w fun e w' => e = .returned (.bool true) ∧ Kept w w' := by
  obtain ⟨pv1, qv1, rfl, hP1, hQ1⟩ := h1
  obtain ⟨pv2, qv2, rfl, hP2, hQ2⟩ := h2
  have HP : Hid (∀ u, Kept w u → Calls Try.prog 31 #[pv1, pv2] u fun e w' => e = .returned (.bool true) ∧ Kept u w') := fun u ku => sameList_true s.P pv1 pv2 hpn u (hP1.kept ku) (hP2.kept ku)
  obtain ⟨pa1, pc1, rfl⟩ := hP1.len
  obtain ⟨pa2, pc2, rfl⟩ := hP2.len
  obtain ⟨a1, p1, rfl, hq1, hr1⟩ := hQ1
  obtain ⟨a2, p2, rfl, hq2, hr2⟩ := hQ2
  have HR : Hid (∀ (i : Nat) (l : List Mat), s.Q[i]? = some l → ∃ B1 o1 b1 c1 B2 o2 b2 c2, a1 = some ⟨B1, o1, none⟩ ∧ a2 = some ⟨B2, o2, none⟩ ∧ ∀ u, Kept w u → u.cell? ⟨B1, o1 + i, none⟩ = some (.slice b1 l.length c1) ∧ u.cell? ⟨B2, o2 + i, none⟩ = some (.slice b2 l.length c2) ∧ Calls Try.prog 31 #[.slice b1 l.length c1, .slice b2 l.length c2] u fun e w' => e = .returned (.bool true) ∧ Kept u w') := fun i l hi => by
    have hne : s.Q ≠ [] := by intro e; rw [e] at hi; simp at hi
    obtain ⟨B1, o1, e1, h1⟩ := hr1 hne
    obtain ⟨B2, o2, e2, h2⟩ := hr2 hne
    obtain ⟨lv1, g1, m1⟩ := h1 i l hi
    obtain ⟨lv2, g2, m2⟩ := h2 i l hi
    have hs := fun u (ku : Kept w u) => sameList_true l lv1 lv2 (hln l (List.mem_of_getElem? hi)) u (m1.kept ku) (m2.kept ku)
    obtain ⟨b1, c1, rfl⟩ := m1.len
    obtain ⟨b2, c2, rfl⟩ := m2.len
    exact ⟨B1, o1, b1, c1, B2, o2, b2, c2, e1, e2, fun u ku => ⟨(ku.below.cell (p := ⟨B1, o1 + i, none⟩) (World.block_lt_of_cell? _ _ g1)).trans g1, (ku.below.cell (p := ⟨B2, o2 + i, none⟩) (World.block_lt_of_cell? _ _ g2)).trans g2, hs u ku⟩⟩
  clear hP1 hP2 hr1 hr2 hln hpn
  obtain ⟨N, hN⟩ : ∃ N, s.Q.length = N := ⟨_, rfl⟩
  rw [hN] at hq1 hq2 hqn ⊢
  have HN := hid hN
  have HQ := hid (show N ≤ p1 ∧ N ≤ p2 ∧ N ≤ 9223372036854775807 from ⟨hq1, hq2, hqn⟩)
  obtain ⟨sa, sb, sd, P, Q, lo, ra⟩ := s
  dsimp only at *
  clear hN hq1 hq2 hqn
  obtain ⟨pl, hpl⟩ : ∃ pl, P.length = pl := ⟨_, rfl⟩
  rw [hpl] at HP ⊢
  clear hpl
  obtain ⟨M, hM⟩ : ∃ M, w.heap.size = M := ⟨_, rfl⟩
  obtain ⟨W0, hW0⟩ : ∃ W0, (w.alloc (.cells #[.int .i64 sa, .int .i64 sb, .int .i64 sd, .slice pa1 pl pc1, .slice a1 N p1, .int .i64 lo, .int .i64 ra] 25)).alloc (.cells #[.int .i64 sa, .int .i64 sb, .int .i64 sd, .slice pa2 pl pc2, .slice a2 N p2, .int .i64 lo, .int .i64 ra] 25) = W0 := ⟨_, rfl⟩
  have k0 : Kept w W0 := by rw [← hW0]; exact ((Kept.refl w).alloc _ _).alloc _ _
  have b1 : Bk W0 M [.int .i64 sa, .int .i64 sb, .int .i64 sd, .slice pa1 pl pc1, .slice a1 N p1, .int .i64 lo, .int .i64 ra] := by rw [← hW0, ← hM]; exact (Bk.new w [.int .i64 sa, .int .i64 sb, .int .i64 sd, .slice pa1 pl pc1, .slice a1 N p1, .int .i64 lo, .int .i64 ra] 25).kept ((Kept.refl _).alloc _ _)
  have b2 : Bk W0 (M + 1) [.int .i64 sa, .int .i64 sb, .int .i64 sd, .slice pa2 pl pc2, .slice a2 N p2, .int .i64 lo, .int .i64 ra] := by
    have := Bk.new (w.alloc (.cells #[.int .i64 sa, .int .i64 sb, .int .i64 sd, .slice pa1 pl pc1, .slice a1 N p1, .int .i64 lo, .int .i64 ra] 25)) [.int .i64 sa, .int .i64 sb, .int .i64 sd, .slice pa2 pl pc2, .slice a2 N p2, .int .i64 lo, .int .i64 ra] 25
    rw [show (w.alloc (.cells #[.int .i64 sa, .int .i64 sb, .int .i64 sd, .slice pa1 pl pc1, .slice a1 N p1, .int .i64 lo, .int .i64 ra] 25)).heap.size = M + 1 by rw [← hM]; simp] at this
    rw [← hW0]
    exact this
  have HB1 := hid (show ∀ u, Kept W0 u → Bk u M [.int .i64 sa, .int .i64 sb, .int .i64 sd, .slice pa1 pl pc1, .slice a1 N p1, .int .i64 lo, .int .i64 ra] from fun u ku => b1.kept ku)
  have HB2 := hid (show ∀ u, Kept W0 u → Bk u (M + 1) [.int .i64 sa, .int .i64 sb, .int .i64 sd, .slice pa2 pl pc2, .slice a2 N p2, .int .i64 lo, .int .i64 ra] from fun u ku => b2.kept ku)
  have x0 := b1.c 0 _ rfl
  have y0 := b2.c 0 _ rfl
  have x1 := b1.c 1 _ rfl
  have y1 := b2.c 1 _ rfl
  have x2 := b1.c 2 _ rfl
  have y2 := b2.c 2 _ rfl
  have x3 := b1.c 3 _ rfl
  have y3 := b2.c 3 _ rfl
  have x4 := b1.c 4 _ rfl
  have y4 := b2.c 4 _ rfl
  have x5 := b1.c 5 _ rfl
  have y5 := b2.c 5 _ rfl
  have x6 := b1.c 6 _ rfl
  have y6 := b2.c 6 _ rfl
  have HK0 := hid k0
  have HP0 := hid (HP.out W0 k0)
  clear k0 b1 b2 HP
  go_enter Try.func14, Try.ntmps14
  go_wp2_with fail
  go_at_call 31
  refine HP0.out.mono ?_
  rintro e w1 ⟨rfl, k1⟩
  clear x0 x1 x2 x3 x4 x5 x6 y0 y1 y2 y3 y4 y5 y6 hW0 hM HP0
  have x4 := (HB1.out w1 k1).c 4 _ rfl
  have y4 := (HB2.out w1 k1).c 4 _ rfl
  have K1 := hid k1
  clear k1
  go_wp2_with fail
  go_loopw [5] (fun jv wr => ∃ j : Nat, j ≤ N ∧ jv = .int .i64 (j : Int) ∧ Kept W0 wr) (fun jv _ => N - (intOf jv).toNat)
  case atStart => exact ⟨0, Nat.zero_le _, rfl, K1.out⟩
  case round =>
    clear x4 y4
    obtain ⟨j, hj, rfl, kr⟩ := hrel
    have x4 := (HB1.out wr kr).c 4 _ rfl
    have y4 := (HB2.out wr kr).c 4 _ rfl
    by_cases hjn : j < N
    · obtain ⟨l, hl⟩ : ∃ l, Q[j]? = some l := ⟨_, List.getElem?_eq_getElem (by rw [HN.out]; exact hjn)⟩
      obtain ⟨B1, o1, b1, c1, B2, o2, b2, c2, rfl, rfl, hmc⟩ := HR.out j l hl
      obtain ⟨g1, g2, -⟩ := hmc wr (HK0.out.trans kr)
      have K := hid (hmc wr.drew (HK0.out.trans (kr.trans (Kept.refl wr).drew))).2.2
      have hb1 : (0 : Int) ≤ (j : Int) ∧ (j : Int) < (N : Int) := by omega
      have hb2 : (j : Int) < (N : Int) := by omega
      have z3 : IntKind.i64.wrap ((j : Int) + 1) = (j : Int) + 1 := by have := HQ.out; rw [wrap_i64]; omega
      have hkr := hid kr
      have hj2 := hid hjn
      obtain ⟨q, hq⟩ : ∃ q, l.length = q := ⟨_, rfl⟩
      rw [hq] at g1 g2 K
      clear hmc kr hj hjn HR hl hq
      go_wp2_with fail
      refine wp_region_held_drew (S := fun u => u.cell? ⟨M, 4, none⟩ = some (.slice (some ⟨B1, o1, none⟩) N p1) ∧ u.cell? ⟨M + 1, 4, none⟩ = some (.slice (some ⟨B2, o2, none⟩) N p2) ∧ u.cell? ⟨B1, o1 + j, none⟩ = some (.slice b1 q c1) ∧ u.cell? ⟨B2, o2 + j, none⟩ = some (.slice b2 q c2)) (by kernel_rfl) (⟨x4, y4, g1, g2⟩) (fun hHeld => ?_)
      refine wpAnyH_take (i := 0) (v := ?_) rfl (by kernel_rfl) (by kernel_rfl) (by kernel_rfl) (fun _ _ _ h => h) (Or.inl ⟨by rfl, ?hya0⟩) (by assumption) ?_
      case hya0 => (intro w hSw; (try dsimp only at hSw); go_simp; try (with_reducible rfl))
      simp only [Act.put, List.getElem_toArray, List.getElem_cons_succ, List.getElem_cons_zero, List.setIfInBounds_toArray, List.set_cons_zero, List.set_cons_succ]
      refine wpAnyH_take (i := 1) (v := ?_) rfl (by kernel_rfl) (by kernel_rfl) (by kernel_rfl) (fun _ _ _ h => h) (Or.inl ⟨by rfl, ?hya1⟩) (by assumption) ?_
      case hya1 => (intro w hSw; (try dsimp only at hSw); go_simp; try (with_reducible rfl))
      simp only [Act.put, List.getElem_toArray, List.getElem_cons_succ, List.getElem_cons_zero, List.setIfInBounds_toArray, List.set_cons_zero, List.set_cons_succ]
      refine wpAnyH_take (i := 2) (v := ?_) rfl (by kernel_rfl) (by kernel_rfl) (by kernel_rfl) (fun _ _ _ h => h) (Or.inl ⟨by rfl, ?hya2⟩) (by assumption) ?_
      case hya2 => (intro w hSw; (try dsimp only at hSw); go_simp; try (with_reducible rfl))
      simp only [Act.put, List.getElem_toArray, List.getElem_cons_succ, List.getElem_cons_zero, List.setIfInBounds_toArray, List.set_cons_zero, List.set_cons_succ]
      refine wpAnyH_take (i := 3) (v := ?_) rfl (by kernel_rfl) (by kernel_rfl) (by kernel_rfl) (fun _ _ _ h => h) (Or.inl ⟨by rfl, ?hya3⟩) (by assumption) ?_
      case hya3 => (intro w hSw; (try dsimp only at hSw); go_simp; try (with_reducible rfl))
      simp only [Act.put, List.getElem_toArray, List.getElem_cons_succ, List.getElem_cons_zero, List.setIfInBounds_toArray, List.set_cons_zero, List.set_cons_succ]
      refine wpAnyH_take (i := 4) (v := ?_) rfl (by kernel_rfl) (by kernel_rfl) (by kernel_rfl) (fun _ _ _ h => h) (Or.inl ⟨by rfl, ?hya4⟩) (by assumption) ?_
      case hya4 => (intro w hSw; (try dsimp only at hSw); go_simp; try (with_reducible rfl))
      simp only [Act.put, List.getElem_toArray, List.getElem_cons_succ, List.getElem_cons_zero, List.setIfInBounds_toArray, List.set_cons_zero, List.set_cons_succ]
      refine wpAnyH_take (i := 5) (v := ?_) rfl (by kernel_rfl) (by kernel_rfl) (by kernel_rfl) (fun _ _ _ h => h) (Or.inl ⟨by rfl, ?hya5⟩) (by assumption) ?_
      case hya5 => (intro w hSw; (try dsimp only at hSw); go_simp; try (with_reducible rfl))
      simp only [Act.put, List.getElem_toArray, List.getElem_cons_succ, List.getElem_cons_zero, List.setIfInBounds_toArray, List.set_cons_zero, List.set_cons_succ]
      refine wpAnyH_take (i := 6) (v := ?_) rfl (by kernel_rfl) (by kernel_rfl) (by kernel_rfl) (fun _ _ _ h => h) (Or.inl ⟨by rfl, ?hya6⟩) (by assumption) ?_
      case hya6 => (intro w hSw; (try dsimp only at hSw); go_simp; try (with_reducible rfl))
      simp only [Act.put, List.getElem_toArray, List.getElem_cons_succ, List.getElem_cons_zero, List.setIfInBounds_toArray, List.set_cons_zero, List.set_cons_succ]
      refine wpAnyH_take (i := 7) (v := ?_) rfl (by kernel_rfl) (by kernel_rfl) (by kernel_rfl) (fun _ _ _ h => h) (Or.inl ⟨by rfl, ?hya7⟩) (by assumption) ?_
      case hya7 => (intro w hSw; (try dsimp only at hSw); go_simp; try (with_reducible rfl))
      simp only [Act.put, List.getElem_toArray, List.getElem_cons_succ, List.getElem_cons_zero, List.setIfInBounds_toArray, List.set_cons_zero, List.set_cons_succ]
      refine wpAnyH_take (i := 8) (v := ?_) rfl (by kernel_rfl) (by kernel_rfl) (by kernel_rfl) (fun _ _ _ h => h) (Or.inl ⟨by rfl, ?hya8⟩) (by assumption) ?_
      case hya8 => (intro w hSw; (try dsimp only at hSw); go_simp; try (with_reducible rfl))
      simp only [Act.put, List.getElem_toArray, List.getElem_cons_succ, List.getElem_cons_zero, List.setIfInBounds_toArray, List.set_cons_zero, List.set_cons_succ]
      refine wpAnyH_take (i := 9) (v := ?_) rfl (by kernel_rfl) (by kernel_rfl) (by kernel_rfl) (fun _ _ _ h => h) (Or.inl ⟨by rfl, ?hya9⟩) (by assumption) ?_
      case hya9 => (intro w hSw; (try dsimp only at hSw); go_simp; try (with_reducible rfl))
      simp only [Act.put, List.getElem_toArray, List.getElem_cons_succ, List.getElem_cons_zero, List.setIfInBounds_toArray, List.set_cons_zero, List.set_cons_succ]
      refine wpAnyH_ready (rs := [10]) (by kernel_rfl) (by simp) ?_
      refine AllReadyH.cons rfl (fun K9 hK9 => ?_) AllReadyH.nil
      go_simp
      go_wp2_with fail
      refine K.out.mono ?_
      rintro e u1 ⟨rfl, k1⟩
      have kk : Kept wr u1 := ((Kept.refl wr).drew).trans k1
      refine hK9.out _ _ ⟨(kk.below.cell (p := ⟨M, 4, none⟩) (World.block_lt_of_cell? _ _ x4)).trans x4, (kk.below.cell (p := ⟨M + 1, 4, none⟩) (World.block_lt_of_cell? _ _ y4)).trans y4, (kk.below.cell (p := ⟨B1, o1 + j, none⟩) (World.block_lt_of_cell? _ _ g1)).trans g1, (kk.below.cell (p := ⟨B2, o2 + j, none⟩) (World.block_lt_of_cell? _ _ g2)).trans g2⟩ (fun hHeld1 => ?_)
      clear hK9 K9
      refine wpAnyH_take (i := 11) (v := ?_) rfl (by kernel_rfl) (by kernel_rfl) (by kernel_rfl) (fun _ _ _ h => h) (Or.inl ⟨by rfl, ?hyb11⟩) (by assumption) ?_
      case hyb11 => (intro w hSw; (try dsimp only at hSw); go_simp; try (with_reducible rfl))
      simp only [Act.put, List.getElem_toArray, List.getElem_cons_succ, List.getElem_cons_zero, List.setIfInBounds_toArray, List.set_cons_zero, List.set_cons_succ]
      refine wpAnyH_done (by kernel_rfl) ?_ _
      have kk2 := hid kk
      clear hHeld hHeld1 kk k1 x4 y4 g1 g2
      go_wp2_with fail
      go_roundw
      case rel => exact ⟨j + 1, by have := hj2.out; omega, by go_num, hkr.out.trans kk2.out⟩
      case measure => have := hj2.out; simp [intOf]; omega
    · obtain rfl : j = N := by omega
      have hge : ¬ ((j : Int) < (j : Int)) := by omega
      have hkr := hid kr
      clear kr
      go_wp2_with fail
      go_ret
      exact ⟨rfl, HK0.out.trans hkr.out⟩
end Go.Proofs.Ytphkdkenopkbbaa
