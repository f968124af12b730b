/- The walk of exact's quotient, in general. -/
import Derived.Test.YtdhimkpfnhoagaaGreatDoorWh42
import Derived.Test.YtdhimkpfnhoagaaGreatDoorWh21
import Derived.Test.YtdhimkpfnhoagaaGreatDoorWh17
namespace Go.Proofs.YtdhimkpfnhoagaaGreatDoor
open Go.ChangeShapes Go.WideShapes Go.ChangeAt Go.RowKit
set_option linter.unusedVariables false
set_option linter.unusedSimpArgs false

set_option maxHeartbeats 8000000 in
set_option maxRecDepth 100000 in
theorem quot_walk (n1 n2 nb : Bool) (hnb : (n1 != n2) = nb) (a b : Option Addr) (l1 c1 n c2 : Nat) (hl1 : 0 < l1) (hn : 0 < n) (hn2 : n < 50000) (x1 x2 : Int) (hx1 : -1048576 ≤ x1) (hx2 : x1 ≤ 1048576) (hx3 : -1048576 ≤ x2) (hx4 : x2 ≤ 1048576) (T1 T2 : Nat) (hT1 : T1 ≤ 90000) (hT2 : T2 ≤ 90000) (A U : Nat) (LL : List Int) (lw : Int) (hlw : lw = (T1 : Int) - (((n : Int) + 2) * 30)) (ex : Int) (hex : ex = x1 - x2 + (T1 : Int) - (T2 : Int) - 60) (w : World)
    (HLL : Hid (LL.length = n + 2 ∧ ∀ i, i < n + 2 → LL.getD i 0 = ((dg A i : Nat) : Int)))
    (HA : Hid (A < 2 ^ (30 * (n + 2)))) (HU : Hid (2 ^ (30 * (n - 1)) * 536870912 ≤ U ∧ U < 2 ^ (30 * n) ∧ A / 2 ^ (30 * 2) < 2 * U))
    (Ka : Hid (∀ u, Kept w u → Calls Tryz.prog 114 #[.slice a l1 c1] u fun e w' => e = .returned (.int .i64 (T1 : Int)) ∧ u = w'))
    (Kb : Hid (∀ u, Kept w u → Calls Tryz.prog 114 #[.slice b n c2] u fun e w' => e = .returned (.int .i64 (T2 : Int)) ∧ u = w'))
    (Kd : Hid (∀ u, Kept w u → Calls Tryz.prog 131 #[.slice b n c2, .int .i64 (n : Int), .int .i64 ((T2 : Int) - (n : Int) * 30)] u fun e w' => e = .returned (.slice (some ⟨u.heap.size, 0, none⟩) n n) ∧ DgAt w' u.heap.size 0 n U ∧ Kept u w'))
    (Kl : Hid (∀ u, Kept w u → Calls Tryz.prog 131 #[.slice a l1 c1, .int .i64 ((n : Int) + 2), .int .i64 lw] u fun e w' => e = .returned (.slice (some ⟨u.heap.size, 0, none⟩) (n + 2) (n + 2)) ∧ Own w' u.heap.size (n + 2) LL ∧ Kept u w')) :
    Calls Tryz.prog 83 #[.agg #[.bool n1, .slice a l1 c1, .int .i64 x1], .agg #[.bool n2, .slice b n c2, .int .i64 x2]] w fun e w' => e = .returned (.agg #[.bool nb, .int .i64 ((A / U : Nat) : Int), .int .i64 ex, .bool (decide (0 < lw) || decide (A % U ≠ 0))]) ∧ Kept w w' := by
  have hK : Kept w (((w.alloc (.cells #[.bool n1, .slice a l1 c1, .int .i64 x1] 26)).alloc (.cells #[.bool n2, .slice b n c2, .int .i64 x2] 26)).alloc (.cells #[.bool false, .int .i64 0, .int .i64 0, .bool false] 116)) := (((Kept.refl w).alloc _ _).alloc _ _).alloc _ _
  have B1 : Hid (∀ u, Kept (((w.alloc (.cells #[.bool n1, .slice a l1 c1, .int .i64 x1] 26)).alloc (.cells #[.bool n2, .slice b n c2, .int .i64 x2] 26)).alloc (.cells #[.bool false, .int .i64 0, .int .i64 0, .bool false] 116)) u → (u.cell? ⟨w.heap.size, 0, none⟩ = some (.bool n1) ∧ u.cell? ⟨w.heap.size, 1, none⟩ = some (.slice a l1 c1) ∧ u.cell? ⟨w.heap.size, 2, none⟩ = some (.int .i64 x1)) ∧ (u.cell? ⟨w.heap.size + 1, 0, none⟩ = some (.bool n2) ∧ u.cell? ⟨w.heap.size + 1, 1, none⟩ = some (.slice b n c2) ∧ u.cell? ⟨w.heap.size + 1, 2, none⟩ = some (.int .i64 x2)) ∧ (u.cell? ⟨w.heap.size + 2, 0, none⟩ = some (.bool false) ∧ u.cell? ⟨w.heap.size + 2, 1, none⟩ = some (.int .i64 0) ∧ u.cell? ⟨w.heap.size + 2, 2, none⟩ = some (.int .i64 0) ∧ u.cell? ⟨w.heap.size + 2, 3, none⟩ = some (.bool false)) ∧ ∀ o, u.frozen? ⟨w.heap.size + 2, o, none⟩ = false) := fun u k => ⟨⟨(k.below.cell (p := ⟨w.heap.size, 0, none⟩) (by simp <;> omega)).trans (by simp [go_sem]), (k.below.cell (p := ⟨w.heap.size, 1, none⟩) (by simp <;> omega)).trans (by simp [go_sem]), (k.below.cell (p := ⟨w.heap.size, 2, none⟩) (by simp <;> omega)).trans (by simp [go_sem])⟩, ⟨(k.below.cell (p := ⟨w.heap.size + 1, 0, none⟩) (by simp <;> omega)).trans (by simp [go_sem]), (k.below.cell (p := ⟨w.heap.size + 1, 1, none⟩) (by simp <;> omega)).trans (by simp [go_sem]), (k.below.cell (p := ⟨w.heap.size + 1, 2, none⟩) (by simp <;> omega)).trans (by simp [go_sem])⟩, ⟨(k.below.cell (p := ⟨w.heap.size + 2, 0, none⟩) (by simp <;> omega)).trans (by simp [go_sem]), (k.below.cell (p := ⟨w.heap.size + 2, 1, none⟩) (by simp <;> omega)).trans (by simp [go_sem]), (k.below.cell (p := ⟨w.heap.size + 2, 2, none⟩) (by simp <;> omega)).trans (by simp [go_sem]), (k.below.cell (p := ⟨w.heap.size + 2, 3, none⟩) (by simp <;> omega)).trans (by simp [go_sem])⟩, fun o => (k.frozen _).trans (by simp [go_sem])⟩
  obtain ⟨W0, hW0⟩ : ∃ W0, ((w.alloc (.cells #[.bool n1, .slice a l1 c1, .int .i64 x1] 26)).alloc (.cells #[.bool n2, .slice b n c2, .int .i64 x2] 26)).alloc (.cells #[.bool false, .int .i64 0, .int .i64 0, .bool false] 116) = W0 := ⟨_, rfl⟩
  have hsz : W0.heap.size = w.heap.size + 3 := by rw [← hW0]; simp
  have HLW : Hid (lw = (T1 : Int) - (((n : Int) + 2) * 30)) := hlw
  have HEX : Hid (ex = x1 - x2 + (T1 : Int) - (T2 : Int) - 60) := hex
  have hlr : -2000000 ≤ lw ∧ lw ≤ 2000000 := by omega
  have hl0 : ((l1 : Int) == 0) = false := by rw [beq_eq_false_iff_ne]; omega
  have z1 : IntKind.i64.wrap ((n : Int) * 30) = (n : Int) * 30 := by rw [wrap_i64]; omega
  have z2 : IntKind.i64.wrap ((T2 : Int) - (n : Int) * 30) = (T2 : Int) - (n : Int) * 30 := by rw [wrap_i64]; omega
  have z3 : IntKind.i64.wrap ((n : Int) + 2) = (n : Int) + 2 := by rw [wrap_i64]; omega
  have z4 : IntKind.i64.wrap (((n : Int) + 2) * 30) = ((n : Int) + 2) * 30 := by rw [wrap_i64]; omega
  have z5 : IntKind.i64.wrap ((T1 : Int) - ((n : Int) + 2) * 30) = lw := by rw [wrap_i64]; omega
  clear hlw hex
  obtain ⟨ld, hld⟩ : ∃ ld, decide (0 < lw) = ld := ⟨_, rfl⟩
  have HLD : Hid (decide (0 < lw) = ld) := hld
  rw [hW0] at hK B1
  have hM0 := Kept.refl W0
  obtain ⟨⟨p0, p1, p2⟩, ⟨q0, q1, q2⟩, ⟨o0, o1, o2, o3⟩, oF⟩ := B1.out _ hM0
  rw [hld]
  go_enter Tryz.func83, Tryz.ntmps83
  go_wp2_with fail
  clear hW0
  refine wp_region_held_drew (S := fun u => u.cell? ⟨w.heap.size + 1, 1, none⟩ = some (.slice b n c2)) (by kernel_rfl) q1 (fun hHeld => ?_)
  refine wpAnyH_take (i := 0) (v := ?_) rfl (by kernel_rfl) (by kernel_rfl) (by kernel_rfl) (fun _ _ _ h => h) (Or.inl ⟨by rfl, ?hya0⟩) (by assumption) ?_
  case hya0 => (intro w hSw; (try dsimp only at hSw); go_simp; try (with_reducible rfl))
  simp only [Act.put, List.getElem_toArray, List.getElem_cons_succ, List.getElem_cons_zero, List.setIfInBounds_toArray, List.set_cons_zero, List.set_cons_succ]
  refine wpAnyH_take (i := 1) (v := ?_) rfl (by kernel_rfl) (by kernel_rfl) (by kernel_rfl) (fun _ _ _ h => h) (Or.inl ⟨by rfl, ?hya1⟩) (by assumption) ?_
  case hya1 => (intro w hSw; (try dsimp only at hSw); go_simp; try (with_reducible rfl))
  simp only [Act.put, List.getElem_toArray, List.getElem_cons_succ, List.getElem_cons_zero, List.setIfInBounds_toArray, List.set_cons_zero, List.set_cons_succ]
  refine wpAnyH_take (i := 2) (v := ?_) rfl (by kernel_rfl) (by kernel_rfl) (by kernel_rfl) (fun _ _ _ h => h) (Or.inl ⟨by rfl, ?hya2⟩) (by assumption) ?_
  case hya2 => (intro w hSw; (try dsimp only at hSw); go_simp; try (with_reducible rfl))
  simp only [Act.put, List.getElem_toArray, List.getElem_cons_succ, List.getElem_cons_zero, List.setIfInBounds_toArray, List.set_cons_zero, List.set_cons_succ]
  refine wpAnyH_take (i := 3) (v := ?_) rfl (by kernel_rfl) (by kernel_rfl) (by kernel_rfl) (fun _ _ _ h => h) (Or.inl ⟨by rfl, ?hya3⟩) (by assumption) ?_
  case hya3 => (intro w hSw; (try dsimp only at hSw); go_simp; try (with_reducible rfl))
  simp only [Act.put, List.getElem_toArray, List.getElem_cons_succ, List.getElem_cons_zero, List.setIfInBounds_toArray, List.set_cons_zero, List.set_cons_succ]
  refine wpAnyH_take (i := 4) (v := ?_) rfl (by kernel_rfl) (by kernel_rfl) (by kernel_rfl) (fun _ _ _ h => h) (Or.inl ⟨by rfl, ?hya4⟩) (by assumption) ?_
  case hya4 => (intro w hSw; (try dsimp only at hSw); go_simp; try (with_reducible rfl))
  simp only [Act.put, List.getElem_toArray, List.getElem_cons_succ, List.getElem_cons_zero, List.setIfInBounds_toArray, List.set_cons_zero, List.set_cons_succ]
  refine wpAnyH_ready (rs := [5]) (by kernel_rfl) (by simp) ?_
  refine AllReadyH.cons rfl (fun K hK9 => ?_) AllReadyH.nil
  go_simp
  go_wp2_with fail
  refine (Kb.out _ hK.drew).mono ?_
  rintro e u0 ⟨rfl, rfl⟩
  refine hK9.out _ _ q1 (fun hHeld2 => ?_)
  clear hK9 K hHeld
  refine wpAnyH_take (i := 6) (v := ?_) rfl (by kernel_rfl) (by kernel_rfl) (by kernel_rfl) (fun _ _ _ h => h) (Or.inl ⟨by rfl, ?hyb6⟩) (by assumption) ?_
  case hyb6 => (intro w hSw; (try dsimp only at hSw); go_simp; try (with_reducible rfl))
  simp only [Act.put, List.getElem_toArray, List.getElem_cons_succ, List.getElem_cons_zero, List.setIfInBounds_toArray, List.set_cons_zero, List.set_cons_succ]
  refine wpAnyH_take (i := 7) (v := ?_) rfl (by kernel_rfl) (by kernel_rfl) (by kernel_rfl) (fun _ _ _ h => h) (Or.inl ⟨by rfl, ?hyb7⟩) (by assumption) ?_
  case hyb7 => (intro w hSw; (try dsimp only at hSw); go_simp; try (with_reducible rfl))
  simp only [Act.put, List.getElem_toArray, List.getElem_cons_succ, List.getElem_cons_zero, List.setIfInBounds_toArray, List.set_cons_zero, List.set_cons_succ]
  refine wpAnyH_done (by kernel_rfl) ?_ _
  clear hHeld2
  go_wp2_with fail
  refine (Kd.out _ hK.drew).mono ?_
  rintro e u1 ⟨rfl, od, ku1⟩
  have mu1 := hM0.drew.trans ku1
  clear p0 p1 p2 q0 q1 q2 o0 o1 o2 o3 oF
  obtain ⟨⟨p0, p1, p2⟩, ⟨q0, q1, q2⟩, ⟨o0, o1, o2, o3⟩, oF⟩ := B1.out _ mu1
  have OD : Hid (DgAt u1 W0.drew.heap.size 0 n U) := od
  have HM : Hid (Kept W0 u1) := mu1
  clear od mu1 ku1 oF o0 o1 o2 o3 p0 p2 q0 q2
  go_wp2_with fail
  refine (Ka.out _ (hK.trans HM.out)).mono ?_
  rintro e u9 ⟨rfl, rfl⟩
  go_wp2_with fail
  refine (Kl.out _ (hK.trans HM.out)).mono ?_
  rintro e u2 ⟨rfl, ol, ku2⟩
  have HU2 : Hid (Kept u1 u2) := ku2
  obtain ⟨v', V, hr, hM', hK'⟩ := app_step u1.heap.size u2 (.slice (some ⟨u1.heap.size, 0, none⟩) (n + 2) (n + 2)) LL (.inr ⟨u1.heap.size, n + 2, by rw [HLL.out.1], Nat.le_refl _, ol⟩) 0 ku2.below.size (by rw [HLL.out.1]; omega)
  have hMl : (LL ++ [0]).length = n + 3 := by rw [List.length_append, HLL.out.1]; rfl
  obtain ⟨g, C, hv', hgs, hOV⟩ : ∃ g C, v' = .slice (some ⟨g, 0, none⟩) (n + 3) C ∧ u1.heap.size ≤ g ∧ Own V g C (LL ++ [0]) := by
    rcases hM' with ⟨e, -⟩ | ⟨g, C, e, h1, h2⟩
    · rw [e] at hMl; simp at hMl
    · exact ⟨g, C, by rw [e, hMl], h1, h2⟩
  subst hv'
  have HHA : Hid (∀ ty, (Builtin.append_ #[24, 24] ty #[.slice (some ⟨u1.heap.size, 0, none⟩) (n + 2) (n + 2), .slice (some ⟨u2.heap.size, 0, none⟩) 1 1]).run Tryz.prog (u2.alloc (.cells #[.int .i64 0] 3)) = .ok (.slice (some ⟨g, 0, none⟩) (n + 3) C) V) := hr
  have KV : Hid (Kept u1 V) := hK' u1 (Nat.le_refl _) ku2
  have hC : n + 3 ≤ C := by obtain ⟨_, _, h1, _⟩ := hOV; rw [hMl] at h1; exact h1
  have HDA : Hid (∀ i, i < n + 3 → V.cell? ⟨g, i, none⟩ = some (.int .i64 ((dg A i : Nat) : Int))) := fun i hi => by
    rw [hOV.cell i (by rw [hMl]; exact hi)]
    rw [getD_snoc, HLL.out.1]
    by_cases h2 : i < n + 2
    · rw [if_pos h2, HLL.out.2 i h2]
    · have hi2 : i = n + 2 := by omega
      rw [if_neg h2, if_pos hi2, hi2]
      unfold dg
      rw [Nat.div_eq_of_lt HA.out]
      simp
  have FZ : Hid (∀ i, V.frozen? ⟨g, i, none⟩ = false) := fun i => hOV.free i
  have HGL : Hid (g < V.heap.size) := hOV.lt
  have hgt : w.heap.size + 3 < g := by
    have h1 := World.block_lt_of_cell? u1 _ (OD.out 0 hn)
    have h4 : W0.drew.heap.size = W0.heap.size := rfl
    rw [h4, hsz] at h1
    have h5 : w.heap.size + 3 < u1.heap.size := h1
    omega
  have DD : Hid (DgAt V (w.heap.size + 3) 0 n U) := by
    have := OD.out.kept KV.out
    have h4 : W0.drew.heap.size = W0.heap.size := rfl
    rw [h4, hsz] at this
    exact this
  have HKV : Hid (Kept W0 V) := HM.out.trans KV.out
  clear hr hM' hK' hOV ku2 ol KV
  go_wp2_with (first | (at_builtin; refine wpList_append_run rfl _ _ _ rfl _ _ rfl rfl _ _ (HHA.out _) ?_))
  clear HHA HU2 p1 q1
  have hgd : w.heap.size + 3 ≠ g := by omega
  obtain ⟨X0, Q0, R0, X1, Q1, R1, X2, Q2, R2, G0, H1, G1, H2, hZ⟩ := q3z_ex A U n (Nat.lt_of_lt_of_le (Nat.mul_pos (Nat.two_pow_pos _) (by decide)) HU.out.1) HU.out.2.1 HU.out.2.2
  have Z : Hid (Q3z A U n X0 Q0 R0 X1 Q1 R1 X2 Q2 R2 G0 H1 G1 H2) := hZ
  obtain ⟨s1, s2, s3, s4, zz⟩ : _ ∧ _ ∧ _ ∧ _ ∧ _ := ⟨hZ.s1, hZ.s2, hZ.s3, hZ.s4, hZ.zz⟩
  clear hZ
  have TA : Hid (∀ (off cap : Nat) (V' : World) (X Q R : Nat), X < 2 ^ (30 * (n + 1)) → X < U * 4294967296 → X / U = Q → X % U = R → g < V'.heap.size → DgAt V' g off (n + 1) X → DgAt V' (w.heap.size + 3) 0 n U → (∀ i, V'.frozen? ⟨g, i, none⟩ = false) → Calls Tryz.prog 132 #[.slice (some ⟨g, off, none⟩) (n + 1) cap, .slice (some ⟨w.heap.size + 3, 0, none⟩) n n] V' fun e w' => e = .returned (.int .i64 (Q : Int)) ∧ DgAt w' g off (n + 1) R ∧ TK g off n V' w') := fun off cap V' X Q R h1 h2 hq hr h3 h4 h5 h6 => by
    rw [← hq, ← hr]
    exact take_any g off cap (w.heap.size + 3) n n hgd hn (by omega) X U h1 HU.out.1 HU.out.2.1 h2 V' h3 h4 h5 h6
  have D0 : Hid (DgAt V g 2 (n + 1) X0) := fun i hi => by
    rw [HDA.out (2 + i) (by omega), ← Z.out.x0, dg_shift]
  have y1 : IntKind.i64.wrap (3 + (n : Int)) = 3 + (n : Int) := by rw [wrap_i64]; omega
  have y2 : IntKind.i64.wrap (2 + (n : Int)) = 2 + (n : Int) := by rw [wrap_i64]; omega
  have y3 : IntKind.i64.wrap (1 + (n : Int)) = 1 + (n : Int) := by rw [wrap_i64]; omega
  clear z1 z2 z3 z4 z5
  refine wp_loop_rounds 4 ?_
  rw [rounds_succ]
  go_wp2_with fail
  rw [show 3 + n - 2 = n + 1 by omega]
  refine (TA.out 2 _ V X0 Q0 R0 Z.out.x0b Z.out.x0u Z.out.q0 Z.out.r0 HGL.out D0.out DD.out FZ.out).mono ?_
  rintro e V1 ⟨rfl, d1, tk1⟩
  have T1' : Hid (TK g 2 n V V1) := tk1
  have L1 : Hid (g < V1.heap.size) := Nat.lt_of_lt_of_le HGL.out tk1.grw.grown.size
  have DD1 : Hid (DgAt V1 (w.heap.size + 3) 0 n U) := DD.out.off_block hgd tk1.grw
  have FZ1 : Hid (∀ i, V1.frozen? ⟨g, i, none⟩ = false) := fun i => (tk1.grw.frozen _).trans (FZ.out i)
  have D1 : Hid (DgAt V1 g 1 (n + 1) X1) := fun i hi => by
    rw [← Z.out.x1]
    rcases i with _ | i
    · rw [dg_cons_zero _ _ (dg_lt _ _)]
      exact (tk1.rest 1 (by omega)).trans (HDA.out 1 (by omega))
    · rw [dg_cons_succ _ _ _ (dg_lt _ _), show 1 + (i + 1) = 2 + i by omega]
      exact d1 i (by omega)
  have C0 : Hid (V1.cell? ⟨g, 0, none⟩ = some (.int .i64 ((dg A 0 : Nat) : Int))) := (tk1.rest 0 (by omega)).trans (HDA.out 0 (by omega))
  have KW1 : Hid (Kept W0 V1) := HKV.out.grw (by rw [hsz]; omega) tk1.grw
  clear d1 tk1 D0 DD FZ HGL HDA HKV
  go_wp2_with fail
  rw [rounds_succ]
  go_wp2_with fail
  rw [Nat.add_comm 1 n]
  refine (TA.out 1 _ V1 X1 Q1 R1 Z.out.x1b Z.out.x1u Z.out.q1 Z.out.r1 L1.out D1.out DD1.out FZ1.out).mono ?_
  rintro e V2 ⟨rfl, d2, tk2⟩
  have L2 : Hid (g < V2.heap.size) := Nat.lt_of_lt_of_le L1.out tk2.grw.grown.size
  have DD2 : Hid (DgAt V2 (w.heap.size + 3) 0 n U) := DD1.out.off_block hgd tk2.grw
  have FZ2 : Hid (∀ i, V2.frozen? ⟨g, i, none⟩ = false) := fun i => (tk2.grw.frozen _).trans (FZ1.out i)
  have D2 : Hid (DgAt V2 g 0 (n + 1) X2) := fun i hi => by
    rw [← Z.out.x2]
    rcases i with _ | i
    · rw [dg_cons_zero _ _ (dg_lt _ _)]
      exact (tk2.rest 0 (by omega)).trans C0.out
    · rw [dg_cons_succ _ _ _ (dg_lt _ _), show 0 + (i + 1) = 1 + i by omega]
      exact d2 i (by omega)
  have KW2 : Hid (Kept W0 V2) := KW1.out.grw (by rw [hsz]; omega) tk2.grw
  clear d2 tk2 D1 DD1 FZ1 L1 C0 KW1 T1'
  go_wp2_with fail
  rw [rounds_succ]
  go_wp2_with fail
  rw [Nat.add_comm 1 n]
  refine (TA.out 0 _ V2 X2 Q2 R2 Z.out.x2b Z.out.x2u Z.out.q2 Z.out.r2 L2.out D2.out DD2.out FZ2.out).mono ?_
  rintro e V3 ⟨rfl, d3, tk3⟩
  have D3 : Hid (DgAt V3 g 0 (n + 1) R2) := d3
  have KW3 : Hid (Kept W0 V3) := KW2.out.grw (by rw [hsz]; omega) tk3.grw
  clear d3 tk3 D2 DD2 FZ2 L2 KW2 TA
  go_wp2_with fail
  rw [rounds_succ]
  go_wp2_with fail
  go_loopw [12, 68] (fun rv iv wr => ∃ (k : Nat) (rk : Bool), k ≤ n ∧ iv = .int .i64 k ∧ rv = .bool rk ∧ rk = (ld || decide (R2 % 2 ^ (30 * k) ≠ 0)) ∧ Kept V3 wr) (fun _ iv _ => n - (intOf iv).toNat)
  case atStart => exact ⟨0, ld, Nat.zero_le _, rfl, rfl, by rw [Nat.mul_zero, Nat.pow_zero, Nat.mod_one]; simp, Kept.refl _⟩
  case round =>
    obtain ⟨k, rk, hk, rfl, rfl, hrk, hKr⟩ := hrel
    have HRK : Hid (rk = (ld || decide (R2 % 2 ^ (30 * k) ≠ 0))) := hrk
    clear hrk
    by_cases hkn : k < n
    · have hk3 : (k : Int) < (n : Int) + 3 := by omega
      have ck := (D3.out.kept hKr) k (by omega)
      rw [Nat.zero_add] at ck
      obtain ⟨dk, hdk⟩ : ∃ dk, dg R2 k = dk := ⟨_, rfl⟩
      rw [hdk] at ck
      have HDK : Hid (dg R2 k = dk) := hdk
      clear hdk
      have HST := rest_step R2 k
      have HST2 : Hid (decide (R2 % 2 ^ (30 * (k + 1)) ≠ 0) = (decide (R2 % 2 ^ (30 * k) ≠ 0) || decide (dg R2 k ≠ 0))) := HST
      clear HST
      cases rk
      · by_cases hd0 : dk = 0
        · subst hd0
          go_wp2
          go_roundw
          case rel => exact ⟨k + 1, false, by omega, by go_num, rfl, by rw [HST2.out, ← Bool.or_assoc, ← HRK.out, HDK.out]; rfl, hKr⟩
          case measure => simp [intOf]; omega
        · have hdb : ((dk : Int) == 0) = false := by rw [beq_eq_false_iff_ne]; omega
          have hdn : ((dk : Int) != 0) = true := by simpa [bne_iff_ne] using (show ¬ (dk : Int) = 0 by omega)
          go_wp2
          go_roundw
          case rel => exact ⟨k + 1, true, by omega, by go_num, by first | rfl | simp [hd0], by rw [HST2.out, ← Bool.or_assoc, ← HRK.out, HDK.out]; simp [hd0], hKr⟩
          case measure => simp [intOf]; omega
      · go_wp2
        go_roundw
        case rel => exact ⟨k + 1, true, by omega, by go_num, rfl, by rw [HST2.out, ← Bool.or_assoc, ← HRK.out]; rfl, hKr⟩
        case measure => simp [intOf]; omega
    · obtain rfl : k = n := by omega
      have hfin : rk = (ld || decide (A % U ≠ 0)) := by
        rw [HRK.out, Nat.mod_eq_of_lt Z.out.r2b, Z.out.rm]
      have HFIN : Hid (rk = (ld || decide (A % U ≠ 0))) := hfin
      clear hfin
      have kW := KW3.out.trans hKr
      obtain ⟨⟨p0, p1, p2⟩, ⟨q0, q1, q2⟩, ⟨o0, o1, o2, o3⟩, oF⟩ := B1.out _ kW
      have hEX := HEX.out
      obtain ⟨e1, he1⟩ : ∃ e1, x1 - x2 = e1 := ⟨_, rfl⟩
      have v1 : IntKind.i64.wrap (x1 - x2) = e1 := by rw [wrap_i64]; omega
      obtain ⟨e2, he2⟩ : ∃ e2, e1 + (T1 : Int) = e2 := ⟨_, rfl⟩
      have v2 : IntKind.i64.wrap (e1 + (T1 : Int)) = e2 := by rw [wrap_i64]; omega
      obtain ⟨e3, he3⟩ : ∃ e3, e2 - (T2 : Int) = e3 := ⟨_, rfl⟩
      have v3 : IntKind.i64.wrap (e2 - (T2 : Int)) = e3 := by rw [wrap_i64]; omega
      have v4 : IntKind.i64.wrap (e3 - 60) = ex := by rw [wrap_i64]; omega
      clear hEX he1 he2 he3
      go_wp2_with fail
      refine wp_region_held_drew (S := fun u => (u.cell? ⟨w.heap.size, 0, none⟩ = some (.bool n1) ∧ u.cell? ⟨w.heap.size, 1, none⟩ = some (.slice a l1 c1) ∧ u.cell? ⟨w.heap.size, 2, none⟩ = some (.int .i64 x1)) ∧ u.cell? ⟨w.heap.size + 1, 0, none⟩ = some (.bool n2) ∧ u.cell? ⟨w.heap.size + 1, 2, none⟩ = some (.int .i64 x2)) (by kernel_rfl) ⟨⟨p0, p1, p2⟩, q0, q2⟩ (fun hHeld => ?_)
      refine wpAnyH_take (i := 0) (v := ?_) rfl (by kernel_rfl) (by kernel_rfl) (by kernel_rfl) (fun _ _ _ h => h) (Or.inl ⟨by rfl, ?hyf0⟩) (by assumption) ?_
      case hyf0 => (intro w hSw; (try dsimp only at hSw); go_simp; try (with_reducible rfl))
      simp only [Act.put, List.getElem_toArray, List.getElem_cons_succ, List.getElem_cons_zero, List.setIfInBounds_toArray, List.set_cons_zero, List.set_cons_succ]
      refine wpAnyH_take (i := 1) (v := ?_) rfl (by kernel_rfl) (by kernel_rfl) (by kernel_rfl) (fun _ _ _ h => h) (Or.inl ⟨by rfl, ?hyf1⟩) (by assumption) ?_
      case hyf1 => (intro w hSw; (try dsimp only at hSw); go_simp; try (with_reducible rfl))
      simp only [Act.put, List.getElem_toArray, List.getElem_cons_succ, List.getElem_cons_zero, List.setIfInBounds_toArray, List.set_cons_zero, List.set_cons_succ]
      refine wpAnyH_take (i := 2) (v := ?_) rfl (by kernel_rfl) (by kernel_rfl) (by kernel_rfl) (fun _ _ _ h => h) (Or.inl ⟨by rfl, ?hyf2⟩) (by assumption) ?_
      case hyf2 => (intro w hSw; (try dsimp only at hSw); go_simp; try (with_reducible rfl))
      simp only [Act.put, List.getElem_toArray, List.getElem_cons_succ, List.getElem_cons_zero, List.setIfInBounds_toArray, List.set_cons_zero, List.set_cons_succ]
      refine wpAnyH_take (i := 3) (v := ?_) rfl (by kernel_rfl) (by kernel_rfl) (by kernel_rfl) (fun _ _ _ h => h) (Or.inl ⟨by rfl, ?hyf3⟩) (by assumption) ?_
      case hyf3 => (intro w hSw; (try dsimp only at hSw); go_simp; try (with_reducible rfl))
      simp only [Act.put, List.getElem_toArray, List.getElem_cons_succ, List.getElem_cons_zero, List.setIfInBounds_toArray, List.set_cons_zero, List.set_cons_succ]
      refine wpAnyH_take (i := 4) (v := ?_) rfl (by kernel_rfl) (by kernel_rfl) (by kernel_rfl) (fun _ _ _ h => h) (Or.inl ⟨by rfl, ?hyf4⟩) (by assumption) ?_
      case hyf4 => (intro w hSw; (try dsimp only at hSw); go_simp; try (with_reducible rfl))
      simp only [Act.put, List.getElem_toArray, List.getElem_cons_succ, List.getElem_cons_zero, List.setIfInBounds_toArray, List.set_cons_zero, List.set_cons_succ]
      refine wpAnyH_take (i := 5) (v := ?_) rfl (by kernel_rfl) (by kernel_rfl) (by kernel_rfl) (fun _ _ _ h => h) (Or.inl ⟨by rfl, ?hyf5⟩) (by assumption) ?_
      case hyf5 => (intro w hSw; (try dsimp only at hSw); go_simp; try (with_reducible rfl))
      simp only [Act.put, List.getElem_toArray, List.getElem_cons_succ, List.getElem_cons_zero, List.setIfInBounds_toArray, List.set_cons_zero, List.set_cons_succ]
      refine wpAnyH_take (i := 6) (v := ?_) rfl (by kernel_rfl) (by kernel_rfl) (by kernel_rfl) (fun _ _ _ h => h) (Or.inl ⟨by rfl, ?hyf6⟩) (by assumption) ?_
      case hyf6 => (intro w hSw; (try dsimp only at hSw); go_simp; try (with_reducible rfl))
      simp only [Act.put, List.getElem_toArray, List.getElem_cons_succ, List.getElem_cons_zero, List.setIfInBounds_toArray, List.set_cons_zero, List.set_cons_succ]
      refine wpAnyH_take (i := 7) (v := ?_) rfl (by kernel_rfl) (by kernel_rfl) (by kernel_rfl) (fun _ _ _ h => h) (Or.inl ⟨by rfl, ?hyf7⟩) (by assumption) ?_
      case hyf7 => (intro w hSw; (try dsimp only at hSw); go_simp; try (with_reducible rfl))
      simp only [Act.put, List.getElem_toArray, List.getElem_cons_succ, List.getElem_cons_zero, List.setIfInBounds_toArray, List.set_cons_zero, List.set_cons_succ]
      refine wpAnyH_take (i := 8) (v := ?_) rfl (by kernel_rfl) (by kernel_rfl) (by kernel_rfl) (fun _ _ _ h => h) (Or.inl ⟨by rfl, ?hyf8⟩) (by assumption) ?_
      case hyf8 => (intro w hSw; (try dsimp only at hSw); go_simp; try (with_reducible rfl))
      simp only [Act.put, List.getElem_toArray, List.getElem_cons_succ, List.getElem_cons_zero, List.setIfInBounds_toArray, List.set_cons_zero, List.set_cons_succ]
      refine wpAnyH_take (i := 9) (v := ?_) rfl (by kernel_rfl) (by kernel_rfl) (by kernel_rfl) (fun _ _ _ h => h) (Or.inl ⟨by rfl, ?hyf9⟩) (by assumption) ?_
      case hyf9 => (intro w hSw; (try dsimp only at hSw); go_simp; try (with_reducible rfl))
      simp only [Act.put, List.getElem_toArray, List.getElem_cons_succ, List.getElem_cons_zero, List.setIfInBounds_toArray, List.set_cons_zero, List.set_cons_succ]
      refine wpAnyH_take (i := 10) (v := ?_) rfl (by kernel_rfl) (by kernel_rfl) (by kernel_rfl) (fun _ _ _ h => h) (Or.inl ⟨by rfl, ?hyf10⟩) (by assumption) ?_
      case hyf10 => (intro w hSw; (try dsimp only at hSw); go_simp; try (with_reducible rfl))
      simp only [Act.put, List.getElem_toArray, List.getElem_cons_succ, List.getElem_cons_zero, List.setIfInBounds_toArray, List.set_cons_zero, List.set_cons_succ]
      refine wpAnyH_take (i := 11) (v := ?_) rfl (by kernel_rfl) (by kernel_rfl) (by kernel_rfl) (fun _ _ _ h => h) (Or.inl ⟨by rfl, ?hyf11⟩) (by assumption) ?_
      case hyf11 => (intro w hSw; (try dsimp only at hSw); go_simp; try (with_reducible rfl))
      simp only [Act.put, List.getElem_toArray, List.getElem_cons_succ, List.getElem_cons_zero, List.setIfInBounds_toArray, List.set_cons_zero, List.set_cons_succ]
      refine wpAnyH_take (i := 12) (v := ?_) rfl (by kernel_rfl) (by kernel_rfl) (by kernel_rfl) (fun _ _ _ h => h) (Or.inl ⟨by rfl, ?hyf12⟩) (by assumption) ?_
      case hyf12 => (intro w hSw; (try dsimp only at hSw); go_simp; try (with_reducible rfl))
      simp only [Act.put, List.getElem_toArray, List.getElem_cons_succ, List.getElem_cons_zero, List.setIfInBounds_toArray, List.set_cons_zero, List.set_cons_succ]
      refine wpAnyH_take (i := 15) (v := ?_) rfl (by kernel_rfl) (by kernel_rfl) (by kernel_rfl) (fun _ _ _ h => h) (Or.inl ⟨by rfl, ?hyf15⟩) (by assumption) ?_
      case hyf15 => (intro w hSw; (try dsimp only at hSw); go_simp; try (with_reducible rfl))
      simp only [Act.put, List.getElem_toArray, List.getElem_cons_succ, List.getElem_cons_zero, List.setIfInBounds_toArray, List.set_cons_zero, List.set_cons_succ]
      refine wpAnyH_take (i := 18) (v := ?_) rfl (by kernel_rfl) (by kernel_rfl) (by kernel_rfl) (fun _ _ _ h => h) (Or.inl ⟨by rfl, ?hyf18⟩) (by assumption) ?_
      case hyf18 => (intro w hSw; (try dsimp only at hSw); go_simp; try (with_reducible rfl))
      simp only [Act.put, List.getElem_toArray, List.getElem_cons_succ, List.getElem_cons_zero, List.setIfInBounds_toArray, List.set_cons_zero, List.set_cons_succ]
      refine wpAnyH_ready (rs := [13]) (by kernel_rfl) (by simp) ?_
      refine AllReadyH.cons rfl (fun K hK9 => ?_) AllReadyH.nil
      go_simp
      go_wp2_with fail
      refine (Ka.out _ (hK.trans kW.drew)).mono ?_
      rintro e u9 ⟨rfl, rfl⟩
      refine hK9.out _ _ ⟨⟨p0, p1, p2⟩, q0, q2⟩ (fun hHeld2 => ?_)
      clear hK9 K hHeld
      refine wpAnyH_take (i := 14) (v := ?_) rfl (by kernel_rfl) (by kernel_rfl) (by kernel_rfl) (fun _ _ _ h => h) (Or.inl ⟨by rfl, ?hyh14⟩) (by assumption) ?_
      case hyh14 => (intro w hSw; (try dsimp only at hSw); go_simp; try (with_reducible rfl))
      simp only [Act.put, List.getElem_toArray, List.getElem_cons_succ, List.getElem_cons_zero, List.setIfInBounds_toArray, List.set_cons_zero, List.set_cons_succ]
      refine wpAnyH_take (i := 16) (v := ?_) rfl (by kernel_rfl) (by kernel_rfl) (by kernel_rfl) (fun _ _ _ h => h) (Or.inl ⟨by rfl, ?hyh16⟩) (by assumption) ?_
      case hyh16 => (intro w hSw; (try dsimp only at hSw); go_simp; try (with_reducible rfl))
      simp only [Act.put, List.getElem_toArray, List.getElem_cons_succ, List.getElem_cons_zero, List.setIfInBounds_toArray, List.set_cons_zero, List.set_cons_succ]
      refine wpAnyH_take (i := 17) (v := ?_) rfl (by kernel_rfl) (by kernel_rfl) (by kernel_rfl) (fun _ _ _ h => h) (Or.inl ⟨by rfl, ?hyh17⟩) (by assumption) ?_
      case hyh17 => (intro w hSw; (try dsimp only at hSw); go_simp; try (with_reducible rfl))
      simp only [Act.put, List.getElem_toArray, List.getElem_cons_succ, List.getElem_cons_zero, List.setIfInBounds_toArray, List.set_cons_zero, List.set_cons_succ]
      refine wpAnyH_take (i := 19) (v := ?_) rfl (by kernel_rfl) (by kernel_rfl) (by kernel_rfl) (fun _ _ _ h => h) (Or.inl ⟨by rfl, ?hyh19⟩) (by assumption) ?_
      case hyh19 => (intro w hSw; (try dsimp only at hSw); go_simp; try (with_reducible rfl))
      simp only [Act.put, List.getElem_toArray, List.getElem_cons_succ, List.getElem_cons_zero, List.setIfInBounds_toArray, List.set_cons_zero, List.set_cons_succ]
      refine wpAnyH_ready (rs := [20]) (by kernel_rfl) (by simp) ?_
      refine AllReadyH.cons rfl (fun K hK9 => ?_) AllReadyH.nil
      go_simp
      refine hK9.out _ _ ⟨⟨(set4' _ _ _ _ (by omega) _ _ _ _).trans p0, (set4' _ _ _ _ (by omega) _ _ _ _).trans p1, (set4' _ _ _ _ (by omega) _ _ _ _).trans p2⟩, (set4' _ _ _ _ (by omega) _ _ _ _).trans q0, (set4' _ _ _ _ (by omega) _ _ _ _).trans q2⟩ (fun hHeld3 => ?_)
      clear hK9 K hHeld2
      refine wpAnyH_done (by kernel_rfl) ?_ _
      clear hHeld3
      go_wp2
      have hnb2 : (n1 == n2) = !nb := by rw [← hnb]; cases n1 <;> cases n2 <;> rfl
      have hfi := HFIN.out
      rw [← hfi]
      have hdv := Z.out.dv
      rw [hdv]
      refine bodyPost_ret (v := .agg #[.bool nb, .int .i64 (H2 : Int), .int .i64 ex, .bool rk]) (by simp [results, Tryz.results83, go_sem, o0, o1, o2, o3, hnb2]) rfl ⟨rfl, ?_⟩
      first
      | exact ((hK.trans kW).drew.setCell (by simp <;> omega) _ |>.setCell (by simp <;> omega) _ |>.setCell (by simp <;> omega) _ |>.setCell (by simp <;> omega) _)
      | exact ((hK.trans kW).setCell (by simp <;> omega) _ |>.setCell (by simp <;> omega) _ |>.setCell (by simp <;> omega) _ |>.setCell (by simp <;> omega) _).drew
end Go.Proofs.YtdhimkpfnhoagaaGreatDoor
