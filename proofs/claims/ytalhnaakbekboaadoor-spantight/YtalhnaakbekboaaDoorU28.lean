/- The walks of exact's pieces. The walk of exact's quotient at 1 by 3. -/
import Derived.Test.YtalhnaakbekboaaDoorU18
import Derived.Laws.EntriesVeiled
import Derived.Test.YtalhnaakbekboaaDoorU25
import Derived.OwnWalk
import Derived.Laws.OwnMore
namespace Go.Proofs.YtalhnaakbekboaaDoor
open Go.ChangeShapes Go.WideShapes Go.ChangeAt Go.RowKit
set_option linter.unusedVariables false
set_option linter.unusedSimpArgs false

/-! ### pieces -/
set_option maxHeartbeats 1000000 in
theorem pieces_any (L : List Int) (hL : Dg L) (v : Value) (n : Nat) (hn : n < 100000) (p : Int) (hp : -10000000 < p ∧ p < 10000000) (w : World) (h : Sl w v L) : Calls Tryd.prog 106 #[v, .int .i64 (n : Int), .int .i64 p] w fun e w' => e = .returned (.slice (some ⟨w.heap.size, 0, none⟩) n n) ∧ Own w' w.heap.size n ((List.range n).map fun i : Nat => pcz (nv L) (p + 30 * (i : Int))) ∧ Kept w w' := by
  have HM := make_run n (by omega)
  have hO := own_made n (by omega) w
  have hK0 : Kept w (w.alloc (.cells (madeCells #[.int .i64 0] n) 3)) := (Kept.refl w).alloc _ _
  have HL : Hid (Sl w v L) := h
  have HO : Hid (Own (w.alloc (.cells (madeCells #[.int .i64 0] n) 3)) w.heap.size n (List.replicate n 0)) := hO
  have HK : Hid (Kept w (w.alloc (.cells (madeCells #[.int .i64 0] n) 3))) := hK0
  clear h hO hK0
  go_enter Tryd.func106, Tryd.ntmps106
  go_wp2
  go_loopw [12] (fun i wr => ∃ (k : Nat), k ≤ n ∧ i = .int .i64 k ∧ Own wr w.heap.size n ((List.range k).map (fun i : Nat => pcz (nv L) (p + 30 * (i : Int))) ++ List.replicate (n - k) 0) ∧ Kept w wr) (fun i _ => n - (intOf i).toNat)
  case atStart => exact ⟨0, Nat.zero_le _, rfl, by simpa using HO.out, HK.out⟩
  case round =>
    obtain ⟨k, hk, rfl, hO, hG⟩ := hrel
    by_cases hkn : k < n
    · have KP : Hid (Calls Tryd.prog 78 #[v, .int .i64 (p + (k : Int) * 30)] wr fun e w' => e = .returned (.int .i64 (pcz (nv L) (p + (k : Int) * 30))) ∧ Kept wr w') := piece_any L hL v _ (by omega) (by omega) wr (HL.out.kept hG)
      have HO2 : Hid (Own wr w.heap.size n ((List.range k).map (fun i : Nat => pcz (nv L) (p + 30 * (i : Int))) ++ List.replicate (n - k) 0)) := hO
      have HG : Hid (Kept w wr) := hG
      have hlen : ((List.range k).map (fun i : Nat => pcz (nv L) (p + 30 * (i : Int))) ++ List.replicate (n - k) 0).length = n := by simp; omega
      have HLn : Hid (((List.range k).map (fun i : Nat => pcz (nv L) (p + 30 * (i : Int))) ++ List.replicate (n - k) 0).length = n) := hlen
      clear hO hG hlen
      generalize hq : pcz (nv L) (p + (k : Int) * 30) = pv at KP
      have HQ : Hid (pcz (nv L) (p + (k : Int) * 30) = pv) := hq
      clear hq
      go_wp2_with (first | (go_at_call 78; refine KP.out.mono ?_; rintro e w2 ⟨rfl, hk2⟩; have hO2 := HO2.out.kept hk2; have hcc := hO2.cell k (by rw [HLn.out]; exact hkn); have hff := hO2.free k))
      go_roundw
      case rel =>
        have hO2 := (HO2.out.kept hk2).set k pv
        refine ⟨k + 1, by omega, by go_num, ?_, (HG.out.trans hk2).setCell (by simp) _⟩
        obtain ⟨m, hm⟩ : ∃ m, n - k = m + 1 := ⟨n - k - 1, by omega⟩
        rw [hm, List.replicate_succ, set_app _ _ _ _ _ (by simp)] at hO2
        rw [show n - (k + 1) = m by omega, List.range_succ, List.map_append]
        have := HQ.out
        rw [Int.mul_comm] at this
        simpa [this] using hO2
      case measure => simp [intOf]; omega
    · obtain rfl : k = n := by omega
      rw [Nat.sub_self, List.replicate_zero, List.append_nil] at hO
      go_wp2
      go_ret
      exact ⟨rfl, hO, hG⟩
end Go.Proofs.YtalhnaakbekboaaDoor

namespace Go.Proofs.YtalhnaakbekboaaDoor
open Go.ChangeShapes Go.WideShapes Go.ChangeAt Go.RowKit
set_option linter.unusedVariables false
set_option linter.unusedSimpArgs false

theorem lt_of_cell {w : World} {a : Addr} {v : Value} (h : w.cell? a = some v) : a.block < w.heap.size := World.block_lt_of_cell? w a h
theorem set4' (u : World) (b c o : Nat) (h : c ≠ b) (v0 v1 v2 v3 : Value) : ((((u.setCell ⟨b, 0, none⟩ v0).setCell ⟨b, 1, none⟩ v1).setCell ⟨b, 2, none⟩ v2).setCell ⟨b, 3, none⟩ v3).cell? ⟨c, o, none⟩ = u.cell? ⟨c, o, none⟩ :=
  World.cell?_of_block (a := ⟨c, o, none⟩) ((Below.heap_setCell _ _ _ c h).trans ((Below.heap_setCell _ _ _ c h).trans ((Below.heap_setCell _ _ _ c h).trans (Below.heap_setCell _ _ _ c h))))
theorem nv1 : nv [1] = 1 := by decide
theorem nv3 : nv [3] = 3 := by decide
theorem bl1 : bl 1 = 1 := by decide
theorem bl3 : bl 3 = 2 := by decide

abbrev nilLead : Obj := .cells #[.bool false, .int .i64 0, .int .i64 0, .bool false] 117
abbrev third : Value := .agg #[.bool false, .int .i64 768614336404564650, .int .i64 (-61), .bool true]

set_option maxHeartbeats 4000000 in
set_option maxRecDepth 100000 in
theorem quotient_third (a b : Option Addr) (c d : Nat) (w : World) (h1 : Sl w (.slice a 1 c) [1]) (h2 : Sl w (.slice b 1 d) [3]) : Calls Tryd.prog 91 #[.agg #[.bool false, .slice a 1 c, .int .i64 0], .agg #[.bool false, .slice b 1 d, .int .i64 0]] w fun e w' => e = .returned third ∧ Kept w w' := by
  have hK : Kept w (((w.alloc (.cells #[.bool false, .slice a 1 c, .int .i64 0] 26)).alloc (.cells #[.bool false, .slice b 1 d, .int .i64 0] 26)).alloc nilLead) := (((Kept.refl w).alloc _ _).alloc _ _).alloc _ _
  have Ka : Hid (∀ u, Kept w u → Calls Tryd.prog 60 #[.slice a 1 c] u fun e w' => e = .returned (.int .i64 1) ∧ u = w') := fun u k => by
    have := length_any [1] ⟨Dg.cons (by decide) (by decide) Dg.nil, fun _ => by decide⟩ (by decide) _ u (h1.kept k)
    rw [nv1, bl1] at this
    exact this
  have Kb : Hid (∀ u, Kept w u → Calls Tryd.prog 60 #[.slice b 1 d] u fun e w' => e = .returned (.int .i64 2) ∧ u = w') := fun u k => by
    have := length_any [3] ⟨Dg.cons (by decide) (by decide) Dg.nil, fun _ => by decide⟩ (by decide) _ u (h2.kept k)
    rw [nv3, bl3] at this
    exact this
  have Kd : Hid (∀ u, Kept w u → Calls Tryd.prog 106 #[.slice b 1 d, .int .i64 1, .int .i64 (-28)] u fun e w' => e = .returned (.slice (some ⟨u.heap.size, 0, none⟩) 1 1) ∧ Own w' u.heap.size 1 [805306368] ∧ Kept u w') := fun u k => by
    have := pieces_any [3] (Dg.cons (by decide) (by decide) Dg.nil) (.slice b 1 d) 1 (by decide) (-28) (by decide) u (h2.kept k)
    rw [show (List.range 1).map (fun i : Nat => pcz (nv [3]) (-28 + 30 * (i : Int))) = [805306368] by decide +kernel] at this
    exact this
  have Kl : Hid (∀ u, Kept w u → Calls Tryd.prog 106 #[.slice a 1 c, .int .i64 3, .int .i64 (-89)] u fun e w' => e = .returned (.slice (some ⟨u.heap.size, 0, none⟩) 3 3) ∧ Own w' u.heap.size 3 [0, 0, 536870912] ∧ Kept u w') := fun u k => by
    have := pieces_any [1] (Dg.cons (by decide) (by decide) Dg.nil) (.slice a 1 c) 3 (by decide) (-89) (by decide) u (h1.kept k)
    rw [show (List.range 3).map (fun i : Nat => pcz (nv [1]) (-89 + 30 * (i : Int))) = [0, 0, 536870912] by decide +kernel] at this
    exact this
  clear h1 h2
  have B1 : Hid (∀ u, Kept (((w.alloc (.cells #[.bool false, .slice a 1 c, .int .i64 0] 26)).alloc (.cells #[.bool false, .slice b 1 d, .int .i64 0] 26)).alloc nilLead) u → (u.cell? ⟨w.heap.size, 0, none⟩ = some (.bool false) ∧ u.cell? ⟨w.heap.size, 1, none⟩ = some (.slice a 1 c) ∧ u.cell? ⟨w.heap.size, 2, none⟩ = some (.int .i64 0)) ∧ (u.cell? ⟨w.heap.size + 1, 0, none⟩ = some (.bool false) ∧ u.cell? ⟨w.heap.size + 1, 1, none⟩ = some (.slice b 1 d) ∧ u.cell? ⟨w.heap.size + 1, 2, none⟩ = some (.int .i64 0)) ∧ (u.cell? ⟨w.heap.size + 2, 0, none⟩ = some (.bool false) ∧ u.cell? ⟨w.heap.size + 2, 1, none⟩ = some (.int .i64 0) ∧ u.cell? ⟨w.heap.size + 2, 2, none⟩ = some (.int .i64 0) ∧ u.cell? ⟨w.heap.size + 2, 3, none⟩ = some (.bool false)) ∧ ∀ o, u.frozen? ⟨w.heap.size + 2, o, none⟩ = false) := fun u k =>
    ⟨⟨(k.below.cell (p := ⟨w.heap.size, 0, none⟩) (by simp <;> omega)).trans (by simp [go_sem]), (k.below.cell (p := ⟨w.heap.size, 1, none⟩) (by simp <;> omega)).trans (by simp [go_sem]), (k.below.cell (p := ⟨w.heap.size, 2, none⟩) (by simp <;> omega)).trans (by simp [go_sem])⟩, ⟨(k.below.cell (p := ⟨w.heap.size + 1, 0, none⟩) (by simp <;> omega)).trans (by simp [go_sem]), (k.below.cell (p := ⟨w.heap.size + 1, 1, none⟩) (by simp <;> omega)).trans (by simp [go_sem]), (k.below.cell (p := ⟨w.heap.size + 1, 2, none⟩) (by simp <;> omega)).trans (by simp [go_sem])⟩, ⟨(k.below.cell (p := ⟨w.heap.size + 2, 0, none⟩) (by simp <;> omega)).trans (by simp [go_sem]), (k.below.cell (p := ⟨w.heap.size + 2, 1, none⟩) (by simp <;> omega)).trans (by simp [go_sem]), (k.below.cell (p := ⟨w.heap.size + 2, 2, none⟩) (by simp <;> omega)).trans (by simp [go_sem]), (k.below.cell (p := ⟨w.heap.size + 2, 3, none⟩) (by simp <;> omega)).trans (by simp [go_sem])⟩, fun o => (k.frozen _).trans (by simp [go_sem])⟩
  obtain ⟨W0, hW0⟩ : ∃ W0, ((w.alloc (.cells #[.bool false, .slice a 1 c, .int .i64 0] 26)).alloc (.cells #[.bool false, .slice b 1 d, .int .i64 0] 26)).alloc nilLead = W0 := ⟨_, rfl⟩
  have hsz : W0.heap.size = w.heap.size + 3 := by rw [← hW0]; simp
  rw [hW0] at hK B1
  have hM0 := Kept.refl W0
  obtain ⟨⟨p0, p1, p2⟩, ⟨q0, q1, q2⟩, ⟨o0, o1, o2, o3⟩, oF⟩ := B1.out _ hM0
  have z1 : IntKind.i64.wrap 0 = 0 := by decide
  go_enter Tryd.func91, Tryd.ntmps91
  go_wp2_with fail
  clear hW0
  refine wp_region_held_drew (S := fun u => u.cell? ⟨w.heap.size + 1, 1, none⟩ = some (.slice b 1 d)) (by kernel_rfl) q1 (fun hHeld => ?_)
  refine wpAnyH_take (i := 0) (v := ?_) rfl (by kernel_rfl) (by kernel_rfl) (by kernel_rfl) (fun _ _ _ h => h) (Or.inl ⟨by rfl, ?hya0⟩) (by assumption) ?_
  case hya0 => (intro w hSw; (try dsimp only at hSw); go_simp; try (with_reducible rfl))
  simp only [Act.put, List.getElem_toArray, List.getElem_cons_succ, List.getElem_cons_zero, List.setIfInBounds_toArray, List.set_cons_zero, List.set_cons_succ]
  refine wpAnyH_take (i := 1) (v := ?_) rfl (by kernel_rfl) (by kernel_rfl) (by kernel_rfl) (fun _ _ _ h => h) (Or.inl ⟨by rfl, ?hya1⟩) (by assumption) ?_
  case hya1 => (intro w hSw; (try dsimp only at hSw); go_simp; try (with_reducible rfl))
  simp only [Act.put, List.getElem_toArray, List.getElem_cons_succ, List.getElem_cons_zero, List.setIfInBounds_toArray, List.set_cons_zero, List.set_cons_succ]
  refine wpAnyH_take (i := 2) (v := ?_) rfl (by kernel_rfl) (by kernel_rfl) (by kernel_rfl) (fun _ _ _ h => h) (Or.inl ⟨by rfl, ?hya2⟩) (by assumption) ?_
  case hya2 => (intro w hSw; (try dsimp only at hSw); go_simp; try (with_reducible rfl))
  simp only [Act.put, List.getElem_toArray, List.getElem_cons_succ, List.getElem_cons_zero, List.setIfInBounds_toArray, List.set_cons_zero, List.set_cons_succ]
  refine wpAnyH_take (i := 3) (v := ?_) rfl (by kernel_rfl) (by kernel_rfl) (by kernel_rfl) (fun _ _ _ h => h) (Or.inl ⟨by rfl, ?hya3⟩) (by assumption) ?_
  case hya3 => (intro w hSw; (try dsimp only at hSw); go_simp; try (with_reducible rfl))
  simp only [Act.put, List.getElem_toArray, List.getElem_cons_succ, List.getElem_cons_zero, List.setIfInBounds_toArray, List.set_cons_zero, List.set_cons_succ]
  refine wpAnyH_take (i := 4) (v := ?_) rfl (by kernel_rfl) (by kernel_rfl) (by kernel_rfl) (fun _ _ _ h => h) (Or.inl ⟨by rfl, ?hya4⟩) (by assumption) ?_
  case hya4 => (intro w hSw; (try dsimp only at hSw); go_simp; try (with_reducible rfl))
  simp only [Act.put, List.getElem_toArray, List.getElem_cons_succ, List.getElem_cons_zero, List.setIfInBounds_toArray, List.set_cons_zero, List.set_cons_succ]
  refine wpAnyH_ready (rs := [5]) (by kernel_rfl) (by simp) ?_
  refine AllReadyH.cons rfl (fun K hK9 => ?_) AllReadyH.nil
  go_simp
  go_wp2_with (first | (go_at_call 60; refine (Kb.out _ hK.drew).mono ?_; rintro e u1 ⟨rfl, rfl⟩))
  refine hK9.out _ _ q1 (fun hHeld2 => ?_)
  clear hK9 K hHeld
  refine wpAnyH_take (i := 6) (v := ?_) rfl (by kernel_rfl) (by kernel_rfl) (by kernel_rfl) (fun _ _ _ h => h) (Or.inl ⟨by rfl, ?hyb6⟩) (by assumption) ?_
  case hyb6 => (intro w hSw; (try dsimp only at hSw); go_simp; try (with_reducible rfl))
  simp only [Act.put, List.getElem_toArray, List.getElem_cons_succ, List.getElem_cons_zero, List.setIfInBounds_toArray, List.set_cons_zero, List.set_cons_succ]
  refine wpAnyH_take (i := 7) (v := ?_) rfl (by kernel_rfl) (by kernel_rfl) (by kernel_rfl) (fun _ _ _ h => h) (Or.inl ⟨by rfl, ?hyb7⟩) (by assumption) ?_
  case hyb7 => (intro w hSw; (try dsimp only at hSw); go_simp; try (with_reducible rfl))
  simp only [Act.put, List.getElem_toArray, List.getElem_cons_succ, List.getElem_cons_zero, List.setIfInBounds_toArray, List.set_cons_zero, List.set_cons_succ]
  refine wpAnyH_done (by kernel_rfl) ?_ _
  clear hHeld2
  go_wp2_with fail
  refine (Kd.out _ hK.drew).mono ?_
  rintro e u1 ⟨rfl, od, ku1⟩
  have mu1 := hM0.drew.trans ku1
  clear p0 p1 p2 q0 q1 q2 o0 o1 o2 o3 oF
  obtain ⟨⟨p0, p1, p2⟩, ⟨q0, q1, q2⟩, ⟨o0, o1, o2, o3⟩, oF⟩ := B1.out _ mu1
  have OD : Hid (Own u1 W0.drew.heap.size 1 [805306368]) := od
  have HM : Hid (Kept W0 u1) := mu1
  have HU : Hid (Kept W0.drew u1) := ku1
  clear od mu1 ku1 oF o0 o1 o2 o3 p0 p2 q0 q2 z1
  go_wp2_with fail
  refine (Ka.out _ (hK.trans HM.out)).mono ?_
  rintro e u9 ⟨rfl, rfl⟩
  go_wp2_with fail
  refine (Kl.out _ (hK.trans HM.out)).mono ?_
  rintro e u2 ⟨rfl, ol, ku2⟩
  have HU2 : Hid (Kept u1 u2) := ku2
  obtain ⟨U, hU⟩ : ∃ U, u2.alloc (.cells #[.int .i64 0] 3) = U := ⟨_, rfl⟩
  have hUs : U.heap.size = u2.heap.size + 1 := by rw [← hU]; simp
  have hKU : Kept u2 U := by rw [← hU]; exact (Kept.refl _).alloc _ _
  have oU := ol.kept hKU
  have cU : U.cell? ⟨u2.heap.size, 0, none⟩ = some (.int .i64 0) := by rw [← hU]; simp [go_sem]
  obtain ⟨C, hC⟩ : ∃ C, grownCap U 4 3 3 = C := ⟨_, rfl⟩
  have hC4 : 4 ≤ C := by rw [← hC]; exact grownCap_ge _ _ _ _
  have hCm : C ≤ maxLen := by rw [← hC]; exact grownCap_le_maxLen _ _ _ _ (by simp [maxLen])
  obtain ⟨V, hV⟩ : ∃ V, U.drew.alloc (.cells (([0, 0, 536870912, 0].map (Value.int .i64)).toArray ++ Builtin.zeroCells (Value.int .i64 0).cells (C - 4)) 3) = V := ⟨_, rfl⟩
  have oV : Own V (u2.heap.size + 1) C [0, 0, 536870912, 0] := by
    have := own_grown U.drew [0, 0, 536870912, 0] C hC4 hCm
    rw [← hV, ← hUs]
    exact this
  have kV : Kept U V := by rw [← hV]; exact (Kept.refl U).drew.alloc _ _
  have HA : ∀ ty, (Builtin.append_ #[24, 24] ty #[.slice (some ⟨u1.heap.size, 0, none⟩) 3 3, .slice (some ⟨u2.heap.size, 0, none⟩) 1 1]).run Tryd.prog U = .ok (.slice (some ⟨u2.heap.size + 1, 0, none⟩) 4 C) V := by
    intro ty
    obtain ⟨i, hi, hz, hs, hby⟩ := info_parts (int_info)
    have := run_append_grow (P := Tryd.prog) U 24 ty 3 i (.int .i64 0) li_under hi hz ⟨u1.heap.size, 0, none⟩ 3 3 [.int .i64 0, .int .i64 0, .int .i64 536870912] (by simp [hs]) (fun j v hj => by
      rw [Addr.add_lit, Nat.zero_add]
      rcases j with _ | _ | _ | j
      · cases hj; exact oU.cell 0 (by simp)
      · cases hj; exact oU.cell 1 (by simp)
      · cases hj; exact oU.cell 2 (by simp)
      · simp at hj) ⟨u2.heap.size, 0, none⟩ 1 1 [.int .i64 0] (by simp [hs]) (fun j v hj => by
      rcases j with _ | j
      · cases hj; exact cU
      · simp at hj) (by omega) (by omega) (growslice_fits (by omega) (by rw [hby]; omega))
    rw [hC, hUs] at this
    rw [← hV]
    exact this
  have HHA : Hid (∀ ty, (Builtin.append_ #[24, 24] ty #[.slice (some ⟨u1.heap.size, 0, none⟩) 3 3, .slice (some ⟨u2.heap.size, 0, none⟩) 1 1]).run Tryd.prog U = .ok (.slice (some ⟨u2.heap.size + 1, 0, none⟩) 4 C) V) := HA
  have OV : Hid (Own V (u2.heap.size + 1) C [0, 0, 536870912, 0]) := oV
  have KV : Hid (Kept u1 V) := HU2.out.trans (hKU.trans kV)
  have HUs : Hid (U.heap.size = u2.heap.size + 1) := hUs
  clear HA oV kV hV hC oU cU ol ku2 hKU hUs hCm
  go_wp2_with (first | (at_builtin; refine wpList_append_run rfl _ _ _ rfl _ _ rfl rfl _ _ (HHA.out _) ?_))
  obtain ⟨g, hg⟩ : ∃ g, g = u2.heap.size + 1 := ⟨_, rfl⟩
  rw [← hg] at OV ⊢
  have hgt : w.heap.size + 3 < g := by
    have h1 := HM.out.below.size
    have h2 := HU2.out.below.size
    have h3 := OD.out.lt
    have h4 : W0.drew.heap.size = W0.heap.size := rfl
    rw [h4, hsz] at h3
    omega
  have v0 := OV.out.cell 0 (by simp)
  have v1 := OV.out.cell 1 (by simp)
  have v2 := OV.out.cell 2 (by simp)
  have v3 := OV.out.cell 3 (by simp)
  have vf := OV.out.free
  simp only [List.getD_cons_zero, List.getD_cons_succ] at v0 v1 v2 v3
  have vd : V.cell? ⟨w.heap.size + 3, 0, none⟩ = some (.int .i64 805306368) := by
    have h3 := (OD.out.kept KV.out).cell 0 (by simp)
    have h4 : W0.drew.heap.size = W0.heap.size := rfl
    rw [h4, hsz] at h3
    exact h3
  have HKV : Hid (Kept W0 V) := HM.out.trans KV.out
  have hgd : ¬ w.heap.size + 3 = g := by omega
  have n0 : ¬ C = 0 := by omega
  have n1 : ¬ C = 1 := by omega
  have n2 : ¬ C = 2 := by omega
  have y1 : bits .or .i64 0 0 = 0 := by decide
  have y2 : bits .or .i64 0 715827882 = 715827882 := by decide
  have y3 : bits .or .i64 768614335688736768 715827882 = 768614336404564650 := by decide
  have HG2 : Hid (g = u2.heap.size + 1) := hg
  clear hg OV KV HHA HU2 HU HUs hU p1 q1
  refine wp_loop_rounds 4 ?_
  rw [rounds_succ]
  go_wp2_with fail
  refine (take_lt g 2 _ (w.heap.size + 3) 536870912 805306368 (by decide) V v2 v3 vd).mono ?_
  rintro e V1 ⟨rfl, rfl⟩
  go_wp2_with fail
  rw [rounds_succ]
  go_wp2_with fail
  refine (take_B g 1 _ (w.heap.size + 3) hgd V.drew v1 v2 vd (vf 1) (vf 2)).mono ?_
  rintro e V2 ⟨rfl, s1, s2, s3, G2⟩
  have s0 : V2.cell? ⟨g, 0, none⟩ = some (.int .i64 0) := (s3 0 (by decide) (by decide)).trans v0
  have sd : V2.cell? ⟨w.heap.size + 3, 0, none⟩ = some (.int .i64 805306368) := (World.cell?_of_block (a := ⟨w.heap.size + 3, 0, none⟩) (G2.grown.block _ (lt_of_cell (w := V.drew) vd) (by simpa using hgd))).trans vd
  have sf0 : V2.frozen? ⟨g, 0, none⟩ = false := (G2.frozen _).trans (vf 0)
  have sf1 : V2.frozen? ⟨g, 1, none⟩ = false := (G2.frozen _).trans (vf 1)
  have HG3 : Hid (Grw g V.drew V2) := G2
  clear v0 v1 v2 v3 vd vf s3 G2
  go_wp2_with fail
  rw [rounds_succ]
  go_wp2_with fail
  refine (take_B g 0 _ (w.heap.size + 3) hgd V2 s0 s1 sd sf0 sf1).mono ?_
  rintro e V3 ⟨rfl, t0, t1, t3, G3⟩
  have HG4 : Hid (Grw g V2 V3) := G3
  have kW : Kept W0 V3 := (HKV.out.drew.grw (by have := HG2.out; have := hgt; rw [hsz]; omega) HG3.out).grw (by rw [hsz]; omega) G3
  clear t3 G3 s0 s1 s2 sd sf0 sf1
  obtain ⟨⟨p0, p1, p2⟩, ⟨q0, q1, q2⟩, ⟨o0, o1, o2, o3⟩, oF⟩ := B1.out _ kW
  go_wp2_with fail
  rw [rounds_succ]
  go_wp2
  refine wp_loop_rounds 2 ?_
  rw [rounds_succ]
  go_wp2
  rw [rounds_succ]
  go_wp2
  have w0 : IntKind.i64.wrap 0 = 0 := by decide
  have w1 : IntKind.i64.wrap 1 = 1 := by decide
  have w2 : IntKind.i64.wrap (-1) = -1 := by decide
  have w3 : IntKind.i64.wrap (-61) = -61 := by decide
  refine wp_region_held_drew (S := fun u => (u.cell? ⟨w.heap.size, 0, none⟩ = some (.bool false) ∧ u.cell? ⟨w.heap.size, 1, none⟩ = some (.slice a 1 c) ∧ u.cell? ⟨w.heap.size, 2, none⟩ = some (.int .i64 0)) ∧ u.cell? ⟨w.heap.size + 1, 0, none⟩ = some (.bool false) ∧ u.cell? ⟨w.heap.size + 1, 2, none⟩ = some (.int .i64 0)) (by kernel_rfl) ⟨⟨p0, p1, p2⟩, q0, q2⟩ (fun hHeld => ?_)
  refine wpAnyH_take (i := 0) (v := ?_) rfl (by kernel_rfl) (by kernel_rfl) (by kernel_rfl) (fun _ _ _ h => h) (Or.inl ⟨by rfl, ?hym0⟩) (by assumption) ?_
  case hym0 => (intro w hSw; (try dsimp only at hSw); go_simp; try (with_reducible rfl))
  simp only [Act.put, List.getElem_toArray, List.getElem_cons_succ, List.getElem_cons_zero, List.setIfInBounds_toArray, List.set_cons_zero, List.set_cons_succ]
  refine wpAnyH_take (i := 1) (v := ?_) rfl (by kernel_rfl) (by kernel_rfl) (by kernel_rfl) (fun _ _ _ h => h) (Or.inl ⟨by rfl, ?hym1⟩) (by assumption) ?_
  case hym1 => (intro w hSw; (try dsimp only at hSw); go_simp; try (with_reducible rfl))
  simp only [Act.put, List.getElem_toArray, List.getElem_cons_succ, List.getElem_cons_zero, List.setIfInBounds_toArray, List.set_cons_zero, List.set_cons_succ]
  refine wpAnyH_take (i := 2) (v := ?_) rfl (by kernel_rfl) (by kernel_rfl) (by kernel_rfl) (fun _ _ _ h => h) (Or.inl ⟨by rfl, ?hym2⟩) (by assumption) ?_
  case hym2 => (intro w hSw; (try dsimp only at hSw); go_simp; try (with_reducible rfl))
  simp only [Act.put, List.getElem_toArray, List.getElem_cons_succ, List.getElem_cons_zero, List.setIfInBounds_toArray, List.set_cons_zero, List.set_cons_succ]
  refine wpAnyH_take (i := 3) (v := ?_) rfl (by kernel_rfl) (by kernel_rfl) (by kernel_rfl) (fun _ _ _ h => h) (Or.inl ⟨by rfl, ?hym3⟩) (by assumption) ?_
  case hym3 => (intro w hSw; (try dsimp only at hSw); go_simp; try (with_reducible rfl))
  simp only [Act.put, List.getElem_toArray, List.getElem_cons_succ, List.getElem_cons_zero, List.setIfInBounds_toArray, List.set_cons_zero, List.set_cons_succ]
  refine wpAnyH_take (i := 4) (v := ?_) rfl (by kernel_rfl) (by kernel_rfl) (by kernel_rfl) (fun _ _ _ h => h) (Or.inl ⟨by rfl, ?hym4⟩) (by assumption) ?_
  case hym4 => (intro w hSw; (try dsimp only at hSw); go_simp; try (with_reducible rfl))
  simp only [Act.put, List.getElem_toArray, List.getElem_cons_succ, List.getElem_cons_zero, List.setIfInBounds_toArray, List.set_cons_zero, List.set_cons_succ]
  refine wpAnyH_take (i := 5) (v := ?_) rfl (by kernel_rfl) (by kernel_rfl) (by kernel_rfl) (fun _ _ _ h => h) (Or.inl ⟨by rfl, ?hym5⟩) (by assumption) ?_
  case hym5 => (intro w hSw; (try dsimp only at hSw); go_simp; try (with_reducible rfl))
  simp only [Act.put, List.getElem_toArray, List.getElem_cons_succ, List.getElem_cons_zero, List.setIfInBounds_toArray, List.set_cons_zero, List.set_cons_succ]
  refine wpAnyH_take (i := 6) (v := ?_) rfl (by kernel_rfl) (by kernel_rfl) (by kernel_rfl) (fun _ _ _ h => h) (Or.inl ⟨by rfl, ?hym6⟩) (by assumption) ?_
  case hym6 => (intro w hSw; (try dsimp only at hSw); go_simp; try (with_reducible rfl))
  simp only [Act.put, List.getElem_toArray, List.getElem_cons_succ, List.getElem_cons_zero, List.setIfInBounds_toArray, List.set_cons_zero, List.set_cons_succ]
  refine wpAnyH_take (i := 7) (v := ?_) rfl (by kernel_rfl) (by kernel_rfl) (by kernel_rfl) (fun _ _ _ h => h) (Or.inl ⟨by rfl, ?hym7⟩) (by assumption) ?_
  case hym7 => (intro w hSw; (try dsimp only at hSw); go_simp; try (with_reducible rfl))
  simp only [Act.put, List.getElem_toArray, List.getElem_cons_succ, List.getElem_cons_zero, List.setIfInBounds_toArray, List.set_cons_zero, List.set_cons_succ]
  refine wpAnyH_take (i := 8) (v := ?_) rfl (by kernel_rfl) (by kernel_rfl) (by kernel_rfl) (fun _ _ _ h => h) (Or.inl ⟨by rfl, ?hym8⟩) (by assumption) ?_
  case hym8 => (intro w hSw; (try dsimp only at hSw); go_simp; try (with_reducible rfl))
  simp only [Act.put, List.getElem_toArray, List.getElem_cons_succ, List.getElem_cons_zero, List.setIfInBounds_toArray, List.set_cons_zero, List.set_cons_succ]
  refine wpAnyH_take (i := 9) (v := ?_) rfl (by kernel_rfl) (by kernel_rfl) (by kernel_rfl) (fun _ _ _ h => h) (Or.inl ⟨by rfl, ?hym9⟩) (by assumption) ?_
  case hym9 => (intro w hSw; (try dsimp only at hSw); go_simp; try (with_reducible rfl))
  simp only [Act.put, List.getElem_toArray, List.getElem_cons_succ, List.getElem_cons_zero, List.setIfInBounds_toArray, List.set_cons_zero, List.set_cons_succ]
  refine wpAnyH_take (i := 10) (v := ?_) rfl (by kernel_rfl) (by kernel_rfl) (by kernel_rfl) (fun _ _ _ h => h) (Or.inl ⟨by rfl, ?hym10⟩) (by assumption) ?_
  case hym10 => (intro w hSw; (try dsimp only at hSw); go_simp; try (with_reducible rfl))
  simp only [Act.put, List.getElem_toArray, List.getElem_cons_succ, List.getElem_cons_zero, List.setIfInBounds_toArray, List.set_cons_zero, List.set_cons_succ]
  refine wpAnyH_take (i := 11) (v := ?_) rfl (by kernel_rfl) (by kernel_rfl) (by kernel_rfl) (fun _ _ _ h => h) (Or.inl ⟨by rfl, ?hym11⟩) (by assumption) ?_
  case hym11 => (intro w hSw; (try dsimp only at hSw); go_simp; try (with_reducible rfl))
  simp only [Act.put, List.getElem_toArray, List.getElem_cons_succ, List.getElem_cons_zero, List.setIfInBounds_toArray, List.set_cons_zero, List.set_cons_succ]
  refine wpAnyH_take (i := 12) (v := ?_) rfl (by kernel_rfl) (by kernel_rfl) (by kernel_rfl) (fun _ _ _ h => h) (Or.inl ⟨by rfl, ?hym12⟩) (by assumption) ?_
  case hym12 => (intro w hSw; (try dsimp only at hSw); go_simp; try (with_reducible rfl))
  simp only [Act.put, List.getElem_toArray, List.getElem_cons_succ, List.getElem_cons_zero, List.setIfInBounds_toArray, List.set_cons_zero, List.set_cons_succ]
  refine wpAnyH_take (i := 15) (v := ?_) rfl (by kernel_rfl) (by kernel_rfl) (by kernel_rfl) (fun _ _ _ h => h) (Or.inl ⟨by rfl, ?hym15⟩) (by assumption) ?_
  case hym15 => (intro w hSw; (try dsimp only at hSw); go_simp; try (with_reducible rfl))
  simp only [Act.put, List.getElem_toArray, List.getElem_cons_succ, List.getElem_cons_zero, List.setIfInBounds_toArray, List.set_cons_zero, List.set_cons_succ]
  refine wpAnyH_take (i := 18) (v := ?_) rfl (by kernel_rfl) (by kernel_rfl) (by kernel_rfl) (fun _ _ _ h => h) (Or.inl ⟨by rfl, ?hym18⟩) (by assumption) ?_
  case hym18 => (intro w hSw; (try dsimp only at hSw); go_simp; try (with_reducible rfl))
  simp only [Act.put, List.getElem_toArray, List.getElem_cons_succ, List.getElem_cons_zero, List.setIfInBounds_toArray, List.set_cons_zero, List.set_cons_succ]
  refine wpAnyH_ready (rs := [13]) (by kernel_rfl) (by simp) ?_
  refine AllReadyH.cons rfl (fun K hK9 => ?_) AllReadyH.nil
  go_simp
  go_wp2_with (first | (go_at_call 60; refine (Ka.out _ (hK.trans kW.drew)).mono ?_; rintro e u9 ⟨rfl, rfl⟩))
  refine hK9.out _ _ ⟨⟨p0, p1, p2⟩, q0, q2⟩ (fun hHeld2 => ?_)
  clear hK9 K hHeld
  refine wpAnyH_take (i := 14) (v := ?_) rfl (by kernel_rfl) (by kernel_rfl) (by kernel_rfl) (fun _ _ _ h => h) (Or.inl ⟨by rfl, ?hyn14⟩) (by assumption) ?_
  case hyn14 => (intro w hSw; (try dsimp only at hSw); go_simp; try (with_reducible rfl))
  simp only [Act.put, List.getElem_toArray, List.getElem_cons_succ, List.getElem_cons_zero, List.setIfInBounds_toArray, List.set_cons_zero, List.set_cons_succ]
  refine wpAnyH_take (i := 16) (v := ?_) rfl (by kernel_rfl) (by kernel_rfl) (by kernel_rfl) (fun _ _ _ h => h) (Or.inl ⟨by rfl, ?hyn16⟩) (by assumption) ?_
  case hyn16 => (intro w hSw; (try dsimp only at hSw); go_simp; try (with_reducible rfl))
  simp only [Act.put, List.getElem_toArray, List.getElem_cons_succ, List.getElem_cons_zero, List.setIfInBounds_toArray, List.set_cons_zero, List.set_cons_succ]
  refine wpAnyH_take (i := 17) (v := ?_) rfl (by kernel_rfl) (by kernel_rfl) (by kernel_rfl) (fun _ _ _ h => h) (Or.inl ⟨by rfl, ?hyn17⟩) (by assumption) ?_
  case hyn17 => (intro w hSw; (try dsimp only at hSw); go_simp; try (with_reducible rfl))
  simp only [Act.put, List.getElem_toArray, List.getElem_cons_succ, List.getElem_cons_zero, List.setIfInBounds_toArray, List.set_cons_zero, List.set_cons_succ]
  refine wpAnyH_take (i := 19) (v := ?_) rfl (by kernel_rfl) (by kernel_rfl) (by kernel_rfl) (fun _ _ _ h => h) (Or.inl ⟨by rfl, ?hyn19⟩) (by assumption) ?_
  case hyn19 => (intro w hSw; (try dsimp only at hSw); go_simp; try (with_reducible rfl))
  simp only [Act.put, List.getElem_toArray, List.getElem_cons_succ, List.getElem_cons_zero, List.setIfInBounds_toArray, List.set_cons_zero, List.set_cons_succ]
  refine wpAnyH_ready (rs := [20]) (by kernel_rfl) (by simp) ?_
  refine AllReadyH.cons rfl (fun K hK9 => ?_) AllReadyH.nil
  go_simp
  refine hK9.out _ _ ⟨⟨(set4' _ _ _ _ (by omega) _ _ _ _).trans p0, (set4' _ _ _ _ (by omega) _ _ _ _).trans p1, (set4' _ _ _ _ (by omega) _ _ _ _).trans p2⟩, (set4' _ _ _ _ (by omega) _ _ _ _).trans q0, (set4' _ _ _ _ (by omega) _ _ _ _).trans q2⟩ (fun hHeld3 => ?_)
  clear hK9 K hHeld2
  refine wpAnyH_done (by kernel_rfl) ?_ _
  clear hHeld3
  go_wp2
  refine bodyPost_ret (v := third) (by simp [results, Tryd.results91, go_sem, o0, o1, o2, o3]) rfl ⟨rfl, ?_⟩
  first
  | exact ((hK.trans kW).drew.setCell (by simp <;> omega) _ |>.setCell (by simp <;> omega) _ |>.setCell (by simp <;> omega) _ |>.setCell (by simp <;> omega) _)
  | exact ((hK.trans kW).setCell (by simp <;> omega) _ |>.setCell (by simp <;> omega) _ |>.setCell (by simp <;> omega) _ |>.setCell (by simp <;> omega) _).drew
end Go.Proofs.YtalhnaakbekboaaDoor
