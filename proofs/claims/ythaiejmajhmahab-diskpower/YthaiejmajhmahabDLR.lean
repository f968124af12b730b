/- Package disk: forget. -/
import Derived.Test.YthaiejmajhmahabDLQ
namespace Go.Proofs.Ythaiejmajhmahab
open Go.ChangeShapes Go.WideShapes Go.ChangeAt Go.RowKit Go.Maps
set_option linter.unusedVariables false
set_option linter.unusedSimpArgs false

theorem kept_cell {w u : World} (k : Kept w u) {p : Addr} {v : Value} (h : w.cell? p = some v) : u.cell? p = some v := by
  rw [k.below.cell (World.block_lt_of_cell? w p h)]
  exact h
set_option maxHeartbeats 4000000 in
set_option maxRecDepth 100000 in
theorem forget_any (O : Nat → Prop) (B : Nat) (a : Da) (d : Dk) (w : World) (hd : DSt w O B a d) (hW : d.W.length < 99999999) :
    Calls Try.prog 27 #[.pointer (some ⟨B, 0, none⟩)] w fun e w' => e = .returned (.tuple #[]) ∧ ForI w O B a d d.W.length w' := by
  have hc7 := hd.blk.cell 7 _ rfl
  have hI := ForI.start hd
  obtain ⟨n, hn⟩ : ∃ n, d.W.length = n := ⟨_, rfl⟩
  have hpf : ∃ ao c, a.pv = .slice ao n c := by rw [← hn]; exact hd.wks.ms.form
  obtain ⟨ao, c, hpv⟩ := hpf
  rw [hpv] at hc7
  have HN := hid hn
  have HPV := hid hpv
  have HnB := hid (show n < 99999999 by rw [← hn]; exact hW)
  rw [hn]
  clear hd hpv hW hn
  go_enter Try.func27, Try.ntmps27
  go_wp2_with fail
  go_loopw [9] (fun iv wr => ∃ i : Nat, iv = .int .i64 i ∧ i ≤ n ∧ ForI w O B a d i wr) (fun v _ => match v with | .int _ i => n - i.toNat | _ => 0)
  case atStart => exact ⟨0, rfl, Nat.zero_le n, hI⟩
  case round =>
    clear hc7 hI
    obtain ⟨i, rfl, hi, hS⟩ := hrel
    by_cases hp : i < n
    · obtain ⟨x, v, g, cap, hx, hvf, hpv2, hcells, hB6, hB7, hfz, hhas⟩ := hS.at_ (by rw [HN.out]; exact hp)
      have e := HPV.out.symm.trans hpv2
      rw [HN.out] at e
      simp only [Value.slice.injEq] at e
      obtain ⟨rfl, -, rfl⟩ := e
      rw [HPV.out] at hB7
      obtain ⟨av, nv, cv, rfl⟩ := hvf
      have c0 : wr.cell? ⟨g, i * 6, none⟩ = some (.int .i64 x.kind) := hcells 0 (by decide)
      have c1 : wr.cell? ⟨g, i * 6 + 1, none⟩ = some (.string x.nm) := hcells 1 (by decide)
      have c2 : wr.cell? ⟨g, i * 6 + 2, none⟩ = some (.string x.to_) := hcells 2 (by decide)
      have c3 : wr.cell? ⟨g, i * 6 + 3, none⟩ = some (.int .i64 x.len) := hcells 3 (by decide)
      have c4 : wr.cell? ⟨g, i * 6 + 4, none⟩ = some (.pointer (some ⟨x.file, 0, none⟩)) := hcells 4 (by decide)
      have c5 : wr.cell? ⟨g, i * 6 + 5, none⟩ = some (.slice av nv cv) := hcells 5 (by decide)
      have HC := hid (show ∀ u, Kept wr u → (u.cell? ⟨B, 7, none⟩ = some (.slice (some ⟨g, 0, none⟩) n c) ∧ u.cell? ⟨B, 6, none⟩ = some (.map (some a.mF))) ∧ ∀ j, j < 6 → (∃ z, u.cell? ⟨g, i * 6 + j, none⟩ = some z) ∧ u.frozen? ⟨g, i * 6 + j, none⟩ = false from fun u k => by
        have hc : ∀ {p : Addr} {v : Value}, wr.cell? p = some v → u.cell? p = some v := fun {p v} hv => kept_cell k hv
        refine ⟨⟨hc hB7, hc hB6⟩, fun j hj => ⟨?_, (k.frozen ⟨g, i * 6 + j, none⟩ (World.block_lt_of_cell? wr ⟨g, i * 6, none⟩ c0)).trans (hfz _)⟩⟩
        have := hcells j hj
        rw [List.getElem?_eq_getElem (show j < (wcell x (.slice av nv cv)).length from hj)] at this
        exact ⟨_, hc this⟩)
      clear hcells hpv2 hB6 hB7 hfz
      have HS := hid hS
      have HX := hid hx
      have HH := hid hhas
      obtain ⟨M, hM⟩ : ∃ M, wr.heap.size = M := ⟨_, rfl⟩
      have hA := arr_new wr [.int .i64 x.kind, .string x.nm, .string x.to_, .int .i64 x.len, .pointer (some ⟨x.file, 0, none⟩), .slice av nv cv] 59
      rw [hM] at hA
      have HA := hid hA
      have kA : Kept wr (wr.alloc (.cells #[.int .i64 x.kind, .string x.nm, .string x.to_, .int .i64 x.len, .pointer (some ⟨x.file, 0, none⟩), .slice av nv cv] 59)) := (Kept.refl wr).alloc _ _
      have KA := hid kA
      clear hS hx hA kA hhas
      have HI := hid hi
      clear hi
      go_wp2_with fail
      try rw [hM]
      obtain ⟨U, hU⟩ : ∃ U, U = wr.alloc (.cells #[.int .i64 x.kind, .string x.nm, .string x.to_, .int .i64 x.len, .pointer (some ⟨x.file, 0, none⟩), .slice av nv cv] 59) := ⟨_, rfl⟩
      rw [← hU] at HA KA
      rw [← hU]
      clear hU c0 c1 c2 c3 c4 c5
      have hB := (HC.out _ (KA.out.trans ((Kept.refl U).drew))).1
      have HAd := hid (HA.out.kept ((Kept.refl U).drew))
      have hAd := six HAd.out
      have kd := KA.out.trans ((Kept.refl U).drew)
      have HKd := hid kd
      have hHas := hid (HH.out _ kd)
      clear kd
      refine wp_region_late [] (fun u => (u.cell? ⟨M, 0, none⟩ = some (.int .i64 x.kind) ∧ u.cell? ⟨M, 1, none⟩ = some (.string x.nm) ∧ u.cell? ⟨M, 2, none⟩ = some (.string x.to_) ∧ u.cell? ⟨M, 3, none⟩ = some (.int .i64 x.len) ∧ u.cell? ⟨M, 4, none⟩ = some (.pointer (some ⟨x.file, 0, none⟩)) ∧ u.cell? ⟨M, 5, none⟩ = some (.slice av nv cv)) ∧ u.cell? ⟨B, 6, none⟩ = some (.map (some a.mF))) (by kernel_rfl) (show _ ∧ _ from ⟨hAd, hB.2⟩) (fun hHeld => ?_)
      refine wpAnyD_take (i := 0) (v := ?_) rfl (by kernel_rfl) (by kernel_rfl) (by kernel_rfl) (by kernel_rfl) (fun _ _ _ h => h) (Or.inl ⟨by rfl, ?hyq0⟩) hHeld ?_
      case hyq0 => (intro w hSw; (try dsimp only at hSw); go_simp; try (with_reducible rfl))
      (try simp only [Act.put, List.getElem_toArray, List.getElem_cons_succ, List.getElem_cons_zero, List.setIfInBounds_toArray, List.set_cons_zero, List.set_cons_succ])
      refine wpAnyD_take (i := 1) (v := ?_) rfl (by kernel_rfl) (by kernel_rfl) (by kernel_rfl) (by kernel_rfl) (fun _ _ _ h => h) (Or.inl ⟨by rfl, ?hyq1⟩) hHeld ?_
      case hyq1 => (intro w hSw; (try dsimp only at hSw); go_simp; try (with_reducible rfl))
      (try simp only [Act.put, List.getElem_toArray, List.getElem_cons_succ, List.getElem_cons_zero, List.setIfInBounds_toArray, List.set_cons_zero, List.set_cons_succ])
      refine wpAnyD_take (i := 2) (v := ?_) rfl (by kernel_rfl) (by kernel_rfl) (by kernel_rfl) (by kernel_rfl) (fun _ _ _ h => h) (Or.inl ⟨by rfl, ?hyq2⟩) hHeld ?_
      case hyq2 => (intro w hSw; (try dsimp only at hSw); go_simp; try (with_reducible rfl))
      (try simp only [Act.put, List.getElem_toArray, List.getElem_cons_succ, List.getElem_cons_zero, List.setIfInBounds_toArray, List.set_cons_zero, List.set_cons_succ])
      refine wpAnyD_take (i := 3) (v := ?_) rfl (by kernel_rfl) (by kernel_rfl) (by kernel_rfl) (by kernel_rfl) (fun _ _ _ h => h) (Or.inl ⟨by rfl, ?hyq3⟩) hHeld ?_
      case hyq3 => (intro w hSw; (try dsimp only at hSw); go_simp; try (with_reducible rfl))
      (try simp only [Act.put, List.getElem_toArray, List.getElem_cons_succ, List.getElem_cons_zero, List.setIfInBounds_toArray, List.set_cons_zero, List.set_cons_succ])
      refine wpAnyD_take (i := 4) (v := ?_) rfl (by kernel_rfl) (by kernel_rfl) (by kernel_rfl) (by kernel_rfl) (fun _ _ _ h => h) (Or.inl ⟨by rfl, ?hyq4⟩) hHeld ?_
      case hyq4 => (intro w hSw; (try dsimp only at hSw); go_simp; try (with_reducible rfl))
      (try simp only [Act.put, List.getElem_toArray, List.getElem_cons_succ, List.getElem_cons_zero, List.setIfInBounds_toArray, List.set_cons_zero, List.set_cons_succ])
      refine wpAnyD_take (i := 5) (v := ?_) rfl (by kernel_rfl) (by kernel_rfl) (by kernel_rfl) (by kernel_rfl) (fun _ _ _ h => h) (Or.inl ⟨by rfl, ?hyq5⟩) hHeld ?_
      case hyq5 => (intro w hSw; (try dsimp only at hSw); go_simp; try (with_reducible rfl))
      (try simp only [Act.put, List.getElem_toArray, List.getElem_cons_succ, List.getElem_cons_zero, List.setIfInBounds_toArray, List.set_cons_zero, List.set_cons_succ])
      refine wpAnyD_step (i := 6) (by kernel_rfl) rfl (fun K hK9 => ?_)
      go_simp
      go_wp2_with fail
      refine (hHas.out).mono ?_
      rintro e u9 ⟨⟨bb, rfl, hbb⟩, k9⟩
      have k7 := k9
      refine hK9.out _ _ ((show _ ∧ _ from ⟨six (HAd.out.kept (by assumption)), (HC.out _ (HKd.out.trans (by assumption))).1.2⟩)) (fun hHeld9 => ?_)
      clear hK9 K
      refine wpAnyD_take (i := 7) (v := ?_) rfl (by kernel_rfl) (by kernel_rfl) (by kernel_rfl) (by kernel_rfl) (fun _ _ _ h => h) (Or.inl ⟨by rfl, ?hyr7⟩) hHeld9 ?_
      case hyr7 => (intro w hSw; (try dsimp only at hSw); go_simp; try (with_reducible rfl))
      (try simp only [Act.put, List.getElem_toArray, List.getElem_cons_succ, List.getElem_cons_zero, List.setIfInBounds_toArray, List.set_cons_zero, List.set_cons_succ])
      refine wpAnyD_done (by kernel_rfl) ?_ _
      (try simp only [Act.put, List.getElem_toArray, List.getElem_cons_succ, List.getElem_cons_zero, List.setIfInBounds_toArray, List.set_cons_zero, List.set_cons_succ])
      have k9 := HKd.out.trans k9
      have K9 := hid k9
      have HBB := hid hbb
      have hMu := hid ((HAd.out.kept k7).kept ((Kept.refl u9).drew))
      have hCu := HC.out _ (k9.trans ((Kept.refl u9).drew))
      have hBu := hid hCu.1
      have kal := k9.trans (((Kept.refl u9).alloc #[.slice none 0 0, .slice none 0 0] 64).drew)
      have hMv := hid ((HAd.out.kept k7).kept (((Kept.refl u9).alloc #[.slice none 0 0, .slice none 0 0] 64).drew))
      have hCv := HC.out _ kal
      have hBv := hid hCv.1
      obtain ⟨⟨z0, e0⟩, f0⟩ := hCv.2 0 (by decide)
      obtain ⟨⟨z1, e1⟩, f1⟩ := hCv.2 1 (by decide)
      obtain ⟨⟨z2, e2⟩, f2⟩ := hCv.2 2 (by decide)
      obtain ⟨⟨z3, e3⟩, f3⟩ := hCv.2 3 (by decide)
      obtain ⟨⟨z4, e4⟩, f4⟩ := hCv.2 4 (by decide)
      obtain ⟨⟨z5, e5⟩, f5⟩ := hCv.2 5 (by decide)
      rw [Nat.add_zero] at e0 f0
      have hCx := HC.out _ (k9.trans ((Kept.refl u9).alloc #[.slice none 0 0, .slice none 0 0] 64))
      obtain ⟨⟨y1, d1⟩, p1⟩ := hCx.2 1 (by decide)
      obtain ⟨⟨y2, d2⟩, p2⟩ := hCx.2 2 (by decide)
      obtain ⟨⟨y3, d3⟩, p3⟩ := hCx.2 3 (by decide)
      obtain ⟨⟨y4, d4⟩, p4⟩ := hCx.2 4 (by decide)
      obtain ⟨⟨y5, d5⟩, p5⟩ := hCx.2 5 (by decide)
      clear hCx e1 e2 e3 e4 e5 f1 f2 f3 f4 f5
      clear hHeld hHeld9 hB hAd hCu hCv kal k9 k7
      have h9 : wrap64 ((i : Int) + 1) = i + 1 := by unfold wrap64; have := HnB.out; omega
      have H9 := hid h9
      clear h9
      cases bb
      · clear hbb
        go_wp2_with fail
        refine wp_region_late [11] (fun u => (u.cell? ⟨M, 0, none⟩ = some (.int .i64 x.kind) ∧ u.cell? ⟨M, 1, none⟩ = some (.string x.nm) ∧ u.cell? ⟨M, 2, none⟩ = some (.string x.to_) ∧ u.cell? ⟨M, 3, none⟩ = some (.int .i64 x.len) ∧ u.cell? ⟨M, 4, none⟩ = some (.pointer (some ⟨x.file, 0, none⟩)) ∧ u.cell? ⟨M, 5, none⟩ = some (.slice av nv cv)) ∧ u.cell? ⟨B, 7, none⟩ = some (.slice (some ⟨g, 0, none⟩) n c)) (by kernel_rfl) (show _ ∧ _ from ⟨six hMu.out, hBu.out.1⟩) (fun hHeld => ?_)
        refine wpAnyD_take (i := 0) (v := ?_) rfl (by kernel_rfl) (by kernel_rfl) (by kernel_rfl) (by kernel_rfl) (fun _ _ _ h => h) (Or.inl ⟨by rfl, ?hys0⟩) hHeld ?_
        case hys0 => (intro w hSw; (try dsimp only at hSw); go_simp; try (with_reducible rfl))
        (try simp only [Act.put, List.getElem_toArray, List.getElem_cons_succ, List.getElem_cons_zero, List.setIfInBounds_toArray, List.set_cons_zero, List.set_cons_succ])
        refine wpAnyD_take (i := 1) (v := ?_) rfl (by kernel_rfl) (by kernel_rfl) (by kernel_rfl) (by kernel_rfl) (fun _ _ _ h => h) (Or.inl ⟨by rfl, ?hys1⟩) hHeld ?_
        case hys1 => (intro w hSw; (try dsimp only at hSw); go_simp; try (with_reducible rfl))
        (try simp only [Act.put, List.getElem_toArray, List.getElem_cons_succ, List.getElem_cons_zero, List.setIfInBounds_toArray, List.set_cons_zero, List.set_cons_succ])
        refine wpAnyD_take (i := 2) (v := ?_) rfl (by kernel_rfl) (by kernel_rfl) (by kernel_rfl) (by kernel_rfl) (fun _ _ _ h => h) (Or.inl ⟨by rfl, ?hys2⟩) hHeld ?_
        case hys2 => (intro w hSw; (try dsimp only at hSw); go_simp; try (with_reducible rfl))
        (try simp only [Act.put, List.getElem_toArray, List.getElem_cons_succ, List.getElem_cons_zero, List.setIfInBounds_toArray, List.set_cons_zero, List.set_cons_succ])
        refine wpAnyD_take (i := 3) (v := ?_) rfl (by kernel_rfl) (by kernel_rfl) (by kernel_rfl) (by kernel_rfl) (fun _ _ _ h => h) (Or.inl ⟨by rfl, ?hys3⟩) hHeld ?_
        case hys3 => (intro w hSw; (try dsimp only at hSw); go_simp; try (with_reducible rfl))
        (try simp only [Act.put, List.getElem_toArray, List.getElem_cons_succ, List.getElem_cons_zero, List.setIfInBounds_toArray, List.set_cons_zero, List.set_cons_succ])
        refine wpAnyD_take (i := 4) (v := ?_) rfl (by kernel_rfl) (by kernel_rfl) (by kernel_rfl) (by kernel_rfl) (fun _ _ _ h => h) (Or.inl ⟨by rfl, ?hys4⟩) hHeld ?_
        case hys4 => (intro w hSw; (try dsimp only at hSw); go_simp; try (with_reducible rfl))
        (try simp only [Act.put, List.getElem_toArray, List.getElem_cons_succ, List.getElem_cons_zero, List.setIfInBounds_toArray, List.set_cons_zero, List.set_cons_succ])
        refine wpAnyD_take (i := 5) (v := ?_) rfl (by kernel_rfl) (by kernel_rfl) (by kernel_rfl) (by kernel_rfl) (fun _ _ _ h => h) (Or.inl ⟨by rfl, ?hys5⟩) hHeld ?_
        case hys5 => (intro w hSw; (try dsimp only at hSw); go_simp; try (with_reducible rfl))
        (try simp only [Act.put, List.getElem_toArray, List.getElem_cons_succ, List.getElem_cons_zero, List.setIfInBounds_toArray, List.set_cons_zero, List.set_cons_succ])
        refine wpAnyD_take (i := 6) (v := ?_) rfl (by kernel_rfl) (by kernel_rfl) (by kernel_rfl) (by kernel_rfl) (fun _ _ _ h => h) (Or.inl ⟨by rfl, ?hys6⟩) hHeld ?_
        case hys6 => (intro w hSw; (try dsimp only at hSw); go_simp; try (with_reducible rfl))
        (try simp only [Act.put, List.getElem_toArray, List.getElem_cons_succ, List.getElem_cons_zero, List.setIfInBounds_toArray, List.set_cons_zero, List.set_cons_succ])
        refine wpAnyD_take (i := 7) (v := ?_) rfl (by kernel_rfl) (by kernel_rfl) (by kernel_rfl) (by kernel_rfl) (fun _ _ _ h => h) (Or.inl ⟨by rfl, ?hys7⟩) hHeld ?_
        case hys7 => (intro w hSw; (try dsimp only at hSw); go_simp; try (with_reducible rfl))
        (try simp only [Act.put, List.getElem_toArray, List.getElem_cons_succ, List.getElem_cons_zero, List.setIfInBounds_toArray, List.set_cons_zero, List.set_cons_succ])
        refine wpAnyD_step (i := 8) (by kernel_rfl) rfl (fun K hK9 => ?_)
        go_simp
        refine hK9.out _ _ (show _ ∧ _ from ⟨six hMv.out, hBv.out.1⟩) (fun hHeld2 => ?_)
        clear hK9 K
        refine wpAnyD_take (i := 9) (v := ?_) rfl (by kernel_rfl) (by kernel_rfl) (by kernel_rfl) (by kernel_rfl) (fun _ _ _ h => h) (Or.inl ⟨by rfl, ?hyt9⟩) hHeld2 ?_
        case hyt9 => (intro w hSw; (try dsimp only at hSw); go_simp; try (with_reducible rfl))
        (try simp only [Act.put, List.getElem_toArray, List.getElem_cons_succ, List.getElem_cons_zero, List.setIfInBounds_toArray, List.set_cons_zero, List.set_cons_succ])
        refine wpAnyD_take (i := 10) (v := ?_) rfl (by kernel_rfl) (by kernel_rfl) (by kernel_rfl) (by kernel_rfl) (fun _ _ _ h => h) (Or.inl ⟨by rfl, ?hyt10⟩) hHeld2 ?_
        case hyt10 => (intro w hSw; (try dsimp only at hSw); go_simp; try (with_reducible rfl))
        (try simp only [Act.put, List.getElem_toArray, List.getElem_cons_succ, List.getElem_cons_zero, List.setIfInBounds_toArray, List.set_cons_zero, List.set_cons_succ])
        refine wpAnyD_late (i := 11) (by kernel_rfl) rfl rfl (fun K hK9 => ?_)
        go_simp
        refine hK9.out _ _ ?_
        clear hK9 K
        (try simp only [Act.put, List.getElem_toArray, List.getElem_cons_succ, List.getElem_cons_zero, List.setIfInBounds_toArray, List.set_cons_zero, List.set_cons_succ])
        refine wpAnyD_done (by kernel_rfl) ?_ _
        (try simp only [Act.put, List.getElem_toArray, List.getElem_cons_succ, List.getElem_cons_zero, List.setIfInBounds_toArray, List.set_cons_zero, List.set_cons_succ])
        have hnn : ¬ HasN d.nF x.file := fun h => by have := HBB.out.2 h; cases this
        have hF := ForI.new (HS.out.kept K9.out) HX.out hnn HPV.out _ rfl
        obtain ⟨Z, hZ⟩ : ∃ Z, set6 (u9.alloc (.cells #[.slice none 0 0, .slice none 0 0] 64)) g (i * 6) (.int .i64 x.kind) (.string x.nm) (.string x.to_) (.int .i64 x.len) (.pointer (some ⟨u9.heap.size, 0, none⟩)) (.slice none 0 0) = Z := ⟨_, rfl⟩
        rw [hZ] at hF
        have HF := hid (hF.kept ((Kept.refl Z).drew))
        clear hF hnn e0 f0 d1 d2 d3 d4 d5 p1 p2 p3 p4 p5 hHeld hHeld2
        unfold set6 at hZ
        rw [hZ]
        clear hZ
        go_wp2_with fail
        go_roundw
        case rel => exact ⟨i + 1, by rw [H9.out]; simp, hp, HF.out⟩
        case measure => simp [H9.out]; omega
      · clear hbb
        go_wp2_with fail
        go_roundw
        case rel => exact ⟨i + 1, by rw [H9.out]; simp, hp, (HS.out.kept K9.out).keep HX.out (HBB.out.1 rfl)⟩
        case measure => simp [H9.out]; omega
    · have ei : i = n := by omega
      have HS := hid hS
      clear hS
      go_wp2
      refine bodyPost_end (v := .tuple #[]) (by simp [results, Try.results27, go_sem]) rfl ⟨rfl, ?_⟩
      rw [← ei]
      exact HS.out
end Go.Proofs.Ythaiejmajhmahab
