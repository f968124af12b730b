/- Package disk: a work of bytes done. -/
import Derived.Test.YthaiejmajhmahabDLL
import Derived.Test.YthaiejmajhmahabDTD
namespace Go.Proofs.Ythaiejmajhmahab
open Go.ChangeShapes Go.WideShapes Go.ChangeAt Go.RowKit Go.Maps
set_option linter.unusedVariables false
set_option linter.unusedSimpArgs false

set_option maxHeartbeats 4000000 in
set_option maxRecDepth 100000 in
theorem do_bytes (O : Nat → Prop) (B : Nat) (a : Da) (d : Dk) (x : Wk) (v : Value) (w : World) (hd : DSt w O B a d) (hx : WkOk w O a x v) (hk : ofN x.kind = false) (hlen : 0 ≤ x.len) (hb : (d.cn x.file).length + x.bytes.length < 100000000) (hl2 : d.W.length < 99999999) :
    Calls Try.prog 22 #[.pointer (some ⟨B, 0, none⟩), wval x v] w fun e w' => e = .returned (.tuple #[]) ∧ ∃ O' a', Stp w O w' O' ∧ DSt w' O' B a' (doD x d) ∧ ∀ f, a.Fs f → a'.Fs f := by
  have hv := hx.rb.form
  obtain ⟨ao, c, rfl⟩ := hv
  have H1 := hid fun (u : World) => ofNames_any x (.slice ao x.bytes.length c) ⟨_, _, _, rfl⟩ u
  rw [hk] at H1
  have hX0 := arr_new w [.int .i64 x.kind, .string x.nm, .string x.to_, .int .i64 x.len, .pointer (some ⟨x.file, 0, none⟩), .slice ao x.bytes.length c] 59
  have kX : Kept w (w.alloc (.cells #[.int .i64 x.kind, .string x.nm, .string x.to_, .int .i64 x.len, .pointer (some ⟨x.file, 0, none⟩), .slice ao x.bytes.length c] 59)) := (Kept.refl w).alloc _ _
  obtain ⟨M, hM⟩ : ∃ M, w.heap.size = M := ⟨_, rfl⟩
  have hMO : ∀ b, O b → b ≠ M := fun b hb => by have := hd.olt b hb; omega
  rw [hM] at hX0
  have HX0 := hid hX0
  have HK0 := hid kX
  have HMO := hid hMO
  have HD := hid hd
  have HX := hid hx
  clear hX0 kX hMO hd hx
  go_enter Try.func22, Try.ntmps22
  go_wp2_with (first | (go_at_call 26; refine (H1.out _).mono ?_; rintro e u1 ⟨rfl, k1⟩))
  try rw [hM]
  have hM1 := HX0.out.kept k1
  have k1 := HK0.out.trans k1
  have hd1 := HD.out.kept (k1.trans ((Kept.refl u1).drew))
  have hx1 := HX.out.kept (k1.trans ((Kept.refl u1).drew))
  have hM1 := hM1.kept ((Kept.refl u1).drew)
  have k1 := k1.trans ((Kept.refl u1).drew)
  have hR1 := hd1.fls.rn _ hx1.fs
  have hF1 := hd1.fls.blk _ hx1.fs
  obtain ⟨aR, cR, hRv⟩ := hR1.form
  obtain ⟨nR, hnR⟩ : ∃ nR, (d.cn x.file).length = nR := ⟨_, rfl⟩
  rw [hnR] at hRv
  have hN1 := hid (onto_any x (.slice ao x.bytes.length c) (.slice aR nR cR) (d.cn x.file) x.len hlen u1.drew hx1.rb (by rw [← hRv]; exact hR1) hb)
  have neM : ¬ ob (a.rn x.file) M := fun h => HMO.out _ (hd1.fls.on _ M hx1.fs h) rfl
  have neF : ¬ ob (a.rn x.file) x.file := fun h => by
    obtain ⟨cur, hc⟩ := hR1.ob h
    exact absurd (ne_ty hc hF1) (by decide)
  have hg : ∀ (u : World) (v' : Value), KX (fun b => ob (a.rn x.file) b) u1.drew u → Rb u v' (ontoL x x.len.toNat (d.cn x.file)) → (∀ b, ob v' b → ob (a.rn x.file) b ∨ u1.drew.heap.size ≤ b) → Arr u M 59 [.int .i64 x.kind, .string x.nm, .string x.to_, .int .i64 x.len, .pointer (some ⟨x.file, 0, none⟩), .slice ao x.bytes.length c] ∧ Arr u x.file 64 [a.rn x.file, a.rf x.file] ∧
      ∀ u2, u2 = u.setCell ⟨x.file, 0, none⟩ v' → Arr u2 M 59 [.int .i64 x.kind, .string x.nm, .string x.to_, .int .i64 x.len, .pointer (some ⟨x.file, 0, none⟩), .slice ao x.bytes.length c] ∧ Stp w O u2 (Ow O u1.drew u2) ∧ DSt u2 (Ow O u1.drew u2) B { a with rn := up a.rn x.file v' } { d with cn := up d.cn x.file (ontoL x x.len.toNat (d.cn x.file)) } ∧
        WkOk u2 (Ow O u1.drew u2) { a with rn := up a.rn x.file v' } x (.slice ao x.bytes.length c) ∧ ∀ b, Ow O u1.drew u2 b → b ≠ M := fun u v' k m ho => by
    have hMu := hM1.kx k neM
    have hFu := hF1.kx k neF
    refine ⟨hMu, hFu, fun u2 h2 => ?_⟩
    obtain ⟨s1, s2⟩ := hd1.now x.file hx1.fs v' _ k m ho h2
    have k2 : KX (fun b => ob (a.rn x.file) b ∨ b = x.file) u1.drew u2 := by rw [h2]; exact (k.mono fun _ h => .inl h).setCell (.inl (.inr rfl)) v'
    have hMF : M ≠ x.file := fun e => HMO.out _ (hd1.fls.of _ hx1.fs) e.symm
    refine ⟨hM1.kx k2 (fun e => e.elim neM hMF), k1.stp s1, s2, ⟨?_, fun b hb => Ow.of b (hx1.ow b hb), fun b g hb hg => ⟨fun h3 => ?_, (hx1.far b g hb hg).2⟩, hx1.fs, hx1.nm, hx1.to_⟩, fun b hb => ?_⟩
    · refine hx1.rb.onb fun b cur hb ho => k2.block b (lt_of_block hb) fun e => ?_
      rcases e with e | e
      · exact (hx1.far b _ ho hx1.fs).1 e
      · subst e
        exact absurd (ne_ty hb hF1) (by decide)
    · have h3 : ob (up a.rn x.file v' g) b := h3
      by_cases e : g = x.file
      · subst e
        rw [up_same] at h3
        rcases ho b h3 with h4 | h4
        · exact (hx1.far b _ hb hg).1 h4
        · obtain ⟨cur, hc⟩ := hx1.rb.ob hb
          exact absurd (lt_of_block hc) (by omega)
      · rw [up_other _ _ e] at h3
        exact (hx1.far b _ hb hg).1 h3
    · rcases hb with hb | hb
      · exact HMO.out b hb
      · have := hM1.lt
        omega
  have HG := hid hg
  rw [hRv] at HG hF1
  have HM1 := hid hM1
  have HF1 := hid hF1
  clear hg hM1 hd1 hx1 hF1 hR1 neM neF k1 hRv
  refine wp_region_late [14] (fun u => (u.cell? ⟨M, 0, none⟩ = some (.int .i64 x.kind) ∧ u.cell? ⟨M, 1, none⟩ = some (.string x.nm) ∧ u.cell? ⟨M, 2, none⟩ = some (.string x.to_) ∧ u.cell? ⟨M, 3, none⟩ = some (.int .i64 x.len) ∧ u.cell? ⟨M, 4, none⟩ = some (.pointer (some ⟨x.file, 0, none⟩)) ∧ u.cell? ⟨M, 5, none⟩ = some (.slice ao x.bytes.length c)) ∧ u.cell? ⟨x.file, 0, none⟩ = some (.slice aR nR cR)) (by kernel_rfl) (show _ ∧ _ from ⟨six HM1.out, Arr.cell HF1.out 0 _ rfl⟩) (fun hHeld => ?_)
  refine wpAnyD_take (i := 0) (v := ?_) rfl (by kernel_rfl) (by kernel_rfl) (by kernel_rfl) (by kernel_rfl) (fun _ _ _ h => h) (Or.inl ⟨by rfl, ?hyq0⟩) hHeld ?_
  case hyq0 => (intro w hSw; (try dsimp only at hSw); go_simp; try (with_reducible rfl))
  (try simp only [Act.put, List.getElem_toArray, List.getElem_cons_succ, List.getElem_cons_zero, List.setIfInBounds_toArray, List.set_cons_zero, List.set_cons_succ])
  refine wpAnyD_take (i := 1) (v := ?_) rfl (by kernel_rfl) (by kernel_rfl) (by kernel_rfl) (by kernel_rfl) (fun _ _ _ h => h) (Or.inl ⟨by rfl, ?hyq1⟩) hHeld ?_
  case hyq1 => (intro w hSw; (try dsimp only at hSw); go_simp; try (with_reducible rfl))
  (try simp only [Act.put, List.getElem_toArray, List.getElem_cons_succ, List.getElem_cons_zero, List.setIfInBounds_toArray, List.set_cons_zero, List.set_cons_succ])
  refine wpAnyD_take (i := 2) (v := ?_) rfl (by kernel_rfl) (by kernel_rfl) (by kernel_rfl) (by kernel_rfl) (fun _ _ _ h => h) (Or.inl ⟨by rfl, ?hyq2⟩) hHeld ?_
  case hyq2 => (intro w hSw; (try dsimp only at hSw); go_simp; try (with_reducible rfl))
  (try simp only [Act.put, List.getElem_toArray, List.getElem_cons_succ, List.getElem_cons_zero, List.setIfInBounds_toArray, List.set_cons_zero, List.set_cons_succ])
  refine wpAnyD_take (i := 3) (v := ?_) rfl (by kernel_rfl) (by kernel_rfl) (by kernel_rfl) (by kernel_rfl) (fun _ _ _ h => h) (Or.inl ⟨by rfl, ?hyq3⟩) hHeld ?_
  case hyq3 => (intro w hSw; (try dsimp only at hSw); go_simp; try (with_reducible rfl))
  (try simp only [Act.put, List.getElem_toArray, List.getElem_cons_succ, List.getElem_cons_zero, List.setIfInBounds_toArray, List.set_cons_zero, List.set_cons_succ])
  refine wpAnyD_take (i := 4) (v := ?_) rfl (by kernel_rfl) (by kernel_rfl) (by kernel_rfl) (by kernel_rfl) (fun _ _ _ h => h) (Or.inl ⟨by rfl, ?hyq4⟩) hHeld ?_
  case hyq4 => (intro w hSw; (try dsimp only at hSw); go_simp; try (with_reducible rfl))
  (try simp only [Act.put, List.getElem_toArray, List.getElem_cons_succ, List.getElem_cons_zero, List.setIfInBounds_toArray, List.set_cons_zero, List.set_cons_succ])
  refine wpAnyD_take (i := 5) (v := ?_) rfl (by kernel_rfl) (by kernel_rfl) (by kernel_rfl) (by kernel_rfl) (fun _ _ _ h => h) (Or.inl ⟨by rfl, ?hyq5⟩) hHeld ?_
  case hyq5 => (intro w hSw; (try dsimp only at hSw); go_simp; try (with_reducible rfl))
  (try simp only [Act.put, List.getElem_toArray, List.getElem_cons_succ, List.getElem_cons_zero, List.setIfInBounds_toArray, List.set_cons_zero, List.set_cons_succ])
  refine wpAnyD_take (i := 6) (v := ?_) rfl (by kernel_rfl) (by kernel_rfl) (by kernel_rfl) (by kernel_rfl) (fun _ _ _ h => h) (Or.inl ⟨by rfl, ?hyq6⟩) hHeld ?_
  case hyq6 => (intro w hSw; (try dsimp only at hSw); go_simp; try (with_reducible rfl))
  (try simp only [Act.put, List.getElem_toArray, List.getElem_cons_succ, List.getElem_cons_zero, List.setIfInBounds_toArray, List.set_cons_zero, List.set_cons_succ])
  refine wpAnyD_take (i := 7) (v := ?_) rfl (by kernel_rfl) (by kernel_rfl) (by kernel_rfl) (by kernel_rfl) (fun _ _ _ h => h) (Or.inl ⟨by rfl, ?hyq7⟩) hHeld ?_
  case hyq7 => (intro w hSw; (try dsimp only at hSw); go_simp; try (with_reducible rfl))
  (try simp only [Act.put, List.getElem_toArray, List.getElem_cons_succ, List.getElem_cons_zero, List.setIfInBounds_toArray, List.set_cons_zero, List.set_cons_succ])
  refine wpAnyD_take (i := 8) (v := ?_) rfl (by kernel_rfl) (by kernel_rfl) (by kernel_rfl) (by kernel_rfl) (fun _ _ _ h => h) (Or.inl ⟨by rfl, ?hyq8⟩) hHeld ?_
  case hyq8 => (intro w hSw; (try dsimp only at hSw); go_simp; try (with_reducible rfl))
  (try simp only [Act.put, List.getElem_toArray, List.getElem_cons_succ, List.getElem_cons_zero, List.setIfInBounds_toArray, List.set_cons_zero, List.set_cons_succ])
  refine wpAnyD_take (i := 9) (v := ?_) rfl (by kernel_rfl) (by kernel_rfl) (by kernel_rfl) (by kernel_rfl) (fun _ _ _ h => h) (Or.inl ⟨by rfl, ?hyq9⟩) hHeld ?_
  case hyq9 => (intro w hSw; (try dsimp only at hSw); go_simp; try (with_reducible rfl))
  (try simp only [Act.put, List.getElem_toArray, List.getElem_cons_succ, List.getElem_cons_zero, List.setIfInBounds_toArray, List.set_cons_zero, List.set_cons_succ])
  refine wpAnyD_take (i := 10) (v := ?_) rfl (by kernel_rfl) (by kernel_rfl) (by kernel_rfl) (by kernel_rfl) (fun _ _ _ h => h) (Or.inl ⟨by rfl, ?hyq10⟩) hHeld ?_
  case hyq10 => (intro w hSw; (try dsimp only at hSw); go_simp; try (with_reducible rfl))
  (try simp only [Act.put, List.getElem_toArray, List.getElem_cons_succ, List.getElem_cons_zero, List.setIfInBounds_toArray, List.set_cons_zero, List.set_cons_succ])
  refine wpAnyD_step (i := 11) (by kernel_rfl) rfl (fun K hK9 => ?_)
  go_simp
  go_wp2_with fail
  refine (hN1.out).mono ?_
  rintro e u7 ⟨v7, rfl, hr7, kx7, ho7⟩
  have hHG := HG.out u7 v7
  clear HG
  have HG := hid (hHG (by assumption) hr7 (by assumption))
  clear hHG kx7 ho7
  obtain ⟨aV, cV, hV⟩ := hr7.form
  obtain ⟨nV, hnV⟩ : ∃ nV, (ontoL x x.len.toNat (d.cn x.file)).length = nV := ⟨_, rfl⟩
  rw [hnV] at hV
  clear hnV hr7
  subst hV
  have f7 := HG.out.2.1.free 0
  refine hK9.out _ _ (show _ ∧ _ from ⟨six HG.out.1, HG.out.2.1.cell 0 _ rfl⟩) (fun hHeld7 => ?_)
  clear hK9 K
  refine wpAnyD_take (i := 12) (v := ?_) rfl (by kernel_rfl) (by kernel_rfl) (by kernel_rfl) (by kernel_rfl) (fun _ _ _ h => h) (Or.inl ⟨by rfl, ?hys12⟩) hHeld7 ?_
  case hys12 => (intro w hSw; (try dsimp only at hSw); go_simp; try (with_reducible rfl))
  (try simp only [Act.put, List.getElem_toArray, List.getElem_cons_succ, List.getElem_cons_zero, List.setIfInBounds_toArray, List.set_cons_zero, List.set_cons_succ])
  refine wpAnyD_take (i := 13) (v := ?_) rfl (by kernel_rfl) (by kernel_rfl) (by kernel_rfl) (by kernel_rfl) (fun _ _ _ h => h) (Or.inl ⟨by rfl, ?hys13⟩) hHeld7 ?_
  case hys13 => (intro w hSw; (try dsimp only at hSw); go_simp; try (with_reducible rfl))
  (try simp only [Act.put, List.getElem_toArray, List.getElem_cons_succ, List.getElem_cons_zero, List.setIfInBounds_toArray, List.set_cons_zero, List.set_cons_succ])
  have c7 := hHeld7.2
  refine wpAnyD_late (i := 14) (by kernel_rfl) rfl rfl (fun K hK9 => ?_)
  go_simp
  refine hK9.out _ _ ?_
  clear hK9 K
  (try simp only [Act.put, List.getElem_toArray, List.getElem_cons_succ, List.getElem_cons_zero, List.setIfInBounds_toArray, List.set_cons_zero, List.set_cons_succ])
  refine wpAnyD_done (by kernel_rfl) ?_ _
  (try simp only [Act.put, List.getElem_toArray, List.getElem_cons_succ, List.getElem_cons_zero, List.setIfInBounds_toArray, List.set_cons_zero, List.set_cons_succ])
  obtain ⟨hMU, hS1, hdU, hxU, hMO⟩ := HG.out.2.2 _ rfl
  obtain ⟨U, hU⟩ : ∃ U, U = u7.setCell ⟨x.file, 0, none⟩ (.slice aV nV cV) := ⟨_, rfl⟩
  rw [← hU] at hMU hS1 hdU hxU hMO
  rw [← hU]
  clear hU hHeld hHeld7 HG hN1 HM1 HF1 c7 f7
  obtain ⟨d2, hd2⟩ : ∃ d2, d2 = ({ d with cn := up d.cn x.file (ontoL x x.len.toNat (d.cn x.file)) } : Dk) := ⟨_, rfl⟩
  obtain ⟨a2, ha2⟩ : ∃ a2, a2 = ({ a with rn := up a.rn x.file (.slice aV nV cV) } : Da) := ⟨_, rfl⟩
  obtain ⟨O2, hO2⟩ : ∃ O2, O2 = Ow O u1.drew U := ⟨_, rfl⟩
  have hl2 : d2.W.length < 99999999 := by rw [hd2]; exact hl2
  have hfin : doD x d = { d2 with W := d2.W ++ [x] } := by
    unfold doD
    rw [if_neg (by rw [hk]; decide), hd2]
  rw [← hd2, ← ha2, ← hO2] at hdU
  rw [← ha2, ← hO2] at hxU
  rw [← hO2] at hS1 hMO
  have hFs : ∀ f, a.Fs f → a2.Fs f := by rw [ha2]; exact fun f h => h
  clear hd2 ha2 hO2
  go_wp2_with fail
  have hd3 := hdU.kept ((Kept.refl U).drew)
  have hx3 := hxU.kept ((Kept.refl U).drew)
  have hM3 := hMU.kept ((Kept.refl U).drew)
  have hw3 := hd3.wks
  obtain ⟨ao2, c2, hpv⟩ := hw3.ms.form
  obtain ⟨ao4, c4, w4, happ, hkx, hst⟩ := push_work U.drew O2 B a2 d2 x (.slice ao x.bytes.length c) hd3 hx3 hl2
  have hB4 : ¬ ob a2.pv B := fun h => by
    obtain ⟨cur, hc⟩ := hw3.ms.ob h
    exact absurd (ne_ty hc hd3.blk) (by decide)
  have hM4 : ¬ ob a2.pv M := fun h => hMO _ (hw3.ow M h) rfl
  have hSt := hid (hst _ rfl)
  have hap := hid happ
  have hBw := hid (hd3.blk.kx hkx hB4)
  have hMw := hid (hM3.kx hkx hM4)
  have hBa := hid (hd3.blk.kept ((Kept.refl U.drew).alloc #[.int .i64 x.kind, .string x.nm, .string x.to_, .int .i64 x.len, .pointer (some ⟨x.file, 0, none⟩), .slice ao x.bytes.length c] 59))
  have hMa := hid (hM3.kept ((Kept.refl U.drew).alloc #[.int .i64 x.kind, .string x.nm, .string x.to_, .int .i64 x.len, .pointer (some ⟨x.file, 0, none⟩), .slice ao x.bytes.length c] 59))
  have hfr := hid (hBw.out.free 7)
  have hBd := hid hd3.blk
  have hMd := hid hM3
  clear hst happ hw3 hd3 hx3 hM3 hB4 hM4 hkx hdU hxU hMU
  rw [hpv] at hap
  have hpv := hid hpv
  refine wp_region_late [10] (fun u => (u.cell? ⟨M, 0, none⟩ = some (.int .i64 x.kind) ∧ u.cell? ⟨M, 1, none⟩ = some (.string x.nm) ∧ u.cell? ⟨M, 2, none⟩ = some (.string x.to_) ∧ u.cell? ⟨M, 3, none⟩ = some (.int .i64 x.len) ∧ u.cell? ⟨M, 4, none⟩ = some (.pointer (some ⟨x.file, 0, none⟩)) ∧ u.cell? ⟨M, 5, none⟩ = some (.slice ao x.bytes.length c)) ∧ u.cell? ⟨B, 7, none⟩ = some (.slice ao2 d2.W.length c2)) (by kernel_rfl) (show _ ∧ _ from ⟨six hMd.out, by rw [← hpv.out]; exact Arr.cell hBd.out 7 _ rfl⟩) (fun hHeld => ?_)
  refine wpAnyD_take (i := 0) (v := ?_) rfl (by kernel_rfl) (by kernel_rfl) (by kernel_rfl) (by kernel_rfl) (fun _ _ _ h => h) (Or.inl ⟨by rfl, ?hyp0⟩) hHeld ?_
  case hyp0 => (intro w hSw; (try dsimp only at hSw); go_simp; try (with_reducible rfl))
  (try simp only [Act.put, List.getElem_toArray, List.getElem_cons_succ, List.getElem_cons_zero, List.setIfInBounds_toArray, List.set_cons_zero, List.set_cons_succ])
  refine wpAnyD_take (i := 1) (v := ?_) rfl (by kernel_rfl) (by kernel_rfl) (by kernel_rfl) (by kernel_rfl) (fun _ _ _ h => h) (Or.inl ⟨by rfl, ?hyp1⟩) hHeld ?_
  case hyp1 => (intro w hSw; (try dsimp only at hSw); go_simp; try (with_reducible rfl))
  (try simp only [Act.put, List.getElem_toArray, List.getElem_cons_succ, List.getElem_cons_zero, List.setIfInBounds_toArray, List.set_cons_zero, List.set_cons_succ])
  refine wpAnyD_take (i := 2) (v := ?_) rfl (by kernel_rfl) (by kernel_rfl) (by kernel_rfl) (by kernel_rfl) (fun _ _ _ h => h) (Or.inl ⟨by rfl, ?hyp2⟩) hHeld ?_
  case hyp2 => (intro w hSw; (try dsimp only at hSw); go_simp; try (with_reducible rfl))
  (try simp only [Act.put, List.getElem_toArray, List.getElem_cons_succ, List.getElem_cons_zero, List.setIfInBounds_toArray, List.set_cons_zero, List.set_cons_succ])
  refine wpAnyD_take (i := 3) (v := ?_) rfl (by kernel_rfl) (by kernel_rfl) (by kernel_rfl) (by kernel_rfl) (fun _ _ _ h => h) (Or.inl ⟨by rfl, ?hyp3⟩) hHeld ?_
  case hyp3 => (intro w hSw; (try dsimp only at hSw); go_simp; try (with_reducible rfl))
  (try simp only [Act.put, List.getElem_toArray, List.getElem_cons_succ, List.getElem_cons_zero, List.setIfInBounds_toArray, List.set_cons_zero, List.set_cons_succ])
  refine wpAnyD_take (i := 4) (v := ?_) rfl (by kernel_rfl) (by kernel_rfl) (by kernel_rfl) (by kernel_rfl) (fun _ _ _ h => h) (Or.inl ⟨by rfl, ?hyp4⟩) hHeld ?_
  case hyp4 => (intro w hSw; (try dsimp only at hSw); go_simp; try (with_reducible rfl))
  (try simp only [Act.put, List.getElem_toArray, List.getElem_cons_succ, List.getElem_cons_zero, List.setIfInBounds_toArray, List.set_cons_zero, List.set_cons_succ])
  refine wpAnyD_take (i := 5) (v := ?_) rfl (by kernel_rfl) (by kernel_rfl) (by kernel_rfl) (by kernel_rfl) (fun _ _ _ h => h) (Or.inl ⟨by rfl, ?hyp5⟩) hHeld ?_
  case hyp5 => (intro w hSw; (try dsimp only at hSw); go_simp; try (with_reducible rfl))
  (try simp only [Act.put, List.getElem_toArray, List.getElem_cons_succ, List.getElem_cons_zero, List.setIfInBounds_toArray, List.set_cons_zero, List.set_cons_succ])
  refine wpAnyD_step (i := 6) (by kernel_rfl) rfl (fun K hK9 => ?_)
  go_simp
  refine hK9.out _ _ (show _ ∧ _ from ⟨six hMa.out, by rw [← hpv.out]; exact Arr.cell hBa.out 7 _ rfl⟩) (fun hHeld2 => ?_)
  clear hK9 K
  refine wpAnyD_step (i := 7) (by kernel_rfl) rfl (fun K hK9 => ?_)
  rw [if_pos (by rfl)]
  refine oper_append_run _ _ _ rfl _ _ rfl rfl _ _ (hap.out _) ?_
  refine hK9.out _ _ (show _ ∧ _ from ⟨six hMw.out, by rw [← hpv.out]; exact Arr.cell hBw.out 7 _ rfl⟩) (fun hHeld3 => ?_)
  clear hK9 K
  (try simp only [Act.put, List.getElem_toArray, List.getElem_cons_succ, List.getElem_cons_zero, List.setIfInBounds_toArray, List.set_cons_zero, List.set_cons_succ])
  refine wpAnyD_take (i := 8) (v := ?_) rfl (by kernel_rfl) (by kernel_rfl) (by kernel_rfl) (by kernel_rfl) (fun _ _ _ h => h) (Or.inl ⟨by rfl, ?hyr8⟩) hHeld3 ?_
  case hyr8 => (intro w hSw; (try dsimp only at hSw); go_simp; try (with_reducible rfl))
  (try simp only [Act.put, List.getElem_toArray, List.getElem_cons_succ, List.getElem_cons_zero, List.setIfInBounds_toArray, List.set_cons_zero, List.set_cons_succ])
  refine wpAnyD_take (i := 9) (v := ?_) rfl (by kernel_rfl) (by kernel_rfl) (by kernel_rfl) (by kernel_rfl) (fun _ _ _ h => h) (Or.inl ⟨by rfl, ?hyr9⟩) hHeld3 ?_
  case hyr9 => (intro w hSw; (try dsimp only at hSw); go_simp; try (with_reducible rfl))
  (try simp only [Act.put, List.getElem_toArray, List.getElem_cons_succ, List.getElem_cons_zero, List.setIfInBounds_toArray, List.set_cons_zero, List.set_cons_succ])
  have f7 := hfr.out
  have c7 := hHeld3.2
  refine wpAnyD_late (i := 10) (by kernel_rfl) rfl rfl (fun K hK9 => ?_)
  go_simp
  refine hK9.out _ _ ?_
  clear hK9 K
  (try simp only [Act.put, List.getElem_toArray, List.getElem_cons_succ, List.getElem_cons_zero, List.setIfInBounds_toArray, List.set_cons_zero, List.set_cons_succ])
  refine wpAnyD_done (by kernel_rfl) ?_ _
  (try simp only [Act.put, List.getElem_toArray, List.getElem_cons_succ, List.getElem_cons_zero, List.setIfInBounds_toArray, List.set_cons_zero, List.set_cons_succ])
  go_wp2_with fail
  refine bodyPost_end (v := .tuple #[]) (by simp [results, Try.results22, go_sem]) rfl ⟨rfl, ?_⟩
  rw [hfin]
  obtain ⟨q1, q2⟩ := hSt.out
  refine ⟨_, _, hS1.trans ((Stp.kept (Stp.refl U O2) ((Kept.refl U).drew)).trans q1), q2, hFs⟩
end Go.Proofs.Ythaiejmajhmahab
