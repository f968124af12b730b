/- Package disk: a work made fast. -/
import Derived.Test.YthaiejmajhmahabDLM
import Derived.Test.YthaiejmajhmahabDTD
namespace Go.Proofs.Ythaiejmajhmahab
open Go.ChangeShapes Go.WideShapes Go.ChangeAt Go.RowKit Go.Maps
set_option linter.unusedVariables false
set_option linter.unusedSimpArgs false

/-- What a work makes of what is fast. -/
def fasD (x : Wk) (few : Nat) (d : Dk) : Dk :=
  if ofN x.kind then { d with nF := nameN x d.nF, nf := d.nf + 1 } else { d with cf := up d.cf x.file (ontoL x few (d.cf x.file)) }
set_option maxHeartbeats 4000000 in
set_option maxRecDepth 100000 in
theorem fas_names (O : Nat → Prop) (B : Nat) (a : Da) (d : Dk) (x : Wk) (v : Value) (w : World) (hd : DSt w O B a d) (hx : WkOk w O a x v) (hk : ofN x.kind = true) (few : Int) (hn : d.nf < 1000000000) :
    Calls Try.prog 29 #[.pointer (some ⟨B, 0, none⟩), wval x v, .int .i64 few] w fun e w' => e = .returned (.tuple #[]) ∧ ∃ O' a', Stp w O w' O' ∧ DSt w' O' B a' (fasD x few.toNat d) ∧ a'.Fs = a.Fs ∧ a'.pv = a.pv ∧ a'.vb = a.vb ∧ a'.rn = a.rn := by
  have hv := hx.rb.form
  obtain ⟨ao, c, rfl⟩ := hv
  have H1 := hid fun (u : World) => ofNames_any x (.slice ao x.bytes.length c) ⟨_, _, _, rfl⟩ u
  rw [hk] at H1
  have hX0 := arr_new w [.int .i64 x.kind, .string x.nm, .string x.to_, .int .i64 x.len, .pointer (some ⟨x.file, 0, none⟩), .slice ao x.bytes.length c] 59
  have kX : Kept w (w.alloc (.cells #[.int .i64 x.kind, .string x.nm, .string x.to_, .int .i64 x.len, .pointer (some ⟨x.file, 0, none⟩), .slice ao x.bytes.length c] 59)) := (Kept.refl w).alloc _ _
  obtain ⟨M, hM⟩ : ∃ M, w.heap.size = M := ⟨_, rfl⟩
  have hMO : ∀ b, O b → b ≠ M := fun b hb => by have := hd.olt b hb; omega
  rw [hM] at hX0
  have HX0 := hid hX0
  have HK0 := hid kX
  have HMO := hid hMO
  have HD := hid hd
  have HX := hid hx
  clear hX0 kX hMO hd hx
  go_enter Try.func29, Try.ntmps29
  go_wp2_with (first | (go_at_call 26; refine (H1.out _).mono ?_; rintro e u1 ⟨rfl, k1⟩))
  try rw [hM]
  have hM1 := HX0.out.kept k1
  have k1 := HK0.out.trans k1
  have hd1 := HD.out.kept (k1.trans ((Kept.refl u1).drew))
  have hx1 := HX.out.kept (k1.trans ((Kept.refl u1).drew))
  have hM1 := hM1.kept ((Kept.refl u1).drew)
  have k1 := k1.trans ((Kept.refl u1).drew)
  have hA1 : ∀ t g, d.nF t = some g → Cb u1.drew g := fun t g h => (hd1.fls.blk g (hd1.inF t g h).1).cb
  have hN1 := hid (name_any x (.slice ao x.bytes.length c) ⟨_, _, _, rfl⟩ a.mF d.nf d.nF hx1.nm hx1.to_ hn u1.drew hd1.mF (hd1.fls.blk _ hx1.fs).cb hA1)
  have neM : M ≠ a.mF := hd1.mF.ne_cells hM1
  have neB : B ≠ a.mF := hd1.mF.ne_cells hd1.blk
  have hg : ∀ u : World, KX (fun i => i = a.mF) u1.drew u → Mp u a.mF (d.nf + 1) (nameN x d.nF) → Arr u M 59 [.int .i64 x.kind, .string x.nm, .string x.to_, .int .i64 x.len, .pointer (some ⟨x.file, 0, none⟩), .slice ao x.bytes.length c] ∧ Stp w O u O ∧ DSt u O B a { d with nF := nameN x d.nF, nf := d.nf + 1 } ∧ WkOk u O a x (.slice ao x.bytes.length c) := fun u k m => by
    refine ⟨hM1.kx k (fun e => neM e), k1.stp (stp_names k hd1.oF), hd1.namesF k _ _ m ?_, hx1.kx k fun b hb e => ?_⟩
    · exact nameN_in (P := fun f s => a.Fs f ∧ s.size ≤ 32) hd1.inF ⟨hx1.fs, hx1.to_⟩
    · obtain ⟨cur, hc⟩ := hx1.rb.ob hb
      exact hd1.mF.ne_cells hc e
  have HG := hid hg
  have HM1 := hid hM1
  have HD1 := hid hd1
  clear hg hM1 hd1 hx1 hA1 neM neB k1
  refine wp_region_late [] (fun u => (u.cell? ⟨M, 0, none⟩ = some (.int .i64 x.kind) ∧ u.cell? ⟨M, 1, none⟩ = some (.string x.nm) ∧ u.cell? ⟨M, 2, none⟩ = some (.string x.to_) ∧ u.cell? ⟨M, 3, none⟩ = some (.int .i64 x.len) ∧ u.cell? ⟨M, 4, none⟩ = some (.pointer (some ⟨x.file, 0, none⟩)) ∧ u.cell? ⟨M, 5, none⟩ = some (.slice ao x.bytes.length c)) ∧ u.cell? ⟨B, 6, none⟩ = some (.map (some a.mF))) (by kernel_rfl) (show _ ∧ _ from ⟨six HM1.out, Arr.cell HD1.out.blk 6 _ rfl⟩) (fun hHeld => ?_)
  refine wpAnyD_take (i := 0) (v := ?_) rfl (by kernel_rfl) (by kernel_rfl) (by kernel_rfl) (by kernel_rfl) (fun _ _ _ h => h) (Or.inl ⟨by rfl, ?hyq0⟩) hHeld ?_
  case hyq0 => (intro w hSw; (try dsimp only at hSw); go_simp; try (with_reducible rfl))
  (try simp only [Act.put, List.getElem_toArray, List.getElem_cons_succ, List.getElem_cons_zero, List.setIfInBounds_toArray, List.set_cons_zero, List.set_cons_succ])
  refine wpAnyD_take (i := 1) (v := ?_) rfl (by kernel_rfl) (by kernel_rfl) (by kernel_rfl) (by kernel_rfl) (fun _ _ _ h => h) (Or.inl ⟨by rfl, ?hyq1⟩) hHeld ?_
  case hyq1 => (intro w hSw; (try dsimp only at hSw); go_simp; try (with_reducible rfl))
  (try simp only [Act.put, List.getElem_toArray, List.getElem_cons_succ, List.getElem_cons_zero, List.setIfInBounds_toArray, List.set_cons_zero, List.set_cons_succ])
  refine wpAnyD_take (i := 2) (v := ?_) rfl (by kernel_rfl) (by kernel_rfl) (by kernel_rfl) (by kernel_rfl) (fun _ _ _ h => h) (Or.inl ⟨by rfl, ?hyq2⟩) hHeld ?_
  case hyq2 => (intro w hSw; (try dsimp only at hSw); go_simp; try (with_reducible rfl))
  (try simp only [Act.put, List.getElem_toArray, List.getElem_cons_succ, List.getElem_cons_zero, List.setIfInBounds_toArray, List.set_cons_zero, List.set_cons_succ])
  refine wpAnyD_take (i := 3) (v := ?_) rfl (by kernel_rfl) (by kernel_rfl) (by kernel_rfl) (by kernel_rfl) (fun _ _ _ h => h) (Or.inl ⟨by rfl, ?hyq3⟩) hHeld ?_
  case hyq3 => (intro w hSw; (try dsimp only at hSw); go_simp; try (with_reducible rfl))
  (try simp only [Act.put, List.getElem_toArray, List.getElem_cons_succ, List.getElem_cons_zero, List.setIfInBounds_toArray, List.set_cons_zero, List.set_cons_succ])
  refine wpAnyD_take (i := 4) (v := ?_) rfl (by kernel_rfl) (by kernel_rfl) (by kernel_rfl) (by kernel_rfl) (fun _ _ _ h => h) (Or.inl ⟨by rfl, ?hyq4⟩) hHeld ?_
  case hyq4 => (intro w hSw; (try dsimp only at hSw); go_simp; try (with_reducible rfl))
  (try simp only [Act.put, List.getElem_toArray, List.getElem_cons_succ, List.getElem_cons_zero, List.setIfInBounds_toArray, List.set_cons_zero, List.set_cons_succ])
  refine wpAnyD_step (i := 5) (by kernel_rfl) rfl (fun K hK9 => ?_)
  go_simp
  go_wp2_with fail
  refine (hN1.out).mono ?_
  rintro e u7 ⟨rfl, kx, hmp⟩
  refine hK9.out _ _ ((by obtain ⟨g1, g2, g3, g4⟩ := HG.out _ kx hmp; exact ⟨six g1, g3.blk.cell 6 _ rfl⟩)) (fun hHeld7 => ?_)
  clear hK9 K
  refine wpAnyD_done (by kernel_rfl) ?_ _
  (try simp only [Act.put, List.getElem_toArray, List.getElem_cons_succ, List.getElem_cons_zero, List.setIfInBounds_toArray, List.set_cons_zero, List.set_cons_succ])
  obtain ⟨hMU, hS1, hdU, hxU⟩ := HG.out _ kx hmp
  obtain ⟨U, hU⟩ : ∃ U, U = u7 := ⟨_, rfl⟩
  rw [← hU] at hMU hS1 hdU hxU
  rw [← hU]
  clear hU hHeld hHeld7 HG hN1 kx hmp HM1 HD1
  have hfin : fasD x few.toNat d = { d with nF := nameN x d.nF, nf := d.nf + 1 } := by
    unfold fasD
    rw [if_pos hk]
  go_wp2_with fail
  refine bodyPost_end (v := .tuple #[]) (by simp [results, Try.results29, go_sem]) rfl ⟨rfl, ?_⟩
  rw [hfin]
  exact ⟨_, _, hS1, hdU, rfl, rfl, rfl, rfl⟩
set_option maxHeartbeats 4000000 in
set_option maxRecDepth 100000 in
theorem fas_bytes (O : Nat → Prop) (B : Nat) (a : Da) (d : Dk) (x : Wk) (v : Value) (w : World) (hd : DSt w O B a d) (hx : WkOk w O a x v) (hk : ofN x.kind = false) (few : Int) (hlen : 0 ≤ few) (hb : (d.cf x.file).length + x.bytes.length < 100000000) :
    Calls Try.prog 29 #[.pointer (some ⟨B, 0, none⟩), wval x v, .int .i64 few] w fun e w' => e = .returned (.tuple #[]) ∧ ∃ O' a', Stp w O w' O' ∧ DSt w' O' B a' (fasD x few.toNat d) ∧ a'.Fs = a.Fs ∧ a'.pv = a.pv ∧ a'.vb = a.vb ∧ a'.rn = a.rn := by
  have hv := hx.rb.form
  obtain ⟨ao, c, rfl⟩ := hv
  have H1 := hid fun (u : World) => ofNames_any x (.slice ao x.bytes.length c) ⟨_, _, _, rfl⟩ u
  rw [hk] at H1
  have hX0 := arr_new w [.int .i64 x.kind, .string x.nm, .string x.to_, .int .i64 x.len, .pointer (some ⟨x.file, 0, none⟩), .slice ao x.bytes.length c] 59
  have kX : Kept w (w.alloc (.cells #[.int .i64 x.kind, .string x.nm, .string x.to_, .int .i64 x.len, .pointer (some ⟨x.file, 0, none⟩), .slice ao x.bytes.length c] 59)) := (Kept.refl w).alloc _ _
  obtain ⟨M, hM⟩ : ∃ M, w.heap.size = M := ⟨_, rfl⟩
  have hMO : ∀ b, O b → b ≠ M := fun b hb => by have := hd.olt b hb; omega
  rw [hM] at hX0
  have HX0 := hid hX0
  have HK0 := hid kX
  have HMO := hid hMO
  have HD := hid hd
  have HX := hid hx
  clear hX0 kX hMO hd hx
  go_enter Try.func29, Try.ntmps29
  go_wp2_with (first | (go_at_call 26; refine (H1.out _).mono ?_; rintro e u1 ⟨rfl, k1⟩))
  try rw [hM]
  have hM1 := HX0.out.kept k1
  have k1 := HK0.out.trans k1
  have hd1 := HD.out.kept (k1.trans ((Kept.refl u1).drew))
  have hx1 := HX.out.kept (k1.trans ((Kept.refl u1).drew))
  have hM1 := hM1.kept ((Kept.refl u1).drew)
  have k1 := k1.trans ((Kept.refl u1).drew)
  have hR1 := hd1.fls.rf _ hx1.fs
  have hF1 := hd1.fls.blk _ hx1.fs
  obtain ⟨aR, cR, hRv⟩ := hR1.form
  obtain ⟨nR, hnR⟩ : ∃ nR, (d.cf x.file).length = nR := ⟨_, rfl⟩
  rw [hnR] at hRv
  have hN1 := hid (onto_any x (.slice ao x.bytes.length c) (.slice aR nR cR) (d.cf x.file) few hlen u1.drew hx1.rb (by rw [← hRv]; exact hR1) hb)
  have neM : ¬ ob (a.rf x.file) M := fun h => HMO.out _ (hd1.fls.off _ M hx1.fs h) rfl
  have neF : ¬ ob (a.rf x.file) x.file := fun h => by
    obtain ⟨cur, hc⟩ := hR1.ob h
    exact absurd (ne_ty hc hF1) (by decide)
  have hg : ∀ (u : World) (v' : Value), KX (fun b => ob (a.rf x.file) b) u1.drew u → Rb u v' (ontoL x few.toNat (d.cf x.file)) → (∀ b, ob v' b → ob (a.rf x.file) b ∨ u1.drew.heap.size ≤ b) → Arr u M 59 [.int .i64 x.kind, .string x.nm, .string x.to_, .int .i64 x.len, .pointer (some ⟨x.file, 0, none⟩), .slice ao x.bytes.length c] ∧ Arr u x.file 64 [a.rn x.file, a.rf x.file] ∧
      ∀ u2, u2 = u.setCell ⟨x.file, 1, none⟩ v' → Arr u2 M 59 [.int .i64 x.kind, .string x.nm, .string x.to_, .int .i64 x.len, .pointer (some ⟨x.file, 0, none⟩), .slice ao x.bytes.length c] ∧ Stp w O u2 (Ow O u1.drew u2) ∧ DSt u2 (Ow O u1.drew u2) B { a with rf := up a.rf x.file v' } { d with cf := up d.cf x.file (ontoL x few.toNat (d.cf x.file)) } ∧
        WkOk u2 (Ow O u1.drew u2) { a with rf := up a.rf x.file v' } x (.slice ao x.bytes.length c) ∧ ∀ b, Ow O u1.drew u2 b → b ≠ M := fun u v' k m ho => by
    have hMu := hM1.kx k neM
    have hFu := hF1.kx k neF
    refine ⟨hMu, hFu, fun u2 h2 => ?_⟩
    obtain ⟨s1, s2⟩ := hd1.fast x.file hx1.fs v' _ k m ho h2
    have k2 : KX (fun b => ob (a.rf x.file) b ∨ b = x.file) u1.drew u2 := by rw [h2]; exact (k.mono fun _ h => .inl h).setCell (.inl (.inr rfl)) v'
    have hMF : M ≠ x.file := fun e => HMO.out _ (hd1.fls.of _ hx1.fs) e.symm
    refine ⟨hM1.kx k2 (fun e => e.elim neM hMF), k1.stp s1, s2, ⟨?_, fun b hb => Ow.of b (hx1.ow b hb), fun b g hb hg => ⟨(hx1.far b g hb hg).1, fun h3 => ?_⟩, hx1.fs, hx1.nm, hx1.to_⟩, fun b hb => ?_⟩
    · refine hx1.rb.onb fun b cur hb ho => k2.block b (lt_of_block hb) fun e => ?_
      rcases e with e | e
      · exact (hx1.far b _ ho hx1.fs).2 e
      · subst e
        exact absurd (ne_ty hb hF1) (by decide)
    · have h3 : ob (up a.rf x.file v' g) b := h3
      by_cases e : g = x.file
      · subst e
        rw [up_same] at h3
        rcases ho b h3 with h4 | h4
        · exact (hx1.far b _ hb hg).2 h4
        · obtain ⟨cur, hc⟩ := hx1.rb.ob hb
          exact absurd (lt_of_block hc) (by omega)
      · rw [up_other _ _ e] at h3
        exact (hx1.far b _ hb hg).2 h3
    · rcases hb with hb | hb
      · exact HMO.out b hb
      · have := hM1.lt
        omega
  have HG := hid hg
  rw [hRv] at HG hF1
  have HM1 := hid hM1
  have HF1 := hid hF1
  clear hg hM1 hd1 hx1 hF1 hR1 neM neF k1 hRv
  refine wp_region_late [12] (fun u => (u.cell? ⟨M, 0, none⟩ = some (.int .i64 x.kind) ∧ u.cell? ⟨M, 1, none⟩ = some (.string x.nm) ∧ u.cell? ⟨M, 2, none⟩ = some (.string x.to_) ∧ u.cell? ⟨M, 3, none⟩ = some (.int .i64 x.len) ∧ u.cell? ⟨M, 4, none⟩ = some (.pointer (some ⟨x.file, 0, none⟩)) ∧ u.cell? ⟨M, 5, none⟩ = some (.slice ao x.bytes.length c)) ∧ u.cell? ⟨x.file, 1, none⟩ = some (.slice aR nR cR)) (by kernel_rfl) (show _ ∧ _ from ⟨six HM1.out, Arr.cell HF1.out 1 _ rfl⟩) (fun hHeld => ?_)
  refine wpAnyD_take (i := 0) (v := ?_) rfl (by kernel_rfl) (by kernel_rfl) (by kernel_rfl) (by kernel_rfl) (fun _ _ _ h => h) (Or.inl ⟨by rfl, ?hyq0⟩) hHeld ?_
  case hyq0 => (intro w hSw; (try dsimp only at hSw); go_simp; try (with_reducible rfl))
  (try simp only [Act.put, List.getElem_toArray, List.getElem_cons_succ, List.getElem_cons_zero, List.setIfInBounds_toArray, List.set_cons_zero, List.set_cons_succ])
  refine wpAnyD_take (i := 1) (v := ?_) rfl (by kernel_rfl) (by kernel_rfl) (by kernel_rfl) (by kernel_rfl) (fun _ _ _ h => h) (Or.inl ⟨by rfl, ?hyq1⟩) hHeld ?_
  case hyq1 => (intro w hSw; (try dsimp only at hSw); go_simp; try (with_reducible rfl))
  (try simp only [Act.put, List.getElem_toArray, List.getElem_cons_succ, List.getElem_cons_zero, List.setIfInBounds_toArray, List.set_cons_zero, List.set_cons_succ])
  refine wpAnyD_take (i := 2) (v := ?_) rfl (by kernel_rfl) (by kernel_rfl) (by kernel_rfl) (by kernel_rfl) (fun _ _ _ h => h) (Or.inl ⟨by rfl, ?hyq2⟩) hHeld ?_
  case hyq2 => (intro w hSw; (try dsimp only at hSw); go_simp; try (with_reducible rfl))
  (try simp only [Act.put, List.getElem_toArray, List.getElem_cons_succ, List.getElem_cons_zero, List.setIfInBounds_toArray, List.set_cons_zero, List.set_cons_succ])
  refine wpAnyD_take (i := 3) (v := ?_) rfl (by kernel_rfl) (by kernel_rfl) (by kernel_rfl) (by kernel_rfl) (fun _ _ _ h => h) (Or.inl ⟨by rfl, ?hyq3⟩) hHeld ?_
  case hyq3 => (intro w hSw; (try dsimp only at hSw); go_simp; try (with_reducible rfl))
  (try simp only [Act.put, List.getElem_toArray, List.getElem_cons_succ, List.getElem_cons_zero, List.setIfInBounds_toArray, List.set_cons_zero, List.set_cons_succ])
  refine wpAnyD_take (i := 4) (v := ?_) rfl (by kernel_rfl) (by kernel_rfl) (by kernel_rfl) (by kernel_rfl) (fun _ _ _ h => h) (Or.inl ⟨by rfl, ?hyq4⟩) hHeld ?_
  case hyq4 => (intro w hSw; (try dsimp only at hSw); go_simp; try (with_reducible rfl))
  (try simp only [Act.put, List.getElem_toArray, List.getElem_cons_succ, List.getElem_cons_zero, List.setIfInBounds_toArray, List.set_cons_zero, List.set_cons_succ])
  refine wpAnyD_take (i := 5) (v := ?_) rfl (by kernel_rfl) (by kernel_rfl) (by kernel_rfl) (by kernel_rfl) (fun _ _ _ h => h) (Or.inl ⟨by rfl, ?hyq5⟩) hHeld ?_
  case hyq5 => (intro w hSw; (try dsimp only at hSw); go_simp; try (with_reducible rfl))
  (try simp only [Act.put, List.getElem_toArray, List.getElem_cons_succ, List.getElem_cons_zero, List.setIfInBounds_toArray, List.set_cons_zero, List.set_cons_succ])
  refine wpAnyD_take (i := 6) (v := ?_) rfl (by kernel_rfl) (by kernel_rfl) (by kernel_rfl) (by kernel_rfl) (fun _ _ _ h => h) (Or.inl ⟨by rfl, ?hyq6⟩) hHeld ?_
  case hyq6 => (intro w hSw; (try dsimp only at hSw); go_simp; try (with_reducible rfl))
  (try simp only [Act.put, List.getElem_toArray, List.getElem_cons_succ, List.getElem_cons_zero, List.setIfInBounds_toArray, List.set_cons_zero, List.set_cons_succ])
  refine wpAnyD_take (i := 7) (v := ?_) rfl (by kernel_rfl) (by kernel_rfl) (by kernel_rfl) (by kernel_rfl) (fun _ _ _ h => h) (Or.inl ⟨by rfl, ?hyq7⟩) hHeld ?_
  case hyq7 => (intro w hSw; (try dsimp only at hSw); go_simp; try (with_reducible rfl))
  (try simp only [Act.put, List.getElem_toArray, List.getElem_cons_succ, List.getElem_cons_zero, List.setIfInBounds_toArray, List.set_cons_zero, List.set_cons_succ])
  refine wpAnyD_take (i := 8) (v := ?_) rfl (by kernel_rfl) (by kernel_rfl) (by kernel_rfl) (by kernel_rfl) (fun _ _ _ h => h) (Or.inl ⟨by rfl, ?hyq8⟩) hHeld ?_
  case hyq8 => (intro w hSw; (try dsimp only at hSw); go_simp; try (with_reducible rfl))
  (try simp only [Act.put, List.getElem_toArray, List.getElem_cons_succ, List.getElem_cons_zero, List.setIfInBounds_toArray, List.set_cons_zero, List.set_cons_succ])
  refine wpAnyD_step (i := 9) (by kernel_rfl) rfl (fun K hK9 => ?_)
  go_simp
  go_wp2_with fail
  refine (hN1.out).mono ?_
  rintro e u7 ⟨v7, rfl, hr7, kx7, ho7⟩
  have hHG := HG.out u7 v7
  clear HG
  have HG := hid (hHG (by assumption) hr7 (by assumption))
  clear hHG kx7 ho7
  obtain ⟨aV, cV, hV⟩ := hr7.form
  obtain ⟨nV, hnV⟩ : ∃ nV, (ontoL x few.toNat (d.cf x.file)).length = nV := ⟨_, rfl⟩
  rw [hnV] at hV
  clear hnV hr7
  subst hV
  have f7 := HG.out.2.1.free 1
  refine hK9.out _ _ (show _ ∧ _ from ⟨six HG.out.1, HG.out.2.1.cell 1 _ rfl⟩) (fun hHeld7 => ?_)
  clear hK9 K
  refine wpAnyD_take (i := 10) (v := ?_) rfl (by kernel_rfl) (by kernel_rfl) (by kernel_rfl) (by kernel_rfl) (fun _ _ _ h => h) (Or.inl ⟨by rfl, ?hys10⟩) hHeld7 ?_
  case hys10 => (intro w hSw; (try dsimp only at hSw); go_simp; try (with_reducible rfl))
  (try simp only [Act.put, List.getElem_toArray, List.getElem_cons_succ, List.getElem_cons_zero, List.setIfInBounds_toArray, List.set_cons_zero, List.set_cons_succ])
  refine wpAnyD_take (i := 11) (v := ?_) rfl (by kernel_rfl) (by kernel_rfl) (by kernel_rfl) (by kernel_rfl) (fun _ _ _ h => h) (Or.inl ⟨by rfl, ?hys11⟩) hHeld7 ?_
  case hys11 => (intro w hSw; (try dsimp only at hSw); go_simp; try (with_reducible rfl))
  (try simp only [Act.put, List.getElem_toArray, List.getElem_cons_succ, List.getElem_cons_zero, List.setIfInBounds_toArray, List.set_cons_zero, List.set_cons_succ])
  have c7 := hHeld7.2
  refine wpAnyD_late (i := 12) (by kernel_rfl) rfl rfl (fun K hK9 => ?_)
  go_simp
  refine hK9.out _ _ ?_
  clear hK9 K
  (try simp only [Act.put, List.getElem_toArray, List.getElem_cons_succ, List.getElem_cons_zero, List.setIfInBounds_toArray, List.set_cons_zero, List.set_cons_succ])
  refine wpAnyD_done (by kernel_rfl) ?_ _
  (try simp only [Act.put, List.getElem_toArray, List.getElem_cons_succ, List.getElem_cons_zero, List.setIfInBounds_toArray, List.set_cons_zero, List.set_cons_succ])
  obtain ⟨hMU, hS1, hdU, hxU, hMO⟩ := HG.out.2.2 _ rfl
  obtain ⟨U, hU⟩ : ∃ U, U = u7.setCell ⟨x.file, 1, none⟩ (.slice aV nV cV) := ⟨_, rfl⟩
  rw [← hU] at hMU hS1 hdU hxU hMO
  rw [← hU]
  clear hU hHeld hHeld7 HG hN1 HM1 HF1 c7 f7
  have hfin : fasD x few.toNat d = { d with cf := up d.cf x.file (ontoL x few.toNat (d.cf x.file)) } := by
    unfold fasD
    rw [if_neg (by rw [hk]; decide)]
  go_wp2_with fail
  refine bodyPost_end (v := .tuple #[]) (by simp [results, Try.results29, go_sem]) rfl ⟨rfl, ?_⟩
  rw [hfin]
  exact ⟨_, _, hS1, hdU, rfl, rfl, rfl, rfl⟩
end Go.Proofs.Ythaiejmajhmahab
