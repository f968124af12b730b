/- Package disk: a work done. -/
import Derived.Test.YthaiejmajhmahabDLK
import Derived.Test.YthaiejmajhmahabDTD
namespace Go.Proofs.Ythaiejmajhmahab
open Go.ChangeShapes Go.WideShapes Go.ChangeAt Go.RowKit Go.Maps
set_option linter.unusedVariables false
set_option linter.unusedSimpArgs false

theorem wsl_u : Try.prog.underlying 45 = some (.slice 59) := by kernel_rfl
theorem work_i : (Try.prog.info? 59).map (fun i => (i.zero, i.size, i.bytes)) = some (some (.agg #[.int .i64 0, .string ⟨#[]⟩, .string ⟨#[]⟩, .int .i64 0, .pointer none, .slice none 0 0]), 6, 80) := by kernel_rfl
theorem wcell_one (x : Wk) (v : Value) (hv : ∃ ao n c, v = .slice ao n c) : ∀ u ∈ wcell x v, u.oneCell' = true := by
  obtain ⟨ao, n, c, rfl⟩ := hv
  intro u hu
  simp only [wcell, List.mem_cons, List.not_mem_nil, or_false] at hu
  rcases hu with rfl | rfl | rfl | rfl | rfl | rfl <;> rfl
/-- What a work makes of a disk. -/
def doD (x : Wk) (d : Dk) : Dk :=
  if ofN x.kind then { d with nN := nameN x d.nN, nn := d.nn + 1, W := d.W ++ [x] }
  else { d with cn := up d.cn x.file (ontoL x x.len.toNat (d.cn x.file)), W := d.W ++ [x] }
theorem nameN_in {x : Wk} {M : Nms} {P : Nat → ByteArray → Prop} (h : ∀ s f, M s = some f → P f s) (hx : P x.file x.to_) : ∀ s f, nameN x M s = some f → P f s := by
  intro s f e
  unfold nameN at e
  split at e
  · by_cases h1 : s = x.to_
    · have e2 : giveN M x.file x.to_ s = some x.file := if_pos h1
      rw [e2] at e
      cases e
      rw [h1]
      exact hx
    · have e2 : giveN M x.file x.to_ s = if M s = some x.file then none else M s := if_neg h1
      rw [e2] at e
      split at e
      · cases e
      · exact h s f e
  · unfold takeN at e
    split at e
    · by_cases h1 : s = x.nm
      · have e2 : upd M x.nm none s = none := if_pos h1
        rw [e2] at e
        cases e
      · have e2 : upd M x.nm none s = M s := if_neg h1
        rw [e2] at e
        exact h s f e
    · exact h s f e
theorem WkOk.kx {w w' : World} {O X : Nat → Prop} {a : Da} {x : Wk} {v : Value} (h : WkOk w O a x v) (k : KX X w w') (hX : ∀ b, ob v b → ¬ X b) : WkOk w' O a x v :=
  h.onb (fun _ h => h) fun b c _ hb ho => k.block b (lt_of_block hb) (hX b ho)
theorem WkOk.kept {w w' : World} {O : Nat → Prop} {a : Da} {x : Wk} {v : Value} (h : WkOk w O a x v) (k : Kept w w') : WkOk w' O a x v := h.kx (k.kx fun _ => False) fun _ _ h => h
theorem WkOk.form {w : World} {O : Nat → Prop} {a : Da} {x : Wk} {v : Value} (h : WkOk w O a x v) : ∃ ao n c, v = .slice ao n c := by
  obtain ⟨ao, c, e⟩ := h.rb.form
  exact ⟨_, _, _, e⟩
/-- One more work behind a list of works. -/
theorem push_ms (w0 : World) (pv : Value) (W : List Wk) (vb : List Value) (hl0 : vb.length = W.length) (hm : MS 6 59 0 w0 pv W.length (wcs W vb)) (x : Wk) (v : Value) (hv : ∃ ao n c, v = .slice ao n c) (hl : W.length < 99999999) :
    ∃ ao c w', (∀ ty, (Builtin.append_ #[45, 45] ty #[pv, .slice (some ⟨w0.heap.size, 0, none⟩) 1 1]).run Try.prog (w0.alloc (.cells #[.int .i64 x.kind, .string x.nm, .string x.to_, .int .i64 x.len, .pointer (some ⟨x.file, 0, none⟩), v] 59)) = .ok (.slice ao (W.length + 1) c) w') ∧
      MS 6 59 0 w' (.slice ao (W.length + 1) c) (W ++ [x]).length (wcs (W ++ [x]) (vb ++ [v])) ∧ KX (fun b => ob pv b) w0 w' ∧ ∀ b, ob (.slice ao (W.length + 1) c) b → ob pv b ∨ w0.heap.size ≤ b := by
  obtain ⟨v', w', h1, h2, h3, h4⟩ := app_elemx 45 59 wsl_u (.agg #[.int .i64 0, .string ⟨#[]⟩, .string ⟨#[]⟩, .int .i64 0, .pointer none, .slice none 0 0]) 6 80 work_i rfl (by decide) 0 w0 pv W.length (wcs W vb) hm (wcell x v) rfl (wcell_one x v hv) (Nat.zero_le _) (by omega)
  obtain ⟨ao, c, rfl⟩ := h2.form
  refine ⟨ao, c, w', h1, ?_, h3, fun b hb => ?_⟩
  · rw [wcs_app hl0, List.length_append, List.length_singleton]
    exact h2
  · obtain ⟨n, c', e⟩ := hb
    exact h4 b n c' e
theorem push_work (w0 : World) (O : Nat → Prop) (B : Nat) (a : Da) (d : Dk) (x : Wk) (v : Value) (hd : DSt w0 O B a d) (hx : WkOk w0 O a x v) (hl : d.W.length < 99999999) :
    ∃ ao c w', (∀ ty, (Builtin.append_ #[45, 45] ty #[a.pv, .slice (some ⟨w0.heap.size, 0, none⟩) 1 1]).run Try.prog (w0.alloc (.cells #[.int .i64 x.kind, .string x.nm, .string x.to_, .int .i64 x.len, .pointer (some ⟨x.file, 0, none⟩), v] 59)) = .ok (.slice ao (d.W.length + 1) c) w') ∧
      KX (fun b => ob a.pv b) w0 w' ∧ (∀ w2, w2 = w'.setCell ⟨B, 7, none⟩ (.slice ao (d.W.length + 1) c) → Stp w0 O w2 (Ow O w0 w2) ∧ DSt w2 (Ow O w0 w2) B { a with pv := .slice ao (d.W.length + 1) c, vb := a.vb ++ [v] } { d with W := d.W ++ [x] }) := by
  have hw := hd.wks
  obtain ⟨ao, c, w', h1, h2, h3, h4⟩ := push_ms w0 a.pv d.W a.vb hw.len hw.ms x v hx.form hl
  refine ⟨ao, c, w', h1, h3, fun w2 h5 => hd.works _ (d.W ++ [x]) (a.vb ++ [v]) h3 (fun b hb => (h4 b hb).imp (hw.ow b) id) (by simp [hw.len]) h2 (fun i y u hy hu => ?_) h5⟩
  by_cases hi : i < d.W.length
  · rw [List.getElem?_append_left hi] at hy
    rw [List.getElem?_append_left (by rw [hw.len]; exact hi)] at hu
    exact hw.ok i y u hy hu
  · rw [List.getElem?_append_right (by omega)] at hy
    rw [List.getElem?_append_right (by rw [hw.len]; omega)] at hu
    rw [hw.len] at hu
    rcases e : i - d.W.length with _ | j
    · rw [e] at hy hu
      cases hy
      cases hu
      exact hx
    · rw [e] at hy
      simp at hy
theorem six {u : World} {M : Nat} {t : TypeId} {v0 v1 v2 v3 v4 v5 : Value} (h : Arr u M t [v0, v1, v2, v3, v4, v5]) : u.cell? ⟨M, 0, none⟩ = some v0 ∧ u.cell? ⟨M, 1, none⟩ = some v1 ∧ u.cell? ⟨M, 2, none⟩ = some v2 ∧ u.cell? ⟨M, 3, none⟩ = some v3 ∧ u.cell? ⟨M, 4, none⟩ = some v4 ∧ u.cell? ⟨M, 5, none⟩ = some v5 :=
  ⟨h.cell 0 _ rfl, h.cell 1 _ rfl, h.cell 2 _ rfl, h.cell 3 _ rfl, h.cell 4 _ rfl, h.cell 5 _ rfl⟩
set_option maxHeartbeats 4000000 in
set_option maxRecDepth 100000 in
theorem do_names (O : Nat → Prop) (B : Nat) (a : Da) (d : Dk) (x : Wk) (v : Value) (w : World) (hd : DSt w O B a d) (hx : WkOk w O a x v) (hk : ofN x.kind = true) (hn : d.nn < 1000000000) (hl2 : d.W.length < 99999999) :
    Calls Try.prog 22 #[.pointer (some ⟨B, 0, none⟩), wval x v] w fun e w' => e = .returned (.tuple #[]) ∧ ∃ O' a', Stp w O w' O' ∧ DSt w' O' B a' (doD x d) ∧ ∀ f, a.Fs f → a'.Fs f := by
  have hv := hx.rb.form
  obtain ⟨ao, c, rfl⟩ := hv
  have H1 := hid fun (u : World) => ofNames_any x (.slice ao x.bytes.length c) ⟨_, _, _, rfl⟩ u
  rw [hk] at H1
  have hX0 := arr_new w [.int .i64 x.kind, .string x.nm, .string x.to_, .int .i64 x.len, .pointer (some ⟨x.file, 0, none⟩), .slice ao x.bytes.length c] 59
  have kX : Kept w (w.alloc (.cells #[.int .i64 x.kind, .string x.nm, .string x.to_, .int .i64 x.len, .pointer (some ⟨x.file, 0, none⟩), .slice ao x.bytes.length c] 59)) := (Kept.refl w).alloc _ _
  obtain ⟨M, hM⟩ : ∃ M, w.heap.size = M := ⟨_, rfl⟩
  have hMO : ∀ b, O b → b ≠ M := fun b hb => by have := hd.olt b hb; omega
  rw [hM] at hX0
  have HX0 := hid hX0
  have HK0 := hid kX
  have HMO := hid hMO
  have HD := hid hd
  have HX := hid hx
  clear hX0 kX hMO hd hx
  go_enter Try.func22, Try.ntmps22
  go_wp2_with (first | (go_at_call 26; refine (H1.out _).mono ?_; rintro e u1 ⟨rfl, k1⟩))
  try rw [hM]
  have hM1 := HX0.out.kept k1
  have k1 := HK0.out.trans k1
  have hd1 := HD.out.kept (k1.trans ((Kept.refl u1).drew))
  have hx1 := HX.out.kept (k1.trans ((Kept.refl u1).drew))
  have hM1 := hM1.kept ((Kept.refl u1).drew)
  have k1 := k1.trans ((Kept.refl u1).drew)
  have hA1 : ∀ t g, d.nN t = some g → Cb u1.drew g := fun t g h => (hd1.fls.blk g (hd1.inN t g h).1).cb
  have hN1 := hid (name_any x (.slice ao x.bytes.length c) ⟨_, _, _, rfl⟩ a.mN d.nn d.nN hx1.nm hx1.to_ hn u1.drew hd1.mN (hd1.fls.blk _ hx1.fs).cb hA1)
  have neM : M ≠ a.mN := hd1.mN.ne_cells hM1
  have neB : B ≠ a.mN := hd1.mN.ne_cells hd1.blk
  have hg : ∀ u : World, KX (fun i => i = a.mN) u1.drew u → Mp u a.mN (d.nn + 1) (nameN x d.nN) → Arr u M 59 [.int .i64 x.kind, .string x.nm, .string x.to_, .int .i64 x.len, .pointer (some ⟨x.file, 0, none⟩), .slice ao x.bytes.length c] ∧ Stp w O u O ∧ DSt u O B a { d with nN := nameN x d.nN, nn := d.nn + 1 } ∧ WkOk u O a x (.slice ao x.bytes.length c) := fun u k m => by
    refine ⟨hM1.kx k (fun e => neM e), k1.stp (stp_names k hd1.oN), hd1.names k _ _ m ?_, hx1.kx k fun b hb e => ?_⟩
    · exact nameN_in (P := fun f s => a.Fs f ∧ s.size ≤ 32) hd1.inN ⟨hx1.fs, hx1.to_⟩
    · obtain ⟨cur, hc⟩ := hx1.rb.ob hb
      exact hd1.mN.ne_cells hc e
  have HG := hid hg
  have HM1 := hid hM1
  have HD1 := hid hd1
  clear hg hM1 hd1 hx1 hA1 neM neB k1
  refine wp_region_late [] (fun u => (u.cell? ⟨M, 0, none⟩ = some (.int .i64 x.kind) ∧ u.cell? ⟨M, 1, none⟩ = some (.string x.nm) ∧ u.cell? ⟨M, 2, none⟩ = some (.string x.to_) ∧ u.cell? ⟨M, 3, none⟩ = some (.int .i64 x.len) ∧ u.cell? ⟨M, 4, none⟩ = some (.pointer (some ⟨x.file, 0, none⟩)) ∧ u.cell? ⟨M, 5, none⟩ = some (.slice ao x.bytes.length c)) ∧ u.cell? ⟨B, 5, none⟩ = some (.map (some a.mN))) (by kernel_rfl) (show _ ∧ _ from ⟨six HM1.out, Arr.cell HD1.out.blk 5 _ rfl⟩) (fun hHeld => ?_)
  refine wpAnyD_take (i := 0) (v := ?_) rfl (by kernel_rfl) (by kernel_rfl) (by kernel_rfl) (by kernel_rfl) (fun _ _ _ h => h) (Or.inl ⟨by rfl, ?hyq0⟩) hHeld ?_
  case hyq0 => (intro w hSw; (try dsimp only at hSw); go_simp; try (with_reducible rfl))
  (try simp only [Act.put, List.getElem_toArray, List.getElem_cons_succ, List.getElem_cons_zero, List.setIfInBounds_toArray, List.set_cons_zero, List.set_cons_succ])
  refine wpAnyD_take (i := 1) (v := ?_) rfl (by kernel_rfl) (by kernel_rfl) (by kernel_rfl) (by kernel_rfl) (fun _ _ _ h => h) (Or.inl ⟨by rfl, ?hyq1⟩) hHeld ?_
  case hyq1 => (intro w hSw; (try dsimp only at hSw); go_simp; try (with_reducible rfl))
  (try simp only [Act.put, List.getElem_toArray, List.getElem_cons_succ, List.getElem_cons_zero, List.setIfInBounds_toArray, List.set_cons_zero, List.set_cons_succ])
  refine wpAnyD_take (i := 2) (v := ?_) rfl (by kernel_rfl) (by kernel_rfl) (by kernel_rfl) (by kernel_rfl) (fun _ _ _ h => h) (Or.inl ⟨by rfl, ?hyq2⟩) hHeld ?_
  case hyq2 => (intro w hSw; (try dsimp only at hSw); go_simp; try (with_reducible rfl))
  (try simp only [Act.put, List.getElem_toArray, List.getElem_cons_succ, List.getElem_cons_zero, List.setIfInBounds_toArray, List.set_cons_zero, List.set_cons_succ])
  refine wpAnyD_take (i := 3) (v := ?_) rfl (by kernel_rfl) (by kernel_rfl) (by kernel_rfl) (by kernel_rfl) (fun _ _ _ h => h) (Or.inl ⟨by rfl, ?hyq3⟩) hHeld ?_
  case hyq3 => (intro w hSw; (try dsimp only at hSw); go_simp; try (with_reducible rfl))
  (try simp only [Act.put, List.getElem_toArray, List.getElem_cons_succ, List.getElem_cons_zero, List.setIfInBounds_toArray, List.set_cons_zero, List.set_cons_succ])
  refine wpAnyD_take (i := 4) (v := ?_) rfl (by kernel_rfl) (by kernel_rfl) (by kernel_rfl) (by kernel_rfl) (fun _ _ _ h => h) (Or.inl ⟨by rfl, ?hyq4⟩) hHeld ?_
  case hyq4 => (intro w hSw; (try dsimp only at hSw); go_simp; try (with_reducible rfl))
  (try simp only [Act.put, List.getElem_toArray, List.getElem_cons_succ, List.getElem_cons_zero, List.setIfInBounds_toArray, List.set_cons_zero, List.set_cons_succ])
  refine wpAnyD_step (i := 5) (by kernel_rfl) rfl (fun K hK9 => ?_)
  go_simp
  go_wp2_with fail
  refine (hN1.out).mono ?_
  rintro e u7 ⟨rfl, kx, hmp⟩
  refine hK9.out _ _ ((by obtain ⟨g1, g2, g3, g4⟩ := HG.out _ kx hmp; exact ⟨six g1, g3.blk.cell 5 _ rfl⟩)) (fun hHeld7 => ?_)
  clear hK9 K
  refine wpAnyD_done (by kernel_rfl) ?_ _
  (try simp only [Act.put, List.getElem_toArray, List.getElem_cons_succ, List.getElem_cons_zero, List.setIfInBounds_toArray, List.set_cons_zero, List.set_cons_succ])
  obtain ⟨hMU, hS1, hdU, hxU⟩ := HG.out _ kx hmp
  obtain ⟨U, hU⟩ : ∃ U, U = u7 := ⟨_, rfl⟩
  rw [← hU] at hMU hS1 hdU hxU
  rw [← hU]
  clear hU hHeld hHeld7 HG hN1 kx hmp HM1 HD1
  obtain ⟨d2, hd2⟩ : ∃ d2, d2 = ({ d with nN := nameN x d.nN, nn := d.nn + 1 } : Dk) := ⟨_, rfl⟩
  obtain ⟨a2, ha2⟩ : ∃ a2, a2 = a := ⟨_, rfl⟩
  obtain ⟨O2, hO2⟩ : ∃ O2, O2 = O := ⟨_, rfl⟩
  have hl2 : d2.W.length < 99999999 := by rw [hd2]; exact hl2
  have hMO : ∀ b, O2 b → b ≠ M := by rw [hO2]; exact HMO.out
  have hfin : doD x d = { d2 with W := d2.W ++ [x] } := by
    unfold doD
    rw [if_pos hk, hd2]
  rw [← hd2, ← ha2, ← hO2] at hdU
  rw [← ha2, ← hO2] at hxU
  have hS1 : Stp w O U O2 := by rw [hO2]; exact hS1
  have hFs : ∀ f, a.Fs f → a2.Fs f := by rw [ha2]; exact fun f h => h
  clear hd2 ha2 hO2
  go_wp2_with fail
  have hd3 := hdU.kept ((Kept.refl U).drew)
  have hx3 := hxU.kept ((Kept.refl U).drew)
  have hM3 := hMU.kept ((Kept.refl U).drew)
  have hw3 := hd3.wks
  obtain ⟨ao2, c2, hpv⟩ := hw3.ms.form
  obtain ⟨ao4, c4, w4, happ, hkx, hst⟩ := push_work U.drew O2 B a2 d2 x (.slice ao x.bytes.length c) hd3 hx3 hl2
  have hB4 : ¬ ob a2.pv B := fun h => by
    obtain ⟨cur, hc⟩ := hw3.ms.ob h
    exact absurd (ne_ty hc hd3.blk) (by decide)
  have hM4 : ¬ ob a2.pv M := fun h => hMO _ (hw3.ow M h) rfl
  have hSt := hid (hst _ rfl)
  have hap := hid happ
  have hBw := hid (hd3.blk.kx hkx hB4)
  have hMw := hid (hM3.kx hkx hM4)
  have hBa := hid (hd3.blk.kept ((Kept.refl U.drew).alloc #[.int .i64 x.kind, .string x.nm, .string x.to_, .int .i64 x.len, .pointer (some ⟨x.file, 0, none⟩), .slice ao x.bytes.length c] 59))
  have hMa := hid (hM3.kept ((Kept.refl U.drew).alloc #[.int .i64 x.kind, .string x.nm, .string x.to_, .int .i64 x.len, .pointer (some ⟨x.file, 0, none⟩), .slice ao x.bytes.length c] 59))
  have hfr := hid (hBw.out.free 7)
  have hBd := hid hd3.blk
  have hMd := hid hM3
  clear hst happ hw3 hd3 hx3 hM3 hB4 hM4 hkx hdU hxU hMU
  rw [hpv] at hap
  have hpv := hid hpv
  refine wp_region_late [10] (fun u => (u.cell? ⟨M, 0, none⟩ = some (.int .i64 x.kind) ∧ u.cell? ⟨M, 1, none⟩ = some (.string x.nm) ∧ u.cell? ⟨M, 2, none⟩ = some (.string x.to_) ∧ u.cell? ⟨M, 3, none⟩ = some (.int .i64 x.len) ∧ u.cell? ⟨M, 4, none⟩ = some (.pointer (some ⟨x.file, 0, none⟩)) ∧ u.cell? ⟨M, 5, none⟩ = some (.slice ao x.bytes.length c)) ∧ u.cell? ⟨B, 7, none⟩ = some (.slice ao2 d2.W.length c2)) (by kernel_rfl) (show _ ∧ _ from ⟨six hMd.out, by rw [← hpv.out]; exact Arr.cell hBd.out 7 _ rfl⟩) (fun hHeld => ?_)
  refine wpAnyD_take (i := 0) (v := ?_) rfl (by kernel_rfl) (by kernel_rfl) (by kernel_rfl) (by kernel_rfl) (fun _ _ _ h => h) (Or.inl ⟨by rfl, ?hyp0⟩) hHeld ?_
  case hyp0 => (intro w hSw; (try dsimp only at hSw); go_simp; try (with_reducible rfl))
  (try simp only [Act.put, List.getElem_toArray, List.getElem_cons_succ, List.getElem_cons_zero, List.setIfInBounds_toArray, List.set_cons_zero, List.set_cons_succ])
  refine wpAnyD_take (i := 1) (v := ?_) rfl (by kernel_rfl) (by kernel_rfl) (by kernel_rfl) (by kernel_rfl) (fun _ _ _ h => h) (Or.inl ⟨by rfl, ?hyp1⟩) hHeld ?_
  case hyp1 => (intro w hSw; (try dsimp only at hSw); go_simp; try (with_reducible rfl))
  (try simp only [Act.put, List.getElem_toArray, List.getElem_cons_succ, List.getElem_cons_zero, List.setIfInBounds_toArray, List.set_cons_zero, List.set_cons_succ])
  refine wpAnyD_take (i := 2) (v := ?_) rfl (by kernel_rfl) (by kernel_rfl) (by kernel_rfl) (by kernel_rfl) (fun _ _ _ h => h) (Or.inl ⟨by rfl, ?hyp2⟩) hHeld ?_
  case hyp2 => (intro w hSw; (try dsimp only at hSw); go_simp; try (with_reducible rfl))
  (try simp only [Act.put, List.getElem_toArray, List.getElem_cons_succ, List.getElem_cons_zero, List.setIfInBounds_toArray, List.set_cons_zero, List.set_cons_succ])
  refine wpAnyD_take (i := 3) (v := ?_) rfl (by kernel_rfl) (by kernel_rfl) (by kernel_rfl) (by kernel_rfl) (fun _ _ _ h => h) (Or.inl ⟨by rfl, ?hyp3⟩) hHeld ?_
  case hyp3 => (intro w hSw; (try dsimp only at hSw); go_simp; try (with_reducible rfl))
  (try simp only [Act.put, List.getElem_toArray, List.getElem_cons_succ, List.getElem_cons_zero, List.setIfInBounds_toArray, List.set_cons_zero, List.set_cons_succ])
  refine wpAnyD_take (i := 4) (v := ?_) rfl (by kernel_rfl) (by kernel_rfl) (by kernel_rfl) (by kernel_rfl) (fun _ _ _ h => h) (Or.inl ⟨by rfl, ?hyp4⟩) hHeld ?_
  case hyp4 => (intro w hSw; (try dsimp only at hSw); go_simp; try (with_reducible rfl))
  (try simp only [Act.put, List.getElem_toArray, List.getElem_cons_succ, List.getElem_cons_zero, List.setIfInBounds_toArray, List.set_cons_zero, List.set_cons_succ])
  refine wpAnyD_take (i := 5) (v := ?_) rfl (by kernel_rfl) (by kernel_rfl) (by kernel_rfl) (by kernel_rfl) (fun _ _ _ h => h) (Or.inl ⟨by rfl, ?hyp5⟩) hHeld ?_
  case hyp5 => (intro w hSw; (try dsimp only at hSw); go_simp; try (with_reducible rfl))
  (try simp only [Act.put, List.getElem_toArray, List.getElem_cons_succ, List.getElem_cons_zero, List.setIfInBounds_toArray, List.set_cons_zero, List.set_cons_succ])
  refine wpAnyD_step (i := 6) (by kernel_rfl) rfl (fun K hK9 => ?_)
  go_simp
  refine hK9.out _ _ (show _ ∧ _ from ⟨six hMa.out, by rw [← hpv.out]; exact Arr.cell hBa.out 7 _ rfl⟩) (fun hHeld2 => ?_)
  clear hK9 K
  refine wpAnyD_step (i := 7) (by kernel_rfl) rfl (fun K hK9 => ?_)
  rw [if_pos (by rfl)]
  refine oper_append_run _ _ _ rfl _ _ rfl rfl _ _ (hap.out _) ?_
  refine hK9.out _ _ (show _ ∧ _ from ⟨six hMw.out, by rw [← hpv.out]; exact Arr.cell hBw.out 7 _ rfl⟩) (fun hHeld3 => ?_)
  clear hK9 K
  (try simp only [Act.put, List.getElem_toArray, List.getElem_cons_succ, List.getElem_cons_zero, List.setIfInBounds_toArray, List.set_cons_zero, List.set_cons_succ])
  refine wpAnyD_take (i := 8) (v := ?_) rfl (by kernel_rfl) (by kernel_rfl) (by kernel_rfl) (by kernel_rfl) (fun _ _ _ h => h) (Or.inl ⟨by rfl, ?hyr8⟩) hHeld3 ?_
  case hyr8 => (intro w hSw; (try dsimp only at hSw); go_simp; try (with_reducible rfl))
  (try simp only [Act.put, List.getElem_toArray, List.getElem_cons_succ, List.getElem_cons_zero, List.setIfInBounds_toArray, List.set_cons_zero, List.set_cons_succ])
  refine wpAnyD_take (i := 9) (v := ?_) rfl (by kernel_rfl) (by kernel_rfl) (by kernel_rfl) (by kernel_rfl) (fun _ _ _ h => h) (Or.inl ⟨by rfl, ?hyr9⟩) hHeld3 ?_
  case hyr9 => (intro w hSw; (try dsimp only at hSw); go_simp; try (with_reducible rfl))
  (try simp only [Act.put, List.getElem_toArray, List.getElem_cons_succ, List.getElem_cons_zero, List.setIfInBounds_toArray, List.set_cons_zero, List.set_cons_succ])
  have f7 := hfr.out
  have c7 := hHeld3.2
  refine wpAnyD_late (i := 10) (by kernel_rfl) rfl rfl (fun K hK9 => ?_)
  go_simp
  refine hK9.out _ _ ?_
  clear hK9 K
  (try simp only [Act.put, List.getElem_toArray, List.getElem_cons_succ, List.getElem_cons_zero, List.setIfInBounds_toArray, List.set_cons_zero, List.set_cons_succ])
  refine wpAnyD_done (by kernel_rfl) ?_ _
  (try simp only [Act.put, List.getElem_toArray, List.getElem_cons_succ, List.getElem_cons_zero, List.setIfInBounds_toArray, List.set_cons_zero, List.set_cons_succ])
  go_wp2_with fail
  refine bodyPost_end (v := .tuple #[]) (by simp [results, Try.results22, go_sem]) rfl ⟨rfl, ?_⟩
  rw [hfin]
  obtain ⟨q1, q2⟩ := hSt.out
  refine ⟨_, _, hS1.trans ((Stp.kept (Stp.refl U O2) ((Kept.refl U).drew)).trans q1), q2, hFs⟩
end Go.Proofs.Ythaiejmajhmahab
