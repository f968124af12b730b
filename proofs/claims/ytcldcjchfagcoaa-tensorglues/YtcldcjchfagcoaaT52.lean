/- The document's Moved. -/
import Derived.Test.YtcldcjchfagcoaaT50
import Derived.Test.YtcldcjchfagcoaaT33
import Derived.Test.YtcldcjchfagcoaaT34
namespace Go.Proofs.Ytcldcjchfagcoaa
open Go.ChangeShapes Go.WideShapes Go.ChangeAt Go.RowKit
set_option linter.unusedVariables false
set_option linter.unusedSimpArgs false

/-- Where the element of a move comes from: its matrix's slice, its value. -/
def MvAt (w : World) (lb lo nl q : Nat) (a b : Nat → Nat) (F : Nat → Int) : Prop := lb < w.heap.size ∧ ∀ j, j < q → a j < nl ∧ ∃ bb oo ll cc, w.cell? ⟨lb, lo + a j * 4 + 3, none⟩ = some (.slice (some ⟨bb, oo, none⟩) ll cc) ∧ b j < ll ∧ bb < w.heap.size ∧ w.cell? ⟨bb, oo + b j, none⟩ = some (.int .i64 (F j))

set_option maxHeartbeats 4000000 in
set_option maxRecDepth 100000 in
theorem rmoved_ok (r c n : Int) (hn : n = 64 ∨ n = 32) (q : Nat) (hq0 : 0 < q) (hq : q ≤ 100000) (a b : Nat → Nat) (F : Nat → Int) (hRg : Rgl (lst q F)) (v : Value) (Hv : Nat) (lb lo nl lc : Nat) (hnl : nl ≤ 100000) (w : World) (hV : MS 2 89 Hv w v q (prl q a b)) (hL : MvAt w lb lo nl q a b F) : Calls Try.prog 43 #[.agg #[.int .i64 r, .int .i64 c, .int .i64 n, v], .slice (some ⟨lb, lo, none⟩) nl lc] w fun e w' => ∃ v, e = .returned (.agg #[.int .i64 r, .int .i64 c, .int .i64 n, v]) ∧ MR w.heap.size w' v ((lst q F).map (cln · n)) ∧ Kept w w' := by
  rcases hV with ⟨e, -⟩ | ⟨pb, pc, rfl, -, -, hpc, hOP⟩
  · omega
  have HCan : Hid (∀ u v, MR (w.heap.size + 3) u v (lst q F) → Calls Try.prog 58 #[.agg #[.int .i64 r, .int .i64 c, .int .i64 n, v]] u fun e w' => ∃ v, e = .returned (.agg #[.int .i64 r, .int .i64 c, .int .i64 n, v]) ∧ MR u.heap.size w' v ((lst q F).map (cln · n)) ∧ Kept u w') := fun u v hv => by
    obtain ⟨ao, cx, e, -, hs⟩ := hv.sl
    rw [e]
    exact rcanon_ok r c n hn _ hRg (by rw [lst_length]; omega) ao cx u hs
  obtain ⟨X, hX⟩ : ∃ X, X = ((w.alloc (.cells #[.int .i64 r, .int .i64 c, .int .i64 n, .slice (some ⟨pb, 0, none⟩) q pc] 60)).alloc (.cells #[.int .i64 0, .int .i64 0, .int .i64 0, .slice none 0 0] 24)).alloc (.cells #[.int .i64 r, .int .i64 c, .int .i64 n, .slice none 0 0] 24) := ⟨_, rfl⟩
  have hK : Kept w X := by rw [hX]; exact (((Kept.refl w).alloc _ _).alloc _ _).alloc _ _
  have hXs : X.heap.size = w.heap.size + 3 := by rw [hX]; simp
  have hA : M4 X w.heap.size (.int .i64 r) (.int .i64 c) (.int .i64 n) (.slice (some ⟨pb, 0, none⟩) q pc) := by rw [hX]; exact ⟨by simp [go_sem], by simp [go_sem], by simp [go_sem], by simp [go_sem]⟩
  have hRs : M4 X (w.heap.size + 1) (.int .i64 0) (.int .i64 0) (.int .i64 0) (.slice none 0 0) := by rw [hX]; exact ⟨by simp [go_sem], by simp [go_sem], by simp [go_sem], by simp [go_sem]⟩
  have hO : M4 X (w.heap.size + 2) (.int .i64 r) (.int .i64 c) (.int .i64 n) (.slice none 0 0) := by rw [hX]; exact ⟨by simp [go_sem], by simp [go_sem], by simp [go_sem], by simp [go_sem]⟩
  have hF1 : ∀ o, X.frozen? ⟨w.heap.size + 1, o, none⟩ = false := fun o => by rw [hX]; simp [go_sem]
  have hF2 : ∀ o, X.frozen? ⟨w.heap.size + 2, o, none⟩ = false := fun o => by rw [hX]; simp [go_sem]
  have hpb := hOP.lt
  obtain ⟨hlb, hLj⟩ := hL
  have HRD : Hid (∀ u, GrwS [w.heap.size + 2] X u → ∀ j, j < q → (u.cell? ⟨pb, j * 2, none⟩ = some (.int .i64 (a j : Nat)) ∧ u.cell? ⟨pb, j * 2 + 1, none⟩ = some (.int .i64 (b j : Nat))) ∧ a j < nl ∧ ∃ bb oo ll cc, u.cell? ⟨lb, lo + a j * 4 + 3, none⟩ = some (.slice (some ⟨bb, oo, none⟩) ll cc) ∧ b j < ll ∧ bb < w.heap.size ∧ u.cell? ⟨bb, oo + b j, none⟩ = some (.int .i64 (F j))) := fun u k j hj => by
    obtain ⟨h1, bb, oo, ll, cc, h2, h3, h4, h5⟩ := hLj j hj
    obtain ⟨g1, g2⟩ := prl_get q a b j hj
    have kc : ∀ B o, B < w.heap.size → u.cell? ⟨B, o, none⟩ = w.cell? ⟨B, o, none⟩ := fun B o hB => (k.cell (by omega) (by simp; omega)).trans (hK.bl.cell B o hB)
    exact ⟨⟨(kc pb _ hpb).trans (hOP.cell _ _ g1), (kc pb _ hpb).trans (hOP.cell _ _ g2)⟩, h1, bb, oo, ll, cc, (kc lb _ hlb).trans h2, h3, h4, (kc bb _ h4).trans h5⟩
  obtain ⟨T, hT⟩ : ∃ T, (lst q F).map (cln · n) = T := ⟨_, rfl⟩
  rw [hT]
  rw [hT] at HCan
  clear hT hRg hLj hOP
  go_enter Try.func43, Try.ntmps43
  go_upto_region 2 with fail
  rw [← hX]
  clear hX
  go_wp2_with fail
  go_loopw [6] (fun iv wr => ∃ k : Nat, k ≤ q ∧ iv = .int .i64 k ∧ GrwS [w.heap.size + 2] X wr ∧ ∃ lv, M4 wr (w.heap.size + 2) (.int .i64 r) (.int .i64 c) (.int .i64 n) lv ∧ MR (w.heap.size + 3) wr lv (lst k F)) (fun iv _ => q - (intOf iv).toNat)
  case atStart => exact ⟨0, Nat.zero_le _, rfl, GrwS.refl _ _, _, hO, .inl ⟨rfl, rfl⟩⟩
  case round =>
    obtain ⟨k, hk, rfl, hG, lv, hM4, hM⟩ := hrel
    obtain ⟨a0, a1, a2, a3⟩ := hG.m4 hA (by simp)
    by_cases hkl : k < q
    · obtain ⟨⟨e1, e2⟩, hak, bb, oo, ll, cc, e3, hbk, hbb, e4⟩ := HRD.out _ hG k hkl
      have hH : w.heap.size + 3 ≤ wr.heap.size := by have := hG.size; omega
      have hf3 : wr.frozen? ⟨w.heap.size + 2, 3, none⟩ = false := (hG.frozen _).trans (hF2 3)
      have z1 : IntKind.i64.wrap ((k : Int) + 1) = (k : Int) + 1 := by rw [wrap_i64]; omega
      obtain ⟨ak, hakk⟩ : ∃ x, a k = x := ⟨_, rfl⟩
      obtain ⟨bk, hbkk⟩ : ∃ x, b k = x := ⟨_, rfl⟩
      obtain ⟨d, hd⟩ : ∃ x, F k = x := ⟨_, rfl⟩
      rw [hakk] at e1 hak e3
      rw [hbkk] at e2 hbk e4
      rw [hd] at e4
      have HFK : Hid (F k = d) := hd
      have y1 : (0 : Int) ≤ (k : Int) := by omega
      have y2 : (k : Int) < (q : Int) := by omega
      have y3 : (0 : Int) ≤ (ak : Int) := by omega
      have y4 : (ak : Int) < (nl : Int) := by omega
      have y5 : (0 : Int) ≤ (bk : Int) := by omega
      have y6 : (bk : Int) < (ll : Int) := by omega
      have HS : Hid (∀ u, Kept wr u → Kept wr u ∧ (u.cell? ⟨w.heap.size + 2, 3, none⟩ = some lv ∧ u.cell? ⟨w.heap.size, 3, none⟩ = some (.slice (some ⟨pb, 0, none⟩) q pc)) ∧ (u.cell? ⟨pb, k * 2, none⟩ = some (.int .i64 (ak : Nat)) ∧ u.cell? ⟨pb, k * 2 + 1, none⟩ = some (.int .i64 (bk : Nat))) ∧ u.cell? ⟨lb, lo + ak * 4 + 3, none⟩ = some (.slice (some ⟨bb, oo, none⟩) ll cc) ∧ u.cell? ⟨bb, oo + bk, none⟩ = some (.int .i64 d)) := fun u ku => ⟨ku, ⟨(ku.bl.cell _ 3 hM4.lt).trans hM4.c3, (ku.bl.cell _ 3 (by omega)).trans a3⟩, ⟨(ku.bl.cell pb _ (by omega)).trans e1, (ku.bl.cell pb _ (by omega)).trans e2⟩, (ku.bl.cell lb _ (by omega)).trans e3, (ku.bl.cell bb _ (by omega)).trans e4⟩
      clear HRD hRs hO HCan hakk hbkk hd hA a0 a1 a2 e1 e2 e3 e4
      go_wp2_with fail
      refine wp_region_late [21, 22, 23] (fun u => Kept wr u ∧ (u.cell? ⟨w.heap.size + 2, 3, none⟩ = some lv ∧ u.cell? ⟨w.heap.size, 3, none⟩ = some (.slice (some ⟨pb, 0, none⟩) q pc)) ∧ (u.cell? ⟨pb, k * 2, none⟩ = some (.int .i64 (ak : Nat)) ∧ u.cell? ⟨pb, k * 2 + 1, none⟩ = some (.int .i64 (bk : Nat))) ∧ u.cell? ⟨lb, lo + ak * 4 + 3, none⟩ = some (.slice (some ⟨bb, oo, none⟩) ll cc) ∧ u.cell? ⟨bb, oo + bk, none⟩ = some (.int .i64 d)) (by kernel_rfl) (HS.out _ ((Kept.refl wr).drew)) (fun hHeld => ?_)
      refine wpAnyD_take (i := 0) (v := ?_) rfl (by kernel_rfl) (by kernel_rfl) (by kernel_rfl) (by kernel_rfl) (fun _ _ _ h => h) (Or.inl ⟨by rfl, ?hya0⟩) hHeld ?_
      case hya0 => (intro w hSw; (try dsimp only at hSw); go_simp; try (with_reducible rfl))
      (try simp only [Act.put, List.getElem_toArray, List.getElem_cons_succ, List.getElem_cons_zero, List.setIfInBounds_toArray, List.set_cons_zero, List.set_cons_succ])
      refine wpAnyD_take (i := 1) (v := ?_) rfl (by kernel_rfl) (by kernel_rfl) (by kernel_rfl) (by kernel_rfl) (fun _ _ _ h => h) (Or.inl ⟨by rfl, ?hya1⟩) hHeld ?_
      case hya1 => (intro w hSw; (try dsimp only at hSw); go_simp; try (with_reducible rfl))
      (try simp only [Act.put, List.getElem_toArray, List.getElem_cons_succ, List.getElem_cons_zero, List.setIfInBounds_toArray, List.set_cons_zero, List.set_cons_succ])
      refine wpAnyD_take (i := 2) (v := ?_) rfl (by kernel_rfl) (by kernel_rfl) (by kernel_rfl) (by kernel_rfl) (fun _ _ _ h => h) (Or.inl ⟨by rfl, ?hya2⟩) hHeld ?_
      case hya2 => (intro w hSw; (try dsimp only at hSw); go_simp; try (with_reducible rfl))
      (try simp only [Act.put, List.getElem_toArray, List.getElem_cons_succ, List.getElem_cons_zero, List.setIfInBounds_toArray, List.set_cons_zero, List.set_cons_succ])
      refine wpAnyD_take (i := 3) (v := ?_) rfl (by kernel_rfl) (by kernel_rfl) (by kernel_rfl) (by kernel_rfl) (fun _ _ _ h => h) (Or.inl ⟨by rfl, ?hya3⟩) hHeld ?_
      case hya3 => (intro w hSw; (try dsimp only at hSw); go_simp; try (with_reducible rfl))
      (try simp only [Act.put, List.getElem_toArray, List.getElem_cons_succ, List.getElem_cons_zero, List.setIfInBounds_toArray, List.set_cons_zero, List.set_cons_succ])
      refine wpAnyD_take (i := 4) (v := ?_) rfl (by kernel_rfl) (by kernel_rfl) (by kernel_rfl) (by kernel_rfl) (fun _ _ _ h => h) (Or.inl ⟨by rfl, ?hya4⟩) hHeld ?_
      case hya4 => (intro w hSw; (try dsimp only at hSw); go_simp; try (with_reducible rfl))
      (try simp only [Act.put, List.getElem_toArray, List.getElem_cons_succ, List.getElem_cons_zero, List.setIfInBounds_toArray, List.set_cons_zero, List.set_cons_succ])
      refine wpAnyD_take (i := 5) (v := ?_) rfl (by kernel_rfl) (by kernel_rfl) (by kernel_rfl) (by kernel_rfl) (fun _ _ _ h => h) (Or.inl ⟨by rfl, ?hya5⟩) hHeld ?_
      case hya5 => (intro w hSw; (try dsimp only at hSw); go_simp; try (with_reducible rfl))
      (try simp only [Act.put, List.getElem_toArray, List.getElem_cons_succ, List.getElem_cons_zero, List.setIfInBounds_toArray, List.set_cons_zero, List.set_cons_succ])
      refine wpAnyD_take (i := 6) (v := ?_) rfl (by kernel_rfl) (by kernel_rfl) (by kernel_rfl) (by kernel_rfl) (fun _ _ _ h => h) (Or.inl ⟨by rfl, ?hya6⟩) hHeld ?_
      case hya6 => (intro w hSw; (try dsimp only at hSw); go_simp; try (with_reducible rfl))
      (try simp only [Act.put, List.getElem_toArray, List.getElem_cons_succ, List.getElem_cons_zero, List.setIfInBounds_toArray, List.set_cons_zero, List.set_cons_succ])
      refine wpAnyD_take (i := 7) (v := ?_) rfl (by kernel_rfl) (by kernel_rfl) (by kernel_rfl) (by kernel_rfl) (fun _ _ _ h => h) (Or.inl ⟨by rfl, ?hya7⟩) hHeld ?_
      case hya7 => (intro w hSw; (try dsimp only at hSw); go_simp; try (with_reducible rfl))
      (try simp only [Act.put, List.getElem_toArray, List.getElem_cons_succ, List.getElem_cons_zero, List.setIfInBounds_toArray, List.set_cons_zero, List.set_cons_succ])
      refine wpAnyD_take (i := 8) (v := ?_) rfl (by kernel_rfl) (by kernel_rfl) (by kernel_rfl) (by kernel_rfl) (fun _ _ _ h => h) (Or.inl ⟨by rfl, ?hya8⟩) hHeld ?_
      case hya8 => (intro w hSw; (try dsimp only at hSw); go_simp; try (with_reducible rfl))
      (try simp only [Act.put, List.getElem_toArray, List.getElem_cons_succ, List.getElem_cons_zero, List.setIfInBounds_toArray, List.set_cons_zero, List.set_cons_succ])
      refine wpAnyD_take (i := 9) (v := ?_) rfl (by kernel_rfl) (by kernel_rfl) (by kernel_rfl) (by kernel_rfl) (fun _ _ _ h => h) (Or.inl ⟨by rfl, ?hya9⟩) hHeld ?_
      case hya9 => (intro w hSw; (try dsimp only at hSw); go_simp; try (with_reducible rfl))
      (try simp only [Act.put, List.getElem_toArray, List.getElem_cons_succ, List.getElem_cons_zero, List.setIfInBounds_toArray, List.set_cons_zero, List.set_cons_succ])
      refine wpAnyD_take (i := 10) (v := ?_) rfl (by kernel_rfl) (by kernel_rfl) (by kernel_rfl) (by kernel_rfl) (fun _ _ _ h => h) (Or.inl ⟨by rfl, ?hya10⟩) hHeld ?_
      case hya10 => (intro w hSw; (try dsimp only at hSw); go_simp; try (with_reducible rfl))
      (try simp only [Act.put, List.getElem_toArray, List.getElem_cons_succ, List.getElem_cons_zero, List.setIfInBounds_toArray, List.set_cons_zero, List.set_cons_succ])
      refine wpAnyD_take (i := 11) (v := ?_) rfl (by kernel_rfl) (by kernel_rfl) (by kernel_rfl) (by kernel_rfl) (fun _ _ _ h => h) (Or.inl ⟨by rfl, ?hya11⟩) hHeld ?_
      case hya11 => (intro w hSw; (try dsimp only at hSw); go_simp; try (with_reducible rfl))
      (try simp only [Act.put, List.getElem_toArray, List.getElem_cons_succ, List.getElem_cons_zero, List.setIfInBounds_toArray, List.set_cons_zero, List.set_cons_succ])
      refine wpAnyD_take (i := 12) (v := ?_) rfl (by kernel_rfl) (by kernel_rfl) (by kernel_rfl) (by kernel_rfl) (fun _ _ _ h => h) (Or.inl ⟨by rfl, ?hya12⟩) hHeld ?_
      case hya12 => (intro w hSw; (try dsimp only at hSw); go_simp; try (with_reducible rfl))
      (try simp only [Act.put, List.getElem_toArray, List.getElem_cons_succ, List.getElem_cons_zero, List.setIfInBounds_toArray, List.set_cons_zero, List.set_cons_succ])
      refine wpAnyD_take (i := 13) (v := ?_) rfl (by kernel_rfl) (by kernel_rfl) (by kernel_rfl) (by kernel_rfl) (fun _ _ _ h => h) (Or.inl ⟨by rfl, ?hya13⟩) hHeld ?_
      case hya13 => (intro w hSw; (try dsimp only at hSw); go_simp; try (with_reducible rfl))
      (try simp only [Act.put, List.getElem_toArray, List.getElem_cons_succ, List.getElem_cons_zero, List.setIfInBounds_toArray, List.set_cons_zero, List.set_cons_succ])
      refine wpAnyD_take (i := 14) (v := ?_) rfl (by kernel_rfl) (by kernel_rfl) (by kernel_rfl) (by kernel_rfl) (fun _ _ _ h => h) (Or.inl ⟨by rfl, ?hya14⟩) hHeld ?_
      case hya14 => (intro w hSw; (try dsimp only at hSw); go_simp; try (with_reducible rfl))
      (try simp only [Act.put, List.getElem_toArray, List.getElem_cons_succ, List.getElem_cons_zero, List.setIfInBounds_toArray, List.set_cons_zero, List.set_cons_succ])
      refine wpAnyD_take (i := 15) (v := ?_) rfl (by kernel_rfl) (by kernel_rfl) (by kernel_rfl) (by kernel_rfl) (fun _ _ _ h => h) (Or.inl ⟨by rfl, ?hya15⟩) hHeld ?_
      case hya15 => (intro w hSw; (try dsimp only at hSw); go_simp; try (with_reducible rfl))
      (try simp only [Act.put, List.getElem_toArray, List.getElem_cons_succ, List.getElem_cons_zero, List.setIfInBounds_toArray, List.set_cons_zero, List.set_cons_succ])
      refine wpAnyD_take (i := 16) (v := ?_) rfl (by kernel_rfl) (by kernel_rfl) (by kernel_rfl) (by kernel_rfl) (fun _ _ _ h => h) (Or.inl ⟨by rfl, ?hya16⟩) hHeld ?_
      case hya16 => (intro w hSw; (try dsimp only at hSw); go_simp; try (with_reducible rfl))
      (try simp only [Act.put, List.getElem_toArray, List.getElem_cons_succ, List.getElem_cons_zero, List.setIfInBounds_toArray, List.set_cons_zero, List.set_cons_succ])
      refine wpAnyD_take (i := 17) (v := ?_) rfl (by kernel_rfl) (by kernel_rfl) (by kernel_rfl) (by kernel_rfl) (fun _ _ _ h => h) (Or.inl ⟨by rfl, ?hya17⟩) hHeld ?_
      case hya17 => (intro w hSw; (try dsimp only at hSw); go_simp; try (with_reducible rfl))
      (try simp only [Act.put, List.getElem_toArray, List.getElem_cons_succ, List.getElem_cons_zero, List.setIfInBounds_toArray, List.set_cons_zero, List.set_cons_succ])
      refine wpAnyD_take (i := 18) (v := ?_) rfl (by kernel_rfl) (by kernel_rfl) (by kernel_rfl) (by kernel_rfl) (fun _ _ _ h => h) (Or.inl ⟨by rfl, ?hya18⟩) hHeld ?_
      case hya18 => (intro w hSw; (try dsimp only at hSw); go_simp; try (with_reducible rfl))
      (try simp only [Act.put, List.getElem_toArray, List.getElem_cons_succ, List.getElem_cons_zero, List.setIfInBounds_toArray, List.set_cons_zero, List.set_cons_succ])
      refine wpAnyD_take (i := 19) (v := ?_) rfl (by kernel_rfl) (by kernel_rfl) (by kernel_rfl) (by kernel_rfl) (fun _ _ _ h => h) (Or.inl ⟨by rfl, ?hya19⟩) hHeld ?_
      case hya19 => (intro w hSw; (try dsimp only at hSw); go_simp; try (with_reducible rfl))
      (try simp only [Act.put, List.getElem_toArray, List.getElem_cons_succ, List.getElem_cons_zero, List.setIfInBounds_toArray, List.set_cons_zero, List.set_cons_succ])
      refine wpAnyD_step (i := 20) (by kernel_rfl) rfl (fun K hK9 => ?_)
      go_simp
      refine hK9.out _ _ (HS.out _ (hHeld.1.alloc _ _)) (fun hHeld20 => ?_)
      clear hK9 K
      obtain ⟨v', w', hr, hM', hB', hF'⟩ := app_one (w.heap.size + 3) wr.drew lv _ (hM.kept (Kept.refl wr).drew) d hH (by rw [lst_length]; omega)
      obtain ⟨sa, sn, sc, rfl⟩ := hM'.form
      have HF9 : Hid (∀ x, w'.frozen? x = wr.drew.frozen? x) := hF'
      clear hF'
      refine wpAnyD_late (i := 21) (by kernel_rfl) rfl rfl (fun K hK9 => ?_)
      rw [if_pos (by rfl)]
      refine oper_append_run _ _ _ rfl _ _ rfl rfl _ _ (hr _) ?_
      refine hK9.out _ _ ?_
      clear hK9 K
      (try simp only [Act.put, List.getElem_toArray, List.getElem_cons_succ, List.getElem_cons_zero, List.setIfInBounds_toArray, List.set_cons_zero, List.set_cons_succ])
      refine wpAnyD_late (i := 22) (by kernel_rfl) rfl rfl (fun K hK9 => ?_)
      go_simp
      refine hK9.out _ _ ?_
      clear hK9 K
      (try simp only [Act.put, List.getElem_toArray, List.getElem_cons_succ, List.getElem_cons_zero, List.setIfInBounds_toArray, List.set_cons_zero, List.set_cons_succ])
      obtain ⟨p0, p1, p2, p3⟩ := (hM4.bl (Kept.refl wr).drew.bl).below hB' (by omega)
      have pf : w'.frozen? ⟨w.heap.size + 2, 3, none⟩ = false := (HF9.out _).trans hf3
      refine wpAnyD_late (i := 23) (by kernel_rfl) rfl rfl (fun K hK9 => ?_)
      go_simp
      refine hK9.out _ _ ?_
      clear hK9 K
      (try simp only [Act.put, List.getElem_toArray, List.getElem_cons_succ, List.getElem_cons_zero, List.setIfInBounds_toArray, List.set_cons_zero, List.set_cons_succ])
      refine wpAnyD_done (by kernel_rfl) ?_ _
      (try simp only [Act.put, List.getElem_toArray, List.getElem_cons_succ, List.getElem_cons_zero, List.setIfInBounds_toArray, List.set_cons_zero, List.set_cons_succ])
      have hM4n : M4 (w'.setCell ⟨w.heap.size + 2, 3, none⟩ (.slice sa sn sc)) (w.heap.size + 2) (.int .i64 r) (.int .i64 c) (.int .i64 n) (.slice sa sn sc) := M4.set3 ⟨p0, p1, p2, p3⟩ _
      have hMn : MR (w.heap.size + 3) (w'.setCell ⟨w.heap.size + 2, 3, none⟩ (.slice sa sn sc)) (.slice sa sn sc) (lst (k + 1) F) := by
        rw [← lst_snoc, HFK.out]
        exact hM'.setOther (by simp) _
      have hGn : GrwS [w.heap.size + 2] X (w'.setCell ⟨w.heap.size + 2, 3, none⟩ (.slice sa sn sc)) := ((hG.kept (Kept.refl wr).drew).bl (hB'.mono (by omega)) HF9.out).setCell (by simp) _
      have HN : Hid _ := hM4n
      have HN2 : Hid _ := hMn
      have HN3 : Hid _ := hGn
      clear hM4n hMn hGn
      go_wp2_with fail
      go_roundw
      case rel => exact ⟨k + 1, by omega, by go_num, HN3.out, _, HN.out, HN2.out⟩
      case measure => simp [intOf]; omega
    · obtain rfl : k = q := by omega
      have hR' := hG.m4 hRs (by simp)
      have f1 : ∀ o, wr.frozen? ⟨w.heap.size + 1, o, none⟩ = false := fun o => (hG.frozen _).trans (hF1 o)
      obtain ⟨sa, sn, sc, rfl⟩ := hM.form
      have KCn := HCan.out _ _ hM
      obtain ⟨o0, o1, o2, o3⟩ := hM4
      have hK9 : Kept w wr := hK.grwS (by simp) hG
      clear hM HCan
      go_wp2_with (first | (go_at_call 58; refine KCn.mono ?_; rintro e w3 ⟨v3, rfl, hM3, k3⟩; obtain ⟨ta, tn, tc, rfl⟩ := hM3.form; have hr3 := hR'.bl k3.bl; have f3 : ∀ o, w3.frozen? ⟨w.heap.size + 1, o, none⟩ = false := fun o => (k3.frozen _).trans (f1 o); obtain ⟨p0, p1, p2, p3⟩ := res4 w3 _ _ _ _ _ hr3 (.int .i64 r) (.int .i64 c) (.int .i64 n) (.slice ta tn tc); obtain ⟨r0, r1, r2, r3⟩ := hr3))
      have hsz : w.heap.size + 3 ≤ wr.heap.size := by have := hG.size; omega
      have hfin := (((hM3.setOther (p := ⟨w.heap.size + 1, 0, none⟩) (by simp; omega) (.int .i64 r)).setOther (p := ⟨w.heap.size + 1, 1, none⟩) (by simp; omega) (.int .i64 c)).setOther (p := ⟨w.heap.size + 1, 2, none⟩) (by simp; omega) (.int .i64 n)).setOther (p := ⟨w.heap.size + 1, 3, none⟩) (by simp; omega) (.slice ta tn tc)
      refine bodyPost_ret (v := .agg #[.int .i64 r, .int .i64 c, .int .i64 n, .slice ta tn tc]) (by simp [results, Try.results43, go_sem, *]) rfl ⟨.slice ta tn tc, rfl, hfin.mono (by omega), (((hK9.trans k3).setCell (by simp) _).setCell (by simp) _).setCell (by simp) _ |>.setCell (by simp) _⟩
end Go.Proofs.Ytcldcjchfagcoaa
