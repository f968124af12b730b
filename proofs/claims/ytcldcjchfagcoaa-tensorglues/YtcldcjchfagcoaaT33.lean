/- The document's Of, From, Stretched, Canon. -/
import Derived.Test.YtcldcjchfagcoaaTE
import Derived.Test.YtcldcjchfagcoaaT15
import Derived.Test.YtcldcjchfagcoaaT30
namespace Go.Proofs.Ytcldcjchfagcoaa
open Go.ChangeShapes Go.WideShapes Go.ChangeAt Go.RowKit
set_option linter.unusedVariables false
set_option linter.unusedSimpArgs false

set_option maxHeartbeats 400000 in
theorem rof_any (r c n : Int) (s : Value) (w : World) : Calls Try.prog 34 #[.agg #[.int .i64 r, .int .i64 c, .int .i64 n, s]] w fun e w' => e = .returned (.agg #[.int .i64 r, .int .i64 c, .int .i64 n]) ∧ Kept w w' := by
  go_enter Try.func34, Try.ntmps34
  go_wp2
  exact bodyPost_ret (v := .agg #[.int .i64 r, .int .i64 c, .int .i64 n]) (by simp [results, Try.results34, go_sem]) rfl ⟨rfl, ((Kept.refl w).alloc _ _).alloc _ _⟩

theorem map_lst (f : Int → Int) (L : List Int) : L.map f = lst L.length (fun i => f (L.getD i 0)) := by
  apply List.ext_getElem
  · simp [lst]
  · intro i h1 h2
    have h3 : i < L.length := by simpa using h1
    simp [lst, List.getD_eq_getElem?_getD, h3]

theorem MR.form {H : Nat} {w : World} {v : Value} {M : List Int} (h : MR H w v M) : ∃ ao n c, v = .slice ao n c := by
  rcases h with ⟨rfl, rfl⟩ | ⟨g, cap, e, hg, ho⟩
  · exact ⟨none, 0, 0, rfl⟩
  · exact ⟨_, _, _, e⟩

set_option maxHeartbeats 4000000 in
set_option maxRecDepth 100000 in
theorem rcanon_ok (r c n : Int) (hn : n = 64 ∨ n = 32) (L : List Int) (hL : Rgl L) (hlen : L.length ≤ 100000) (ao : Option Addr) (cp : Nat) (w : World) (hS : Sl w (.slice ao L.length cp) L) : Calls Try.prog 58 #[.agg #[.int .i64 r, .int .i64 c, .int .i64 n, .slice ao L.length cp]] w fun e w' => ∃ v, e = .returned (.agg #[.int .i64 r, .int .i64 c, .int .i64 n, v]) ∧ MR w.heap.size w' v (L.map (cln · n)) ∧ Kept w w' := by
  obtain ⟨X, hX⟩ : ∃ X, X = ((w.alloc (.cells #[.int .i64 r, .int .i64 c, .int .i64 n, .slice ao L.length cp] 24)).alloc (.cells #[.int .i64 0, .int .i64 0, .int .i64 0, .slice none 0 0] 24)).alloc (.cells #[.int .i64 r, .int .i64 c, .int .i64 n, .slice none 0 0] 24) := ⟨_, rfl⟩
  have hK : Kept w X := by rw [hX]; exact (((Kept.refl w).alloc _ _).alloc _ _).alloc _ _
  have hXs : X.heap.size = w.heap.size + 3 := by rw [hX]; simp
  have hA : M4 X w.heap.size (.int .i64 r) (.int .i64 c) (.int .i64 n) (.slice ao L.length cp) := by rw [hX]; exact ⟨by simp [go_sem], by simp [go_sem], by simp [go_sem], by simp [go_sem]⟩
  have hR : M4 X (w.heap.size + 1) (.int .i64 0) (.int .i64 0) (.int .i64 0) (.slice none 0 0) := by rw [hX]; exact ⟨by simp [go_sem], by simp [go_sem], by simp [go_sem], by simp [go_sem]⟩
  have hO : M4 X (w.heap.size + 2) (.int .i64 r) (.int .i64 c) (.int .i64 n) (.slice none 0 0) := by rw [hX]; exact ⟨by simp [go_sem], by simp [go_sem], by simp [go_sem], by simp [go_sem]⟩
  have hF1 : ∀ o, X.frozen? ⟨w.heap.size + 1, o, none⟩ = false := fun o => by rw [hX]; simp [go_sem]
  have hF2 : ∀ o, X.frozen? ⟨w.heap.size + 2, o, none⟩ = false := fun o => by rw [hX]; simp [go_sem]
  have HRD : Hid (∀ u, GrwS [w.heap.size + 2] X u → ∀ i, i < L.length → ∃ b off, ao = some ⟨b, off, none⟩ ∧ u.cell? ⟨b, off + i, none⟩ = some (.int .i64 (L.getD i 0)) ∧ b < w.heap.size) := fun u k i hi => by
    obtain ⟨ao', cap', e, -, -, hr⟩ := hS
    cases e
    obtain ⟨b, off, e2, hb, hr⟩ := hr (by intro h; subst h; simp at hi)
    exact ⟨b, off, e2, (k.cell (by omega) (by simp; omega)).trans (hr.kept hb hK i hi), hb⟩
  have KC : Hid (∀ u i, i < L.length → Calls Try.prog 18 #[.int .i64 (L.getD i 0), .int .i64 n] u fun e w' => e = .returned (.int .i64 (cln (L.getD i 0) n)) ∧ Kept u w') := fun u i hi => clean_any _ n hn (hL i hi).1 (hL i hi).2 u
  have HML : Hid (L.map (cln · n) = lst L.length (fun i => cln (L.getD i 0) n)) := map_lst _ _
  obtain ⟨f, hf⟩ : ∃ f : Nat → Int, f = fun i => cln (L.getD i 0) n := ⟨_, rfl⟩
  have HFI : Hid (∀ i, cln (L.getD i 0) n = f i) := fun i => by rw [hf]
  rw [← hf] at HML
  clear hf hS hL
  generalize hLl : L.length = l at *
  clear hLl
  go_enter Try.func58, Try.ntmps58
  go_upto_region 2 with fail
  rw [← hX]
  clear hX
  go_wp2_with fail
  go_loopw [4] (fun iv wr => ∃ k : Nat, k ≤ l ∧ iv = .int .i64 k ∧ GrwS [w.heap.size + 2] X wr ∧ ∃ lv, M4 wr (w.heap.size + 2) (.int .i64 r) (.int .i64 c) (.int .i64 n) lv ∧ MR (w.heap.size + 3) wr lv (lst k f)) (fun iv _ => l - (intOf iv).toNat)
  case atStart => exact ⟨0, Nat.zero_le _, rfl, GrwS.refl _ _, _, hO, .inl ⟨rfl, rfl⟩⟩
  case round =>
    obtain ⟨k, hk, rfl, hG, lv, hM4, hM⟩ := hrel
    have hA' := hG.m4 hA (by simp)
    obtain ⟨a0, a1, a2, a3⟩ := hA'
    by_cases hkl : k < l
    · obtain ⟨b, off, rfl, e1, hb⟩ := HRD.out _ hG k hkl
      have hH : w.heap.size + 3 ≤ wr.heap.size := by have := hG.size; omega
      have hf3 : wr.frozen? ⟨w.heap.size + 2, 3, none⟩ = false := (hG.frozen _).trans (hF2 3)
      have KCl : Hid (∀ u, Calls Try.prog 18 #[.int .i64 (L.getD k 0), .int .i64 n] u fun e w' => e = .returned (.int .i64 (cln (L.getD k 0) n)) ∧ Kept u w') := fun u => KC.out u k hkl
      have HFK : Hid (cln (L.getD k 0) n = f k) := HFI.out k
      have z1 : IntKind.i64.wrap ((k : Int) + 1) = (k : Int) + 1 := by rw [wrap_i64]; omega
      have y1 : (0 : Int) ≤ (k : Int) := by omega
      have y2 : (k : Int) < (l : Int) := by omega
      generalize cln (L.getD k 0) n = d2 at *
      generalize L.getD k 0 = d at *
      have HS : Hid (∀ u, Kept wr u → Kept wr u ∧ (u.cell? ⟨w.heap.size + 2, 3, none⟩ = some lv ∧ u.cell? ⟨w.heap.size, 3, none⟩ = some (.slice (some ⟨b, off, none⟩) l cp) ∧ u.cell? ⟨w.heap.size, 2, none⟩ = some (.int .i64 n)) ∧ u.cell? ⟨b, off + k, none⟩ = some (.int .i64 d)) := fun u ku => ⟨ku, ⟨(ku.bl.cell _ 3 hM4.lt).trans hM4.c3, (ku.bl.cell _ 3 (by omega)).trans a3, (ku.bl.cell _ 2 (by omega)).trans a2⟩, (ku.bl.cell b _ (by omega)).trans e1⟩
      clear KC HRD hA hR hO HML a0 a1
      go_wp2_with fail
      refine wp_region_late [11, 12, 13] (fun u => Kept wr u ∧ (u.cell? ⟨w.heap.size + 2, 3, none⟩ = some lv ∧ u.cell? ⟨w.heap.size, 3, none⟩ = some (.slice (some ⟨b, off, none⟩) l cp) ∧ u.cell? ⟨w.heap.size, 2, none⟩ = some (.int .i64 n)) ∧ u.cell? ⟨b, off + k, none⟩ = some (.int .i64 d)) (by kernel_rfl) (HS.out _ ((Kept.refl wr).drew)) (fun hHeld => ?_)
      refine wpAnyD_take (i := 0) (v := ?_) rfl (by kernel_rfl) (by kernel_rfl) (by kernel_rfl) (by kernel_rfl) (fun _ _ _ h => h) (Or.inl ⟨by rfl, ?hya0⟩) hHeld ?_
      case hya0 => (intro w hSw; (try dsimp only at hSw); go_simp; try (with_reducible rfl))
      (try simp only [Act.put, List.getElem_toArray, List.getElem_cons_succ, List.getElem_cons_zero, List.setIfInBounds_toArray, List.set_cons_zero, List.set_cons_succ])
      refine wpAnyD_take (i := 1) (v := ?_) rfl (by kernel_rfl) (by kernel_rfl) (by kernel_rfl) (by kernel_rfl) (fun _ _ _ h => h) (Or.inl ⟨by rfl, ?hya1⟩) hHeld ?_
      case hya1 => (intro w hSw; (try dsimp only at hSw); go_simp; try (with_reducible rfl))
      (try simp only [Act.put, List.getElem_toArray, List.getElem_cons_succ, List.getElem_cons_zero, List.setIfInBounds_toArray, List.set_cons_zero, List.set_cons_succ])
      refine wpAnyD_take (i := 2) (v := ?_) rfl (by kernel_rfl) (by kernel_rfl) (by kernel_rfl) (by kernel_rfl) (fun _ _ _ h => h) (Or.inl ⟨by rfl, ?hya2⟩) hHeld ?_
      case hya2 => (intro w hSw; (try dsimp only at hSw); go_simp; try (with_reducible rfl))
      (try simp only [Act.put, List.getElem_toArray, List.getElem_cons_succ, List.getElem_cons_zero, List.setIfInBounds_toArray, List.set_cons_zero, List.set_cons_succ])
      refine wpAnyD_take (i := 3) (v := ?_) rfl (by kernel_rfl) (by kernel_rfl) (by kernel_rfl) (by kernel_rfl) (fun _ _ _ h => h) (Or.inl ⟨by rfl, ?hya3⟩) hHeld ?_
      case hya3 => (intro w hSw; (try dsimp only at hSw); go_simp; try (with_reducible rfl))
      (try simp only [Act.put, List.getElem_toArray, List.getElem_cons_succ, List.getElem_cons_zero, List.setIfInBounds_toArray, List.set_cons_zero, List.set_cons_succ])
      refine wpAnyD_take (i := 4) (v := ?_) rfl (by kernel_rfl) (by kernel_rfl) (by kernel_rfl) (by kernel_rfl) (fun _ _ _ h => h) (Or.inl ⟨by rfl, ?hya4⟩) hHeld ?_
      case hya4 => (intro w hSw; (try dsimp only at hSw); go_simp; try (with_reducible rfl))
      (try simp only [Act.put, List.getElem_toArray, List.getElem_cons_succ, List.getElem_cons_zero, List.setIfInBounds_toArray, List.set_cons_zero, List.set_cons_succ])
      refine wpAnyD_take (i := 5) (v := ?_) rfl (by kernel_rfl) (by kernel_rfl) (by kernel_rfl) (by kernel_rfl) (fun _ _ _ h => h) (Or.inl ⟨by rfl, ?hya5⟩) hHeld ?_
      case hya5 => (intro w hSw; (try dsimp only at hSw); go_simp; try (with_reducible rfl))
      (try simp only [Act.put, List.getElem_toArray, List.getElem_cons_succ, List.getElem_cons_zero, List.setIfInBounds_toArray, List.set_cons_zero, List.set_cons_succ])
      refine wpAnyD_take (i := 6) (v := ?_) rfl (by kernel_rfl) (by kernel_rfl) (by kernel_rfl) (by kernel_rfl) (fun _ _ _ h => h) (Or.inl ⟨by rfl, ?hya6⟩) hHeld ?_
      case hya6 => (intro w hSw; (try dsimp only at hSw); go_simp; try (with_reducible rfl))
      (try simp only [Act.put, List.getElem_toArray, List.getElem_cons_succ, List.getElem_cons_zero, List.setIfInBounds_toArray, List.set_cons_zero, List.set_cons_succ])
      refine wpAnyD_take (i := 7) (v := ?_) rfl (by kernel_rfl) (by kernel_rfl) (by kernel_rfl) (by kernel_rfl) (fun _ _ _ h => h) (Or.inl ⟨by rfl, ?hya7⟩) hHeld ?_
      case hya7 => (intro w hSw; (try dsimp only at hSw); go_simp; try (with_reducible rfl))
      (try simp only [Act.put, List.getElem_toArray, List.getElem_cons_succ, List.getElem_cons_zero, List.setIfInBounds_toArray, List.set_cons_zero, List.set_cons_succ])
      refine wpAnyD_take (i := 8) (v := ?_) rfl (by kernel_rfl) (by kernel_rfl) (by kernel_rfl) (by kernel_rfl) (fun _ _ _ h => h) (Or.inl ⟨by rfl, ?hya8⟩) hHeld ?_
      case hya8 => (intro w hSw; (try dsimp only at hSw); go_simp; try (with_reducible rfl))
      (try simp only [Act.put, List.getElem_toArray, List.getElem_cons_succ, List.getElem_cons_zero, List.setIfInBounds_toArray, List.set_cons_zero, List.set_cons_succ])
      refine wpAnyD_step (i := 9) (by kernel_rfl) rfl (fun K hK9 => ?_)
      go_simp
      go_wp2_with fail
      refine (KCl.out _).mono ?_
      rintro e u9 ⟨rfl, k9⟩
      refine hK9.out _ _ (HS.out _ (hHeld.1.trans k9)) (fun hHeld9 => ?_)
      clear hK9 K
      refine wpAnyD_step (i := 10) (by kernel_rfl) rfl (fun K hK9 => ?_)
      go_simp
      refine hK9.out _ _ (HS.out _ (hHeld9.1.alloc _ _)) (fun hHeld10 => ?_)
      clear hK9 K
      obtain ⟨v', w', hr, hM', hB', hF'⟩ := app_one (w.heap.size + 3) u9 lv _ (hM.kept hHeld9.1) d2 (Nat.le_trans hH hHeld9.1.below.size) (by rw [lst_length]; omega)
      obtain ⟨sa, sn, sc, rfl⟩ := hM'.form
      have HF9 : Hid (∀ x, w'.frozen? x = u9.frozen? x) := hF'
      clear hF'
      refine wpAnyD_late (i := 11) (by kernel_rfl) rfl rfl (fun K hK9 => ?_)
      rw [if_pos (by rfl)]
      refine oper_append_run _ _ _ rfl _ _ rfl rfl _ _ (hr _) ?_
      refine hK9.out _ _ ?_
      clear hK9 K
      (try simp only [Act.put, List.getElem_toArray, List.getElem_cons_succ, List.getElem_cons_zero, List.setIfInBounds_toArray, List.set_cons_zero, List.set_cons_succ])
      refine wpAnyD_late (i := 12) (by kernel_rfl) rfl rfl (fun K hK9 => ?_)
      go_simp
      refine hK9.out _ _ ?_
      clear hK9 K
      (try simp only [Act.put, List.getElem_toArray, List.getElem_cons_succ, List.getElem_cons_zero, List.setIfInBounds_toArray, List.set_cons_zero, List.set_cons_succ])
      obtain ⟨p0, p1, p2, p3⟩ := (hM4.bl hHeld9.1.bl).below hB' (by omega)
      have pf : w'.frozen? ⟨w.heap.size + 2, 3, none⟩ = false := (HF9.out _).trans ((hHeld9.1.frozen _).trans hf3)
      refine wpAnyD_late (i := 13) (by kernel_rfl) rfl rfl (fun K hK9 => ?_)
      go_simp
      refine hK9.out _ _ ?_
      clear hK9 K
      (try simp only [Act.put, List.getElem_toArray, List.getElem_cons_succ, List.getElem_cons_zero, List.setIfInBounds_toArray, List.set_cons_zero, List.set_cons_succ])
      refine wpAnyD_done (by kernel_rfl) ?_ _
      (try simp only [Act.put, List.getElem_toArray, List.getElem_cons_succ, List.getElem_cons_zero, List.setIfInBounds_toArray, List.set_cons_zero, List.set_cons_succ])
      have hM4n : M4 (w'.setCell ⟨w.heap.size + 2, 3, none⟩ (.slice sa sn sc)) (w.heap.size + 2) (.int .i64 r) (.int .i64 c) (.int .i64 n) (.slice sa sn sc) := M4.set3 ⟨p0, p1, p2, p3⟩ _
      have hMn : MR (w.heap.size + 3) (w'.setCell ⟨w.heap.size + 2, 3, none⟩ (.slice sa sn sc)) (.slice sa sn sc) (lst (k + 1) f) := by
        rw [← lst_snoc, ← HFK.out]
        exact hM'.setOther (by simp) _
      have hGn : GrwS [w.heap.size + 2] X (w'.setCell ⟨w.heap.size + 2, 3, none⟩ (.slice sa sn sc)) := ((hG.kept hHeld9.1).bl (hB'.mono (by omega)) HF9.out).setCell (by simp) _
      have HN : Hid _ := hM4n
      have HN2 : Hid _ := hMn
      have HN3 : Hid _ := hGn
      clear hM4n hMn hGn
      go_wp2_with fail
      go_roundw
      case rel => exact ⟨k + 1, by omega, by go_num, HN3.out, _, HN.out, HN2.out⟩
      case measure => simp [intOf]; omega
    · obtain rfl : k = l := by omega
      have hR' := hG.m4 hR (by simp)
      have f1 : ∀ o, wr.frozen? ⟨w.heap.size + 1, o, none⟩ = false := fun o => (hG.frozen _).trans (hF1 o)
      obtain ⟨sa, sn, sc, rfl⟩ := hM.form
      obtain ⟨o0, o1, o2, o3⟩ := hM4
      obtain ⟨p0, p1, p2, p3⟩ := res4 wr _ _ _ _ _ hR' (.int .i64 r) (.int .i64 c) (.int .i64 n) (.slice sa sn sc)
      obtain ⟨r0, r1, r2, r3⟩ := hR'
      have hK9 : Kept w wr := hK.grwS (by simp) hG
      have hfin := (((hM.setOther (p := ⟨w.heap.size + 1, 0, none⟩) (by simp) (.int .i64 r)).setOther (p := ⟨w.heap.size + 1, 1, none⟩) (by simp) (.int .i64 c)).setOther (p := ⟨w.heap.size + 1, 2, none⟩) (by simp) (.int .i64 n)).setOther (p := ⟨w.heap.size + 1, 3, none⟩) (by simp) (.slice sa sn sc)
      have HFN : Hid _ := hfin
      clear hfin hM KC
      go_wp2_with fail
      refine bodyPost_ret (v := .agg #[.int .i64 r, .int .i64 c, .int .i64 n, .slice sa sn sc]) (by simp [results, Try.results58, go_sem, *]) rfl ⟨.slice sa sn sc, rfl, ?_, ((hK9.setCell (by simp) _).setCell (by simp) _).setCell (by simp) _ |>.setCell (by simp) _⟩
      rw [HML.out]
      rcases HFN.out with h | ⟨g, cap, e, hg, ho⟩
      · exact .inl h
      · exact .inr ⟨g, cap, e, by omega, ho⟩
end Go.Proofs.Ytcldcjchfagcoaa
