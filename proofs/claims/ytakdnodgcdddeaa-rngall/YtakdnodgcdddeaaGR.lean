/- Pick: the document's own; package rng's refusals. -/
import Derived.Test.YtakdnodgcdddeaaGP
import Derived.Test.YtakdnodgcdddeaaGRm
import Derived.Test.YtakdnodgcdddeaaG8
namespace Go.Proofs.Ytakdnodgcdddeaa
open Go.ChangeShapes Go.WideShapes Go.ChangeAt Go.RowKit
set_option linter.unusedVariables false
set_option linter.unusedSimpArgs false

theorem bool_info : (Try.prog.info? 4).map (fun i => (i.zero, i.size, i.bytes)) = some (some (.bool false), 1, 1) := by kernel_rfl
theorem lb_under : Try.prog.underlying 65 = some (.slice 4) := by kernel_rfl
theorem make_runb (n : Nat) (hn : n < 100000000) (w : World) : (Instr.makeSlice 65 (.int .i64 (n : Int)) (.int .i64 (n : Int))).run Try.prog w = .ok (.slice (some ⟨w.heap.size, 0, none⟩) n n) (w.alloc (.cells (madeCells #[.bool false] n) 4)) := by
  obtain ⟨i, hi, hz, hs, hby⟩ := info_parts (bool_info)
  have := run_make (P := Try.prog) w 65 4 i (.bool false) lb_under hi hz .i64 .i64 (n : Int) (n : Int) (by omega) (Int.le_refl _) (by rw [hby]; omega) (by omega)
  rw [hs, Int.toNat_natCast, Nat.mul_one] at this
  exact this
theorem ownV_made (n : Nat) (hn : n < 100000000) (w : World) : OwnV (w.alloc (.cells (madeCells #[.bool false] n) 4)) w.heap.size n 4 ((List.replicate n false).map Value.bool) := by
  refine ⟨_, heap_alloc_new w _, by simp, by simp [maxLen]; omega, by simp [size_madeCells], ?_⟩
  rw [List.length_map, List.length_replicate, toList_madeCells_one]
  simp

theorem pick_arg (s t a n k : Int) (hn : n < 0 ∨ k < 0 ∨ n < k) (w : World) : Calls Try.prog 27 #[.agg #[.int .i64 s, .int .i64 t, .int .i64 a], .int .i64 n, .int .i64 k] w fun e w' => e = .returned (.tuple #[.slice none 0 0, .agg #[.int .i64 0, .int .i64 0, .int .i64 0], .int .i64 1]) ∧ Kept w w' := by
  have main : ∀ (b1 b2 b3 : Bool), decide (n < 0) = b1 → decide (k < 0) = b2 → decide (n < k) = b3 → (b1 || b2 || b3) = true → Calls Try.prog 27 #[.agg #[.int .i64 s, .int .i64 t, .int .i64 a], .int .i64 n, .int .i64 k] w fun e w' => e = .returned (.tuple #[.slice none 0 0, .agg #[.int .i64 0, .int .i64 0, .int .i64 0], .int .i64 1]) ∧ Kept w w' := by
    intro b1 b2 b3 h1 h2 h3 hb
    have hA := (Kept.refl w).alloc #[.int .i64 s, .int .i64 t, .int .i64 a] 23
    have hB := (Kept.refl (w.alloc (.cells #[.int .i64 s, .int .i64 t, .int .i64 a] 23))).alloc #[.int .i64 0, .int .i64 0, .int .i64 0] 23
    have d1 := (dw_new w s t a 23).kept hB
    have d2 := (dw_new (w.alloc (.cells #[.int .i64 s, .int .i64 t, .int .i64 a] 23)) 0 0 0 23)
    rw [show (w.alloc (.cells #[.int .i64 s, .int .i64 t, .int .i64 a] 23)).heap.size = w.heap.size + 1 by simp] at d2
    have hW0 := hA.trans hB
    clear hA hB
    cases b1 <;> cases b2 <;> cases b3 <;> first | (exact absurd hb (by decide)) | skip
    all_goals
      clear hb
      go_enter Try.func27, Try.ntmps27
      go_upto_region 1 with fail
      obtain ⟨X, hX⟩ : ∃ X, X = (w.alloc (.cells #[.int .i64 s, .int .i64 t, .int .i64 a] 23)).alloc (.cells #[.int .i64 0, .int .i64 0, .int .i64 0] 23) := ⟨_, rfl⟩
      rw [← hX] at d1 d2 hW0 ⊢
      have hXs : X.heap.size = w.heap.size + 2 := by rw [hX]; simp
      clear hX
      obtain ⟨⟨c3, c4, c5⟩, f2⟩ := d2
      go_wp2
      exact bodyPost_ret (v := .tuple #[.slice none 0 0, .agg #[.int .i64 0, .int .i64 0, .int .i64 0], .int .i64 1]) (by simp [results, Try.results27, go_sem, *]) rfl ⟨rfl, hW0.put3 (w.heap.size + 1) (by simp) _ _ _⟩
  refine main _ _ _ rfl rfl rfl ?_
  simp only [Bool.or_eq_true, decide_eq_true_eq]
  omega

set_option maxHeartbeats 2000000 in
theorem pick_long (s t a n k : Int) (hn : 65536 < n) (hk : 0 ≤ k) (hk2 : k ≤ n) (w : World) : Calls Try.prog 27 #[.agg #[.int .i64 s, .int .i64 t, .int .i64 a], .int .i64 n, .int .i64 k] w fun e w' => e = .returned (.tuple #[.slice none 0 0, .agg #[.int .i64 0, .int .i64 0, .int .i64 0], .int .i64 2]) ∧ Kept w w' := by
  have q0 : decide (n < 0) = false := decide_eq_false (by omega)
  have q1 : decide (k < 0) = false := decide_eq_false (by omega)
  have q2 : decide (n < k) = false := decide_eq_false (by omega)
  have hA := (Kept.refl w).alloc #[.int .i64 s, .int .i64 t, .int .i64 a] 23
  have hB := (Kept.refl (w.alloc (.cells #[.int .i64 s, .int .i64 t, .int .i64 a] 23))).alloc #[.int .i64 0, .int .i64 0, .int .i64 0] 23
  have d1 := (dw_new w s t a 23).kept hB
  have d2 := (dw_new (w.alloc (.cells #[.int .i64 s, .int .i64 t, .int .i64 a] 23)) 0 0 0 23)
  rw [show (w.alloc (.cells #[.int .i64 s, .int .i64 t, .int .i64 a] 23)).heap.size = w.heap.size + 1 by simp] at d2
  have hW0 := hA.trans hB
  clear hA hB
  go_enter Try.func27, Try.ntmps27
  go_upto_region 1 with fail
  obtain ⟨X, hX⟩ : ∃ X, X = (w.alloc (.cells #[.int .i64 s, .int .i64 t, .int .i64 a] 23)).alloc (.cells #[.int .i64 0, .int .i64 0, .int .i64 0] 23) := ⟨_, rfl⟩
  rw [← hX] at d1 d2 hW0 ⊢
  have hXs : X.heap.size = w.heap.size + 2 := by rw [hX]; simp
  clear hX
  have D1 := d1
  obtain ⟨⟨c0, c1, c2⟩, f1⟩ := D1
  go_wp2_with fail
  refine (shuffle_long s t a n hn _).mono ?_
  rintro e w1 ⟨rfl, hk1⟩
  clear c0 c1 c2 f1
  obtain ⟨⟨c0, c1, c2⟩, f1⟩ := d1.kept hk1
  have d3 := (d2.kept hk1).far3 w.heap.size (by simp) (.int .i64 0) (.int .i64 0) (.int .i64 0)
  have hK := (hW0.trans hk1).put3 w.heap.size (Nat.le_refl _) (.int .i64 0) (.int .i64 0) (.int .i64 0)
  go_upto_region 4 with fail
  clear c0 c1 c2 f1
  obtain ⟨Y, hY⟩ : ∃ Y, Y = put3 w1 w.heap.size (.int .i64 0) (.int .i64 0) (.int .i64 0) := ⟨_, rfl⟩
  rw [← hY] at d3 hK
  unfold put3 at hY
  rw [← hY]
  clear hY d1 d2 hW0 hk1 hXs
  obtain ⟨⟨c3, c4, c5⟩, f2⟩ := d3
  go_wp2
  exact bodyPost_ret (v := .tuple #[.slice none 0 0, .agg #[.int .i64 0, .int .i64 0, .int .i64 0], .int .i64 2]) (by simp [results, Try.results27, go_sem, *]) rfl ⟨rfl, hK.put3 (w.heap.size + 1) (by simp) _ _ _⟩

set_option maxHeartbeats 4000000 in
set_option maxRecDepth 100000 in
theorem rpick_ok (s t a : Int) (n k : Nat) (hk : k ≤ n) (hn : n ≤ 65536) (w : World) : Calls Try.prog 29 #[.agg #[.int .i64 s, .int .i64 t, .int .i64 a], .int .i64 n, .int .i64 k] w fun e w' => ∃ lv, e = .returned (.tuple #[lv, .agg #[.int .i64 s, .int .i64 t, .int .i64 (shuf s t a n).2]]) ∧ MR (w.heap.size + 2) w' lv (srt ((shuf s t a n).1.take k)) ∧ Kept w w' := by
  have hA := (Kept.refl w).alloc #[.int .i64 s, .int .i64 t, .int .i64 a] 23
  have hB := (Kept.refl (w.alloc (.cells #[.int .i64 s, .int .i64 t, .int .i64 a] 23))).alloc #[.int .i64 0, .int .i64 0, .int .i64 0] 23
  have d1 := (dw_new w s t a 23).kept hB
  have d2 := (dw_new (w.alloc (.cells #[.int .i64 s, .int .i64 t, .int .i64 a] 23)) 0 0 0 23)
  rw [show (w.alloc (.cells #[.int .i64 s, .int .i64 t, .int .i64 a] 23)).heap.size = w.heap.size + 1 by simp] at d2
  have hW0 := hA.trans hB
  clear hA hB
  obtain ⟨L, P, hS⟩ : ∃ L P, shuf s t a n = (L, P) := ⟨_, _, rfl⟩
  have hE : Ech n L := by have := ech_shuf s t a n (by omega); rw [hS] at this; exact this
  have HO : Hid (∀ u, Calls Try.prog 19 #[.agg #[.int .i64 s, .int .i64 t, .int .i64 a], .int .i64 n] u fun e w' => ∃ lv, e = .returned (.tuple #[lv, .agg #[.int .i64 s, .int .i64 t, .int .i64 P]]) ∧ MR (u.heap.size + 2) w' lv L ∧ Kept u w') := by
    intro u
    have := rshuffle_ok s t a n hn u
    rw [hS] at this
    exact this
  rw [hS]
  have hsrt : srt (L.take k) = outl (mks n L k) n := (outl_sorted hE k hk).symm
  have HE : Hid (Ech n L ∧ srt (L.take k) = outl (mks n L k) n) := ⟨hE, hsrt⟩
  clear hS hE hsrt
  go_enter Try.func29, Try.ntmps29
  go_upto_region 1 with fail
  obtain ⟨X, hX⟩ : ∃ X, X = (w.alloc (.cells #[.int .i64 s, .int .i64 t, .int .i64 a] 23)).alloc (.cells #[.int .i64 0, .int .i64 0, .int .i64 0] 23) := ⟨_, rfl⟩
  rw [← hX] at d1 d2 hW0 ⊢
  have hXs : X.heap.size = w.heap.size + 2 := by rw [hX]; simp
  clear hX
  have D1 := d1
  obtain ⟨⟨c0, c1, c2⟩, f1⟩ := D1
  go_wp2_with fail
  refine (HO.out _).mono ?_
  rintro e w1 ⟨lv, rfl, hml, hk1⟩
  clear c0 c1 c2 f1
  obtain ⟨⟨c0, c1, c2⟩, f1⟩ := d1.kept hk1
  go_upto_region 2 with fail
  clear c0 c1 c2 f1
  have k1 := (d1.kept hk1).put s t P
  have k2 := (d2.kept hk1).far3 w.heap.size (by simp) (.int .i64 s) (.int .i64 t) (.int .i64 P)
  have k3 := (hW0.trans hk1).put3 w.heap.size (Nat.le_refl _) (.int .i64 s) (.int .i64 t) (.int .i64 P)
  have km := hml.far w.heap.size (by omega) (.int .i64 s) (.int .i64 t) (.int .i64 P)
  obtain ⟨Y, hY⟩ : ∃ Y, Y = put3 w1 w.heap.size (.int .i64 s) (.int .i64 t) (.int .i64 P) := ⟨_, rfl⟩
  rw [← hY] at k1 k2 k3 km
  unfold put3 at hY
  rw [← hY]
  rw [hXs] at km
  clear hY d1 d2 hW0 hk1 hXs hml HO
  have HM := make_runb n (by omega) Y
  have x0 := ownV_made n (by omega) Y
  have kB := (Kept.refl Y).alloc (madeCells #[.bool false] n) 4
  have m1 := k1.kept kB
  have m2 := k2.kept kB
  have m3 := k3.trans kB
  have mm := km.kept kB
  have hBs := k2.1.lt
  obtain ⟨B, hB⟩ : ∃ B, B = Y.heap.size := ⟨_, rfl⟩
  obtain ⟨Z, hZ⟩ : ∃ Z, Z = Y.alloc (.cells (madeCells #[.bool false] n) 4) := ⟨_, rfl⟩
  have hml : ∀ g c, lv = .slice (some ⟨g, 0, none⟩) L.length c → g < B := by
    rintro g c rfl
    rcases km with ⟨-, h⟩ | ⟨g', c', e, -, ho⟩
    · cases h
    · have e1 : g = g' := by simp at e; exact e.1
      rw [hB, e1]; exact ho.lt
  rw [← hB] at HM x0 hBs
  rw [← hZ] at HM x0 m1 m2 m3 mm
  clear hB hZ kB k1 k2 k3 km
  have H0 : Hid (OwnV Z B n 4 ((mks n L 0).map Value.bool) ∧ Dw Z w.heap.size s t P ∧ Dw Z (w.heap.size + 1) 0 0 0 ∧ Kept w Z ∧ MR (w.heap.size + 2 + 2) Z lv L) := ⟨x0, m1, m2, m3, mm⟩
  clear x0 m1 m2 m3
  have hlv : ∃ ao c, lv = .slice ao n c := by
    obtain ⟨ao, c, e, -, -⟩ := mm.sl
    rw [HE.out.1.len] at e
    exact ⟨ao, c, e⟩
  obtain ⟨ao, cl, hlv⟩ := hlv
  have HLV : Hid (∀ i, i < n → ∃ g, ao = some ⟨g, 0, none⟩ ∧ g < B ∧ w.heap.size + 2 + 2 ≤ g) := fun i hi => by
    rcases mm with ⟨hn0, -⟩ | ⟨g, c, e, hg, ho⟩
    · have := HE.out.1.len; rw [hn0] at this; simp at this; omega
    · have h1 := hml g c e
      rw [hlv, HE.out.1.len] at e
      simp at e
      exact ⟨g, e.1, h1, by omega⟩
  clear mm hml
  subst hlv
  go_wp2_with fail
  go_loopw [10] (fun iv wr => ∃ (i : Nat), i ≤ k ∧ iv = .int .i64 i ∧ OwnV wr B n 4 ((mks n L i).map Value.bool) ∧ Dw wr w.heap.size s t P ∧ Dw wr (w.heap.size + 1) 0 0 0 ∧ Kept w wr ∧ MR (w.heap.size + 2 + 2) wr (.slice ao n cl) L) (fun iv _ => k - (intOf iv).toNat)
  case atStart => exact ⟨0, Nat.zero_le _, rfl, H0.out⟩
  case round =>
    clear H0 HM
    obtain ⟨i, hik, rfl, hV, hd, hr, hKw, hmr⟩ := hrel
    by_cases hi : i < k
    · obtain ⟨g, rfl, hgB, hgw⟩ := HLV.out i (by omega)
      have hl : Own wr g cl L := by
        rcases hmr with ⟨-, h⟩ | ⟨g', c', e, -, ho⟩
        · cases h
        · simp at e
          rw [e.1, e.2.2]; exact ho
      have hrg := HE.out.1.rng i (by omega)
      obtain ⟨x, hx⟩ : ∃ x : Nat, L.getD i 0 = (x : Int) := ⟨(L.getD i 0).toNat, by omega⟩
      have q1 := hl.cell i (by rw [HE.out.1.len]; omega)
      rw [hx] at q1
      rw [hx] at hrg
      have hset := hV.set x (.bool true)
      have hms : ((mks n L i).map Value.bool).set x (.bool true) = (mks n L (i + 1)).map Value.bool := by
        rw [mks, hx, Int.toNat_natCast, List.map_set]
      rw [hms] at hset
      have q2s := hV.some x (by omega)
      obtain ⟨qv, q2⟩ := Option.isSome_iff_exists.1 q2s
      have q3 := hV.free x
      have HN : Hid (OwnV (wr.setCell ⟨B, x, none⟩ (.bool true)) B n 4 ((mks n L (i + 1)).map Value.bool) ∧ Dw wr w.heap.size s t P ∧ Dw wr (w.heap.size + 1) 0 0 0 ∧ Kept w wr ∧ Own wr g cl L ∧ L.length = n) := ⟨hset, hd, hr, hKw, hl, HE.out.1.len⟩
      clear hV hd hr hKw hmr hl hset hms hx q2s
      have z1 : IntKind.i64.wrap ((i : Int) + 1) = (i : Int) + 1 := by rw [wrap_i64]; omega
      have b1 : (i : Int) < (n : Int) := by omega
      have b2 : (x : Int) < (n : Int) := by omega
      have b3 : i < n := by omega
      have b4 : x < n := by omega
      have b5 : (i : Int) < (k : Int) := by omega
      clear hrg
      go_wp2_with fail
      go_roundw
      case rel =>
        obtain ⟨h1, h2, h3, h4, h5, h6⟩ := HN.out
        exact ⟨i + 1, by omega, by go_num, h1, h2.far _ (by show B ≠ _; omega) _, h3.far _ (by show B ≠ _; omega) _, h4.setCell (by show _ ≤ B; omega) _, .inr ⟨g, cl, by rw [h6], by omega, h5.setOther (by show g ≠ B; omega) _⟩⟩
      case measure => simp [intOf]; omega
    · obtain rfl : i = k := by omega
      rename World => wo
      have H1 : Hid (OwnV wo B n 4 ((mks n L i).map Value.bool) ∧ Dw wo w.heap.size s t P ∧ Dw wo (w.heap.size + 1) 0 0 0 ∧ Kept w wo) := ⟨hV, hd, hr, hKw⟩
      have hwB := hV.lt
      clear hV hd hr hKw hmr
      go_wp2_with fail
      go_loopw [11, 12] (fun sv jv wr => ∃ (j : Nat) (ov : Value), j ≤ n ∧ jv = .int .i64 j ∧ sv = ov ∧ MR wo.heap.size wr ov (outl (mks n L i) j) ∧ Kept wo wr) (fun _ jv _ => n - (intOf jv).toNat)
      case atStart => exact ⟨0, _, Nat.zero_le _, rfl, rfl, .inl ⟨rfl, rfl⟩, Kept.refl _⟩
      case round =>
        obtain ⟨j, ov, hjn, rfl, hov, hM, hKx⟩ := hrel
        have hov' := hov.symm
        clear hov
        subst hov'
        obtain ⟨hV, hd, hr, hKw⟩ := H1.out
        have z1 : IntKind.i64.wrap ((j : Int) + 1) = (j : Int) + 1 := by rw [wrap_i64]; omega
        by_cases hj : j < n
        · have b1 : (j : Int) < (n : Int) := by omega
          obtain ⟨b, hb⟩ : ∃ b, (mks n L i).getD j false = b := ⟨_, rfl⟩
          have q1 := (hV.kept hKx).cell j (.bool b) (by
            rw [List.getElem?_map, List.getElem?_eq_getElem (by rw [mks_length]; exact hj)]
            rw [List.getD_eq_getElem?_getD, List.getElem?_eq_getElem (by rw [mks_length]; exact hj)] at hb
            simpa using hb)
          clear hV hd hr hKw
          cases b
          · rw [← outl_no _ _ hb] at hM
            have HM2 : Hid (MR wo.heap.size wr ov (outl (mks n L i) (j + 1)) ∧ Kept wo wr) := ⟨hM, hKx⟩
            clear hM hKx hb
            go_wp2_with fail
            go_roundw
            case rel => exact ⟨j + 1, _, by omega, by go_num, rfl, HM2.out.1, HM2.out.2⟩
            case measure => simp [intOf]; omega
          · have hln := outl_length (mks n L i) j
            obtain ⟨v', w', hr, hM', hK'⟩ := app_step wo.heap.size wr ov (outl (mks n L i) j) hM (j : Int) hKx.below.size (by omega)
            have HR : Hid (∀ ty, (Builtin.append_ #[44, 44] ty #[ov, .slice (some ⟨wr.heap.size, 0, none⟩) 1 1]).run Try.prog (wr.alloc (.cells #[.int .i64 (j : Int)] 3)) = .ok v' w') := hr
            rw [← outl_yes _ _ hb] at hM'
            have HM2 : Hid (MR wo.heap.size w' v' (outl (mks n L i) (j + 1)) ∧ Kept wo w') := ⟨hM', hK' wo (Nat.le_refl _) hKx⟩
            clear hr hM' hK' hM hKx hb hln
            go_wp2_with (first | (at_builtin; refine wpList_append_run rfl _ _ _ rfl _ _ rfl rfl _ _ (HR.out _) ?_))
            go_roundw
            case rel => exact ⟨j + 1, _, by omega, by go_num, rfl, HM2.out.1, HM2.out.2⟩
            case measure => simp [intOf]; omega
        · obtain rfl : j = n := by omega
          have d5 := hd.kept hKx
          have r5 := hr.kept hKx
          have k5 := hKw.trans hKx
          have hwr := hKw.below.size
          have HMf : Hid (MR wo.heap.size wr ov (srt (L.take i))) := by rw [HE.out.2]; exact hM
          clear hV hd hr hKw hM hKx
          go_upto_region 13 with fail
          obtain ⟨⟨c0, c1, c2⟩, f1⟩ := d5
          obtain ⟨⟨c3, c4, c5⟩, f2⟩ := r5
          go_region_held (fun u => Kept w u ∧ u.cell? ⟨w.heap.size, 0, none⟩ = some (.int .i64 s) ∧ u.cell? ⟨w.heap.size, 1, none⟩ = some (.int .i64 t) ∧ u.cell? ⟨w.heap.size, 2, none⟩ = some (.int .i64 P)) (first | exact ⟨k5.drew, c0, c1, c2⟩ | assumption | exact keep3d k5 (by simp) (by simp) ⟨c0, c1, c2⟩ _ _ _) (fail)
          go_wp2
          have hfin : MR (w.heap.size + 2) (put3 wr (w.heap.size + 1) (.int .i64 s) (.int .i64 t) (.int .i64 P)).drew ov (srt (L.take i)) := by
            rcases HMf.out with h | ⟨g, c, e, hg, ho⟩
            · exact .inl h
            · exact .inr ⟨g, c, e, by omega, (Dw.own (b := 0) ho (w.heap.size + 1) (by omega) _ _ _).kept (Kept.refl _).drew⟩
          exact bodyPost_ret (v := .tuple #[ov, .agg #[.int .i64 s, .int .i64 t, .int .i64 P]]) (by simp [results, Try.results29, go_sem, *]) rfl ⟨ov, rfl, hfin, (keep3d k5 (by simp) (by simp) ⟨c0, c1, c2⟩ _ _ _).1⟩

end Go.Proofs.Ytakdnodgcdddeaa
