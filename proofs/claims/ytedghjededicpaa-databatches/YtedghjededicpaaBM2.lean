/- The document's Batch: marks, and those that are marked. -/
import Derived.Test.YtedghjededicpaaBM1
namespace Go.Proofs.Ytedghjededicpaa
open Go.ChangeShapes Go.WideShapes Go.ChangeAt Go.RowKit
set_option linter.unusedVariables false
set_option linter.unusedSimpArgs false

set_option maxHeartbeats 4000000 in
set_option maxRecDepth 100000 in
theorem rbatch_ok (n s k b f m : Nat) (hn : 0 < n) (hn4 : n ≤ 4096) (hs : 0 < s) (hs4 : s ≤ 256) (hk : (n + s - 1) / s = k) (hb : b < k) (hbk : b ≤ 4096) (hf : b * s = f) (hm : min n ((b + 1) * s) = f + m) (sd ep : Int) (hep : 0 ≤ ep) (w : World) : Calls Try.prog 10 #[.int .i64 n, .int .i64 s, .int .i64 sd, .int .i64 ep, .int .i64 b] w fun e w' => ∃ lv, e = .returned (.tuple #[lv, .int .i64 0]) ∧ MR w.heap.size w' lv (srt (bpt (ord sd ep n) f m)) ∧ Kept w w' := by
  have HB : Hid (∀ u : World, Calls Try.prog 8 #[.int .i64 n, .int .i64 s] u fun e w' => e = .returned (.tuple #[.int .i64 k, .int .i64 0]) ∧ Kept u w') := fun u => rbatches_ok n s k hn hn4 hs hs4 hk u
  have HO : Hid (∀ u : World, Calls Try.prog 6 #[.int .i64 n, .int .i64 sd, .int .i64 ep] u fun e w' => ∃ g c, e = .returned (.tuple #[.slice (some ⟨g, 0, none⟩) n c, .int .i64 0]) ∧ u.heap.size ≤ g ∧ Own w' g c (ord sd ep n) ∧ Kept u w') := fun u => rorder_ok n hn hn4 sd ep hep u
  have hE := ech_ord sd ep n hn4
  obtain ⟨L, hL⟩ : ∃ L, ord sd ep n = L := ⟨_, rfl⟩
  rw [hL] at hE HO ⊢
  have hLl : L.length = n := hE.len
  obtain ⟨q, hq⟩ : ∃ q : Nat, (b + 1) * s = q := ⟨_, rfl⟩
  rw [hq] at hm
  have hfq : f + s = q := by rw [← hf, ← hq, Nat.succ_mul]
  have hfn : f + m ≤ n := by rw [← hm]; exact Nat.min_le_left _ _
  have hfm : f + m ≤ q := by rw [← hm]; exact Nat.min_le_right _ _
  have hend : f + m = n ∨ f + m = q := by omega
  have hqb : q ≤ 4097 * 256 := by rw [← hq]; exact Nat.mul_le_mul (by omega) hs4
  have HP0 := outl_bpt hE f m hfn
  obtain ⟨P, hP⟩ : ∃ P, bpt L f m = P := ⟨_, rfl⟩
  rw [hP] at HP0 ⊢
  have HP : Hid (outl (mks n P m) n = srt P ∧ P.length = m ∧ ∀ i, i < m → P.getD i 0 = L.getD (f + i) 0 ∧ 0 ≤ L.getD (f + i) 0 ∧ L.getD (f + i) 0 < n) := HP0
  have b1 : ¬ (b : Int) < 0 := by omega
  have b2 : ¬ (k : Int) ≤ (b : Int) := by omega
  have v2 : decide ((k : Int) ≤ (b : Int)) = false := decide_eq_false b2
  have v3 : decide (k ≤ b) = false := decide_eq_false (by omega)
  have z1 : IntKind.i64.wrap ((b : Int) * (s : Int)) = (f : Int) := by rw [← Int.natCast_mul, hf, wrap_i64]; omega
  have z2 : IntKind.i64.wrap ((b : Int) + 1) = (b : Int) + 1 := by rw [wrap_i64]; omega
  have z3 : IntKind.i64.wrap (((b : Int) + 1) * (s : Int)) = (q : Int) := by rw [show (b : Int) + 1 = ((b + 1 : Nat) : Int) by omega, ← Int.natCast_mul, hq, wrap_i64]; omega
  have HNS := (show Hid (0 < n ∧ n ≤ 4096) from ⟨hn, hn4⟩)
  clear hk hf hq hL hE hP HP0 hm
  go_enter Try.func10, Try.ntmps10
  go_wp2_with fail
  refine (HB.out _).mono ?_
  rintro e w1 ⟨rfl, hk1⟩
  go_wp2_with fail
  refine (HO.out _).mono ?_
  rintro e w2 ⟨g, c, rfl, hg, ho, hk2⟩
  have hK := hk1.trans hk2
  have hgw : w.heap.size ≤ g := Nat.le_trans hk1.below.size hg
  clear hk1 hk2 hg
  have HM := make_runb n (by omega) w2
  have x0 := ownV_made n (by omega) w2
  have kB := (Kept.refl w2).alloc (madeCells #[.bool false] n) 4
  have m1 := ho.kept kB
  have m2 := hK.trans kB
  obtain ⟨B, hB⟩ : ∃ B, B = w2.heap.size := ⟨_, rfl⟩
  obtain ⟨Z, hZ⟩ : ∃ Z, Z = w2.alloc (.cells (madeCells #[.bool false] n) 4) := ⟨_, rfl⟩
  have hgB : g < B := by rw [hB]; exact ho.lt
  have hwB : w.heap.size ≤ B := by rw [hB]; exact hK.below.size
  rw [← hB] at HM x0
  rw [← hZ] at HM x0 m1 m2
  clear hB hZ kB ho hK
  have H0 : Hid (OwnV Z B n 4 ((mks n P 0).map Value.bool) ∧ Own Z g c L ∧ Kept w Z) := ⟨x0, m1, m2⟩
  clear x0 m1 m2
  go_wp2_with fail
  go_loopw [16] (fun iv wr => ∃ (i x : Nat), x = f + i ∧ i ≤ m ∧ iv = .int .i64 (x : Int) ∧ OwnV wr B n 4 ((mks n P i).map Value.bool) ∧ Own wr g c L ∧ Kept w wr) (fun iv _ => f + m - (intOf iv).toNat)
  case atStart => exact ⟨0, f, rfl, Nat.zero_le _, rfl, H0.out⟩
  case round =>
    clear H0 HM HB HO
    obtain ⟨i, x, hx, him, rfl, hV, hl, hKw⟩ := hrel
    by_cases hi : i < m
    · obtain ⟨hp1, hp2, hp3⟩ := HP.out.2.2 i hi
      rw [← hx] at hp1 hp2 hp3
      obtain ⟨y, hy⟩ : ∃ y : Nat, L.getD x 0 = (y : Int) := ⟨(L.getD x 0).toNat, by omega⟩
      have q1 := hl.cell x (by rw [hLl]; omega)
      rw [hy] at q1 hp1 hp3
      have hset := hV.set y (.bool true)
      have hms : ((mks n P i).map Value.bool).set y (.bool true) = (mks n P (i + 1)).map Value.bool := by
        rw [mks, hp1, Int.toNat_natCast, List.map_set]
      rw [hms] at hset
      have q2s := hV.some y (by omega)
      obtain ⟨qv, q2⟩ := Option.isSome_iff_exists.1 q2s
      have q3 := hV.free y
      have HN : Hid (OwnV (wr.setCell ⟨B, y, none⟩ (.bool true)) B n 4 ((mks n P (i + 1)).map Value.bool) ∧ Own wr g c L ∧ Kept w wr) := ⟨hset, hl, hKw⟩
      have z4 : IntKind.i64.wrap ((x : Int) + 1) = (x : Int) + 1 := by rw [wrap_i64]; omega
      have c1 : (x : Int) < (n : Int) := by omega
      have c2 : (x : Int) < (q : Int) := by omega
      have c3 : (y : Int) < (n : Int) := by omega
      have c4 : x < n := by omega
      have c5 : y < n := by omega
      have c6 : x < q := by omega
      have HX := (show Hid (x = f + i) from hx)
      clear hV hl hKw hset hms hy q2s hp1 hp2 hp3 hx
      go_wp2_with fail
      go_roundw
      case rel =>
        obtain ⟨h1, h2, h3⟩ := HN.out
        exact ⟨i + 1, x + 1, by have := HX.out; omega, by omega, by go_num, h1, h2.setOther (by show g ≠ B; omega) _, h3.setCell (by show _ ≤ B; omega) _⟩
      case measure => have := HX.out; simp [intOf]; omega
    · obtain rfl : i = m := by omega
      rename World => wo
      have H1 : Hid (OwnV wo B n 4 ((mks n P i).map Value.bool) ∧ Kept w wo) := ⟨hV, hKw⟩
      have hcc : ¬ (x : Int) < (n : Int) ∨ (x : Int) < (n : Int) ∧ ¬ (x : Int) < (q : Int) := by omega
      have hws := hKw.below.size
      clear hV hl hKw hx
      rcases hcc with c1 | ⟨c1, c2⟩
      all_goals
        go_wp2_with fail
        go_loopw [17, 18] (fun sv jv wr => ∃ (j : Nat) (ov : Value), j ≤ n ∧ jv = .int .i64 j ∧ sv = ov ∧ MR wo.heap.size wr ov (outl (mks n P i) j) ∧ Kept wo wr) (fun _ jv _ => n - (intOf jv).toNat)
        case atStart => exact ⟨0, _, Nat.zero_le _, rfl, rfl, .inl ⟨rfl, rfl⟩, Kept.refl _⟩
        case round =>
          obtain ⟨j, ov, hjn, rfl, hov, hM, hKx⟩ := hrel
          have hov' := hov.symm
          clear hov
          subst hov'
          obtain ⟨hV, hKw⟩ := H1.out
          have z1 : IntKind.i64.wrap ((j : Int) + 1) = (j : Int) + 1 := by rw [wrap_i64]; omega
          by_cases hj : j < n
          · have d1 : (j : Int) < (n : Int) := by omega
            obtain ⟨bb, hbb⟩ : ∃ b, (mks n P i).getD j false = b := ⟨_, rfl⟩
            have q1 := (hV.kept hKx).cell j (.bool bb) (by
              rw [List.getElem?_map, List.getElem?_eq_getElem (by rw [mks_length]; exact hj)]
              rw [List.getD_eq_getElem?_getD, List.getElem?_eq_getElem (by rw [mks_length]; exact hj)] at hbb
              simpa using hbb)
            clear hV hKw
            cases bb
            · rw [← outl_no _ _ hbb] at hM
              have HM2 : Hid (MR wo.heap.size wr ov (outl (mks n P i) (j + 1)) ∧ Kept wo wr) := ⟨hM, hKx⟩
              clear hM hKx hbb
              go_wp2_with fail
              go_roundw
              case rel => exact ⟨j + 1, _, by omega, by go_num, rfl, HM2.out.1, HM2.out.2⟩
              case measure => simp [intOf]; omega
            · have hln := outl_length (mks n P i) j
              obtain ⟨v', w', hr, hM', hK'⟩ := app_step wo.heap.size wr ov (outl (mks n P i) j) hM (j : Int) hKx.below.size (by omega)
              have HR : Hid (∀ ty, (Builtin.append_ #[23, 23] ty #[ov, .slice (some ⟨wr.heap.size, 0, none⟩) 1 1]).run Try.prog (wr.alloc (.cells #[.int .i64 (j : Int)] 3)) = .ok v' w') := hr
              rw [← outl_yes _ _ hbb] at hM'
              have HM2 : Hid (MR wo.heap.size w' v' (outl (mks n P i) (j + 1)) ∧ Kept wo w') := ⟨hM', hK' wo (Nat.le_refl _) hKx⟩
              clear hr hM' hK' hM hKx hbb hln
              go_wp2_with (first | (at_builtin; refine wpList_append_run rfl _ _ _ rfl _ _ rfl rfl _ _ (HR.out _) ?_))
              go_roundw
              case rel => exact ⟨j + 1, _, by omega, by go_num, rfl, HM2.out.1, HM2.out.2⟩
              case measure => simp [intOf]; omega
          · obtain rfl : j = n := by omega
            have HMf : Hid (MR w.heap.size wr ov (srt P) ∧ Kept w wr) := by
              refine ⟨?_, hKw.trans hKx⟩
              rw [← HP.out.1]
              rcases hM with h | ⟨g, c, e, hg, ho⟩
              · exact .inl h
              · exact .inr ⟨g, c, e, by omega, ho⟩
            clear hV hKw hM hKx
            go_wp2_with fail
            exact bodyPost_ret (v := .tuple #[ov, .int .i64 0]) (by simp [results, Try.results10, go_sem, *]) rfl ⟨ov, rfl, HMf.out.1, HMf.out.2⟩

set_option maxHeartbeats 4000000 in
set_option maxRecDepth 100000 in
theorem pb_i (n s k : Nat) (b : Int) (hn : 0 < n) (hn4 : n ≤ 4096) (hs : 0 < s) (hs4 : s ≤ 256) (hk : (n + s - 1) / s = k) (hb : b < 0 ∨ (k : Int) ≤ b) (sd ep : Int) (hep : 0 ≤ ep) (w : World) : Calls Try.prog 9 #[.int .i64 n, .int .i64 s, .int .i64 sd, .int .i64 ep, .int .i64 b] w fun e w' => e = .returned (.tuple #[.slice none 0 0, .int .i64 5]) ∧ Kept w w' := by
  have HB : Hid (∀ u : World, Calls Try.prog 7 #[.int .i64 n, .int .i64 s] u fun e w' => e = .returned (.tuple #[.int .i64 k, .int .i64 0]) ∧ Kept u w') := fun u => batches_ok n s k hn hn4 hs hs4 hk u
  have HO : Hid (∀ u : World, Calls Try.prog 5 #[.int .i64 n, .int .i64 sd, .int .i64 ep] u fun e w' => ∃ g c, e = .returned (.tuple #[.slice (some ⟨g, 0, none⟩) n c, .int .i64 0]) ∧ Kept u w') := fun u => (order_ok n hn hn4 sd ep hep u).mono fun e w' ⟨g, h1, _, _, h4⟩ => ⟨g, n, h1, h4⟩
  clear hk
  go_enter Try.func9, Try.ntmps9
  go_wp2_with fail
  refine (HB.out _).mono ?_
  rintro e w1 ⟨rfl, hk1⟩
  go_wp2_with fail
  refine (HO.out _).mono ?_
  rintro e w2 ⟨g, c, rfl, hk2⟩
  have hK := hk1.trans hk2
  clear hk1 hk2
  by_cases h0 : b < 0
  · clear hb
    go_wp2
    exact bodyPost_ret (v := .tuple #[.slice none 0 0, .int .i64 5]) (by simp [results, Try.results9, go_sem, *]) rfl ⟨rfl, hK⟩
  · have h1 : (k : Int) ≤ b := by omega
    clear hb
    go_wp2
    exact bodyPost_ret (v := .tuple #[.slice none 0 0, .int .i64 5]) (by simp [results, Try.results9, go_sem, *]) rfl ⟨rfl, hK⟩
set_option maxHeartbeats 4000000 in
set_option maxRecDepth 100000 in
theorem pb_e (n s sd ep b q : Int) (hq : q ≠ 0) (w : World) (HB : Hid (∀ u : World, Calls Try.prog 7 #[.int .i64 n, .int .i64 s] u fun e w' => e = .returned (.tuple #[.int .i64 0, .int .i64 q]) ∧ Kept u w')) : Calls Try.prog 9 #[.int .i64 n, .int .i64 s, .int .i64 sd, .int .i64 ep, .int .i64 b] w fun e w' => e = .returned (.tuple #[.slice none 0 0, .int .i64 q]) ∧ Kept w w' := by
  have hq2 : (q != 0) = true := by simpa using hq
  go_enter Try.func9, Try.ntmps9
  go_wp2_with fail
  refine (HB.out _).mono ?_
  rintro e w1 ⟨rfl, hk1⟩
  go_wp2
  exact bodyPost_ret (v := .tuple #[.slice none 0 0, .int .i64 q]) (by simp [results, Try.results9, go_sem, *]) rfl ⟨rfl, hk1⟩
set_option maxHeartbeats 4000000 in
set_option maxRecDepth 100000 in
theorem pb_o (n s sd ep b k q : Int) (hq : q ≠ 0) (w : World) (HB : Hid (∀ u : World, Calls Try.prog 7 #[.int .i64 n, .int .i64 s] u fun e w' => e = .returned (.tuple #[.int .i64 k, .int .i64 0]) ∧ Kept u w')) (HO : Hid (∀ u : World, Calls Try.prog 5 #[.int .i64 n, .int .i64 sd, .int .i64 ep] u fun e w' => e = .returned (.tuple #[.slice none 0 0, .int .i64 q]) ∧ Kept u w')) : Calls Try.prog 9 #[.int .i64 n, .int .i64 s, .int .i64 sd, .int .i64 ep, .int .i64 b] w fun e w' => e = .returned (.tuple #[.slice none 0 0, .int .i64 q]) ∧ Kept w w' := by
  have hq2 : (q != 0) = true := by simpa using hq
  go_enter Try.func9, Try.ntmps9
  go_wp2_with fail
  refine (HB.out _).mono ?_
  rintro e w1 ⟨rfl, hk1⟩
  go_wp2_with fail
  refine (HO.out _).mono ?_
  rintro e w2 ⟨rfl, hk2⟩
  have hK := hk1.trans hk2
  go_wp2
  exact bodyPost_ret (v := .tuple #[.slice none 0 0, .int .i64 q]) (by simp [results, Try.results9, go_sem, *]) rfl ⟨rfl, hK⟩

set_option maxHeartbeats 4000000 in
set_option maxRecDepth 100000 in
theorem rb_i (n s k : Nat) (b : Int) (hn : 0 < n) (hn4 : n ≤ 4096) (hs : 0 < s) (hs4 : s ≤ 256) (hk : (n + s - 1) / s = k) (hb : b < 0 ∨ (k : Int) ≤ b) (sd ep : Int) (hep : 0 ≤ ep) (w : World) : Calls Try.prog 10 #[.int .i64 n, .int .i64 s, .int .i64 sd, .int .i64 ep, .int .i64 b] w fun e w' => e = .returned (.tuple #[.slice none 0 0, .int .i64 5]) ∧ Kept w w' := by
  have HB : Hid (∀ u : World, Calls Try.prog 8 #[.int .i64 n, .int .i64 s] u fun e w' => e = .returned (.tuple #[.int .i64 k, .int .i64 0]) ∧ Kept u w') := fun u => rbatches_ok n s k hn hn4 hs hs4 hk u
  have HO : Hid (∀ u : World, Calls Try.prog 6 #[.int .i64 n, .int .i64 sd, .int .i64 ep] u fun e w' => ∃ g c, e = .returned (.tuple #[.slice (some ⟨g, 0, none⟩) n c, .int .i64 0]) ∧ Kept u w') := fun u => (rorder_ok n hn hn4 sd ep hep u).mono fun e w' ⟨g, c, h1, _, _, h4⟩ => ⟨g, c, h1, h4⟩
  clear hk
  go_enter Try.func10, Try.ntmps10
  go_wp2_with fail
  refine (HB.out _).mono ?_
  rintro e w1 ⟨rfl, hk1⟩
  go_wp2_with fail
  refine (HO.out _).mono ?_
  rintro e w2 ⟨g, c, rfl, hk2⟩
  have hK := hk1.trans hk2
  clear hk1 hk2
  by_cases h0 : b < 0
  · clear hb
    go_wp2
    exact bodyPost_ret (v := .tuple #[.slice none 0 0, .int .i64 5]) (by simp [results, Try.results10, go_sem, *]) rfl ⟨rfl, hK⟩
  · have h1 : (k : Int) ≤ b := by omega
    clear hb
    go_wp2
    exact bodyPost_ret (v := .tuple #[.slice none 0 0, .int .i64 5]) (by simp [results, Try.results10, go_sem, *]) rfl ⟨rfl, hK⟩
set_option maxHeartbeats 4000000 in
set_option maxRecDepth 100000 in
theorem rb_e (n s sd ep b q : Int) (hq : q ≠ 0) (w : World) (HB : Hid (∀ u : World, Calls Try.prog 8 #[.int .i64 n, .int .i64 s] u fun e w' => e = .returned (.tuple #[.int .i64 0, .int .i64 q]) ∧ Kept u w')) : Calls Try.prog 10 #[.int .i64 n, .int .i64 s, .int .i64 sd, .int .i64 ep, .int .i64 b] w fun e w' => e = .returned (.tuple #[.slice none 0 0, .int .i64 q]) ∧ Kept w w' := by
  have hq2 : (q != 0) = true := by simpa using hq
  go_enter Try.func10, Try.ntmps10
  go_wp2_with fail
  refine (HB.out _).mono ?_
  rintro e w1 ⟨rfl, hk1⟩
  go_wp2
  exact bodyPost_ret (v := .tuple #[.slice none 0 0, .int .i64 q]) (by simp [results, Try.results10, go_sem, *]) rfl ⟨rfl, hk1⟩
set_option maxHeartbeats 4000000 in
set_option maxRecDepth 100000 in
theorem rb_o (n s sd ep b k q : Int) (hq : q ≠ 0) (w : World) (HB : Hid (∀ u : World, Calls Try.prog 8 #[.int .i64 n, .int .i64 s] u fun e w' => e = .returned (.tuple #[.int .i64 k, .int .i64 0]) ∧ Kept u w')) (HO : Hid (∀ u : World, Calls Try.prog 6 #[.int .i64 n, .int .i64 sd, .int .i64 ep] u fun e w' => e = .returned (.tuple #[.slice none 0 0, .int .i64 q]) ∧ Kept u w')) : Calls Try.prog 10 #[.int .i64 n, .int .i64 s, .int .i64 sd, .int .i64 ep, .int .i64 b] w fun e w' => e = .returned (.tuple #[.slice none 0 0, .int .i64 q]) ∧ Kept w w' := by
  have hq2 : (q != 0) = true := by simpa using hq
  go_enter Try.func10, Try.ntmps10
  go_wp2_with fail
  refine (HB.out _).mono ?_
  rintro e w1 ⟨rfl, hk1⟩
  go_wp2_with fail
  refine (HO.out _).mono ?_
  rintro e w2 ⟨rfl, hk2⟩
  have hK := hk1.trans hk2
  go_wp2
  exact bodyPost_ret (v := .tuple #[.slice none 0 0, .int .i64 q]) (by simp [results, Try.results10, go_sem, *]) rfl ⟨rfl, hK⟩
end Go.Proofs.Ytedghjededicpaa
