/- The law's walk of DataRows. -/
import Derived.Test.YtcjgdfnbjbboeaaWr51
namespace Go.Proofs.Ytcjgdfnbjbboeaa
open Go.ChangeShapes Go.WideShapes Go.ChangeAt Go.RowKit
set_option linter.unusedVariables false
set_option linter.unusedSimpArgs false
set_option maxRecDepth 100000 in
set_option maxHeartbeats 8000000 in
theorem dataRows_true (r c n : Int) (a : Option Addr) (p : Nat) (L : List Int) (r' c' n' : Int) (a' : Option Addr) (p' : Nat) (L' : List Int) (J : List Int) (ja : Option Addr) (jc : Nat) (hg : Rgl L) (hg' : Rgl L') (hl : L.length ≤ 4611686018427387903) (hl' : L'.length ≤ 4611686018427387903) (w : World) (hX : Sl w (.slice a L.length p) L) (hY : Sl w (.slice a' L'.length p') L') (hJ : Sl w (.slice ja J.length jc) J) :
    Calls Try.prog 3 #[sv8 r c n (.slice a L.length p) r' c' n' (.slice a' L'.length p'), .slice ja J.length jc] w fun e w' => e = .returned (.bool true) ∧ Below w.heap.size w w' := by
  have HA : Hid (∀ u, Calls Try.prog 5 #[] u fun e w' => e = .returned (.bool true) ∧ Kept u w') := fun u => dalive_true u
  have hK : Kept w (w.alloc (.cells (sl8 r c n (.slice a L.length p) r' c' n' (.slice a' L'.length p')).toArray 26)) := (Kept.refl w).alloc _ _
  have hB := Bq.new w (sl8 r c n (.slice a L.length p) r' c' n' (.slice a' L'.length p')) 26
  obtain ⟨X, hXw⟩ : ∃ X, X = w.alloc (.cells (sl8 r c n (.slice a L.length p) r' c' n' (.slice a' L'.length p')).toArray 26) := ⟨_, rfl⟩
  rw [← hXw] at hK hB
  have KL : Hid (∀ u, Calls Try.prog 6 #[sv8 r c n (.slice a L.length p) r' c' n' (.slice a' L'.length p')] u fun e w' => e = .returned (.bool (decide ((L.length : Int) + (L'.length : Int) ≤ 600))) ∧ Kept u w') := fun u => dlight_any r c n a _ p r' c' n' a' _ p' (by omega) (by omega) u
  have KS : Hid (∀ u, Below w.heap.size w u → L.length < 1000000 → L'.length < 1000000 → Calls Try.prog 7 #[sv8 r c n (.slice a L.length p) r' c' n' (.slice a' L'.length p')] u fun e w' => ∃ g cap g' cap', e = .returned (sv8 r c n (.slice (some ⟨g, 0, none⟩) L.length cap) r' c' n' (.slice (some ⟨g', 0, none⟩) L'.length cap')) ∧ Own w' g cap (L ++ [-77, -78]) ∧ Own w' g' cap' (L' ++ [-77, -78]) ∧ Kept u w') := fun u k h1 h2 => (lentSet_any r c n a p L r' c' n' a' p' L' h1 h2 u (sl_below hX k) (sl_below hY k)).mono fun e w' ⟨g, cap, g', cap', x1, x2, x3, x4, x5, x6⟩ => ⟨g, cap, g', cap', x1, x4, x5, x6⟩
  go_enter Try.func3, Try.ntmps3
  go_upto_region 1 with fail
  rw [← hXw]
  clear hXw
  go_wp2_with fail
  refine (HA.out _).mono ?_
  rintro e w1 ⟨rfl, k1⟩
  have hB1 := hB.kept k1
  have hK1 := hK.trans k1
  clear hB hK k1
  have c0 := hB1.c 0 _ rfl
  have c1 := hB1.c 1 _ rfl
  have c2 := hB1.c 2 _ rfl
  have c3 := hB1.c 3 _ rfl
  have c4 := hB1.c 4 _ rfl
  have c5 := hB1.c 5 _ rfl
  have c6 := hB1.c 6 _ rfl
  have c7 := hB1.c 7 _ rfl
  by_cases hlt : (L.length : Int) + (L'.length : Int) ≤ 600
  · have KL1 : Hid (∀ u, Calls Try.prog 6 #[sv8 r c n (.slice a L.length p) r' c' n' (.slice a' L'.length p')] u fun e w' => e = .returned (.bool true) ∧ Kept u w') := fun u => by
      have := KL.out u
      rwa [decide_eq_true hlt] at this
    clear KL
    by_cases h5 : (5000 : Int) < (J.length : Int)
    · go_wp2_with fail
      refine (KL1.out _).mono ?_
      rintro e w2 ⟨rfl, k2⟩
      clear c0 c1 c2 c3 c4 c5 c6 c7
      go_wp2_with fail
      refine (HA.out _).mono ?_
      rintro e w3 ⟨rfl, k3⟩
      go_wp2
      go_ret
      exact ⟨rfl, (hK1.trans (k2.trans k3)).below⟩
    · have hL1 : L.length < 900000 := by omega
      have hL2 : L'.length < 900000 := by omega
      generalize hll : L.length = l at *
      generalize hll' : L'.length = l' at *
      clear hlt hl hl'
      go_wp2_with fail
      refine (KL1.out _).mono ?_
      rintro e w2 ⟨rfl, k2⟩
      have hB2 := hB1.kept k2
      have hK2 := hK1.trans k2
      clear c0 c1 c2 c3 c4 c5 c6 c7 hB1 hK1 k2
      have c0 := hB2.c 0 _ rfl
      have c1 := hB2.c 1 _ rfl
      have c2 := hB2.c 2 _ rfl
      have c3 := hB2.c 3 _ rfl
      have c4 := hB2.c 4 _ rfl
      have c5 := hB2.c 5 _ rfl
      have c6 := hB2.c 6 _ rfl
      have c7 := hB2.c 7 _ rfl
      go_upto_region 4 with (first | (go_at_call 7; refine (KS.out _ hK2.below (by omega) (by omega)).mono ?_; rintro e w3 ⟨g, cap, g', cap', rfl, ho, ho', k3⟩))
      clear c0 c1 c2 c3 c4 c5 c6 c7
      have hB3 := hB2.kept k3
      have hK3 := hK2.trans k3
      clear hB2 hK2 k3
      have HXX := hidq (And.intro hX hY)
      obtain ⟨W4, hW4⟩ : ∃ W4, W4 = (w3.alloc (.cells #[.int .i64 r, .int .i64 c, .int .i64 n, .slice (some ⟨g, 0, none⟩) l cap, .int .i64 r', .int .i64 c', .int .i64 n', .slice (some ⟨g', 0, none⟩) l' cap'] 26)).alloc (.cells #[.slice none 0 0, .slice none 0 0, .slice none 0 0, .slice none 0 0, .slice none 0 0, .slice none 0 0, .slice none 0 0, .slice none 0 0, .slice none 0 0, .slice none 0 0, .slice none 0 0, .slice none 0 0, .slice none 0 0, .slice none 0 0, .slice none 0 0, .slice none 0 0] 40) := ⟨_, rfl⟩
      have kW : Kept w3 W4 := by rw [hW4]; exact ((Kept.refl w3).alloc _ _).alloc _ _
      have hx4 : Bq W4 w3.heap.size (sl8 r c n (.slice (some ⟨g, 0, none⟩) l cap) r' c' n' (.slice (some ⟨g', 0, none⟩) l' cap')) := by rw [hW4]; exact (Bq.new w3 (sl8 r c n (.slice (some ⟨g, 0, none⟩) l cap) r' c' n' (.slice (some ⟨g', 0, none⟩) l' cap')) 26).kept ((Kept.refl _).alloc _ _)
      have hk4 : Bks W4 (w3.heap.size + 1) 0 W4.heap.size := by
        have := bok_new (w3.alloc (.cells #[.int .i64 r, .int .i64 c, .int .i64 n, .slice (some ⟨g, 0, none⟩) l cap, .int .i64 r', .int .i64 c', .int .i64 n', .slice (some ⟨g', 0, none⟩) l' cap'] 26)) 40
        rw [← hW4] at this
        simp only [World.size_alloc] at this
        exact ⟨_, _, _, _, _, _, _, _, this, fun j hj => by omega⟩
      go_wp2_with fail
      rw [show (w3.alloc (.cells #[.int .i64 r, .int .i64 c, .int .i64 n, .slice (some ⟨g, 0, none⟩) l cap, .int .i64 r', .int .i64 c', .int .i64 n', .slice (some ⟨g', 0, none⟩) l' cap'] 26)).alloc (.cells #[.slice none 0 0, .slice none 0 0, .slice none 0 0, .slice none 0 0, .slice none 0 0, .slice none 0 0, .slice none 0 0, .slice none 0 0, .slice none 0 0, .slice none 0 0, .slice none 0 0, .slice none 0 0, .slice none 0 0, .slice none 0 0, .slice none 0 0, .slice none 0 0] 40) = W4 from hW4.symm]
      obtain ⟨G5, hG5⟩ : ∃ G, G = w3.heap.size := ⟨_, rfl⟩
      obtain ⟨B, hB⟩ : ∃ B, B = w3.heap.size + 1 := ⟨_, rfl⟩
      rw [← hB] at hk4 ⊢
      rw [← hG5] at hx4 ⊢
      have HM := hidq (And.intro (hB3.kept kW) (And.intro hx4 (And.intro (ho.kept kW) (And.intro (ho'.kept kW) (hK3.trans kW)))))
      have HSZ := hidq (show w.heap.size < B ∧ G5 < B ∧ g < B ∧ g' < B ∧ B < W4.heap.size from ⟨by have := hB3.lt; omega, by omega, by have := ho.lt; omega, by have := ho'.lt; omega, hk4.lt⟩)
      have HK4 := hidq hk4
      have hj5 : J.length ≤ 5000 := by omega
      have HJ := hidq hJ
      clear hW4 kW hx4 hk4 hG5 hB hB3 ho ho' hK3 h5 hJ
      obtain ⟨jl, hjl⟩ : ∃ jl, J.length = jl := ⟨_, rfl⟩
      rw [hjl] at HJ hj5 ⊢
      go_loopw [7] (fun iv wr => ∃ t : Nat, t ≤ jl ∧ t ≤ 60 ∧ iv = .int .i64 t ∧ Hid (Bks wr B (2 * t) wr.heap.size ∧ Below B W4 wr)) (fun iv _ => 60 - (intOf iv).toNat)
      case atStart => exact ⟨0, Nat.zero_le _, by omega, rfl, hidq ⟨HK4.out, Below.refl _ _⟩⟩
      case round =>
        obtain ⟨t, ht, ht6, rfl, HV⟩ := hrel
        by_cases hlt : t < jl ∧ t < 60
        · obtain ⟨h1, h2⟩ := hlt
          have hne : J ≠ [] := fun e => by rw [e] at hjl; simp at hjl; omega
          obtain ⟨jb, jo, rfl, hjb, hjr⟩ := sl_ad HJ.out hne
          obtain ⟨jv, hjv⟩ : ∃ jv, J.getD t 0 = jv := ⟨_, rfl⟩
          have q0 := hjr t (by rw [hjl]; exact h1)
          rw [hjv] at q0
          obtain ⟨hbk, hbl⟩ := HV.out
          have hxr := HM.out.2.1.belowH hbl HSZ.out.2.1
          have hsr := HM.out.1.belowH hbl HSZ.out.1
          have hwb : Below w.heap.size w wr := HM.out.2.2.2.2.below.trans ((hbl.mono (Nat.le_of_lt HSZ.out.1)))
          have q1 := (hwb.cell (p := ⟨jb, jo + t, none⟩) hjb).trans q0
          have HT : Hid (∀ u, Below wr.heap.size wr u → u.cell? ⟨G5, 0, none⟩ = some (.int .i64 r) ∧ u.cell? ⟨G5, 1, none⟩ = some (.int .i64 c) ∧ u.cell? ⟨G5, 2, none⟩ = some (.int .i64 n) ∧ u.cell? ⟨G5, 3, none⟩ = some (.slice (some ⟨g, 0, none⟩) l cap) ∧ u.cell? ⟨G5, 4, none⟩ = some (.int .i64 r') ∧ u.cell? ⟨G5, 5, none⟩ = some (.int .i64 c') ∧ u.cell? ⟨G5, 6, none⟩ = some (.int .i64 n') ∧ u.cell? ⟨G5, 7, none⟩ = some (.slice (some ⟨g', 0, none⟩) l' cap') ∧ u.cell? ⟨jb, jo + t, none⟩ = some (.int .i64 jv)) := fun u k => ⟨(bq_below hxr k).c 0 _ rfl, (bq_below hxr k).c 1 _ rfl, (bq_below hxr k).c 2 _ rfl, (bq_below hxr k).c 3 _ rfl, (bq_below hxr k).c 4 _ rfl, (bq_below hxr k).c 5 _ rfl, (bq_below hxr k).c 6 _ rfl, (bq_below hxr k).c 7 _ rfl, (k.cell (p := ⟨jb, jo + t, none⟩) (Nat.lt_of_lt_of_le hjb hwb.size)).trans q1⟩
          have HTS : Hid (∀ u, Below wr.heap.size wr u → u.cell? ⟨w.heap.size, 0, none⟩ = some (.int .i64 r) ∧ u.cell? ⟨w.heap.size, 1, none⟩ = some (.int .i64 c) ∧ u.cell? ⟨w.heap.size, 2, none⟩ = some (.int .i64 n) ∧ u.cell? ⟨w.heap.size, 3, none⟩ = some (.slice a l p) ∧ u.cell? ⟨w.heap.size, 4, none⟩ = some (.int .i64 r') ∧ u.cell? ⟨w.heap.size, 5, none⟩ = some (.int .i64 c') ∧ u.cell? ⟨w.heap.size, 6, none⟩ = some (.int .i64 n') ∧ u.cell? ⟨w.heap.size, 7, none⟩ = some (.slice a' l' p') ∧ u.cell? ⟨jb, jo + t, none⟩ = some (.int .i64 jv)) := fun u k => ⟨(bq_below hsr k).c 0 _ rfl, (bq_below hsr k).c 1 _ rfl, (bq_below hsr k).c 2 _ rfl, (bq_below hsr k).c 3 _ rfl, (bq_below hsr k).c 4 _ rfl, (bq_below hsr k).c 5 _ rfl, (bq_below hsr k).c 6 _ rfl, (bq_below hsr k).c 7 _ rfl, (k.cell (p := ⟨jb, jo + t, none⟩) (Nat.lt_of_lt_of_le hjb hwb.size)).trans q1⟩
          have b5 : (t : Int) < (jl : Int) := by omega
          have b6 : (t : Int) < 60 := by omega
          obtain ⟨PX8, hPX8⟩ : ∃ PX : PXT, PX = fun q m cc cc' nn a1 p1 a1' p1' lo hi => P8 (fun K K' => PS r c n L r' c' n' L' [jv] q m cc cc' nn K K') lo hi a1 p1 a1' p1' := ⟨_, rfl⟩
          have KRow : Hid (∀ u, Below wr.heap.size wr u → Calls Try.prog 8 #[sv8 r c n (.slice (some ⟨g, 0, none⟩) l cap) r' c' n' (.slice (some ⟨g', 0, none⟩) l' cap'), .int .i64 jv] u fun e w' => ∃ (q m cc cc' nn : Int) (a1 : Option Addr) (p1 kl : Nat) (a1' : Option Addr) (p1' kl' : Nat) (lo hi : Nat), e = .returned (.tuple #[.agg #[.int .i64 m, .int .i64 cc, .int .i64 nn, .slice a1 kl p1], .agg #[.int .i64 m, .int .i64 cc', .int .i64 nn, .slice a1' kl' p1'], .int .i64 q]) ∧ Hid (AG (PX8 q m cc cc' nn a1 p1 a1' p1' lo hi) lo hi w' a1 p1 kl a1' p1' kl') ∧ Below u.heap.size u w' ∧ Hid (lo = u.heap.size ∧ hi = w'.heap.size)) := fun u k => by
            have o1 := (HM.out.2.2.1.belowH hbl HSZ.out.2.2.1).below k
            have o2 := (HM.out.2.2.2.1.belowH hbl HSZ.out.2.2.2.1).below k
            have s1 := o1.slTake L.length (by simp)
            have s2 := o2.slTake L'.length (by simp)
            rw [List.take_left' rfl] at s1 s2
            have := row_any r c n _ cap L r' c' n' _ cap' L' jv u s1 s2
            rw [hll, hll'] at this
            refine this.mono fun e w' ⟨⟨q, m, cc, cc', nn, a1, p1, K, a1', p1', K', h1, h2, h3⟩, h4⟩ => ⟨q, m, cc, cc', nn, a1, p1, _, a1', p1', _, _, _, h1, hidq ?_, h4, hidq ⟨rfl, rfl⟩⟩
            rw [hPX8]
            exact h3.ag (X := fun K K' => PS r c n L r' c' n' L' [jv] q m cc cc' nn K K') h2
          have HQ := hidq (And.intro hbk (And.intro hbl hwb))
          have HPX8 := hidq hPX8
          clear hbk hbl hxr hsr q0 q1 hjr HV hwb hPX8
          go_upto_region 8 with fail
          refine wp_region_lateT [12, 13, 14] (fun _ => True) (fun u => u.cell? ⟨G5, 0, none⟩ = some (.int .i64 r) ∧ u.cell? ⟨G5, 1, none⟩ = some (.int .i64 c) ∧ u.cell? ⟨G5, 2, none⟩ = some (.int .i64 n) ∧ u.cell? ⟨G5, 3, none⟩ = some (.slice (some ⟨g, 0, none⟩) l cap) ∧ u.cell? ⟨G5, 4, none⟩ = some (.int .i64 r') ∧ u.cell? ⟨G5, 5, none⟩ = some (.int .i64 c') ∧ u.cell? ⟨G5, 6, none⟩ = some (.int .i64 n') ∧ u.cell? ⟨G5, 7, none⟩ = some (.slice (some ⟨g', 0, none⟩) l' cap') ∧ u.cell? ⟨jb, jo + t, none⟩ = some (.int .i64 jv)) (by kernel_rfl) trivial (HT.out _ (Kept.refl wr).drew.below) (fun _ hHeld => ?_)
          refine wpAnyT_take2 (i := 0) (v := ?_) rfl (by kernel_rfl) (by kernel_rfl) (by kernel_rfl) (by kernel_rfl) (fun _ _ _ h => h) (Or.inl ⟨by rfl, ?hya0⟩) (fun _ => trivial) hHeld ?_
          case hya0 => (intro w hSw; (try dsimp only at hSw); go_simp; try (with_reducible rfl))
          (try simp only [Act.put, List.getElem_toArray, List.getElem_cons_succ, List.getElem_cons_zero, List.setIfInBounds_toArray, List.set_cons_zero, List.set_cons_succ])
          refine wpAnyT_take2 (i := 1) (v := ?_) rfl (by kernel_rfl) (by kernel_rfl) (by kernel_rfl) (by kernel_rfl) (fun _ _ _ h => h) (Or.inl ⟨by rfl, ?hya1⟩) (fun _ => trivial) hHeld ?_
          case hya1 => (intro w hSw; (try dsimp only at hSw); go_simp; try (with_reducible rfl))
          (try simp only [Act.put, List.getElem_toArray, List.getElem_cons_succ, List.getElem_cons_zero, List.setIfInBounds_toArray, List.set_cons_zero, List.set_cons_succ])
          refine wpAnyT_take2 (i := 2) (v := ?_) rfl (by kernel_rfl) (by kernel_rfl) (by kernel_rfl) (by kernel_rfl) (fun _ _ _ h => h) (Or.inl ⟨by rfl, ?hya2⟩) (fun _ => trivial) hHeld ?_
          case hya2 => (intro w hSw; (try dsimp only at hSw); go_simp; try (with_reducible rfl))
          (try simp only [Act.put, List.getElem_toArray, List.getElem_cons_succ, List.getElem_cons_zero, List.setIfInBounds_toArray, List.set_cons_zero, List.set_cons_succ])
          refine wpAnyT_take2 (i := 3) (v := ?_) rfl (by kernel_rfl) (by kernel_rfl) (by kernel_rfl) (by kernel_rfl) (fun _ _ _ h => h) (Or.inl ⟨by rfl, ?hya3⟩) (fun _ => trivial) hHeld ?_
          case hya3 => (intro w hSw; (try dsimp only at hSw); go_simp; try (with_reducible rfl))
          (try simp only [Act.put, List.getElem_toArray, List.getElem_cons_succ, List.getElem_cons_zero, List.setIfInBounds_toArray, List.set_cons_zero, List.set_cons_succ])
          refine wpAnyT_take2 (i := 4) (v := ?_) rfl (by kernel_rfl) (by kernel_rfl) (by kernel_rfl) (by kernel_rfl) (fun _ _ _ h => h) (Or.inl ⟨by rfl, ?hya4⟩) (fun _ => trivial) hHeld ?_
          case hya4 => (intro w hSw; (try dsimp only at hSw); go_simp; try (with_reducible rfl))
          (try simp only [Act.put, List.getElem_toArray, List.getElem_cons_succ, List.getElem_cons_zero, List.setIfInBounds_toArray, List.set_cons_zero, List.set_cons_succ])
          obtain ⟨Y0, hY0⟩ : ∃ Y0, Y0 = wr.drew := ⟨_, rfl⟩
          have e0 : Below wr.heap.size wr Y0 := by rw [hY0]; exact (Kept.refl wr).drew.below
          rw [← hY0] at hHeld ⊢
          clear hY0
          refine via2 (TB2 PX8 wr) ?Fa (fun HN8 => ?treea) ?conta
          case treea =>
            refine wpAnyT_three (i := 5) (j := 10) (m := 11) (by kernel_rfl) rfl rfl rfl ?_ ?_ ?_
            · skip
              intro K hK9
              go_simp
              go_wp2_with fail
              refine (KRow.out _ e0).mono ?_
              rintro e ua5 ⟨q, m, cc, cc', nn, a1, p1, kl, a1', p1', kl', lo, hi, rfl, HPa5, b1, HL⟩
              have ea5 : Below wr.heap.size wr ua5 := e0.trans (b1.mono e0.size)
              have HZa5 := hidq (show hi ≤ ua5.heap.size from by have := HL.out; omega)
              have HW := hidq (show wr.heap.size ≤ lo from by have := HL.out; have := e0.size; omega)
              clear HL b1
              refine hK9.out _ _ trivial (HT.out _ ea5) (fun _ hTa5 => ?_)
              clear hK9 K
              (try simp only [Act.put, List.getElem_toArray, List.getElem_cons_succ, List.getElem_cons_zero, List.setIfInBounds_toArray, List.set_cons_zero, List.set_cons_succ])
              refine wpAnyT_take2 (i := 6) (v := ?_) rfl (by kernel_rfl) (by kernel_rfl) (by kernel_rfl) (by kernel_rfl) (fun _ _ _ h => h) (Or.inl ⟨by rfl, ?hyza56⟩) (fun _ => trivial) hTa5 ?_
              case hyza56 => (intro w hSw; (try dsimp only at hSw); go_simp; try (with_reducible rfl))
              (try simp only [Act.put, List.getElem_toArray, List.getElem_cons_succ, List.getElem_cons_zero, List.setIfInBounds_toArray, List.set_cons_zero, List.set_cons_succ])
              refine wpAnyT_take2 (i := 7) (v := ?_) rfl (by kernel_rfl) (by kernel_rfl) (by kernel_rfl) (by kernel_rfl) (fun _ _ _ h => h) (Or.inl ⟨by rfl, ?hyza57⟩) (fun _ => trivial) hTa5 ?_
              case hyza57 => (intro w hSw; (try dsimp only at hSw); go_simp; try (with_reducible rfl))
              (try simp only [Act.put, List.getElem_toArray, List.getElem_cons_succ, List.getElem_cons_zero, List.setIfInBounds_toArray, List.set_cons_zero, List.set_cons_succ])
              refine wpAnyT_take2 (i := 8) (v := ?_) rfl (by kernel_rfl) (by kernel_rfl) (by kernel_rfl) (by kernel_rfl) (fun _ _ _ h => h) (Or.inl ⟨by rfl, ?hyza58⟩) (fun _ => trivial) hTa5 ?_
              case hyza58 => (intro w hSw; (try dsimp only at hSw); go_simp; try (with_reducible rfl))
              (try simp only [Act.put, List.getElem_toArray, List.getElem_cons_succ, List.getElem_cons_zero, List.setIfInBounds_toArray, List.set_cons_zero, List.set_cons_succ])
              refine wpAnyT_take2 (i := 9) (v := ?_) rfl (by kernel_rfl) (by kernel_rfl) (by kernel_rfl) (by kernel_rfl) (fun _ _ _ h => h) (Or.inl ⟨by rfl, ?hyza59⟩) (fun _ => trivial) hTa5 ?_
              case hyza59 => (intro w hSw; (try dsimp only at hSw); go_simp; try (with_reducible rfl))
              (try simp only [Act.put, List.getElem_toArray, List.getElem_cons_succ, List.getElem_cons_zero, List.setIfInBounds_toArray, List.set_cons_zero, List.set_cons_succ])
              refine wpAnyT_two (i := 10) (j := 11) (by kernel_rfl) rfl rfl ?_ ?_
              · skip
                intro K hK9
                go_simp
                have ga510 := Bq.new ua5 [.int .i64 0, .int .i64 0, .int .i64 0, .slice none 0 0] 24
                have ka510 : Kept ua5 (ua5.alloc (.cells #[.int .i64 0, .int .i64 0, .int .i64 0, .slice none 0 0] 24)) := (Kept.refl ua5).alloc _ _
                obtain ⟨ua510, hua510⟩ : ∃ u, u = ua5.alloc (.cells #[.int .i64 0, .int .i64 0, .int .i64 0, .slice none 0 0] 24) := ⟨_, rfl⟩
                obtain ⟨b8, hba510⟩ : ∃ b, b = ua5.heap.size := ⟨_, rfl⟩
                rw [show ua5.alloc (.cells ([.int .i64 0, .int .i64 0, .int .i64 0, .slice none 0 0] : List Value).toArray 24) = ua510 from hua510.symm] at ga510
                rw [← hua510] at ka510 ⊢
                rw [← hba510] at ga510 ⊢
                have ea510 : Below wr.heap.size wr ua510 := ea5.trans (ka510.below.mono ea5.size)
                have lf8 : wr.heap.size ≤ b8 := by rw [hba510]; exact ea5.size
                have xf8 := hidq (show b8 < lo ∨ hi ≤ b8 from .inr (by rw [hba510]; exact HZa5.out))
                have HPa510 := hidq (HPa5.out.below ka510.below)
                have HZa510 := hidq (Nat.le_trans HZa5.out ka510.below.size)
                clear hua510 hba510
                refine hK9.out _ _ trivial (HT.out _ ea510) (fun _ hTa510 => ?_)
                clear hK9 K
                (try simp only [Act.put, List.getElem_toArray, List.getElem_cons_succ, List.getElem_cons_zero, List.setIfInBounds_toArray, List.set_cons_zero, List.set_cons_succ])
                refine wpAnyT_one (i := 11) (by kernel_rfl) rfl ?_
                intro K hK9
                go_simp
                have ga51011 := Bq.new ua510 [.int .i64 0, .int .i64 0, .int .i64 0, .slice none 0 0] 24
                have ka51011 : Kept ua510 (ua510.alloc (.cells #[.int .i64 0, .int .i64 0, .int .i64 0, .slice none 0 0] 24)) := (Kept.refl ua510).alloc _ _
                obtain ⟨ua51011, hua51011⟩ : ∃ u, u = ua510.alloc (.cells #[.int .i64 0, .int .i64 0, .int .i64 0, .slice none 0 0] 24) := ⟨_, rfl⟩
                obtain ⟨b9, hba51011⟩ : ∃ b, b = ua510.heap.size := ⟨_, rfl⟩
                rw [show ua510.alloc (.cells ([.int .i64 0, .int .i64 0, .int .i64 0, .slice none 0 0] : List Value).toArray 24) = ua51011 from hua51011.symm] at ga51011
                rw [← hua51011] at ka51011 ⊢
                rw [← hba51011] at ga51011 ⊢
                have ea51011 : Below wr.heap.size wr ua51011 := ea510.trans (ka51011.below.mono ea510.size)
                have lf9 : wr.heap.size ≤ b9 := by rw [hba51011]; exact ea510.size
                have f8a51011 := ga510.kept ka51011
                have hne : ¬ b8 = b9 := by have := ga510.lt; omega
                have hne' : ¬ b9 = b8 := by omega
                have xf9 := hidq (show b9 < lo ∨ hi ≤ b9 from .inr (by rw [hba51011]; exact HZa510.out))
                have HPa51011 := hidq (HPa510.out.below ka51011.below)
                have HZa51011 := hidq (Nat.le_trans HZa510.out ka51011.below.size)
                clear hua51011 hba51011
                refine hK9.out _ _ trivial (HT.out _ ea51011) (fun _ hTa51011 => ?_)
                clear hK9 K
                (try simp only [Act.put, List.getElem_toArray, List.getElem_cons_succ, List.getElem_cons_zero, List.setIfInBounds_toArray, List.set_cons_zero, List.set_cons_succ])
                have d0 := f8a51011.c 0 _ rfl
                have d1 := f8a51011.c 1 _ rfl
                have d2 := f8a51011.c 2 _ rfl
                have d3 := f8a51011.c 3 _ rfl
                have fz := f8a51011.fz
                have bel4 := st4_below (B := b8) ea51011 lf8 (.int .i64 m) (.int .i64 cc) (.int .i64 nn) (.slice a1 kl p1)
                refine wpAnyT_late (i := 12) (by kernel_rfl) rfl (by kernel_rfl) (fun K hK9 => ?_)
                go_simp
                refine hK9.out _ _ (HT.out _ bel4) (fun hT4 => ?_)
                clear hK9 K
                (try simp only [Act.put, List.getElem_toArray, List.getElem_cons_succ, List.getElem_cons_zero, List.setIfInBounds_toArray, List.set_cons_zero, List.set_cons_succ])
                have h84 := st4 ua51011 b8 _ rfl f8a51011 (.int .i64 m) (.int .i64 cc) (.int .i64 nn) (.slice a1 kl p1)
                have h94 := st4_far (B := b8) ga51011 hne' (.int .i64 m) (.int .i64 cc) (.int .i64 nn) (.slice a1 kl p1)
                have hp4 := hidq (HPa51011.out.far4 xf8.out (.int .i64 m) (.int .i64 cc) (.int .i64 nn) (.slice a1 kl p1))
                have hz4 := hidq (show hi ≤ (st4w ua51011 b8 (.int .i64 m) (.int .i64 cc) (.int .i64 nn) (.slice a1 kl p1)).heap.size from by simpa using HZa51011.out)
                clear d0 d1 d2 d3 fz hT4
                obtain ⟨Y1, hY1⟩ : ∃ Y1, Y1 = st4w ua51011 b8 (.int .i64 m) (.int .i64 cc) (.int .i64 nn) (.slice a1 kl p1) := ⟨_, rfl⟩
                rw [← hY1] at h84 h94 bel4 hp4 hz4
                rw [show (((ua51011.setCell ⟨b8, 0, none⟩ (.int .i64 m)).setCell ⟨b8, 1, none⟩ (.int .i64 cc)).setCell ⟨b8, 2, none⟩ (.int .i64 nn)).setCell ⟨b8, 3, none⟩ (.slice a1 kl p1) = Y1 from hY1.symm]
                clear hY1
                have d0 := h94.c 0 _ rfl
                have d1 := h94.c 1 _ rfl
                have d2 := h94.c 2 _ rfl
                have d3 := h94.c 3 _ rfl
                have fz := h94.fz
                have bel5 := st4_below (B := b9) bel4 lf9 (.int .i64 m) (.int .i64 cc') (.int .i64 nn) (.slice a1' kl' p1')
                refine wpAnyT_late (i := 13) (by kernel_rfl) rfl (by kernel_rfl) (fun K hK9 => ?_)
                go_simp
                refine hK9.out _ _ (HT.out _ bel5) (fun hT5 => ?_)
                clear hK9 K
                (try simp only [Act.put, List.getElem_toArray, List.getElem_cons_succ, List.getElem_cons_zero, List.setIfInBounds_toArray, List.set_cons_zero, List.set_cons_succ])
                have h85 := st4_far (B := b9) h84 hne (.int .i64 m) (.int .i64 cc') (.int .i64 nn) (.slice a1' kl' p1')
                have h95 := st4 Y1 b9 _ rfl h94 (.int .i64 m) (.int .i64 cc') (.int .i64 nn) (.slice a1' kl' p1')
                have hp5 := hidq (hp4.out.far4 xf9.out (.int .i64 m) (.int .i64 cc') (.int .i64 nn) (.slice a1' kl' p1'))
                have hz5 := hidq (show hi ≤ (st4w Y1 b9 (.int .i64 m) (.int .i64 cc') (.int .i64 nn) (.slice a1' kl' p1')).heap.size from by simpa using hz4.out)
                clear d0 d1 d2 d3 fz hT5
                obtain ⟨Y2, hY2⟩ : ∃ Y2, Y2 = st4w Y1 b9 (.int .i64 m) (.int .i64 cc') (.int .i64 nn) (.slice a1' kl' p1') := ⟨_, rfl⟩
                rw [← hY2] at h85 h95 bel5 hp5 hz5
                rw [show (((Y1.setCell ⟨b9, 0, none⟩ (.int .i64 m)).setCell ⟨b9, 1, none⟩ (.int .i64 cc')).setCell ⟨b9, 2, none⟩ (.int .i64 nn)).setCell ⟨b9, 3, none⟩ (.slice a1' kl' p1') = Y2 from hY2.symm]
                clear hY2
                refine wpAnyT_late (i := 14) (by kernel_rfl) rfl (by kernel_rfl) (fun K hK9 => ?_)
                go_simp
                refine hK9.out _ _ (HT.out _ bel5) (fun hT6 => ?_)
                clear hK9 K
                (try simp only [Act.put, List.getElem_toArray, List.getElem_cons_succ, List.getElem_cons_zero, List.setIfInBounds_toArray, List.set_cons_zero, List.set_cons_succ])
                refine wpAnyT_done (by kernel_rfl) ?_ _
                (try simp only [Act.put, List.getElem_toArray, List.getElem_cons_succ, List.getElem_cons_zero, List.setIfInBounds_toArray, List.set_cons_zero, List.set_cons_succ])
                exact HN8.out b8 b9 q m cc cc' nn a1 p1 kl a1' p1' kl' Y2 ⟨lf8, lf9, hne, h85, h95, bel5, lo, hi, HW.out, hz5.out, hp5.out⟩
              · skip
                intro K hK9
                go_simp
                have ga511 := Bq.new ua5 [.int .i64 0, .int .i64 0, .int .i64 0, .slice none 0 0] 24
                have ka511 : Kept ua5 (ua5.alloc (.cells #[.int .i64 0, .int .i64 0, .int .i64 0, .slice none 0 0] 24)) := (Kept.refl ua5).alloc _ _
                obtain ⟨ua511, hua511⟩ : ∃ u, u = ua5.alloc (.cells #[.int .i64 0, .int .i64 0, .int .i64 0, .slice none 0 0] 24) := ⟨_, rfl⟩
                obtain ⟨b9, hba511⟩ : ∃ b, b = ua5.heap.size := ⟨_, rfl⟩
                rw [show ua5.alloc (.cells ([.int .i64 0, .int .i64 0, .int .i64 0, .slice none 0 0] : List Value).toArray 24) = ua511 from hua511.symm] at ga511
                rw [← hua511] at ka511 ⊢
                rw [← hba511] at ga511 ⊢
                have ea511 : Below wr.heap.size wr ua511 := ea5.trans (ka511.below.mono ea5.size)
                have lf9 : wr.heap.size ≤ b9 := by rw [hba511]; exact ea5.size
                have xf9 := hidq (show b9 < lo ∨ hi ≤ b9 from .inr (by rw [hba511]; exact HZa5.out))
                have HPa511 := hidq (HPa5.out.below ka511.below)
                have HZa511 := hidq (Nat.le_trans HZa5.out ka511.below.size)
                clear hua511 hba511
                refine hK9.out _ _ trivial (HT.out _ ea511) (fun _ hTa511 => ?_)
                clear hK9 K
                (try simp only [Act.put, List.getElem_toArray, List.getElem_cons_succ, List.getElem_cons_zero, List.setIfInBounds_toArray, List.set_cons_zero, List.set_cons_succ])
                refine wpAnyT_one (i := 10) (by kernel_rfl) rfl ?_
                intro K hK9
                go_simp
                have ga51110 := Bq.new ua511 [.int .i64 0, .int .i64 0, .int .i64 0, .slice none 0 0] 24
                have ka51110 : Kept ua511 (ua511.alloc (.cells #[.int .i64 0, .int .i64 0, .int .i64 0, .slice none 0 0] 24)) := (Kept.refl ua511).alloc _ _
                obtain ⟨ua51110, hua51110⟩ : ∃ u, u = ua511.alloc (.cells #[.int .i64 0, .int .i64 0, .int .i64 0, .slice none 0 0] 24) := ⟨_, rfl⟩
                obtain ⟨b8, hba51110⟩ : ∃ b, b = ua511.heap.size := ⟨_, rfl⟩
                rw [show ua511.alloc (.cells ([.int .i64 0, .int .i64 0, .int .i64 0, .slice none 0 0] : List Value).toArray 24) = ua51110 from hua51110.symm] at ga51110
                rw [← hua51110] at ka51110 ⊢
                rw [← hba51110] at ga51110 ⊢
                have ea51110 : Below wr.heap.size wr ua51110 := ea511.trans (ka51110.below.mono ea511.size)
                have lf8 : wr.heap.size ≤ b8 := by rw [hba51110]; exact ea511.size
                have f9a51110 := ga511.kept ka51110
                have hne : ¬ b8 = b9 := by have := ga511.lt; omega
                have hne' : ¬ b9 = b8 := by omega
                have xf8 := hidq (show b8 < lo ∨ hi ≤ b8 from .inr (by rw [hba51110]; exact HZa511.out))
                have HPa51110 := hidq (HPa511.out.below ka51110.below)
                have HZa51110 := hidq (Nat.le_trans HZa511.out ka51110.below.size)
                clear hua51110 hba51110
                refine hK9.out _ _ trivial (HT.out _ ea51110) (fun _ hTa51110 => ?_)
                clear hK9 K
                (try simp only [Act.put, List.getElem_toArray, List.getElem_cons_succ, List.getElem_cons_zero, List.setIfInBounds_toArray, List.set_cons_zero, List.set_cons_succ])
                have d0 := ga51110.c 0 _ rfl
                have d1 := ga51110.c 1 _ rfl
                have d2 := ga51110.c 2 _ rfl
                have d3 := ga51110.c 3 _ rfl
                have fz := ga51110.fz
                have bel4 := st4_below (B := b8) ea51110 lf8 (.int .i64 m) (.int .i64 cc) (.int .i64 nn) (.slice a1 kl p1)
                refine wpAnyT_late (i := 12) (by kernel_rfl) rfl (by kernel_rfl) (fun K hK9 => ?_)
                go_simp
                refine hK9.out _ _ (HT.out _ bel4) (fun hT4 => ?_)
                clear hK9 K
                (try simp only [Act.put, List.getElem_toArray, List.getElem_cons_succ, List.getElem_cons_zero, List.setIfInBounds_toArray, List.set_cons_zero, List.set_cons_succ])
                have h84 := st4 ua51110 b8 _ rfl ga51110 (.int .i64 m) (.int .i64 cc) (.int .i64 nn) (.slice a1 kl p1)
                have h94 := st4_far (B := b8) f9a51110 hne' (.int .i64 m) (.int .i64 cc) (.int .i64 nn) (.slice a1 kl p1)
                have hp4 := hidq (HPa51110.out.far4 xf8.out (.int .i64 m) (.int .i64 cc) (.int .i64 nn) (.slice a1 kl p1))
                have hz4 := hidq (show hi ≤ (st4w ua51110 b8 (.int .i64 m) (.int .i64 cc) (.int .i64 nn) (.slice a1 kl p1)).heap.size from by simpa using HZa51110.out)
                clear d0 d1 d2 d3 fz hT4
                obtain ⟨Y1, hY1⟩ : ∃ Y1, Y1 = st4w ua51110 b8 (.int .i64 m) (.int .i64 cc) (.int .i64 nn) (.slice a1 kl p1) := ⟨_, rfl⟩
                rw [← hY1] at h84 h94 bel4 hp4 hz4
                rw [show (((ua51110.setCell ⟨b8, 0, none⟩ (.int .i64 m)).setCell ⟨b8, 1, none⟩ (.int .i64 cc)).setCell ⟨b8, 2, none⟩ (.int .i64 nn)).setCell ⟨b8, 3, none⟩ (.slice a1 kl p1) = Y1 from hY1.symm]
                clear hY1
                have d0 := h94.c 0 _ rfl
                have d1 := h94.c 1 _ rfl
                have d2 := h94.c 2 _ rfl
                have d3 := h94.c 3 _ rfl
                have fz := h94.fz
                have bel5 := st4_below (B := b9) bel4 lf9 (.int .i64 m) (.int .i64 cc') (.int .i64 nn) (.slice a1' kl' p1')
                refine wpAnyT_late (i := 13) (by kernel_rfl) rfl (by kernel_rfl) (fun K hK9 => ?_)
                go_simp
                refine hK9.out _ _ (HT.out _ bel5) (fun hT5 => ?_)
                clear hK9 K
                (try simp only [Act.put, List.getElem_toArray, List.getElem_cons_succ, List.getElem_cons_zero, List.setIfInBounds_toArray, List.set_cons_zero, List.set_cons_succ])
                have h85 := st4_far (B := b9) h84 hne (.int .i64 m) (.int .i64 cc') (.int .i64 nn) (.slice a1' kl' p1')
                have h95 := st4 Y1 b9 _ rfl h94 (.int .i64 m) (.int .i64 cc') (.int .i64 nn) (.slice a1' kl' p1')
                have hp5 := hidq (hp4.out.far4 xf9.out (.int .i64 m) (.int .i64 cc') (.int .i64 nn) (.slice a1' kl' p1'))
                have hz5 := hidq (show hi ≤ (st4w Y1 b9 (.int .i64 m) (.int .i64 cc') (.int .i64 nn) (.slice a1' kl' p1')).heap.size from by simpa using hz4.out)
                clear d0 d1 d2 d3 fz hT5
                obtain ⟨Y2, hY2⟩ : ∃ Y2, Y2 = st4w Y1 b9 (.int .i64 m) (.int .i64 cc') (.int .i64 nn) (.slice a1' kl' p1') := ⟨_, rfl⟩
                rw [← hY2] at h85 h95 bel5 hp5 hz5
                rw [show (((Y1.setCell ⟨b9, 0, none⟩ (.int .i64 m)).setCell ⟨b9, 1, none⟩ (.int .i64 cc')).setCell ⟨b9, 2, none⟩ (.int .i64 nn)).setCell ⟨b9, 3, none⟩ (.slice a1' kl' p1') = Y2 from hY2.symm]
                clear hY2
                refine wpAnyT_late (i := 14) (by kernel_rfl) rfl (by kernel_rfl) (fun K hK9 => ?_)
                go_simp
                refine hK9.out _ _ (HT.out _ bel5) (fun hT6 => ?_)
                clear hK9 K
                (try simp only [Act.put, List.getElem_toArray, List.getElem_cons_succ, List.getElem_cons_zero, List.setIfInBounds_toArray, List.set_cons_zero, List.set_cons_succ])
                refine wpAnyT_done (by kernel_rfl) ?_ _
                (try simp only [Act.put, List.getElem_toArray, List.getElem_cons_succ, List.getElem_cons_zero, List.setIfInBounds_toArray, List.set_cons_zero, List.set_cons_succ])
                exact HN8.out b8 b9 q m cc cc' nn a1 p1 kl a1' p1' kl' Y2 ⟨lf8, lf9, hne, h85, h95, bel5, lo, hi, HW.out, hz5.out, hp5.out⟩
            · skip
              intro K hK9
              go_simp
              have ga10 := Bq.new Y0 [.int .i64 0, .int .i64 0, .int .i64 0, .slice none 0 0] 24
              have ka10 : Kept Y0 (Y0.alloc (.cells #[.int .i64 0, .int .i64 0, .int .i64 0, .slice none 0 0] 24)) := (Kept.refl Y0).alloc _ _
              obtain ⟨ua10, hua10⟩ : ∃ u, u = Y0.alloc (.cells #[.int .i64 0, .int .i64 0, .int .i64 0, .slice none 0 0] 24) := ⟨_, rfl⟩
              obtain ⟨b8, hba10⟩ : ∃ b, b = Y0.heap.size := ⟨_, rfl⟩
              rw [show Y0.alloc (.cells ([.int .i64 0, .int .i64 0, .int .i64 0, .slice none 0 0] : List Value).toArray 24) = ua10 from hua10.symm] at ga10
              rw [← hua10] at ka10 ⊢
              rw [← hba10] at ga10 ⊢
              have ea10 : Below wr.heap.size wr ua10 := e0.trans (ka10.below.mono e0.size)
              have lf8 : wr.heap.size ≤ b8 := by rw [hba10]; exact e0.size
              clear hua10 hba10
              refine hK9.out _ _ trivial (HT.out _ ea10) (fun _ hTa10 => ?_)
              clear hK9 K
              (try simp only [Act.put, List.getElem_toArray, List.getElem_cons_succ, List.getElem_cons_zero, List.setIfInBounds_toArray, List.set_cons_zero, List.set_cons_succ])
              refine wpAnyT_two (i := 5) (j := 11) (by kernel_rfl) rfl rfl ?_ ?_
              · skip
                intro K hK9
                go_simp
                go_wp2_with fail
                refine (KRow.out _ ea10).mono ?_
                rintro e ua105 ⟨q, m, cc, cc', nn, a1, p1, kl, a1', p1', kl', lo, hi, rfl, HPa105, b1, HL⟩
                have ea105 : Below wr.heap.size wr ua105 := ea10.trans (b1.mono ea10.size)
                have HZa105 := hidq (show hi ≤ ua105.heap.size from by have := HL.out; omega)
                have HW := hidq (show wr.heap.size ≤ lo from by have := HL.out; have := ea10.size; omega)
                have xf8 := hidq (show b8 < lo ∨ hi ≤ b8 from .inl (by have := ga10.lt; have := HL.out; omega))
                have f8a105 := bq_below ga10 b1
                clear HL b1
                refine hK9.out _ _ trivial (HT.out _ ea105) (fun _ hTa105 => ?_)
                clear hK9 K
                (try simp only [Act.put, List.getElem_toArray, List.getElem_cons_succ, List.getElem_cons_zero, List.setIfInBounds_toArray, List.set_cons_zero, List.set_cons_succ])
                refine wpAnyT_take2 (i := 6) (v := ?_) rfl (by kernel_rfl) (by kernel_rfl) (by kernel_rfl) (by kernel_rfl) (fun _ _ _ h => h) (Or.inl ⟨by rfl, ?hyza1056⟩) (fun _ => trivial) hTa105 ?_
                case hyza1056 => (intro w hSw; (try dsimp only at hSw); go_simp; try (with_reducible rfl))
                (try simp only [Act.put, List.getElem_toArray, List.getElem_cons_succ, List.getElem_cons_zero, List.setIfInBounds_toArray, List.set_cons_zero, List.set_cons_succ])
                refine wpAnyT_take2 (i := 7) (v := ?_) rfl (by kernel_rfl) (by kernel_rfl) (by kernel_rfl) (by kernel_rfl) (fun _ _ _ h => h) (Or.inl ⟨by rfl, ?hyza1057⟩) (fun _ => trivial) hTa105 ?_
                case hyza1057 => (intro w hSw; (try dsimp only at hSw); go_simp; try (with_reducible rfl))
                (try simp only [Act.put, List.getElem_toArray, List.getElem_cons_succ, List.getElem_cons_zero, List.setIfInBounds_toArray, List.set_cons_zero, List.set_cons_succ])
                refine wpAnyT_take2 (i := 8) (v := ?_) rfl (by kernel_rfl) (by kernel_rfl) (by kernel_rfl) (by kernel_rfl) (fun _ _ _ h => h) (Or.inl ⟨by rfl, ?hyza1058⟩) (fun _ => trivial) hTa105 ?_
                case hyza1058 => (intro w hSw; (try dsimp only at hSw); go_simp; try (with_reducible rfl))
                (try simp only [Act.put, List.getElem_toArray, List.getElem_cons_succ, List.getElem_cons_zero, List.setIfInBounds_toArray, List.set_cons_zero, List.set_cons_succ])
                refine wpAnyT_take2 (i := 9) (v := ?_) rfl (by kernel_rfl) (by kernel_rfl) (by kernel_rfl) (by kernel_rfl) (fun _ _ _ h => h) (Or.inl ⟨by rfl, ?hyza1059⟩) (fun _ => trivial) hTa105 ?_
                case hyza1059 => (intro w hSw; (try dsimp only at hSw); go_simp; try (with_reducible rfl))
                (try simp only [Act.put, List.getElem_toArray, List.getElem_cons_succ, List.getElem_cons_zero, List.setIfInBounds_toArray, List.set_cons_zero, List.set_cons_succ])
                refine wpAnyT_one (i := 11) (by kernel_rfl) rfl ?_
                intro K hK9
                go_simp
                have ga10511 := Bq.new ua105 [.int .i64 0, .int .i64 0, .int .i64 0, .slice none 0 0] 24
                have ka10511 : Kept ua105 (ua105.alloc (.cells #[.int .i64 0, .int .i64 0, .int .i64 0, .slice none 0 0] 24)) := (Kept.refl ua105).alloc _ _
                obtain ⟨ua10511, hua10511⟩ : ∃ u, u = ua105.alloc (.cells #[.int .i64 0, .int .i64 0, .int .i64 0, .slice none 0 0] 24) := ⟨_, rfl⟩
                obtain ⟨b9, hba10511⟩ : ∃ b, b = ua105.heap.size := ⟨_, rfl⟩
                rw [show ua105.alloc (.cells ([.int .i64 0, .int .i64 0, .int .i64 0, .slice none 0 0] : List Value).toArray 24) = ua10511 from hua10511.symm] at ga10511
                rw [← hua10511] at ka10511 ⊢
                rw [← hba10511] at ga10511 ⊢
                have ea10511 : Below wr.heap.size wr ua10511 := ea105.trans (ka10511.below.mono ea105.size)
                have lf9 : wr.heap.size ≤ b9 := by rw [hba10511]; exact ea105.size
                have f8a10511 := f8a105.kept ka10511
                have hne : ¬ b8 = b9 := by have := f8a105.lt; omega
                have hne' : ¬ b9 = b8 := by omega
                have xf9 := hidq (show b9 < lo ∨ hi ≤ b9 from .inr (by rw [hba10511]; exact HZa105.out))
                have HPa10511 := hidq (HPa105.out.below ka10511.below)
                have HZa10511 := hidq (Nat.le_trans HZa105.out ka10511.below.size)
                clear hua10511 hba10511
                refine hK9.out _ _ trivial (HT.out _ ea10511) (fun _ hTa10511 => ?_)
                clear hK9 K
                (try simp only [Act.put, List.getElem_toArray, List.getElem_cons_succ, List.getElem_cons_zero, List.setIfInBounds_toArray, List.set_cons_zero, List.set_cons_succ])
                have d0 := f8a10511.c 0 _ rfl
                have d1 := f8a10511.c 1 _ rfl
                have d2 := f8a10511.c 2 _ rfl
                have d3 := f8a10511.c 3 _ rfl
                have fz := f8a10511.fz
                have bel4 := st4_below (B := b8) ea10511 lf8 (.int .i64 m) (.int .i64 cc) (.int .i64 nn) (.slice a1 kl p1)
                refine wpAnyT_late (i := 12) (by kernel_rfl) rfl (by kernel_rfl) (fun K hK9 => ?_)
                go_simp
                refine hK9.out _ _ (HT.out _ bel4) (fun hT4 => ?_)
                clear hK9 K
                (try simp only [Act.put, List.getElem_toArray, List.getElem_cons_succ, List.getElem_cons_zero, List.setIfInBounds_toArray, List.set_cons_zero, List.set_cons_succ])
                have h84 := st4 ua10511 b8 _ rfl f8a10511 (.int .i64 m) (.int .i64 cc) (.int .i64 nn) (.slice a1 kl p1)
                have h94 := st4_far (B := b8) ga10511 hne' (.int .i64 m) (.int .i64 cc) (.int .i64 nn) (.slice a1 kl p1)
                have hp4 := hidq (HPa10511.out.far4 xf8.out (.int .i64 m) (.int .i64 cc) (.int .i64 nn) (.slice a1 kl p1))
                have hz4 := hidq (show hi ≤ (st4w ua10511 b8 (.int .i64 m) (.int .i64 cc) (.int .i64 nn) (.slice a1 kl p1)).heap.size from by simpa using HZa10511.out)
                clear d0 d1 d2 d3 fz hT4
                obtain ⟨Y1, hY1⟩ : ∃ Y1, Y1 = st4w ua10511 b8 (.int .i64 m) (.int .i64 cc) (.int .i64 nn) (.slice a1 kl p1) := ⟨_, rfl⟩
                rw [← hY1] at h84 h94 bel4 hp4 hz4
                rw [show (((ua10511.setCell ⟨b8, 0, none⟩ (.int .i64 m)).setCell ⟨b8, 1, none⟩ (.int .i64 cc)).setCell ⟨b8, 2, none⟩ (.int .i64 nn)).setCell ⟨b8, 3, none⟩ (.slice a1 kl p1) = Y1 from hY1.symm]
                clear hY1
                have d0 := h94.c 0 _ rfl
                have d1 := h94.c 1 _ rfl
                have d2 := h94.c 2 _ rfl
                have d3 := h94.c 3 _ rfl
                have fz := h94.fz
                have bel5 := st4_below (B := b9) bel4 lf9 (.int .i64 m) (.int .i64 cc') (.int .i64 nn) (.slice a1' kl' p1')
                refine wpAnyT_late (i := 13) (by kernel_rfl) rfl (by kernel_rfl) (fun K hK9 => ?_)
                go_simp
                refine hK9.out _ _ (HT.out _ bel5) (fun hT5 => ?_)
                clear hK9 K
                (try simp only [Act.put, List.getElem_toArray, List.getElem_cons_succ, List.getElem_cons_zero, List.setIfInBounds_toArray, List.set_cons_zero, List.set_cons_succ])
                have h85 := st4_far (B := b9) h84 hne (.int .i64 m) (.int .i64 cc') (.int .i64 nn) (.slice a1' kl' p1')
                have h95 := st4 Y1 b9 _ rfl h94 (.int .i64 m) (.int .i64 cc') (.int .i64 nn) (.slice a1' kl' p1')
                have hp5 := hidq (hp4.out.far4 xf9.out (.int .i64 m) (.int .i64 cc') (.int .i64 nn) (.slice a1' kl' p1'))
                have hz5 := hidq (show hi ≤ (st4w Y1 b9 (.int .i64 m) (.int .i64 cc') (.int .i64 nn) (.slice a1' kl' p1')).heap.size from by simpa using hz4.out)
                clear d0 d1 d2 d3 fz hT5
                obtain ⟨Y2, hY2⟩ : ∃ Y2, Y2 = st4w Y1 b9 (.int .i64 m) (.int .i64 cc') (.int .i64 nn) (.slice a1' kl' p1') := ⟨_, rfl⟩
                rw [← hY2] at h85 h95 bel5 hp5 hz5
                rw [show (((Y1.setCell ⟨b9, 0, none⟩ (.int .i64 m)).setCell ⟨b9, 1, none⟩ (.int .i64 cc')).setCell ⟨b9, 2, none⟩ (.int .i64 nn)).setCell ⟨b9, 3, none⟩ (.slice a1' kl' p1') = Y2 from hY2.symm]
                clear hY2
                refine wpAnyT_late (i := 14) (by kernel_rfl) rfl (by kernel_rfl) (fun K hK9 => ?_)
                go_simp
                refine hK9.out _ _ (HT.out _ bel5) (fun hT6 => ?_)
                clear hK9 K
                (try simp only [Act.put, List.getElem_toArray, List.getElem_cons_succ, List.getElem_cons_zero, List.setIfInBounds_toArray, List.set_cons_zero, List.set_cons_succ])
                refine wpAnyT_done (by kernel_rfl) ?_ _
                (try simp only [Act.put, List.getElem_toArray, List.getElem_cons_succ, List.getElem_cons_zero, List.setIfInBounds_toArray, List.set_cons_zero, List.set_cons_succ])
                exact HN8.out b8 b9 q m cc cc' nn a1 p1 kl a1' p1' kl' Y2 ⟨lf8, lf9, hne, h85, h95, bel5, lo, hi, HW.out, hz5.out, hp5.out⟩
              · skip
                intro K hK9
                go_simp
                have ga1011 := Bq.new ua10 [.int .i64 0, .int .i64 0, .int .i64 0, .slice none 0 0] 24
                have ka1011 : Kept ua10 (ua10.alloc (.cells #[.int .i64 0, .int .i64 0, .int .i64 0, .slice none 0 0] 24)) := (Kept.refl ua10).alloc _ _
                obtain ⟨ua1011, hua1011⟩ : ∃ u, u = ua10.alloc (.cells #[.int .i64 0, .int .i64 0, .int .i64 0, .slice none 0 0] 24) := ⟨_, rfl⟩
                obtain ⟨b9, hba1011⟩ : ∃ b, b = ua10.heap.size := ⟨_, rfl⟩
                rw [show ua10.alloc (.cells ([.int .i64 0, .int .i64 0, .int .i64 0, .slice none 0 0] : List Value).toArray 24) = ua1011 from hua1011.symm] at ga1011
                rw [← hua1011] at ka1011 ⊢
                rw [← hba1011] at ga1011 ⊢
                have ea1011 : Below wr.heap.size wr ua1011 := ea10.trans (ka1011.below.mono ea10.size)
                have lf9 : wr.heap.size ≤ b9 := by rw [hba1011]; exact ea10.size
                have f8a1011 := ga10.kept ka1011
                have hne : ¬ b8 = b9 := by have := ga10.lt; omega
                have hne' : ¬ b9 = b8 := by omega
                clear hua1011 hba1011
                refine hK9.out _ _ trivial (HT.out _ ea1011) (fun _ hTa1011 => ?_)
                clear hK9 K
                (try simp only [Act.put, List.getElem_toArray, List.getElem_cons_succ, List.getElem_cons_zero, List.setIfInBounds_toArray, List.set_cons_zero, List.set_cons_succ])
                refine wpAnyT_one (i := 5) (by kernel_rfl) rfl ?_
                intro K hK9
                go_simp
                go_wp2_with fail
                refine (KRow.out _ ea1011).mono ?_
                rintro e ua10115 ⟨q, m, cc, cc', nn, a1, p1, kl, a1', p1', kl', lo, hi, rfl, HPa10115, b1, HL⟩
                have ea10115 : Below wr.heap.size wr ua10115 := ea1011.trans (b1.mono ea1011.size)
                have HZa10115 := hidq (show hi ≤ ua10115.heap.size from by have := HL.out; omega)
                have HW := hidq (show wr.heap.size ≤ lo from by have := HL.out; have := ea1011.size; omega)
                have xf8 := hidq (show b8 < lo ∨ hi ≤ b8 from .inl (by have := f8a1011.lt; have := HL.out; omega))
                have f8a10115 := bq_below f8a1011 b1
                have xf9 := hidq (show b9 < lo ∨ hi ≤ b9 from .inl (by have := ga1011.lt; have := HL.out; omega))
                have f9a10115 := bq_below ga1011 b1
                clear HL b1
                refine hK9.out _ _ trivial (HT.out _ ea10115) (fun _ hTa10115 => ?_)
                clear hK9 K
                (try simp only [Act.put, List.getElem_toArray, List.getElem_cons_succ, List.getElem_cons_zero, List.setIfInBounds_toArray, List.set_cons_zero, List.set_cons_succ])
                refine wpAnyT_take2 (i := 6) (v := ?_) rfl (by kernel_rfl) (by kernel_rfl) (by kernel_rfl) (by kernel_rfl) (fun _ _ _ h => h) (Or.inl ⟨by rfl, ?hyza101156⟩) (fun _ => trivial) hTa10115 ?_
                case hyza101156 => (intro w hSw; (try dsimp only at hSw); go_simp; try (with_reducible rfl))
                (try simp only [Act.put, List.getElem_toArray, List.getElem_cons_succ, List.getElem_cons_zero, List.setIfInBounds_toArray, List.set_cons_zero, List.set_cons_succ])
                refine wpAnyT_take2 (i := 7) (v := ?_) rfl (by kernel_rfl) (by kernel_rfl) (by kernel_rfl) (by kernel_rfl) (fun _ _ _ h => h) (Or.inl ⟨by rfl, ?hyza101157⟩) (fun _ => trivial) hTa10115 ?_
                case hyza101157 => (intro w hSw; (try dsimp only at hSw); go_simp; try (with_reducible rfl))
                (try simp only [Act.put, List.getElem_toArray, List.getElem_cons_succ, List.getElem_cons_zero, List.setIfInBounds_toArray, List.set_cons_zero, List.set_cons_succ])
                refine wpAnyT_take2 (i := 8) (v := ?_) rfl (by kernel_rfl) (by kernel_rfl) (by kernel_rfl) (by kernel_rfl) (fun _ _ _ h => h) (Or.inl ⟨by rfl, ?hyza101158⟩) (fun _ => trivial) hTa10115 ?_
                case hyza101158 => (intro w hSw; (try dsimp only at hSw); go_simp; try (with_reducible rfl))
                (try simp only [Act.put, List.getElem_toArray, List.getElem_cons_succ, List.getElem_cons_zero, List.setIfInBounds_toArray, List.set_cons_zero, List.set_cons_succ])
                refine wpAnyT_take2 (i := 9) (v := ?_) rfl (by kernel_rfl) (by kernel_rfl) (by kernel_rfl) (by kernel_rfl) (fun _ _ _ h => h) (Or.inl ⟨by rfl, ?hyza101159⟩) (fun _ => trivial) hTa10115 ?_
                case hyza101159 => (intro w hSw; (try dsimp only at hSw); go_simp; try (with_reducible rfl))
                (try simp only [Act.put, List.getElem_toArray, List.getElem_cons_succ, List.getElem_cons_zero, List.setIfInBounds_toArray, List.set_cons_zero, List.set_cons_succ])
                have d0 := f8a10115.c 0 _ rfl
                have d1 := f8a10115.c 1 _ rfl
                have d2 := f8a10115.c 2 _ rfl
                have d3 := f8a10115.c 3 _ rfl
                have fz := f8a10115.fz
                have bel4 := st4_below (B := b8) ea10115 lf8 (.int .i64 m) (.int .i64 cc) (.int .i64 nn) (.slice a1 kl p1)
                refine wpAnyT_late (i := 12) (by kernel_rfl) rfl (by kernel_rfl) (fun K hK9 => ?_)
                go_simp
                refine hK9.out _ _ (HT.out _ bel4) (fun hT4 => ?_)
                clear hK9 K
                (try simp only [Act.put, List.getElem_toArray, List.getElem_cons_succ, List.getElem_cons_zero, List.setIfInBounds_toArray, List.set_cons_zero, List.set_cons_succ])
                have h84 := st4 ua10115 b8 _ rfl f8a10115 (.int .i64 m) (.int .i64 cc) (.int .i64 nn) (.slice a1 kl p1)
                have h94 := st4_far (B := b8) f9a10115 hne' (.int .i64 m) (.int .i64 cc) (.int .i64 nn) (.slice a1 kl p1)
                have hp4 := hidq (HPa10115.out.far4 xf8.out (.int .i64 m) (.int .i64 cc) (.int .i64 nn) (.slice a1 kl p1))
                have hz4 := hidq (show hi ≤ (st4w ua10115 b8 (.int .i64 m) (.int .i64 cc) (.int .i64 nn) (.slice a1 kl p1)).heap.size from by simpa using HZa10115.out)
                clear d0 d1 d2 d3 fz hT4
                obtain ⟨Y1, hY1⟩ : ∃ Y1, Y1 = st4w ua10115 b8 (.int .i64 m) (.int .i64 cc) (.int .i64 nn) (.slice a1 kl p1) := ⟨_, rfl⟩
                rw [← hY1] at h84 h94 bel4 hp4 hz4
                rw [show (((ua10115.setCell ⟨b8, 0, none⟩ (.int .i64 m)).setCell ⟨b8, 1, none⟩ (.int .i64 cc)).setCell ⟨b8, 2, none⟩ (.int .i64 nn)).setCell ⟨b8, 3, none⟩ (.slice a1 kl p1) = Y1 from hY1.symm]
                clear hY1
                have d0 := h94.c 0 _ rfl
                have d1 := h94.c 1 _ rfl
                have d2 := h94.c 2 _ rfl
                have d3 := h94.c 3 _ rfl
                have fz := h94.fz
                have bel5 := st4_below (B := b9) bel4 lf9 (.int .i64 m) (.int .i64 cc') (.int .i64 nn) (.slice a1' kl' p1')
                refine wpAnyT_late (i := 13) (by kernel_rfl) rfl (by kernel_rfl) (fun K hK9 => ?_)
                go_simp
                refine hK9.out _ _ (HT.out _ bel5) (fun hT5 => ?_)
                clear hK9 K
                (try simp only [Act.put, List.getElem_toArray, List.getElem_cons_succ, List.getElem_cons_zero, List.setIfInBounds_toArray, List.set_cons_zero, List.set_cons_succ])
                have h85 := st4_far (B := b9) h84 hne (.int .i64 m) (.int .i64 cc') (.int .i64 nn) (.slice a1' kl' p1')
                have h95 := st4 Y1 b9 _ rfl h94 (.int .i64 m) (.int .i64 cc') (.int .i64 nn) (.slice a1' kl' p1')
                have hp5 := hidq (hp4.out.far4 xf9.out (.int .i64 m) (.int .i64 cc') (.int .i64 nn) (.slice a1' kl' p1'))
                have hz5 := hidq (show hi ≤ (st4w Y1 b9 (.int .i64 m) (.int .i64 cc') (.int .i64 nn) (.slice a1' kl' p1')).heap.size from by simpa using hz4.out)
                clear d0 d1 d2 d3 fz hT5
                obtain ⟨Y2, hY2⟩ : ∃ Y2, Y2 = st4w Y1 b9 (.int .i64 m) (.int .i64 cc') (.int .i64 nn) (.slice a1' kl' p1') := ⟨_, rfl⟩
                rw [← hY2] at h85 h95 bel5 hp5 hz5
                rw [show (((Y1.setCell ⟨b9, 0, none⟩ (.int .i64 m)).setCell ⟨b9, 1, none⟩ (.int .i64 cc')).setCell ⟨b9, 2, none⟩ (.int .i64 nn)).setCell ⟨b9, 3, none⟩ (.slice a1' kl' p1') = Y2 from hY2.symm]
                clear hY2
                refine wpAnyT_late (i := 14) (by kernel_rfl) rfl (by kernel_rfl) (fun K hK9 => ?_)
                go_simp
                refine hK9.out _ _ (HT.out _ bel5) (fun hT6 => ?_)
                clear hK9 K
                (try simp only [Act.put, List.getElem_toArray, List.getElem_cons_succ, List.getElem_cons_zero, List.setIfInBounds_toArray, List.set_cons_zero, List.set_cons_succ])
                refine wpAnyT_done (by kernel_rfl) ?_ _
                (try simp only [Act.put, List.getElem_toArray, List.getElem_cons_succ, List.getElem_cons_zero, List.setIfInBounds_toArray, List.set_cons_zero, List.set_cons_succ])
                exact HN8.out b8 b9 q m cc cc' nn a1 p1 kl a1' p1' kl' Y2 ⟨lf8, lf9, hne, h85, h95, bel5, lo, hi, HW.out, hz5.out, hp5.out⟩
            · skip
              intro K hK9
              go_simp
              have ga11 := Bq.new Y0 [.int .i64 0, .int .i64 0, .int .i64 0, .slice none 0 0] 24
              have ka11 : Kept Y0 (Y0.alloc (.cells #[.int .i64 0, .int .i64 0, .int .i64 0, .slice none 0 0] 24)) := (Kept.refl Y0).alloc _ _
              obtain ⟨ua11, hua11⟩ : ∃ u, u = Y0.alloc (.cells #[.int .i64 0, .int .i64 0, .int .i64 0, .slice none 0 0] 24) := ⟨_, rfl⟩
              obtain ⟨b9, hba11⟩ : ∃ b, b = Y0.heap.size := ⟨_, rfl⟩
              rw [show Y0.alloc (.cells ([.int .i64 0, .int .i64 0, .int .i64 0, .slice none 0 0] : List Value).toArray 24) = ua11 from hua11.symm] at ga11
              rw [← hua11] at ka11 ⊢
              rw [← hba11] at ga11 ⊢
              have ea11 : Below wr.heap.size wr ua11 := e0.trans (ka11.below.mono e0.size)
              have lf9 : wr.heap.size ≤ b9 := by rw [hba11]; exact e0.size
              clear hua11 hba11
              refine hK9.out _ _ trivial (HT.out _ ea11) (fun _ hTa11 => ?_)
              clear hK9 K
              (try simp only [Act.put, List.getElem_toArray, List.getElem_cons_succ, List.getElem_cons_zero, List.setIfInBounds_toArray, List.set_cons_zero, List.set_cons_succ])
              refine wpAnyT_two (i := 5) (j := 10) (by kernel_rfl) rfl rfl ?_ ?_
              · skip
                intro K hK9
                go_simp
                go_wp2_with fail
                refine (KRow.out _ ea11).mono ?_
                rintro e ua115 ⟨q, m, cc, cc', nn, a1, p1, kl, a1', p1', kl', lo, hi, rfl, HPa115, b1, HL⟩
                have ea115 : Below wr.heap.size wr ua115 := ea11.trans (b1.mono ea11.size)
                have HZa115 := hidq (show hi ≤ ua115.heap.size from by have := HL.out; omega)
                have HW := hidq (show wr.heap.size ≤ lo from by have := HL.out; have := ea11.size; omega)
                have xf9 := hidq (show b9 < lo ∨ hi ≤ b9 from .inl (by have := ga11.lt; have := HL.out; omega))
                have f9a115 := bq_below ga11 b1
                clear HL b1
                refine hK9.out _ _ trivial (HT.out _ ea115) (fun _ hTa115 => ?_)
                clear hK9 K
                (try simp only [Act.put, List.getElem_toArray, List.getElem_cons_succ, List.getElem_cons_zero, List.setIfInBounds_toArray, List.set_cons_zero, List.set_cons_succ])
                refine wpAnyT_take2 (i := 6) (v := ?_) rfl (by kernel_rfl) (by kernel_rfl) (by kernel_rfl) (by kernel_rfl) (fun _ _ _ h => h) (Or.inl ⟨by rfl, ?hyza1156⟩) (fun _ => trivial) hTa115 ?_
                case hyza1156 => (intro w hSw; (try dsimp only at hSw); go_simp; try (with_reducible rfl))
                (try simp only [Act.put, List.getElem_toArray, List.getElem_cons_succ, List.getElem_cons_zero, List.setIfInBounds_toArray, List.set_cons_zero, List.set_cons_succ])
                refine wpAnyT_take2 (i := 7) (v := ?_) rfl (by kernel_rfl) (by kernel_rfl) (by kernel_rfl) (by kernel_rfl) (fun _ _ _ h => h) (Or.inl ⟨by rfl, ?hyza1157⟩) (fun _ => trivial) hTa115 ?_
                case hyza1157 => (intro w hSw; (try dsimp only at hSw); go_simp; try (with_reducible rfl))
                (try simp only [Act.put, List.getElem_toArray, List.getElem_cons_succ, List.getElem_cons_zero, List.setIfInBounds_toArray, List.set_cons_zero, List.set_cons_succ])
                refine wpAnyT_take2 (i := 8) (v := ?_) rfl (by kernel_rfl) (by kernel_rfl) (by kernel_rfl) (by kernel_rfl) (fun _ _ _ h => h) (Or.inl ⟨by rfl, ?hyza1158⟩) (fun _ => trivial) hTa115 ?_
                case hyza1158 => (intro w hSw; (try dsimp only at hSw); go_simp; try (with_reducible rfl))
                (try simp only [Act.put, List.getElem_toArray, List.getElem_cons_succ, List.getElem_cons_zero, List.setIfInBounds_toArray, List.set_cons_zero, List.set_cons_succ])
                refine wpAnyT_take2 (i := 9) (v := ?_) rfl (by kernel_rfl) (by kernel_rfl) (by kernel_rfl) (by kernel_rfl) (fun _ _ _ h => h) (Or.inl ⟨by rfl, ?hyza1159⟩) (fun _ => trivial) hTa115 ?_
                case hyza1159 => (intro w hSw; (try dsimp only at hSw); go_simp; try (with_reducible rfl))
                (try simp only [Act.put, List.getElem_toArray, List.getElem_cons_succ, List.getElem_cons_zero, List.setIfInBounds_toArray, List.set_cons_zero, List.set_cons_succ])
                refine wpAnyT_one (i := 10) (by kernel_rfl) rfl ?_
                intro K hK9
                go_simp
                have ga11510 := Bq.new ua115 [.int .i64 0, .int .i64 0, .int .i64 0, .slice none 0 0] 24
                have ka11510 : Kept ua115 (ua115.alloc (.cells #[.int .i64 0, .int .i64 0, .int .i64 0, .slice none 0 0] 24)) := (Kept.refl ua115).alloc _ _
                obtain ⟨ua11510, hua11510⟩ : ∃ u, u = ua115.alloc (.cells #[.int .i64 0, .int .i64 0, .int .i64 0, .slice none 0 0] 24) := ⟨_, rfl⟩
                obtain ⟨b8, hba11510⟩ : ∃ b, b = ua115.heap.size := ⟨_, rfl⟩
                rw [show ua115.alloc (.cells ([.int .i64 0, .int .i64 0, .int .i64 0, .slice none 0 0] : List Value).toArray 24) = ua11510 from hua11510.symm] at ga11510
                rw [← hua11510] at ka11510 ⊢
                rw [← hba11510] at ga11510 ⊢
                have ea11510 : Below wr.heap.size wr ua11510 := ea115.trans (ka11510.below.mono ea115.size)
                have lf8 : wr.heap.size ≤ b8 := by rw [hba11510]; exact ea115.size
                have f9a11510 := f9a115.kept ka11510
                have hne : ¬ b8 = b9 := by have := f9a115.lt; omega
                have hne' : ¬ b9 = b8 := by omega
                have xf8 := hidq (show b8 < lo ∨ hi ≤ b8 from .inr (by rw [hba11510]; exact HZa115.out))
                have HPa11510 := hidq (HPa115.out.below ka11510.below)
                have HZa11510 := hidq (Nat.le_trans HZa115.out ka11510.below.size)
                clear hua11510 hba11510
                refine hK9.out _ _ trivial (HT.out _ ea11510) (fun _ hTa11510 => ?_)
                clear hK9 K
                (try simp only [Act.put, List.getElem_toArray, List.getElem_cons_succ, List.getElem_cons_zero, List.setIfInBounds_toArray, List.set_cons_zero, List.set_cons_succ])
                have d0 := ga11510.c 0 _ rfl
                have d1 := ga11510.c 1 _ rfl
                have d2 := ga11510.c 2 _ rfl
                have d3 := ga11510.c 3 _ rfl
                have fz := ga11510.fz
                have bel4 := st4_below (B := b8) ea11510 lf8 (.int .i64 m) (.int .i64 cc) (.int .i64 nn) (.slice a1 kl p1)
                refine wpAnyT_late (i := 12) (by kernel_rfl) rfl (by kernel_rfl) (fun K hK9 => ?_)
                go_simp
                refine hK9.out _ _ (HT.out _ bel4) (fun hT4 => ?_)
                clear hK9 K
                (try simp only [Act.put, List.getElem_toArray, List.getElem_cons_succ, List.getElem_cons_zero, List.setIfInBounds_toArray, List.set_cons_zero, List.set_cons_succ])
                have h84 := st4 ua11510 b8 _ rfl ga11510 (.int .i64 m) (.int .i64 cc) (.int .i64 nn) (.slice a1 kl p1)
                have h94 := st4_far (B := b8) f9a11510 hne' (.int .i64 m) (.int .i64 cc) (.int .i64 nn) (.slice a1 kl p1)
                have hp4 := hidq (HPa11510.out.far4 xf8.out (.int .i64 m) (.int .i64 cc) (.int .i64 nn) (.slice a1 kl p1))
                have hz4 := hidq (show hi ≤ (st4w ua11510 b8 (.int .i64 m) (.int .i64 cc) (.int .i64 nn) (.slice a1 kl p1)).heap.size from by simpa using HZa11510.out)
                clear d0 d1 d2 d3 fz hT4
                obtain ⟨Y1, hY1⟩ : ∃ Y1, Y1 = st4w ua11510 b8 (.int .i64 m) (.int .i64 cc) (.int .i64 nn) (.slice a1 kl p1) := ⟨_, rfl⟩
                rw [← hY1] at h84 h94 bel4 hp4 hz4
                rw [show (((ua11510.setCell ⟨b8, 0, none⟩ (.int .i64 m)).setCell ⟨b8, 1, none⟩ (.int .i64 cc)).setCell ⟨b8, 2, none⟩ (.int .i64 nn)).setCell ⟨b8, 3, none⟩ (.slice a1 kl p1) = Y1 from hY1.symm]
                clear hY1
                have d0 := h94.c 0 _ rfl
                have d1 := h94.c 1 _ rfl
                have d2 := h94.c 2 _ rfl
                have d3 := h94.c 3 _ rfl
                have fz := h94.fz
                have bel5 := st4_below (B := b9) bel4 lf9 (.int .i64 m) (.int .i64 cc') (.int .i64 nn) (.slice a1' kl' p1')
                refine wpAnyT_late (i := 13) (by kernel_rfl) rfl (by kernel_rfl) (fun K hK9 => ?_)
                go_simp
                refine hK9.out _ _ (HT.out _ bel5) (fun hT5 => ?_)
                clear hK9 K
                (try simp only [Act.put, List.getElem_toArray, List.getElem_cons_succ, List.getElem_cons_zero, List.setIfInBounds_toArray, List.set_cons_zero, List.set_cons_succ])
                have h85 := st4_far (B := b9) h84 hne (.int .i64 m) (.int .i64 cc') (.int .i64 nn) (.slice a1' kl' p1')
                have h95 := st4 Y1 b9 _ rfl h94 (.int .i64 m) (.int .i64 cc') (.int .i64 nn) (.slice a1' kl' p1')
                have hp5 := hidq (hp4.out.far4 xf9.out (.int .i64 m) (.int .i64 cc') (.int .i64 nn) (.slice a1' kl' p1'))
                have hz5 := hidq (show hi ≤ (st4w Y1 b9 (.int .i64 m) (.int .i64 cc') (.int .i64 nn) (.slice a1' kl' p1')).heap.size from by simpa using hz4.out)
                clear d0 d1 d2 d3 fz hT5
                obtain ⟨Y2, hY2⟩ : ∃ Y2, Y2 = st4w Y1 b9 (.int .i64 m) (.int .i64 cc') (.int .i64 nn) (.slice a1' kl' p1') := ⟨_, rfl⟩
                rw [← hY2] at h85 h95 bel5 hp5 hz5
                rw [show (((Y1.setCell ⟨b9, 0, none⟩ (.int .i64 m)).setCell ⟨b9, 1, none⟩ (.int .i64 cc')).setCell ⟨b9, 2, none⟩ (.int .i64 nn)).setCell ⟨b9, 3, none⟩ (.slice a1' kl' p1') = Y2 from hY2.symm]
                clear hY2
                refine wpAnyT_late (i := 14) (by kernel_rfl) rfl (by kernel_rfl) (fun K hK9 => ?_)
                go_simp
                refine hK9.out _ _ (HT.out _ bel5) (fun hT6 => ?_)
                clear hK9 K
                (try simp only [Act.put, List.getElem_toArray, List.getElem_cons_succ, List.getElem_cons_zero, List.setIfInBounds_toArray, List.set_cons_zero, List.set_cons_succ])
                refine wpAnyT_done (by kernel_rfl) ?_ _
                (try simp only [Act.put, List.getElem_toArray, List.getElem_cons_succ, List.getElem_cons_zero, List.setIfInBounds_toArray, List.set_cons_zero, List.set_cons_succ])
                exact HN8.out b8 b9 q m cc cc' nn a1 p1 kl a1' p1' kl' Y2 ⟨lf8, lf9, hne, h85, h95, bel5, lo, hi, HW.out, hz5.out, hp5.out⟩
              · skip
                intro K hK9
                go_simp
                have ga1110 := Bq.new ua11 [.int .i64 0, .int .i64 0, .int .i64 0, .slice none 0 0] 24
                have ka1110 : Kept ua11 (ua11.alloc (.cells #[.int .i64 0, .int .i64 0, .int .i64 0, .slice none 0 0] 24)) := (Kept.refl ua11).alloc _ _
                obtain ⟨ua1110, hua1110⟩ : ∃ u, u = ua11.alloc (.cells #[.int .i64 0, .int .i64 0, .int .i64 0, .slice none 0 0] 24) := ⟨_, rfl⟩
                obtain ⟨b8, hba1110⟩ : ∃ b, b = ua11.heap.size := ⟨_, rfl⟩
                rw [show ua11.alloc (.cells ([.int .i64 0, .int .i64 0, .int .i64 0, .slice none 0 0] : List Value).toArray 24) = ua1110 from hua1110.symm] at ga1110
                rw [← hua1110] at ka1110 ⊢
                rw [← hba1110] at ga1110 ⊢
                have ea1110 : Below wr.heap.size wr ua1110 := ea11.trans (ka1110.below.mono ea11.size)
                have lf8 : wr.heap.size ≤ b8 := by rw [hba1110]; exact ea11.size
                have f9a1110 := ga11.kept ka1110
                have hne : ¬ b8 = b9 := by have := ga11.lt; omega
                have hne' : ¬ b9 = b8 := by omega
                clear hua1110 hba1110
                refine hK9.out _ _ trivial (HT.out _ ea1110) (fun _ hTa1110 => ?_)
                clear hK9 K
                (try simp only [Act.put, List.getElem_toArray, List.getElem_cons_succ, List.getElem_cons_zero, List.setIfInBounds_toArray, List.set_cons_zero, List.set_cons_succ])
                refine wpAnyT_one (i := 5) (by kernel_rfl) rfl ?_
                intro K hK9
                go_simp
                go_wp2_with fail
                refine (KRow.out _ ea1110).mono ?_
                rintro e ua11105 ⟨q, m, cc, cc', nn, a1, p1, kl, a1', p1', kl', lo, hi, rfl, HPa11105, b1, HL⟩
                have ea11105 : Below wr.heap.size wr ua11105 := ea1110.trans (b1.mono ea1110.size)
                have HZa11105 := hidq (show hi ≤ ua11105.heap.size from by have := HL.out; omega)
                have HW := hidq (show wr.heap.size ≤ lo from by have := HL.out; have := ea1110.size; omega)
                have xf8 := hidq (show b8 < lo ∨ hi ≤ b8 from .inl (by have := ga1110.lt; have := HL.out; omega))
                have f8a11105 := bq_below ga1110 b1
                have xf9 := hidq (show b9 < lo ∨ hi ≤ b9 from .inl (by have := f9a1110.lt; have := HL.out; omega))
                have f9a11105 := bq_below f9a1110 b1
                clear HL b1
                refine hK9.out _ _ trivial (HT.out _ ea11105) (fun _ hTa11105 => ?_)
                clear hK9 K
                (try simp only [Act.put, List.getElem_toArray, List.getElem_cons_succ, List.getElem_cons_zero, List.setIfInBounds_toArray, List.set_cons_zero, List.set_cons_succ])
                refine wpAnyT_take2 (i := 6) (v := ?_) rfl (by kernel_rfl) (by kernel_rfl) (by kernel_rfl) (by kernel_rfl) (fun _ _ _ h => h) (Or.inl ⟨by rfl, ?hyza111056⟩) (fun _ => trivial) hTa11105 ?_
                case hyza111056 => (intro w hSw; (try dsimp only at hSw); go_simp; try (with_reducible rfl))
                (try simp only [Act.put, List.getElem_toArray, List.getElem_cons_succ, List.getElem_cons_zero, List.setIfInBounds_toArray, List.set_cons_zero, List.set_cons_succ])
                refine wpAnyT_take2 (i := 7) (v := ?_) rfl (by kernel_rfl) (by kernel_rfl) (by kernel_rfl) (by kernel_rfl) (fun _ _ _ h => h) (Or.inl ⟨by rfl, ?hyza111057⟩) (fun _ => trivial) hTa11105 ?_
                case hyza111057 => (intro w hSw; (try dsimp only at hSw); go_simp; try (with_reducible rfl))
                (try simp only [Act.put, List.getElem_toArray, List.getElem_cons_succ, List.getElem_cons_zero, List.setIfInBounds_toArray, List.set_cons_zero, List.set_cons_succ])
                refine wpAnyT_take2 (i := 8) (v := ?_) rfl (by kernel_rfl) (by kernel_rfl) (by kernel_rfl) (by kernel_rfl) (fun _ _ _ h => h) (Or.inl ⟨by rfl, ?hyza111058⟩) (fun _ => trivial) hTa11105 ?_
                case hyza111058 => (intro w hSw; (try dsimp only at hSw); go_simp; try (with_reducible rfl))
                (try simp only [Act.put, List.getElem_toArray, List.getElem_cons_succ, List.getElem_cons_zero, List.setIfInBounds_toArray, List.set_cons_zero, List.set_cons_succ])
                refine wpAnyT_take2 (i := 9) (v := ?_) rfl (by kernel_rfl) (by kernel_rfl) (by kernel_rfl) (by kernel_rfl) (fun _ _ _ h => h) (Or.inl ⟨by rfl, ?hyza111059⟩) (fun _ => trivial) hTa11105 ?_
                case hyza111059 => (intro w hSw; (try dsimp only at hSw); go_simp; try (with_reducible rfl))
                (try simp only [Act.put, List.getElem_toArray, List.getElem_cons_succ, List.getElem_cons_zero, List.setIfInBounds_toArray, List.set_cons_zero, List.set_cons_succ])
                have d0 := f8a11105.c 0 _ rfl
                have d1 := f8a11105.c 1 _ rfl
                have d2 := f8a11105.c 2 _ rfl
                have d3 := f8a11105.c 3 _ rfl
                have fz := f8a11105.fz
                have bel4 := st4_below (B := b8) ea11105 lf8 (.int .i64 m) (.int .i64 cc) (.int .i64 nn) (.slice a1 kl p1)
                refine wpAnyT_late (i := 12) (by kernel_rfl) rfl (by kernel_rfl) (fun K hK9 => ?_)
                go_simp
                refine hK9.out _ _ (HT.out _ bel4) (fun hT4 => ?_)
                clear hK9 K
                (try simp only [Act.put, List.getElem_toArray, List.getElem_cons_succ, List.getElem_cons_zero, List.setIfInBounds_toArray, List.set_cons_zero, List.set_cons_succ])
                have h84 := st4 ua11105 b8 _ rfl f8a11105 (.int .i64 m) (.int .i64 cc) (.int .i64 nn) (.slice a1 kl p1)
                have h94 := st4_far (B := b8) f9a11105 hne' (.int .i64 m) (.int .i64 cc) (.int .i64 nn) (.slice a1 kl p1)
                have hp4 := hidq (HPa11105.out.far4 xf8.out (.int .i64 m) (.int .i64 cc) (.int .i64 nn) (.slice a1 kl p1))
                have hz4 := hidq (show hi ≤ (st4w ua11105 b8 (.int .i64 m) (.int .i64 cc) (.int .i64 nn) (.slice a1 kl p1)).heap.size from by simpa using HZa11105.out)
                clear d0 d1 d2 d3 fz hT4
                obtain ⟨Y1, hY1⟩ : ∃ Y1, Y1 = st4w ua11105 b8 (.int .i64 m) (.int .i64 cc) (.int .i64 nn) (.slice a1 kl p1) := ⟨_, rfl⟩
                rw [← hY1] at h84 h94 bel4 hp4 hz4
                rw [show (((ua11105.setCell ⟨b8, 0, none⟩ (.int .i64 m)).setCell ⟨b8, 1, none⟩ (.int .i64 cc)).setCell ⟨b8, 2, none⟩ (.int .i64 nn)).setCell ⟨b8, 3, none⟩ (.slice a1 kl p1) = Y1 from hY1.symm]
                clear hY1
                have d0 := h94.c 0 _ rfl
                have d1 := h94.c 1 _ rfl
                have d2 := h94.c 2 _ rfl
                have d3 := h94.c 3 _ rfl
                have fz := h94.fz
                have bel5 := st4_below (B := b9) bel4 lf9 (.int .i64 m) (.int .i64 cc') (.int .i64 nn) (.slice a1' kl' p1')
                refine wpAnyT_late (i := 13) (by kernel_rfl) rfl (by kernel_rfl) (fun K hK9 => ?_)
                go_simp
                refine hK9.out _ _ (HT.out _ bel5) (fun hT5 => ?_)
                clear hK9 K
                (try simp only [Act.put, List.getElem_toArray, List.getElem_cons_succ, List.getElem_cons_zero, List.setIfInBounds_toArray, List.set_cons_zero, List.set_cons_succ])
                have h85 := st4_far (B := b9) h84 hne (.int .i64 m) (.int .i64 cc') (.int .i64 nn) (.slice a1' kl' p1')
                have h95 := st4 Y1 b9 _ rfl h94 (.int .i64 m) (.int .i64 cc') (.int .i64 nn) (.slice a1' kl' p1')
                have hp5 := hidq (hp4.out.far4 xf9.out (.int .i64 m) (.int .i64 cc') (.int .i64 nn) (.slice a1' kl' p1'))
                have hz5 := hidq (show hi ≤ (st4w Y1 b9 (.int .i64 m) (.int .i64 cc') (.int .i64 nn) (.slice a1' kl' p1')).heap.size from by simpa using hz4.out)
                clear d0 d1 d2 d3 fz hT5
                obtain ⟨Y2, hY2⟩ : ∃ Y2, Y2 = st4w Y1 b9 (.int .i64 m) (.int .i64 cc') (.int .i64 nn) (.slice a1' kl' p1') := ⟨_, rfl⟩
                rw [← hY2] at h85 h95 bel5 hp5 hz5
                rw [show (((Y1.setCell ⟨b9, 0, none⟩ (.int .i64 m)).setCell ⟨b9, 1, none⟩ (.int .i64 cc')).setCell ⟨b9, 2, none⟩ (.int .i64 nn)).setCell ⟨b9, 3, none⟩ (.slice a1' kl' p1') = Y2 from hY2.symm]
                clear hY2
                refine wpAnyT_late (i := 14) (by kernel_rfl) rfl (by kernel_rfl) (fun K hK9 => ?_)
                go_simp
                refine hK9.out _ _ (HT.out _ bel5) (fun hT6 => ?_)
                clear hK9 K
                (try simp only [Act.put, List.getElem_toArray, List.getElem_cons_succ, List.getElem_cons_zero, List.setIfInBounds_toArray, List.set_cons_zero, List.set_cons_succ])
                refine wpAnyT_done (by kernel_rfl) ?_ _
                (try simp only [Act.put, List.getElem_toArray, List.getElem_cons_succ, List.getElem_cons_zero, List.setIfInBounds_toArray, List.set_cons_zero, List.set_cons_succ])
                exact HN8.out b8 b9 q m cc cc' nn a1 p1 kl a1' p1' kl' Y2 ⟨lf8, lf9, hne, h85, h95, bel5, lo, hi, HW.out, hz5.out, hp5.out⟩
          case conta =>
            intro b8 b9 q m cc cc' nn a1 p1 kl a1' p1' kl' Z hF8
            have HF8 := hidq hF8
            have HT2 : Hid (∀ u, Below Z.heap.size Z u → u.cell? ⟨w.heap.size, 0, none⟩ = some (.int .i64 r) ∧ u.cell? ⟨w.heap.size, 1, none⟩ = some (.int .i64 c) ∧ u.cell? ⟨w.heap.size, 2, none⟩ = some (.int .i64 n) ∧ u.cell? ⟨w.heap.size, 3, none⟩ = some (.slice a l p) ∧ u.cell? ⟨w.heap.size, 4, none⟩ = some (.int .i64 r') ∧ u.cell? ⟨w.heap.size, 5, none⟩ = some (.int .i64 c') ∧ u.cell? ⟨w.heap.size, 6, none⟩ = some (.int .i64 n') ∧ u.cell? ⟨w.heap.size, 7, none⟩ = some (.slice a' l' p') ∧ u.cell? ⟨jb, jo + t, none⟩ = some (.int .i64 jv)) := fun u k => HTS.out u (HF8.out.2.2.2.2.2.1.trans (k.mono HF8.out.2.2.2.2.2.1.size))
            obtain ⟨PX9, hPX9⟩ : ∃ PX : PXT, PX = fun q m cc cc' nn a1 p1 a1' p1' lo hi K K' => PS r c n L r' c' n' L' [jv] q m cc cc' nn K K' ∧ (a1 = none → p1 = 0) ∧ (a1' = none → p1' = 0) := ⟨_, rfl⟩
            have KRow2 : Hid (∀ u, Below Z.heap.size Z u → Calls Try.prog 9 #[sv8 r c n (.slice a l p) r' c' n' (.slice a' l' p'), .int .i64 jv] u fun e w' => ∃ (q2 m2 cd cd' nd : Int) (a2 : Option Addr) (p2 k2 : Nat) (a2' : Option Addr) (p2' k2' : Nat) (lo hi : Nat), e = .returned (.tuple #[.agg #[.int .i64 m2, .int .i64 cd, .int .i64 nd, .slice a2 k2 p2], .agg #[.int .i64 m2, .int .i64 cd', .int .i64 nd, .slice a2' k2' p2'], .int .i64 q2]) ∧ Hid (AG (PX9 q2 m2 cd cd' nd a2 p2 a2' p2' lo hi) lo hi w' a2 p2 k2 a2' p2' k2') ∧ Below u.heap.size u w' ∧ Hid (lo = u.heap.size ∧ hi = w'.heap.size)) := fun u k => by
              have kw := HQ.out.2.2.trans ((HF8.out.2.2.2.2.2.1.trans (k.mono HF8.out.2.2.2.2.2.1.size)).mono HQ.out.2.2.size)
              have := rrow_any r c n a p L r' c' n' a' p' L' hg hg' jv u (sl_below (hll.symm ▸ HXX.out.1) kw) (sl_below (hll'.symm ▸ HXX.out.2) kw)
              rw [hll, hll'] at this
              refine this.mono fun e w' ⟨⟨q, m, cc, cc', nn, a1, p1, K, a1', p1', K', h1, h2, h3⟩, h4⟩ => ⟨q, m, cc, cc', nn, a1, p1, _, a1', p1', _, _, _, h1, hidq ?_, h4.below, hidq ⟨rfl, rfl⟩⟩
              rw [hPX9]
              exact h3.ag (X := fun K K' => PS r c n L r' c' n' L' [jv] q m cc cc' nn K K' ∧ (a1 = none → p1 = 0) ∧ (a1' = none → p1' = 0)) ⟨h2, h3.2.2.1, h3.2.2.2.1⟩
            have HPX9 := hidq hPX9
            clear hF8 hPX9 HT HTS KRow
            go_upto_region 9 with fail
            refine wp_region_lateT [12, 13, 14] (fun _ => True) (fun u => u.cell? ⟨w.heap.size, 0, none⟩ = some (.int .i64 r) ∧ u.cell? ⟨w.heap.size, 1, none⟩ = some (.int .i64 c) ∧ u.cell? ⟨w.heap.size, 2, none⟩ = some (.int .i64 n) ∧ u.cell? ⟨w.heap.size, 3, none⟩ = some (.slice a l p) ∧ u.cell? ⟨w.heap.size, 4, none⟩ = some (.int .i64 r') ∧ u.cell? ⟨w.heap.size, 5, none⟩ = some (.int .i64 c') ∧ u.cell? ⟨w.heap.size, 6, none⟩ = some (.int .i64 n') ∧ u.cell? ⟨w.heap.size, 7, none⟩ = some (.slice a' l' p') ∧ u.cell? ⟨jb, jo + t, none⟩ = some (.int .i64 jv)) (by kernel_rfl) trivial (HT2.out _ (Kept.refl Z).drew.below) (fun _ hHeld => ?_)
            refine wpAnyT_take2 (i := 0) (v := ?_) rfl (by kernel_rfl) (by kernel_rfl) (by kernel_rfl) (by kernel_rfl) (fun _ _ _ h => h) (Or.inl ⟨by rfl, ?hyb0⟩) (fun _ => trivial) hHeld ?_
            case hyb0 => (intro w hSw; (try dsimp only at hSw); go_simp; try (with_reducible rfl))
            (try simp only [Act.put, List.getElem_toArray, List.getElem_cons_succ, List.getElem_cons_zero, List.setIfInBounds_toArray, List.set_cons_zero, List.set_cons_succ])
            refine wpAnyT_take2 (i := 1) (v := ?_) rfl (by kernel_rfl) (by kernel_rfl) (by kernel_rfl) (by kernel_rfl) (fun _ _ _ h => h) (Or.inl ⟨by rfl, ?hyb1⟩) (fun _ => trivial) hHeld ?_
            case hyb1 => (intro w hSw; (try dsimp only at hSw); go_simp; try (with_reducible rfl))
            (try simp only [Act.put, List.getElem_toArray, List.getElem_cons_succ, List.getElem_cons_zero, List.setIfInBounds_toArray, List.set_cons_zero, List.set_cons_succ])
            refine wpAnyT_take2 (i := 2) (v := ?_) rfl (by kernel_rfl) (by kernel_rfl) (by kernel_rfl) (by kernel_rfl) (fun _ _ _ h => h) (Or.inl ⟨by rfl, ?hyb2⟩) (fun _ => trivial) hHeld ?_
            case hyb2 => (intro w hSw; (try dsimp only at hSw); go_simp; try (with_reducible rfl))
            (try simp only [Act.put, List.getElem_toArray, List.getElem_cons_succ, List.getElem_cons_zero, List.setIfInBounds_toArray, List.set_cons_zero, List.set_cons_succ])
            refine wpAnyT_take2 (i := 3) (v := ?_) rfl (by kernel_rfl) (by kernel_rfl) (by kernel_rfl) (by kernel_rfl) (fun _ _ _ h => h) (Or.inl ⟨by rfl, ?hyb3⟩) (fun _ => trivial) hHeld ?_
            case hyb3 => (intro w hSw; (try dsimp only at hSw); go_simp; try (with_reducible rfl))
            (try simp only [Act.put, List.getElem_toArray, List.getElem_cons_succ, List.getElem_cons_zero, List.setIfInBounds_toArray, List.set_cons_zero, List.set_cons_succ])
            refine wpAnyT_take2 (i := 4) (v := ?_) rfl (by kernel_rfl) (by kernel_rfl) (by kernel_rfl) (by kernel_rfl) (fun _ _ _ h => h) (Or.inl ⟨by rfl, ?hyb4⟩) (fun _ => trivial) hHeld ?_
            case hyb4 => (intro w hSw; (try dsimp only at hSw); go_simp; try (with_reducible rfl))
            (try simp only [Act.put, List.getElem_toArray, List.getElem_cons_succ, List.getElem_cons_zero, List.setIfInBounds_toArray, List.set_cons_zero, List.set_cons_succ])
            obtain ⟨Y0, hY0⟩ : ∃ Y0, Y0 = Z.drew := ⟨_, rfl⟩
            have e0 : Below Z.heap.size Z Y0 := by rw [hY0]; exact (Kept.refl Z).drew.below
            rw [← hY0] at hHeld ⊢
            clear hY0
            refine via2 (TB2 PX9 Z) ?Fb (fun HN9 => ?treeb) ?contb
            case treeb =>
              refine wpAnyT_three (i := 5) (j := 10) (m := 11) (by kernel_rfl) rfl rfl rfl ?_ ?_ ?_
              · skip
                intro K hK9
                go_simp
                go_wp2_with fail
                refine (KRow2.out _ e0).mono ?_
                rintro e ub5 ⟨q2, m2, cd, cd', nd, a2, p2, k2, a2', p2', k2', lo, hi, rfl, HPb5, b1, HL⟩
                have eb5 : Below Z.heap.size Z ub5 := e0.trans (b1.mono e0.size)
                have HZb5 := hidq (show hi ≤ ub5.heap.size from by have := HL.out; omega)
                have HW := hidq (show Z.heap.size ≤ lo from by have := HL.out; have := e0.size; omega)
                clear HL b1
                refine hK9.out _ _ trivial (HT2.out _ eb5) (fun _ hTb5 => ?_)
                clear hK9 K
                (try simp only [Act.put, List.getElem_toArray, List.getElem_cons_succ, List.getElem_cons_zero, List.setIfInBounds_toArray, List.set_cons_zero, List.set_cons_succ])
                refine wpAnyT_take2 (i := 6) (v := ?_) rfl (by kernel_rfl) (by kernel_rfl) (by kernel_rfl) (by kernel_rfl) (fun _ _ _ h => h) (Or.inl ⟨by rfl, ?hyzb56⟩) (fun _ => trivial) hTb5 ?_
                case hyzb56 => (intro w hSw; (try dsimp only at hSw); go_simp; try (with_reducible rfl))
                (try simp only [Act.put, List.getElem_toArray, List.getElem_cons_succ, List.getElem_cons_zero, List.setIfInBounds_toArray, List.set_cons_zero, List.set_cons_succ])
                refine wpAnyT_take2 (i := 7) (v := ?_) rfl (by kernel_rfl) (by kernel_rfl) (by kernel_rfl) (by kernel_rfl) (fun _ _ _ h => h) (Or.inl ⟨by rfl, ?hyzb57⟩) (fun _ => trivial) hTb5 ?_
                case hyzb57 => (intro w hSw; (try dsimp only at hSw); go_simp; try (with_reducible rfl))
                (try simp only [Act.put, List.getElem_toArray, List.getElem_cons_succ, List.getElem_cons_zero, List.setIfInBounds_toArray, List.set_cons_zero, List.set_cons_succ])
                refine wpAnyT_take2 (i := 8) (v := ?_) rfl (by kernel_rfl) (by kernel_rfl) (by kernel_rfl) (by kernel_rfl) (fun _ _ _ h => h) (Or.inl ⟨by rfl, ?hyzb58⟩) (fun _ => trivial) hTb5 ?_
                case hyzb58 => (intro w hSw; (try dsimp only at hSw); go_simp; try (with_reducible rfl))
                (try simp only [Act.put, List.getElem_toArray, List.getElem_cons_succ, List.getElem_cons_zero, List.setIfInBounds_toArray, List.set_cons_zero, List.set_cons_succ])
                refine wpAnyT_take2 (i := 9) (v := ?_) rfl (by kernel_rfl) (by kernel_rfl) (by kernel_rfl) (by kernel_rfl) (fun _ _ _ h => h) (Or.inl ⟨by rfl, ?hyzb59⟩) (fun _ => trivial) hTb5 ?_
                case hyzb59 => (intro w hSw; (try dsimp only at hSw); go_simp; try (with_reducible rfl))
                (try simp only [Act.put, List.getElem_toArray, List.getElem_cons_succ, List.getElem_cons_zero, List.setIfInBounds_toArray, List.set_cons_zero, List.set_cons_succ])
                refine wpAnyT_two (i := 10) (j := 11) (by kernel_rfl) rfl rfl ?_ ?_
                · skip
                  intro K hK9
                  go_simp
                  have gb510 := Bq.new ub5 [.int .i64 0, .int .i64 0, .int .i64 0, .slice none 0 0] 24
                  have kb510 : Kept ub5 (ub5.alloc (.cells #[.int .i64 0, .int .i64 0, .int .i64 0, .slice none 0 0] 24)) := (Kept.refl ub5).alloc _ _
                  obtain ⟨ub510, hub510⟩ : ∃ u, u = ub5.alloc (.cells #[.int .i64 0, .int .i64 0, .int .i64 0, .slice none 0 0] 24) := ⟨_, rfl⟩
                  obtain ⟨bc, hbb510⟩ : ∃ b, b = ub5.heap.size := ⟨_, rfl⟩
                  rw [show ub5.alloc (.cells ([.int .i64 0, .int .i64 0, .int .i64 0, .slice none 0 0] : List Value).toArray 24) = ub510 from hub510.symm] at gb510
                  rw [← hub510] at kb510 ⊢
                  rw [← hbb510] at gb510 ⊢
                  have eb510 : Below Z.heap.size Z ub510 := eb5.trans (kb510.below.mono eb5.size)
                  have lf8 : Z.heap.size ≤ bc := by rw [hbb510]; exact eb5.size
                  have xf8 := hidq (show bc < lo ∨ hi ≤ bc from .inr (by rw [hbb510]; exact HZb5.out))
                  have HPb510 := hidq (HPb5.out.below kb510.below)
                  have HZb510 := hidq (Nat.le_trans HZb5.out kb510.below.size)
                  clear hub510 hbb510
                  refine hK9.out _ _ trivial (HT2.out _ eb510) (fun _ hTb510 => ?_)
                  clear hK9 K
                  (try simp only [Act.put, List.getElem_toArray, List.getElem_cons_succ, List.getElem_cons_zero, List.setIfInBounds_toArray, List.set_cons_zero, List.set_cons_succ])
                  refine wpAnyT_one (i := 11) (by kernel_rfl) rfl ?_
                  intro K hK9
                  go_simp
                  have gb51011 := Bq.new ub510 [.int .i64 0, .int .i64 0, .int .i64 0, .slice none 0 0] 24
                  have kb51011 : Kept ub510 (ub510.alloc (.cells #[.int .i64 0, .int .i64 0, .int .i64 0, .slice none 0 0] 24)) := (Kept.refl ub510).alloc _ _
                  obtain ⟨ub51011, hub51011⟩ : ∃ u, u = ub510.alloc (.cells #[.int .i64 0, .int .i64 0, .int .i64 0, .slice none 0 0] 24) := ⟨_, rfl⟩
                  obtain ⟨bd, hbb51011⟩ : ∃ b, b = ub510.heap.size := ⟨_, rfl⟩
                  rw [show ub510.alloc (.cells ([.int .i64 0, .int .i64 0, .int .i64 0, .slice none 0 0] : List Value).toArray 24) = ub51011 from hub51011.symm] at gb51011
                  rw [← hub51011] at kb51011 ⊢
                  rw [← hbb51011] at gb51011 ⊢
                  have eb51011 : Below Z.heap.size Z ub51011 := eb510.trans (kb51011.below.mono eb510.size)
                  have lf9 : Z.heap.size ≤ bd := by rw [hbb51011]; exact eb510.size
                  have f8b51011 := gb510.kept kb51011
                  have hne : ¬ bc = bd := by have := gb510.lt; omega
                  have hne' : ¬ bd = bc := by omega
                  have xf9 := hidq (show bd < lo ∨ hi ≤ bd from .inr (by rw [hbb51011]; exact HZb510.out))
                  have HPb51011 := hidq (HPb510.out.below kb51011.below)
                  have HZb51011 := hidq (Nat.le_trans HZb510.out kb51011.below.size)
                  clear hub51011 hbb51011
                  refine hK9.out _ _ trivial (HT2.out _ eb51011) (fun _ hTb51011 => ?_)
                  clear hK9 K
                  (try simp only [Act.put, List.getElem_toArray, List.getElem_cons_succ, List.getElem_cons_zero, List.setIfInBounds_toArray, List.set_cons_zero, List.set_cons_succ])
                  have d0 := f8b51011.c 0 _ rfl
                  have d1 := f8b51011.c 1 _ rfl
                  have d2 := f8b51011.c 2 _ rfl
                  have d3 := f8b51011.c 3 _ rfl
                  have fz := f8b51011.fz
                  have bel4 := st4_below (B := bc) eb51011 lf8 (.int .i64 m2) (.int .i64 cd) (.int .i64 nd) (.slice a2 k2 p2)
                  refine wpAnyT_late (i := 12) (by kernel_rfl) rfl (by kernel_rfl) (fun K hK9 => ?_)
                  go_simp
                  refine hK9.out _ _ (HT2.out _ bel4) (fun hT4 => ?_)
                  clear hK9 K
                  (try simp only [Act.put, List.getElem_toArray, List.getElem_cons_succ, List.getElem_cons_zero, List.setIfInBounds_toArray, List.set_cons_zero, List.set_cons_succ])
                  have h84 := st4 ub51011 bc _ rfl f8b51011 (.int .i64 m2) (.int .i64 cd) (.int .i64 nd) (.slice a2 k2 p2)
                  have h94 := st4_far (B := bc) gb51011 hne' (.int .i64 m2) (.int .i64 cd) (.int .i64 nd) (.slice a2 k2 p2)
                  have hp4 := hidq (HPb51011.out.far4 xf8.out (.int .i64 m2) (.int .i64 cd) (.int .i64 nd) (.slice a2 k2 p2))
                  have hz4 := hidq (show hi ≤ (st4w ub51011 bc (.int .i64 m2) (.int .i64 cd) (.int .i64 nd) (.slice a2 k2 p2)).heap.size from by simpa using HZb51011.out)
                  clear d0 d1 d2 d3 fz hT4
                  obtain ⟨Y1, hY1⟩ : ∃ Y1, Y1 = st4w ub51011 bc (.int .i64 m2) (.int .i64 cd) (.int .i64 nd) (.slice a2 k2 p2) := ⟨_, rfl⟩
                  rw [← hY1] at h84 h94 bel4 hp4 hz4
                  rw [show (((ub51011.setCell ⟨bc, 0, none⟩ (.int .i64 m2)).setCell ⟨bc, 1, none⟩ (.int .i64 cd)).setCell ⟨bc, 2, none⟩ (.int .i64 nd)).setCell ⟨bc, 3, none⟩ (.slice a2 k2 p2) = Y1 from hY1.symm]
                  clear hY1
                  have d0 := h94.c 0 _ rfl
                  have d1 := h94.c 1 _ rfl
                  have d2 := h94.c 2 _ rfl
                  have d3 := h94.c 3 _ rfl
                  have fz := h94.fz
                  have bel5 := st4_below (B := bd) bel4 lf9 (.int .i64 m2) (.int .i64 cd') (.int .i64 nd) (.slice a2' k2' p2')
                  refine wpAnyT_late (i := 13) (by kernel_rfl) rfl (by kernel_rfl) (fun K hK9 => ?_)
                  go_simp
                  refine hK9.out _ _ (HT2.out _ bel5) (fun hT5 => ?_)
                  clear hK9 K
                  (try simp only [Act.put, List.getElem_toArray, List.getElem_cons_succ, List.getElem_cons_zero, List.setIfInBounds_toArray, List.set_cons_zero, List.set_cons_succ])
                  have h85 := st4_far (B := bd) h84 hne (.int .i64 m2) (.int .i64 cd') (.int .i64 nd) (.slice a2' k2' p2')
                  have h95 := st4 Y1 bd _ rfl h94 (.int .i64 m2) (.int .i64 cd') (.int .i64 nd) (.slice a2' k2' p2')
                  have hp5 := hidq (hp4.out.far4 xf9.out (.int .i64 m2) (.int .i64 cd') (.int .i64 nd) (.slice a2' k2' p2'))
                  have hz5 := hidq (show hi ≤ (st4w Y1 bd (.int .i64 m2) (.int .i64 cd') (.int .i64 nd) (.slice a2' k2' p2')).heap.size from by simpa using hz4.out)
                  clear d0 d1 d2 d3 fz hT5
                  obtain ⟨Y2, hY2⟩ : ∃ Y2, Y2 = st4w Y1 bd (.int .i64 m2) (.int .i64 cd') (.int .i64 nd) (.slice a2' k2' p2') := ⟨_, rfl⟩
                  rw [← hY2] at h85 h95 bel5 hp5 hz5
                  rw [show (((Y1.setCell ⟨bd, 0, none⟩ (.int .i64 m2)).setCell ⟨bd, 1, none⟩ (.int .i64 cd')).setCell ⟨bd, 2, none⟩ (.int .i64 nd)).setCell ⟨bd, 3, none⟩ (.slice a2' k2' p2') = Y2 from hY2.symm]
                  clear hY2
                  refine wpAnyT_late (i := 14) (by kernel_rfl) rfl (by kernel_rfl) (fun K hK9 => ?_)
                  go_simp
                  refine hK9.out _ _ (HT2.out _ bel5) (fun hT6 => ?_)
                  clear hK9 K
                  (try simp only [Act.put, List.getElem_toArray, List.getElem_cons_succ, List.getElem_cons_zero, List.setIfInBounds_toArray, List.set_cons_zero, List.set_cons_succ])
                  refine wpAnyT_done (by kernel_rfl) ?_ _
                  (try simp only [Act.put, List.getElem_toArray, List.getElem_cons_succ, List.getElem_cons_zero, List.setIfInBounds_toArray, List.set_cons_zero, List.set_cons_succ])
                  exact HN9.out bc bd q2 m2 cd cd' nd a2 p2 k2 a2' p2' k2' Y2 ⟨lf8, lf9, hne, h85, h95, bel5, lo, hi, HW.out, hz5.out, hp5.out⟩
                · skip
                  intro K hK9
                  go_simp
                  have gb511 := Bq.new ub5 [.int .i64 0, .int .i64 0, .int .i64 0, .slice none 0 0] 24
                  have kb511 : Kept ub5 (ub5.alloc (.cells #[.int .i64 0, .int .i64 0, .int .i64 0, .slice none 0 0] 24)) := (Kept.refl ub5).alloc _ _
                  obtain ⟨ub511, hub511⟩ : ∃ u, u = ub5.alloc (.cells #[.int .i64 0, .int .i64 0, .int .i64 0, .slice none 0 0] 24) := ⟨_, rfl⟩
                  obtain ⟨bd, hbb511⟩ : ∃ b, b = ub5.heap.size := ⟨_, rfl⟩
                  rw [show ub5.alloc (.cells ([.int .i64 0, .int .i64 0, .int .i64 0, .slice none 0 0] : List Value).toArray 24) = ub511 from hub511.symm] at gb511
                  rw [← hub511] at kb511 ⊢
                  rw [← hbb511] at gb511 ⊢
                  have eb511 : Below Z.heap.size Z ub511 := eb5.trans (kb511.below.mono eb5.size)
                  have lf9 : Z.heap.size ≤ bd := by rw [hbb511]; exact eb5.size
                  have xf9 := hidq (show bd < lo ∨ hi ≤ bd from .inr (by rw [hbb511]; exact HZb5.out))
                  have HPb511 := hidq (HPb5.out.below kb511.below)
                  have HZb511 := hidq (Nat.le_trans HZb5.out kb511.below.size)
                  clear hub511 hbb511
                  refine hK9.out _ _ trivial (HT2.out _ eb511) (fun _ hTb511 => ?_)
                  clear hK9 K
                  (try simp only [Act.put, List.getElem_toArray, List.getElem_cons_succ, List.getElem_cons_zero, List.setIfInBounds_toArray, List.set_cons_zero, List.set_cons_succ])
                  refine wpAnyT_one (i := 10) (by kernel_rfl) rfl ?_
                  intro K hK9
                  go_simp
                  have gb51110 := Bq.new ub511 [.int .i64 0, .int .i64 0, .int .i64 0, .slice none 0 0] 24
                  have kb51110 : Kept ub511 (ub511.alloc (.cells #[.int .i64 0, .int .i64 0, .int .i64 0, .slice none 0 0] 24)) := (Kept.refl ub511).alloc _ _
                  obtain ⟨ub51110, hub51110⟩ : ∃ u, u = ub511.alloc (.cells #[.int .i64 0, .int .i64 0, .int .i64 0, .slice none 0 0] 24) := ⟨_, rfl⟩
                  obtain ⟨bc, hbb51110⟩ : ∃ b, b = ub511.heap.size := ⟨_, rfl⟩
                  rw [show ub511.alloc (.cells ([.int .i64 0, .int .i64 0, .int .i64 0, .slice none 0 0] : List Value).toArray 24) = ub51110 from hub51110.symm] at gb51110
                  rw [← hub51110] at kb51110 ⊢
                  rw [← hbb51110] at gb51110 ⊢
                  have eb51110 : Below Z.heap.size Z ub51110 := eb511.trans (kb51110.below.mono eb511.size)
                  have lf8 : Z.heap.size ≤ bc := by rw [hbb51110]; exact eb511.size
                  have f9b51110 := gb511.kept kb51110
                  have hne : ¬ bc = bd := by have := gb511.lt; omega
                  have hne' : ¬ bd = bc := by omega
                  have xf8 := hidq (show bc < lo ∨ hi ≤ bc from .inr (by rw [hbb51110]; exact HZb511.out))
                  have HPb51110 := hidq (HPb511.out.below kb51110.below)
                  have HZb51110 := hidq (Nat.le_trans HZb511.out kb51110.below.size)
                  clear hub51110 hbb51110
                  refine hK9.out _ _ trivial (HT2.out _ eb51110) (fun _ hTb51110 => ?_)
                  clear hK9 K
                  (try simp only [Act.put, List.getElem_toArray, List.getElem_cons_succ, List.getElem_cons_zero, List.setIfInBounds_toArray, List.set_cons_zero, List.set_cons_succ])
                  have d0 := gb51110.c 0 _ rfl
                  have d1 := gb51110.c 1 _ rfl
                  have d2 := gb51110.c 2 _ rfl
                  have d3 := gb51110.c 3 _ rfl
                  have fz := gb51110.fz
                  have bel4 := st4_below (B := bc) eb51110 lf8 (.int .i64 m2) (.int .i64 cd) (.int .i64 nd) (.slice a2 k2 p2)
                  refine wpAnyT_late (i := 12) (by kernel_rfl) rfl (by kernel_rfl) (fun K hK9 => ?_)
                  go_simp
                  refine hK9.out _ _ (HT2.out _ bel4) (fun hT4 => ?_)
                  clear hK9 K
                  (try simp only [Act.put, List.getElem_toArray, List.getElem_cons_succ, List.getElem_cons_zero, List.setIfInBounds_toArray, List.set_cons_zero, List.set_cons_succ])
                  have h84 := st4 ub51110 bc _ rfl gb51110 (.int .i64 m2) (.int .i64 cd) (.int .i64 nd) (.slice a2 k2 p2)
                  have h94 := st4_far (B := bc) f9b51110 hne' (.int .i64 m2) (.int .i64 cd) (.int .i64 nd) (.slice a2 k2 p2)
                  have hp4 := hidq (HPb51110.out.far4 xf8.out (.int .i64 m2) (.int .i64 cd) (.int .i64 nd) (.slice a2 k2 p2))
                  have hz4 := hidq (show hi ≤ (st4w ub51110 bc (.int .i64 m2) (.int .i64 cd) (.int .i64 nd) (.slice a2 k2 p2)).heap.size from by simpa using HZb51110.out)
                  clear d0 d1 d2 d3 fz hT4
                  obtain ⟨Y1, hY1⟩ : ∃ Y1, Y1 = st4w ub51110 bc (.int .i64 m2) (.int .i64 cd) (.int .i64 nd) (.slice a2 k2 p2) := ⟨_, rfl⟩
                  rw [← hY1] at h84 h94 bel4 hp4 hz4
                  rw [show (((ub51110.setCell ⟨bc, 0, none⟩ (.int .i64 m2)).setCell ⟨bc, 1, none⟩ (.int .i64 cd)).setCell ⟨bc, 2, none⟩ (.int .i64 nd)).setCell ⟨bc, 3, none⟩ (.slice a2 k2 p2) = Y1 from hY1.symm]
                  clear hY1
                  have d0 := h94.c 0 _ rfl
                  have d1 := h94.c 1 _ rfl
                  have d2 := h94.c 2 _ rfl
                  have d3 := h94.c 3 _ rfl
                  have fz := h94.fz
                  have bel5 := st4_below (B := bd) bel4 lf9 (.int .i64 m2) (.int .i64 cd') (.int .i64 nd) (.slice a2' k2' p2')
                  refine wpAnyT_late (i := 13) (by kernel_rfl) rfl (by kernel_rfl) (fun K hK9 => ?_)
                  go_simp
                  refine hK9.out _ _ (HT2.out _ bel5) (fun hT5 => ?_)
                  clear hK9 K
                  (try simp only [Act.put, List.getElem_toArray, List.getElem_cons_succ, List.getElem_cons_zero, List.setIfInBounds_toArray, List.set_cons_zero, List.set_cons_succ])
                  have h85 := st4_far (B := bd) h84 hne (.int .i64 m2) (.int .i64 cd') (.int .i64 nd) (.slice a2' k2' p2')
                  have h95 := st4 Y1 bd _ rfl h94 (.int .i64 m2) (.int .i64 cd') (.int .i64 nd) (.slice a2' k2' p2')
                  have hp5 := hidq (hp4.out.far4 xf9.out (.int .i64 m2) (.int .i64 cd') (.int .i64 nd) (.slice a2' k2' p2'))
                  have hz5 := hidq (show hi ≤ (st4w Y1 bd (.int .i64 m2) (.int .i64 cd') (.int .i64 nd) (.slice a2' k2' p2')).heap.size from by simpa using hz4.out)
                  clear d0 d1 d2 d3 fz hT5
                  obtain ⟨Y2, hY2⟩ : ∃ Y2, Y2 = st4w Y1 bd (.int .i64 m2) (.int .i64 cd') (.int .i64 nd) (.slice a2' k2' p2') := ⟨_, rfl⟩
                  rw [← hY2] at h85 h95 bel5 hp5 hz5
                  rw [show (((Y1.setCell ⟨bd, 0, none⟩ (.int .i64 m2)).setCell ⟨bd, 1, none⟩ (.int .i64 cd')).setCell ⟨bd, 2, none⟩ (.int .i64 nd)).setCell ⟨bd, 3, none⟩ (.slice a2' k2' p2') = Y2 from hY2.symm]
                  clear hY2
                  refine wpAnyT_late (i := 14) (by kernel_rfl) rfl (by kernel_rfl) (fun K hK9 => ?_)
                  go_simp
                  refine hK9.out _ _ (HT2.out _ bel5) (fun hT6 => ?_)
                  clear hK9 K
                  (try simp only [Act.put, List.getElem_toArray, List.getElem_cons_succ, List.getElem_cons_zero, List.setIfInBounds_toArray, List.set_cons_zero, List.set_cons_succ])
                  refine wpAnyT_done (by kernel_rfl) ?_ _
                  (try simp only [Act.put, List.getElem_toArray, List.getElem_cons_succ, List.getElem_cons_zero, List.setIfInBounds_toArray, List.set_cons_zero, List.set_cons_succ])
                  exact HN9.out bc bd q2 m2 cd cd' nd a2 p2 k2 a2' p2' k2' Y2 ⟨lf8, lf9, hne, h85, h95, bel5, lo, hi, HW.out, hz5.out, hp5.out⟩
              · skip
                intro K hK9
                go_simp
                have gb10 := Bq.new Y0 [.int .i64 0, .int .i64 0, .int .i64 0, .slice none 0 0] 24
                have kb10 : Kept Y0 (Y0.alloc (.cells #[.int .i64 0, .int .i64 0, .int .i64 0, .slice none 0 0] 24)) := (Kept.refl Y0).alloc _ _
                obtain ⟨ub10, hub10⟩ : ∃ u, u = Y0.alloc (.cells #[.int .i64 0, .int .i64 0, .int .i64 0, .slice none 0 0] 24) := ⟨_, rfl⟩
                obtain ⟨bc, hbb10⟩ : ∃ b, b = Y0.heap.size := ⟨_, rfl⟩
                rw [show Y0.alloc (.cells ([.int .i64 0, .int .i64 0, .int .i64 0, .slice none 0 0] : List Value).toArray 24) = ub10 from hub10.symm] at gb10
                rw [← hub10] at kb10 ⊢
                rw [← hbb10] at gb10 ⊢
                have eb10 : Below Z.heap.size Z ub10 := e0.trans (kb10.below.mono e0.size)
                have lf8 : Z.heap.size ≤ bc := by rw [hbb10]; exact e0.size
                clear hub10 hbb10
                refine hK9.out _ _ trivial (HT2.out _ eb10) (fun _ hTb10 => ?_)
                clear hK9 K
                (try simp only [Act.put, List.getElem_toArray, List.getElem_cons_succ, List.getElem_cons_zero, List.setIfInBounds_toArray, List.set_cons_zero, List.set_cons_succ])
                refine wpAnyT_two (i := 5) (j := 11) (by kernel_rfl) rfl rfl ?_ ?_
                · skip
                  intro K hK9
                  go_simp
                  go_wp2_with fail
                  refine (KRow2.out _ eb10).mono ?_
                  rintro e ub105 ⟨q2, m2, cd, cd', nd, a2, p2, k2, a2', p2', k2', lo, hi, rfl, HPb105, b1, HL⟩
                  have eb105 : Below Z.heap.size Z ub105 := eb10.trans (b1.mono eb10.size)
                  have HZb105 := hidq (show hi ≤ ub105.heap.size from by have := HL.out; omega)
                  have HW := hidq (show Z.heap.size ≤ lo from by have := HL.out; have := eb10.size; omega)
                  have xf8 := hidq (show bc < lo ∨ hi ≤ bc from .inl (by have := gb10.lt; have := HL.out; omega))
                  have f8b105 := bq_below gb10 b1
                  clear HL b1
                  refine hK9.out _ _ trivial (HT2.out _ eb105) (fun _ hTb105 => ?_)
                  clear hK9 K
                  (try simp only [Act.put, List.getElem_toArray, List.getElem_cons_succ, List.getElem_cons_zero, List.setIfInBounds_toArray, List.set_cons_zero, List.set_cons_succ])
                  refine wpAnyT_take2 (i := 6) (v := ?_) rfl (by kernel_rfl) (by kernel_rfl) (by kernel_rfl) (by kernel_rfl) (fun _ _ _ h => h) (Or.inl ⟨by rfl, ?hyzb1056⟩) (fun _ => trivial) hTb105 ?_
                  case hyzb1056 => (intro w hSw; (try dsimp only at hSw); go_simp; try (with_reducible rfl))
                  (try simp only [Act.put, List.getElem_toArray, List.getElem_cons_succ, List.getElem_cons_zero, List.setIfInBounds_toArray, List.set_cons_zero, List.set_cons_succ])
                  refine wpAnyT_take2 (i := 7) (v := ?_) rfl (by kernel_rfl) (by kernel_rfl) (by kernel_rfl) (by kernel_rfl) (fun _ _ _ h => h) (Or.inl ⟨by rfl, ?hyzb1057⟩) (fun _ => trivial) hTb105 ?_
                  case hyzb1057 => (intro w hSw; (try dsimp only at hSw); go_simp; try (with_reducible rfl))
                  (try simp only [Act.put, List.getElem_toArray, List.getElem_cons_succ, List.getElem_cons_zero, List.setIfInBounds_toArray, List.set_cons_zero, List.set_cons_succ])
                  refine wpAnyT_take2 (i := 8) (v := ?_) rfl (by kernel_rfl) (by kernel_rfl) (by kernel_rfl) (by kernel_rfl) (fun _ _ _ h => h) (Or.inl ⟨by rfl, ?hyzb1058⟩) (fun _ => trivial) hTb105 ?_
                  case hyzb1058 => (intro w hSw; (try dsimp only at hSw); go_simp; try (with_reducible rfl))
                  (try simp only [Act.put, List.getElem_toArray, List.getElem_cons_succ, List.getElem_cons_zero, List.setIfInBounds_toArray, List.set_cons_zero, List.set_cons_succ])
                  refine wpAnyT_take2 (i := 9) (v := ?_) rfl (by kernel_rfl) (by kernel_rfl) (by kernel_rfl) (by kernel_rfl) (fun _ _ _ h => h) (Or.inl ⟨by rfl, ?hyzb1059⟩) (fun _ => trivial) hTb105 ?_
                  case hyzb1059 => (intro w hSw; (try dsimp only at hSw); go_simp; try (with_reducible rfl))
                  (try simp only [Act.put, List.getElem_toArray, List.getElem_cons_succ, List.getElem_cons_zero, List.setIfInBounds_toArray, List.set_cons_zero, List.set_cons_succ])
                  refine wpAnyT_one (i := 11) (by kernel_rfl) rfl ?_
                  intro K hK9
                  go_simp
                  have gb10511 := Bq.new ub105 [.int .i64 0, .int .i64 0, .int .i64 0, .slice none 0 0] 24
                  have kb10511 : Kept ub105 (ub105.alloc (.cells #[.int .i64 0, .int .i64 0, .int .i64 0, .slice none 0 0] 24)) := (Kept.refl ub105).alloc _ _
                  obtain ⟨ub10511, hub10511⟩ : ∃ u, u = ub105.alloc (.cells #[.int .i64 0, .int .i64 0, .int .i64 0, .slice none 0 0] 24) := ⟨_, rfl⟩
                  obtain ⟨bd, hbb10511⟩ : ∃ b, b = ub105.heap.size := ⟨_, rfl⟩
                  rw [show ub105.alloc (.cells ([.int .i64 0, .int .i64 0, .int .i64 0, .slice none 0 0] : List Value).toArray 24) = ub10511 from hub10511.symm] at gb10511
                  rw [← hub10511] at kb10511 ⊢
                  rw [← hbb10511] at gb10511 ⊢
                  have eb10511 : Below Z.heap.size Z ub10511 := eb105.trans (kb10511.below.mono eb105.size)
                  have lf9 : Z.heap.size ≤ bd := by rw [hbb10511]; exact eb105.size
                  have f8b10511 := f8b105.kept kb10511
                  have hne : ¬ bc = bd := by have := f8b105.lt; omega
                  have hne' : ¬ bd = bc := by omega
                  have xf9 := hidq (show bd < lo ∨ hi ≤ bd from .inr (by rw [hbb10511]; exact HZb105.out))
                  have HPb10511 := hidq (HPb105.out.below kb10511.below)
                  have HZb10511 := hidq (Nat.le_trans HZb105.out kb10511.below.size)
                  clear hub10511 hbb10511
                  refine hK9.out _ _ trivial (HT2.out _ eb10511) (fun _ hTb10511 => ?_)
                  clear hK9 K
                  (try simp only [Act.put, List.getElem_toArray, List.getElem_cons_succ, List.getElem_cons_zero, List.setIfInBounds_toArray, List.set_cons_zero, List.set_cons_succ])
                  have d0 := f8b10511.c 0 _ rfl
                  have d1 := f8b10511.c 1 _ rfl
                  have d2 := f8b10511.c 2 _ rfl
                  have d3 := f8b10511.c 3 _ rfl
                  have fz := f8b10511.fz
                  have bel4 := st4_below (B := bc) eb10511 lf8 (.int .i64 m2) (.int .i64 cd) (.int .i64 nd) (.slice a2 k2 p2)
                  refine wpAnyT_late (i := 12) (by kernel_rfl) rfl (by kernel_rfl) (fun K hK9 => ?_)
                  go_simp
                  refine hK9.out _ _ (HT2.out _ bel4) (fun hT4 => ?_)
                  clear hK9 K
                  (try simp only [Act.put, List.getElem_toArray, List.getElem_cons_succ, List.getElem_cons_zero, List.setIfInBounds_toArray, List.set_cons_zero, List.set_cons_succ])
                  have h84 := st4 ub10511 bc _ rfl f8b10511 (.int .i64 m2) (.int .i64 cd) (.int .i64 nd) (.slice a2 k2 p2)
                  have h94 := st4_far (B := bc) gb10511 hne' (.int .i64 m2) (.int .i64 cd) (.int .i64 nd) (.slice a2 k2 p2)
                  have hp4 := hidq (HPb10511.out.far4 xf8.out (.int .i64 m2) (.int .i64 cd) (.int .i64 nd) (.slice a2 k2 p2))
                  have hz4 := hidq (show hi ≤ (st4w ub10511 bc (.int .i64 m2) (.int .i64 cd) (.int .i64 nd) (.slice a2 k2 p2)).heap.size from by simpa using HZb10511.out)
                  clear d0 d1 d2 d3 fz hT4
                  obtain ⟨Y1, hY1⟩ : ∃ Y1, Y1 = st4w ub10511 bc (.int .i64 m2) (.int .i64 cd) (.int .i64 nd) (.slice a2 k2 p2) := ⟨_, rfl⟩
                  rw [← hY1] at h84 h94 bel4 hp4 hz4
                  rw [show (((ub10511.setCell ⟨bc, 0, none⟩ (.int .i64 m2)).setCell ⟨bc, 1, none⟩ (.int .i64 cd)).setCell ⟨bc, 2, none⟩ (.int .i64 nd)).setCell ⟨bc, 3, none⟩ (.slice a2 k2 p2) = Y1 from hY1.symm]
                  clear hY1
                  have d0 := h94.c 0 _ rfl
                  have d1 := h94.c 1 _ rfl
                  have d2 := h94.c 2 _ rfl
                  have d3 := h94.c 3 _ rfl
                  have fz := h94.fz
                  have bel5 := st4_below (B := bd) bel4 lf9 (.int .i64 m2) (.int .i64 cd') (.int .i64 nd) (.slice a2' k2' p2')
                  refine wpAnyT_late (i := 13) (by kernel_rfl) rfl (by kernel_rfl) (fun K hK9 => ?_)
                  go_simp
                  refine hK9.out _ _ (HT2.out _ bel5) (fun hT5 => ?_)
                  clear hK9 K
                  (try simp only [Act.put, List.getElem_toArray, List.getElem_cons_succ, List.getElem_cons_zero, List.setIfInBounds_toArray, List.set_cons_zero, List.set_cons_succ])
                  have h85 := st4_far (B := bd) h84 hne (.int .i64 m2) (.int .i64 cd') (.int .i64 nd) (.slice a2' k2' p2')
                  have h95 := st4 Y1 bd _ rfl h94 (.int .i64 m2) (.int .i64 cd') (.int .i64 nd) (.slice a2' k2' p2')
                  have hp5 := hidq (hp4.out.far4 xf9.out (.int .i64 m2) (.int .i64 cd') (.int .i64 nd) (.slice a2' k2' p2'))
                  have hz5 := hidq (show hi ≤ (st4w Y1 bd (.int .i64 m2) (.int .i64 cd') (.int .i64 nd) (.slice a2' k2' p2')).heap.size from by simpa using hz4.out)
                  clear d0 d1 d2 d3 fz hT5
                  obtain ⟨Y2, hY2⟩ : ∃ Y2, Y2 = st4w Y1 bd (.int .i64 m2) (.int .i64 cd') (.int .i64 nd) (.slice a2' k2' p2') := ⟨_, rfl⟩
                  rw [← hY2] at h85 h95 bel5 hp5 hz5
                  rw [show (((Y1.setCell ⟨bd, 0, none⟩ (.int .i64 m2)).setCell ⟨bd, 1, none⟩ (.int .i64 cd')).setCell ⟨bd, 2, none⟩ (.int .i64 nd)).setCell ⟨bd, 3, none⟩ (.slice a2' k2' p2') = Y2 from hY2.symm]
                  clear hY2
                  refine wpAnyT_late (i := 14) (by kernel_rfl) rfl (by kernel_rfl) (fun K hK9 => ?_)
                  go_simp
                  refine hK9.out _ _ (HT2.out _ bel5) (fun hT6 => ?_)
                  clear hK9 K
                  (try simp only [Act.put, List.getElem_toArray, List.getElem_cons_succ, List.getElem_cons_zero, List.setIfInBounds_toArray, List.set_cons_zero, List.set_cons_succ])
                  refine wpAnyT_done (by kernel_rfl) ?_ _
                  (try simp only [Act.put, List.getElem_toArray, List.getElem_cons_succ, List.getElem_cons_zero, List.setIfInBounds_toArray, List.set_cons_zero, List.set_cons_succ])
                  exact HN9.out bc bd q2 m2 cd cd' nd a2 p2 k2 a2' p2' k2' Y2 ⟨lf8, lf9, hne, h85, h95, bel5, lo, hi, HW.out, hz5.out, hp5.out⟩
                · skip
                  intro K hK9
                  go_simp
                  have gb1011 := Bq.new ub10 [.int .i64 0, .int .i64 0, .int .i64 0, .slice none 0 0] 24
                  have kb1011 : Kept ub10 (ub10.alloc (.cells #[.int .i64 0, .int .i64 0, .int .i64 0, .slice none 0 0] 24)) := (Kept.refl ub10).alloc _ _
                  obtain ⟨ub1011, hub1011⟩ : ∃ u, u = ub10.alloc (.cells #[.int .i64 0, .int .i64 0, .int .i64 0, .slice none 0 0] 24) := ⟨_, rfl⟩
                  obtain ⟨bd, hbb1011⟩ : ∃ b, b = ub10.heap.size := ⟨_, rfl⟩
                  rw [show ub10.alloc (.cells ([.int .i64 0, .int .i64 0, .int .i64 0, .slice none 0 0] : List Value).toArray 24) = ub1011 from hub1011.symm] at gb1011
                  rw [← hub1011] at kb1011 ⊢
                  rw [← hbb1011] at gb1011 ⊢
                  have eb1011 : Below Z.heap.size Z ub1011 := eb10.trans (kb1011.below.mono eb10.size)
                  have lf9 : Z.heap.size ≤ bd := by rw [hbb1011]; exact eb10.size
                  have f8b1011 := gb10.kept kb1011
                  have hne : ¬ bc = bd := by have := gb10.lt; omega
                  have hne' : ¬ bd = bc := by omega
                  clear hub1011 hbb1011
                  refine hK9.out _ _ trivial (HT2.out _ eb1011) (fun _ hTb1011 => ?_)
                  clear hK9 K
                  (try simp only [Act.put, List.getElem_toArray, List.getElem_cons_succ, List.getElem_cons_zero, List.setIfInBounds_toArray, List.set_cons_zero, List.set_cons_succ])
                  refine wpAnyT_one (i := 5) (by kernel_rfl) rfl ?_
                  intro K hK9
                  go_simp
                  go_wp2_with fail
                  refine (KRow2.out _ eb1011).mono ?_
                  rintro e ub10115 ⟨q2, m2, cd, cd', nd, a2, p2, k2, a2', p2', k2', lo, hi, rfl, HPb10115, b1, HL⟩
                  have eb10115 : Below Z.heap.size Z ub10115 := eb1011.trans (b1.mono eb1011.size)
                  have HZb10115 := hidq (show hi ≤ ub10115.heap.size from by have := HL.out; omega)
                  have HW := hidq (show Z.heap.size ≤ lo from by have := HL.out; have := eb1011.size; omega)
                  have xf8 := hidq (show bc < lo ∨ hi ≤ bc from .inl (by have := f8b1011.lt; have := HL.out; omega))
                  have f8b10115 := bq_below f8b1011 b1
                  have xf9 := hidq (show bd < lo ∨ hi ≤ bd from .inl (by have := gb1011.lt; have := HL.out; omega))
                  have f9b10115 := bq_below gb1011 b1
                  clear HL b1
                  refine hK9.out _ _ trivial (HT2.out _ eb10115) (fun _ hTb10115 => ?_)
                  clear hK9 K
                  (try simp only [Act.put, List.getElem_toArray, List.getElem_cons_succ, List.getElem_cons_zero, List.setIfInBounds_toArray, List.set_cons_zero, List.set_cons_succ])
                  refine wpAnyT_take2 (i := 6) (v := ?_) rfl (by kernel_rfl) (by kernel_rfl) (by kernel_rfl) (by kernel_rfl) (fun _ _ _ h => h) (Or.inl ⟨by rfl, ?hyzb101156⟩) (fun _ => trivial) hTb10115 ?_
                  case hyzb101156 => (intro w hSw; (try dsimp only at hSw); go_simp; try (with_reducible rfl))
                  (try simp only [Act.put, List.getElem_toArray, List.getElem_cons_succ, List.getElem_cons_zero, List.setIfInBounds_toArray, List.set_cons_zero, List.set_cons_succ])
                  refine wpAnyT_take2 (i := 7) (v := ?_) rfl (by kernel_rfl) (by kernel_rfl) (by kernel_rfl) (by kernel_rfl) (fun _ _ _ h => h) (Or.inl ⟨by rfl, ?hyzb101157⟩) (fun _ => trivial) hTb10115 ?_
                  case hyzb101157 => (intro w hSw; (try dsimp only at hSw); go_simp; try (with_reducible rfl))
                  (try simp only [Act.put, List.getElem_toArray, List.getElem_cons_succ, List.getElem_cons_zero, List.setIfInBounds_toArray, List.set_cons_zero, List.set_cons_succ])
                  refine wpAnyT_take2 (i := 8) (v := ?_) rfl (by kernel_rfl) (by kernel_rfl) (by kernel_rfl) (by kernel_rfl) (fun _ _ _ h => h) (Or.inl ⟨by rfl, ?hyzb101158⟩) (fun _ => trivial) hTb10115 ?_
                  case hyzb101158 => (intro w hSw; (try dsimp only at hSw); go_simp; try (with_reducible rfl))
                  (try simp only [Act.put, List.getElem_toArray, List.getElem_cons_succ, List.getElem_cons_zero, List.setIfInBounds_toArray, List.set_cons_zero, List.set_cons_succ])
                  refine wpAnyT_take2 (i := 9) (v := ?_) rfl (by kernel_rfl) (by kernel_rfl) (by kernel_rfl) (by kernel_rfl) (fun _ _ _ h => h) (Or.inl ⟨by rfl, ?hyzb101159⟩) (fun _ => trivial) hTb10115 ?_
                  case hyzb101159 => (intro w hSw; (try dsimp only at hSw); go_simp; try (with_reducible rfl))
                  (try simp only [Act.put, List.getElem_toArray, List.getElem_cons_succ, List.getElem_cons_zero, List.setIfInBounds_toArray, List.set_cons_zero, List.set_cons_succ])
                  have d0 := f8b10115.c 0 _ rfl
                  have d1 := f8b10115.c 1 _ rfl
                  have d2 := f8b10115.c 2 _ rfl
                  have d3 := f8b10115.c 3 _ rfl
                  have fz := f8b10115.fz
                  have bel4 := st4_below (B := bc) eb10115 lf8 (.int .i64 m2) (.int .i64 cd) (.int .i64 nd) (.slice a2 k2 p2)
                  refine wpAnyT_late (i := 12) (by kernel_rfl) rfl (by kernel_rfl) (fun K hK9 => ?_)
                  go_simp
                  refine hK9.out _ _ (HT2.out _ bel4) (fun hT4 => ?_)
                  clear hK9 K
                  (try simp only [Act.put, List.getElem_toArray, List.getElem_cons_succ, List.getElem_cons_zero, List.setIfInBounds_toArray, List.set_cons_zero, List.set_cons_succ])
                  have h84 := st4 ub10115 bc _ rfl f8b10115 (.int .i64 m2) (.int .i64 cd) (.int .i64 nd) (.slice a2 k2 p2)
                  have h94 := st4_far (B := bc) f9b10115 hne' (.int .i64 m2) (.int .i64 cd) (.int .i64 nd) (.slice a2 k2 p2)
                  have hp4 := hidq (HPb10115.out.far4 xf8.out (.int .i64 m2) (.int .i64 cd) (.int .i64 nd) (.slice a2 k2 p2))
                  have hz4 := hidq (show hi ≤ (st4w ub10115 bc (.int .i64 m2) (.int .i64 cd) (.int .i64 nd) (.slice a2 k2 p2)).heap.size from by simpa using HZb10115.out)
                  clear d0 d1 d2 d3 fz hT4
                  obtain ⟨Y1, hY1⟩ : ∃ Y1, Y1 = st4w ub10115 bc (.int .i64 m2) (.int .i64 cd) (.int .i64 nd) (.slice a2 k2 p2) := ⟨_, rfl⟩
                  rw [← hY1] at h84 h94 bel4 hp4 hz4
                  rw [show (((ub10115.setCell ⟨bc, 0, none⟩ (.int .i64 m2)).setCell ⟨bc, 1, none⟩ (.int .i64 cd)).setCell ⟨bc, 2, none⟩ (.int .i64 nd)).setCell ⟨bc, 3, none⟩ (.slice a2 k2 p2) = Y1 from hY1.symm]
                  clear hY1
                  have d0 := h94.c 0 _ rfl
                  have d1 := h94.c 1 _ rfl
                  have d2 := h94.c 2 _ rfl
                  have d3 := h94.c 3 _ rfl
                  have fz := h94.fz
                  have bel5 := st4_below (B := bd) bel4 lf9 (.int .i64 m2) (.int .i64 cd') (.int .i64 nd) (.slice a2' k2' p2')
                  refine wpAnyT_late (i := 13) (by kernel_rfl) rfl (by kernel_rfl) (fun K hK9 => ?_)
                  go_simp
                  refine hK9.out _ _ (HT2.out _ bel5) (fun hT5 => ?_)
                  clear hK9 K
                  (try simp only [Act.put, List.getElem_toArray, List.getElem_cons_succ, List.getElem_cons_zero, List.setIfInBounds_toArray, List.set_cons_zero, List.set_cons_succ])
                  have h85 := st4_far (B := bd) h84 hne (.int .i64 m2) (.int .i64 cd') (.int .i64 nd) (.slice a2' k2' p2')
                  have h95 := st4 Y1 bd _ rfl h94 (.int .i64 m2) (.int .i64 cd') (.int .i64 nd) (.slice a2' k2' p2')
                  have hp5 := hidq (hp4.out.far4 xf9.out (.int .i64 m2) (.int .i64 cd') (.int .i64 nd) (.slice a2' k2' p2'))
                  have hz5 := hidq (show hi ≤ (st4w Y1 bd (.int .i64 m2) (.int .i64 cd') (.int .i64 nd) (.slice a2' k2' p2')).heap.size from by simpa using hz4.out)
                  clear d0 d1 d2 d3 fz hT5
                  obtain ⟨Y2, hY2⟩ : ∃ Y2, Y2 = st4w Y1 bd (.int .i64 m2) (.int .i64 cd') (.int .i64 nd) (.slice a2' k2' p2') := ⟨_, rfl⟩
                  rw [← hY2] at h85 h95 bel5 hp5 hz5
                  rw [show (((Y1.setCell ⟨bd, 0, none⟩ (.int .i64 m2)).setCell ⟨bd, 1, none⟩ (.int .i64 cd')).setCell ⟨bd, 2, none⟩ (.int .i64 nd)).setCell ⟨bd, 3, none⟩ (.slice a2' k2' p2') = Y2 from hY2.symm]
                  clear hY2
                  refine wpAnyT_late (i := 14) (by kernel_rfl) rfl (by kernel_rfl) (fun K hK9 => ?_)
                  go_simp
                  refine hK9.out _ _ (HT2.out _ bel5) (fun hT6 => ?_)
                  clear hK9 K
                  (try simp only [Act.put, List.getElem_toArray, List.getElem_cons_succ, List.getElem_cons_zero, List.setIfInBounds_toArray, List.set_cons_zero, List.set_cons_succ])
                  refine wpAnyT_done (by kernel_rfl) ?_ _
                  (try simp only [Act.put, List.getElem_toArray, List.getElem_cons_succ, List.getElem_cons_zero, List.setIfInBounds_toArray, List.set_cons_zero, List.set_cons_succ])
                  exact HN9.out bc bd q2 m2 cd cd' nd a2 p2 k2 a2' p2' k2' Y2 ⟨lf8, lf9, hne, h85, h95, bel5, lo, hi, HW.out, hz5.out, hp5.out⟩
              · skip
                intro K hK9
                go_simp
                have gb11 := Bq.new Y0 [.int .i64 0, .int .i64 0, .int .i64 0, .slice none 0 0] 24
                have kb11 : Kept Y0 (Y0.alloc (.cells #[.int .i64 0, .int .i64 0, .int .i64 0, .slice none 0 0] 24)) := (Kept.refl Y0).alloc _ _
                obtain ⟨ub11, hub11⟩ : ∃ u, u = Y0.alloc (.cells #[.int .i64 0, .int .i64 0, .int .i64 0, .slice none 0 0] 24) := ⟨_, rfl⟩
                obtain ⟨bd, hbb11⟩ : ∃ b, b = Y0.heap.size := ⟨_, rfl⟩
                rw [show Y0.alloc (.cells ([.int .i64 0, .int .i64 0, .int .i64 0, .slice none 0 0] : List Value).toArray 24) = ub11 from hub11.symm] at gb11
                rw [← hub11] at kb11 ⊢
                rw [← hbb11] at gb11 ⊢
                have eb11 : Below Z.heap.size Z ub11 := e0.trans (kb11.below.mono e0.size)
                have lf9 : Z.heap.size ≤ bd := by rw [hbb11]; exact e0.size
                clear hub11 hbb11
                refine hK9.out _ _ trivial (HT2.out _ eb11) (fun _ hTb11 => ?_)
                clear hK9 K
                (try simp only [Act.put, List.getElem_toArray, List.getElem_cons_succ, List.getElem_cons_zero, List.setIfInBounds_toArray, List.set_cons_zero, List.set_cons_succ])
                refine wpAnyT_two (i := 5) (j := 10) (by kernel_rfl) rfl rfl ?_ ?_
                · skip
                  intro K hK9
                  go_simp
                  go_wp2_with fail
                  refine (KRow2.out _ eb11).mono ?_
                  rintro e ub115 ⟨q2, m2, cd, cd', nd, a2, p2, k2, a2', p2', k2', lo, hi, rfl, HPb115, b1, HL⟩
                  have eb115 : Below Z.heap.size Z ub115 := eb11.trans (b1.mono eb11.size)
                  have HZb115 := hidq (show hi ≤ ub115.heap.size from by have := HL.out; omega)
                  have HW := hidq (show Z.heap.size ≤ lo from by have := HL.out; have := eb11.size; omega)
                  have xf9 := hidq (show bd < lo ∨ hi ≤ bd from .inl (by have := gb11.lt; have := HL.out; omega))
                  have f9b115 := bq_below gb11 b1
                  clear HL b1
                  refine hK9.out _ _ trivial (HT2.out _ eb115) (fun _ hTb115 => ?_)
                  clear hK9 K
                  (try simp only [Act.put, List.getElem_toArray, List.getElem_cons_succ, List.getElem_cons_zero, List.setIfInBounds_toArray, List.set_cons_zero, List.set_cons_succ])
                  refine wpAnyT_take2 (i := 6) (v := ?_) rfl (by kernel_rfl) (by kernel_rfl) (by kernel_rfl) (by kernel_rfl) (fun _ _ _ h => h) (Or.inl ⟨by rfl, ?hyzb1156⟩) (fun _ => trivial) hTb115 ?_
                  case hyzb1156 => (intro w hSw; (try dsimp only at hSw); go_simp; try (with_reducible rfl))
                  (try simp only [Act.put, List.getElem_toArray, List.getElem_cons_succ, List.getElem_cons_zero, List.setIfInBounds_toArray, List.set_cons_zero, List.set_cons_succ])
                  refine wpAnyT_take2 (i := 7) (v := ?_) rfl (by kernel_rfl) (by kernel_rfl) (by kernel_rfl) (by kernel_rfl) (fun _ _ _ h => h) (Or.inl ⟨by rfl, ?hyzb1157⟩) (fun _ => trivial) hTb115 ?_
                  case hyzb1157 => (intro w hSw; (try dsimp only at hSw); go_simp; try (with_reducible rfl))
                  (try simp only [Act.put, List.getElem_toArray, List.getElem_cons_succ, List.getElem_cons_zero, List.setIfInBounds_toArray, List.set_cons_zero, List.set_cons_succ])
                  refine wpAnyT_take2 (i := 8) (v := ?_) rfl (by kernel_rfl) (by kernel_rfl) (by kernel_rfl) (by kernel_rfl) (fun _ _ _ h => h) (Or.inl ⟨by rfl, ?hyzb1158⟩) (fun _ => trivial) hTb115 ?_
                  case hyzb1158 => (intro w hSw; (try dsimp only at hSw); go_simp; try (with_reducible rfl))
                  (try simp only [Act.put, List.getElem_toArray, List.getElem_cons_succ, List.getElem_cons_zero, List.setIfInBounds_toArray, List.set_cons_zero, List.set_cons_succ])
                  refine wpAnyT_take2 (i := 9) (v := ?_) rfl (by kernel_rfl) (by kernel_rfl) (by kernel_rfl) (by kernel_rfl) (fun _ _ _ h => h) (Or.inl ⟨by rfl, ?hyzb1159⟩) (fun _ => trivial) hTb115 ?_
                  case hyzb1159 => (intro w hSw; (try dsimp only at hSw); go_simp; try (with_reducible rfl))
                  (try simp only [Act.put, List.getElem_toArray, List.getElem_cons_succ, List.getElem_cons_zero, List.setIfInBounds_toArray, List.set_cons_zero, List.set_cons_succ])
                  refine wpAnyT_one (i := 10) (by kernel_rfl) rfl ?_
                  intro K hK9
                  go_simp
                  have gb11510 := Bq.new ub115 [.int .i64 0, .int .i64 0, .int .i64 0, .slice none 0 0] 24
                  have kb11510 : Kept ub115 (ub115.alloc (.cells #[.int .i64 0, .int .i64 0, .int .i64 0, .slice none 0 0] 24)) := (Kept.refl ub115).alloc _ _
                  obtain ⟨ub11510, hub11510⟩ : ∃ u, u = ub115.alloc (.cells #[.int .i64 0, .int .i64 0, .int .i64 0, .slice none 0 0] 24) := ⟨_, rfl⟩
                  obtain ⟨bc, hbb11510⟩ : ∃ b, b = ub115.heap.size := ⟨_, rfl⟩
                  rw [show ub115.alloc (.cells ([.int .i64 0, .int .i64 0, .int .i64 0, .slice none 0 0] : List Value).toArray 24) = ub11510 from hub11510.symm] at gb11510
                  rw [← hub11510] at kb11510 ⊢
                  rw [← hbb11510] at gb11510 ⊢
                  have eb11510 : Below Z.heap.size Z ub11510 := eb115.trans (kb11510.below.mono eb115.size)
                  have lf8 : Z.heap.size ≤ bc := by rw [hbb11510]; exact eb115.size
                  have f9b11510 := f9b115.kept kb11510
                  have hne : ¬ bc = bd := by have := f9b115.lt; omega
                  have hne' : ¬ bd = bc := by omega
                  have xf8 := hidq (show bc < lo ∨ hi ≤ bc from .inr (by rw [hbb11510]; exact HZb115.out))
                  have HPb11510 := hidq (HPb115.out.below kb11510.below)
                  have HZb11510 := hidq (Nat.le_trans HZb115.out kb11510.below.size)
                  clear hub11510 hbb11510
                  refine hK9.out _ _ trivial (HT2.out _ eb11510) (fun _ hTb11510 => ?_)
                  clear hK9 K
                  (try simp only [Act.put, List.getElem_toArray, List.getElem_cons_succ, List.getElem_cons_zero, List.setIfInBounds_toArray, List.set_cons_zero, List.set_cons_succ])
                  have d0 := gb11510.c 0 _ rfl
                  have d1 := gb11510.c 1 _ rfl
                  have d2 := gb11510.c 2 _ rfl
                  have d3 := gb11510.c 3 _ rfl
                  have fz := gb11510.fz
                  have bel4 := st4_below (B := bc) eb11510 lf8 (.int .i64 m2) (.int .i64 cd) (.int .i64 nd) (.slice a2 k2 p2)
                  refine wpAnyT_late (i := 12) (by kernel_rfl) rfl (by kernel_rfl) (fun K hK9 => ?_)
                  go_simp
                  refine hK9.out _ _ (HT2.out _ bel4) (fun hT4 => ?_)
                  clear hK9 K
                  (try simp only [Act.put, List.getElem_toArray, List.getElem_cons_succ, List.getElem_cons_zero, List.setIfInBounds_toArray, List.set_cons_zero, List.set_cons_succ])
                  have h84 := st4 ub11510 bc _ rfl gb11510 (.int .i64 m2) (.int .i64 cd) (.int .i64 nd) (.slice a2 k2 p2)
                  have h94 := st4_far (B := bc) f9b11510 hne' (.int .i64 m2) (.int .i64 cd) (.int .i64 nd) (.slice a2 k2 p2)
                  have hp4 := hidq (HPb11510.out.far4 xf8.out (.int .i64 m2) (.int .i64 cd) (.int .i64 nd) (.slice a2 k2 p2))
                  have hz4 := hidq (show hi ≤ (st4w ub11510 bc (.int .i64 m2) (.int .i64 cd) (.int .i64 nd) (.slice a2 k2 p2)).heap.size from by simpa using HZb11510.out)
                  clear d0 d1 d2 d3 fz hT4
                  obtain ⟨Y1, hY1⟩ : ∃ Y1, Y1 = st4w ub11510 bc (.int .i64 m2) (.int .i64 cd) (.int .i64 nd) (.slice a2 k2 p2) := ⟨_, rfl⟩
                  rw [← hY1] at h84 h94 bel4 hp4 hz4
                  rw [show (((ub11510.setCell ⟨bc, 0, none⟩ (.int .i64 m2)).setCell ⟨bc, 1, none⟩ (.int .i64 cd)).setCell ⟨bc, 2, none⟩ (.int .i64 nd)).setCell ⟨bc, 3, none⟩ (.slice a2 k2 p2) = Y1 from hY1.symm]
                  clear hY1
                  have d0 := h94.c 0 _ rfl
                  have d1 := h94.c 1 _ rfl
                  have d2 := h94.c 2 _ rfl
                  have d3 := h94.c 3 _ rfl
                  have fz := h94.fz
                  have bel5 := st4_below (B := bd) bel4 lf9 (.int .i64 m2) (.int .i64 cd') (.int .i64 nd) (.slice a2' k2' p2')
                  refine wpAnyT_late (i := 13) (by kernel_rfl) rfl (by kernel_rfl) (fun K hK9 => ?_)
                  go_simp
                  refine hK9.out _ _ (HT2.out _ bel5) (fun hT5 => ?_)
                  clear hK9 K
                  (try simp only [Act.put, List.getElem_toArray, List.getElem_cons_succ, List.getElem_cons_zero, List.setIfInBounds_toArray, List.set_cons_zero, List.set_cons_succ])
                  have h85 := st4_far (B := bd) h84 hne (.int .i64 m2) (.int .i64 cd') (.int .i64 nd) (.slice a2' k2' p2')
                  have h95 := st4 Y1 bd _ rfl h94 (.int .i64 m2) (.int .i64 cd') (.int .i64 nd) (.slice a2' k2' p2')
                  have hp5 := hidq (hp4.out.far4 xf9.out (.int .i64 m2) (.int .i64 cd') (.int .i64 nd) (.slice a2' k2' p2'))
                  have hz5 := hidq (show hi ≤ (st4w Y1 bd (.int .i64 m2) (.int .i64 cd') (.int .i64 nd) (.slice a2' k2' p2')).heap.size from by simpa using hz4.out)
                  clear d0 d1 d2 d3 fz hT5
                  obtain ⟨Y2, hY2⟩ : ∃ Y2, Y2 = st4w Y1 bd (.int .i64 m2) (.int .i64 cd') (.int .i64 nd) (.slice a2' k2' p2') := ⟨_, rfl⟩
                  rw [← hY2] at h85 h95 bel5 hp5 hz5
                  rw [show (((Y1.setCell ⟨bd, 0, none⟩ (.int .i64 m2)).setCell ⟨bd, 1, none⟩ (.int .i64 cd')).setCell ⟨bd, 2, none⟩ (.int .i64 nd)).setCell ⟨bd, 3, none⟩ (.slice a2' k2' p2') = Y2 from hY2.symm]
                  clear hY2
                  refine wpAnyT_late (i := 14) (by kernel_rfl) rfl (by kernel_rfl) (fun K hK9 => ?_)
                  go_simp
                  refine hK9.out _ _ (HT2.out _ bel5) (fun hT6 => ?_)
                  clear hK9 K
                  (try simp only [Act.put, List.getElem_toArray, List.getElem_cons_succ, List.getElem_cons_zero, List.setIfInBounds_toArray, List.set_cons_zero, List.set_cons_succ])
                  refine wpAnyT_done (by kernel_rfl) ?_ _
                  (try simp only [Act.put, List.getElem_toArray, List.getElem_cons_succ, List.getElem_cons_zero, List.setIfInBounds_toArray, List.set_cons_zero, List.set_cons_succ])
                  exact HN9.out bc bd q2 m2 cd cd' nd a2 p2 k2 a2' p2' k2' Y2 ⟨lf8, lf9, hne, h85, h95, bel5, lo, hi, HW.out, hz5.out, hp5.out⟩
                · skip
                  intro K hK9
                  go_simp
                  have gb1110 := Bq.new ub11 [.int .i64 0, .int .i64 0, .int .i64 0, .slice none 0 0] 24
                  have kb1110 : Kept ub11 (ub11.alloc (.cells #[.int .i64 0, .int .i64 0, .int .i64 0, .slice none 0 0] 24)) := (Kept.refl ub11).alloc _ _
                  obtain ⟨ub1110, hub1110⟩ : ∃ u, u = ub11.alloc (.cells #[.int .i64 0, .int .i64 0, .int .i64 0, .slice none 0 0] 24) := ⟨_, rfl⟩
                  obtain ⟨bc, hbb1110⟩ : ∃ b, b = ub11.heap.size := ⟨_, rfl⟩
                  rw [show ub11.alloc (.cells ([.int .i64 0, .int .i64 0, .int .i64 0, .slice none 0 0] : List Value).toArray 24) = ub1110 from hub1110.symm] at gb1110
                  rw [← hub1110] at kb1110 ⊢
                  rw [← hbb1110] at gb1110 ⊢
                  have eb1110 : Below Z.heap.size Z ub1110 := eb11.trans (kb1110.below.mono eb11.size)
                  have lf8 : Z.heap.size ≤ bc := by rw [hbb1110]; exact eb11.size
                  have f9b1110 := gb11.kept kb1110
                  have hne : ¬ bc = bd := by have := gb11.lt; omega
                  have hne' : ¬ bd = bc := by omega
                  clear hub1110 hbb1110
                  refine hK9.out _ _ trivial (HT2.out _ eb1110) (fun _ hTb1110 => ?_)
                  clear hK9 K
                  (try simp only [Act.put, List.getElem_toArray, List.getElem_cons_succ, List.getElem_cons_zero, List.setIfInBounds_toArray, List.set_cons_zero, List.set_cons_succ])
                  refine wpAnyT_one (i := 5) (by kernel_rfl) rfl ?_
                  intro K hK9
                  go_simp
                  go_wp2_with fail
                  refine (KRow2.out _ eb1110).mono ?_
                  rintro e ub11105 ⟨q2, m2, cd, cd', nd, a2, p2, k2, a2', p2', k2', lo, hi, rfl, HPb11105, b1, HL⟩
                  have eb11105 : Below Z.heap.size Z ub11105 := eb1110.trans (b1.mono eb1110.size)
                  have HZb11105 := hidq (show hi ≤ ub11105.heap.size from by have := HL.out; omega)
                  have HW := hidq (show Z.heap.size ≤ lo from by have := HL.out; have := eb1110.size; omega)
                  have xf8 := hidq (show bc < lo ∨ hi ≤ bc from .inl (by have := gb1110.lt; have := HL.out; omega))
                  have f8b11105 := bq_below gb1110 b1
                  have xf9 := hidq (show bd < lo ∨ hi ≤ bd from .inl (by have := f9b1110.lt; have := HL.out; omega))
                  have f9b11105 := bq_below f9b1110 b1
                  clear HL b1
                  refine hK9.out _ _ trivial (HT2.out _ eb11105) (fun _ hTb11105 => ?_)
                  clear hK9 K
                  (try simp only [Act.put, List.getElem_toArray, List.getElem_cons_succ, List.getElem_cons_zero, List.setIfInBounds_toArray, List.set_cons_zero, List.set_cons_succ])
                  refine wpAnyT_take2 (i := 6) (v := ?_) rfl (by kernel_rfl) (by kernel_rfl) (by kernel_rfl) (by kernel_rfl) (fun _ _ _ h => h) (Or.inl ⟨by rfl, ?hyzb111056⟩) (fun _ => trivial) hTb11105 ?_
                  case hyzb111056 => (intro w hSw; (try dsimp only at hSw); go_simp; try (with_reducible rfl))
                  (try simp only [Act.put, List.getElem_toArray, List.getElem_cons_succ, List.getElem_cons_zero, List.setIfInBounds_toArray, List.set_cons_zero, List.set_cons_succ])
                  refine wpAnyT_take2 (i := 7) (v := ?_) rfl (by kernel_rfl) (by kernel_rfl) (by kernel_rfl) (by kernel_rfl) (fun _ _ _ h => h) (Or.inl ⟨by rfl, ?hyzb111057⟩) (fun _ => trivial) hTb11105 ?_
                  case hyzb111057 => (intro w hSw; (try dsimp only at hSw); go_simp; try (with_reducible rfl))
                  (try simp only [Act.put, List.getElem_toArray, List.getElem_cons_succ, List.getElem_cons_zero, List.setIfInBounds_toArray, List.set_cons_zero, List.set_cons_succ])
                  refine wpAnyT_take2 (i := 8) (v := ?_) rfl (by kernel_rfl) (by kernel_rfl) (by kernel_rfl) (by kernel_rfl) (fun _ _ _ h => h) (Or.inl ⟨by rfl, ?hyzb111058⟩) (fun _ => trivial) hTb11105 ?_
                  case hyzb111058 => (intro w hSw; (try dsimp only at hSw); go_simp; try (with_reducible rfl))
                  (try simp only [Act.put, List.getElem_toArray, List.getElem_cons_succ, List.getElem_cons_zero, List.setIfInBounds_toArray, List.set_cons_zero, List.set_cons_succ])
                  refine wpAnyT_take2 (i := 9) (v := ?_) rfl (by kernel_rfl) (by kernel_rfl) (by kernel_rfl) (by kernel_rfl) (fun _ _ _ h => h) (Or.inl ⟨by rfl, ?hyzb111059⟩) (fun _ => trivial) hTb11105 ?_
                  case hyzb111059 => (intro w hSw; (try dsimp only at hSw); go_simp; try (with_reducible rfl))
                  (try simp only [Act.put, List.getElem_toArray, List.getElem_cons_succ, List.getElem_cons_zero, List.setIfInBounds_toArray, List.set_cons_zero, List.set_cons_succ])
                  have d0 := f8b11105.c 0 _ rfl
                  have d1 := f8b11105.c 1 _ rfl
                  have d2 := f8b11105.c 2 _ rfl
                  have d3 := f8b11105.c 3 _ rfl
                  have fz := f8b11105.fz
                  have bel4 := st4_below (B := bc) eb11105 lf8 (.int .i64 m2) (.int .i64 cd) (.int .i64 nd) (.slice a2 k2 p2)
                  refine wpAnyT_late (i := 12) (by kernel_rfl) rfl (by kernel_rfl) (fun K hK9 => ?_)
                  go_simp
                  refine hK9.out _ _ (HT2.out _ bel4) (fun hT4 => ?_)
                  clear hK9 K
                  (try simp only [Act.put, List.getElem_toArray, List.getElem_cons_succ, List.getElem_cons_zero, List.setIfInBounds_toArray, List.set_cons_zero, List.set_cons_succ])
                  have h84 := st4 ub11105 bc _ rfl f8b11105 (.int .i64 m2) (.int .i64 cd) (.int .i64 nd) (.slice a2 k2 p2)
                  have h94 := st4_far (B := bc) f9b11105 hne' (.int .i64 m2) (.int .i64 cd) (.int .i64 nd) (.slice a2 k2 p2)
                  have hp4 := hidq (HPb11105.out.far4 xf8.out (.int .i64 m2) (.int .i64 cd) (.int .i64 nd) (.slice a2 k2 p2))
                  have hz4 := hidq (show hi ≤ (st4w ub11105 bc (.int .i64 m2) (.int .i64 cd) (.int .i64 nd) (.slice a2 k2 p2)).heap.size from by simpa using HZb11105.out)
                  clear d0 d1 d2 d3 fz hT4
                  obtain ⟨Y1, hY1⟩ : ∃ Y1, Y1 = st4w ub11105 bc (.int .i64 m2) (.int .i64 cd) (.int .i64 nd) (.slice a2 k2 p2) := ⟨_, rfl⟩
                  rw [← hY1] at h84 h94 bel4 hp4 hz4
                  rw [show (((ub11105.setCell ⟨bc, 0, none⟩ (.int .i64 m2)).setCell ⟨bc, 1, none⟩ (.int .i64 cd)).setCell ⟨bc, 2, none⟩ (.int .i64 nd)).setCell ⟨bc, 3, none⟩ (.slice a2 k2 p2) = Y1 from hY1.symm]
                  clear hY1
                  have d0 := h94.c 0 _ rfl
                  have d1 := h94.c 1 _ rfl
                  have d2 := h94.c 2 _ rfl
                  have d3 := h94.c 3 _ rfl
                  have fz := h94.fz
                  have bel5 := st4_below (B := bd) bel4 lf9 (.int .i64 m2) (.int .i64 cd') (.int .i64 nd) (.slice a2' k2' p2')
                  refine wpAnyT_late (i := 13) (by kernel_rfl) rfl (by kernel_rfl) (fun K hK9 => ?_)
                  go_simp
                  refine hK9.out _ _ (HT2.out _ bel5) (fun hT5 => ?_)
                  clear hK9 K
                  (try simp only [Act.put, List.getElem_toArray, List.getElem_cons_succ, List.getElem_cons_zero, List.setIfInBounds_toArray, List.set_cons_zero, List.set_cons_succ])
                  have h85 := st4_far (B := bd) h84 hne (.int .i64 m2) (.int .i64 cd') (.int .i64 nd) (.slice a2' k2' p2')
                  have h95 := st4 Y1 bd _ rfl h94 (.int .i64 m2) (.int .i64 cd') (.int .i64 nd) (.slice a2' k2' p2')
                  have hp5 := hidq (hp4.out.far4 xf9.out (.int .i64 m2) (.int .i64 cd') (.int .i64 nd) (.slice a2' k2' p2'))
                  have hz5 := hidq (show hi ≤ (st4w Y1 bd (.int .i64 m2) (.int .i64 cd') (.int .i64 nd) (.slice a2' k2' p2')).heap.size from by simpa using hz4.out)
                  clear d0 d1 d2 d3 fz hT5
                  obtain ⟨Y2, hY2⟩ : ∃ Y2, Y2 = st4w Y1 bd (.int .i64 m2) (.int .i64 cd') (.int .i64 nd) (.slice a2' k2' p2') := ⟨_, rfl⟩
                  rw [← hY2] at h85 h95 bel5 hp5 hz5
                  rw [show (((Y1.setCell ⟨bd, 0, none⟩ (.int .i64 m2)).setCell ⟨bd, 1, none⟩ (.int .i64 cd')).setCell ⟨bd, 2, none⟩ (.int .i64 nd)).setCell ⟨bd, 3, none⟩ (.slice a2' k2' p2') = Y2 from hY2.symm]
                  clear hY2
                  refine wpAnyT_late (i := 14) (by kernel_rfl) rfl (by kernel_rfl) (fun K hK9 => ?_)
                  go_simp
                  refine hK9.out _ _ (HT2.out _ bel5) (fun hT6 => ?_)
                  clear hK9 K
                  (try simp only [Act.put, List.getElem_toArray, List.getElem_cons_succ, List.getElem_cons_zero, List.setIfInBounds_toArray, List.set_cons_zero, List.set_cons_succ])
                  refine wpAnyT_done (by kernel_rfl) ?_ _
                  (try simp only [Act.put, List.getElem_toArray, List.getElem_cons_succ, List.getElem_cons_zero, List.setIfInBounds_toArray, List.set_cons_zero, List.set_cons_succ])
                  exact HN9.out bc bd q2 m2 cd cd' nd a2 p2 k2 a2' p2' k2' Y2 ⟨lf8, lf9, hne, h85, h95, bel5, lo, hi, HW.out, hz5.out, hp5.out⟩
            case contb =>
              intro bc bd q2 m2 cd cd' nd a2 p2 k2 a2' p2' k2' Z2 hF9
              have HF9 := hidq hF9
              clear hF9
              obtain ⟨l8, l9, n89, f8, f9, bZ, lo, hi, hlo, hhi, hA⟩ := HF8.out
              obtain ⟨lc, ld, ncd, fc, fd, bZ2, lo2, hi2, hlo2, hhi2, hA2⟩ := HF9.out
              rw [HPX8.out] at hA
              rw [HPX9.out] at hA2
              obtain ⟨K, K', hkl, hkl', ⟨hPS, hle, hle', hn0, hn0', Hm, g1, g2, g3, g4⟩, E, E', -, -⟩ := hA
              obtain ⟨M, M', hml, hml', ⟨hPS2, hn2, hn2'⟩, D, D', i1, i2⟩ := hA2
              have hPS : PS r c n L r' c' n' L' [jv] q m cc cc' nn K K' := hPS
              obtain ⟨rfl, rfl, rfl, rfl, rfl, rfl, rfl⟩ := PS.uniq hPS hPS2
              obtain rfl : kl = k2 := hkl.symm.trans hml
              obtain rfl : kl' = k2' := hkl'.symm.trans hml'
              have bZZ : Below wr.heap.size wr Z2 := bZ.trans (bZ2.mono bZ.size)
              have hz1 := bZ.size
              have hz2 := bZ2.size
              have hBw : B < wr.heap.size := HQ.out.1.lt
              have E2 := E.below bZ2
              have E2' := E'.below bZ2
              have KB1 := bookMatrix B (2 * t) wr.heap.size Hm (by omega) wr Z2 bZZ HQ.out.1 hBw (by omega) m cc nn a1 p1 K hle E2 hn0 (fun b hb => by have := g3 b hb; omega)
              rw [hkl] at KB1
              have HKB1 := hidq KB1
              have f8' := bq_below f8 bZ2
              have f9' := bq_below f9 bZ2
              have HA1 := hidq (And.intro f8' (And.intro f9' (And.intro fc fd)))
              have HA2 := hidq (And.intro E2 (And.intro E2' (And.intro D D')))
              have HA3 := hidq (show B < wr.heap.size ∧ wr.heap.size ≤ b8 ∧ wr.heap.size ≤ b9 ∧ wr.heap.size ≤ bc ∧ wr.heap.size ≤ bd ∧ B < Hm ∧ Hm ≤ hi ∧ hi ≤ Z2.heap.size from ⟨hBw, l8, l9, by omega, by omega, by omega, g2, by omega⟩)
              have HA4 := hidq (show (∀ b ∈ eb a1, B < b) ∧ (∀ b ∈ eb a1', B < b) ∧ (∀ b ∈ eb a2, B < b) ∧ (∀ b ∈ eb a2', B < b) from ⟨fun b hb => by have := g3 b hb; omega, fun b hb => by have := g4 b hb; omega, fun b hb => by have := i1 b hb; omega, fun b hb => by have := i2 b hb; omega⟩)
              have HA5 := hidq (And.intro hn0 (And.intro hn0' (And.intro hn2 hn2')))
              have HA6 := hidq (And.intro hkl (And.intro hkl' (And.intro hle hle')))
              have HA7 := hidq g4
              have HA8 := hidq bZZ
              have c0 := f8'.c 0 _ rfl
              have c1 := f8'.c 1 _ rfl
              have c2 := f8'.c 2 _ rfl
              have c3 := f8'.c 3 _ rfl
              clear KB1 f8 f9 fc fd f8' f9' E E' E2 E2' D D' hn0 hn0' hn2 hn2' hkl hkl' hml hml' hle hle' l8 l9 lc ld n89 ncd bZ bZ2 bZZ hz1 hz2 hBw hlo hhi hlo2 hhi2 g1 g2 g3 g4 i1 i2 hPS hPS2 HF8 HF9 HT2 KRow2
              go_wp2_with fail
              refine HKB1.out.mono ?_
              rintro e w5 ⟨rfl, bk5, ow5, S5, hS5, -, gs5⟩
              clear c0 c1 c2 c3
              have F8 := HA1.out.1.gs gs5 (fun h => by have := (hS5 _ h).2; have := HA3.out; omega)
              have F9 := HA1.out.2.1.gs gs5 (fun h => by have := (hS5 _ h).2; have := HA3.out; omega)
              have Fc := HA1.out.2.2.1.gs gs5 (fun h => by have := (hS5 _ h).2; have := HA3.out; omega)
              have Fd := HA1.out.2.2.2.gs gs5 (fun h => by have := (hS5 _ h).2; have := HA3.out; omega)
              have E5 := ew_own HA2.out.1 ow5 HA4.out.1
              have E5' := ew_own HA2.out.2.1 ow5 HA4.out.2.1
              have D5 := ew_own HA2.out.2.2.1 ow5 HA4.out.2.2.1
              have D5' := ew_own HA2.out.2.2.2 ow5 HA4.out.2.2.2
              have KB2 := bookMatrix B (2 * t + 1) Hm hi (by omega) w5 w5 (Below.refl _ _) bk5 (by have := HA3.out; omega) HA3.out.2.2.2.2.2.2.1 m cc' nn a1' p1' K' HA6.out.2.2.2 E5' HA5.out.2.1 HA7.out
              rw [HA6.out.2.1] at KB2
              have HKB2 := hidq KB2
              have HB1 := hidq (And.intro F8 (And.intro F9 (And.intro Fc Fd)))
              have HB2 := hidq (And.intro E5 (And.intro E5' (And.intro D5 D5')))
              have HB3 := hidq (show Below B W4 w5 from HQ.out.2.1.trans ((HA8.out.mono (Nat.le_of_lt HA3.out.1)).trans (gs5.belowH (fun b hb => (hS5 b hb).1) (by have := HA3.out; omega))))
              have HB4 := hidq (show Z2.heap.size ≤ w5.heap.size from gs5.size)
              have c0 := F9.c 0 _ rfl
              have c1 := F9.c 1 _ rfl
              have c2 := F9.c 2 _ rfl
              have c3 := F9.c 3 _ rfl
              clear KB2 F8 F9 Fc Fd E5 E5' D5 D5' bk5 ow5 hS5 gs5 HKB1
              go_wp2_with fail
              refine HKB2.out.mono ?_
              rintro e w6 ⟨rfl, bk6, ow6, S6, hS6, nb6, gs6⟩
              clear c0 c1 c2 c3
              have nx : ∀ b vs q, Bq w5 b (.int .i64 q :: vs) → B < b → b ∉ S6 := fun b vs q h hb => nb6 b q (by omega) hb (h.c 0 _ rfl)
              have G8 := HB1.out.1.gs gs6 (nx _ _ _ HB1.out.1 (by have := HA3.out; omega))
              have G9 := HB1.out.2.1.gs gs6 (nx _ _ _ HB1.out.2.1 (by have := HA3.out; omega))
              have Gc := HB1.out.2.2.1.gs gs6 (nx _ _ _ HB1.out.2.2.1 (by have := HA3.out; omega))
              have Gd := HB1.out.2.2.2.gs gs6 (nx _ _ _ HB1.out.2.2.2 (by have := HA3.out; omega))
              have s1 := ew_sl (ew_own HB2.out.1 ow6 HA4.out.1) (fun e => by rw [HA5.out.1 e]; exact Nat.zero_le _)
              have s1' := ew_sl (ew_own HB2.out.2.1 ow6 HA4.out.2.1) (fun e => by rw [HA5.out.2.1 e]; exact Nat.zero_le _)
              have s2 := ew_sl (ew_own HB2.out.2.2.1 ow6 HA4.out.2.2.1) (fun e => by rw [HA5.out.2.2.1 e]; exact Nat.zero_le _)
              have s2' := ew_sl (ew_own HB2.out.2.2.2 ow6 HA4.out.2.2.2) (fun e => by rw [HA5.out.2.2.2 e]; exact Nat.zero_le _)
              have KS1 : Hid (∀ u, Kept w6 u → Calls Try.prog 11 #[.agg #[.int .i64 m, .int .i64 cc, .int .i64 nn, .slice a1 kl p1], .agg #[.int .i64 m, .int .i64 cc, .int .i64 nn, .slice a2 kl p2]] u fun e w' => e = .returned (.bool true) ∧ Kept u w') := fun u k => by
                have := sameM_any m cc nn K (by have := HA6.out; omega) a1 p1 a2 p2 u (s1.kept k) (s2.kept k)
                rwa [HA6.out.1] at this
              have KS2 : Hid (∀ u, Kept w6 u → Calls Try.prog 11 #[.agg #[.int .i64 m, .int .i64 cc', .int .i64 nn, .slice a1' kl' p1'], .agg #[.int .i64 m, .int .i64 cc', .int .i64 nn, .slice a2' kl' p2']] u fun e w' => e = .returned (.bool true) ∧ Kept u w') := fun u k => by
                have := sameM_any m cc' nn K' (by have := HA6.out; omega) a1' p1' a2' p2' u (s1'.kept k) (s2'.kept k)
                rwa [HA6.out.2.1] at this
              have HRL := hidq (show Bks w6 B (2 * t + 1 + 1) w6.heap.size ∧ Below B W4 w6 from ⟨bk6.mono (by have := HA3.out; have := HB4.out; have := gs6.size; omega), HB3.out.trans (gs6.belowH (fun b hb => (hS6 b hb).1) (by have := HA3.out; have := HB4.out; omega))⟩)
              have HC := hidq (And.intro G9 Gd)
              have c0 := G8.c 0 _ rfl
              have c1 := G8.c 1 _ rfl
              have c2 := G8.c 2 _ rfl
              have c3 := G8.c 3 _ rfl
              have d0 := Gc.c 0 _ rfl
              have d1 := Gc.c 1 _ rfl
              have d2 := Gc.c 2 _ rfl
              have d3 := Gc.c 3 _ rfl
              clear G8 G9 Gc Gd s1 s1' s2 s2' nx bk6 ow6 hS6 nb6 gs6 HKB2 HB1 HB2 HB3
              go_wp2_with fail
              refine (KS1.out _ (Kept.refl _)).mono ?_
              rintro e w7 ⟨rfl, k7⟩
              clear c0 c1 c2 c3
              clear d0 d1 d2 d3
              have G9 := HC.out.1.kept k7
              have Gd := HC.out.2.kept k7
              have c0 := G9.c 0 _ rfl
              have c1 := G9.c 1 _ rfl
              have c2 := G9.c 2 _ rfl
              have c3 := G9.c 3 _ rfl
              have d0 := Gd.c 0 _ rfl
              have d1 := Gd.c 1 _ rfl
              have d2 := Gd.c 2 _ rfl
              have d3 := Gd.c 3 _ rfl
              clear G9 Gd
              go_wp2_with fail
              refine (KS2.out _ k7).mono ?_
              rintro e w8 ⟨rfl, k8⟩
              clear c0 c1 c2 c3
              clear d0 d1 d2 d3
              have HRM := hidq (show Bks w8 B (2 * t + 1 + 1) w8.heap.size ∧ Below B W4 w8 from ⟨(HRL.out.1.kept (k7.trans k8)).mono (k7.trans k8).below.size, HRL.out.2.trans ((k7.trans k8).below.mono (Nat.le_of_lt HRL.out.1.lt))⟩)
              clear k7 k8
              go_wp2_with fail
              go_roundw
              case rel => exact ⟨t + 1, by omega, by omega, by go_num, hidq HRM.out⟩
              case measure => simp [intOf]; omega
        · rcases (show t = jl ∨ (t < jl ∧ t = 60) from by omega) with rfl | ⟨hx1, rfl⟩
          · skip
            obtain ⟨hbk, hbl⟩ := HV.out
            have hxr := HM.out.2.1.belowH hbl HSZ.out.2.1
            have hsr := HM.out.1.belowH hbl HSZ.out.1
            have hwb : Below w.heap.size w wr := HM.out.2.2.2.2.below.trans ((hbl.mono (Nat.le_of_lt HSZ.out.1)))
            have hog := HM.out.2.2.1.belowH hbl HSZ.out.2.2.1
            have hog' := HM.out.2.2.2.1.belowH hbl HSZ.out.2.2.2.1
            have hBw : B < wr.heap.size := hbk.lt
            have KLI := lentInts_any J (by omega) ja jc wr (by rw [hjl]; exact sl_below HJ.out hwb)
            rw [hjl] at KLI
            have HLI := hidq KLI
            have HR0 := hidq (And.intro hbk (And.intro hbl (And.intro hwb hBw)))
            have HR1 := hidq (And.intro hxr (And.intro hsr (And.intro hog hog')))
            clear KLI hbk hbl hxr hsr hwb hog hog' hBw HV
            go_wp2_with fail
            refine HLI.out.mono ?_
            rintro e w1 ⟨lg, lc, rfl, hlg, hol, k1⟩
            have HL1 := hidq (And.intro hlg (And.intro hol k1))
            have x1 := HR1.out.1.kept k1
            have K15 : Hid (Calls Try.prog 13 #[sv8 r c n (.slice (some ⟨g, 0, none⟩) l cap) r' c' n' (.slice (some ⟨g', 0, none⟩) l' cap'), .slice (some ⟨lg, 0, none⟩) t lc] w1 fun e w' => ∃ (q m cc cc' nn : Int) (a1 : Option Addr) (p1 kl : Nat) (a1' : Option Addr) (p1' kl' : Nat) (lo hi : Nat), e = .returned (.tuple #[sv8 m cc nn (.slice a1 kl p1) m cc' nn (.slice a1' kl' p1'), .int .i64 q]) ∧ Hid (AG (P8 (fun K K' => PS r c n L r' c' n' L' J q m cc cc' nn K K') lo hi a1 p1 a1' p1') lo hi w' a1 p1 kl a1' p1' kl') ∧ Below w1.heap.size w1 w' ∧ Hid (lo = w1.heap.size ∧ hi = w'.heap.size)) := by
              have s1 := (HR1.out.2.2.1.kept k1).slTake L.length (by simp)
              have s2 := (HR1.out.2.2.2.kept k1).slTake L'.length (by simp)
              have s3 := hol.slTake J.length (by simp)
              rw [List.take_left' rfl] at s1 s2 s3
              have := pick_any r c n _ cap L r' c' n' _ cap' L' J (by omega) _ lc w1 s1 s2 s3
              rw [hll, hll', hjl] at this
              exact this.mono fun e w' ⟨⟨q, m, cc, cc', nn, a1, p1, K, a1', p1', K', h1, h2, h3⟩, h4⟩ => ⟨q, m, cc, cc', nn, a1, p1, _, a1', p1', _, _, _, h1, hidq (h3.ag (X := fun K K' => PS r c n L r' c' n' L' J q m cc cc' nn K K') h2), h4, hidq ⟨rfl, rfl⟩⟩
            have c0 := x1.c 0 _ rfl
            have c1 := x1.c 1 _ rfl
            have c2 := x1.c 2 _ rfl
            have c3 := x1.c 3 _ rfl
            have c4 := x1.c 4 _ rfl
            have c5 := x1.c 5 _ rfl
            have c6 := x1.c 6 _ rfl
            have c7 := x1.c 7 _ rfl
            clear x1 hlg hol k1 HLI
            go_upto_region 16 with (first | (go_at_call 13; refine K15.out.mono ?_; rintro e w2 ⟨q, m, cc, cc', nn, a1, p1, kl, a1', p1', kl', lo, hi, rfl, HA, b2, HL⟩))
            clear c0 c1 c2 c3 c4 c5 c6 c7
            obtain ⟨W5, hW5⟩ : ∃ W5, W5 = w2.alloc (.cells #[.int .i64 m, .int .i64 cc, .int .i64 nn, .slice a1 kl p1, .int .i64 m, .int .i64 cc', .int .i64 nn, .slice a1' kl' p1'] 26) := ⟨_, rfl⟩
            have hb5 := Bq.new w2 (sl8 m cc nn (.slice a1 kl p1) m cc' nn (.slice a1' kl' p1')) 26
            have k5 : Kept w2 W5 := by rw [hW5]; exact (Kept.refl w2).alloc _ _
            rw [show w2.alloc (.cells (sl8 m cc nn (.slice a1 kl p1) m cc' nn (.slice a1' kl' p1')).toArray 26) = W5 from hW5.symm] at hb5
            rw [show w2.alloc (.cells #[.int .i64 m, .int .i64 cc, .int .i64 nn, .slice a1 kl p1, .int .i64 m, .int .i64 cc', .int .i64 nn, .slice a1' kl' p1'] 26) = W5 from hW5.symm]
            obtain ⟨G6, hG6⟩ : ∃ G, G = w2.heap.size := ⟨_, rfl⟩
            rw [← hG6] at hb5 ⊢
            have bw5 : Below wr.heap.size wr W5 := HL1.out.2.2.below.trans ((b2.mono HL1.out.2.2.below.size).trans (k5.below.mono (Nat.le_trans HL1.out.2.2.below.size b2.size)))
            have HP5 := hidq (show AG (P8 (fun K K' => PS r c n L r' c' n' L' J q m cc cc' nn K K') lo hi a1 p1 a1' p1') lo hi W5 a1 p1 kl a1' p1' kl' ∧ wr.heap.size ≤ lo ∧ hi ≤ W5.heap.size ∧ wr.heap.size ≤ G6 from ⟨HA.out.below k5.below, by have := HL.out; have := HL1.out.2.2.below.size; omega, by have := HL.out; have := k5.below.size; omega, by have := HL1.out.2.2.below.size; have := b2.size; omega⟩)
            have HO5 := hidq (show Own W5 lg lc (J ++ [-77, -78]) from ((HL1.out.2.1.below b2).kept k5))
            have HB5 := hidq (And.intro hb5 bw5)
            clear hW5 hb5 k5 hG6 bw5 b2 HA HL K15
            have x2 := HR1.out.2.1.belowH HB5.out.2 (by have := HSZ.out; have := HR0.out.2.2.2; omega)
            have K16 : Hid (Calls Try.prog 14 #[sv8 r c n (.slice a l p) r' c' n' (.slice a' l' p'), .slice ja t jc] W5 fun e w' => ∃ (q2 m2 cd cd' nd : Int) (a2 : Option Addr) (p2 k2 : Nat) (a2' : Option Addr) (p2' k2' : Nat) (lo hi : Nat), e = .returned (.tuple #[sv8 m2 cd nd (.slice a2 k2 p2) m2 cd' nd (.slice a2' k2' p2'), .int .i64 q2]) ∧ Hid (AG (fun K K' => PS r c n L r' c' n' L' J q2 m2 cd cd' nd K K' ∧ (a2 = none → p2 = 0) ∧ (a2' = none → p2' = 0)) lo hi w' a2 p2 k2 a2' p2' k2') ∧ Kept W5 w' ∧ Hid (lo = W5.heap.size ∧ hi = w'.heap.size)) := by
              have kw := HR0.out.2.2.1.trans (HB5.out.2.mono HR0.out.2.2.1.size)
              have := rpick_any r c n a p L r' c' n' a' p' L' hg hg' J (by omega) ja jc W5 (sl_below (hll.symm ▸ HXX.out.1) kw) (sl_below (hll'.symm ▸ HXX.out.2) kw) (by rw [hjl]; exact sl_below HJ.out kw)
              rw [hll, hll', hjl] at this
              exact this.mono fun e w' ⟨⟨q, m, cc, cc', nn, a1, p1, K, a1', p1', K', h1, h2, h3⟩, h4⟩ => ⟨q, m, cc, cc', nn, a1, p1, _, a1', p1', _, _, _, h1, hidq (h3.ag (X := fun K K' => PS r c n L r' c' n' L' J q m cc cc' nn K K' ∧ (a1 = none → p1 = 0) ∧ (a1' = none → p1' = 0)) ⟨h2, h3.2.2.1, h3.2.2.2.1⟩), h4, hidq ⟨rfl, rfl⟩⟩
            have c0 := x2.c 0 _ rfl
            have c1 := x2.c 1 _ rfl
            have c2 := x2.c 2 _ rfl
            have c3 := x2.c 3 _ rfl
            have c4 := x2.c 4 _ rfl
            have c5 := x2.c 5 _ rfl
            have c6 := x2.c 6 _ rfl
            have c7 := x2.c 7 _ rfl
            clear x2
            go_upto_region 17 with (first | (go_at_call 14; refine K16.out.mono ?_; rintro e w3' ⟨q2, m2, cd, cd', nd, a2, p2, k2, a2', p2', k2', lo2, hi2, rfl, HA2, k6, HL2⟩))
            clear c0 c1 c2 c3 c4 c5 c6 c7
            obtain ⟨W6, hW6⟩ : ∃ W6, W6 = w3'.alloc (.cells #[.int .i64 m2, .int .i64 cd, .int .i64 nd, .slice a2 k2 p2, .int .i64 m2, .int .i64 cd', .int .i64 nd, .slice a2' k2' p2'] 26) := ⟨_, rfl⟩
            have hb6 := Bq.new w3' (sl8 m2 cd nd (.slice a2 k2 p2) m2 cd' nd (.slice a2' k2' p2')) 26
            have k7 : Kept w3' W6 := by rw [hW6]; exact (Kept.refl w3').alloc _ _
            rw [show w3'.alloc (.cells (sl8 m2 cd nd (.slice a2 k2 p2) m2 cd' nd (.slice a2' k2' p2')).toArray 26) = W6 from hW6.symm] at hb6
            rw [show w3'.alloc (.cells #[.int .i64 m2, .int .i64 cd, .int .i64 nd, .slice a2 k2 p2, .int .i64 m2, .int .i64 cd', .int .i64 nd, .slice a2' k2' p2'] 26) = W6 from hW6.symm]
            obtain ⟨G7, hG7⟩ : ∃ G, G = w3'.heap.size := ⟨_, rfl⟩
            rw [← hG7] at hb6 ⊢
            have k67 := k6.trans k7
            obtain ⟨K, K', hkl, hkl', ⟨hPS, hle, hle', hn0, hn0', Hm, g1, g2, g3, g4⟩, E, E', -, -⟩ := HP5.out.1
            obtain ⟨M, M', hml, hml', ⟨hPS2, hn2, hn2'⟩, D, D', i1, i2⟩ := HA2.out
            have hPS : PS r c n L r' c' n' L' J q m cc cc' nn K K' := hPS
            obtain ⟨rfl, rfl, rfl, rfl, rfl, rfl, rfl⟩ := PS.uniq hPS hPS2
            obtain rfl : kl = k2 := hkl.symm.trans hml
            obtain rfl : kl' = k2' := hkl'.symm.trans hml'
            have b6 := HB5.out.2.trans (k67.below.mono HB5.out.2.size)
            have hz5 := HP5.out.2
            have hz6 := k67.below.size
            have hz7 := HL2.out
            have hz8 := k6.below.size
            have hz9 := HB5.out.2.size
            have hBw := HR0.out.2.2.2
            have E2 := E.kept k67
            have E2' := E'.kept k67
            have D2 := D.kept k7
            have D2' := D'.kept k7
            have KB1 := bookMatrix B (2 * t) wr.heap.size Hm (by omega) wr W6 b6 HR0.out.1 hBw (by omega) m cc nn a1 p1 K hle E2 hn0 (fun b hb => by have := g3 b hb; omega)
            rw [hkl] at KB1
            have HKB1 := hidq KB1
            have f6 := HB5.out.1.kept k67
            have HA1 := hidq (And.intro f6 hb6)
            have HA2' := hidq (And.intro E2 (And.intro E2' (And.intro D2 D2')))
            have HA3 := hidq (show B < wr.heap.size ∧ wr.heap.size ≤ G6 ∧ wr.heap.size ≤ G7 ∧ B < Hm ∧ Hm ≤ hi ∧ hi ≤ W6.heap.size from ⟨hBw, by omega, by omega, by omega, g2, by omega⟩)
            have HA4 := hidq (show (∀ b ∈ eb a1, B < b) ∧ (∀ b ∈ eb a1', B < b) ∧ (∀ b ∈ eb a2, B < b) ∧ (∀ b ∈ eb a2', B < b) from ⟨fun b hb => by have := g3 b hb; omega, fun b hb => by have := g4 b hb; omega, fun b hb => by have := i1 b hb; omega, fun b hb => by have := i2 b hb; omega⟩)
            have HA5 := hidq (And.intro hn0 (And.intro hn0' (And.intro hn2 hn2')))
            have HA6 := hidq (And.intro hkl (And.intro hkl' (And.intro hle hle')))
            have HA7 := hidq g4
            have HA8 := hidq b6
            have HO6 := hidq (HO5.out.kept k67)
            have c0 := f6.c 0 _ rfl
            have c1 := f6.c 1 _ rfl
            have c2 := f6.c 2 _ rfl
            have c3 := f6.c 3 _ rfl
            clear KB1 f6 hb6 E E' E2 E2' D D' D2 D2' hn0 hn0' hn2 hn2' hkl hkl' hml hml' hle hle' b6 hz5 hz6 hz7 hz8 hz9 hBw g1 g2 g3 g4 i1 i2 hPS hPS2 hW6 hG7 k6 k7 k67 HP5 HA2 HL2 HB5 HO5 K16
            go_wp2_with fail
            refine HKB1.out.mono ?_
            rintro e w5 ⟨rfl, bk5, ow5, S5, hS5, -, gs5⟩
            clear c0 c1 c2 c3
            have F6 := HA1.out.1.gs gs5 (fun h => by have := (hS5 _ h).2; have := HA3.out; omega)
            have F7 := HA1.out.2.gs gs5 (fun h => by have := (hS5 _ h).2; have := HA3.out; omega)
            have E5 := ew_own HA2'.out.1 ow5 HA4.out.1
            have E5' := ew_own HA2'.out.2.1 ow5 HA4.out.2.1
            have D5 := ew_own HA2'.out.2.2.1 ow5 HA4.out.2.2.1
            have D5' := ew_own HA2'.out.2.2.2 ow5 HA4.out.2.2.2
            have hlgB : B < lg := by have := HL1.out.1; have := HA3.out; omega
            have o5 := ow5 _ _ _ hlgB HO6.out
            have KB2 := bookMatrix B (2 * t + 1) Hm hi (by omega) w5 w5 (Below.refl _ _) bk5 (by have := HA3.out; omega) HA3.out.2.2.2.2.1 m cc' nn a1' p1' K' HA6.out.2.2.2 E5' HA5.out.2.1 HA7.out
            rw [HA6.out.2.1] at KB2
            have HKB2 := hidq KB2
            have HB1 := hidq (And.intro F6 F7)
            have HB2 := hidq (And.intro E5 (And.intro E5' (And.intro D5 D5')))
            have HB3 := hidq (show Below B W4 w5 from HR0.out.2.1.trans ((HA8.out.mono (Nat.le_of_lt HA3.out.1)).trans (gs5.belowH (fun b hb => (hS5 b hb).1) (by have := HA3.out; omega))))
            have HB4 := hidq (show W6.heap.size ≤ w5.heap.size from gs5.size)
            have HO7 := hidq (And.intro o5 hlgB)
            have c4 := F6.c 4 _ rfl
            have c5 := F6.c 5 _ rfl
            have c6 := F6.c 6 _ rfl
            have c7 := F6.c 7 _ rfl
            clear KB2 F6 F7 E5 E5' D5 D5' bk5 ow5 hS5 gs5 HKB1 o5 hlgB
            go_wp2_with fail
            refine HKB2.out.mono ?_
            rintro e w6 ⟨rfl, bk6, ow6, S6, hS6, nb6, gs6⟩
            clear c4 c5 c6 c7
            have nx : ∀ b vs q, Bq w5 b (.int .i64 q :: vs) → B < b → b ∉ S6 := fun b vs q h hb => nb6 b q (by omega) hb (h.c 0 _ rfl)
            have G8 := HB1.out.1.gs gs6 (nx _ _ _ HB1.out.1 (by have := HA3.out; omega))
            have G9 := HB1.out.2.gs gs6 (nx _ _ _ HB1.out.2 (by have := HA3.out; omega))
            have s1 := ew_sl (ew_own HB2.out.1 ow6 HA4.out.1) (fun e => by rw [HA5.out.1 e]; exact Nat.zero_le _)
            have s1' := ew_sl (ew_own HB2.out.2.1 ow6 HA4.out.2.1) (fun e => by rw [HA5.out.2.1 e]; exact Nat.zero_le _)
            have s2 := ew_sl (ew_own HB2.out.2.2.1 ow6 HA4.out.2.2.1) (fun e => by rw [HA5.out.2.2.1 e]; exact Nat.zero_le _)
            have s2' := ew_sl (ew_own HB2.out.2.2.2 ow6 HA4.out.2.2.2) (fun e => by rw [HA5.out.2.2.2 e]; exact Nat.zero_le _)
            have KS1 : Hid (∀ u, Kept w6 u → Calls Try.prog 11 #[.agg #[.int .i64 m, .int .i64 cc, .int .i64 nn, .slice a1 kl p1], .agg #[.int .i64 m, .int .i64 cc, .int .i64 nn, .slice a2 kl p2]] u fun e w' => e = .returned (.bool true) ∧ Kept u w') := fun u k => by
              have := sameM_any m cc nn K (by have := HA6.out; omega) a1 p1 a2 p2 u (s1.kept k) (s2.kept k)
              rwa [HA6.out.1] at this
            have KS2 : Hid (∀ u, Kept w6 u → Calls Try.prog 11 #[.agg #[.int .i64 m, .int .i64 cc', .int .i64 nn, .slice a1' kl' p1'], .agg #[.int .i64 m, .int .i64 cc', .int .i64 nn, .slice a2' kl' p2']] u fun e w' => e = .returned (.bool true) ∧ Kept u w') := fun u k => by
              have := sameM_any m cc' nn K' (by have := HA6.out; omega) a1' p1' a2' p2' u (s1'.kept k) (s2'.kept k)
              rwa [HA6.out.2.1] at this
            have hb46 : Below B W4 w6 := HB3.out.trans (gs6.belowH (fun b hb => (hS6 b hb).1) (by have := HA3.out; have := HB4.out; omega))
            have HRL := hidq (show Bks w6 B (2 * t + 1 + 1) w6.heap.size ∧ Below B W4 w6 from ⟨bk6.mono (by have := HA3.out; have := HB4.out; have := gs6.size; omega), hb46⟩)
            have X6 := HM.out.2.1.belowH hb46 HSZ.out.2.1
            have X7 := HM.out.1.belowH hb46 HSZ.out.1
            have hw6 : Below w.heap.size w w6 := HM.out.2.2.2.2.below.trans ((hb46.mono (Nat.le_of_lt HSZ.out.1)))
            have KST : Hid (∀ u, Kept w6 u → Calls Try.prog 15 #[sv8 r c n (.slice (some ⟨g, 0, none⟩) l cap) r' c' n' (.slice (some ⟨g', 0, none⟩) l' cap'), sv8 r c n (.slice a l p) r' c' n' (.slice a' l' p')] u fun e w' => e = .returned (.bool true) ∧ Kept u w') := fun u k => by
              have := staysSet_true r c n L (by omega) g cap a p r' c' n' L' (by omega) g' cap' a' p' u ((HM.out.2.2.1.belowH hb46 HSZ.out.2.2.1).kept k) (sl_below (hll.symm ▸ HXX.out.1) (hw6.trans (k.below.mono hw6.size))) ((HM.out.2.2.2.1.belowH hb46 HSZ.out.2.2.2.1).kept k) (sl_below (hll'.symm ▸ HXX.out.2) (hw6.trans (k.below.mono hw6.size)))
              rwa [hll, hll'] at this
            have o6 := ow6 _ _ _ HO7.out.2 HO7.out.1
            have KSI : Hid (∀ u, Kept w6 u → Calls Try.prog 16 #[.slice (some ⟨lg, 0, none⟩) t lc, .slice ja t jc] u fun e w' => e = .returned (.bool true) ∧ Kept u w') := fun u k => by
              have := staysInts_true J (by omega) lg lc ja jc u (o6.kept k) (by rw [hjl]; exact sl_below HJ.out (hw6.trans (k.below.mono hw6.size)))
              rwa [hjl] at this
            have HC := hidq (And.intro G8 (And.intro G9 (And.intro X6 (And.intro X7 hw6))))
            have c0 := G8.c 0 _ rfl
            have c1 := G8.c 1 _ rfl
            have c2 := G8.c 2 _ rfl
            have c3 := G8.c 3 _ rfl
            have c4 := G8.c 4 _ rfl
            have c5 := G8.c 5 _ rfl
            have c6 := G8.c 6 _ rfl
            have c7 := G8.c 7 _ rfl
            have d0 := G9.c 0 _ rfl
            have d1 := G9.c 1 _ rfl
            have d2 := G9.c 2 _ rfl
            have d3 := G9.c 3 _ rfl
            have d4 := G9.c 4 _ rfl
            have d5 := G9.c 5 _ rfl
            have d6 := G9.c 6 _ rfl
            have d7 := G9.c 7 _ rfl
            clear G8 G9 s1 s1' s2 s2' nx bk6 ow6 hS6 nb6 gs6 HKB2 HB1 HB2 HB3 X6 X7 hw6 hb46 o6
            go_wp2_with fail
            refine (KS1.out _ (Kept.refl _)).mono ?_
            rintro e w7 ⟨rfl, k7⟩
            clear c0 c1 c2 c3 c4 c5 c6 c7
            clear d0 d1 d2 d3 d4 d5 d6 d7
            have G8 := HC.out.1.kept k7
            have G9 := HC.out.2.1.kept k7
            have c0 := G8.c 0 _ rfl
            have c1 := G8.c 1 _ rfl
            have c2 := G8.c 2 _ rfl
            have c3 := G8.c 3 _ rfl
            have c4 := G8.c 4 _ rfl
            have c5 := G8.c 5 _ rfl
            have c6 := G8.c 6 _ rfl
            have c7 := G8.c 7 _ rfl
            have d0 := G9.c 0 _ rfl
            have d1 := G9.c 1 _ rfl
            have d2 := G9.c 2 _ rfl
            have d3 := G9.c 3 _ rfl
            have d4 := G9.c 4 _ rfl
            have d5 := G9.c 5 _ rfl
            have d6 := G9.c 6 _ rfl
            have d7 := G9.c 7 _ rfl
            clear G8 G9
            go_wp2_with fail
            refine (KS2.out _ k7).mono ?_
            rintro e w8 ⟨rfl, k8⟩
            clear c0 c1 c2 c3 c4 c5 c6 c7
            clear d0 d1 d2 d3 d4 d5 d6 d7
            have k68 := k7.trans k8
            have X6 := HC.out.2.2.1.kept k68
            have X7 := HC.out.2.2.2.1.kept k68
            have c0 := X6.c 0 _ rfl
            have c1 := X6.c 1 _ rfl
            have c2 := X6.c 2 _ rfl
            have c3 := X6.c 3 _ rfl
            have c4 := X6.c 4 _ rfl
            have c5 := X6.c 5 _ rfl
            have c6 := X6.c 6 _ rfl
            have c7 := X6.c 7 _ rfl
            have d0 := X7.c 0 _ rfl
            have d1 := X7.c 1 _ rfl
            have d2 := X7.c 2 _ rfl
            have d3 := X7.c 3 _ rfl
            have d4 := X7.c 4 _ rfl
            have d5 := X7.c 5 _ rfl
            have d6 := X7.c 6 _ rfl
            have d7 := X7.c 7 _ rfl
            clear X6 X7
            go_wp2_with fail
            refine (KST.out _ k68).mono ?_
            rintro e w9 ⟨rfl, k9⟩
            clear c0 c1 c2 c3 c4 c5 c6 c7
            clear d0 d1 d2 d3 d4 d5 d6 d7
            have k69 := k68.trans k9
            go_wp2_with fail
            refine (KSI.out _ k69).mono ?_
            rintro e w10 ⟨rfl, k10⟩
            have k610 := k69.trans k10
            obtain ⟨aa, ca, ma, aa', ca', La, vI, vW, hq1, hq2⟩ := HRL.out.1.kept k610
            have KAp := book_apart B (2 * t + 1 + 1) (by omega) (by omega) aa ca ma aa' ca' La vI vW w10 (fun j hj => by have := (hq2 j hj).1; omega) hq1
            have HKA := hidq KAp
            have HF := hidq (show ∀ W', Gs (B :: ebs (2 * t + 1 + 1) aa) w10 W' → Below w.heap.size w W' from fun W' gg => by
              have h0 := HC.out.2.2.2.2.trans (k610.below.mono HC.out.2.2.2.2.size)
              refine h0.trans (gg.belowH (fun b hb => ?_) h0.size)
              have := HSZ.out.1
              rcases List.mem_cons.1 hb with e | e
              · omega
              · obtain ⟨j, q1, q2⟩ := ebs_mem e
                have := hq1.lo j q1 b q2
                omega)
            clear KAp hq1 hq2 k7 k8 k9 k10 k68 k69 k610
            go_wp2_with fail
            refine HKA.out.mono ?_
            rintro e w11 ⟨rfl, W', gg, kk⟩
            go_wp2_with fail
            go_ret
            exact ⟨rfl, (HF.out W' gg).trans (kk.below.mono (HF.out W' gg).size)⟩
          · skip
            have b5 : (60 : Int) < (jl : Int) := by omega
            obtain ⟨hbk, hbl⟩ := HV.out
            have hxr := HM.out.2.1.belowH hbl HSZ.out.2.1
            have hsr := HM.out.1.belowH hbl HSZ.out.1
            have hwb : Below w.heap.size w wr := HM.out.2.2.2.2.below.trans ((hbl.mono (Nat.le_of_lt HSZ.out.1)))
            have hog := HM.out.2.2.1.belowH hbl HSZ.out.2.2.1
            have hog' := HM.out.2.2.2.1.belowH hbl HSZ.out.2.2.2.1
            have hBw : B < wr.heap.size := hbk.lt
            have KLI := lentInts_any J (by omega) ja jc wr (by rw [hjl]; exact sl_below HJ.out hwb)
            rw [hjl] at KLI
            have HLI := hidq KLI
            have HR0 := hidq (And.intro hbk (And.intro hbl (And.intro hwb hBw)))
            have HR1 := hidq (And.intro hxr (And.intro hsr (And.intro hog hog')))
            clear KLI hbk hbl hxr hsr hwb hog hog' hBw HV
            go_wp2_with fail
            refine HLI.out.mono ?_
            rintro e w1 ⟨lg, lc, rfl, hlg, hol, k1⟩
            have HL1 := hidq (And.intro hlg (And.intro hol k1))
            have x1 := HR1.out.1.kept k1
            have K15 : Hid (Calls Try.prog 13 #[sv8 r c n (.slice (some ⟨g, 0, none⟩) l cap) r' c' n' (.slice (some ⟨g', 0, none⟩) l' cap'), .slice (some ⟨lg, 0, none⟩) jl lc] w1 fun e w' => ∃ (q m cc cc' nn : Int) (a1 : Option Addr) (p1 kl : Nat) (a1' : Option Addr) (p1' kl' : Nat) (lo hi : Nat), e = .returned (.tuple #[sv8 m cc nn (.slice a1 kl p1) m cc' nn (.slice a1' kl' p1'), .int .i64 q]) ∧ Hid (AG (P8 (fun K K' => PS r c n L r' c' n' L' J q m cc cc' nn K K') lo hi a1 p1 a1' p1') lo hi w' a1 p1 kl a1' p1' kl') ∧ Below w1.heap.size w1 w' ∧ Hid (lo = w1.heap.size ∧ hi = w'.heap.size)) := by
              have s1 := (HR1.out.2.2.1.kept k1).slTake L.length (by simp)
              have s2 := (HR1.out.2.2.2.kept k1).slTake L'.length (by simp)
              have s3 := hol.slTake J.length (by simp)
              rw [List.take_left' rfl] at s1 s2 s3
              have := pick_any r c n _ cap L r' c' n' _ cap' L' J (by omega) _ lc w1 s1 s2 s3
              rw [hll, hll', hjl] at this
              exact this.mono fun e w' ⟨⟨q, m, cc, cc', nn, a1, p1, K, a1', p1', K', h1, h2, h3⟩, h4⟩ => ⟨q, m, cc, cc', nn, a1, p1, _, a1', p1', _, _, _, h1, hidq (h3.ag (X := fun K K' => PS r c n L r' c' n' L' J q m cc cc' nn K K') h2), h4, hidq ⟨rfl, rfl⟩⟩
            have c0 := x1.c 0 _ rfl
            have c1 := x1.c 1 _ rfl
            have c2 := x1.c 2 _ rfl
            have c3 := x1.c 3 _ rfl
            have c4 := x1.c 4 _ rfl
            have c5 := x1.c 5 _ rfl
            have c6 := x1.c 6 _ rfl
            have c7 := x1.c 7 _ rfl
            clear x1 hlg hol k1 HLI
            go_upto_region 16 with (first | (go_at_call 13; refine K15.out.mono ?_; rintro e w2 ⟨q, m, cc, cc', nn, a1, p1, kl, a1', p1', kl', lo, hi, rfl, HA, b2, HL⟩))
            clear c0 c1 c2 c3 c4 c5 c6 c7
            obtain ⟨W5, hW5⟩ : ∃ W5, W5 = w2.alloc (.cells #[.int .i64 m, .int .i64 cc, .int .i64 nn, .slice a1 kl p1, .int .i64 m, .int .i64 cc', .int .i64 nn, .slice a1' kl' p1'] 26) := ⟨_, rfl⟩
            have hb5 := Bq.new w2 (sl8 m cc nn (.slice a1 kl p1) m cc' nn (.slice a1' kl' p1')) 26
            have k5 : Kept w2 W5 := by rw [hW5]; exact (Kept.refl w2).alloc _ _
            rw [show w2.alloc (.cells (sl8 m cc nn (.slice a1 kl p1) m cc' nn (.slice a1' kl' p1')).toArray 26) = W5 from hW5.symm] at hb5
            rw [show w2.alloc (.cells #[.int .i64 m, .int .i64 cc, .int .i64 nn, .slice a1 kl p1, .int .i64 m, .int .i64 cc', .int .i64 nn, .slice a1' kl' p1'] 26) = W5 from hW5.symm]
            obtain ⟨G6, hG6⟩ : ∃ G, G = w2.heap.size := ⟨_, rfl⟩
            rw [← hG6] at hb5 ⊢
            have bw5 : Below wr.heap.size wr W5 := HL1.out.2.2.below.trans ((b2.mono HL1.out.2.2.below.size).trans (k5.below.mono (Nat.le_trans HL1.out.2.2.below.size b2.size)))
            have HP5 := hidq (show AG (P8 (fun K K' => PS r c n L r' c' n' L' J q m cc cc' nn K K') lo hi a1 p1 a1' p1') lo hi W5 a1 p1 kl a1' p1' kl' ∧ wr.heap.size ≤ lo ∧ hi ≤ W5.heap.size ∧ wr.heap.size ≤ G6 from ⟨HA.out.below k5.below, by have := HL.out; have := HL1.out.2.2.below.size; omega, by have := HL.out; have := k5.below.size; omega, by have := HL1.out.2.2.below.size; have := b2.size; omega⟩)
            have HO5 := hidq (show Own W5 lg lc (J ++ [-77, -78]) from ((HL1.out.2.1.below b2).kept k5))
            have HB5 := hidq (And.intro hb5 bw5)
            clear hW5 hb5 k5 hG6 bw5 b2 HA HL K15
            have x2 := HR1.out.2.1.belowH HB5.out.2 (by have := HSZ.out; have := HR0.out.2.2.2; omega)
            have K16 : Hid (Calls Try.prog 14 #[sv8 r c n (.slice a l p) r' c' n' (.slice a' l' p'), .slice ja jl jc] W5 fun e w' => ∃ (q2 m2 cd cd' nd : Int) (a2 : Option Addr) (p2 k2 : Nat) (a2' : Option Addr) (p2' k2' : Nat) (lo hi : Nat), e = .returned (.tuple #[sv8 m2 cd nd (.slice a2 k2 p2) m2 cd' nd (.slice a2' k2' p2'), .int .i64 q2]) ∧ Hid (AG (fun K K' => PS r c n L r' c' n' L' J q2 m2 cd cd' nd K K' ∧ (a2 = none → p2 = 0) ∧ (a2' = none → p2' = 0)) lo hi w' a2 p2 k2 a2' p2' k2') ∧ Kept W5 w' ∧ Hid (lo = W5.heap.size ∧ hi = w'.heap.size)) := by
              have kw := HR0.out.2.2.1.trans (HB5.out.2.mono HR0.out.2.2.1.size)
              have := rpick_any r c n a p L r' c' n' a' p' L' hg hg' J (by omega) ja jc W5 (sl_below (hll.symm ▸ HXX.out.1) kw) (sl_below (hll'.symm ▸ HXX.out.2) kw) (by rw [hjl]; exact sl_below HJ.out kw)
              rw [hll, hll', hjl] at this
              exact this.mono fun e w' ⟨⟨q, m, cc, cc', nn, a1, p1, K, a1', p1', K', h1, h2, h3⟩, h4⟩ => ⟨q, m, cc, cc', nn, a1, p1, _, a1', p1', _, _, _, h1, hidq (h3.ag (X := fun K K' => PS r c n L r' c' n' L' J q m cc cc' nn K K' ∧ (a1 = none → p1 = 0) ∧ (a1' = none → p1' = 0)) ⟨h2, h3.2.2.1, h3.2.2.2.1⟩), h4, hidq ⟨rfl, rfl⟩⟩
            have c0 := x2.c 0 _ rfl
            have c1 := x2.c 1 _ rfl
            have c2 := x2.c 2 _ rfl
            have c3 := x2.c 3 _ rfl
            have c4 := x2.c 4 _ rfl
            have c5 := x2.c 5 _ rfl
            have c6 := x2.c 6 _ rfl
            have c7 := x2.c 7 _ rfl
            clear x2
            go_upto_region 17 with (first | (go_at_call 14; refine K16.out.mono ?_; rintro e w3' ⟨q2, m2, cd, cd', nd, a2, p2, k2, a2', p2', k2', lo2, hi2, rfl, HA2, k6, HL2⟩))
            clear c0 c1 c2 c3 c4 c5 c6 c7
            obtain ⟨W6, hW6⟩ : ∃ W6, W6 = w3'.alloc (.cells #[.int .i64 m2, .int .i64 cd, .int .i64 nd, .slice a2 k2 p2, .int .i64 m2, .int .i64 cd', .int .i64 nd, .slice a2' k2' p2'] 26) := ⟨_, rfl⟩
            have hb6 := Bq.new w3' (sl8 m2 cd nd (.slice a2 k2 p2) m2 cd' nd (.slice a2' k2' p2')) 26
            have k7 : Kept w3' W6 := by rw [hW6]; exact (Kept.refl w3').alloc _ _
            rw [show w3'.alloc (.cells (sl8 m2 cd nd (.slice a2 k2 p2) m2 cd' nd (.slice a2' k2' p2')).toArray 26) = W6 from hW6.symm] at hb6
            rw [show w3'.alloc (.cells #[.int .i64 m2, .int .i64 cd, .int .i64 nd, .slice a2 k2 p2, .int .i64 m2, .int .i64 cd', .int .i64 nd, .slice a2' k2' p2'] 26) = W6 from hW6.symm]
            obtain ⟨G7, hG7⟩ : ∃ G, G = w3'.heap.size := ⟨_, rfl⟩
            rw [← hG7] at hb6 ⊢
            have k67 := k6.trans k7
            obtain ⟨K, K', hkl, hkl', ⟨hPS, hle, hle', hn0, hn0', Hm, g1, g2, g3, g4⟩, E, E', -, -⟩ := HP5.out.1
            obtain ⟨M, M', hml, hml', ⟨hPS2, hn2, hn2'⟩, D, D', i1, i2⟩ := HA2.out
            have hPS : PS r c n L r' c' n' L' J q m cc cc' nn K K' := hPS
            obtain ⟨rfl, rfl, rfl, rfl, rfl, rfl, rfl⟩ := PS.uniq hPS hPS2
            obtain rfl : kl = k2 := hkl.symm.trans hml
            obtain rfl : kl' = k2' := hkl'.symm.trans hml'
            have b6 := HB5.out.2.trans (k67.below.mono HB5.out.2.size)
            have hz5 := HP5.out.2
            have hz6 := k67.below.size
            have hz7 := HL2.out
            have hz8 := k6.below.size
            have hz9 := HB5.out.2.size
            have hBw := HR0.out.2.2.2
            have E2 := E.kept k67
            have E2' := E'.kept k67
            have D2 := D.kept k7
            have D2' := D'.kept k7
            have KB1 := bookMatrix B (2 * 60) wr.heap.size Hm (by omega) wr W6 b6 HR0.out.1 hBw (by omega) m cc nn a1 p1 K hle E2 hn0 (fun b hb => by have := g3 b hb; omega)
            rw [hkl] at KB1
            have HKB1 := hidq KB1
            have f6 := HB5.out.1.kept k67
            have HA1 := hidq (And.intro f6 hb6)
            have HA2' := hidq (And.intro E2 (And.intro E2' (And.intro D2 D2')))
            have HA3 := hidq (show B < wr.heap.size ∧ wr.heap.size ≤ G6 ∧ wr.heap.size ≤ G7 ∧ B < Hm ∧ Hm ≤ hi ∧ hi ≤ W6.heap.size from ⟨hBw, by omega, by omega, by omega, g2, by omega⟩)
            have HA4 := hidq (show (∀ b ∈ eb a1, B < b) ∧ (∀ b ∈ eb a1', B < b) ∧ (∀ b ∈ eb a2, B < b) ∧ (∀ b ∈ eb a2', B < b) from ⟨fun b hb => by have := g3 b hb; omega, fun b hb => by have := g4 b hb; omega, fun b hb => by have := i1 b hb; omega, fun b hb => by have := i2 b hb; omega⟩)
            have HA5 := hidq (And.intro hn0 (And.intro hn0' (And.intro hn2 hn2')))
            have HA6 := hidq (And.intro hkl (And.intro hkl' (And.intro hle hle')))
            have HA7 := hidq g4
            have HA8 := hidq b6
            have HO6 := hidq (HO5.out.kept k67)
            have c0 := f6.c 0 _ rfl
            have c1 := f6.c 1 _ rfl
            have c2 := f6.c 2 _ rfl
            have c3 := f6.c 3 _ rfl
            clear KB1 f6 hb6 E E' E2 E2' D D' D2 D2' hn0 hn0' hn2 hn2' hkl hkl' hml hml' hle hle' b6 hz5 hz6 hz7 hz8 hz9 hBw g1 g2 g3 g4 i1 i2 hPS hPS2 hW6 hG7 k6 k7 k67 HP5 HA2 HL2 HB5 HO5 K16
            go_wp2_with fail
            refine HKB1.out.mono ?_
            rintro e w5 ⟨rfl, bk5, ow5, S5, hS5, -, gs5⟩
            clear c0 c1 c2 c3
            have F6 := HA1.out.1.gs gs5 (fun h => by have := (hS5 _ h).2; have := HA3.out; omega)
            have F7 := HA1.out.2.gs gs5 (fun h => by have := (hS5 _ h).2; have := HA3.out; omega)
            have E5 := ew_own HA2'.out.1 ow5 HA4.out.1
            have E5' := ew_own HA2'.out.2.1 ow5 HA4.out.2.1
            have D5 := ew_own HA2'.out.2.2.1 ow5 HA4.out.2.2.1
            have D5' := ew_own HA2'.out.2.2.2 ow5 HA4.out.2.2.2
            have hlgB : B < lg := by have := HL1.out.1; have := HA3.out; omega
            have o5 := ow5 _ _ _ hlgB HO6.out
            have KB2 := bookMatrix B (2 * 60 + 1) Hm hi (by omega) w5 w5 (Below.refl _ _) bk5 (by have := HA3.out; omega) HA3.out.2.2.2.2.1 m cc' nn a1' p1' K' HA6.out.2.2.2 E5' HA5.out.2.1 HA7.out
            rw [HA6.out.2.1] at KB2
            have HKB2 := hidq KB2
            have HB1 := hidq (And.intro F6 F7)
            have HB2 := hidq (And.intro E5 (And.intro E5' (And.intro D5 D5')))
            have HB3 := hidq (show Below B W4 w5 from HR0.out.2.1.trans ((HA8.out.mono (Nat.le_of_lt HA3.out.1)).trans (gs5.belowH (fun b hb => (hS5 b hb).1) (by have := HA3.out; omega))))
            have HB4 := hidq (show W6.heap.size ≤ w5.heap.size from gs5.size)
            have HO7 := hidq (And.intro o5 hlgB)
            have c4 := F6.c 4 _ rfl
            have c5 := F6.c 5 _ rfl
            have c6 := F6.c 6 _ rfl
            have c7 := F6.c 7 _ rfl
            clear KB2 F6 F7 E5 E5' D5 D5' bk5 ow5 hS5 gs5 HKB1 o5 hlgB
            go_wp2_with fail
            refine HKB2.out.mono ?_
            rintro e w6 ⟨rfl, bk6, ow6, S6, hS6, nb6, gs6⟩
            clear c4 c5 c6 c7
            have nx : ∀ b vs q, Bq w5 b (.int .i64 q :: vs) → B < b → b ∉ S6 := fun b vs q h hb => nb6 b q (by omega) hb (h.c 0 _ rfl)
            have G8 := HB1.out.1.gs gs6 (nx _ _ _ HB1.out.1 (by have := HA3.out; omega))
            have G9 := HB1.out.2.gs gs6 (nx _ _ _ HB1.out.2 (by have := HA3.out; omega))
            have s1 := ew_sl (ew_own HB2.out.1 ow6 HA4.out.1) (fun e => by rw [HA5.out.1 e]; exact Nat.zero_le _)
            have s1' := ew_sl (ew_own HB2.out.2.1 ow6 HA4.out.2.1) (fun e => by rw [HA5.out.2.1 e]; exact Nat.zero_le _)
            have s2 := ew_sl (ew_own HB2.out.2.2.1 ow6 HA4.out.2.2.1) (fun e => by rw [HA5.out.2.2.1 e]; exact Nat.zero_le _)
            have s2' := ew_sl (ew_own HB2.out.2.2.2 ow6 HA4.out.2.2.2) (fun e => by rw [HA5.out.2.2.2 e]; exact Nat.zero_le _)
            have KS1 : Hid (∀ u, Kept w6 u → Calls Try.prog 11 #[.agg #[.int .i64 m, .int .i64 cc, .int .i64 nn, .slice a1 kl p1], .agg #[.int .i64 m, .int .i64 cc, .int .i64 nn, .slice a2 kl p2]] u fun e w' => e = .returned (.bool true) ∧ Kept u w') := fun u k => by
              have := sameM_any m cc nn K (by have := HA6.out; omega) a1 p1 a2 p2 u (s1.kept k) (s2.kept k)
              rwa [HA6.out.1] at this
            have KS2 : Hid (∀ u, Kept w6 u → Calls Try.prog 11 #[.agg #[.int .i64 m, .int .i64 cc', .int .i64 nn, .slice a1' kl' p1'], .agg #[.int .i64 m, .int .i64 cc', .int .i64 nn, .slice a2' kl' p2']] u fun e w' => e = .returned (.bool true) ∧ Kept u w') := fun u k => by
              have := sameM_any m cc' nn K' (by have := HA6.out; omega) a1' p1' a2' p2' u (s1'.kept k) (s2'.kept k)
              rwa [HA6.out.2.1] at this
            have hb46 : Below B W4 w6 := HB3.out.trans (gs6.belowH (fun b hb => (hS6 b hb).1) (by have := HA3.out; have := HB4.out; omega))
            have HRL := hidq (show Bks w6 B (2 * 60 + 1 + 1) w6.heap.size ∧ Below B W4 w6 from ⟨bk6.mono (by have := HA3.out; have := HB4.out; have := gs6.size; omega), hb46⟩)
            have X6 := HM.out.2.1.belowH hb46 HSZ.out.2.1
            have X7 := HM.out.1.belowH hb46 HSZ.out.1
            have hw6 : Below w.heap.size w w6 := HM.out.2.2.2.2.below.trans ((hb46.mono (Nat.le_of_lt HSZ.out.1)))
            have KST : Hid (∀ u, Kept w6 u → Calls Try.prog 15 #[sv8 r c n (.slice (some ⟨g, 0, none⟩) l cap) r' c' n' (.slice (some ⟨g', 0, none⟩) l' cap'), sv8 r c n (.slice a l p) r' c' n' (.slice a' l' p')] u fun e w' => e = .returned (.bool true) ∧ Kept u w') := fun u k => by
              have := staysSet_true r c n L (by omega) g cap a p r' c' n' L' (by omega) g' cap' a' p' u ((HM.out.2.2.1.belowH hb46 HSZ.out.2.2.1).kept k) (sl_below (hll.symm ▸ HXX.out.1) (hw6.trans (k.below.mono hw6.size))) ((HM.out.2.2.2.1.belowH hb46 HSZ.out.2.2.2.1).kept k) (sl_below (hll'.symm ▸ HXX.out.2) (hw6.trans (k.below.mono hw6.size)))
              rwa [hll, hll'] at this
            have o6 := ow6 _ _ _ HO7.out.2 HO7.out.1
            have KSI : Hid (∀ u, Kept w6 u → Calls Try.prog 16 #[.slice (some ⟨lg, 0, none⟩) jl lc, .slice ja jl jc] u fun e w' => e = .returned (.bool true) ∧ Kept u w') := fun u k => by
              have := staysInts_true J (by omega) lg lc ja jc u (o6.kept k) (by rw [hjl]; exact sl_below HJ.out (hw6.trans (k.below.mono hw6.size)))
              rwa [hjl] at this
            have HC := hidq (And.intro G8 (And.intro G9 (And.intro X6 (And.intro X7 hw6))))
            have c0 := G8.c 0 _ rfl
            have c1 := G8.c 1 _ rfl
            have c2 := G8.c 2 _ rfl
            have c3 := G8.c 3 _ rfl
            have c4 := G8.c 4 _ rfl
            have c5 := G8.c 5 _ rfl
            have c6 := G8.c 6 _ rfl
            have c7 := G8.c 7 _ rfl
            have d0 := G9.c 0 _ rfl
            have d1 := G9.c 1 _ rfl
            have d2 := G9.c 2 _ rfl
            have d3 := G9.c 3 _ rfl
            have d4 := G9.c 4 _ rfl
            have d5 := G9.c 5 _ rfl
            have d6 := G9.c 6 _ rfl
            have d7 := G9.c 7 _ rfl
            clear G8 G9 s1 s1' s2 s2' nx bk6 ow6 hS6 nb6 gs6 HKB2 HB1 HB2 HB3 X6 X7 hw6 hb46 o6
            go_wp2_with fail
            refine (KS1.out _ (Kept.refl _)).mono ?_
            rintro e w7 ⟨rfl, k7⟩
            clear c0 c1 c2 c3 c4 c5 c6 c7
            clear d0 d1 d2 d3 d4 d5 d6 d7
            have G8 := HC.out.1.kept k7
            have G9 := HC.out.2.1.kept k7
            have c0 := G8.c 0 _ rfl
            have c1 := G8.c 1 _ rfl
            have c2 := G8.c 2 _ rfl
            have c3 := G8.c 3 _ rfl
            have c4 := G8.c 4 _ rfl
            have c5 := G8.c 5 _ rfl
            have c6 := G8.c 6 _ rfl
            have c7 := G8.c 7 _ rfl
            have d0 := G9.c 0 _ rfl
            have d1 := G9.c 1 _ rfl
            have d2 := G9.c 2 _ rfl
            have d3 := G9.c 3 _ rfl
            have d4 := G9.c 4 _ rfl
            have d5 := G9.c 5 _ rfl
            have d6 := G9.c 6 _ rfl
            have d7 := G9.c 7 _ rfl
            clear G8 G9
            go_wp2_with fail
            refine (KS2.out _ k7).mono ?_
            rintro e w8 ⟨rfl, k8⟩
            clear c0 c1 c2 c3 c4 c5 c6 c7
            clear d0 d1 d2 d3 d4 d5 d6 d7
            have k68 := k7.trans k8
            have X6 := HC.out.2.2.1.kept k68
            have X7 := HC.out.2.2.2.1.kept k68
            have c0 := X6.c 0 _ rfl
            have c1 := X6.c 1 _ rfl
            have c2 := X6.c 2 _ rfl
            have c3 := X6.c 3 _ rfl
            have c4 := X6.c 4 _ rfl
            have c5 := X6.c 5 _ rfl
            have c6 := X6.c 6 _ rfl
            have c7 := X6.c 7 _ rfl
            have d0 := X7.c 0 _ rfl
            have d1 := X7.c 1 _ rfl
            have d2 := X7.c 2 _ rfl
            have d3 := X7.c 3 _ rfl
            have d4 := X7.c 4 _ rfl
            have d5 := X7.c 5 _ rfl
            have d6 := X7.c 6 _ rfl
            have d7 := X7.c 7 _ rfl
            clear X6 X7
            go_wp2_with fail
            refine (KST.out _ k68).mono ?_
            rintro e w9 ⟨rfl, k9⟩
            clear c0 c1 c2 c3 c4 c5 c6 c7
            clear d0 d1 d2 d3 d4 d5 d6 d7
            have k69 := k68.trans k9
            go_wp2_with fail
            refine (KSI.out _ k69).mono ?_
            rintro e w10 ⟨rfl, k10⟩
            have k610 := k69.trans k10
            obtain ⟨aa, ca, ma, aa', ca', La, vI, vW, hq1, hq2⟩ := HRL.out.1.kept k610
            have KAp := book_apart B (2 * 60 + 1 + 1) (by omega) (by omega) aa ca ma aa' ca' La vI vW w10 (fun j hj => by have := (hq2 j hj).1; omega) hq1
            have HKA := hidq KAp
            have HF := hidq (show ∀ W', Gs (B :: ebs (2 * 60 + 1 + 1) aa) w10 W' → Below w.heap.size w W' from fun W' gg => by
              have h0 := HC.out.2.2.2.2.trans (k610.below.mono HC.out.2.2.2.2.size)
              refine h0.trans (gg.belowH (fun b hb => ?_) h0.size)
              have := HSZ.out.1
              rcases List.mem_cons.1 hb with e | e
              · omega
              · obtain ⟨j, q1, q2⟩ := ebs_mem e
                have := hq1.lo j q1 b q2
                omega)
            clear KAp hq1 hq2 k7 k8 k9 k10 k68 k69 k610
            go_wp2_with fail
            refine HKA.out.mono ?_
            rintro e w11 ⟨rfl, W', gg, kk⟩
            go_wp2_with fail
            go_ret
            exact ⟨rfl, (HF.out W' gg).trans (kk.below.mono (HF.out W' gg).size)⟩

  · have KL1 : Hid (∀ u, Calls Try.prog 6 #[sv8 r c n (.slice a L.length p) r' c' n' (.slice a' L'.length p')] u fun e w' => e = .returned (.bool false) ∧ Kept u w') := fun u => by
      have := KL.out u
      rwa [decide_eq_false hlt] at this
    clear KL hlt
    go_wp2_with fail
    refine (KL1.out _).mono ?_
    rintro e w2 ⟨rfl, k2⟩
    clear c0 c1 c2 c3 c4 c5 c6 c7
    go_wp2_with fail
    refine (HA.out _).mono ?_
    rintro e w3 ⟨rfl, k3⟩
    go_wp2
    go_ret
    exact ⟨rfl, (hK1.trans (k2.trans k3)).below⟩
end Go.Proofs.Ytcjgdfnbjbboeaa
