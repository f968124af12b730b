/- The laws' own test of life, by the quotient of any two numbers. -/
import Derived.Test.YtbffekcjdcihpaaGreatDoorQ9
import Derived.Test.YtbffekcjdcihpaaGreatDoorPap
import Derived.Test.YtbffekcjdcihpaaGreatDoorPar
namespace Go.Proofs.YtbffekcjdcihpaaGreatDoor
open Go.ChangeShapes Go.WideShapes Go.ChangeAt Go.RowKit
set_option linter.unusedVariables false
set_option linter.unusedSimpArgs false
set_option maxHeartbeats 16000000
set_option maxRecDepth 100000
theorem third_cut : Cutz (cbn 64) (2 ^ (kleast 64 - (-1075)).toNat * (3 * 2 ^ (0 - (-1075) : Int).toNat)) (1 * 2 ^ (0 - 2 * (-1075) : Int).toNat) 6004799503160661 (2 ^ 1020 * (2 ^ (kleast 64 - (-1075)).toNat * (3 * 2 ^ (0 - (-1075) : Int).toNat))) (2 ^ 1019 * (2 ^ (kleast 64 - (-1075)).toNat * (3 * 2 ^ (0 - (-1075) : Int).toNat))) 4599676419421066581 true false true :=
 ⟨by decide +kernel, by decide +kernel, by decide +kernel, by decide +kernel, by decide +kernel, by decide +kernel, by decide +kernel, by decide +kernel, by decide +kernel⟩
theorem quot_third2 (a b : Option Addr) (c d : Nat) (w : World) (h1 : Sl w (.slice a 1 c) [1]) (h2 : Sl w (.slice b 1 d) [3]) (hT : Tab w) : Calls Tryz.prog 41 #[.agg #[.bool false, .slice a 1 c, .int .i64 0], .agg #[.bool false, .slice b 1 d, .int .i64 0], .int .i64 64, .int .i64 0] w fun e w' => e = .returned (.tuple #[.int .i64 4599676419421066581, .bool true, .int .i64 0]) ∧ Kept w w' := by
 obtain ⟨k, Q, H, F, od, hf, rt, hC, hP⟩ := quotz_all 64 (.inl rfl) ⟨false, [1], 0⟩ ⟨false, [3], 0⟩ vld1 vld3 (by decide) (by decide) (-1075) (by decide) (by decide) (by decide +kernel) (by decide +kernel) (by decide)
 have e1 : nv [1] = 1 := by decide +kernel
 have e3 : nv [3] = 3 := by decide +kernel
 dsimp only at hC
 rw [e1, e3] at hC
 have hS := cutz_same hC third_cut (rv_lt 64 (.inl rfl)) 0 (.inl rfl) false (ifn 64)
 have := hP 0 (.inl rfl) a b c d w hT h1 h2
 dsimp only [bne_self_eq_false] at this
 rw [show (false != false) = false from rfl, hS.1, hS.2] at this
 exact this
theorem alive_any (w : World) (hT : Tab w) : Calls Tryz.prog 9 #[] w fun e w' => e = .returned (.bool true) ∧ Kept w w' := by
 have HT : Hid (Tab w) := hT
 clear hT
 have hK0 : Kept w (w.alloc (.cells #[.int .i64 6] 3)) := (Kept.refl w).alloc _ _
 have KM : Hid (Calls Tryz.prog 13 #[.bool true, .slice (some ⟨w.heap.size, 0, none⟩) 1 1, .int .i64 (-1)] (w.alloc (.cells #[.int .i64 6] 3)) fun e w' => ∃ v, e = .returned (.tuple #[v, .int .i64 0]) ∧ New (w.alloc (.cells #[.int .i64 6] 3)) w' v ⟨true, [3], 0⟩ ∧ Kept (w.alloc (.cells #[.int .i64 6] 3)) w') := make_ok true [6] (Dg.cons (by decide) (by decide) Dg.nil) (by decide) (some ⟨w.heap.size, 0, none⟩) 1 (by simp) (-1) _ frm_6 _ (own_one w 6).sl (HT.out.kept hK0)
 go_enter Tryz.func9, Tryz.ntmps9
 go_wp2_with fail
 refine KM.out.mono ?_
 rintro e w1 ⟨v, rfl, hN, hk1⟩
 obtain ⟨g, cp, rfl, hg, ho⟩ := hN.some
 have HO : Hid (Own w1 g cp [3]) := ho
 have hk : Kept w w1 := hK0.trans hk1
 clear hN ho hg KM hK0 hk1
 have hK2 : Kept w1 (w1.alloc (.cells #[.bool true, .slice (some ⟨g, 0, none⟩) 1 cp, .int .i64 0] 29)) := (Kept.refl _).alloc _ _
 have HX2 : Hid (∀ u, Kept (w1.alloc (.cells #[.bool true, .slice (some ⟨g, 0, none⟩) 1 cp, .int .i64 0] 29)) u → Kept (w1.alloc (.cells #[.bool true, .slice (some ⟨g, 0, none⟩) 1 cp, .int .i64 0] 29)) u ∧ u.cell? ⟨w1.heap.size, 0, none⟩ = some (.bool true) ∧ u.cell? ⟨w1.heap.size, 1, none⟩ = some (.slice (some ⟨g, 0, none⟩) 1 cp) ∧ u.cell? ⟨w1.heap.size, 2, none⟩ = some (.int .i64 0)) := fun u k => ⟨k, (laid_cell k 0).trans (by simp [go_sem]), (laid_cell k 1).trans (by simp [go_sem]), (laid_cell k 2).trans (by simp [go_sem])⟩
 go_upto_region 2 with fail
 go_cut [3, 4] from 13 (fun t3 t4 wx => ∃ B g3 cp3, t3 = .pointer (some ⟨B, 0, none⟩) ∧ t4 = .int .i64 0 ∧ wx.cell? ⟨B, 0, none⟩ = some (.bool true) ∧ wx.cell? ⟨B, 1, none⟩ = some (.slice (some ⟨g3, 0, none⟩) 1 cp3) ∧ wx.cell? ⟨B, 2, none⟩ = some (.int .i64 1) ∧ B < wx.heap.size ∧ Own wx g3 cp3 [1] ∧ Kept (w1.alloc (.cells #[.bool true, .slice (some ⟨g, 0, none⟩) 1 cp, .int .i64 0] 29)) wx)
 case first =>
  refine wp_region_held_drew (S := fun u => Kept (w1.alloc (.cells #[.bool true, .slice (some ⟨g, 0, none⟩) 1 cp, .int .i64 0] 29)) u ∧ u.cell? ⟨w1.heap.size, 0, none⟩ = some (.bool true) ∧ u.cell? ⟨w1.heap.size, 1, none⟩ = some (.slice (some ⟨g, 0, none⟩) 1 cp) ∧ u.cell? ⟨w1.heap.size, 2, none⟩ = some (.int .i64 0)) (by kernel_rfl) (HX2.out _ (Kept.refl _).drew) (fun hHeld => ?_)
  refine tk (i := 0) (v := ?_) rfl ?_
  simp only [Act.put, zA, zB, zC, zD, zE, zF]
  refine wpAnyH_ready (rs := [1, 6]) (by kernel_rfl) (by simp) ?_
  refine AllReadyH.cons rfl (fun K hK9 => ?_) (AllReadyH.cons rfl (fun K hK9 => ?_) AllReadyH.nil)
  ·have hI := hHeld
   go_simp
   go_wp2_with fail
   refine (int_pos 1 (by decide) (by decide) _ frm_1 _ (HT.out.kept (hk.trans (hK2.trans hI.1)))).mono ?_
   rintro e w2 ⟨⟨v, rfl, hN2⟩, hk2⟩
   obtain ⟨g2, cp2, rfl, -, ho2⟩ := hN2.some
   refine hK9.out _ _ (HX2.out _ (hI.1.trans hk2)) (fun hHeld2 => ?_)
   clear hK9 K hN2
   refine wpAnyH_ready (rs := [2, 6]) (by kernel_rfl) (by simp) ?_
   refine AllReadyH.cons rfl (fun K hK9 => ?_) (AllReadyH.cons rfl (fun K hK9 => ?_) AllReadyH.nil)
   ·have hA := hHeld2
    have oA := ho2
    go_simp
    go_wp2_with fail
    refine (add_ok _ (HT.out.kept (hk.trans (hK2.trans hA.1))) true [3] 0 (by decide) vldx (some ⟨g, 0, none⟩) cp false [1] 0 (by decide) vld1 (some ⟨g2, 0, none⟩) cp2 ((HO.out.kept (hK2.trans hA.1)).sl) oA.sl _ addN_31).mono ?_
    rintro e w3 ⟨v, rfl, hN3, hk3⟩
    obtain ⟨g3, cp3, rfl, hg3, ho3⟩ := hN3.some
    refine hK9.out _ _ (HX2.out _ (hA.1.trans hk3)) (fun hHeld3 => ?_)
    clear hK9 K hN3
    refine tk (i := 3) (v := ?_) rfl ?_
    simp only [Act.put, zA, zB, zC, zD, zE, zF]
    refine tk (i := 4) (v := ?_) rfl ?_
    simp only [Act.put, zA, zB, zC, zD, zE, zF]
    refine tk (i := 5) (v := ?_) rfl ?_
    simp only [Act.put, zA, zB, zC, zD, zE, zF]
    refine wpAnyH_ready (rs := [6]) (by kernel_rfl) (by simp) ?_
    refine AllReadyH.cons rfl (fun K hK9 => ?_) AllReadyH.nil
    go_simp
    refine hK9.out _ _ (HX2.out _ (hHeld3.1.alloc _ _)) (fun hHeld4 => ?_)
    clear hK9 K
    have HB : (w1.alloc (.cells #[.bool true, .slice (some ⟨g, 0, none⟩) 1 cp, .int .i64 0] 29)).heap.size ≤ w3.heap.size := hHeld3.1.below.size
    have b0 : (w3.alloc nilNum).cell? ⟨w3.heap.size, 0, none⟩ = some (.bool false) := by simp [go_sem]
    have b1 : (w3.alloc nilNum).cell? ⟨w3.heap.size, 1, none⟩ = some (.slice none 0 0) := by simp [go_sem]
    have b2 : (w3.alloc nilNum).cell? ⟨w3.heap.size, 2, none⟩ = some (.int .i64 0) := by simp [go_sem]
    have hl3 := ho3.lt
    refine wpAnyH_ready (rs := [7]) (by kernel_rfl) (by simp) ?_
    refine AllReadyH.cons rfl (fun K hK9 => ?_) AllReadyH.nil
    go_simp
    have kF := hHeld3.1.alloc #[.bool true, .slice (some ⟨g3, 0, none⟩) 1 cp3, .int .i64 1] 29
    refine hK9.out _ _ (HX2.out _ kF) (fun hHeld9 => ?_)
    clear hK9 K
    refine tk (i := 8) (v := ?_) rfl ?_
    simp only [Act.put, zA, zB, zC, zD, zE, zF]
    refine wpAnyH_done (by kernel_rfl) ?_ _
    (try simp only [List.getElem_toArray, List.getElem_cons_succ, List.getElem_cons_zero, List.setIfInBounds_toArray, List.set_cons_zero, List.set_cons_succ])
    go_wp2_with fail
    go_meet
    case rel => exact ⟨w3.heap.size, g3, cp3, rfl, rfl, by simp [go_sem], by simp [go_sem], by simp [go_sem], by simp, ho3.kept ((Kept.refl w3).alloc _ _), kF⟩
   ·go_simp
    refine hK9.out _ _ (HX2.out _ (hHeld2.1.alloc _ _)) (fun hA => ?_)
    clear hK9 K
    have oA := ho2.kept ((Kept.refl w2).alloc #[.bool false, .slice none 0 0, .int .i64 0] 29)
    refine wpAnyH_ready (rs := [2]) (by kernel_rfl) (by simp) ?_
    refine AllReadyH.cons rfl (fun K hK9 => ?_) AllReadyH.nil
    go_simp
    go_wp2_with fail
    refine (add_ok _ (HT.out.kept (hk.trans (hK2.trans hA.1))) true [3] 0 (by decide) vldx (some ⟨g, 0, none⟩) cp false [1] 0 (by decide) vld1 (some ⟨g2, 0, none⟩) cp2 ((HO.out.kept (hK2.trans hA.1)).sl) oA.sl _ addN_31).mono ?_
    rintro e w3 ⟨v, rfl, hN3, hk3⟩
    obtain ⟨g3, cp3, rfl, hg3, ho3⟩ := hN3.some
    refine hK9.out _ _ (HX2.out _ (hA.1.trans hk3)) (fun hHeld3 => ?_)
    clear hK9 K hN3
    refine tk (i := 3) (v := ?_) rfl ?_
    simp only [Act.put, zA, zB, zC, zD, zE, zF]
    refine tk (i := 4) (v := ?_) rfl ?_
    simp only [Act.put, zA, zB, zC, zD, zE, zF]
    refine tk (i := 5) (v := ?_) rfl ?_
    simp only [Act.put, zA, zB, zC, zD, zE, zF]
    have b0 : w3.cell? ⟨w2.heap.size, 0, none⟩ = some (.bool false) := (laid_cell hk3 0).trans (by simp [go_sem])
    have b1 : w3.cell? ⟨w2.heap.size, 1, none⟩ = some (.slice none 0 0) := (laid_cell hk3 1).trans (by simp [go_sem])
    have b2 : w3.cell? ⟨w2.heap.size, 2, none⟩ = some (.int .i64 0) := (laid_cell hk3 2).trans (by simp [go_sem])
    have bf : ∀ o, w3.frozen? ⟨w2.heap.size, o, none⟩ = false := fun o => (hk3.frozen _).trans (by simp [go_sem])
    have HB : (w1.alloc (.cells #[.bool true, .slice (some ⟨g, 0, none⟩) 1 cp, .int .i64 0] 29)).heap.size ≤ w2.heap.size := hHeld2.1.below.size
    have hl3 := ho3.lt
    have hll := hk3.below.size
    try simp only [World.size_alloc] at hll hg3
    refine wpAnyH_ready (rs := [7]) (by kernel_rfl) (by simp) ?_
    refine AllReadyH.cons rfl (fun K hK9 => ?_) AllReadyH.nil
    go_simp
    have kF := (hHeld3.1).setCell (p := ⟨w2.heap.size, 0, none⟩) HB (.bool true) |>.setCell (p := ⟨w2.heap.size, 1, none⟩) HB (.slice (some ⟨g3, 0, none⟩) 1 cp3) |>.setCell (p := ⟨w2.heap.size, 2, none⟩) HB (.int .i64 1)
    refine hK9.out _ _ (HX2.out _ kF) (fun hHeld9 => ?_)
    clear hK9 K
    refine tk (i := 8) (v := ?_) rfl ?_
    simp only [Act.put, zA, zB, zC, zD, zE, zF]
    refine wpAnyH_done (by kernel_rfl) ?_ _
    (try simp only [List.getElem_toArray, List.getElem_cons_succ, List.getElem_cons_zero, List.setIfInBounds_toArray, List.set_cons_zero, List.set_cons_succ])
    go_wp2_with fail
    go_meet
    case rel => exact ⟨w2.heap.size, g3, cp3, rfl, rfl, by simp [go_sem, b0, b1, b2], by simp [go_sem, b0, b1, b2], by simp [go_sem, b0, b1, b2], by simp; omega, (((ho3).setOther (by simp; omega) _).setOther (by simp; omega) _).setOther (by simp; omega) _, kF⟩
  ·go_simp
   refine hK9.out _ _ (HX2.out _ (hHeld.1.alloc _ _)) (fun hI => ?_)
   clear hK9 K
   refine wpAnyH_ready (rs := [1]) (by kernel_rfl) (by simp) ?_
   refine AllReadyH.cons rfl (fun K hK9 => ?_) AllReadyH.nil
   go_simp
   go_wp2_with fail
   refine (int_pos 1 (by decide) (by decide) _ frm_1 _ (HT.out.kept (hk.trans (hK2.trans hI.1)))).mono ?_
   rintro e w2 ⟨⟨v, rfl, hN2⟩, hk2⟩
   obtain ⟨g2, cp2, rfl, -, ho2⟩ := hN2.some
   refine hK9.out _ _ (HX2.out _ (hI.1.trans hk2)) (fun hHeld2 => ?_)
   clear hK9 K hN2
   refine wpAnyH_ready (rs := [2]) (by kernel_rfl) (by simp) ?_
   refine AllReadyH.cons rfl (fun K hK9 => ?_) AllReadyH.nil
   have hA := hHeld2
   have oA := ho2
   go_simp
   go_wp2_with fail
   refine (add_ok _ (HT.out.kept (hk.trans (hK2.trans hA.1))) true [3] 0 (by decide) vldx (some ⟨g, 0, none⟩) cp false [1] 0 (by decide) vld1 (some ⟨g2, 0, none⟩) cp2 ((HO.out.kept (hK2.trans hA.1)).sl) oA.sl _ addN_31).mono ?_
   rintro e w3 ⟨v, rfl, hN3, hk3⟩
   obtain ⟨g3, cp3, rfl, hg3, ho3⟩ := hN3.some
   refine hK9.out _ _ (HX2.out _ (hA.1.trans hk3)) (fun hHeld3 => ?_)
   clear hK9 K hN3
   refine tk (i := 3) (v := ?_) rfl ?_
   simp only [Act.put, zA, zB, zC, zD, zE, zF]
   refine tk (i := 4) (v := ?_) rfl ?_
   simp only [Act.put, zA, zB, zC, zD, zE, zF]
   refine tk (i := 5) (v := ?_) rfl ?_
   simp only [Act.put, zA, zB, zC, zD, zE, zF]
   have hk23 := hk2.trans hk3
   have b0 : w3.cell? ⟨w1.heap.size + 1, 0, none⟩ = some (.bool false) := (hk23.below.cell (p := ⟨w1.heap.size + 1, 0, none⟩) (by simp)).trans (by simp [go_sem])
   have b1 : w3.cell? ⟨w1.heap.size + 1, 1, none⟩ = some (.slice none 0 0) := (hk23.below.cell (p := ⟨w1.heap.size + 1, 1, none⟩) (by simp)).trans (by simp [go_sem])
   have b2 : w3.cell? ⟨w1.heap.size + 1, 2, none⟩ = some (.int .i64 0) := (hk23.below.cell (p := ⟨w1.heap.size + 1, 2, none⟩) (by simp)).trans (by simp [go_sem])
   have bf : ∀ o, w3.frozen? ⟨w1.heap.size + 1, o, none⟩ = false := fun o => (hk23.frozen _).trans (by simp [go_sem])
   have HB : (w1.alloc (.cells #[.bool true, .slice (some ⟨g, 0, none⟩) 1 cp, .int .i64 0] 29)).heap.size ≤ w1.heap.size + 1 := by simp
   have hl3 := ho3.lt
   have hll := hk2.below.size
   have hlm := hk3.below.size
   try simp only [World.size_alloc] at hll hg3
   have hle : w1.heap.size + 2 ≤ w2.heap.size := by simpa using hll
   refine wpAnyH_ready (rs := [7]) (by kernel_rfl) (by simp) ?_
   refine AllReadyH.cons rfl (fun K hK9 => ?_) AllReadyH.nil
   go_simp
   have kF := (hHeld3.1).setCell (p := ⟨w1.heap.size + 1, 0, none⟩) HB (.bool true) |>.setCell (p := ⟨w1.heap.size + 1, 1, none⟩) HB (.slice (some ⟨g3, 0, none⟩) 1 cp3) |>.setCell (p := ⟨w1.heap.size + 1, 2, none⟩) HB (.int .i64 1)
   refine hK9.out _ _ (HX2.out _ kF) (fun hHeld9 => ?_)
   clear hK9 K
   refine tk (i := 8) (v := ?_) rfl ?_
   simp only [Act.put, zA, zB, zC, zD, zE, zF]
   refine wpAnyH_done (by kernel_rfl) ?_ _
   (try simp only [List.getElem_toArray, List.getElem_cons_succ, List.getElem_cons_zero, List.setIfInBounds_toArray, List.set_cons_zero, List.set_cons_succ])
   go_wp2_with fail
   go_meet
   case rel => exact ⟨w1.heap.size + 1, g3, cp3, rfl, rfl, by simp [go_sem, b0, b1, b2], by simp [go_sem, b0, b1, b2], by simp [go_sem, b0, b1, b2], by simp; omega, (((ho3).setOther (by simp; omega) _).setOther (by simp; omega) _).setOther (by simp; omega) _, kF⟩
 case rest =>
  obtain ⟨B, g3, cp3, rfl, rfl, s0, s1, s2, hB, ho3, hkx⟩ := hcut
  have HO3 : Hid (Own wc g3 cp3 [1]) := ho3
  have hkw : Kept w wc := hk.trans (hK2.trans hkx)
  clear ho3
  go_wp2_with fail
  refine (int_pos 1 (by decide) (by decide) _ frm_1 _ (HT.out.kept hkw)).mono ?_
  rintro e v1 ⟨⟨v, rfl, hN1⟩, hv1⟩
  obtain ⟨ga, ca, rfl, -, hoa⟩ := hN1.some
  have HA : Hid (Own v1 ga ca [1]) := hoa
  clear hN1 hoa
  go_wp2_with fail
  refine (int_pos 3 (by decide) (by decide) _ frm_3 _ (HT.out.kept (hkw.trans hv1))).mono ?_
  rintro e v2 ⟨⟨v, rfl, hN2⟩, hv2⟩
  obtain ⟨gb, cb, rfl, -, hob⟩ := hN2.some
  have HB : Hid (Own v2 gb cb [3]) := hob
  clear hN2 hob
  go_wp2_with fail
  refine (quot_third2 (some ⟨ga, 0, none⟩) (some ⟨gb, 0, none⟩) ca cb v2 ((HA.out.kept hv2).sl) HB.out.sl (HT.out.kept (hkw.trans (hv1.trans hv2)))).mono ?_
  rintro e v3 ⟨rfl, hv3⟩
  have h13 := hv1.trans (hv2.trans hv3)
  have c0 := (h13.below.cell (p := ⟨B, 0, none⟩) hB).trans s0
  have c1 := (h13.below.cell (p := ⟨B, 1, none⟩) hB).trans s1
  have c2 := (h13.below.cell (p := ⟨B, 2, none⟩) hB).trans s2
  obtain ⟨-, d0, d1, d2⟩ := HX2.out _ (hkx.trans h13)
  have hBv : B < v3.heap.size := Nat.lt_of_lt_of_le hB h13.below.size
  have HO3' : Hid (Own v3 g3 cp3 [1]) := HO3.out.kept h13
  have HO' : Hid (Own v3 g cp [3]) := HO.out.kept (hK2.trans (hkx.trans h13))
  have hkv : Kept w v3 := hkw.trans h13
  have S0 : Hid (∀ u, Kept v3 u → u.cell? ⟨B, 0, none⟩ = some (.bool true) ∧ u.cell? ⟨B, 1, none⟩ = some (.slice (some ⟨g3, 0, none⟩) 1 cp3) ∧ u.cell? ⟨B, 2, none⟩ = some (.int .i64 1)) := fun u k => ⟨(k.below.cell (p := ⟨B, 0, none⟩) hBv).trans c0, (k.below.cell (p := ⟨B, 1, none⟩) hBv).trans c1, (k.below.cell (p := ⟨B, 2, none⟩) hBv).trans c2⟩
  clear s0 s1 s2 c0 c1 c2
  go_wp2_with fail
  refine (sameNum_true ⟨true, [3], 0⟩ (by decide) _ _ _ ⟨_, rfl, (HO'.out.kept ((Kept.refl v3).alloc _ _)).sl⟩ ⟨_, rfl, (own_one v3 3).sl⟩).mono ?_
  rintro e v4 ⟨rfl, hv4⟩
  have h34 : Kept v3 v4 := ((Kept.refl v3).alloc _ _).trans hv4
  clear d0 d1 d2
  obtain ⟨c0, c1, c2⟩ := S0.out _ h34
  go_wp2_with fail
  refine (sameNum_true ⟨true, [1], 1⟩ (by decide) _ _ _ ⟨_, rfl, (HO3'.out.kept (h34.alloc _ _)).sl⟩ ⟨_, rfl, (own_one v4 1).sl⟩).mono ?_
  rintro e v5 ⟨rfl, hv5⟩
  go_wp2
  go_ret
  exact ⟨rfl, hkv.trans ((h34.alloc _ _).trans hv5)⟩
end Go.Proofs.YtbffekcjdcihpaaGreatDoor
