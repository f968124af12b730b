/- The walk of the statement on limits. -/
import Derived.Test.YtbfjnihjookkjaaDoorQ9
import Derived.Test.YtbfjnihjookkjaaDoorM1
import Derived.Test.YtbfjnihjookkjaaDoorV1
namespace Go.Proofs.YtbfjnihjookkjaaDoor
open Go.ChangeShapes Go.WideShapes Go.ChangeAt Go.RowKit
set_option linter.unusedVariables false
set_option linter.unusedSimpArgs false

theorem new_zero {w0 w : World} {v : Value} (h : New w0 w v ⟨false, [], 0⟩) : v = zeroNum := by
  rcases h with ⟨-, h⟩ | ⟨g, cap, -, -, -, h⟩
  · exact h
  · exact absurd rfl h
theorem new_many {w0 w : World} {v : Value} {neg : Bool} {L : List Int} {x : Int} (hne : L ≠ []) (h : New w0 w v ⟨neg, L, x⟩) : ∃ g cap, v = .agg #[.bool neg, .slice (some ⟨g, 0, none⟩) L.length cap, .int .i64 x] ∧ w0.heap.size ≤ g ∧ Own w g cap L := by
  rcases h with ⟨h, -⟩ | ⟨g, cap, e, hg, ho, -⟩
  · cases h; exact absurd rfl hne
  · exact ⟨g, cap, e, hg, ho⟩
/-- A number that was laid in a block of its own is there as long as nothing old is turned. -/
theorem num_laid {w u : World} {a b c : Value} {t : TypeId} (k : Kept (w.alloc (.cells #[a, b, c] t)) u) : u.cell? ⟨w.heap.size, 0, none⟩ = some a ∧ u.cell? ⟨w.heap.size, 1, none⟩ = some b ∧ u.cell? ⟨w.heap.size, 2, none⟩ = some c :=
  ⟨(laid_cell k 0).trans (by simp [go_sem]), (laid_cell k 1).trans (by simp [go_sem]), (laid_cell k 2).trans (by simp [go_sem])⟩

structure Full (F : List Int) : Prop where
  len : F.length = 2000
  ne : F ≠ []
  dg : Dg F
  vl : vld ⟨false, F, 0⟩ = true
  fr : frm false (nv F) 0 = some ⟨false, F, 0⟩
  a1 : addN ⟨false, F, 0⟩ ⟨false, [1], 0⟩ = some ⟨false, [1], 60000⟩
  a2 : addN ⟨false, F, 0⟩ ⟨false, [1], 1⟩ = none
theorem full_is (n : Nat) (hn : 30 * n = 60000) : Full (List.replicate n 1073741823) :=
  ⟨by rw [List.length_replicate]; omega, full_ne n (by omega), dg_full n, vld_full n (by omega) (by omega), frm_full n (by omega) (by omega), addN_full_1 n hn, addN_full_2 n hn⟩
theorem make_full (F : List Int) (hF : Full F) (g : Nat) (w : World) (h : Own w g 2000 F) (hT : Tab w) : Calls Tryd.prog 27 #[.bool false, .slice (some ⟨g, 0, none⟩) 2000 2000, .int .i64 0] w fun e w' => ∃ v, e = .returned (.tuple #[v, .int .i64 0]) ∧ New w w' v ⟨false, F, 0⟩ ∧ Kept w w' := by
  have := make_ok false F hF.dg (by rw [hF.len]; exact Nat.le_refl _) (some ⟨g, 0, none⟩) 2000 (by simp) 0 _ hF.fr w h.sl hT
  rw [hF.len] at this
  exact this
theorem new_full {F : List Int} (hF : Full F) {w0 w : World} {v : Value} (h : New w0 w v ⟨false, F, 0⟩) : ∃ g cap, v = .agg #[.bool false, .slice (some ⟨g, 0, none⟩) 2000 cap, .int .i64 0] ∧ Own w g cap F := by
  obtain ⟨g, cap, e, -, ho⟩ := new_many hF.ne h
  rw [hF.len] at e
  exact ⟨g, cap, e, ho⟩
set_option maxHeartbeats 1000000 in
theorem add_full_no (F : List Int) (hF : Full F) (g c g2 c2 : Nat) (w : World) (h : Own w g c F) (h2 : Own w g2 c2 [1]) (hT : Tab w) : Calls Tryd.prog 16 #[.agg #[.bool false, .slice (some ⟨g, 0, none⟩) 2000 c, .int .i64 0], .agg #[.bool false, .slice (some ⟨g2, 0, none⟩) 1 c2, .int .i64 1]] w fun e w' => e = .returned (.tuple #[zeroNum, .int .i64 2]) ∧ Kept w w' := by
  have := add_no w hT false F 0 hF.ne hF.vl (some ⟨g, 0, none⟩) c false [1] 1 (by decide) (by decide +kernel) (some ⟨g2, 0, none⟩) c2 h.sl h2.sl hF.a2
  rw [hF.len] at this
  exact this
set_option maxHeartbeats 1000000 in
theorem add_full_ok (F : List Int) (hF : Full F) (g c g2 c2 : Nat) (w : World) (h : Own w g c F) (h2 : Own w g2 c2 [1]) (hT : Tab w) : Calls Tryd.prog 16 #[.agg #[.bool false, .slice (some ⟨g, 0, none⟩) 2000 c, .int .i64 0], .agg #[.bool false, .slice (some ⟨g2, 0, none⟩) 1 c2, .int .i64 0]] w fun e w' => ∃ v, e = .returned (.tuple #[v, .int .i64 0]) ∧ New w w' v ⟨false, [1], 60000⟩ ∧ Kept w w' := by
  have := add_ok w hT false F 0 hF.ne hF.vl (some ⟨g, 0, none⟩) c false [1] 0 (by decide) vld1 (some ⟨g2, 0, none⟩) c2 h.sl h2.sl _ hF.a1
  rw [hF.len] at this
  exact this
theorem rg_long {F : List Int} (hF : Full F) : Rg (F ++ [0]) := fun d hd => by
  rcases List.mem_append.1 hd with h | h
  · have := hF.dg d h; omega
  · rw [List.mem_singleton.1 h]; omega
theorem long_len {F : List Int} (hF : Full F) : (F ++ [0]).length = 2001 := by rw [List.length_append, hF.len]; rfl
theorem make_long (F : List Int) (hF : Full F) (g c : Nat) (w : World) (h : Own w g c (F ++ [0])) : Calls Tryd.prog 27 #[.bool false, .slice (some ⟨g, 0, none⟩) 2001 c, .int .i64 0] w fun e w' => e = .returned (.tuple #[zeroNum, .int .i64 7]) ∧ Kept w w' := by
  have := make_bad false (F ++ [0]) (rg_long hF) (by rw [long_len hF]; decide) (.inl (by rw [long_len hF]; decide)) (some ⟨g, 0, none⟩) c 0 w h.sl
  rw [long_len hF] at this
  exact this
theorem append_gen (n : Nat) (hn : n < 100000) (F : List Int) (hl : F.length = n) (g b : Nat) (U : World) (h : Own U g n F) (hb : U.cell? ⟨b, 0, none⟩ = some (.int .i64 0)) : ∃ C V, (∀ ty, (Builtin.append_ #[22, 22] ty #[.slice (some ⟨g, 0, none⟩) n n, .slice (some ⟨b, 0, none⟩) 1 1]).run Tryd.prog U = .ok (.slice (some ⟨U.heap.size, 0, none⟩) (n + 1) C) V) ∧ Own V U.heap.size C (F ++ [0]) ∧ Kept U V := by
  obtain ⟨i, hi, hz, hs, hby⟩ := info_parts (int_info)
  have hlen : (F ++ [0]).length = n + 1 := by rw [List.length_append, hl]; rfl
  obtain ⟨C, hC⟩ : ∃ C, grownCap U (n + 1) n 3 = C := ⟨_, rfl⟩
  have hC4 : n + 1 ≤ C := by rw [← hC]; exact grownCap_ge _ _ _ _
  have hCm : C ≤ maxLen := by rw [← hC]; exact grownCap_le_maxLen _ _ _ _ (by simp [maxLen]; omega)
  have hO := own_grown U.drew (F ++ [0]) C (by rw [hlen]; exact hC4) hCm
  have hK : Kept U (U.drew.alloc (.cells (((F ++ [0]).map (Value.int .i64)).toArray ++ Builtin.zeroCells (Value.int .i64 0).cells (C - (F ++ [0]).length)) 3)) := (Kept.refl U).drew.alloc _ _
  have hsz : U.drew.heap.size = U.heap.size := rfl
  rw [hsz] at hO
  refine ⟨C, _, fun ty => ?_, hO, hK⟩
  have := run_append_grow (P := Tryd.prog) U 22 ty 3 i (.int .i64 0) li_under hi hz ⟨g, 0, none⟩ n n (F.map (Value.int .i64)) (by rw [List.length_map, hl, hs, Nat.mul_one]) (fun j v hj => by
    rw [Addr.add_lit, Nat.zero_add]
    rw [List.getElem?_map] at hj
    by_cases hjl : j < F.length
    · rw [List.getElem?_eq_getElem hjl] at hj
      cases hj
      have h3 := h.cell j hjl
      rw [List.getD_eq_getElem?_getD, List.getElem?_eq_getElem hjl] at h3
      exact h3
    · rw [List.getElem?_eq_none (by omega)] at hj
      cases hj) ⟨b, 0, none⟩ 1 1 [.int .i64 0] (by simp [hs]) (fun j v hj => by
    rcases j with _ | j
    · cases hj; exact hb
    · simp at hj) (by omega) (by omega) (growslice_fits (by omega) (by rw [hby]; omega))
  rw [hC] at this
  rw [this, hlen, List.map_append]
  simp

set_option maxHeartbeats 8000000 in
set_option maxRecDepth 100000 in
theorem limits_true (w : World) (hT : Tab w) : Calls Tryd.prog 8 #[] w fun e w' => e = .returned (.bool true) ∧ Kept w w' := by
  have HT : Hid (∀ u, Kept w u → Tab u) := fun u k => hT.kept k
  clear hT
  have O1 : Hid (Own (w.alloc (.cells #[.int .i64 1] 3)) w.heap.size 1 [1]) := own_one w 1
  have k0 : Kept w (w.alloc (.cells #[.int .i64 1] 3)) := (Kept.refl w).alloc _ _
  go_enter Tryd.func8, Tryd.ntmps8
  go_wp2_with fail
  refine (make_ok false [1] (Dg.cons (by decide) (by decide) Dg.nil) (by decide) (some ⟨w.heap.size, 0, none⟩) 1 (by simp) 1048576 _ (frm_one false 1048576 (by decide) (by decide)) _ O1.out.sl (HT.out _ (k0.trans (Kept.refl _)))).mono ?_
  rintro e w1 ⟨v, rfl, hN, h1⟩
  have k1 : Hid (Kept (w.alloc (.cells #[.int .i64 1] 3)) w1) := h1
  obtain ⟨gt, ct, rfl, -, ot⟩ := new_many (by decide) hN
  have OT : Hid (Own w1 gt ct [1]) := ot
  clear hN ot
  clear h1
  have b1 : Hid (Kept (w.alloc (.cells #[.int .i64 1] 3)) w1) := (Kept.refl _).trans k1.out
  go_wp2_with fail
  have bx1 : Hid (Kept (w.alloc (.cells #[.int .i64 1] 3)) (w1.alloc (.cells #[.bool false, .slice (some ⟨gt, 0, none⟩) 1 ct, .int .i64 1048576] 31))) := b1.out.alloc _ _
  clear b1
  refine (make_no false [1] (Dg.cons (by decide) (by decide) Dg.nil) (by decide) (some ⟨w.heap.size, 0, none⟩) 1 (by simp) (1048577) (frm_one_no false 1048577 (by decide) (by decide) (by decide)) _ (O1.out.kept bx1.out).sl (HT.out _ (k0.trans bx1.out))).mono ?_
  rintro e w2 ⟨rfl, h2⟩
  have k2 : Hid (Kept (w1.alloc (.cells #[.bool false, .slice (some ⟨gt, 0, none⟩) 1 ct, .int .i64 1048576] 31)) w2) := h2
  clear h2
  have b2 : Hid (Kept (w.alloc (.cells #[.int .i64 1] 3)) w2) := bx1.out.trans k2.out
  clear bx1
  have t2 : Hid (Kept (w1.alloc (.cells #[.bool false, .slice (some ⟨gt, 0, none⟩) 1 ct, .int .i64 1048576] 31)) w2) := (Kept.refl (w1.alloc (.cells #[.bool false, .slice (some ⟨gt, 0, none⟩) 1 ct, .int .i64 1048576] 31))).trans k2.out
  go_wp2_with fail
  have bx2 : Hid (Kept (w.alloc (.cells #[.int .i64 1] 3)) (w2.alloc (.cells #[.bool false, .slice none 0 0, .int .i64 0] 31))) := b2.out.alloc _ _
  clear b2
  have tx2 : Hid (Kept (w1.alloc (.cells #[.bool false, .slice (some ⟨gt, 0, none⟩) 1 ct, .int .i64 1048576] 31)) (w2.alloc (.cells #[.bool false, .slice none 0 0, .int .i64 0] 31))) := t2.out.alloc _ _
  clear t2
  have bx3 : Hid (Kept (w.alloc (.cells #[.int .i64 1] 3)) ((w2.alloc (.cells #[.bool false, .slice none 0 0, .int .i64 0] 31)).alloc (.cells #[.int .i64 2] 3))) := bx2.out.alloc _ _
  clear bx2
  have tx3 : Hid (Kept (w1.alloc (.cells #[.bool false, .slice (some ⟨gt, 0, none⟩) 1 ct, .int .i64 1048576] 31)) ((w2.alloc (.cells #[.bool false, .slice none 0 0, .int .i64 0] 31)).alloc (.cells #[.int .i64 2] 3))) := tx2.out.alloc _ _
  clear tx2
  refine (make_no false [2] (Dg.cons (by decide) (by decide) Dg.nil) (by decide) (some ⟨w2.heap.size + 1, 0, none⟩) 1 (by simp) 1048576 frm_two _ (by have h := own_one (w2.alloc (.cells #[.bool false, .slice none 0 0, .int .i64 0] 31)) 2; simp only [World.size_alloc] at h; exact h.sl) (HT.out _ (k0.trans bx3.out))).mono ?_
  rintro e w3 ⟨rfl, h3⟩
  have k3 : Hid (Kept ((w2.alloc (.cells #[.bool false, .slice none 0 0, .int .i64 0] 31)).alloc (.cells #[.int .i64 2] 3)) w3) := h3
  clear h3
  have b3 : Hid (Kept (w.alloc (.cells #[.int .i64 1] 3)) w3) := bx3.out.trans k3.out
  clear bx3
  have t3 : Hid (Kept (w1.alloc (.cells #[.bool false, .slice (some ⟨gt, 0, none⟩) 1 ct, .int .i64 1048576] 31)) w3) := tx3.out.trans k3.out
  clear tx3
  go_wp2_with fail
  have bx4 : Hid (Kept (w.alloc (.cells #[.int .i64 1] 3)) (w3.alloc (.cells #[.bool false, .slice none 0 0, .int .i64 0] 31))) := b3.out.alloc _ _
  clear b3
  have tx4 : Hid (Kept (w1.alloc (.cells #[.bool false, .slice (some ⟨gt, 0, none⟩) 1 ct, .int .i64 1048576] 31)) (w3.alloc (.cells #[.bool false, .slice none 0 0, .int .i64 0] 31))) := t3.out.alloc _ _
  clear t3
  refine (make_ok true [1] (Dg.cons (by decide) (by decide) Dg.nil) (by decide) (some ⟨w.heap.size, 0, none⟩) 1 (by simp) (-1048576) _ (frm_one true (-1048576) (by decide) (by decide)) _ (O1.out.kept bx4.out).sl (HT.out _ (k0.trans bx4.out))).mono ?_
  rintro e w4 ⟨v, rfl, hN, h4⟩
  have k4 : Hid (Kept (w3.alloc (.cells #[.bool false, .slice none 0 0, .int .i64 0] 31)) w4) := h4
  obtain ⟨gl, cl, rfl, -, ol⟩ := new_many (by decide) hN
  have OL : Hid (Own w4 gl cl [1]) := ol
  clear hN ol
  clear h4
  have b4 : Hid (Kept (w.alloc (.cells #[.int .i64 1] 3)) w4) := bx4.out.trans k4.out
  clear bx4
  have t4 : Hid (Kept (w1.alloc (.cells #[.bool false, .slice (some ⟨gt, 0, none⟩) 1 ct, .int .i64 1048576] 31)) w4) := tx4.out.trans k4.out
  clear tx4
  go_wp2_with fail
  have bx5 : Hid (Kept (w.alloc (.cells #[.int .i64 1] 3)) (w4.alloc (.cells #[.bool true, .slice (some ⟨gl, 0, none⟩) 1 cl, .int .i64 (-1048576)] 31))) := b4.out.alloc _ _
  clear b4
  have tx5 : Hid (Kept (w1.alloc (.cells #[.bool false, .slice (some ⟨gt, 0, none⟩) 1 ct, .int .i64 1048576] 31)) (w4.alloc (.cells #[.bool true, .slice (some ⟨gl, 0, none⟩) 1 cl, .int .i64 (-1048576)] 31))) := t4.out.alloc _ _
  clear t4
  refine (make_no true [1] (Dg.cons (by decide) (by decide) Dg.nil) (by decide) (some ⟨w.heap.size, 0, none⟩) 1 (by simp) (-1048577) (frm_one_no true (-1048577) (by decide) (by decide) (by decide)) _ (O1.out.kept bx5.out).sl (HT.out _ (k0.trans bx5.out))).mono ?_
  rintro e w5 ⟨rfl, h5⟩
  have k5 : Hid (Kept (w4.alloc (.cells #[.bool true, .slice (some ⟨gl, 0, none⟩) 1 cl, .int .i64 (-1048576)] 31)) w5) := h5
  clear h5
  have b5 : Hid (Kept (w.alloc (.cells #[.int .i64 1] 3)) w5) := bx5.out.trans k5.out
  clear bx5
  have t5 : Hid (Kept (w1.alloc (.cells #[.bool false, .slice (some ⟨gt, 0, none⟩) 1 ct, .int .i64 1048576] 31)) w5) := tx5.out.trans k5.out
  clear tx5
  have l5 : Hid (Kept (w4.alloc (.cells #[.bool true, .slice (some ⟨gl, 0, none⟩) 1 cl, .int .i64 (-1048576)] 31)) w5) := (Kept.refl (w4.alloc (.cells #[.bool true, .slice (some ⟨gl, 0, none⟩) 1 cl, .int .i64 (-1048576)] 31))).trans k5.out
  have bx6 : Hid (Kept (w.alloc (.cells #[.int .i64 1] 3)) (w5.alloc (.cells #[.bool false, .slice none 0 0, .int .i64 0] 31))) := b5.out.alloc _ _
  clear b5
  have tx6 : Hid (Kept (w1.alloc (.cells #[.bool false, .slice (some ⟨gt, 0, none⟩) 1 ct, .int .i64 1048576] 31)) (w5.alloc (.cells #[.bool false, .slice none 0 0, .int .i64 0] 31))) := t5.out.alloc _ _
  clear t5
  have lx6 : Hid (Kept (w4.alloc (.cells #[.bool true, .slice (some ⟨gl, 0, none⟩) 1 cl, .int .i64 (-1048576)] 31)) (w5.alloc (.cells #[.bool false, .slice none 0 0, .int .i64 0] 31))) := l5.out.alloc _ _
  clear l5
  obtain ⟨p0, p1, p2⟩ := num_laid tx6.out
  go_wp2_with fail
  refine (scale_no false [1] (Dg.rg (Dg.cons (by decide) (by decide) Dg.nil)) (by decide) (some ⟨gt, 0, none⟩) ct (by simp) 1048576 1 1048577 (by decide) (by unfold wrap64; decide) vld_top (frm_one_no false 1048577 (by decide) (by decide) (by decide)) _ (OT.out.kept (((Kept.refl w1).alloc _ _).trans tx6.out)).sl (HT.out _ (k0.trans bx6.out))).mono ?_
  rintro e w6 ⟨rfl, h6⟩
  have k6 : Hid (Kept (w5.alloc (.cells #[.bool false, .slice none 0 0, .int .i64 0] 31)) w6) := h6
  clear h6
  have b6 : Hid (Kept (w.alloc (.cells #[.int .i64 1] 3)) w6) := bx6.out.trans k6.out
  clear bx6
  have t6 : Hid (Kept (w1.alloc (.cells #[.bool false, .slice (some ⟨gt, 0, none⟩) 1 ct, .int .i64 1048576] 31)) w6) := tx6.out.trans k6.out
  clear tx6
  have l6 : Hid (Kept (w4.alloc (.cells #[.bool true, .slice (some ⟨gl, 0, none⟩) 1 cl, .int .i64 (-1048576)] 31)) w6) := lx6.out.trans k6.out
  clear lx6
  clear p0 p1 p2
  have bx7 : Hid (Kept (w.alloc (.cells #[.int .i64 1] 3)) (w6.alloc (.cells #[.bool false, .slice none 0 0, .int .i64 0] 31))) := b6.out.alloc _ _
  clear b6
  have tx7 : Hid (Kept (w1.alloc (.cells #[.bool false, .slice (some ⟨gt, 0, none⟩) 1 ct, .int .i64 1048576] 31)) (w6.alloc (.cells #[.bool false, .slice none 0 0, .int .i64 0] 31))) := t6.out.alloc _ _
  clear t6
  have lx7 : Hid (Kept (w4.alloc (.cells #[.bool true, .slice (some ⟨gl, 0, none⟩) 1 cl, .int .i64 (-1048576)] 31)) (w6.alloc (.cells #[.bool false, .slice none 0 0, .int .i64 0] 31))) := l6.out.alloc _ _
  clear l6
  obtain ⟨q0, q1, q2⟩ := num_laid lx7.out
  go_wp2_with fail
  refine (mul_no _ true [1] (-1048576) (by decide) vld_low (some ⟨gl, 0, none⟩) cl true [1] (-1048576) (by decide) vld_low (some ⟨gl, 0, none⟩) cl (OL.out.kept (((Kept.refl w4).alloc _ _).trans lx7.out)).sl (OL.out.kept (((Kept.refl w4).alloc _ _).trans lx7.out)).sl (by decide)).mono ?_
  rintro e w7 ⟨rfl, h7⟩
  have k7 : Hid (Kept (w6.alloc (.cells #[.bool false, .slice none 0 0, .int .i64 0] 31)) w7) := h7
  clear h7
  have b7 : Hid (Kept (w.alloc (.cells #[.int .i64 1] 3)) w7) := bx7.out.trans k7.out
  clear bx7
  have t7 : Hid (Kept (w1.alloc (.cells #[.bool false, .slice (some ⟨gt, 0, none⟩) 1 ct, .int .i64 1048576] 31)) w7) := tx7.out.trans k7.out
  clear tx7
  have l7 : Hid (Kept (w4.alloc (.cells #[.bool true, .slice (some ⟨gl, 0, none⟩) 1 cl, .int .i64 (-1048576)] 31)) w7) := lx7.out.trans k7.out
  clear lx7
  clear q0 q1 q2
  have bx8 : Hid (Kept (w.alloc (.cells #[.int .i64 1] 3)) (w7.alloc (.cells #[.bool false, .slice none 0 0, .int .i64 0] 31))) := b7.out.alloc _ _
  clear b7
  have tx8 : Hid (Kept (w1.alloc (.cells #[.bool false, .slice (some ⟨gt, 0, none⟩) 1 ct, .int .i64 1048576] 31)) (w7.alloc (.cells #[.bool false, .slice none 0 0, .int .i64 0] 31))) := t7.out.alloc _ _
  clear t7
  have lx8 : Hid (Kept (w4.alloc (.cells #[.bool true, .slice (some ⟨gl, 0, none⟩) 1 cl, .int .i64 (-1048576)] 31)) (w7.alloc (.cells #[.bool false, .slice none 0 0, .int .i64 0] 31))) := l7.out.alloc _ _
  clear l7
  go_wp2_with fail
  refine (scale_ok false [] (fun d h => by cases h) (by decide) none 0 (fun _ => rfl) 0 4611686018427387904 4611686018427387904 (by decide) (by unfold wrap64; decide) (by decide) _ (frm_nil false _) _ ⟨none, 0, rfl, Nat.le_refl _, by simp [maxLen], fun h => absurd rfl h⟩ (HT.out _ (k0.trans bx8.out))).mono ?_
  rintro e w8 ⟨v, rfl, hN, h8⟩
  have k8 : Hid (Kept (w7.alloc (.cells #[.bool false, .slice none 0 0, .int .i64 0] 31)) w8) := h8
  obtain rfl := new_zero hN
  clear hN
  clear h8
  have b8 : Hid (Kept (w.alloc (.cells #[.int .i64 1] 3)) w8) := bx8.out.trans k8.out
  clear bx8
  have t8 : Hid (Kept (w1.alloc (.cells #[.bool false, .slice (some ⟨gt, 0, none⟩) 1 ct, .int .i64 1048576] 31)) w8) := tx8.out.trans k8.out
  clear tx8
  have l8 : Hid (Kept (w4.alloc (.cells #[.bool true, .slice (some ⟨gl, 0, none⟩) 1 cl, .int .i64 (-1048576)] 31)) w8) := lx8.out.trans k8.out
  clear lx8
  have bx9 : Hid (Kept (w.alloc (.cells #[.int .i64 1] 3)) (w8.alloc (.cells #[.bool false, .slice none 0 0, .int .i64 0] 31))) := b8.out.alloc _ _
  clear b8
  have tx9 : Hid (Kept (w1.alloc (.cells #[.bool false, .slice (some ⟨gt, 0, none⟩) 1 ct, .int .i64 1048576] 31)) (w8.alloc (.cells #[.bool false, .slice none 0 0, .int .i64 0] 31))) := t8.out.alloc _ _
  clear t8
  have lx9 : Hid (Kept (w4.alloc (.cells #[.bool true, .slice (some ⟨gl, 0, none⟩) 1 cl, .int .i64 (-1048576)] 31)) (w8.alloc (.cells #[.bool false, .slice none 0 0, .int .i64 0] 31))) := l8.out.alloc _ _
  clear l8
  obtain ⟨MC, hMC⟩ : ∃ MC, MC = madeCells #[.int .i64 0] 2000 := ⟨_, rfl⟩
  have HM : ∀ u : World, (Instr.makeSlice 22 (.int .i64 2000) (.int .i64 2000)).run Tryd.prog u = .ok (.slice (some ⟨u.heap.size, 0, none⟩) 2000 2000) (u.alloc (.cells MC 3)) := fun u => by rw [hMC]; exact make_run 2000 (by decide) u
  have OM : Hid (Own ((w8.alloc (.cells #[.bool false, .slice none 0 0, .int .i64 0] 31)).alloc (.cells MC 3)) (w8.alloc (.cells #[.bool false, .slice none 0 0, .int .i64 0] 31)).heap.size 2000 (List.replicate 2000 0)) := by rw [hMC]; exact own_made 2000 (by decide) _
  clear hMC
  go_wp2
  (try simp only [World.size_alloc] at OM)
  go_loopw [19] (fun i wr => ∃ k : Nat, k ≤ 2000 ∧ i = .int .i64 k ∧ Own wr (w8.heap.size + 1) 2000 (List.replicate k 1073741823 ++ List.replicate (2000 - k) 0) ∧ Grw (w8.heap.size + 1) ((w8.alloc (.cells #[.bool false, .slice none 0 0, .int .i64 0] 31)).alloc (.cells MC 3)) wr) (fun i _ => 2000 - (intOf i).toNat)
  case atStart => exact ⟨0, Nat.zero_le _, rfl, by simpa using OM.out, Grw.refl _ _⟩
  case round =>
    obtain ⟨k, hk, rfl, hO, hG⟩ := hrel
    by_cases hkn : k < 2000
    · have HO2 : Hid (Own wr (w8.heap.size + 1) 2000 (List.replicate k 1073741823 ++ List.replicate (2000 - k) 0)) := hO
      have HG : Hid (Grw (w8.heap.size + 1) ((w8.alloc (.cells #[.bool false, .slice none 0 0, .int .i64 0] 31)).alloc (.cells MC 3)) wr) := hG
      have hlen : (List.replicate k (1073741823 : Int) ++ List.replicate (2000 - k) 0).length = 2000 := by simp; omega
      have hcc := hO.cell k (by rw [hlen]; exact hkn)
      have hff := hO.free k
      generalize (List.replicate k (1073741823 : Int) ++ List.replicate (2000 - k) 0).getD k 0 = dd at hcc
      clear hO hG hlen
      go_wp2
      go_roundw
      case rel =>
        have h2 := HO2.out.set k 1073741823
        obtain ⟨m, hm⟩ : ∃ m, 2000 - k = m + 1 := ⟨2000 - k - 1, by omega⟩
        rw [hm, List.replicate_succ, set_app _ _ _ _ _ (by simp)] at h2
        refine ⟨k + 1, by omega, by go_num, ?_, HG.out.setCell _ _⟩
        rw [show 2000 - (k + 1) = m by omega, List.replicate_succ']
        exact h2
      case measure => simp [intOf]; omega
    · obtain rfl : k = 2000 := by omega
      obtain ⟨F, hF⟩ : ∃ F, F = List.replicate 2000 (1073741823 : Int) := ⟨_, rfl⟩
      have FF : Hid (Full F) := by rw [hF]; exact full_is 2000 rfl
      have OF : Hid (Own wr (w8.heap.size + 1) 2000 F) := by have h2 := hO; rw [Nat.sub_self, List.replicate_zero, List.append_nil, ← hF] at h2; exact h2
      have GF : Hid (Grw (w8.heap.size + 1) ((w8.alloc (.cells #[.bool false, .slice none 0 0, .int .i64 0] 31)).alloc (.cells MC 3)) wr) := hG
      clear hO hG HM OM hF
      have bg : Hid (Kept (w.alloc (.cells #[.int .i64 1] 3)) wr) := (bx9.out.alloc _ _).grw (by have hq := bx9.out.below.size; simp only [World.size_alloc] at hq ⊢; omega) GF.out
      have tg : Hid (Kept (w1.alloc (.cells #[.bool false, .slice (some ⟨gt, 0, none⟩) 1 ct, .int .i64 1048576] 31)) wr) := (tx9.out.alloc _ _).grw (by have hq := tx9.out.below.size; simp only [World.size_alloc] at hq ⊢; omega) GF.out
      have lg : Hid (Kept (w4.alloc (.cells #[.bool true, .slice (some ⟨gl, 0, none⟩) 1 cl, .int .i64 (-1048576)] 31)) wr) := (lx9.out.alloc _ _).grw (by have hq := lx9.out.below.size; simp only [World.size_alloc] at hq ⊢; omega) GF.out
      have zg : Hid (Kept (w8.alloc (.cells #[.bool false, .slice none 0 0, .int .i64 0] 31)) wr) := ((Kept.refl (w8.alloc (.cells #[.bool false, .slice none 0 0, .int .i64 0] 31))).alloc _ _).grw (by have hq := (Kept.refl (w8.alloc (.cells #[.bool false, .slice none 0 0, .int .i64 0] 31))).below.size; simp only [World.size_alloc] at hq ⊢; omega) GF.out
      go_wp2_with fail
      refine (make_full F FF.out _ _ OF.out (HT.out _ (k0.trans bg.out))).mono ?_
      rintro e w9 ⟨v, rfl, hN, h9⟩
      have k9 : Hid (Kept wr w9) := h9
      obtain ⟨gn, cn, rfl, on⟩ := new_full FF.out hN
      have ON : Hid (Own w9 gn cn F) := on
      have OF9 : Hid (Own w9 (w8.heap.size + 1) 2000 F) := OF.out.kept k9.out
      clear hN on OF
      clear h9
      have b9 : Hid (Kept (w.alloc (.cells #[.int .i64 1] 3)) w9) := bg.out.trans k9.out
      clear bg
      have t9 : Hid (Kept (w1.alloc (.cells #[.bool false, .slice (some ⟨gt, 0, none⟩) 1 ct, .int .i64 1048576] 31)) w9) := tg.out.trans k9.out
      clear tg
      have l9 : Hid (Kept (w4.alloc (.cells #[.bool true, .slice (some ⟨gl, 0, none⟩) 1 cl, .int .i64 (-1048576)] 31)) w9) := lg.out.trans k9.out
      clear lg
      have z9 : Hid (Kept (w8.alloc (.cells #[.bool false, .slice none 0 0, .int .i64 0] 31)) w9) := zg.out.trans k9.out
      clear zg
      have bx10 : Hid (Kept (w.alloc (.cells #[.int .i64 1] 3)) (w9.alloc (.cells #[.bool false, .slice (some ⟨gn, 0, none⟩) 2000 cn, .int .i64 0] 31))) := b9.out.alloc _ _
      clear b9
      have tx10 : Hid (Kept (w1.alloc (.cells #[.bool false, .slice (some ⟨gt, 0, none⟩) 1 ct, .int .i64 1048576] 31)) (w9.alloc (.cells #[.bool false, .slice (some ⟨gn, 0, none⟩) 2000 cn, .int .i64 0] 31))) := t9.out.alloc _ _
      clear t9
      have lx10 : Hid (Kept (w4.alloc (.cells #[.bool true, .slice (some ⟨gl, 0, none⟩) 1 cl, .int .i64 (-1048576)] 31)) (w9.alloc (.cells #[.bool false, .slice (some ⟨gn, 0, none⟩) 2000 cn, .int .i64 0] 31))) := l9.out.alloc _ _
      clear l9
      have zx10 : Hid (Kept (w8.alloc (.cells #[.bool false, .slice none 0 0, .int .i64 0] 31)) (w9.alloc (.cells #[.bool false, .slice (some ⟨gn, 0, none⟩) 2000 cn, .int .i64 0] 31))) := z9.out.alloc _ _
      clear z9
      have HX2 : Hid (∀ u, Kept (w9.alloc (.cells #[.bool false, .slice (some ⟨gn, 0, none⟩) 2000 cn, .int .i64 0] 31)) u → Kept (w9.alloc (.cells #[.bool false, .slice (some ⟨gn, 0, none⟩) 2000 cn, .int .i64 0] 31)) u ∧ u.cell? ⟨w9.heap.size, 0, none⟩ = some (.bool false) ∧ u.cell? ⟨w9.heap.size, 1, none⟩ = some (.slice (some ⟨gn, 0, none⟩) 2000 cn) ∧ u.cell? ⟨w9.heap.size, 2, none⟩ = some (.int .i64 0)) := fun u k => ⟨k, num_laid k⟩
      have KN : Hid (Kept w (w9.alloc (.cells #[.bool false, .slice (some ⟨gn, 0, none⟩) 2000 cn, .int .i64 0] 31))) := k0.trans bx10.out
      have ONx : Hid (Own (w9.alloc (.cells #[.bool false, .slice (some ⟨gn, 0, none⟩) 2000 cn, .int .i64 0] 31)) gn cn F) := ON.out.kept ((Kept.refl w9).alloc _ _)
      go_upto_region 16 with fail
      go_cut [22, 23] from 89 (fun tb te wx => te = .int .i64 2 ∧ Kept (w9.alloc (.cells #[.bool false, .slice (some ⟨gn, 0, none⟩) 2000 cn, .int .i64 0] 31)) wx)
      case first =>
        refine wp_region_held_drew (S := fun u => Kept (w9.alloc (.cells #[.bool false, .slice (some ⟨gn, 0, none⟩) 2000 cn, .int .i64 0] 31)) u ∧ u.cell? ⟨w9.heap.size, 0, none⟩ = some (.bool false) ∧ u.cell? ⟨w9.heap.size, 1, none⟩ = some (.slice (some ⟨gn, 0, none⟩) 2000 cn) ∧ u.cell? ⟨w9.heap.size, 2, none⟩ = some (.int .i64 0)) (by kernel_rfl) (HX2.out _ (Kept.refl (w9.alloc (.cells #[.bool false, .slice (some ⟨gn, 0, none⟩) 2000 cn, .int .i64 0] 31))).drew) (fun hHeld => ?_)
        refine wpAnyH_take (i := 0) (v := ?_) rfl (by kernel_rfl) (by kernel_rfl) (by kernel_rfl) (fun _ _ _ h => h) (Or.inl ⟨by rfl, ?hyr16a0⟩) (by assumption) ?_
        case hyr16a0 => (intro w hSw; (try dsimp only at hSw); go_simp; try (with_reducible rfl))
        simp only [Act.put, List.getElem_toArray, List.getElem_cons_succ, List.getElem_cons_zero, List.setIfInBounds_toArray, List.set_cons_zero, List.set_cons_succ]
        refine wpAnyH_ready (rs := [1, 6]) (by kernel_rfl) (by simp) ?_
        refine AllReadyH.cons rfl (fun K hK9 => ?_) (AllReadyH.cons rfl (fun K hK9 => ?_) AllReadyH.nil)
        · have hI := hHeld
          go_simp
          go_wp2_with fail
          refine (int_pos 2 (by decide) (by decide) _ frm_int2 _ (HT.out _ (KN.out.trans hI.1))).mono ?_
          rintro e x2 ⟨⟨v, rfl, hN2⟩, hk2⟩
          obtain ⟨g2, cp2, rfl, -, ho2⟩ := new_many (by decide) hN2
          refine hK9.out _ _ (HX2.out _ (hI.1.trans hk2)) (fun hHeld2 => ?_)
          clear hK9 K hN2
          refine wpAnyH_ready (rs := [2, 6]) (by kernel_rfl) (by simp) ?_
          refine AllReadyH.cons rfl (fun K hK9 => ?_) (AllReadyH.cons rfl (fun K hK9 => ?_) AllReadyH.nil)
          · have hA := hHeld2
            have oA := ho2
            go_simp
            go_wp2_with fail
            refine (add_full_no F FF.out gn cn g2 cp2 _ (ONx.out.kept hA.1) oA (HT.out _ (KN.out.trans hA.1))).mono ?_
            rintro e x3 ⟨rfl, hk3⟩
            refine hK9.out _ _ (HX2.out _ (hA.1.trans hk3)) (fun hHeld3 => ?_)
            clear hK9 K
            refine wpAnyH_take (i := 3) (v := ?_) rfl (by kernel_rfl) (by kernel_rfl) (by kernel_rfl) (fun _ _ _ h => h) (Or.inl ⟨by rfl, ?hyr16b3⟩) (by assumption) ?_
            case hyr16b3 => (intro w hSw; (try dsimp only at hSw); go_simp; try (with_reducible rfl))
            simp only [Act.put, List.getElem_toArray, List.getElem_cons_succ, List.getElem_cons_zero, List.setIfInBounds_toArray, List.set_cons_zero, List.set_cons_succ]
            refine wpAnyH_take (i := 4) (v := ?_) rfl (by kernel_rfl) (by kernel_rfl) (by kernel_rfl) (fun _ _ _ h => h) (Or.inl ⟨by rfl, ?hyr16b4⟩) (by assumption) ?_
            case hyr16b4 => (intro w hSw; (try dsimp only at hSw); go_simp; try (with_reducible rfl))
            simp only [Act.put, List.getElem_toArray, List.getElem_cons_succ, List.getElem_cons_zero, List.setIfInBounds_toArray, List.set_cons_zero, List.set_cons_succ]
            refine wpAnyH_take (i := 5) (v := ?_) rfl (by kernel_rfl) (by kernel_rfl) (by kernel_rfl) (fun _ _ _ h => h) (Or.inl ⟨by rfl, ?hyr16b5⟩) (by assumption) ?_
            case hyr16b5 => (intro w hSw; (try dsimp only at hSw); go_simp; try (with_reducible rfl))
            simp only [Act.put, List.getElem_toArray, List.getElem_cons_succ, List.getElem_cons_zero, List.setIfInBounds_toArray, List.set_cons_zero, List.set_cons_succ]
            refine wpAnyH_ready (rs := [6]) (by kernel_rfl) (by simp) ?_
            refine AllReadyH.cons rfl (fun K hK9 => ?_) AllReadyH.nil
            go_simp
            refine hK9.out _ _ (HX2.out _ (hHeld3.1.alloc _ _)) (fun hHeld4 => ?_)
            clear hK9 K
            refine wpAnyH_ready (rs := [7]) (by kernel_rfl) (by simp) ?_
            refine AllReadyH.cons rfl (fun K hK9 => ?_) AllReadyH.nil
            go_simp
            have kF := hHeld3.1.alloc #[.bool false, .slice none 0 0, .int .i64 0] 31
            refine hK9.out _ _ (HX2.out _ kF) (fun hHeld9 => ?_)
            clear hK9 K
            refine wpAnyH_take (i := 8) (v := ?_) rfl (by kernel_rfl) (by kernel_rfl) (by kernel_rfl) (fun _ _ _ h => h) (Or.inl ⟨by rfl, ?hyr16c8⟩) (by assumption) ?_
            case hyr16c8 => (intro w hSw; (try dsimp only at hSw); go_simp; try (with_reducible rfl))
            simp only [Act.put, List.getElem_toArray, List.getElem_cons_succ, List.getElem_cons_zero, List.setIfInBounds_toArray, List.set_cons_zero, List.set_cons_succ]
            refine wpAnyH_done (by kernel_rfl) ?_ _
            (try simp only [List.getElem_toArray, List.getElem_cons_succ, List.getElem_cons_zero, List.setIfInBounds_toArray, List.set_cons_zero, List.set_cons_succ])
            go_wp2_with fail
            go_meet
            case rel => exact ⟨rfl, kF⟩
          · go_simp
            refine hK9.out _ _ (HX2.out _ (hHeld2.1.alloc _ _)) (fun hA => ?_)
            clear hK9 K
            have oA := ho2.kept ((Kept.refl x2).alloc #[.bool false, .slice none 0 0, .int .i64 0] 31)
            refine wpAnyH_ready (rs := [2]) (by kernel_rfl) (by simp) ?_
            refine AllReadyH.cons rfl (fun K hK9 => ?_) AllReadyH.nil
            go_simp
            go_wp2_with fail
            refine (add_full_no F FF.out gn cn g2 cp2 _ (ONx.out.kept hA.1) oA (HT.out _ (KN.out.trans hA.1))).mono ?_
            rintro e x3 ⟨rfl, hk3⟩
            refine hK9.out _ _ (HX2.out _ (hA.1.trans hk3)) (fun hHeld3 => ?_)
            clear hK9 K
            refine wpAnyH_take (i := 3) (v := ?_) rfl (by kernel_rfl) (by kernel_rfl) (by kernel_rfl) (fun _ _ _ h => h) (Or.inl ⟨by rfl, ?hyr16d3⟩) (by assumption) ?_
            case hyr16d3 => (intro w hSw; (try dsimp only at hSw); go_simp; try (with_reducible rfl))
            simp only [Act.put, List.getElem_toArray, List.getElem_cons_succ, List.getElem_cons_zero, List.setIfInBounds_toArray, List.set_cons_zero, List.set_cons_succ]
            refine wpAnyH_take (i := 4) (v := ?_) rfl (by kernel_rfl) (by kernel_rfl) (by kernel_rfl) (fun _ _ _ h => h) (Or.inl ⟨by rfl, ?hyr16d4⟩) (by assumption) ?_
            case hyr16d4 => (intro w hSw; (try dsimp only at hSw); go_simp; try (with_reducible rfl))
            simp only [Act.put, List.getElem_toArray, List.getElem_cons_succ, List.getElem_cons_zero, List.setIfInBounds_toArray, List.set_cons_zero, List.set_cons_succ]
            refine wpAnyH_take (i := 5) (v := ?_) rfl (by kernel_rfl) (by kernel_rfl) (by kernel_rfl) (fun _ _ _ h => h) (Or.inl ⟨by rfl, ?hyr16d5⟩) (by assumption) ?_
            case hyr16d5 => (intro w hSw; (try dsimp only at hSw); go_simp; try (with_reducible rfl))
            simp only [Act.put, List.getElem_toArray, List.getElem_cons_succ, List.getElem_cons_zero, List.setIfInBounds_toArray, List.set_cons_zero, List.set_cons_succ]
            have b0 : x3.cell? ⟨x2.heap.size, 0, none⟩ = some (.bool false) := (laid_cell hk3 0).trans (by simp [go_sem])
            have b1 : x3.cell? ⟨x2.heap.size, 1, none⟩ = some (.slice none 0 0) := (laid_cell hk3 1).trans (by simp [go_sem])
            have b2 : x3.cell? ⟨x2.heap.size, 2, none⟩ = some (.int .i64 0) := (laid_cell hk3 2).trans (by simp [go_sem])
            have bf : ∀ o, x3.frozen? ⟨x2.heap.size, o, none⟩ = false := fun o => (hk3.frozen _).trans (by simp [go_sem])
            have HB : (w9.alloc (.cells #[.bool false, .slice (some ⟨gn, 0, none⟩) 2000 cn, .int .i64 0] 31)).heap.size ≤ x2.heap.size := hHeld2.1.below.size
            have hll := hk3.below.size
            (try simp only [World.size_alloc] at hll)
            refine wpAnyH_ready (rs := [7]) (by kernel_rfl) (by simp) ?_
            refine AllReadyH.cons rfl (fun K hK9 => ?_) AllReadyH.nil
            go_simp
            have kF := hHeld3.1.setCell (p := ⟨x2.heap.size, 0, none⟩) HB (.bool false) |>.setCell (p := ⟨x2.heap.size, 1, none⟩) HB (.slice none 0 0) |>.setCell (p := ⟨x2.heap.size, 2, none⟩) HB (.int .i64 0)
            refine hK9.out _ _ (HX2.out _ kF) (fun hHeld9 => ?_)
            clear hK9 K
            refine wpAnyH_take (i := 8) (v := ?_) rfl (by kernel_rfl) (by kernel_rfl) (by kernel_rfl) (fun _ _ _ h => h) (Or.inl ⟨by rfl, ?hyr16e8⟩) (by assumption) ?_
            case hyr16e8 => (intro w hSw; (try dsimp only at hSw); go_simp; try (with_reducible rfl))
            simp only [Act.put, List.getElem_toArray, List.getElem_cons_succ, List.getElem_cons_zero, List.setIfInBounds_toArray, List.set_cons_zero, List.set_cons_succ]
            refine wpAnyH_done (by kernel_rfl) ?_ _
            (try simp only [List.getElem_toArray, List.getElem_cons_succ, List.getElem_cons_zero, List.setIfInBounds_toArray, List.set_cons_zero, List.set_cons_succ])
            go_wp2_with fail
            go_meet
            case rel => exact ⟨rfl, kF⟩
        · go_simp
          refine hK9.out _ _ (HX2.out _ (hHeld.1.alloc _ _)) (fun hI => ?_)
          clear hK9 K
          refine wpAnyH_ready (rs := [1]) (by kernel_rfl) (by simp) ?_
          refine AllReadyH.cons rfl (fun K hK9 => ?_) AllReadyH.nil
          go_simp
          go_wp2_with fail
          refine (int_pos 2 (by decide) (by decide) _ frm_int2 _ (HT.out _ (KN.out.trans hI.1))).mono ?_
          rintro e x2 ⟨⟨v, rfl, hN2⟩, hk2⟩
          obtain ⟨g2, cp2, rfl, -, ho2⟩ := new_many (by decide) hN2
          refine hK9.out _ _ (HX2.out _ (hI.1.trans hk2)) (fun hHeld2 => ?_)
          clear hK9 K hN2
          refine wpAnyH_ready (rs := [2]) (by kernel_rfl) (by simp) ?_
          refine AllReadyH.cons rfl (fun K hK9 => ?_) AllReadyH.nil
          have hA := hHeld2
          have oA := ho2
          go_simp
          go_wp2_with fail
          refine (add_full_no F FF.out gn cn g2 cp2 _ (ONx.out.kept hA.1) oA (HT.out _ (KN.out.trans hA.1))).mono ?_
          rintro e x3 ⟨rfl, hk3⟩
          refine hK9.out _ _ (HX2.out _ (hA.1.trans hk3)) (fun hHeld3 => ?_)
          clear hK9 K
          refine wpAnyH_take (i := 3) (v := ?_) rfl (by kernel_rfl) (by kernel_rfl) (by kernel_rfl) (fun _ _ _ h => h) (Or.inl ⟨by rfl, ?hyr16f3⟩) (by assumption) ?_
          case hyr16f3 => (intro w hSw; (try dsimp only at hSw); go_simp; try (with_reducible rfl))
          simp only [Act.put, List.getElem_toArray, List.getElem_cons_succ, List.getElem_cons_zero, List.setIfInBounds_toArray, List.set_cons_zero, List.set_cons_succ]
          refine wpAnyH_take (i := 4) (v := ?_) rfl (by kernel_rfl) (by kernel_rfl) (by kernel_rfl) (fun _ _ _ h => h) (Or.inl ⟨by rfl, ?hyr16f4⟩) (by assumption) ?_
          case hyr16f4 => (intro w hSw; (try dsimp only at hSw); go_simp; try (with_reducible rfl))
          simp only [Act.put, List.getElem_toArray, List.getElem_cons_succ, List.getElem_cons_zero, List.setIfInBounds_toArray, List.set_cons_zero, List.set_cons_succ]
          refine wpAnyH_take (i := 5) (v := ?_) rfl (by kernel_rfl) (by kernel_rfl) (by kernel_rfl) (fun _ _ _ h => h) (Or.inl ⟨by rfl, ?hyr16f5⟩) (by assumption) ?_
          case hyr16f5 => (intro w hSw; (try dsimp only at hSw); go_simp; try (with_reducible rfl))
          simp only [Act.put, List.getElem_toArray, List.getElem_cons_succ, List.getElem_cons_zero, List.setIfInBounds_toArray, List.set_cons_zero, List.set_cons_succ]
          have hk23 := hk2.trans hk3
          have b0 : x3.cell? ⟨w9.heap.size + 1, 0, none⟩ = some (.bool false) := (hk23.below.cell (p := ⟨w9.heap.size + 1, 0, none⟩) (by simp)).trans (by simp [go_sem])
          have b1 : x3.cell? ⟨w9.heap.size + 1, 1, none⟩ = some (.slice none 0 0) := (hk23.below.cell (p := ⟨w9.heap.size + 1, 1, none⟩) (by simp)).trans (by simp [go_sem])
          have b2 : x3.cell? ⟨w9.heap.size + 1, 2, none⟩ = some (.int .i64 0) := (hk23.below.cell (p := ⟨w9.heap.size + 1, 2, none⟩) (by simp)).trans (by simp [go_sem])
          have bf : ∀ o, x3.frozen? ⟨w9.heap.size + 1, o, none⟩ = false := fun o => (hk23.frozen _).trans (by simp [go_sem])
          have HB : (w9.alloc (.cells #[.bool false, .slice (some ⟨gn, 0, none⟩) 2000 cn, .int .i64 0] 31)).heap.size ≤ w9.heap.size + 1 := by simp
          have hll := hk2.below.size
          have hlm := hk3.below.size
          (try simp only [World.size_alloc] at hll)
          have hle : w9.heap.size + 1 + 1 ≤ x2.heap.size := by simpa using hll
          refine wpAnyH_ready (rs := [7]) (by kernel_rfl) (by simp) ?_
          refine AllReadyH.cons rfl (fun K hK9 => ?_) AllReadyH.nil
          go_simp
          have kF := hHeld3.1.setCell (p := ⟨w9.heap.size + 1, 0, none⟩) HB (.bool false) |>.setCell (p := ⟨w9.heap.size + 1, 1, none⟩) HB (.slice none 0 0) |>.setCell (p := ⟨w9.heap.size + 1, 2, none⟩) HB (.int .i64 0)
          refine hK9.out _ _ (HX2.out _ kF) (fun hHeld9 => ?_)
          clear hK9 K
          refine wpAnyH_take (i := 8) (v := ?_) rfl (by kernel_rfl) (by kernel_rfl) (by kernel_rfl) (fun _ _ _ h => h) (Or.inl ⟨by rfl, ?hyr16g8⟩) (by assumption) ?_
          case hyr16g8 => (intro w hSw; (try dsimp only at hSw); go_simp; try (with_reducible rfl))
          simp only [Act.put, List.getElem_toArray, List.getElem_cons_succ, List.getElem_cons_zero, List.setIfInBounds_toArray, List.set_cons_zero, List.set_cons_succ]
          refine wpAnyH_done (by kernel_rfl) ?_ _
          (try simp only [List.getElem_toArray, List.getElem_cons_succ, List.getElem_cons_zero, List.setIfInBounds_toArray, List.set_cons_zero, List.set_cons_succ])
          go_wp2_with fail
          go_meet
          case rel => exact ⟨rfl, kF⟩
      case rest =>
        obtain ⟨rfl, hn1⟩ := hcut
        have kn1 : Hid (Kept (w9.alloc (.cells #[.bool false, .slice (some ⟨gn, 0, none⟩) 2000 cn, .int .i64 0] 31)) wc) := hn1
        clear hn1
        go_upto_region 17 with fail
        go_cut [24, 25] from 95 (fun tb te wx => ∃ B g3 cp3, tb = .pointer (some ⟨B, 0, none⟩) ∧ te = .int .i64 0 ∧ wx.cell? ⟨B, 0, none⟩ = some (.bool false) ∧ wx.cell? ⟨B, 1, none⟩ = some (.slice (some ⟨g3, 0, none⟩) 1 cp3) ∧ wx.cell? ⟨B, 2, none⟩ = some (.int .i64 60000) ∧ B < wx.heap.size ∧ Own wx g3 cp3 [1] ∧ Kept (w9.alloc (.cells #[.bool false, .slice (some ⟨gn, 0, none⟩) 2000 cn, .int .i64 0] 31)) wx)
        case first =>
          refine wp_region_held_drew (S := fun u => Kept (w9.alloc (.cells #[.bool false, .slice (some ⟨gn, 0, none⟩) 2000 cn, .int .i64 0] 31)) u ∧ u.cell? ⟨w9.heap.size, 0, none⟩ = some (.bool false) ∧ u.cell? ⟨w9.heap.size, 1, none⟩ = some (.slice (some ⟨gn, 0, none⟩) 2000 cn) ∧ u.cell? ⟨w9.heap.size, 2, none⟩ = some (.int .i64 0)) (by kernel_rfl) (HX2.out _ (kn1.out).drew) (fun hHeld => ?_)
          refine wpAnyH_take (i := 0) (v := ?_) rfl (by kernel_rfl) (by kernel_rfl) (by kernel_rfl) (fun _ _ _ h => h) (Or.inl ⟨by rfl, ?hyr17a0⟩) (by assumption) ?_
          case hyr17a0 => (intro w hSw; (try dsimp only at hSw); go_simp; try (with_reducible rfl))
          simp only [Act.put, List.getElem_toArray, List.getElem_cons_succ, List.getElem_cons_zero, List.setIfInBounds_toArray, List.set_cons_zero, List.set_cons_succ]
          refine wpAnyH_ready (rs := [1, 6]) (by kernel_rfl) (by simp) ?_
          refine AllReadyH.cons rfl (fun K hK9 => ?_) (AllReadyH.cons rfl (fun K hK9 => ?_) AllReadyH.nil)
          · have hI := hHeld
            go_simp
            go_wp2_with fail
            refine (int_pos 1 (by decide) (by decide) _ frm_1 _ (HT.out _ (KN.out.trans hI.1))).mono ?_
            rintro e x2 ⟨⟨v, rfl, hN2⟩, hk2⟩
            obtain ⟨g2, cp2, rfl, -, ho2⟩ := new_many (by decide) hN2
            refine hK9.out _ _ (HX2.out _ (hI.1.trans hk2)) (fun hHeld2 => ?_)
            clear hK9 K hN2
            refine wpAnyH_ready (rs := [2, 6]) (by kernel_rfl) (by simp) ?_
            refine AllReadyH.cons rfl (fun K hK9 => ?_) (AllReadyH.cons rfl (fun K hK9 => ?_) AllReadyH.nil)
            · have hA := hHeld2
              have oA := ho2
              go_simp
              go_wp2_with fail
              refine (add_full_ok F FF.out gn cn g2 cp2 _ (ONx.out.kept hA.1) oA (HT.out _ (KN.out.trans hA.1))).mono ?_
              rintro e x3 ⟨v, rfl, hN3, hk3⟩
              obtain ⟨g3, cp3, rfl, hg3, ho3⟩ := new_many (by decide) hN3
              refine hK9.out _ _ (HX2.out _ (hA.1.trans hk3)) (fun hHeld3 => ?_)
              clear hK9 K hN3
              refine wpAnyH_take (i := 3) (v := ?_) rfl (by kernel_rfl) (by kernel_rfl) (by kernel_rfl) (fun _ _ _ h => h) (Or.inl ⟨by rfl, ?hyr17b3⟩) (by assumption) ?_
              case hyr17b3 => (intro w hSw; (try dsimp only at hSw); go_simp; try (with_reducible rfl))
              simp only [Act.put, List.getElem_toArray, List.getElem_cons_succ, List.getElem_cons_zero, List.setIfInBounds_toArray, List.set_cons_zero, List.set_cons_succ]
              refine wpAnyH_take (i := 4) (v := ?_) rfl (by kernel_rfl) (by kernel_rfl) (by kernel_rfl) (fun _ _ _ h => h) (Or.inl ⟨by rfl, ?hyr17b4⟩) (by assumption) ?_
              case hyr17b4 => (intro w hSw; (try dsimp only at hSw); go_simp; try (with_reducible rfl))
              simp only [Act.put, List.getElem_toArray, List.getElem_cons_succ, List.getElem_cons_zero, List.setIfInBounds_toArray, List.set_cons_zero, List.set_cons_succ]
              refine wpAnyH_take (i := 5) (v := ?_) rfl (by kernel_rfl) (by kernel_rfl) (by kernel_rfl) (fun _ _ _ h => h) (Or.inl ⟨by rfl, ?hyr17b5⟩) (by assumption) ?_
              case hyr17b5 => (intro w hSw; (try dsimp only at hSw); go_simp; try (with_reducible rfl))
              simp only [Act.put, List.getElem_toArray, List.getElem_cons_succ, List.getElem_cons_zero, List.setIfInBounds_toArray, List.set_cons_zero, List.set_cons_succ]
              refine wpAnyH_ready (rs := [6]) (by kernel_rfl) (by simp) ?_
              refine AllReadyH.cons rfl (fun K hK9 => ?_) AllReadyH.nil
              go_simp
              refine hK9.out _ _ (HX2.out _ (hHeld3.1.alloc _ _)) (fun hHeld4 => ?_)
              clear hK9 K
              refine wpAnyH_ready (rs := [7]) (by kernel_rfl) (by simp) ?_
              refine AllReadyH.cons rfl (fun K hK9 => ?_) AllReadyH.nil
              go_simp
              have kF := hHeld3.1.alloc #[.bool false, .slice (some ⟨g3, 0, none⟩) 1 cp3, .int .i64 60000] 31
              refine hK9.out _ _ (HX2.out _ kF) (fun hHeld9 => ?_)
              clear hK9 K
              refine wpAnyH_take (i := 8) (v := ?_) rfl (by kernel_rfl) (by kernel_rfl) (by kernel_rfl) (fun _ _ _ h => h) (Or.inl ⟨by rfl, ?hyr17c8⟩) (by assumption) ?_
              case hyr17c8 => (intro w hSw; (try dsimp only at hSw); go_simp; try (with_reducible rfl))
              simp only [Act.put, List.getElem_toArray, List.getElem_cons_succ, List.getElem_cons_zero, List.setIfInBounds_toArray, List.set_cons_zero, List.set_cons_succ]
              refine wpAnyH_done (by kernel_rfl) ?_ _
              (try simp only [List.getElem_toArray, List.getElem_cons_succ, List.getElem_cons_zero, List.setIfInBounds_toArray, List.set_cons_zero, List.set_cons_succ])
              go_wp2_with fail
              go_meet
              case rel => exact ⟨x3.heap.size, g3, cp3, rfl, rfl, by simp [go_sem], by simp [go_sem], by simp [go_sem], by simp, ho3.kept ((Kept.refl x3).alloc _ _), kF⟩
            · go_simp
              refine hK9.out _ _ (HX2.out _ (hHeld2.1.alloc _ _)) (fun hA => ?_)
              clear hK9 K
              have oA := ho2.kept ((Kept.refl x2).alloc #[.bool false, .slice none 0 0, .int .i64 0] 31)
              refine wpAnyH_ready (rs := [2]) (by kernel_rfl) (by simp) ?_
              refine AllReadyH.cons rfl (fun K hK9 => ?_) AllReadyH.nil
              go_simp
              go_wp2_with fail
              refine (add_full_ok F FF.out gn cn g2 cp2 _ (ONx.out.kept hA.1) oA (HT.out _ (KN.out.trans hA.1))).mono ?_
              rintro e x3 ⟨v, rfl, hN3, hk3⟩
              obtain ⟨g3, cp3, rfl, hg3, ho3⟩ := new_many (by decide) hN3
              refine hK9.out _ _ (HX2.out _ (hA.1.trans hk3)) (fun hHeld3 => ?_)
              clear hK9 K hN3
              refine wpAnyH_take (i := 3) (v := ?_) rfl (by kernel_rfl) (by kernel_rfl) (by kernel_rfl) (fun _ _ _ h => h) (Or.inl ⟨by rfl, ?hyr17d3⟩) (by assumption) ?_
              case hyr17d3 => (intro w hSw; (try dsimp only at hSw); go_simp; try (with_reducible rfl))
              simp only [Act.put, List.getElem_toArray, List.getElem_cons_succ, List.getElem_cons_zero, List.setIfInBounds_toArray, List.set_cons_zero, List.set_cons_succ]
              refine wpAnyH_take (i := 4) (v := ?_) rfl (by kernel_rfl) (by kernel_rfl) (by kernel_rfl) (fun _ _ _ h => h) (Or.inl ⟨by rfl, ?hyr17d4⟩) (by assumption) ?_
              case hyr17d4 => (intro w hSw; (try dsimp only at hSw); go_simp; try (with_reducible rfl))
              simp only [Act.put, List.getElem_toArray, List.getElem_cons_succ, List.getElem_cons_zero, List.setIfInBounds_toArray, List.set_cons_zero, List.set_cons_succ]
              refine wpAnyH_take (i := 5) (v := ?_) rfl (by kernel_rfl) (by kernel_rfl) (by kernel_rfl) (fun _ _ _ h => h) (Or.inl ⟨by rfl, ?hyr17d5⟩) (by assumption) ?_
              case hyr17d5 => (intro w hSw; (try dsimp only at hSw); go_simp; try (with_reducible rfl))
              simp only [Act.put, List.getElem_toArray, List.getElem_cons_succ, List.getElem_cons_zero, List.setIfInBounds_toArray, List.set_cons_zero, List.set_cons_succ]
              have b0 : x3.cell? ⟨x2.heap.size, 0, none⟩ = some (.bool false) := (laid_cell hk3 0).trans (by simp [go_sem])
              have b1 : x3.cell? ⟨x2.heap.size, 1, none⟩ = some (.slice none 0 0) := (laid_cell hk3 1).trans (by simp [go_sem])
              have b2 : x3.cell? ⟨x2.heap.size, 2, none⟩ = some (.int .i64 0) := (laid_cell hk3 2).trans (by simp [go_sem])
              have bf : ∀ o, x3.frozen? ⟨x2.heap.size, o, none⟩ = false := fun o => (hk3.frozen _).trans (by simp [go_sem])
              have HB : (w9.alloc (.cells #[.bool false, .slice (some ⟨gn, 0, none⟩) 2000 cn, .int .i64 0] 31)).heap.size ≤ x2.heap.size := hHeld2.1.below.size
              have hl3 := ho3.lt
              have hll := hk3.below.size
              (try simp only [World.size_alloc] at hll)
              (try simp only [World.size_alloc] at hg3)
              refine wpAnyH_ready (rs := [7]) (by kernel_rfl) (by simp) ?_
              refine AllReadyH.cons rfl (fun K hK9 => ?_) AllReadyH.nil
              go_simp
              have kF := hHeld3.1.setCell (p := ⟨x2.heap.size, 0, none⟩) HB (.bool false) |>.setCell (p := ⟨x2.heap.size, 1, none⟩) HB (.slice (some ⟨g3, 0, none⟩) 1 cp3) |>.setCell (p := ⟨x2.heap.size, 2, none⟩) HB (.int .i64 60000)
              refine hK9.out _ _ (HX2.out _ kF) (fun hHeld9 => ?_)
              clear hK9 K
              refine wpAnyH_take (i := 8) (v := ?_) rfl (by kernel_rfl) (by kernel_rfl) (by kernel_rfl) (fun _ _ _ h => h) (Or.inl ⟨by rfl, ?hyr17e8⟩) (by assumption) ?_
              case hyr17e8 => (intro w hSw; (try dsimp only at hSw); go_simp; try (with_reducible rfl))
              simp only [Act.put, List.getElem_toArray, List.getElem_cons_succ, List.getElem_cons_zero, List.setIfInBounds_toArray, List.set_cons_zero, List.set_cons_succ]
              refine wpAnyH_done (by kernel_rfl) ?_ _
              (try simp only [List.getElem_toArray, List.getElem_cons_succ, List.getElem_cons_zero, List.setIfInBounds_toArray, List.set_cons_zero, List.set_cons_succ])
              go_wp2_with fail
              go_meet
              case rel => exact ⟨x2.heap.size, g3, cp3, rfl, rfl, by simp [go_sem, b0, b1, b2], by simp [go_sem, b0, b1, b2], by simp [go_sem, b0, b1, b2], by simp; omega, ((ho3.setOther (by simp; omega) _).setOther (by simp; omega) _).setOther (by simp; omega) _, kF⟩
          · go_simp
            refine hK9.out _ _ (HX2.out _ (hHeld.1.alloc _ _)) (fun hI => ?_)
            clear hK9 K
            refine wpAnyH_ready (rs := [1]) (by kernel_rfl) (by simp) ?_
            refine AllReadyH.cons rfl (fun K hK9 => ?_) AllReadyH.nil
            go_simp
            go_wp2_with fail
            refine (int_pos 1 (by decide) (by decide) _ frm_1 _ (HT.out _ (KN.out.trans hI.1))).mono ?_
            rintro e x2 ⟨⟨v, rfl, hN2⟩, hk2⟩
            obtain ⟨g2, cp2, rfl, -, ho2⟩ := new_many (by decide) hN2
            refine hK9.out _ _ (HX2.out _ (hI.1.trans hk2)) (fun hHeld2 => ?_)
            clear hK9 K hN2
            refine wpAnyH_ready (rs := [2]) (by kernel_rfl) (by simp) ?_
            refine AllReadyH.cons rfl (fun K hK9 => ?_) AllReadyH.nil
            have hA := hHeld2
            have oA := ho2
            go_simp
            go_wp2_with fail
            refine (add_full_ok F FF.out gn cn g2 cp2 _ (ONx.out.kept hA.1) oA (HT.out _ (KN.out.trans hA.1))).mono ?_
            rintro e x3 ⟨v, rfl, hN3, hk3⟩
            obtain ⟨g3, cp3, rfl, hg3, ho3⟩ := new_many (by decide) hN3
            refine hK9.out _ _ (HX2.out _ (hA.1.trans hk3)) (fun hHeld3 => ?_)
            clear hK9 K hN3
            refine wpAnyH_take (i := 3) (v := ?_) rfl (by kernel_rfl) (by kernel_rfl) (by kernel_rfl) (fun _ _ _ h => h) (Or.inl ⟨by rfl, ?hyr17f3⟩) (by assumption) ?_
            case hyr17f3 => (intro w hSw; (try dsimp only at hSw); go_simp; try (with_reducible rfl))
            simp only [Act.put, List.getElem_toArray, List.getElem_cons_succ, List.getElem_cons_zero, List.setIfInBounds_toArray, List.set_cons_zero, List.set_cons_succ]
            refine wpAnyH_take (i := 4) (v := ?_) rfl (by kernel_rfl) (by kernel_rfl) (by kernel_rfl) (fun _ _ _ h => h) (Or.inl ⟨by rfl, ?hyr17f4⟩) (by assumption) ?_
            case hyr17f4 => (intro w hSw; (try dsimp only at hSw); go_simp; try (with_reducible rfl))
            simp only [Act.put, List.getElem_toArray, List.getElem_cons_succ, List.getElem_cons_zero, List.setIfInBounds_toArray, List.set_cons_zero, List.set_cons_succ]
            refine wpAnyH_take (i := 5) (v := ?_) rfl (by kernel_rfl) (by kernel_rfl) (by kernel_rfl) (fun _ _ _ h => h) (Or.inl ⟨by rfl, ?hyr17f5⟩) (by assumption) ?_
            case hyr17f5 => (intro w hSw; (try dsimp only at hSw); go_simp; try (with_reducible rfl))
            simp only [Act.put, List.getElem_toArray, List.getElem_cons_succ, List.getElem_cons_zero, List.setIfInBounds_toArray, List.set_cons_zero, List.set_cons_succ]
            have hk23 := hk2.trans hk3
            have b0 : x3.cell? ⟨wc.heap.size, 0, none⟩ = some (.bool false) := (hk23.below.cell (p := ⟨wc.heap.size, 0, none⟩) (by simp)).trans (by simp [go_sem])
            have b1 : x3.cell? ⟨wc.heap.size, 1, none⟩ = some (.slice none 0 0) := (hk23.below.cell (p := ⟨wc.heap.size, 1, none⟩) (by simp)).trans (by simp [go_sem])
            have b2 : x3.cell? ⟨wc.heap.size, 2, none⟩ = some (.int .i64 0) := (hk23.below.cell (p := ⟨wc.heap.size, 2, none⟩) (by simp)).trans (by simp [go_sem])
            have bf : ∀ o, x3.frozen? ⟨wc.heap.size, o, none⟩ = false := fun o => (hk23.frozen _).trans (by simp [go_sem])
            have HB : (w9.alloc (.cells #[.bool false, .slice (some ⟨gn, 0, none⟩) 2000 cn, .int .i64 0] 31)).heap.size ≤ wc.heap.size := by exact kn1.out.below.size
            have hl3 := ho3.lt
            have hll := hk2.below.size
            have hlm := hk3.below.size
            (try simp only [World.size_alloc] at hll)
            (try simp only [World.size_alloc] at hg3)
            have hle : wc.heap.size + 1 ≤ x2.heap.size := by simpa using hll
            refine wpAnyH_ready (rs := [7]) (by kernel_rfl) (by simp) ?_
            refine AllReadyH.cons rfl (fun K hK9 => ?_) AllReadyH.nil
            go_simp
            have kF := hHeld3.1.setCell (p := ⟨wc.heap.size, 0, none⟩) HB (.bool false) |>.setCell (p := ⟨wc.heap.size, 1, none⟩) HB (.slice (some ⟨g3, 0, none⟩) 1 cp3) |>.setCell (p := ⟨wc.heap.size, 2, none⟩) HB (.int .i64 60000)
            refine hK9.out _ _ (HX2.out _ kF) (fun hHeld9 => ?_)
            clear hK9 K
            refine wpAnyH_take (i := 8) (v := ?_) rfl (by kernel_rfl) (by kernel_rfl) (by kernel_rfl) (fun _ _ _ h => h) (Or.inl ⟨by rfl, ?hyr17g8⟩) (by assumption) ?_
            case hyr17g8 => (intro w hSw; (try dsimp only at hSw); go_simp; try (with_reducible rfl))
            simp only [Act.put, List.getElem_toArray, List.getElem_cons_succ, List.getElem_cons_zero, List.setIfInBounds_toArray, List.set_cons_zero, List.set_cons_succ]
            refine wpAnyH_done (by kernel_rfl) ?_ _
            (try simp only [List.getElem_toArray, List.getElem_cons_succ, List.getElem_cons_zero, List.setIfInBounds_toArray, List.set_cons_zero, List.set_cons_succ])
            go_wp2_with fail
            go_meet
            case rel => exact ⟨wc.heap.size, g3, cp3, rfl, rfl, by simp [go_sem, b0, b1, b2], by simp [go_sem, b0, b1, b2], by simp [go_sem, b0, b1, b2], by simp; omega, ((ho3.setOther (by simp; omega) _).setOther (by simp; omega) _).setOther (by simp; omega) _, kF⟩
        case rest =>
          obtain ⟨B, g3, cp3, rfl, rfl, s0, s1, s2, hB, ho3, hn2⟩ := hcut
          have kn2 : Hid (Kept (w9.alloc (.cells #[.bool false, .slice (some ⟨gn, 0, none⟩) 2000 cn, .int .i64 0] 31)) wc) := hn2
          have O3 : Hid (Own wc g3 cp3 [1]) := ho3
          have OF10 : Hid (Own wc (w8.heap.size + 1) 2000 F) := OF9.out.kept (((Kept.refl w9).alloc _ _).trans hn2)
          have S0 : Hid (∀ u, Kept wc u → u.cell? ⟨B, 0, none⟩ = some (.bool false) ∧ u.cell? ⟨B, 1, none⟩ = some (.slice (some ⟨g3, 0, none⟩) 1 cp3) ∧ u.cell? ⟨B, 2, none⟩ = some (.int .i64 60000)) := fun u k => ⟨(k.below.cell (p := ⟨B, 0, none⟩) hB).trans s0, (k.below.cell (p := ⟨B, 1, none⟩) hB).trans s1, (k.below.cell (p := ⟨B, 2, none⟩) hB).trans s2⟩
          clear hn2 ho3 s0 s1 s2
          have bh : Hid (Kept (w.alloc (.cells #[.int .i64 1] 3)) wc) := bx10.out.trans kn2.out
          have th : Hid (Kept (w1.alloc (.cells #[.bool false, .slice (some ⟨gt, 0, none⟩) 1 ct, .int .i64 1048576] 31)) wc) := tx10.out.trans kn2.out
          have lh : Hid (Kept (w4.alloc (.cells #[.bool true, .slice (some ⟨gl, 0, none⟩) 1 cl, .int .i64 (-1048576)] 31)) wc) := lx10.out.trans kn2.out
          have zh : Hid (Kept (w8.alloc (.cells #[.bool false, .slice none 0 0, .int .i64 0] 31)) wc) := zx10.out.trans kn2.out
          have nh : Hid (Kept (w9.alloc (.cells #[.bool false, .slice (some ⟨gn, 0, none⟩) 2000 cn, .int .i64 0] 31)) wc) := (Kept.refl (w9.alloc (.cells #[.bool false, .slice (some ⟨gn, 0, none⟩) 2000 cn, .int .i64 0] 31))).trans kn2.out
          obtain ⟨U, hU⟩ : ∃ U, wc.alloc (.cells #[.int .i64 0] 3) = U := ⟨_, rfl⟩
          have hKU : Kept wc U := by rw [← hU]; exact (Kept.refl _).alloc _ _
          have cU : U.cell? ⟨wc.heap.size, 0, none⟩ = some (.int .i64 0) := by rw [← hU]; simp [go_sem]
          obtain ⟨C, V, hA, oV, kV⟩ := append_gen 2000 (by decide) F FF.out.len (w8.heap.size + 1) wc.heap.size U (OF10.out.kept hKU) cU
          have HHA : Hid (∀ ty, (Builtin.append_ #[22, 22] ty #[.slice (some ⟨w8.heap.size + 1, 0, none⟩) 2000 2000, .slice (some ⟨wc.heap.size, 0, none⟩) 1 1]).run Tryd.prog U = .ok (.slice (some ⟨U.heap.size, 0, none⟩) 2001 C) V) := hA
          have OV : Hid (Own V U.heap.size C (F ++ [0])) := oV
          have KVV : Hid (Kept wc V) := hKU.trans kV
          have hUs : U.heap.size = wc.heap.size + 1 := by rw [← hU]; simp
          clear hA oV kV cU hKU hUs
          go_wp2_with (first | (at_builtin; refine wpList_append_run rfl _ _ _ rfl _ _ rfl rfl _ _ (HHA.out _) ?_))
          have bv : Hid (Kept (w.alloc (.cells #[.int .i64 1] 3)) V) := bh.out.trans KVV.out
          have tv : Hid (Kept (w1.alloc (.cells #[.bool false, .slice (some ⟨gt, 0, none⟩) 1 ct, .int .i64 1048576] 31)) V) := th.out.trans KVV.out
          have lv : Hid (Kept (w4.alloc (.cells #[.bool true, .slice (some ⟨gl, 0, none⟩) 1 cl, .int .i64 (-1048576)] 31)) V) := lh.out.trans KVV.out
          have zv : Hid (Kept (w8.alloc (.cells #[.bool false, .slice none 0 0, .int .i64 0] 31)) V) := zh.out.trans KVV.out
          have nv : Hid (Kept (w9.alloc (.cells #[.bool false, .slice (some ⟨gn, 0, none⟩) 2000 cn, .int .i64 0] 31)) V) := nh.out.trans KVV.out
          have sv : Hid (Kept wc V) := (Kept.refl wc).trans KVV.out
          clear hU
          refine (make_long F FF.out _ _ _ OV.out).mono ?_
          rintro e w10 ⟨rfl, h10⟩
          have k10 : Hid (Kept V w10) := h10
          clear h10
          have b10 : Hid (Kept (w.alloc (.cells #[.int .i64 1] 3)) w10) := bv.out.trans k10.out
          clear bv
          have t10 : Hid (Kept (w1.alloc (.cells #[.bool false, .slice (some ⟨gt, 0, none⟩) 1 ct, .int .i64 1048576] 31)) w10) := tv.out.trans k10.out
          clear tv
          have l10 : Hid (Kept (w4.alloc (.cells #[.bool true, .slice (some ⟨gl, 0, none⟩) 1 cl, .int .i64 (-1048576)] 31)) w10) := lv.out.trans k10.out
          clear lv
          have z10 : Hid (Kept (w8.alloc (.cells #[.bool false, .slice none 0 0, .int .i64 0] 31)) w10) := zv.out.trans k10.out
          clear zv
          have n10 : Hid (Kept (w9.alloc (.cells #[.bool false, .slice (some ⟨gn, 0, none⟩) 2000 cn, .int .i64 0] 31)) w10) := nv.out.trans k10.out
          clear nv
          have s10 : Hid (Kept wc w10) := sv.out.trans k10.out
          clear sv
          have bx11 : Hid (Kept (w.alloc (.cells #[.int .i64 1] 3)) (w10.alloc (.cells #[.bool false, .slice none 0 0, .int .i64 0] 31))) := b10.out.alloc _ _
          clear b10
          have tx11 : Hid (Kept (w1.alloc (.cells #[.bool false, .slice (some ⟨gt, 0, none⟩) 1 ct, .int .i64 1048576] 31)) (w10.alloc (.cells #[.bool false, .slice none 0 0, .int .i64 0] 31))) := t10.out.alloc _ _
          clear t10
          have lx11 : Hid (Kept (w4.alloc (.cells #[.bool true, .slice (some ⟨gl, 0, none⟩) 1 cl, .int .i64 (-1048576)] 31)) (w10.alloc (.cells #[.bool false, .slice none 0 0, .int .i64 0] 31))) := l10.out.alloc _ _
          clear l10
          have zx11 : Hid (Kept (w8.alloc (.cells #[.bool false, .slice none 0 0, .int .i64 0] 31)) (w10.alloc (.cells #[.bool false, .slice none 0 0, .int .i64 0] 31))) := z10.out.alloc _ _
          clear z10
          have nx11 : Hid (Kept (w9.alloc (.cells #[.bool false, .slice (some ⟨gn, 0, none⟩) 2000 cn, .int .i64 0] 31)) (w10.alloc (.cells #[.bool false, .slice none 0 0, .int .i64 0] 31))) := n10.out.alloc _ _
          clear n10
          have sx11 : Hid (Kept wc (w10.alloc (.cells #[.bool false, .slice none 0 0, .int .i64 0] 31))) := s10.out.alloc _ _
          clear s10
          obtain ⟨p0, p1, p2⟩ := num_laid tx11.out
          obtain ⟨q0, q1, q2⟩ := num_laid lx11.out
          go_wp2_with fail
          refine (cmp_above _ [1] 1048576 (by decide) vld_top (some ⟨gt, 0, none⟩) ct [1] (-1048576) (by decide) vld_low (some ⟨gl, 0, none⟩) cl (OT.out.kept (((Kept.refl w1).alloc _ _).trans tx11.out)).sl (OL.out.kept (((Kept.refl w4).alloc _ _).trans lx11.out)).sl).mono ?_
          rintro e w11 ⟨rfl, h11⟩
          have k11 : Hid (Kept (w10.alloc (.cells #[.bool false, .slice none 0 0, .int .i64 0] 31)) w11) := h11
          clear h11
          have b11 : Hid (Kept (w.alloc (.cells #[.int .i64 1] 3)) w11) := bx11.out.trans k11.out
          clear bx11
          have t11 : Hid (Kept (w1.alloc (.cells #[.bool false, .slice (some ⟨gt, 0, none⟩) 1 ct, .int .i64 1048576] 31)) w11) := tx11.out.trans k11.out
          clear tx11
          have l11 : Hid (Kept (w4.alloc (.cells #[.bool true, .slice (some ⟨gl, 0, none⟩) 1 cl, .int .i64 (-1048576)] 31)) w11) := lx11.out.trans k11.out
          clear lx11
          have z11 : Hid (Kept (w8.alloc (.cells #[.bool false, .slice none 0 0, .int .i64 0] 31)) w11) := zx11.out.trans k11.out
          clear zx11
          have n11 : Hid (Kept (w9.alloc (.cells #[.bool false, .slice (some ⟨gn, 0, none⟩) 2000 cn, .int .i64 0] 31)) w11) := nx11.out.trans k11.out
          clear nx11
          have s11 : Hid (Kept wc w11) := sx11.out.trans k11.out
          clear sx11
          clear p0 p1 p2
          clear q0 q1 q2
          obtain ⟨p0, p1, p2⟩ := num_laid t11.out
          obtain ⟨q0, q1, q2⟩ := num_laid l11.out
          go_wp2_with fail
          refine (add_no _ (HT.out _ (k0.trans b11.out)) false [1] 1048576 (by decide) vld_top (some ⟨gt, 0, none⟩) ct true [1] (-1048576) (by decide) vld_low (some ⟨gl, 0, none⟩) cl (OT.out.kept (((Kept.refl w1).alloc _ _).trans t11.out)).sl (OL.out.kept (((Kept.refl w4).alloc _ _).trans l11.out)).sl addN_far).mono ?_
          rintro e w12 ⟨rfl, h12⟩
          have k12 : Hid (Kept w11 w12) := h12
          clear h12
          have b12 : Hid (Kept (w.alloc (.cells #[.int .i64 1] 3)) w12) := b11.out.trans k12.out
          clear b11
          have t12 : Hid (Kept (w1.alloc (.cells #[.bool false, .slice (some ⟨gt, 0, none⟩) 1 ct, .int .i64 1048576] 31)) w12) := t11.out.trans k12.out
          clear t11
          have l12 : Hid (Kept (w4.alloc (.cells #[.bool true, .slice (some ⟨gl, 0, none⟩) 1 cl, .int .i64 (-1048576)] 31)) w12) := l11.out.trans k12.out
          clear l11
          have z12 : Hid (Kept (w8.alloc (.cells #[.bool false, .slice none 0 0, .int .i64 0] 31)) w12) := z11.out.trans k12.out
          clear z11
          have n12 : Hid (Kept (w9.alloc (.cells #[.bool false, .slice (some ⟨gn, 0, none⟩) 2000 cn, .int .i64 0] 31)) w12) := n11.out.trans k12.out
          clear n11
          have s12 : Hid (Kept wc w12) := s11.out.trans k12.out
          clear s11
          clear p0 p1 p2
          clear q0 q1 q2
          go_wp2_with fail
          have bx12 : Hid (Kept (w.alloc (.cells #[.int .i64 1] 3)) (w12.alloc (.cells #[.bool false, .slice none 0 0, .int .i64 0] 31))) := b12.out.alloc _ _
          clear b12
          have tx12 : Hid (Kept (w1.alloc (.cells #[.bool false, .slice (some ⟨gt, 0, none⟩) 1 ct, .int .i64 1048576] 31)) (w12.alloc (.cells #[.bool false, .slice none 0 0, .int .i64 0] 31))) := t12.out.alloc _ _
          clear t12
          have lx12 : Hid (Kept (w4.alloc (.cells #[.bool true, .slice (some ⟨gl, 0, none⟩) 1 cl, .int .i64 (-1048576)] 31)) (w12.alloc (.cells #[.bool false, .slice none 0 0, .int .i64 0] 31))) := l12.out.alloc _ _
          clear l12
          have zx12 : Hid (Kept (w8.alloc (.cells #[.bool false, .slice none 0 0, .int .i64 0] 31)) (w12.alloc (.cells #[.bool false, .slice none 0 0, .int .i64 0] 31))) := z12.out.alloc _ _
          clear z12
          have nx12 : Hid (Kept (w9.alloc (.cells #[.bool false, .slice (some ⟨gn, 0, none⟩) 2000 cn, .int .i64 0] 31)) (w12.alloc (.cells #[.bool false, .slice none 0 0, .int .i64 0] 31))) := n12.out.alloc _ _
          clear n12
          have sx12 : Hid (Kept wc (w12.alloc (.cells #[.bool false, .slice none 0 0, .int .i64 0] 31))) := s12.out.alloc _ _
          clear s12
          refine (alive_true _ (HT.out _ (k0.trans bx12.out))).mono ?_
          rintro e w13 ⟨rfl, h13⟩
          have k13 : Hid (Kept (w12.alloc (.cells #[.bool false, .slice none 0 0, .int .i64 0] 31)) w13) := h13
          clear h13
          have b13 : Hid (Kept (w.alloc (.cells #[.int .i64 1] 3)) w13) := bx12.out.trans k13.out
          clear bx12
          have t13 : Hid (Kept (w1.alloc (.cells #[.bool false, .slice (some ⟨gt, 0, none⟩) 1 ct, .int .i64 1048576] 31)) w13) := tx12.out.trans k13.out
          clear tx12
          have l13 : Hid (Kept (w4.alloc (.cells #[.bool true, .slice (some ⟨gl, 0, none⟩) 1 cl, .int .i64 (-1048576)] 31)) w13) := lx12.out.trans k13.out
          clear lx12
          have z13 : Hid (Kept (w8.alloc (.cells #[.bool false, .slice none 0 0, .int .i64 0] 31)) w13) := zx12.out.trans k13.out
          clear zx12
          have n13 : Hid (Kept (w9.alloc (.cells #[.bool false, .slice (some ⟨gn, 0, none⟩) 2000 cn, .int .i64 0] 31)) w13) := nx12.out.trans k13.out
          clear nx12
          have s13 : Hid (Kept wc w13) := sx12.out.trans k13.out
          clear sx12
          obtain ⟨y0, y1, y2⟩ := num_laid z13.out
          obtain ⟨x0, x1, x2⟩ := S0.out _ s13.out
          go_wp2_with fail
          refine (sameNum_true ⟨false, [1], 60000⟩ (by decide) _ _ _ ⟨_, rfl, (O3.out.kept s13.out).sl⟩ ⟨_, rfl, (O1.out.kept b13.out).sl⟩).mono ?_
          rintro e w14 ⟨rfl, h14⟩
          have k14 : Hid (Kept w13 w14) := h14
          clear h14
          have b14 : Hid (Kept (w.alloc (.cells #[.int .i64 1] 3)) w14) := b13.out.trans k14.out
          clear b13
          have t14 : Hid (Kept (w1.alloc (.cells #[.bool false, .slice (some ⟨gt, 0, none⟩) 1 ct, .int .i64 1048576] 31)) w14) := t13.out.trans k14.out
          clear t13
          have l14 : Hid (Kept (w4.alloc (.cells #[.bool true, .slice (some ⟨gl, 0, none⟩) 1 cl, .int .i64 (-1048576)] 31)) w14) := l13.out.trans k14.out
          clear l13
          have z14 : Hid (Kept (w8.alloc (.cells #[.bool false, .slice none 0 0, .int .i64 0] 31)) w14) := z13.out.trans k14.out
          clear z13
          have n14 : Hid (Kept (w9.alloc (.cells #[.bool false, .slice (some ⟨gn, 0, none⟩) 2000 cn, .int .i64 0] 31)) w14) := n13.out.trans k14.out
          clear n13
          have s14 : Hid (Kept wc w14) := s13.out.trans k14.out
          clear s13
          go_wp2
          go_ret
          exact ⟨rfl, k0.trans b14.out⟩
end Go.Proofs.YtbfjnihjookkjaaDoor
