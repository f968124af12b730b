/- TensorMoves of a matrix that is too long, or not in form. -/
import Derived.Test.YtcldcjchfagcoaaT58
namespace Go.Proofs.Ytcldcjchfagcoaa
open Go.ChangeShapes Go.WideShapes Go.ChangeAt Go.RowKit
set_option linter.unusedVariables false
set_option linter.unusedSimpArgs false

set_option maxHeartbeats 8000000 in
set_option maxRecDepth 100000 in
theorem tm_long (r c n a b : Int) (L : List Int) (hlen : 5000 < L.length) (ao : Option Addr) (cp : Nat) (w : World) : Calls Try.prog 7 #[.agg #[.int .i64 r, .int .i64 c, .int .i64 n, .slice ao L.length cp], .int .i64 a, .int .i64 b] w fun e w' => e = .returned (.bool true) ∧ Bl w w' := by
  have KA : Hid (∀ u, Calls Try.prog 9 #[] u fun e w' => e = .returned (.bool true) ∧ Bl u w') := fun u => alive_true u
  have hM := M4.new w (.int .i64 r) (.int .i64 c) (.int .i64 n) (.slice ao L.length cp) 24
  have g1 : 5000 < (L.length : Int) := by omega
  generalize L.length = l at *
  go_enter Try.func7, Try.ntmps7
  go_wp2_with (first | (go_at_call 9; refine (KA.out _).mono ?_; rintro e w1 ⟨rfl, k1⟩; obtain ⟨m0, m1, m2, m3⟩ := hM.bl k1))
  go_ret
  exact ⟨rfl, ((Bl.refl w).alloc _).trans k1⟩

theorem own_sl71 {u : World} {L : List Int} {g cap : Nat} (ho : Own u g cap (L ++ [-71])) : Sl u (.slice (some ⟨g, 0, none⟩) L.length cap) L := by
  have h1 := ho.slTake L.length (by simp)
  rwa [List.take_left' rfl] at h1
theorem blks_none (k : Nat) : ∀ x ∈ blks (fun _ => .slice none 0 0) k, False := by
  induction k with
  | zero => intro x hx; cases hx
  | succ k ih =>
    intro x hx
    rcases List.mem_append.1 hx with hx | hx
    · exact ih x hx
    · cases hx

set_option maxHeartbeats 8000000 in
set_option maxRecDepth 100000 in
theorem tm_no (r c n a b : Int) (L : List Int) (hlen : L.length ≤ 5000) (ao : Option Addr) (cp : Nat) (w : World) (hS : Sl w (.slice ao L.length cp) L) (q : Int) (hq : ckM r c n L = q) (hq0 : q ≠ 0) : Calls Try.prog 7 #[.agg #[.int .i64 r, .int .i64 c, .int .i64 n, .slice ao L.length cp], .int .i64 a, .int .i64 b] w fun e w' => e = .returned (.bool true) ∧ Bl w w' := by
  have KA : Hid (∀ u, Calls Try.prog 9 #[] u fun e w' => e = .returned (.bool true) ∧ Bl u w') := fun u => alive_true u
  obtain ⟨X, hX⟩ : ∃ X, X = w.alloc (.cells #[.int .i64 r, .int .i64 c, .int .i64 n, .slice ao L.length cp] 24) := ⟨_, rfl⟩
  have hB : Bl w X := by rw [hX]; exact (Bl.refl w).alloc _
  have hM : M4 X w.heap.size (.int .i64 r) (.int .i64 c) (.int .i64 n) (.slice ao L.length cp) := by rw [hX]; exact M4.new _ _ _ _ _ _
  have hSX := hS.bl hB
  have KL : Hid (∀ u, Bl X u → Calls Try.prog 10 #[.agg #[.int .i64 r, .int .i64 c, .int .i64 n, .slice ao L.length cp]] u fun e w' => ∃ g cap, e = .returned (.agg #[.int .i64 r, .int .i64 c, .int .i64 n, .slice (some ⟨g, 0, none⟩) L.length cap]) ∧ u.heap.size ≤ g ∧ Own w' g cap (L ++ [-71]) ∧ Kept u w') := fun u k => lent_any r c n L (by omega) ao cp u (hSX.bl k)
  have P0 : Hid (∀ (u : World) (g cap : Nat), Own u g cap (L ++ [-71]) → Calls Try.prog 29 #[.agg #[.int .i64 r, .int .i64 c, .int .i64 n, .slice (some ⟨g, 0, none⟩) L.length cap]] u fun e w' => e = .returned (.tuple #[zeroMat, .int .i64 q]) ∧ Kept u w') := fun u g cap ho => by
    have := turn_no r c n a b (some ⟨g, 0, none⟩) cap L (by rw [hq]; exact hq0) u (own_sl71 ho)
    rw [hq] at this
    exact this
  have P1 : Hid (∀ (u : World) (g cap : Nat), Own u g cap (L ++ [-71]) → Calls Try.prog 30 #[.agg #[.int .i64 r, .int .i64 c, .int .i64 n, .slice (some ⟨g, 0, none⟩) L.length cap], .int .i64 a, .int .i64 b] u fun e w' => e = .returned (.tuple #[zeroMat, .int .i64 q]) ∧ Kept u w') := fun u g cap ho => by
    have := form_no r c n a b (some ⟨g, 0, none⟩) cap L (by rw [hq]; exact hq0) u (own_sl71 ho)
    rw [hq] at this
    exact this
  have P2 : Hid (∀ (u : World) (g cap : Nat), Own u g cap (L ++ [-71]) → Calls Try.prog 31 #[.agg #[.int .i64 r, .int .i64 c, .int .i64 n, .slice (some ⟨g, 0, none⟩) L.length cap], .int .i64 a, .int .i64 b] u fun e w' => e = .returned (.tuple #[zeroMat, .int .i64 q]) ∧ Kept u w') := fun u g cap ho => by
    have := cutCols_no r c n a b (some ⟨g, 0, none⟩) cap L (by rw [hq]; exact hq0) u (own_sl71 ho)
    rw [hq] at this
    exact this
  have P3 : Hid (∀ (u : World) (g cap : Nat), Own u g cap (L ++ [-71]) → Calls Try.prog 32 #[.agg #[.int .i64 r, .int .i64 c, .int .i64 n, .slice (some ⟨g, 0, none⟩) L.length cap], .int .i64 a, .int .i64 b] u fun e w' => e = .returned (.tuple #[zeroMat, .int .i64 q]) ∧ Kept u w') := fun u g cap ho => by
    have := cutRows_no r c n a b (some ⟨g, 0, none⟩) cap L (by rw [hq]; exact hq0) u (own_sl71 ho)
    rw [hq] at this
    exact this
  have P4 : Hid (∀ (u : World) (g cap : Nat), Own u g cap (L ++ [-71]) → Calls Try.prog 33 #[.agg #[.int .i64 r, .int .i64 c, .int .i64 n, .slice (some ⟨g, 0, none⟩) L.length cap], .int .i64 a, .int .i64 b] u fun e w' => e = .returned (.tuple #[zeroMat, .int .i64 q]) ∧ Kept u w') := fun u g cap ho => by
    have := window_no r c n a b (some ⟨g, 0, none⟩) cap L (by rw [hq]; exact hq0) u (own_sl71 ho)
    rw [hq] at this
    exact this
  have KC : Hid (∀ u, Sl u (.slice ao L.length cp) L → Calls Try.prog 15 #[.agg #[.int .i64 r, .int .i64 c, .int .i64 n, .slice ao L.length cp]] u fun e w' => e = .returned (.int .i64 q) ∧ Kept u w') := fun u k => by
    have := rcheck_any r c n ao cp L u k
    rw [hq] at this
    exact this
  have KM0 : Hid (∀ u (fe : Int), Sl u (.slice ao L.length cp) L → GivesK ⟨0, 0, 0, q, []⟩ 39 #[.agg #[.int .i64 r, .int .i64 c, .int .i64 n, .slice ao L.length cp], .agg #[.int .i64 0, .int .i64 0, .int .i64 0, .slice none 0 0], .int .i64 0] u) := fun u fe k => gives_zero (moved_no r c n 0 0 0 0 ao cp L none 0 0 q hq0 (.inl hq) u k)
  have KN : Hid (∀ u e, Calls Try.prog 16 #[.int .i64 e] u fun r w' => r = .returned (.int .i64 e) ∧ u = w') := fun u e => num_any e u
  have g1 : ¬ 5000 < (L.length : Int) := by omega
  have hqz : (q == 0) = false := by simpa using hq0
  have hszX : w.heap.size < X.heap.size := hM.lt
  generalize hl : L.length = l at *
  go_enter Try.func7, Try.ntmps7
  go_upto_region 1 with fail
  rw [← hX]
  clear hX
  go_upto_region 4 with (first | (go_at_call 9; refine (KA.out _).mono ?_; rintro e w1 ⟨rfl, k1⟩; obtain ⟨m0, m1, m2, m3⟩ := hM.bl k1))
  go_upto_region 7 with (first | (go_at_call 10; refine (KL.out _ k1).mono ?_; rintro e w2 ⟨g, cap, rfl, hg, o2, k2⟩))
  obtain ⟨U0, hU0⟩ : ∃ U0, U0 = ((w2.alloc (.cells #[.int .i64 r, .int .i64 c, .int .i64 n, .slice (some ⟨g, 0, none⟩) l cap] 24)).alloc (.cells #[.int .i64 0, .int .i64 0, .int .i64 0, .slice none 0 0, .int .i64 0, .int .i64 0, .int .i64 0, .slice none 0 0, .int .i64 0, .int .i64 0, .int .i64 0, .slice none 0 0, .int .i64 0, .int .i64 0, .int .i64 0, .slice none 0 0, .int .i64 0, .int .i64 0, .int .i64 0, .slice none 0 0] 55)).alloc (.cells #[.int .i64 0, .int .i64 0, .int .i64 0, .int .i64 0, .int .i64 0] 56) := ⟨_, rfl⟩
  rw [← hU0]
  have kY : Bl X U0 := by rw [hU0]; exact (((k1.trans k2.bl).alloc _).alloc _).alloc _
  have hF : M4 U0 w2.heap.size (.int .i64 r) (.int .i64 c) (.int .i64 n) (.slice (some ⟨g, 0, none⟩) l cap) := by rw [hU0]; exact ⟨by simp [go_sem], by simp [go_sem], by simp [go_sem], by simp [go_sem]⟩
  have oY : Own U0 g cap (L ++ [-71]) := by rw [hU0]; exact o2.kept ((((Kept.refl _).alloc _ _).alloc _ _).alloc _ _)
  have hs0 : U0.heap.size = w2.heap.size + 3 := by rw [hU0]; simp
  have G0 : Arr U0 (w2.heap.size + 1) 55 [.int .i64 0, .int .i64 0, .int .i64 0, .slice none 0 0, .int .i64 0, .int .i64 0, .int .i64 0, .slice none 0 0, .int .i64 0, .int .i64 0, .int .i64 0, .slice none 0 0, .int .i64 0, .int .i64 0, .int .i64 0, .slice none 0 0, .int .i64 0, .int .i64 0, .int .i64 0, .slice none 0 0] := by
    rw [hU0]
    refine (Below.heap_alloc _ _ _ (by simp)).trans ?_
    have := heap_alloc_new (w2.alloc (.cells #[.int .i64 r, .int .i64 c, .int .i64 n, .slice (some ⟨g, 0, none⟩) l cap] 24)) (.cells #[.int .i64 0, .int .i64 0, .int .i64 0, .slice none 0 0, .int .i64 0, .int .i64 0, .int .i64 0, .slice none 0 0, .int .i64 0, .int .i64 0, .int .i64 0, .slice none 0 0, .int .i64 0, .int .i64 0, .int .i64 0, .slice none 0 0, .int .i64 0, .int .i64 0, .int .i64 0, .slice none 0 0] 55)
    simpa using this
  have E0 : Arr U0 (w2.heap.size + 2) 56 [.int .i64 0, .int .i64 0, .int .i64 0, .int .i64 0, .int .i64 0] := by
    rw [hU0]
    have := heap_alloc_new ((w2.alloc (.cells #[.int .i64 r, .int .i64 c, .int .i64 n, .slice (some ⟨g, 0, none⟩) l cap] 24)).alloc (.cells #[.int .i64 0, .int .i64 0, .int .i64 0, .slice none 0 0, .int .i64 0, .int .i64 0, .int .i64 0, .slice none 0 0, .int .i64 0, .int .i64 0, .int .i64 0, .slice none 0 0, .int .i64 0, .int .i64 0, .int .i64 0, .slice none 0 0, .int .i64 0, .int .i64 0, .int .i64 0, .slice none 0 0] 55)) (.cells #[.int .i64 0, .int .i64 0, .int .i64 0, .int .i64 0, .int .i64 0] 56)
    rw [World.size_alloc, World.size_alloc] at this
    exact this
  have hglt := o2.lt
  have hMY := hM.bl kY
  have hSY := hSX.bl kY
  have hBY := hB.trans kY
  have hszw : X.heap.size ≤ w2.heap.size := Nat.le_trans k1.size k2.below.size
  clear hU0 m0 m1 m2 m3 KA KL o2 k2 k1 hg hB kY hSX hM
  have H0 : GrB [w2.heap.size + 1, w2.heap.size + 2] U0 U0 := GrB.refl _ _
  generalize hb8 : w2.heap.size = B at *
  clear hb8
  obtain ⟨f0, f1, f2, f3⟩ := H0.m4 hF (by simp)
  have o0 := oY.grB H0 (by simp; omega)
  go_upto_region 8 with (first | (go_at_call 29; refine Calls.mono (P0.out _ _ _ o0) ?_; rintro e x0 ⟨rfl, kb0⟩; have Gx := G0.bl kb0.bl; have Ex := E0.bl kb0.bl; have c0 := Gx.cell 0 _ rfl; have c1 := Gx.cell 1 _ rfl; have c2 := Gx.cell 2 _ rfl; have c3 := Gx.cell 3 _ rfl; have c4 := Ex.cell 0 _ rfl; have d0 := Gx.free 0; have d1 := Gx.free 1; have d2 := Gx.free 2; have d3 := Gx.free 3; have d4 := Ex.free 0))
  obtain ⟨U1, hU⟩ : ∃ U, U = ((((x0.setCell ⟨B + 1, 0, none⟩ (.int .i64 0)).setCell ⟨B + 1, 1, none⟩ (.int .i64 0)).setCell ⟨B + 1, 2, none⟩ (.int .i64 0)).setCell ⟨B + 1, 3, none⟩ (.slice none 0 0)).setCell ⟨B + 2, 0, none⟩ (.int .i64 q) := ⟨_, rfl⟩
  rw [← hU]
  have G1 : Arr U1 (B + 1) 55 [.int .i64 0, .int .i64 0, .int .i64 0, .slice none 0 0, .int .i64 0, .int .i64 0, .int .i64 0, .slice none 0 0, .int .i64 0, .int .i64 0, .int .i64 0, .slice none 0 0, .int .i64 0, .int .i64 0, .int .i64 0, .slice none 0 0, .int .i64 0, .int .i64 0, .int .i64 0, .slice none 0 0] := by rw [hU]; exact ((((Gx.set 0 _).set 1 _).set 2 _).set 3 _).setOther (by simp) _
  have E1 : Arr U1 (B + 2) 56 [.int .i64 q, .int .i64 0, .int .i64 0, .int .i64 0, .int .i64 0] := by rw [hU]; exact ((((Ex.setOther (by simp) _).setOther (by simp) _).setOther (by simp) _).setOther (by simp) _).set 0 _
  have J0 : GrB [B + 1, B + 2] U0 U1 := by rw [hU]; exact ((((((GrB.refl _ U0).bl kb0.bl).setCell (by simp) _).setCell (by simp) _).setCell (by simp) _).setCell (by simp) _).setCell (by simp) _
  have H1 := H0.trans J0
  clear hU Gx Ex c0 c1 c2 c3 c4 d0 d1 d2 d3 d4 f0 f1 f2 f3 kb0 o0 P0 G0 E0 H0 J0
  obtain ⟨f0, f1, f2, f3⟩ := H1.m4 hF (by simp)
  have o1 := oY.grB H1 (by simp; omega)
  go_upto_region 9 with (first | (go_at_call 30; refine Calls.mono (P1.out _ _ _ o1) ?_; rintro e x1 ⟨rfl, kb1⟩; have Gx := G1.bl kb1.bl; have Ex := E1.bl kb1.bl; have c0 := Gx.cell 4 _ rfl; have c1 := Gx.cell 5 _ rfl; have c2 := Gx.cell 6 _ rfl; have c3 := Gx.cell 7 _ rfl; have c4 := Ex.cell 1 _ rfl; have d0 := Gx.free 4; have d1 := Gx.free 5; have d2 := Gx.free 6; have d3 := Gx.free 7; have d4 := Ex.free 1))
  obtain ⟨U2, hU⟩ : ∃ U, U = ((((x1.setCell ⟨B + 1, 4, none⟩ (.int .i64 0)).setCell ⟨B + 1, 5, none⟩ (.int .i64 0)).setCell ⟨B + 1, 6, none⟩ (.int .i64 0)).setCell ⟨B + 1, 7, none⟩ (.slice none 0 0)).setCell ⟨B + 2, 1, none⟩ (.int .i64 q) := ⟨_, rfl⟩
  rw [← hU]
  have G2 : Arr U2 (B + 1) 55 [.int .i64 0, .int .i64 0, .int .i64 0, .slice none 0 0, .int .i64 0, .int .i64 0, .int .i64 0, .slice none 0 0, .int .i64 0, .int .i64 0, .int .i64 0, .slice none 0 0, .int .i64 0, .int .i64 0, .int .i64 0, .slice none 0 0, .int .i64 0, .int .i64 0, .int .i64 0, .slice none 0 0] := by rw [hU]; exact ((((Gx.set 4 _).set 5 _).set 6 _).set 7 _).setOther (by simp) _
  have E2 : Arr U2 (B + 2) 56 [.int .i64 q, .int .i64 q, .int .i64 0, .int .i64 0, .int .i64 0] := by rw [hU]; exact ((((Ex.setOther (by simp) _).setOther (by simp) _).setOther (by simp) _).setOther (by simp) _).set 1 _
  have J1 : GrB [B + 1, B + 2] U1 U2 := by rw [hU]; exact ((((((GrB.refl _ U1).bl kb1.bl).setCell (by simp) _).setCell (by simp) _).setCell (by simp) _).setCell (by simp) _).setCell (by simp) _
  have H2 := H1.trans J1
  clear hU Gx Ex c0 c1 c2 c3 c4 d0 d1 d2 d3 d4 f0 f1 f2 f3 kb1 o1 P1 G1 E1 H1 J1
  obtain ⟨f0, f1, f2, f3⟩ := H2.m4 hF (by simp)
  have o2 := oY.grB H2 (by simp; omega)
  go_upto_region 10 with (first | (go_at_call 31; refine Calls.mono (P2.out _ _ _ o2) ?_; rintro e x2 ⟨rfl, kb2⟩; have Gx := G2.bl kb2.bl; have Ex := E2.bl kb2.bl; have c0 := Gx.cell 8 _ rfl; have c1 := Gx.cell 9 _ rfl; have c2 := Gx.cell 10 _ rfl; have c3 := Gx.cell 11 _ rfl; have c4 := Ex.cell 2 _ rfl; have d0 := Gx.free 8; have d1 := Gx.free 9; have d2 := Gx.free 10; have d3 := Gx.free 11; have d4 := Ex.free 2))
  obtain ⟨U3, hU⟩ : ∃ U, U = ((((x2.setCell ⟨B + 1, 8, none⟩ (.int .i64 0)).setCell ⟨B + 1, 9, none⟩ (.int .i64 0)).setCell ⟨B + 1, 10, none⟩ (.int .i64 0)).setCell ⟨B + 1, 11, none⟩ (.slice none 0 0)).setCell ⟨B + 2, 2, none⟩ (.int .i64 q) := ⟨_, rfl⟩
  rw [← hU]
  have G3 : Arr U3 (B + 1) 55 [.int .i64 0, .int .i64 0, .int .i64 0, .slice none 0 0, .int .i64 0, .int .i64 0, .int .i64 0, .slice none 0 0, .int .i64 0, .int .i64 0, .int .i64 0, .slice none 0 0, .int .i64 0, .int .i64 0, .int .i64 0, .slice none 0 0, .int .i64 0, .int .i64 0, .int .i64 0, .slice none 0 0] := by rw [hU]; exact ((((Gx.set 8 _).set 9 _).set 10 _).set 11 _).setOther (by simp) _
  have E3 : Arr U3 (B + 2) 56 [.int .i64 q, .int .i64 q, .int .i64 q, .int .i64 0, .int .i64 0] := by rw [hU]; exact ((((Ex.setOther (by simp) _).setOther (by simp) _).setOther (by simp) _).setOther (by simp) _).set 2 _
  have J2 : GrB [B + 1, B + 2] U2 U3 := by rw [hU]; exact ((((((GrB.refl _ U2).bl kb2.bl).setCell (by simp) _).setCell (by simp) _).setCell (by simp) _).setCell (by simp) _).setCell (by simp) _
  have H3 := H2.trans J2
  clear hU Gx Ex c0 c1 c2 c3 c4 d0 d1 d2 d3 d4 f0 f1 f2 f3 kb2 o2 P2 G2 E2 H2 J2
  obtain ⟨f0, f1, f2, f3⟩ := H3.m4 hF (by simp)
  have o3 := oY.grB H3 (by simp; omega)
  go_upto_region 11 with (first | (go_at_call 32; refine Calls.mono (P3.out _ _ _ o3) ?_; rintro e x3 ⟨rfl, kb3⟩; have Gx := G3.bl kb3.bl; have Ex := E3.bl kb3.bl; have c0 := Gx.cell 12 _ rfl; have c1 := Gx.cell 13 _ rfl; have c2 := Gx.cell 14 _ rfl; have c3 := Gx.cell 15 _ rfl; have c4 := Ex.cell 3 _ rfl; have d0 := Gx.free 12; have d1 := Gx.free 13; have d2 := Gx.free 14; have d3 := Gx.free 15; have d4 := Ex.free 3))
  obtain ⟨U4, hU⟩ : ∃ U, U = ((((x3.setCell ⟨B + 1, 12, none⟩ (.int .i64 0)).setCell ⟨B + 1, 13, none⟩ (.int .i64 0)).setCell ⟨B + 1, 14, none⟩ (.int .i64 0)).setCell ⟨B + 1, 15, none⟩ (.slice none 0 0)).setCell ⟨B + 2, 3, none⟩ (.int .i64 q) := ⟨_, rfl⟩
  rw [← hU]
  have G4 : Arr U4 (B + 1) 55 [.int .i64 0, .int .i64 0, .int .i64 0, .slice none 0 0, .int .i64 0, .int .i64 0, .int .i64 0, .slice none 0 0, .int .i64 0, .int .i64 0, .int .i64 0, .slice none 0 0, .int .i64 0, .int .i64 0, .int .i64 0, .slice none 0 0, .int .i64 0, .int .i64 0, .int .i64 0, .slice none 0 0] := by rw [hU]; exact ((((Gx.set 12 _).set 13 _).set 14 _).set 15 _).setOther (by simp) _
  have E4 : Arr U4 (B + 2) 56 [.int .i64 q, .int .i64 q, .int .i64 q, .int .i64 q, .int .i64 0] := by rw [hU]; exact ((((Ex.setOther (by simp) _).setOther (by simp) _).setOther (by simp) _).setOther (by simp) _).set 3 _
  have J3 : GrB [B + 1, B + 2] U3 U4 := by rw [hU]; exact ((((((GrB.refl _ U3).bl kb3.bl).setCell (by simp) _).setCell (by simp) _).setCell (by simp) _).setCell (by simp) _).setCell (by simp) _
  have H4 := H3.trans J3
  clear hU Gx Ex c0 c1 c2 c3 c4 d0 d1 d2 d3 d4 f0 f1 f2 f3 kb3 o3 P3 G3 E3 H3 J3
  obtain ⟨f0, f1, f2, f3⟩ := H4.m4 hF (by simp)
  have o4 := oY.grB H4 (by simp; omega)
  go_upto_region 12 with (first | (go_at_call 33; refine Calls.mono (P4.out _ _ _ o4) ?_; rintro e x4 ⟨rfl, kb4⟩; have Gx := G4.bl kb4.bl; have Ex := E4.bl kb4.bl; have c0 := Gx.cell 16 _ rfl; have c1 := Gx.cell 17 _ rfl; have c2 := Gx.cell 18 _ rfl; have c3 := Gx.cell 19 _ rfl; have c4 := Ex.cell 4 _ rfl; have d0 := Gx.free 16; have d1 := Gx.free 17; have d2 := Gx.free 18; have d3 := Gx.free 19; have d4 := Ex.free 4))
  obtain ⟨U5, hU⟩ : ∃ U, U = ((((x4.setCell ⟨B + 1, 16, none⟩ (.int .i64 0)).setCell ⟨B + 1, 17, none⟩ (.int .i64 0)).setCell ⟨B + 1, 18, none⟩ (.int .i64 0)).setCell ⟨B + 1, 19, none⟩ (.slice none 0 0)).setCell ⟨B + 2, 4, none⟩ (.int .i64 q) := ⟨_, rfl⟩
  rw [← hU]
  have G5 : Arr U5 (B + 1) 55 [.int .i64 0, .int .i64 0, .int .i64 0, .slice none 0 0, .int .i64 0, .int .i64 0, .int .i64 0, .slice none 0 0, .int .i64 0, .int .i64 0, .int .i64 0, .slice none 0 0, .int .i64 0, .int .i64 0, .int .i64 0, .slice none 0 0, .int .i64 0, .int .i64 0, .int .i64 0, .slice none 0 0] := by rw [hU]; exact ((((Gx.set 16 _).set 17 _).set 18 _).set 19 _).setOther (by simp) _
  have E5 : Arr U5 (B + 2) 56 [.int .i64 q, .int .i64 q, .int .i64 q, .int .i64 q, .int .i64 q] := by rw [hU]; exact ((((Ex.setOther (by simp) _).setOther (by simp) _).setOther (by simp) _).setOther (by simp) _).set 4 _
  have J4 : GrB [B + 1, B + 2] U4 U5 := by rw [hU]; exact ((((((GrB.refl _ U4).bl kb4.bl).setCell (by simp) _).setCell (by simp) _).setCell (by simp) _).setCell (by simp) _).setCell (by simp) _
  have H5 := H4.trans J4
  clear hU Gx Ex c0 c1 c2 c3 c4 d0 d1 d2 d3 d4 f0 f1 f2 f3 kb4 o4 P4 G4 E4 H4 J4
  have KS0 : Hid (∀ u, GrB [B + 1, B + 2] U0 u → Sl u (.slice ao l cp) L) := fun u k => by
    obtain ⟨ao', cap', e, hc, hm, hr⟩ := hS
    have e' := e
    rw [hl] at hc
    cases e
    refine ⟨_, _, by rw [hl], by rw [hl]; exact hc, hm, fun hne => ?_⟩
    obtain ⟨b', off', h1, h2, h3⟩ := hr hne
    refine ⟨b', off', h1, Nat.lt_of_lt_of_le h2 (Nat.le_trans hBY.size k.size), fun i hi => ?_⟩
    have hb := hBY.size
    exact (k.cell (B := b') (by omega) (by simp; omega)).trans ((hBY.cell b' _ h2).trans (h3 i hi))
  obtain ⟨f0, f1, f2, f3⟩ := H5.m4 hF (by simp)
  obtain ⟨m0, m1, m2, m3⟩ := H5.m4 hMY (by simp; omega)
  have hsl5 := KS0.out _ H5
  rw [← hl] at hsl5
  have KY := stays_true r c n L (by omega) g cap ao cp U5 (oY.grB H5 (by simp; omega)) hsl5
  rw [hl] at KY
  go_upto_region 15 with (first | (go_at_call 14; refine KY.mono ?_; rintro e w6 ⟨rfl, k6⟩))
  clear f0 f1 f2 f3 m0 m1 m2 m3 KY hsl5
  have H6 := H5.bl k6.bl
  obtain ⟨m0, m1, m2, m3⟩ := H6.m4 hMY (by simp; omega)
  have hc6 := KC.out _ (KS0.out _ H6)
  go_upto_region 25 with (first | (go_at_call 15; refine hc6.mono ?_; rintro e w7 ⟨rfl, k7⟩))
  clear m0 m1 m2 m3 hc6
  obtain ⟨Q, hQ⟩ : ∃ Q, Q = (w7.alloc (.cells #[.int .i64 0, .int .i64 0, .int .i64 0, .slice none 0 0, .int .i64 0, .int .i64 0, .int .i64 0, .slice none 0 0, .int .i64 0, .int .i64 0, .int .i64 0, .slice none 0 0, .int .i64 0, .int .i64 0, .int .i64 0, .slice none 0 0, .int .i64 0, .int .i64 0, .int .i64 0, .slice none 0 0] 61)).alloc (.cells #[.int .i64 0, .int .i64 0, .int .i64 0, .int .i64 0, .int .i64 0] 62) := ⟨_, rfl⟩
  rw [← hQ]
  have kQ : Bl w7 Q := by rw [hQ]; exact ((Bl.refl _).alloc _).alloc _
  have vQ : Arr Q w7.heap.size 61 [.int .i64 0, .int .i64 0, .int .i64 0, .slice none 0 0, .int .i64 0, .int .i64 0, .int .i64 0, .slice none 0 0, .int .i64 0, .int .i64 0, .int .i64 0, .slice none 0 0, .int .i64 0, .int .i64 0, .int .i64 0, .slice none 0 0, .int .i64 0, .int .i64 0, .int .i64 0, .slice none 0 0] := by rw [hQ]; exact (Below.heap_alloc _ _ _ (by simp)).trans (heap_alloc_new w7 _)
  have fQ : Arr Q (w7.heap.size + 1) 62 [.int .i64 0, .int .i64 0, .int .i64 0, .int .i64 0, .int .i64 0] := by
    rw [hQ]
    have := heap_alloc_new (w7.alloc (.cells #[.int .i64 0, .int .i64 0, .int .i64 0, .slice none 0 0, .int .i64 0, .int .i64 0, .int .i64 0, .slice none 0 0, .int .i64 0, .int .i64 0, .int .i64 0, .slice none 0 0, .int .i64 0, .int .i64 0, .int .i64 0, .slice none 0 0, .int .i64 0, .int .i64 0, .int .i64 0, .slice none 0 0] 61)) (.cells #[.int .i64 0, .int .i64 0, .int .i64 0, .int .i64 0, .int .i64 0] 62)
    rw [World.size_alloc] at this
    exact this
  clear hQ
  have H7 := (H6.bl k7.bl).bl kQ
  have gQ := G5.bl ((k6.bl.trans k7.bl).trans kQ)
  have eQ := E5.bl ((k6.bl.trans k7.bl).trans kQ)
  have mQ := H7.m4 hMY (by simp; omega)
  have FQ := H7.m4 hF (by simp)
  have oQ := oY.grB H7 (by simp; omega)
  have bQ := hBY.grBn H7 (by simp; omega)
  generalize w7.heap.size = B13 at *
  have hlt5 : B + 2 < Q.heap.size := eQ.lt
  have hGS : Hid (∀ k u, GrB (blks (fun _ => .slice none 0 0) k) Q u → Bl Q u) := fun k u h => (Bl.refl Q).grBn h (fun x hx => (blks_none k x hx).elim)
  have HL : Hid (∀ k, k < 5 → RndAt w.heap.size B B13 ao l cp r c n Q k ((fun _ => (⟨0, 0, 0, q, []⟩ : An)) k) ((fun _ => .slice none 0 0) k) (blks (fun _ => .slice none 0 0) k)) := by
    intro k hk
    refine ⟨0, 0, 0, none, 0, 0, 0, none, 0, 0, 0, rfl, by simp, fun u hu => ?_⟩
    have hb := hGS.out _ _ hu
    have vu := vQ.bl hb
    have fu := fQ.bl hb
    have gu := gQ.bl hb
    have eu := eQ.bl hb
    refine ⟨mQ.bl hb, ?_, ?_, ?_, ?_, mr_nil _ _, fun u' k' => KM0.out _ 0 (KS0.out _ ((H7.bl hb).bl k'.bl))⟩
    all_goals
      match k, hk with
      | 0, _ => first | exact ⟨vu.cell 0 _ rfl, vu.cell 1 _ rfl, vu.cell 2 _ rfl, vu.cell 3 _ rfl⟩ | exact fu.cell 0 _ rfl | exact ⟨gu.cell 0 _ rfl, gu.cell 1 _ rfl, gu.cell 2 _ rfl, gu.cell 3 _ rfl⟩ | exact eu.cell 0 _ rfl
      | 1, _ => first | exact ⟨vu.cell 4 _ rfl, vu.cell 5 _ rfl, vu.cell 6 _ rfl, vu.cell 7 _ rfl⟩ | exact fu.cell 1 _ rfl | exact ⟨gu.cell 4 _ rfl, gu.cell 5 _ rfl, gu.cell 6 _ rfl, gu.cell 7 _ rfl⟩ | exact eu.cell 1 _ rfl
      | 2, _ => first | exact ⟨vu.cell 8 _ rfl, vu.cell 9 _ rfl, vu.cell 10 _ rfl, vu.cell 11 _ rfl⟩ | exact fu.cell 2 _ rfl | exact ⟨gu.cell 8 _ rfl, gu.cell 9 _ rfl, gu.cell 10 _ rfl, gu.cell 11 _ rfl⟩ | exact eu.cell 2 _ rfl
      | 3, _ => first | exact ⟨vu.cell 12 _ rfl, vu.cell 13 _ rfl, vu.cell 14 _ rfl, vu.cell 15 _ rfl⟩ | exact fu.cell 3 _ rfl | exact ⟨gu.cell 12 _ rfl, gu.cell 13 _ rfl, gu.cell 14 _ rfl, gu.cell 15 _ rfl⟩ | exact eu.cell 3 _ rfl
      | 4, _ => first | exact ⟨vu.cell 16 _ rfl, vu.cell 17 _ rfl, vu.cell 18 _ rfl, vu.cell 19 _ rfl⟩ | exact fu.cell 4 _ rfl | exact ⟨gu.cell 16 _ rfl, gu.cell 17 _ rfl, gu.cell 18 _ rfl, gu.cell 19 _ rfl⟩ | exact eu.cell 4 _ rfl
  have HE : Hid (∀ u, GrB (blks (fun _ => .slice none 0 0) 5) Q u → Bl w u ∧ M4 u w.heap.size (.int .i64 r) (.int .i64 c) (.int .i64 n) (.slice ao l cp) ∧ M4 u B (.int .i64 r) (.int .i64 c) (.int .i64 n) (.slice (some ⟨g, 0, none⟩) l cap) ∧ Own u g cap (L ++ [-71]) ∧ Sl u (.slice ao l cp) L) := fun u hu => by
    have hb := hGS.out _ _ hu
    exact ⟨bQ.trans hb, mQ.bl hb, FQ.bl hb, oQ.bl hb, KS0.out _ (H7.bl hb)⟩
  have hlL : L.length = l := hl
  clear hS hq hq0 KC KM0 hszX hl hF oY hs0 hglt hMY hSY hBY hszw G5 E5 H5 KS0 H6 k6 k7 kQ vQ fQ H7 gQ eQ mQ FQ oQ bQ hlt5 hGS
  generalize (fun _ => (⟨0, 0, 0, q, []⟩ : An)) = AF at *
  generalize (fun _ => .slice none 0 0 : Nat → Value) = SF at *
  have hi0 : GrB (blks SF 0) Q Q := GrB.refl _ _
  go_wp2_with fail
  go_loopw [16, 17, 18] (fun iv v17 v18 wr => ∃ k : Nat, k ≤ 5 ∧ iv = .int .i64 k ∧ GrB (blks SF k) Q wr) (fun iv _ _ _ => 5 - (intOf iv).toNat)
  case atStart => exact ⟨0, Nat.zero_le _, rfl, hi0⟩
  case round =>
    obtain ⟨k, hk, rfl, hg⟩ := hrel
    by_cases hk5 : k < 5
    · obtain ⟨vr, vc, vn, va, vl, vk, fe, sa, sl, sk, H, hsk, hAl, hall⟩ := HL.out k hk5
      clear HL HE
      generalize AF k = Ak at *
      have hall' : Hid _ := hall
      have HS1 : Hid (∀ u, Kept wr u → Kept wr u ∧ (u.cell? ⟨w.heap.size, 0, none⟩ = some (.int .i64 r) ∧ u.cell? ⟨w.heap.size, 1, none⟩ = some (.int .i64 c) ∧ u.cell? ⟨w.heap.size, 2, none⟩ = some (.int .i64 n) ∧ u.cell? ⟨w.heap.size, 3, none⟩ = some (.slice ao l cp)) ∧ (u.cell? ⟨B13, k * 4, none⟩ = some (.int .i64 vr) ∧ u.cell? ⟨B13, k * 4 + 1, none⟩ = some (.int .i64 vc) ∧ u.cell? ⟨B13, k * 4 + 2, none⟩ = some (.int .i64 vn) ∧ u.cell? ⟨B13, k * 4 + 3, none⟩ = some (.slice va vl vk)) ∧ u.cell? ⟨B13 + 1, k, none⟩ = some (.int .i64 fe)) := fun u k' => by
        obtain ⟨⟨x0, x1, x2, x3⟩, h2, h3, -⟩ := hall'.out u (hg.bl k'.bl)
        exact ⟨k', ⟨x0, x1, x2, x3⟩, h2, h3⟩
      have KM : Hid (∀ u, Kept wr u → Calls Try.prog 39 #[.agg #[.int .i64 r, .int .i64 c, .int .i64 n, .slice ao l cp], .agg #[.int .i64 vr, .int .i64 vc, .int .i64 vn, .slice va vl vk], .int .i64 fe] u fun e w' => ∃ ta tn tc, e = .returned (.tuple #[.agg #[.int .i64 Ak.r, .int .i64 Ak.c, .int .i64 Ak.n, .slice ta tn tc], .int .i64 Ak.q]) ∧ Hid (MR u.heap.size w' (.slice ta tn tc) Ak.T) ∧ Kept wr w' ∧ Kept u w') := fun u k' => by
        have := (hall'.out wr hg).2.2.2.2.2.2 u k'
        unfold GivesK at this
        refine this.mono ?_
        rintro e w' ⟨s, rfl, h1, h2⟩
        obtain ⟨ta, tn, tc, rfl⟩ := h1.form
        exact ⟨ta, tn, tc, rfl, h1, k'.trans h2, h2⟩
      clear hall
      go_upto_region 28 with fail
      have kd := (Kept.refl wr).drew
      go_cut [17, 18] from 128 to 160 (fun t17 t18 wx => ∃ B17 ta tn tc, t17 = .pointer (some ⟨B17, 0, none⟩) ∧ t18 = .int .i64 Ak.q ∧ wr.heap.size ≤ B17 ∧ M4 wx B17 (.int .i64 Ak.r) (.int .i64 Ak.c) (.int .i64 Ak.n) (.slice ta tn tc) ∧ MR wr.heap.size wx (.slice ta tn tc) Ak.T ∧ Kept wr wx)
      case first =>
        clear hall'
        go_region_held (fun u => Kept wr u ∧ (u.cell? ⟨w.heap.size, 0, none⟩ = some (.int .i64 r) ∧ u.cell? ⟨w.heap.size, 1, none⟩ = some (.int .i64 c) ∧ u.cell? ⟨w.heap.size, 2, none⟩ = some (.int .i64 n) ∧ u.cell? ⟨w.heap.size, 3, none⟩ = some (.slice ao l cp)) ∧ (u.cell? ⟨B13, k * 4, none⟩ = some (.int .i64 vr) ∧ u.cell? ⟨B13, k * 4 + 1, none⟩ = some (.int .i64 vc) ∧ u.cell? ⟨B13, k * 4 + 2, none⟩ = some (.int .i64 vn) ∧ u.cell? ⟨B13, k * 4 + 3, none⟩ = some (.slice va vl vk)) ∧ u.cell? ⟨B13 + 1, k, none⟩ = some (.int .i64 fe)) (first | assumption | exact HS1.out _ kd | exact HS1.out _ (by assumption) | exact HS1.out _ (by repeat' first | assumption | exact Kept.alloc (by assumption) _ _ | (refine Kept.setCell ?_ ?_ _) | exact Nat.le_refl _ | (simp; omega))) (first | (go_at_call 39; refine (KM.out _ (by first | assumption | exact Kept.alloc (by assumption) _ _)).mono ?_; rintro e w9 ⟨ta, tn, tc, rfl, hmr, k9, j9⟩; have z9 := k9.below.size; first | (have qz := zq_newd j9; obtain ⟨⟨q90, q91, q92, q93⟩, q9f⟩ := qz) | skip))
        all_goals go_wp2_with fail
        all_goals go_meet
        all_goals first
          | exact ⟨_, ta, tn, tc, rfl, rfl, tw_put (by simp) k9 ⟨q90, q91, q92, q93⟩ hmr.out⟩
          | exact ⟨_, ta, tn, tc, rfl, rfl, tw_new (by simp) k9 hmr.out⟩
      case rest =>
      obtain ⟨B17, ta, tn, tc, rfl, rfl, hB17, hM17, hmr, kc⟩ := hcut
      have HS2 : Hid (∀ u, Kept wc u → Kept wc u ∧ (u.cell? ⟨B + 1, k * 4, none⟩ = some (.int .i64 Ak.r) ∧ u.cell? ⟨B + 1, k * 4 + 1, none⟩ = some (.int .i64 Ak.c) ∧ u.cell? ⟨B + 1, k * 4 + 2, none⟩ = some (.int .i64 Ak.n) ∧ u.cell? ⟨B + 1, k * 4 + 3, none⟩ = some (.slice sa sl sk)) ∧ u.cell? ⟨B + 2, k, none⟩ = some (.int .i64 Ak.q) ∧ (u.cell? ⟨B17, 0, none⟩ = some (.int .i64 Ak.r) ∧ u.cell? ⟨B17, 1, none⟩ = some (.int .i64 Ak.c) ∧ u.cell? ⟨B17, 2, none⟩ = some (.int .i64 Ak.n) ∧ u.cell? ⟨B17, 3, none⟩ = some (.slice ta tn tc))) := fun u k' => by
        obtain ⟨x0, x1, x2, x3⟩ := hM17.bl k'.bl
        obtain ⟨-, -, -, h4, h5, -⟩ := hall'.out u ((hg.bl kc.bl).bl k'.bl)
        exact ⟨k', h4, h5, ⟨x0, x1, x2, x3⟩⟩
      have KE : Hid (∀ u, Kept wc u → Calls Try.prog 21 #[.agg #[.int .i64 Ak.r, .int .i64 Ak.c, .int .i64 Ak.n, .slice sa sl sk], .agg #[.int .i64 Ak.r, .int .i64 Ak.c, .int .i64 Ak.n, .slice ta tn tc]] u fun e w' => e = .returned (.bool true) ∧ Kept wc w') := fun u k' => by
        have hm := (hall'.out u ((hg.bl kc.bl).bl k'.bl)).2.2.2.2.2.1
        rw [hsk] at hm
        refine (exact_mr Ak.r Ak.c Ak.n Ak.T hAl _ _ _ _ u hm (hmr.kept k')).mono ?_
        rintro e w' ⟨rfl, k2⟩
        exact ⟨rfl, k'.trans k2⟩
      have KS : Hid (∀ u, Kept wc u → Calls Try.prog 26 #[.agg #[.int .i64 Ak.r, .int .i64 Ak.c, .int .i64 Ak.n, .slice sa sl sk]] u fun e w' => ∃ v, e = .returned v ∧ GrB (blks SF (k + 1)) Q w') := fun u k' => by
        have hm := (hall'.out u ((hg.bl kc.bl).bl k'.bl)).2.2.2.2.2.1
        rw [hsk] at hm
        refine (spoil_mr Ak.r Ak.c Ak.n Ak.T hAl _ _ u hm).mono ?_
        rintro e w' ⟨⟨v, rfl⟩, k2⟩
        refine ⟨v, rfl, (((hg.bl kc.bl).bl k'.bl).mono (fun x hx => List.mem_append_left _ hx)).trans (k2.mono (fun x hx => ?_))⟩
        show x ∈ blks SF k ++ blkS (SF k)
        rw [hsk]
        exact List.mem_append_right _ hx
      clear kd HS1 KM hall' hsk hmr hM17 hg kc
      generalize Ak.q = qq at *
      generalize Ak.r = q1 at *
      generalize Ak.c = q2 at *
      generalize Ak.n = q3 at *
      have hqq : (qq != qq) = false := by simp
      have hqe : (qq == qq) = true := by simp
      have z1 : IntKind.i64.wrap ((k : Int) + 1) = (k : Int) + 1 := by rw [wrap_i64]; omega
      have kd := (Kept.refl wc).drew
      go_upto_region 29 with fail
      go_cut [156] from 128 to 160 (fun t156 wx => t156 = .bool false ∧ Kept wc wx)
      case first =>
        clear KS
        go_region_held (fun u => Kept wc u ∧ (u.cell? ⟨B + 1, k * 4, none⟩ = some (.int .i64 q1) ∧ u.cell? ⟨B + 1, k * 4 + 1, none⟩ = some (.int .i64 q2) ∧ u.cell? ⟨B + 1, k * 4 + 2, none⟩ = some (.int .i64 q3) ∧ u.cell? ⟨B + 1, k * 4 + 3, none⟩ = some (.slice sa sl sk)) ∧ u.cell? ⟨B + 2, k, none⟩ = some (.int .i64 qq) ∧ (u.cell? ⟨B17, 0, none⟩ = some (.int .i64 q1) ∧ u.cell? ⟨B17, 1, none⟩ = some (.int .i64 q2) ∧ u.cell? ⟨B17, 2, none⟩ = some (.int .i64 q3) ∧ u.cell? ⟨B17, 3, none⟩ = some (.slice ta tn tc))) (first | assumption | exact HS2.out _ kd | exact HS2.out _ (by assumption)) (first | (go_at_call 16; refine (KN.out _ _).mono ?_; rintro e w11 ⟨rfl, rfl⟩) | (go_at_call 21; refine (KE.out _ (by assumption)).mono ?_; rintro e w8 ⟨rfl, k8⟩))
        all_goals go_wp2_with fail
        all_goals go_meet
        all_goals exact ⟨by simp, by assumption⟩
      case rest =>
      obtain ⟨rfl, kw⟩ := hcut
      obtain ⟨-, ⟨p0, p1, p2, p3⟩, -, -⟩ := HS2.out _ kw
      clear HS2 KE kd KN
      go_wp2_with (first | (go_at_call 26; refine (KS.out _ kw).mono ?_; rintro e wz ⟨v, rfl, hgz⟩))
      all_goals go_roundw
      case measure => simp [intOf]; omega
      case rel =>
        exact ⟨k + 1, by omega, by go_num, hgz⟩
    · obtain rfl : k = 5 := by omega
      obtain ⟨hBw, ⟨m0, m1, m2, m3⟩, ⟨f0, f1, f2, f3⟩, ho, hsl⟩ := HE.out _ hg
      rw [← hlL] at hsl
      have KY := stays_true r c n L (by omega) g cap ao cp wr ho hsl
      rw [hlL] at KY
      clear HL HE KN hsl ho hlL
      go_wp2_with (first | (go_at_call 14; refine KY.mono ?_; rintro e wz ⟨rfl, kz⟩))
      go_ret
      exact ⟨rfl, hBw.trans kz.bl⟩
end Go.Proofs.Ytcldcjchfagcoaa
