/- Package span: around, Around, Point; the statements' own around. -/
import Derived.Test.YtalhnaakbekboaaDoorU45
namespace Go.Proofs.YtalhnaakbekboaaDoor
open Go.ChangeShapes Go.WideShapes Go.ChangeAt Go.RowKit Ieee
set_option linter.unusedVariables false
set_option linter.unusedSimpArgs false

set_option maxHeartbeats 2000000 in
set_option maxRecDepth 100000 in
theorem saround_ok (n : Int) (ng : Bool) (ao : Option Addr) (l c : Nat) (ex z1 z2 : Int) (o1 o2 : Bool) (x1 x2 : Nat) (w : World)
    (KR : Hid (∀ u way z o, Kept w u → (way = 1 ∧ z = z1 ∧ o = o1 ∨ way = 2 ∧ z = z2 ∧ o = o2) → Calls Tryd.prog 35 #[.agg #[.bool ng, .slice ao l c, .int .i64 ex], .int .i64 n, .int .i64 way] u fun e w' => e = .returned (.tuple #[.int .i64 z, .bool o, .int .i64 0]) ∧ Kept u w'))
    (KF : Hid (∀ u z x, (z = z1 ∧ x = x1 ∨ z = z2 ∧ x = x2) → Calls Tryd.prog 68 #[.int .i64 z, .int .i64 n] u fun e w' => e = .returned (.float .f64 x) ∧ Kept u w')) :
    Calls Tryd.prog 38 #[.agg #[.bool ng, .slice ao l c, .int .i64 ex], .int .i64 n] w fun e w' => e = .returned (.tuple #[fv2 x1 x2, .int .i64 0]) ∧ Kept w w' := by
  have hSF := sto_f
  obtain ⟨X, hX⟩ : ∃ X, X = (w.alloc (.cells #[.bool ng, .slice ao l c, .int .i64 ex] 26)).alloc (.cells #[.float .f64 0, .float .f64 0] 55) := ⟨_, rfl⟩
  have hK : Kept w X := by
    rw [hX]
    exact ((Kept.refl w).alloc _ _).alloc _ _
  have hN : X.cell? ⟨w.heap.size, 0, none⟩ = some (.bool ng) ∧ X.cell? ⟨w.heap.size, 1, none⟩ = some (.slice ao l c) ∧ X.cell? ⟨w.heap.size, 2, none⟩ = some (.int .i64 ex) := by
    rw [hX]
    exact ⟨by simp [go_sem], by simp [go_sem], by simp [go_sem]⟩
  have hR : P2 X (w.heap.size + 1) (.float .f64 0) (.float .f64 0) := by
    rw [hX]
    have := P2.new (w.alloc (.cells #[.bool ng, .slice ao l c, .int .i64 ex] 26)) (.float .f64 0) (.float .f64 0) 55
    simpa using this
  have hs : Hid (X.heap.size = w.heap.size + 2) := by rw [hX]; simp [Hid]
  obtain ⟨H0, hH0⟩ : ∃ H, H = w.heap.size := ⟨_, rfl⟩
  obtain ⟨H1, hH1⟩ : ∃ H, H = H0 + 1 := ⟨_, rfl⟩
  rw [← hH0] at hN hR
  rw [← hH1] at hR
  have o1' : w.heap.size ≤ H1 := by omega
  have lH0 : H0 < X.heap.size := by have := hs.out; omega
  have HN : Hid (∀ u, Kept X u → u.cell? ⟨H0, 0, none⟩ = some (.bool ng) ∧ u.cell? ⟨H0, 1, none⟩ = some (.slice ao l c) ∧ u.cell? ⟨H0, 2, none⟩ = some (.int .i64 ex)) := fun u k => ⟨(k.below.cell (p := ⟨H0, 0, none⟩) lH0).trans hN.1, (k.below.cell (p := ⟨H0, 1, none⟩) lH0).trans hN.2.1, (k.below.cell (p := ⟨H0, 2, none⟩) lH0).trans hN.2.2⟩
  go_enter Tryd.func38, Tryd.ntmps38
  go_upto_region 1 with fail
  rw [← hX, ← hH0, ← hH1]
  clear hX hH0 hH1 hN hs
  obtain ⟨c0, c1, c2⟩ := HN.out _ (Kept.refl _)
  go_upto_region 2 with (first | (go_at_call 35; refine (KR.out _ _ _ _ hK (.inl ⟨rfl, rfl, rfl⟩)).mono ?_; rintro e w1 ⟨rfl, k1⟩))
  clear c0 c1 c2
  obtain ⟨c0, c1, c2⟩ := HN.out _ k1
  go_upto_region 5 with (first | (go_at_call 35; refine (KR.out _ _ _ _ (hK.trans k1) (.inr ⟨rfl, rfl, rfl⟩)).mono ?_; rintro e w2 ⟨rfl, k2⟩))
  have j2 := k1.trans k2
  go_wp2_with (first | (go_at_call 68; refine (KF.out _ _ _ (by first | exact .inl ⟨rfl, rfl⟩ | exact .inr ⟨rfl, rfl⟩)).mono ?_; rintro e w3 ⟨rfl, k3⟩; have j2 := j2.trans k3; have hz := (hR.kept j2).put (.float .f64 x1) (.float .f64 x2); obtain ⟨d0, d1, df⟩ := hR.kept j2; obtain ⟨e0, e1, ef⟩ := hz))
  exact bodyPost_ret (v := .tuple #[fv2 x1 x2, .int .i64 0]) (by simp [results, Tryd.results38, go_sem, e0, e1]) rfl ⟨rfl, ((hK.trans j2).setCell o1' _).setCell o1' _⟩
set_option maxHeartbeats 2000000 in
set_option maxRecDepth 100000 in
theorem Around_walk (n : Int) (v0 v1 v2 : Value) (x1 x2 : Nat) (q p1 p2 : Int) (o0 : v0.oneCell' = true) (o1 : v1.oneCell' = true) (o2 : v2.oneCell' = true) (w : World)
    (KA : Hid (∀ u, Kept w u → Calls Tryd.prog 38 #[.agg #[v0, v1, v2], .int .i64 n] u fun e w' => e = .returned (.tuple #[fv2 x1 x2, .int .i64 q]) ∧ Kept u w'))
    (KT : Hid (∀ u, Calls Tryd.prog 31 #[fv2 x1 x2, .int .i64 n, .int .i64 q] u fun e w' => e = .returned (.tuple #[sp2 p1 p2, .int .i64 q]) ∧ Kept u w')) :
    Calls Tryd.prog 13 #[.agg #[v0, v1, v2], .int .i64 n] w fun e w' => e = .returned (.tuple #[sp2 p1 p2, .int .i64 q]) ∧ Kept w w' := by
  have hSF := sto_f
  obtain ⟨X, hX⟩ : ∃ X, X = (w.alloc (.cells #[v0, v1, v2] 26)).alloc (.cells #[.int .i64 0, .int .i64 0] 23) := ⟨_, rfl⟩
  have hK : Kept w X := by
    rw [hX]
    exact ((Kept.refl w).alloc _ _).alloc _ _
  have hN : X.cell? ⟨w.heap.size, 0, none⟩ = some v0 ∧ X.cell? ⟨w.heap.size, 1, none⟩ = some v1 ∧ X.cell? ⟨w.heap.size, 2, none⟩ = some v2 := by
    rw [hX]
    exact ⟨by simp [go_sem], by simp [go_sem], by simp [go_sem]⟩
  have hR : P2 X (w.heap.size + 1) (.int .i64 0) (.int .i64 0) := by
    rw [hX]
    have := P2.new (w.alloc (.cells #[v0, v1, v2] 26)) (.int .i64 0) (.int .i64 0) 23
    simpa using this
  obtain ⟨H0, hH0⟩ : ∃ H, H = w.heap.size := ⟨_, rfl⟩
  obtain ⟨H1, hH1⟩ : ∃ H, H = H0 + 1 := ⟨_, rfl⟩
  rw [← hH0] at hN hR
  rw [← hH1] at hR
  have o1' : w.heap.size ≤ H1 := by omega
  go_enter Tryd.func13, Tryd.ntmps13
  go_upto_region 1 with fail
  rw [← hX, ← hH0, ← hH1]
  clear hX hH0 hH1
  obtain ⟨c0, c1, c2⟩ := hN
  go_upto_region 2 with (first | (go_at_call 38; refine (KA.out _ hK).mono ?_; rintro e w1 ⟨rfl, k1⟩))
  clear c0 c1 c2
  have hI := P2.new w1 (.float .f64 x1) (.float .f64 x2) 55
  have j1 := k1.alloc #[.float .f64 x1, .float .f64 x2] 55
  obtain ⟨Y, hY⟩ : ∃ Y, Y = w1.alloc (.cells #[.float .f64 x1, .float .f64 x2] 55) := ⟨_, rfl⟩
  rw [← hY] at hI j1
  rw [← hY]
  clear hY
  obtain ⟨b0, b1, bf⟩ := hI
  go_wp2_with (first | (go_at_call 31; refine (KT.out _).mono ?_; rintro e w2 ⟨rfl, k2⟩; have j2 := j1.trans k2; have hz := (hR.kept j2).put (.int .i64 p1) (.int .i64 p2); obtain ⟨d0, d1, df⟩ := hR.kept j2; obtain ⟨e0, e1, ef⟩ := hz))
  exact bodyPost_ret (v := .tuple #[sp2 p1 p2, .int .i64 q]) (by simp [results, Tryd.results13, go_sem, e0, e1]) rfl ⟨rfl, ((hK.trans j2).setCell o1' _).setCell o1' _⟩
/- Around of a valid number -/
theorem Around_ok (n : Int) (hn : n = 64 ∨ n = 32) (r : Nm) (hv : vld r = true) (ao : Option Addr) (c : Nat) (w : World) (hT : Tab w) (h : Sl w (.slice ao r.mag.length c) r.mag) :
    Calls Tryd.prog 13 #[.agg #[.bool r.neg, .slice ao r.mag.length c, .int .i64 r.exp], .int .i64 n] w fun e w' => e = .returned (.tuple #[sp2 (rzN n 1 r) (rzN n 2 r), .int .i64 0]) ∧ Kept w w' := by
  have f1 := rz_fl n 1 hn r
  have f2 := rz_fl n 2 hn r
  refine Around_walk n _ _ _ (flv (rzN n 1 r) n) (flv (rzN n 2 r) n) 0 _ _ rfl rfl rfl w (fun u k => ?_) (fun u => told_ok5 f1 f2 u)
  refine saround_ok n r.neg ao r.mag.length c r.exp (rzN n 1 r) (rzN n 2 r) (oxN n 1 r) (oxN n 2 r) _ _ u (fun v way z o kv hz => ?_) (fun v z x hz => ?_)
  · rcases hz with ⟨rfl, rfl, rfl⟩ | ⟨rfl, rfl, rfl⟩
    · exact roundz n 1 hn (by simp) r hv ao c v (hT.kept (k.trans kv)) (h.kept (k.trans kv))
    · exact roundz n 2 hn (by simp) r hv ao c v (hT.kept (k.trans kv)) (h.kept (k.trans kv))
  · rcases hz with ⟨rfl, rfl⟩ | ⟨rfl, rfl⟩
    · exact sfloat_any _ n (rz_rng n 1 hn r).1 (rz_rng n 1 hn r).2 v
    · exact sfloat_any _ n (rz_rng n 2 hn r).1 (rz_rng n 2 hn r).2 v
set_option maxHeartbeats 2000000 in
set_option maxRecDepth 100000 in
theorem Point_ok (lo hi n : Int) (s1 : RB lo) (s2 : RB hi) (hv : vsp lo hi n = true) (w : World) : Calls Tryd.prog 36 #[sp2 lo hi, .int .i64 n] w fun e w' => e = .returned (.tuple #[.bool (decide (keyOf lo n = keyOf hi n)), .int .i64 0]) ∧ Kept w w' := by
  obtain ⟨i1, i2, -⟩ := vsp_num _ _ _ hv
  have f1 := Fl.flv i1 s1.1 s1.2
  have f2 := Fl.flv i2 s2.1 s2.2
  obtain ⟨x, y, hf, g1, -⟩ := opV_form lo hi n
  obtain ⟨gx, gy⟩ := g1 hv
  have KO : Hid (∀ u, Calls Tryd.prog 42 #[sp2 lo hi, .int .i64 n] u fun e w' => e = .returned (.tuple #[fv2 x y, .int .i64 0]) ∧ Kept u w') := fun u => by
    have := opened_any lo hi n s1 s2 u
    rw [hf, (opE_zero _ _ _).2 hv] at this
    exact this
  have hcmp : (FloatKind.f64.format.order x x == some .eq && FloatKind.f64.format.order y x == some .eq) = decide (keyOf lo n = keyOf hi n) := by
    rw [gx, gy, f1.ord f1, f2.ord f1, cmp_is_eq, cmp_is_eq, Bool.eq_iff_iff, Bool.and_eq_true, decide_eq_true_eq, decide_eq_true_eq, decide_eq_true_eq]
    omega
  have hEI := eql_iv
  have hSF := sto_f
  clear hf g1 gx gy f1 f2
  generalize decide (keyOf lo n = keyOf hi n) = t at *
  go_enter Tryd.func36, Tryd.ntmps36
  go_upto_region 2 with (first | (go_at_call 42; refine (KO.out _).mono ?_; rintro e w1 ⟨rfl, k1⟩))
  have hI := P2.new w1 (.float .f64 x) (.float .f64 y) 55
  have j1 := (((Kept.refl w).alloc #[.int .i64 lo, .int .i64 hi] 23).trans k1).alloc #[.float .f64 x, .float .f64 y] 55
  obtain ⟨Y, hY⟩ : ∃ Y, Y = w1.alloc (.cells #[.float .f64 x, .float .f64 y] 55) := ⟨_, rfl⟩
  obtain ⟨B, hB⟩ : ∃ B, B = w1.heap.size := ⟨_, rfl⟩
  rw [← hY] at hI j1
  rw [← hB] at hI
  rw [← hY, ← hB]
  clear hY hB KO k1
  have kd : Kept Y Y.drew := (Kept.refl Y).drew
  have HS : Hid (∀ u, Kept Y u → Kept Y u ∧ u.cell? ⟨B, 0, none⟩ = some (.float .f64 x) ∧ u.cell? ⟨B, 1, none⟩ = some (.float .f64 y)) := fun u k => ⟨k, (hI.kept k).c0, (hI.kept k).c1⟩
  have KP' : Hid (∀ u, Kept Y u → Calls Tryd.prog 40 #[.float .f64 x] u fun e w' => e = .returned (fv2 x x) ∧ Kept Y w') := fun u k => by
    refine (point_any x u).mono ?_
    rintro e w' ⟨rfl, k'⟩
    exact ⟨rfl, k.trans k'⟩
  go_region_held (fun u => Kept Y u ∧ u.cell? ⟨B, 0, none⟩ = some (.float .f64 x) ∧ u.cell? ⟨B, 1, none⟩ = some (.float .f64 y)) (first | assumption | exact HS.out _ kd | exact HS.out _ (by assumption)) (first | (go_at_call 40; refine (KP'.out _ (by assumption)).mono ?_; rintro e w3 ⟨rfl, k3⟩))
  go_wp2_with fail
  exact bodyPost_ret (v := .tuple #[.bool t, .int .i64 0]) (by simp [results, Tryd.results36, go_sem]) rfl ⟨rfl, j1.trans k3⟩
end Go.Proofs.YtalhnaakbekboaaDoor
