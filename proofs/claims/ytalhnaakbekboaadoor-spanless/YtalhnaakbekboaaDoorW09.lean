/- Package span: joined, holds. Package span: Meet, Join, Holds. Package span: Join, Holds. -/
import Derived.Test.YtalhnaakbekboaaDoorW08
namespace Go.Proofs.YtalhnaakbekboaaDoor
open Go.ChangeShapes Go.WideShapes Go.ChangeAt Go.RowKit Ieee
set_option linter.unusedVariables false
set_option linter.unusedSimpArgs false

def mnL (k : Int) (f : Nat → Int) : Nat → Int
  | 0 => k
  | m + 1 => min (mnL k f m) (f m)
def mxL (k : Int) (f : Nat → Int) : Nat → Int
  | 0 => k
  | m + 1 => max (mxL k f m) (f m)
/-- the intervals of a slice, as they lie -/
def Ivs (w : World) (ao : Option Addr) (m : Nat) (fx fy : Nat → Nat) : Prop := ∀ u, Kept w u → ∀ i, i < m → ∃ b off, ao = some ⟨b, off, none⟩ ∧ u.cell? ⟨b, off + i * 2, none⟩ = some (.float .f64 (fx i)) ∧ u.cell? ⟨b, off + i * 2 + 1, none⟩ = some (.float .f64 (fy i))

set_option maxHeartbeats 2000000 in
set_option maxRecDepth 100000 in
theorem joined_any (n : Int) (x0 y0 : Nat) (k0 j0 : Int) (hx : Fl n x0 k0) (hy : Fl n y0 j0) (m : Nat) (hm : m < 100000) (fx fy : Nat → Nat) (fk fj : Nat → Int) (hF : ∀ i, i < m → Fl n (fx i) (fk i) ∧ Fl n (fy i) (fj i)) (ao : Option Addr) (c : Nat) (w : World) (hI : Ivs w ao m fx fy) :
    Calls Tryd.prog 46 #[fv2 x0 y0, .slice ao m c] w fun e w' => ∃ x y, e = .returned (fv2 x y) ∧ Fl n x (mnL k0 fk m) ∧ Fl n y (mxL j0 fj m) ∧ Kept w w' := by
  have HI : Hid (Ivs w ao m fx fy) := hI
  have HF : Hid (∀ i, i < m → Fl n (fx i) (fk i) ∧ Fl n (fy i) (fj i)) := hF
  have HX : Hid (Fl n x0 k0) := hx
  have HY : Hid (Fl n y0 j0) := hy
  clear hI hF hx hy
  have hSF := sto_f
  obtain ⟨X, hX⟩ : ∃ X, X = (w.alloc (.cells #[.float .f64 x0, .float .f64 y0] 55)).alloc (.cells #[.float .f64 0, .float .f64 0] 55) := ⟨_, rfl⟩
  have hP : P2 X w.heap.size (.float .f64 x0) (.float .f64 y0) := by
    rw [hX]
    exact (P2.new w _ _ _).alloc _ _
  have hQ : P2 X (w.heap.size + 1) (.float .f64 0) (.float .f64 0) := by
    rw [hX]
    have := P2.new (w.alloc (.cells #[.float .f64 x0, .float .f64 y0] 55)) (.float .f64 0) (.float .f64 0) 55
    simpa using this
  have hK : Kept w X := by
    rw [hX]
    exact ((Kept.refl w).alloc _ _).alloc _ _
  obtain ⟨H0, hH0⟩ : ∃ H, H = w.heap.size := ⟨_, rfl⟩
  obtain ⟨H1, hH1⟩ : ∃ H, H = H0 + 1 := ⟨_, rfl⟩
  rw [← hH0, ← hH1] at hQ
  rw [← hH0] at hP
  have o0 : w.heap.size ≤ H0 := by omega
  have o1 : w.heap.size ≤ H1 := by omega
  have n1 : ¬ H1 = H0 := by omega
  have n2 : ¬ H0 = H1 := by omega
  go_enter Tryd.func46, Tryd.ntmps46
  go_upto_region 1 with fail
  rw [← hX, ← hH0, ← hH1]
  clear hX hH1 hH0
  go_wp2_with fail
  go_loopw [9] (fun i wr => ∃ (k : Nat) (x y : Nat), k ≤ m ∧ i = .int .i64 k ∧ Fl n x (mnL k0 fk k) ∧ Fl n y (mxL j0 fj k) ∧ P2 wr H0 (.float .f64 x) (.float .f64 y) ∧ P2 wr H1 (.float .f64 0) (.float .f64 0) ∧ Kept w wr) (fun i _ => m - (intOf i).toNat)
  case atStart => exact ⟨0, x0, y0, Nat.zero_le _, rfl, HX.out, HY.out, hP, hQ, hK⟩
  case round =>
    clear hP hQ hK
    obtain ⟨k, x, y, hk, rfl, fx1, fy1, hP, hQ, hK⟩ := hrel
    by_cases hkm : k < m
    · obtain ⟨b, off, rfl, ci0, ci1⟩ := HI.out _ hK k hkm
      obtain ⟨g1, g2⟩ := HF.out k hkm
      obtain ⟨z1, hz1, r1⟩ := run_min_lt (P := Tryd.prog) n x (fx k) _ _ fx1 g1
      obtain ⟨z2, hz2, r2⟩ := run_max_lt (P := Tryd.prog) n y (fy k) _ _ fy1 g2
      have Hz : Hid (Fl n z1 (mnL k0 fk (k + 1)) ∧ Fl n z2 (mxL j0 fj (k + 1))) := ⟨hz1, hz2⟩
      clear g1 g2 hz1 hz2 fx1 fy1
      generalize fx k = xk at *
      generalize fy k = yk at *
      have hPk := (hP.put (.float .f64 z1) (.float .f64 z2)).alloc #[.float .f64 xk, .float .f64 yk] 55
      have hQk := ((hQ.set H0 0 n2 (.float .f64 z1)).set H0 1 n2 (.float .f64 z2)).alloc #[.float .f64 xk, .float .f64 yk] 55
      have hKk := ((hK.setCell (p := ⟨H0, 0, none⟩) o0 (.float .f64 z1)).setCell (p := ⟨H0, 1, none⟩) o0 (.float .f64 z2)).alloc #[.float .f64 xk, .float .f64 yk] 55
      have lt0 := hP.lt
      have lt1 := hQ.lt
      obtain ⟨p0, p1, pf⟩ := hP
      go_wp2_with fail
      go_roundw
      case rel => exact ⟨k + 1, z1, z2, by omega, by go_num, Hz.out.1, Hz.out.2, hPk, hQk, hKk⟩
      case measure => simp [intOf]; omega
    · have hkm' : k = m := by omega
      subst hkm'
      have hz := hQ.put (.float .f64 x) (.float .f64 y)
      obtain ⟨d0, d1, df⟩ := hz
      obtain ⟨p0, p1, pf⟩ := hP
      obtain ⟨q0, q1, qf⟩ := hQ
      go_wp2_with fail
      exact bodyPost_ret (v := fv2 x y) (by simp [results, Tryd.results46, go_sem, d0, d1]) rfl ⟨x, y, rfl, fx1, fy1, (hK.setCell o1 _).setCell o1 _⟩
theorem ivs_one {w u : World} {x y : Nat} {t : TypeId} (k : Kept (w.alloc (.cells #[.float .f64 x, .float .f64 y] t)) u) : Ivs u (some ⟨w.heap.size, 0, none⟩) 1 (fun _ => x) (fun _ => y) := fun v kv i hi => by
  have h := (P2.newk (k.trans kv))
  refine ⟨_, _, rfl, ?_, ?_⟩
  · rw [show 0 + i * 2 = 0 by omega]; exact h.c0
  · rw [show 0 + i * 2 + 1 = 1 by omega]; exact h.c1
theorem eq_f (d a b : Nat) (w : World) : (Op.equalIn (d + 1) 53 (.float .f64 a) (.float .f64 b)).run Tryd.prog w = .ok (FloatKind.f64.format.order a b == some .eq) w := by
  have h : Tryd.prog.underlying 53 = some (.float .f64) := by kernel_rfl
  simp [Op.equalIn, run_underlying h, Op.floatEq]
theorem eql_iv (a b c d : Nat) (w : World) : (binOp .eql 55 (.agg #[.float .f64 a, .float .f64 b]) (.agg #[.float .f64 c, .float .f64 d])).run Tryd.prog w = .ok (.bool (FloatKind.f64.format.order a c == some .eq && FloatKind.f64.format.order b d == some .eq)) w := by
  have h := eq_f
  rw [run_eql_struct]
  cases hb : (FloatKind.f64.format.order a c == some .eq)
  · go_simp
  · cases hc : (FloatKind.f64.format.order b d == some .eq) <;> go_simp
/- whether all of another one is in it -/
set_option maxHeartbeats 1000000 in
set_option maxRecDepth 100000 in
theorem holds_any (n : Int) (x0 y0 x1 y1 : Nat) (k0 j0 k1 j1 : Int) (hx : Fl n x0 k0) (hy : Fl n y0 j0) (gx : Fl n x1 k1) (gy : Fl n y1 j1) (w : World) :
    Calls Tryd.prog 39 #[fv2 x0 y0, fv2 x1 y1] w fun e w' => e = .returned (.bool (decide (k0 ≤ k1 ∧ j1 ≤ j0))) ∧ Kept w w' := by
  obtain ⟨X, hX⟩ : ∃ X, X = (w.alloc (.cells #[.float .f64 x0, .float .f64 y0] 55)).alloc (.cells #[.float .f64 x1, .float .f64 y1] 55) := ⟨_, rfl⟩
  have hP : P2 X w.heap.size (.float .f64 x0) (.float .f64 y0) := by
    rw [hX]
    exact (P2.new w _ _ _).alloc _ _
  have hQ : P2 X (w.heap.size + 1) (.float .f64 x1) (.float .f64 y1) := by
    rw [hX]
    have := P2.new (w.alloc (.cells #[.float .f64 x0, .float .f64 y0] 55)) (.float .f64 x1) (.float .f64 y1) 55
    simpa using this
  have hK : Kept w X := by
    rw [hX]
    exact ((Kept.refl w).alloc _ _).alloc _ _
  have KJ : Hid (∀ (u v : World) (B : Nat), B = v.heap.size → Kept (v.alloc (.cells #[.float .f64 x1, .float .f64 y1] 55)) u → Kept X u → Calls Tryd.prog 46 #[fv2 x0 y0, .slice (some ⟨B, 0, none⟩) 1 1] u fun e w' => ∃ x y, e = .returned (fv2 x y) ∧ (FloatKind.f64.format.order x x0 == some .eq && FloatKind.f64.format.order y y0 == some .eq) = decide (k0 ≤ k1 ∧ j1 ≤ j0) ∧ Kept X w' ∧ Kept u w') := fun u v B hB k kX => by
    subst hB
    refine (joined_any n x0 y0 k0 j0 hx hy 1 (by decide) (fun _ => x1) (fun _ => y1) (fun _ => k1) (fun _ => j1) (fun _ _ => ⟨gx, gy⟩) _ _ u (ivs_one k)).mono ?_
    rintro e w' ⟨x, y, rfl, h1, h2, k'⟩
    refine ⟨x, y, rfl, ?_, kX.trans k', k'⟩
    rw [h1.ord hx, h2.ord hy, cmp_is_eq, cmp_is_eq]
    have e1 : mnL k0 (fun _ => k1) 1 = min k0 k1 := rfl
    have e2 : mxL j0 (fun _ => j1) 1 = max j0 j1 := rfl
    rw [e1, e2, Bool.eq_iff_iff, Bool.and_eq_true, decide_eq_true_eq, decide_eq_true_eq, decide_eq_true_eq]
    omega
  clear hx hy gx gy
  generalize decide (k0 ≤ k1 ∧ j1 ≤ j0) = t at *
  go_enter Tryd.func39, Tryd.ntmps39
  go_upto_region 1 with fail
  rw [← hX]
  clear hX
  have kd : Kept X X.drew := (Kept.refl X).drew
  have hEI := eql_iv
  have HS : Hid (∀ u, Kept X u → Kept X u ∧ (u.cell? ⟨w.heap.size, 0, none⟩ = some (.float .f64 x0) ∧ u.cell? ⟨w.heap.size, 1, none⟩ = some (.float .f64 y0)) ∧ (u.cell? ⟨w.heap.size + 1, 0, none⟩ = some (.float .f64 x1) ∧ u.cell? ⟨w.heap.size + 1, 1, none⟩ = some (.float .f64 y1))) := fun u k => ⟨k, ⟨(hP.kept k).c0, (hP.kept k).c1⟩, ⟨(hQ.kept k).c0, (hQ.kept k).c1⟩⟩
  go_region_held (fun u => Kept X u ∧ (u.cell? ⟨w.heap.size, 0, none⟩ = some (.float .f64 x0) ∧ u.cell? ⟨w.heap.size, 1, none⟩ = some (.float .f64 y0)) ∧ (u.cell? ⟨w.heap.size + 1, 0, none⟩ = some (.float .f64 x1) ∧ u.cell? ⟨w.heap.size + 1, 1, none⟩ = some (.float .f64 y1))) (first | assumption | exact HS.out _ kd | exact HS.out _ (by assumption) | exact HS.out _ (by repeat' first | assumption | refine Kept.alloc ?_ _ _ | refine Kept.drew ?_ | exact Kept.refl _)) (first | (go_at_call 46; refine (KJ.out _ _ _ rfl (by first | exact Kept.refl _ | exact (Kept.refl _).drew) (by repeat' first | assumption | refine Kept.alloc ?_ _ _ | refine Kept.drew ?_ | exact Kept.refl _)).mono ?_; rintro e w1 ⟨x, y, rfl, hxy, k1, j1⟩))
  go_wp2_with fail
  go_ret
  exact ⟨rfl, hK.trans k1⟩
end Go.Proofs.YtalhnaakbekboaaDoor

namespace Go.Proofs.YtalhnaakbekboaaDoor
open Go.ChangeShapes Go.WideShapes Go.ChangeAt Go.RowKit Ieee
set_option linter.unusedVariables false
set_option linter.unusedSimpArgs false

/-- the first error of two intervals -/
def btE (a1 b1 a2 b2 n : Int) : Int := if opE a1 b1 n = 0 then opE a2 b2 n else opE a1 b1 n
theorem btE_zero (a1 b1 a2 b2 n : Int) : btE a1 b1 a2 b2 n = 0 ↔ vsp a1 b1 n = true ∧ vsp a2 b2 n = true := by
  unfold btE
  rw [← opE_zero, ← opE_zero]
  split
  · rename_i h; simp [h]
  · rename_i h; simp [h]
/-- the ends as both tells them -/
structure Bt (a1 b1 a2 b2 n : Int) (x1 y1 x2 y2 : Nat) (q : Int) : Prop where
  err : q = btE a1 b1 a2 b2 n
  ok : q = 0 → Fl n x1 (keyOf a1 n) ∧ Fl n y1 (keyOf b1 n) ∧ Fl n x2 (keyOf a2 n) ∧ Fl n y2 (keyOf b2 n)
  no : q ≠ 0 → x1 = 0 ∧ y1 = 0 ∧ x2 = 0 ∧ y2 = 0
theorem vsp_num (a b n : Int) (h : vsp a b n = true) : isnum a n = true ∧ isnum b n = true ∧ keyOf a n ≤ keyOf b n ∧ keyOf a n ≠ (ifn n : Int) ∧ keyOf b n ≠ -(ifn n : Int) := by
  unfold vsp at h
  simp only [Bool.and_eq_true, decide_eq_true_eq] at h
  exact ⟨h.1.1.1.1, h.1.1.1.2, h.1.1.2, h.1.2, h.2⟩
theorem both_any (a1 b1 a2 b2 n : Int) (r1 : RB a1) (r2 : RB b1) (r3 : RB a2) (r4 : RB b2) : ∃ x1 y1 x2 y2 q, Bt a1 b1 a2 b2 n x1 y1 x2 y2 q ∧ ∀ w, Calls Tryd.prog 30 #[sp2 a1 b1, sp2 a2 b2, .int .i64 n] w fun e w' => e = .returned (.tuple #[fv2 x1 y1, fv2 x2 y2, .int .i64 q]) ∧ Kept w w' := by
  obtain ⟨x1, y1, f1, g1, -⟩ := opV_form a1 b1 n
  obtain ⟨x2, y2, f2, g2, -⟩ := opV_form a2 b2 n
  have KO : Hid (∀ u a b x y q, (a = a1 ∧ b = b1 ∧ x = x1 ∧ y = y1 ∧ q = opE a1 b1 n ∨ a = a2 ∧ b = b2 ∧ x = x2 ∧ y = y2 ∧ q = opE a2 b2 n) → Calls Tryd.prog 42 #[sp2 a b, .int .i64 n] u fun e w' => e = .returned (.tuple #[fv2 x y, .int .i64 q]) ∧ Kept u w') := fun u a b x y q h => by
    rcases h with ⟨rfl, rfl, rfl, rfl, rfl⟩ | ⟨rfl, rfl, rfl, rfl, rfl⟩
    · rw [← f1]; exact opened_any _ _ n r1 r2 u
    · rw [← f2]; exact opened_any _ _ n r3 r4 u
  by_cases h : opE a1 b1 n = 0 ∧ opE a2 b2 n = 0
  · have hv1 := (opE_zero _ _ _).1 h.1
    have hv2 := (opE_zero _ _ _).1 h.2
    obtain ⟨i1, i2, -⟩ := vsp_num _ _ _ hv1
    obtain ⟨i3, i4, -⟩ := vsp_num _ _ _ hv2
    refine ⟨x1, y1, x2, y2, 0, ⟨((btE_zero _ _ _ _ _).2 ⟨hv1, hv2⟩).symm, fun _ => ?_, fun h => absurd rfl h⟩, fun w => ?_⟩
    · rw [(g1 hv1).1, (g1 hv1).2, (g2 hv2).1, (g2 hv2).2]
      exact ⟨Fl.flv i1 r1.1 r1.2, Fl.flv i2 r2.1 r2.2, Fl.flv i3 r3.1 r3.2, Fl.flv i4 r4.1 r4.2⟩
    · have := both_walk a1 b1 a2 b2 n x1 y1 x2 y2 _ _ w KO
      rw [if_pos h] at this
      exact this
  · refine ⟨0, 0, 0, 0, btE a1 b1 a2 b2 n, ⟨rfl, fun g => ?_, fun _ => ⟨rfl, rfl, rfl, rfl⟩⟩, fun w => ?_⟩
    · have := (btE_zero _ _ _ _ _).1 g
      exact absurd ⟨(opE_zero _ _ _).2 this.1, (opE_zero _ _ _).2 this.2⟩ h
    · have := both_walk a1 b1 a2 b2 n x1 y1 x2 y2 _ _ w KO
      rw [if_neg h] at this
      exact this
theorem Bt.fl {a1 b1 a2 b2 n : Int} {x1 y1 x2 y2 : Nat} {q : Int} (h : Bt a1 b1 a2 b2 n x1 y1 x2 y2 q) : ∃ (m : Int) (k1 j1 k2 j2 : Int), Fl m x1 k1 ∧ Fl m y1 j1 ∧ Fl m x2 k2 ∧ Fl m y2 j2 ∧ (q = 0 → m = n ∧ k1 = keyOf a1 n ∧ j1 = keyOf b1 n ∧ k2 = keyOf a2 n ∧ j2 = keyOf b2 n) := by
  by_cases hq : q = 0
  · obtain ⟨f1, f2, f3, f4⟩ := h.ok hq
    exact ⟨n, _, _, _, _, f1, f2, f3, f4, fun _ => ⟨rfl, rfl, rfl, rfl, rfl⟩⟩
  · obtain ⟨rfl, rfl, rfl, rfl⟩ := h.no hq
    have z := Fl.zero 64 (.inl rfl)
    exact ⟨64, 0, 0, 0, 0, z, z, z, z, fun g => absurd g hq⟩

abbrev zsp : Value := sp2 0 0
set_option maxHeartbeats 2000000 in
set_option maxRecDepth 100000 in
theorem meet_walk (a1 b1 a2 b2 n : Int) (x1 y1 x2 y2 z1 z2 : Nat) (q p1 p2 : Int) (t : Bool) (w : World)
    (KB : Hid (∀ u, Calls Tryd.prog 30 #[sp2 a1 b1, sp2 a2 b2, .int .i64 n] u fun e w' => e = .returned (.tuple #[fv2 x1 y1, fv2 x2 y2, .int .i64 q]) ∧ Kept u w'))
    (r1 : ∀ (ts : Array TypeId) (t : TypeId) (w : World), (Builtin.max_ ts t #[.float .f64 x1, .float .f64 x2]).run Tryd.prog w = .ok (.float .f64 z1) w)
    (r2 : ∀ (ts : Array TypeId) (t : TypeId) (w : World), (Builtin.min_ ts t #[.float .f64 y1, .float .f64 y2]).run Tryd.prog w = .ok (.float .f64 z2) w)
    (ht : (FloatKind.f64.format.order z1 z2 == some .gt) = t)
    (KT : Hid (q = 0 → t = false → ∀ u, Calls Tryd.prog 31 #[fv2 z1 z2, .int .i64 n, .int .i64 0] u fun e w' => e = .returned (.tuple #[sp2 p1 p2, .int .i64 0]) ∧ Kept u w')) :
    Calls Tryd.prog 16 #[sp2 a1 b1, sp2 a2 b2, .int .i64 n] w fun e w' => e = .returned (if q = 0 ∧ t = false then .tuple #[sp2 p1 p2, .bool true, .int .i64 0] else .tuple #[zsp, .bool false, .int .i64 q]) ∧ Kept w w' := by
  obtain ⟨X, hX⟩ : ∃ X, X = ((w.alloc (.cells #[.int .i64 a1, .int .i64 b1] 23)).alloc (.cells #[.int .i64 a2, .int .i64 b2] 23)).alloc (.cells #[.int .i64 0, .int .i64 0] 23) := ⟨_, rfl⟩
  have hP1 : P2 X w.heap.size (.int .i64 a1) (.int .i64 b1) := by
    rw [hX]
    exact ((P2.new w _ _ _).alloc _ _).alloc _ _
  have hP2 : P2 X (w.heap.size + 1) (.int .i64 a2) (.int .i64 b2) := by
    rw [hX]
    have := (P2.new (w.alloc (.cells #[.int .i64 a1, .int .i64 b1] 23)) (.int .i64 a2) (.int .i64 b2) 23).alloc #[.int .i64 0, .int .i64 0] 23
    simpa using this
  have hQ : P2 X (w.heap.size + 1 + 1) (.int .i64 0) (.int .i64 0) := by
    rw [hX]
    have := P2.new ((w.alloc (.cells #[.int .i64 a1, .int .i64 b1] 23)).alloc (.cells #[.int .i64 a2, .int .i64 b2] 23)) (.int .i64 0) (.int .i64 0) 23
    simpa using this
  have hK : Kept w X := by
    rw [hX]
    exact (((Kept.refl w).alloc _ _).alloc _ _).alloc _ _
  have hs : Hid (X.heap.size = w.heap.size + 3) := by rw [hX]; simp [Hid]
  obtain ⟨H1, hH1⟩ : ∃ H, H = w.heap.size + 1 := ⟨_, rfl⟩
  obtain ⟨H2, hH2⟩ : ∃ H, H = H1 + 1 := ⟨_, rfl⟩
  rw [← hH1] at hP2 hQ
  rw [← hH2] at hQ
  have o2 : w.heap.size ≤ H2 := by omega
  have hSF := sto_f
  go_enter Tryd.func16, Tryd.ntmps16
  go_upto_region 1 with fail
  rw [← hX, ← hH1, ← hH2]
  clear hX hH1 hH2 hs
  obtain ⟨p10, p11, p1f⟩ := hP1
  obtain ⟨p20, p21, p2f⟩ := hP2
  go_upto_region 2 with (first | (go_at_call 30; refine (KB.out _).mono ?_; rintro e w1 ⟨rfl, k1⟩))
  have hQ1 := hQ.kept k1
  have kw1 := hK.trans k1
  clear p10 p11 p1f p20 p21 p2f KB hK hQ k1
  go_upto_region 3 with fail
  obtain ⟨Y, hY⟩ : ∃ Y, Y = ((w1.alloc (.cells #[.float .f64 x1, .float .f64 y1] 55)).alloc (.cells #[.float .f64 x2, .float .f64 y2] 55)).alloc (.cells #[.float .f64 z1, .float .f64 z2] 55) := ⟨_, rfl⟩
  have hC : P2 Y (w1.heap.size + 1 + 1) (.float .f64 z1) (.float .f64 z2) := by
    rw [hY]
    have := P2.new ((w1.alloc (.cells #[.float .f64 x1, .float .f64 y1] 55)).alloc (.cells #[.float .f64 x2, .float .f64 y2] 55)) (.float .f64 z1) (.float .f64 z2) 55
    simpa using this
  have kY : Kept w1 Y := by
    rw [hY]
    exact (((Kept.refl w1).alloc _ _).alloc _ _).alloc _ _
  have hQY := hQ1.kept kY
  have kwY := kw1.trans kY
  obtain ⟨B3, hB3⟩ : ∃ B, B = w1.heap.size + 1 + 1 := ⟨_, rfl⟩
  rw [← hB3] at hC
  rw [← hY, ← hB3]
  clear hY hB3 kw1 kY hQ1
  obtain ⟨b0, b1', bf⟩ := hC
  by_cases hq : q = 0
  · subst hq
    cases t
    · have KT' : Hid (∀ u, Calls Tryd.prog 31 #[fv2 z1 z2, .int .i64 n, .int .i64 0] u fun e w' => e = .returned (.tuple #[sp2 p1 p2, .int .i64 0]) ∧ Kept u w') := KT.out rfl rfl
      clear KT
      go_upto_region 6 with (first | (go_at_call 31; refine (KT'.out _).mono ?_; rintro e w2 ⟨rfl, k2⟩))
      have hz := ((hQY.kept k2).alloc #[.int .i64 p1, .int .i64 p2] 23).put (.int .i64 p1) (.int .i64 p2)
      have hl := (hQY.kept k2).lt
      obtain ⟨c0, c1, cf⟩ := hQY.kept k2
      obtain ⟨d0, d1, df⟩ := hz
      clear hQY
      go_wp2_with fail
      refine bodyPost_ret (v := .tuple #[sp2 p1 p2, .bool true, .int .i64 0]) ?_ rfl ⟨by simp, ?_⟩
      · simp [results, Tryd.results16, go_sem, *]
      · (repeat' first | exact kwY.trans k2 | refine Kept.setCell ?_ ?_ _ | refine Kept.alloc ?_ _ _ | exact o2)
    · have hz := hQY.put (.int .i64 0) (.int .i64 0)
      obtain ⟨c0, c1, cf⟩ := hQY
      obtain ⟨d0, d1, df⟩ := hz
      clear KT
      go_wp2_with fail
      refine bodyPost_ret (v := .tuple #[zsp, .bool false, .int .i64 0]) ?_ rfl ⟨by simp, ?_⟩
      · simp [results, Tryd.results16, go_sem, *]
      · (repeat' first | exact kwY | refine Kept.setCell ?_ ?_ _ | exact o2)
  · have hqb : (q != 0) = true := by simpa using hq
    have hz := hQY.put (.int .i64 0) (.int .i64 0)
    obtain ⟨c0, c1, cf⟩ := hQY
    obtain ⟨d0, d1, df⟩ := hz
    clear KT
    go_wp2_with fail
    refine bodyPost_ret (v := .tuple #[zsp, .bool false, .int .i64 q]) ?_ rfl ⟨by simp [hq], ?_⟩
    · simp [results, Tryd.results16, go_sem, *]
    · (repeat' first | exact kwY | refine Kept.setCell ?_ ?_ _ | exact o2)
theorem meet_any (a1 b1 a2 b2 n : Int) (s1 : RB a1) (s2 : RB b1) (s3 : RB a2) (s4 : RB b2) (w : World) : Calls Tryd.prog 16 #[sp2 a1 b1, sp2 a2 b2, .int .i64 n] w fun e w' => e = .returned (if btE a1 b1 a2 b2 n = 0 ∧ max (keyOf a1 n) (keyOf a2 n) ≤ min (keyOf b1 n) (keyOf b2 n) then .tuple #[sp2 (pz n (max (keyOf a1 n) (keyOf a2 n))) (pz n (min (keyOf b1 n) (keyOf b2 n))), .bool true, .int .i64 0] else .tuple #[zsp, .bool false, .int .i64 (btE a1 b1 a2 b2 n)]) ∧ Kept w w' := by
  obtain ⟨x1, y1, x2, y2, q, hB, KB⟩ := both_any a1 b1 a2 b2 n s1 s2 s3 s4
  obtain ⟨m, k1, j1, k2, j2, f1, f2, f3, f4, hE⟩ := hB.fl
  obtain ⟨z1, g1, r1⟩ := run_max_lt (P := Tryd.prog) m x1 x2 k1 k2 f1 f3
  obtain ⟨z2, g2, r2⟩ := run_min_lt (P := Tryd.prog) m y1 y2 j1 j2 f2 f4
  have ho := g1.ord g2
  refine (meet_walk a1 b1 a2 b2 n x1 y1 x2 y2 z1 z2 q (pz n (max k1 k2)) (pz n (min j1 j2)) (decide (min j1 j2 < max k1 k2)) w KB r1 r2 (by rw [ho, cmp_is_gt]) (fun hq _ u => ?_)).mono ?_
  · obtain ⟨rfl, -⟩ := hE hq
    exact told_ok5 g1 g2 u
  · rintro e w' ⟨rfl, k⟩
    refine ⟨?_, k⟩
    have he := hB.err
    by_cases hq : q = 0
    · obtain ⟨-, rfl, rfl, rfl, rfl⟩ := hE hq
      rw [← he]
      subst hq
      by_cases hc : max (keyOf a1 n) (keyOf a2 n) ≤ min (keyOf b1 n) (keyOf b2 n)
      · rw [if_pos ⟨rfl, by rw [decide_eq_false_iff_not]; omega⟩, if_pos ⟨rfl, hc⟩]
      · rw [if_neg (fun h => by have := h.2; rw [decide_eq_false_iff_not] at this; omega), if_neg (fun h => hc h.2)]
    · rw [if_neg (fun h => hq h.1), if_neg (fun h => hq (he.trans h.1)), he]
end Go.Proofs.YtalhnaakbekboaaDoor

namespace Go.Proofs.YtalhnaakbekboaaDoor
open Go.ChangeShapes Go.WideShapes Go.ChangeAt Go.RowKit Ieee
set_option linter.unusedVariables false
set_option linter.unusedSimpArgs false

set_option maxHeartbeats 2000000 in
set_option maxRecDepth 100000 in
theorem join_walk (a1 b1 a2 b2 n : Int) (x1 y1 x2 y2 : Nat) (q p1 p2 : Int) (J : Nat → Nat → Prop) (w : World)
    (KB : Hid (∀ u, Calls Tryd.prog 30 #[sp2 a1 b1, sp2 a2 b2, .int .i64 n] u fun e w' => e = .returned (.tuple #[fv2 x1 y1, fv2 x2 y2, .int .i64 q]) ∧ Kept u w'))
    (KJ : Hid (∀ (u v : World) (B : Nat), B = v.heap.size → Kept (v.alloc (.cells #[.float .f64 x2, .float .f64 y2] 55)) u → Calls Tryd.prog 46 #[fv2 x1 y1, .slice (some ⟨B, 0, none⟩) 1 1] u fun e w' => ∃ x y, e = .returned (fv2 x y) ∧ J x y ∧ Kept u w'))
    (KT : Hid (∀ u x y, J x y → Calls Tryd.prog 31 #[fv2 x y, .int .i64 n, .int .i64 q] u fun e w' => e = .returned (.tuple #[sp2 p1 p2, .int .i64 q]) ∧ Kept u w')) :
    Calls Tryd.prog 20 #[sp2 a1 b1, sp2 a2 b2, .int .i64 n] w fun e w' => e = .returned (.tuple #[sp2 p1 p2, .int .i64 q]) ∧ Kept w w' := by
  obtain ⟨X, hX⟩ : ∃ X, X = ((w.alloc (.cells #[.int .i64 a1, .int .i64 b1] 23)).alloc (.cells #[.int .i64 a2, .int .i64 b2] 23)).alloc (.cells #[.int .i64 0, .int .i64 0] 23) := ⟨_, rfl⟩
  have hP1 : P2 X w.heap.size (.int .i64 a1) (.int .i64 b1) := by
    rw [hX]
    exact ((P2.new w _ _ _).alloc _ _).alloc _ _
  have hP2 : P2 X (w.heap.size + 1) (.int .i64 a2) (.int .i64 b2) := by
    rw [hX]
    have := (P2.new (w.alloc (.cells #[.int .i64 a1, .int .i64 b1] 23)) (.int .i64 a2) (.int .i64 b2) 23).alloc #[.int .i64 0, .int .i64 0] 23
    simpa using this
  have hQ : P2 X (w.heap.size + 1 + 1) (.int .i64 0) (.int .i64 0) := by
    rw [hX]
    have := P2.new ((w.alloc (.cells #[.int .i64 a1, .int .i64 b1] 23)).alloc (.cells #[.int .i64 a2, .int .i64 b2] 23)) (.int .i64 0) (.int .i64 0) 23
    simpa using this
  have hK : Kept w X := by
    rw [hX]
    exact (((Kept.refl w).alloc _ _).alloc _ _).alloc _ _
  obtain ⟨H1, hH1⟩ : ∃ H, H = w.heap.size + 1 := ⟨_, rfl⟩
  obtain ⟨H2, hH2⟩ : ∃ H, H = H1 + 1 := ⟨_, rfl⟩
  rw [← hH1] at hP2 hQ
  rw [← hH2] at hQ
  have o2 : w.heap.size ≤ H2 := by omega
  have hSF := sto_f
  go_enter Tryd.func20, Tryd.ntmps20
  go_upto_region 1 with fail
  rw [← hX, ← hH1, ← hH2]
  clear hX hH1 hH2
  obtain ⟨p10, p11, p1f⟩ := hP1
  obtain ⟨p20, p21, p2f⟩ := hP2
  go_upto_region 2 with (first | (go_at_call 30; refine (KB.out _).mono ?_; rintro e w1 ⟨rfl, k1⟩))
  have hQ1 := hQ.kept k1
  have kw1 := hK.trans k1
  clear p10 p11 p1f p20 p21 p2f KB hK hQ k1
  obtain ⟨Y, hY⟩ : ∃ Y, Y = (w1.alloc (.cells #[.float .f64 x1, .float .f64 y1] 55)).alloc (.cells #[.float .f64 x2, .float .f64 y2] 55) := ⟨_, rfl⟩
  have hC1 : P2 Y w1.heap.size (.float .f64 x1) (.float .f64 y1) := by
    rw [hY]
    exact (P2.new w1 _ _ _).alloc _ _
  have hC2 : P2 Y (w1.heap.size + 1) (.float .f64 x2) (.float .f64 y2) := by
    rw [hY]
    have := P2.new (w1.alloc (.cells #[.float .f64 x1, .float .f64 y1] 55)) (.float .f64 x2) (.float .f64 y2) 55
    simpa using this
  have kY : Kept w1 Y := by
    rw [hY]
    exact ((Kept.refl w1).alloc _ _).alloc _ _
  have hQY := hQ1.kept kY
  have kwY := kw1.trans kY
  rw [← hY]
  clear hY kw1 kY hQ1
  obtain ⟨b0, b1', bf⟩ := hC1
  obtain ⟨c0, c1, cf⟩ := hC2
  go_wp2_with (first | (go_at_call 46; refine (KJ.out _ _ _ rfl (Kept.refl _)).mono ?_; rintro e w2 ⟨x, y, rfl, hJ, k2⟩) | (go_at_call 31; refine (KT.out _ _ _ hJ).mono ?_; rintro e w3 ⟨rfl, k3⟩; have k4 := ((Kept.refl Y).alloc _ _).trans (k2.trans k3); have hz := (hQY.kept k4).put (.int .i64 p1) (.int .i64 p2); obtain ⟨d0, d1, df⟩ := hQY.kept k4; obtain ⟨e0, e1, ef⟩ := hz))
  refine bodyPost_ret (v := .tuple #[sp2 p1 p2, .int .i64 q]) ?_ rfl ⟨rfl, ?_⟩
  · simp [results, Tryd.results20, go_sem, *]
  · (repeat' first | exact kwY.trans k4 | refine Kept.setCell ?_ ?_ _ | exact o2)
theorem join5_any (a1 b1 a2 b2 n : Int) (s1 : RB a1) (s2 : RB b1) (s3 : RB a2) (s4 : RB b2) (w : World) : Calls Tryd.prog 20 #[sp2 a1 b1, sp2 a2 b2, .int .i64 n] w fun e w' => e = .returned (if btE a1 b1 a2 b2 n = 0 then .tuple #[sp2 (pz n (min (keyOf a1 n) (keyOf a2 n))) (pz n (max (keyOf b1 n) (keyOf b2 n))), .int .i64 0] else .tuple #[zsp, .int .i64 (btE a1 b1 a2 b2 n)]) ∧ Kept w w' := by
  obtain ⟨x1, y1, x2, y2, q, hB, KB⟩ := both_any a1 b1 a2 b2 n s1 s2 s3 s4
  obtain ⟨m, k1, j1, k2, j2, f1, f2, f3, f4, hE⟩ := hB.fl
  have KJ : Hid (∀ (u v : World) (B : Nat), B = v.heap.size → Kept (v.alloc (.cells #[.float .f64 x2, .float .f64 y2] 55)) u → Calls Tryd.prog 46 #[fv2 x1 y1, .slice (some ⟨B, 0, none⟩) 1 1] u fun e w' => ∃ x y, e = .returned (fv2 x y) ∧ (Fl m x (min k1 k2) ∧ Fl m y (max j1 j2)) ∧ Kept u w') := fun u v B hB k => by
    subst hB
    refine (joined_any m x1 y1 k1 j1 f1 f2 1 (by decide) (fun _ => x2) (fun _ => y2) (fun _ => k2) (fun _ => j2) (fun _ _ => ⟨f3, f4⟩) _ _ u (ivs_one k)).mono ?_
    rintro e w' ⟨x, y, rfl, h1, h2, k'⟩
    exact ⟨x, y, rfl, ⟨h1, h2⟩, k'⟩
  have he := hB.err
  by_cases hq : q = 0
  · subst hq
    obtain ⟨rfl, rfl, rfl, rfl, rfl⟩ := hE rfl
    rw [← he, if_pos rfl]
    exact join_walk a1 b1 a2 b2 _ x1 y1 x2 y2 0 _ _ _ w KB KJ (fun u x y h => told_ok5 h.1 h.2 u)
  · rw [← he, if_neg hq]
    exact join_walk a1 b1 a2 b2 _ x1 y1 x2 y2 q 0 0 _ w KB KJ (fun u x y h => told_err5 x y n q (by simpa using hq) u)

end Go.Proofs.YtalhnaakbekboaaDoor
