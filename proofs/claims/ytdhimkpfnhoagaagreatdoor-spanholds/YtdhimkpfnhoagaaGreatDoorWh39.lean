/- Package span: Sum of valid intervals. -/
import Derived.Test.YtdhimkpfnhoagaaGreatDoorWh38
import Derived.Laws.MakeOwn
namespace Go.Proofs.YtdhimkpfnhoagaaGreatDoor
open Go.ChangeShapes Go.WideShapes Go.ChangeAt Go.RowKit Ieee
set_option linter.unusedVariables false
set_option linter.unusedSimpArgs false

/-- a block of intervals, of which the first k are told -/
structure Ar2 (w : World) (D m k : Nat) (fx fy : Nat → Nat) : Prop where
  lt : D < w.heap.size
  ex : ∀ o, o < m * 2 → ∃ v, w.cell? ⟨D, o, none⟩ = some v
  fz : ∀ o, w.frozen? ⟨D, o, none⟩ = false
  c0 : ∀ i, i < k → w.cell? ⟨D, i * 2, none⟩ = some (.float .f64 (fx i))
  c1 : ∀ i, i < k → w.cell? ⟨D, i * 2 + 1, none⟩ = some (.float .f64 (fy i))
theorem Ar2.kept {w u : World} {D m k : Nat} {fx fy : Nat → Nat} (h : Ar2 w D m k fx fy) (kk : Kept w u) : Ar2 u D m k fx fy :=
  ⟨Nat.lt_of_lt_of_le h.lt kk.below.size, fun o ho => by obtain ⟨v, hv⟩ := h.ex o ho; exact ⟨v, (kk.below.cell (p := ⟨D, o, none⟩) h.lt).trans hv⟩, fun o => (kk.frozen _).trans (h.fz o), fun i hi => (kk.below.cell (p := ⟨D, i * 2, none⟩) h.lt).trans (h.c0 i hi), fun i hi => (kk.below.cell (p := ⟨D, i * 2 + 1, none⟩) h.lt).trans (h.c1 i hi)⟩
theorem cell_set (w : World) (D o p : Nat) (v : Value) (h : ∃ x, w.cell? ⟨D, o, none⟩ = some x) : (w.setCell ⟨D, o, none⟩ v).cell? ⟨D, p, none⟩ = if p = o then some v else w.cell? ⟨D, p, none⟩ := by
  obtain ⟨x, hx⟩ := h
  by_cases hp : p = o
  · subst hp
    simp [go_sem, hx]
  · have hq : ¬ o = p := fun e => hp e.symm
    simp [go_sem, hp, hq]
theorem Ar2.put {w : World} {D m k : Nat} {fx fy : Nat → Nat} (h : Ar2 w D m k fx fy) (hk : k < m) : Ar2 ((w.setCell ⟨D, k * 2, none⟩ (.float .f64 (fx k))).setCell ⟨D, k * 2 + 1, none⟩ (.float .f64 (fy k))) D m (k + 1) fx fy := by
  have e1 := h.ex (k * 2) (by omega)
  have e2 : ∃ v, (w.setCell ⟨D, k * 2, none⟩ (.float .f64 (fx k))).cell? ⟨D, k * 2 + 1, none⟩ = some v := by
    obtain ⟨v, hv⟩ := h.ex (k * 2 + 1) (by omega)
    exact ⟨v, by rw [cell_set _ _ _ _ _ e1, if_neg (by omega), hv]⟩
  refine ⟨by simp; exact h.lt, fun o ho => ?_, fun o => by simp [World.frozen?_setCell, h.fz], fun i hi => ?_, fun i hi => ?_⟩
  · rw [cell_set _ _ _ _ _ e2, cell_set _ _ _ _ _ e1]
    split
    · exact ⟨_, rfl⟩
    · split
      · exact ⟨_, rfl⟩
      · exact h.ex o ho
  · rw [cell_set _ _ _ _ _ e2, cell_set _ _ _ _ _ e1, if_neg (by omega)]
    by_cases hik : i = k
    · subst hik; rw [if_pos rfl]
    · rw [if_neg (by omega)]; exact h.c0 i (by omega)
  · rw [cell_set _ _ _ _ _ e2, cell_set _ _ _ _ _ e1]
    by_cases hik : i = k
    · subst hik; rw [if_pos rfl]
    · rw [if_neg (by omega), if_neg (by omega)]; exact h.c1 i (by omega)
theorem Ar2.ivs {w : World} {D m : Nat} {fx fy : Nat → Nat} (h : Ar2 w D m m fx fy) : Ivs w (some ⟨D, 0, none⟩) m fx fy := fun u kk i hi => by
  have g := h.kept kk
  exact ⟨D, 0, rfl, by rw [Nat.zero_add]; exact g.c0 i hi, by rw [Nat.zero_add]; exact g.c1 i hi⟩
theorem iv_info : (Tryz.prog.info? 87).map (fun i => (i.zero, i.size, i.bytes)) = some (some (.agg #[.float .f64 0, .float .f64 0]), 2, 16) := by kernel_rfl
theorem iv_under : Tryz.prog.underlying 99 = some (.slice 87) := by kernel_rfl
theorem makeI_run (k : Nat) (hk : k ≤ 1000000) (w : World) : (Instr.makeSlice 99 (.int .i64 (k : Int)) (.int .i64 (k : Int))).run Tryz.prog w = .ok (.slice (some ⟨w.heap.size, 0, none⟩) k k) (w.alloc (.cells (madeCells #[.float .f64 0, .float .f64 0] (k * 2)) 87)) := by
  obtain ⟨i, hi, hz, hs, hby⟩ := info_parts iv_info
  have := run_make (P := Tryz.prog) w 99 87 i _ iv_under hi hz .i64 .i64 (k : Int) (k : Int) (by omega) (Int.le_refl _) (by rw [hby]; omega) (by omega)
  rw [hs, Int.toNat_natCast] at this
  exact this
theorem Ar2.made (m : Nat) (fx fy : Nat → Nat) (w : World) : Ar2 (w.alloc (.cells (madeCells #[.float .f64 0, .float .f64 0] (m * 2)) 87)) w.heap.size m 0 fx fy := by
  refine ⟨by simp, fun o ho => ?_, fun o => by simp [go_sem], fun i hi => absurd hi (Nat.not_lt_zero _), fun i hi => absurd hi (Nat.not_lt_zero _)⟩
  rw [World.cell?_alloc_at _ _ _ _ rfl]
  have hs := size_madeCells #[.float .f64 0, .float .f64 0] (m * 2)
  exact ⟨_, Array.getElem?_eq_getElem (by omega)⟩
/-- how a list of spans lies -/
def Sps (w : World) (ao : Option Addr) (m : Nat) (la lb : Nat → Int) : Prop := ∀ u, Kept w u → ∀ i, i < m → ∃ b off, ao = some ⟨b, off, none⟩ ∧ u.cell? ⟨b, off + i * 2, none⟩ = some (.int .i64 (la i)) ∧ u.cell? ⟨b, off + i * 2 + 1, none⟩ = some (.int .i64 (lb i))
set_option maxHeartbeats 4000000 in
set_option maxRecDepth 100000 in
theorem sum_walk (n : Int) (m c : Nat) (hm : m ≤ 65536) (la lb : Nat → Int) (fx fy : Nat → Nat) (ao : Option Addr) (p1 p2 : Int) (J : Nat → Nat → Prop) (w : World) (hI : Sps w ao m la lb)
    (KV : Hid (∀ u, Calls Tryz.prog 75 #[.int .i64 0, .int .i64 n] u fun e w' => e = .returned (.bool true) ∧ u = w'))
    (KO : Hid (∀ i, i < m → ∀ u, Calls Tryz.prog 73 #[sp2 (la i) (lb i), .int .i64 n] u fun e w' => e = .returned (.tuple #[fv2 (fx i) (fy i), .int .i64 0]) ∧ Kept u w'))
    (KJ : Hid (∀ u D, Kept w u → Ivs u (some ⟨D, 0, none⟩) m fx fy → Calls Tryz.prog 69 #[.int .i64 n, .slice (some ⟨D, 0, none⟩) m m] u fun e w' => ∃ x y, e = .returned (fv2 x y) ∧ J x y ∧ Kept u w'))
    (KT : Hid (∀ u x y, J x y → Calls Tryz.prog 68 #[fv2 x y, .int .i64 n, .int .i64 0] u fun e w' => e = .returned (.tuple #[sp2 p1 p2, .int .i64 0]) ∧ Kept u w')) :
    Calls Tryz.prog 22 #[.slice ao m c, .int .i64 n] w fun e w' => e = .returned (.tuple #[sp2 p1 p2, .int .i64 0]) ∧ Kept w w' := by
  have HI : Hid (Sps w ao m la lb) := hI
  clear hI
  have hSF := sto_f
  obtain ⟨X, hX⟩ : ∃ X, X = w.alloc (.cells #[.int .i64 0, .int .i64 0] 23) := ⟨_, rfl⟩
  have hK : Kept w X := by
    rw [hX]
    exact (Kept.refl w).alloc _ _
  have hQ : P2 X w.heap.size (.int .i64 0) (.int .i64 0) := by
    rw [hX]
    exact P2.new w _ _ _
  obtain ⟨H0, hH0⟩ : ∃ H, H = w.heap.size := ⟨_, rfl⟩
  rw [← hH0] at hQ
  have o0 : w.heap.size ≤ H0 := by omega
  have hlen : decide ((m : Int) > 65536) = false := by rw [decide_eq_false_iff_not]; omega
  have hlen2 : decide ((65536 : Int) < (m : Int)) = false := by rw [decide_eq_false_iff_not]; omega
  have hmk := makeI_run m (by omega) X
  have hA := Ar2.made m fx fy X
  obtain ⟨Y, hY⟩ : ∃ Y, Y = X.alloc (.cells (madeCells #[.float .f64 0, .float .f64 0] (m * 2)) 87) := ⟨_, rfl⟩
  have kXY : Kept X Y := by
    rw [hY]
    exact (Kept.refl X).alloc _ _
  obtain ⟨D, hD⟩ : ∃ D, D = X.heap.size := ⟨_, rfl⟩
  have nD : H0 ≠ D := by have := hQ.lt; omega
  have nD' : D ≠ H0 := fun e => nD e.symm
  have oD : w.heap.size ≤ D := by have := hK.below.size; omega
  rw [← hY, ← hD] at hmk hA
  go_enter Tryz.func22, Tryz.ntmps22
  go_upto_region 1 with fail
  rw [← hX, ← hH0]
  clear hX hH0 hY hD
  go_upto_region 7 with (first | (go_at_call 75; refine (KV.out _).mono ?_; rintro e w1 ⟨rfl, rfl⟩))
  clear KV hmk
  have hQ := hQ.kept kXY
  have hK := hK.trans kXY
  clear kXY
  go_loopw [26] (fun i wr => ∃ (k : Nat), k ≤ m ∧ i = .int .i64 k ∧ Ar2 wr D m k fx fy ∧ P2 wr H0 (.int .i64 0) (.int .i64 0) ∧ Kept w wr) (fun i _ => m - (intOf i).toNat)
  case atStart => exact ⟨0, Nat.zero_le _, rfl, hA, hQ, hK⟩
  case round =>
    clear hQ hK hA
    obtain ⟨k, hk, rfl, hA, hQ, hK⟩ := hrel
    by_cases hkm : k < m
    · obtain ⟨b, off, rfl, ci0, ci1⟩ := HI.out _ hK k hkm
      have KO2 : Hid (∀ u, Calls Tryz.prog 73 #[sp2 (la k) (lb k), .int .i64 n] u fun e w' => e = .returned (.tuple #[fv2 (fx k) (fy k), .int .i64 0]) ∧ Kept u w') := KO.out k hkm
      have HP : Hid (∀ u, Kept wr u → Ar2 ((u.setCell ⟨D, k * 2, none⟩ (.float .f64 (fx k))).setCell ⟨D, k * 2 + 1, none⟩ (.float .f64 (fy k))) D m (k + 1) fx fy) := fun u kk => (hA.kept kk).put hkm
      have HE : Hid (∀ u, Kept wr u → ∃ v0 v1, u.cell? ⟨D, k * 2, none⟩ = some v0 ∧ u.cell? ⟨D, k * 2 + 1, none⟩ = some v1) := fun u kk => by
        obtain ⟨v0, h0⟩ := (hA.kept kk).ex (k * 2) (by omega)
        obtain ⟨v1, h1⟩ := (hA.kept kk).ex (k * 2 + 1) (by omega)
        exact ⟨v0, v1, h0, h1⟩
      have HF : Hid (∀ u, Kept wr u → u.frozen? ⟨D, k * 2, none⟩ = false ∧ u.frozen? ⟨D, k * 2 + 1, none⟩ = false) := fun u kk => ⟨(hA.kept kk).fz _, (hA.kept kk).fz _⟩
      clear KO KJ KT HI hA
      generalize la k = l0 at *
      generalize lb k = l1 at *
      generalize fx k = xk at *
      generalize fy k = yk at *
      go_wp2_with (first | (go_at_call 73; refine (KO2.out _).mono ?_; rintro e w5 ⟨rfl, k5⟩; have k6 := (((Kept.refl wr).alloc _ _).trans k5).alloc #[.float .f64 xk, .float .f64 yk] 87; obtain ⟨v0, v1, s0, s1⟩ := HE.out _ k6; obtain ⟨g0, g1⟩ := HF.out _ k6))
      go_roundw
      case rel => exact ⟨k + 1, by omega, by go_num, HP.out _ k6, ((hQ.kept k6).set D _ nD' _).set D _ nD' _, ((hK.trans k6).setCell oD _).setCell oD _⟩
      case measure => simp [intOf]; omega
    · obtain rfl : k = m := by omega
      have hIv := hA.ivs
      clear KO HI
      go_wp2_with (first | (go_at_call 69; refine (KJ.out _ _ hK hIv).mono ?_; rintro e w2 ⟨x, y, rfl, hJ, k2⟩) | (go_at_call 68; refine (KT.out _ _ _ hJ).mono ?_; rintro e w3 ⟨rfl, k3⟩; have k4 := k2.trans k3; have hz := (hQ.kept k4).put (.int .i64 p1) (.int .i64 p2); obtain ⟨d0, d1, df⟩ := hQ.kept k4; obtain ⟨e0, e1, ef⟩ := hz))
      exact bodyPost_ret (v := .tuple #[sp2 p1 p2, .int .i64 0]) (by simp [results, Tryz.results22, go_sem, e0, e1]) rfl ⟨rfl, ((hK.trans k4).setCell o0 _).setCell o0 _⟩
end Go.Proofs.YtdhimkpfnhoagaaGreatDoor
