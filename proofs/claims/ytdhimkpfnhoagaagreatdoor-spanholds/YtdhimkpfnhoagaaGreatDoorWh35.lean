/- The statements' own around. The laws' own intervals around a float; three cells. -/
import Derived.Test.YtdhimkpfnhoagaaGreatDoorWh34
namespace Go.Proofs.YtdhimkpfnhoagaaGreatDoor
open Go.ChangeShapes Go.WideShapes Go.ChangeAt Go.RowKit Ieee
set_option linter.unusedVariables false
set_option linter.unusedSimpArgs false

def itr (f : Int → Int) : Nat → Int → Int
  | 0, y => y
  | k + 1, y => f (itr f k y)
theorem New.set {w0 w : World} {v : Value} {x : Nm} (h : New w0 w v x) {p : Addr} (hp : p.block < w0.heap.size) (u : Value) : New w0 (w.setCell p u) v x := by
  rcases h with h | ⟨g, cap, e, hg, ho, hne⟩
  · exact .inl h
  · exact .inr ⟨g, cap, e, hg, ho.setOther (by omega) _, hne⟩
set_option maxHeartbeats 4000000 in
set_option maxRecDepth 100000 in
theorem laround_64 (b bl1 ab1 : Int) (i j : Nat) (hi8 : i < 8) (hj8 : j < 8) (hbl : bits .and .i64 bl1 7 = (i : Int)) (hab : bits .and .i64 ab1 7 = (j : Int)) (R : Nm) (e0 : Int) (w : World)
    (KE : Hid (∀ u, Kept w u → Calls Tryz.prog 55 #[.int .i64 b, .int .i64 64] u fun e w' => ∃ v, e = .returned (.tuple #[v, .int .i64 e0]) ∧ New u w' v R ∧ Kept u w'))
    (KP : Hid (∀ u (k : Nat), k < 8 → Calls Tryz.prog 56 #[.int .i64 (itr (prv · 64) k b), .int .i64 64] u fun e w' => e = .returned (.int .i64 (itr (prv · 64) (k + 1) b)) ∧ Kept u w'))
    (KN : Hid (∀ u (k : Nat), k < 8 → Calls Tryz.prog 57 #[.int .i64 (itr (nxt · 64) k b), .int .i64 64] u fun e w' => e = .returned (.int .i64 (itr (nxt · 64) (k + 1) b)) ∧ Kept u w')) :
    Calls Tryz.prog 12 #[.int .i64 b, .int .i64 bl1, .int .i64 ab1, .int .i64 64] w fun e w' => ∃ v, e = .returned (.tuple #[sp2 (itr (prv · 64) i b) (itr (nxt · 64) j b), v, .bool (e0 == 0)]) ∧ New w w' v R ∧ Kept w w' := by
  obtain ⟨X, hX⟩ : ∃ X, X = (w.alloc (.cells #[.int .i64 0, .int .i64 0] 23)).alloc (.cells #[.bool false, .slice none 0 0, .int .i64 0] 26) := ⟨_, rfl⟩
  have hK : Kept w X := by
    rw [hX]
    exact ((Kept.refl w).alloc _ _).alloc _ _
  have hS : P2 X w.heap.size (.int .i64 0) (.int .i64 0) := by
    rw [hX]
    exact (P2.new w _ _ _).alloc _ _
  have hN : X.cell? ⟨w.heap.size + 1, 0, none⟩ = some (.bool false) ∧ X.cell? ⟨w.heap.size + 1, 1, none⟩ = some (.slice none 0 0) ∧ X.cell? ⟨w.heap.size + 1, 2, none⟩ = some (.int .i64 0) ∧ ∀ o, X.frozen? ⟨w.heap.size + 1, o, none⟩ = false := by
    rw [hX]
    exact ⟨by simp [go_sem], by simp [go_sem], by simp [go_sem], fun o => by simp [go_sem]⟩
  have hs : Hid (X.heap.size = w.heap.size + 2) := by rw [hX]; simp [Hid]
  obtain ⟨H0, hH0⟩ : ∃ H, H = w.heap.size := ⟨_, rfl⟩
  obtain ⟨H1, hH1⟩ : ∃ H, H = H0 + 1 := ⟨_, rfl⟩
  rw [← hH0] at hS hN
  rw [← hH1] at hN
  have o0 : w.heap.size ≤ H0 := by omega
  have o1 : w.heap.size ≤ H1 := by omega
  have lH1 : H1 < X.heap.size := by have := hs.out; omega
  have lH0 : H0 < X.heap.size := by omega
  have n01 : ¬ H0 = H1 := by omega
  have n10 : ¬ H1 = H0 := by omega
  go_enter Tryz.func12, Tryz.ntmps12
  go_upto_region 1 with fail
  rw [← hX, ← hH0, ← hH1]
  clear hX hH0 hH1 hs
  go_upto_region 6 with (first | (go_at_call 55; refine (KE.out _ hK).mono ?_; rintro e w1 ⟨v, rfl, hv, k1⟩; obtain ⟨vn, va, vl, vc, vx, rfl⟩ := hv.shape))
  obtain ⟨Y, hY⟩ : ∃ Y, Y = w1.alloc (.cells #[.bool vn, .slice va vl vc, .int .i64 vx] 26) := ⟨_, rfl⟩
  have hB : Y.cell? ⟨w1.heap.size, 0, none⟩ = some (.bool vn) ∧ Y.cell? ⟨w1.heap.size, 1, none⟩ = some (.slice va vl vc) ∧ Y.cell? ⟨w1.heap.size, 2, none⟩ = some (.int .i64 vx) := by
    rw [hY]
    exact ⟨by simp [go_sem], by simp [go_sem], by simp [go_sem]⟩
  have lB : w1.heap.size < Y.heap.size := by rw [hY]; simp
  have kY : Kept X Y := by rw [hY]; exact k1.alloc _ _
  have hvY : New X Y (.agg #[.bool vn, .slice va vl vc, .int .i64 vx]) R := by rw [hY]; exact hv.kept ((Kept.refl _).alloc _ _)
  have zB := k1.below.size
  obtain ⟨B, hBB⟩ : ∃ B, B = w1.heap.size := ⟨_, rfl⟩
  rw [← hBB] at hB lB zB
  rw [← hY, ← hBB]
  clear hY hBB hv k1 KE
  have nB0 : ¬ B = H0 := by omega
  have nB1 : ¬ B = H1 := by omega
  have n0B : ¬ H0 = B := by omega
  have n1B : ¬ H1 = B := by omega
  have hi' : (i : Int) < 8 := by omega
  have hj' : (j : Int) < 8 := by omega
  go_wp2_with fail
  go_loopw [13, 15] (fun lv iv wr => ∃ k : Nat, k ≤ i ∧ lv = .int .i64 (itr (prv · 64) k b) ∧ iv = .int .i64 k ∧ Kept Y wr) (fun _ iv _ => i - (intOf iv).toNat)
  case atStart => exact ⟨0, Nat.zero_le _, rfl, rfl, Kept.refl _⟩
  case round =>
    obtain ⟨k, hk, rfl, rfl, kr⟩ := hrel
    by_cases hki : k < i
    · have hkI : (k : Int) < (i : Int) := by omega
      have KPk := KP.out wr k (by omega)
      have HPk : Hid (Calls Tryz.prog 56 #[.int .i64 (itr (prv · 64) k b), .int .i64 64] wr fun e w' => e = .returned (.int .i64 (itr (prv · 64) (k + 1) b)) ∧ Kept wr w') := KPk
      clear KPk
      generalize itr (prv · 64) k b = yk at *
      obtain ⟨yk1, hyk1⟩ : ∃ z, z = itr (prv · 64) (k + 1) b := ⟨_, rfl⟩
      have Hyk : Hid (yk1 = itr (prv · 64) (k + 1) b) := hyk1
      rw [← hyk1] at HPk
      clear hyk1
      go_wp2_with (first | (go_at_call 56; refine HPk.out.mono ?_; rintro e w3 ⟨rfl, k3⟩))
      go_roundw
      case rel => exact ⟨k + 1, by omega, by rw [Hyk.out], by go_num, kr.trans k3⟩
      case measure => simp [intOf]; omega
    · have hki' : k = i := by omega
      subst hki'
      obtain ⟨lo, hlo⟩ : ∃ z, z = itr (prv · 64) k b := ⟨_, rfl⟩
      have Hlo : Hid (lo = itr (prv · 64) k b) := hlo
      rw [← hlo]
      clear hlo KP
      go_wp2_with fail
      go_loopw [14, 16] (fun lv iv wr => ∃ k2 : Nat, k2 ≤ j ∧ lv = .int .i64 (itr (nxt · 64) k2 b) ∧ iv = .int .i64 k2 ∧ Kept Y wr) (fun _ iv _ => j - (intOf iv).toNat)
      case atStart => exact ⟨0, Nat.zero_le _, rfl, rfl, kr⟩
      case round =>
        obtain ⟨k2, hk2, rfl, rfl, ks⟩ := hrel
        by_cases hkj : k2 < j
        · have hkJ : (k2 : Int) < (j : Int) := by omega
          have KNk := KN.out wr k2 (by omega)
          have HNk : Hid (Calls Tryz.prog 57 #[.int .i64 (itr (nxt · 64) k2 b), .int .i64 64] wr fun e w' => e = .returned (.int .i64 (itr (nxt · 64) (k2 + 1) b)) ∧ Kept wr w') := KNk
          clear KNk
          generalize itr (nxt · 64) k2 b = yk at *
          obtain ⟨yk1, hyk1⟩ : ∃ z, z = itr (nxt · 64) (k2 + 1) b := ⟨_, rfl⟩
          have Hyk : Hid (yk1 = itr (nxt · 64) (k2 + 1) b) := hyk1
          rw [← hyk1] at HNk
          clear hyk1
          go_wp2_with (first | (go_at_call 57; refine HNk.out.mono ?_; rintro e w3 ⟨rfl, k3⟩))
          go_roundw
          case rel => exact ⟨k2 + 1, by omega, by rw [Hyk.out], by go_num, ks.trans k3⟩
          case measure => simp [intOf]; omega
        · have hkj' : k2 = j := by omega
          subst hkj'
          obtain ⟨up, hup⟩ : ∃ z, z = itr (nxt · 64) k2 b := ⟨_, rfl⟩
          have Hup : Hid (up = itr (nxt · 64) k2 b) := hup
          rw [← hup]
          clear hup KN
          obtain ⟨hN0, hN1, hN2, hNf⟩ := hN
          have j := kY.trans ks
          have s0 := hS.kept j
          have m0 := (j.below.cell (p := ⟨H1, 0, none⟩) lH1).trans hN0
          have m1 := (j.below.cell (p := ⟨H1, 1, none⟩) lH1).trans hN1
          have m2 := (j.below.cell (p := ⟨H1, 2, none⟩) lH1).trans hN2
          have mf : ∀ o, wr.frozen? ⟨H1, o, none⟩ = false := fun o => (j.frozen _).trans (hNf o)
          have b0 := (ks.below.cell (p := ⟨B, 0, none⟩) lB).trans hB.1
          have b1 := (ks.below.cell (p := ⟨B, 1, none⟩) lB).trans hB.2.1
          have b2 := (ks.below.cell (p := ⟨B, 2, none⟩) lB).trans hB.2.2
          have hvr := (((((hvY.kept ks).set (p := ⟨H0, 0, none⟩) lH0 (.int .i64 lo)).set (p := ⟨H0, 1, none⟩) lH0 (.int .i64 up)).set (p := ⟨H1, 0, none⟩) lH1 (.bool vn)).set (p := ⟨H1, 1, none⟩) lH1 (.slice va vl vc)).set (p := ⟨H1, 2, none⟩) lH1 (.int .i64 vx)
          have hkr := ((((((hK.trans j).setCell (p := ⟨H0, 0, none⟩) o0 (.int .i64 lo)).setCell (p := ⟨H0, 1, none⟩) o0 (.int .i64 up)).setCell (p := ⟨H1, 0, none⟩) o1 (.bool vn)).setCell (p := ⟨H1, 1, none⟩) o1 (.slice va vl vc)).setCell (p := ⟨H1, 2, none⟩) o1 (.int .i64 vx))
          obtain ⟨a0, a1, af⟩ := s0
          clear hB hN0 hN1 hN2 hNf hS
          go_wp2_with fail
          go_region
          all_goals go_wp2_with fail
          all_goals
            refine bodyPost_ret (v := .tuple #[sp2 lo up, .agg #[.bool vn, .slice va vl vc, .int .i64 vx], .bool (e0 == 0)]) ?_ rfl ⟨_, by rw [← Hlo.out, ← Hup.out], ?_, ?_⟩
            · simp [results, Tryz.results12, go_sem, a0, a1, m0, m1, m2, n01, n10]
            · first | exact hvr.from hK | exact (hvr.kept (Kept.refl _).drew).from hK
            · first | exact hkr | exact hkr.drew
set_option maxHeartbeats 4000000 in
set_option maxRecDepth 100000 in
theorem laround_32 (b bl1 ab1 : Int) (y : Int) (hy : bits .and .i64 b 4294967295 = y) (i j : Nat) (hi8 : i < 8) (hj8 : j < 8) (hbl : bits .and .i64 bl1 7 = (i : Int)) (hab : bits .and .i64 ab1 7 = (j : Int)) (R : Nm) (e0 : Int) (w : World)
    (KE : Hid (∀ u, Kept w u → Calls Tryz.prog 55 #[.int .i64 y, .int .i64 32] u fun e w' => ∃ v, e = .returned (.tuple #[v, .int .i64 e0]) ∧ New u w' v R ∧ Kept u w'))
    (KP : Hid (∀ u (k : Nat), k < 8 → Calls Tryz.prog 56 #[.int .i64 (itr (prv · 32) k y), .int .i64 32] u fun e w' => e = .returned (.int .i64 (itr (prv · 32) (k + 1) y)) ∧ Kept u w'))
    (KN : Hid (∀ u (k : Nat), k < 8 → Calls Tryz.prog 57 #[.int .i64 (itr (nxt · 32) k y), .int .i64 32] u fun e w' => e = .returned (.int .i64 (itr (nxt · 32) (k + 1) y)) ∧ Kept u w')) :
    Calls Tryz.prog 12 #[.int .i64 b, .int .i64 bl1, .int .i64 ab1, .int .i64 32] w fun e w' => ∃ v, e = .returned (.tuple #[sp2 (itr (prv · 32) i y) (itr (nxt · 32) j y), v, .bool (e0 == 0)]) ∧ New w w' v R ∧ Kept w w' := by
  obtain ⟨X, hX⟩ : ∃ X, X = (w.alloc (.cells #[.int .i64 0, .int .i64 0] 23)).alloc (.cells #[.bool false, .slice none 0 0, .int .i64 0] 26) := ⟨_, rfl⟩
  have hK : Kept w X := by
    rw [hX]
    exact ((Kept.refl w).alloc _ _).alloc _ _
  have hS : P2 X w.heap.size (.int .i64 0) (.int .i64 0) := by
    rw [hX]
    exact (P2.new w _ _ _).alloc _ _
  have hN : X.cell? ⟨w.heap.size + 1, 0, none⟩ = some (.bool false) ∧ X.cell? ⟨w.heap.size + 1, 1, none⟩ = some (.slice none 0 0) ∧ X.cell? ⟨w.heap.size + 1, 2, none⟩ = some (.int .i64 0) ∧ ∀ o, X.frozen? ⟨w.heap.size + 1, o, none⟩ = false := by
    rw [hX]
    exact ⟨by simp [go_sem], by simp [go_sem], by simp [go_sem], fun o => by simp [go_sem]⟩
  have hs : Hid (X.heap.size = w.heap.size + 2) := by rw [hX]; simp [Hid]
  obtain ⟨H0, hH0⟩ : ∃ H, H = w.heap.size := ⟨_, rfl⟩
  obtain ⟨H1, hH1⟩ : ∃ H, H = H0 + 1 := ⟨_, rfl⟩
  rw [← hH0] at hS hN
  rw [← hH1] at hN
  have o0 : w.heap.size ≤ H0 := by omega
  have o1 : w.heap.size ≤ H1 := by omega
  have lH1 : H1 < X.heap.size := by have := hs.out; omega
  have lH0 : H0 < X.heap.size := by omega
  have n01 : ¬ H0 = H1 := by omega
  have n10 : ¬ H1 = H0 := by omega
  go_enter Tryz.func12, Tryz.ntmps12
  go_upto_region 1 with fail
  rw [← hX, ← hH0, ← hH1]
  clear hX hH0 hH1 hs
  go_upto_region 6 with (first | (go_at_call 55; refine (KE.out _ hK).mono ?_; rintro e w1 ⟨v, rfl, hv, k1⟩; obtain ⟨vn, va, vl, vc, vx, rfl⟩ := hv.shape))
  obtain ⟨Y, hY⟩ : ∃ Y, Y = w1.alloc (.cells #[.bool vn, .slice va vl vc, .int .i64 vx] 26) := ⟨_, rfl⟩
  have hB : Y.cell? ⟨w1.heap.size, 0, none⟩ = some (.bool vn) ∧ Y.cell? ⟨w1.heap.size, 1, none⟩ = some (.slice va vl vc) ∧ Y.cell? ⟨w1.heap.size, 2, none⟩ = some (.int .i64 vx) := by
    rw [hY]
    exact ⟨by simp [go_sem], by simp [go_sem], by simp [go_sem]⟩
  have lB : w1.heap.size < Y.heap.size := by rw [hY]; simp
  have kY : Kept X Y := by rw [hY]; exact k1.alloc _ _
  have hvY : New X Y (.agg #[.bool vn, .slice va vl vc, .int .i64 vx]) R := by rw [hY]; exact hv.kept ((Kept.refl _).alloc _ _)
  have zB := k1.below.size
  obtain ⟨B, hBB⟩ : ∃ B, B = w1.heap.size := ⟨_, rfl⟩
  rw [← hBB] at hB lB zB
  rw [← hY, ← hBB]
  clear hY hBB hv k1 KE
  have nB0 : ¬ B = H0 := by omega
  have nB1 : ¬ B = H1 := by omega
  have n0B : ¬ H0 = B := by omega
  have n1B : ¬ H1 = B := by omega
  have hi' : (i : Int) < 8 := by omega
  have hj' : (j : Int) < 8 := by omega
  go_wp2_with fail
  go_loopw [13, 15] (fun lv iv wr => ∃ k : Nat, k ≤ i ∧ lv = .int .i64 (itr (prv · 32) k y) ∧ iv = .int .i64 k ∧ Kept Y wr) (fun _ iv _ => i - (intOf iv).toNat)
  case atStart => exact ⟨0, Nat.zero_le _, rfl, rfl, Kept.refl _⟩
  case round =>
    obtain ⟨k, hk, rfl, rfl, kr⟩ := hrel
    by_cases hki : k < i
    · have hkI : (k : Int) < (i : Int) := by omega
      have KPk := KP.out wr k (by omega)
      have HPk : Hid (Calls Tryz.prog 56 #[.int .i64 (itr (prv · 32) k y), .int .i64 32] wr fun e w' => e = .returned (.int .i64 (itr (prv · 32) (k + 1) y)) ∧ Kept wr w') := KPk
      clear KPk
      generalize itr (prv · 32) k y = yk at *
      obtain ⟨yk1, hyk1⟩ : ∃ z, z = itr (prv · 32) (k + 1) y := ⟨_, rfl⟩
      have Hyk : Hid (yk1 = itr (prv · 32) (k + 1) y) := hyk1
      rw [← hyk1] at HPk
      clear hyk1
      go_wp2_with (first | (go_at_call 56; refine HPk.out.mono ?_; rintro e w3 ⟨rfl, k3⟩))
      go_roundw
      case rel => exact ⟨k + 1, by omega, by rw [Hyk.out], by go_num, kr.trans k3⟩
      case measure => simp [intOf]; omega
    · have hki' : k = i := by omega
      subst hki'
      obtain ⟨lo, hlo⟩ : ∃ z, z = itr (prv · 32) k y := ⟨_, rfl⟩
      have Hlo : Hid (lo = itr (prv · 32) k y) := hlo
      rw [← hlo]
      clear hlo KP
      go_wp2_with fail
      go_loopw [14, 16] (fun lv iv wr => ∃ k2 : Nat, k2 ≤ j ∧ lv = .int .i64 (itr (nxt · 32) k2 y) ∧ iv = .int .i64 k2 ∧ Kept Y wr) (fun _ iv _ => j - (intOf iv).toNat)
      case atStart => exact ⟨0, Nat.zero_le _, rfl, rfl, kr⟩
      case round =>
        obtain ⟨k2, hk2, rfl, rfl, ks⟩ := hrel
        by_cases hkj : k2 < j
        · have hkJ : (k2 : Int) < (j : Int) := by omega
          have KNk := KN.out wr k2 (by omega)
          have HNk : Hid (Calls Tryz.prog 57 #[.int .i64 (itr (nxt · 32) k2 y), .int .i64 32] wr fun e w' => e = .returned (.int .i64 (itr (nxt · 32) (k2 + 1) y)) ∧ Kept wr w') := KNk
          clear KNk
          generalize itr (nxt · 32) k2 y = yk at *
          obtain ⟨yk1, hyk1⟩ : ∃ z, z = itr (nxt · 32) (k2 + 1) y := ⟨_, rfl⟩
          have Hyk : Hid (yk1 = itr (nxt · 32) (k2 + 1) y) := hyk1
          rw [← hyk1] at HNk
          clear hyk1
          go_wp2_with (first | (go_at_call 57; refine HNk.out.mono ?_; rintro e w3 ⟨rfl, k3⟩))
          go_roundw
          case rel => exact ⟨k2 + 1, by omega, by rw [Hyk.out], by go_num, ks.trans k3⟩
          case measure => simp [intOf]; omega
        · have hkj' : k2 = j := by omega
          subst hkj'
          obtain ⟨up, hup⟩ : ∃ z, z = itr (nxt · 32) k2 y := ⟨_, rfl⟩
          have Hup : Hid (up = itr (nxt · 32) k2 y) := hup
          rw [← hup]
          clear hup KN
          obtain ⟨hN0, hN1, hN2, hNf⟩ := hN
          have j := kY.trans ks
          have s0 := hS.kept j
          have m0 := (j.below.cell (p := ⟨H1, 0, none⟩) lH1).trans hN0
          have m1 := (j.below.cell (p := ⟨H1, 1, none⟩) lH1).trans hN1
          have m2 := (j.below.cell (p := ⟨H1, 2, none⟩) lH1).trans hN2
          have mf : ∀ o, wr.frozen? ⟨H1, o, none⟩ = false := fun o => (j.frozen _).trans (hNf o)
          have b0 := (ks.below.cell (p := ⟨B, 0, none⟩) lB).trans hB.1
          have b1 := (ks.below.cell (p := ⟨B, 1, none⟩) lB).trans hB.2.1
          have b2 := (ks.below.cell (p := ⟨B, 2, none⟩) lB).trans hB.2.2
          have hvr := (((((hvY.kept ks).set (p := ⟨H0, 0, none⟩) lH0 (.int .i64 lo)).set (p := ⟨H0, 1, none⟩) lH0 (.int .i64 up)).set (p := ⟨H1, 0, none⟩) lH1 (.bool vn)).set (p := ⟨H1, 1, none⟩) lH1 (.slice va vl vc)).set (p := ⟨H1, 2, none⟩) lH1 (.int .i64 vx)
          have hkr := ((((((hK.trans j).setCell (p := ⟨H0, 0, none⟩) o0 (.int .i64 lo)).setCell (p := ⟨H0, 1, none⟩) o0 (.int .i64 up)).setCell (p := ⟨H1, 0, none⟩) o1 (.bool vn)).setCell (p := ⟨H1, 1, none⟩) o1 (.slice va vl vc)).setCell (p := ⟨H1, 2, none⟩) o1 (.int .i64 vx))
          obtain ⟨a0, a1, af⟩ := s0
          clear hB hN0 hN1 hN2 hNf hS
          go_wp2_with fail
          go_region
          all_goals go_wp2_with fail
          all_goals
            refine bodyPost_ret (v := .tuple #[sp2 lo up, .agg #[.bool vn, .slice va vl vc, .int .i64 vx], .bool (e0 == 0)]) ?_ rfl ⟨_, by rw [← Hlo.out, ← Hup.out], ?_, ?_⟩
            · simp [results, Tryz.results12, go_sem, a0, a1, m0, m1, m2, n01, n10]
            · first | exact hvr.from hK | exact (hvr.kept (Kept.refl _).drew).from hK
            · first | exact hkr | exact hkr.drew
end Go.Proofs.YtdhimkpfnhoagaaGreatDoor

namespace Go.Proofs.YtdhimkpfnhoagaaGreatDoor
open Go.ChangeShapes Go.WideShapes Go.ChangeAt Go.RowKit Ieee
set_option linter.unusedVariables false
set_option linter.unusedSimpArgs false

/-- three cells of a block -/
structure P3 (w : World) (b : Nat) (u v x : Value) : Prop where
  c0 : w.cell? ⟨b, 0, none⟩ = some u
  c1 : w.cell? ⟨b, 1, none⟩ = some v
  c2 : w.cell? ⟨b, 2, none⟩ = some x
theorem P3.new (w : World) (u v x : Value) (t : TypeId) : P3 (w.alloc (.cells #[u, v, x] t)) w.heap.size u v x := ⟨by simp [go_sem], by simp [go_sem], by simp [go_sem]⟩
theorem P3.lt {w : World} {b : Nat} {u v x : Value} (h : P3 w b u v x) : b < w.heap.size := by
  have := h.c0
  by_cases hb : b < w.heap.size
  · exact hb
  · have hg : w.heap[b]? = none := by simp at hb ⊢; omega
    simp [World.cell?, hg] at this
theorem P3.kept {w w' : World} {b : Nat} {u v x : Value} (h : P3 w b u v x) (k : Kept w w') : P3 w' b u v x :=
  ⟨(k.below.cell (p := ⟨b, 0, none⟩) h.lt).trans h.c0, (k.below.cell (p := ⟨b, 1, none⟩) h.lt).trans h.c1, (k.below.cell (p := ⟨b, 2, none⟩) h.lt).trans h.c2⟩
theorem P3.alloc {w : World} {b : Nat} {u v x : Value} (h : P3 w b u v x) (c : Array Value) (t : TypeId) : P3 (w.alloc (.cells c t)) b u v x := h.kept ((Kept.refl w).alloc c t)

theorem mask32b (s : Int) : bits .and .i64 s 4294967295 = s % 4294967296 := by
  have e : (BitVec.ofInt 64 4294967295 : BitVec 64).toNat = 2 ^ 32 - 1 := by decide
  have h := ofInt_toNat s
  rw [bits_and, BitVec.toNat_and, e, Nat.and_two_pow_sub_one_eq_mod, wrap_i64]
  omega
theorem mask3 (s : Int) : bits .and .i64 s 7 = s % 8 := by
  have e : (BitVec.ofInt 64 7 : BitVec 64).toNat = 2 ^ 3 - 1 := by decide
  have h := ofInt_toNat s
  rw [bits_and, BitVec.toNat_and, e, Nat.and_two_pow_sub_one_eq_mod, wrap_i64]
  omega
theorem mask1 (s : Int) : bits .and .i64 s 1 = s % 2 := by
  have e : (BitVec.ofInt 64 1 : BitVec 64).toNat = 2 ^ 1 - 1 := by decide
  have h := ofInt_toNat s
  rw [bits_and, BitVec.toNat_and, e, Nat.and_two_pow_sub_one_eq_mod, wrap_i64]
  omega
theorem itr_rng (f : Int → Int) (hf : ∀ z, RB z → RB (f z)) (k : Nat) (y : Int) (hy : RB y) : RB (itr f k y) := by
  induction k with
  | zero => exact hy
  | succ k ih => exact hf _ ih
theorem nxt_rb (n z : Int) (h : RB z) : RB (nxt z n) := nxt_bd z n h.1 h.2
theorem ngt_rb (n z : Int) (h : RB z) : RB (ngt z n) := by
  unfold RB at *
  unfold ngt nanOf
  (repeat' split) <;> omega
theorem prv_rb (n z : Int) (h : RB z) : RB (prv z n) := ngt_rb n _ (nxt_rb n _ (ngt_rb n z h))
/-- the int as a pattern of the width -/
def mskp (b n : Int) : Int := if n = 32 then b % 4294967296 else b
theorem mskp_rb (b n : Int) (h : RB b) : RB (mskp b n) := by
  unfold RB at *
  unfold mskp
  split <;> omega
def numOf (y n : Int) : Nm := if cls y n < 3 then ofN y n else ⟨false, [], 0⟩
theorem of_both (y n : Int) (hn : n = 64 ∨ n = 32) (hy : RB y) (w : World) (hT : Tab w) : Calls Tryz.prog 55 #[.int .i64 y, .int .i64 n] w fun e w' => ∃ v, e = .returned (.tuple #[v, .int .i64 (if cls y n < 3 then 0 else 6)]) ∧ New w w' v (numOf y n) ∧ Kept w w' := by
  unfold numOf
  by_cases hc : cls y n < 3
  · rw [if_pos hc, if_pos hc]
    exact of_fin y n hy.1 hy.2 hn hc w hT
  · rw [if_neg hc, if_neg hc]
    refine (of_bits y n hy.1 hy.2 hn (by omega) w).mono ?_
    rintro e w' ⟨rfl, k⟩
    exact ⟨_, rfl, .inl ⟨rfl, rfl⟩, k⟩
theorem lar_any (n : Int) (hn : n = 64 ∨ n = 32) (b bl1 ab1 : Int) (hb : RB b) (w : World) (hT : Tab w) : Calls Tryz.prog 12 #[.int .i64 b, .int .i64 bl1, .int .i64 ab1, .int .i64 n] w fun e w' => ∃ v, e = .returned (.tuple #[sp2 (itr (prv · n) (bl1 % 8).toNat (mskp b n)) (itr (nxt · n) (ab1 % 8).toNat (mskp b n)), v, .bool (decide (cls (mskp b n) n < 3))]) ∧ New w w' v (numOf (mskp b n) n) ∧ Kept w w' := by
  have hm := mskp_rb b n hb
  have h1 : bits .and .i64 bl1 7 = ((bl1 % 8).toNat : Int) := by rw [mask3]; omega
  have h2 : bits .and .i64 ab1 7 = ((ab1 % 8).toNat : Int) := by rw [mask3]; omega
  have he : ((if cls (mskp b n) n < 3 then (0 : Int) else 6) == 0) = decide (cls (mskp b n) n < 3) := by
    by_cases hc : cls (mskp b n) n < 3 <;> simp [hc]
  have KE : Hid (∀ u, Kept w u → Calls Tryz.prog 55 #[.int .i64 (mskp b n), .int .i64 n] u fun e w' => ∃ v, e = .returned (.tuple #[v, .int .i64 (if cls (mskp b n) n < 3 then 0 else 6)]) ∧ New u w' v (numOf (mskp b n) n) ∧ Kept u w') := fun u k => of_both _ n hn hm u (hT.kept k)
  have KP : Hid (∀ u (k : Nat), k < 8 → Calls Tryz.prog 56 #[.int .i64 (itr (prv · n) k (mskp b n)), .int .i64 n] u fun e w' => e = .returned (.int .i64 (itr (prv · n) (k + 1) (mskp b n))) ∧ Kept u w') := fun u k _ => by
    have := itr_rng (prv · n) (fun z => prv_rb n z) k _ hm
    exact prev_any _ n this.1 this.2 u
  have KN : Hid (∀ u (k : Nat), k < 8 → Calls Tryz.prog 57 #[.int .i64 (itr (nxt · n) k (mskp b n)), .int .i64 n] u fun e w' => e = .returned (.int .i64 (itr (nxt · n) (k + 1) (mskp b n))) ∧ Kept u w') := fun u k _ => by
    have := itr_rng (nxt · n) (fun z => nxt_rb n z) k _ hm
    exact next_any _ n this.1 this.2 u
  rw [← he]
  rcases hn with rfl | rfl
  · have e : mskp b 64 = b := by unfold mskp; rw [if_neg (by decide)]
    rw [e] at KE KP KN ⊢
    exact laround_64 b bl1 ab1 _ _ (by omega) (by omega) h1 h2 _ _ w KE KP KN
  · have e : mskp b 32 = b % 4294967296 := by unfold mskp; rw [if_pos rfl]
    have hy := mask32b b
    rw [← e] at hy
    exact laround_32 b bl1 ab1 _ hy _ _ (by omega) (by omega) h1 h2 _ _ w KE KP KN
theorem new_cap {w w' : World} {vn : Bool} {va : Option Addr} {vl vc : Nat} {vx : Int} {r : Nm} (h : New w w' (.agg #[.bool vn, .slice va vl vc, .int .i64 vx]) r) : va = none → vc = 0 := by
  rcases h with ⟨rfl, e⟩ | ⟨g, cap, e, hg, ho, hne⟩
  · intro _
    simp only [zeroNum, Value.agg.injEq, Array.mk.injEq, List.cons.injEq, Value.slice.injEq] at e
    exact e.2.1.2.2
  · intro g
    subst g
    simp at e
end Go.Proofs.YtdhimkpfnhoagaaGreatDoor
