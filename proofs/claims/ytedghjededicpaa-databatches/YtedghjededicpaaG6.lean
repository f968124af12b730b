/- order: package rng's. -/
import Derived.Test.YtedghjededicpaaG4
import Derived.Test.YtedghjededicpaaU1
import Derived.RegionTactic
import Derived.ChangeAlike
import Derived.Deep.Cut
namespace Go.Proofs.Ytedghjededicpaa
open Go.ChangeShapes Go.WideShapes Go.ChangeAt Go.RowKit
set_option linter.unusedVariables false
set_option linter.unusedSimpArgs false

theorem below_b (s t a : Int) (n : Nat) (hn : 0 < n) (hn2 : n < 9223372036854775808) (w : World) : Calls Try.prog 70 #[.agg #[.int .i64 s, .int .i64 t, .int .i64 a], .int .i64 n] w fun e w' => e = .returned (.tuple #[.int .i64 (bel s t a n : Nat), .agg #[.int .i64 s, .int .i64 t, .int .i64 (beh s t a n)], .int .i64 0]) ∧ Kept w w' :=
  by
  have e : beh s t a n = wrap64 (a + cnt s t a n + 1) := by unfold beh sg64 wrap64; rfl
  rw [e]
  exact below_ok s t a n _ hn hn2 (cnt_over s t a n hn hn2) w

theorem Dw.own {w : World} {g cap b : Nat} {L : List Int} (h : Own w g cap L) (c : Nat) (hc : g ≠ c) (x y z : Value) : Own (put3 w c x y z) g cap L :=
  ((h.setOther (p := ⟨c, 0, none⟩) hc x).setOther (p := ⟨c, 1, none⟩) hc y).setOther (p := ⟨c, 2, none⟩) hc z

theorem ups_succ (k : Nat) : ups (k + 1) = ups k ++ [(k : Int)] := by
  unfold ups; rw [List.range_succ, List.map_append]; rfl

theorem set_mid (A B : List Int) (x y : Int) (k : Nat) (hk : A.length = k) : (A ++ x :: B).set k y = A ++ y :: B := by
  subst hk
  rw [List.set_append_right _ _ (Nat.le_refl _), Nat.sub_self]
  rfl

theorem ups_set (n k : Nat) (hk : k < n) : (ups k ++ List.replicate (n - k) 0).set k (k : Int) = ups (k + 1) ++ List.replicate (n - (k + 1)) 0 := by
  obtain ⟨m, hm⟩ : ∃ m, n - k = m + 1 := ⟨n - k - 1, by omega⟩
  rw [hm, List.replicate_succ, set_mid _ _ _ _ _ (ups_length k), show n - (k + 1) = m by omega, ups_succ]
  simp

set_option maxHeartbeats 4000000 in
set_option maxRecDepth 100000 in
theorem gorder_any (s t a : Int) (n : Nat) (hn : n ≤ 65536) (w : World) : Calls Try.prog 50 #[.agg #[.int .i64 s, .int .i64 t, .int .i64 a], .int .i64 n] w fun e w' => e = .returned (.tuple #[.slice (some ⟨w.heap.size + 2, 0, none⟩) n n, .agg #[.int .i64 s, .int .i64 t, .int .i64 (shuf s t a n).2]]) ∧ Own w' (w.heap.size + 2) n (shuf s t a n).1 ∧ Kept w w' := by
  have hA := (Kept.refl w).alloc #[.int .i64 s, .int .i64 t, .int .i64 a] 54
  have hB := (Kept.refl (w.alloc (.cells #[.int .i64 s, .int .i64 t, .int .i64 a] 54))).alloc #[.int .i64 0, .int .i64 0, .int .i64 0] 54
  have d1 := (dw_new w s t a 54).kept hB
  have d2 := (dw_new (w.alloc (.cells #[.int .i64 s, .int .i64 t, .int .i64 a] 54)) 0 0 0 54)
  rw [show (w.alloc (.cells #[.int .i64 s, .int .i64 t, .int .i64 a] 54)).heap.size = w.heap.size + 1 by simp] at d2
  have hW0 := hA.trans hB
  clear hA hB
  have hbb : ∀ (p : Int) (m : Nat), m + 2 ≤ 65536 → ∀ u, Calls Try.prog 70 #[.agg #[.int .i64 s, .int .i64 t, .int .i64 p], .int .i64 ((m : Int) + 2)] u fun e w' => e = .returned (.tuple #[.int .i64 (bel s t p (m + 2) : Nat), .agg #[.int .i64 s, .int .i64 t, .int .i64 (beh s t p (m + 2))], .int .i64 0]) ∧ Kept u w' := fun p m hm u => by
    have := below_b s t p (m + 2) (by omega) (by omega) u
    rw [show ((m + 2 : Nat) : Int) = (m : Int) + 2 by omega] at this
    exact this
  have HB : Hid (∀ (p : Int) (m : Nat), m + 2 ≤ 65536 → ∀ u, Calls Try.prog 70 #[.agg #[.int .i64 s, .int .i64 t, .int .i64 p], .int .i64 ((m : Int) + 2)] u fun e w' => e = .returned (.tuple #[.int .i64 (bel s t p (m + 2) : Nat), .agg #[.int .i64 s, .int .i64 t, .int .i64 (beh s t p (m + 2))], .int .i64 0]) ∧ Kept u w') := hbb
  clear hbb
  have zn : IntKind.i64.wrap ((n : Int) - 1) = (n : Int) - 1 := by rw [wrap_i64]; omega
  go_enter Try.func50, Try.ntmps50
  go_upto_region 1 with fail
  obtain ⟨X, hX⟩ : ∃ X, X = (w.alloc (.cells #[.int .i64 s, .int .i64 t, .int .i64 a] 54)).alloc (.cells #[.int .i64 0, .int .i64 0, .int .i64 0] 54) := ⟨_, rfl⟩
  rw [← hX] at d1 d2 hW0 ⊢
  have hXs : X.heap.size = w.heap.size + 2 := by rw [hX]; simp
  clear hX
  have HM := make_run n (by omega) X
  have hO := own_made n (by omega) X
  have hK1 : Kept X (X.alloc (.cells (madeCells #[.int .i64 0] n) 3)) := (Kept.refl X).alloc _ _
  rw [hXs] at HM hO
  have D1 := d1.kept hK1
  have D2 := d2.kept hK1
  have K0 := hW0.trans hK1
  obtain ⟨Y, hY⟩ : ∃ Y, Y = X.alloc (.cells (madeCells #[.int .i64 0] n) 3) := ⟨_, rfl⟩
  rw [← hY] at HM hO D1 D2 K0
  clear hY d1 d2 hW0 hK1 hXs
  have H0 : Hid (Own Y (w.heap.size + 2) n (List.replicate n 0) ∧ Dw Y w.heap.size s t a ∧ Dw Y (w.heap.size + 1) 0 0 0 ∧ Kept w Y) := ⟨hO, D1, D2, K0⟩
  clear hO D1 D2 K0
  go_wp2_with fail
  go_loopw [16] (fun i wr => ∃ (k : Nat), k ≤ n ∧ i = .int .i64 k ∧ Own wr (w.heap.size + 2) n (ups k ++ List.replicate (n - k) 0) ∧ Dw wr w.heap.size s t a ∧ Dw wr (w.heap.size + 1) 0 0 0 ∧ Kept w wr) (fun i _ => n - (intOf i).toNat)
  case atStart => exact ⟨0, Nat.zero_le _, rfl, by simpa [ups] using H0.out.1, H0.out.2⟩
  case round =>
    obtain ⟨k, hk, rfl, hO, hd, hr, hK⟩ := hrel
    by_cases hkn : k < n
    · have hlen : (ups k ++ List.replicate (n - k) 0).length = n := by simp [ups_length]; omega
      have hcc := hO.cell k (by omega)
      have hff := hO.free k
      have H1 : Hid (Own wr (w.heap.size + 2) n (ups k ++ List.replicate (n - k) 0) ∧ Dw wr w.heap.size s t a ∧ Dw wr (w.heap.size + 1) 0 0 0 ∧ Kept w wr) := ⟨hO, hd, hr, hK⟩
      clear hO hd hr hK hlen
      go_wp2_with fail
      go_roundw
      case rel =>
        obtain ⟨hO, hd, hr, hK⟩ := H1.out
        refine ⟨k + 1, by omega, by go_num, ?_, hd.far _ (by simp) _, hr.far _ (by simp) _, hK.setCell (by simp) _⟩
        have := hO.set k (k : Int)
        rw [ups_set n k hkn] at this
        exact this
      case measure => simp [intOf]; omega
    · obtain rfl : k = n := by omega
      rw [Nat.sub_self, List.replicate_zero, List.append_nil] at hO
      have H2 : Hid (Own wr (w.heap.size + 2) k (ups k) ∧ Dw wr w.heap.size s t a ∧ Dw wr (w.heap.size + 1) 0 0 0 ∧ Kept w wr) := ⟨hO, hd, hr, hK⟩
      clear hO hd hr hK H0 HM
      go_wp2_with fail
      go_loopw [26] (fun q wr => ∃ (m : Nat) (l : List Int) (p : Int), m ≤ k - 1 ∧ q = .int .i64 m ∧ l.length = k ∧ shf s t (k - 1 - m) p l = shuf s t a k ∧ Own wr (w.heap.size + 2) k l ∧ Dw wr w.heap.size s t p ∧ Dw wr (w.heap.size + 1) 0 0 0 ∧ Kept w wr) (fun q _ => k - 1 - (intOf q).toNat)
      case atStart => exact ⟨0, ups k, a, Nat.zero_le _, rfl, ups_length k, rfl, H2.out⟩
      case round =>
        rename_i wr0
        clear H2
        obtain ⟨m, l, p, hm, rfl, hl, hs, hO, hd, hr, hK⟩ := hrel
        by_cases hmk : m < k - 1
        · obtain ⟨i, hi⟩ : ∃ i, k - 1 - m = i + 1 := ⟨k - 1 - m - 1, by omega⟩
          have g1 : (m : Int) < (k : Int) - 1 := by omega
          have z1 : IntKind.i64.wrap ((k : Int) - 1 - (m : Int)) = (i : Int) + 1 := by rw [wrap_i64]; omega
          have z2 : IntKind.i64.wrap ((i : Int) + 1 + 1) = (i : Int) + 2 := by rw [wrap_i64]; omega
          have z3 : IntKind.i64.wrap ((m : Int) + 1) = (m : Int) + 1 := by rw [wrap_i64]; omega
          obtain ⟨J, hJ⟩ : ∃ J, J = bel s t p (i + 2) := ⟨_, rfl⟩
          obtain ⟨p2, hp2⟩ : ∃ p2, p2 = beh s t p (i + 2) := ⟨_, rfl⟩
          have hJi : J < i + 2 := by rw [hJ]; exact bel_less s t p (i + 2) (by omega)
          have HC : Hid (Calls Try.prog 70 #[.agg #[.int .i64 s, .int .i64 t, .int .i64 p], .int .i64 ((i : Int) + 2)] wr fun e w' => e = .returned (.tuple #[.int .i64 J, .agg #[.int .i64 s, .int .i64 t, .int .i64 p2], .int .i64 0]) ∧ Kept wr w') := by
            rw [hJ, hp2]; exact HB.out p i (by omega) wr
          have HS : Hid (shf s t i p2 (exch l (i + 1) J) = shuf s t a k) := by rw [← hs, hi, hJ, hp2]; rfl
          have HI : Hid (k - 1 - m = i + 1) := hi
          have ik : i + 1 < k := by omega
          have Jk : J < k := by omega
          clear hs hi hJ hp2
          have D1 := hd
          obtain ⟨⟨c0, c1, c2⟩, f1⟩ := D1
          go_wp2_with fail
          refine HC.out.mono ?_
          rintro e w1 ⟨rfl, hk1⟩
          go_upto_region 12 with fail
          clear c0 c1 c2 f1
          have kA := (Kept.refl w1).alloc #[.int .i64 s, .int .i64 t, .int .i64 p2] 54
          have kY := (hK.trans hk1).alloc #[.int .i64 s, .int .i64 t, .int .i64 p2] 54
          have yc := dw_new w1 s t p2 54
          have yd := (hd.kept hk1).kept kA
          have yr := (hr.kept hk1).kept kA
          have yo := (hO.kept hk1).kept kA
          have hgl := hO.lt
          have hsz := hk1.below.size
          obtain ⟨C, hC⟩ : ∃ C, C = w1.heap.size := ⟨_, rfl⟩
          obtain ⟨Y, hY⟩ : ∃ Y, Y = w1.alloc (.cells #[.int .i64 s, .int .i64 t, .int .i64 p2] 54) := ⟨_, rfl⟩
          rw [← hC] at yc hsz ⊢
          rw [← hY] at yc yd yr yo kY ⊢
          have hCg : w.heap.size + 2 < C := by omega
          clear hY hC kA hd hr hO hk1 hK hsz hgl
          obtain ⟨xi, hxi⟩ : ∃ xi, xi = l.getD (i + 1) 0 := ⟨_, rfl⟩
          obtain ⟨xj, hxj⟩ : ∃ xj, xj = l.getD J 0 := ⟨_, rfl⟩
          have q1 := yo.cell (i + 1) (by omega)
          have q2 := yo.cell J (by omega)
          rw [← hxi] at q1
          rw [← hxj] at q2
          have q3 := (yo.set (i + 1) xj).cell J (by rw [List.length_set]; omega)
          obtain ⟨x3, hx3⟩ : ∃ x3, x3 = (l.set (i + 1) xj).getD J 0 := ⟨_, rfl⟩
          rw [← hx3] at q3
          have HX : Hid (xi = l.getD (i + 1) 0 ∧ xj = l.getD J 0) := ⟨hxi, hxj⟩
          clear hxi hxj hx3
          have qf := fun o => yo.free o
          have b3 : 0 ≤ (i : Int) + 1 := by omega
          have b1 : (i : Int) + 1 < k := by omega
          have b2 : (J : Int) < k := by omega
          go_region
          have zo := ((yo.set (i + 1) xj).set J xi).kept (Kept.refl _).drew
          have e5 : (l.set (i + 1) xj).set J xi = exch l (i + 1) J := by unfold exch; rw [HX.out.1, HX.out.2]
          rw [e5] at zo
          have zc := ((yc.far ⟨w.heap.size + 2, i + 1, none⟩ (by show w.heap.size + 2 ≠ C; omega) (.int .i64 xj)).far ⟨w.heap.size + 2, J, none⟩ (by show w.heap.size + 2 ≠ C; omega) (.int .i64 xi)).kept (Kept.refl _).drew
          have zd := ((yd.far ⟨w.heap.size + 2, i + 1, none⟩ (by simp) (.int .i64 xj)).far ⟨w.heap.size + 2, J, none⟩ (by simp) (.int .i64 xi)).kept (Kept.refl _).drew
          have zr := ((yr.far ⟨w.heap.size + 2, i + 1, none⟩ (by simp) (.int .i64 xj)).far ⟨w.heap.size + 2, J, none⟩ (by simp) (.int .i64 xi)).kept (Kept.refl _).drew
          have zk := ((kY.setCell (p := ⟨w.heap.size + 2, i + 1, none⟩) (by simp) (.int .i64 xj)).setCell (p := ⟨w.heap.size + 2, J, none⟩) (by simp) (.int .i64 xi)).drew
          obtain ⟨Z, hZ⟩ : ∃ Z, Z = ((Y.setCell ⟨w.heap.size + 2, i + 1, none⟩ (.int .i64 xj)).setCell ⟨w.heap.size + 2, J, none⟩ (.int .i64 xi)).drew := ⟨_, rfl⟩
          rw [← hZ] at zo zc zd zr zk ⊢
          clear hZ q1 q2 q3 qf yo yc yd yr kY e5
          have HZ : Hid (Own Z (w.heap.size + 2) k (exch l (i + 1) J) ∧ Dw Z w.heap.size s t p ∧ Dw Z (w.heap.size + 1) 0 0 0 ∧ Kept w Z) := ⟨zo, zd, zr, zk⟩
          obtain ⟨⟨c0, c1, c2⟩, f1⟩ := zc
          obtain ⟨⟨c3, c4, c5⟩, f2⟩ := zd
          clear zo zr zk
          go_wp2_with fail
          go_roundw
          case rel =>
            obtain ⟨zo, zd, zr, zk⟩ := HZ.out
            refine ⟨m + 1, exch l (i + 1) J, p2, by omega, by go_num, by rw [exch_length]; exact hl, ?_, Dw.own (b := 0) zo w.heap.size (by simp) _ _ _, zd.put s t p2, zr.far3 w.heap.size (by simp) _ _ _, zk.put3 w.heap.size (Nat.le_refl _) _ _ _⟩
            rw [show k - 1 - (m + 1) = i by have := HI.out; omega]
            exact HS.out
          case measure => simp [intOf]; omega
        · have e0 : k - 1 - m = 0 := by omega
          rw [e0] at hs
          have HS : Hid ((l, p) = shuf s t a k) := hs
          clear hs e0
          have g1 : ¬ (m : Int) < (k : Int) - 1 := by omega
          have HO : Hid (Own wr (w.heap.size + 2) k l) := hO
          clear hO
          go_upto_region 15 with fail
          obtain ⟨⟨c0, c1, c2⟩, f1⟩ := hd
          obtain ⟨⟨c3, c4, c5⟩, f2⟩ := hr
          go_region_held (fun u => Kept w u ∧ u.cell? ⟨w.heap.size, 0, none⟩ = some (.int .i64 s) ∧ u.cell? ⟨w.heap.size, 1, none⟩ = some (.int .i64 t) ∧ u.cell? ⟨w.heap.size, 2, none⟩ = some (.int .i64 p)) (first | exact ⟨hK.drew, c0, c1, c2⟩ | assumption | exact keep3d hK (by simp) (by simp) ⟨c0, c1, c2⟩ _ _ _) (fail)
          go_wp2
          have hlp : l = (shuf s t a k).1 ∧ p = (shuf s t a k).2 := by rw [← HS.out]; exact ⟨rfl, rfl⟩
          exact bodyPost_ret (v := .tuple #[.slice (some ⟨w.heap.size + 2, 0, none⟩) k k, .agg #[.int .i64 s, .int .i64 t, .int .i64 p]]) (by simp [results, Try.results50, go_sem, *]) rfl ⟨by rw [← hlp.2], by rw [← hlp.1]; exact (Dw.own (b := 0) HO.out (w.heap.size + 1) (by simp) _ _ _).kept (Kept.refl _).drew, (keep3d hK (by simp) (by simp) ⟨c0, c1, c2⟩ _ _ _).1⟩

end Go.Proofs.Ytedghjededicpaa
