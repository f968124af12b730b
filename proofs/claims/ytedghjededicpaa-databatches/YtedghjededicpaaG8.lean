/- Shuffle: the document's own. -/
import Derived.Test.YtedghjededicpaaG5
import Derived.Test.YtedghjededicpaaG6
namespace Go.Proofs.Ytedghjededicpaa
open Go.ChangeShapes Go.WideShapes Go.ChangeAt Go.RowKit
set_option linter.unusedVariables false
set_option linter.unusedSimpArgs false

theorem rbelow_b (s t a : Int) (n : Nat) (hn : 0 < n) (hn2 : n < 9223372036854775808) (w : World) : Calls Try.prog 51 #[.agg #[.int .i64 s, .int .i64 t, .int .i64 a], .int .i64 n] w fun e w' => e = .returned (.tuple #[.int .i64 (bel s t a n : Nat), .agg #[.int .i64 s, .int .i64 t, .int .i64 (beh s t a n)]]) ∧ Kept w w' := by
  have e : beh s t a n = wrap64 (a + cnt s t a n + 1) := by unfold beh sg64 wrap64; rfl
  rw [e]
  exact rbelow_ok s t a n _ hn hn2 (cnt_over s t a n hn hn2) w

/-- A row that may be new since a world had so many blocks stays where others are written. -/
theorem MR.far {H : Nat} {w : World} {v : Value} {M : List Int} (h : MR H w v M) (c : Nat) (hc : c < H) (x y z : Value) : MR H (put3 w c x y z) v M := by
  rcases h with h | ⟨g, cap, e, hg, ho⟩
  · exact .inl h
  · exact .inr ⟨g, cap, e, hg, Dw.own (b := 0) ho c (by omega) x y z⟩

set_option maxHeartbeats 4000000 in
set_option maxRecDepth 100000 in
theorem rshuffle_ok (s t a : Int) (n : Nat) (hn : n ≤ 65536) (w : World) : Calls Try.prog 16 #[.agg #[.int .i64 s, .int .i64 t, .int .i64 a], .int .i64 n] w fun e w' => ∃ lv, e = .returned (.tuple #[lv, .agg #[.int .i64 s, .int .i64 t, .int .i64 (shuf s t a n).2]]) ∧ MR (w.heap.size + 2) w' lv (shuf s t a n).1 ∧ Kept w w' := by
  have hA := (Kept.refl w).alloc #[.int .i64 s, .int .i64 t, .int .i64 a] 54
  have hB := (Kept.refl (w.alloc (.cells #[.int .i64 s, .int .i64 t, .int .i64 a] 54))).alloc #[.int .i64 0, .int .i64 0, .int .i64 0] 54
  have d1 := (dw_new w s t a 54).kept hB
  have d2 := (dw_new (w.alloc (.cells #[.int .i64 s, .int .i64 t, .int .i64 a] 54)) 0 0 0 54)
  rw [show (w.alloc (.cells #[.int .i64 s, .int .i64 t, .int .i64 a] 54)).heap.size = w.heap.size + 1 by simp] at d2
  have hW0 := hA.trans hB
  clear hA hB
  have HB : Hid (∀ (p : Int) (m : Nat), m + 2 ≤ 65536 → ∀ u, Calls Try.prog 51 #[.agg #[.int .i64 s, .int .i64 t, .int .i64 p], .int .i64 ((m : Int) + 2)] u fun e w' => e = .returned (.tuple #[.int .i64 (bel s t p (m + 2) : Nat), .agg #[.int .i64 s, .int .i64 t, .int .i64 (beh s t p (m + 2))]]) ∧ Kept u w') := fun p m hm u => by
    have := rbelow_b s t p (m + 2) (by omega) (by omega) u
    rw [show ((m + 2 : Nat) : Int) = (m : Int) + 2 by omega] at this
    exact this
  have zn : IntKind.i64.wrap ((n : Int) - 1) = (n : Int) - 1 := by rw [wrap_i64]; omega
  go_enter Try.func16, Try.ntmps16
  go_upto_region 1 with fail
  obtain ⟨X, hX⟩ : ∃ X, X = (w.alloc (.cells #[.int .i64 s, .int .i64 t, .int .i64 a] 54)).alloc (.cells #[.int .i64 0, .int .i64 0, .int .i64 0] 54) := ⟨_, rfl⟩
  rw [← hX] at d1 d2 hW0 ⊢
  have hXs : X.heap.size = w.heap.size + 2 := by rw [hX]; simp
  clear hX
  have H0 : Hid (Dw X w.heap.size s t a ∧ Dw X (w.heap.size + 1) 0 0 0 ∧ Kept w X ∧ X.heap.size = w.heap.size + 2) := ⟨d1, d2, hW0, hXs⟩
  clear d1 d2 hW0 hXs
  go_wp2_with fail
  go_loopw [6, 7] (fun sv iv wr => ∃ (k : Nat) (lv : Value), k ≤ n ∧ iv = .int .i64 k ∧ sv = lv ∧ MR X.heap.size wr lv (ups k) ∧ Kept X wr) (fun _ iv _ => n - (intOf iv).toNat)
  case atStart => exact ⟨0, _, Nat.zero_le _, rfl, rfl, .inl ⟨rfl, rfl⟩, Kept.refl _⟩
  case round =>
    obtain ⟨k, lv, hk, rfl, hlv, hM, hKr⟩ := hrel
    have hlv' := hlv.symm
    clear hlv
    subst hlv'
    by_cases hkn : k < n
    · obtain ⟨v', w', hr, hM', hK'⟩ := app_step X.heap.size wr lv (ups k) hM (k : Int) hKr.below.size (by rw [ups_length]; omega)
      have HR : Hid (∀ ty, (Builtin.append_ #[23, 23] ty #[lv, .slice (some ⟨wr.heap.size, 0, none⟩) 1 1]).run Try.prog (wr.alloc (.cells #[.int .i64 (k : Int)] 3)) = .ok v' w') := hr
      rw [← ups_succ] at hM'
      have HM : Hid (MR X.heap.size w' v' (ups (k + 1))) := hM'
      have HKK : Hid (Kept X w') := hK' X (Nat.le_refl _) hKr
      have z1 : IntKind.i64.wrap ((k : Int) + 1) = (k : Int) + 1 := by rw [wrap_i64]; omega
      clear hr hM' hK' hM hKr
      go_wp2_with (first | (at_builtin; refine wpList_append_run rfl _ _ _ rfl _ _ rfl rfl _ _ (HR.out _) ?_))
      go_roundw
      case rel => exact ⟨k + 1, _, by omega, by go_num, rfl, HM.out, HKK.out⟩
      case measure => simp [intOf]; omega
    · obtain rfl : k = n := by omega
      obtain ⟨d1, d2, hW0, hXs⟩ := H0.out
      have e1 := d1.kept hKr
      have e2 := d2.kept hKr
      have e3 := hW0.trans hKr
      rw [hXs] at hM
      clear d1 d2 hW0 hXs hKr H0
      rcases hM with ⟨hnil, rfl⟩ | ⟨g, cap, rfl, hg, ho⟩
      · obtain rfl : k = 0 := by have := ups_length k; rw [hnil] at this; simpa using this.symm
        go_wp2_with fail
        refine wp_loop_rounds 1 ?_
        rw [rounds_succ]
        go_upto_region 14 with fail
        obtain ⟨⟨c0, c1, c2⟩, f1⟩ := e1
        obtain ⟨⟨c3, c4, c5⟩, f2⟩ := e2
        go_region_held (fun u => Kept w u ∧ u.cell? ⟨w.heap.size, 0, none⟩ = some (.int .i64 s) ∧ u.cell? ⟨w.heap.size, 1, none⟩ = some (.int .i64 t) ∧ u.cell? ⟨w.heap.size, 2, none⟩ = some (.int .i64 a)) (first | exact ⟨e3.drew, c0, c1, c2⟩ | assumption | exact keep3d e3 (by simp) (by simp) ⟨c0, c1, c2⟩ _ _ _) (fail)
        go_wp2
        exact bodyPost_ret (v := .tuple #[.slice none 0 0, .agg #[.int .i64 s, .int .i64 t, .int .i64 a]]) (by simp [results, Try.results16, go_sem, *]) rfl ⟨_, rfl, .inl ⟨rfl, rfl⟩, (keep3d e3 (by simp) (by simp) ⟨c0, c1, c2⟩ _ _ _).1⟩
      · rw [ups_length]
        have H2 : Hid (Own wr g cap (ups k) ∧ Dw wr w.heap.size s t a ∧ Dw wr (w.heap.size + 1) 0 0 0 ∧ Kept w wr) := ⟨ho, e1, e2, e3⟩
        clear ho e1 e2 e3
        by_cases hk0 : k = 0
        · subst hk0
          obtain ⟨ho, e1, e2, e3⟩ := H2.out
          go_wp2_with fail
          refine wp_loop_rounds 1 ?_
          rw [rounds_succ]
          go_upto_region 14 with fail
          obtain ⟨⟨c0, c1, c2⟩, f1⟩ := e1
          obtain ⟨⟨c3, c4, c5⟩, f2⟩ := e2
          clear ho
          go_region_held (fun u => Kept w u ∧ u.cell? ⟨w.heap.size, 0, none⟩ = some (.int .i64 s) ∧ u.cell? ⟨w.heap.size, 1, none⟩ = some (.int .i64 t) ∧ u.cell? ⟨w.heap.size, 2, none⟩ = some (.int .i64 a)) (first | exact ⟨e3.drew, c0, c1, c2⟩ | assumption | exact keep3d e3 (by simp) (by simp) ⟨c0, c1, c2⟩ _ _ _) (fail)
          go_wp2
          exact bodyPost_ret (v := .tuple #[.slice (some ⟨g, 0, none⟩) 0 cap, .agg #[.int .i64 s, .int .i64 t, .int .i64 a]]) (by simp [results, Try.results16, go_sem, *]) rfl ⟨_, rfl, .inr ⟨g, cap, rfl, hg, (Dw.own (b := 0) H2.out.1 (w.heap.size + 1) (by omega) _ _ _).kept (Kept.refl _).drew⟩, (keep3d e3 (by simp) (by simp) ⟨c0, c1, c2⟩ _ _ _).1⟩
        · obtain ⟨k1, rfl⟩ : ∃ k1, k = k1 + 1 := ⟨k - 1, by omega⟩
          rw [show ((k1 + 1 : Nat) : Int) = (k1 : Int) + 1 by omega] at *
          have zn2 : IntKind.i64.wrap ((k1 : Int) + 1 - 1) = (k1 : Int) := by rw [wrap_i64]; omega
          clear zn
          go_wp2_with fail
          go_loopw [8] (fun q wr => ∃ (i : Nat) (l : List Int) (p : Int), i ≤ k1 ∧ q = .int .i64 i ∧ l.length = k1 + 1 ∧ shf s t i p l = shuf s t a (k1 + 1) ∧ Own wr g cap l ∧ Dw wr w.heap.size s t p ∧ Dw wr (w.heap.size + 1) 0 0 0 ∧ Kept w wr) (fun q _ => (intOf q).toNat)
          case atStart => exact ⟨k1, ups (k1 + 1), a, Nat.le_refl _, rfl, ups_length _, rfl, H2.out⟩
          case round =>
            rename_i wr0
            clear H2
            obtain ⟨i0, l, p, hm, rfl, hl, hs, hO, hd, hr, hK⟩ := hrel
            by_cases hi0 : i0 = 0
            · subst hi0
              have HS : Hid ((l, p) = shuf s t a (k1 + 1)) := hs
              clear hs
              have HO : Hid (Own wr g cap l ∧ l.length = k1 + 1) := ⟨hO, hl⟩
              clear hO hl
              go_upto_region 14 with fail
              obtain ⟨⟨c0, c1, c2⟩, f1⟩ := hd
              obtain ⟨⟨c3, c4, c5⟩, f2⟩ := hr
              go_region_held (fun u => Kept w u ∧ u.cell? ⟨w.heap.size, 0, none⟩ = some (.int .i64 s) ∧ u.cell? ⟨w.heap.size, 1, none⟩ = some (.int .i64 t) ∧ u.cell? ⟨w.heap.size, 2, none⟩ = some (.int .i64 p)) (first | exact ⟨hK.drew, c0, c1, c2⟩ | assumption | exact keep3d hK (by simp) (by simp) ⟨c0, c1, c2⟩ _ _ _) (fail)
              go_wp2
              have hlp : l = (shuf s t a (k1 + 1)).1 ∧ p = (shuf s t a (k1 + 1)).2 := by rw [← HS.out]; exact ⟨rfl, rfl⟩
              exact bodyPost_ret (v := .tuple #[.slice (some ⟨g, 0, none⟩) (k1 + 1) cap, .agg #[.int .i64 s, .int .i64 t, .int .i64 p]]) (by simp [results, Try.results16, go_sem, *]) rfl ⟨_, by rw [← hlp.2], .inr ⟨g, cap, by rw [← hlp.1, HO.out.2], hg, by rw [← hlp.1]; exact (Dw.own (b := 0) HO.out.1 (w.heap.size + 1) (by omega) _ _ _).kept (Kept.refl _).drew⟩, (keep3d hK (by simp) (by simp) ⟨c0, c1, c2⟩ _ _ _).1⟩
            · obtain ⟨i, rfl⟩ : ∃ i, i0 = i + 1 := ⟨i0 - 1, by omega⟩
              rw [show ((i + 1 : Nat) : Int) = (i : Int) + 1 by omega] at *
              have g1 : 0 < (i : Int) + 1 := by omega
              have z2 : IntKind.i64.wrap ((i : Int) + 1 + 1) = (i : Int) + 2 := by rw [wrap_i64]; omega
              have z3 : IntKind.i64.wrap ((i : Int) + 1 - 1) = (i : Int) := by rw [wrap_i64]; omega
              obtain ⟨J, hJ⟩ : ∃ J, J = bel s t p (i + 2) := ⟨_, rfl⟩
              obtain ⟨p2, hp2⟩ : ∃ p2, p2 = beh s t p (i + 2) := ⟨_, rfl⟩
              have hJi : J < i + 2 := by rw [hJ]; exact bel_less s t p (i + 2) (by omega)
              have HC : Hid (Calls Try.prog 51 #[.agg #[.int .i64 s, .int .i64 t, .int .i64 p], .int .i64 ((i : Int) + 2)] wr fun e w' => e = .returned (.tuple #[.int .i64 J, .agg #[.int .i64 s, .int .i64 t, .int .i64 p2]]) ∧ Kept wr w') := by
                rw [hJ, hp2]; exact HB.out p i (by omega) wr
              have HS : Hid (shf s t i p2 (exch l (i + 1) J) = shuf s t a (k1 + 1)) := by rw [← hs, hJ, hp2]; rfl
              clear hs hJ hp2
              have D1 := hd
              obtain ⟨⟨c0, c1, c2⟩, f1⟩ := D1
              go_wp2_with fail
              refine HC.out.mono ?_
              rintro e w1 ⟨rfl, hk1⟩
              go_upto_region 10 with fail
              clear c0 c1 c2 f1
              have kA := (Kept.refl w1).alloc #[.int .i64 s, .int .i64 t, .int .i64 p2] 54
              have kY := (hK.trans hk1).alloc #[.int .i64 s, .int .i64 t, .int .i64 p2] 54
              have yc := dw_new w1 s t p2 54
              have yd := (hd.kept hk1).kept kA
              have yr := (hr.kept hk1).kept kA
              have yo := (hO.kept hk1).kept kA
              have hgl := hO.lt
              have hsz := hk1.below.size
              obtain ⟨C, hC⟩ : ∃ C, C = w1.heap.size := ⟨_, rfl⟩
              obtain ⟨Y, hY⟩ : ∃ Y, Y = w1.alloc (.cells #[.int .i64 s, .int .i64 t, .int .i64 p2] 54) := ⟨_, rfl⟩
              rw [← hC] at yc hsz ⊢
              rw [← hY] at yc yd yr yo kY ⊢
              clear hY hC kA hd hr hO hk1 hK hsz hgl
              -- d = e
              have YD := yd
              obtain ⟨⟨c0, c1, c2⟩, f1⟩ := yc
              obtain ⟨⟨c3, c4, c5⟩, f2⟩ := YD
              go_upto_region 11 with fail
              clear c0 c1 c2 f1 c3 c4 c5 f2
              have m1 := yd.put s t p2
              have m2 := yr.far3 w.heap.size (by simp) (.int .i64 s) (.int .i64 t) (.int .i64 p2)
              have m3 := kY.put3 w.heap.size (Nat.le_refl _) (.int .i64 s) (.int .i64 t) (.int .i64 p2)
              have mo := Dw.own (b := 0) yo w.heap.size (by omega) (.int .i64 s) (.int .i64 t) (.int .i64 p2)
              obtain ⟨Z, hZ⟩ : ∃ Z, Z = put3 Y w.heap.size (.int .i64 s) (.int .i64 t) (.int .i64 p2) := ⟨_, rfl⟩
              rw [← hZ] at m1 m2 m3 mo
              unfold put3 at hZ
              rw [← hZ]
              clear hZ yd yr kY yo
              obtain ⟨xi, hxi⟩ : ∃ xi, xi = l.getD (i + 1) 0 := ⟨_, rfl⟩
              obtain ⟨xj, hxj⟩ : ∃ xj, xj = l.getD J 0 := ⟨_, rfl⟩
              have q1 := mo.cell (i + 1) (by omega)
              have q2 := mo.cell J (by omega)
              rw [← hxi] at q1
              rw [← hxj] at q2
              have q3 := (mo.set (i + 1) xj).cell J (by rw [List.length_set]; omega)
              obtain ⟨x3, hx3⟩ : ∃ x3, x3 = (l.set (i + 1) xj).getD J 0 := ⟨_, rfl⟩
              rw [← hx3] at q3
              have HX : Hid (xi = l.getD (i + 1) 0 ∧ xj = l.getD J 0) := ⟨hxi, hxj⟩
              clear hxi hxj hx3
              have qf := fun o => mo.free o
              have b1 : i + 1 < k1 + 1 := by omega
              have b2 : J < k1 + 1 := by omega
              have b3 : 0 ≤ (i : Int) + 1 := by omega
              have b4 : (i : Int) + 1 < (k1 : Int) + 1 := by omega
              have b5 : (J : Int) < (k1 : Int) + 1 := by omega
              have HZ : Hid (Own Z g cap l ∧ Dw Z w.heap.size s t p2 ∧ Dw Z (w.heap.size + 1) 0 0 0 ∧ Kept w Z) := ⟨mo, m1, m2, m3⟩
              clear mo m1 m2 m3
              go_wp2_with fail
              go_roundw
              case rel =>
                obtain ⟨zo, zd, zr, zk⟩ := HZ.out
                have zo2 := (zo.set (i + 1) xj).set J xi
                have e5 : (l.set (i + 1) xj).set J xi = exch l (i + 1) J := by unfold exch; rw [HX.out.1, HX.out.2]
                rw [e5] at zo2
                refine ⟨i, exch l (i + 1) J, p2, by omega, by go_num, by rw [exch_length]; exact hl, HS.out, zo2, (zd.far _ (by show g ≠ _; omega) _).far _ (by show g ≠ _; omega) _, (zr.far _ (by show g ≠ _; omega) _).far _ (by show g ≠ _; omega) _, (zk.setCell (by show _ ≤ g; omega) _).setCell (by show _ ≤ g; omega) _⟩
              case measure => simp [intOf]

end Go.Proofs.Ytedghjededicpaa
