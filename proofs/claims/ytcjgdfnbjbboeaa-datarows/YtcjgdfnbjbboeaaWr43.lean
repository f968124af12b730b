/- Pick of package data, of a set that is one. -/
import Derived.Test.YtcjgdfnbjbboeaaWr42
namespace Go.Proofs.Ytcjgdfnbjbboeaa
open Go.ChangeShapes Go.WideShapes Go.ChangeAt Go.RowKit
set_option linter.unusedVariables false
set_option linter.unusedSimpArgs false

/-- the zero set, and an error -/
abbrev zset (q : Int) : Value := .tuple #[sv8 0 0 0 (.slice none 0 0) 0 0 0 (.slice none 0 0), .int .i64 q]
/-- what Pick answers of a set that is one -/
def PkA (R C C' : Nat) (n : Int) (M N J : List Int) (k H : Nat) (e : Ending) (w' : World) : Prop :=
  (k = 0 ∧ e = .returned (zset 41)) ∨ (0 < k ∧ ¬ Jin R J ∧ e = .returned (zset 40)) ∨ (0 < k ∧ Jin R J ∧ 4096 / max C C' < k ∧ e = .returned (zset 2)) ∨
  (0 < k ∧ Jin R J ∧ k ≤ 4096 / max C C' ∧ ∃ g g', e = .returned (.tuple #[sv8 k C n (.slice (some ⟨g, 0, none⟩) (k * C) (k * C)) k C' n (.slice (some ⟨g', 0, none⟩) (k * C') (k * C')), .int .i64 0]) ∧ H ≤ g ∧ g < g' ∧ Own w' g (k * C) (pkl M C J) ∧ Own w' g' (k * C') (pkl N C' J))

set_option maxHeartbeats 8000000 in
set_option maxRecDepth 100000 in
theorem pick_v (R C C' : Nat) (n : Int) (M N : List Int) (b off cap b' off' cap' l l' : Nat) (J : List Int) (k : Nat) (hk : J.length = k) (hk5 : k ≤ 9000) (ja : Option Addr) (jc : Nat) (w : World) (hC : 0 < C) (hC' : 0 < C') (hC4 : C ≤ 4096) (hC4' : C' ≤ 4096)
    (hj : 0 < k → ∃ jb jo, ja = some ⟨jb, jo, none⟩ ∧ jb < w.heap.size ∧ Reads w jb jo J) (x : Int)
    (KC : Hid (∀ u, Kept w u → Calls Try.prog 30 #[sv8 R C n (.slice (some ⟨b, off, none⟩) l cap) R C' n (.slice (some ⟨b', off', none⟩) l' cap')] u fun e w' => e = .returned (.tuple #[.int .i64 x, .int .i64 0]) ∧ Below u.heap.size u w'))
    (KP : Hid (∀ u, Below w.heap.size w u → 0 < k → Jin R J → k * C ≤ 4096 → Calls Try.prog 31 #[.agg #[.int .i64 R, .int .i64 C, .int .i64 n, .slice (some ⟨b, off, none⟩) l cap], .slice ja k jc] u fun e w' => ∃ g, e = .returned (.agg #[.int .i64 k, .int .i64 C, .int .i64 n, .slice (some ⟨g, 0, none⟩) (k * C) (k * C)]) ∧ u.heap.size ≤ g ∧ Own w' g (k * C) (pkl M C J) ∧ Kept u w'))
    (KP' : Hid (∀ u, Below w.heap.size w u → 0 < k → Jin R J → k * C' ≤ 4096 → Calls Try.prog 31 #[.agg #[.int .i64 R, .int .i64 C', .int .i64 n, .slice (some ⟨b', off', none⟩) l' cap'], .slice ja k jc] u fun e w' => ∃ g, e = .returned (.agg #[.int .i64 k, .int .i64 C', .int .i64 n, .slice (some ⟨g, 0, none⟩) (k * C') (k * C')]) ∧ u.heap.size ≤ g ∧ Own w' g (k * C') (pkl N C' J) ∧ Kept u w')) :
    Calls Try.prog 13 #[sv8 R C n (.slice (some ⟨b, off, none⟩) l cap) R C' n (.slice (some ⟨b', off', none⟩) l' cap'), .slice ja k jc] w fun e w' => PkA R C C' n M N J k w.heap.size e w' ∧ Below w.heap.size w w' := by
  obtain ⟨X, hXw⟩ : ∃ X, X = (w.alloc (.cells (sl8 R C n (.slice (some ⟨b, off, none⟩) l cap) R C' n (.slice (some ⟨b', off', none⟩) l' cap')).toArray 26)).alloc (.cells (sl8 0 0 0 (.slice none 0 0) 0 0 0 (.slice none 0 0)).toArray 26) := ⟨_, rfl⟩
  have hK : Kept w X := by rw [hXw]; exact ((Kept.refl w).alloc _ _).alloc _ _
  have hXs : X.heap.size = w.heap.size + 2 := by rw [hXw]; simp
  have hB : Bq X w.heap.size (sl8 R C n (.slice (some ⟨b, off, none⟩) l cap) R C' n (.slice (some ⟨b', off', none⟩) l' cap')) := by rw [hXw]; exact (Bq.new w _ 26).kept ((Kept.refl _).alloc _ _)
  have hR : Bq X (w.heap.size + 1) (sl8 0 0 0 (.slice none 0 0) 0 0 0 (.slice none 0 0)) := by
    have := Bq.new (w.alloc (.cells (sl8 R C n (.slice (some ⟨b, off, none⟩) l cap) R C' n (.slice (some ⟨b', off', none⟩) l' cap')).toArray 26)) (sl8 0 0 0 (.slice none 0 0) 0 0 0 (.slice none 0 0)) 26
    rw [hXw]; simpa using this
  obtain ⟨mx, hmx⟩ : ∃ mx : Nat, max C C' = mx := ⟨_, rfl⟩
  have zmx : max (C : Int) (C' : Int) = (mx : Int) := by omega
  have zmx2 : max (C' : Int) (C : Int) = (mx : Int) := by omega
  have hmx0 : ¬ (mx : Int) = 0 := by omega
  obtain ⟨qq, hqq⟩ : ∃ qq : Nat, 4096 / mx = qq := ⟨_, rfl⟩
  have zqq : (4096 : Int).tdiv (mx : Int) = (qq : Int) := by rw [Int.tdiv_eq_ediv_of_nonneg (by omega), ← hqq]; rfl
  have hq4 : qq ≤ 4096 := by rw [← hqq]; exact Nat.div_le_self _ _
  have zw : IntKind.i64.wrap (qq : Int) = (qq : Int) := by rw [wrap_i64]; omega
  have HMX := hidq (show 4096 / max C C' = qq ∧ (k ≤ qq → k * C ≤ 4096 ∧ k * C' ≤ 4096) from ⟨by rw [hmx]; exact hqq, fun h => by
    have h1 : k * mx ≤ 4096 := (Nat.le_div_iff_mul_le (by omega)).1 (by rw [hqq]; exact h)
    have h2 : k * C ≤ k * mx := Nat.mul_le_mul_left _ (by omega)
    have h3 : k * C' ≤ k * mx := Nat.mul_le_mul_left _ (by omega)
    omega⟩)
  have HJK := hidq hk
  have HJ := hidq hj
  clear hmx hqq hk hj
  go_enter Try.func13, Try.ntmps13
  go_upto_region 1 with fail
  rw [← hXw]
  clear hXw
  have c0 := hB.c 0 _ rfl
  have c1 := hB.c 1 _ rfl
  have c2 := hB.c 2 _ rfl
  have c3 := hB.c 3 _ rfl
  have c4 := hB.c 4 _ rfl
  have c5 := hB.c 5 _ rfl
  have c6 := hB.c 6 _ rfl
  have c7 := hB.c 7 _ rfl
  go_upto_region 2 with (first | (go_at_call 30; refine (KC.out _ hK).mono ?_; rintro e w1 ⟨rfl, b1⟩))
  clear c0 c1 c2 c3 c4 c5 c6 c7
  have hR1 := bq_below hR b1
  have hB1 := bq_below hB b1
  have hb1 : Below w.heap.size w w1 := hK.below.trans (b1.mono hK.below.size)
  have hs1 : w.heap.size + 2 ≤ w1.heap.size := by rw [← hXs]; exact b1.size
  clear hB hR hK b1 KC
  by_cases hk0 : k = 0
  · subst hk0
    have d0 := hR1.c 0 _ rfl
    have d1 := hR1.c 1 _ rfl
    have d2 := hR1.c 2 _ rfl
    have d3 := hR1.c 3 _ rfl
    have d4 := hR1.c 4 _ rfl
    have d5 := hR1.c 5 _ rfl
    have d6 := hR1.c 6 _ rfl
    have d7 := hR1.c 7 _ rfl
    have fz := hR1.fz
    go_wp2_with fail
    have hQ := st8 w1 (w.heap.size + 1) _ rfl hR1 (.int .i64 0) (.int .i64 0) (.int .i64 0) (.slice none 0 0) (.int .i64 0) (.int .i64 0) (.int .i64 0) (.slice none 0 0)
    have x0 := hQ.c 0 _ rfl
    have x1 := hQ.c 1 _ rfl
    have x2 := hQ.c 2 _ rfl
    have x3 := hQ.c 3 _ rfl
    have x4 := hQ.c 4 _ rfl
    have x5 := hQ.c 5 _ rfl
    have x6 := hQ.c 6 _ rfl
    have x7 := hQ.c 7 _ rfl
    exact bodyPost_ret (v := .tuple #[sv8 0 0 0 (.slice none 0 0) 0 0 0 (.slice none 0 0), .int .i64 41]) (by simp [results, Try.f13, go_sem, x0, x1, x2, x3, x4, x5, x6, x7]) rfl ⟨.inl ⟨rfl, rfl⟩, st8_below hb1 (by omega) _ _ _ _ _ _ _ _⟩
  · have hkp : 0 < k := by omega
    obtain ⟨jb, jo, rfl, hjb, hjr⟩ := HJ.out hkp
    have HJR := hidq hjr
    clear hjr
    have hkn : ¬ (k : Int) = 0 := by omega
    go_wp2_with fail
    go_loopw [25] (fun iv wr => ∃ i : Nat, i ≤ k ∧ iv = .int .i64 i ∧ (∀ j, j < i → 0 ≤ J.getD j 0 ∧ J.getD j 0 < R) ∧ Kept w1 wr) (fun iv _ => k - (intOf iv).toNat)
    case atStart => exact ⟨0, Nat.zero_le _, rfl, fun j hj => by omega, Kept.refl _⟩
    case round =>
      obtain ⟨i, hi, rfl, hall, kr⟩ := hrel
      have HALL := hidq hall
      clear hall
      have hRr := hR1.kept kr
      have hBr := hB1.kept kr
      have hbr : Below w.heap.size w wr := hb1.trans (kr.below.mono hb1.size)
      by_cases hlt : i < k
      · have q1 := (hbr.cell (p := ⟨jb, jo + i, none⟩) hjb).trans (HJR.out i (by rw [HJK.out]; exact hlt))
        obtain ⟨jv, hjv⟩ : ∃ jv, J.getD i 0 = jv := ⟨_, rfl⟩
        rw [hjv] at q1
        have HJV := hidq hjv
        clear hjv
        have b4 : (i : Int) < (k : Int) := by omega
        have z1 : IntKind.i64.wrap ((i : Int) + 1) = (i : Int) + 1 := by rw [wrap_i64]; omega
        have c0 := hBr.c 0 _ rfl
        by_cases hbad : jv < 0
        · have HNI := hidq (show ¬ Jin R J from fun h => by have := (h i (by rw [HJK.out]; exact hlt)).1; rw [HJV.out] at this; omega)
          have d0 := hRr.c 0 _ rfl
          have d1 := hRr.c 1 _ rfl
          have d2 := hRr.c 2 _ rfl
          have d3 := hRr.c 3 _ rfl
          have d4 := hRr.c 4 _ rfl
          have d5 := hRr.c 5 _ rfl
          have d6 := hRr.c 6 _ rfl
          have d7 := hRr.c 7 _ rfl
          have fz := hRr.fz
          go_wp2_with fail
          have hQ := st8 wr (w.heap.size + 1) _ rfl hRr (.int .i64 0) (.int .i64 0) (.int .i64 0) (.slice none 0 0) (.int .i64 0) (.int .i64 0) (.int .i64 0) (.slice none 0 0)
          have x0 := hQ.c 0 _ rfl
          have x1 := hQ.c 1 _ rfl
          have x2 := hQ.c 2 _ rfl
          have x3 := hQ.c 3 _ rfl
          have x4 := hQ.c 4 _ rfl
          have x5 := hQ.c 5 _ rfl
          have x6 := hQ.c 6 _ rfl
          have x7 := hQ.c 7 _ rfl
          exact bodyPost_ret (v := .tuple #[sv8 0 0 0 (.slice none 0 0) 0 0 0 (.slice none 0 0), .int .i64 40]) (by simp [results, Try.f13, go_sem, x0, x1, x2, x3, x4, x5, x6, x7]) rfl ⟨.inr (.inl ⟨hkp, HNI.out, rfl⟩), st8_below hbr (by omega) _ _ _ _ _ _ _ _⟩
        · by_cases hbig : (R : Int) ≤ jv
          · have HNI := hidq (show ¬ Jin R J from fun h => by have := (h i (by rw [HJK.out]; exact hlt)).2; rw [HJV.out] at this; omega)
            have d0 := hRr.c 0 _ rfl
            have d1 := hRr.c 1 _ rfl
            have d2 := hRr.c 2 _ rfl
            have d3 := hRr.c 3 _ rfl
            have d4 := hRr.c 4 _ rfl
            have d5 := hRr.c 5 _ rfl
            have d6 := hRr.c 6 _ rfl
            have d7 := hRr.c 7 _ rfl
            have fz := hRr.fz
            go_wp2_with fail
            have hQ := st8 wr (w.heap.size + 1) _ rfl hRr (.int .i64 0) (.int .i64 0) (.int .i64 0) (.slice none 0 0) (.int .i64 0) (.int .i64 0) (.int .i64 0) (.slice none 0 0)
            have x0 := hQ.c 0 _ rfl
            have x1 := hQ.c 1 _ rfl
            have x2 := hQ.c 2 _ rfl
            have x3 := hQ.c 3 _ rfl
            have x4 := hQ.c 4 _ rfl
            have x5 := hQ.c 5 _ rfl
            have x6 := hQ.c 6 _ rfl
            have x7 := hQ.c 7 _ rfl
            exact bodyPost_ret (v := .tuple #[sv8 0 0 0 (.slice none 0 0) 0 0 0 (.slice none 0 0), .int .i64 40]) (by simp [results, Try.f13, go_sem, x0, x1, x2, x3, x4, x5, x6, x7]) rfl ⟨.inr (.inl ⟨hkp, HNI.out, rfl⟩), st8_below hbr (by omega) _ _ _ _ _ _ _ _⟩
          · go_wp2_with fail
            go_roundw
            case rel => exact ⟨i + 1, by omega, by go_num, fun j hj => (by
              by_cases e : j = i
              · rw [e, HJV.out]; omega
              · exact HALL.out j (by omega)), kr⟩
            case measure => simp [intOf]; omega
      · obtain rfl : i = k := by omega
        have HIN := hidq (show Jin R J from fun j hj => HALL.out j (by rw [HJK.out] at hj; exact hj))
        have c1 := hBr.c 1 _ rfl
        have c5 := hBr.c 5 _ rfl
        by_cases hlong : qq < i
        · have g1 : (qq : Int) < (i : Int) := by omega
          have d0 := hRr.c 0 _ rfl
          have d1 := hRr.c 1 _ rfl
          have d2 := hRr.c 2 _ rfl
          have d3 := hRr.c 3 _ rfl
          have d4 := hRr.c 4 _ rfl
          have d5 := hRr.c 5 _ rfl
          have d6 := hRr.c 6 _ rfl
          have d7 := hRr.c 7 _ rfl
          have fz := hRr.fz
          go_wp2_with fail
          have hQ := st8 wr (w.heap.size + 1) _ rfl hRr (.int .i64 0) (.int .i64 0) (.int .i64 0) (.slice none 0 0) (.int .i64 0) (.int .i64 0) (.int .i64 0) (.slice none 0 0)
          have x0 := hQ.c 0 _ rfl
          have x1 := hQ.c 1 _ rfl
          have x2 := hQ.c 2 _ rfl
          have x3 := hQ.c 3 _ rfl
          have x4 := hQ.c 4 _ rfl
          have x5 := hQ.c 5 _ rfl
          have x6 := hQ.c 6 _ rfl
          have x7 := hQ.c 7 _ rfl
          exact bodyPost_ret (v := .tuple #[sv8 0 0 0 (.slice none 0 0) 0 0 0 (.slice none 0 0), .int .i64 2]) (by simp [results, Try.f13, go_sem, x0, x1, x2, x3, x4, x5, x6, x7]) rfl ⟨.inr (.inr (.inl ⟨hkp, HIN.out, by rw [HMX.out.1]; exact hlong, rfl⟩)), st8_below hbr (by omega) _ _ _ _ _ _ _ _⟩
        · have g1 : ¬ (qq : Int) < (i : Int) := by omega
          obtain ⟨m1, m2⟩ := HMX.out.2 (by omega)
          go_upto_region 14 with fail
          clear c1 c5
          have HS : Hid (∀ u, Kept wr u → Kept wr u ∧ u.cell? ⟨w.heap.size, 0, none⟩ = some (.int .i64 R) ∧ u.cell? ⟨w.heap.size, 1, none⟩ = some (.int .i64 C) ∧ u.cell? ⟨w.heap.size, 2, none⟩ = some (.int .i64 n) ∧ u.cell? ⟨w.heap.size, 3, none⟩ = some (.slice (some ⟨b, off, none⟩) l cap) ∧ u.cell? ⟨w.heap.size, 4, none⟩ = some (.int .i64 R) ∧ u.cell? ⟨w.heap.size, 5, none⟩ = some (.int .i64 C') ∧ u.cell? ⟨w.heap.size, 6, none⟩ = some (.int .i64 n) ∧ u.cell? ⟨w.heap.size, 7, none⟩ = some (.slice (some ⟨b', off', none⟩) l' cap')) := fun u k => ⟨k, (hBr.kept k).c 0 _ rfl, (hBr.kept k).c 1 _ rfl, (hBr.kept k).c 2 _ rfl, (hBr.kept k).c 3 _ rfl, (hBr.kept k).c 4 _ rfl, (hBr.kept k).c 5 _ rfl, (hBr.kept k).c 6 _ rfl, (hBr.kept k).c 7 _ rfl⟩
          have HB := hidq hbr
          have ss : w.heap.size + 2 ≤ wr.heap.size := Nat.le_trans hs1 kr.below.size
          clear hbr hBr kr hb1 hR1 hB1 hi
          refine wp_region_late [9, 10] (fun u => Kept wr u ∧ u.cell? ⟨w.heap.size, 0, none⟩ = some (.int .i64 R) ∧ u.cell? ⟨w.heap.size, 1, none⟩ = some (.int .i64 C) ∧ u.cell? ⟨w.heap.size, 2, none⟩ = some (.int .i64 n) ∧ u.cell? ⟨w.heap.size, 3, none⟩ = some (.slice (some ⟨b, off, none⟩) l cap) ∧ u.cell? ⟨w.heap.size, 4, none⟩ = some (.int .i64 R) ∧ u.cell? ⟨w.heap.size, 5, none⟩ = some (.int .i64 C') ∧ u.cell? ⟨w.heap.size, 6, none⟩ = some (.int .i64 n) ∧ u.cell? ⟨w.heap.size, 7, none⟩ = some (.slice (some ⟨b', off', none⟩) l' cap')) (by kernel_rfl) (HS.out _ (Kept.refl wr).drew) (fun hHeld => ?_)
          refine wpAnyD_take (i := 0) (v := ?_) rfl (by kernel_rfl) (by kernel_rfl) (by kernel_rfl) (by kernel_rfl) (fun _ _ _ h => h) (Or.inl ⟨by rfl, ?hya0⟩) hHeld ?_
          case hya0 => (intro w hSw; (try dsimp only at hSw); go_simp; try (with_reducible rfl))
          (try simp only [Act.put, List.getElem_toArray, List.getElem_cons_succ, List.getElem_cons_zero, List.setIfInBounds_toArray, List.set_cons_zero, List.set_cons_succ])
          refine wpAnyD_take (i := 1) (v := ?_) rfl (by kernel_rfl) (by kernel_rfl) (by kernel_rfl) (by kernel_rfl) (fun _ _ _ h => h) (Or.inl ⟨by rfl, ?hya1⟩) hHeld ?_
          case hya1 => (intro w hSw; (try dsimp only at hSw); go_simp; try (with_reducible rfl))
          (try simp only [Act.put, List.getElem_toArray, List.getElem_cons_succ, List.getElem_cons_zero, List.setIfInBounds_toArray, List.set_cons_zero, List.set_cons_succ])
          refine wpAnyD_take (i := 2) (v := ?_) rfl (by kernel_rfl) (by kernel_rfl) (by kernel_rfl) (by kernel_rfl) (fun _ _ _ h => h) (Or.inl ⟨by rfl, ?hya2⟩) hHeld ?_
          case hya2 => (intro w hSw; (try dsimp only at hSw); go_simp; try (with_reducible rfl))
          (try simp only [Act.put, List.getElem_toArray, List.getElem_cons_succ, List.getElem_cons_zero, List.setIfInBounds_toArray, List.set_cons_zero, List.set_cons_succ])
          refine wpAnyD_take (i := 4) (v := ?_) rfl (by kernel_rfl) (by kernel_rfl) (by kernel_rfl) (by kernel_rfl) (fun _ _ _ h => h) (Or.inl ⟨by rfl, ?hya4⟩) hHeld ?_
          case hya4 => (intro w hSw; (try dsimp only at hSw); go_simp; try (with_reducible rfl))
          (try simp only [Act.put, List.getElem_toArray, List.getElem_cons_succ, List.getElem_cons_zero, List.setIfInBounds_toArray, List.set_cons_zero, List.set_cons_succ])
          refine wpAnyD_take (i := 5) (v := ?_) rfl (by kernel_rfl) (by kernel_rfl) (by kernel_rfl) (by kernel_rfl) (fun _ _ _ h => h) (Or.inl ⟨by rfl, ?hya5⟩) hHeld ?_
          case hya5 => (intro w hSw; (try dsimp only at hSw); go_simp; try (with_reducible rfl))
          (try simp only [Act.put, List.getElem_toArray, List.getElem_cons_succ, List.getElem_cons_zero, List.setIfInBounds_toArray, List.set_cons_zero, List.set_cons_succ])
          refine wpAnyD_take (i := 6) (v := ?_) rfl (by kernel_rfl) (by kernel_rfl) (by kernel_rfl) (by kernel_rfl) (fun _ _ _ h => h) (Or.inl ⟨by rfl, ?hya6⟩) hHeld ?_
          case hya6 => (intro w hSw; (try dsimp only at hSw); go_simp; try (with_reducible rfl))
          (try simp only [Act.put, List.getElem_toArray, List.getElem_cons_succ, List.getElem_cons_zero, List.setIfInBounds_toArray, List.set_cons_zero, List.set_cons_succ])
          refine wpAnyD_step (i := 3) (by kernel_rfl) rfl (fun K hK9 => ?_)
          go_simp
          go_wp2_with fail
          refine (KP.out _ (HB.out.trans (hHeld.1.below.mono HB.out.size)) hkp HIN.out m1).mono ?_
          rintro e u1 ⟨g, rfl, hg, ho, k1⟩
          refine hK9.out _ _ (HS.out _ (hHeld.1.trans k1)) (fun hH1 => ?_)
          clear hK9 K
          (try simp only [Act.put, List.getElem_toArray, List.getElem_cons_succ, List.getElem_cons_zero, List.setIfInBounds_toArray, List.set_cons_zero, List.set_cons_succ])
          refine wpAnyD_step (i := 7) (by kernel_rfl) rfl (fun K hK9 => ?_)
          go_simp
          go_wp2_with fail
          refine (KP'.out _ (HB.out.trans (hH1.1.below.mono HB.out.size)) hkp HIN.out m2).mono ?_
          rintro e u2 ⟨g', rfl, hg', ho', k2⟩
          refine hK9.out _ _ (HS.out _ (hH1.1.trans k2)) (fun hH2 => ?_)
          clear hK9 K
          (try simp only [Act.put, List.getElem_toArray, List.getElem_cons_succ, List.getElem_cons_zero, List.setIfInBounds_toArray, List.set_cons_zero, List.set_cons_succ])
          refine wpAnyD_take (i := 8) (v := ?_) rfl (by kernel_rfl) (by kernel_rfl) (by kernel_rfl) (by kernel_rfl) (fun _ _ _ h => h) (Or.inl ⟨by rfl, ?hyb8⟩) hH2 ?_
          case hyb8 => (intro w hSw; (try dsimp only at hSw); go_simp; try (with_reducible rfl))
          (try simp only [Act.put, List.getElem_toArray, List.getElem_cons_succ, List.getElem_cons_zero, List.setIfInBounds_toArray, List.set_cons_zero, List.set_cons_succ])
          have hR2 := hRr.kept hH2.1
          have d0 := hR2.c 0 _ rfl
          have d1 := hR2.c 1 _ rfl
          have d2 := hR2.c 2 _ rfl
          have d3 := hR2.c 3 _ rfl
          have d4 := hR2.c 4 _ rfl
          have d5 := hR2.c 5 _ rfl
          have d6 := hR2.c 6 _ rfl
          have d7 := hR2.c 7 _ rfl
          have fz := hR2.fz
          refine wpAnyD_late (i := 9) (by kernel_rfl) rfl rfl (fun K hK9 => ?_)
          go_simp
          refine hK9.out _ _ ?_
          clear hK9 K
          (try simp only [Act.put, List.getElem_toArray, List.getElem_cons_succ, List.getElem_cons_zero, List.setIfInBounds_toArray, List.set_cons_zero, List.set_cons_succ])
          refine wpAnyD_late (i := 10) (by kernel_rfl) rfl rfl (fun K hK9 => ?_)
          go_simp
          refine hK9.out _ _ ?_
          clear hK9 K
          (try simp only [Act.put, List.getElem_toArray, List.getElem_cons_succ, List.getElem_cons_zero, List.setIfInBounds_toArray, List.set_cons_zero, List.set_cons_succ])
          refine wpAnyD_done (by kernel_rfl) ?_ _
          (try simp only [Act.put, List.getElem_toArray, List.getElem_cons_succ, List.getElem_cons_zero, List.setIfInBounds_toArray, List.set_cons_zero, List.set_cons_succ])
          go_wp2_with fail
          have hQ := st8 u2 (w.heap.size + 1) _ rfl hR2 (.int .i64 i) (.int .i64 C) (.int .i64 n) (.slice (some ⟨g, 0, none⟩) (i * C) (i * C)) (.int .i64 i) (.int .i64 C') (.int .i64 n) (.slice (some ⟨g', 0, none⟩) (i * C') (i * C'))
          have s1 := hH1.1.below.size
          have s2 := hH2.1.below.size
          have s0 := hHeld.1.below.size
          have hlt1 := ho.lt
          have x0 := hQ.c 0 _ rfl
          have x1 := hQ.c 1 _ rfl
          have x2 := hQ.c 2 _ rfl
          have x3 := hQ.c 3 _ rfl
          have x4 := hQ.c 4 _ rfl
          have x5 := hQ.c 5 _ rfl
          have x6 := hQ.c 6 _ rfl
          have x7 := hQ.c 7 _ rfl
          exact bodyPost_ret (v := .tuple #[sv8 i C n (.slice (some ⟨g, 0, none⟩) (i * C) (i * C)) i C' n (.slice (some ⟨g', 0, none⟩) (i * C') (i * C')), .int .i64 0]) (by simp [results, Try.f13, go_sem, x0, x1, x2, x3, x4, x5, x6, x7]) rfl ⟨.inr (.inr (.inr ⟨hkp, HIN.out, by rw [HMX.out.1]; omega, g, g', rfl, by omega, by omega, st8_own (ho.kept k2) (by omega) _ _ _ _ _ _ _ _, st8_own ho' (by omega) _ _ _ _ _ _ _ _⟩)), st8_below (HB.out.trans (hH2.1.below.mono HB.out.size)) (by omega) _ _ _ _ _ _ _ _⟩
end Go.Proofs.Ytcjgdfnbjbboeaa
