/- ColsGlued and RowsGlued of package tensor. -/
import Derived.Test.YtijmjnmimijfdabTG2
namespace Go.Proofs.Ytijmjnmimijfdab
open Go.ChangeShapes Go.WideShapes Go.ChangeAt Go.RowKit
set_option linter.unusedVariables false
set_option linter.unusedSimpArgs false

/-- The sum of the first k. -/
def sm (c : Nat → Int) : Nat → Int
  | 0 => 0
  | k + 1 => sm c k + c k
theorem sm_le (c : Nat → Int) (m : Int) (k : Nat) (h : ∀ i, i < k → 0 ≤ c i ∧ c i ≤ m) : 0 ≤ sm c k ∧ sm c k ≤ m * k := by
  induction k with
  | zero => simp [sm]
  | succ k ih =>
    have h1 := ih (fun i hi => h i (by omega))
    have h2 := h k (by omega)
    rw [sm, Int.natCast_add, Int.mul_add]
    simp only [Int.natCast_one, Int.mul_one]
    omega
/-- What glueing shapes side by side answers. -/
def GlE (k : Nat) (r c n : Nat → Int) (a b d e : Int) : Prop :=
  ((∃ i, i < k ∧ n i ≠ n 0) ∧ a = 0 ∧ b = 0 ∧ d = 0 ∧ e = 3) ∨
  ((∀ i, i < k → n i = n 0) ∧ (∃ i, i < k ∧ r i ≠ r 0) ∧ a = 0 ∧ b = 0 ∧ d = 0 ∧ e = 4) ∨
  ((∀ i, i < k → n i = n 0) ∧ (∀ i, i < k → r i = r 0) ∧ e = ckR (r 0) (sm c k) ∧ (e = 0 → a = r 0 ∧ b = sm c k ∧ d = n 0) ∧ (e ≠ 0 → a = 0 ∧ b = 0 ∧ d = 0))

set_option maxHeartbeats 4000000 in
set_option maxRecDepth 100000 in
theorem colsGlued_any (B off k lc : Nat) (hk0 : 0 < k) (hk : k ≤ 1000000) (r c n : Nat → Int) (hc : ∀ i, i < k → 1 ≤ c i ∧ c i ≤ 1000000) (w : World) (hM : Ls w B off k r c n) (ea eb ed e : Int) (hE : GlE k r c n ea eb ed e) :
    Calls Try.prog 46 #[.slice (some ⟨B, off, none⟩) k lc] w fun x w' => x = .returned (.tuple #[.agg #[.int .i64 ea, .int .i64 eb, .int .i64 ed], .int .i64 e]) ∧ Kept w w' := by
  obtain ⟨X, hX⟩ : ∃ X, X = w.alloc (.cells #[.int .i64 0, .int .i64 0, .int .i64 0] 50) := ⟨_, rfl⟩
  have hK : Kept w X := by rw [hX]; exact (Kept.refl w).alloc _ _
  have hR : M3 X w.heap.size (.int .i64 0) (.int .i64 0) (.int .i64 0) := by rw [hX]; exact M3.new _ _ _ _ _
  have hF : ∀ o, X.frozen? ⟨w.heap.size, o, none⟩ = false := fun o => by rw [hX]; simp [go_sem]
  have HM : Hid (∀ u, Kept X u → Ls u B off k r c n) := fun u kk => hM.bl (hK.trans kk).bl
  have HF : Hid (∀ o, X.frozen? ⟨w.heap.size, o, none⟩ = false) := hF
  have HE : Hid (GlE k r c n ea eb ed e) := hE
  have HS : Hid (∀ j, j ≤ k → 0 ≤ sm c j ∧ sm c j ≤ 1000000 * j) := fun j hj => sm_le c 1000000 j (fun i hi => by have := hc i (by omega); omega)
  have HC : Hid (∀ i, i < k → 1 ≤ c i ∧ c i ≤ 1000000) := hc
  have HD : Hid (∀ u, Kept w u → Kept w u ∧ u.cell? ⟨B, off, none⟩ = some (.int .i64 (r 0)) ∧ u.cell? ⟨B, off + 2, none⟩ = some (.int .i64 (n 0))) := fun u ku => by
    obtain ⟨d0, d1, d2⟩ := (hM.bl ku.bl).rd 0 hk0
    rw [Nat.zero_mul, Nat.add_zero] at d0 d1 d2
    exact ⟨ku, d0, d2⟩
  clear hE hF hM hc
  go_enter Try.func46, Try.ntmps46
  go_upto_region 1 with fail
  rw [← hX]
  clear hX
  go_wp2_with fail
  go_loopw [11] (fun iv wr => ∃ i : Nat, i ≤ k ∧ iv = .int .i64 i ∧ Kept X wr ∧ ∀ x, x < i → n x = n 0) (fun iv _ => k - (intOf iv).toNat)
  case atStart => exact ⟨0, Nat.zero_le _, rfl, Kept.refl X, fun x hx => by omega⟩
  case round =>
    obtain ⟨i, hi, rfl, kr, hall⟩ := hrel
    have HA : Hid (∀ x, x < i → n x = n 0) := hall
    clear hall
    by_cases hik : i < k
    · obtain ⟨c0, c1, c2⟩ := (HM.out wr kr).rd i hik
      obtain ⟨d0, d1, d2⟩ := (HM.out wr kr).rd 0 hk0
      rw [Nat.zero_mul, Nat.add_zero] at d0 d1 d2
      have z0 : IntKind.i64.wrap ((i : Int) + 1) = (i : Int) + 1 := by rw [wrap_i64]; omega
      have HLt := (HM.out wr kr).lt
      clear HM
      by_cases hz : n i = n 0
      · have hz2 : (n i != n 0) = false := by simpa using hz
        have hz3 : (n i == n 0) = true := by simpa using hz
        go_upto_region 4 with fail
        go_quiet (fail)
        go_wp2_with fail
        go_roundw
        case rel => exact ⟨i + 1, by omega, by go_num, by (repeat' first | exact kr | exact Kept.drew (by assumption) | exact Kept.alloc kr _ _ | refine Kept.drewN ?_ _ | refine Kept.drew ?_ | refine Kept.alloc ?_ _ _), fun x hx => (Nat.lt_succ_iff_lt_or_eq.1 hx).elim (fun h => HA.out x h) (fun h => by rw [h]; exact hz)⟩
        case measure => simp [intOf]; omega
      · have hz2 : (n i != n 0) = true := by simpa using hz
        have hz3 : (n i == n 0) = false := by simpa using hz
        obtain ⟨rfl, rfl, rfl, rfl⟩ : ea = 0 ∧ eb = 0 ∧ ed = 0 ∧ e = 3 := by
          rcases HE.out with ⟨-, h⟩ | ⟨h, -⟩ | ⟨h, -⟩
          · exact h
          · exact absurd (h i hik) hz
          · exact absurd (h i hik) hz
        go_upto_region 4 with fail
        obtain ⟨Y, hY⟩ : ∃ Y, Y = wr.alloc (.cells #[.int .i64 (r i), .int .i64 (c i), .int .i64 (n i)] 50) := ⟨_, rfl⟩
        rw [← hY]
        have kY : Kept X Y := by rw [hY]; exact kr.alloc _ _
        have hYs : M3 Y wr.heap.size (.int .i64 (r i)) (.int .i64 (c i)) (.int .i64 (n i)) := by rw [hY]; exact M3.new _ _ _ _ _
        have e2 : Y.cell? ⟨B, off + 2, none⟩ = some (.int .i64 (n 0)) := by rw [hY]; exact (((Bl.refl wr).alloc _).cell B _ HLt).trans d2
        have hr1 := hR.bl kY.bl
        have f1 : ∀ o, Y.frozen? ⟨w.heap.size, o, none⟩ = false := fun o => (kY.frozen _).trans (HF.out o)
        obtain ⟨s0, s1, s2⟩ := hYs
        clear hY c0 c1 c2 d0 d1 d2 HE HA HS HC
        go_quiet (fail)
        obtain ⟨p0, p1, p2⟩ := M3.put (Y.drewN 3) _ _ _ _ (hr1.bl ((Bl.refl Y).drewN 3)) (.int .i64 0) (.int .i64 0) (.int .i64 0)
        obtain ⟨r0, r1, r2⟩ := hr1
        go_wp2_with fail
        exact bodyPost_ret (v := .tuple #[.agg #[.int .i64 0, .int .i64 0, .int .i64 0], .int .i64 3]) (by simp [results, Try.results46, go_sem, *]) rfl ⟨rfl, (((hK.trans kY).drewN _).setCell (by simp) _).setCell (by simp) _ |>.setCell (by simp) _⟩
    · obtain rfl : i = k := by omega
      have HA1 : Hid (∀ x, x < i → n x = n 0) := HA
      clear HA
      go_wp2_with fail
      have k1 := kr
      clear kr
      go_loopw [6, 26] (fun sv iv wq => ∃ j : Nat, j ≤ i ∧ iv = .int .i64 j ∧ sv = .int .i64 (sm c j) ∧ Kept X wq ∧ ∀ x, x < j → r x = r 0) (fun _ iv _ => i - (intOf iv).toNat)
      case atStart => exact ⟨0, Nat.zero_le _, rfl, rfl, k1, fun x hx => by omega⟩
      case round =>
        obtain ⟨j, hj, rfl, rfl, kr, hall⟩ := hrel
        have HA : Hid (∀ x, x < j → r x = r 0) := hall
        clear hall k1
        obtain ⟨d0, d1, d2⟩ := (HM.out wr kr).rd 0 hk0
        rw [Nat.zero_mul, Nat.add_zero] at d0 d1 d2
        have HLt := (HM.out wr kr).lt
        by_cases hik : j < i
        · obtain ⟨c0, c1, c2⟩ := (HM.out wr kr).rd j hik
          have z0 : IntKind.i64.wrap ((j : Int) + 1) = (j : Int) + 1 := by rw [wrap_i64]; omega
          have z1 : IntKind.i64.wrap (sm c j + c j) = sm c (j + 1) := by
            have h1 := HS.out (j + 1) (by omega)
            rw [sm] at h1 ⊢
            rw [wrap_i64]
            omega
          clear HM
          go_upto_region 11 with fail
          obtain ⟨Y, hY⟩ : ∃ Y, Y = wr.alloc (.cells #[.int .i64 (r j), .int .i64 (c j), .int .i64 (n j)] 50) := ⟨_, rfl⟩
          rw [← hY]
          have kY : Kept X Y := by rw [hY]; exact kr.alloc _ _
          have hYs : M3 Y wr.heap.size (.int .i64 (r j)) (.int .i64 (c j)) (.int .i64 (n j)) := by rw [hY]; exact M3.new _ _ _ _ _
          have e0 : Y.cell? ⟨B, off, none⟩ = some (.int .i64 (r 0)) := by rw [hY]; exact (((Bl.refl wr).alloc _).cell B _ HLt).trans d0
          obtain ⟨s0, s1, s2⟩ := hYs
          clear hY c0 c1 c2 d0 d1 d2
          by_cases hz : r j = r 0
          · have hz2 : (r j != r 0) = false := by simpa using hz
            have hz3 : (r j == r 0) = true := by simpa using hz
            go_quiet (fail)
            go_wp2_with fail
            go_roundw
            case rel => exact ⟨j + 1, by omega, by go_num, rfl, kY.drewN _, fun x hx => (Nat.lt_succ_iff_lt_or_eq.1 hx).elim (fun h => HA.out x h) (fun h => by rw [h]; exact hz)⟩
            case measure => simp [intOf]; omega
          · have hz2 : (r j != r 0) = true := by simpa using hz
            have hz3 : (r j == r 0) = false := by simpa using hz
            obtain ⟨rfl, rfl, rfl, rfl⟩ : ea = 0 ∧ eb = 0 ∧ ed = 0 ∧ e = 4 := by
              rcases HE.out with ⟨⟨x, hx, h⟩, -⟩ | ⟨-, -, h⟩ | ⟨-, h, -⟩
              · exact absurd (HA1.out x hx) h
              · exact h
              · exact absurd (h j hik) hz
            have hr1 := hR.bl kY.bl
            have f1 : ∀ o, Y.frozen? ⟨w.heap.size, o, none⟩ = false := fun o => (kY.frozen _).trans (HF.out o)
            clear HE HA HS HC HA1
            go_quiet (fail)
            obtain ⟨p0, p1, p2⟩ := M3.put (Y.drewN 3) _ _ _ _ (hr1.bl ((Bl.refl Y).drewN 3)) (.int .i64 0) (.int .i64 0) (.int .i64 0)
            obtain ⟨r0, r1, r2⟩ := hr1
            go_wp2_with fail
            exact bodyPost_ret (v := .tuple #[.agg #[.int .i64 0, .int .i64 0, .int .i64 0], .int .i64 4]) (by simp [results, Try.results46, go_sem, *]) rfl ⟨rfl, (((hK.trans kY).drewN _).setCell (by simp) _).setCell (by simp) _ |>.setCell (by simp) _⟩
        · obtain rfl : j = i := by omega
          have hall : e = ckR (r 0) (sm c j) ∧ (e = 0 → ea = r 0 ∧ eb = sm c j ∧ ed = n 0) ∧ (e ≠ 0 → ea = 0 ∧ eb = 0 ∧ ed = 0) := by
            rcases HE.out with ⟨⟨x, hx, h⟩, -⟩ | ⟨-, ⟨x, hx, h⟩, -⟩ | ⟨-, -, h⟩
            · exact absurd (HA1.out x hx) h
            · exact absurd (HA.out x hx) h
            · exact h
          have hpos : 1 ≤ sm c j := by
            obtain ⟨m, rfl⟩ : ∃ m, j = m + 1 := ⟨j - 1, by omega⟩
            rw [sm]
            have h1 := HC.out m (by omega)
            have h2 := HS.out m (by omega)
            omega
          have KR : Hid (∀ u, Kept wr u → Calls Try.prog 67 #[.agg #[.int .i64 (r 0), .int .i64 (sm c j), .int .i64 (n 0)]] u fun x w' => x = .returned (.tuple #[.agg #[.int .i64 ea, .int .i64 eb, .int .i64 ed], .int .i64 e]) ∧ Kept wr w') := fun u ku => by
            refine (roomy_any (r 0) (sm c j) (n 0) hpos u).mono ?_
            rintro x w' ⟨rfl, k2⟩
            obtain ⟨h1, h2, h3⟩ := hall
            refine ⟨?_, ku.trans k2⟩
            by_cases he : e = 0
            · obtain ⟨rfl, rfl, rfl⟩ := h2 he
              rw [← h1, he, if_pos rfl]
            · obtain ⟨rfl, rfl, rfl⟩ := h3 he
              rw [← h1, if_neg he]
          have HR : Hid (∀ u, Kept wr u → M3 u w.heap.size (.int .i64 0) (.int .i64 0) (.int .i64 0) ∧ ∀ o, u.frozen? ⟨w.heap.size, o, none⟩ = false) := fun u ku => ⟨hR.bl (kr.trans ku).bl, fun o => ((kr.trans ku).frozen _).trans (HF.out o)⟩
          clear HE HA HS HC HA1 HM hall
          generalize sm c j = q at *
          go_upto_region 15 with fail
          have kd := (Kept.refl wr).drew
          have kdw := (hK.trans kr).drew
          go_region_held (fun u => Kept w u ∧ u.cell? ⟨B, off, none⟩ = some (.int .i64 (r 0)) ∧ u.cell? ⟨B, off + 2, none⟩ = some (.int .i64 (n 0))) (first | assumption | exact HD.out _ kdw | exact HD.out _ (by assumption) | exact HD.out _ ((((hK.trans kr).trans k7).setCell (by simp) _).setCell (by simp) _ |>.setCell (by simp) _)) (first | (go_at_call 67; refine (KR.out _ (by first | exact kd | assumption)).mono ?_; rintro x w7 ⟨rfl, k7⟩; have k7w := (hK.trans kr).trans k7; obtain ⟨hr1, f1⟩ := HR.out _ k7; obtain ⟨p0, p1, p2⟩ := M3.put w7 _ _ _ _ hr1 (.int .i64 ea) (.int .i64 eb) (.int .i64 ed); obtain ⟨r0, r1, r2⟩ := hr1))
          all_goals go_wp2_with fail
          all_goals exact bodyPost_ret (v := .tuple #[.agg #[.int .i64 ea, .int .i64 eb, .int .i64 ed], .int .i64 e]) (by simp [results, Try.results46, go_sem, *]) rfl ⟨rfl, (((hK.trans kr).trans k7).setCell (by simp) _).setCell (by simp) _ |>.setCell (by simp) _⟩

set_option maxHeartbeats 4000000 in
set_option maxRecDepth 100000 in
theorem rowsGlued_any (B off k lc : Nat) (hk0 : 0 < k) (hk : k ≤ 1000000) (r c n : Nat → Int) (hr : ∀ i, i < k → 1 ≤ r i ∧ r i ≤ 1000000) (w : World) (hM : Ls w B off k r c n) (ea eb ed e : Int) (hE : GlE k c r n ea eb ed e) :
    Calls Try.prog 49 #[.slice (some ⟨B, off, none⟩) k lc] w fun x w' => x = .returned (.tuple #[.agg #[.int .i64 eb, .int .i64 ea, .int .i64 ed], .int .i64 e]) ∧ Kept w w' := by
  obtain ⟨W, hW⟩ : ∃ W, W = w.alloc (.cells #[.int .i64 0, .int .i64 0, .int .i64 0] 50) := ⟨_, rfl⟩
  have hKW : Kept w W := by rw [hW]; exact (Kept.refl w).alloc _ _
  have hR : M3 W w.heap.size (.int .i64 0) (.int .i64 0) (.int .i64 0) := by rw [hW]; exact M3.new _ _ _ _ _
  have hF : ∀ o, W.frozen? ⟨w.heap.size, o, none⟩ = false := fun o => by rw [hW]; simp [go_sem]
  have hm := makeS_run k hk W
  have ho := ownS_made k hk c r n W
  have hK0 : Kept W (W.alloc (.cells (madeCells #[.int .i64 0, .int .i64 0, .int .i64 0] (k * 3)) 50)) := (Kept.refl W).alloc _ _
  obtain ⟨X, hX⟩ : ∃ X, X = W.alloc (.cells (madeCells #[.int .i64 0, .int .i64 0, .int .i64 0] (k * 3)) 50) := ⟨_, rfl⟩
  rw [← hX] at hm ho hK0
  clear hX
  have HM : Hid (∀ u, Kept W u → Ls u B off k r c n) := fun u kk => hM.bl (hKW.trans kk).bl
  have KA : Hid (∀ i u, Calls Try.prog 41 #[.agg #[.int .i64 (r i), .int .i64 (c i), .int .i64 (n i)]] u fun e w' => e = .returned (.agg #[.int .i64 (c i), .int .i64 (r i), .int .i64 (n i)]) ∧ Kept u w') := fun i u => turned_any _ _ _ u
  have KT : Hid (∀ u, Calls Try.prog 41 #[.agg #[.int .i64 ea, .int .i64 eb, .int .i64 ed]] u fun e w' => e = .returned (.agg #[.int .i64 eb, .int .i64 ea, .int .i64 ed]) ∧ Kept u w') := fun u => turned_any _ _ _ u
  have KG : Hid (∀ u g, Ls u g 0 k c r n → Calls Try.prog 46 #[.slice (some ⟨g, 0, none⟩) k k] u fun x w' => x = .returned (.tuple #[.agg #[.int .i64 ea, .int .i64 eb, .int .i64 ed], .int .i64 e]) ∧ Kept u w') := fun u g hL => colsGlued_any g 0 k k hk0 hk c r n hr u hL ea eb ed e hE
  clear hM hE hr
  go_enter Try.func49, Try.ntmps49
  go_upto_region 1 with fail
  rw [← hW]
  clear hW
  go_wp2_with fail
  clear hm
  go_loopw [14] (fun iv wr => ∃ i : Nat, i ≤ k ∧ iv = .int .i64 i ∧ Kept W wr ∧ OwnS wr W.heap.size k 3 50 (shl i c r n)) (fun iv _ => k - (intOf iv).toNat)
  case atStart => exact ⟨0, Nat.zero_le _, rfl, hK0, ho⟩
  case round =>
    obtain ⟨i, hi, rfl, kr, hO⟩ := hrel
    clear ho hK0
    by_cases hik : i < k
    · obtain ⟨c0, c1, c2⟩ := (HM.out wr kr).rd i hik
      have z0 : IntKind.i64.wrap ((i : Int) + 1) = (i : Int) + 1 := by rw [wrap_i64]; omega
      have KA2 := KA.out i
      have HK : Hid _ := KA2
      have HO : Hid (∀ u, Kept wr u → OwnS u W.heap.size k 3 50 (shl i c r n)) := fun u kk => hO.kept kk
      clear KA KA2 HM hO KT KG
      have hsz := kr.below.size
      go_wp2_with (first | (go_at_call 41; refine (HK.out _).mono ?_; rintro e w5 ⟨rfl, k5⟩; have k5' := ((Kept.refl wr).alloc _ _).trans k5; have hO5 := HO.out _ k5'; have s0 := hO5.some (i * 3) (by omega); have s1 := hO5.some (i * 3 + 1) (by omega); have s2 := hO5.some (i * 3 + 2) (by omega); obtain ⟨v0, s0⟩ := Option.isSome_iff_exists.1 s0; obtain ⟨v1, s1⟩ := Option.isSome_iff_exists.1 s1; obtain ⟨v2, s2⟩ := Option.isSome_iff_exists.1 s2; have f0 := hO5.free (i * 3); have f1 := hO5.free (i * 3 + 1); have f2 := hO5.free (i * 3 + 2)))
      go_roundw
      case rel => exact ⟨i + 1, by omega, by go_num, (((kr.trans k5').setCell (by simp) _).setCell (by simp) _).setCell (by simp) _, own_put3 hO5 hik⟩
      case measure => simp [intOf]; omega
    · obtain rfl : i = k := by omega
      have KG2 := KG.out wr W.heap.size (ls_own hO)
      have HR : Hid (∀ u, Kept wr u → M3 u w.heap.size (.int .i64 0) (.int .i64 0) (.int .i64 0) ∧ ∀ o, u.frozen? ⟨w.heap.size, o, none⟩ = false) := fun u ku => ⟨hR.bl (kr.trans ku).bl, fun o => ((kr.trans ku).frozen _).trans (hF o)⟩
      clear KG hO KA HM
      go_upto_region 8 with (first | (go_at_call 46; refine KG2.mono ?_; rintro x w5 ⟨rfl, k5⟩))
      have k6 := k5.alloc #[.int .i64 ea, .int .i64 eb, .int .i64 ed] 50
      go_wp2_with (first | (go_at_call 41; refine (KT.out _).mono ?_; rintro x w7 ⟨rfl, k7⟩; obtain ⟨hr1, f1⟩ := HR.out _ (k6.trans k7); obtain ⟨p0, p1, p2⟩ := M3.put w7 _ _ _ _ hr1 (.int .i64 eb) (.int .i64 ea) (.int .i64 ed); obtain ⟨r0, r1, r2⟩ := hr1))
      exact bodyPost_ret (v := .tuple #[.agg #[.int .i64 eb, .int .i64 ea, .int .i64 ed], .int .i64 e]) (by simp [results, Try.results49, go_sem, *]) rfl ⟨rfl, ((((hKW.trans kr).trans k6).trans k7).setCell (by simp) _).setCell (by simp) _ |>.setCell (by simp) _⟩
end Go.Proofs.Ytijmjnmimijfdab
